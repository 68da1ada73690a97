/- By an AI agent. -/
import Derived.Test.YtgckdomafbnmkaaGreatDoorStoPut2
import Derived.Laws.IdiomStrings
set_option maxRecDepth 100000
set_option maxHeartbeats 16000000
namespace Go.Proofs.YtgckdomafbnmkaaGreatDoor
open Go.RowKit Go.Extern.Stop Go.Stop Go.Extern Go.Sort Go.Shelf Go.Lib
section
variable {w : World} {b : Nat} {mo : Option Nat} {q : ByteArray → Nat} {s : St}
theorem zc0s {a:Nat->Addr} {n t:ByteArray} (h:SIn w b mo q s) (Y:getO s.obs n=none) (hl:s.obs.length<200) (Z:n.size<=maxLen) (hE:putE s n t=0) {D c:World} {d:Nat} {e:Ending} (r:SIn D b (some d) q s) (H:But (fun k=>k=b) w D) (f:mo=some d\/w.heap.size<=d) (hp:WrtP a D b (some d) s t e c) :
  ∃w4,(Instr.mapUpdate 126 (.map (some d)) (.string n) (.pointer (some ⟨c.heap.size,0,none⟩))).run Tryz.prog (c.alloc (.cells #[.string (t.extract 0 (wrtS s t.size).1),.int .i64 s.day] 151)).drew= .ok () w4 /\
   c.cell? ⟨b,0,none⟩=some (.map (some d))/\c.cell? ⟨b,2,none⟩=some (.int .i64 s.day)/\(c.alloc (.cells #[.string (t.extract 0 (wrtS s t.size).1),.int .i64 s.day] 151)).drew.cell? ⟨b,0,none⟩=some (.map (some d))/\(c.alloc (.cells #[.string (t.extract 0 (wrtS s t.size).1),.int .i64 s.day] 151)).drew.cell? ⟨b,2,none⟩=some (.int .i64 s.day)/\∀w5,BL w4 w5->SPost SAtP w (.pointer (some ⟨b,0,none⟩)) (fpS b mo q s.obs) (putS s n t) w5:=by
 obtain⟨_,l,p⟩:=hp;obtain⟨g1,V,W⟩:=zl7 s t.size;have m:=zh3.1 Y;obtain⟨B,X,u⟩:∃B,some d=some B/\PtrMap D B q s.obs:=by
  rcases r.map with⟨e,_⟩ | h
  ·cases e
  ·exact h
 cases X
 have v:d≠b:=zb8i r.block u;have y:PtrMap c d q s.obs:=u.keep (p.block d u.lt v);have j:BL c (c.alloc (.cells #[.string (t.extract 0 (wrtS s t.size).1),.int .i64 s.day] 151)).drew:=(alB _ _).drew;have I:PtrMap (c.alloc (.cells #[.string (t.extract 0 (wrtS s t.size).1),.int .i64 s.day] 151)).drew d q s.obs:=y.keep (j.block d y.lt);obtain⟨w4,L,N,E⟩:=I.store h.rise (by unfold maxLen;omega) Z m (t.extract 0 (wrtS s t.size).1) s.day c.heap.size;have z:=But.of_turned E;refine⟨w4,L,l.cells.1,l.cells.2.2.1,za0 j l.cells.1,za0 j l.cells.2.2.1,fun w5 hb5=>?_⟩;have J:=l.lt;have O:=y.lt;have A:∀k,k<c.heap.size->k≠d->w4.heap[k]? =c.heap[k]? :=fun k g m=>(z.block k (Nat.lt_of_lt_of_le g j.size) m).trans (j.block k g);have M:SIn w4 b (some d) (setQ q n c.heap.size) { (wrtS s t.size).2 with obs:=insO s.obs (n,t.extract 0 (wrtS s t.size).1,s.day) } :=by
  refine r.added m ?_ (zc0r h.cut) N ?_ fun o C=>?_
  ·rw[V,W];exact(A b J (fun e=>v e.symm)).trans l
  ·exact(z.block c.heap.size (by simp[World.drew]) (fun e=>by omega)).trans (heap_alloc_new c _)
  ·have F:=r.objs.lt C;have P:=p.block _ F (zb8j r.block r.objs C);exact(A _ (Nat.lt_of_lt_of_le F p.size) (zb8k u r.objs C)).trans P
 have R:putS s n t= { (wrtS s t.size).2 with obs:=insO s.obs (n,t.extract 0 (wrtS s t.size).1,s.day) } :=by
  unfold putS;rw[hE,if_neg (by decide),zm9]
 rw[R];have aa:w.heap.size<=c.heap.size:=Nat.le_trans H.size p.size;have K:But (fpS b mo q s.obs) w w4:=by
  have S:But (fpS b mo q s.obs) w D:=H.mono fun k e=>Or.inl e;have T:But (fpS b mo q s.obs) w c:=S.trans p fun i e _=>Or.inl e;have U:But (fpS b mo q s.obs) w (c.alloc (.cells #[.string (t.extract 0 (wrtS s t.size).1),.int .i64 s.day] 151)).drew:=T.trans (Q:=fun _=>False) (But.of_below j) fun _ e=>e.elim;refine U.trans z fun i e hi=>?_;rcases f with f | f
  ·exact Or.inr (Or.inl (by rw[f,e]))
  ·omega
 refine za6z (M.below hb5) (K.trans (Q:=fun _=>False) (But.of_below hb5) fun _ e=>e.elim) fun k g=>?_;rcases g with g | g | ⟨o,C,g⟩
 ·exact Or.inl (Or.inl g)
 ·rcases f with f | f
  ·exact Or.inl (Or.inr (Or.inl (by rw[f];exact g)))
  ·cases g
   exact Or.inr f
 ·rcases zg0.1 C with rfl | G
  ·rw[za0a]at g;exact Or.inr (by omega)
  ·rw[za0b _ _ (m o G)]at g;exact Or.inl (Or.inr (Or.inr ⟨o,G,g⟩))
theorem zc0t {n t:ByteArray} (h:putE s n t=0):s.off=false/\getO s.obs n=none/\s.obs.length<200:=by
 unfold putE at h;split at h
 ·cases h
 ·split at h
  ·cases h
  ·split at h
   ·cases h
   ·rename_i b;split at h
    ·cases h
    ·rename_i c;split at h
     ·cases h
     ·rename_i d;refine⟨by simpa using b,by simpa using c,?_⟩;omega
theorem EnvO.but {w w':World} {a:Nat->Addr} {c:Option Nat} (h:EnvO w a) (d:But (fun k=>k=b) w w') (f:w.cell? ⟨b,0,none⟩=some (.map c)):EnvO w' a:=by
 have g:∀ {g:Nat} {t:TypeId} {x:Value},w.cell? ⟨g,0,none⟩=some (.iface t x)->w'.cell? ⟨g,0,none⟩=some (.iface t x):=fun {g t x} h=>d.keep (fun e=>by subst e;rw[f]at h;cases h) h;exact {
  bound:=g h.bound
  name:=g h.name
  miss:=g h.miss
  exist:=g h.exist
  full:=g h.full
  off:=g h.off }
theorem SIn.made {w:World} (h:SIn w b none q s):SIn ((w.alloc (.map #[] 0)).setCell ⟨b,0,none⟩ (.map (some w.heap.size))) b (some w.heap.size) q s/\But (fun k=>k=b) w ((w.alloc (.map #[] 0)).setCell ⟨b,0,none⟩ (.map (some w.heap.size))):=by
 have g:=h.block.lt;have c:But (fun k=>k=b) w (w.alloc (.map #[] 0)):=But.of_below (alB _ _);have d:SC (w.alloc (.map #[] 0)) b none s.head s.day s.off (waitsB s) (leftI s):=(Below.heap_alloc _ _ b g).trans h.block;have f:s.obs= []:=by
  rcases h.map with⟨_,e⟩|⟨i,e,_⟩
  ·exact e
  ·cases e
 refine⟨⟨d.objs _,Or.inr ⟨_,rfl,?_⟩,by rw[f];exact fun _ h=>(nomatch h),h.rise,h.cut⟩,c.setCell (Or.inl rfl) _⟩;rw[f];refine(PtrMap.made w q).keep ?_;exact Below.heap_setCell _ ⟨b,0,none⟩ _ _ (by show w.heap.size≠b;omega)
theorem zc0u (w:World):(binOp .eql 126 (.map none) (.map none)).run Tryz.prog w= .ok (.bool true) w:=by
 kernel_rfl
theorem zc0v (w:World) (k:Nat):(binOp .eql 126 (.map (some k)) (.map none)).run Tryz.prog w= .ok (.bool false) w:=by
 kernel_rfl
theorem zc0w (h:SIn w b mo q s) (F:Keeps s) {a:Nat->Addr} (G:EnvO w a) (n t:ByteArray) (S:n.size<=1000) (T:t.size<=100000) :
  Calls Tryz.prog 36 #[.pointer (some ⟨b,0,none⟩),.string n,.string t] w fun e w'=>e= .returned (errV a (putC s n t))/\SPost SAtP w (.pointer (some ⟨b,0,none⟩)) (fpS b mo q s.obs) (putS s n t) w':=by
 have i:=zc0q h F G n t S T;by_cases l:putE s n t=0
 ·obtain⟨C,M,N⟩:=zc0t l;have y:putC s n t=if (wrtS s t.size).2.off=true then 12 else 0:=by unfold putC;rw[l];rfl
  rw[y];rw[l]at i;have J:Hid (EnvO w a):=G;have K:Hid (SIn w b mo q s):=h;have z:Hid (∀(w2 c:World) (mb:Nat) (e:Ending),SIn w2 b (some mb) q s->But (fun k=>k=b) w w2->(mo=some mb\/w.heap.size<=mb)->WrtP a w2 b (some mb) s t e c->∃p,(Instr.mapUpdate 126 (.map (some mb)) (.string n) (.pointer (some ⟨c.heap.size,0,none⟩))).run Tryz.prog (c.alloc (.cells #[.string (t.extract 0 (wrtS s t.size).1),.int .i64 s.day] 151)).drew= .ok () p /\
   c.cell? ⟨b,0,none⟩=some (.map (some mb))/\c.cell? ⟨b,2,none⟩=some (.int .i64 s.day)/\(c.alloc (.cells #[.string (t.extract 0 (wrtS s t.size).1),.int .i64 s.day] 151)).drew.cell? ⟨b,0,none⟩=some (.map (some mb))/\(c.alloc (.cells #[.string (t.extract 0 (wrtS s t.size).1),.int .i64 s.day] 151)).drew.cell? ⟨b,2,none⟩=some (.int .i64 s.day)/\∀w5,BL p w5->SPost SAtP w (.pointer (some ⟨b,0,none⟩)) (fpS b mo q s.obs) (putS s n t) w5):=fun w2 c mb e g d hmb v=>zc0s h M N (by unfold maxLen;omega) l g d hmb v
  have H:Hid (∀(w2:World) (mb:Nat),SIn w2 b (some mb) q s->EnvO w2 a->Calls Tryz.prog 84 #[.pointer (some ⟨b,3,none⟩),.string t] w2 (WrtP a w2 b (some mb) s t)):=fun w2 mb g he2=>zc0m g.block he2 t (by unfold maxLen;omega) C g.cut;have u:Hid (∀(w2:World) (mb:Nat),SIn w2 b (some mb) q s->EnvO w2 a->But (fun k=>k=b) w w2->(mo=some mb\/w.heap.size<=mb)->Calls Tryz.prog 84 #[.pointer (some ⟨b,3,none⟩),.string t] w2 fun e c=>e= .returned (.tuple #[.string (t.extract 0 (wrtS s t.size).1),errV a (if (wrtS s t.size).2.off=true then 12 else 0)])/\∃p,(Instr.mapUpdate 126 (.map (some mb)) (.string n) (.pointer (some ⟨c.heap.size,0,none⟩))).run Tryz.prog (c.alloc (.cells #[.string (t.extract 0 (wrtS s t.size).1),.int .i64 s.day] 151)).drew= .ok () p /\
   c.cell? ⟨b,0,none⟩=some (.map (some mb))/\c.cell? ⟨b,2,none⟩=some (.int .i64 s.day)/\(c.alloc (.cells #[.string (t.extract 0 (wrtS s t.size).1),.int .i64 s.day] 151)).drew.cell? ⟨b,0,none⟩=some (.map (some mb))/\(c.alloc (.cells #[.string (t.extract 0 (wrtS s t.size).1),.int .i64 s.day] 151)).drew.cell? ⟨b,2,none⟩=some (.int .i64 s.day)/\∀w5,BL p w5->SPost SAtP w (.pointer (some ⟨b,0,none⟩)) (fpS b mo q s.obs) (putS s n t) w5):=fun w2 mb g he2 d hmb=>(H.out w2 mb g he2).mono fun e c v=>⟨v.1,z.out w2 c mb e g d hmb v⟩
  generalize putS s n t=SP at u ⊢;generalize errV a (if (wrtS s t.size).2.off=true then 12 else 0)=ev at u ⊢;generalize t.extract 0 (wrtS s t.size).1=tx at u;generalize s.day=dd at u;have X:=@run_makeMap Tryz.prog;have Y:=zc0u;have Z:=zc0v;have j:Calls Tryz.prog 83 #[.pointer (some ⟨b,0,none⟩),.string n,.string t] w fun e w'=>e= .returned .nilIface/\BL w w':=i;clear i F h G l y C M N z H S T
  cases mo with
  | none =>
   go_enter Tryz.func36,Tryz.ntmps36
   go_wp2_with (first | (go_at_call 83;refine j.mono ?_;rintro e P ⟨rfl,f⟩;have m:=K.out.below f;obtain⟨O,_,_,_,_,_,D⟩:=m.block.cells;have U:=D 0;have A:=J.out.below f;obtain⟨g,d⟩:=m.made;have B:=u.out _ _ g (A.but d O) ((But.of_below f).trans d fun _ e _=>e) (Or.inr f.size);have o:=(m.below ((Below.refl _ _).alloc (Nat.le_refl _) (.map #[] 0))).block.cells;have aa:=o.1;have ab:=o.2.2.2.2.2.2 0;clear o m D A g d) | (go_at_call 84;refine B.mono ?_;rintro e c ⟨rfl,p,I,V,W,Q,R,r⟩))
   go_region
   all_goals go_wp2
   all_goals go_ret
   all_goals exact⟨rfl,r _ (Below.refl _ _)⟩
  | some mb =>
   go_enter Tryz.func36,Tryz.ntmps36
   go_wp2_with (first | (go_at_call 83;refine j.mono ?_;rintro e P ⟨rfl,f⟩;have m:=K.out.below f;obtain⟨O,_,_,_,_,_,D⟩:=m.block.cells;have U:=D 0;have A:=J.out.below f;have B:=u.out _ _ m A (But.of_below f) (Or.inl rfl);clear m D A) | (go_at_call 84;refine B.mono ?_;rintro e c ⟨rfl,p,I,V,W,Q,R,r⟩))
   go_region
   all_goals go_wp2
   all_goals go_ret
   all_goals exact⟨rfl,r _ (Below.refl _ _)⟩
 ·obtain⟨k,E⟩:∃k,putE s n t=k+1:=⟨putE s n t-1,by omega⟩;have y:putC s n t=k+1:=by unfold putC;rw[if_pos l,E]
  have L:putS s n t=s:=by unfold putS;rw[if_pos l]
  rw[y,L];rw[E]at i;have j:Calls Tryz.prog 83 #[.pointer (some ⟨b,0,none⟩),.string n,.string t] w fun e w'=>e= .returned (.iface 325 (.pointer (some (a k))))/\SPost SAtP w (.pointer (some ⟨b,0,none⟩)) (fpS b mo q s.obs) s w':=i.mono fun e w' ⟨he',f⟩=>⟨he',za6z (h.below f) (But.of_below f) fun k F=>Or.inl F⟩;clear i F h G l y L E
  go_enter Tryz.func36,Tryz.ntmps36
  go_wp2_with (go_at_call 83;refine j.mono ?_;rintro e P ⟨rfl,v⟩)
  go_ret;exact⟨rfl,v⟩
end
end Go.Proofs.YtgckdomafbnmkaaGreatDoor
namespace Go.Proofs.YtgckdomafbnmkaaGreatDoor
open Go.RowKit Go.Maps Go.Sort Go.Shelf
attribute [local go_sem] Oper.semAt_some
def noDefer (ops:Array Oper):Bool:=ops.toList.all fun o=>match o.op with
 | .defer _=>false
 | _=>true
theorem zc0x {b:Array Oper} (h:noDefer b=true) {i:Nat} {o:Oper} (d:b[i]? =some o):∀c,o.op≠ .defer c:=by
 intro c e;have f:o∈b.toList:=by
  rw[<-Array.getElem?_toList]at d;exact List.mem_of_getElem? d
 have:=List.all_eq_true.1 h o f;rw[e]at this;cases this
theorem zc0y {n:Nat} {P:Program} {o:Oper} {a:Act} {w:World} {K f:Act->World->Prop} {Q:Exit->Act->World->Prop} (l:Nat) (g:∀c,o.op≠ .defer c) (i:∀a w,K a w->f a w) (h:Oper.wpIn Fence.wide n P o a w K Q):Oper.wpIn (Fence.wide.inRound l) n P o a w f Q:=by
 have b:=Oper.wpIn_mono i h;unfold Oper.wpIn at b ⊢;refine⟨fun _ _=>trivial,?_⟩;have d:=b.2;rw[Oper.semAt_plain _ _ _ g]at d ⊢;exact d
theorem zs1 {n:Nat} {P:Program} {j:Region.Mode} {c:Array Oper} {Q:Exit->Act->World->Prop} (l:Nat) (f:noDefer c=true):∀(fuel:Nat) (listed:Array Bool) (a:Act) (w:World),wpAnyIn Fence.wide n P j c Q fuel listed a w->wpAnyIn (Fence.wide.inRound l) n P j c Q fuel listed a w
 | 0,_,_,_,h=>h
 | fuel+1,listed,a,w,h=>by
  refine⟨h.1,fun i hi=>?_⟩;have b:=h.2 i hi;unfold wpOpIn at b ⊢
  cases g:c[i]? with
  | none =>
   rw[g]at b;exact zs1 l f fuel _ a w b
  | some o =>
   rw[g]at b;dsimp only at b ⊢;split
   ·rename_i d;rw[if_pos d]at b;exact zc0y l (zc0x f g) (fun a w h=>zs1 l f fuel _ a w h) b
   ·rename_i d;rw[if_neg d]at b;exact⟨fun _ _=>trivial,zs1 l f fuel _ _ _ b.2⟩
end Go.Proofs.YtgckdomafbnmkaaGreatDoor
namespace Go.Proofs.YtgckdomafbnmkaaGreatDoor
open Go.RowKit Go.Extern.Stop Go.Stop Go.Extern Go.Maps Go.Sort Go.Shelf Go.Lib
attribute [local go_sem] Oper.semAt_some
theorem zc0z (r:Rw) (j k d:Nat) (l:List (Int×Int)) (D:DataW Unit) (q:Int) (W:World) (m:W.cell? ⟨j,1,none⟩=some (.map (some d))) (n:W.cell? ⟨k,0,none⟩=some (.int .i64 q)) (f:Las W d l D) (o: -9223372036854775808<=r.2.1) (p:r.2.1<=9223372036854775807) :
  Calls Tryz.prog 110 #[.agg #[.string r.1,.int .i64 r.2.1,.int .i64 r.2.2],.pointer (some ⟨j,0,none⟩),.pointer (some ⟨k,0,none⟩)] W fun e w'=>e= .returned (.bool (deadB l (r,q)))/\BL W w':=by
 have b:BL W (W.alloc (.cells #[.string r.1,.int .i64 r.2.1,.int .i64 r.2.2] 112)):=alB _ _;have s:=za0 b m;have t:=za0 b n;have c:=(f.keep (b.block d f.map.lt)).look o p;unfold deadB;dsimp only;generalize lastC l r.2.1=v at c ⊢;obtain⟨g,rk,i⟩:=r;dsimp only at *;clear m n f o p;have u:(W.alloc (.cells #[.string g,.int .i64 rk,.int .i64 i] 112)).cell? ⟨W.heap.size,1,none⟩=some (.int .i64 rk):=by simp
 go_enter Tryz.func110,Tryz.ntmps110
 go_upto_region 1 with fail
 generalize W.alloc (.cells #[.string g,.int .i64 rk,.int .i64 i] 112)=y at *;go_wp2;go_ret;exact⟨rfl,b⟩
def AlvI (w1:World) (c:Ct) (pre:List Int) (W:World):Prop :=
 (∃v,Boxed W w1.heap.size 44 v/\W.ownsRow w1.heap.size 112 3 v (aliveQ c pre).length (flatR (aliveQ c pre))/\True)/\BL w1 W
theorem za0l {w1:World} {c:Ct} {B:Nat} (b:w1.heap.size<=B):OwnFrom B (AlvI w1 c) :=
 OwnFrom.and (Own.from (holdsRow_own w1.heap.size w1.heap.size 44 112 3 (fun pre:List Int=>(aliveQ c pre).length) (fun pre=>flatR (aliveQ c pre)) (fun _ _=>True)) _) (ownFrom_below (Nat.le_refl _) b)
theorem zc1a (c:Ct) (b:List Int) (x:Int):aliveQ c (b++ [x])=aliveQ c b++(rowsQ c.1 x).filter fun r=> !deadB c.2 (r,x):=by
 unfold aliveQ;rw[List.flatMap_append];simp
theorem za7r (c:Ct):∀pre:List Int,(aliveQ c pre).length<=pre.length*c.1.length
 | []=>by simp[aliveQ]
 | x :: r=>by
  have h:=za7r c r;have b:((rowsQ c.1 x).filter fun y=> !deadB c.2 (y,x)).length<=c.1.length:=Nat.le_trans (List.length_filter_le _ _) (by unfold rowsQ;rw[List.length_map];exact List.length_filter_le _ _);have e:aliveQ c (x :: r)=((rowsQ c.1 x).filter fun y=> !deadB c.2 (y,x))++aliveQ c r:=by unfold aliveQ;rw[List.flatMap_cons]
  rw[e,List.length_append,List.length_cons,Nat.add_mul];omega
theorem zc1b {w1 W L l:World} {c:Ct} {i:List Int} {v:Value} (M:Boxed W w1.heap.size 44 v) (D:W.ownsRow w1.heap.size 112 3 v (aliveQ c i).length (flatR (aliveQ c i))) (E:BL w1 W) (x:Int) (S:BL W L) (T:BL L l) {q:Option Addr} {n F:Nat} (N:n=((rowsQ c.1 x).filter fun r=> !deadB c.2 (r,x)).length) (U:Src l q n F (flatR ((rowsQ c.1 x).filter fun r=> !deadB c.2 (r,x)))) (Y:(aliveQ c i).length+n<=10000000) :
  ∃v' w4,(∃a b c,v'= .slice a b c)/\(Builtin.append_ #[44,44] 44 #[v,.slice q n F]).run Tryz.prog l= .ok v' w4 /\
   w4.cell? ⟨w1.heap.size,0,none⟩=some v/\w4.frozen? ⟨w1.heap.size,0,none⟩=false/\KeepsOthers W (w4.setCell ⟨w1.heap.size,0,none⟩ v')/\AlvI w1 c (i++ [x]) (w4.setCell ⟨w1.heap.size,0,none⟩ v')/\Below w1.heap.size W (w4.setCell ⟨w1.heap.size,0,none⟩ v'):=by
 obtain⟨Q,H,I,J,B⟩:=Tryz.rowInfo;have g:BL W l:=trB S T;have t:Boxed l w1.heap.size 44 v:=(g.block _ M.lt).trans M;have p:=za2 D g;have u:w1.heap.size<=l.heap.size:=Nat.le_trans E.size g.size;obtain⟨v',w4,C,m,f,V⟩:=zf1 (P:=Tryz.prog) l w1.heap.size 44 44 112 Q (.agg #[.string ⟨#[]⟩,.int .i64 0,.int .i64 0]) 3 32 Tryz.underlying44 H I J B rfl (by decide) v (aliveQ c i).length (flatR (aliveQ c i)) p q n F _ (by rw[zb9,<-N]) U (ze3 _) (by unfold maxLen;omega) (by omega) u;have j:Boxed w4 w1.heap.size 44 v:=t.kept f (t.not_row (by decide) p);have y:Below w1.heap.size W w4:=(g.mono E.size).grown f u fun k hk=>(zd5 p hk).1;have s:KeepsOthers W (w4.setCell ⟨w1.heap.size,0,none⟩ v'):=by
  refine⟨?_,fun k o hk ho=>?_⟩
  ·have:=(grownBy_setCell' w4 w1.heap.size v').size;exact Nat.le_trans g.size (Nat.le_trans f.size this)
  ·have z:=(Array.getElem?_eq_some_iff.1 hk).1;have G:l.heap[k]? =some o:=(g.block k z).trans hk;have A:w4.heap[k]? =some o:=(f.block k (Nat.lt_of_lt_of_le z g.size) (fun e=>by
    obtain⟨_,X,K⟩:=zm6 p e.symm;rw[G]at K;cases K
    cases ho)).trans G
   refine(Below.heap_setCell w4 _ _ k (fun e=>?_)).trans A;have O:k=w1.heap.size:=e;subst O;rw[show w4.heap[w1.heap.size]? =_ from j]at A;cases A
   cases ho
 refine⟨v',w4,?_,C,j.cell,j.frozen,s,⟨⟨v',j.set v',?_,trivial⟩,?_⟩,?_⟩
 ·obtain⟨d,R⟩:=zr5 m;exact zh7 R
 ·rw[zc1a,List.length_append,zc3,<-N];exact m.kept (grownBy_setCell' w4 w1.heap.size v') (.inr (j.not_row (by decide) m).symm)
 ·exact E.trans (y.setCell (Nat.le_refl _) _)
 ·exact y.setCell (Nat.le_refl _) _
theorem za0m {n:Nat} {P:Program} {b:Array Oper} {o:Oper} {a:Act} {w w':World} {K:Act->World->Prop} {Q:Exit->Act->World->Prop} {E:Prop}
  (k:o.guard=none) (s x:Operand) (t:TypeId) (d:o.op=Op.call { callee:=Callee.builtin Builtin.append,args:=#[s,x],argTypes:=#[t,t] }) (v u i:Value) (l:a.eval s=v) (m:a.eval x=u)
  (f:(Builtin.append_ #[t,t] o.type #[v,u]).run P w= .ok i w') (p:K (a.put o.dst i) w'):if Region.wanted o (yielded b a.tmps)=true then Oper.wpIn Fence.wide n P o a w K Q else E:=by
 have j:Region.wanted o (yielded b a.tmps)=true:=by simp[Region.wanted,k]
 rw[if_pos j];unfold Oper.wpIn;refine⟨fun _ _=>trivial,?_⟩;rw[Oper.semAt_plain Fence.wide _ _ (by rw[d];intro c g;cases g)];simp[execOp,d,resolve,invoke,builtin,l,m,f,Result.andThen];exact p
theorem zc1c (w:World) (base m t:Nat) (c:Ct) (qs:List Int) (h:CtAt w base m t c qs) (H:∀p∈c.1,-9223372036854775808<=p.1.2.1/\p.1.2.1<=9223372036854775807) (hl:c.1.length<=10000) (bv:qs.length<=100) :
  Calls Tryz.prog 52 #[ctV m t] w fun e w'=> ∃v' ps,e= .returned v'/\ps.Nodup/\(∀z∈qs,z∈ps)/\RowsAt w' v' (aliveQ c ps)/\BL w w':=by
 obtain⟨⟨D,P,hG⟩,⟨D2,hL⟩,br,bt⟩:=h;have al:BL w (w.alloc (.cells #[.map (some m),.map (some t)] 97)):=alB _ _;have a1:(w.alloc (.cells #[.map (some m),.map (some t)] 97)).heap[w.heap.size]? =some (.cells #[.map (some m),.map (some t)] 97 (0,0)):=heap_alloc_new _ _;have Z:(w.alloc (.cells #[.map (some m),.map (some t)] 97)).heap.size=w.heap.size+1:=by simp
 have bq:=hG.map.lt;have HG:Hid (∀X,BL w X->Gri X base m c.1 qs D P/\Las X t c.2 D2):=fun X hX=>⟨hG.below hX,hL.keep (hX.block t hL.map.lt)⟩;have HD:Hid (∀z,hdQ (P z)=some (D.atKey (.int .i64 z) .nil, [])):=hG.hd;have bd:Hid (∀z,Maps.has D (.int .i64 z)=true↔z∈qs):=hG.has;have be:Hid (∀p∈c.1,-9223372036854775808<=p.1.2.1/\p.1.2.1<=9223372036854775807):=H;have am:Hid (BL w (w.alloc (.cells #[.map (some m),.map (some t)] 97))/\(w.alloc (.cells #[.map (some m),.map (some t)] 97)).heap[w.heap.size]? =some (.cells #[.map (some m),.map (some t)] 97 (0,0))):=⟨al,a1⟩;clear hG hL H al a1;refine(callsIn_wide (n:=7)).1 ?_;refine callsIn_of_wp_marks Tryz.func52 rfl trivial ?_ rfl;simp only[Tryz.ntmps52,List.size_toArray,List.length_cons,List.length_nil,Nat.reduceAdd,Nat.reduceSub,Array.replicate_succ,Array.replicate_zero,List.push_toArray,List.append_toArray,List.nil_append,List.cons_append]
 gi_wp2_with (refine⟨trivial,?_⟩;gi_at_call 109;refine(zb9z _ _ _).mono ?_;rintro e w' ⟨rfl,rfl⟩)
 have aa:=Boxed.new ((w.alloc (.cells #[.map (some m),.map (some t)] 97)).alloc (.cells #[.slice none 0 0] 44)) 94 (.map (some m));have ab:Boxed (((w.alloc (.cells #[.map (some m),.map (some t)] 97)).alloc (.cells #[.slice none 0 0] 44)).alloc (.cells #[.map (some m)] 94)) (w.heap.size+1) 44 (.slice none 0 0):=by
  have:=(Boxed.new (w.alloc (.cells #[.map (some m),.map (some t)] 97)) 44 (.slice none 0 0)).alloc (.cells #[.map (some m)] 94);simpa using this
 have ac:Below (w.heap.size+1) (w.alloc (.cells #[.map (some m),.map (some t)] 97)) (((w.alloc (.cells #[.map (some m),.map (some t)] 97)).alloc (.cells #[.slice none 0 0] 44)).alloc (.cells #[.map (some m)] 94)):=((Below.refl _ _).alloc (by simp) _).alloc (by simp) _;have bi:(((w.alloc (.cells #[.map (some m),.map (some t)] 97)).alloc (.cells #[.slice none 0 0] 44)).alloc (.cells #[.map (some m)] 94)).heap.size=w.heap.size+3:=by simp
 simp only[World.size_alloc]at aa;generalize ((w.alloc (.cells #[.map (some m),.map (some t)] 97)).alloc (.cells #[.slice none 0 0] 44)).alloc (.cells #[.map (some m)] 94)=W0 at aa ab ac bi ⊢;generalize w.alloc (.cells #[.map (some m),.map (some t)] 97)=w1 at am Z ac ⊢;have ai:Hid (∀X,BL w1 X->BL w X):=fun X hX=>am.out.1.trans (hX.mono (by omega));rw[<-Z]at ac ab;have an:=(HG.out W0 (ai.out W0 ac)).1;refine wpIn_rangeFunc_ownH (F:=Fence.wide) rfl (by decide) (gf:=150) (lb:=#[.pointer (some ⟨w.heap.size+1+1,0,none⟩)]) rfl trivial (enters_of Tryz.func150 (by kernel_rfl) rfl)
  (zb9y _ (by decide) w1.heap.size (w.heap.size+1+1) m (by omega) qs.length D P HD.out _ aa.cell an.map) (fun h k=>h.trans k) (fun W l o o' hl ho _ hw=>KpM.put W l o o' (by omega) ho hw) (Below.refl _ _) (fun _=>rfl)
  (AlvI w1 c) (fun _ _ _=>False) (za0l (by omega)) (fun _ _ _ _ _ hs _ _=>hs.elim) ?start (fun x a' W=> ∃I,Boxed W I 3 (.int .i64 x)/\a'= { tmps:=#[ctV m t,.pointer (some ⟨w.heap.size,0,none⟩),.slice none 0 0,.pointer (some ⟨w.heap.size+1,0,none⟩),.pointer (some ⟨I,0,none⟩),P x,undef,.pointer (some ⟨w.heap.size,0,none⟩),.map (some m),.func (.func 150) #[] #[.pointer (some ⟨w.heap.size+1+1,0,none⟩)],.int .i64 x,P x,undef,undef,undef,undef,undef,undef,undef,undef],defers:= [] }) ?ax ?assign ?body ?done ?stop
 case assign =>
  intro l af x W K hI f;have bj:=Boxed.new W 3 (.int .i64 x);have a2:=(za0l (c:=c) (w1:=w1) (B:=W0.heap.size) (by omega)).alloc (.cells #[.int .i64 x] 3) hI;have a3:KeepsFrom W0.heap.size W (W.alloc (.cells #[.int .i64 x] 3)):=(KeepsOthers.alloc W _).from _;have a4:KpM w1.heap.size W (W.alloc (.cells #[.int .i64 x] 3)):=⟨by simp,fun k H=>Below.heap_alloc _ _ _ (Nat.lt_of_lt_of_le H hI.2.size),fun k p s e cc H=>(Below.heap_alloc _ _ _ (Array.getElem?_eq_some_iff.1 H).1).trans H⟩;have HK:Hid (∀a',(∃I,Boxed (W.alloc (.cells #[.int .i64 x] 3)) I 3 (.int .i64 x)/\a'= { tmps:=#[ctV m t,.pointer (some ⟨w.heap.size,0,none⟩),.slice none 0 0,.pointer (some ⟨w.heap.size+1,0,none⟩),.pointer (some ⟨I,0,none⟩),P x,undef,.pointer (some ⟨w.heap.size,0,none⟩),.map (some m),.func (.func 150) #[] #[.pointer (some ⟨w.heap.size+1+1,0,none⟩)],.int .i64 x,P x,undef,undef,undef,undef,undef,undef,undef,undef],defers:= [] })->K a' (W.alloc (.cells #[.int .i64 x] 3))):=fun a' ha=>f a' _ a3 a4 a2 ha;clear f hI a2 a3 a4
  gi_wp2
  exact HK.out _ ⟨W.heap.size,bj,rfl⟩
 case ax =>
  rintro x a' u X Y bu ⟨I,hb,e⟩ hg hr;exact⟨I,hb.kept hg (fun e'=>by
   obtain⟨_,o,ho,hc⟩:=hr I e'.symm;rw[show X.heap[I]? =_ from hb]at ho;cases ho
   cases hc),e⟩
 case start=>exact ⟨⟨_,ab,by simp[aliveQ,flatR];exact World.ownsRow_nil _ _ _ _,trivial⟩,ac⟩
 case stop =>
  rintro D' cc af W _ _ hf _;exact hf.elim
 case body =>
  rintro l af x a' W _ _ ⟨⟨v,J,ah,-⟩,hB⟩ ⟨I,bc,rfl⟩ bg;have eg:∀args w,(callFunc 110 args).run Tryz.prog w= .ok (.enter 110 args) w:=enters_of Tryz.func110 (by kernel_rfl) rfl;have ao:BL W W.drew:=(Below.refl _ _).drew;have a5:BL w W.drew:=(ai.out W hB).trans (ao.mono (ai.out W hB).size);obtain⟨a9,ay⟩:=HG.out W.drew a5;have a6:RowsAt W.drew (P x) (rowsQ c.1 x):=(ze5 (a9.own x)).1;have a7:(rowsQ c.1 x).length<=10000:=by
   refine Nat.le_trans ?_ hl;unfold rowsQ;rw[List.length_map];exact List.length_filter_le _ _
  have ap:Hid (Calls Tryz.prog 104 #[P x] W.drew fun e w'=> ∃v',e= .returned v'/\w'.ownsRow W.drew.heap.size 112 3 v' (rowsQ c.1 x).length (flatR (rowsQ c.1 x))/\Below W.drew.heap.size W.drew w'):=za1w (P x) _ W.drew a6 (by omega);have aq:W.drew.heap[w.heap.size]? =some (.cells #[.map (some m),.map (some t)] 97 (0,0)):=(hB.block w.heap.size (by omega)).trans am.out.2;have kc:W.drew.cell? ⟨w.heap.size,1,none⟩=some (.map (some t)):=by rw[cell_of_row _ _ _ _ _ _ aq];rfl
  have ks:W.drew.cell? ⟨I,0,none⟩=some (.int .i64 x):=bc.cell;have ar:Hid (∀(j:World) (y:Value),j.ownsRow W.drew.heap.size 112 3 y (rowsQ c.1 x).length (flatR (rowsQ c.1 x))->Below W.drew.heap.size W.drew j->Calls Tryz.prog 111 #[y,.func (.func 110) #[] #[.pointer (some ⟨w.heap.size,0,none⟩),.pointer (some ⟨I,0,none⟩)]] j (CutP y ((rowsQ c.1 x).filter fun r=> !deadB c.2 (r,x)) j)):=fun j y q g=>by
   refine zc0b y (rowsQ c.1 x) W.drew.heap.size _ _ (fun r=>deadB c.2 (r,x)) j eg q (by omega) ?_;intro r X hr hX;have au:Below W.drew.heap.size W.drew X:=g.trans (hX.below g.size fun k H=>(zd5 q H.symm).1);have a8: -9223372036854775808<=r.2.1/\r.2.1<=9223372036854775807:=by
    unfold rowsQ at hr;obtain⟨p,hp,rfl⟩:=List.mem_map.1 hr;exact be.out p (List.mem_filter.1 hp).1
   exact zc0z r w.heap.size I t c.2 D2 x X (za0 au kc) (za0 au ks) (ay.keep (au.block t ay.map.lt)) a8.1 a8.2
  have bk:=za7r c af;have bf:af.length*c.1.length<=100*10000:=Nat.mul_le_mul (by omega) hl;have aj:Hid (∀(j C:World) (y:Value),j.ownsRow W.drew.heap.size 112 3 y (rowsQ c.1 x).length (flatR (rowsQ c.1 x))->Below W.drew.heap.size W.drew j->But (fun k=>some k=y.ownBlock) j C->C.cell? ⟨w1.heap.size,0,none⟩=some v):=fun j C y q g E=>by
   have h3:Below W.drew.heap.size W.drew C:=g.trans (E.below g.size fun k H=>(zd5 q H.symm).1);exact za0 h3 (show W.drew.cell? _=_ from J.cell)
  have ak:Hid (∀(j C:World) (y:Value) (U:Option Addr) (N V:Nat),j.ownsRow W.drew.heap.size 112 3 y (rowsQ c.1 x).length (flatR (rowsQ c.1 x))->Below W.drew.heap.size W.drew j->But (fun k=>some k=y.ownBlock) j C->N=((rowsQ c.1 x).filter fun r=> !deadB c.2 (r,x)).length->Src C U N V (flatR ((rowsQ c.1 x).filter fun r=> !deadB c.2 (r,x))) ->
    ∃Q R S M,(Builtin.append_ #[44,44] 44 #[v,.slice U N V]).run Tryz.prog C= .ok (.slice Q R S) M/\M.cell? ⟨w1.heap.size,0,none⟩=some v/\M.frozen? ⟨w1.heap.size,0,none⟩=false /\
    (KeepsFrom W0.heap.size W (M.setCell ⟨w1.heap.size,0,none⟩ (.slice Q R S))/\KpM w1.heap.size W (M.setCell ⟨w1.heap.size,0,none⟩ (.slice Q R S))/\AlvI w1 c (af++ [x]) (M.setCell ⟨w1.heap.size,0,none⟩ (.slice Q R S)))):=fun j C y U N V q g E G O=>by
   have h3:Below W.drew.heap.size W.drew C:=g.trans (E.below g.size fun k H=>(zd5 q H.symm).1);have bs:N<=10000:=by rw[G];exact Nat.le_trans (List.length_filter_le _ _) a7
   obtain⟨v',M,⟨Q,R,S,rfl⟩,r4,k4,f4,az,bn,bo⟩:=zc1b J ah hB x ao h3 G O (by omega);refine⟨Q,R,S,M,r4,k4,f4,az.from _,⟨az.size,fun k H=>bo.block k H,fun k p s e cc hk'=>az.same k _ hk' rfl⟩,bn⟩
  have k0:W.drew.cell? ⟨w1.heap.size,0,none⟩=some v:=J.cell;have av:Hid (∀(j:World),Below W.drew.heap.size W.drew j->j.cell? ⟨w1.heap.size,0,none⟩=some v):=fun j g=>za0 g k0;obtain⟨yq,yn,yc,rfl⟩:∃a b c,v= .slice a b c:=by
   obtain⟨d,hd⟩:=zr5 ah;exact zh7 hd
  obtain⟨xq,xn,xc,ba⟩:=zh7 (HD.out x);rw[ba]at ap ⊢;clear aa ab an bk bf a6 a7 a9 ay aq kc ks J ah hB bc bg ao a5 eg ba;rw[Z]at k0 ak aj av;have ag:Hid (∀X,KpM (w.heap.size+1) W X->KpM w1.heap.size W X):=fun X h=>by rw[Z];exact h
  gi_wp2
  refine wpIn_region_any (by kernel_rfl) ?_;refine zs1 l (by kernel_rfl) _ _ _ _ ?_;change wpAnyIn _ _ _ _ _ _ _ _ _ (World.drew _);refine wpAnyIn_take (i:=1) (v:=?_) rfl rfl (by kernel_rfl) (by kernel_rfl) (by kernel_rfl) (fun _ _ _ h=>h) ⟨Or.inl ⟨by rfl,?_⟩,fun _=>rfl⟩ ?_
  rotate_left
  focus ((intro w;go_simp)<;>with_reducible rfl)
  refine wpAnyIn_take (i:=3) (v:=?_) rfl rfl (by kernel_rfl) (by kernel_rfl) (by kernel_rfl) (fun _ _ _ h=>h) ⟨Or.inl ⟨by rfl,?_⟩,fun _=>rfl⟩ ?_
  rotate_left
  focus ((intro w;go_simp)<;>with_reducible rfl)
  refine wpAnyIn_ready (rs:= [0,2]) (by kernel_rfl) (by simp) ?_;refine AllReadyIn.cons rfl (fun K f=>?_) ?_
  ·go_simp
   refine f _ _ ?_;clear f K;refine wpAnyIn_ready (rs:= [2]) (by kernel_rfl) (by simp) ?_;refine AllReadyIn.cons rfl (fun K f=>?_) ?_
   ·go_simp
    gi_wp2_with (refine⟨trivial,?_⟩;gi_at_call 104;refine((callsIn_wide).2 ap.out).mono ?_;rintro e j ⟨y,rfl,q,g⟩)
    have k2:=av.out j g;refine wpAnyIn_ready (rs:= [4]) (by kernel_rfl) (by simp) ?_;refine AllReadyIn.cons rfl (fun K f=>?_) ?_
    ·go_simp
     have ad:=ar.out j y q g
     gi_wp2_with (refine⟨trivial,?_⟩;gi_at_call 111;refine((callsIn_wide).2 ad).mono ?_;rintro e C ⟨U,N,V,rfl,G,O,E⟩;have ae:Hid _:=G;clear G)
     obtain⟨Q,R,S,M,r4,k4,f4,A⟩:=ak.out j C y U N V q g E ae.out O;have k3:=aj.out j C y q g E;refine wpAnyIn_ready (rs:= [5]) (by kernel_rfl) (by simp) ?_;refine AllReadyIn.cons rfl (fun K f=>?_) ?_
     ·refine za0m (by rfl) _ _ _ (by rfl) _ _ _ (by rfl) (by rfl) r4 ?_;refine f _ _ ?_;clear f K;refine wpAnyIn_ready (rs:= [6]) (by kernel_rfl) (by simp) ?_;refine AllReadyIn.cons rfl (fun K f=>?_) ?_
      ·go_simp
       refine f _ _ ?_;clear f K;refine wpAnyIn_done (by kernel_rfl) ?_ _;have L:=And.intro A.1 (And.intro (ag.out _ A.2.1) A.2.2);exact L
      exact AllReadyIn.nil
     exact AllReadyIn.nil
    exact AllReadyIn.nil
   exact AllReadyIn.nil
  refine AllReadyIn.cons rfl (fun K f=>?_) ?_
  ·go_simp
   gi_wp2_with (refine⟨trivial,?_⟩;gi_at_call 104;refine((callsIn_wide).2 ap.out).mono ?_;rintro e j ⟨y,rfl,q,g⟩)
   have k2:=av.out j g;refine wpAnyIn_ready (rs:= [0,4]) (by kernel_rfl) (by simp) ?_;refine AllReadyIn.cons rfl (fun K f=>?_) ?_
   ·go_simp
    refine f _ _ ?_;clear f K;refine wpAnyIn_ready (rs:= [4]) (by kernel_rfl) (by simp) ?_;refine AllReadyIn.cons rfl (fun K f=>?_) ?_
    ·go_simp
     have ad:=ar.out j y q g
     gi_wp2_with (refine⟨trivial,?_⟩;gi_at_call 111;refine((callsIn_wide).2 ad).mono ?_;rintro e C ⟨U,N,V,rfl,G,O,E⟩;have ae:Hid _:=G;clear G)
     obtain⟨Q,R,S,M,r4,k4,f4,A⟩:=ak.out j C y U N V q g E ae.out O;have k3:=aj.out j C y q g E;refine wpAnyIn_ready (rs:= [5]) (by kernel_rfl) (by simp) ?_;refine AllReadyIn.cons rfl (fun K f=>?_) ?_
     ·refine za0m (by rfl) _ _ _ (by rfl) _ _ _ (by rfl) (by rfl) r4 ?_;refine f _ _ ?_;clear f K;refine wpAnyIn_ready (rs:= [6]) (by kernel_rfl) (by simp) ?_;refine AllReadyIn.cons rfl (fun K f=>?_) ?_
      ·go_simp
       refine f _ _ ?_;clear f K;refine wpAnyIn_done (by kernel_rfl) ?_ _;have L:=And.intro A.1 (And.intro (ag.out _ A.2.1) A.2.2);exact L
      exact AllReadyIn.nil
     exact AllReadyIn.nil
    exact AllReadyIn.nil
   refine AllReadyIn.cons rfl (fun K f=>?_) ?_
   ·go_simp
    have ad:=ar.out j y q g
    gi_wp2_with (refine⟨trivial,?_⟩;gi_at_call 111;refine((callsIn_wide).2 ad).mono ?_;rintro e C ⟨U,N,V,rfl,G,O,E⟩;have ae:Hid _:=G;clear G)
    obtain⟨Q,R,S,M,r4,k4,f4,A⟩:=ak.out j C y U N V q g E ae.out O;have k3:=aj.out j C y q g E;refine wpAnyIn_ready (rs:= [0]) (by kernel_rfl) (by simp) ?_;refine AllReadyIn.cons rfl (fun K f=>?_) ?_
    ·go_simp
     refine f _ _ ?_;clear f K;refine wpAnyIn_ready (rs:= [5]) (by kernel_rfl) (by simp) ?_;refine AllReadyIn.cons rfl (fun K f=>?_) ?_
     ·refine za0m (by rfl) _ _ _ (by rfl) _ _ _ (by rfl) (by rfl) r4 ?_;refine f _ _ ?_;clear f K;refine wpAnyIn_ready (rs:= [6]) (by kernel_rfl) (by simp) ?_;refine AllReadyIn.cons rfl (fun K f=>?_) ?_
      ·go_simp
       refine f _ _ ?_;clear f K;refine wpAnyIn_done (by kernel_rfl) ?_ _;have L:=And.intro A.1 (And.intro (ag.out _ A.2.1) A.2.2);exact L
      exact AllReadyIn.nil
     exact AllReadyIn.nil
    exact AllReadyIn.nil
   exact AllReadyIn.nil
  exact AllReadyIn.nil
 case done =>
  rintro D' ps W hD ⟨bp,bh⟩ hI f;have bl:AlvI w1 c ps (W.putObj D' (.deferred none)):=(za0l (c:=c) (w1:=w1) (B:=W0.heap.size) (by omega)) ps W _ (some D') hI (grownBy_putObj' W D' _) (fun r e=>by cases e;exact⟨hD,_,f,rfl⟩);obtain⟨⟨v,J,-,-⟩,-⟩:=hI;obtain⟨⟨v',a0,T,-⟩,bb⟩:=bl;have bm:v'=v:=by
   have e1:(W.putObj D' (.deferred none)).heap[w1.heap.size]? =W.heap[w1.heap.size]? :=World.putObj_heap_other (by omega);have:=(show (W.putObj D' (.deferred none)).heap[w1.heap.size]? =_ from a0).symm.trans (e1.trans (show W.heap[w1.heap.size]? =_ from J));injection this with this;injection this with this;simpa using this
  subst bm;have hc:=J.cell;rw[Z]at hc;have aw:Hid (RowsAt (W.putObj D' (.deferred none)) v' (aliveQ c ps)/\BL w (W.putObj D' (.deferred none))):=⟨(ze5 T).1,ai.out _ bb⟩;obtain⟨yq,yn,yc,rfl⟩:∃a b c,v'= .slice a b c:=by
   obtain⟨d,hd⟩:=zr5 T;exact zh7 hd
  clear J a0 T bb aa ab an
  gi_wp2
  refine⟨by simp,.inl ⟨_,_,rfl,run_takeDeferred f,?_⟩⟩;exact⟨_,results_tmp rfl _ _ _,.slice yq yn yc,ps,rfl,bp,fun z hz=>bh z ((bd.out z).2 hz),aw.out.1,aw.out.2⟩
end Go.Proofs.YtgckdomafbnmkaaGreatDoor
namespace Go.Proofs.YtgckdomafbnmkaaGreatDoor
open Go.RowKit Go.Extern.Stop Go.Stop Go.Extern Go.Sort Go.Shelf Go.Lib
theorem zc1d (b:Nat) (z:St) (s:Sn) (vf:Value) (lo hi:Int) (w:World) (hm:MAt w b z) (KS:Keeps z) (hx:FlsAt w vf s.2.2.2.2.2.2) (hl:s.2.2.2.2.2.2.length<=100) (bd:∀f∈s.2.2.2.2.2.2,f.1.size<=100000/\f.2.1.size<=100000) :
  Calls Tryz.prog 69 #[.pointer (some ⟨b,0,none⟩),snV s vf,.int .i64 lo,.int .i64 hi] w (RowsP w (rowsS z.obs s lo hi)):=by
 obtain⟨i0,df,dg,dh,b4⟩:=Tryz.rowInfo;obtain⟨j0,di,dj,dk,b5⟩:=Tryz.numInfo;obtain⟨q,B,rfl⟩:=hx.form;have a7:Hid (∀W,BL w W->MAt W b z):=fun W hb=>hm.below hb;have ai:Hid (∀W,BL w W->FlsAt W (.slice q s.2.2.2.2.2.2.length B) s.2.2.2.2.2.2):=fun W hb=>hx.below hb;have a8:Hid (∀f∈s.2.2.2.2.2.2,f.1.size<=100000/\f.2.1.size<=100000):=bd;have au:Hid (Keeps z):=KS;have b7:Hid (∀W,BL w W->Calls Tryz.prog 68 #[snV s (.slice q s.2.2.2.2.2.2.length B)] W fun e w'=>e= .returned (.agg #[.int .i64 (snapE s).1,.int .i64 (atZ (snapE s).2)])/\BL W w'):=fun W hb=>za6o s _ W (ai.out W hb) (by omega) bd;have aj:Hid (rowsS z.obs s lo hi=if (snapE s).1≠0 then ([],snapE s) else if (scanG z.obs lo hi s.2.2.2.2.2.2 0 []).2.1≠0 then ([],(scanG z.obs lo hi s.2.2.2.2.2.2 0 []).2) else (sortR ((scanG z.obs lo hi s.2.2.2.2.2.2 0 []).1.map (·.1)),0,none)):=rfl;generalize rowsS z.obs s lo hi=R at aj ⊢;have bm:SnAt ((w.alloc (.cells #[.int .i64 s.1,.int .i64 s.2.1,.int .i64 s.2.2.1,.int .i64 s.2.2.2.1,.int .i64 s.2.2.2.2.1,.string s.2.2.2.2.2.1,.slice q s.2.2.2.2.2.2.length B] 25)).alloc (.cells #[.int .i64 0,.int .i64 0] 53)) w.heap.size s (.slice q s.2.2.2.2.2.2.length B):=heap_alloc2_old w _ _;have b8:FC ((w.alloc (.cells #[.int .i64 s.1,.int .i64 s.2.1,.int .i64 s.2.2.1,.int .i64 s.2.2.2.1,.int .i64 s.2.2.2.2.1,.string s.2.2.2.2.2.1,.slice q s.2.2.2.2.2.2.length B] 25)).alloc (.cells #[.int .i64 0,.int .i64 0] 53)) (w.heap.size+1) 0 0:=heap_alloc2_new w _ _;have o:BL w ((w.alloc (.cells #[.int .i64 s.1,.int .i64 s.2.1,.int .i64 s.2.2.1,.int .i64 s.2.2.2.1,.int .i64 s.2.2.2.2.1,.string s.2.2.2.2.2.1,.slice q s.2.2.2.2.2.2.length B] 25)).alloc (.cells #[.int .i64 0,.int .i64 0] 53)):=(alB _ _).alloc (by simp) _;obtain⟨id,H,I,J,N,op,i⟩:=s;unfold snV at b7 ⊢;dsimp only at *;obtain⟨L,hL⟩:∃L,i.length=L:=⟨_,rfl⟩;have dv:Hid (i.length=L):=hL;rw[hL]at hl ai b7 bm b8 o ⊢;clear hx bd hm KS hL
 go_enter Tryz.func69,Tryz.ntmps69
 go_upto_region 1 with fail
 generalize (w.alloc (.cells #[.int .i64 id,.int .i64 H,.int .i64 I,.int .i64 J,.int .i64 N,.string op,.slice q L B] 25)).alloc (.cells #[.int .i64 0,.int .i64 0] 53)=W1 at *;obtain⟨sb,dl⟩:∃k,w.heap.size=k:=⟨_,rfl⟩;obtain⟨rb,dm⟩:∃k,w.heap.size+1=k:=⟨_,rfl⟩;have E:w.heap.size<=rb:=by omega
 rw[dl]at bm;rw[dm]at b8;rw[dm,dl];clear dl dm;obtain⟨z0,z1,z2,z3,z4,z5,z6⟩:=bm.cells;dsimp only at z0 z1 z2 z3 z4 z5 z6;have dw:=b7.out W1 o
 go_wp2_with fail
 refine dw.mono ?_;rintro e w2 ⟨rfl,cl⟩;clear dw z0 z1 z2 z3 z4 z5 z6 b7;have dx:BL w w2:=trB o cl;have cn:=bm.below cl;have co:=b8.below cl;clear bm b8 o cl;obtain⟨CE,el⟩:∃C,snapE (id,H,I,J,N,op,i)=C:=⟨_,rfl⟩;rw[el]at aj ⊢;obtain⟨EC,EA⟩:=CE;dsimp only at aj ⊢;have bl:BL w2 (w2.alloc (.cells #[.int .i64 EC,.int .i64 (atZ EA)] 53)):=alB _ _;have b9:FC (w2.alloc (.cells #[.int .i64 EC,.int .i64 (atZ EA)] 53)) w2.heap.size EC (atZ EA):=heap_alloc_new _ _;have bn:BL w (w2.alloc (.cells #[.int .i64 EC,.int .i64 (atZ EA)] 53)):=trB dx bl;have bz:=cn.below bl;have aq:=co.below bl;clear cn co bl dx el
 go_upto_region 2 with fail
 generalize w2.alloc (.cells #[.int .i64 EC,.int .i64 (atZ EA)] 53)=w3 at *;generalize w2.heap.size=fb at *;have k0:=b9.c0;have k1:=b9.c1;by_cases hE:EC=0
 case neg =>
  have eu:R=([],EC,EA):=by rw[aj.out,if_pos hE]
  subst eu;have fc:(0:Int)<(EC:Int):=by omega
  have cp:BL w3 w3.drew:=(Below.refl _ _).drew;have ev:=bn.drew;have ca:=aq.below cp;have ak:=b9.below cp;have j0:=aq.c0;have j1:=aq.c1;have jz:=aq.fz;have m0:=ca.c0;have m1:=ca.c1;have mz:=ca.fz;have q0:=ak.c0;have q1:=ak.c1;clear cp ca ak a7 ai a8 au aj bz
  go_wp2_with fail
  go_region
  all_goals go_wp2
  all_goals refine bodyPost_ret (v:=.tuple #[.slice none 0 0,.agg #[.int .i64 (EC:Int),.int .i64 (atZ EA)]]) (by simp[results,Tryz.results69,go_sem,j0,j1]) rfl ?_
  all_goals refine⟨.slice none 0 0,rfl,Or.inl ⟨none,0,rfl,rfl⟩,?_⟩
  all_goals first
   | exact(bn.setCell E _).setCell E _
   | exact(ev.setCell E _).setCell E _
   | exact((bn.setCell E _).setCell E _).drew
 case pos =>
 have cb:Hid (R=if (scanG z.obs lo hi i 0 []).2.1≠0 then ([],(scanG z.obs lo hi i 0 []).2) else (sortR ((scanG z.obs lo hi i 0 []).1.map (·.1)),0,none)):=by
  show _=_;rw[aj.out,if_neg (by simpa using hE)]
 have dy:((EC:Nat):Int)=0:=by omega
 rw[dy]at k0 ⊢;clear dy;subst hE;have SI:Hid (ScanInv w rb sb (id,H,I,J,N,op,i) (.slice q L B) (.slice none 0 0) (.slice none 0 0) [] w3):=⟨bn,aq,bz,World.ownsRow_nil _ _ _ _,World.ownsRow_nil _ _ _ _⟩;clear aj b9 aq bz bn k1;go_wp2
 go_loopw [11,12,13] (fun out seqs k wr=> ∃(n:Nat) (c:List (Rw×Int)),n<=L/\k= .int .i64 n/\ScanInv w rb sb (id,H,I,J,N,op,i) (.slice q L B) out seqs c wr/\ScanLeft z.obs lo hi i n c/\c.length<=40*n) (fun _ _ k _=>L-(intOf k).toNat)
 case atStart=>exact ⟨0, [],by omega,rfl,SI.out,zb6z _ _ _ _,by simp⟩
 case round =>
  clear SI k0;obtain⟨n,c,hn,rfl,dn,em,dp⟩:=hrel;have SI:Hid (ScanInv w rb sb (id,H,I,J,N,op,i) (.slice q L B) u11 u12 c wr):=dn;have SL:Hid (ScanLeft z.obs lo hi i n c):=em;have z6:=dn.snap.cells.2.2.2.2.2.2;clear dn em;by_cases ew:n<L
  case neg =>
   obtain rfl:n=L:=by omega
   have dz:Hid (R=(sortR (c.map (·.1)),0,none)):=by
    show _=_;have h':=SL.out;rw[<-dv.out]at h';rw[cb.out,zb7d h'];simp
   have cq:=za4w u11 (c.map (·.1)) wr (ze5 SI.out.rows).1 (by rw[List.length_map];omega);have d6:=SI.out.frame;have d7:=SI.out.fault;clear SL cb a7 ai a8 au;generalize sortR (c.map (·.1))=SR at cq dz
   go_wp2_with fail
   refine cq.mono ?_;rintro e w5 ⟨v5,rfl,eo,bf⟩;clear cq z6 SI;have d8:BL w w5:=trB d6 bf;have d9:=d7.below bf;have ea:=ze1 w5;clear d6 d7 bf
   go_wp2_with fail
   refine ea.mono ?_;rintro e w6 ⟨rfl,ax⟩;clear ea;have ex:BL w w6:=trB d8 ax;have be:=d9.below ax;have eb:=eo.below ax;have ey:Hid (RowsAt ((w6.setCell ⟨rb,0,none⟩ (.int .i64 0)).setCell ⟨rb,1,none⟩ (.int .i64 (-1))) v5 SR):=be.off_rows eb 0 _ 1 _;have cr:=be.c0;have cs:=be.c1;have jz:=be.fz;have S:=be.set 0 (-1);have m0:=S.c0;have m1:=S.c1;clear d9 be eo eb ax S d8;go_wp2;refine bodyPost_ret (v:=.tuple #[v5,.agg #[.int .i64 0,.int .i64 (-1)]]) (by simp[results,Tryz.results69,go_sem,m0,m1]) rfl ?_;rw[dz.out];exact⟨v5,rfl,ey.out,(ex.setCell E _).setCell E _⟩
  have ag:n<i.length:=by rw[dv.out];exact ew
  obtain⟨bq,oq,hq,hc⟩:=(ai.out wr SI.out.frame).cells (fun e=>by rw[e]at ag;simp at ag);subst hq;obtain⟨c0,c1,c2,c3,c4,c5⟩:=hc n ag;obtain⟨s1,s2⟩:=a8.out i[n] (List.getElem_mem _);have cc:Hid (inP lo hi i[n]=false->ScanLeft z.obs lo hi i (n+1) c):=fun e=>zb7a SL.out ag e;have ad:Hid (inP lo hi i[n]=true->(fileR z.obs i[n]).1≠0->scanG z.obs lo hi i 0 []=([],(fileR z.obs i[n]).1,some n)):=fun e b=>zb7b SL.out ag e b;have al:Hid (inP lo hi i[n]=true->(fileR z.obs i[n]).1=0->ScanLeft z.obs lo hi i (n+1) (addS lo hi i[n] (fileR z.obs i[n]).2 c)):=fun e b=>zb7c SL.out ag e b;generalize i[n]=x at c0 c1 c2 c3 c4 c5 s1 s2 cc ad al;have ct:=FlAt.new wr x;have bf:BL wr (wr.alloc (.cells #[.string x.1,.string x.2.1,.int .i64 x.2.2.1,.int .i64 x.2.2.2.1,.int .i64 x.2.2.2.2.1,.int .i64 x.2.2.2.2.2] 43)):=alB _ _;have fd:(n:Int)<(L:Int):=by omega
  have e9:(0:Int)<=(n:Int):=by omega
  have ec:Hid (ScanInv w rb sb (id,H,I,J,N,op,i) (.slice (some ⟨bq,oq,none⟩) L B) u11 u12 c (wr.alloc (.cells #[.string x.1,.string x.2.1,.int .i64 x.2.2.1,.int .i64 x.2.2.2.1,.int .i64 x.2.2.2.2.1,.int .i64 x.2.2.2.2.2] 43))):=SI.out.quiet bf;clear hc ag SL bf SI
  go_upto_region 10 with fail
  generalize wr.alloc (.cells #[.string x.1,.string x.2.1,.int .i64 x.2.2.1,.int .i64 x.2.2.2.1,.int .i64 x.2.2.2.2.1,.int .i64 x.2.2.2.2.2] 43)=w5 at *;generalize wr.heap.size=xb at *;clear c0 c1 c2 c3 c4 c5 z6;obtain⟨d0,d1,d2,d3,d4,d5,-⟩:=ct.cells;have cu:BL w5 (w5.alloc (.cells #[.string x.1,.string x.2.1,.int .i64 x.2.2.1,.int .i64 x.2.2.2.1,.int .i64 x.2.2.2.2.1,.int .i64 x.2.2.2.2.2] 43)):=alB _ _;have ed:=zb4y (.slice (some ⟨w5.heap.size,0,none⟩) 1 1) [x] lo hi (w5.alloc (.cells #[.string x.1,.string x.2.1,.int .i64 x.2.2.1,.int .i64 x.2.2.2.1,.int .i64 x.2.2.2.2.1,.int .i64 x.2.2.2.2.2] 43)) (zb7w (FlAt.new w5 x)) (by simp)
  go_wp2_with fail
  refine ed.mono ?_;rintro e w7 ⟨v7,rfl,dt,ep⟩;clear ed d0 d1 d2 d3 d4 d5;have b0:BL w5 w7:=trB cu ep;have af:Hid (ScanInv w rb sb (id,H,I,J,N,op,i) (.slice (some ⟨bq,oq,none⟩) L B) u11 u12 c w7):=ec.out.quiet b0;have bp:=ct.below b0;clear cu ep b0 ec ct;obtain⟨q7,c7,es⟩:=dt.form;subst es;cases P:inP lo hi x
  case false =>
   have bg:Hid (ScanLeft z.obs lo hi i (n+1) c):=cc.out P;have av:([x].filter (inP lo hi)).length=0:=by simp[P]
   rw[av];clear dt av P cc ad al bp;go_wp2;go_roundw
   case rel=>exact ⟨n+1,c,by omega,by go_num,af.out,bg.out,by omega⟩
   case measure=>simp [intOf];omega
  have av:([x].filter (inP lo hi)).length=1:=by simp[P]
  rw[av];clear dt av cc;replace ad:Hid ((fileR z.obs x).1≠0->R=([],(fileR z.obs x).1,some n)):=fun hb=>by
   show _=_;rw[cb.out,ad.out P hb,if_pos hb]
  replace al:Hid ((fileR z.obs x).1=0->ScanLeft z.obs lo hi i (n+1) (addS lo hi x (fileR z.obs x).2 c)):=fun hb=>al.out P hb;clear P;have aw:=zb6k b z x.1 w7 (a7.out w7 af.out.frame) (Nat.le_trans au.out.many (by decide));have br:=za6q au.out x.1;obtain⟨d0,d1,d2,d3,d4,d5,-⟩:=bp.cells;rcases za6p z.obs x.1 with hg | hg
  case inr =>
   have bs:Hid (R=([],6,some n)):=by
    show _=_;have e6:=za6s (x:=x) (obs:=z.obs) (by rw[hg];simp);rw[ad.out (by rw[e6,hg];simp),e6,hg]
   rw[hg]at aw;generalize (getT z.obs x.1).1=tx at aw;clear ad al hg br
   go_wp2_with fail
   refine aw.mono ?_;rintro e w8 ⟨rfl,rfl⟩;clear aw d0 d1 d2 d3 d4 d5 bp;have cr:=af.out.fault.c0;have cs:=af.out.fault.c1;have jz:=af.out.fault.fz;have S:=af.out.fault.set (6) (n:Int);have m0:=S.c0;have m1:=S.c1;have bt:=af.out.frame;clear S af a7 ai a8 au;go_wp2;refine bodyPost_ret (v:=.tuple #[.slice none 0 0,.agg #[.int .i64 (6),.int .i64 (n:Int)]]) (by simp[results,Tryz.results69,go_sem,m0,m1]) rfl ?_;rw[bs.out];exact⟨.slice none 0 0,rfl,Or.inl ⟨none,0,rfl,rfl⟩,(bt.setCell E _).setCell E _⟩
  have aa:=za6t (x:=x) hg;rw[hg]at aw;obtain⟨tx,en⟩:∃t,(getT z.obs x.1).1=t:=⟨_,rfl⟩;rw[en]at aw aa br;have bu:=fun W=>zz5 x.1 x.2.1 tx x.2.2.2.2.2 W s1 s2 (by unfold maxLen;omega);obtain⟨Y,hY⟩:∃Y,ofF x.1 x.2.1 tx.data.toList x.2.2.2.2.2=Y:=⟨_,rfl⟩;rw[hY]at bu aa;obtain⟨y,e⟩:=Y;dsimp only at bu aa;unfold flV at bu;clear hg en hY
  go_wp2_with fail
  refine aw.mono ?_;rintro e' w8 ⟨rfl,rfl⟩;clear aw;have cv:=bu w8;clear bu
  go_wp2_with fail
  refine cv.mono ?_;rintro e' w9 ⟨rfl,du⟩;clear cv d0 d1 d2 d3 d4 d5;have b3:BL w9 (w9.alloc (.cells #[.string y.1,.string y.2.1,.int .i64 y.2.2.1,.int .i64 y.2.2.2.1,.int .i64 y.2.2.2.2.1,.int .i64 y.2.2.2.2.2] 43)):=alB _ _;have bv:=FlAt.new w9 y;have O:Hid (ScanInv w rb sb (id,H,I,J,N,op,i) (.slice (some ⟨bq,oq,none⟩) L B) u11 u12 c (w9.alloc (.cells #[.string y.1,.string y.2.1,.int .i64 y.2.2.1,.int .i64 y.2.2.2.1,.int .i64 y.2.2.2.2.1,.int .i64 y.2.2.2.2.2] 43))):=(af.out.quiet du).quiet b3;have a9:=(bp.below du).below b3;clear af bp du b3
  go_upto_region 16 with fail
  generalize w9.alloc (.cells #[.string y.1,.string y.2.1,.int .i64 y.2.2.1,.int .i64 y.2.2.2.1,.int .i64 y.2.2.2.2.1,.int .i64 y.2.2.2.2.2] 43)=er at *;generalize w9.heap.size=yb at *;by_cases he:e=0
  case neg =>
   have bs:Hid (R=([],e,some n)):=by
    show _=_;rw[if_pos he]at aa;rw[ad.out (by rw[aa];exact he),aa]
   have fe:(0:Int)<(e:Int):=by omega
   have ff:((e:Int) == 0)=false:=beq_eq_false_iff_ne.2 (by omega);clear ad al aa he br a9 bv;have cr:=O.out.fault.c0;have cs:=O.out.fault.c1;have jz:=O.out.fault.fz;have S:=O.out.fault.set ((e:Int)) (n:Int);have m0:=S.c0;have m1:=S.c1;have bt:=O.out.frame;clear S O a7 ai a8 au;go_wp2;refine bodyPost_ret (v:=.tuple #[.slice none 0 0,.agg #[.int .i64 ((e:Int)),.int .i64 (n:Int)]]) (by simp[results,Tryz.results69,go_sem,m0,m1]) rfl ?_;rw[bs.out];exact⟨.slice none 0 0,rfl,Or.inl ⟨none,0,rfl,rfl⟩,(bt.setCell E _).setCell E _⟩
  have ee:((e:Nat):Int)=0:=by omega
  rw[ee];clear ee;subst he;obtain⟨d0,d1,d2,d3,d4,d5,-⟩:=a9.cells;obtain⟨f0,f1,f2,f3,f4,f5,-⟩:=bv.cells;by_cases bh:y=x
  case neg =>
   have bs:Hid (R=([],3,some n)):=by
    show _=_;rw[if_neg (by simp),if_pos bh]at aa;rw[ad.out (by rw[aa];simp),aa]
   have bw:=fun W=>neqF2 y x bh W;have ak:∀(bo:BinOp) (a b:Operand) (w:World),Sem.run Tryz.prog (eqGuard bo 43 a b (flV y) (flV x)) w= .ok () w:=fun bo a b w=>guardF bo a b y x w;unfold flV at bw ak;clear ad al aa bh br a9 bv;have cr:=O.out.fault.c0;have cs:=O.out.fault.c1;have jz:=O.out.fault.fz;have S:=O.out.fault.set (3) (n:Int);have m0:=S.c0;have m1:=S.c1;have bt:=O.out.frame;clear S O a7 ai a8 au;go_wp2;refine bodyPost_ret (v:=.tuple #[.slice none 0 0,.agg #[.int .i64 (3),.int .i64 (n:Int)]]) (by simp[results,Tryz.results69,go_sem,m0,m1]) rfl ?_;rw[bs.out];exact⟨.slice none 0 0,rfl,Or.inl ⟨none,0,rfl,rfl⟩,(bt.setCell E _).setCell E _⟩
  have bg:Hid (ScanLeft z.obs lo hi i (n+1) (addS lo hi x tx c)):=by
   have e0:fileR z.obs x=(0,tx):=by rw[aa,if_neg (by simp),if_neg (by simpa using bh)]
   have h:=al.out (by rw[e0]);rw[e0]at h;exact h
  clear ad al aa cb;obtain rfl:x=y:=bh.symm;have bw:=fun W=>neqF x W;have ak:∀(bo:BinOp) (a b:Operand) (w:World),Sem.run Tryz.prog (eqGuard bo 43 a b (flV x) (flV x)) w= .ok () w:=fun bo a b w=>guardF bo a b x x w;unfold flV at bw ak;clear bh;by_cases hP:x.2.1.data.toList= [45]
  case neg =>
   have cw:=za7 hP;have cd:=(zg9 dataK zm3 tx.data.toList).2;have ce:=za6r dataK tx.data.toList;have ba:=za5t tx er (by unfold maxLen;omega);have bb:Hid (ScanLeft z.obs lo hi i (n+1) (c++((dataO tx.data.toList).1.filter (inB lo hi)).map fun r=>(r,x.2.2.2.2.2))):=by
    have h:=bg.out;rw[zm4 hP]at h;exact h
   clear bg hP;change (dataO tx.data.toList).1.length<=40 at cd;change (dataO tx.data.toList).2.1=0\/(dataO tx.data.toList).1= []at ce;generalize dataO tx.data.toList=D at cd ce ba bb
   go_wp2_with fail
   refine ba.mono ?_;intro e ae bx;obtain⟨ci,ga,gb,rfl,dq,ah⟩:=zb7x bx ce;clear bx ba bw ak d0 d1 d2 d3 d4 d5 f0 f1 f2 f3 f4 f5 bv ce;have Q:BL ae (ae.alloc (.cells #[.int .i64 ga,.int .i64 gb] 53)):=alB _ _;have Z:Hid (ScanInv w rb sb (id,H,I,J,N,op,i) (.slice (some ⟨bq,oq,none⟩) L B) u11 u12 c (ae.alloc (.cells #[.int .i64 ga,.int .i64 gb] 53))):=(O.out.quiet ah).quiet Q;have bc:=(a9.below ah).below Q;have ef:=zb3z ci D.1 lo hi _ (dq.below Q) (by omega);clear O a9 ah
   go_wp2_with fail
   refine ef.mono ?_;rintro e cm ⟨fp,rfl,ar,b6⟩;clear ef;have cx:Hid (ScanInv w rb sb (id,H,I,J,N,op,i) (.slice (some ⟨bq,oq,none⟩) L B) u11 u12 c cm):=Z.out.quiet b6;have cy:=bc.below b6;have av:(D.1.filter (inB lo hi)).length<=40:=Nat.le_trans (List.length_filter_le _ _) cd;clear Z bc b6 dq cd Q;generalize (ae.alloc (.cells #[.int .i64 ga,.int .i64 gb] 53)).heap.size=BB at ar;generalize D.1.filter (inB lo hi)=l at ar bb av;obtain⟨M,hM⟩:∃M,l.length=M:=⟨_,rfl⟩;have HM:Hid (l.length=M):=hM;rw[hM]at ar av;clear hM;obtain⟨bj,bk,rfl⟩:=zm2 ar;have eg:Hid (ScanIn w rb sb (id,H,I,J,N,op,i) (.slice (some ⟨bq,oq,none⟩) L B) u11 u12 (c.map (·.1)) (c.map (·.2)) cm):=cx.out.apart;have HO:Hid (cm.ownsRow BB 112 3 (.slice bj M bk) M (flatR l)):=ar;have HX:Hid (FlAt cm xb x):=cy;have ez:Hid ((c.map (·.1)).length=c.length):=List.length_map ..;have fg:Hid ((c.map (·.2)).length=c.length):=List.length_map ..;have e1:Hid (c.length<=40*n):=dp;have fa:c.length<=4000:=by omega
   clear cx ar cy dp;go_wp2;clear cw
   go_loopw [12,21] (fun sq k W=> ∃m:Nat,m<=M/\k= .int .i64 m/\ScanIn w rb sb (id,H,I,J,N,op,i) (.slice (some ⟨bq,oq,none⟩) L B) u11 sq (c.map (·.1)) (c.map (·.2)++List.replicate m x.2.2.2.2.2) W/\W.ownsRow BB 112 3 (.slice bj M bk) M (flatR l)/\FlAt W xb x) (fun _ k _=>M-(intOf k).toNat)
   case atStart=>exact ⟨0,by omega,rfl,by simpa using eg.out,HO.out,HX.out⟩
   case round =>
    clear eg HO HX;obtain⟨m,fl,rfl,hI,hO,hX⟩:=hrel;by_cases cz:m<M
    case pos =>
     obtain⟨d0,d1,d2,d3,d4,d5,-⟩:=hX.cells;have o:BL wr (wr.alloc (.cells #[.int .i64 x.2.2.2.2.2] 3)):=alB _ _;have eh:(c.map (·.2)++List.replicate m x.2.2.2.2.2).length=c.length+m:=by simp
     have ei:Hid (c.map (·.2)++List.replicate (m+1) x.2.2.2.2.2=(c.map (·.2)++List.replicate m x.2.2.2.2.2)++ [x.2.2.2.2.2]):=by
      show _=_;rw[List.replicate_succ',List.append_assoc]
     generalize c.map (·.2)++List.replicate m x.2.2.2.2.2=NS at hI eh ei;have II:Hid (ScanIn w rb sb (id,H,I,J,N,op,i) (.slice (some ⟨bq,oq,none⟩) L B) u11 u12 (c.map (·.1)) NS (wr.alloc (.cells #[.int .i64 x.2.2.2.2.2] 3))):=hI.quiet o;have OO:Hid ((wr.alloc (.cells #[.int .i64 x.2.2.2.2.2] 3)).ownsRow BB 112 3 (.slice bj M bk) M (flatR l)):=za2 hO o;have XX:Hid (FlAt (wr.alloc (.cells #[.int .i64 x.2.2.2.2.2] 3)) xb x):=hX.below o;clear hI hO hX o d0 d1 d2 d3 d4
     go_wp2_with (at_builtin;refine wpList_append_own _ rfl _ _ 69 rfl w.heap.size 3 j0 (.int .i64 0) 1 8 Tryz.underlying69 di dj dk b5 rfl (by decide) u12 NS.length (NS.map encZ) rfl ?qc0 ⟨wr.heap.size,0,none⟩ 1 1 [.int .i64 x.2.2.2.2.2] rfl ?qc1 ?qc2 ?qc3 ?qc4 ?qc5 ?qc6 ?_)
     case qc0=>exact II.out.nums
     case qc1=>rfl
     case qc2=>exact zb6 _ _ _
     case qc3=>intro u hu;simp at hu;subst hu;rfl
     case qc4=>unfold maxLen;omega
     case qc5=>omega
     case qc6=>exact II.out.frame.size
     intro v' U X d ac;have I4:Hid (ScanIn w rb sb (id,H,I,J,N,op,i) (.slice (some ⟨bq,oq,none⟩) L B) u11 v' (c.map (·.1)) (NS++ [x.2.2.2.2.2]) U):=II.out.num d (by rw[eh];exact X);have O4:Hid (U.ownsRow BB 112 3 (.slice bj M bk) M (flatR l)):=zh6 II.out.nums d OO.out (by decide);have X4:Hid (FlAt U xb x):=zh5 II.out.nums d XX.out (by decide);clear II OO XX X d ac d5;go_wp2;go_roundw
     case rel=>exact ⟨m+1,by omega,by go_num,by rw[ei.out];exact I4.out,O4.out,X4.out⟩
     case measure=>simp [intOf];omega
    case neg =>
     obtain rfl:m=M:=by omega
     have c6:Hid (Src wr bj m bk (flatR l)):=(zb5q hO).2;have II:Hid (ScanIn w rb sb (id,H,I,J,N,op,i) (.slice (some ⟨bq,oq,none⟩) L B) u11 u12 (c.map (·.1)) (c.map (·.2)++List.replicate m x.2.2.2.2.2) wr):=hI;have ej:(c.map (·.1)).length=c.length:=ez.out;clear hI hO hX;obtain⟨RS,dr⟩:∃RS,c.map (·.1)=RS:=⟨_,rfl⟩;have aj:Hid (c.map (·.1)=RS):=dr;rw[dr]at II ej;clear dr
     go_wp2_with (at_builtin;(refine zb1 rfl _ _ 44 rfl w.heap.size 112 i0 (.agg #[.string ⟨#[]⟩,.int .i64 0,.int .i64 0]) 3 32 Tryz.underlying44 df dg dh b4 rfl (by decide) u11 RS.length (flatR RS) rfl ?a0 bj m bk (flatR l) rfl ?a1 ?a2 ?a3 ?a4 ?a5 ?a6 ?_))
     case a0=>exact II.out.rows
     case a1=>rw [zb9,HM.out]
     case a2=>exact c6.out
     case a3=>exact ze3 _
     case a4=>unfold maxLen;omega
     case a5=>omega
     case a6=>exact II.out.frame.size
     intro v2 y2 bi eq _;have cf:Hid (ScanInv w rb sb (id,H,I,J,N,op,i) (.slice (some ⟨bq,oq,none⟩) L B) v2 u12 (c++l.map fun r=>(r,x.2.2.2.2.2)) y2):=(II.out.row (l:=l) eq (by rw[HM.out,ej];exact bi)).one (by rw[List.map_append,aj.out,zb7z]) (by rw[List.map_append,zb8a,HM.out]);clear bi eq II c6;go_wp2;go_roundw
     case rel=>exact ⟨n+1,c++l.map fun r=>(r,x.2.2.2.2.2),by omega,by go_num,cf.out,bb.out,by rw[List.length_append,List.length_map,HM.out];have:=e1.out;omega⟩
     case measure=>simp [intOf];omega
  case pos =>
  have cw:=za6 hP;have c8:=za5y tx.data.toList;have cg:=za6r goneK tx.data.toList;have ba:=za5v tx er (by unfold maxLen;omega);have bb:Hid (ScanLeft z.obs lo hi i (n+1) (c.filter fun p=> !((goneO tx.data.toList).1.contains p.1.2.1 && decide (p.2<x.2.2.2.2.2)))):=by
   have h:=bg.out;rw[zm5 hP]at h;exact h
  clear bg hP;change (goneO tx.data.toList).2.1=0\/(goneO tx.data.toList).1= []at cg;generalize goneO tx.data.toList=D at c8 cg ba bb
  go_wp2_with fail
  refine ba.mono ?_;intro e ae bx;obtain⟨ci,ga,gb,rfl,ds,ah⟩:=zb7y bx cg;clear bx ba bw ak d0 d1 d2 d3 d4 d5 f0 f1 f2 f3 f4 f5 bv cg;have Q:BL ae (ae.alloc (.cells #[.int .i64 ga,.int .i64 gb] 53)):=alB _ _;have Z:Hid (ScanInv w rb sb (id,H,I,J,N,op,i) (.slice (some ⟨bq,oq,none⟩) L B) u11 u12 c (ae.alloc (.cells #[.int .i64 ga,.int .i64 gb] 53))):=(O.out.quiet ah).quiet Q;have bc:=(a9.below ah).below Q;have c9:=ds.below Q;clear O a9 ah ds;obtain⟨A,hA⟩:∃A,c.length=A:=⟨_,rfl⟩;have HA:Hid (c.length=A):=hA;have da:=Z.out.rows;have bi:=Z.out.nums;rw[hA]at da bi dp;clear hA;obtain⟨q1,fm,e4⟩:=zm2 da;obtain⟨q2,fn,e5⟩:=zm2 bi;subst e4 e5;clear da bi;have db:Hid (FlAt (ae.alloc (.cells #[.int .i64 ga,.int .i64 gb] 53)) xb x):=bc;have dc:Hid (KeysAt (ae.alloc (.cells #[.int .i64 ga,.int .i64 gb] 53)) ci D.1):=c9;have e2:Hid (D.1.length<=40):=c8;have fh:A<=4000:=by omega
  clear bc c9 Q c8 br s1 s2;go_wp2;clear cw;generalize ae.alloc (.cells #[.int .i64 ga,.int .i64 gb] 53)=g at *
  go_loopw [24,25,26] (fun lf th k W=> ∃m:Nat,m<=A/\k= .int .i64 m/\BL g W/\W.ownsRow g.heap.size 112 3 lf (goF D.1 x c m).length (flatR ((goF D.1 x c m).map (·.1)))/\W.ownsRow g.heap.size 3 1 th (goF D.1 x c m).length (((goF D.1 x c m).map (·.2)).map encZ)) (fun _ _ k _=>A-(intOf k).toNat)
  case atStart=>exact ⟨0,by omega,rfl,Below.refl _ _,World.ownsRow_nil _ _ _ _,World.ownsRow_nil _ _ _ _⟩
  case round =>
   obtain⟨m,fo,rfl,ab,an,ao⟩:=hrel;by_cases cz:m<A
   case neg =>
    obtain rfl:m=A:=by omega
    have dd:goF D.1 x c m=c.filter fun p=> !(D.1.contains p.1.2.1 && decide (p.2<x.2.2.2.2.2)):=by
     unfold goF;rw[List.take_of_length_le (by rw[HA.out];exact Nat.le_refl _)]
    rw[dd]at an ao;have e3:(c.filter fun p=> !(D.1.contains p.1.2.1 && decide (p.2<x.2.2.2.2.2))).length<=m:=by
     rw[<-HA.out];exact List.length_filter_le _ _
    have SW:=Z.out.quiet ab;have bd:=Z.out.frame.size;have cf:Hid (ScanInv w rb sb (id,H,I,J,N,op,i) (.slice (some ⟨bq,oq,none⟩) L B) u24 u25 (c.filter fun p=> !(D.1.contains p.1.2.1 && decide (p.2<x.2.2.2.2.2))) wr):=⟨SW.frame,SW.fault,SW.snap,zj4 an bd,zj4 ao bd⟩;generalize (c.filter fun p=> !(D.1.contains p.1.2.1 && decide (p.2<x.2.2.2.2.2)))=et at bb cf e3;clear an ao SW bd dd Z db dc;go_wp2;go_roundw
    case rel=>exact ⟨n+1,et,by omega,by go_num,cf.out,bb.out,by omega⟩
    case measure=>simp [intOf];omega
   case pos =>
    have ch:m<c.length:=by rw[HA.out];exact cz
    obtain⟨z1,y1,cj,b1,o1,e7,r0,r1,r2⟩:=zb8c Z.out.rows m ch;obtain⟨z2,y2,ck,b2,o2,e8,r3⟩:=zb8d Z.out.nums m ch;subst e7 e8;have T:Hid (goF D.1 x c (m+1)=goF D.1 x c m++if (D.1.contains c[m].1.2.1 && decide (c[m].2<x.2.2.2.2.2)) then [] else [c[m]]):=zb8b _ _ _ _ ch;generalize c[m]=p at r0 r1 r2 r3 T;have R0:Hid (g.cell? ⟨b1,o1+m*3,none⟩=some (.string p.1.1)):=r0;have R1:Hid (g.cell? ⟨b1,o1+m*3+1,none⟩=some (.int .i64 p.1.2.1)):=r1;have R2:Hid (g.cell? ⟨b1,o1+m*3+2,none⟩=some (.int .i64 p.1.2.2)):=r2;have R3:Hid (g.cell? ⟨b2,o2+m,none⟩=some (.int .i64 p.2)):=r3;clear r0 r1 r2 r3;simp only[Value.slice.injEq]at cj ck;obtain⟨cj,-,-⟩:=cj;obtain⟨ck,-,-⟩:=ck;subst cj ck;have r0:=za0 ab R0.out;have r1:=za0 ab R1.out;have r2:=za0 ab R2.out;have r3:=za0 ab R3.out;have P:=zb3y ci D.1 p.1.2.1 wr (dc.out.below ab) (by have:=e2.out;unfold maxLen;omega);obtain⟨-,-,-,-,-,d5,-⟩:=(db.out.below ab).cells;clear ch;have fi:(m:Int)<(A:Int):=by omega
    have fj:(0:Int)<=(m:Int):=by omega
    clear a7 ai a8 au;cases az:D.1.contains p.1.2.1
    case false =>
     rw[az]at P;replace T:Hid (goF D.1 x c (m+1)=goF D.1 x c m++ [p]):=by
      have h:=T.out;rw[az]at h;exact h
     clear az
     go_wp2_with fail
     refine P.mono ?_;rintro e w' ⟨rfl,ay⟩;rw[ay];clear ay P
     go_wp2_with fail
     go_quiet (fail)
     have V:BL wr (wr.drewN nq):=za4 (Below.refl _ _) nq;have G:BL g (wr.drewN nq):=trB ab V;have M1:Hid ((wr.drewN nq).ownsRow g.heap.size 112 3 u24 (goF D.1 x c m).length (flatR ((goF D.1 x c m).map (·.1)))):=za2 an V;have M2:Hid ((wr.drewN nq).ownsRow g.heap.size 3 1 u25 (goF D.1 x c m).length (((goF D.1 x c m).map (·.2)).map encZ)):=za2 ao V;have de:=za6u D.1 x c m;clear an ao V ab r0 r1 r2 r3 d5;generalize wr.drewN nq=wq at M1 M2 G ⊢;generalize goF D.1 x c m=K at M1 M2 T de;have o:BL wq (wq.alloc (.cells #[.string p.1.1,.int .i64 p.1.2.1,.int .i64 p.1.2.2] 112)):=alB _ _;have F:BL g (wq.alloc (.cells #[.string p.1.1,.int .i64 p.1.2.1,.int .i64 p.1.2.2] 112)):=G.alloc G.size _;have r0:=za0 G R0.out;have r1:=za0 G R1.out;have r2:=za0 G R2.out;have N2:Hid ((wq.alloc (.cells #[.string p.1.1,.int .i64 p.1.2.1,.int .i64 p.1.2.2] 112)).ownsRow g.heap.size 3 1 u25 K.length ((K.map (·.2)).map encZ)):=za2 M2.out o;have N1:Hid ((wq.alloc (.cells #[.string p.1.1,.int .i64 p.1.2.1,.int .i64 p.1.2.2] 112)).ownsRow g.heap.size 112 3 u24 K.length (flatR (K.map (·.1)))):=za2 M1.out o
     go_wp2_with (at_builtin;refine wpList_append_own _ rfl _ _ 44 rfl g.heap.size 112 i0 (.agg #[.string ⟨#[]⟩,.int .i64 0,.int .i64 0]) 3 32 Tryz.underlying44 df dg dh b4 rfl (by decide) u24 K.length (flatR (K.map (·.1))) rfl ?qc0 ⟨wq.heap.size,0,none⟩ 1 1 (encR p.1) rfl ?qc1 ?qc2 ?qc3 ?qc4 ?qc5 ?qc6 ?_)
     case qc0=>exact N1.out
     case qc1=>rfl
     case qc2 =>
      intro j u hj
      first
       | exact hj
       | (simpa [encR] using hj)
       | (rw[Addr.add_lit,Nat.zero_add];exact zf6 wq p.1.1 p.1.2.1 p.1.2.2 j u hj)
     case qc3=>exact zc6 _
     case qc4=>unfold maxLen;omega
     case qc5=>omega
     case qc6=>exact F.size
     intro v4 U X d ac;have am:BL g U:=zj5 F N1.out (Nat.le_refl _) F.size d;have O1:Hid (U.ownsRow g.heap.size 112 3 v4 (K.length+1) (flatR (K.map (·.1))++encR p.1)):=X;have O2:Hid (U.ownsRow g.heap.size 3 1 u25 K.length ((K.map (·.2)).map encZ)):=zh6 N1.out d N2.out (by decide);clear X d ac N1 N2 M1 M2 o F G r0 r1 r2;have r3:=za0 am R3.out;have o:BL U (U.alloc (.cells #[.int .i64 p.2] 3)):=alB _ _;have F:BL g (U.alloc (.cells #[.int .i64 p.2] 3)):=am.alloc am.size _;have N1:Hid ((U.alloc (.cells #[.int .i64 p.2] 3)).ownsRow g.heap.size 112 3 v4 (K.length+1) (flatR (K.map (·.1))++encR p.1)):=za2 O1.out o;have N2:Hid ((U.alloc (.cells #[.int .i64 p.2] 3)).ownsRow g.heap.size 3 1 u25 K.length ((K.map (·.2)).map encZ)):=za2 O2.out o
     go_wp2_with (at_builtin;refine wpList_append_own _ rfl _ _ 69 rfl g.heap.size 3 j0 (.int .i64 0) 1 8 Tryz.underlying69 di dj dk b5 rfl (by decide) u25 K.length ((K.map (·.2)).map encZ) rfl ?qd0 ⟨U.heap.size,0,none⟩ 1 1 [.int .i64 p.2] rfl ?qd1 ?qd2 ?qd3 ?qd4 ?qd5 ?qd6 ?_)
     case qd0=>exact N2.out
     case qd1=>rfl
     case qd2=>exact zb6 _ _ _
     case qd3=>intro u hu;simp at hu;subst hu;rfl
     case qd4=>unfold maxLen;omega
     case qd5=>omega
     case qd6=>exact F.size
     intro v6 w6 ap d ac;have ax:BL g w6:=zj5 F N2.out (Nat.le_refl _) F.size d;have P1:Hid (w6.ownsRow g.heap.size 112 3 v4 (K.length+1) (flatR (K.map (·.1))++encR p.1)):=zh6 N2.out d N1.out (by decide);have P2:Hid (w6.ownsRow g.heap.size 3 1 v6 (K.length+1) ((K.map (·.2)).map encZ++ [.int .i64 p.2])):=by
      show w6.ownsRow _ _ _ _ _ _;rw[List.map_map];exact ap
     clear ap d ac N1 N2 O1 O2 o F am r3;go_wp2;go_roundw
     case rel=>exact ⟨m+1,by omega,by go_num,ax,by rw[T.out,List.length_append,List.map_append,zc3];simpa [flatR] using P1.out,by rw[T.out,List.length_append,List.map_append,List.map_append];exact P2.out⟩
     case measure=>simp [intOf];omega
    case true =>
     rw[az]at P;by_cases ek:p.2<x.2.2.2.2.2
     case neg =>
      replace T:Hid (goF D.1 x c (m+1)=goF D.1 x c m++ [p]):=by
       have h:=T.out;rw[az,decide_eq_false ek]at h;exact h
      clear az
      go_wp2_with fail
      refine P.mono ?_;rintro e w' ⟨rfl,ay⟩;rw[ay];clear ay P
      go_wp2_with fail
      go_quiet (fail)
      have V:BL wr (wr.drewN nq):=za4 (Below.refl _ _) nq;have G:BL g (wr.drewN nq):=trB ab V;have M1:Hid ((wr.drewN nq).ownsRow g.heap.size 112 3 u24 (goF D.1 x c m).length (flatR ((goF D.1 x c m).map (·.1)))):=za2 an V;have M2:Hid ((wr.drewN nq).ownsRow g.heap.size 3 1 u25 (goF D.1 x c m).length (((goF D.1 x c m).map (·.2)).map encZ)):=za2 ao V;have de:=za6u D.1 x c m;clear an ao V ab r0 r1 r2 r3 d5;generalize wr.drewN nq=wq at M1 M2 G ⊢;generalize goF D.1 x c m=K at M1 M2 T de;have o:BL wq (wq.alloc (.cells #[.string p.1.1,.int .i64 p.1.2.1,.int .i64 p.1.2.2] 112)):=alB _ _;have F:BL g (wq.alloc (.cells #[.string p.1.1,.int .i64 p.1.2.1,.int .i64 p.1.2.2] 112)):=G.alloc G.size _;have r0:=za0 G R0.out;have r1:=za0 G R1.out;have r2:=za0 G R2.out;have N2:Hid ((wq.alloc (.cells #[.string p.1.1,.int .i64 p.1.2.1,.int .i64 p.1.2.2] 112)).ownsRow g.heap.size 3 1 u25 K.length ((K.map (·.2)).map encZ)):=za2 M2.out o;have N1:Hid ((wq.alloc (.cells #[.string p.1.1,.int .i64 p.1.2.1,.int .i64 p.1.2.2] 112)).ownsRow g.heap.size 112 3 u24 K.length (flatR (K.map (·.1)))):=za2 M1.out o
      go_wp2_with (at_builtin;refine wpList_append_own _ rfl _ _ 44 rfl g.heap.size 112 i0 (.agg #[.string ⟨#[]⟩,.int .i64 0,.int .i64 0]) 3 32 Tryz.underlying44 df dg dh b4 rfl (by decide) u24 K.length (flatR (K.map (·.1))) rfl ?qc0 ⟨wq.heap.size,0,none⟩ 1 1 (encR p.1) rfl ?qc1 ?qc2 ?qc3 ?qc4 ?qc5 ?qc6 ?_)
      case qc0=>exact N1.out
      case qc1=>rfl
      case qc2 =>
       intro j u hj
       first
        | exact hj
        | (simpa [encR] using hj)
        | (rw[Addr.add_lit,Nat.zero_add];exact zf6 wq p.1.1 p.1.2.1 p.1.2.2 j u hj)
      case qc3=>exact zc6 _
      case qc4=>unfold maxLen;omega
      case qc5=>omega
      case qc6=>exact F.size
      intro v4 U X d ac;have am:BL g U:=zj5 F N1.out (Nat.le_refl _) F.size d;have O1:Hid (U.ownsRow g.heap.size 112 3 v4 (K.length+1) (flatR (K.map (·.1))++encR p.1)):=X;have O2:Hid (U.ownsRow g.heap.size 3 1 u25 K.length ((K.map (·.2)).map encZ)):=zh6 N1.out d N2.out (by decide);clear X d ac N1 N2 M1 M2 o F G r0 r1 r2;have r3:=za0 am R3.out;have o:BL U (U.alloc (.cells #[.int .i64 p.2] 3)):=alB _ _;have F:BL g (U.alloc (.cells #[.int .i64 p.2] 3)):=am.alloc am.size _;have N1:Hid ((U.alloc (.cells #[.int .i64 p.2] 3)).ownsRow g.heap.size 112 3 v4 (K.length+1) (flatR (K.map (·.1))++encR p.1)):=za2 O1.out o;have N2:Hid ((U.alloc (.cells #[.int .i64 p.2] 3)).ownsRow g.heap.size 3 1 u25 K.length ((K.map (·.2)).map encZ)):=za2 O2.out o
      go_wp2_with (at_builtin;refine wpList_append_own _ rfl _ _ 69 rfl g.heap.size 3 j0 (.int .i64 0) 1 8 Tryz.underlying69 di dj dk b5 rfl (by decide) u25 K.length ((K.map (·.2)).map encZ) rfl ?qd0 ⟨U.heap.size,0,none⟩ 1 1 [.int .i64 p.2] rfl ?qd1 ?qd2 ?qd3 ?qd4 ?qd5 ?qd6 ?_)
      case qd0=>exact N2.out
      case qd1=>rfl
      case qd2=>exact zb6 _ _ _
      case qd3=>intro u hu;simp at hu;subst hu;rfl
      case qd4=>unfold maxLen;omega
      case qd5=>omega
      case qd6=>exact F.size
      intro v6 w6 ap d ac;have ax:BL g w6:=zj5 F N2.out (Nat.le_refl _) F.size d;have P1:Hid (w6.ownsRow g.heap.size 112 3 v4 (K.length+1) (flatR (K.map (·.1))++encR p.1)):=zh6 N2.out d N1.out (by decide);have P2:Hid (w6.ownsRow g.heap.size 3 1 v6 (K.length+1) ((K.map (·.2)).map encZ++ [.int .i64 p.2])):=by
       show w6.ownsRow _ _ _ _ _ _;rw[List.map_map];exact ap
      clear ap d ac N1 N2 O1 O2 o F am r3;go_wp2;go_roundw
      case rel=>exact ⟨m+1,by omega,by go_num,ax,by rw[T.out,List.length_append,List.map_append,zc3];simpa [flatR] using P1.out,by rw[T.out,List.length_append,List.map_append,List.map_append];exact P2.out⟩
      case measure=>simp [intOf];omega
     case pos =>
      replace T:Hid (goF D.1 x c (m+1)=goF D.1 x c m):=by
       have h:=T.out;rw[az,decide_eq_true ek,Bool.and_self,if_pos rfl,List.append_nil]at h;exact h
      clear az
      go_wp2_with fail
      refine P.mono ?_;rintro e w' ⟨rfl,ay⟩;rw[ay];clear ay P
      go_wp2_with fail
      go_quiet (fail)
      have V:BL wr (wr.drewN nq):=za4 (Below.refl _ _) nq;have G:BL g (wr.drewN nq):=trB ab V;have M1:Hid ((wr.drewN nq).ownsRow g.heap.size 112 3 u24 (goF D.1 x c m).length (flatR ((goF D.1 x c m).map (·.1)))):=za2 an V;have M2:Hid ((wr.drewN nq).ownsRow g.heap.size 3 1 u25 (goF D.1 x c m).length (((goF D.1 x c m).map (·.2)).map encZ)):=za2 ao V;clear an ao V ab r0 r1 r2 r3 d5;generalize wr.drewN nq=wq at M1 M2 G ⊢;go_wp2;go_roundw
      case rel=>exact ⟨m+1,by omega,by go_num,G,by rw[T.out];exact M1.out,by rw[T.out];exact M2.out⟩
      case measure=>simp [intOf];omega
structure Both (EM:World->Prop) (SAt:World->Value->(Nat->Prop)->St->Prop) (B:Nat) (w0 W:World) (v:Value) (FP:Nat->Prop) (s:St) (b:Nat) (r:St):Prop where
 ok:SOk EM SAt B w0 W v FP s
 mat:MAt W b r
 off:¬FP b
 le:B<=b
 objs:∀vL,W.cell? ⟨b,0,none⟩=some vL->r.obs≠ []->∀a n c,vL= .slice (some a) n c->¬FP a.block
theorem MAt.cell {W:World} {b:Nat} {r:St} (h:MAt W b r):∃vL,W.cell? ⟨b,0,none⟩=some vL/\MC W b vL r/\ObsAt W vL r.obs:=by
 obtain⟨vL,c,d⟩:=h;exact⟨vL,c.cells.1,c,d⟩
theorem MAt.lt {W:World} {b:Nat} {r:St} (h:MAt W b r):b<W.heap.size:=by
 obtain⟨d,c,_⟩:=h;exact c.lt
theorem zc1e {W m:World} {P:Nat->Prop} {v:Value} {l:List Ob} (h:ObsAt W v l) (q:l≠ []->∀a n c,v= .slice (some a) n c->¬P a.block) (k:But P W m):ObsAt m v l:=by
 rcases h with h | ⟨b,o,c,g,p,i⟩
 ·exact Or.inl h
 ·by_cases d:l= []
  ·exact Or.inl ⟨some ⟨b,o,none⟩,c,by rw[g,d];rfl,fun e=>(nomatch e),d⟩
  ·have f:=q d _ _ _ g;exact Or.inr ⟨b,o,c,g,p,fun j hj=>⟨k.keep f (i j hj).1,k.keep f (i j hj).2.1,k.keep f (i j hj).2.2⟩⟩
theorem zc1f {W:World} {v:Value} {l:List Ob} (h:ObsAt W v l) (d:l≠ []) {a:Addr} {n c:Nat} (e:v= .slice (some a) n c):a.block<W.heap.size:=by
 rcases h with⟨_,_,_,_,f⟩|⟨b,o,j,g,k,i⟩
 ·exact absurd f d
 ·rw[g]at e;simp only[Value.slice.injEq,Option.some.injEq]at e;rw[<-e.1];exact zb8 (i 0 (List.length_pos_iff.2 d)).1
section
variable {a : Nat → Addr} {B : Nat} {EM : World → Prop} {SAt : World → Value → (Nat → Prop) → St → Prop}
theorem Both.quiet (K:StoreK a B EM SAt) {w0 W w':World} {v:Value} {f:Nat->Prop} {s r:St} {b:Nat} (h:Both EM SAt B w0 W v f s b r) (c:BL W w'):Both EM SAt B w0 w' v f s b r:=by
 refine⟨h.ok.quiet K c,h.mat.below c,h.off,h.le,fun vL hv hne=>?_⟩;obtain⟨g,d,_,_⟩:=h.mat.cell;rw[za0 c d]at hv;cases hv
 exact h.objs _ d hne
theorem Both.prog (K:StoreK a B EM SAt) {w0 W w':World} {v:Value} {g:Nat->Prop} {s o r:St} {b:Nat} (h:Both EM SAt B w0 W v g s b r) (u:SPost SAt W v g o w'):∃FP',Both EM SAt B w0 w' v FP' o b r/\But g W w'/\∀k,FP' k->g k\/W.heap.size<=k:=by
 obtain⟨FP',q,f,i⟩:=h.ok.post K u;obtain⟨l,j,t,m⟩:=h.mat.cell;have p:w'.cell? ⟨b,0,none⟩=some l:=f.keep h.off j;refine⟨FP',⟨q,⟨l,t.but f h.off,zc1e m (fun hne a n c e=>h.objs _ j hne a n c e) f⟩,fun hF=>?_,h.le,fun vL' hv hne a n c e hF=>?_⟩,f,i⟩
 ·rcases i b hF with d | d
  ·exact h.off d
  ·have:=h.mat.lt;omega
 ·rw[p]at hv;cases hv
  rcases i _ hF with d | d
  ·exact h.objs _ j hne a n c e d
  ·have:=zc1f m hne e;omega
theorem Both.doc (K:StoreK a B EM SAt) {w0 W w':World} {v:Value} {o:Nat->Prop} {s r p:St} {b:Nat} (h:Both EM SAt B w0 W v o s b r) (C:MPost W b p w'):Both EM SAt B w0 w' v o s b p:=by
 obtain⟨i,j,t⟩:=C;have q:=K.size _ h.ok.env;have g:Below B W w':=j.below q (fun k e=>by rw[e];exact h.le);refine⟨⟨K.below _ _ h.ok.env g,h.ok.frame.trans g,h.ok.le,K.keep _ _ _ _ _ _ h.ok.at_ j (fun k hk e=>h.off (e▸hk)),h.ok.new⟩,i,h.off,h.le,fun vL' hv hne a n c e hF=>?_⟩;obtain⟨y,l,E,z⟩:=h.mat.cell;obtain⟨D,m,d⟩:=t y l;rw[m]at hv;cases hv
 rcases d with d | d
 ·subst d;obtain⟨u,u1,_,u3⟩:=i.cell;rw[m]at u1;cases u1
  obtain⟨F,G,A⟩:=z.form;obtain⟨H,I,f⟩:=u3.form;rw[A]at f;simp only[Value.slice.injEq]at f;refine h.objs _ l (fun e0=>hne ?_) a n c e hF;rw[e0]at f;exact List.length_eq_zero_iff.1 f.2.1.symm
 ·have:=d a n c e;have:=K.lt _ _ _ _ _ h.ok.at_ hF;omega
end
theorem zc8r (v:Value) (c:List Int) (w:World) (n:KeysAt w v c) (y:c.length<=1000) (z:40<(riseZ c).length) :
  Calls Tryz.prog 33 #[v] w fun e w'=>e= .returned (.tuple #[.string ⟨#[]⟩,.agg #[.int .i64 8,.int .i64 (-1)]])/\BL w w':=by
 have q:(40:Int)<((riseZ c).length:Int):=by omega
 have g:=FC.new w;have i:=fun W=>za9 8 W;have d:BL w (w.alloc (.cells #[.int .i64 0,.int .i64 0] 53)):=alB _ _;have j:=za5u v c _ (n.below d) y;obtain⟨B,C,rfl⟩:=n.form;clear n
 go_enter Tryz.func33,Tryz.ntmps33
 go_wp2_with fail
 refine j.mono ?_;rintro e t ⟨F,rfl,l,f⟩;clear j;obtain⟨D,E,rfl⟩:=l.form;have k:=g.below f;have o:BL w t:=trB d f;clear l z g d f;generalize (riseZ c).length=G at q ⊢
 go_wp2_with fail
 refine(i _).mono ?_;rintro e u ⟨rfl,m⟩;clear i;have b:=k.below m;have p:BL w u:=trB o m;have r:=b.c0;have s:=b.c1;have A:=b.fz;clear k b;go_wp2;refine bodyPost_ret (v:=.tuple #[.string ⟨#[]⟩,.agg #[.int .i64 8,.int .i64 (-1)]]) (by simp[results,Tryz.results33,go_sem,r,s]) rfl ⟨rfl,?_⟩;exact(p.setCell (by simp) _).setCell (by simp) _
theorem zc1g (xs:List Int) (n:Nat) (h:n<xs.length):linesG goneK (xs.take (n+1))=linesG goneK (xs.take n)++(itoa xs[n]++ [10]):=by
 rw[<-List.take_append_getElem h];exact za2g goneK _ _
theorem zc1h (v:Value) (c:List Int) (w:World) (hz:KeysAt w v c) (hl:c.length<=1000) (aw:(riseZ c).length<=40)
  (m:Nat) (hm:m<=c.length) (r:∀i (h:i<c.length),i<m->inNum c[i]=true) (X:∀(h:m<c.length),inNum c[m]=false) :
  Calls Tryz.prog 33 #[v] w fun e w'=>(m=c.length/\e= .returned (.tuple #[.string (bytesOf (goneF (riseZ c))),.agg #[.int .i64 0,.int .i64 (-1)]])/\BL w w') \/
   (m<c.length/\e= .returned (.tuple #[.string ⟨#[]⟩,.agg #[.int .i64 2,.int .i64 m]])/\BL w w'):=by
 have ao:Hid (m=c.length->∀x∈riseZ c,inNum x=true):=fun e x hxm=>by
  obtain⟨i,hi,O⟩:=List.mem_iff_getElem.1 ((zk7 c x).1 hxm);rw[<-O];exact r i hi (by omega)
 have E:=FC.new w;have z:BL w (w.alloc (.cells #[.int .i64 0,.int .i64 0] 53)):=alB _ _;have A:=za5u v c _ (hz.below z) hl;obtain⟨q,P,rfl⟩:=hz.form;obtain⟨L,hL⟩:∃L,c.length=L:=⟨_,rfl⟩;have Y:Hid (c.length=L):=hL;have Z:Hid (∀i (h:i<c.length),i<m->inNum c[i]=true):=r;have ap:Hid (∀(h:m<c.length),inNum c[m]=false):=X;have aa:Hid (∀W,BL w W->KeysAt W (.slice q c.length P) c):=fun W hW=>hz.below hW;rw[hL]at hm hl aa;have F:(Value.slice q c.length P)= .slice q L P:=by rw[hL]
 rw[F]at A ⊢;obtain⟨j,Q⟩:∃j,(riseZ c).length=j:=⟨_,rfl⟩;have s:Hid ((riseZ c).length=j):=Q;rw[Q]at aw;have bb:¬(40:Int)<(j:Int):=by omega
 clear hL Q r X F hz
 go_enter Tryz.func33,Tryz.ntmps33
 go_wp2_with fail
 generalize w.alloc (.cells #[.int .i64 0,.int .i64 0] 53)=w0 at E z A ⊢;refine A.mono ?_;rintro e w1 ⟨v1,rfl,U,V⟩;clear A;obtain⟨q1,c1,aj⟩:=U.form;rw[s.out]at aj;subst aj;have ax:Hid (KeysAt w1 (.slice q1 j c1) (riseZ c)):=U;have B:=E.below V;have ay:BL w w1:=trB z V;clear U E z V;go_wp2
 go_loopw [5] (fun k wr=> ∃n:Nat,n<=m/\k= .int .i64 n/\BL w1 wr) (fun k _=>L-(intOf k).toNat)
 case atStart=>exact ⟨0,by omega,rfl,Below.refl _ _⟩
 case round =>
  obtain⟨n,hn,rfl,R⟩:=hrel;have G:BL w wr:=trB ay R;by_cases az:n<L
  ·have l:n<c.length:=by rw[Y.out];exact az
   rcases aa.out wr G with⟨_,_,e,O⟩|⟨b,o,av,e,d⟩
   ·exfalso;have:=Y.out;rw[O]at this;simp at this;omega
   injection e with e1 e2 e3;subst e1;clear e2 e3;have H:=d n l;clear d;have hi:(n:Int)<(L:Int):=by omega
   have a0:(0:Int)<=(n:Int):=by omega
   have f:=zl1 c[n] wr;by_cases aq:n<m
   ·rw[Z.out n l aq]at f;generalize c[n]=xk at H f;simp only[Bool.not_true]at f
    go_wp2_with fail
    refine f.mono ?_;rintro e w2 ⟨rfl,rfl⟩;clear f;go_wp2;go_roundw
    case rel=>exact ⟨n+1,by omega,by go_num,R⟩
    case measure=>simp [intOf];omega
   ·have a1:n=m:=by omega
    subst a1;rw[ap.out l]at f;generalize c[n]=xk at H f;simp only[Bool.not_false]at f;have C:=B.below R;have j0:=C.c0;have j1:=C.c1;have jz:=C.fz;clear B C
    go_wp2_with fail
    refine f.mono ?_;rintro e w2 ⟨rfl,rfl⟩;clear f H;go_wp2;refine bodyPost_ret (v:=.tuple #[.string ⟨#[]⟩,.agg #[.int .i64 2,.int .i64 n]]) (by simp[results,Tryz.results33,go_sem,j0,j1]) rfl (Or.inr ⟨l,rfl,?_⟩);exact(G.setCell (by simp) _).setCell (by simp) _
  ·have a2:n=L:=by omega
   subst a2;have ab:m=n:=by omega
   have p:=ao.out (by rw[Y.out];exact ab);have ac:Hid (∀x∈riseZ c,inNum x=true):=p;have I:Hid (∀k,(linesG goneK ((riseZ c).take k)).length<=33*k):=fun k=>by
    have h1:=zo9 zp0 ((riseZ c).take k) (fun x hxx=>p x (List.mem_of_mem_take hxx));rw[List.length_take]at h1;omega
   have g:=zu6 zp0 p;rw[zu9]at g;have ad:Hid (bytesOf (headL (⟨#[103,111,110,101]⟩:ByteArray).data.toList (riseZ c).length (endsZ (riseZ c)).1 (endsZ (riseZ c)).2 (sumL (linesG goneK (riseZ c)))++10 :: linesG goneK (riseZ c))=bytesOf (goneF (riseZ c))):=by
    show _=_;have e:goneF (riseZ c)=headL kGone (riseZ c).length (endsZ (keysG goneK (riseZ c))).1 (endsZ (keysG goneK (riseZ c))).2 (sumL (linesG goneK (riseZ c)))++10 :: linesG goneK (riseZ c):=rfl;rw[e,zu9];rfl
   have J:Hid (∀W,BL wr W->KeysAt W (.slice q1 j c1) (riseZ c)):=fun W hW=>(ax.out.below R).below hW;clear p;generalize am:riseZ c=S at ac I ad J s g;have a3:Hid (riseZ c=S):=am;clear am;have ae:=B.below R;clear B;generalize wr=w2 at *;go_wp2
   go_loopw [7,8] (fun bd k w3=> ∃i:Nat,i<=j/\k= .int .i64 i/\BL w2 w3/\bd= .string (bytesOf (linesG goneK (S.take i)))) (fun _ k _=>j-(intOf k).toNat)
   case atStart=>exact ⟨0,by omega,rfl,Below.refl _ _,rfl⟩
   case round =>
    obtain⟨i,bc,rfl,y,rfl⟩:=hrel;by_cases ar:i<j
    ·have t:i<S.length:=by rw[s.out];exact ar
     rcases J.out wr y with⟨_,_,e,O⟩|⟨b,o,av,e,d⟩
     ·exfalso;rw[O]at t;simp at t
     injection e with e1 e2 e3;subst e1;clear e2 e3;have H:=d i t;clear d;have hi:(i:Int)<(j:Int):=by omega
     have a0:(0:Int)<=(i:Int):=by omega
     have K:=ac.out S[i] (List.getElem_mem _);have af:(bytesOf (itoa S[i])).size<=32:=by rw[zd9];exact zp0.len _ K
     simp only[inNum,Bool.and_eq_true,decide_eq_true_eq]at K;have D:=zi4 S[i] wr (by omega) (by omega);have a4:(bytesOf (linesG goneK (S.take i))).size<=33*i:=by rw[zd9];exact I.out i
     have HT:Hid (bytesOf (linesG goneK (S.take i))++bytesOf (itoa S[i])++⟨#[10]⟩=bytesOf (linesG goneK (S.take (i+1)))):=by
      show _=_;apply zc1;rw[zc1g S i t];simp[bytesOf,ByteArray.data_append]
     generalize bytesOf (linesG goneK (S.take i))=B0 at a4 HT ⊢;generalize S[i]=x at H D af HT;generalize bytesOf (itoa x)=tx at D af HT;clear t K
     go_wp2_with fail
     refine D.mono ?_;rintro e w4 ⟨rfl,ba⟩;clear D;have a5:=ba.below;have a6:BL w2 w4:=trB y a5;go_wp2;go_roundw
     case rel=>exact ⟨i+1,by omega,by go_num,a6,by rw[HT.out]⟩
     case measure=>simp [intOf];omega
    ·have au:i=j:=by omega
     subst au;have ag:S.take i=S:=List.take_of_length_le (by rw[s.out];exact Nat.le_refl _);have ah:=I.out i;rw[ag]at ah ⊢;have a7:BL w wr:=trB G y;have u:=za4j ⟨#[103,111,110,101]⟩ (by decide) (.slice q1 i c1) S (bytesOf (linesG goneK S)) wr (J.out wr y) (by rw[s.out];omega) (by rw[zd9];omega) (by have:=g.1;simp only[inNum,Bool.and_eq_true,decide_eq_true_eq]at this;omega) (by have:=g.2;simp only[inNum,Bool.and_eq_true,decide_eq_true_eq]at this;omega);have ai:(bytesOf (linesG goneK S)).data.toList=linesG goneK S:=by simp[bytesOf]
     rw[ai,ad.out]at u;generalize an:bytesOf (goneF S)=T at u;have a8:Hid (bytesOf (goneF S)=T):=an;clear an;generalize bytesOf (linesG goneK S)=BD at u ⊢;clear ag ah g ai
     go_wp2_with fail
     refine u.mono ?_;rintro e w6 ⟨rfl,ak⟩;clear u;have M:=ze1 w6
     go_wp2_with fail
     refine M.mono ?_;rintro e w7 ⟨rfl,al⟩;clear M;have a9:BL w w6:=trB a7 ak;have hB:BL w w7:=trB a9 al;have N:=((ae.below y).below ak).below al;have j0:=N.c0;have j1:=N.c1;have jz:=N.fz;clear ae;go_wp2;refine bodyPost_ret (v:=.tuple #[.string T,.agg #[.int .i64 0,.int .i64 (-1)]]) (by simp[results,Tryz.results33,go_sem,j0,j1]) rfl (Or.inl ⟨by rw[Y.out];exact ab,by rw[a3.out,a8.out],?_⟩);exact(hB.setCell (by simp) _).setCell (by simp) _
abbrev Pc:=ByteArray×ByteArray×ByteArray×List Rw×List Int×Int
structure PcHas (w:World) (b o:Nat) (vr vk:Value) (p:Pc):Prop where
 path:w.cell? ⟨b,o,none⟩=some (.string p.1)
 part:w.cell? ⟨b,o+1,none⟩=some (.string p.2.1)
 other:w.cell? ⟨b,o+2,none⟩=some (.string p.2.2.1)
 crow:w.cell? ⟨b,o+3,none⟩=some vr
 ckey:w.cell? ⟨b,o+4,none⟩=some vk
 seq:w.cell? ⟨b,o+5,none⟩=some (.int .i64 p.2.2.2.2.2)
 rows:RowsAt w vr p.2.2.2.1
 keys:KeysAt w vk p.2.2.2.2.1
theorem PcHas.below {w w':World} {b o:Nat} {d f:Value} {p:Pc} (h:PcHas w b o d f p) (c:BL w w'):PcHas w' b o d f p :=
 ⟨za0 c h.path,za0 c h.part,za0 c h.other,za0 c h.crow,za0 c h.ckey,za0 c h.seq,h.rows.below c,h.keys.below c⟩
def PcsAt (w:World) (v:Value) (l:List Pc):Prop :=
 (∃p c,v= .slice p 0 c/\l= [])\/∃b o cap,v= .slice (some ⟨b,o,none⟩) l.length cap/\∀j (h:j<l.length),∃vr vk,PcHas w b (o+j*6) vr vk l[j]
theorem PcsAt.below {w w':World} {v:Value} {l:List Pc} (h:PcsAt w v l) (k:BL w w'):PcsAt w' v l:=by
 rcases h with h | ⟨b,o,c,g,i⟩
 ·exact Or.inl h
 ·exact Or.inr ⟨b,o,c,g,fun j hj=>by
   obtain⟨d,f,h⟩:=i j hj;exact⟨d,f,h.below k⟩⟩
theorem PcsAt.form {w:World} {v:Value} {l:List Pc} (h:PcsAt w v l):∃p c,v= .slice p l.length c:=by
 rcases h with⟨p,c,rfl,rfl⟩|⟨b,o,d,rfl,_⟩
 ·exact⟨_,_,rfl⟩
 ·exact⟨_,_,rfl⟩
theorem PcsAt.cells {w:World} {q:Option Addr} {n c:Nat} {l:List Pc} (h:PcsAt w (.slice q n c) l) (d:l≠ []):∃b o,q=some ⟨b,o,none⟩/\∀j (h:j<l.length),∃vr vk,PcHas w b (o+j*6) vr vk l[j]:=by
 rcases h with⟨_,_,_,e⟩|⟨b,o,g,e,f⟩
 ·exact absurd e d
 ·simp only[Value.slice.injEq]at e;exact⟨b,o,e.1,f⟩
def pcLong (p:Pc):Bool:=decide (20<p.1.size) || (decide (20<p.2.1.size) || (decide (200<p.2.2.1.size) || (longB 30 p.2.2.2.1 || decide (30<p.2.2.2.2.1.length))))
def pcsLong (l:List Pc):Bool:=decide (15<l.length) || l.any pcLong
theorem zs2 {p:Pc} (h:pcLong p=false):p.1.size<=20/\p.2.1.size<=20/\p.2.2.1.size<=200/\p.2.2.2.1.length<=30/\(∀x∈p.2.2.2.1,x.1.size<=30)/\p.2.2.2.2.1.length<=30:=by
 unfold pcLong longB at h;simp only[Bool.or_eq_false_iff,decide_eq_false_iff_not,List.any_eq_false,decide_eq_true_eq]at h;obtain⟨c,d,f,⟨g,b⟩,i⟩:=h;exact⟨by omega,by omega,by omega,by omega,fun x hx=>by have:=b x hx;omega,by omega⟩
theorem zc1i {l:List Pc} (h:pcsLong l=false):l.length<=15/\∀p∈l,pcLong p=false:=by
 unfold pcsLong at h;simp only[Bool.or_eq_false_iff,decide_eq_false_iff_not,List.any_eq_false]at h;exact⟨by omega,fun p hp=>by simpa using h.2 p hp⟩
def PcOk (p:Pc):Prop:=p.1.size<=maxLen/\p.2.1.size<=maxLen/\p.2.2.1.size<=maxLen/\p.2.2.2.1.length<=maxLen/\p.2.2.2.2.1.length<=maxLen
theorem zc1j (v:Value) (l:List Pc) (w:World) (h:PcsAt w v l) (hl:l.length<=maxLen) (hz:∀p∈l,PcOk p) :
  Calls Tryz.prog 7 #[v] w fun e w'=>e= .returned (.bool (pcsLong l))/\w'=w:=by
 unfold maxLen at hl;obtain⟨q,X,rfl⟩:=h.form;have HA:Hid (PcsAt w (.slice q l.length X) l):=h;have HZ:Hid (∀p∈l,PcOk p):=hz;obtain⟨L,G⟩:∃L,l.length=L:=⟨_,rfl⟩;have u:Hid (l.length=L):=G;rw[G]at hl ⊢;generalize Z:pcsLong l=R;have D:Hid (pcsLong l=R):=Z;clear G h Z hz;by_cases A:15<L
 ·have E:(15:Int)<(L:Int):=by omega
  have e:R=true:=by rw[<-D.out];unfold pcsLong;rw[u.out];simp[A]
  subst e
  go_enter Tryz.func7,Tryz.ntmps7
  go_wp2;go_ret;exact⟨rfl,rfl⟩
 have E:¬(15:Int)<(L:Int):=by omega
 go_enter Tryz.func7,Tryz.ntmps7
 go_wp2
 go_loop [3] (fun k=> ∃m:Nat,m<=L/\k= .int .i64 m/\∀i (h:i<l.length),i<m->pcLong l[i]=false) (fun k=>L-(intOf k).toNat)
 case atStart=>exact ⟨0,by omega,rfl,fun i h h'=>absurd h' (Nat.not_lt_zero _)⟩
 case round =>
  obtain⟨m,hm,rfl,C⟩:=hrel;have B:Hid (∀i (h:i<l.length),i<m->pcLong l[i]=false):=C;clear C;by_cases M:m<L
  ·have f:m<l.length:=by rw[u.out];exact M
   obtain⟨g,o,hq,Y⟩:=HA.out.cells (fun e=>by rw[e]at f;simp at f);subst hq;obtain⟨vr,vk,j⟩:=Y m f;have N:=HZ.out _ (List.getElem_mem f);have t:(m:Int)<(L:Int):=by omega
   have aa:(0:Int)<=(m:Int):=by omega
   have r:Hid (pcLong l[m]=true->R=true):=fun e=>by
    show R=true;rw[<-D.out];unfold pcsLong;rw[Bool.or_eq_true];exact Or.inr (List.any_eq_true.2 ⟨_,List.getElem_mem f,e⟩)
   have F:Hid (pcLong l[m]=false->∀i (h:i<l.length),i<m+1->pcLong l[i]=false):=fun e i t him=>by
    by_cases e':i=m
    ·subst e';exact e
    ·exact B.out i t (by omega)
   generalize l[m]=p at *;obtain⟨z1,z2,z3,z4,z5⟩:=N;unfold maxLen at z1 z2 z3 z4 z5;have n:Hid (pcLong p=(decide (20<p.1.size) || (decide (20<p.2.1.size) || (decide (200<p.2.2.1.size) || (longB 30 p.2.2.2.1 || decide (30<p.2.2.2.2.1.length)))))):=rfl;generalize pcLong p=T at r F n;have c0:=j.path;have c1:=j.part;have c2:=j.other;have c3:=j.crow;have c4:=j.ckey;have d:=zb0w vr p.2.2.2.1 30 w j.rows (by unfold maxLen;omega) (by omega);obtain⟨kq,kc,hk⟩:∃q c,vk= .slice q p.2.2.2.2.1.length c:=by
    rcases j.keys with⟨q,c,s,y⟩|⟨b,o,c,s,_⟩
    ·exact⟨q,c,by rw[s,y];rfl⟩
    ·exact⟨_,_,s⟩
   subst hk;generalize p.2.2.2.2.1.length=H at *;generalize p.1=I at *;generalize p.2.1=J at *;generalize p.2.2.1=K at *;generalize p.2.2.2.1=rs at *;clear Y f j;by_cases s:20<I.size
   ·have O:(20:Int)<(I.size:Int):=by omega
    have e:R=true:=r.out (by rw[n.out];simp[s]);subst e;clear d;go_wp2;go_ret;exact⟨rfl,rfl⟩
   have O:¬(20:Int)<(I.size:Int):=by omega
   by_cases y:20<J.size
   ·have P:(20:Int)<(J.size:Int):=by omega
    have e:R=true:=r.out (by rw[n.out];simp[y]);subst e;clear d;go_wp2;go_ret;exact⟨rfl,rfl⟩
   have P:¬(20:Int)<(J.size:Int):=by omega
   by_cases Q:200<K.size
   ·have S:(200:Int)<(K.size:Int):=by omega
    have e:R=true:=r.out (by rw[n.out];simp[Q]);subst e;clear d;go_wp2;go_ret;exact⟨rfl,rfl⟩
   have S:¬(200:Int)<(K.size:Int):=by omega
   by_cases z:longB 30 rs=true
   ·rw[zt5 z]at d;have e:R=true:=r.out (by rw[n.out];simp[z]);subst e
    go_wp2_with fail
    refine d.mono ?_;rintro e w' ⟨rfl,rfl⟩;clear d;go_wp2;go_ret;exact⟨rfl,rfl⟩
   rw[zt6 (by simpa using z)]at d;by_cases U:30<H
   ·have V:(30:Int)<(H:Int):=by omega
    have e:R=true:=r.out (by rw[n.out];simp[U]);subst e
    go_wp2_with fail
    refine d.mono ?_;rintro e w' ⟨rfl,rfl⟩;clear d;go_wp2;go_ret;exact⟨rfl,rfl⟩
   have V:¬(30:Int)<(H:Int):=by omega
   have W:Hid (∀i (h:i<l.length),i<m+1->pcLong l[i]=false):=F.out (by rw[n.out];simp[s,y,Q,z,U]);clear r F n
   go_wp2_with fail
   refine d.mono ?_;rintro e w' ⟨rfl,rfl⟩;clear d;go_wp2;go_round
   case rel=>exact ⟨m+1,by omega,by go_num,W.out⟩
   case measure=>simp [intOf];omega
  ·obtain rfl:m=L:=by omega
   have e:R=false:=by
    rw[<-D.out];unfold pcsLong;simp only[Bool.or_eq_false_iff,decide_eq_false_iff_not,List.any_eq_false];refine⟨by rw[u.out];exact A,fun p j=>?_⟩;obtain⟨i,t,rfl⟩:=List.mem_iff_getElem.1 j;rw[B.out i t (by rw[<-u.out];exact t)];simp
   subst e;go_wp2;go_ret;exact⟨rfl,rfl⟩
def dataT (xs:List Rw):ByteArray:=if xs.all (fun x=>decide (rowE x=0))=true then bytesOf (fileOf (sortR xs)) else ⟨#[]⟩
def goneT (zs:List Int):ByteArray:=if zs.all inNum=true then bytesOf (goneF (riseZ zs)) else ⟨#[]⟩
theorem za7s {α:Type} (f:α->Bool) (xs:List α):∃m,m<=xs.length/\(∀i (h:i<xs.length),i<m->f xs[i]=true)/\∀h:m<xs.length,f xs[m]=false:=by
 induction xs with
 | nil=>exact ⟨0,Nat.le_refl _,fun i h=>absurd h (Nat.not_lt_zero _),fun h=>absurd h (Nat.not_lt_zero _)⟩
 | cons x r ih =>
  cases b:f x with
  | false=>exact ⟨0,Nat.zero_le _,fun i _ h=>absurd h (Nat.not_lt_zero _),fun _=>b⟩
  | true =>
   obtain⟨m,g,c,d⟩:=ih;refine⟨m+1,by simp;omega,fun i h h'=>?_,fun h=>?_⟩
   ·cases i with
    | zero=>exact b
    | succ i=>exact c i (by simpa using h) (by omega)
   ·exact d (by simpa using h)
theorem zc1k (v:Value) (xs:List Rw) (w:World) (r:RowsAt w v xs) (u:xs.length<=40) (z:∀x∈xs,x.1.size<=30) :
  Calls Tryz.prog 32 #[v] w fun e w'=> ∃x y:Int,e= .returned (.tuple #[.string (dataT xs),.agg #[.int .i64 x,.int .i64 y]])/\BL w w':=by
 obtain⟨q,l,rfl⟩:∃q c,v= .slice q xs.length c:=by
  rcases r with⟨q,c,d,f⟩|⟨b,o,c,d,_⟩
  ·exact⟨q,c,by rw[d,f];rfl⟩
  ·exact⟨_,_,d⟩
 obtain⟨m,s,d,f⟩:=za7s (fun x:Rw=>decide (rowE x=0)) xs;refine(zb5p q l xs w r u z m s (fun i h h'=>by simpa using d i h h') (fun h=>by simpa using f h)).mono ?_;rintro e w' (⟨A,g,j⟩|⟨h,g,j⟩)
 ·refine⟨0,-1,?_,j⟩;rw[g];unfold dataT;rw[if_pos];rw[List.all_eq_true];intro x n;obtain⟨i,t,rfl⟩:=List.mem_iff_getElem.1 n;exact d i t (by omega)
 ·refine⟨(rowE xs[m]:Nat),(m:Nat),?_,j⟩;rw[g];unfold dataT;rw[if_neg];intro p;rw[List.all_eq_true]at p;have k:=f h;rw[p _ (List.getElem_mem h)]at k;cases k
theorem zc1l (v:Value) (b:List Int) (w:World) (p:KeysAt w v b) (q:b.length<=40) :
  Calls Tryz.prog 33 #[v] w fun e w'=> ∃x y:Int,e= .returned (.tuple #[.string (goneT b),.agg #[.int .i64 x,.int .i64 y]])/\BL w w':=by
 obtain⟨m,n,g,j⟩:=za7s inNum b;refine(zc1h v b w p (by omega) (Nat.le_trans (zv3 b) q) m n g j).mono ?_;rintro e w' (⟨r,c,d⟩|⟨h,c,d⟩)
 ·refine⟨0,-1,?_,d⟩;rw[c];unfold goneT;rw[if_pos];rw[List.all_eq_true];intro x k;obtain⟨i,o,rfl⟩:=List.mem_iff_getElem.1 k;exact g i o (by omega)
 ·refine⟨2,(m:Nat),?_,d⟩;rw[c];unfold goneT;rw[if_neg];intro l;rw[List.all_eq_true]at l;have f:=j h;rw[l _ (List.getElem_mem h)]at f;cases f
theorem za7t (l:List UInt8):(bytesOf l).size=l.length:=by simp[bytesOf,ByteArray.size]
theorem zc1m {xs:List Rw} (b:xs.length<=40):(dataT xs).size<=1400:=by
 unfold dataT;split
 ·rename_i h;rw[List.all_eq_true]at h;rw[za7t];exact zb2b _ (fun x hx=>by simpa using h x ((zd7 xs).mem_iff.1 hx)) (by rw[(zd7 xs).length_eq];exact b)
 ·exact Nat.zero_le _
theorem zc1n {b:List Int} (c:b.length<=40):(goneT b).size<=1400:=by
 unfold goneT;split
 ·rename_i h;rw[List.all_eq_true]at h;rw[za7t];exact za2j zp0 _ (fun x hx=>h x ((zk7 b x).1 hx)) (Nat.le_trans (zv3 b) c)
 ·exact Nat.zero_le _
end Go.Proofs.YtgckdomafbnmkaaGreatDoor
