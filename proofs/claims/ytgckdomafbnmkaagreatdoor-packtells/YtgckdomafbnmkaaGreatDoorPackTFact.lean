/- By an AI agent. -/
import Derived.Test.YtgckdomafbnmkaaGreatDoorPackTo
import Derived.Deep.CutRange
import Derived.Test.YtgckdomafbnmkaaGreatDoorRows
import Derived.JoinedOf
set_option maxRecDepth 100000
set_option maxHeartbeats 16000000
namespace Go.Proofs.YtgckdomafbnmkaaGreatDoor
open Go.RowKit Go.Extern.Stop Go.Stop Go.Extern Go.Sort Go.Shelf Go.Lib
theorem zb0b {p:ByteArray} :∀ {l:List ByteArray} {k:Nat} (h:k<l.length),k<plcS p l->ltS l[k] p=true
 | [],k,h,_=>absurd h (Nat.not_lt_zero _)
 | q :: r,k,h,hk=>by
  unfold plcS at hk;split at hk
  ·rename_i e
   match k,h,hk with
   | 0,_,_=>exact e
   | k+1,h,hk=>exact zb0b (l:=r) (by simpa using h) (by omega)
  ·omega
theorem zb0c {p:ByteArray} :∀ {l:List ByteArray} (h:plcS p l<l.length),ltS l[plcS p l] p=false
 | [],h=>absurd h (Nat.not_lt_zero _)
 | q :: r,h=>by
  by_cases e:ltS q p=true
  ·have b:plcS p (q :: r)=plcS p r+1:=by rw[plcS,if_pos e]
   have c:=zb0c (p:=p) (l:=r) (by rw[b]at h;simpa using h);simp only[b,List.getElem_cons_succ];exact c
  ·have b:plcS p (q :: r)=0:=by rw[plcS,if_neg e]
   simp only[b,List.getElem_cons_zero];simpa using e
theorem zb0d {p:ByteArray} :∀l:List ByteArray,plcS p l<=l.length
 | []=>Nat.le_refl _
 | q :: r=>by
  have b:=zb0d (p:=p) r;unfold plcS;split
  ·simpa using b
  ·exact Nat.zero_le _
def roomI (N:Int):List Gp->Nat
 | []=>0
 | g :: r=>if 40<g.2.1+N then roomI N r+1 else 0
theorem zb0e {N:Int} :∀l:List Gp,roomI N l<=l.length
 | []=>Nat.le_refl _
 | q :: r=>by
  have b:=zb0e (N:=N) r;unfold roomI;split
  ·simpa using b
  ·exact Nat.zero_le _
theorem zb0f {N:Int} :∀ {l:List Gp} {k:Nat} (h:k<l.length),k<roomI N l->40<l[k].2.1+N
 | [],k,h,_=>absurd h (Nat.not_lt_zero _)
 | q :: r,k,h,hk=>by
  unfold roomI at hk;split at hk
  ·rename_i e
   match k,h,hk with
   | 0,_,_=>exact e
   | k+1,h,hk=>exact zb0f (l:=r) (by simpa using h) (by omega)
  ·omega
theorem zb0g {N:Int} :∀ {l:List Gp} (h:roomI N l<l.length),¬40<l[roomI N l].2.1+N
 | [],h=>absurd h (Nat.not_lt_zero _)
 | q :: r,h=>by
  by_cases e:40<q.2.1+N
  ·have b:roomI N (q :: r)=roomI N r+1:=by rw[roomI,if_pos e]
   have c:=zb0g (N:=N) (l:=r) (by rw[b]at h;simpa using h);simp only[b,List.getElem_cons_succ];exact c
  ·have b:roomI N (q :: r)=0:=by rw[roomI,if_neg e]
   simp only[b,List.getElem_cons_zero];exact e
theorem zb0h {f:Fl} :∀ {gs:List Gp},(∀g∈gs,g.1=f.2.1)->∀(h:roomI f.2.2.1 gs<gs.length),putG f gs=gs.set (roomI f.2.2.1 gs) (takeG f gs[roomI f.2.2.1 gs])
 | [],_,h=>absurd h (Nat.not_lt_zero _)
 | g :: r,hp,h=>by
  have c:g.1=f.2.1:=hp g List.mem_cons_self;by_cases e:40<g.2.1+f.2.2.1
  ·have b:roomI f.2.2.1 (g :: r)=roomI f.2.2.1 r+1:=by rw[roomI,if_pos e]
   have d:=zb0h (gs:=r) (fun x hx=>hp x (List.mem_cons_of_mem _ hx)) (by rw[b]at h;simpa using h);rw[putG,if_neg (by unfold fitG;rw[decide_eq_false (show ¬g.2.1+f.2.2.1<=40 by omega),Bool.and_false];simp),d];simp only[b,List.getElem_cons_succ,List.set_cons_succ]
  ·have b:roomI f.2.2.1 (g :: r)=0:=by rw[roomI,if_neg e]
   rw[putG,if_pos (by unfold fitG;rw[decide_eq_true c,decide_eq_true (show g.2.1+f.2.2.1<=40 by omega)];rfl)];simp only[b,List.getElem_cons_zero,List.set_cons_zero]
theorem zb0i {f:Fl} :∀ {gs:List Gp},roomI f.2.2.1 gs=gs.length->putG f gs=gs++ [takeG f (f.2.1,0, [])]
 | [],_=>rfl
 | g :: r,h=>by
  by_cases e:40<g.2.1+f.2.2.1
  ·have b:roomI f.2.2.1 (g :: r)=roomI f.2.2.1 r+1:=by rw[roomI,if_pos e]
   rw[putG,if_neg (by unfold fitG;rw[decide_eq_false (show ¬g.2.1+f.2.2.1<=40 by omega),Bool.and_false];simp),zb0i (gs:=r) (by rw[b]at h;simpa using h)];rfl
  ·have b:roomI f.2.2.1 (g :: r)=0:=by rw[roomI,if_neg e]
   rw[b]at h;simp at h
theorem zn8 {b:List Fl} {least:Int} (p:ByteArray) (c:∀f∈b,0<=f.2.2.1/\f.2.2.1<=40):∀n,n<=b.length->GsOk n (bnN b least p n)
 | 0,_=>⟨by simp[bnN],fun g hg=>by simp[bnN]at hg⟩
 | n+1,h=>by
  have d:=zn8 (least:=least) p c n (by omega)
  cases e:binB least p (b[n]'(by omega)) with
  | true=>rw [za9k (by omega) e];exact za9e (c _ (List.getElem_mem _)) d
  | false=>rw [za9l (by omega) e];exact d.mono
theorem zc6n {b:List Fl} {least:Int} {p:ByteArray} {n:Nat} :∀g∈bnN b least p n,g.1=p:=fun g hg=>za1l (P:=fun q=>q=p) _ [] (fun f hf=>by
 have h:=(List.mem_filter.1 hf).2;unfold binB at h;rw[Bool.and_eq_true,decide_eq_true_eq]at h;exact h.1) (fun g hg=>absurd hg List.not_mem_nil) g hg
def OutIn (B:Nat) (W:World) (v:Value) (ls:List (List ByteArray)):Prop :=
 ∃us:List Value,W.ownsRow B 39 1 v us.length us/\us.length=ls.length/\∀j (h:j<us.length) (h':j<ls.length),W.ownsRow B 9 1 us[j] ls[j].length (ls[j].map Value.string)
theorem OutIn.nil (B:Nat) (W:World):OutIn B W (.slice none 0 0) []:=⟨[],World.ownsRow_nil _ _ _ _,rfl,fun j h=>absurd h (Nat.not_lt_zero j)⟩
theorem OutIn.below {B:Nat} {W c:World} {v:Value} {d:List (List ByteArray)} (h:OutIn B W v d) (f:BL W c):OutIn B c v d:=by
 obtain⟨g,i,k,l⟩:=h;exact⟨g,za8 (P:=fun _=>False) i (But.of_below f) (fun _ _ h=>h),k,fun j a b=>za8 (P:=fun _=>False) (l j a b) (But.of_below f) (fun _ _ h=>h)⟩
theorem OutIn.form {B:Nat} {W:World} {v:Value} {b:List (List ByteArray)} (h:OutIn B W v b):∃q c,v= .slice q b.length c:=by
 obtain⟨g,d,f,_⟩:=h;rw[<-f];exact zb4 d
theorem OutIn.tss {B:Nat} {W:World} {v:Value} {k:List (List ByteArray)} (h:OutIn B W v k):TssAt W v k:=by
 obtain⟨l,d,f,m⟩:=h;refine⟨l,f,?_,fun j a b=>zg1 (m j a b)⟩;rcases d.2 with⟨c,n⟩|⟨g,i,o,c,_,p,q,_,_,r⟩
 ·exact Or.inl ⟨c,List.length_eq_zero_iff.1 (by rw[<-f];exact n)⟩
 ·refine Or.inr ⟨g,i,by rw[<-f];exact c,fun j hj=>?_⟩;rw[c]at d;exact(zj8 d (List.getElem?_eq_getElem hj)).1
theorem zc6o {B:Nat} {W d:World} {v:Value} {b:List Value} (s:W.ownsRow B 39 1 v b.length b) (t:B<=W.heap.size) (u:Value) (y:u.oneCell'=true) (f:d=W.alloc (.cells #[u] 39)) (z:b.length<=100000) :
  ∃v' W2,(Builtin.append_ #[33,33] 33 #[v,.slice (some ⟨W.heap.size,0,none⟩) 1 1]).run Tryz.prog d= .ok v' W2/\W2.ownsRow B 39 1 v' (b++ [u]).length (b++ [u])/\But (fun k=>v.ownBlock=some k) W W2:=by
 obtain⟨l,m,n,o,i⟩:=Tryz.txsInfo;have c:BL W d:=by rw[f];exact alB _ _
 have g:Src d (some ⟨W.heap.size,0,none⟩) 1 1 [u]:=by
  rw[f];exact zi9 W [u] 39 1 1
 obtain⟨v',W2,p,q,r,A⟩:=zf1 (P:=Tryz.prog) d B 33 33 39 l (.slice none 0 0) 1 24 Tryz.underlying33 m n o i rfl (by decide) v b.length b (za8 (P:=fun _=>False) s (But.of_below c) (fun _ _ h=>h)) (some ⟨W.heap.size,0,none⟩) 1 1 [u] rfl g (by intro C j;rw[List.mem_singleton]at j;subst j;exact y) (by unfold maxLen;omega) (by omega) (Nat.le_trans t c.size);refine⟨v',W2,p,?_,(But.of_below c).trans (But.grown r) (fun _ h _=>h)⟩;rw[List.length_append];exact q
theorem za1o {α β:Type} {f:α->List β} {c:Nat} (h:∀x,(f x).length<=c):∀l:List α,(l.flatMap f).length<=l.length*c
 | []=>by simp
 | x :: r=>by
  have b:=za1o h r;have d:=h x;rw[List.flatMap_cons,List.length_append,List.length_cons,Nat.succ_mul];omega
theorem OutIn.res {B:Nat} {W:World} {F:Nat} {x y:Int} {v:Value} {l:List (List ByteArray)} (h:OutIn B W v l) (m:FC W F x y) (z n:Value):OutIn B ((W.setCell ⟨F,0,none⟩ z).setCell ⟨F,1,none⟩ n) v l:=by
 have d:But (fun k=>k=F) W ((W.setCell ⟨F,0,none⟩ z).setCell ⟨F,1,none⟩ n):=((But.refl (fun k=>k=F) W).setCell (Or.inl (Eq.refl _)) _).setCell (Or.inl (Eq.refl _)) _;obtain⟨o,g,p,i⟩:=h;refine⟨o,za8 g d (fun k hk e=>?_),p,fun j a b=>za8 (i j a b) d (fun k hk e=>?_)⟩
 ·subst e;obtain⟨_,_,c,f⟩:=za5 g hk;exact zb0 m f (by decide) rfl
 ·subst e;obtain⟨_,_,c,f⟩:=za5 (i j a b) hk;exact zb0 m f (by decide) rfl
theorem OutIn.more {B:Nat} {W s:World} {v:Value} {l:List (List ByteArray)} (h:OutIn B W v l) (F:B<=W.heap.size) {u:Value} {i:List ByteArray} (t:W.ownsRow B 9 1 u i.length (i.map Value.string)) (y:s=W.alloc (.cells #[u] 39)) (H:l.length<=100000) :
  ∃v' W2,(Builtin.append_ #[33,33] 33 #[v,.slice (some ⟨W.heap.size,0,none⟩) 1 1]).run Tryz.prog s= .ok v' W2/\OutIn B W2 v' (l++ [i])/\But (fun k=>v.ownBlock=some k) W W2/\∀k,v.ownBlock=some k->B<=k/\∃cur,W.heap[k]? =some (.cells cur 39 (0,0)):=by
 obtain⟨d,o,r,A⟩:=h;have p:u.oneCell'=true:=by
  obtain⟨q,c,e⟩:=zb4 t;rw[e];rfl
 obtain⟨v',W2,C,D,g⟩:=zc6o o F u p y (by omega);have m:∀k,v.ownBlock=some k->B<=k/\∃cur,W.heap[k]? =some (.cells cur 39 (0,0)):=fun k hk=>⟨(za5 o hk).1,(za5 o hk).2.2⟩;have f:∀(x:Value) (xs:List ByteArray),W.ownsRow B 9 1 x xs.length (xs.map Value.string)->W2.ownsRow B 9 1 x xs.length (xs.map Value.string):=fun x xs hx=>za8 hx g (fun k hk e=>by
  obtain⟨_,c,E⟩:=m k e;obtain⟨_,_,G,n⟩:=za5 hx hk;exact zb0 E n (by decide) rfl)
 refine⟨v',W2,C,⟨d++ [u],D,by simp[r],fun j a b=>?_⟩,g,m⟩;rw[List.length_append,List.length_singleton]at a b;by_cases e:j<d.length
 ·rw[List.getElem_append_left e,List.getElem_append_left (by omega)];exact f _ _ (A j e (by omega))
 ·obtain rfl:j=d.length:=by omega
  have z:(d++ [u])[d.length]'(by simp)=u:=by simp
  have n:(l++ [i])[d.length]'(by simp;omega)=i:=by simp[r]
  rw[z,n];exact f _ _ t
structure PLS (w W:World) (pv:Value) (PT:List ByteArray):Prop where
 low:BL w W
 res:FC W w.heap.size 0 0
 prt:W.ownsRow w.heap.size 9 1 pv (PT).length ((PT).map Value.string)
theorem PLS.below {w W c:World} {d:Value} {f:List ByteArray} (h:PLS w W d f) (b:BL W c):PLS w c d f :=
 ⟨h.low.trans (b.mono h.low.size),h.res.below b,za8 (P:=fun _=>False) h.prt (But.of_below b) (fun _ _ h=>h)⟩
theorem PLS.out {w W g:World} {i j:Value} {l:List ByteArray} (h:PLS w W i l) (d:But (fun k=>j.ownBlock=some k) W g) (f:∀k,j.ownBlock=some k->w.heap.size<=k/\∃cur,W.heap[k]? =some (.cells cur 39 (0,0))):PLS w g i l:=by
 refine⟨h.low.trans (d.below h.low.size (fun k hk=>(f k hk).1)),(d.block _ h.res.lt (fun e=>?_)).trans h.res,za8 h.prt d (fun k hk e=>?_)⟩
 ·obtain⟨_,c,b⟩:=f _ e;exact zb0 h.res b (by decide) rfl
 ·obtain⟨_,c,b⟩:=f _ e;obtain⟨_,_,n,m⟩:=za5 h.prt hk;exact zb0 m b (by decide) rfl
theorem BinsIn.out {B:Nat} {W f:World} {v g:Value} {xs:List Bx} (h:BinsIn B W v xs) (l:But (fun k=>g.ownBlock=some k) W f) (i:∀k,g.ownBlock=some k->∃cur,W.heap[k]? =some (.cells cur 39 (0,0))):BinsIn B f v xs :=
 h.but l (fun k hk e=>by
  obtain⟨c,b⟩:=i _ e;obtain⟨_,_,j,d⟩:=za5 h.row hk;exact zb0 d b (by decide) rfl) (fun x hx k hk e=>by
  obtain⟨c,b⟩:=i _ e;obtain⟨_,_,j,d⟩:=za5 (h.cell x hx) hk;exact zb0 d b (by decide) rfl)
theorem zk0 (l:List ByteArray):∀u∈l.map Value.string,u.oneCell'=true:=fun u hu=>by
 obtain⟨x,_,rfl⟩:=List.mem_map.1 hu;rfl
theorem zb0j {W:World} {g n c:Nat} {b:List ByteArray} (h:∀j (hj:j<b.length),W.cell? ⟨g,j,none⟩=some (.string b[j])):Src W (some ⟨g,0,none⟩) n c ((b.take n).map Value.string):=Or.inr ⟨g,0,rfl,fun j u hu=>by
 rw[List.getElem?_map,List.getElem?_take]at hu;split at hu
 ·cases hj:b[j]? with
  | none=>rw [hj]at hu;cases hu
  | some x =>
   rw[hj]at hu;obtain⟨d,rfl⟩:=List.getElem?_eq_some_iff.1 hj;cases hu
   rw[Nat.zero_add];exact h j d
 ·cases hu⟩
theorem zb0k {W:World} {g n m c:Nat} {b:List ByteArray} (h:∀j (hj:j<b.length),W.cell? ⟨g,j,none⟩=some (.string b[j])):Src W (some ⟨g,n,none⟩) m c ((b.drop n).map Value.string):=Or.inr ⟨g,n,rfl,fun j u hu=>by
 rw[List.getElem?_map,List.getElem?_drop]at hu
 cases hj:b[n+j]? with
 | none=>rw [hj]at hu;cases hu
 | some x =>
  rw[hj]at hu;obtain⟨d,rfl⟩:=List.getElem?_eq_some_iff.1 hj;cases hu
  exact h (n+j) d⟩
theorem zc6p (v:Value) (d:List Fl) (least:Int) (w:World) (hx:FlsAt w v d) (hl:d.length<=100) (eb:Short d) :
  Calls Tryz.prog 19 #[v,.int .i64 least] w fun e w'=> ∃v',e= .returned (.tuple #[v',.agg #[.int .i64 (planE d least).1,.int .i64 (atZ (planE d least).2)]])/\TssAt w' v' (if (planE d least).1=0 then planD d least else [])/\BL w w':=by
 obtain⟨br,bs,bt,bu,bw⟩:=Tryz.strInfo;have HX:Hid (∀W,BL w W->FlsAt W v d):=fun W hb=>hx.below hb;have c5:Hid (∀W,BL w W->Calls Tryz.prog 23 #[v] W fun e w'=>e= .returned (.agg #[.int .i64 (listE d).1,.int .i64 (atZ (listE d).2)])/\BL W w'):=fun W hb=>zy1 v d W (HX.out W hb) (by omega) (fun f hf=>⟨by have:=(eb f hf).1;omega,by have:=(eb f hf).2;omega⟩);have c6:Hid ((listE d).1=0->∀f∈d,0<=f.2.2.1/\f.2.2.1<=40):=fun hE f hf=>zn4 ((ze9.1 hE).2.1 f hf).1;have cg:Hid ((listE d).1≠0->planE d least=listE d):=fun e=>by unfold planE;rw[if_pos e]
 have ch:Hid ((listE d).1=0->(least<0\/41<least)->planE d least=(2,none)):=fun e e2=>by unfold planE;rw[if_neg (by simpa using e),if_neg (by omega)]
 have ci:Hid ((listE d).1=0->(0<=least/\least<=41)->planE d least=(0,none)):=fun e e2=>by unfold planE;rw[if_neg (by simpa using e),if_pos e2]
 have b0:Hid ((planE d least).1≠0->(if (planE d least).1=0 then planD d least else [])= []):=fun h=>by rw[if_neg h]
 have b1:Hid ((planE d least).1=0->(if (planE d least).1=0 then planD d least else [])=(prtN d d.length).flatMap fun p=>sevG (bnN d least p d.length)):=fun h=>by rw[if_pos h];rfl
 generalize (if (planE d least).1=0 then planD d least else [])=QD at *;generalize planE d least=PE at *;generalize f8:listE d=V at *;have c7:Hid (∀n,(prtN d n).length<=100):=fun n=>Nat.le_trans (za9j d n) hl;obtain⟨q,gr,rfl⟩:=hx.form;obtain⟨L,hL⟩:∃L,d.length=L:=⟨_,rfl⟩;have HL:Hid (d.length=L):=hL;have gg:L<=100:=by omega
 rw[hL]at HX c5 b1 ⊢;clear hx hl hL eb f8;have c8:BL w (w.alloc (.cells #[.int .i64 0,.int .i64 0] 53)):=alB _ _;have c9:FC (w.alloc (.cells #[.int .i64 0,.int .i64 0] 53)) w.heap.size 0 0:=FC.new w;have B:w.heap.size<=w.heap.size:=Nat.le_refl _
 go_enter Tryz.func19,Tryz.ntmps19
 go_upto_region 1 with fail
 generalize w.alloc (.cells #[.int .i64 0,.int .i64 0] 53)=W1 at *
 go_wp2_with fail
 refine(c5.out W1 c8).mono ?_;rintro e w4 ⟨rfl,T⟩;have da:BL w4 (w4.alloc (.cells #[.int .i64 V.1,.int .i64 (atZ V.2)] 53)):=alB _ _;have ax:BL W1 (w4.alloc (.cells #[.int .i64 V.1,.int .i64 (atZ V.2)] 53)):=trB T da;have X:FC (w4.alloc (.cells #[.int .i64 V.1,.int .i64 (atZ V.2)] 53)) w4.heap.size V.1 (atZ V.2):=heap_alloc_new _ _;have ae:FC (w4.alloc (.cells #[.int .i64 V.1,.int .i64 (atZ V.2)] 53)) w.heap.size 0 0:=c9.below ax;have an:BL w (w4.alloc (.cells #[.int .i64 V.1,.int .i64 (atZ V.2)] 53)):=trB c8 ax;have e9:w.heap.size<w4.heap.size:=(c9.below T).lt;clear T da ax c9 c8 c5
 go_upto_region 2 with fail
 generalize w4.alloc (.cells #[.int .i64 V.1,.int .i64 (atZ V.2)] 53)=W5 at *;generalize w4.heap.size=R at *;by_cases hE:V.1=0
 case neg =>
  have ao:Hid (PE=V):=cg.out hE;have HQ:Hid (QD= []):=b0.out (by rw[ao.out];exact hE);have ge:(0:Int)<(V.1:Int):=by omega
  have fa:¬(V.1:Int)=0:=by omega
  have E:BL W5 W5.drew:=(Below.refl _ _).drew;have b2:=trB an E;have j0:=ae.c0;have j1:=ae.c1;have jz:=ae.fz;have m0:=(ae.below E).c0;have m1:=(ae.below E).c1;have mz:=(ae.below E).fz;have n0:=X.c0;have n1:=X.c1;have q0:=(X.below E).c0;have q1:=(X.below E).c1;clear E ae X hE cg ch ci b0 b1
  go_wp2_with fail
  go_region
  all_goals go_wp2
  all_goals refine bodyPost_ret (v:=.tuple #[.slice none 0 0,.agg #[.int .i64 V.1,.int .i64 (atZ V.2)]]) (by simp[results,Tryz.results19,go_sem,j0,j1]) rfl ?_
  all_goals refine⟨_,by rw[ao.out],by rw[HQ.out];exact zn7 _,?_⟩
  all_goals first
   | exact(an.setCell B _).setCell B _
   | exact(b2.setCell B _).setCell B _
   | exact((an.setCell B _).setCell B _).drew
 case pos =>
 have db:Hid (∀f∈d,0<=f.2.2.1/\f.2.2.1<=40):=c6.out hE;rw[hE]at X;have n0:=X.c0;rw[show ((0:Nat):Int)=0 from rfl]at n0 X;generalize atZ V.2=dz at *;by_cases cj:0<=least/\least<=41
 case neg =>
  have ao:Hid (PE=(2,none)):=ch.out hE (by omega);have HQ:Hid (QD= []):=b0.out (by rw[ao.out];simp);have n1:=X.c1;have nz:=X.fz;have cl:=za9z 2 W5;have cm:Hid (∀U,BL W5 U->FC U w.heap.size 0 0/\FC U R 0 dz/\BL w U):=fun U au=>⟨ae.below au,X.below au,(trB an au)⟩;have bx:w.heap.size<=R:=by omega
  clear ae X hE cg ch ci b0 b1 c6;by_cases fc:least<0
  ·go_wp2_with fail
   refine cl.mono ?_;rintro e U ⟨rfl,au⟩;clear cl;obtain⟨bj,ai,bh⟩:=cm.out U au;have y0:=ai.c0;have y1:=ai.c1;have yz:=ai.fz;have af:=ai.set 2 (-1);have b3:But (fun k=>k=R) U ((U.setCell ⟨R,0,none⟩ (.int .i64 2)).setCell ⟨R,1,none⟩ (.int .i64 (-1))):=((But.refl (fun k=>k=R) U).setCell (Or.inl (Eq.refl _)) _).setCell (Or.inl (Eq.refl _)) _;have O:FC ((U.setCell ⟨R,0,none⟩ (.int .i64 2)).setCell ⟨R,1,none⟩ (.int .i64 (-1))) w.heap.size 0 0:=(b3.block _ bj.lt (by omega)).trans bj;have bb:BL w ((U.setCell ⟨R,0,none⟩ (.int .i64 2)).setCell ⟨R,1,none⟩ (.int .i64 (-1))):=(bh.setCell bx _).setCell bx _;clear cm bj ai bh au b3 n0 n1 nz
   go_upto_region 4 with fail
   clear y0 y1 yz;generalize (U.setCell ⟨R,0,none⟩ (.int .i64 2)).setCell ⟨R,1,none⟩ (.int .i64 (-1))=W7 at *;have E:BL W7 W7.drew:=(Below.refl _ _).drew;have b2:=trB bb E;have j0:=O.c0;have j1:=O.c1;have jz:=O.fz;have m0:=(O.below E).c0;have m1:=(O.below E).c1;have mz:=(O.below E).fz;have n0:=af.c0;have n1:=af.c1;have q0:=(af.below E).c0;have q1:=(af.below E).c1;clear E O af
   go_wp2_with fail
   go_region
   all_goals go_wp2
   all_goals refine bodyPost_ret (v:=.tuple #[.slice none 0 0,.agg #[.int .i64 2,.int .i64 (-1)]]) (by simp[results,Tryz.results19,go_sem,j0,j1]) rfl ?_
   all_goals refine⟨_,by rw[ao.out];rfl,by rw[HQ.out];exact zn7 _,?_⟩
   all_goals first
    | exact(bb.setCell B _).setCell B _
    | exact(b2.setCell B _).setCell B _
    | exact((bb.setCell B _).setCell B _).drew
  ·have fd:41<least:=by omega
   clear cj
   go_wp2_with fail
   refine cl.mono ?_;rintro e U ⟨rfl,au⟩;clear cl;obtain⟨bj,ai,bh⟩:=cm.out U au;have y0:=ai.c0;have y1:=ai.c1;have yz:=ai.fz;have af:=ai.set 2 (-1);have b3:But (fun k=>k=R) U ((U.setCell ⟨R,0,none⟩ (.int .i64 2)).setCell ⟨R,1,none⟩ (.int .i64 (-1))):=((But.refl (fun k=>k=R) U).setCell (Or.inl (Eq.refl _)) _).setCell (Or.inl (Eq.refl _)) _;have O:FC ((U.setCell ⟨R,0,none⟩ (.int .i64 2)).setCell ⟨R,1,none⟩ (.int .i64 (-1))) w.heap.size 0 0:=(b3.block _ bj.lt (by omega)).trans bj;have bb:BL w ((U.setCell ⟨R,0,none⟩ (.int .i64 2)).setCell ⟨R,1,none⟩ (.int .i64 (-1))):=(bh.setCell bx _).setCell bx _;clear cm bj ai bh au b3 n0 n1 nz
   go_upto_region 4 with fail
   clear y0 y1 yz;generalize (U.setCell ⟨R,0,none⟩ (.int .i64 2)).setCell ⟨R,1,none⟩ (.int .i64 (-1))=W7 at *;have E:BL W7 W7.drew:=(Below.refl _ _).drew;have b2:=trB bb E;have j0:=O.c0;have j1:=O.c1;have jz:=O.fz;have m0:=(O.below E).c0;have m1:=(O.below E).c1;have mz:=(O.below E).fz;have n0:=af.c0;have n1:=af.c1;have q0:=(af.below E).c0;have q1:=(af.below E).c1;clear E O af
   go_wp2_with fail
   go_region
   all_goals go_wp2
   all_goals refine bodyPost_ret (v:=.tuple #[.slice none 0 0,.agg #[.int .i64 2,.int .i64 (-1)]]) (by simp[results,Tryz.results19,go_sem,j0,j1]) rfl ?_
   all_goals refine⟨_,by rw[ao.out];rfl,by rw[HQ.out];exact zn7 _,?_⟩
   all_goals first
    | exact(bb.setCell B _).setCell B _
    | exact(b2.setCell B _).setCell B _
    | exact((bb.setCell B _).setCell B _).drew
 case pos =>
 obtain⟨fy,am⟩:=cj;have ao:Hid (PE=(0,none)):=ci.out hE ⟨fy,am⟩;have fe:Hid (QD=(prtN d L).flatMap fun p=>sevG (bnN d least p L)):=b1.out (by rw[ao.out]);have fc:¬least<0:=by omega
 have fd:¬41<least:=by omega
 clear hE cg ch ci b0 b1 c6 X e9
 go_wp2_with fail
 clear n0
 go_loopw [7,8,9,10,11] (fun pv i _ _ _ wr=> ∃n:Nat,n<=L/\i= .int .i64 n/\PLS w wr pv (prtN d n)) (fun _ i _ _ _ _=>L-(intOf i).toNat)
 case atStart=>exact ⟨0,by omega,rfl,an,ae,World.ownsRow_nil _ _ _ _⟩
 case round =>
 clear an ae;obtain⟨n,hn,rfl,Z⟩:=hrel;have hB:=Z.low;by_cases ec:n<L
 case pos =>
  have bd:n<d.length:=by rw[HL.out];exact ec
  obtain⟨b,o,hq,hc⟩:=(HX.out wr hB).cells (fun e=>by rw[e]at bd;simp at bd);subst hq;have c1:=(hc n bd).2.1;have ed:Hid (prtN d (n+1)=insS d[n].2.1 (prtN d n)):=zc4w bd;have dc:=c7.out n;generalize prtN d n=r at *;generalize d[n].2.1=p at *;obtain⟨F,aa⟩:∃k,r.length=k:=⟨_,rfl⟩;have C:Hid (r.length=F):=aa;obtain⟨pq,pc,ca⟩:=zb4 Z.prt;rw[aa]at ca dc;subst ca;have gh:(n:Int)<(L:Int):=by omega
  have gi:(0:Int)<=(n:Int):=by omega
  have HI:Hid (PLS w wr (.slice pq F pc) r):=Z;have be:Hid (∀W,BL wr W->0<F->∃pb,pq=some ⟨pb,0,none⟩/\∀j (hj:j<r.length),W.cell? ⟨pb,j,none⟩=some (.string r[j])):=fun W hW h0=>by
   obtain⟨pb,e,hc⟩:=(zg1 (Z.below hW).prt).cells (fun e=>by rw[e]at aa;simp at aa;omega);exact⟨pb,e,hc⟩
  have dd:Hid (∀W,BL wr W->W.cell? ⟨b,o+n*6+1,none⟩=some (.string p)):=fun W hW=>za0 hW c1;clear hc bd aa Z c1;obtain⟨I,d0⟩:∃W,W=wr:=⟨_,rfl⟩;subst d0;obtain⟨K,hK⟩:∃k,plcS p r=k:=⟨_,rfl⟩;have HK:Hid (plcS p r=K):=hK;have fg:K<=F:=by rw[<-hK,<-C.out];exact zb0d r
  clear hK
  go_wp2_with fail
  go_loopw [9] (fun a wx=> ∃k:Nat,k<=K/\a= .int .i64 k/\BL I wx) (fun a _=>K-(intOf a).toNat)
  case atStart=>exact ⟨0,by omega,rfl,Below.refl _ _⟩
  case round =>
  obtain⟨k,M,rfl,y⟩:=hrel
  go_upto_region 11 with fail
  go_cut [58] from 43 to 57 (fun c wx=>c= .bool (decide (k<K))/\BL I wx)
  case first =>
   by_cases ee:k<F
   case pos =>
    have D:k<r.length:=by rw[C.out];exact ee
    obtain⟨pb,d4,cb⟩:=be.out wr y (by omega);subst d4;have ck:=cb k D;have c1:=dd.out wr y;have g1:(k:Int)<(F:Int):=by omega
    have g0:(0:Int)<=(k:Int):=by omega
    have HD:Hid (ltS r[k] p=decide (k<K)):=by
     show _=_;by_cases ag:k<K
     ·rw[decide_eq_true ag];exact zb0b D (by rw[HK.out];exact ag)
     ·obtain rfl:k=K:=by omega
      rw[decide_eq_false (Nat.lt_irrefl _)];have z:=zb0c (p:=p) (l:=r) (by rw[HK.out];exact D);simp only[HK.out]at z;exact z
    generalize r[k]=pk at *;have hd:=HD.out;unfold ltS at hd;clear HD D cb;generalize decide (k<K)=DD at *;cases DD
    all_goals go_quiet (fail)
    all_goals go_wp2
    all_goals go_meet
    all_goals exact⟨rfl,za4 y nq⟩
   case neg =>
    have g1:¬(k:Int)<(F:Int):=by omega
    have HD:Hid (decide (k<K)=false):=decide_eq_false (by omega)
    go_quiet (fail)
    go_wp2;go_meet;exact⟨by rw[HD.out],za4 y nq⟩
  case rest =>
  obtain⟨rfl,J⟩:=hcut;by_cases ag:k<K
  case pos =>
   have hd:decide (k<K)=true:=decide_eq_true ag;rw[hd];go_wp2;go_roundw
   case rel=>exact ⟨k+1,by omega,by go_num,J⟩
   case measure=>simp [intOf];omega
  case neg =>
  obtain rfl:k=K:=by omega
  rw[decide_eq_false (Nat.lt_irrefl k)];clear y ag M;have de:=HI.out.below J;have df:=dd.out wc J;have ef:=zc5r p (.slice pq F pc) r wc (zg1 de.prt) (by rw[C.out];omega);have av:Hid (prtN d (n+1)=if (inT r p || decide (p.data.toList= [45]))=true then r else r.take k++ [p]++r.drop k):=by
   show _=_;rw[ed.out];unfold insS;rw[za1i,HK.out]
  have ap:Hid (PLS w wc (.slice pq F pc) r):=de;have e5:Hid (0<F->∃pb,pq=some ⟨pb,0,none⟩/\∀j (hj:j<r.length),wc.cell? ⟨pb,j,none⟩=some (.string r[j])):=be.out wc J;clear ed HK HI be dd de J;generalize inT r p=IT at *
  go_wp2_with fail
  refine ef.mono ?_;rintro e wq ⟨rfl,dg⟩;replace dg:=dg.symm;subst dg;clear ef;cases IT
  case true =>
   have bf:Hid (prtN d (n+1)=r):=by show _=_;rw[av.out];rfl
   clear av;go_wp2;go_roundw
   case rel=>exact ⟨n+1,by omega,by go_num,by rw[bf.out];exact ap.out⟩
   case measure=>simp [intOf];omega
  case false =>
  by_cases hg:p.data.toList= [45]
  case pos =>
   have d1:(p.toList == [45])=true:=za6 hg;have bf:Hid (prtN d (n+1)=r):=by show _=_;rw[av.out,decide_eq_true hg];rfl
   clear av hg;go_wp2;go_roundw
   case rel=>exact ⟨n+1,by omega,by go_num,by rw[bf.out];exact ap.out⟩
   case measure=>simp [intOf];omega
  case neg =>
  have d1:(p.toList == [45])=false:=za7 hg;have bf:Hid (prtN d (n+1)=r.take k++ [p]++r.drop k):=by show _=_;rw[av.out,decide_eq_false hg];rfl
  clear av hg;have ee:k<=F:=fg;have i1:(0:Int)<=(k:Int):=by omega
  have i2:(k:Int)<=(F:Int):=by omega
  rcases ap.out.prt.2 with⟨hv,-⟩|⟨g,gf,gy,hv,-,-,e8,-,-,-⟩
  case inl =>
   simp only[Value.slice.injEq]at hv;obtain⟨rfl,rfl,rfl⟩:=hv;obtain rfl:k=0:=by omega
   go_wp2_with (at_builtin;(refine zb1 rfl _ _ 39 rfl wc.heap.size 9 br (.string ⟨#[]⟩) 1 16 Tryz.underlying39 bs bt bu bw rfl (by decide) (.slice none 0 0) 0 [] rfl ?a0 _ _ _ ((r.take 0).map Value.string) rfl ?a1 ?a2 ?a3 ?a4 ?a5 ?a6 ?_))
   case a0=>exact World.ownsRow_nil _ _ _ _
   case a1=>have:=C.out;rw[List.length_map,List.length_take];omega
   case a2=>exact Or.inl ⟨rfl,fun _=>rfl⟩
   case a3=>exact zk0 _
   case a4=>unfold maxLen;omega
   case a5=>omega
   case a6=>exact Nat.le_refl _
   intro v1 y1 a8 am _;have H:BL wc y1:=(Below.refl _ _).grown am (Nat.le_refl _) (fun k M=>by simp[Value.ownBlock]at M);have ah:y1.ownsRow wc.heap.size 9 1 v1 (r.take 0).length ((r.take 0).map Value.string):=zb3 a8 (by have:=C.out;rw[List.length_take];omega) (by simp);have d3:=za0 H df;obtain⟨v2,y2,al,a7,S,-⟩:=zg2 ah H.size p rfl (by rw[List.length_take];omega);have y:BL wc y2:=H.trans (S.below H.size (fun k M=>(za5 ah M).1));have bg:BL y1 (y1.alloc (.cells #[.string p] 9)):=alB _ _;have P:Hid (y2.ownsRow wc.heap.size 9 1 v2 (r.take 0++ [p]).length ((r.take 0++ [p]).map Value.string)):=a7;clear a8 am ah S a7
   go_upto_region 18 with(at_builtin;refine zd2 (by rfl) _ _ _ (by rfl) _ _ _ (by rfl) (by rfl) al ?_)
   clear al d3 bg
   go_wp2_with (at_builtin;(refine zb1 rfl _ _ 39 rfl wc.heap.size 9 br (.string ⟨#[]⟩) 1 16 Tryz.underlying39 bs bt bu bw rfl (by decide) v2 (r.take 0++ [p]).length ((r.take 0++ [p]).map Value.string) rfl ?a0 _ _ _ ((r.drop 0).map Value.string) rfl ?a1 ?a2 ?a3 ?a4 ?a5 ?a6 ?_))
   case a0=>exact P.out
   case a1=>have:=C.out;rw[List.length_map,List.length_drop];omega
   case a2=>exact Or.inl ⟨rfl,fun _=>rfl⟩
   case a3=>exact zk0 _
   case a4=>have:=C.out;simp only[List.length_append,List.length_take,List.length_singleton];unfold maxLen;omega
   case a5=>have:=C.out;simp only[List.length_append,List.length_take,List.length_singleton];omega
   case a6=>exact y.size
   intro v3 y3 a9 ba _;have J:BL wc y3:=y.grown ba y.size (fun k M=>(za5 P.out M).1);have HN:Hid (PLS w y3 v3 (prtN d (n+1))):=by
    have z:=ap.out.below J;refine⟨z.low,z.res,?_⟩;rw[bf.out];exact zj4 (zb3 a9 (by have:=C.out;simp only[List.length_append,List.length_take,List.length_singleton,List.length_drop];omega) (by simp)) ap.out.low.size
   clear a9 ba P y H J;go_wp2;go_roundw
   case rel=>exact ⟨n+1,by omega,by go_num,HN.out⟩
   case measure=>simp [intOf];omega
  case inr =>
   simp only[Value.slice.injEq]at hv;obtain⟨rfl,-,rfl⟩:=hv;rw[C.out]at e8;have i3:(k:Int)<=(pc:Int):=by omega
   have i4:(F:Int)<=(pc:Int):=by omega
   have cn:Hid (∀W,BL wc W->∀j (hj:j<r.length),W.cell? ⟨g,j,none⟩=some (.string r[j])):=fun W hW j hj=>by
    obtain⟨pb,e,hc⟩:=e5.out (by rw[<-C.out];omega);injection e with e;injection e with e _ _;subst e;exact za0 hW (hc j hj)
   by_cases fh:pc=k
   case pos =>
    obtain rfl:k=pc:=fh.symm;obtain rfl:F=k:=by omega
    go_wp2_with (at_builtin;(refine zb1 rfl _ _ 39 rfl wc.heap.size 9 br (.string ⟨#[]⟩) 1 16 Tryz.underlying39 bs bt bu bw rfl (by decide) (.slice none 0 0) 0 [] rfl ?a0 _ _ _ ((r.take F).map Value.string) rfl ?a1 ?a2 ?a3 ?a4 ?a5 ?a6 ?_))
    case a0=>exact World.ownsRow_nil _ _ _ _
    case a1=>have:=C.out;rw[List.length_map,List.length_take];omega
    case a2=>exact zb0j (cn.out wc (Below.refl _ _))
    case a3=>exact zk0 _
    case a4=>unfold maxLen;omega
    case a5=>omega
    case a6=>exact Nat.le_refl _
    intro v1 y1 a8 am _;have H:BL wc y1:=(Below.refl _ _).grown am (Nat.le_refl _) (fun k M=>by simp[Value.ownBlock]at M);have ah:y1.ownsRow wc.heap.size 9 1 v1 (r.take F).length ((r.take F).map Value.string):=zb3 a8 (by have:=C.out;rw[List.length_take];omega) (by simp);have d3:=za0 H df;obtain⟨v2,y2,al,a7,S,-⟩:=zg2 ah H.size p rfl (by rw[List.length_take];omega);have y:BL wc y2:=H.trans (S.below H.size (fun k M=>(za5 ah M).1));have bg:BL y1 (y1.alloc (.cells #[.string p] 9)):=alB _ _;have P:Hid (y2.ownsRow wc.heap.size 9 1 v2 (r.take F++ [p]).length ((r.take F++ [p]).map Value.string)):=a7;clear a8 am ah S a7
    go_upto_region 18 with(at_builtin;refine zd2 (by rfl) _ _ _ (by rfl) _ _ _ (by rfl) (by rfl) al ?_)
    clear al d3 bg
    go_wp2_with (at_builtin;(refine zb1 rfl _ _ 39 rfl wc.heap.size 9 br (.string ⟨#[]⟩) 1 16 Tryz.underlying39 bs bt bu bw rfl (by decide) v2 (r.take F++ [p]).length ((r.take F++ [p]).map Value.string) rfl ?a0 _ _ _ ((r.drop F).map Value.string) rfl ?a1 ?a2 ?a3 ?a4 ?a5 ?a6 ?_))
    case a0=>exact P.out
    case a1=>have:=C.out;rw[List.length_map,List.length_drop];omega
    case a2=>exact Or.inl ⟨by omega,fun h=>nomatch h⟩
    case a3=>exact zk0 _
    case a4=>have:=C.out;simp only[List.length_append,List.length_take,List.length_singleton];unfold maxLen;omega
    case a5=>have:=C.out;simp only[List.length_append,List.length_take,List.length_singleton];omega
    case a6=>exact y.size
    intro v3 y3 a9 ba _;have J:BL wc y3:=y.grown ba y.size (fun k M=>(za5 P.out M).1);have HN:Hid (PLS w y3 v3 (prtN d (n+1))):=by
     have z:=ap.out.below J;refine⟨z.low,z.res,?_⟩;rw[bf.out];exact zj4 (zb3 a9 (by have:=C.out;simp only[List.length_append,List.length_take,List.length_singleton,List.length_drop];omega) (by simp)) ap.out.low.size
    clear a9 ba P y H J;go_wp2;go_roundw
    case rel=>exact ⟨n+1,by omega,by go_num,HN.out⟩
    case measure=>simp [intOf];omega
   case neg =>
    go_wp2_with (at_builtin;(refine zb1 rfl _ _ 39 rfl wc.heap.size 9 br (.string ⟨#[]⟩) 1 16 Tryz.underlying39 bs bt bu bw rfl (by decide) (.slice none 0 0) 0 [] rfl ?a0 _ _ _ ((r.take k).map Value.string) rfl ?a1 ?a2 ?a3 ?a4 ?a5 ?a6 ?_))
    case a0=>exact World.ownsRow_nil _ _ _ _
    case a1=>have:=C.out;rw[List.length_map,List.length_take];omega
    case a2=>exact zb0j (cn.out wc (Below.refl _ _))
    case a3=>exact zk0 _
    case a4=>unfold maxLen;omega
    case a5=>omega
    case a6=>exact Nat.le_refl _
    intro v1 y1 a8 am _;have H:BL wc y1:=(Below.refl _ _).grown am (Nat.le_refl _) (fun k M=>by simp[Value.ownBlock]at M);have ah:y1.ownsRow wc.heap.size 9 1 v1 (r.take k).length ((r.take k).map Value.string):=zb3 a8 (by have:=C.out;rw[List.length_take];omega) (by simp);have d3:=za0 H df;obtain⟨v2,y2,al,a7,S,-⟩:=zg2 ah H.size p rfl (by rw[List.length_take];omega);have y:BL wc y2:=H.trans (S.below H.size (fun k M=>(za5 ah M).1));have bg:BL y1 (y1.alloc (.cells #[.string p] 9)):=alB _ _;have P:Hid (y2.ownsRow wc.heap.size 9 1 v2 (r.take k++ [p]).length ((r.take k++ [p]).map Value.string)):=a7;clear a8 am ah S a7
    go_upto_region 18 with(at_builtin;refine zd2 (by rfl) _ _ _ (by rfl) _ _ _ (by rfl) (by rfl) al ?_)
    clear al d3 bg
    go_wp2_with (at_builtin;(refine zb1 rfl _ _ 39 rfl wc.heap.size 9 br (.string ⟨#[]⟩) 1 16 Tryz.underlying39 bs bt bu bw rfl (by decide) v2 (r.take k++ [p]).length ((r.take k++ [p]).map Value.string) rfl ?a0 _ _ _ ((r.drop k).map Value.string) rfl ?a1 ?a2 ?a3 ?a4 ?a5 ?a6 ?_))
    case a0=>exact P.out
    case a1=>have:=C.out;rw[List.length_map,List.length_drop];omega
    case a2=>first
     | exact zb0k (cn.out y2 y)
     | simpa using zb0k (cn.out y2 y)
    case a3=>exact zk0 _
    case a4=>have:=C.out;simp only[List.length_append,List.length_take,List.length_singleton];unfold maxLen;omega
    case a5=>have:=C.out;simp only[List.length_append,List.length_take,List.length_singleton];omega
    case a6=>exact y.size
    intro v3 y3 a9 ba _;have J:BL wc y3:=y.grown ba y.size (fun k M=>(za5 P.out M).1);have HN:Hid (PLS w y3 v3 (prtN d (n+1))):=by
     have z:=ap.out.below J;refine⟨z.low,z.res,?_⟩;rw[bf.out];exact zj4 (zb3 a9 (by have:=C.out;simp only[List.length_append,List.length_take,List.length_singleton,List.length_drop];omega) (by simp)) ap.out.low.size
    clear a9 ba P y H J;go_wp2;go_roundw
    case rel=>exact ⟨n+1,by omega,by go_num,HN.out⟩
    case measure=>simp [intOf];omega
 case neg =>
 obtain rfl:n=L:=by omega
 have g9:¬(n:Int)<(n:Int):=by omega
 have dc:=c7.out n;have HI:Hid (PLS w wr u7 (prtN d n)):=Z;generalize prtN d n=r at *;obtain⟨F,aa⟩:∃k,r.length=k:=⟨_,rfl⟩;have C:Hid (r.length=F):=aa;obtain⟨pq,pc,ca⟩:=zb4 Z.prt;rw[aa]at ca dc;subst ca;clear aa Z hB c7 ec
 go_wp2_with fail
 go_loopw [12,13,14,15,16,17,18] (fun ov i _ _ _ _ _ wr=> ∃m:Nat,m<=F/\i= .int .i64 m/\PLS w wr (.slice pq F pc) r/\OutIn w.heap.size wr ov ((r.take m).flatMap fun p=>sevG (bnN d least p n))) (fun _ i _ _ _ _ _ _=>F-(intOf i).toNat)
 case atStart=>exact ⟨0,by omega,rfl,HI.out,OutIn.nil _ _⟩
 case round =>
 clear HI;obtain⟨m,hm,rfl,Z,hO⟩:=hrel;have HI:Hid (PLS w wr (.slice pq F pc) r):=Z;have HO:Hid (OutIn w.heap.size wr u12 ((r.take m).flatMap fun p=>sevG (bnN d least p n))):=hO;clear hO;by_cases fi:m<F
 case neg =>
  obtain rfl:m=F:=by omega
  have ab:Hid (OutIn w.heap.size wr u12 QD):=by
   have z:=HO.out;rw[<-C.out,List.take_length,<-fe.out]at z;exact z
  obtain⟨qo,co,et⟩:=ab.out.form;have g1:¬(m:Int)<(m:Int):=by omega
  have eg:=ze1 wr;have dh:=Z.res;have di:=Z.low;generalize QD.length=QL at et;subst et;clear HI HO Z
  go_wp2_with fail
  refine eg.mono ?_;rintro e w9 ⟨rfl,az⟩;clear eg;have b4:=dh.below az;have j0:=b4.c0;have j1:=b4.c1;have jz:=b4.fz;have fj:Hid (TssAt ((w9.setCell ⟨w.heap.size,0,none⟩ (.int .i64 0)).setCell ⟨w.heap.size,1,none⟩ (.int .i64 (-1))) (.slice qo QL co) QD):=((ab.out.below az).res b4 _ _).tss;have fl:BL w ((w9.setCell ⟨w.heap.size,0,none⟩ (.int .i64 0)).setCell ⟨w.heap.size,1,none⟩ (.int .i64 (-1))):=((trB di az).setCell B _).setCell B _;clear b4 dh di az ab;go_wp2;refine bodyPost_ret (v:=.tuple #[.slice qo QL co,.agg #[.int .i64 0,.int .i64 (-1)]]) (by simp[results,Tryz.results19,go_sem,j0,j1]) rfl ?_;exact⟨_,by rw[ao.out];rfl,fj.out,fl⟩
 case pos =>
 have b5:m<r.length:=by rw[C.out];exact fi
 have eh:Hid ((r.take (m+1)).flatMap (fun p=>sevG (bnN d least p n))=(r.take m).flatMap (fun p=>sevG (bnN d least p n))++sevG (bnN d least r[m] n)):=by
  show _=_;rw[List.take_succ_eq_append_getElem b5,List.flatMap_append];simp
 obtain⟨pb,d4,cb⟩:=(zg1 Z.prt).cells (fun e=>by rw[e]at b5;simp at b5);subst d4;have be:Hid (∀W,BL wr W->W.cell? ⟨pb,m,none⟩=some (.string r[m])):=fun W hW=>za0 hW (cb m b5);have dj:Hid (∀i,i<=n->GsOk i (bnN d least r[m] i)):=fun i hi=>zn8 r[m] db.out i (by rw[HL.out];exact hi);have ei:Hid (∀i,∀g∈bnN d least r[m] i,g.1=r[m]):=fun i=>zc6n;have ej:Hid (∀i (hi:i<d.length),binB least r[m] d[i]=true->bnN d least r[m] (i+1)=putG d[i] (bnN d least r[m] i)):=fun i hi e=>za9k hi e;have ek:Hid (∀i (hi:i<d.length),binB least r[m] d[i]=false->bnN d least r[m] (i+1)=bnN d least r[m] i):=fun i hi e=>za9l hi e;have em:Hid (bnN d least r[m] 0= []):=by show _=_;unfold bnN;rfl
 generalize r[m]=p at *;generalize f9:bnN d least p=A at *;have hB:=Z.low;have g1:(m:Int)<(F:Int):=by omega
 have g0:(0:Int)<=(m:Int):=by omega
 clear cb b5 Z f9;obtain⟨I,d0⟩:∃W,W=wr:=⟨_,rfl⟩;subst d0
 go_wp2_with fail
 go_loopw [14,15,16,17] (fun bv i _ _ wx=> ∃(i0:Nat) (t:List Bx),i0<=n/\i= .int .i64 i0/\BinsIn I.heap.size wx bv t/\t.map (·.2)=A i0/\BL I wx) (fun _ i _ _ _=>n-(intOf i).toNat)
 case atStart=>exact ⟨0, [],by omega,rfl,BinsIn.nil _ _,em.out.symm,Below.refl _ _⟩
 case round =>
 obtain⟨i,t,gt,rfl,hX,eu,y⟩:=hrel;have ac:Hid (BinsIn I.heap.size wr u14 t):=hX;have Y:Hid (t.map (·.2)=A i):=eu;clear hX eu;have dk:BL w wr:=trB hB y;by_cases fm:i<n
 case pos =>
  have ay:i<d.length:=by rw[HL.out];exact fm
  obtain⟨b,o,hq,hc⟩:=(HX.out wr dk).cells (fun e=>by rw[e]at ay;simp at ay);subst hq;have cp:Hid (∀W,BL I W->W.cell? ⟨b,o+i*6,none⟩=some (.string d[i].1)/\W.cell? ⟨b,o+i*6+1,none⟩=some (.string d[i].2.1)/\W.cell? ⟨b,o+i*6+2,none⟩=some (.int .i64 d[i].2.2.1)):=fun W hW=>by
   obtain⟨b',o',ar,f6⟩:=(HX.out W (trB hB hW)).cells (fun e=>by rw[e]at ay;simp at ay);injection ar with ar;injection ar with e1 e2 _;subst e1 e2;obtain⟨k0,k1,k2,_,_,_⟩:=f6 i ay;exact⟨k0,k1,k2⟩
  obtain⟨c0,c1,c2⟩:=cp.out wr y;have fn:=be.out wr y;have gj:=db.out d[i] (List.getElem_mem _);have cq:Hid (binB least p d[i]=true->A (i+1)=putG d[i] (A i)):=ej.out i ay;have b6:Hid (binB least p d[i]=false->A (i+1)=A i):=ek.out i ay;have cr:Hid (GsOk i (A i)/\∀g∈A i,g.1=p):=⟨dj.out i (by omega),ei.out i⟩;have bl:Hid (binB least p d[i]=(decide (d[i].2.1=p) && decide (d[i].2.2.1<least))):=rfl;generalize d[i]=f at *;generalize binB least p f=BB at *;have gk:(i:Int)<(n:Int):=by omega
  have gl:(0:Int)<=(i:Int):=by omega
  clear hc ay;obtain⟨f0,f1,G,f3,f4,f5⟩:=f;dsimp only at *;by_cases cs:f1=p
  case neg =>
   have d1:(f1.toList == p.toList)=false:=neBB (fun e=>cs (zc1 e));have HS:Hid (A (i+1)=A i):=b6.out (by rw[bl.out,decide_eq_false cs];rfl);clear cq b6 bl cs cr;go_wp2
   go_quiet (fail)
   have az:=za4 y nq;have dl:Hid (BinsIn I.heap.size (wr.drewN nq) u14 t):=ac.out.below (za4 (Below.refl _ _) nq);go_wp2;go_roundw
   case rel=>exact ⟨i+1,t,by omega,by go_num,dl.out,by rw[HS.out];exact Y.out,az⟩
   case measure=>simp [intOf];omega
  case pos =>
  subst cs;have d1:(f1.toList == f1.toList)=true:=by simp
  by_cases dm:G<least
  case neg =>
   have d2:decide (least<=G)=true:=decide_eq_true (by omega);have HS:Hid (A (i+1)=A i):=b6.out (by rw[bl.out,decide_eq_false dm,Bool.and_false]);clear cq b6 bl cr;go_wp2
   go_quiet (fail)
   have az:=za4 y nq;have dl:Hid (BinsIn I.heap.size (wr.drewN nq) u14 t):=ac.out.below (za4 (Below.refl _ _) nq);go_wp2;go_roundw
   case rel=>exact ⟨i+1,t,by omega,by go_num,dl.out,by rw[HS.out];exact Y.out,az⟩
   case measure=>simp [intOf];omega
  case pos =>
  have d2:decide (least<=G)=false:=decide_eq_false (by omega);have HS:Hid (A (i+1)=putG (f0,f1,G,f3,f4,f5) (A i)):=cq.out (by rw[bl.out,decide_eq_true dm,decide_eq_true rfl];rfl);clear cq b6 bl;go_wp2
  go_quiet (fail)
  have en:=za4 (Below.refl wr.heap.size wr) nq;have J:=za4 y nq;have ct:Hid (BinsIn I.heap.size (wr.drewN nq) u14 t):=ac.out.below en;clear ac c0 c1 c2 fn d1 d2 dm y dk en;generalize wr.drewN nq=WB at *;obtain⟨K,hK⟩:∃k,roomI G (t.map (·.2))=k:=⟨_,rfl⟩;have HK:Hid (roomI G (t.map (·.2))=K):=hK;obtain⟨Q,bk⟩:∃k,t.length=k:=⟨_,rfl⟩;have ad:Hid (t.length=Q):=bk;have gm:K<=Q:=by
   have:=zb0e (N:=G) (t.map (·.2));rw[List.length_map]at this;omega
  obtain⟨bq,bc,cc⟩:=zb4 ct.out.row;rw[bk]at cc;subst cc;have cu:Hid (Q<=100/\∀x∈t,(0<=x.2.2.1/\x.2.2.1<=40)/\x.2.2.2.length<=100):=by
   have e:=Y.out;have z:=cr.out.1;have el:t.length=(A i).length:=by rw[<-e,List.length_map]
   refine⟨by have:=z.1;omega,fun x hx=>?_⟩;have fo:x.2∈A i:=by rw[<-e];exact List.mem_map.2 ⟨x,hx,rfl⟩
   have h2:=z.2 _ fo;exact⟨h2.1,by omega⟩
  have e6:=cu.out.1;clear hK bk
  go_wp2_with fail
  go_loopw [16] (fun a wx=> ∃k:Nat,k<=K/\a= .int .i64 k/\BL WB wx) (fun a _=>K-(intOf a).toNat)
  case atStart=>exact ⟨0,by omega,rfl,Below.refl _ _⟩
  case round =>
  obtain⟨k,M,rfl,T⟩:=hrel
  go_upto_region 29 with fail
  go_cut [143] from 126 to 142 (fun c wx=>c= .bool (decide (k<K))/\BL WB wx)
  case first =>
   by_cases bm:k<Q
   case pos =>
    have D:k<t.length:=by rw[ad.out];exact bm
    obtain⟨gb,d5,-,cd⟩:=(ct.out.below T).at_ (fun e=>by rw[e]at D;simp at D);subst d5;obtain⟨⟨-,e1,-⟩,-⟩:=cd k D;obtain⟨-,-,c2⟩:=cp.out wr (trB J T);have g3:(k:Int)<(Q:Int):=by omega
    have g4:(0:Int)<=(k:Int):=by omega
    have gn:=(cu.out.2 t[k] (List.getElem_mem _)).1;have HD:Hid (decide (40<t[k].2.2.1+G)=decide (k<K)):=by
     show _=_;by_cases ag:k<K
     ·rw[decide_eq_true ag];have z:=zb0f (N:=G) (l:=t.map (·.2)) (k:=k) (by rw[List.length_map];exact D) (by rw[HK.out];exact ag);rw[List.getElem_map]at z;exact decide_eq_true z
     ·obtain rfl:k=K:=by omega
      rw[decide_eq_false (Nat.lt_irrefl _)];have z:=zb0g (N:=G) (l:=t.map (·.2)) (by rw[HK.out,List.length_map];exact D);simp only[HK.out,List.getElem_map]at z;exact decide_eq_false z
    generalize t[k].2.2.1=xn at *;have fp:IntKind.i64.wrap (xn+G)=xn+G:=IntWalk.i64_in _ (by omega);have hd:=HD.out;clear HD D cd;generalize decide (k<K)=DD at *;cases DD
    all_goals go_quiet (fail)
    all_goals go_wp2
    all_goals go_meet
    all_goals exact⟨rfl,za4 T nq⟩
   case neg =>
    have g3:¬(k:Int)<(Q:Int):=by omega
    have HD:Hid (decide (k<K)=false):=decide_eq_false (by omega)
    go_quiet (fail)
    go_wp2;go_meet;exact⟨by rw[HD.out],za4 T nq⟩
  case rest =>
  obtain⟨rfl,ax⟩:=hcut;by_cases ag:k<K
  case pos =>
   have hd:decide (k<K)=true:=decide_eq_true ag;rw[hd];go_wp2;go_roundw
   case rel=>exact ⟨k+1,by omega,by go_num,ax⟩
   case measure=>simp [intOf];omega
  case neg =>
  obtain rfl:k=K:=by omega
  rw[decide_eq_false (Nat.lt_irrefl k)];clear T ag M;have eo:=ct.out.below ax;have bo:Hid (BinsIn I.heap.size wc (.slice bq Q bc) t):=eo;have bp:BL I wc:=trB J ax;have fq:=be.out wc bp;have cv:Hid (k<t.length->∀h:k<t.length,putG (f0,f1,G,f3,f4,f5) (A i)=(t.map (·.2)).set k (takeG (f0,f1,G,f3,f4,f5) t[k].2)):=fun _ h=>by
   have z:=zb0h (f:=(f0,f1,G,f3,f4,f5)) (gs:=t.map (·.2)) (by rw[Y.out];exact cr.out.2) (by rw[HK.out,List.length_map];exact h);simp only[HK.out,List.getElem_map]at z;rw[<-Y.out];exact z
  have bz:Hid (k=t.length->putG (f0,f1,G,f3,f4,f5) (A i)=A i++ [takeG (f0,f1,G,f3,f4,f5) (f1,0, [])]):=fun e=>by
   have z:=zb0i (f:=(f0,f1,G,f3,f4,f5)) (gs:=t.map (·.2)) (by rw[HK.out,List.length_map];exact e);rw[<-Y.out];exact z
  clear eo ct J ax;generalize ga:((f0,f1,G,f3,f4,f5):Fl)=ff at *
  go_upto_if 149 with fail
  go_cut [14] from 149 to 157 (fun bv wx=> ∃(s:List Bx) (M:k<s.length),BinsIn I.heap.size wx bv s/\(s.map (·.2)).set k (takeG ff s[k].2)=A (i+1)/\(s.length<=101/\(0<=s[k].2.2.1/\s[k].2.2.1<=40)/\s[k].2.2.2.length<=100)/\BL I wx)
  case first =>
   by_cases bm:k=Q
   case pos =>
    have b7:=bz.out (by rw[ad.out];exact bm);obtain⟨v',W6,hr,ev,aw⟩:=bo.out.more bp.size f1 rfl (by rw[ad.out];omega);have bh:BL I W6:=bp.trans (aw.below bp.size (fun j hj=>(za5 bo.out.row hj).1));have e7:BL wc (wc.alloc (.cells #[.string f1,.int .i64 0,.slice none 0 0] 117)):=alB _ _;have HR:Hid (∃(s:List Bx) (M:k<s.length),BinsIn I.heap.size W6 v' s/\(s.map (·.2)).set k (takeG ff s[k].2)=A (i+1)/\(s.length<=101/\(0<=s[k].2.2.1/\s[k].2.2.1<=40)/\s[k].2.2.2.length<=100)/\BL I W6):=by
     have D:k=t.length:=by rw[ad.out];exact bm
     subst D;refine⟨_,by simp,ev,?_,?_,bh⟩
     ·rw[HS.out,b7,<-Y.out];simp
     ·have:=ad.out;simp;omega
    clear ev aw b7 bo cv bz;obtain⟨vq,vl,vc,rfl⟩:∃q n c,v'= .slice q n c:=by
     obtain⟨s,_,hY,_⟩:=HR.out;obtain⟨q,c,e⟩:=zb4 hY.row;exact⟨q,_,c,e⟩
    subst bm
    go_wp2_with (at_builtin;refine zd2 (by rfl) _ _ _ (by rfl) _ _ _ (by rfl) (by rfl) hr ?_)
    go_meet;exact HR.out
   case neg =>
    have D:k<t.length:=by rw[ad.out];omega
    have HR:Hid (∃(s:List Bx) (M:k<s.length),BinsIn I.heap.size wc (.slice bq Q bc) s/\(s.map (·.2)).set k (takeG ff s[k].2)=A (i+1)/\(s.length<=101/\(0<=s[k].2.2.1/\s[k].2.2.1<=40)/\s[k].2.2.2.length<=100)/\BL I wc):=by
     have z:=cu.out.2 t[k] (List.getElem_mem _);refine⟨t,D,bo.out,?_,⟨by have:=ad.out;omega,z.1,z.2⟩,bp⟩;rw[HS.out,cv.out D D]
    have fa:¬(k:Int)=(Q:Int):=by omega
    clear bo cv bz D bm;go_wp2;go_meet;exact HR.out
  case rest =>
  clear bo cv bz ad cu Y bp fq HS HK;obtain⟨s,ce,hY,d6,⟨gu,gv,gw⟩,d7⟩:=hcut;have dn:Hid ((s.map (·.2)).set k (takeG ff s[k].2)=A (i+1)):=d6;obtain⟨YL,cf⟩:∃j,s.length=j:=⟨_,rfl⟩;have fr:Hid (s.length=YL):=cf;obtain⟨yq,yc,ew⟩:=zb4 hY.row;rw[cf]at ew;subst ew;obtain⟨gb,f7,-,ex⟩:=hY.at_ (fun e=>by rw[e]at ce;simp at ce);subst f7;obtain⟨⟨-,e1,-⟩,ez⟩:=ex k ce;obtain⟨-,-,c2⟩:=cp.out wc d7;have g3:(k:Int)<(YL:Int):=by omega
  have g4:(0:Int)<=(k:Int):=by omega
  have fp:IntKind.i64.wrap (s[k].2.2.1+G)=s[k].2.2.1+G:=IntWalk.i64_in _ (by omega);have ep:=hY.set1 cf ce (s[k].2.2.1+G);have dp:But (fun j=>j=gb) wc (wc.setCell ⟨gb,k*3+1,none⟩ (.int .i64 (s[k].2.2.1+G))):=(But.refl (fun j=>j=gb) wc).setCell (Or.inl (Eq.refl gb)) _;have eq:I.heap.size<=gb:=(za5 hY.row (k:=gb) rfl).1;have H:BL I (wc.setCell ⟨gb,k*3+1,none⟩ (.int .i64 (s[k].2.2.1+G))).drew:=(d7.trans (dp.below d7.size (fun j hj=>by rw[hj];exact eq))).drew;have dq:=ep.below (Below.drew (Below.refl _ _));have b7:Hid (∀(v':Value) (M:k<(s.set k (s[k].1,(s[k].2.1,s[k].2.2.1+G,s[k].2.2.2))).length),(((s.set k (s[k].1,(s[k].2.1,s[k].2.2.1+G,s[k].2.2.2))).set k (v',((s.set k (s[k].1,(s[k].2.1,s[k].2.2.1+G,s[k].2.2.2)))[k].2.1,(s.set k (s[k].1,(s[k].2.1,s[k].2.2.1+G,s[k].2.2.2)))[k].2.2.1,s[k].2.2.2++ [f0]))).map (·.2))=A (i+1)):=fun v' M=>by
   rw[<-dn.out,<-ga];simp[List.map_set,List.set_set,takeG]
  have ak:k<(s.set k (s[k].1,(s[k].2.1,s[k].2.2.1+G,s[k].2.2.2))).length:=by rw[List.length_set];exact ce
  have cw:Hid ((s.set k (s[k].1,(s[k].2.1,s[k].2.2.1+G,s[k].2.2.2))).length=YL):=by show _=_;rw[List.length_set];exact cf
  have dr:Hid ((s.set k (s[k].1,(s[k].2.1,s[k].2.2.1+G,s[k].2.2.2)))[k].2.2.2=s[k].2.2.2):=by show _=_;rw[List.getElem_set_self]
  clear d6 hY ep dp ex eq cf;generalize s[k].2.2.1=yn at *;generalize gc:(s.set k (s[k].1,(s[k].2.1,yn+G,s[k].2.2.2)))=zs at *;clear gc
  go_upto_region 33 with fail
  go_region
  go_upto_region 34 with fail
  clear e1 ez c2;generalize (wc.setCell ⟨gb,k*3+1,none⟩ (.int .i64 (yn+G))).drew=W1 at *;have b8:BL W1 W1.drew:=(Below.refl _ _).drew;have er:BL W1 (W1.alloc (.cells #[.string f0] 9)):=alB _ _;have b9:=dq.below b8;have cx:=trB H b8;have aq:=b9.cell zs[k] (List.getElem_mem ak);obtain⟨v',W2,hr,d8,T,ey⟩:=zg2 aq cx.size f0 rfl (by rw[dr.out];omega);have ds:=b9.set2 cw.out ak d8 T ey;have aj:W2.ownsRow I.heap.size 117 3 (.slice (some ⟨gb,0,none⟩) YL yc) zs.length (flatB zs):=za8 b9.row T (fun j hj e=>b9.off (List.getElem_mem ak) hj e);have es:BL I W2:=cx.trans (T.below cx.size (fun j hj=>(za5 aq hj).1));have an:BL I (W2.setCell ⟨gb,k*3+2,none⟩ v'):=es.setCell (p:=⟨gb,k*3+2,none⟩) (za5 aj (k:=gb) rfl).1 _;rw[dr.out]at ds;have HR:Hid (∃(i0:Nat) (t:List Bx),i0<=n/\Value.int .i64 ((i:Int)+1)= .int .i64 i0/\BinsIn I.heap.size (W2.setCell ⟨gb,k*3+2,none⟩ v') (.slice (some ⟨gb,0,none⟩) YL yc) t/\t.map (·.2)=A i0/\BL I (W2.setCell ⟨gb,k*3+2,none⟩ v')):=⟨i+1,_,by omega,by go_num,ds,b7.out v' ak,an⟩;have al:(Builtin.append_ #[39,39] 39 #[zs[k].1,.slice (some ⟨W1.heap.size,0,none⟩) 1 1]).run Tryz.prog (W1.alloc (.cells #[.string f0] 9)).drew= .ok v' W2:=hr;obtain⟨gx,ar,-,e0⟩:=dq.at_ (fun e=>by rw[e]at ak;simp at ak);injection ar with ar;injection ar with ar _ _;subst ar;have m0:=(e0 k ak).1.2.2;have m1:=za0 b8 m0;have m2:=za0 er m0;have k0:=(cp.out W1 H).1;have k1:=za0 b8 k0;have y0:W2.cell? ⟨gb,k*3+2,none⟩=some zs[k].1:=(zj8 (by rw[<-cw.out]at aj;exact aj) (by rw[zj7 ak (c:=2) (by omega)];rfl)).1;have yz:W2.frozen? ⟨gb,k*3+2,none⟩=false:=(zj8 (by rw[<-cw.out]at aj;exact aj) (u:=zs[k].1) (by rw[zj7 ak (c:=2) (by omega)];rfl)).2;obtain⟨zq,zc,e3⟩:=zb4 aq;generalize zs[k].2.2.2.length=ZL at e3;generalize zs[k].1=zv at *;subst e3;obtain⟨q',n',c',cz⟩:∃q n c,v'= .slice q n c:=by
   obtain⟨q,c,h⟩:=zb4 d8;exact⟨q,_,c,h⟩
  subst cz;clear hr b8 er dq b9 ds aq cx d8 T ey aj es an e0 H b7 cw dr dn fr ak
  go_region_law (refine za8r (by rfl) _ _ _ (by rfl) _ _ _ (by rfl) (by rfl) al ?_)
  all_goals go_wp2
  all_goals go_roundw
  all_goals first
   | (obtain⟨i0,t,z,h2,h3,h4,h5⟩:=HR.out;exact⟨i0,t,z,h2,h3,h4,h5⟩)
   | (simp[intOf];omega)
 case neg =>
 obtain rfl:i=n:=by omega
 have go:¬(i:Int)<(i:Int):=by omega
 obtain⟨Q,bk⟩:∃k,t.length=k:=⟨_,rfl⟩;have ad:Hid (t.length=Q):=bk;obtain⟨bq,bc,cc⟩:=zb4 ac.out.row;rw[bk]at cc;subst cc;have e6:Q<=100:=by
  have e:=Y.out;have z:=(dj.out i (Nat.le_refl _)).1;rw[<-e,List.length_map]at z;omega
 have bi:Hid (PLS w wr (.slice (some ⟨pb,0,none⟩) F pc) r):=HI.out.below y;have dt:=HO.out.below y;obtain⟨LS,c3⟩:∃l,(r.take m).flatMap (fun p=>sevG (bnN d least p i))=l:=⟨_,rfl⟩;rw[c3]at dt;have ab:Hid (OutIn w.heap.size wr u12 LS):=dt;have ft:Hid ((r.take (m+1)).flatMap (fun p=>sevG (bnN d least p i))=LS++sevG (A i)):=by show _=_;rw[eh.out,c3]
 have fu:Hid (LS.length<=10000):=by
  have z:=za1o (c:=100) (f:=fun p=>sevG (bnN d least p i)) (fun p=>by
   have h2:=(zn8 (least:=least) p db.out i (by rw[HL.out];exact Nat.le_refl _)).1;have h3:(sevG (bnN d least p i)).length<=(bnN d least p i).length:=by unfold sevG;rw[List.length_map];exact List.length_filter_le _ _
   omega) (r.take m)
  have h4:=List.length_take_le' m r;have h5:=C.out;rw[c3]at z;show _<=_;have h6:(r.take m).length*100<=100*100:=Nat.mul_le_mul_right _ (by omega);omega
 have fv:w.heap.size<=I.heap.size:=hB.size;clear bk dj ei ej ek em HO HI y dk dt c3 eh be
 go_wp2_with fail
 go_loopw [12,18] (fun ov kk wx=> ∃k:Nat,k<=Q/\kk= .int .i64 k/\BinsIn I.heap.size wx (.slice bq Q bc) t/\PLS w wx (.slice (some ⟨pb,0,none⟩) F pc) r/\OutIn w.heap.size wx ov (LS++sevG ((A i).take k))) (fun _ kk _=>Q-(intOf kk).toNat)
 case atStart=>exact ⟨0,by omega,rfl,ac.out,bi.out,by simpa [sevG] using ab.out⟩
 case round =>
 clear ac bi ab;obtain⟨k,M,rfl,hX,Z,hO⟩:=hrel;have ac:Hid (BinsIn I.heap.size wr (.slice bq Q bc) t):=hX;have bi:Hid (PLS w wr (.slice (some ⟨pb,0,none⟩) F pc) r):=Z;have ab:Hid (OutIn w.heap.size wr u12 (LS++sevG ((A i).take k))):=hO;clear hO;by_cases fw:k<Q
 case neg =>
  obtain rfl:k=Q:=by omega
  have HE:Hid (OutIn w.heap.size wr u12 ((r.take (m+1)).flatMap (fun p=>sevG (bnN d least p i)))):=by
   have z:=ab.out;have e:(A i).take k=A i:=by
    rw[<-Y.out,List.take_of_length_le];rw[List.length_map,ad.out];exact Nat.le_refl _
   rw[e,<-ft.out]at z;exact z
  have gp:¬(k:Int)<(k:Int):=by omega
  clear ac ab hX;go_wp2;go_roundw
  case rel=>exact ⟨m+1,by omega,by go_num,bi.out,HE.out⟩
  case measure=>simp [intOf];omega
 case pos =>
  have D:k<t.length:=by rw[ad.out];exact fw
  obtain⟨gb,d5,-,cd⟩:=hX.at_ (fun e=>by rw[e]at D;simp at D);subst d5;have e2:=(cd k D).1.2.2;have aq:=hX.cell t[k] (List.getElem_mem _);have du:k<(A i).length:=by rw[<-Y.out,List.length_map];exact D
  have dv:(A i)[k]=t[k].2:=by
   have z:=List.getElem_map (·.2) (l:=t) (i:=k) (h:=by rw[List.length_map];exact D);simp only[Y.out]at z;exact z
  have dw:Hid (1<t[k].2.2.2.length->sevG ((A i).take (k+1))=sevG ((A i).take k)++ [t[k].2.2.2]):=fun e=>by
   rw[List.take_succ_eq_append_getElem du,za1m,dv];simp[sevG,e]
  have dx:Hid (¬1<t[k].2.2.2.length->sevG ((A i).take (k+1))=sevG ((A i).take k)):=fun e=>by
   rw[List.take_succ_eq_append_getElem du,za1m,dv];simp[sevG,e]
  have fx:Hid ((sevG ((A i).take k)).length<=100):=by
   have z:(sevG ((A i).take k)).length<=((A i).take k).length:=by unfold sevG;rw[List.length_map];exact List.length_filter_le _ _
   have h2:=List.length_take_le' k (A i);have h3:(A i).length=Q:=by rw[<-Y.out,List.length_map];exact ad.out
   show _<=_;omega
  obtain⟨vq,vc,e4⟩:=zb4 aq;have dy:=zj4 aq fv;have g3:(k:Int)<(Q:Int):=by omega
  have g4:(0:Int)<=(k:Int):=by omega
  clear cd du dv;generalize gd:t[k].2.2.2=ps at *;generalize t[k].1=xv at *;clear gd;obtain⟨VL,c4⟩:∃j,ps.length=j:=⟨_,rfl⟩;have gq:Hid (ps.length=VL):=c4;rw[c4]at e4;subst e4;by_cases z:1<VL
  case neg =>
   have hd:¬(1:Int)<(VL:Int):=by omega
   have cy:Hid (sevG ((A i).take (k+1))=sevG ((A i).take k)):=dx.out (by omega);clear dw dx aq dy c4 z;go_wp2;go_roundw
   case rel=>exact ⟨k+1,by omega,by go_num,ac.out,bi.out,by rw[cy.out];exact ab.out⟩
   case measure=>simp [intOf];omega
  case pos =>
   have hd:(1:Int)<(VL:Int):=by omega
   have cy:Hid (sevG ((A i).take (k+1))=sevG ((A i).take k)++ [ps]):=dw.out (by omega);obtain⟨v',W6,hr,d9,aw,ea⟩:=ab.out.more Z.low.size dy rfl (by have:=fu.out;have:=fx.out;rw[List.length_append];omega);have HR:Hid (BinsIn I.heap.size W6 (.slice (some ⟨gb,0,none⟩) Q bc) t/\PLS w W6 (.slice (some ⟨pb,0,none⟩) F pc) r/\OutIn w.heap.size W6 v' (LS++sevG ((A i).take (k+1)))):=by
    refine⟨ac.out.out aw (fun j hj=>(ea j hj).2),bi.out.out aw ea,?_⟩;rw[cy.out,<-List.append_assoc];exact d9
   have e7:BL wr (wr.alloc (.cells #[.slice vq VL vc] 39)):=alB _ _;obtain⟨q',c',cz⟩:=d9.form;generalize ((LS++sevG ((A i).take k))++ [ps]).length=l9 at cz;subst cz;clear dw dx aq dy c4 z d9 aw ea cy ac bi ab hX Z
   go_wp2_with (at_builtin;refine zd2 (by rfl) _ _ _ (by rfl) _ _ _ (by rfl) (by rfl) hr ?_)
   go_roundw
   case rel=>exact ⟨k+1,by omega,by go_num,HR.out⟩
   case measure=>simp [intOf];omega
def pk2:Fl:=(⟨#[100,97,116,97,47,50]⟩,⟨#[97]⟩,2,0,0,1)
theorem zc6q:fileE pk2=0:=by
 have h:pathO pk2.1.data.toList=some (false,2):=za0x;unfold fileE;rw[h];decide
theorem zc6r:fk pk2=2:=zc2y
theorem zc6s:(listE [oneF 49,pk2]).1=0:=ze9.2 ⟨by decide,zv4.2 ⟨zc2x,by rw[za8l];decide,zv4.2 ⟨zc6q,by rw[za8l,zc6r];decide,by simp[Rises]⟩⟩⟩
theorem zc6t:goneP (oneF 49).1=false:=by unfold goneP;rw[za0w]
theorem zc6u:goneP pk2.1=false:=by
 have h:pathO pk2.1.data.toList=some (false,2):=za0x;unfold goneP;rw[h]
theorem zc6v:fewB 10 (oneF 49)=true:=by unfold fewB;rw[zc6t];rfl
theorem zc6w:fewB 10 pk2=true:=by unfold fewB;rw[zc6u];rfl
theorem zc6x:fitG pk2 (takeG (oneF 49) (⟨#[97]⟩,0, []))=true:=by
 unfold fitG;rw[decide_eq_true (show (takeG (oneF 49) (⟨#[97]⟩,0, [])).1=pk2.2.1 from rfl)];rfl
theorem zb0l:plN [oneF 49,pk2] 10 2= [(⟨#[97]⟩,3, [(oneF 49).1,pk2.1])]:=by
 have b:plN [oneF 49,pk2] 10 1=putG (oneF 49) (plN [oneF 49,pk2] 10 0):=zn3 (by simp) zc6v;have c:plN [oneF 49,pk2] 10 2=putG pk2 (plN [oneF 49,pk2] 10 1):=zn3 (by simp) zc6w;rw[c,b];show putG pk2 (putG (oneF 49) [])=_;have e:putG (oneF 49) []= [takeG (oneF 49) (⟨#[97]⟩,0, [])]:=rfl;rw[e];unfold putG;rw[if_pos zc6x];rfl
theorem zc6y:sevG [((⟨#[97]⟩,3, [(oneF 49).1,pk2.1]):Gp)]= [[(oneF 49).1,pk2.1]]:=rfl
theorem zc6z {W:World} {v:Value} {d:List ByteArray} (h:TsAt W v d):TxsAt W v d:=by
 rcases h with⟨rfl,rfl⟩|⟨b,c,rfl,_,f⟩
 ·exact Or.inl ⟨_,_,rfl,rfl⟩
 ·exact Or.inr ⟨b,0,c,rfl,fun j hj=>by rw[Nat.zero_add];exact f j hj⟩
theorem zc7a (W:World) (p q:ByteArray):TxsAt (W.alloc (.cells #[.string p,.string q] 9)) (.slice (some ⟨W.heap.size,0,none⟩) 2 2) [p,q]:=by
 refine Or.inr ⟨W.heap.size,0,2,rfl,fun j hj=>?_⟩
 match j,hj with
 | 0,_=>simp
 | 1,_=>simp
theorem zc7b (w:World) (a:Nat->Addr) (h:EnvL w a) :
  Calls Tryz.prog 6 #[] w fun e w'=>e= .returned (.bool true)/\BL w w':=by
 have l:BL w (w.alloc (.cells #[.string ⟨#[100,97,116,97,47,49]⟩,.string ⟨#[97]⟩,.int .i64 1,.int .i64 0,.int .i64 0,.int .i64 1,.string ⟨#[100,97,116,97,47,50]⟩,.string ⟨#[97]⟩,.int .i64 2,.int .i64 0,.int .i64 0,.int .i64 1] 43)):=alB _ _;have m:FlsAt (w.alloc (.cells #[.string ⟨#[100,97,116,97,47,49]⟩,.string ⟨#[97]⟩,.int .i64 1,.int .i64 0,.int .i64 0,.int .i64 1,.string ⟨#[100,97,116,97,47,50]⟩,.string ⟨#[97]⟩,.int .i64 2,.int .i64 0,.int .i64 0,.int .i64 1] 43)) (.slice (some ⟨w.heap.size,0,none⟩) 2 2) [oneF 49,pk2]:=zc2w w (oneF 49) pk2;have d:=zc4l _ [oneF 49,pk2] 10 _ a (h.below l) m (by decide) (fun f hf=>by
  simp only[List.mem_cons,List.not_mem_nil,or_false]at hf;rcases hf with rfl | rfl<;>decide) zc6s (by decide) (by decide) (by
  show (plN [oneF 49,pk2] 10 2).length<=1;rw[zb0l];decide)
 have D:plN [oneF 49,pk2] 10 [oneF 49,pk2].length= [(⟨#[97]⟩,3, [(oneF 49).1,pk2.1])]:=zb0l;rw[D,zc6y]at d;clear m h
 go_enter Tryz.func6,Tryz.ntmps6
 go_wp2_with fail
 refine d.mono ?_;rintro e c ⟨I,rfl,E,A⟩;clear d;have s:=trB l A;obtain⟨u,n,v,o⟩:=E;rcases v with⟨_,F⟩|⟨b,H,rfl,C⟩
 ·exact absurd F (by simp)
 have g:0<u.length:=by rw[n];simp
 have q:=C 0 g;have r:=o 0 g (by simp);have i:BL c (c.alloc (.cells #[.string ⟨#[100,97,116,97,47,49]⟩,.string ⟨#[100,97,116,97,47,50]⟩] 9)):=alB _ _;have j:=za0f u[0] _ [(oneF 49).1,pk2.1] _ ((zc6z r).below i) (zc7a c (oneF 49).1 pk2.1) (by decide);have t:=trB s i;obtain⟨y,z,p⟩:=r.form;rw[p]at q j;have k:Calls Tryz.prog 21 #[.slice y 2 z,.slice (some ⟨c.heap.size,0,none⟩) 2 2] (c.alloc (.cells #[.string ⟨#[100,97,116,97,47,49]⟩,.string ⟨#[100,97,116,97,47,50]⟩] 9)) fun e w'=>e= .returned (.bool true)/\Below (c.alloc (.cells #[.string ⟨#[100,97,116,97,47,49]⟩,.string ⟨#[100,97,116,97,47,50]⟩] 9)).heap.size (c.alloc (.cells #[.string ⟨#[100,97,116,97,47,49]⟩,.string ⟨#[100,97,116,97,47,50]⟩] 9)) w':=j;have G:c.cell? ⟨b,0,none⟩=some (.slice y 2 z):=q;clear j q C o r n g p;rw[show [[(oneF 49).1,pk2.1]].length=1 from rfl]
 go_wp2_with fail
 refine k.mono ?_;rintro e J ⟨rfl,B⟩;clear k;go_wp2;go_ret;exact⟨rfl,(trB t B)⟩
theorem zc7c (f:Fl):(chkF f).2<=12:=by
 unfold chkF;split
 ·exact Nat.zero_le _
 ·have:=za2s f;dsimp only;omega
theorem zc7d (g:Bool) (l:List UInt8):(keysF g l).2<=12:=by
 cases g
 ·exact(zg9 dataK zm3 l).1
 ·exact(zg9 goneK (fun l=>by
   show (keyO l).2<=12;unfold keyO;split
   ·exact(by decide:(1:Nat)<=12)
   ·split
    ·exact Nat.zero_le _
    ·exact(by decide:(2:Nat)<=12)) l).1
theorem zc7e (p q:ByteArray) (l:List UInt8) (b:Int):(ofF p q l b).2<=12:=by
 unfold ofF;split
 ·exact(by decide:(5:Nat)<=12)
 ·split
  ·exact zc7c _
  ·exact zc7d _ _
theorem zc7f (l:List Ob) (n:ByteArray):(getT l n).2<=12:=by
 unfold getT;split<;>simp
theorem zc7g (obs:List Ob) (x:Fl):(fileR obs x).1<=12:=by
 unfold fileR;split
 ·exact zc7f _ _
 ·split
  ·exact zc7e _ _ _ _
  ·split
   ·exact(by decide:(3:Nat)<=12)
   ·exact Nat.zero_le _
theorem za1p (obs:List Ob) (lo hi:Int):∀(fs:List Fl) (i:Nat) (acc:List (Rw×Int)),(scanG obs lo hi fs i acc).2.1<=12
 | [],_,_=>Nat.zero_le _
 | x :: r,i,acc=>by
  unfold scanG;split
  ·exact za1p obs lo hi r _ _
  ·split
   ·exact zc7g _ _
   ·exact za1p obs lo hi r _ _
theorem zc7h (obs:List Ob) (s:Sn) (lo hi:Int):(rowsS obs s lo hi).2.1<=12:=by
 unfold rowsS;split
 ·exact za5m s
 ·split
  ·exact za1p _ _ _ _ _ _
  ·exact Nat.zero_le _
theorem zt2 {W b:World} {a:Nat->Addr} {d:Value} {c:Nat×Option Nat} (f:ToldE W a d c) (g:BL W b):ToldE b a d c:=by
 obtain⟨n,p⟩:=c
 cases p with
 | none=>exact f
 | some j =>
  obtain⟨i,k,e,l,m⟩:=f;exact⟨i,k,e,za0 g l,za0 g m⟩
theorem zb0m {W:World} {F:Nat} {x y:Int} {a:Nat->Addr} {i:Value} {c:Nat×Option Nat} (h:FC W F x y) (l:ToldE W a i c) (o:Nat) (z:Value) (s:Nat) (f:Value):ToldE ((W.setCell ⟨F,o,none⟩ z).setCell ⟨F,s,none⟩ f) a i c:=by
 obtain⟨n,p⟩:=c
 cases p with
 | none=>exact l
 | some j =>
  obtain⟨m,g,e,q,b⟩:=l;have d:F≠g:=by
   intro r;subst r;rw[h.c1]at b;unfold errV at b;split at b<;>simp at b
  refine⟨m,g,e,?_,?_⟩
  ·exact za5j (((But.refl (fun k=>k=F) W).setCell (Or.inl rfl) z).setCell (Or.inl rfl) f) (fun e=>d e.symm) q
  ·exact za5j (((But.refl (fun k=>k=F) W).setCell (Or.inl rfl) z).setCell (Or.inl rfl) f) (fun e=>d e.symm) b
theorem zt3 {W:World} {v:Value} {d:List ByteArray} (h:TsAt W v d):TxsAt W v d:=by
 rcases h with⟨rfl,rfl⟩|⟨b,c,rfl,_,f⟩
 ·exact Or.inl ⟨none,0,rfl,rfl⟩
 ·refine Or.inr ⟨b,0,c,rfl,fun j hj=>?_⟩;rw[Nat.zero_add];exact f j hj
theorem FC.off_ts {W:World} {F:Nat} {x y:Int} {v:Value} {k:List ByteArray} (h:FC W F x y) (f:TsAt W v k) (z n:Value):TsAt ((W.setCell ⟨F,0,none⟩ z).setCell ⟨F,1,none⟩ n) v k:=by
 rcases f with f | ⟨b,g,l,m,i⟩
 ·exact Or.inl f
 ·refine Or.inr ⟨b,g,l,m,fun j hj=>?_⟩;have d:F≠b:=fun e=>by
   subst e;have c:=i j hj;rw[cell_of_row _ _ _ _ _ _ h]at c
   cases j with
   | zero=>simp at c
   | succ j =>
    cases j with
    | zero=>simp at c
    | succ j=>simp at c
  rw[World.cell?_setCell_other _ _ _ _ (by intro e;injection e with e;exact d e),World.cell?_setCell_other _ _ _ _ (by intro e;injection e with e;exact d e)];exact i j hj
theorem FC.off_snap {W:World} {F b:Nat} {x y:Int} {s:Sn} {vf:Value} (h:FC W F x y) (c:SnAt W b s vf) (z f:Value):SnAt ((W.setCell ⟨F,0,none⟩ z).setCell ⟨F,1,none⟩ f) b s vf:=by
 have d:But (fun k=>k=F) W ((W.setCell ⟨F,0,none⟩ z).setCell ⟨F,1,none⟩ f):=((But.refl (fun k=>k=F) W).setCell (Or.inl (Eq.refl _)) _).setCell (Or.inl (Eq.refl _)) _;exact(d.block b c.lt (fun e=>by subst e;exact zb0 c h (by decide) rfl)).trans c
theorem SnAt.off_fault {W:World} {F b:Nat} {x y:Int} {s:Sn} {vf:Value} (d:SnAt W b s vf) (h:FC W F x y) (z:Value):FC (W.setCell ⟨b,6,none⟩ z) F x y:=by
 have c:But (fun k=>k=b) W (W.setCell ⟨b,6,none⟩ z):=(But.refl (fun k=>k=b) W).setCell (Or.inl (Eq.refl _)) _;exact(c.block F h.lt (fun e=>by subst e;exact zb0 d h (by decide) rfl)).trans h
theorem TssAt.each {W:World} {q:Option Addr} {n c:Nat} {d:List (List ByteArray)} (h:TssAt W (.slice q n c) d) (f:d≠ []):∃b,q=some ⟨b,0,none⟩/\∀j (hj:j<d.length),∃u,W.cell? ⟨b,j,none⟩=some u/\TsAt W u d[j]:=by
 obtain⟨g,o,i,k⟩:=h;rcases i with⟨_,e⟩|⟨b,m,e,l⟩
 ·exact absurd e f
 ·simp only[Value.slice.injEq]at e;exact⟨b,e.1,fun j hj=>⟨g[j]'(by omega),l j (by omega),k j (by omega) hj⟩⟩
theorem zc7i (b:List Fl) (least:Int):(planE b least).1<=12:=by
 unfold planE;split
 ·exact za8j b
 ·split
  ·exact Nat.zero_le _
  ·exact(by decide:(2:Nat)<=12)
theorem zb0n {b:List Fl} {least:Int} (h:(planE b least).1=0):(listE b).1=0:=by
 unfold planE at h;by_cases e:(listE b).1=0
 ·exact e
 ·rw[if_pos e]at h;exact h
theorem zc7j {b:List Fl} {least:Int} (h:(planE b least).1=0) (m:b.length<=100):(planD b least).length<=20000:=by
 have d:∀f∈b,0<=f.2.2.1/\f.2.2.1<=40:=fun f hf=>zn4 ((ze9.1 (zb0n h)).2.1 f hf).1;have g:=za1o (c:=100) (f:=fun p=>sevG (bnN b least p b.length)) (fun p=>by
  have i:=(zn8 (least:=least) p d b.length (Nat.le_refl _)).1;have j:(sevG (bnN b least p b.length)).length<=(bnN b least p b.length).length:=by unfold sevG;rw[List.length_map];exact List.length_filter_le _ _
  omega) (prtN b b.length)
 have k:=za9j b b.length;have l:(prtN b b.length).length*100<=100*100:=Nat.mul_le_mul_right _ (by omega);unfold planD;omega
theorem zc7k {c:List Fl} {least:Int} (h:(planE c least).1=0) (j:c.length<=100):∀x∈planD c least,x.length<=1000:=fun x b=>by
 have d:∀f∈c,0<=f.2.2.1/\f.2.2.1<=40:=fun f hf=>zn4 ((ze9.1 (zb0n h)).2.1 f hf).1;unfold planD at b;obtain⟨p,_,b⟩:=List.mem_flatMap.1 b;unfold sevG at b;obtain⟨g,i,rfl⟩:=List.mem_map.1 b;have:=((zn8 (least:=least) p d c.length (Nat.le_refl _)).2 g (List.mem_filter.1 i).1).2;omega
theorem zc7l (obs:List Ob) (s:Sn) (b:List ByteArray):(rwE obs s b).1<=12:=by
 unfold rwE;split
 ·exact za5m s
 ·split
  ·exact(by decide:(6:Nat)<=12)
  ·exact zc7h _ _ _ _
theorem zc7m (obs:List Ob) (s:Sn) (b:List ByteArray) (h:s.2.2.2.2.2.2.length<=100):(rwR obs s b).length<=4000:=by
 unfold rwR;split
 ·exact zc2m _ _ _ _ (Nat.le_trans (List.length_filter_le _ _) h)
 ·exact Nat.zero_le _
section
variable {a : Nat → Addr} {B : Nat} {EM : World → Prop} {SAt : World → Value → (Nat → Prop) → St → Prop}
theorem zc7n (K:StoreK a B EM SAt) (KS:ScanK a EM SAt) (KX:∀W,EM W->ErrsX W a) (vg:Value) (gs:List Fl) (least:Int) (vl:Value) (l:List Pc) (s:Sn) (vf:Value) (vp:Value) (r:List ByteArray) (w:World) (f9:Errs w a) (hE:EM w) (hg:FlsAt w vg gs) (ga:gs.length<=maxLen) (gb:∀f∈gs,f.1.size<=maxLen/\f.2.1.size<=maxLen) (hp:PcsAt w vl l) (bu:l.length<=maxLen) (gd:∀p∈l,PcOk p) (hx:FlsAt w vf s.2.2.2.2.2.2) (ho:s.2.2.2.2.2.1.size<=maxLen) (ge:s.2.2.2.2.2.2.length<=maxLen) (gf:∀f∈s.2.2.2.2.2.2,f.1.size<=maxLen/\f.2.1.size<=maxLen) (hv:TxsAt w vp r) (hh:r.length<=maxLen) (gg:∀t∈r,t.size<=maxLen) :
  Calls Tryz.prog 4 #[vg,.int .i64 least,vl,snV s vf,vp] w fun e w'=>e= .returned (.bool true)/\BL w w':=by
 have KU:Hid (StoreK a w.heap.size (upE EM w.heap.size) SAt):=K.up (K.size w hE);have cp:Hid (∀X,BL w X->EM X):=fun X hX=>K.below w X hE (hX.mono (K.size w hE));have eg:Hid (ScanK a (upE EM w.heap.size) SAt):=KS.up _;have b5:Hid (∀X,BL w X->Errs X a):=fun X hX=>f9.below hX;have ay:Hid (∀X,BL w X->ErrsX X a):=fun X hX=>KX X (cp.out X hX);have eh:Hid (∀X,BL w X->Calls Tryz.prog 6 #[] X fun e w'=>e= .returned (.bool true)/\BL X w'):=fun X hX=>zc7b X a (ay.out X hX).l;have al:Hid (∀X,BL w X->FlsAt X vg gs):=fun X hX=>hg.below hX;have bd:Hid (∀X,BL w X->Calls Tryz.prog 18 #[vg] X fun e w'=>e= .returned (.int .i64 (if longFs gs then 1 else 0))/\BL X w'):=fun X hX=>za8i vg gs X (al.out X hX) ga gb;have cq:Hid (longFs gs=false->gs.length<=61/\Short gs):=fun h=>za8h h;have b8:Hid (∀X,BL w X->PcsAt X vl l):=fun X hX=>hp.below hX;have be:Hid (∀X,BL w X->Calls Tryz.prog 7 #[vl] X fun e w'=>e= .returned (.bool (pcsLong l))/\w'=X):=fun X hX=>zc1j vl l X (b8.out X hX) bu gd;have b9:Hid (∀X,BL w X->FlsAt X vf s.2.2.2.2.2.2):=fun X hX=>hx.below hX;have az:Hid (∀X,BL w X->Calls Tryz.prog 8 #[snV s vf] X fun e w'=>e= .returned (.int .i64 (if longSn s then 1 else 0))/\BL X w'):=fun X hX=>zc3a s vf X (b9.out X hX) ho ge gf;have ca:Hid (∀X,BL w X->pcsLong l=false->Calls Tryz.prog 9 #[vl] X fun e w'=> ∃vs J b vf,e= .returned (.tuple #[vs,.pointer (some ⟨b,0,none⟩),vf])/\TabI (upE EM X.heap.size) SAt X.heap.size X w' vs J (tabT l).1 (tabT l).2 (tabT l).2 b vf):=fun X hX hs=>zc1s K vl l X (cp.out X hX) (b8.out X hX) hs;have bf:Hid (pcsLong l=false->longSn s=false->(snapT l s).2.2.2.2.2.2.length<=100/\Short (snapT l s).2.2.2.2.2.2):=zc3d;have cr:Hid (pcsLong l=false->Keeps (tabT l).2):=fun h=>(za8m h).1.keeps;have a0:Hid (snapT l s=if s.2.2.2.2.2.2= [] then (s.1,s.2.1,s.2.2.1,s.2.2.2.1,s.2.2.2.2.1,s.2.2.2.2.2.1,(tabT l).1) else s):=rfl;have cs:Hid (∀X,BL w X->TxsAt X vp r):=fun X hX=>hv.below hX;have gn:Hid (∀t∈r,t.size<=maxLen):=gg;generalize snapT l s=s' at bf a0;obtain⟨q,aj,rfl⟩:=hx.form;obtain⟨pq,pc,rfl⟩:=hp.form;obtain⟨gq,gc,rfl⟩:=hg.form;obtain⟨vq,vc,rfl⟩:=hv.form;generalize l.length=PL at b8 be ca ⊢;obtain⟨GL,du⟩:∃k,gs.length=k:=⟨_,rfl⟩;have ct:Hid (gs.length=GL):=du;obtain⟨QL,dv⟩:∃k,r.length=k:=⟨_,rfl⟩;have bg:Hid (r.length=QL):=dv;rw[du]at al bd ga ⊢;rw[dv]at cs hh ⊢;have cb:=SnAt.new w s (.slice q s.2.2.2.2.2.2.length aj);clear K KS KX hE f9 hp bu gd hx ho ge gf hg gb hv gg du dv;unfold snV at az ⊢;obtain⟨id,aa,ab,ac,ad,op,fs⟩:=s;dsimp only at *;obtain⟨L,hL⟩:∃L,fs.length=L:=⟨_,rfl⟩;have cu:Hid (fs.length=L):=hL;rw[hL]at b9 az cb ⊢;clear hL;have cc:BL w (w.alloc (.cells #[.int .i64 id,.int .i64 aa,.int .i64 ab,.int .i64 ac,.int .i64 ad,.string op,.slice q L aj] 25)):=alB _ _;have cv:=eh.out _ cc
 go_enter Tryz.func4,Tryz.ntmps4
 go_wp2_with fail
 generalize w.alloc (.cells #[.int .i64 id,.int .i64 aa,.int .i64 ab,.int .i64 ac,.int .i64 ad,.string op,.slice q L aj] 25)=WA at cc cb cv ⊢;refine cv.mono ?_;rintro e w1 ⟨rfl,d6⟩;clear cv eh;have cd:BL w w1:=trB cc d6;have bh:=cb.below d6;obtain⟨C,ba⟩:∃k,w.heap.size=k:=⟨_,rfl⟩;have ei:Hid (w.heap.size=C):=ba;rw[ba]at bh;rw[ba];clear cc cb d6 ba;obtain⟨LG,fo⟩:∃B,longFs gs=B:=⟨_,rfl⟩;obtain⟨LP,fp⟩:∃B,pcsLong l=B:=⟨_,rfl⟩;obtain⟨LS,fq⟩:∃B,longSn (id,aa,ab,ac,ad,op,fs)=B:=⟨_,rfl⟩;obtain⟨LC,fr⟩:∃B,decide (10<QL)=B:=⟨_,rfl⟩;have ce:Hid (decide (10<QL)=LC):=fr;rw[fo]at bd cq;rw[fp]at be ca bf cr;rw[fq]at az bf;clear fp fq fo fr
 go_upto_region 2 with fail
 go_cut [49] from 29 to 48 (fun c wx=>c= .bool (((LG || LP) || LS) || LC)/\BL w1 wx)
 case first =>
  have ej:=bd.out w1 cd
  go_wp2_with fail
  refine ej.mono ?_;rintro e w2 ⟨rfl,bs⟩;clear ej;cases LG
  case true =>
   simp only[if_true];go_wp2;go_meet
   case rel=>exact ⟨by simp,bs⟩
  case false =>
  simp only[Bool.false_eq_true,if_false];have am:=trB cd bs;have S:=bh.below bs;have ek:=be.out w2 am;clear be bd bh
  go_wp2_with fail
  refine ek.mono ?_;rintro e wq ⟨rfl,cw⟩;replace cw:=cw.symm;subst cw;clear ek;cases LP
  case true =>
   go_wp2;go_meet
   case rel=>exact ⟨by simp,bs⟩
  case false =>
  obtain⟨z0,z1,z2,z3,z4,z5,z6⟩:=S.cells;dsimp only at z0 z1 z2 z3 z4 z5 z6;have el:=az.out w2 am;clear S az
  go_wp2_with fail
  refine el.mono ?_;rintro e w3 ⟨rfl,da⟩;clear el z0 z1 z2 z3 z4 z5 z6;have an:=trB bs da;cases LS
  case true =>
   simp only[if_true];go_wp2;go_meet
   case rel=>exact ⟨by simp,an⟩
  case false =>
  simp only[Bool.false_eq_true,if_false];cases LC
  case true =>
   have hd:(10:Int)<(QL:Int):=by have:=of_decide_eq_true ce.out;omega
   go_wp2;go_meet
   case rel=>exact ⟨by simp,an⟩
  case false =>
   have hd:¬(10:Int)<(QL:Int):=by have:=of_decide_eq_false ce.out;omega
   go_wp2;go_meet
   case rel=>exact ⟨by simp,an⟩
 case rest =>
 obtain⟨rfl,ak⟩:=hcut;have am:BL w wc:=trB cd ak;have S:=bh.below ak;clear bh cd ak be az bd;generalize wc=w2 at *;cases f8:(((LG || LP) || LS) || LC)
 case true =>
  clear S;go_wp2;go_ret;exact⟨rfl,am⟩
 rw[Bool.or_eq_false_iff,Bool.or_eq_false_iff,Bool.or_eq_false_iff]at f8;obtain⟨⟨⟨rfl,rfl⟩,rfl⟩,rfl⟩:=f8;have hj:QL<=10:=by have:=of_decide_eq_false ce.out;omega
 obtain⟨dw,dx⟩:=cq.out rfl;have F:Hid (gs.length<=61/\Short gs):=⟨dw,dx⟩;obtain⟨ft,fu⟩:=bf.out rfl rfl;have ao:Hid (s'.2.2.2.2.2.2.length<=100/\Short s'.2.2.2.2.2.2):=⟨ft,fu⟩;have HK:Hid (Keeps (tabT l).2):=cr.out rfl;have cx:Hid (∀X,BL w X->Calls Tryz.prog 9 #[.slice pq PL pc] X fun e w'=> ∃vs J b vf,e= .returned (.tuple #[vs,.pointer (some ⟨b,0,none⟩),vf])/\TabI (upE EM X.heap.size) SAt X.heap.size X w' vs J (tabT l).1 (tabT l).2 (tabT l).2 b vf):=fun X hX=>ca.out X hX rfl;clear ft fu dw dx bf cr ca cq ce b8;have hi:GL<=61:=by have:=F.out.1;have:=ct.out;omega
 -- groups
 have em:=za5d (.slice gq GL gc) gs w2 (al.out w2 am) (by have:=F.out.1;omega)
 go_wp2_with fail
 refine em.mono ?_;rintro e w5 ⟨v5,rfl,d7,au⟩;clear em;have cy:=trB am au;have en:=S.below au;have cz:Hid (∀X,BL w5 X->FlsAt X v5 gs):=fun X hX=>(zd3 d7).1.below hX;have bu:=zc6m v5 gs least w5 a (ay.out w5 cy).l (cz.out w5 (Below.refl _ _)) (by have:=F.out.1;omega) F.out.2;obtain⟨gz,g0,fv⟩:=zb4 d7;rw[ct.out]at fv;clear d7 au S am;subst fv
 go_wp2_with fail
 refine bu.mono ?_;rintro e w6 ⟨v6,cl,rfl,bt,d8,av⟩;clear bu;have bi:=trB cy av;have eo:=en.below av;have ep:=zc6p (.slice gq GL gc) gs least w6 (al.out w6 bi) (by have:=F.out.1;omega) F.out.2;have c2:=zc7i gs least;have eq:Hid ((if (planE gs least).1=0 then planD gs least else []).length<=20000):=by
  show _<=_;split
  ·rename_i e;exact zc7j e (by have:=F.out.1;omega)
  ·exact Nat.zero_le _
 have er:Hid (∀x∈(if (planE gs least).1=0 then planD gs least else []),x.length<=1000):=fun x hx=>by
  split at hx
  ·rename_i e;exact zc7k e (by have:=F.out.1;omega) x hx
  ·cases hx
 generalize (if (planE gs least).1=0 then planD gs least else [])=QD at *;generalize planE gs least=I at *;obtain⟨q6,c6,bq⟩:=d8.form;obtain⟨DL,cj⟩:∃k,QD.length=k:=⟨_,rfl⟩;have c3:Hid (QD.length=DL):=cj;rw[cj]at bq;have a1:Hid (∀X,BL w6 X->ToldE X a cl I/\TssAt X v6 QD):=fun X hX=>⟨zt2 bt hX,d8.below hX⟩;have bv:Hid (BL w5 w6):=av;subst bq;clear bt d8 av en cy
 go_wp2_with fail
 refine ep.mono ?_;rintro e N ⟨v7,rfl,d9,aw⟩;clear ep;obtain⟨q7,c7,br⟩:=d9.form;rw[cj]at br;subst br;have a2:=trB bi aw;have a5:BL N (N.alloc (.cells #[.int .i64 I.1,.int .i64 (atZ I.2)] 53)):=alB _ _;have H:FC (N.alloc (.cells #[.int .i64 I.1,.int .i64 (atZ I.2)] 53)) N.heap.size I.1 (atZ I.2):=heap_alloc_new _ _;have bj:BL w6 (N.alloc (.cells #[.int .i64 I.1,.int .i64 (atZ I.2)] 53)):=trB aw a5;have c4:BL w (N.alloc (.cells #[.int .i64 I.1,.int .i64 (atZ I.2)] 53)):=trB a2 a5;have es:=eo.below bj;have a6:w.heap.size<=N.heap.size:=a2.size;have et:Hid (∀X,Below (N.alloc (.cells #[.int .i64 I.1,.int .i64 (atZ I.2)] 53)).heap.size (N.alloc (.cells #[.int .i64 I.1,.int .i64 (atZ I.2)] 53)) X->TssAt X (.slice q7 DL c7) QD/\TssAt X (.slice q6 DL c6) QD):=fun X hX=>⟨(d9.below a5).below hX,(a1.out _ bj).2.below hX⟩;have T:=(a1.out _ bj).1.same3 c2 (b5.out _ c4);have bw:Hid (BL w5 (N.alloc (.cells #[.int .i64 I.1,.int .i64 (atZ I.2)] 53))):=bv.out.trans (bj.mono bv.out.size);clear d9 aw a5 bj a2 eo bi cj a1 bv c2
 go_upto_region 7 with fail
 generalize N.alloc (.cells #[.int .i64 I.1,.int .i64 (atZ I.2)] 53)=w8 at *;generalize N.heap.size=o at *;have n0:=H.c0;have n1:=H.c1
 go_wp2_with fail
 refine T.mono ?_;rintro e w9 ⟨rfl,ai⟩;clear T n0 n1;have a3:=trB c4 ai;have bk:=es.below ai;have bl:=H.below ai;have eu:Hid (FC w9 o I.1 (atZ I.2)):=bl;have ev:Hid (∀X,BL w9 X->TssAt X (.slice q7 DL c7) QD/\TssAt X (.slice q6 DL c6) QD):=fun X hX=>et.out X (trB ai hX);have bx:Hid (BL w5 w9):=bw.out.trans (ai.mono bw.out.size);have ew:Hid (SnAt w9 C (id,aa,ab,ac,ad,op,fs) (.slice q L aj)):=bk;clear ai c4 es H et bw bk bl;have hl:DL<=20000:=by rw[<-c3.out];exact eq.out
 go_wp2_with fail
 go_loopw [17] (fun k wr=> ∃n:Nat,n<=DL/\k= .int .i64 n/\BL w9 wr) (fun k _=>DL-(intOf k).toNat)
 case atStart=>exact ⟨0,by omega,rfl,Below.refl _ _⟩
 case round =>
 obtain⟨n,hn,rfl,M⟩:=hrel;by_cases c8:n<DL
 case pos =>
  have A:n<QD.length:=by rw[c3.out];exact c8
  obtain⟨t7,t6⟩:=ev.out wr M;obtain⟨b7,e7,fw⟩:=t7.each (fun e=>by rw[e]at A;simp at A);obtain⟨b6,e6,fx⟩:=t6.each (fun e=>by rw[e]at A;simp at A);obtain⟨u7,k7,s7⟩:=fw n A;obtain⟨u6,k6,s6⟩:=fx n A;have ex:=er.out QD[n] (List.getElem_mem _);have T:=fun W (hb':BL wr W)=>za0f u6 u7 QD[n] W (zt3 (s6.below hb')) (zt3 (s7.below hb')) ex;subst e7 e6;have go:(n:Int)<(DL:Int):=by omega
  have gp:(0:Int)<=(n:Int):=by omega
  clear t7 t6 fw fx s7 s6 A ex;have gr:BL wr wr:=Below.refl _ _
  go_upto_region 12 with fail
  go_region_held3 (fun w'=>w'.cell? ⟨b6,n,none⟩=some u6/\w'.cell? ⟨b7,n,none⟩=some u7/\BL wr w')
   (first
    | (go_split_ands;with_reducible exact⟨za0 ea (by assumption),za0 ea (by assumption),Below.trans (by assumption) (ea.mono (Below.size (by assumption)))⟩)
    | (go_split_ands;exact⟨by go_keep,by go_keep,by assumption⟩)
    | (go_split_ands;exact⟨by go_keep,by go_keep,Below.drew (by assumption)⟩))
   (first
    | (go_at_call 21;(with_reducible refine(T _ (by go_split_ands;assumption)).mono ?_);rintro e wX ⟨rfl,ea⟩))
  all_goals go_split_ands
  have c9:BL wr wX:=by assumption
  have da:=trB M c9;clear T gr k7 k6 c9;go_wp2;go_roundw
  case rel=>exact ⟨n+1,by omega,by go_num,da⟩
  case measure=>simp [intOf];omega
 case neg =>
 obtain rfl:n=DL:=by omega
 have gt:¬(n:Int)<(n:Int):=by omega
 have ae:=trB a3 M;have cf:=bx.out.trans (M.mono bx.out.size);have ey:=zc3g (.slice gz GL g0) gs wr a (ay.out wr ae).l (cz.out wr cf) (by have:=F.out.1;omega) F.out.2;have db:Hid (SnAt wr C (id,aa,ab,ac,ad,op,fs) (.slice q L aj)):=ew.out.below M;have dc:Hid (FC wr o I.1 (atZ I.2)):=eu.out.below M;clear ev eq er c3 cz ew eu bx cf M a3
 go_wp2_with fail
 refine ey.mono ?_;rintro e ax ⟨eb,ec,rfl,ed,Z,b2,b3⟩;clear ey;have ap:=trB ae Z;have dd:=db.out.below Z;have de:=dc.out.below Z;have a7:Hid (((listE gs).1≠0->eb= .slice none 0 0)/\((listE gs).1=0->TsAt ax eb (idleL gs))):=⟨b2,b3⟩;have df:Hid (ToldE ax a ec (listE gs)):=ed;obtain⟨yq,yn,yc,g5⟩:∃q n c,eb= .slice q n c:=by
  by_cases e:(listE gs).1=0
  ·obtain⟨q,c,h⟩:=(b3 e).form;exact⟨q,_,c,h⟩
  ·exact⟨none,0,0,b2 e⟩
 have ez:=zy1 (.slice gq GL gc) gs ax (al.out ax ap) (by have:=F.out.1;omega) (fun f hf=>⟨by have:=(F.out.2 f hf).1;omega,by have:=(F.out.2 f hf).2;omega⟩);have cg:Hid ((listE gs).1=0->∀f∈gs,goneP f.1=decide (f.2.1.data.toList= [45])):=fun h f hf=>zs0 ((ze9.1 h).2.1 f hf).1;have bz:Hid ((idleL gs).length<=100):=by
  show _<=_;unfold idleL;rw[List.length_map];have:=List.length_filter_le (idleB gs) gs;have:=F.out.1;omega
 have e0:=za8j gs;generalize listE gs=O at *;obtain⟨IL,dy⟩:∃x,idleL gs=x:=⟨_,rfl⟩;have gu:Hid (idleL gs=IL):=dy;rw[dy]at a7 bz;clear dy;subst g5;clear b2 b3 ed db dc Z ae
 go_wp2_with fail
 refine ez.mono ?_;rintro e cm ⟨rfl,V⟩;clear ez;have aq:=trB ap V;have dg:=dd.below V;have U:=de.below V;have n0:=U.c0;have n1:=U.c1;have nz:=U.fz;have ar:=U.set (O.1:Int) (atZ O.2);have dh:=U.off_snap dg (.int .i64 (O.1:Int)) (.int .i64 (atZ O.2));have af:BL w ((cm.setCell ⟨o,0,none⟩ (.int .i64 (O.1:Int))).setCell ⟨o,1,none⟩ (.int .i64 (atZ O.2))):=(aq.setCell a6 _).setCell a6 _;have di:Hid (ToldE ((cm.setCell ⟨o,0,none⟩ (.int .i64 (O.1:Int))).setCell ⟨o,1,none⟩ (.int .i64 (atZ O.2))) a ec O):=zb0m U (zt2 df.out V) _ _ _ _;have a8:Hid (O.1=0->TsAt ((cm.setCell ⟨o,0,none⟩ (.int .i64 (O.1:Int))).setCell ⟨o,1,none⟩ (.int .i64 (atZ O.2))) (.slice yq yn yc) IL):=fun e=>U.off_ts ((a7.out.2 e).below V) _ _;have a9:Hid (O.1≠0->yn=0):=fun e=>by
  have h:=a7.out.1 e;simp only[Value.slice.injEq]at h;exact h.2.1
 clear V ap dd de aq dg U a7 df
 go_upto_region 16 with fail
 clear n0 n1 nz;generalize (cm.setCell ⟨o,0,none⟩ (.int .i64 (O.1:Int))).setCell ⟨o,1,none⟩ (.int .i64 (atZ O.2))=g9 at *
 go_cut [124] from 99 to 123 (fun c wx=>c= .bool false/\BL g9 wx)
 case first =>
  have n0:=ar.c0;have n1:=ar.c1;have T:=di.out.same3 e0 (b5.out _ af)
  go_wp2_with fail
  refine T.mono ?_;rintro e ee ⟨rfl,ag⟩;clear T n0 n1;have n0:=(ar.below ag).c0;by_cases hE:O.1=0
  case neg =>
   have gv:=a9.out hE;subst gv;have hm:(0:Int)<(O.1:Int):=by omega
   have hu:¬(O.1:Int)=0:=by omega
   clear hE a9 a8 cg;go_wp2;go_meet
   case rel=>exact ⟨rfl,ag⟩
  case pos =>
   rw[hE]at n0;rw[show ((0:Nat):Int)=0 from rfl]at n0;have gh:=trB af ag;have e1:=zc5t (.slice gq GL gc) gs ee (al.out ee gh) (by have:=F.out.1;omega) (cg.out hE);have gi:Hid (∀X,BL ee X->TsAt X (.slice yq yn yc) IL):=fun X hX=>((a8.out hE).below ag).below hX;clear hE a9 a8 cg
   go_wp2_with fail
   refine e1.mono ?_;rintro e f6 ⟨g7,rfl,bc,b4⟩;rw[gu.out]at bc;clear e1 n0;have bm:=za0f (.slice yq yn yc) g7 IL f6 (zt3 (gi.out f6 b4)) (zt3 bc) (by have:=bz.out;omega);obtain⟨hy,hz,dz⟩:=bc.form;generalize IL.length=il at dz;subst dz;clear bc
   go_wp2_with fail
   refine bm.mono ?_;rintro e h0 ⟨rfl,gl⟩;clear bm;have ai:=(trB ag b4).trans (gl.mono (trB ag b4).size);go_wp2;go_meet
   case rel=>exact ⟨rfl,ai⟩
 case rest =>
 obtain⟨rfl,ak⟩:=hcut;have dj:BL w wc:=trB af ak;have S:=dh.below ak;have dk:=ar.below ak;clear af dh ar ak di a8 a9 cg bz al F ct e0;generalize wc=ha at *;have e2:=cx.out ha dj;clear cx
 go_wp2_with fail
 refine e2.mono ?_;rintro e w3 ⟨vs,J,b,vt,rfl,hT⟩;clear e2;obtain⟨d0,d1⟩:=zc3e hT dj;obtain⟨Y,rfl⟩:=KU.out.ptr _ _ _ _ d0.at_;have ch:¬J C:=d1 C S.lt;have a4:SnAt w3 C (id,aa,ab,ac,ad,op,fs) (.slice q L aj):=(hT.both.ok.frame.block C S.lt).trans S;have dl:FC w3 o O.1 (atZ O.2):=(hT.both.ok.frame.block o dk.lt).trans dk;have dm:=hT.files;obtain⟨tq,tc,rfl⟩:=dm.form;have bn:Hid (SOk (upE EM w.heap.size) SAt w.heap.size w w3 (.pointer (some Y)) J (tabT l).2/\¬J C/\SnAt w3 C (id,aa,ab,ac,ad,op,fs) (.slice q L aj)/\FlsAt w3 (.slice tq (tabT l).1.length tc) (tabT l).1):=⟨d0,ch,a4,dm⟩;have e3:Hid (MAt w3 b (tabT l).2):=hT.both.mat;have e4:Hid (∀z,MAt (w3.setCell ⟨C,6,none⟩ z) b (tabT l).2):=fun z=>za8n hT.both.mat a4 z;have e5:Hid (∃x y,FC w3 o x y):=⟨_,_,dl⟩;have e8:Hid (∀z,∃x y,FC (w3.setCell ⟨C,6,none⟩ z) o x y):=fun z=>⟨_,_,a4.off_fault dl z⟩;have z6:=a4.cells.2.2.2.2.2.2;have zf:w3.frozen? ⟨C,6,none⟩=false:=frozen_of_row _ _ _ _ _ a4;clear hT d0 d1 ch a4 dm S dj dl dk;generalize he:(tabT l).1.length=TL at *;clear he
 go_upto_if 136 with fail
 go_cut [136] from 137 to 138 (fun _ wx=> ∃vx,ScI EM SAt w wx (.pointer (some Y)) J (tabT l).2 C s' vx/\MAt wx b (tabT l).2/\∃x y,FC wx o x y)
 case first =>
  by_cases ci:L=0
  ·have bo:fs= []:=List.length_eq_zero_iff.1 (by rw[cu.out];exact ci);have bp:Hid (s'=(id,aa,ab,ac,ad,op,(tabT l).1)):=by
    show _=_;rw[a0.out,if_pos bo]
   have b0:Hid (ScI EM SAt w (w3.setCell ⟨C,6,none⟩ (.slice tq TL tc)) (.pointer (some Y)) J (tabT l).2 C s' (.slice tq TL tc)):=by
    obtain⟨g1,g2,g3,g4⟩:=bn.out;rw[bp.out];exact ScI.set KU.out g1 g2 (by rw[ei.out];exact Nat.le_refl _) g3 g4
   have hd:(((L:Int)) == 0)=true:=by simp;omega
   clear ci bo bn a0 bp;go_wp2;go_meet
   case rel=>exact ⟨_,b0.out,e4.out _,e8.out _⟩
  ·have bo:fs≠ []:=fun e=>ci (by rw[<-cu.out,e];rfl);have bp:Hid (s'=(id,aa,ab,ac,ad,op,fs)):=by
    show _=_;rw[a0.out,if_neg bo]
   have b0:Hid (ScI EM SAt w w3 (.pointer (some Y)) J (tabT l).2 C s' (.slice q L aj)):=by
    obtain⟨g1,g2,g3,g4⟩:=bn.out;rw[bp.out];exact⟨g1,g2,by rw[ei.out];exact Nat.le_refl _,g3,b9.out w3 g1.frame⟩
   have hd:(((L:Int)) == 0)=false:=by simp;omega
   clear ci bo bn a0 bp;go_wp2;go_meet
   case rel=>exact ⟨_,b0.out,e3.out,e5.out⟩
 case rest =>
 obtain⟨vx,hI,fy,f0⟩:=hcut;have I4:Hid (ScI EM SAt w wc (.pointer (some Y)) J (tabT l).2 C s' vx/\MAt wc b (tabT l).2/\∃x y,FC wc o x y):=⟨hI,fy,f0⟩;clear hI fy f0 bn a0 z6 zf b9 e3 e4 e5 e8;generalize wc=w4 at *;obtain⟨D,d,i,j,m,E,u⟩:=s';dsimp only at *;obtain⟨v,bm⟩:∃g,(tabT l).2=g:=⟨_,rfl⟩;rw[bm]at I4 HK;clear bm cu;obtain⟨P,Q,g6⟩:=I4.out.1.files.form;subst g6;obtain⟨G,d2⟩:∃k,u.length=k:=⟨_,rfl⟩;rw[d2]at I4;have gw:Hid (u.length=G):=d2;clear d2;have HQ:Hid (∀X X',(ScI EM SAt w X (.pointer (some Y)) J v C (D,d,i,j,m,E,u) (.slice P G Q)/\MAt X b v/\∃x y,FC X o x y)->BL X X'->(ScI EM SAt w X' (.pointer (some Y)) J v C (D,d,i,j,m,E,u) (.slice P G Q)/\MAt X' b v/\∃x y,FC X' o x y)):=fun X X' h M=>⟨h.1.quiet KU.out M,h.2.1.below M,by obtain⟨x,y,hF⟩:=h.2.2;exact⟨x,y,hF.below M⟩⟩;have e9:Hid (∀X,(ScI EM SAt w X (.pointer (some Y)) J v C (D,d,i,j,m,E,u) (.slice P G Q)/\MAt X b v/\∃x y,FC X o x y)->Calls Tryz.prog 15 #[.agg #[.int .i64 D,.int .i64 d,.int .i64 i,.int .i64 j,.int .i64 m,.string E,.slice P G Q]] X fun e w'=> ∃q' c',e= .returned (.agg #[.int .i64 D,.int .i64 d,.int .i64 i,.int .i64 j,.int .i64 m,.string E,(.slice q' G c')])/\FlsAt w' (.slice q' G c') u/\BL X w'):=fun X h=>by
  refine(zc3b (D,d,i,j,m,E,u) (.slice P G Q) X h.1.files (by have:=ao.out.1;dsimp only;omega)).mono ?_;rintro e w' ⟨v',rfl,hf,M⟩;obtain⟨q',c',f1⟩:=hf.form;rw[gw.out]at f1;subst f1;exact⟨q',c',rfl,hf,M⟩
 have fa:Hid (∀(X:World) (q':Option Addr) (c':Nat) (pv:Value),(ScI EM SAt w X (.pointer (some Y)) J v C (D,d,i,j,m,E,u) (.slice P G Q)/\MAt X b v/\∃x y,FC X o x y)->FlsAt X (.slice q' G c') u->TsAt X pv r->Calls Tryz.prog 16 #[.pointer (some Y),.agg #[.int .i64 D,.int .i64 d,.int .i64 i,.int .i64 j,.int .i64 m,.string E,(.slice q' G c')],pv] X fun e w'=>RwP X a (rwE v.obs (D,d,i,j,m,E,u) r) (rwR v.obs (D,d,i,j,m,E,u) r) e w'):=fun X q' c' pv h hf hp =>
  zc5z KU.out eg.out (fun X hX=>⟨(ay.out X hX).l,(ay.out X hX).hand⟩) X Y J v C (D,d,i,j,m,E,u) (.slice P G Q) h.1 HK.out (D,d,i,j,m,E,u) (.slice q' G c') hf ao.out.1 ao.out.2 pv r hp (by have:=bg.out;omega)
 have fc:Hid (∀X,(ScI EM SAt w X (.pointer (some Y)) J v C (D,d,i,j,m,E,u) (.slice P G Q)/\MAt X b v/\∃x y,FC X o x y)->Calls Tryz.prog 25 #[.pointer (some ⟨b,0,none⟩),.agg #[.int .i64 D,.int .i64 d,.int .i64 i,.int .i64 j,.int .i64 m,.string E,.slice P G Q],.slice vq QL vc] X (RowsP X (rwR v.obs (D,d,i,j,m,E,u) r,rwE v.obs (D,d,i,j,m,E,u) r))):=fun X h =>
  zc6j b v (D,d,i,j,m,E,u) (.slice P G Q) (.slice vq QL vc) r X h.2.1 HK.out h.1.files ao.out.1 ao.out.2 (cs.out X h.1.ok.frame) (by have:=bg.out;omega)
 have fd:Hid (∀X,BL w X->FlsAt X (.slice P G Q) u->Calls Tryz.prog 16 #[.pointer none,.agg #[.int .i64 D,.int .i64 d,.int .i64 i,.int .i64 j,.int .i64 m,.string E,.slice P G Q],.slice none 0 0] X fun e w'=> ∃v',e= .returned (.tuple #[v',errV a 3])/\BL X w'):=fun X hX hf =>
  zc6a (D,d,i,j,m,E,u) (.slice P G Q) (.slice none 0 0) [] X a ((ay.out X hX).cell 2 (by decide) (by decide)) hf (Or.inl ⟨rfl,rfl⟩)
 have gj:=zc7l v.obs (D,d,i,j,m,E,u) r;have gk:=zc7m v.obs (D,d,i,j,m,E,u) r ao.out.1;generalize rwE v.obs (D,d,i,j,m,E,u) r=R at *;generalize rwR v.obs (D,d,i,j,m,E,u) r=RR at *;have fe:Hid (∀X,(ScI EM SAt w X (.pointer (some Y)) J v C (D,d,i,j,m,E,u) (.slice P G Q)/\MAt X b v/\∃x y,FC X o x y)->BL w X):=fun X h=>h.1.ok.frame;clear eg KU HK ao cp
 go_wp2_with fail
 go_loopw [22,23] (fun sv k wr=> ∃n:Nat,n<=QL/\k= .int .i64 n/\wr.ownsRow w4.heap.size 9 1 sv (r.take n).length ((r.take n).map Value.string)/\BL w4 wr) (fun _ k _=>QL-(intOf k).toNat)
 case atStart=>exact ⟨0,by omega,rfl,World.ownsRow_nil _ _ _ _,Below.refl _ _⟩
 case round =>
 obtain⟨n,hn,rfl,ho,M⟩:=hrel;have HO:Hid (wr.ownsRow w4.heap.size 9 1 u22 (r.take n).length ((r.take n).map Value.string)):=ho;clear ho;by_cases c8:n<QL
 case pos =>
  have A:n<r.length:=by rw[bg.out];exact c8
  have ff:=fe.out wr (HQ.out w4 wr I4.out M);obtain⟨vb,vo,e,hc⟩:=(cs.out wr ff).at (fun e=>by rw[e]at A;simp at A);subst e;have cn:=hc n A;have gx:=gn.out r[n] (List.getElem_mem _);have dn:Hid (r.take (n+1)=r.take n++ [r[n]]):=List.take_succ_eq_append_getElem A;generalize r[n]=t at *;have go:(n:Int)<(QL:Int):=by omega
  have gp:(0:Int)<=(n:Int):=by omega
  clear hc A;by_cases hw:30<t.size
  case pos =>
   have hd:(30:Int)<(t.size:Int):=by omega
   clear dn HO;go_wp2;go_ret;exact⟨rfl,ff⟩
  case neg =>
   have hd:¬(30:Int)<(t.size:Int):=by omega
   obtain⟨v',W6,hr,f2,d3,-⟩:=zg2 HO.out M.size t rfl (by rw[List.length_take];omega);have bi:BL w4 W6:=M.trans (d3.below M.size (fun k hk=>(za5 HO.out hk).1));have HR:Hid (W6.ownsRow w4.heap.size 9 1 v' (r.take (n+1)).length ((r.take (n+1)).map Value.string)):=by
    show World.ownsRow _ _ _ _ _ _ _;rw[dn.out];exact f2
   have hq:BL wr (wr.alloc (.cells #[.string t] 9)):=alB _ _;clear dn f2 d3 HO gx
   go_wp2_with (at_builtin;refine zd2 (by rfl) _ _ _ (by rfl) _ _ _ (by rfl) (by rfl) hr ?_)
   go_roundw
   case rel=>exact ⟨n+1,by omega,by go_num,HR.out,bi⟩
   case measure=>simp [intOf];omega
 case neg =>
 obtain rfl:n=QL:=by omega
 have gt:¬(n:Int)<(n:Int):=by omega
 have I5:Hid (ScI EM SAt w wr (.pointer (some Y)) J v C (D,d,i,j,m,E,u) (.slice P G Q)/\MAt wr b v/\∃x y,FC wr o x y):=HQ.out w4 wr I4.out M;have dp:Hid (∀X,BL wr X->TsAt X u22 r):=fun X hX=>by
  have h1:=zg1 HO.out;rw[<-bg.out,List.take_length]at h1;exact h1.below hX
 obtain⟨sq,sc,f3⟩:=(dp.out wr (Below.refl _ _)).form;rw[bg.out]at f3;subst f3;have fg:=e9.out wr I5.out;obtain⟨z0,z1,z2,z3,z4,z5,z6⟩:=I5.out.1.snap.cells;dsimp only at z0 z1 z2 z3 z4 z5 z6;clear HO I4 M
 go_wp2_with fail
 refine fg.mono ?_;rintro e w5 ⟨q5,c5,rfl,f7,au⟩;clear fg z0 z1 z2 z3 z4 z5 z6;have I6:Hid (ScI EM SAt w w5 (.pointer (some Y)) J v C (D,d,i,j,m,E,u) (.slice P G Q)/\MAt w5 b v/\∃x y,FC w5 o x y):=HQ.out _ _ I5.out au;have fh:=fa.out w5 q5 c5 (.slice sq n sc) I6.out f7 (dp.out w5 au);clear I5 au f7 dp fa e9
 go_wp2_with fail
 refine fh.mono ?_;rintro e w6 ⟨v6,cl,rfl,bt,ef,av⟩;clear fh;have I7:Hid (ScI EM SAt w w6 (.pointer (some Y)) J v C (D,d,i,j,m,E,u) (.slice P G Q)/\MAt w6 b v/\∃x y,FC w6 o x y):=HQ.out _ _ I6.out av;have fi:=fc.out w6 I7.out;obtain⟨z0,z1,z2,z3,z4,z5,z6⟩:=I7.out.1.snap.cells;dsimp only at z0 z1 z2 z3 z4 z5 z6;clear I6 av fc;obtain⟨d4,d5,bq⟩:=ef.form;obtain⟨RL,ck⟩:∃k,RR.length=k:=⟨_,rfl⟩;have fj:Hid (RR.length=RL/\RL<=4000):=⟨ck,by omega⟩;rw[ck]at bq;subst bq;have a1:Hid (∀X,BL w6 X->ToldE X a cl R/\RowsAt X (.slice d4 RL d5) RR):=fun X hX=>⟨zt2 bt hX,ef.below hX⟩;clear bt ef gk
 go_wp2_with fail
 refine fi.mono ?_;rintro e N ⟨v7,rfl,co,aw⟩;clear fi z0 z1 z2 z3 z4 z5 z6;have gy:=HQ.out _ _ I7.out aw;obtain⟨t7,r7⟩:=a1.out N aw;dsimp only at co;obtain⟨f4,f5,br⟩:=co.form;rw[ck]at br;subst br;obtain⟨bb,-,x8,y8,H⟩:=gy;have k0:=H.c0;have k1:=H.c1;have kz:=H.fz;have a2:=bb.ok.frame;have bl:=H.set (R.1:Int) (atZ R.2);have bk:=H.off_snap bb.snap (.int .i64 (R.1:Int)) (.int .i64 (atZ R.2));have fl:FlsAt ((N.setCell ⟨o,0,none⟩ (.int .i64 (R.1:Int))).setCell ⟨o,1,none⟩ (.int .i64 (atZ R.2))) (.slice P G Q) u:=H.ne_fls bb.files 0 _ 1 _;have a3:BL w ((N.setCell ⟨o,0,none⟩ (.int .i64 (R.1:Int))).setCell ⟨o,1,none⟩ (.int .i64 (atZ R.2))):=(a2.setCell a6 _).setCell a6 _;have fm:Hid (ToldE ((N.setCell ⟨o,0,none⟩ (.int .i64 (R.1:Int))).setCell ⟨o,1,none⟩ (.int .i64 (atZ R.2))) a cl R):=zb0m H t7 _ _ _ _;have dq:Hid (RowsAt ((N.setCell ⟨o,0,none⟩ (.int .i64 (R.1:Int))).setCell ⟨o,1,none⟩ (.int .i64 (atZ R.2))) (.slice d4 RL d5) RR/\RowsAt ((N.setCell ⟨o,0,none⟩ (.int .i64 (R.1:Int))).setCell ⟨o,1,none⟩ (.int .i64 (atZ R.2))) (.slice f4 RL f5) RR):=⟨H.off_rows r7 _ _ _ _,H.off_rows co _ _ _ _⟩;clear t7 r7 co H bb a2 a1 I7 aw ck HQ fe
 go_upto_region 32 with fail
 clear k0 k1 kz;generalize (N.setCell ⟨o,0,none⟩ (.int .i64 (R.1:Int))).setCell ⟨o,1,none⟩ (.int .i64 (atZ R.2))=w9 at *;have fn:=fd.out w9 a3 fl;obtain⟨z0,z1,z2,z3,z4,z5,z6⟩:=bk.cells;dsimp only at z0 z1 z2 z3 z4 z5 z6;clear fd fl bk
 go_wp2_with fail
 refine fn.mono ?_;rintro e g8 ⟨h2,rfl,ah⟩;clear fn z0 z1 z2 z3 z4 z5 z6;have ae:=trB a3 ah;have b1:=bl.below ah;have n0:=b1.c0;have n1:=b1.c1;have T:=(zt2 fm.out ah).same3 gj (b5.out _ ae);have dr:Hid (∀X,BL g8 X->RowsAt X (.slice d4 RL d5) RR/\RowsAt X (.slice f4 RL f5) RR):=fun X hX=>⟨(dq.out.1.below ah).below hX,(dq.out.2.below ah).below hX⟩;unfold errV;clear bl a3 ah fm dq b1
 go_wp2_with fail
 refine T.mono ?_;rintro e ax ⟨rfl,Z⟩;clear T n0 n1;have ap:=trB ae Z;obtain⟨r1,r2⟩:=dr.out ax Z;have ds:=zb2f _ _ RR RR ax r1 r2 (by have:=fj.out;omega) (by have:=fj.out;omega);rw[decide_eq_true rfl]at ds;clear r1 r2 dr
 go_wp2_with fail
 refine ds.mono ?_;rintro e gm ⟨rfl,V⟩;clear ds;have aq:=trB ap V;have dt:=zc1v gm a (b5.out _ aq) 3 (by decide);unfold errV at dt
 go_wp2_with fail
 refine dt.mono ?_;rintro e ht ⟨rfl,an⟩;clear dt;have af:=trB aq an;go_wp2;go_ret;exact⟨rfl,af⟩
end
end Go.Proofs.YtgckdomafbnmkaaGreatDoor
namespace Go.Proofs.YtgckdomafbnmkaaGreatDoor
open Go
theorem zc7o:Tryz.prog.inPlace 4=Rows.packTellsRow.inPlace:=by kernel_rfl
theorem zb0o:Tryz.prog.unfollowed 4=true:=by kernel_rfl
theorem zc7p:Tryz.prog.recurses 4=true:=by unfold Program.recurses;rw[zb0o];rfl
theorem zc7q:Tryz.prog.varsNamed 4=Rows.packTellsRow.named:=by kernel_rfl
theorem zc7r:joinedFacts Tryz.prog 4 Tryz.f4 Rows.packTellsSpec Rows.packTellsRow=true:=by
 unfold joinedFacts;rw[zc7o,zb0o,zc7p,zc7q];kernel_rfl
end Go.Proofs.YtgckdomafbnmkaaGreatDoor
