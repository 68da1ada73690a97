/- By an AI agent. -/
import Derived.Test.YtcllhobffhkafaaGreatDoorPartBad
set_option maxRecDepth 100000
set_option maxHeartbeats 16000000
open Go.Proofs.Tryz
open Array renaming getElem?_eq_some_iff->Qt
open Go renaming Boxed->J,Value->V,World->Qa,Addr->Ql,Calls->Qm,results->Qo,cell_of_row->Qu,cell_kept->Qw,bodyPost_ret->Qy,callsIn_wide->Q8,lt_of_block->Q9,run_takeDeferred->QB
open Go.Ending renaming returned->Qj
open Go.IntKind renaming i64->A
open Go.Obj renaming cells->S,deferred->Qh
open Go.RowKit renaming Hid->I
open Go.RowKit.Below renaming refl->Qx,heap_setCell->QA
open Go.Value renaming slice->Z,int->H,nilIface->Qb,pointer->Qd,tuple->Qf,iface->Qg,string->Qs,ownBlock->Q5
open Go.World renaming cell?->Qr,putObj_heap_other->Qv
open List renaming length_map->Qi,mem_map->Qn,mem_filter->Qq,mem_cons->Qz,count_eq_zero->Q0,getElem?_take->Q1,flatMap_map->Q2,map_map->Q3,flatMap_cons->Q6,length_append->Q7
open Nat renaming le_refl->Qk,le_succ->Qp,le_trans->Q4
open Option renaming none->O,some->U
open Or renaming inl->Qc,inr->Qe
namespace Go.Proofs.YtcllhobffhkafaaGreatDoor
open Go.Extern Go.Extern.Stop Go.Lib Go.RowKit Go.Shelf Go.Sort Go.Stop
section
theorem Wg (k:List UInt8) (c:Nat):∀ts:List (List UInt8),ts.Nodup->(ts.map fun nm=>if k=nm then c else 0).sum=if k∈ts then c else 0
 | [],_=>by simp
 | t :: ts,h=>by
  rw[List.nodup_cons]at h;simp only[List.map_cons,List.sum_cons,Wg k c ts h.2,Qz];by_cases e:k=t
  ·subst e;simp[h.1]
  ·simp[e]
theorem xL {α:Type} [DecidableEq α] (f:α->List UInt8) (xs:List α) (b:List (List UInt8)) (d:b.Nodup) (g:∀nm,nm∈b↔(xs.filter fun x=>decide (f x=nm))≠ []):(b.flatMap fun nm=>xs.filter fun x=>decide (f x=nm)).Perm xs:=by
 rw[List.perm_iff_count];intro a;rw[List.count_flatMap];have e:(List.count a ∘ fun nm=>xs.filter fun x=>decide (f x=nm))=fun nm=>if f a=nm then xs.count a else 0:=by
  funext nm;simp only[Function.comp_def];by_cases h:f a=nm
  ·rw[if_pos h,List.count_filter (by simpa using h)]
  ·rw[if_neg h,Q0];simp[h]
 rw[e,Wg _ _ b d];split
 ·rfl
 ·rename_i h;rw[g]at h;symm;rw[Q0];intro c;exact h (List.ne_nil_of_mem (Qq.2 ⟨c,by simp⟩))
theorem Wh (p:Rw->ByteArray) (xs:List Rw) (c:List (List UInt8)) (d:c.Nodup) (f:∀nm,nm∈c↔grp p xs nm≠ []):(c.flatMap (grp p xs)).Perm xs :=
 @xL Rw (fun a b=>Classical.propDecidable (a=b)) (fun x=>(p x).data.toList) xs c d f
theorem xM {W:Qa} {base t:Nat} {p:Rw->ByteArray} {ys:List Rw} {D:DataW Unit} {u:List UInt8->V} (h:CX W base t p ys D u) {j d:List (List UInt8)} (v:j.Perm (strKeys D)) (m:d=j.mergeSort (fun x y=>decide (x<=y))) :
  d.Pairwise (fun x y=> ¬y<=x)/\d.Nodup/\(∀nm,nm∈d↔grp p ys nm≠ [])/\d.length<=ys.length:=by
 have g:d.Perm (strKeys D):=by rw[m];exact(List.mergeSort_perm _ _).trans v
 have f:d.Nodup:=by
  rw[g.nodup_iff];obtain⟨i,n,l,_⟩:=h.map.entries (Maps.string_keyed underlying9);subst n;show (i.map fun q=>strOf q.1).Nodup;refine List.pairwise_map.2 (l.imp_of_mem fun {q r} hq hr hne e=>hne ?_);obtain⟨x,o⟩:=h.keys i rfl q hq;obtain⟨y,s⟩:=h.keys i rfl r hr;rw[o,s]at e ⊢;exact congrArg _ e
 have k:d.Pairwise (fun x y=>decide (x<=y)=true):=by
  rw[m];exact List.pairwise_mergeSort (fun a b c h1 h2=>by simp only[decide_eq_true_eq]at *;exact List.le_trans h1 h2) (fun a b=>by simp only[Bool.or_eq_true,decide_eq_true_eq];exact List.le_total a b) j
 refine⟨?_,f,fun nm=>by rw[g.mem_iff];exact h.key_mem nm,by rw[g.length_eq,We D h.isMap];exact h.size⟩;refine(List.pairwise_and_iff.2 ⟨k,f⟩).imp fun {a b} hab hle=>?_;exact hab.2 (List.le_antisymm (by simpa using hab.1) hle)
theorem PU (b:List UInt8->V):∀(ts:List (List UInt8)) (i:Nat) (h:i<ts.length),(ts.flatMap fun nm=> [encStr nm,b nm])[i*2]? =U (encStr ts[i])/\(ts.flatMap fun nm=> [encStr nm,b nm])[i*2+1]? =U (b ts[i])
 | [],i,h=>by simp at h
 | t :: ts,0,_=>by simp
 | t :: ts,i+1,h=>by
  have c:=PU b ts i (by simpa using h);rw[show (i+1)*2=i*2+2 by omega];simpa using c
structure xN (W:Qa) (gq:Option Ql) (ts:List (List UInt8)) (hv:List UInt8->V) (G:List UInt8->List Rw):Prop where
 cells:∀i (h:i<ts.length),∃gg,gq=U ⟨gg,0,O⟩/\W.cell? ⟨gg,i*2,O⟩=U (encStr ts[i])/\W.cell? ⟨gg,i*2+1,O⟩=U (hv ts[i])
 rows:∀nm,Ar W (hv nm) (G nm)
theorem xO {W:Qa} {base k l:Nat} {j:Option Ql} {m:Nat} {b:List (List UInt8)} {c:List UInt8->V} {p:Rw->ByteArray} {xs:List Rw} {D:DataW Unit} (h:W.ownsRow base 167 2 (Z j b.length m) b.length (b.flatMap fun nm=> [encStr nm,c nm])) (n:CX W k l p xs D c) :
  xN W j b c (grp p xs):=by
 refine⟨fun i hi=>?_,fun nm=>(II (n.own nm)).1⟩;rcases h.2 with⟨_,r⟩|⟨g,o,q,e,_,d,_,_,_,f⟩
 ·omega
 ·injection e with e1 e2 e3;refine⟨g,e1,?_,?_⟩
  ·have:=(PU c b i hi).1;rw[<-f,Q1,if_pos (by omega)]at this;simp only[Qr,d];simpa using this
  ·have:=(PU c b i hi).2;rw[<-f,Q1,if_pos (by omega)]at this;simp only[Qr,d];simpa using this
theorem Wi (s:List UInt8):(A8 s).2.1=0\/(1<=(A8 s).2.2/\(A8 s).2.2<=1000):=by
 have b:∀l,(nO l).1=0->1<=(nO l).2/\(nO l).2<=1000:=fun l=>by
  unfold nO;split
  ·intro h;cases h
  ·split
   ·intro h;cases h
   ·split
    ·intro h;cases h
    ·intro _;dsimp only;omega
 unfold A8;split
 ·exact Qc rfl
 ·split
  ·split
   ·rename_i c;exact Qe (b _ c)
   ·exact Qc rfl
  ·split
   ·split
    ·rename_i d;exact Qe (b _ d)
    ·exact Qc rfl
   ·exact Qc rfl
theorem PV (c:UInt8) (n:Int) (b: -1073741824<=n) (d:n<=1073741824):(FH c n).size<=1000:=by
 have:=E6 n b d;unfold FH;rw[<-AA,ByteArray.data_append];simp[Ab];omega
theorem Wj (k:Nat) (n:Int) (f:k=0\/(1<=n/\n<=1000)) (x:Rw) (j:x.1.size<=30) (h:Ay x=0):(Dp k n x).size<=1000:=by
 have b:=LX h;unfold Dp;split
 ·omega
 ·rename_i d;have c:=f.resolve_left d;split
  ·have g:=Int.emod_nonneg x.2.1 (show n≠0 by omega);have i:=Int.emod_lt_of_pos x.2.1 (show 0<n by omega);exact PV _ _ (by omega) (by omega)
  ·have:=Sv x.2.1 n c.1 b.1 b.2;unfold Ip;split
   ·exact PV _ _ (by omega) (by omega)
   ·exact PV _ _ (by omega) (by omega)
theorem Wk:∀xs:List Rw,(∀x∈xs,Ay x=0)\/∃j,∃h:j<xs.length,Ay xs[j]≠0/\∀i (h':i<xs.length),i<j->Ay xs[i]=0
 | []=>Qc fun _ h=>by cases h
 | x :: xs=>by
  by_cases b:Ay x=0
  ·rcases Wk xs with h | ⟨j,d,f,g⟩
   ·refine Qc fun y c=>?_;rcases Qz.1 c with rfl | c
    ·exact b
    ·exact h y c
   ·refine Qe ⟨j+1,by simpa using d,by simpa using f,fun i hi hij=>?_⟩
    cases i with
    | zero=>simpa using b
    | succ i=>simpa using g i (by simpa using hi) (by omega)
  ·exact Qe ⟨0,by simp,by simpa using b,fun i _ h=>by omega⟩
attribute [local go_sem] Oper.semAt_some
def I6 (spec:ByteArray) (xs:List Rw) (ds:List Dr):Prop:= ∃ts:List (List UInt8),ts.Nodup/\(∀nm,nm∈ts↔grp (Dp (A8 spec.data.toList).2.1 (A8 spec.data.toList).2.2) xs nm≠ []) /\
 ds=(Cn (ts.map fun nm=>(Ab nm,Qb,grp (Dp (A8 spec.data.toList).2.1 (A8 spec.data.toList).2.2) xs nm))).map fun c=>Db c.1 c.2
def Gg (spec:ByteArray) (xs:List Rw):Prop:=(A8 spec.data.toList).1=0/\∀x∈xs,Ay x=0
def GC (k:Lk) (idx:Int) (xs:List Rw) (k':Lk) (m:Int):Prop :=
 Dw idx=true/\Gg k.spec xs/\((idx<=k.now.2.2.2.2.1/\m=0/\k'=k)\/(k.now.2.2.2.2.1<idx/\m=xs.length/\∃ds,I6 k.spec xs ds/\Fw k k' ds [] idx))
def Ig (k:Lk) (idx:Int) (xs:List Rw):Prop:=Dw idx=true/\Gg k.spec xs/\(idx<=k.now.2.2.2.2.1\/∀ds,I6 k.spec xs ds->Jv k ds [] idx)
theorem xP (gs:List Gk):Cn gs=Cn (gs.map fun g=>(g.1,Qb,g.2.2)):=by
 unfold Cn;rw[Q2]
def Wl (W:Qa) (spec:ByteArray) (xs:List Rw) (e:Ending) (w':Qa):Prop :=
 BL W w'/\((Gg spec xs/\∃(gv:V) (ts:List (List UInt8)) (gs:List Gk),e=Qj (Qf #[gv,Qb])/\I5 w' w'.heap.size gv gs/\gs.length<=xs.length/\(∀g∈gs,∀r∈g.2.2,r∈xs)/\(gs.map fun g=>(g.1,Qb,g.2.2))=(ts.map fun nm=>(Ab nm,Qb,grp (Dp (A8 spec.data.toList).2.1 (A8 spec.data.toList).2.2) xs nm))/\ts.Nodup/\∀nm,nm∈ts↔grp (Dp (A8 spec.data.toList).2.1 (A8 spec.data.toList).2.2) xs nm≠ []) \/
  (¬Gg spec xs/\∃t u,e=Qj (Qf #[Z O 0 0,Qg t u])))
theorem xQ (s:ByteArray) (v:V) (xs:List Rw) (w:Qa) (a:Nat->Ql) (h:Bd w a) (B:s.size<=1000) (C:Ar w v xs) (E:xs.length<=1000) (F:∀x∈xs,x.1.size<=30) :
  Qm prog 56 #[Qs s,v] w (Wl w s xs):=by
 obtain⟨q,d,rfl⟩:=C.form;have K:(A8 s.data.toList).2.1=0\/(1<=(A8 s.data.toList).2.2/\(A8 s.data.toList).2.2<=1000):=Wi _;have t:∀x∈xs,Ay x=0->(Dp (A8 s.data.toList).2.1 (A8 s.data.toList).2.2 x).size<=1000:=fun x hm h0=>Wj _ _ K x (F x hm) h0;by_cases b:(A8 s.data.toList).1=0
 ·rcases Wk xs with m | ⟨j,o,p,i⟩
  ·refine(xI s q d xs w a h B C E F b m t).mono ?_;rintro e R ⟨gv,T,D,hv,b1,b2,rfl,⟨ss,hS,W⟩,f,z,aa,p⟩;obtain⟨X,L,rfl⟩:=CY f;have u:=xO f z;obtain⟨-,M,y,N⟩:=xM z hS W;refine⟨p,Qc ⟨⟨b,m⟩,_,T,T.map fun c=>(Ab c,hv c,grp (Dp (A8 s.data.toList).2.1 (A8 s.data.toList).2.2) xs c),rfl,⟨⟨X,L,by rw[Qi]⟩,fun j o=>?_,fun g i=>?_⟩,by rw[Qi];exact N,?_,by rw[Q3];rfl,M,y⟩⟩
   ·rw[Qi]at o;obtain⟨Y,e1,P,c1⟩:=u.cells j o;subst e1;simp only[List.getElem_map,Qi];exact⟨Y,L,rfl,BD P,P,c1⟩
   ·obtain⟨c,Q,rfl⟩:=Qn.1 i;refine⟨u.rows c,fun _ k hk=>(Iu (z.own c) hk).2,Q4 ?_ E⟩;exact List.length_filter_le _ _
   ·intro g i r hr;obtain⟨c,Q,rfl⟩:=Qn.1 i;exact(Qq.1 hr).1
  ·refine(xJ s q d xs w a h B C E F b j o p i t).mono ?_;rintro e R ⟨fb,rfl,-,-,l⟩;exact⟨l,Qe ⟨fun h=>p (h.2 _ (List.getElem_mem o)),_,_,rfl⟩⟩
 ·refine(xK s q d xs.length w a h B b).mono ?_;rintro e R ⟨rfl,l⟩;obtain⟨n,hn⟩:∃n,(A8 s.data.toList).1=n+1:=⟨(A8 s.data.toList).1-1,by omega⟩;exact⟨l,Qe ⟨fun h=>b h.1,_,_,by rw[hn];rfl⟩⟩
theorem xR {W j:Qa} {D:Nat} {v:V} {ds:List Dr} {b:Option Nat} (h:AZ W D v ds) (n:W.grownBy j b) (p:∀r,b=U r->∃o:Obj,W.heap[r]? =U o/\o.isCells=false):AZ j D v ds:=by
 refine⟨h.1,h.2.imp id ?_⟩;rintro⟨g,f,i,e,l,c,m⟩;refine⟨g,f,i,e,l,(n.block g (Qt.1 c).1 (fun e'=>?_)).trans c,m⟩;obtain⟨o,d,k⟩:=p g e'.symm;rw[c]at d;cases d
 cases k
theorem Ll {X:Qa} {c:Nat} {d f:V} {b:Array V} (j:b[6]?.getD undef=Qd (U ⟨c,0,O⟩)) (k:b[7]?.getD undef=Qd (U ⟨c+1,0,O⟩)) (l:J X c 3 d) (m:J X (c+1) 27 f):(Qo f25 b).run prog X= .ok (Qf #[d,f]) X:=by
 have g:=l.cell;have i:=m.cell;simp[Qo,results25,go_sem,j,k,g,i]
theorem I7 {Y:Qa} {b:Nat} {f g:V} (i:J Y b 3 f) (j:J Y (b+1) 27 g) (c d:V):J ((Y.setCell ⟨b,0,O⟩ c).setCell ⟨b+1,0,O⟩ d) b 3 c/\J ((Y.setCell ⟨b,0,O⟩ c).setCell ⟨b+1,0,O⟩ d) (b+1) 27 d:=⟨(i.set c).other (by omega) d,(j.other (by omega) c).set d⟩
theorem xS (q:Option Ql) (n c:Nat) (w:Qa):Qm prog 58 #[Z q n c] w fun e w'=>e=Qj (.func (.func 107) #[] #[Qd (U ⟨w.heap.size,0,O⟩)])/\w'=w.alloc (S #[Z q n c] 95):=by
 go_enter func58,ntmps58
 go_wp2;go_ret;exact⟨rfl,rfl⟩
theorem xT {X:Qa} {vf:V} {g:List Fl} (h:Ai X vf g) (d:g≠ []) {j:Nat} (f:vf.ownBlock=U j):∃o s,X.cell? ⟨j,o,O⟩=U (Qs s):=by
 rcases h with⟨_,_,_,_,e⟩|⟨b,o,c,k,_,l⟩
 ·exact absurd e d
 ·rw[k]at f;simp only[Q5,Option.some.injEq]at f;subst f;obtain⟨i,-⟩:=l 0 (List.length_pos_iff.2 d);exact⟨_,_,i⟩
theorem Wm {X:Qa} {j o:Nat} {t:TypeId} {v u:V} (h:J X j t v) (b:X.cell? ⟨j,o,O⟩=U u):u=v:=by
 rw[Qu _ _ _ _ _ _ h]at b
 match o,b with
 | 0,b=>simpa using b.symm
 | o+1,b=>simp at b
theorem Ac.putObj {P:Nat->Prop} {b w:Qa} (h:Ac P b w) {D:Nat} (c:P D) (o:Obj):Ac P b (w.putObj D o):=⟨h.os,h.tape,h.output,by simpa [World.putObj] using h.size,fun k hk hP=>(Qv (fun e=>hP (by rw[e];exact c))).trans (h.block k hk hP)⟩
theorem An.told {a:Nat->Ql} {B:Nat} {q:Qa->Prop} (K:AJ a B q A0) {X:Qa} {g:Nat} {n i vf:V} {l:Nat->Prop} {p:ByteArray} {k:Lk} (h:An X g n l p i vf k) {b D:Nat} (r:J X b 3 (H A 0)) (t:J X (b+1) 27 Qb) (u:X.heap[D]? =U (Qh (U []))) (v:∀j,l j->j≠b/\j≠b+1/\j≠D) (y:g<b/\b<D) (hi:∀j,i.ownBlock=U j->j≠b/\j≠b+1/\j≠D) (c d:V) :
  An (((X.setCell ⟨b,0,O⟩ c).setCell ⟨b+1,0,O⟩ d).putObj D (Qh O)) g n l p i vf k/\Ac (fun j=>j=b\/j=b+1\/j=D) X (((X.setCell ⟨b,0,O⟩ c).setCell ⟨b+1,0,O⟩ d).putObj D (Qh O)):=by
 have m:Ac (fun j=>j=b\/j=b+1\/j=D) X (((X.setCell ⟨b,0,O⟩ c).setCell ⟨b+1,0,O⟩ d).putObj D (Qh O)):=(((Ac.refl _ X).setCell (Qc (Qc rfl)) c).setCell (Qc (Qe (Qc rfl))) d).putObj (Qe (Qe rfl)) _;refine⟨h.but K m (fun j hj e=>?_) (fun e=>by omega) (fun _ j hj e=>?_) (fun hne j hj e=>?_),m⟩
 ·have:=v j hj;omega
 ·have:=hi j hj;omega
 ·obtain⟨o,s,f⟩:=xT h.fls hne hj;rcases e with rfl | rfl | rfl
  ·cases Wm r f
  ·cases Wm t f
  ·simp[Qr,u]at f
theorem xU {W k:Qa} {v:V} {xs:List Rw} {d:Option Nat} (h:Ar W v xs) (g:W.grownBy k d) (i:∀r,d=U r->∃o:Obj,W.heap[r]? =U o/\o.isCells=false):Ar k v xs:=by
 rcases h with h | ⟨b,o,c,e,f⟩
 ·exact Qc h
 ·exact Qe ⟨b,o,c,e,fun j hj=>⟨Qw (f j hj).1 g i,Qw (f j hj).2.1 g i,Qw (f j hj).2.2 g i⟩⟩
theorem xV (gs:List Gk):(Cn gs).length<=(gs.flatMap fun g=>g.2.2).length:=by
 induction gs with
 | nil=>exact Qk _
 | cons g r ih =>
  unfold Cn DH at *;rw[Q6,Q7,Q6,Q7,Qi,Qi,List.length_range];omega
theorem Wn {gs:List Gk} {c:ByteArray×List Rw} (h:c∈Cn gs):∃g∈gs,c.1=g.1/\(∀r∈c.2,r∈g.2.2)/\c.2.length<=40:=by
 obtain⟨g,b,h⟩:=List.mem_flatMap.1 h;obtain⟨i,d,rfl⟩:=Qn.1 h;exact⟨g,b,rfl,fun r hr=>(Ej g.2.2).mem_iff.1 (List.mem_of_mem_drop (List.mem_of_mem_take hr)),List.length_take_le _ _⟩
theorem Wo {xs:List Rw} (h:Ed xs):(Ab (EK (A5 xs))).size<=1400:=by
 rw[E9];exact LK Ks (A5 xs) (fun x hx=>h.2 x ((Ej xs).mem_iff.1 hx)) (by rw[Hi];exact h.1)
theorem Lm {b:ByteArray} {xs:List Rw} {ds:List Dr} (h:I6 b xs ds) (o:Gg b xs) (v:∀x∈xs,x.1.size<=30):ds.length<=xs.length/\∀d∈ds,DU d.1/\Bp d.1/\d.1.size<=100/\d.2.1.size<=1000/\d.2.2.size<=1400:=by
 obtain⟨k,p,l,rfl⟩:=h;refine⟨?_,fun d hd=>?_⟩
 ·rw[Qi];refine Q4 (xV _) ?_;rw[Q2,show (k.flatMap fun f=>grp _ xs f).length=xs.length from (Wh _ xs k p l).length_eq];exact Qk _
 ·obtain⟨c,q,rfl⟩:=Qn.1 hd;obtain⟨g,r,s,t,u⟩:=Wn q;obtain⟨f,m,rfl⟩:=Qn.1 r;refine⟨Vc,show (47:UInt8)∈(⟨#[100,97,116,97,47]⟩:ByteArray).data.toList by decide,show (⟨#[100,97,116,97,47]⟩:ByteArray).size<=100 by decide,?_,Wo ⟨u,fun x j=>o.2 x (Qq.1 (t x j)).1⟩⟩;show c.1.size<=1000;obtain⟨x,j⟩:=List.exists_mem_of_ne_nil _ ((l f).1 m);obtain⟨i,n⟩:=Qq.1 j;have:=Wj _ _ (Wi b.data.toList) x (v x i) (o.2 x i);rw[s];show (Ab f).size<=1000;rw[E9,<-of_decide_eq_true n,AA];exact this
section
variable {a : Nat → Ql} {B : Nat} {EM : Qa → Prop}
theorem Nc (K:AJ a B EM A0) (HL:∀X,EM X->Bg X a) {W:Qa} {Q:Nat} {vs:V} {SP:Nat->Prop} {vi vf:V} {k:Lk} (hE:EM W) (h:An W Q vs SP k.st.head vi vf k) (hi:Ax k) (hB:B<=Q/\∀j,SP j->B<=j) (c5:k.spec.size<=1000) (b:Int) {vx:V} {xs:List Rw} (hx:Ar W vx xs) (db:xs.length<=100) (hp:∀x∈xs,x.1.size<=30) :
  Qm prog 25 #[Qd (U ⟨Q,0,O⟩),H A b,vx] W (AX W Q vs SP k (GC k b xs) (Ig k b xs)):=by
 obtain⟨pt,rfl⟩:=h.ptr K;have ao:I (∀X,Below W.heap.size W X->EM X):=fun X M=>K.below _ _ hE (M.mono (K.size _ hE));have HQ:I (∀X,Below W.heap.size W X->An X Q (Qd (U pt)) SP k.st.head vi vf k):=fun X M=>h.quiet K M;have HG:I (B3 k.st):=hi.good;have be:I (∀X,Below W.heap.size W X->Qm prog 56 #[Qs k.spec,vx] X (Wl X k.spec xs)):=fun X M=>xQ k.spec vx xs X a (HL X (ao.out X M)).f.data.env c5 (hx.below M) (by omega) hp;have cg:I (∀X,Below W.heap.size W X->DE X a):=fun X M=>(HL X (ao.out X M)).f.data;have ch:I (∀X D vd vr ds,Below W.heap.size W X->W.heap.size<=D->AZ X D vd ds->BS X vr []->(∀j,vr.ownBlock=U j->¬SP j)->ds.length<=100->(∀d∈ds,Bp d.1/\d.1.size<=100/\d.2.1.size<=1000/\d.2.2.size<=100000)->Qm prog 60 #[Qd (U ⟨Q,0,O⟩),.agg #[vd,vr],H A b] X (Du a X Q (Qd (U pt)) SP vi k ds [] b)):=fun X D vd vr ds M hD N hr hro hl au=>Pn K HL (ao.out X M) (HQ.out X M) hi hB N hr (fun j q e=>by have:=Jb N q;have:=(h.sizes K).2 j e;omega) hro hl (by simp) au b;have ax:I (∀x∈xs,x.1.size<=30):=hp;have ci:I (∀j,vi.ownBlock=U j->j<W.heap.size):=fun j q=>KO h.ids.1 (DO.1 hi.ids).1 q;have ai:I (Q<W.heap.size/\∀j,SP j->j<W.heap.size):=h.sizes K;obtain⟨qx,cx,ct⟩:=hx.form;subst ct;have bf:I (∀X,Below W.heap.size W X->X.cell? ⟨1,0,O⟩=U (Qg 410 (Qd (U (a 1))))):=fun X M=>(HL X (ao.out X M)).m.bound;obtain⟨c0,c1,-,-,-,-,-,-,c8,-⟩:=h.blk.cells;clear hE h hi hB hx hp;refine(Q8 (n:=20)).1 ?_;refine callsIn_of_wp_marks func25 rfl trivial ?_ rfl;simp only[ntmps25,List.size_toArray,List.length_cons,List.length_nil,Nat.reduceAdd,Nat.reduceSub,Array.replicate_succ,Array.replicate_zero,List.push_toArray,List.append_toArray,List.nil_append,List.cons_append];refine wpIn_wide.2 ?_;have P:Below W.heap.size W ((W.alloc (S #[H A 0] 3)).alloc (S #[Qb] 27)):=(Af _ _).alloc (by simp) _;have ac:J ((W.alloc (S #[H A 0] 3)).alloc (S #[Qb] 27)) W.heap.size 3 (H A 0):=(Boxed.new W 3 (H A 0)).alloc _;have ad:J ((W.alloc (S #[H A 0] 3)).alloc (S #[Qb] 27)) (W.heap.size+1) 27 Qb:=by
  have:=Boxed.new (W.alloc (S #[H A 0] 3)) 27 Qb;simpa using this
 go_upto_region 1 with fail
 generalize (W.alloc (S #[H A 0] 3)).alloc (S #[Qb] 27)=W1 at P ac ad ⊢;have HR:I (J W1 W.heap.size 3 (H A 0)/\J W1 (W.heap.size+1) 27 Qb):=⟨ac,ad⟩;have z:I (W.heap.size<=W.heap.size/\W.heap.size<=W.heap.size+1):=⟨Qk _,Qp _⟩;have bg:=Aa P c0;have bh:=Aa P c1;have ay:=Aa P c8;have bi:=I2 bg;have bj:=Vz b W1
 -- a result is stored,and told
 have ca:∀(X:Qa) (v7:V),J X W.heap.size 3 (H A 0)->True:=fun _ _ _=>trivial;generalize bd:W.heap.size=p at *;have R:I (W.heap.size=p):=bd;clear bd ca c0 c1 c8
 go_wp2_with fail
 refine bi.mono ?_;rintro e w1 ⟨rfl,e1⟩;rw[e1];clear bi e1
 go_wp2_with fail
 refine bj.mono ?_;rintro e w1 ⟨rfl,e1⟩;rw[e1];clear bj e1;have k6:=ac.cell;have k7:=ad.cell;have f6:=ac.frozen;have f7:=ad.frozen
 cases M:Dw b with
 | false =>
  have cj:I (Dw b=false):=M;have HP:I (∀X,Below p W X->AX W Q (Qd (U pt)) SP k (GC k b xs) (Ig k b xs) (Qj (Qf #[H A 0,Qg 410 (Qd (U (a 1)))])) X):=fun X L=>AX.bad (HQ.out W (Qx _ _)) HG.out K (by unfold BL;rw[R.out];exact L) (fun h=>by have y:=h.1;rw[cj.out]at y;cases y);have ck:=bf.out W1 P;have es:W1.setCell ⟨p,0,O⟩ (H A 0)=W1:=Ah k6;have c6:(W1.setCell ⟨p,0,O⟩ (H A 0)).cell? ⟨1,0,O⟩=U (Qg 410 (Qd (U (a 1)))):=by rw[es];exact ck
  clear bh ay ac ad es;go_wp2
  go_region
  go_wp2;exact⟨_,Ll rfl rfl (I7 HR.out.1 HR.out.2 _ _).1 (I7 HR.out.1 HR.out.2 _ _).2,HP.out _ (((P.setCell (Qk _) _).setCell (Qp _) _).drew)⟩
 | true =>
 have bk:I (Dw b=true):=M;have bl:=be.out W1 P;clear M ac ad k6 k7 f6 f7 bf be
 go_wp2_with fail
 refine bl.mono ?_;rintro e C ⟨aw,a6⟩;have az:Below p W C:=P.trans (aw.mono (by have:=P.size;have:=R.out;omega));have z:I (J C p 3 (H A 0)/\J C (p+1) 27 Qb):=⟨(aw.block _ HR.out.1.lt).trans HR.out.1,(aw.block _ HR.out.2.lt).trans HR.out.2⟩;have a0:=Aa aw ay;have k6:=z.out.1.cell;have k7:=z.out.2.cell;have f6:=z.out.1.frozen;have f7:=z.out.2.frozen;clear bl bg bh ay P;rcases a6 with⟨hR,gv,ts,F,rfl,a9,b2,b3,b4,b5,ba⟩|⟨hR,t,u,rfl⟩
 case inr =>
  have HP:I (∀X,Below p W X->AX W Q (Qd (U pt)) SP k (GC k b xs) (Ig k b xs) (Qj (Qf #[H A 0,Qg t u])) X):=fun X L=>AX.bad (HQ.out W (Qx _ _)) HG.out K (by unfold BL;rw[R.out];exact L) (fun h=>hR h.2.1);clear a0 hR;go_wp2;exact⟨_,Ll rfl rfl (I7 z.out.1 z.out.2 _ _).1 (I7 z.out.1 z.out.2 _ _).2,HP.out _ ((az.setCell (Qk _) _).setCell (Qp _) _)⟩
 case inl =>
 have ap:I (Gg k.spec xs):=hR;have aj:I (F.length<=xs.length/\(∀g∈F,∀r∈g.2.2,r∈xs)/\(F.map fun g=>(g.1,Qb,g.2.2))=(ts.map fun nm=>(Ab nm,Qb,grp (Dp (A8 k.spec.data.toList).2.1 (A8 k.spec.data.toList).2.2) xs nm))/\ts.Nodup/\∀nm,nm∈ts↔grp (Dp (A8 k.spec.data.toList).2.1 (A8 k.spec.data.toList).2.2) xs nm≠ []):=⟨b2,b3,b4,b5,ba⟩;have cl:I (I5 C C.heap.size gv F):=a9;obtain⟨gq,gc,cu⟩:=a9.form;subst cu;have bm:=Pv (n:=b) a0;clear hR a9 b2 b3 b4 b5 ba a0
 go_wp2_with fail
 refine bm.mono ?_;rintro e w3 ⟨rfl,e1⟩;rw[e1];clear bm e1;by_cases cm:b<=k.now.2.2.2.2.1
 case pos =>
  have HP:I (∀X,Below p W X->AX W Q (Qd (U pt)) SP k (GC k b xs) (Ig k b xs) (Qj (Qf #[H A 0,Qb])) X):=fun X L=>AX.same (HQ.out W (Qx _ _)) K (by unfold BL;rw[R.out];exact L) ⟨bk.out,ap.out,Qc ⟨cm,rfl,rfl⟩⟩;go_wp2;exact⟨_,Ll rfl rfl (I7 z.out.1 z.out.2 _ _).1 (I7 z.out.1 z.out.2 _ _).2,HP.out _ ((az.setCell (Qk _) _).setCell (Qp _) _)⟩
 case neg =>
 have bn:I (k.now.2.2.2.2.1<b):=by show _<_;omega
 have bo:=xS gq F.length gc (C.alloc (S #[Z O 0 0,Z O 0 0] 100));clear k6 k7 f6 f7
 go_wp2_with fail
 refine bo.mono ?_;rintro e w4 ⟨rfl,rfl⟩;clear bo
 go_wp2_with fail
 have aq:Below C.heap.size C ((C.alloc (S #[Z O 0 0,Z O 0 0] 100)).alloc (S #[Z gq F.length gc] 95)):=(Af _ _).alloc (by simp) _;have al:Ee ((C.alloc (S #[Z O 0 0,Z O 0 0] 100)).alloc (S #[Z gq F.length gc] 95)) C.heap.size (Z O 0 0) (Z O 0 0):=by
  have:=heap_alloc_new C (S #[Z O 0 0,Z O 0 0] 100);exact((Af _ _).block _ (Q9 this)).trans this
 have am:J ((C.alloc (S #[Z O 0 0,Z O 0 0] 100)).alloc (S #[Z gq F.length gc] 95)) (C.heap.size+1) 95 (Z gq F.length gc):=by
  have:=Boxed.new (C.alloc (S #[Z O 0 0,Z O 0 0] 100)) 95 (Z gq F.length gc);simpa using this
 have an:=cl.out.keep (D8.of_below aq);have bp:((C.alloc (S #[Z O 0 0,Z O 0 0] 100)).alloc (S #[Z gq F.length gc] 95)).heap.size=C.heap.size+2:=by simp
 have cc:=z.out.2.lt;generalize (C.alloc (S #[Z O 0 0,Z O 0 0] 100)).alloc (S #[Z gq F.length gc] 95)=W5 at aq al am an bp ⊢;obtain⟨E,a5⟩:∃n,C.heap.size=n:=⟨_,rfl⟩;have bq:I (C.heap.size=E):=a5;rw[a5]at aq al am an bp cc ⊢;have ce:=xE 19 (E+1) E (Z gq F.length gc) F W5 am an (by have:=aj.out.1;omega);have br:I (∀X,Below E C X->Below p W X):=fun X L=>az.trans (L.mono (by omega));have ar:I (I6 k.spec xs ((Cn F).map fun c=>Db c.1 c.2)):=⟨ts,aj.out.2.2.2.1,aj.out.2.2.2.2,by rw[xP F,aj.out.2.2.1]⟩;have ae:=Lm ar.out ap.out ax.out;have ae:I (((Cn F).map fun c=>Db c.1 c.2).length<=xs.length/\∀d∈(Cn F).map fun c=>Db c.1 c.2,DU d.1/\Bp d.1/\d.1.size<=100/\d.2.1.size<=1000/\d.2.2.size<=1400):=ae;refine(wpIn_wide (n:=20)).1 ?_;refine Wd (n:=20) rfl (enters_of func107 (by kernel_rfl) rfl) (fun _=>rfl) ce (fun h k=>h.trans k) ?hKb ?hEx
  (fun ah X=> ∃v,Ee X E v (Z O 0 0)/\AZ X E v (ah.map fun x=>Db x.1 x.2.2)/\Below E C X) ?own ⟨_,al,AZ.nil _ _,aq⟩ ?a1 ?assign ?body ?done
 case assign =>
  intro l x X K hK
  gi_wp2
  exact hK
 case hKb =>
  intro X l o o' hl cy cz;have hg:=grownBy_putObj' X l o';refine⟨hg.size,fun i hi hc=>hg.block i hi ?_⟩;intro e;cases e
  rcases hc with hc | ⟨cs,t,fz,y,_⟩
  ·omega
  ·rw[cy]at y;cases y;cases cz
 case hEx =>
  rintro ah x s X Y bx ⟨y,h2,h3⟩ hg hr;exact⟨y,xU h2 hg (fun r e=>(hr r e).2),h3⟩
 case own =>
  rintro ah X Y bx ⟨v,y,h2,h3⟩ hg hr;exact⟨v,(hg.block E (Q9 y) (fun e=>by have:=(hr E e.symm).1;omega)).trans y,xR h2 hg (fun r e=>(hr r e).2),ownFrom_below (β:=Unit) (by omega) (by omega) () X Y bx h3 hg hr⟩
 case body =>
  rintro l ah x X hl-⟨v,hc,N,T⟩ ⟨hn,a7,⟨g,hg,-,cf⟩,bz⟩;have af:=br.out X T;have bs:=cg.out X af;have a2:∀r∈x.2.2,r∈xs:=fun r hr=>aj.out.2.1 g hg r (cf r hr);have cn:=ae.out.1;rw[Qi]at cn;have a3:=VF bs hc N (by have:=T.size;have:=bq.out;omega) (by rw[Qi];omega) a7 (by omega) (fun r hr=>ax.out r (a2 r hr)) x.1;have bt:I (Ed x.2.2):=⟨bz,fun r hr=>ap.out.2 r (a2 r hr)⟩;have ak:I (Ee X E v (Z O 0 0)/\AZ X E v (ah.map fun x=>Db x.1 x.2.2)/\Below E C X):=⟨hc,N,T⟩;obtain⟨qw,cw,cv⟩:=a7.form;rw[cv]at a3;clear hc N T bs a7 bz a2 hn af
  gi_wp2_with fail
  refine⟨trivial,(CallsIn.inRound l ((Q8 (n:=17)).2 a3)).mono ?_⟩;rintro e X2 c2;clear a3;rcases c2 with⟨-,rfl,v',b8,b9,aa⟩|⟨bb,-⟩
  case inr=>exact absurd bt.out bb
  have ab:∀j,(j=E\/v.ownBlock=U j)->∃cs fz t,X.heap[j]? =U (S cs t fz)/\E<=j/\(t=100\/t=111):=fun j q=>by
   rcases q with rfl | q
   ·exact⟨_,_,_,ak.out.1,Qk _,Qc rfl⟩
   ·obtain⟨y,h2,c7,h3⟩:=AF ak.out.2.1 q;exact⟨_,_,_,h3,y,Qe rfl⟩
  have co:I (KeepsFrom W5.heap.size X X2/\D8 E X X2/\∃v,Ee X2 E v (Z O 0 0)/\AZ X2 E v ((ah++ [x]).map fun x=>Db x.1 x.2.2)/\Below E C X2):=by
   refine⟨⟨aa.size,fun j o _ q ho=>(aa.block j (Qt.1 q).1 fun hp=>?_).trans q⟩,⟨aa.size,fun j q hc=>aa.block j q fun hp=>?_⟩,v',b8,by rw[List.map_append];exact b9,ak.out.2.2.trans (aa.below (by have:=ak.out.2.2.size;have:=bq.out;omega) (fun j q=>by obtain⟨_,_,_,-,h,-⟩:=ab j q;exact h))⟩
   ·obtain⟨cs,fz,t,y,-⟩:=ab j hp;rw[q]at y;cases y
    cases ho
   ·obtain⟨cs,fz,t,y,h2,h3⟩:=ab j hp;rcases hc with hc | ⟨c9,t',da,h4,h5,h6⟩
    ·omega
    ·rw[y]at h4;cases h4
     exact h3.elim h5 h6
  clear ab aa b8 b9 bt ak
  gi_wp2
  exact co.out
 case done =>
  rintro D c3 X hD hS ⟨v,hc,N,T⟩ hK;have af:=br.out X T;have au:(c3.map fun x=>Db x.1 x.2.2)=(Cn F).map fun c=>Db c.1 c.2:=by rw[<-hS,Q3];rfl
  rw[au]at N;clear au hS;generalize (Cn F).map (fun c=>Db c.1 c.2)=ds at N ar ae;obtain⟨qd,cd,rfl,-⟩:=N.at;have a4:=ch.out X E (Z qd ds.length cd) (Z O 0 0) ds af (by omega) N (Qc ⟨rfl,rfl⟩) (fun j q=>by simp[Q5]at q) (by have:=ae.out.1;omega) (fun d N=>by obtain⟨-,y,h2,h3,h4⟩:=ae.out.2 d N;exact⟨y,h2,h3,by omega⟩);have k0:X.cell? ⟨E,0,O⟩=U (Z qd ds.length cd):=by rw[Qu _ _ _ _ _ _ hc];rfl
  have k1:X.cell? ⟨E,1,O⟩=U (Z O 0 0):=by rw[Qu _ _ _ _ _ _ hc];rfl
  have cp:I (J X p 3 (H A 0)/\J X (p+1) 27 Qb/\X.heap[D]? =U (Qh (U []))/\p+2<=D/\Below p W X):=⟨(T.block _ (by omega)).trans z.out.1,(T.block _ (by omega)).trans z.out.2,hK,by omega,af⟩;generalize ds.length=GL at a4 k0 ⊢;clear hc N T af hK
  go_wp2_with fail
  refine a4.mono ?_;rintro e X7 ⟨n,c4,b0,b1,k',rfl,y,h2,a8,h3,h4⟩;have L:=cp.out;have bu:p+2<=X.heap.size/\D<X.heap.size:=⟨by have:=L.2.1.lt;omega,(Qt.1 L.2.2.1).1⟩;have av:∀j,p<=j->¬(SP j\/j=Q):=fun j q e=>e.elim (fun e=>by have:=ai.out.2 j e;omega) (fun e=>by have:=ai.out.1;omega);have b6:J X7 p 3 (H A 0):=(y.block _ L.1.lt (av _ (Qk _))).trans L.1;have b7:J X7 (p+1) 27 Qb:=(y.block _ L.2.1.lt (av _ (Qp _))).trans L.2.1;have bD:X7.heap[D]? =U (Qh (U [])):=(y.block _ bu.2 (av _ (by omega))).trans L.2.2.1;have bv:=An.told K h3 b6 b7 bD (fun j q=>(h2 j q).elim (fun e=>by have:=ai.out.2 j e;omega) (fun e=>by omega)) ⟨ai.out.1,by omega⟩ (fun j q=>a8.1.elim (fun e=>by have:=ci.out j (e▸q);omega) (fun e=>by have:=e j q;omega));have cq:I (Ac (fun j=>SP j\/j=Q) W X7):=(Ac.of_below (by have:=L.2.2.2.2;unfold BL;rw[R.out];exact this)).trans y (fun _ h _=>h);have cr:I (Ft W Q k b0 b1 k'):=a8.2.low (by have:=L.2.2.2.2;unfold BL;rw[R.out];exact this) (by have:=ai.out.1;have:=R.out;omega);have bw:I (∀v6 v7 m ev,((∃t u,ev=Qg t u)/\n≠0)\/(ev=Qb/\n=0/\m=(xs.length:Int))->AX W Q (Qd (U pt)) SP k (GC k b xs) (Ig k b xs) (Qj (Qf #[H A m,ev])) (((X7.setCell ⟨p,0,O⟩ v6).setCell ⟨p+1,0,O⟩ v7).putObj D (Qh O))):=fun v6 v7 m ev a6=>by
   obtain⟨g1,g2⟩:=bv v6 v7;refine⟨c4,b0,b1,k',m,ev,rfl,cq.out.trans g2 (fun j q hjl=>by have:=R.out;omega),fun j q=>(h2 j q).imp_right (fun e=>by have:=R.out;omega),⟨g1,cr.out⟩,?_⟩;rcases a6 with⟨bc,hn⟩|⟨bc,hn,hm⟩
   ·rcases h4 with⟨-,bb,s',hg,e⟩|⟨h0,-⟩
    ·exact Qc ⟨bc,fun h=>h.2.2.elim (fun e=>absurd e (by have:=bn.out;omega)) (fun e=>bb (e _ ar.out)),s',hg,e⟩
    ·exact absurd h0 hn
   ·rcases h4 with⟨h0,-⟩|⟨-,N⟩
    ·exact absurd hn h0
    ·exact Qe ⟨bc,bk.out,ap.out,Qe ⟨bn.out,hm,_,ar.out,N⟩⟩
  have ag:I (∀v6 v7,J (((X7.setCell ⟨p,0,O⟩ v6).setCell ⟨p+1,0,O⟩ v7).putObj D (Qh O)) p 3 v6/\J (((X7.setCell ⟨p,0,O⟩ v6).setCell ⟨p+1,0,O⟩ v7).putObj D (Qh O)) (p+1) 27 v7/\((X7.setCell ⟨p,0,O⟩ v6).setCell ⟨p+1,0,O⟩ v7).heap[D]? =U (Qh (U []))):=fun v6 v7=>⟨(Qv (by omega)).trans (I7 b6 b7 v6 v7).1,(Qv (by omega)).trans (I7 b6 b7 v6 v7).2,(QA _ _ _ _ (by show D≠p+1;omega)).trans ((QA _ _ _ _ (by show D≠p;omega)).trans bD)⟩;have k6:=b6.cell;have k7:=b7.cell;have f6:=b6.frozen;have f7:=b7.frozen;clear av bv b6 b7 bD y h2 a8 h3 h4 L bu k0 k1 a4;by_cases hn:n=0
  case neg =>
   obtain⟨i,rfl⟩:∃i,n=i+1:=⟨n-1,by omega⟩;simp only[Ae];clear hn;go_wp2;refine⟨by simp,.inl ⟨_,_,rfl,QB (ag.out _ _).2.2,?_⟩⟩;exact⟨_,Ll rfl rfl (ag.out _ _).1 (ag.out _ _).2.1,bw.out _ _ _ _ (Qc ⟨⟨_,_,rfl⟩,by omega⟩)⟩
  case pos =>
   subst hn;simp only[Ae];go_wp2;refine⟨by simp,.inl ⟨_,_,rfl,QB (ag.out _ _).2.2,?_⟩⟩;exact⟨_,Ll rfl rfl (ag.out _ _).1 (ag.out _ _).2.1,bw.out _ _ _ _ (Qe ⟨rfl,by trivial,rfl⟩)⟩
end
end
theorem xW (v:V) (d:List Fl) (least:Int) (w:Qa) (a:Nat->Ql) (h:D4 w a) (l:Ai w v d) (B:d.length<=100) (m:Eb d) (g:(BF d).1≠0\/least<0\/41<least) :
  Qm prog 72 #[v,H A least] w fun e w'=> ∃t u,e=Qj (Qf #[Z O 0 0,Qg t u])/\BL w w':=by
 have i:=KI v d w a h l (by omega) m;have j:I _:=fun W (c:BL w W)=>h.file.env.below c;obtain⟨q,s,rfl⟩:=l.form
 go_enter func72,ntmps72
 go_wp2_with fail
 refine i.mono ?_;rintro e r ⟨z,rfl,k,b⟩;by_cases f:(BF d).1=0
 case neg =>
  obtain⟨o,p,rfl⟩:=k.bad f;go_wp2;refine Qy (v:=Qf #[Z O 0 0,Qg o p]) (by simp[Qo,results72,go_sem]) rfl ?_;exact⟨_,_,rfl,b⟩
 case pos =>
 obtain rfl:=k.ok f;have c:least<0\/41<least:=by
  rcases g with h | h
  ·exact absurd f h
  ·exact h
 have y:=(j.out r b).bound;rcases c with c | c
 ·have n:=c
  go_upto_region 5 with fail
  go_region
  all_goals go_wp2
  all_goals refine Qy (v:=Qf #[Z O 0 0,Qg 410 (Qd (U (a 1)))]) (by simp[Qo,results72,go_sem]) rfl ?_
  all_goals exact⟨_,_,rfl,b.drew⟩
 ·have n:¬least<0:=by omega
  go_upto_region 5 with fail
  go_region
  all_goals go_wp2
  all_goals refine Qy (v:=Qf #[Z O 0 0,Qg 410 (Qd (U (a 1)))]) (by simp[Qo,results72,go_sem]) rfl ?_
  all_goals exact⟨_,_,rfl,b.drew⟩
end Go.Proofs.YtcllhobffhkafaaGreatDoor
