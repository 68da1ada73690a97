/- By an AI agent. -/
import Derived.Test.YtcllhobffhkafaaGreatDoorExpTxt
set_option maxRecDepth 100000
set_option maxHeartbeats 16000000
open Go.Proofs.Tryz
open Bool renaming false->G,true->V,and_eq_true->Qw,eq_iff_iff->Q1,false_eq_true->Q9
open Go renaming World->U,Value->I,DataW->Qa,TypeId->Qj,MemPlace->Qs,maxLen->Q0
open Go.Instr renaming lookup->Qu,mapUpdate->Qz
open Go.IntKind renaming i64->Z
open Go.Maps renaming IsMap->QE,isMap_empty->QF,atKey_put_same->QH,atKey_put_other->QI
open Go.Proofs.Tryz renaming prog->A,underlying3->Qt,underlying133->QG,underlying134->QL
open Go.Value renaming int->S,slice->Qc,ownBlock->Qk
open Go.World renaming cell?->Ql
open List renaming mem_cons_self->Qe,mem_cons_of_mem->Qf,filter_map->Qg,filter_congr->Qh,filter_filter->Qi,flatMap_cons->Qn,mem_map->Qo,filter_append->Qp,mem_filter->Qq,filter_cons->Qr,foldl_append->Qv,foldl_cons->Qx,take_append_getElem->Q2,reverse_append->Q3,getElem?_eq_some_iff->Q4,append_nil->Q5,filter_sublist->Q6,filter_eq_self->Q7,filter_eq_nil_iff->Q8,getElem?_cons_succ->QA,pairwise_cons->QB,map_append->QC,mem_cons->QD,length_append->QJ,mem_append->QK
open Option renaming some->O,none->J
open Option.some renaming injEq->Qy,inj->QM
open Or renaming inr->Qb,inl->Qd
open Prod.mk renaming inj->Qm,injEq->QN
namespace Go.Proofs.YtcllhobffhkafaaGreatDoor
open Go.Lib
section
open Go.Extern Go.Extern.Stop Go.RowKit Go.Shelf Go.Sort Go.Stop
def KP (s:St):Prop:= ∀o∈s.obs,0<=o.2.2/\o.2.2<=100000
theorem lS:KP Ff:=fun _ h=>(nomatch h)
theorem lT {s:St} (h:KP s) (n:ByteArray): -1<=Ht s.obs n/\Ht s.obs n<=100000:=by
 unfold Ht
 cases b:B1 s.obs n with
 | none=>simp
 | some o =>
  have:=h o (FG b).1;simp only;omega
theorem lU {s:St} (K:AR s) {o:Ob} (b:o∈s.obs):Ht s.obs o.1=o.2.2:=by
 unfold Ht;rw[IR K.rise b]
def KQ (s:St) (us:List ByteArray) (age:Int) (x:ByteArray):Bool:=BI us x || decide (s.day-Ht s.obs x<age)
theorem lV {s:St} (K:AR s) {c b:List ByteArray} (i:∀x,x∈c↔x∈b) (age:Int):((s.obs.map fun o=>o.1).filter fun x=> !KQ s c age x)=FT s b age:=by
 unfold FT;rw[Qg];congr 1;apply Qh;intro o g;simp only[Function.comp,KQ];rw[lU K g];have d:BI c o.1=BI b o.1:=by
  rw[Q1,Jc,Jc,i]
 have f:decide (s.day-o.2.2<age)= !decide (age<=s.day-o.2.2):=by
  rw[Q1];simp
 rw[d,f];cases BI b o.1<;>cases decide (age<=s.day-o.2.2)<;>rfl
theorem lW {l:List UInt8} {n:Int} (h:As l=O n): -1000000000000000000<n/\n<1000000000000000000:=by
 unfold As at h;split at h
 ·rename_i c
  cases b:atoi l with
  | none=>rw [b]at h;cases h
  | some x =>
   rw[b]at h;dsimp only at h;split at h
   ·cases h
    exact atoi_bound b (by omega)
   ·cases h
 ·cases h
theorem lX {n:Int} (o:Ob) (h:0<=n/\n<1000000000000000000):0<=EP n o/\EP n o<1000000000000000000:=by
 unfold EP;split
 ·rename_i x b;have:=lW b;split<;>omega
 ·exact h
theorem Uu:∀(l:List Ob) (n:Int),0<=n/\n<1000000000000000000->0<=l.foldl EP n/\l.foldl EP n<1000000000000000000
 | [],_,h=>h
 | o :: r,n,h=>Uu r (EP n o) (lX o h)
theorem O3 (l:List Ob):0<=EQ l/\EQ l<1000000000000000000:=Uu l 0 (by decide)
theorem lY {l:List Ob} {n:Nat} (h:n<l.length):EQ (l.take (n+1))=EP (EQ (l.take n)) l[n]:=by
 unfold EQ;rw[<-Q2 h,Qv];rfl
theorem lZ {l:List UInt8} {j:Nat} (q:j<=l.length) (o:∀i (h:i<l.length),j<=i->l[i]≠47) (p:∀k,j=k+1->l[k]? =O 47):Iv l=l.drop j:=by
 unfold Iv;have e:l.reverse=(l.drop j).reverse++(l.take j).reverse:=by rw[<-Q3,List.take_append_drop]
 have d:∀c∈(l.drop j).reverse,decide (c≠47)=V:=fun c hc=>by
  rw[List.mem_reverse,List.mem_iff_getElem]at hc;obtain⟨i,n,rfl⟩:=hc;rw[List.getElem_drop];exact decide_eq_true (o (j+i) (by rw[List.length_drop]at n;omega) (by omega))
 have b:(l.take j).reverse.takeWhile (fun c=>decide (c≠47))= []:=by
  cases j with
  | zero=>rfl
  | succ k =>
   have m:=p k rfl;obtain⟨f,g⟩:=Q4.1 m;rw[<-Q2 f,Q3,g];rfl
 rw[e,List.takeWhile_append_of_pos d,b,Q5,List.reverse_reverse]
theorem mA (v:I) (xs:List Rw) (w:U) (h:Ar w v xs) (g:xs.length<=20000) :
  Calls A 53 #[v] w fun e w'=> ∃v',e= .returned v'/\Ar w' v' (A5 xs)/\BL w w'/\∀k,v'.ownBlock=O k->w.heap.size<=k:=by
 have i:=L6 v xs w h g
 go_enter func53,ntmps53
 go_wp2_with (first
  | (go_at_call 102;refine i.mono ?_;rintro e l ⟨d,rfl,c,m⟩;have j:=Nr d xs w.heap.size w l m (Nat.le_refl _) c g;have b:∀k,d.ownBlock=O k->w.heap.size<=k:=(fun k hk=>(c.lt k hk).1);clear c)
  | (go_at_call 103;refine j.mono ?_;rintro e o ⟨rfl,n,f,-⟩))
 go_ret;exact⟨_,rfl,n,f,b⟩
theorem Uv (w:U):FQ w (Qc J 0 0):=fun k h=>by simp[Qk]at h
def JV (w:U) (e:Ending):Prop:= ∀v' ev,e= .returned (.tuple #[v',ev])->FQ w v'
theorem O4 {w:U} {v b:I} (h:FQ w v):JV w (.returned (.tuple #[v,b])):=by
 intro d c e;cases e
 exact h
theorem FQ.up {w w':U} {v:I} (h:FQ w' v) (b:w.heap.size<=w'.heap.size):FQ w v:=fun k hk=>Nat.le_trans b (h k hk)
theorem Mz {W f:U} {P:Nat->Prop} {b o:Nat} {u:I} (g:Ac P W f) (i:¬P b) (h:W.cell? ⟨b,o,J⟩=O u):f.cell? ⟨b,o,J⟩=O u:=by
 have d:b<W.heap.size:=by
  rcases Nat.lt_or_ge b W.heap.size with c | c
  ·exact c
  ·simp[Ql,Array.getElem?_eq_none c]at h
 simp only[Ql]at h ⊢;rw[g.block b d i];exact h
theorem Ar.but {W g:U} {P:Nat->Prop} {v:I} {xs:List Rw} (h:Ar W v xs) (f:Ac P W g) (r:xs≠ []->∀k,v.ownBlock=O k->¬P k):Ar g v xs:=by
 rcases h with⟨q,c,e,n⟩|⟨b,o,c,e,p⟩
 ·exact Qd ⟨q,c,e,n⟩
 ·refine Qb ⟨b,o,c,e,fun j hj=>?_⟩;subst e;have d:¬P b:=r (fun e=>by rw[e]at hj;exact absurd hj (Nat.not_lt_zero _)) b (by simp[Qk]);obtain⟨i,l,m⟩:=p j hj;exact⟨Mz f d i,Mz f d l,Mz f d m⟩
theorem mB {W:U} {v:I} {xs:List Rw} (h:Ar W v xs) (d:xs≠ []) {k:Nat} (e:v.ownBlock=O k):k<W.heap.size:=by
 rcases h with⟨q,c,g,l⟩|⟨b,o,c,g,m⟩
 ·exact absurd l d
 ·subst g;obtain⟨j,-⟩:=m 0 (List.length_pos_iff.2 d);have i:b=k:=by simpa [Qk] using e
  subst i;rcases Nat.lt_or_ge b W.heap.size with f | f
  ·exact f
  ·simp[Ql,Array.getElem?_eq_none f]at j
end
section
open Go
def Aj (obs:List Ob) (x:Fl):Nat×ByteArray :=
 if (AV obs x.1).2≠0 then ((AV obs x.1).2,⟨#[]⟩) else
 if (Bx x.1 x.2.1 (AV obs x.1).1.data.toList x.2.2.2.2.2).2≠0 then ((Bx x.1 x.2.1 (AV obs x.1).1.data.toList x.2.2.2.2.2).2,⟨#[]⟩) else
 if (Bx x.1 x.2.1 (AV obs x.1).1.data.toList x.2.2.2.2.2).1≠x then (3,⟨#[]⟩) else (0,(AV obs x.1).1)
def E2 (lo hi:Int) (x:Fl) (text:ByteArray) (acc:List (Rw×Int)):List (Rw×Int) :=
 if x.2.1.data.toList≠ [45] then acc++((Bw text.data.toList).1.filter (Bj lo hi)).map fun r=>(r,x.2.2.2.2.2)
 else acc.filter fun p=> !((B4 text.data.toList).1.contains p.1.2.1 && decide (p.2<x.2.2.2.2.2))
def Cg (obs:List Ob) (lo hi:Int):List Fl->Nat->List (Rw×Int)->List (Rw×Int)×Nat×Option Nat
 | [],_,acc=>(acc,0,J)
 | x :: r,i,acc=>if Aq lo hi x=G then Cg obs lo hi r (i+1) acc else
  if (Aj obs x).1≠0 then ([],(Aj obs x).1,O i) else Cg obs lo hi r (i+1) (E2 lo hi x (Aj obs x).2 acc)
def Bo (obs:List Ob) (s:Sn) (lo hi:Int):List Rw×Nat×Option Nat :=
 if (Am s).1≠0 then ([],Am s) else
 if (Cg obs lo hi s.2.2.2.2.2.2 0 []).2.1≠0 then ([],(Cg obs lo hi s.2.2.2.2.2.2 0 []).2) else
 (A5 ((Cg obs lo hi s.2.2.2.2.2.2 0 []).1.map (·.1)),0,J)
section
variable {obs : List Ob} {lo hi : Int} {fs : List Fl} {n : Nat} {acc : List (Rw × Int)}
end
theorem Jl {lo hi:Int} {x:Fl} {b:ByteArray} {c:List (Rw×Int)} (h:x.2.1.data.toList≠ [45]):E2 lo hi x b c=c++((Bw b.data.toList).1.filter (Bj lo hi)).map fun r=>(r,x.2.2.2.2.2):=by unfold E2;rw[if_pos h]
theorem Jm {lo hi:Int} {x:Fl} {b:ByteArray} {c:List (Rw×Int)} (h:x.2.1.data.toList= [45]):E2 lo hi x b c=c.filter fun p=> !((B4 b.data.toList).1.contains p.1.2.1 && decide (p.2<x.2.2.2.2.2)):=by unfold E2;rw[if_neg (by simpa using h)]
end
section
open Go Go.Sort
abbrev Bt:Int:= -9223372036854775808
abbrev Bu:Int:=9223372036854775807
theorem Uw {xs:List Rw} (h:xs.Pairwise fun x y=>(!(ltOf AM) y x)=V):A5 xs=xs:=List.mergeSort_of_pairwise h
theorem Ux (p:Rw->Bool) (xs:List Rw):A5 (xs.filter p)=(A5 xs).filter p:=by
 rw[<-Uw ((LB xs).sublist (Q6 (p:=p)))];exact R5 ((Ej xs).symm.filter p)
theorem Uy {obs:List Ob} {x:Fl} (h:(Aj obs x).1=0):Bx x.1 x.2.1 (Aj obs x).2.data.toList x.2.2.2.2.2=(x,0):=by
 unfold Aj at h ⊢;by_cases c:(AV obs x.1).2≠0
 ·rw[if_pos c]at h;exact absurd h c
 ·rw[if_neg c]at h ⊢;by_cases b:(Bx x.1 x.2.1 (AV obs x.1).1.data.toList x.2.2.2.2.2).2≠0
  ·rw[if_pos b]at h;exact absurd h b
  ·rw[if_neg b]at h ⊢;by_cases d:(Bx x.1 x.2.1 (AV obs x.1).1.data.toList x.2.2.2.2.2).1≠x
   ·rw[if_pos d]at h;cases h
   ·rw[if_neg d];exact Prod.ext (by simpa using d) (by simpa using b)
theorem Uz {obs:List Ob} {x:Fl} (h:(Aj obs x).1=0):∃g n,A7 x.1.data.toList=O (g,n)/\Do g x.2.1.data.toList=V/\De x=V/\∀k∈(Bf g (Aj obs x).2.data.toList).1,x.2.2.2.1<=k/\k<=x.2.2.2.2.1:=by
 have b:=Uy h;generalize (Aj obs x).2.data.toList=t at b ⊢;unfold Bx at b;split at b
 ·cases b
 ·rename_i g n i;split at b
  ·rename_i j;unfold DZ at b;split at b
   ·rename_i p;obtain⟨f,_⟩:=Qm b;have l:At x=0:=by rw[<-f];exact p
    obtain⟨q,r,c,m,o⟩:=D0 l;rw[i]at c;cases c
    refine⟨g,n,i,m,o,fun k hk'=>?_⟩;have d:(Bf g t).1≠ []:=fun e=>by rw[e]at hk';cases hk'
    have:=(RI d).2.2 k hk';rw[<-f];exact this
   ·cases b
  ·rename_i j;exact absurd (Qm b).2 j
theorem KR {g:Bool} {s:List UInt8} (h:Do g s=V):s= [45]↔g=V:=by
 unfold Do at h
 cases g with
 | true=>simpa using h
 | false =>
  refine⟨fun e=>?_,fun e=>by cases e⟩;subst e;revert h;decide
theorem mC {obs:List Ob} {lo hi:Int} {x:Fl} {d:List (Rw×Int)} (h:(Aj obs x).1=0) (t:Aq lo hi x=G) (u:∀p∈d,Bj lo hi p.1=V):E2 lo hi x (Aj obs x).2 d=d:=by
 obtain⟨g,n,o,c,v,m⟩:=Uz h;have l:∀k:Int,x.2.2.2.1<=k->k<=x.2.2.2.2.1->¬(lo<=k/\k<=hi):=fun k i j h3=>by
  have:=of_decide_eq_false t;apply this;split<;>split<;>omega
 by_cases f:x.2.1.data.toList= [45]
 ·rw[Jm f];obtain rfl:=(KR c).1 f;refine Q7.2 fun p hp'=>?_;have b:=u p hp';unfold Bj at b;simp only[Qw,decide_eq_true_eq]at b;have:(B4 (Aj obs x).2.data.toList).1.contains p.1.2.1=G:=by
   cases s:(B4 (Aj obs x).2.data.toList).1.contains p.1.2.1 with
   | false=>rfl
   | true =>
    obtain⟨i,j⟩:=m p.1.2.1 (by simpa [Bf] using s);exact absurd b (l _ i j)
  rw[this];rfl
 ·rw[Jl f];obtain rfl:g=G:=by
   cases g with
   | false=>rfl
   | true=>exact absurd ((KR c).2 rfl) f
  have:((Bw (Aj obs x).2.data.toList).1.filter (Bj lo hi))= []:=by
   rw[Q8];intro r q b;unfold Bj at b;simp only[Qw,decide_eq_true_eq]at b;obtain⟨i,j⟩:=m r.2.1 (by simp only[Bf,Q9,if_false];exact Qo.2 ⟨r,q,rfl⟩);exact l _ i j b
  rw[this];simp
theorem mD {lo hi:Int} (k:Bt<=lo) (l:hi<=Bu) (x:Fl) (b:ByteArray) (d:List (Rw×Int)):E2 lo hi x b (d.filter fun p=>Bj lo hi p.1)=(E2 Bt Bu x b d).filter fun p=>Bj lo hi p.1:=by
 by_cases c:x.2.1.data.toList= [45]
 ·rw[Jm c,Jm c,Qi,Qi];congr 1;funext p;exact Bool.and_comm _ _
 ·rw[Jl c,Jl c,Qp,Qg,Qi];congr 2;apply Qh;intro r _;unfold Bj;by_cases f:lo<=r.2.1
  ·by_cases g:r.2.1<=hi
   ·have i:Bt<=r.2.1:=Int.le_trans k f;have j:r.2.1<=Bu:=Int.le_trans g l;simp[f,g,i,j]
   ·simp[g]
  ·simp[f]
theorem mE {lo hi:Int} {x:Fl} (b:Bt<=lo) (c:hi<=Bu) (h:Aq lo hi x=V):Aq Bt Bu x=V:=by
 have:=of_decide_eq_true h;apply decide_eq_true;split at this<;>split at this<;>split<;>split<;>omega
theorem O5 {obs:List Ob} {lo hi:Int} (g:Bt<=lo) (j:hi<=Bu):∀(fs:List Fl) (i:Nat) (acc out:List (Rw×Int)),Cg obs Bt Bu fs i acc=(out,0,J)->Cg obs lo hi fs i (acc.filter fun p=>Bj lo hi p.1)=(out.filter fun p=>Bj lo hi p.1,0,J)
 | [],i,acc,out,h=>by
  obtain⟨rfl,_⟩:=Qm h;rfl
 | x :: r,i,acc,out,h=>by
  unfold Cg at h ⊢;by_cases d:Aq Bt Bu x=G
  ·rw[if_pos d]at h;have l:Aq lo hi x=G:=by
    cases c:Aq lo hi x with
    | false=>rfl
    | true=>rw [mE g j c]at d;cases d
   rw[if_pos l];exact O5 g j r (i+1) acc out h
  ·rw[if_neg d]at h;by_cases b:(Aj obs x).1≠0
   ·rw[if_pos b]at h;have:=(Qm (Qm h).2).1;exact absurd this b
   ·rw[if_neg b]at h;have k:(Aj obs x).1=0:=by simpa using b
    have f:=O5 g j r (i+1) _ out h;rw[<-mD g j]at f;by_cases c:Aq lo hi x=G
    ·rw[if_pos c];rw[mC k c (fun p hp'=>(Qq.1 hp').2)]at f;exact f
    ·rw[if_neg c,if_neg b];exact f
theorem O6 {obs:List Ob} {lo hi:Int} :∀ {fs:List Fl} {i:Nat} {acc:List (Rw×Int)},(Cg obs lo hi fs i acc).2.1=0->Cg obs lo hi fs i acc=((Cg obs lo hi fs i acc).1,0,J)
 | [],i,acc,h=>rfl
 | x :: r,i,acc,h=>by
  unfold Cg at h ⊢;by_cases c:Aq lo hi x=G
  ·rw[if_pos c]at h ⊢;exact O6 h
  ·rw[if_neg c]at h ⊢;by_cases b:(Aj obs x).1≠0
   ·rw[if_pos b]at h;exact absurd h b
   ·rw[if_neg b]at h ⊢;exact O6 h
theorem mF {obs:List Ob} {s:Sn} {lo hi:Int} (g:Bt<=lo) (i:hi<=Bu) (h:(Bo obs s Bt Bu).2.1=0):Bo obs s lo hi=((Bo obs s Bt Bu).1.filter (Bj lo hi),0,J):=by
 unfold Bo at h ⊢;by_cases b:(Am s).1≠0
 ·rw[if_pos b]at h;exact absurd h b
 ·rw[if_neg b]at h ⊢;rw[if_neg b];by_cases c:(Cg obs Bt Bu s.2.2.2.2.2.2 0 []).2.1≠0
  ·rw[if_pos c]at h;exact absurd h c
  ·rw[if_neg c];have d:Cg obs Bt Bu s.2.2.2.2.2.2 0 []=((Cg obs Bt Bu s.2.2.2.2.2.2 0 []).1,0,J):=O6 (by simpa using c);have f:=O5 g i _ 0 [] _ d;rw[List.filter_nil]at f;rw[f];rw[<-Ux,Qg];rfl
abbrev Ct:=List (Rw×Int)×List (Int×Int)
def Bv (l:List (Int×Int)) (k:Int):Int:=l.foldl (fun m p=>if p.1=k then max m p.2 else m) 0
theorem U0 (l:List (Int×Int)) (z q k:Int):Bv (l++ [(z,q)]) k=if z=k then max (Bv l k) q else Bv l k:=by
 unfold Bv;rw[Qv];rfl
theorem mG (l:List (Int×Int)) (q k:Int):∀ks:List Int,Bv (l++ks.map fun z=>(z,q)) k=if ks.contains k then max (Bv l k) q else Bv l k:=by
 intro ks
 induction ks generalizing l with
 | nil=>simp
 | cons z r ih =>
  have e:l++(z :: r).map (fun z=>(z,q))=(l++ [(z,q)])++r.map fun z=>(z,q):=by simp
  rw[e,ih,U0];by_cases b:z=k
  ·subst b;by_cases c:r.contains z=V
   ·rw[if_pos c,if_pos rfl,if_pos (by simp)];omega
   ·rw[if_neg c,if_pos rfl,if_pos (by simp)]
  ·have d:(z :: r).contains k=r.contains k:=by
    rw[List.contains_cons];have:(k == z)=G:=by simpa using fun e=>b e.symm
    rw[this,Bool.false_or]
   rw[if_neg b,d]
theorem mH {l:List (Int×Int)} {B:Int} (h:∀p∈l,p.2<=B) (g:0<=B) (k:Int):0<=Bv l k/\Bv l k<=B:=by
 unfold Bv;have b:∀(l:List (Int×Int)) (m:Int),(∀p∈l,p.2<=B)->0<=m->m<=B->0<=l.foldl (fun m p=>if p.1=k then max m p.2 else m) m/\l.foldl (fun m p=>if p.1=k then max m p.2 else m) m<=B:=by
  intro l
  induction l with
  | nil=>intro m _ c d;exact⟨c,d⟩
  | cons p r ih =>
   intro m f c d;rw[Qx];have i:=f p Qe;refine ih _ (fun q hq=>f q (Qf _ hq)) ?_ ?_
   ·split<;>omega
   ·split<;>omega
 exact b l 0 h (Int.le_refl _) g
def E3 (x:Fl) (text:ByteArray) (c:Ct):Ct :=
 if x.2.1.data.toList≠ [45] then (c.1++(Bw text.data.toList).1.map (fun r=>(r,x.2.2.2.2.2)),c.2) else (c.1,c.2++(B4 text.data.toList).1.map fun k=>(k,x.2.2.2.2.2))
theorem KS {x:Fl} {b:ByteArray} {c:Ct} (h:x.2.1.data.toList≠ [45]):E3 x b c=(c.1++(Bw b.data.toList).1.map (fun r=>(r,x.2.2.2.2.2)),c.2):=by unfold E3;rw[if_pos h]
theorem M0 {x:Fl} {b:ByteArray} {c:Ct} (h:x.2.1.data.toList= [45]):E3 x b c=(c.1,c.2++(B4 b.data.toList).1.map fun k=>(k,x.2.2.2.2.2)):=by unfold E3;rw[if_neg (by simpa using h)]
def BK (obs:List Ob) (g:List Fl) (c:Ct):Ct:=g.foldl (fun c x=>E3 x (Aj obs x).2 c) c
theorem mI (obs:List Ob) (g:List Fl) (x:Fl) (c:Ct):BK obs (g++ [x]) c=E3 x (Aj obs x).2 (BK obs g c):=by
 unfold BK;rw[Qv];rfl
def BM (l:List (Int×Int)) (p:Rw×Int):Bool:=decide (p.2<Bv l p.1.2.1)
def ED (lo hi:Int) (c:Ct):List (Rw×Int):=c.1.filter fun p=>Bj lo hi p.1 && !BM c.2 p
theorem M1 {obs:List Ob} {lo hi:Int} :∀(fs:List Fl) (i:Nat) (acc:List (Rw×Int)),(∀x∈fs.filter (Aq lo hi),(Aj obs x).1=0)->Cg obs lo hi fs i acc=((fs.filter (Aq lo hi)).foldl (fun a x=>E2 lo hi x (Aj obs x).2 a) acc,0,J)
 | [],i,acc,_=>rfl
 | x :: r,i,acc,h=>by
  unfold Cg;by_cases b:Aq lo hi x=G
  ·rw[if_pos b];have e:(x :: r).filter (Aq lo hi)=r.filter (Aq lo hi):=by rw[Qr,b];rfl
   rw[e]at h ⊢;exact M1 r (i+1) acc h
  ·have c:Aq lo hi x=V:=by simpa using b
   have e:(x :: r).filter (Aq lo hi)=x :: r.filter (Aq lo hi):=by rw[Qr,c];rfl
   rw[e]at h ⊢;rw[if_neg b,if_neg (by simpa using h x Qe),Qx];exact M1 r (i+1) _ fun y hy=>h y (Qf _ hy)
theorem O7 {obs:List Ob} {lo hi:Int} :∀(fs:List Fl) (i:Nat) (acc:List (Rw×Int)) (n:Nat) (x:Fl),(fs.filter (Aq lo hi))[n]? =O x->(∀m y,m<n->(fs.filter (Aq lo hi))[m]? =O y->(Aj obs y).1=0)->(Aj obs x).1≠0->∃j,fs[j]? =O x/\Cg obs lo hi fs i acc=([],(Aj obs x).1,O (i+j))
 | [],i,acc,n,x,h,_,_=>by simp at h
 | y :: r,i,acc,n,x,h,hm,hb=>by
  unfold Cg;by_cases b:Aq lo hi y=G
  ·rw[if_pos b];have e:(y :: r).filter (Aq lo hi)=r.filter (Aq lo hi):=by rw[Qr,b];rfl
   rw[e]at h hm;obtain⟨j,c,d⟩:=O7 r (i+1) acc n x h hm hb;exact⟨j+1,by simpa using c,by rw[d,Nat.add_assoc,Nat.add_comm 1 j]⟩
  ·have f:Aq lo hi y=V:=by simpa using b
   have e:(y :: r).filter (Aq lo hi)=y :: r.filter (Aq lo hi):=by rw[Qr,f];rfl
   rw[e]at h hm;rw[if_neg b]
   cases n with
   | zero =>
    rw[List.getElem?_cons_zero]at h;obtain rfl:=QM h;rw[if_pos hb];exact⟨0,rfl,rfl⟩
   | succ k =>
    have g:=hm 0 y (by omega) rfl;rw[if_neg (by simpa using g)];rw[QA]at h;obtain⟨j,c,d⟩:=O7 r (i+1) _ k x h (fun m z hk hz=>hm (m+1) z (by omega) (by rw[QA];exact hz)) hb;exact⟨j+1,by simpa using c,by rw[d,Nat.add_assoc,Nat.add_comm 1 j]⟩
def KT (g:List Fl):Prop:=g.Pairwise fun x y=>x.2.1.data.toList= [45]->y.2.1.data.toList= [45]
theorem U1 {f:Fl} (h:At f=0):f.2.1.data.toList= [45]↔1073741824<fk f:=by
 obtain⟨g,n,b,c,d⟩:=D0 h;rw[KR c];obtain⟨e,i,j⟩:=JB b;unfold fk;rw[e];cases g
 ·simp only[Q9,if_false,false_iff];omega
 ·simp only[if_true,true_iff];omega
theorem U2 {d:List Fl} (h:Fc 0 d):KT d:=by
 unfold KT;obtain⟨b,c⟩:=h
 induction d with
 | nil=>exact List.Pairwise.nil
 | cons f r ih =>
  rw[QB]at c ⊢;refine⟨fun g hg hf=>?_,ih (fun g hg=>b g (Qf _ hg)) c.2⟩;have i:=(U1 (b f Qe).1).1 hf;have j:=c.1 g hg;exact(U1 (b g (Qf _ hg)).1).2 (by omega)
theorem U3 {b:List Fl} (h:KT b) (p:Fl->Bool):KT (b.filter p):=h.sublist Q6
theorem mJ {lo hi:Int} {c:Ct} {x:Fl} {b:ByteArray} (d:x.2.1.data.toList≠ [45]) (f:c.2= []) (g:0<=x.2.2.2.2.2):E2 lo hi x b (ED lo hi c)=ED lo hi (E3 x b c):=by
 rw[Jl d,KS d];unfold ED;rw[Qp];congr 1;rw[Qg];congr 1;apply Qh;intro r _;have:BM c.2 (r,x.2.2.2.2.2)=G:=by
  unfold BM;rw[f];apply decide_eq_false;show ¬(x.2.2.2.2.2<0);omega
 simp[this]
theorem mK {lo hi:Int} {c:Ct} {x:Fl} {b:ByteArray} (g:x.2.1.data.toList= [45]):E2 lo hi x b (ED lo hi c)=ED lo hi (E3 x b c):=by
 rw[Jm g,M0 g];unfold ED;rw[Qi];apply Qh;intro p _;have:BM (c.2++(B4 b.data.toList).1.map fun k=>(k,x.2.2.2.2.2)) p=(BM c.2 p || ((B4 b.data.toList).1.contains p.1.2.1 && decide (p.2<x.2.2.2.2.2))):=by
  unfold BM;rw[mG];cases i:(B4 b.data.toList).1.contains p.1.2.1
  ·simp
  ·simp only[if_true,Bool.true_and];by_cases d:p.2<Bv c.2 p.1.2.1
   ·rw[decide_eq_true d,decide_eq_true (by omega)];rfl
   ·rw[decide_eq_false d];by_cases f:p.2<x.2.2.2.2.2
    ·rw[decide_eq_true f,decide_eq_true (by omega)];rfl
    ·rw[decide_eq_false f,decide_eq_false (by omega)];rfl
 rw[this];cases Bj lo hi p.1<;>cases BM c.2 p<;>cases ((B4 b.data.toList).1.contains p.1.2.1 && decide (p.2<x.2.2.2.2.2))<;>rfl
theorem M2 {obs:List Ob} {lo hi:Int} :∀(g:List Fl) (c:Ct),KT g->(c.2= []\/∀x∈g,x.2.1.data.toList= [45])->(∀x∈g,0<=x.2.2.2.2.2)->g.foldl (fun a x=>E2 lo hi x (Aj obs x).2 a) (ED lo hi c)=ED lo hi (BK obs g c)
 | [],c,_,_,_=>rfl
 | x :: r,c,ha,f,hq=>by
  rw[Qx];have k:BK obs (x :: r) c=BK obs r (E3 x (Aj obs x).2 c):=rfl;rw[k];have b:=QB.1 ha;have i:=fun y hy=>hq y (Qf _ hy);by_cases d:x.2.1.data.toList= [45]
  ·rw[mK d];exact M2 r _ b.2 (Qb fun y hy=>b.1 y hy d) i
  ·have j:c.2= []:=by
    rcases f with f | f
    ·exact f
    ·exact absurd (f x Qe) d
   rw[mJ d j (hq x Qe)];refine M2 r _ b.2 (Qd ?_) i;rw[KS d];exact j
def Bh (ys:List (Rw×Int)) (q:Int):List Rw:=(ys.filter fun p=>decide (p.2=q)).map (·.1)
theorem mL (ys zs:List (Rw×Int)) (q:Int):Bh (ys++zs) q=Bh ys q++Bh zs q:=by
 unfold Bh;rw[Qp,QC]
theorem mM (l:List Rw) (q:Int):Bh (l.map fun r=>(r,q)) q=l:=by
 unfold Bh;rw[Q7.2 (fun p hp=>by obtain⟨r,_,rfl⟩:=Qo.1 hp;simp)];rw[List.map_map]
 conv=>rhs;rw[<-List.map_id l]
 rfl
theorem mN (l:List Rw) (q z:Int) (h:z≠q):Bh (l.map fun r=>(r,q)) z= []:=by
 unfold Bh;rw[Q8.2 (fun p hp=>by obtain⟨r,_,rfl⟩:=Qo.1 hp;simpa using fun e=>h e.symm)];rfl
theorem mO {r:List Int} {f g:Int->List (Rw×Int)} (h:∀z∈r,f z=g z):r.flatMap f=r.flatMap g:=by
 induction r with
 | nil=>rfl
 | cons z t ih=>rw [Qn,Qn,h z Qe,ih fun y hy=>h y (Qf _ hy)]
theorem U4:∀(qs:List Int) (ys:List (Rw×Int)),qs.Nodup->(∀p∈ys,p.2∈qs)->(qs.flatMap fun q=>ys.filter fun p=>decide (p.2=q)).Perm ys
 | [],ys,_,h=>by
  cases ys with
  | nil=>exact List.Perm.refl _
  | cons p r=>have:=h p Qe;cases this
 | q :: r,ys,hn,h=>by
  rw[Qn];have d:=List.nodup_cons.1 hn;have e:(r.flatMap fun z=>ys.filter fun p=>decide (p.2=z))=r.flatMap fun z=>(ys.filter fun p=> !decide (p.2=q)).filter fun p=>decide (p.2=z):=by
   apply mO;intro z g;rw[Qi];apply Qh;intro p _;by_cases b:p.2=z
   ·have:¬p.2=q:=fun e=>d.1 (by rw[<-e,b];exact g);simp[b];rw[b]at this;exact this
   ·simp[b]
  rw[e];refine(List.Perm.append_left _ (U4 r _ d.2 ?_)).trans ?_
  ·intro p i;obtain⟨b,f⟩:=Qq.1 i;have c:=h p b;rw[QD]at c;rcases c with c | c
   ·simp[c]at f
   ·exact c
  ·exact List.filter_append_perm _ _
def BN (c:Ct) (qs:List Int):List Rw:=qs.flatMap fun q=>(Bh c.1 q).filter fun r=> !BM c.2 (r,q)
theorem U5 (c:Ct) (b:List Int) (g:b.Nodup) (h:∀p∈c.1,p.2∈b):(BN c b).Perm ((c.1.filter fun p=> !BM c.2 p).map (·.1)):=by
 have d:=((U4 b c.1 g h).filter fun p=> !BM c.2 p).map (·.1);have e:BN c b=((b.flatMap fun q=>c.1.filter fun p=>decide (p.2=q)).filter fun p=> !BM c.2 p).map (·.1):=by
  unfold BN;clear g h d
  induction b with
  | nil=>rfl
  | cons q r ih =>
   rw[Qn,Qn,Qp,QC,ih];congr 1;unfold Bh;rw[Qg];congr 1;apply Qh;intro p d;have f:=(Qq.1 d).2;simp only[decide_eq_true_eq]at f;obtain⟨i,j⟩:=p;subst f;rfl
 rw[e];exact d
theorem mP (lo hi:Int) (c:Ct) (b:List Int) (d:b.Nodup) (h:∀p∈c.1,p.2∈b):A5 ((BN c b).filter (Bj lo hi))=A5 ((ED lo hi c).map (·.1)):=by
 have e:((c.1.filter fun p=> !BM c.2 p).map (·.1)).filter (Bj lo hi)=(ED lo hi c).map (·.1):=by
  unfold ED;rw[Qg,Qi];rfl
 rw[<-e];exact R5 ((U5 c b d h).filter _)
theorem mQ {b:List Fl} (h:Fc 0 b) {j:Nat} {x:Fl} (d:b[j]? =O x):Df b x.1=j:=by
 obtain⟨c,rfl⟩:=Q4.1 d;refine Mg c (fun i hi hlt e=>?_) rfl;have:=List.pairwise_iff_getElem.1 h.2 i j hi c hlt;unfold fk at this;rw[e]at this;omega
theorem FY {s:Sn} (h:(Am s).1=0):s.2.2.2.2.2.2.length<=60/\Fc 0 s.2.2.2.2.2.2:=by
 unfold Am at h;split at h
 ·cases h
 ·split at h
  ·cases h
  ·split at h
   ·rename_i b;exact absurd h b
   ·rename_i b;exact GJ.1 (by simpa using b)
theorem O8 {f:Fl} (h:At f=0):1<=f.2.2.2.2.2/\f.2.2.2.2.2<=1073741824:=by
 obtain⟨g,n,c,d,b⟩:=D0 h;unfold De at b;simp only[Qw,decide_eq_true_eq,Dn]at b;omega
theorem mR {obs:List Ob} {s:Sn} {lo hi:Int} (g:(Am s).1=0) (h:∀x∈s.2.2.2.2.2.2.filter (Aq lo hi),(Aj obs x).1=0) (b:List Int) (j:b.Nodup) (k:∀p∈(BK obs (s.2.2.2.2.2.2.filter (Aq lo hi)) ([], [])).1,p.2∈b) :
  Bo obs s lo hi=(A5 ((BN (BK obs (s.2.2.2.2.2.2.filter (Aq lo hi)) ([], [])) b).filter (Bj lo hi)),0,J):=by
 have c:=(FY g).2;have d:=M1 s.2.2.2.2.2.2 0 [] h;have f:=M2 (obs:=obs) (lo:=lo) (hi:=hi) (s.2.2.2.2.2.2.filter (Aq lo hi)) ([], []) (U3 (U2 c) _) (Qd rfl) (fun x hx=>by
  have:=(O8 (c.1 x (Qq.1 hx).1).1).1;omega)
 have i:ED lo hi ([], [])= []:=rfl;rw[i]at f;rw[f]at d;unfold Bo;rw[if_neg (by simpa using g),d];simp only[ne_eq,not_true_eq_false,if_false];rw[mP lo hi _ b j k]
theorem mS {obs:List Ob} {s:Sn} {lo hi:Int} (f:(Am s).1=0) (n:Nat) (x:Fl) (g:(s.2.2.2.2.2.2.filter (Aq lo hi))[n]? =O x) (i:∀m y,m<n->(s.2.2.2.2.2.2.filter (Aq lo hi))[m]? =O y->(Aj obs y).1=0) (c:(Aj obs x).1≠0) :
  ∃j,s.2.2.2.2.2.2[j]? =O x/\Bo obs s lo hi=([],(Aj obs x).1,O j):=by
 obtain⟨j,d,b⟩:=O7 s.2.2.2.2.2.2 0 [] n x g i c;rw[Nat.zero_add]at b;refine⟨j,d,?_⟩;unfold Bo;rw[if_neg (by simpa using f),b,if_pos c]
end
section
open Go.Extern Go.Extern.Stop Go.RowKit Go.Shelf Go.Sort Go.Stop
theorem M3 {W:U} {base:Nat} {e:Qj} {d:Nat} {v:I} {n:Nat} {xs:List I} (h:W.ownsRow base e d v n xs) {k:Nat} (b:v.ownBlock=O k):base<=k/\∃cur,W.heap[k]? =O (.cells cur e (0,0)):=by
 rcases h.2 with⟨c,_⟩|⟨g,j,cur,c,f,i,_⟩
 ·rw[c]at b;simp[Qk]at b
 ·rw[c]at b;simp[Qk]at b;subst b;exact⟨f,cur,i⟩
theorem mT {W i:U} {base:Nat} {e:Qj} {d:Nat} {v:I} {n:Nat} {xs:List I} (m:W.ownsRow base e d v n xs) (o:W.grownBy i v.ownBlock) {k:Nat} {c:Array I} {t:Qj} {f:Nat×Nat} (g:W.heap[k]? =O (.cells c t f)) (j:t≠e):i.heap[k]? =O (.cells c t f):=by
 have l:O k≠v.ownBlock:=fun e'=>by
  obtain⟨_,p,b⟩:=M3 m e'.symm;rw[g]at b;injection b with b;injection b with _ b;exact j b
 rw[o.block k (lt_of_block g) l];exact g
theorem mU (l:List Ob) (n:ByteArray):(AV l n).2=0\/(AV l n).2=6:=by
 unfold AV;split
 ·exact Qd rfl
 ·exact Qb rfl
theorem mV {s:St} (K:AR s) (n:ByteArray):(AV s.obs n).1.size<=20000:=by
 unfold AV;split
 ·rename_i o b;exact K.texts o (FG b).1
 ·exact Nat.zero_le _
theorem mW {obs:List Ob} {x:Fl} (h:(AV obs x.1).2≠0):(Aj obs x).1=(AV obs x.1).2:=by unfold Aj;rw[if_pos h]
theorem mX {obs:List Ob} {x:Fl} (h:(AV obs x.1).2=0):Aj obs x=if (Bx x.1 x.2.1 (AV obs x.1).1.data.toList x.2.2.2.2.2).2≠0 then ((Bx x.1 x.2.1 (AV obs x.1).1.data.toList x.2.2.2.2.2).2,⟨#[]⟩) else if (Bx x.1 x.2.1 (AV obs x.1).1.data.toList x.2.2.2.2.2).1≠x then (3,⟨#[]⟩) else (0,(AV obs x.1).1):=by unfold Aj;rw[if_neg (by simpa using h)]
section
variable {w wr w' : U} {rb sb : Nat} {s : Sn} {vf out seqs : I} {rs : List Rw} {ns : List Int}
end
def C9:I->Option (Qa Unit×List Qs)
 | .slice J 0 0=>O (.nil, [])
 | .slice (O ⟨g,0,J⟩) n c=>O (.agg [.lit (.int Z g),.lit (.int Z n),.lit (.int Z c)], [])
 | _=>J
theorem U6 {v:I} {z:Qa Unit×List Qs} (h:C9 v=O z):z.2= []:=by
 unfold C9 at h;split at h
 ·cases h;rfl
 ·cases h;rfl
 ·cases h
theorem U7 {v v':I} {z:Qa Unit×List Qs} (h:C9 v=O z) (b:C9 v'=O z):v=v':=by
 unfold C9 at h;split at h
 ·cases h
  unfold C9 at b;split at b
  ·rfl
  ·cases b
  ·cases b
 ·cases h
  unfold C9 at b;split at b
  ·cases b
  ·simp only[Qy,QN,and_true,DataW.agg.injEq,List.cons.injEq,DataW.lit.injEq,Lit.int.injEq,true_and]at b;obtain⟨g,i,j⟩:=b;have c:=Int.ofNat.inj g;have d:=Int.ofNat.inj i;have f:=Int.ofNat.inj j;subst c d f;rfl
  ·cases b
 ·cases h
theorem Jn {v:I} {z:Qa Unit×List Qs} (h:C9 v=O z):∃q n c,v=Qc q n c:=by
 unfold C9 at h;split at h
 ·exact⟨_,_,_,rfl⟩
 ·exact⟨_,_,_,rfl⟩
 ·cases h
theorem M4 {W:U} {base:Nat} {e:Qj} {b:Nat} {v:I} {n:Nat} {xs:List I} (h:W.ownsRow base e b v n xs):∃d,C9 v=O (d, []):=by
 rcases h.2 with⟨e,_⟩|⟨g,c,f,e,_⟩
 ·exact⟨_,by rw[e];rfl⟩
 ·exact⟨_,by rw[e];rfl⟩
theorem G1 {W:U} {base:Nat} {e:Qj} {b:Nat} {v:I} {n:Nat} {xs:List I} (h:W.ownsRow base e b v n xs) {g:Nat} (f:v.ownBlock=O g):base<=g/\g<W.heap.size:=by
 obtain⟨c,i,d⟩:=M3 h f;exact⟨c,(Array.getElem?_eq_some_iff.1 d).1⟩
theorem Tryz.keyedI:Maps.Keyed A 3:=Maps.int_keyed Qt
theorem Tryz.zeroRows2 (w:U):(zeroValue 35).run A w= .ok (Qc J 0 0) w:=by kernel_rfl
theorem Tryz.zeroInt2 (w:U):(zeroValue 3).run A w= .ok (S Z 0) w:=by kernel_rfl
theorem U8 {z:Int} (b: -9223372036854775808<=z) (c:z<=9223372036854775807):(Lit.int Z z).wf=V:=by
 have h:=wrap64_wf z;have e:wrap64 z=z:=by unfold wrap64;omega
 rw[e]at h;exact h
theorem M5 {z:Int} (b: -9223372036854775808<=z) (c:z<=9223372036854775807):keyOf A 3 (S Z z)=O (.int Z z):=Maps.keyOf_int_mk Qt (U8 b c)
structure E4 (W:U) (base bm:Nat) (ys:List (Rw×Int)) (qs:List Int) (D:Qa Unit) (hv:Int->I):Prop where
 map:W.ownsMap A 3 C9 bm qs.length D
 isMap:QE D
 hd:∀z,C9 (hv z)=O (D.atKey (.int Z z) .nil, [])
 has:∀z,Maps.has D (.int Z z)=V↔z∈qs
 own:∀z,W.ownsRow base 62 3 (hv z) (Bh ys z).length (A2 (Bh ys z))
 apart:∀x y,x≠y->(hv x).ownBlock=J\/(hv x).ownBlock≠(hv y).ownBlock
 low:bm<base
 all:∀p∈ys,p.2∈qs
theorem E4.keep {W i:U} {base c:Nat} {ys:List (Rw×Int)} {n:List Int} {D:Qa Unit} {j:Int->I} (h:E4 W base c ys n D j) (t:i.heap[c]? =W.heap[c]?) (u:∀z g,(j z).ownBlock=O g->i.heap[g]? =W.heap[g]?):E4 i base c ys n D j where
 map:=by
  obtain⟨o,b,k,r⟩:=h.map;exact⟨o,b,t.trans k,r⟩
 isMap:=h.isMap
 hd:=h.hd
 has:=h.has
 own:=fun z=>by
  obtain⟨p,f⟩:=h.own z;refine⟨p,?_⟩;rcases f with f | ⟨g,l,m,d,q,s,r⟩
  ·exact Qd f
  ·exact Qb ⟨g,l,m,d,q,(u z g (by rw[d];rfl)).trans s,r⟩
 apart:=h.apart
 low:=h.low
 all:=h.all
theorem E4.below {W c:U} {base b:Nat} {ys:List (Rw×Int)} {d:List Int} {D:Qa Unit} {f:Int->I} (h:E4 W base b ys d D f) (i:BL W c):E4 c base b ys d D f :=
 h.keep (i.block b h.map.lt) fun z g hg=>i.block g (G1 (h.own z) hg).2
theorem E4.made (W:U) (b base:Nat) (c:W.ownsMap A 3 C9 b 0 (.map [])) (d:b<base):E4 W base b [] [] (.map []) (fun _=>Qc J 0 0) where
 map:=c
 isMap:=QF
 hd:=fun _=>rfl
 has:=fun z=>by simp[Maps.has]
 own:=fun z=>by simp[Bh,A2];exact World.ownsRow_nil _ _ _ _
 apart:=fun _ _ _=>Qd rfl
 low:=d
 all:=fun p hp=>by cases hp
theorem E4.look {W:U} {base d:Nat} {ys:List (Rw×Int)} {i:List Int} {D:Qa Unit} {f:Int->I} (h:E4 W base d ys i D f) {z:Int} (j: -9223372036854775808<=z) (k:z<=9223372036854775807) :
  (Qu 133 (.map (O d)) (S Z z) G).run A W= .ok (f z) W:=by
 obtain⟨v,l,b,c⟩:=h.map.lookup Tryz.keyedI QG (Tryz.zeroRows2 W) (zd:=.nil) (zp:= []) rfl (M5 j k);have g:=U6 c;subst g;rw[b,U7 c (h.hd z)]
theorem E4.step {W k W4:U} {base f:Nat} {ys:List (Rw×Int)} {t:List Int} {D:Qa Unit} {i:Int->I} (h:E4 W base f ys t D i) (q:Int) (l:List Rw) (v':I) (d:Qa Unit)
  (j:k.ownsRow base 62 3 v' ((Bh ys q).length+l.length) (A2 (Bh ys q)++A2 l))
  (K:W.grownBy k (i q).ownBlock) (b:v'.ownBlock=(i q).ownBlock\/v'.ownBlock=O W.heap.size)
  (L:W4.ownsMap A 3 C9 f (t.length+1) (D.put (.int Z q) d)) (s:k.grownBy W4 (O f)) (M:C9 v'=O (d, [])) :
  E4 W4 base f (ys++l.map fun r=>(r,q)) (q :: t) (D.put (.int Z q) d) (fun m=>if m=q then v' else i m):=by
 have u:∀ {v:I} {n:Nat} {l:List I},k.ownsRow base 62 3 v n l->v.ownBlock=J\/v.ownBlock≠O f:=fun {v n l} hr=>by
  cases E:v.ownBlock with
  | none=>exact Qd rfl
  | some g =>
   refine Qb fun e=>?_;have:=(G1 hr E).1;have N:=h.low;simp only[Qy]at e;omega
 have o:∀ {x y:Int},x≠y->Lit.int Z x≠Lit.int Z y:=fun h e=>h (by injection e);refine⟨L,h.isMap.put _ _,fun m=>?_,fun m=>?_,fun m=>?_,fun x' y' hxy=>?_,h.low,fun p c=>?_⟩
 ·by_cases e:m=q
  ·subst e;rw[if_pos rfl,QH h.isMap (show WideAt.IsKeyLit (.int Z m) from trivial)];exact M
  ·rw[if_neg e,QI (o e)];exact h.hd m
 ·by_cases e:m=q
  ·subst e;rw[Maps.has_put_same h.isMap (show WideAt.IsKeyLit (.int Z m) from trivial)];simp
  ·rw[Maps.has_put_other (o e),QD];rw[h.has m];simp[e]
 ·rw[mL];by_cases e:m=q
  ·subst e;rw[if_pos rfl,mM,QJ,Kn];exact j.kept s (u j)
  ·rw[if_neg e,mN l q m e,Q5];have z:=(h.own m).kept K (h.apart m q e);exact z.kept s (u z)
 ·by_cases B:x'=q
  ·subst B;rw[if_pos rfl,if_neg (fun e'=>hxy e'.symm)];rcases b with b | b
   ·rw[b];exact h.apart _ _ hxy
   ·rw[b];refine Qb fun e=>?_;have:=(G1 (h.own y') e.symm).2;omega
  ·rw[if_neg B];by_cases C:y'=q
   ·subst C;rw[if_pos rfl];rcases b with b | b
    ·rw[b];exact h.apart _ _ hxy
    ·rw[b]
     cases F:(i x').ownBlock with
     | none=>exact Qd rfl
     | some g =>
      refine Qb fun e=>?_;have:=(G1 (h.own x') F).2;simp only[Qy]at e;omega
   ·rw[if_neg C];exact h.apart _ _ hxy
 ·rw[QK]at c;rcases c with c | c
  ·exact Qf _ (h.all p c)
  ·obtain⟨r,_,rfl⟩:=Qo.1 c;exact Qe
structure ES (W:U) (bm:Nat) (l:List (Int×Int)) (D:Qa Unit):Prop where
 map:W.ownsMap A 3 (plainElem A 3) bm l.length D
 isMap:QE D
 at_:∀z,D.atKey (.int Z z) (.lit (.int Z 0))= .lit (.int Z (Bv l z))
 bnd:∀p∈l,p.2<=1073741824
theorem ES.keep {W f:U} {c:Nat} {l:List (Int×Int)} {D:Qa Unit} (h:ES W c l D) (i:f.heap[c]? =W.heap[c]?):ES f c l D where
 map:=by
  obtain⟨g,b,d,r⟩:=h.map;exact⟨g,b,i.trans d,r⟩
 isMap:=h.isMap
 at_:=h.at_
 bnd:=h.bnd
theorem ES.made (W:U) (b:Nat) (c:W.ownsMap (H:=Unit) A 3 (plainElem A 3) b 0 (.map [])):ES W b [] (.map []) where
 map:=c
 isMap:=QF
 at_:=fun _=>rfl
 bnd:=fun p hp=>by cases hp
theorem ES.look {W:U} {f:Nat} {l:List (Int×Int)} {D:Qa Unit} (h:ES W f l D) {z:Int} (g: -9223372036854775808<=z) (i:z<=9223372036854775807) :
  (Qu 134 (.map (O f)) (S Z z) G).run A W= .ok (S Z (Bv l z)) W:=by
 obtain⟨c,d,b,_⟩:=h.map.lookup_int Tryz.keyedI QL Qt (Tryz.zeroInt2 W) (M5 g i);rw[h.at_ z]at b;have:Bv l z=c:=by simpa using b
 rw[this];exact d
theorem ES.step {W:U} {c:Nat} {l:List (Int×Int)} {D:Qa Unit} (h:ES W c l D) {z q:Int} (i: -9223372036854775808<=z) (j:z<=9223372036854775807) (o:l.length<1000000) (m:0<=q/\q<=1073741824) :
  ∃w',(Qz 134 (.map (O c)) (S Z z) (S Z (max (Bv l z) q))).run A W= .ok () w'/\(∃D',ES w' c (l++ [(z,q)]) D')/\W.mapTurned w' c:=by
 have n:=mH h.bnd (by omega) z;obtain⟨w',d,f,g⟩:=h.map.store Tryz.keyedI QL (by unfold Q0;omega) (M5 i j) (plainElem_int Qt (U8 (z:=max (Bv l z) q) (by omega) (by omega)));refine⟨w',d,⟨_,⟨by rw[QJ];exact f,h.isMap.put _ _,fun k=>?_,fun p b=>?_⟩⟩,g⟩
 rotate_left
 ·rw[QK,List.mem_singleton]at b;rcases b with b | rfl
  ·exact h.bnd p b
  ·exact m.2
 rw[U0];by_cases e:z=k
 ·subst e;rw[QH h.isMap (show WideAt.IsKeyLit (.int Z z) from trivial),if_pos rfl]
 ·rw[QI (fun e'=>e (by injection e' with _ e';exact e'.symm)),if_neg e];exact h.at_ k
structure B2 (W:U) (base b1 b2:Nat) (c:Ct) (qs:List Int):Prop where
 rows:∃D hv,E4 W base b1 c.1 qs D hv
 keys:∃D,ES W b2 c.2 D
 low:b2<base
 ne:b1≠b2
theorem B2.below {W f:U} {base g b:Nat} {c:Ct} {i:List Int} (h:B2 W base g b c i) (j:BL W f):B2 f base g b c i:=by
 obtain⟨⟨D,k,l⟩,⟨m,d⟩,n,o⟩:=h;exact⟨⟨D,k,l.below j⟩,⟨m,d.keep (j.block b d.map.lt)⟩,n,o⟩
theorem B2.addKey {W:U} {base j b:Nat} {c:Ct} {o:List Int} (h:B2 W base j b c o) {z q:Int} (p: -9223372036854775808<=z) (r:z<=9223372036854775807) (y:c.2.length<1000000) (B:0<=q/\q<=1073741824) :
  ∃w',(Qu 134 (.map (O b)) (S Z z) G).run A W= .ok (S Z (Bv c.2 z)) W/\(Qz 134 (.map (O b)) (S Z z) (S Z (max (Bv c.2 z) q))).run A W= .ok () w' /\
   B2 w' base j b (c.1,c.2++ [(z,q)]) o/\Ac (fun k=>k=b) W w':=by
 obtain⟨⟨D,s,f⟩,⟨C,l⟩,t,m⟩:=h;obtain⟨w',i,n,u⟩:=l.step (q:=q) p r y B;have d:=Ac.of_turned u;refine⟨w',l.look p r,i,⟨⟨D,s,f.keep (d.block j f.map.lt m) fun z g hg=>?_⟩,n,t,m⟩,d⟩;obtain⟨E,v⟩:=G1 (f.own z) hg;exact d.block g v (by omega)
theorem B2.noCell {W:U} {base g i:Nat} {c:Ct} {n:List Int} (h:B2 W base g i c n) {b o:Nat} {v:I} (j:W.cell? ⟨b,o,J⟩=O v):b≠g/\b≠i:=by
 obtain⟨⟨D,p,k⟩,⟨q,l⟩,r,s⟩:=h;constructor
 ·rintro rfl;obtain⟨m,d,f,_⟩:=k.map;simp[Ql,f]at j
 ·rintro rfl;obtain⟨m,d,f,_⟩:=l.map;simp[Ql,f]at j
def CZ (W:U) (base b1 b2:Nat) (k:Nat):Prop:=k=b1\/k=b2\/(base<=k/\∃c f,W.heap[k]? =O (.cells c 62 f))
theorem Jo {W j m:U} {base d g:Nat} (h:Ac (CZ W base d g) W j) (k:Ac (CZ j base d g) j m):Ac (CZ W base d g) W m:=by
 refine h.trans k fun i b hlt=>?_;rcases b with b | b | ⟨n,c,f,o⟩
 ·exact Qd b
 ·exact Qb (Qd b)
 ·by_cases l:CZ W base d g i
  ·exact l
  ·exact Qb (Qb ⟨n,c,f,(h.block i hlt l).symm.trans o⟩)
theorem mY {W b:U} {base c d B:Nat} (h:Ac (CZ W base c d) W b) (f:B<=W.heap.size) (g:B<=c) (i:B<=d) (l:B<=base):Below B W b :=
 h.below f fun k hk=>by
  rcases hk with rfl | rfl | ⟨j,_⟩
  ·exact g
  ·exact i
  ·omega
theorem O9 {W b:U} {base c d k:Nat} (h:Ac (CZ W base c d) W b) (f:k<W.heap.size) (l:k<base) (g:k≠c) (i:k≠d):b.heap[k]? =W.heap[k]? :=
 h.block k f fun hP=>by
  rcases hP with e | e | ⟨j,_⟩
  ·exact g e
  ·exact i e
  ·omega
theorem mZ {W:U} {q:Option Addr} {n c:Nat} {l:List Rw} (h:Ar W (Qc q n c) l) (d:l≠ []):n=l.length/\CU W q n c (A2 l):=by
 rcases h with⟨_,_,_,e⟩|⟨b,o,g,e,f⟩
 ·exact absurd e d
 ·injection e with e1 e2 e3;subst e1 e2;exact⟨rfl,Qb ⟨b,o,rfl,L4 f⟩⟩
theorem B2.addRows {W:U} {base m j:Nat} {c:Ct} {y:List Int} (h:B2 W base m j c y) (z:base<=W.heap.size) {q:Int} (h1: -9223372036854775808<=q) (h2:q<=9223372036854775807) {L:Option Addr} {sn M:Nat} {l:List Rw} (hs:Ar W (Qc L sn M) l) (ag:l≠ []) (hq:y.length<1000000) (hc:c.1.length+l.length<=1000000) :
  ∃v v' w1 w2,(Qu 133 (.map (O m)) (S Z q) G).run A W= .ok v W/\(∃vq vn vc,v=Qc vq vn vc)/\(∃vq vn vc,v'=Qc vq vn vc) /\
   (Builtin.append_ #[35,35] 35 #[v,Qc L sn M]).run A W= .ok v' w1/\(Qz 133 (.map (O m)) (S Z q) v').run A w1= .ok () w2 /\
   (∀(k:Nat) (c:Array I) (t:Qj) (f:Nat×Nat),W.heap[k]? =O (.cells c t f)->t≠62->w1.heap[k]? =O (.cells c t f)) /\
   B2 w2 base m j (c.1++l.map (fun r=>(r,q)),c.2) (q :: y)/\Ac (CZ W base m j) W w2:=by
 obtain⟨i0,aa,ab,ac,B⟩:=Tryz.rowInfo;obtain⟨⟨D,s,g⟩,⟨D2,C⟩,h3,h4⟩:=h;have p:=g.look h1 h2;obtain⟨rfl,E⟩:=mZ hs ag;have ah:(Bh c.1 q).length<=c.1.length:=by
  unfold Bh;rw[List.length_map];exact List.length_filter_le _ _
 obtain⟨v',w1,F,n,b,ad⟩:=FO (P:=A) W base 35 35 62 i0 (.agg #[.string ⟨#[]⟩,S Z 0,S Z 0]) 3 32 underlying35 aa ab ac B rfl (by decide) (s q) (Bh c.1 q).length (A2 (Bh c.1 q)) (g.own q) L l.length M (A2 l) (FA l) E (L3 l) (by unfold Q0;omega) (by omega) z;obtain⟨d,K⟩:=M4 n;have N:O m≠(s q).ownBlock:=fun e=>by
  have:=(G1 (g.own q) e.symm).1;have:=g.low;omega
 have Q:w1.ownsMap A 3 C9 m y.length D:=g.map.kept b N;obtain⟨w2,u,ae,o⟩:=Q.store Tryz.keyedI QG (by unfold Q0;omega) (M5 h1 h2) K;have R:=g.step q l v' d n b ad ae o.grown K;have T:O j≠(s q).ownBlock:=fun e=>by
  have:=(G1 (g.own q) e.symm).1;omega
 have X:w2.heap[j]? =W.heap[j]? :=(o.grown.block j (Nat.lt_of_lt_of_le C.map.lt b.size) (fun e=>h4 (by injection e with e;exact e.symm))).trans (b.block j C.map.lt T);refine⟨s q,v',w1,w2,p,Jn (g.hd q),Jn K,F,u,fun k c t f hk ht=>?_,⟨⟨_,_,R⟩,⟨D2,C.keep X⟩,h3,h4⟩,?_⟩
 ·exact mT (g.own q) b hk ht
 ·have Y:Ac (CZ W base m j) W w1:=⟨b.os,b.tape,b.output,b.size,fun k hk hP=>b.block k hk fun e=>hP (by
   obtain⟨g1,af,g2⟩:=M3 (g.own q) e.symm;exact Qb (Qb ⟨g1,af,_,g2⟩))⟩
  exact Y.trans (Ac.of_turned o) fun i hi _=>Qd hi
end
end Go.Proofs.YtcllhobffhkafaaGreatDoor
