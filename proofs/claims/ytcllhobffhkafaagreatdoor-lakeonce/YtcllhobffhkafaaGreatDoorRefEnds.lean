/- By an AI agent. -/
import Derived.Test.YtcllhobffhkafaaGreatDoorRefNums
import Derived.Handy
import Derived.Laws.Bits128
set_option maxRecDepth 100000
set_option maxHeartbeats 16000000
open Go.Proofs.Tryz
open Bool renaming true->V,false->Qc,false_eq_true->Qt
open Go renaming World->S,Addr->A,Value->Qa,Calls->Qe,maxLen->Qj,lt_of_block->Qm,cell_of_row->Qo,cell_of_one->Qp,ownsRow_setCell_other->Q9,heap_setCell_other->QA,wpList_append_own_at->QC,free_of_one->QE,heap_alloc_new->QF
open Go.Ending renaming returned->Qb
open Go.IntKind renaming i64->U
open Go.Obj renaming cells->Qd
open Go.Proofs.Tryz renaming prog->Qg,func119->Qs,func120->Qu,ntmps120->Qv,ntmps119->Qz,func310->Q2,ntmps310->Q3,func309->Q4,ntmps309->Q5,underlying32->QD
open Go.RowKit renaming Hid->H
open Go.Value renaming int->O,string->J,slice->G,tuple->Qf,pointer->Qh,iface->Ql,nilIface->Q0,ownBlock->QG
open Go.Value.slice renaming injEq->Q6
open Go.World renaming cell?->Qy,setCell->Q8
open List renaming length_eq_zero_iff->Qw,getElem?_take->Qx,flatMap_cons->Q7,length_append->QB,getElem?_eq_none->QI
open Nat renaming le_trans->Qi,add_assoc->Qq,zero_add->Qr,le_of_lt->Q1,lt_or_ge->QH
open Option renaming some->Z,none->I
open Or renaming inr->Qk,inl->Qn
namespace Go.Proofs.YtcllhobffhkafaaGreatDoor
open Go.RowKit Go.Extern.Stop Go.Stop Go.Extern Go.Sort Go.Shelf Go.Lib
theorem NI (l:List UInt8):BE l=match As l with
 | none=>(0,1)
 | some n=>if Ao n then (n,0) else (0,2):=rfl
theorem NJ (b:ByteArray) (w:S) (a:Nat->A) (h:DM w a) (o:b.size<=100000) :
  Qe Qg 120 #[J b] w fun e w'=>e=Qb (Qf #[O U (BE b.data.toList).1,Ae a (BE b.data.toList).2])/\BL w w':=by
 have d:=Lz b w a h.env (by unfold Qj;omega);unfold Dd at d
 cases i:As b.data.toList with
 | none =>
  have g:H (BE b.data.toList=(0,1)):=by show _=_;rw[NI,i]
  rw[i]at d;rw[g.out]
  go_enter Qu,Qv
  go_wp2_with fail
  refine d.mono ?_;rintro e k ⟨rfl,c⟩;have l:=(h.below c).env.text;go_wp2
  go_quiet (fail)
  go_wp2;go_ret2;exact⟨rfl,AH c nq⟩
 | some n =>
  rw[i]at d
  cases j:Ao n with
  | true =>
   have g:H (BE b.data.toList=(n,0)):=by show _=_;rw[NI,i];simp[j]
   have f:=fun W=>GF n W;rw[j]at f;rw[g.out]
   go_enter Qu,Qv
   go_wp2_with fail
   refine d.mono ?_;rintro e k ⟨rfl,c⟩
   go_wp2_with fail
   refine(f _).mono ?_;rintro e m ⟨rfl,rfl⟩;go_wp2;go_ret2;exact⟨rfl,c⟩
  | false =>
   have g:H (BE b.data.toList=(0,2)):=by show _=_;rw[NI,i];simp[j]
   have f:=fun W=>GF n W;rw[j]at f;rw[g.out]
   go_enter Qu,Qv
   go_wp2_with fail
   refine d.mono ?_;rintro e k ⟨rfl,c⟩
   go_wp2_with fail
   refine(f _).mono ?_;rintro e m ⟨rfl,rfl⟩;have l:=(h.below c).env.bound;go_wp2
   go_quiet (fail)
   go_wp2;go_ret2;exact⟨rfl,AH c nq⟩
theorem NK {w:S} {base:Nat} {v:Qa} {zs:List Int} (h:w.ownsRow base 3 1 v zs.length (zs.map (O U))):A3 w v zs:=by
 obtain⟨m,h⟩:=h;rcases h with⟨d,f⟩|⟨g,c,l,rfl,_,i,n,_,_,k⟩
 ·have:zs= []:=Qw.1 f;subst this;exact .inl ⟨I,0,d,rfl⟩
 ·refine .inr ⟨g,0,c,rfl,fun j hj=>?_⟩;have b:(zs.map (O U))[j]? =Z (O U zs[j]):=by simp[hj]
  rw[<-k,Qx,if_pos (by omega)]at b;simp only[Qy,i,Qr];simpa using b
structure Gq (W:S) (B bl:Nat) (v:Qa) (acc:List Int):Prop where
 box:W.heap[bl]? =Z (Qd #[v] 32 (0,0))
 own:W.ownsRow B 3 1 v acc.length (acc.map (O U))
 off:v.ownBlock≠Z bl
 low:B<=bl
structure FM (B bl P Q:Nat) (W:S) (acc:List Int):Prop where
 ex:∃v,Gq W B bl v acc/\∀j,P<=j->j<Q->v.ownBlock≠Z j
 lt:bl<P
 hq:Q<=W.heap.size
theorem Gq.below {W d:S} {B c:Nat} {v:Qa} {b:List Int} (h:Gq W B c v b) (f:BL W d):Gq d B c v b :=
 ⟨(f.block c (Qm h.box)).trans h.box,E7 h.own f,h.off,h.low⟩
theorem FM.keep {B c P Q:Nat} {W d:S} {b:List Int} (h:FM B c P Q W b) (f:BL W d):FM B c P Q d b:=by
 obtain⟨⟨v,g,i⟩,j,k⟩:=h;exact⟨⟨v,g.below f,i⟩,j,Qi k f.size⟩
theorem FM.set {B d P Q:Nat} {W:S} {c:List Int} (j o:Nat) (u:Qa) (i:P<=j) (k:j<Q) (h:FM B d P Q W c):FM B d P Q (W.setCell ⟨j,o,I⟩ u) c:=by
 obtain⟨⟨v,b,f⟩,g,m⟩:=h;have l:(W.setCell ⟨j,o,I⟩ u).heap.size=W.heap.size:=by simp[Q8]
 refine⟨⟨v,⟨?_,Q9 b.own (f j i k) u,b.off,b.low⟩,f⟩,g,by omega⟩;rw[QA _ _ _ _ (by show d≠j;omega)];exact b.box
theorem NM {W f:S} {B b:Nat} {v v':Qa} {c:List Int} {x:Int} (h:Gq W B b v c) (l:f.ownsRow B 3 1 v' (c.length+1) (c.map (O U)++ [O U x])) (m:W.grownBy f v.ownBlock) (j:v'.ownBlock=v.ownBlock\/v'.ownBlock=Z W.heap.size) :
  Gq (f.setCell ⟨b,0,I⟩ v') B b v' (c++ [x])/\f.heap[b]? =Z (Qd #[v] 32 (0,0)):=by
 have i:=Qm h.box;have g:f.heap[b]? =Z (Qd #[v] 32 (0,0)):=(m.block b i (fun e=>h.off e.symm)).trans h.box;have d:v'.ownBlock≠Z b:=by
  rcases j with e | e
  ·rw[e];exact h.off
  ·rw[e];intro k;have:=Option.some.inj k;omega
 refine⟨⟨one_setCell g,?_,d,h.low⟩,g⟩;rw[QB,List.map_append];exact Q9 l d _
theorem SI {k W b:S} {B c P Q:Nat} {v v':Qa} {d:List Int} {x:Int} (h:Gq W B c v d) (o:b.ownsRow B 3 1 v' (d.length+1) (d.map (O U)++ [O U x])) (l:W.grownBy b v.ownBlock) (g:v'.ownBlock=v.ownBlock\/v'.ownBlock=Z W.heap.size)
  (m:BL k W) (f:∀j,P<=j->j<Q->v.ownBlock≠Z j) (n:c<P) (p:Q<=k.heap.size) :
  FM B c P Q (b.setCell ⟨c,0,I⟩ v') (d++ [x])/\∀j,P<=j->j<Q->(b.setCell ⟨c,0,I⟩ v').heap[j]? =k.heap[j]? :=by
 have q:Q<=W.heap.size:=Qi p m.size;have r:W.heap.size<=b.heap.size:=l.size;refine⟨⟨⟨v',(NM h o l g).1,fun j h1 h2 e=>?_⟩,n,?_⟩,fun j h1 h2=>?_⟩
 ·rcases g with i | i
  ·exact f j h1 h2 (i.symm.trans e)
  ·rw[i]at e;have:=Option.some.inj e;omega
 ·have:(b.setCell ⟨c,0,I⟩ v').heap.size=b.heap.size:=by simp[Q8]
  omega
 ·rw[QA _ _ _ _ (by show j≠c;omega),l.block j (by omega) (fun e=>f j h1 h2 e.symm)];exact m.block j (by omega)
theorem fK (b:ByteArray) (g:Nat) (W:S) (a:Nat->A) (h:DM W a) (i:b.size<=100000) (k:(BE b.data.toList).2≠0) :
  Qe Qg 119 #[J b,Qh (Z ⟨g,0,I⟩)] W fun e w'=>e=Qb (Qf #[O U 0,Ae a (BE b.data.toList).2])/\BL W w':=by
 have c:=NJ b W a h i;obtain⟨E,f⟩:∃E,(BE b.data.toList).2=E+1:=⟨(BE b.data.toList).2-1,by omega⟩;rw[f]at c ⊢;simp only[Ae]at c ⊢
 go_enter Qs,Qz
 go_wp2_with fail
 refine c.mono ?_;rintro e j ⟨rfl,d⟩;go_wp2;go_ret2;exact⟨rfl,d⟩
theorem fM (b:ByteArray) (s B:Nat) (v:Qa) (W:S) (a:Nat->A) (h:DM W a) (F:Gq W B s v []) (P Q:Nat) (K:∀j,P<=j->j<Q->v.ownBlock≠Z j) (Y:s<P) (hq:Q<=W.heap.size) (hs:b.size<=100000) (hr:(BE b.data.toList).2=0) :
  Qe Qg 119 #[J b,Qh (Z ⟨s,0,I⟩)] W fun e w'=>e=Qb (Qf #[O U (BE b.data.toList).1,Q0])/\FM B s P Q w' [(BE b.data.toList).1]/\(∀j,P<=j->j<Q->w'.heap[j]? =W.heap[j]?)/\Below B W w':=by
 obtain⟨i0,N,R,T,C⟩:=Tryz.numInfo;have g:=NJ b W a h hs;rw[hr]at g;simp only[Ae]at g;obtain⟨x,hx⟩:∃x,(BE b.data.toList).1=x:=⟨_,rfl⟩;rw[hx]at g ⊢;have i:=Qi F.low (Q1 (Qm F.box));have y:H _:=K
 go_enter Qs,Qz
 go_wp2_with fail
 refine g.mono ?_;rintro e E ⟨rfl,p⟩;have l:=F.below p;obtain⟨q,cp,rfl⟩:=Mc l.own;have ad:=Qp l.box;have m:BL E (E.alloc (Qd #[O U x] 3)):=Af _ _;have f:=l.below m;have n:=(Ad p m).mono i
 go_wp2_with (at_builtin;refine QC _ rfl _ _ 32 rfl B 3 i0 (O U 0) 1 8 QD N R T C rfl (by decide) (G q 0 cp) 0 (([]:List Int).map (O U)) rfl f.own ⟨E.heap.size,0,I⟩ 1 1 [O U x] rfl ?qd1 ?qd2 ?qd3 ?qd4 ?qd5 ?qd6 ?_)
 case qd1=>rfl
 case qd2=>exact SH _ _ _
 case qd3=>intro u X;simp at X;subst X;rfl
 case qd4=>unfold Qj;omega
 case qd5=>omega
 case qd6=>exact Qi i n.size
 intro v7 w7 d c _ r;obtain⟨g7,D,rfl⟩:=IW d;obtain⟨ac,t⟩:=NM (x:=x) f d c (by simpa using r);have aa:=Qp t;have ab:=QE t;have L:=n.grown c (Qi i n.size) (fun k hk=>K3 f.own hk);have M:Below B W (w7.setCell ⟨s,0,I⟩ (G (Z ⟨g7,0,I⟩) (0+1) D)):=L.setCell f.low _;have z:=Ad p m;have o:H _:=SI (x:=x) f d c (by simpa using r) z y.out Y hq;go_wp2;go_ret2;exact⟨rfl,o.out.1,o.out.2,M⟩
theorem fN (f:ByteArray) (t B k:Nat) (v:Qa) (d:List Int) (W:S) (a:Nat->A) (h:DM W a) (hB:Gq W B t v d) (hs:f.size<=100000) (hl:d.length<=100000) (P Q:Nat) (ac:∀j,P<=j->j<Q->v.ownBlock≠Z j) (ak:t<P) (hq:Q<=W.heap.size) (z:d.length=k+1) (al:k<d.length) (hr:(BE f.data.toList).2=0) :
  Qe Qg 119 #[J f,Qh (Z ⟨t,0,I⟩)] W fun e w'=>((BE f.data.toList).1<=d[k]->e=Qb (Qf #[O U 0,Ae a 9])/\BL W w') /\
   (¬(BE f.data.toList).1<=d[k]->e=Qb (Qf #[O U (BE f.data.toList).1,Q0])/\FM B t P Q w' (d++ [(BE f.data.toList).1])/\(∀j,P<=j->j<Q->w'.heap[j]? =W.heap[j]?)/\Below B W w'):=by
 obtain⟨i0,ah,ai,aj,aa⟩:=Tryz.numInfo;have r:=NJ f W a h hs;rw[hr]at r;simp only[Ae]at r;obtain⟨x,hx⟩:∃x,(BE f.data.toList).1=x:=⟨_,rfl⟩;rw[hx]at r;have M:H ((BE f.data.toList).1=x):=hx;clear hx hr;have C:B<=W.heap.size:=Qi hB.low (Q1 (Qm hB.box));have X:H (∀j,P<=j->j<Q->v.ownBlock≠Z j):=ac
 go_enter Qs,Qz
 go_wp2_with fail
 refine r.mono ?_;rintro e q ⟨rfl,p⟩;have s:=hB.below p;have ad:∃g c,v=G (Z ⟨g,0,I⟩) (k+1) c:=IW (n:=k) (by rw[<-z];exact s.own);obtain⟨g,cp,rfl⟩:=ad;have aq:=Qp s.box;have ae:A3 q (G (Z ⟨g,0,I⟩) (k+1) cp) d:=NK s.own;have p0:q.cell? ⟨g,k,I⟩=Z (O U d[k]):=by
  rcases ae with⟨_,_,e,e'⟩|⟨b,o,ap,e,L⟩
  ·rw[e']at z;simp at z
  ·injection e with e1;injection e1 with e1;injection e1 with e1 e2;subst e1 e2;have:=L k al;simpa using this
 have HY:H (∃y,d[k]=y):=⟨_,rfl⟩;obtain⟨y,hy⟩:=HY.out;have N:H (d[k]=y):=hy;rw[hy]at p0;clear hy HY;have ar:IntKind.i64.wrap (k:Int)=(k:Int):=IntWalk.i64_in _ (by omega);have R:H (d.length<=100000):=hl;clear z hl;by_cases au:x<=y
 ·have ho:=(h.below p).order;go_wp2
  go_quiet (fail)
  go_wp2;go_ret2;refine⟨fun _=>⟨rfl,AH p _⟩,fun h9=>?_⟩;rw[M.out,N.out]at h9;omega
 ·have D:BL q (q.alloc (Qd #[O U x] 3)):=Af _ _;have E:Below B W (q.alloc (Qd #[O U x] 3)):=(Ad p D).mono C;have m:H (Gq (q.alloc (Qd #[O U x] 3)) B t (G (Z ⟨g,0,I⟩) (k+1) cp) d):=s.below D
  go_wp2_with (at_builtin;refine QC _ rfl _ _ 32 rfl B 3 i0 (O U 0) 1 8 QD ah ai aj aa rfl (by decide) (G (Z ⟨g,0,I⟩) (k+1) cp) d.length (d.map (O U)) rfl m.out.own ⟨q.heap.size,0,I⟩ 1 1 [O U x] rfl ?qd1 ?qd2 ?qd3 ?qd4 ?qd5 ?qd6 ?_)
  case qd1=>rfl
  case qd2=>exact SH _ _ _
  case qd3=>intro u hu;simp at hu;subst hu;rfl
  case qd4=>have:=R.out;unfold Qj;omega
  case qd5=>have:=R.out;omega
  case qd6=>exact Qi C E.size
  intro v7 w7 l i _ K;obtain⟨g7,ab,rfl⟩:=IW l;obtain⟨ao,T⟩:=NM (x:=x) m.out l i (by simpa using K);have am:=Qp T;have an:=QE T;have af:Below B W w7:=E.grown i (Qi C E.size) (fun k z=>K3 m.out.own z);have ag:Below B W (w7.setCell ⟨t,0,I⟩ (G (Z ⟨g7,0,I⟩) (d.length+1) ab)):=af.setCell m.out.low _;have Y:=Ad p D;have F:H _:=SI (x:=x) m.out l i (by simpa using K) Y X.out ak hq;go_wp2;go_ret2;refine⟨fun h9=>?_,fun _=>⟨by rw[M.out];rfl,by rw[M.out];exact F.out.1,F.out.2,ag⟩⟩;rw[M.out,N.out]at h9;omega
theorem fO (a:Nat->A) (g B P Q:Nat) (E:B<=P):IV AB a (fun W=>DM W a) 119 g B P Q (FM B g P Q) where
 env:=fun h=>h
 ent:=enters_of Qs (by kernel_rfl) rfl
 low:=E
 keep:=fun h c=>h.keep c
 set:=fun j o u h1 h2 h=>h.set j o u h1 h2
 take:=fun W line acc hE hI hQ hs hl=>by
  have y:H (FM B g P Q W acc):=hI;obtain⟨⟨v,m,z⟩,r,C⟩:=hI;have n:B<=W.heap.size:=Qi m.low (Q1 (Qm m.box));show Qe _ _ _ _ fun e w'=>Below B W w'/\_/\((Cx AB acc line.data.toList≠0/\_)\/(Cx AB acc line.data.toList=0/\_));have b:Cx AB acc line.data.toList=if (BE line.data.toList).2≠0 then (BE line.data.toList).2 else if acc≠ []/\decide ((BE line.data.toList).1<=acc.getLastD 0)=V then 9 else 0:=rfl;by_cases i:(BE line.data.toList).2≠0
  ·rw[if_pos i]at b;refine(fK line g W a hE hs i).mono fun e w' ⟨f,c⟩=>⟨c.mono n,fun j h1 h2=>c.block j (by omega),Qn ⟨by rw[b];exact i,by rw[f,b],y.out.keep c⟩⟩
  ·have p:(BE line.data.toList).2=0:=Classical.byContradiction i;rw[if_neg i]at b;by_cases l:acc= []
   ·subst l;rw[if_neg (by simp)]at b;exact(fM line g B v W a hE m P Q z r C hs p).mono fun e w' ⟨f,s,t,c⟩=>⟨c,t,Qk ⟨b,f,s⟩⟩
   ·obtain⟨k,D⟩:∃k,acc.length=k+1:=⟨acc.length-1,by have:=List.length_pos_iff.2 l;omega⟩;have q:k<acc.length:=by omega
    rw[SD acc k _ D q]at b;refine(fN line g B k v acc W a hE m hs hl P Q z r C D q p).mono fun e w' ⟨h1,h2⟩=>?_;by_cases c:(BE line.data.toList).1<=acc[k]
    ·rw[if_pos ⟨l,by simpa using c⟩]at b;obtain⟨f,d⟩:=h1 c;exact⟨d.mono n,fun j q1 q2=>d.block j (by omega),Qn ⟨by rw[b];decide,by rw[f,b],y.out.keep d⟩⟩
    ·rw[if_neg (fun e=>c (by simpa using e.2))]at b;obtain⟨f,s,t,d⟩:=h2 c;exact⟨d,t,Qk ⟨b,f,s⟩⟩
def NO (w:S) (v:Qa):Prop:= ∀k,v.ownBlock=Z k->w.heap.size<=k
def SJ (w:S) (a:Nat->A) (D:List Int×Nat×Option Nat) (e:Ending) (w':S):Prop :=
 BL w w'/\((D.2.1=0/\∃v,e=Qb (Qf #[v,Q0])/\A3 w' v D.1/\NO w v) \/
  (D.2.1≠0/\D.1= []/\D.2.2=I/\e=Qb (Qf #[G I 0 0,Ae a D.2.1])) \/
  (D.2.1≠0/\D.1= []/\∃at_,D.2.2=Z at_/\∃fb,e=Qb (Qf #[G I 0 0,Ql 140 (Qh (Z ⟨fb,0,I⟩))])/\w'.cell? ⟨fb,0,I⟩=Z (O U at_)/\w'.cell? ⟨fb,1,I⟩=Z (Ae a D.2.1)))
theorem NP (s:ByteArray) (w:S) (a:Nat->A) (h:DM w a) (hs:s.size<=Qj) :
  Qe Qg 62 #[J s] w fun e w'=>SJ w a (B4 s.data.toList) e w':=by
 have g:BL w (w.alloc (Qd #[G I 0 0] 32)):=Af _ _;have m:Gq (w.alloc (Qd #[G I 0 0] 32)) w.heap.size w.heap.size (G I 0 0) []:=⟨QF _ _,World.ownsRow_nil _ _ _ _,by simp[QG],Nat.le_refl _⟩;have t:(w.alloc (Qd #[G I 0 0] 32)).heap.size=w.heap.size+1:=by simp
 have i:=S8 AB ⟨#[103,111,110,101]⟩ s rfl (w.alloc (Qd #[G I 0 0] 32)) a (fun W=>DM W a) 119 w.heap.size w.heap.size (fun Q=>FM w.heap.size w.heap.size (w.heap.size+1) Q) (by omega) (fun W' hW=>h.below (g.trans hW))
  (fun Q=>by rw[t];exact fO a w.heap.size w.heap.size (w.heap.size+1) Q (Nat.le_succ _))
  (fun Q W' hW hQ=>⟨⟨_,m.below hW,fun j _ _=>by simp[QG]⟩,Nat.lt_succ_self _,hQ⟩) hs
 have M:B4 s.data.toList=BP AB s.data.toList:=rfl;rw[M];generalize BP AB s.data.toList=D at i ⊢
 go_enter func62,ntmps62
 go_wp2_with fail
 refine i.mono ?_;rintro e F ⟨K,n⟩;have c:BL w F:=g.trans K;rcases n with⟨f,rfl,Q,o⟩|⟨f,p,r,rfl⟩|⟨f,p,L,r,X,rfl,Y,c1⟩
 ·obtain⟨⟨v,b,_⟩,_,_⟩:=o;have N:=Qp b.box;have u:=NK b.own;obtain⟨q,y,rfl⟩:=Mc b.own;have l:H (A3 F (G q D.1.length y) D.1):=u;have d:H (NO w (G q D.1.length y)):=fun k hk=>(b.own.lt k hk).1;obtain⟨z,B⟩:∃z,D.1.length=z:=⟨_,rfl⟩;rw[B]at N l d;go_wp2;go_ret2;exact⟨c,Qn ⟨f,_,rfl,l.out,d.out⟩⟩
 ·obtain⟨E,C⟩:∃E,D.2.1=E+1:=⟨D.2.1-1,by omega⟩;have P:H _:=C;rw[C];simp only[Ae];go_wp2;go_ret2;exact⟨c,Qk (Qn ⟨f,p,r,by rw[P.out];rfl⟩)⟩
 ·have R:H _:=Y;have T:H _:=c1;go_wp2;go_ret2;exact⟨c,Qk (Qk ⟨f,p,L,r,X,rfl,R.out,T.out⟩)⟩
structure Gs (w:S) (a:Nat->A):Prop where
 data:DE w a
 kind:w.cell? ⟨8,0,I⟩=Z (Ql 410 (Qh (Z (a 3))))
theorem Gs.below {w w':S} {a:Nat->A} (h:Gs w a) (b:BL w w'):Gs w' a:=⟨h.data.below b,Aa b h.kind⟩
structure CT (w:S) (a:Nat->A):Prop where
 base:DJ w
 bound:w.cell? ⟨1,0,I⟩=Z (Ql 410 (Qh (Z (a 1))))
 name:w.cell? ⟨10,0,I⟩=Z (Ql 410 (Qh (Z (a 4))))
theorem CT.below {w w':S} {a:Nat->A} (h:CT w a) (b:BL w w'):CT w' a:=⟨h.base.below b,Aa b h.bound,Aa b h.name⟩
theorem Bd.n {w:S} {a:Nat->A} (h:Bd w a):CT w a:=⟨h.s,h.bound,h.name⟩
structure GP (w:S) (a:Nat->A):Prop where
 env:CT w a
 kind:w.cell? ⟨8,0,I⟩=Z (Ql 410 (Qh (Z (a 3))))
theorem GP.below {w w':S} {a:Nat->A} (h:GP w a) (b:BL w w'):GP w' a:=⟨h.env.below b,Aa b h.kind⟩
theorem Gs.lean {w:S} {a:Nat->A} (h:Gs w a):GP w a:=⟨h.data.env.n,h.kind⟩
structure JF (w:S) (a:Nat->A):Prop where
 file:GP w a
 text:w.cell? ⟨4,0,I⟩=Z (Ql 410 (Qh (Z (a 0))))
theorem JF.below {w w':S} {a:Nat->A} (h:JF w a) (b:BL w w'):JF w' a:=⟨h.file.below b,Aa b h.text⟩
theorem JF.weak {w:S} {a:Nat->A} (h:JF w a):BZ w a:=⟨h.text,h.file.env.bound,h.file.env.base.maxl,h.file.env.base.syn,h.file.env.base.tab⟩
def A1 (f:Fl):Qa:=.agg #[J f.1,J f.2.1,O U f.2.2.1,O U f.2.2.2.1,O U f.2.2.2.2.1,O U f.2.2.2.2.2]
theorem NR (n:Int) (w:S):Qe Qg 310 #[O U n] w fun e w'=>e=Qb (.bool (Dn n))/\w'=w:=by
 by_cases c:1<=n
 ·by_cases d:n<=1073741824
  ·have b:Dn n=V:=by simp[Dn,c,d]
   rw[b]
   go_enter Q2,Q3
   go_wp2;go_ret;exact⟨rfl,rfl⟩
  ·have b:Dn n=Qc:=by simp[Dn,d]
   rw[b]
   go_enter Q2,Q3
   go_wp2;go_ret;exact⟨rfl,rfl⟩
 ·have b:Dn n=Qc:=by simp[Dn,c]
  rw[b]
  go_enter Q2,Q3
  go_wp2;go_ret;exact⟨rfl,rfl⟩
theorem Md {s:List UInt8} (h:A7 s=I):EL s=([],0,5):=by unfold EL;rw[h]
theorem IX {s:List UInt8} {g:Bool} {n:Int} (h:A7 s=Z (g,n)):EL s=(AE g,n,0):=by unfold EL;rw[h]
theorem BQ (l:List UInt8):(Ab l).data.toList=l:=by simp[Ab]
theorem K4 (p:ByteArray) (w:S) (a:Nat->A) (h:CT w a) (hp:p.size<=100000) :
  Qe Qg 224 #[J p] w fun e w'=>e=Qb (Qf #[J (Ab (EL p.data.toList).1),O U (EL p.data.toList).2.1,Ae a (EL p.data.toList).2.2])/\BL w w':=by
 obtain⟨m,hm⟩:=h.base.maxl;have hcut:=strings_Cut p ⟨#[47]⟩ m w (by omega) hm;have E:=cI p.data.toList;have N:(Lib.cut p.data.toList [47]).2.1.length<=p.size:=by
  rw[<-AA];rcases Hl 47 p.data.toList with⟨_,u⟩|⟨x,y,ac,_,u⟩
  ·rw[u];simp
  ·rw[u,ac];simp;omega
 have eK:(⟨(Lib.cut p.data.toList [47]).1.toArray⟩:ByteArray)=Ab (Lib.cut p.data.toList [47]).1:=rfl;have eW:(⟨(Lib.cut p.data.toList [47]).2.1.toArray⟩:ByteArray)=Ab (Lib.cut p.data.toList [47]).2.1:=rfl;rw[eK,eW]at hcut;generalize Lib.cut p.data.toList [47]=C at hcut E N;obtain⟨o,L,ae⟩:=C;dsimp only at hcut E N;have F:=fun W (hW:DJ W)=>Lx (Ab L) W hW (by rw[CR];unfold Qj;omega);rw[BQ]at F;have c:(Ab o).data.toList=o:=BQ o;generalize ad:Ab o=D at hcut c;have aa:H _:=ad;have P:H _:=E
 go_enter func224,ntmps224
 go_wp2_with fail
 refine hcut.mono ?_;rintro e w1 ⟨rfl,q,rfl⟩;have z:BL w (w.drewN q):=AH (Below.refl _ _) q;have i:=F _ (h.below z).base;have ab:∀(b:Bool),A7 p.data.toList=I->∀W,BL w W->(Qb (Qf #[J ⟨#[]⟩,O U 0,Ql 410 (Qh (Z (a 4)))])=Qb (Qf #[J (Ab (EL p.data.toList).1),O U (EL p.data.toList).2.1,Ae a (EL p.data.toList).2.2])/\BL w W):=fun _ hp0 W hW=>by
  rw[Md hp0];exact⟨rfl,hW⟩
 have r:H _:=ab;by_cases Y:∃g,o=AE g
 ·obtain⟨g,f⟩:=Y;unfold Dd at i;have HP:H (A7 p.data.toList=(Ek L).map fun n=>(g,n)):=by
   show _=_;rw[P.out];cases g
   ·rw[if_pos (show o=DX from f)]
   ·rw[if_neg (by rw[f];decide),if_pos (show o=DY from f)]
  cases M:As L with
  | none =>
   rw[M]at i;have v:H (A7 p.data.toList=I):=by
    show _=_;rw[HP.out];unfold Ek;rw[M];rfl
   go_wp2_with fail
   refine i.mono ?_;rintro e w2 ⟨rfl,t⟩;have d:=Ad z t;have et:=(h.below d).name;cases g
   ·have k:=CG (c.trans f);simp only[AE,Qt,if_false,DX]at k;go_wp2
    go_region
    go_wp2
    go_ret3
    exact r.out V v.out _ d.drew
   ·have k:=BH (s:=D) (l:= [100,97,116,97]) (by rw[c,f];decide);have B:=CG (c.trans f);simp only[AE,if_true,DY]at B;go_wp2
    go_region
    go_wp2
    go_ret3
    exact r.out V v.out _ d.drew
  | some n =>
   rw[M]at i;have v:H _:=M
   go_wp2_with fail
   refine i.mono ?_;rintro e w2 ⟨rfl,t⟩;have d:=Ad z t;have et:=(h.below d).name;have j:=NR n w2
   cases u:Dn n with
   | false =>
    rw[u]at j;have K:H (A7 p.data.toList=I):=by
     show _=_;rw[HP.out];unfold Ek;rw[v.out];simp[u]
    cases g
    ·have k:=CG (c.trans f);simp only[AE,Qt,if_false,DX]at k
     go_wp2_with (go_at_call 310;refine j.mono ?_;rintro e w' ⟨rfl,rfl⟩)
     go_region
     go_wp2
     go_ret3
     exact r.out V K.out _ d.drew
    ·have k:=BH (s:=D) (l:= [100,97,116,97]) (by rw[c,f];decide);have B:=CG (c.trans f);simp only[AE,if_true,DY]at B
     go_wp2_with (go_at_call 310;refine j.mono ?_;rintro e w' ⟨rfl,rfl⟩)
     go_region
     go_wp2
     go_ret3
     exact r.out V K.out _ d.drew
   | true =>
    rw[u]at j;have K:H (A7 p.data.toList=Z (g,n)):=by
     show _=_;rw[HP.out];unfold Ek;rw[v.out];simp[u]
    have Q:H (D=Ab (AE g)):=by
     show _=_;rw[<-aa.out,f]
    cases g
    ·have k:=CG (c.trans f);simp only[AE,Qt,if_false,DX]at k
     go_wp2_with (go_at_call 310;refine j.mono ?_;rintro e w' ⟨rfl,rfl⟩)
     go_ret3
     exact⟨by rw[IX K.out,Q.out];rfl,d⟩
    ·have k:=BH (s:=D) (l:= [100,97,116,97]) (by rw[c,f];decide);have B:=CG (c.trans f);simp only[AE,if_true,DY]at B
     go_wp2_with (go_at_call 310;refine j.mono ?_;rintro e w' ⟨rfl,rfl⟩)
     go_ret3
     exact⟨by rw[IX K.out,Q.out];rfl,d⟩
 ·have T:o≠DX:=fun e=>Y ⟨Qc,e⟩;have X:o≠DY:=fun e=>Y ⟨V,e⟩;have v:H (A7 p.data.toList=I):=by
   show _=_;rw[P.out,if_neg T,if_neg X]
  have k:=BH (s:=D) (l:= [100,97,116,97]) (by rw[c];exact T);have B:=BH (s:=D) (l:= [103,111,110,101]) (by rw[c];exact X);generalize Dd L=R at i;obtain⟨nv,bv⟩:=R
  go_wp2_with fail
  refine i.mono ?_;rintro e w2 ⟨rfl,t⟩;have d:=Ad z t;have et:=(h.below d).name;go_wp2
  go_region
  go_wp2
  go_ret3
  exact r.out V v.out _ d.drew
theorem fP (p:ByteArray) (w:S) (a:Nat->A) (h:Bd w a) (b:p.size<=100000) :
  Qe Qg 224 #[J p] w fun e w'=>e=Qb (Qf #[J (Ab (EL p.data.toList).1),O U (EL p.data.toList).2.1,Ae a (EL p.data.toList).2.2])/\BL w w' :=
 K4 p w a h.n b
theorem fQ (g:Bool) (q:ByteArray) (w:S) (i:q.size<=Qj) :
  Qe Qg 309 #[J (Ab (AE g)),J q] w fun e w'=>e=Qb (.bool (Do g q.data.toList))/\w'=w:=by
 cases g
 ·have c:Qe Qg 276 #[J q,O U 12] w fun e w'=>e=Qb (.bool (Do Qc q.data.toList))/\w'=w:=Nn q 12 w i (by omega);have d:=BH (s:=Ab (AE Qc)) (l:= [103,111,110,101]) (by rw[BQ];decide)
  go_enter Q4,Q5
  go_wp2_with (go_at_call 276;refine c.mono ?_;rintro e w' ⟨rfl,rfl⟩)
  go_ret;exact⟨rfl,rfl⟩
 ·have d:=CG (s:=Ab (AE V)) (l:= [103,111,110,101]) (by rw[BQ];rfl);by_cases h:q.data.toList= [45]
  ·have b:Do V q.data.toList=V:=by simp[Do,h]
   rw[b];have f:=CG h
   go_enter Q4,Q5
   go_wp2;go_ret;exact⟨rfl,rfl⟩
  ·have b:Do V q.data.toList=Qc:=by simp[Do,h]
   rw[b];have f:=BH h
   go_enter Q4,Q5
   go_wp2;go_ret;exact⟨rfl,rfl⟩
def Az (W:S) (b:Nat) (f:Fl):Prop:=W.heap[b]? =Z (Qd #[J f.1,J f.2.1,O U f.2.2.1,O U f.2.2.2.1,O U f.2.2.2.2.1,O U f.2.2.2.2.2] 77 (0,0))
theorem Az.lt {W:S} {b:Nat} {f:Fl} (h:Az W b f):b<W.heap.size:=Qm h
theorem Az.below {W c:S} {b:Nat} {f:Fl} (h:Az W b f) (d:BL W c):Az c b f:=(d.block b h.lt).trans h
theorem Az.cells {W:S} {b:Nat} {f:Fl} (h:Az W b f):W.cell? ⟨b,0,I⟩=Z (J f.1)/\W.cell? ⟨b,1,I⟩=Z (J f.2.1)/\W.cell? ⟨b,2,I⟩=Z (O U f.2.2.1)/\W.cell? ⟨b,3,I⟩=Z (O U f.2.2.2.1)/\W.cell? ⟨b,4,I⟩=Z (O U f.2.2.2.2.1)/\W.cell? ⟨b,5,I⟩=Z (O U f.2.2.2.2.2)/\∀o,W.frozen? ⟨b,o,I⟩=Qc:=by
 exact⟨by rw[Qo _ _ _ _ _ _ h];rfl,by rw[Qo _ _ _ _ _ _ h];rfl,by rw[Qo _ _ _ _ _ _ h];rfl,by rw[Qo _ _ _ _ _ _ h];rfl,by rw[Qo _ _ _ _ _ _ h];rfl,by rw[Qo _ _ _ _ _ _ h];rfl,fun o=>frozen_of_row _ _ _ _ _ h⟩
theorem Az.new (w:S) (f:Fl):Az (w.alloc (Qd #[J f.1,J f.2.1,O U f.2.2.1,O U f.2.2.2.1,O U f.2.2.2.2.1,O U f.2.2.2.2.2] 77)) w.heap.size f:=QF _ _
theorem Me (f:Fl) (w:S) (a:Nat->A) (h:GP w a) (h1:f.1.size<=100000) (h2:f.2.1.size<=100000) :
  Qe Qg 222 #[A1 f] w fun e w'=>e=Qb (Ae a (At f))/\BL w w':=by
 have s:BL w (w.alloc (Qd #[J f.1,J f.2.1,O U f.2.2.1,O U f.2.2.2.1,O U f.2.2.2.2.1,O U f.2.2.2.2.2] 77)):=Af _ _;have C:=Az.new w f;obtain⟨p,q,n,i,j,d⟩:=f;dsimp only at h1 h2 s;have D:=K4 p _ a (h.below s).env h1;unfold A1;dsimp only;generalize hE:At (p,q,n,i,j,d)=E;have N:H _:=hE
 go_enter func222,ntmps222
 go_wp2_with fail
 generalize w.alloc (Qd #[J p,J q,O U n,O U i,O U j,O U d] 77)=WA at s C D ⊢;refine D.mono ?_;rintro e w1 ⟨rfl,L⟩;have b:=Ad s L;have M:=C.below L;obtain⟨c0,c1,c2,c3,c4,c5,cf⟩:=M.cells;dsimp only at c0 c1 c2 c3 c4 c5
 cases B:A7 p.data.toList with
 | none =>
  have c:E=5:=by rw[<-N.out];unfold At;dsimp only;rw[B]
  subst c;rw[Md B];simp only[Ae];go_wp2;go_ret;exact⟨rfl,b⟩
 | some gn =>
  obtain⟨g,k⟩:=gn;rw[IX B];have F:H (E=if Do g q.data.toList then (if De (p,q,n,i,j,d) then 0 else 2) else 4):=by
   show _=_;rw[<-N.out];unfold At;dsimp only;rw[B]
  simp only[Ae];have P:=fQ g q w1 (by unfold Qj;omega)
  go_wp2_with fail
  refine P.mono ?_;rintro e w2 ⟨rfl,aa⟩;rw[aa];have ek:=(h.below b).kind;have eb:=(h.below b).env.bound
  cases v:Do g q.data.toList with
  | false =>
   have c:=F.out;rw[v]at c;simp only[Qt,if_false]at c;subst c;go_wp2;go_ret;exact⟨rfl,b⟩
  | true =>
   have c:=F.out;rw[v,if_pos rfl]at c;have Q:H _:=c;clear c v;have K:De (p,q,n,i,j,d)=Qc->E=2:=fun hb=>by rw[Q.out,hb];rfl
   have l:H (De (p,q,n,i,j,d)=Qc->E=2):=K;clear K;by_cases R:1<=n
   ·by_cases T:n<=40
    ·have r:=fun W=>GF i W;have t:=fun W=>GF j W
     cases m:Ao i with
     | false =>
      obtain rfl:=l.out (by simp[De,m]);rw[m]at r;clear m
      go_wp2_with (go_at_call 115;refine(r _).mono ?_;rintro e w' ⟨rfl,rfl⟩)
      go_ret;exact⟨rfl,b⟩
     | true =>
      rw[m]at r
      cases o:Ao j with
      | false =>
       obtain rfl:=l.out (by simp[De,o]);rw[o]at t;clear m o
       go_wp2_with (first | (go_at_call 115;refine(r _).mono ?_;rintro e w' ⟨rfl,rfl⟩) | (go_at_call 115;refine(t _).mono ?_;rintro e w' ⟨rfl,rfl⟩))
       go_ret;exact⟨rfl,b⟩
      | true =>
       rw[o]at t;by_cases X:i<=j
       ·have Y:¬j<i:=by omega
        have y:=fun W=>NR d W
        cases u:Dn d with
        | false =>
         obtain rfl:=l.out (by simp[De,u]);rw[u]at y;clear m o u
         go_wp2_with (first | (go_at_call 115;refine(r _).mono ?_;rintro e w' ⟨rfl,rfl⟩) | (go_at_call 115;refine(t _).mono ?_;rintro e w' ⟨rfl,rfl⟩) | (go_at_call 310;refine(y _).mono ?_;rintro e w' ⟨rfl,rfl⟩))
         go_ret;exact⟨rfl,b⟩
        | true =>
         have z:E=0:=by
          rw[Q.out,if_pos];simp[De,R,T,m,o,X,u]
         subst z;rw[u]at y;clear m o u
         go_wp2_with (first | (go_at_call 115;refine(r _).mono ?_;rintro e w' ⟨rfl,rfl⟩) | (go_at_call 115;refine(t _).mono ?_;rintro e w' ⟨rfl,rfl⟩) | (go_at_call 310;refine(y _).mono ?_;rintro e w' ⟨rfl,rfl⟩))
         go_ret;exact⟨rfl,b⟩
       ·obtain rfl:=l.out (by simp[De,X]);have Y:j<i:=by omega
        clear m o
        go_wp2_with (first | (go_at_call 115;refine(r _).mono ?_;rintro e w' ⟨rfl,rfl⟩) | (go_at_call 115;refine(t _).mono ?_;rintro e w' ⟨rfl,rfl⟩))
        go_ret;exact⟨rfl,b⟩
    ·obtain rfl:=l.out (by simp[De,T]);have ab:40<n:=by omega
     go_wp2;go_ret;exact⟨rfl,b⟩
   ·obtain rfl:=l.out (by simp[De,R]);have ac:n<1:=by omega
    go_wp2;go_ret;exact⟨rfl,b⟩
def Bl (f:Fl):List Qa:= [J f.1,J f.2.1,O U f.2.2.1,O U f.2.2.2.1,O U f.2.2.2.2.1,O U f.2.2.2.2.2]
def Fi (w:S) (b o:Nat) (fs:List Fl):Prop :=
 ∀j (h:j<fs.length),w.cell? ⟨b,o+j*6,I⟩=Z (J fs[j].1)/\w.cell? ⟨b,o+j*6+1,I⟩=Z (J fs[j].2.1)/\w.cell? ⟨b,o+j*6+2,I⟩=Z (O U fs[j].2.2.1)/\w.cell? ⟨b,o+j*6+3,I⟩=Z (O U fs[j].2.2.2.1)/\w.cell? ⟨b,o+j*6+4,I⟩=Z (O U fs[j].2.2.2.2.1)/\w.cell? ⟨b,o+j*6+5,I⟩=Z (O U fs[j].2.2.2.2.2)
def Ai (w:S) (v:Qa) (fs:List Fl):Prop :=
 (∃p c,v=G p 0 c/\(p=I->c=0)/\fs= [])\/∃b o cap,v=G (Z ⟨b,o,I⟩) fs.length cap/\fs.length<=cap/\Fi w b o fs
theorem Fi.below {w w':S} {b o:Nat} {d:List Fl} (h:Fi w b o d) (c:BL w w'):Fi w' b o d :=
 fun j hj=>⟨Aa c (h j hj).1,Aa c (h j hj).2.1,Aa c (h j hj).2.2.1,Aa c (h j hj).2.2.2.1,Aa c (h j hj).2.2.2.2.1,Aa c (h j hj).2.2.2.2.2⟩
theorem Ai.below {w w':S} {v:Qa} {d:List Fl} (h:Ai w v d) (j:BL w w'):Ai w' v d:=by
 rcases h with h | ⟨b,o,c,f,g,i⟩
 ·exact Qn h
 ·exact Qk ⟨b,o,c,f,g,i.below j⟩
theorem Ai.form {w:S} {v:Qa} {d:List Fl} (h:Ai w v d):∃p c,v=G p d.length c:=by
 rcases h with⟨p,c,rfl,_,rfl⟩|⟨b,o,f,rfl,_⟩
 ·exact⟨_,_,rfl⟩
 ·exact⟨_,_,rfl⟩
theorem Ai.cells {w:S} {q:Option A} {n c:Nat} {d:List Fl} (h:Ai w (G q n c) d) (f:d≠ []):∃b o,q=Z ⟨b,o,I⟩/\Fi w b o d:=by
 rcases h with⟨_,_,_,_,e⟩|⟨b,o,i,e,_,g⟩
 ·exact absurd e f
 ·simp only[Q6]at e;exact⟨b,o,e.1,g⟩
theorem Ai.room {w:S} {q:Option A} {n c:Nat} {d:List Fl} (h:Ai w (G q n c) d):n=d.length/\(d≠ []->n<=c):=by
 rcases h with⟨p,i,e,_,rfl⟩|⟨b,o,g,e,f,j⟩
 ·simp only[Q6]at e;exact⟨e.2.1,fun h=>absurd rfl h⟩
 ·simp only[Q6]at e;obtain⟨_,rfl,rfl⟩:=e;exact⟨rfl,fun _=>f⟩
def Aw (fs:List Fl):List Qa:=fs.flatMap Bl
theorem JG (f:Fl):(Bl f).length=6:=rfl
theorem Hu (f:Fl):∀u∈Bl f,u.oneCell'=V:=by
 intro u b;simp only[Bl,List.mem_cons,List.not_mem_nil,or_false]at b;rcases b with rfl | rfl | rfl | rfl | rfl | rfl<;>rfl
theorem Et:∀fs:List Fl,(Aw fs).length=fs.length*6
 | []=>rfl
 | f :: fs=>by
  have:=Et fs;simp only[Aw,Q7,QB,List.length_cons]at *;rw[this,JG];omega
theorem fR (d:List Fl):∀u∈Aw d,u.oneCell'=V:=by
 intro u b;simp only[Aw,List.mem_flatMap]at b;obtain⟨f,_,c⟩:=b;exact Hu f u c
theorem Hv (xs ys:List Fl):Aw (xs++ys)=Aw xs++Aw ys:=by simp[Aw]
theorem K5:∀(fs:List Fl) (j c:Nat) (h:j<fs.length),c<6->(Aw fs)[j*6+c]? =(Bl fs[j])[c]?
 | [],j,_,h,_=>by simp at h
 | f :: fs,0,c,_,hc=>by
  simp only[Aw,Q7,Nat.zero_mul,Qr,List.getElem_cons_zero];rw[List.getElem?_append_left (by rw[JG];exact hc)]
 | f :: fs,j+1,c,h,hc=>by
  have b:j<fs.length:=by simp at h;omega
  have:=K5 fs j c b hc;simp only[Aw,Q7,List.getElem_cons_succ]at *;rw[List.getElem?_append_right (by rw[JG];omega),JG,show (j+1)*6+c-6=j*6+c by omega];exact this
theorem fS {w:S} {b o:Nat} {f:List Fl} (h:Fi w b o f):∀t u,(Aw f)[t]? =Z u->w.cell? ⟨b,o+t,I⟩=Z u:=by
 intro t u c;have j:t<(Aw f).length:=by
  rcases QH t (Aw f).length with g | g
  ·exact g
  ·rw[QI g]at c;cases c
 rw[Et]at j;have i:t / 6<f.length:=by omega
 have e:t=t / 6*6+t % 6:=by omega
 rw[e,K5 f (t / 6) (t % 6) i (by omega)]at c;obtain⟨k,l,m,n,p,q⟩:=h (t / 6) i;have d:t % 6=0\/t % 6=1\/t % 6=2\/t % 6=3\/t % 6=4\/t % 6=5:=by omega
 rcases d with d | d | d | d | d | d<;>rw [d]at c<;>simp only[Bl,List.getElem?_cons_succ,List.getElem?_cons_zero,Option.some.injEq]at c
 ·rw[<-c,<-k];congr 2;omega
 ·rw[<-c,<-l];congr 2;omega
 ·rw[<-c,<-m];congr 2;omega
 ·rw[<-c,<-n];congr 2;omega
 ·rw[<-c,<-p];congr 2;omega
 ·rw[<-c,<-q];congr 2;omega
theorem SK {w:S} {b o:Nat} {d:List Fl} (h:∀t u,(Aw d)[t]? =Z u->w.cell? ⟨b,o+t,I⟩=Z u):Fi w b o d:=fun j hj=>by
 have g:∀c (hc:c<6),w.cell? ⟨b,o+(j*6+c),I⟩=(Bl d[j])[c]? :=fun c hc=>by
  have e:=K5 d j c hj hc;have f:c<(Bl d[j]).length:=by rw[JG];exact hc
  rw[List.getElem?_eq_getElem f]at e ⊢;exact h _ _ e
 refine⟨?_,?_,?_,?_,?_,?_⟩
 ·simpa [Bl] using g 0 (by omega)
 ·simpa [Bl,Qq] using g 1 (by omega)
 ·simpa [Bl,Qq] using g 2 (by omega)
 ·simpa [Bl,Qq] using g 3 (by omega)
 ·simpa [Bl,Qq] using g 4 (by omega)
 ·simpa [Bl,Qq] using g 5 (by omega)
theorem Gt {w:S} {base:Nat} {v:Qa} {n:Nat} {b:List Fl} (h:w.ownsRow base 77 6 v n (Aw b)):Ai w v b/\n=b.length:=by
 obtain⟨k,h⟩:=h;have c:n=b.length:=by rw[Et]at k;omega
 refine⟨?_,c⟩;subst c;rcases h with⟨l,c⟩|⟨g,i,p,rfl,_,m,j,_,_,o⟩
 ·exact Qn ⟨I,0,by rw[l],fun _=>rfl,Qw.1 c⟩
 ·refine Qk ⟨g,0,i,rfl,j,SK fun t u hu=>?_⟩;have f:t<b.length*6:=by
   rw[<-Et];rcases QH t (Aw b).length with d | d
   ·exact d
   ·rw[QI d]at hu;cases hu
  rw[<-o,Qx,if_pos f]at hu;simp only[Qy,m,Qr];simpa using hu
theorem Tryz.fileInfo3:(Tryz.prog.info? 77).map (fun i=>(i.zero,i.size,i.bytes))=Z (Z (.agg #[J ⟨#[]⟩,J ⟨#[]⟩,O U 0,O U 0,O U 0,O U 0]),6,64):=by kernel_rfl
theorem Tryz.fileInfo:∃i0:TypeInfo,Tryz.prog.info? 77=Z i0/\i0.zero=Z (.agg #[J ⟨#[]⟩,J ⟨#[]⟩,O U 0,O U 0,O U 0,O U 0])/\i0.size=6/\i0.bytes=64:=by
 obtain⟨i,b,h⟩:=Option.map_eq_some_iff.1 Tryz.fileInfo3;simp only[Prod.mk.injEq]at h;exact⟨i,b,h.1,h.2.1,h.2.2⟩
def EO (n:Int):Qa:=O U n
theorem NT {w:S} {base:Nat} {v:Qa} {zs:List Int} (h:w.ownsRow base 3 1 v zs.length (zs.map EO)):A3 w v zs:=by
 obtain⟨m,h⟩:=h;rcases h with⟨d,f⟩|⟨g,c,l,rfl,_,i,n,_,_,k⟩
 ·have:zs= []:=Qw.1 f;subst this;exact .inl ⟨I,0,d,rfl⟩
 ·refine .inr ⟨g,0,c,rfl,fun j hj=>?_⟩;have b:(zs.map EO)[j]? =Z (O U zs[j]):=by simp[hj,EO]
  rw[<-k,Qx,if_pos (by omega)]at b;simp only[Qy,i,Qr];simpa using b
end Go.Proofs.YtcllhobffhkafaaGreatDoor
