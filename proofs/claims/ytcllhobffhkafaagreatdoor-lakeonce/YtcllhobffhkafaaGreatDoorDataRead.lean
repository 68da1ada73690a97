/- By an AI agent. -/
import Derived.Test.YtcllhobffhkafaaGreatDoorDataPure
import Derived.Test.YtcllhobffhkafaaGreatDoorFmtU
import Derived.Deep.RegionHeld3
import Derived.Lib.JoinLaws
set_option maxRecDepth 100000
set_option maxHeartbeats 16000000
open Go.Proofs.Tryz
open Bool renaming false->Qf,true->Qs,and_eq_true->QA
open Go renaming World->A,Addr->Qa,cell_of_row->Qi,Calls->Qj,maxLen->Ql,Value->Qm,heap_setCell_same->Qn,heap_setCell_other->Qo,lt_of_block->Qp,bodyPost_ret->Qy,results->Qz,TypeId->Q4,frozen_of_row->Q9,heap_alloc_new->QD,ownsRow_setCell_other->QF
open Go.ByteArray renaming toList_eq->Qx
open Go.Ending renaming returned->Qh
open Go.IntKind renaming i64->U,wrap_u64->QI
open Go.Lib renaming itoa->V,IsBuilder->Qd,byteCells->Qw,join->QC,byteCells_append->QH
open Go.Obj renaming cells->H
open Go.Proofs.Tryz renaming prog->Qg,func203->Qq,ntmps203->Qr,results207->Q0
open Go.RowKit renaming Hid->J
open Go.RowKit.Below renaming refl->Qt,size->Qu,trans->Q2,drew->Q3,alloc->QB
open Go.Value renaming int->O,string->S,pointer->G,slice->Qb,tuple->Qc,iface->Qe,agg->Qk,bool->Qv,nilIface->QE
open List renaming foldl_append->Q8,getElem_mem->QG
open Nat renaming le_refl->Q5,le_succ->Q6,lt_succ_self->Q7
open Option renaming none->Z,some->I
open Option.some renaming inj->Q1
namespace Go.Proofs.YtcllhobffhkafaaGreatDoor
open Go.RowKit Go.Extern.Stop Go.Stop Go.Extern Go.Sort Go.Shelf Go.Lib
theorem CR (l:List UInt8):(Ab l).size=l.length:=by rw[<-AA];simp[Ab]
theorem eI (zs:List Int) (k:Int) (h:zs≠ []):Ap (zs++ [k])=(if k<(Ap zs).1 then k else (Ap zs).1,if (Ap zs).2<k then k else (Ap zs).2):=by
 cases zs with
 | nil=>exact absurd rfl h
 | cons z r =>
  show ((r++ [k]).foldl _ z,(r++ [k]).foldl _ z)=_;rw[Q8,Q8];rfl
def Bb (W:A) (g:Nat) (n:Nat) (E:Int×Int):Prop:=W.heap[g]? =I (H #[O U n,O U E.1,O U E.2] 256 (0,0))
def D1 (W:A) (g:Nat) (n:Nat) (E:Int×Int):A:=((W.setCell ⟨g,1,Z⟩ (O U E.1)).setCell ⟨g,2,Z⟩ (O U E.2)).setCell ⟨g,0,Z⟩ (O U n)
def Cc (n:Nat) (E:Int×Int) (key:Int):Int×Int:=if n=0 then (key,key) else (if key<E.1 then key else E.1,if E.2<key then key else E.2)
theorem N9 (zs:List Int) (b:Int):Ap (zs++ [b])=Cc zs.length (Ap zs) b:=by
 unfold Cc;by_cases h:zs= []
 ·subst h;rfl
 ·rw[eI _ _ h,if_neg (fun e=>h (List.length_eq_zero_iff.1 e))]
theorem NA {W:A} {g n m:Nat} {E b:Int×Int} (h:Bb W g n E):Bb (D1 W g m b) g m b:=by
 unfold Bb D1 at *;rw[Qn _ _ _ _ _ _ (Qn _ _ _ _ _ _ (Qn _ _ _ _ _ _ h))];rfl
theorem Sx (W:A) (g m j:Nat) (c:Int×Int) (b:j≠g):(D1 W g m c).heap[j]? =W.heap[j]? :=by
 unfold D1;rw[Qo _ _ _ _ b,Qo _ _ _ _ b,Qo _ _ _ _ b]
theorem Sy (W:A) (g m:Nat) (b:Int×Int):(D1 W g m b).heap.size=W.heap.size:=by
 unfold D1;simp[World.setCell]
theorem ND {W c:A} {B g m:Nat} {d:Int×Int} (h:Below B c W) (b:B<=g):Below B c (D1 W g m d):=((h.setCell b _).setCell b _).setCell b _
theorem Bb.cells {W:A} {g n:Nat} {E:Int×Int} (h:Bb W g n E):W.cell? ⟨g,0,Z⟩=I (O U n)/\W.cell? ⟨g,1,Z⟩=I (O U E.1)/\W.cell? ⟨g,2,Z⟩=I (O U E.2)/\∀o,W.frozen? ⟨g,o,Z⟩=Qf:=by
 exact⟨by rw[Qi _ _ _ _ _ _ h];rfl,by rw[Qi _ _ _ _ _ _ h];rfl,by rw[Qi _ _ _ _ _ _ h];rfl,fun o=>Q9 _ _ _ _ _ h⟩
theorem Bb.below {W b:A} {g n:Nat} {E:Int×Int} (h:Bb W g n E) (c:BL W b):Bb b g n E:=by
 exact(c.block g (Qp h)).trans h
theorem NF (g n:Nat) (E:Int×Int) (c:Int) (W:A) (h:Bb W g n E) (Q:n<=100000) :
  Qj Qg 203 #[G (I ⟨g,0,Z⟩),O U c] W fun e w'=>e=Qh (Qc #[])/\w'=D1 W g (n+1) (Cc n E c):=by
 obtain⟨j,d⟩:=E;have D:J _:=h;obtain⟨N,K,L,P⟩:=h.cells;have f:∀lo' hi',J (Bb (W.setCell ⟨g,1,Z⟩ (O U lo')) g n (lo',d)/\Bb ((W.setCell ⟨g,1,Z⟩ (O U lo')).setCell ⟨g,2,Z⟩ (O U hi')) g n (lo',hi')):=fun lo' hi'=>by
  have C:Bb (W.setCell ⟨g,1,Z⟩ (O U lo')) g n (lo',d):=by
   have:=D.out;unfold Bb at *;rw[Qn _ _ _ _ _ _ this];rfl
  refine⟨C,?_⟩;unfold Bb at *;rw[Qn _ _ _ _ _ _ C];rfl
 by_cases k:n=0
 ·subst k;have i:J (Cc 0 (j,d) c=(c,c)):=rfl;obtain⟨p,m⟩:=(f c c).out;obtain⟨r,s,q,t⟩:=p.cells;obtain⟨u,v,y,z⟩:=m.cells
  go_enter Qq,Qr
  go_wp2;go_end0;refine⟨rfl,?_⟩;rw[i.out];rfl
 ·have M:((n:Int) == 0)=Qf:=by rw[beq_eq_false_iff_ne];omega
  by_cases o:c<j
  ·by_cases l:d<c
   ·have i:J (Cc n (j,d) c=(c,c)):=by show _=_;unfold Cc;rw[if_neg k];simp[o,l]
    obtain⟨p,m⟩:=(f c c).out;obtain⟨r,s,q,t⟩:=p.cells;obtain⟨u,v,y,z⟩:=m.cells
    go_enter Qq,Qr
    go_wp2;go_end0;refine⟨rfl,?_⟩;rw[i.out];rfl
   ·have i:J (Cc n (j,d) c=(c,d)):=by show _=_;unfold Cc;rw[if_neg k];simp[o,l]
    obtain⟨p,m⟩:=(f c d).out;obtain⟨r,s,q,t⟩:=p.cells;have b:J _:=Ah q
    go_enter Qq,Qr
    go_wp2;go_end0;refine⟨rfl,?_⟩;rw[i.out];unfold D1;dsimp only;rw[b.out];rfl
  ·have B:J _:=Ah K;have F:J _:=Ah L;by_cases l:d<c
   ·have i:J (Cc n (j,d) c=(j,c)):=by show _=_;unfold Cc;rw[if_neg k];simp[o,l]
    obtain⟨p,m⟩:=(f j c).out;rw[B.out]at m;obtain⟨u,v,y,z⟩:=m.cells
    go_enter Qq,Qr
    go_wp2;go_end0;refine⟨rfl,?_⟩;rw[i.out];unfold D1;dsimp only;rw[B.out];rfl
   ·have i:J (Cc n (j,d) c=(j,d)):=by show _=_;unfold Cc;rw[if_neg k];simp[o,l]
    go_enter Qq,Qr
    go_wp2;go_end0;refine⟨rfl,?_⟩;rw[i.out];unfold D1;dsimp only;rw[B.out,F.out];rfl
theorem Sz (d:ByteArray) (B:d.data.toList.length<=4) (n:Nat) (lo hi:Int) (b:Nat) (w:A) (a:Nat->Qa) (h:BZ w a) (K:n<=1000) (o:Ao lo=Qs) (p:Ao hi=Qs) (L:b<4294967296) :
  Qj Qg 206 #[Qk #[O U n,O U lo,O U hi],S d,.int .u32 b] w fun e w'=>e=Qh (S (Ab (CC d.data.toList n lo hi b)))/\BL w w':=by
 have z:=LJ B n lo hi b (by omega) o p (by omega);simp only[Ao,QA,decide_eq_true_eq]at o p;have C:IntKind.u64.wrap (b:Int)=(b:Int):=by rw[QI];omega
 have f:BL w (w.alloc (H #[O U n,O U lo,O U hi] 256)):=Af _ _;have i:=h.below f;have q:(w.alloc (H #[O U n,O U lo,O U hi] 256)).cell? ⟨w.heap.size,0,Z⟩=I (O U n):=by simp
 have r:(w.alloc (H #[O U n,O U lo,O U hi] 256)).cell? ⟨w.heap.size,1,Z⟩=I (O U lo):=by simp
 have s:(w.alloc (H #[O U n,O U lo,O U hi] 256)).cell? ⟨w.heap.size,2,Z⟩=I (O U hi):=by simp
 go_enter func206,ntmps206
 go_wp2_with fail
 generalize E:w.alloc (H #[O U n,O U lo,O U hi] 256)=l at f i q r s ⊢;generalize w.heap.size=g at q r s;have D:BL l l:=Qt _ _
 go_region_held3 (fun w'=>w'.cell? ⟨g,0,Z⟩=I (O U n)/\w'.cell? ⟨g,1,Z⟩=I (O U lo)/\w'.cell? ⟨g,2,Z⟩=I (O U hi)/\BL l w')
  (first
   | (go_split_ands;exact⟨Aa c (by assumption),Aa c (by assumption),Aa c (by assumption),Q2 (by assumption) (c.mono (Qu (by assumption)))⟩)
   | (go_split_ands;exact⟨by go_keep,by go_keep,by go_keep,by assumption⟩)
   | (go_split_ands;exact⟨by go_keep,by go_keep,by go_keep,Q3 (by assumption)⟩)
   | (go_split_ands;exact⟨by go_keep,by go_keep,by go_keep,QB (by assumption) (Qu (by assumption)) _⟩))
  (first
   | (go_at_call 86;refine(IU _ _ a (i.below (by go_split_ands;assumption)) (by omega) (by omega)).mono ?_;rintro e k ⟨rfl,c⟩)
   | (go_at_call 290;refine(Sw b (by omega) _ a (i.below (by go_split_ands;assumption))).mono ?_;rintro e k ⟨rfl,c⟩))
 go_split_ands;have t:BL l (k.alloc (H #[S d,S (Ab (V n)),S (Ab (V lo)),S (Ab (V hi)),S (Ab (V b))] 9)):=by assumption
 have u:=Ad f t;have m:(QC ([d,Ab (V n),Ab (V lo),Ab (V hi),Ab (V b)].map (·.data.toList)) (⟨#[32]⟩:ByteArray).data.toList)=CC d.data.toList n lo hi b:=by
  simp[QC,CC,Ab]
 have v:=strings_Join k.heap.size 0 5 [d,Ab (V n),Ab (V lo),Ab (V hi),Ab (V b)] ⟨#[32]⟩ (k.alloc (H #[S d,S (Ab (V n)),S (Ab (V lo)),S (Ab (V hi)),S (Ab (V b))] 9)) (fun j x hx=>by
   rw[Nat.zero_add,Qi _ _ _ _ _ _ (QD _ _)]
   match j,hx with
   | 0,hx=>simp at hx;subst hx;rfl
   | 1,hx=>simp at hx;subst hx;rfl
   | 2,hx=>simp at hx;subst hx;rfl
   | 3,hx=>simp at hx;subst hx;rfl
   | 4,hx=>simp at hx;subst hx;rfl
   | j+5,hx=>simp at hx) (by simp) (by simp) (by simp) (by rw[m];omega)
 rw[m]at v
 go_wp2_with fail
 refine v.mono ?_;rintro e F ⟨rfl,y⟩;go_wp2;go_ret;exact⟨rfl,(Ad u y)⟩
theorem GO (B b:Nat) (c:List Qm) (s:ByteArray) (w:A) (h:Qd 260 5 B b c w) (d:c.length+s.size<=140737488355328) (f:B<=w.heap.size) :
  Qj Qg 204 #[G (I ⟨b,0,Z⟩),S s] w fun e w'=>e=Qh (Qc #[O U s.size,QE])/\(Lib.BuilderAt 260 5 B b (G (I ⟨b,0,Z⟩)) (c++Lib.strCells s) w'/\Below B w w'):=by
 first
 | exact Any.Builder_WriteString { lays156 with } Builder_Extra_156 B b c s w h d f
 | exact Tryz.Builder_WriteString B b c s w h d f
theorem K1 {T e:Q4} {B b:Nat} {k:List Qm} {w w':A} (h:Qd T e B b k w) (i:BL w w'):Qd T e B b k w':=by
 rcases h with h | h
 ·have d:=h.lt;obtain⟨j,v,f,c,g⟩:=h;exact Or.inl ⟨j,v,(i.block b d).trans f,E7 c i,g⟩
 ·have d:=h.lt;obtain⟨j,v,f,c,g⟩:=h;exact Or.inr ⟨j,v,(i.block b d).trans f,E7 c i,g⟩
theorem NG {T e:Q4} {B b:Nat} {j:List Qm} {w:A} (h:Qd T e B b j w) (g o:Nat) (u:Qm) (k:g<B):Qd T e B b j (w.setCell ⟨g,o,Z⟩ u):=by
 rcases h with h | h
 ·obtain⟨i,v,d,c,f⟩:=h;exact Or.inl ⟨i,v,(Qo _ _ _ _ (by show b≠g;omega)).trans d,QF c (fun e=>by have:=(c.lt g e).1;omega) u,f⟩
 ·obtain⟨i,v,d,c,f⟩:=h;exact Or.inr ⟨i,v,(Qo _ _ _ _ (by show b≠g;omega)).trans d,QF c (fun e=>by have:=(c.lt g e).1;omega) u,f⟩
theorem S0 {T e:Q4} {B b:Nat} {d:List Qm} {w:A} (h:Qd T e B b d w) (g m:Nat) (E:Int×Int) (c:g<B):Qd T e B b d (D1 w g m E) :=
 NG (NG (NG h g 1 _ c) g 2 _ c) g 0 _ c
theorem eJ (x:Rw) (w:A) (a:Nat->Qa) (h:Bd w a) (s:x.1.size<=100) :
  Qj Qg 192 #[Qk #[S x.1,O U x.2.1,O U x.2.2]] w fun e w'=>e=Qh (Qc #[S (Ik x),O U x.2.1])/\BL w w':=by
 have l:=fun W (hW:Bd W a)=>aP x W a hW (by unfold Ql;omega);obtain⟨b,c,d⟩:=x;have i:BL w (w.alloc (H #[S b,O U c,O U d] 62)):=Af _ _;have m:(w.alloc (H #[S b,O U c,O U d] 62)).cell? ⟨w.heap.size,1,Z⟩=I (O U c):=by simp
 have n:(w.alloc (H #[S b,O U c,O U d] 62)).cell? ⟨w.heap.size,0,Z⟩=I (S b):=by simp
 have o:(w.alloc (H #[S b,O U c,O U d] 62)).cell? ⟨w.heap.size,2,Z⟩=I (O U d):=by simp
 have k:=h.below i
 go_enter func192,ntmps192
 go_wp2_with fail
 generalize w.alloc (H #[S b,O U c,O U d] 62)=j at i k n m o ⊢;generalize w.heap.size=g at n m o ⊢;have r:BL j j:=Qt _ _
 go_region_held3 (fun w'=>w'.cell? ⟨g,0,Z⟩=I (S b)/\w'.cell? ⟨g,1,Z⟩=I (O U c)/\w'.cell? ⟨g,2,Z⟩=I (O U d)/\BL j w')
  (first
   | (go_split_ands;exact⟨Aa f (by assumption),Aa f (by assumption),Aa f (by assumption),Q2 (by assumption) (f.mono (Qu (by assumption)))⟩)
   | (go_split_ands;exact⟨by go_keep,by go_keep,by go_keep,by assumption⟩)
   | (go_split_ands;exact⟨by go_keep,by go_keep,by go_keep,Q3 (by assumption)⟩)
   | (go_split_ands;exact⟨by go_keep,by go_keep,by go_keep,QB (by assumption) (Qu (by assumption)) _⟩))
  ((go_at_call 193;refine(l _ (k.below (by go_split_ands;assumption))).mono ?_;rintro e q ⟨rfl,f⟩))
 go_split_ands;have p:BL j q:=by assumption
 go_wp2;go_ret2;exact⟨rfl,(Ad i p)⟩
theorem eM (C:ByteArray) (hK:C.data.toList.length<=4) (v:Qm) (xs:List Rw) (w:A) (a:Nat->Qa) (h:Bd w a) (hx:Ar w v xs) (hl:xs.length<=1000) (m:∀x∈xs,Ay x=0) :
  Qj Qg 191 #[S C,v,.func (.func 192) #[] #[]] w fun e w'=>e=Qh (S (Ab (CC C.data.toList xs.length (Ap (BB xs)).1 (Ap (BB xs)).2 (Ba (Ci xs))++10 :: Ci xs)))/\BL w w':=by
 have eg:∀args w,(callFunc 192 args).run Qg w= .ok (.enter 192 args) w:=enters_of func192 (by kernel_rfl) rfl;obtain⟨q,ax,rfl⟩:=hx.form;obtain⟨L,hL⟩:∃L,xs.length=L:=⟨_,rfl⟩;have T:J (xs.length=L):=hL;have aa:(Qb q xs.length ax)=Qb q L ax:=by rw[hL]
 rw[aa]at hx ⊢;rw[hL]at hl;clear hL aa;have hA:=heap_alloc2_old w (H #[O U 0,O U 0,O U 0] 256) (H #[G Z,Qb Z 0 0] 260);have d:=heap_alloc2_new w (H #[O U 0,O U 0,O U 0] 256) (H #[G Z,Qb Z 0 0] 260);have g:BL w ((w.alloc (H #[O U 0,O U 0,O U 0] 256)).alloc (H #[G Z,Qb Z 0 0] 260)):=(Af _ _).alloc (by simp) _;have ab:Qd 260 5 (w.heap.size+1) (w.heap.size+1) (Qw (Ci [])) ((w.alloc (H #[O U 0,O U 0,O U 0] 256)).alloc (H #[G Z,Qb Z 0 0] 260)) :=
  Or.inl ⟨Q5 _,Qb Z 0 0,d,World.ownsRow_nil _ _ _ _,by simp[Value.ownBlock]⟩
 go_enter func191,ntmps191
 go_wp2
 go_loopw [16] (fun k wr=> ∃n:Nat,n<=L/\k=O U n/\BL w wr/\Bb wr w.heap.size n (Ap (BB (xs.take n)))/\Qd 260 5 (w.heap.size+1) (w.heap.size+1) (Qw (Ci (xs.take n))) wr) (fun k _=>L-(intOf k).toNat)
 case atStart=>exact ⟨0,by omega,rfl,g,hA,by simpa using ab⟩
 case round =>
  clear g ab hA d;obtain⟨n,hn,rfl,hb,F,d⟩:=hrel;have bi:w.heap.size<=wr.heap.size:=hb.size;have bg:w.heap.size+1<wr.heap.size:=by
   rcases d with d | d
   ·exact d.lt
   ·exact d.lt
  by_cases a3:n<L
  ·have ac:n<xs.length:=by rw[T.out];exact a3
   have al:=hx.below hb;rcases al with⟨_,_,e,e'⟩|⟨b,o,bh,e,B⟩
   ·exfalso;have:=T.out;rw[e']at this;simp at this;omega
   injection e with e1 e2 e3;subst e1;clear e2 e3;obtain⟨c1,c2,c3⟩:=B n ac;clear B;have hi:(n:Int)<(L:Int):=by omega
   have ad:xs[n]∈xs:=QG _;have j:=m _ ad;have ae:xs.take (n+1)=xs.take n++ [xs[n]]:=by rw[List.take_append_getElem ac]
   have a4:xs[n].1.size<=8:=by
    have:=Kq j;simp only[Fa,QA,decide_eq_true_eq]at this;rw[<-AA];exact this.1.2
   have p:=fun W (hW:Bd W a)=>eJ xs[n] W a hW (by omega);have M:J ((Ik xs[n]).data.toList=F8 xs[n]):=bN _ j;have am:=RT xs[n] j;have an:(Ik xs[n]).size<=32:=by rw[<-AA,M.out];exact am
   have HT:J (Ci (xs.take (n+1))=Ci (xs.take n)++(F8 xs[n]++ [10])):=by
    show _=_;rw[ae];exact RK CD _ _
   have N:J (Ap (BB (xs.take (n+1)))=Cc n (Ap (BB (xs.take n))) xs[n].2.1):=by
    show _=_;have a5:(BB (xs.take n)).length=n:=by simp[A6];omega
    have:=N9 (BB (xs.take n)) xs[n].2.1;rw[a5]at this;rw[<-this,ae,cC]
   have a6:=JA Ks (xs.take n) (fun x hx2=>m x (List.mem_of_mem_take hx2));have a2:(Qw (Ci (xs.take n))).length<=40000:=by
    rw[Lib.byteCells_length];have:(xs.take n).length<=n:=List.length_take_le _ _;show (AQ CD (xs.take n)).length<=40000;omega
   clear ae ad j a4 am a6;generalize xs[n]=x at c1 c2 c3 p M an HT N;generalize Ci (xs.take n)=bl at d HT a2;generalize Ap (BB (xs.take n))=E at F N;obtain⟨xp,i,xv⟩:=x;generalize Ik (xp,i,xv)=tb at p M an;dsimp only at c1 c2 c3 p N;have g:BL wr (wr.alloc (H #[S xp,O U i,O U xv] 62)):=Af _ _;have r:BL w (wr.alloc (H #[S xp,O U i,O U xv] 62)):=Ad hb g;have af:=p _ (h.below r);have s:=K1 d g;have t:=F.below g;clear p d F
   go_wp2_with (go_at_fn 192;refine af.mono ?_;rintro e K ⟨rfl,aj⟩)
   clear af c1 c2 c3;have ao:BL w K:=Ad r aj;have P:=t.below aj;have ap:=K1 s aj;have aq:=NF w.heap.size n E i K P (by omega);clear s t g
   go_wp2_with fail
   refine aq.mono ?_;rintro e w4 ⟨rfl,rfl⟩;clear aq;have ag:Bb (D1 K w.heap.size (n+1) (Cc n E i)) w.heap.size (n+1) (Cc n E i):=NA P;have ah:=S0 ap w.heap.size (n+1) (Cc n E i) (by omega);have ar:BL w (D1 K w.heap.size (n+1) (Cc n E i)):=ND ao (Q5 _);have D:w.heap.size+1<=(D1 K w.heap.size (n+1) (Cc n E i)).heap.size:=by rw[Sy];exact Qp P
   clear ap P ao;generalize D1 K w.heap.size (n+1) (Cc n E i)=W4 at ag ah ar D ⊢;have u:=GO (w.heap.size+1) (w.heap.size+1) _ tb W4 ah (by omega) D;clear ah
   go_wp2_with fail
   refine u.mono ?_;rintro e w5 ⟨rfl,az,ak⟩;clear u;have a7:BL w w5:=ar.trans (ak.mono (Q6 _));have au:Bb w5 w.heap.size (n+1) (Cc n E i):=by
    unfold Bb at *;exact(ak.block _ (Q7 _)).trans ag
   have u:=GO (w.heap.size+1) (w.heap.size+1) _ ⟨#[10]⟩ w5 (Or.inr az) (by rw[List.length_append,Lib.strCells_length];have:(⟨#[10]⟩:ByteArray).size=1:=rfl;omega) (Nat.le_trans D ak.size);clear ag
   go_wp2_with fail
   refine u.mono ?_;rintro e w7 ⟨rfl,a0,a1⟩;clear u az;have a8:BL w w7:=a7.trans (a1.mono (Q6 _));have a9:J (Bb w7 w.heap.size (n+1) (Ap (BB (xs.take (n+1))))):=by
    show Bb _ _ _ _;rw[N.out];unfold Bb at *;exact(a1.block _ (Q7 _)).trans au
   have ba:J (Qd 260 5 (w.heap.size+1) (w.heap.size+1) (Qw (Ci (xs.take (n+1)))) w7):=by
    show Qd _ _ _ _ _ _;rw[HT.out,QH,QH,<-M.out,<-List.append_assoc];exact Or.inr a0
   clear a0 au;go_wp2;go_roundw
   case rel=>exact ⟨n+1,by omega,by go_num,a8,a9.out,ba.out⟩
   case measure=>simp [intOf];omega
  ·obtain rfl:n=L:=by omega
   have bb:xs.take n=xs:=List.take_of_length_le (by rw[T.out];exact Q5 _);rw[bb]at d F;have Q:=Builder_String_any (w.heap.size+1) (w.heap.size+1) (Ci xs) wr d (by omega);have av:=JA Ks xs m;have f:=LH Ks m;have l:=fun W=>Ky (Ab (Ci xs)) W (by rw[CR];unfold Ql;show (AQ CD xs).length<=_;rw[T.out]at av;omega);have eL:(Ab (Ci xs)).data.toList=Ci xs:=by simp[Ab]
   rw[eL]at l;have aw:=Hn (Ci xs);have y:=fun W (hW:Bd W a)=>Sz C hK n (Ap (BB xs)).1 (Ap (BB xs)).2 (Ba (Ci xs)) W a hW.weak (by omega) f.1 f.2 aw;have bj:=LJ hK n (Ap (BB xs)).1 (Ap (BB xs)).2 (Ba (Ci xs)) (by omega) f.1 f.2 (by omega);obtain⟨T0,ay⟩:∃T0,Ab (CC C.data.toList xs.length (Ap (BB xs)).1 (Ap (BB xs)).2 (Ba (Ci xs))++10 :: Ci xs)=T0:=⟨_,rfl⟩;have bc:J _:=ay;have X:J (T0=Ab (CC C.data.toList n (Ap (BB xs)).1 (Ap (BB xs)).2 (Ba (Ci xs)))++⟨#[10]⟩++Ab (Ci xs)):=by
    show _=_;rw[<-ay,T.out];apply ByteArray.ext;apply Array.ext';simp[Ab]
   have R:(Ab (CC C.data.toList n (Ap (BB xs)).1 (Ap (BB xs)).2 (Ba (Ci xs)))).size<=2000:=by rw[CR];omega
   have bd:(Ab (Ci xs)).size<=40000:=by rw[CR];show (AQ CD xs).length<=_;rw[T.out]at av;omega
   generalize Ba (Ci xs)=c at y l X R aw;generalize Ap (BB xs)=E at y X R F;obtain⟨lo,ai⟩:=E;dsimp only at y X R;generalize Ab (CC C.data.toList n lo ai (c:Int))=d at y X R;have eS:(⟨(Ci xs).toArray⟩:ByteArray)=Ab (Ci xs):=rfl;rw[eS]at Q;generalize Ab (Ci xs)=lB at Q l X bd
   go_wp2_with fail
   refine Q.mono ?_;rintro e Y ⟨rfl,r⟩;clear Q;have t:Bb Y w.heap.size n (lo,ai):=by
    unfold Bb at *;exact(r.block _ (Q7 _)).trans F
   obtain⟨g0,g1,g2,_⟩:=t.cells;dsimp only at g1 g2;clear F t;have s:BL w Y:=hb.trans (r.mono (Q6 _));have be:=h.below s;have bk:BL Y Y:=Qt _ _;have n1:¬9223372036854775807<d.size+1:=by omega
   have n2:¬9223372036854775807<d.size+1+lB.size:=by omega
   go_wp2_with fail
   go_region_held3 (fun w'=>w'.cell? ⟨w.heap.size,0,Z⟩=I (O U n)/\w'.cell? ⟨w.heap.size,1,Z⟩=I (O U lo)/\w'.cell? ⟨w.heap.size,2,Z⟩=I (O U ai)/\BL Y w')
    (first
     | (go_split_ands;exact⟨Aa z (by assumption),Aa z (by assumption),Aa z (by assumption),Q2 (by assumption) (z.mono (Qu (by assumption)))⟩)
     | (go_split_ands;exact⟨by go_keep,by go_keep,by go_keep,by assumption⟩)
     | (go_split_ands;exact⟨by go_keep,by go_keep,by go_keep,Q3 (by assumption)⟩))
    (first
     | (go_at_call 171;refine(l _).mono ?_;rintro e K ⟨rfl,z⟩)
     | (go_at_call 206;refine(y _ (be.below (by go_split_ands;assumption))).mono ?_;rintro e w4 ⟨rfl,z⟩))
   go_split_ands;have bf:BL Y w4:=by assumption
   go_wp2;go_ret;exact⟨by rw[bc.out,X.out];rfl,(Ad s bf)⟩
structure DE (w:A) (a:Nat->Qa):Prop where
 env:Bd w a
 shape:w.cell? ⟨0,0,Z⟩=I (Qe 410 (G (I (a 2))))
 full:w.cell? ⟨6,0,Z⟩=I (Qe 410 (G (I (a 7))))
 order:w.cell? ⟨7,0,Z⟩=I (Qe 410 (G (I (a 8))))
 sum:w.cell? ⟨9,0,Z⟩=I (Qe 410 (G (I (a 9))))
theorem DE.below {w w':A} {a:Nat->Qa} (h:DE w a) (b:BL w w'):DE w' a :=
 ⟨h.env.below b,Aa b h.shape,Aa b h.full,Aa b h.order,Aa b h.sum⟩
structure DM (w:A) (a:Nat->Qa):Prop where
 env:BZ w a
 shape:w.cell? ⟨0,0,Z⟩=I (Qe 410 (G (I (a 2))))
 full:w.cell? ⟨6,0,Z⟩=I (Qe 410 (G (I (a 7))))
 order:w.cell? ⟨7,0,Z⟩=I (Qe 410 (G (I (a 8))))
 sum:w.cell? ⟨9,0,Z⟩=I (Qe 410 (G (I (a 9))))
theorem DM.below {w w':A} {a:Nat->Qa} (h:DM w a) (b:BL w w'):DM w' a :=
 ⟨h.env.below b,Aa b h.shape,Aa b h.full,Aa b h.order,Aa b h.sum⟩
theorem DE.weak {w:A} {a:Nat->Qa} (h:DE w a):DM w a:=⟨h.env.weak,h.shape,h.full,h.order,h.sum⟩
theorem eN {xs:List Rw} (h:∀x∈xs,Ay x=0):∀x∈A5 xs,Ay x=0:=fun x hx=>h x ((Ej xs).mem_iff.1 hx)
theorem S3 (xs:List Rw):(A5 xs).Pairwise (fun x y=>ltOf AM y x=Qf):=(LB xs).imp fun {a b} h=>by simpa using h
theorem eO (q:Option Qa) (n b:Nat) (w:A) (a:Nat->Qa) (h:DE w a) (f:40<n) (c:n<=Ql) :
  Qj Qg 109 #[Qb q n b] w fun e w'=>e=Qh (Qc #[S ⟨#[]⟩,Ae a 8])/\BL w w':=by
 unfold Ql at c;have d:=h.full
 go_enter func109,ntmps109
 go_wp2
 go_quiet (fail)
 go_wp2;go_ret2;exact⟨rfl,AH (Qt _ _) nq⟩
theorem eP (q:Option Qa) (g:Nat) (xs:List Rw) (w:A) (a:Nat->Qa) (h:DE w a) (hx:Ar w (Qb q xs.length g) xs) (hl:xs.length<=40) (hp:∀x∈xs,x.1.size<=30)
  (m:Nat) (hm:m<=xs.length) (r:∀i (h:i<xs.length),i<m->Ay xs[i]=0) (D:∀(h:m<xs.length),Ay xs[m]≠0) :
  Qj Qg 109 #[Qb q xs.length g] w fun e w'=>(m=xs.length/\e=Qh (Qc #[S (Ab (EK (A5 xs))),QE])/\BL w w') \/
   (∃h:m<xs.length,∃fb,e=Qh (Qc #[S ⟨#[]⟩,Qe 140 (G (I ⟨fb,0,Z⟩))])/\w'.cell? ⟨fb,0,Z⟩=I (O U m)/\w'.cell? ⟨fb,1,Z⟩=I (Ae a (Ay xs[m]))/\BL w w'):=by
 obtain⟨L,K⟩:∃L,xs.length=L:=⟨_,rfl⟩;have s:J _:=K;have l:J _:=r;have ab:J _:=D;rw[K]at hx hl hm;have t:(Qb q xs.length g)=Qb q L g:=by rw[K]
 rw[t];clear K r D t
 go_enter func109,ntmps109
 go_wp2
 go_loopw [13] (fun k wr=> ∃n:Nat,n<=m/\k=O U n/\BL w wr) (fun k _=>L-(intOf k).toNat)
 case atStart=>exact ⟨0,by omega,rfl,Qt _ _⟩
 case round =>
  obtain⟨n,hn,rfl,z⟩:=hrel;by_cases af:n<L
  ·have d:n<xs.length:=by rw[s.out];exact af
   have F:=hx.below z;rcases F with⟨_,_,e,e'⟩|⟨b,o,am,e,C⟩
   ·exfalso;have:=s.out;rw[e']at this;simp at this;omega
   injection e with e1 e2 e3;subst e1;clear e2 e3;obtain⟨c1,c2,c3⟩:=C n d;have hi:(n:Int)<(L:Int):=by omega
   have an:=hp _ (QG d);have c:=fun W (hW:Bd W a)=>J3 xs[n] W a hW (by unfold Ql;omega);by_cases u:n<m
   ·have ac:=l.out n d u;rw[ac]at c;simp only[Ae]at c;generalize xs[n]=x at c1 c2 c3 c;obtain⟨M,N,P⟩:=x;have v:BL wr (wr.alloc (H #[S M,O U N,O U P] 62)):=Af _ _;have f:BL w (wr.alloc (H #[S M,O U N,O U P] 62)):=Ad z v;have j:=c _ (h.env.below f)
    go_wp2_with fail
    refine j.mono ?_;rintro e Q ⟨rfl,B⟩;have p:BL w Q:=Ad f B;go_wp2;go_roundw
    case rel=>exact ⟨n+1,by omega,by go_num,p⟩
    case measure=>simp [intOf];omega
   ·obtain rfl:n=m:=by omega
    have hE:=ab.out d;obtain⟨E,X⟩:∃E,Ay xs[n]=E+1:=⟨Ay xs[n]-1,by omega⟩;have ag:J _:=X;rw[X]at c;simp only[Ae]at c;generalize xs[n].1=M at c1 c;generalize xs[n].2.1=N at c2 c;generalize xs[n].2.2=P at c3 c;have v:BL wr (wr.alloc (H #[S M,O U N,O U P] 62)):=Af _ _;have f:=Ad z v;have j:=c _ (h.env.below f)
    go_wp2_with fail
    refine j.mono ?_;rintro e Q ⟨rfl,B⟩;have p:=Ad f B;have ah:BL w (Q.alloc (H #[O U n,Qe 410 (G (I (a E)))] 143)):=p.alloc p.size _;go_wp2;go_ret2;exact Or.inr ⟨d,Q.heap.size,rfl,by simp,by rw[ag.out];simp[Ae],ah⟩
  ·have u:n=m:=by omega
   have R:m=L:=by omega
   subst u;have ad:∀x∈xs,Ay x=0:=fun x hxm=>by
    obtain⟨i,hi,e⟩:=List.mem_iff_getElem.1 hxm;rw[<-e];exact l.out i hi (by rw[R,<-s.out];exact hi)
   have ai:=aX (Qb q L g) xs wr (hx.below z) (by rw[s.out];omega)
   go_wp2_with fail
   refine ai.mono ?_;rintro e w1 ⟨v1,rfl,aa,ak⟩;have T:=Ad z ak;have ae:=eN ad;have y:=eM ⟨#[100,97,116,97]⟩ (by decide) v1 (A5 xs) w1 a (h.env.below T) aa (by rw[Hi,s.out];omega) ae;have HF:J (Ab (CC (⟨#[100,97,116,97]⟩:ByteArray).data.toList (A5 xs).length (Ap (BB (A5 xs))).1 (Ap (BB (A5 xs))).2 (Ba (Ci (A5 xs)))++10 :: Ci (A5 xs))=Ab (EK (A5 xs))):=rfl;rw[HF.out]at y;obtain⟨q1,al,rfl⟩:=aa.form;obtain⟨fB,Y⟩:∃fB,Ab (EK (A5 xs))=fB:=⟨_,rfl⟩;have aj:J _:=Y;rw[Y]at y
   go_wp2_with fail
   refine y.mono ?_;rintro e w2 ⟨rfl,f⟩;go_wp2;go_ret2;exact Or.inl ⟨R.trans s.out.symm,by rw[aj.out];rfl,(Ad T f)⟩
theorem eQ {Kw l k f B C D:List UInt8} (h:AY l= [k,f,B,C,D]):EI Kw l=if k=Kw then (match As f,As B,As C,As D with
  | some a,I b,I c,I d=>I (a,b,c,d)
  | _,_,_,_=>Z) else Z:=by
 unfold EI;rw[h];rfl
theorem eR {Kw l:List UInt8} (h:(AY l).length≠5):EI Kw l=Z:=by
 unfold EI;split
 ·rename_i e;rw[e]at h;simp at h
 ·rfl
theorem eT {α:Type} {f:List α} (h:f.length=5):∃a b c d e,f= [a,b,c,d,e]:=by
 match f,h with
 | [a,b,c,d,e],_=>exact ⟨a,b,c,d,e,rfl⟩
theorem eU {s t:ByteArray} (h:s.data.toList=t.data.toList):(s.toList == t.toList)=Qs:=by
 rw[Qx,Qx];simpa using h
theorem K2 {s t:ByteArray} (h:s.data.toList≠t.data.toList):(s.toList == t.toList)=Qf:=by
 rw[Qx,Qx];simpa using h
def Gm (K l:List UInt8):(Int×Int×Int)×Int×Bool:=match EI K l with
 | some (n,lo,hi,sum)=>((n,lo,hi),sum,Qs)
 | none=>((0,0,0),0,Qf)
theorem S4 (k s:ByteArray) (w:A) (a:Nat->Qa) (h:BZ w a) (hs:s.size<=100000) :
  Qj Qg 207 #[S k,S s] w fun e w'=>e=Qh (Qc #[Qk #[O U (Gm k.data.toList s.data.toList).1.1,O U (Gm k.data.toList s.data.toList).1.2.1,O U (Gm k.data.toList s.data.toList).1.2.2],O U (Gm k.data.toList s.data.toList).2.1,Qv (Gm k.data.toList s.data.toList).2.2])/\BL w w':=by
 have ac:BL w (w.alloc (H #[O U 0,O U 0,O U 0] 256)):=Af _ _;have ah:=J5 s _ a (h.below ac) (by omega);have M:=QD w (H #[O U 0,O U 0,O U 0] 256);have ai:=J4 s.data.toList
 go_enter func207,ntmps207
 go_wp2_with fail
 refine ah.mono ?_;rintro e w1 ⟨v1,ts,rfl,ad,R,ae⟩;have p:=Ad ac ae;have X:=(ae.block _ (Qp M)).trans M;have aj:∀W:A,BL w W->W.heap[w.heap.size]? =I (H #[O U 0,O U 0,O U 0] 256 (0,0))->(W.cell? ⟨w.heap.size,0,Z⟩=I (O U 0)/\W.cell? ⟨w.heap.size,1,Z⟩=I (O U 0)/\W.cell? ⟨w.heap.size,2,Z⟩=I (O U 0)/\∀o,W.frozen? ⟨w.heap.size,o,Z⟩=Qf):=fun W _ hW =>
  ⟨by rw[Qi _ _ _ _ _ _ hW];rfl,by rw[Qi _ _ _ _ _ _ hW];rfl,by rw[Qi _ _ _ _ _ _ hW];rfl,fun o=>Q9 _ _ _ _ _ hW⟩
 have N:J _:=aj;have l:J _:=X;by_cases h5:ts.length=5
 ·obtain⟨K,f,B,C,D,rfl⟩:=eT h5;have hw:AY s.data.toList= [K.data.toList,f.data.toList,B.data.toList,C.data.toList,D.data.toList]:=by rw[<-R];rfl
  have hf:=eQ (Kw:=k.data.toList) hw;have ak:∀t∈ [K,f,B,C,D],t.size<=Ql:=fun t m=>by
   have:=ai t.data.toList (by rw[<-R];exact List.mem_map.2 ⟨t,m,rfl⟩);rw[AA,AA]at this;unfold Ql;omega
  have HF:J (EI k.data.toList s.data.toList=if K.data.toList=k.data.toList then (match As f.data.toList,As B.data.toList,As C.data.toList,As D.data.toList with
   | some a,I b,I c,I d=>I (a,b,c,d)
   | _,_,_,_=>Z) else Z):=hf
  obtain⟨b,rfl,ab⟩:=ad;have Y:J _:=ab;by_cases P:K.data.toList=k.data.toList
  ·have al:=eU P;have am:=Np b 1 4 [f,B,C,D] w1 a (h.below p) (fun j hj=>by
    have an:j+1 < [K,f,B,C,D].length:=by simp at hj ⊢;omega
    have:=Y.out (j+1) an;rw[Nat.add_comm 1 j];simpa using this) (fun t m=>ak t (List.mem_cons_of_mem _ m)) (by simp)
   go_wp2_with fail
   refine am.mono ?_;rintro e w3 ⟨ag,T⟩;have Q:=Ad p T;obtain⟨n,q,r,fz⟩:=N.out w3 Q ((T.block _ (Qp l.out)).trans l.out);have s0:=Ah n;have s1:=Ah q;have s2:=Ah r;rcases ag with⟨zs,g,ap,u,rfl,af⟩|⟨j,t,m,y,rfl⟩
   ·obtain⟨z,E,F,L,ao⟩:∃z E F L,zs= [z,E,F,L]:=by
     match zs,ap with
     | [z,E,F,L],_=>exact ⟨z,E,F,L,rfl⟩
    subst ao;have aa:J (EI k.data.toList s.data.toList=I (z,E,F,L)):=by
     show _=_;have q0:=u 0 f rfl;have q1:=u 1 B rfl;have q2:=u 2 C rfl;have q3:=u 3 D rfl;rw[HF.out,if_pos P,q0,q1,q2,q3];rfl
    have k0:=af 0 (by simp);have k3:=af 3 (by simp);have aq:g≠w.heap.size:=by
     intro e;subst e;have:=n.symm.trans k0;have e1:=k3;rw[Qi _ _ _ _ _ _ ((T.block _ (Qp l.out)).trans l.out)]at e1;simp at e1
    go_wp2
    go_region
    go_wp2;refine Qy (v:=Qc #[Qk #[O U z,O U E,O U F],O U L,Qv Qs]) (by simp[Qz,Q0,go_sem,n,q,r]) rfl ⟨by unfold Gm;rw[aa.out],?_⟩;exact(((Q.setCell (by simp) _).setCell (by simp) _).setCell (by simp) _).drew
   ·have i:J (EI k.data.toList s.data.toList=Z):=by
     show _=_;rw[HF.out,if_pos P]
     match j,m with
     | 0,m=>rw [Q1 m,y]
     | 1,m=>rw [Q1 m,y];split<;>simp_all
     | 2,m=>rw [Q1 m,y];split<;>simp_all
     | 3,m=>rw [Q1 m,y];split<;>simp_all
    go_wp2;exact Qy (v:=Qc #[Qk #[O U 0,O U 0,O U 0],O U 0,Qv Qf]) (by simp[Qz,Q0,go_sem,n,q,r]) rfl ⟨by unfold Gm;rw[i.out],Q⟩
  ·have al:=K2 P;have i:J (EI k.data.toList s.data.toList=Z):=by
    show _=_;rw[HF.out,if_neg P]
   obtain⟨n,q,r,fz⟩:=N.out w1 p l.out;have s0:=Ah n;have s1:=Ah q;have s2:=Ah r;go_wp2;exact Qy (v:=Qc #[Qk #[O U 0,O U 0,O U 0],O U 0,Qv Qf]) (by simp[Qz,Q0,go_sem,n,q,r]) rfl ⟨by unfold Gm;rw[i.out],p⟩
 ·have i:J (EI k.data.toList s.data.toList=Z):=eR (fun e=>h5 (by rw[<-e,<-R,List.length_map]));obtain⟨b,rfl,_⟩:=ad;obtain⟨n,q,r,fz⟩:=N.out w1 p l.out;have s0:=Ah n;have s1:=Ah q;have s2:=Ah r;go_wp2;exact Qy (v:=Qc #[Qk #[O U 0,O U 0,O U 0],O U 0,Qv Qf]) (by simp[Qz,Q0,go_sem,n,q,r]) rfl ⟨by unfold Gm;rw[i.out],p⟩
end Go.Proofs.YtcllhobffhkafaaGreatDoor
