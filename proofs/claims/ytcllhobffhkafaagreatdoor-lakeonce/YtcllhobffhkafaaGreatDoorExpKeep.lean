/- By an AI agent. -/
import Derived.Test.YtcllhobffhkafaaGreatDoorMetaRd
set_option maxRecDepth 100000
set_option maxHeartbeats 16000000
open Go.Proofs.Tryz
open Bool renaming true->Qd,false->Qg,eq_iff_iff->Q4
open Go renaming World->V,Value->Qc,Calls->Qe,cell_of_row->Qo,heap_alloc_new->Qp,Addr->Qq,frozen_of_row->Qz
open Go.Builtin renaming max_->Q2,min_->Q3,append_->Q5,max2->Q6,min2->Q7
open Go.Ending renaming returned->Qb
open Go.IntKind renaming i64->U
open Go.Obj renaming cells->A
open Go.Proofs.Tryz renaming prog->Qa,func237->Qr,ntmps237->Qt,func149->Qw,func150->Qx,ntmps150->Qy
open Go.RowKit renaming Hid->S
open Go.RowKit.Below renaming refl->Ql
open Go.Value renaming int->O,slice->J,pointer->H,tuple->Qf,string->Qh,nilIface->Qj,bool->Qm,iface->Qn,ownBlock->Qv
open List renaming getLast?_eq_some_getLast->Q0,replicate->Q1
open Nat renaming le_refl->Qs,le_trans->Qu
open Option renaming none->Z,some->I
open Or renaming inl->Qi,inr->Qk
namespace Go.Proofs.YtcllhobffhkafaaGreatDoor
open Go.RowKit Go.Extern.Stop Go.Stop Go.Extern Go.Sort Go.Shelf Go.Lib
section
variable {a : Nat → Qq} {B : Nat} {EM : V → Prop}
theorem I2 {W:V} {b:Nat} {c:Qq} (d:W.cell? ⟨b,0,Z⟩=I (H (I c))) :
  Qe Qa 38 #[H (I ⟨b,0,Z⟩)] W fun e w'=>e=Qb (Qm Qg)/\w'=W:=by
 go_enter func38,ntmps38
 go_wp2;go_ret;exact⟨rfl,rfl⟩
def Dw (n:Int):Bool:=decide (1<=n) && decide (n<=1073741824)
theorem Vz (n:Int) (W:V) :
  Qe Qa 55 #[O U n] W fun e w'=>e=Qb (Qm (Dw n))/\w'=W:=by
 by_cases h:1<=n
 ·have b:Dw n=decide (n<=1073741824):=by unfold Dw;rw[decide_eq_true h];rfl
  rw[b]
  go_enter func55,ntmps55
  go_wp2;go_ret;exact⟨rfl,rfl⟩
 ·have b:Dw n=Qg:=by unfold Dw;rw[decide_eq_false h];rfl
  rw[b]
  go_enter func55,ntmps55
  go_wp2;go_ret;exact⟨rfl,rfl⟩
theorem Pv {W:V} {b:Nat} {i n:Int} (c:W.cell? ⟨b,8,Z⟩=I (O U i)) :
  Qe Qa 57 #[H (I ⟨b,0,Z⟩),O U n] W fun e w'=>e=Qb (Qm (decide (n<=i)))/\w'=W:=by
 go_enter func57,ntmps57
 go_wp2;go_ret;exact⟨rfl,rfl⟩
def AX (W:V) (kb:Nat) (vs:Qc) (SP:Nat->Prop) (k:Lk) (Q:Lk->Int->Prop) (G:Prop) (e:Ending) (w':V):Prop :=
 ∃SP' vi' vf' k' m ev,e=Qb (Qf #[O U m,ev])/\Ac (fun j=>SP j\/j=kb) W w'/\(∀j,SP' j->SP j\/W.heap.size<=j)/\(An w' kb vs SP' k'.st.head vi' vf' k'/\Ft W kb k vi' vf' k')/\(((∃t u,ev=Qn t u)/\¬G/\∃s',Gw k.st s'/\k'= { k with st:=s' })\/(ev=Qj/\Q k' m))
theorem AX.bad {W w':V} {c:Nat} {d:Qc} {b:Nat->Prop} {f vf:Qc} {k:Lk} {Q:Lk->Int->Prop} {G:Prop} {t:TypeId} {u:Qc} (h:An W c d b k.st.head f vf k) (i:B3 k.st) (K:AJ a B EM A0) (g:BL W w') (j:¬G):AX W c d b k Q G (Qb (Qf #[O U 0,Qn t u])) w' :=
 ⟨b,f,vf,k,0,_,rfl,Ac.of_below g,fun _ h=>Qi h,⟨h.quiet K g,h.owt⟩,Qi ⟨⟨t,u,rfl⟩,j,k.st,Gw.refl i,rfl⟩⟩
theorem AX.same {W w':V} {c:Nat} {d:Qc} {b:Nat->Prop} {f vf:Qc} {k:Lk} {Q:Lk->Int->Prop} {G:Prop} {m:Int} (h:An W c d b k.st.head f vf k) (K:AJ a B EM A0) (g:BL W w') (i:Q k m):AX W c d b k Q G (Qb (Qf #[O U m,Qj])) w' :=
 ⟨b,f,vf,k,m,_,rfl,Ac.of_below g,fun _ h=>Qi h,⟨h.quiet K g,h.owt⟩,Qk ⟨rfl,i⟩⟩
def DV (zs:List Int):List Dr:=if A4 zs= [] then [] else [(⟨#[103,111,110,101,47]⟩,⟨#[45]⟩,Ab (DK (A4 zs)))]
def Fx (k:Lk) (idx:Int) (zs:List Int) (k':Lk) (m:Int):Prop :=
 Dw idx=Qd/\(A4 zs).length<=40/\(∀z∈zs,Ao z=Qd)/\((idx<=k.now.2.2.2.2.1/\m=0/\k'=k)\/(k.now.2.2.2.2.1<idx/\m=(A4 zs).length/\Fw k k' (DV zs) [] idx))
def Gf (k:Lk) (idx:Int) (zs:List Int):Prop:=Dw idx=Qd/\(A4 zs).length<=40/\(∀z∈zs,Ao z=Qd)/\(idx<=k.now.2.2.2.2.1\/Jv k (DV zs) [] idx)
theorem MV {zs:List Int} (d:∀z∈zs,Ao z=Qd) (c:(A4 zs).length<=40):(Ab (DK (A4 zs))).size<=100000/\B4 (DK (A4 zs))=(A4 zs,0,Z):=by
 have b:∀x∈A4 zs,AB.ok x:=fun x hx=>d x ((Kt zs x).1 hx);refine⟨?_,RQ IL _ b c (cF zs)⟩;rw[E9];have:(DK (A4 zs)).length<=1400:=LK IL (A4 zs) b c;omega
theorem Tryz.draftInfo3:(Tryz.prog.info? 111).map (fun i=>(i.zero,i.size,i.bytes))=I (I (.agg #[Qh ⟨#[]⟩,Qh ⟨#[]⟩,Qh ⟨#[]⟩]),3,48):=by kernel_rfl
theorem V0 {D:Nat} {W f:V} {v:Qc} {ds:List Dr} (y:AZ W D v ds) (z:D<=W.heap.size) (d:Dr) (g:f=W.alloc (A #[Qh d.1,Qh d.2.1,Qh d.2.2] 111)) (B:ds.length<=1000) :
  ∃v' W2,(Q5 #[98,98] 98 #[v,J (I ⟨W.heap.size,0,Z⟩) 1 1]).run Qa f= .ok v' W2/\AZ W2 D v' (ds++ [d])/\Ac (fun k=>v.ownBlock=I k) W W2/\(v'.ownBlock=v.ownBlock\/∃k,v'.ownBlock=I k/\W.heap.size<=k/\k<W2.heap.size):=by
 obtain⟨o,p,l⟩:=Option.map_eq_some_iff.1 Tryz.draftInfo3;simp only[Prod.mk.injEq]at l;obtain⟨q,r,m⟩:=l;have b:BL W f:=by rw[g];exact Af _ _
 have i:CU f (I ⟨W.heap.size,0,Z⟩) 1 1 (Gc d):=by
  rw[g];exact Iq W (Gc d) 111 1 1
 obtain⟨v',W2,s,n,t,c⟩:=FO (P:=Qa) f D 98 98 111 o (.agg #[Qh ⟨#[]⟩,Qh ⟨#[]⟩,Qh ⟨#[]⟩]) 3 48 underlying98 p q r m rfl (by decide) v ds.length (I1 ds) (AO (P:=fun _=>False) y (Ac.of_below b) (fun _ _ h=>h)) (I ⟨W.heap.size,0,Z⟩) 1 1 (Gc d) rfl i (fun u hu=>by
   simp only[Gc,List.mem_cons,List.not_mem_nil,or_false]at hu;rcases hu with rfl | rfl | rfl<;>rfl) (by unfold maxLen;omega) (by omega) (Qu z b.size)
 have j:AZ W2 D v' (ds++ [d]):=by
  unfold AZ;rw[List.length_append,show I1 (ds++ [d])=I1 ds++Gc d by simp[I1]];simpa using n
 refine⟨v',W2,s,j,(Ac.of_below b).trans (Ac.grown t) (fun _ h _=>h),?_⟩;rcases c with c | c
 ·exact Qi c
 ·exact Qk ⟨_,c,b.size,(AF n c).2.1⟩
theorem Pw (K:AJ a B EM A0) (HL:∀X,EM X->Bg X a) {W:V} {g:Nat} {vs:Qc} {o:Nat->Prop} {vi vf:Qc} {k:Lk} (hE:EM W) (h:An W g vs o k.st.head vi vf k) (hi:Ax k) (hB:B<=g/\∀j,o j->B<=j) (b:Int) {vz:Qc} {zs:List Int} (hz:A3 W vz zs) (bo:zs.length<=1000) :
  Qe Qa 27 #[H (I ⟨g,0,Z⟩),O U b,vz] W (AX W g vs o k (Fx k b zs) (Gf k b zs)):=by
 obtain⟨C,rfl⟩:=h.ptr K;have ad:S (∀X,BL W X->EM X):=fun X l=>K.below _ _ hE (l.mono (K.size _ hE));have HQ:S (∀X,BL W X->An X g (H (I C)) o k.st.head vi vf k):=fun X l=>h.quiet K l;have HG:S (B3 k.st):=hi.good;have a2:S (∀X,BL W X->Qe Qa 61 #[vz] X fun e w'=>((((A4 zs).length<=40/\∀z∈zs,Ao z=Qd)/\e=Qb (Qf #[Qh (Ab (DK (A4 zs))),Qj]))\/(¬((A4 zs).length<=40/\∀z∈zs,Ao z=Qd)/\∃s t u,e=Qb (Qf #[Qh s,Qn t u])))/\BL X w'):=fun X l=>by
  have y:DM X a:=(HL X (ad.out X l)).f.data.weak;by_cases ae:40<(A4 zs).length
  ·exact(fI vz zs X a y (hz.below l) bo ae).mono fun e w' ⟨p,h2⟩=>⟨Qk ⟨fun h=>absurd h.1 (by omega),_,_,_,p⟩,h2⟩
  ·obtain⟨m,hm,p,h2⟩:=UP zs;refine(fJ vz zs X a y (hz.below l) bo (by omega) m hm p h2).mono fun e w' ac=>?_;rcases ac with⟨he,h3,h4⟩|⟨b1,fb,h3,-,-,h4⟩
   ·refine⟨Qi ⟨⟨by omega,fun z hz=>?_⟩,h3⟩,h4⟩;obtain⟨i,hi,rfl⟩:=List.mem_iff_getElem.1 hz;exact p i hi (by omega)
   ·exact⟨Qk ⟨fun h=>(by have p:=h2 b1;rw[h.2 _ (List.getElem_mem _)]at p;cases p),_,_,_,h3⟩,h4⟩
 have a3:S ((A4 zs).length<=40->(∀z∈zs,Ao z=Qd)->∀X,BL W X->Qe Qa 62 #[Qh (Ab (DK (A4 zs)))] X fun e w'=> ∃v,e=Qb (Qf #[v,Qj])/\A3 w' v (A4 zs)/\BL X w'):=fun p h2 X l=>by
  obtain⟨g1,g2⟩:=MV h2 p;refine(NP (Ab (DK (A4 zs))) X a (HL X (ad.out X l)).f.data.weak (by unfold maxLen;omega)).mono fun e w' P=>?_;unfold SJ at P;rw[BQ,g2]at P;obtain⟨r,⟨-,v,E,e2,-⟩|⟨e0,-⟩|⟨e0,-⟩⟩:=P
  ·exact⟨v,E,e2,r⟩
  ·exact absurd rfl e0
  ·exact absurd rfl e0
 have a4:S (∀X D vd vr ds,BL W X->W.heap.size<=D->AZ X D vd ds->BS X vr []->(∀j,vr.ownBlock=I j->¬o j)->ds.length<=100->(∀d∈ds,Bp d.1/\d.1.size<=100/\d.2.1.size<=1000/\d.2.2.size<=100000)->Qe Qa 60 #[H (I ⟨g,0,Z⟩),.agg #[vd,vr],O U b] X (Du a X g (H (I C)) o vi k ds [] b)):=fun X D vd vr ds l hD y hr hro hl hds=>Pn K HL (ad.out X l) (HQ.out X l) hi hB y hr (fun j hj e=>by have:=Jb y hj;have:=(h.sizes K).2 j e;omega) hro hl (by simp) hds b;obtain⟨qz,cz,bz⟩:=hz.form;subst bz;have a5:S (∀X,BL W X->X.cell? ⟨1,0,Z⟩=I (Qn 410 (H (I (a 1))))):=fun X l=>(HL X (ad.out X l)).m.bound;obtain⟨c0,-,-,-,-,-,-,-,c8,-⟩:=h.blk.cells;have a6:=I2 c0;have a7:=Vz b W;have ag:=Pv (n:=b) c8;clear hE h hi hB hz
 go_enter func27,ntmps27
 go_wp2_with fail
 refine a6.mono ?_;rintro e w1 ⟨rfl,E⟩;rw[E];clear a6 E
 go_wp2_with fail
 refine a7.mono ?_;rintro e w1 ⟨rfl,E⟩;rw[E];clear a7 E
 cases l:Dw b with
 | false =>
  have bp:S (Dw b=Qg):=l;have Q:S (∀X,BL W X->AX W g (H (I C)) o k (Fx k b zs) (Gf k b zs) (Qb (Qf #[O U 0,Qn 410 (H (I (a 1)))])) X):=fun X hX=>AX.bad (HQ.out W (Ql _ _)) HG.out K hX (fun h=>by have p:=h.1;rw[bp.out]at p;cases p);have b3:=a5.out W (Ql _ _);clear ag c0 c8;go_wp2
  go_quiet (fail)
  go_wp2;go_ret2;exact Q.out _ (AH (Ql _ _) nq)
 | true =>
 have a8:S (Dw b=Qd):=l;have a9:=a2.out W (Ql _ _);clear l
 go_wp2_with fail
 refine a9.mono ?_;rintro e w2 ⟨ac,r⟩;clear a9;rcases ac with⟨⟨ae,bm⟩,rfl⟩|⟨bn,s,t,u,rfl⟩
 case inr =>
  have bq:S (¬((A4 zs).length<=40/\∀z∈zs,Ao z=Qd)):=bn;clear bn;have Q:S (AX W g (H (I C)) o k (Fx k b zs) (Gf k b zs) (Qb (Qf #[O U 0,Qn t u])) w2):=AX.bad (HQ.out W (Ql _ _)) HG.out K r (fun h=>bq.out ⟨h.2.1,h.2.2.1⟩);clear ag c0 c8;go_wp2;go_ret2;exact Q.out
 case inl =>
 have T:S ((A4 zs).length<=40/\∀z∈zs,Ao z=Qd):=⟨ae,bm⟩;have ah:=Pv (n:=b) (Aa r c8);clear ae bm ag c8
 go_wp2_with fail
 refine ah.mono ?_;rintro e w3 ⟨rfl,E⟩;rw[E];clear ah E;by_cases br:b<=k.now.2.2.2.2.1
 case pos =>
  have Q:S (AX W g (H (I C)) o k (Fx k b zs) (Gf k b zs) (Qb (Qf #[O U 0,Qj])) w2):=AX.same (HQ.out W (Ql _ _)) K r ⟨a8.out,T.out.1,T.out.2,Qi ⟨br,rfl,rfl⟩⟩;clear c0;go_wp2;go_ret2;exact Q.out
 case neg =>
 have ba:S (k.now.2.2.2.2.1<b):=by show _<_;omega
 have ai:=a3.out T.out.1 T.out.2 w2 r;have bb:=MV T.out.2 T.out.1;have aj:S (∀d∈DV zs,Bp d.1/\d.1.size<=100/\d.2.1.size<=1000/\d.2.2.size<=100000):=fun d y=>by
  unfold DV at y;split at y
  ·cases y
  ·rw[List.mem_singleton]at y;subst y;exact⟨show (47:UInt8)∈(⟨#[103,111,110,101,47]⟩:ByteArray).data.toList by decide,show (⟨#[103,111,110,101,47]⟩:ByteArray).size<=100 by decide,show (⟨#[45]⟩:ByteArray).size<=1000 by decide,bb.1⟩
 have aa:S (DV zs=if A4 zs= [] then [] else [(⟨#[103,111,110,101,47]⟩,⟨#[45]⟩,Ab (DK (A4 zs)))]):=rfl;have bs:S (g<W.heap.size):=(HQ.out W (Ql _ _)).blk.lt;have ak:S (∀X Y e,Du a X g (H (I C)) o vi k (DV zs) [] b e Y->BL W X->∃ev,e=Qb ev/\(((∃t u,ev=Qn t u)/\AX W g (H (I C)) o k (Fx k b zs) (Gf k b zs) (Qb (Qf #[O U 0,ev])) Y)\/(ev=Qj/\AX W g (H (I C)) o k (Fx k b zs) (Gf k b zs) (Qb (Qf #[O U (A4 zs).length,Qj])) Y))):=fun X Y e P hX=>by
  obtain⟨n,ax,ay,az,k',rfl,p,h2,⟨-,ho⟩,h3,h4⟩:=P;have bc:Ft W g k ay az k':=ho.low hX bs.out;have bd:Ac (fun j=>o j\/j=g) W Y:=(Ac.of_below hX).trans p (fun _ h _=>h);have be:∀j,ax j->o j\/W.heap.size<=j:=fun j hj=>(h2 j hj).imp_right (Qu hX.size);rcases h4 with⟨hn,b2,s',hg,rfl⟩|⟨rfl,a1⟩
  ·obtain⟨i,rfl⟩:∃i,n=i+1:=⟨n-1,by omega⟩;exact⟨_,rfl,Qi ⟨⟨_,_,rfl⟩,ax,ay,az,_,0,_,rfl,bd,be,⟨h3,bc⟩,Qi ⟨⟨_,_,rfl⟩,fun h=>h.2.2.2.elim (fun e=>absurd e (by have:=ba.out;omega)) b2,s',hg,rfl⟩⟩⟩
  ·exact⟨_,rfl,Qk ⟨rfl,ax,ay,az,k',_,_,rfl,bd,be,⟨h3,bc⟩,Qk ⟨rfl,a8.out,T.out.1,T.out.2,Qk ⟨ba.out,rfl,a1⟩⟩⟩⟩
 have al:S ((DV zs).length<=100):=by
  show _<=100;unfold DV;split<;>simp
 generalize DV zs=M at aj aa ak al;generalize Ab (DK (A4 zs))=TX at ai aa ⊢;clear bb a3 a2 a5 c0
 go_wp2_with fail
 refine ai.mono ?_;rintro e w4 ⟨v4,rfl,bk,bl⟩;have am:=Ad r bl;obtain⟨q4,c4,rfl⟩:=bk.form;have b4:S ((A4 zs).length<=40):=T.out.1;have bf:S (A4 zs= []↔(A4 zs).length=0):=List.length_eq_zero_iff.symm;clear ai bl bk r;have an:BL w4 (w4.alloc (A #[J Z 0 0,J Z 0 0] 100)):=Af _ _;have q:=Qp w4 (A #[J Z 0 0,J Z 0 0] 100);obtain⟨R,hR⟩:∃R,(A4 zs).length=R:=⟨_,rfl⟩;have ao:S ((A4 zs).length=R):=hR;rw[hR];clear hR
 go_upto_region 14 with fail
 generalize w4.alloc (A #[J Z 0 0,J Z 0 0] 100)=W5 at an q ⊢;have ap:=Ad am an;have aq:w4.heap.size<W5.heap.size:=lt_of_block q;have ar:S (W.heap.size<=w4.heap.size):=am.size;generalize w4.heap.size=c at q aq ar ⊢;have k0:W5.cell? ⟨c,0,Z⟩=I (J Z 0 0):=by rw[Qo _ _ _ _ _ _ q];rfl
 have k1:W5.cell? ⟨c,1,Z⟩=I (J Z 0 0):=by rw[Qo _ _ _ _ _ _ q];rfl
 have bt:W5.frozen? ⟨c,0,Z⟩=Qg:=Qz _ _ _ _ _ q;have bg:S (W5.heap[c]? =I (A #[J Z 0 0,J Z 0 0] 100 (0,0))):=q;clear an am q
 go_upto_if 41 with fail
 go_cut [] from 41 to 48 (fun wx=> ∃v,AZ wx W.heap.size v M/\wx.cell? ⟨c,0,Z⟩=I v/\wx.cell? ⟨c,1,Z⟩=I (J Z 0 0)/\BL W wx)
 case first =>
  by_cases af:R=0
  ·have hg:M= []:=by rw[aa.out,if_pos (bf.out.2 (ao.out.trans af))]
   have bu:S (AZ W5 W.heap.size (J Z 0 0) M):=by rw[hg];exact AZ.nil _ _
   have au:decide (0<R)=Qg:=decide_eq_false (by omega);rw[au];clear hg af;go_wp2;go_meet
   case rel=>exact ⟨_,bu.out,k0,k1,ap⟩
  ·have hg:M= []++ [(⟨#[103,111,110,101,47]⟩,⟨#[45]⟩,TX)]:=by rw[aa.out,if_neg (fun e=>af (ao.out.symm.trans (bf.out.1 e)))];rfl
   have au:decide (0<R)=Qd:=decide_eq_true (by omega);rw[au];obtain⟨v',N,hr,ho,a0,hv⟩:=V0 (AZ.nil W5 W.heap.size) (Nat.le_of_lt (Nat.lt_of_le_of_lt ar.out aq)) (⟨#[103,111,110,101,47]⟩,⟨#[45]⟩,TX) rfl (by simp);have ab:BL W5 N:=a0.below (Qs _) (fun j hj=>by simp[Qv]at hj);obtain⟨F,L,rfl,-⟩:=ho.at;have bh:S (AZ N W.heap.size (J F 1 L) M/\(∀j,(J F 1 L).ownBlock=I j->c≠j)):=⟨by rw[hg];exact ho,fun j hj=>by
    rcases hv with e | ⟨i,e,E,-⟩
    ·have:=e.symm.trans hj;cases this
    ·have:=e.symm.trans hj;injection this with this;omega⟩
   have bv:=Aa ab k0;have bw:=Aa ab k1;have b5:N.frozen? ⟨c,0,Z⟩=Qg:=by
    obtain⟨cs,t,b0⟩:∃cs t,W5.heap[c]? =I (A cs t (0,0)):=⟨_,_,bg.out⟩;exact Qz _ _ _ _ _ ((ab.block c aq).trans b0)
   have bx:=Ad ap ab;have bi:BL W (N.setCell ⟨c,0,Z⟩ (J F 1 L)):=bx.setCell ar.out _;have bj:AZ (N.setCell ⟨c,0,Z⟩ (J F 1 L)) W.heap.size (J F 1 L) M:=bh.out.1.but ((Ac.refl (fun j=>j=c) N).setCell (Qi rfl) _) (fun j hj e=>bh.out.2 j hj e.symm);have HR:S (AZ (N.setCell ⟨c,0,Z⟩ (J F 1 L)) W.heap.size (J F 1 L) M/\BL W (N.setCell ⟨c,0,Z⟩ (J F 1 L))):=⟨bj,bi⟩;have HK:S ((N.setCell ⟨c,0,Z⟩ (J F 1 L)).cell? ⟨c,1,Z⟩=I (J Z 0 0)/\(N.setCell ⟨c,0,Z⟩ (J F 1 L)).cell? ⟨c,0,Z⟩=I (J F 1 L)):=⟨by rw[World.cell?_setCell_other _ _ _ _ (by simp)];exact bw,World.cell?_setCell_same _ _ _ bv⟩;simp only[List.nil_append,List.length_cons,List.length_nil,Nat.zero_add]at hr;clear hg af ho a0 hv ab bi bj
   go_wp2_with (at_builtin;refine wpList_append_run (by rfl) _ _ _ (by rfl) _ _ _ (by rfl) (by rfl) hr ?_)
   go_meet
   case rel=>exact ⟨_,HR.out.1,HK.out.2,HK.out.1,HR.out.2⟩
 case rest =>
 obtain⟨v,ho,k0,k1,hB⟩:=hcut;obtain⟨qv,cv,rfl,-⟩:=ho.at;have av:=a4.out wc W.heap.size (J qv M.length cv) (J Z 0 0) M hB (Qs _) ho (Qi ⟨rfl,rfl⟩) (fun j hj=>by simp[Qv]at hj) al.out aj.out;have aw:S (∀Y e,Du a wc g (H (I C)) o vi k M [] b e Y->_):=fun Y e P=>ak.out wc Y e P hB;generalize M.length=GL at av k0 ⊢;clear ho ap bt a4 ak aj aa al bg
 go_wp2_with fail
 refine av.mono ?_;rintro e w7 P;obtain⟨ev,rfl,ac⟩:=aw.out w7 e P;clear av P aw k0 k1;rcases ac with⟨⟨t,u,rfl⟩,hP⟩|⟨rfl,hP⟩
 ·have Q:S (AX W g (H (I C)) o k (Fx k b zs) (Gf k b zs) (Qb (Qf #[O U 0,Qn t u])) w7):=hP;clear hP;go_wp2;go_ret2;exact Q.out
 ·rw[ao.out]at hP;have Q:S (AX W g (H (I C)) o k (Fx k b zs) (Gf k b zs) (Qb (Qf #[O U R,Qj])) w7):=hP;clear hP;go_wp2;go_ret2;exact Q.out
end
end Go.Proofs.YtcllhobffhkafaaGreatDoor
namespace Go.Proofs
open Go.Shelf
def Tryz.delZ_ren:Go.Shelf.Ren:=⟨fun | 10=>148 | 6=>235 | n=>n,fun | 22=>32 | 23=>3 | 25=>94 | 3=>3 | 4=>4 | 0=>0 | n=>n,fun | n=>n⟩
theorem Tryz.delZ:Go.Proofs.SlLaysH.n10 Qa delZ_ren:= { laysNm225 with
 mixed:=by kernel_rfl
 f6:=⟨Tryz.f235.name,by decide,Tryz.lq func235 (by kernel_rfl)⟩
 f10:=⟨Tryz.f148.name,by decide,Tryz.lq func148 (by kernel_rfl)⟩
 a23:=isAgg3
 z23:=sizeOf3
 t25:=underlying94
 a25:=isAgg94
 z25:=sizeOf94
 v25:=zeroValue94 }
end Go.Proofs
namespace Go.Proofs.YtcllhobffhkafaaGreatDoor
open Go.RowKit Go.Extern.Stop Go.Stop Go.Extern Go.Sort Go.Shelf Go.Lib
theorem tD (v:Qc) (zs:List Int) (x:Int) (w:V) (h:A3 w v zs) (g:zs.length<=1000) :
  Qe Qa 46 #[v,O U x] w fun e w'=>e=Qb (Qm (zs.contains x))/\w'=w:=by
 rcases h with⟨p,c,rfl,rfl⟩|⟨b,o,d,rfl,f⟩
 ·exact(slices_Contains_int_empty p c x w).mono fun e w' ⟨he,hw⟩=>⟨he,hw⟩
 ·refine(slices_Contains_int b o zs.length d zs x w (Qs _) (by omega) (fun j hj=>by rw[R3 hj];exact f j hj)).mono fun e w' ⟨he,hw⟩=>⟨?_,hw⟩;rw[List.take_length]at he;exact he
def GY (now:Int) (ys:List Int) (z:Int):Bool:=(z != now) && !ys.contains z
theorem tE {zs ys:List Int} (h:(AD zs).1=0):(zs.filter fun z=> !GY (zs.getLastD 0) ys z)=BW zs ys:=by
 obtain⟨b,-,-,i⟩:=DO.1 h;have d:=List.dropLast_concat_getLast b;have j:zs.getLastD 0=zs.getLast b:=by rw[List.getLastD_eq_getLast?,Q0 b,Option.getD_some]
 rw[j];unfold BW;rw[Q0 b];generalize zs.getLast b=c at d ⊢;generalize zs.dropLast=l at d ⊢;rw[<-d]at i ⊢;have g:∀z∈l,z<c:=fun z f=>(List.pairwise_append.1 i).2.2 z f c (by simp);rw[List.filter_append];congr 1
 ·apply List.filter_congr;intro z f;have:=g z f;have k:(z != c)=Qd:=by simp;omega
  simp[GY,k]
 ·simp[GY]
theorem V1 (z b:Int) (g i:Nat) (u:Qc) (ys:List Int) (W:V) (p:W.cell? ⟨g,0,Z⟩=I (O U b)) (r:W.cell? ⟨i,0,Z⟩=I u) (k:A3 W u ys) (l:ys.length<=1000) :
  FnGives Qa 149 #[H (I ⟨g,0,Z⟩),H (I ⟨i,0,Z⟩)] #[O U z] (Qm (GY b ys z)) W:=by
 show Qe Qa 149 #[O U z,H (I ⟨g,0,Z⟩),H (I ⟨i,0,Z⟩)] W _;have d:=tD u ys z W k l;obtain⟨q,m,rfl⟩:=k.shape;by_cases c:z=b
 ·have f:GY b ys z=Qg:=by simp[GY,c]
  have j:(z != b)=Qg:=by simp[c]
  rw[f]
  go_enter Qw,ntmps149
  go_wp2;go_ret;exact⟨rfl,0,rfl⟩
 ·have f:GY b ys z= !ys.contains z:=by simp[GY,c]
  have j:(z != b)=Qd:=by simp[c]
  rw[f];generalize ys.contains z=o at d ⊢
  go_enter Qw,ntmps149
  go_wp2_with fail
  refine d.mono ?_;rintro e n ⟨rfl,rfl⟩;go_wp2;go_ret;exact⟨rfl,0,rfl⟩
theorem Px {w:V} {b c n:Nat} {g:Array Int} {os:Array Obj} {B k:Nat} {v:Qc} (d:w.cell? ⟨B,k,Z⟩=I v) (f:B≠b):(sortWorld (O U) w b c n g os).cell? ⟨B,k,Z⟩=I v:=by
 unfold sortWorld;rw[cell?_grow _ _ _ (by show B<(putRow _ _ _ _ _).heap.size;rw[size_putRow];exact BD d),cell?_putRow_other _ _ b c _ _ (Qi f)];exact d
theorem tF (v u:Qc) (zs ys:List Int) (w:V) (a:Nat->Qq) (h:FV w a) (hz:C4 w v zs) (hy:A3 w u ys) (hl:zs.length<=100) (ax:ys.length<=100) :
  Qe Qa 75 #[v,u] w fun e w'=>Kd w a (JO zs ys) (AD zs) e w':=by
 have m:BL w (w.alloc (A #[u] 32)):=Af _ _;have ab:(w.alloc (A #[u] 32)).cell? ⟨w.heap.size,0,Z⟩=I u:=by
  rw[Qo _ _ _ _ _ _ (Qp _ _)];rfl
 have p:=KH v zs (w.alloc (A #[u] 32)) a (h.below m) (hz.below m) (by omega);obtain⟨qy,cy,rfl⟩:=hy.shape;by_cases i:(AD zs).1=0
 case neg =>
  have HI:S (JO zs ys= []):=by show _=_;unfold JO;rw[if_neg i]
  obtain⟨q,aw,rfl⟩:=hz.1.shape
  go_enter func75,ntmps75
  go_wp2_with fail
  refine p.mono ?_;rintro e w1 ⟨ev,rfl,ht,B⟩;obtain⟨t,u,rfl⟩:=ht.bad i;have al:S _:=ht;go_wp2;go_ret2;exact MS HI.out al.out (Ad m B)
 case pos =>
 have aa:=K7 i;have ac:S ((zs.filter fun z=> !GY (zs.getLastD 0) ys z)=BW zs ys):=tE i;have am:JO zs ys=BW zs ys:=by unfold JO;rw[if_pos i]
 have an:=(DO.1 i).1;rw[aa]at p ⊢;rw[am];have ad:S _:=fun W (hb:BL w W)=>hz.1.below hb;have D:S (A3 w (J qy ys.length cy) ys):=hy;have ai:=List.length_pos_iff.2 an;obtain⟨q,aw,rfl⟩:=hz.1.shape;have E:=fun W (hb:BL w W)=>Oq _ zs W (ad.out W hb) (by omega);have ae:=fun W (hb:BL w W)=>R4 _ zs W (ad.out W hb) (by omega);have eg:∀args w,(callFunc 149 args).run Qa w= .ok (.enter 149 args) w:=enters_of Qw (by kernel_rfl) rfl;generalize az:zs.getLastD 0=f at E ac;obtain⟨M,hM⟩:∃M,ys.length=M:=⟨_,rfl⟩;have HM:S (ys.length=M):=hM;rw[hM]at m p ab D ax ⊢;obtain⟨L,hL⟩:∃L,zs.length=L:=⟨_,rfl⟩;have HL:S _:=hL;rw[hL]at p E ae hl ai ⊢
 go_enter func75,ntmps75
 go_wp2_with fail
 refine p.mono ?_;rintro e w1 ⟨ev,rfl,ht,B⟩;obtain rfl:ev=Qj:=ht;have af:=Ad m B;have F:=Aa B ab;have ao:=BD F;have aj:=E w1 af
 go_wp2_with fail
 refine aj.mono ?_;rintro e C ⟨rfl,rfl⟩;have K:BL C (C.alloc (A #[O U f] 3)):=Af _ _;have s:(C.alloc (A #[O U f] 3)).cell? ⟨C.heap.size,0,Z⟩=I (O U f):=by
  rw[Qo _ _ _ _ _ _ (Qp _ _)];rfl
 have N:=Aa K F;have P:=Ad af K;have Q:=ae _ P
 go_upto_region 5 with fail
 generalize C.alloc (A #[O U f] 3)=W3 at s N P Q ⊢;generalize C.heap.size=nb at s ao ⊢
 go_wp2_with fail
 refine Q.mono ?_;rintro e w4 ⟨v4,rfl,ah,X⟩;have y:=Ad P X;have R:=Aa X s;have T:=Aa X N;have ap:v4≠ J Z 0 0:=fun e=>by
  rcases ah.2 with⟨_,h0⟩|⟨g,d,a3,e',_⟩
  ·omega
  ·rw[e]at e';cases e'
 obtain⟨g,d,rfl,a1,a2,hn,hm,ak,hH⟩:=holds_of_ownsRow ah ap;have aq:=BD s;have ay:nb<W3.heap.size:=aq;have ar:∀(n:Nat) (os:Array Obj) (dk:Array Int),A3 (sortWorld (O U) w4 g 0 n dk os) (J qy M cy) ys:=fun n os dk=>by
  rcases D.out with h' | ⟨b,o,c,e,hc⟩
  ·exact Qi h'
  ·refine Qk ⟨b,o,c,e,fun j hj=>Px (Aa (y.mono (Qs _)) (hc j hj)) ?_⟩;have:=BD (hc j hj);show b≠g;have:b<w.heap.size:=this;omega
 have r:=AnyE.slices_DeleteFunc delZ (O U) (fun _=>rfl) (GY f ys) 149 #[H (I ⟨nb,0,Z⟩),H (I ⟨w.heap.size,0,Z⟩)] eg 0 zeroValue3 g 0 d zs.toArray w4
  (fun W x hb=>V1 x f nb w.heap.size (J qy M cy) ys W (Aa hb R) (Aa hb T) ((D.out.below y).below hb) (by rw[HM.out];omega))
  (fun n os dk x _=>V1 x f nb w.heap.size (J qy M cy) ys _ (Px R (by omega)) (Px T (by omega)) (ar n os dk) (by rw[HM.out];omega))
  hH (by simp;omega) (by simp;omega)
 change Qe Qa 148 _ _ _ at r;simp only[List.size_toArray,ak,ac.out]at r;have a0:(BW zs ys).length<=L:=by rw[<-HL.out];exact(K9 zs ys).length_le
 have HH:S _:=hH
 go_wp2_with fail
 refine r.mono ?_;rintro e w5 ⟨rfl,qq,Y⟩;have ag:S (C4 w5 (J (I ⟨g,0,Z⟩) (BW zs ys).length d) (BW zs ys)/\Iy w (J (I ⟨g,0,Z⟩) (BW zs ys).length d)):=by
  refine⟨⟨Qk ⟨g,0,d,rfl,fun j hj=>?_⟩,fun q l c e=>by injection e with _ e1 e2;omega⟩,fun k hk=>by simp[Qv]at hk;omega⟩;rw[Y];have hd:(BW zs ys++Q1 (L-(BW zs ys).length) 0).toArray.size=zs.toArray.size:=by
   simp[HL.out];omega
  have au:=holds_putRow (O U) (Sort.ahead w4 qq) g 0 zs.toArray (BW zs ys++Q1 (L-(BW zs ys).length) 0).toArray HH.out hd;have:=(au j (by simp;omega)).1;rw[getElem!_pos _ j (by simp;omega)]at this;simp only[List.getElem_toArray,List.getElem_append_left hj]at this;exact this
 have av:BL w w5:=by rw[Y];exact below_putRow y (by omega)
 clear Y HH y;go_wp2;go_ret2;exact⟨_,Qj,rfl,ag.out.1,ag.out.2,rfl,av⟩
section
variable {a : Nat → Qq} {B : Nat} {EM : V → Prop}
theorem MW {W:V} {c:Nat} {d:Qc} {i:Nat->Prop} {j:ByteArray} {l vf:Qc} {k:Lk} (K:AJ a B EM A0) (h:An W c d i j l vf k) :
  Qe Qa 21 #[H (I ⟨c,0,Z⟩)] W fun e w'=>e=Qb d/\w'=W:=by
 obtain⟨m,rfl⟩:=h.ptr K;obtain⟨f,-⟩:=h.blk.cells;have b:=I2 f
 go_enter func21,ntmps21
 go_wp2_with fail
 refine b.mono ?_;rintro e n ⟨rfl,g⟩;rw[g];go_wp2;go_ret;exact⟨rfl,rfl⟩
theorem tG {W X Y:V} {R:List Rw×Nat×Option Nat} {e:Ending} (c:BL W X) (h:KW a X R e Y/\JV X e):KW a W R e Y/\JV W e:=by
 obtain⟨⟨d,b,f,g,i,j⟩,k⟩:=h;exact⟨⟨d,b,f,g,i,(Ad c j)⟩,fun v b e=>(k v b e).up c.size⟩
theorem V2 (K:AJ a B EM A0) (b:∀X,EM X->Bg X a) {W:V} {d:Qc} {i:Nat->Prop} {s:St} (j:EM W) (k:A0 W d i s) (m:AR s) {x:Sn} (n:(Am x).1=0) {q:Option Qq} {c:Nat} (lo hi:Int):∀X,BL W X->Ai X (J q x.2.2.2.2.2.2.length c) x.2.2.2.2.2.2->Qe Qa 40 #[d,.agg #[O U x.1,O U x.2.1,O U x.2.2.1,O U x.2.2.2.1,O U x.2.2.2.2.1,Qh x.2.2.2.2.2.1,J q x.2.2.2.2.2.2.length c],O U lo,O U hi] X fun e w'=> ∃v' ev,e=Qb (Qf #[v',ev])/\KW a W (Bo s.obs x lo hi) (Qb (Qf #[v',ev])) w'/\JV W (Qb (Qf #[v',ev])):=fun X hb hf=>by
 obtain⟨o,g⟩:=Ju n;refine(pS K (fun Y hY=>⟨(b Y hY).f,(b Y hY).x.hand,(b Y hY).x.list⟩) X d i s x (J q x.2.2.2.2.2.2.length c) lo hi (K.below _ _ j (hb.mono (K.size _ j))) (K.keep _ _ _ _ (fun _=>False) _ k (Ac.of_below hb) (fun _ _ h=>h)) m hf (by omega) g).mono fun e w' hp=>?_;have l:=tG hb hp;obtain⟨⟨v',ev,rfl,-⟩,-⟩:=hp;exact⟨v',ev,rfl,l⟩
theorem V3 (K:AJ a B EM A0) (o:∀X,EM X->Bg X a) {W:V} {j:Nat} {p:Qc} {r:Nat->Prop} {s:ByteArray} {t vf:Qc} {k:Lk} (u:EM W) (h:An W j p r s t vf k) (hi:Ax k) (lo b:Int) :
  Qe Qa 12 #[H (I ⟨j,0,Z⟩),O U lo,O U b] W fun e w'=>KW a W (Bo k.st.obs k.now lo b) e w'/\JV W e:=by
 obtain⟨y,rfl⟩:=h.ptr K;obtain⟨q,c,rfl⟩:=h.fls.form;have d:=V2 K o u h.st hi.good.keeps hi.now.fine (q:=q) (c:=c) lo b;have f:S (∀X,BL W X->_):=fun X hb=>d X hb (h.fls.below hb);obtain⟨l,-,-,-,z,C,D,E,F,L,v,-⟩:=h.blk.cells;have g:=I2 l;have i:BL W W.drew:=(Ql _ _).drew
 go_enter func12,ntmps12
 go_wp2_with fail
 refine g.mono ?_;rintro e M ⟨rfl,m⟩;rw[m]
 go_upto_region 3 with fail
 go_region_with ((go_at_call 40;(with_reducible refine(f.out _ i).mono ?_);rintro e N ⟨P,Q,rfl,n⟩))
 all_goals
  go_wp2;go_ret2;exact n
end
theorem V4 {s:St} :∀ids:List Int,(∀id∈ids,∃x,D6 s id x)->∃ss:List Sn,ss.length=ids.length/\∀i (h1:i<ss.length) (h2:i<ids.length),D6 s ids[i] ss[i]
 | [],_=>⟨[],rfl,fun i h1=>by simp at h1⟩
 | z :: zs,h=>by
  obtain⟨x,b⟩:=h z List.mem_cons_self;obtain⟨ss,h1,h2⟩:=V4 zs fun id hi=>h id (List.mem_cons_of_mem _ hi);refine⟨x :: ss,by simp[h1],fun i h3 h4=>?_⟩
  cases i with
  | zero=>exact b
  | succ i=>exact h2 i (by simpa using h3) (by simpa using h4)
theorem Py {zs:List Int} (h:(AD zs).1=0):zs.length<=40/\∀z∈zs,1<=z/\z<=1073741824:=by
 obtain⟨-,b,c,-⟩:=DO.1 h;exact⟨b,fun z hz=>by simpa [CI] using c z hz⟩
section
variable {a : Nat → Qq} {B : Nat} {EM : V → Prop}
theorem V5 (K:AJ a B EM A0) (f:∀X,EM X->Bg X a) {W:V} {b:Nat} {g:Qc} {j:Nat->Prop} {l:ByteArray} {m vf:Qc} {k:Lk} (c:EM W) (h:An W b g j l m vf k) (hi:Ax k):∃ss:List Sn,ss.length=k.ids.length/\(∀i (h1:i<ss.length) (h2:i<k.ids.length),D6 k.st k.ids[i] ss[i]) /\
  ∀X,BL W X->Qe Qa 41 #[H (I ⟨b,0,Z⟩)] X fun e w'=> ∃v',e=Qb (Qf #[v',Qj])/\D5 w' X.heap.size v' ss/\BL X w':=by
 obtain⟨ss,h1,h2⟩:=V4 k.ids hi.snaps;obtain⟨n,d⟩:=Py hi.ids;refine⟨ss,h1,h2,fun X hb=>qR K f (K.below _ _ c (hb.mono (K.size _ c))) (h.quiet K hb) hi.good.keeps ss h1 (fun i h3 h4=>⟨(h2 i h3 h4).has,(h2 i h3 h4).fine⟩) (fun z hz=>?_) (by omega)⟩;have:=d z hz;omega
end
theorem ze2 (x y:Int) (w:V):(Q2 #[3,3] 3 #[O U x,O U y]).run Qa w= .ok (O U (max x y)) w:=by
 have e:max x y=if y > x then y else x:=by split<;>omega
 rw[e];simp[Q2,Q6]
theorem ze3 (x y:Int) (w:V):(Q3 #[3,3] 3 #[O U x,O U y]).run Qa w= .ok (O U (min x y)) w:=by
 have e:min x y=if y<x then y else x:=by split<;>omega
 rw[e];simp[Q3,Q7]
theorem tH (i d b:Int) (c:Nat) (W:V) (f:W.cell? ⟨c,0,Z⟩=I (O U b)) :
  Qe Qa 236 #[O U i,O U d,H (I ⟨c,0,Z⟩)] W fun e W'=>e=Qb (Qm (i == b))/\W'=W:=by
 go_enter func236,ntmps236
 go_wp2;go_ret;exact⟨rfl,rfl⟩
theorem tI (i d b first least:Int) (m c f:Nat) (W:V) (p:W.cell? ⟨m,0,Z⟩=I (O U b)) (n:W.cell? ⟨c,0,Z⟩=I (O U least)) (o:W.cell? ⟨f,0,Z⟩=I (O U first)) :
  Qe Qa 237 #[O U i,O U d,H (I ⟨m,0,Z⟩),H (I ⟨f,0,Z⟩),H (I ⟨c,0,Z⟩)] W fun e W'=>e=Qb (Qm ((i == b) || (decide (first<=i) || decide (least<=d))))/\W'=W:=by
 by_cases j:i=b
 ·have g:(i == b)=Qd:=by simp[j]
  rw[g]
  go_enter Qr,Qt
  go_wp2;go_ret;exact⟨rfl,rfl⟩
 ·have g:(i == b)=Qg:=by simp[j]
  rw[g];by_cases k:first<=i
  ·rw[decide_eq_true k]
   go_enter Qr,Qt
   go_wp2;go_ret;exact⟨rfl,rfl⟩
  ·rw[decide_eq_false k];by_cases l:least<=d
   ·rw[decide_eq_true l]
    go_enter Qr,Qt
    go_wp2;go_ret;exact⟨rfl,rfl⟩
   ·rw[decide_eq_false l]
    go_enter Qr,Qt
    go_wp2;go_ret;exact⟨rfl,rfl⟩
theorem tJ (n:Nat) (day age count:Int) (w:V) (k:n<=900) (h:Ao day=Qg\/Ao age=Qg) :
  Qe Qa 150 #[O U n,O U day,O U age,O U count] w fun e w'=>e=Qb (.func (.func 236) #[] #[H (I ⟨w.heap.size,0,Z⟩)])/\w'=w.alloc (A #[O U ((n:Int)-1)] 3):=by
 have b:=GF day;have d:=GF age;by_cases c:Ao day=Qg
 ·rw[c]at b
  go_enter Qx,Qy
  go_wp2_with fail
  refine(b _).mono ?_;rintro e g ⟨rfl,rfl⟩;go_wp2;go_ret;exact⟨rfl,rfl⟩
 ·have i:=h.resolve_left c;rw[i]at d;have f:Ao day=Qd:=by
   cases j:Ao day
   ·exact absurd j c
   ·rfl
  rw[f]at b
  go_enter Qx,Qy
  go_wp2_with fail
  refine(b _).mono ?_;rintro e g ⟨rfl,rfl⟩
  go_wp2_with fail
  refine(d _).mono ?_;rintro e g ⟨rfl,rfl⟩;go_wp2;go_ret;exact⟨rfl,rfl⟩
def Jy (n:Nat) (count:Int):Int:=(n:Int)-min (max count 0) (n:Int)
theorem tK (n:Nat) (day age count:Int) (w:V) (p:n<=900) (d:Ao day=Qd) (f:Ao age=Qd) :
  Qe Qa 150 #[O U n,O U day,O U age,O U count] w fun e w'=>e=Qb (.func (.func 237) #[] #[H (I ⟨w.heap.size,0,Z⟩),H (I ⟨w.heap.size+1+1,0,Z⟩),H (I ⟨w.heap.size+1,0,Z⟩)])/\w'=((w.alloc (A #[O U ((n:Int)-1)] 3)).alloc (A #[O U (day-age)] 3)).alloc (A #[O U (Jy n count)] 3):=by
 have b:=GF day;have c:=GF age;have g: -1073741824<=day/\day<=1073741824:=by simp[Ao]at d;omega
 have i: -1073741824<=age/\age<=1073741824:=by simp[Ao]at f;omega
 obtain⟨k,l⟩:=g;obtain⟨m,o⟩:=i;rw[d]at b;rw[f]at c;unfold Jy
 go_enter Qx,Qy
 go_wp2_with fail
 refine(b _).mono ?_;rintro e j ⟨rfl,rfl⟩
 go_wp2_with fail
 refine(c _).mono ?_;rintro e j ⟨rfl,rfl⟩;go_wp2;go_ret;exact⟨rfl,rfl⟩
def tL (g:Nat) (lb:Array Qc) (day age count:Int) (ss:List Sn) (w:V):Prop:= ∀n (h:n<ss.length) W,BL w W->Qe Qa g (#[O U (n:Int),O U ss[n].2.2.2.1]++lb) W fun e W'=>e=Qb (Qm (Fo day age count (ss.length-1-n) ss[n]))/\W'=W
theorem tM (b:List Sn) (day age count:Int) (w:V) (s:b.length<=900) :
  Qe Qa 150 #[O U b.length,O U day,O U age,O U count] w fun e w'=> ∃g lb,e=Qb (.func (.func g) #[] lb)/\(∀args w,(callFunc g args).run Qa w= .ok (.enter g args) w)/\tL g lb day age count b w'/\BL w w':=by
 by_cases h:Ao day=Qd/\Ao age=Qd
 ·refine(tK b.length day age count w s h.1 h.2).mono ?_;rintro e w' ⟨rfl,rfl⟩;have c:BL w (w.alloc (A #[O U ((b.length:Int)-1)] 3)):=Af _ _;have f:BL w ((w.alloc (A #[O U ((b.length:Int)-1)] 3)).alloc (A #[O U (day-age)] 3)):=c.alloc c.size _;have m:BL w (((w.alloc (A #[O U ((b.length:Int)-1)] 3)).alloc (A #[O U (day-age)] 3)).alloc (A #[O U (Jy b.length count)] 3)):=f.alloc f.size _;refine⟨_,_,rfl,enters_of Qr (by kernel_rfl) rfl,fun n hn W hW=>?_,m⟩;have t:(w.alloc (A #[O U ((b.length:Int)-1)] 3)).cell? ⟨w.heap.size,0,Z⟩=I (O U ((b.length:Int)-1)):=by rw[Qo _ _ _ _ _ _ (Qp _ _)];rfl
  have q:(w.alloc (A #[O U ((b.length:Int)-1)] 3)).heap.size=w.heap.size+1:=by simp
  generalize w.alloc (A #[O U ((b.length:Int)-1)] 3)=d at *;have u:(d.alloc (A #[O U (day-age)] 3)).cell? ⟨d.heap.size,0,Z⟩=I (O U (day-age)):=by rw[Qo _ _ _ _ _ _ (Qp _ _)];rfl
  have v:(d.alloc (A #[O U (day-age)] 3)).heap.size=w.heap.size+1+1:=by rw[<-q];simp
  have y:BL d (d.alloc (A #[O U (day-age)] 3)):=Af _ _;generalize d.alloc (A #[O U (day-age)] 3)=j at *;have z:(j.alloc (A #[O U (Jy b.length count)] 3)).cell? ⟨j.heap.size,0,Z⟩=I (O U (Jy b.length count)):=by rw[Qo _ _ _ _ _ _ (Qp _ _)];rfl
  have r:BL j (j.alloc (A #[O U (Jy b.length count)] 3)):=Af _ _;have o:=Aa hW (Aa r (Aa y t));have k:=Aa hW (Aa r u);have l:=Aa hW z;rw[q]at k;rw[v]at l;refine(tI n b[n].2.2.2.1 _ _ _ _ _ _ W o k l).mono ?_;rintro e w' ⟨rfl,rfl⟩;refine⟨?_,rfl⟩;congr 2;unfold Fo Mj Jy;rw[h.1,h.2];have p:((n:Int) == (b.length:Int)-1)=decide (b.length-1-n=0):=by
   rw[Q4];simp;omega
  have B:decide ((b.length:Int)-min (max count 0) (b.length:Int)<=(n:Int))=decide (((b.length-1-n:Nat):Int)<count):=by
   rw[decide_eq_decide];omega
  rw[p,B];simp
 ·have i:Ao day=Qg\/Ao age=Qg:=by
   cases C:Ao day
   ·exact Qi rfl
   ·cases D:Ao age
    ·exact Qk rfl
    ·exact absurd ⟨C,D⟩ h
  refine(tJ b.length day age count w s i).mono ?_;rintro e w' ⟨rfl,rfl⟩;have c:BL w (w.alloc (A #[O U ((b.length:Int)-1)] 3)):=Af _ _;refine⟨_,_,rfl,enters_of func236 (by kernel_rfl) rfl,fun n hn W hW=>?_,c⟩;have o:W.cell? ⟨w.heap.size,0,Z⟩=I (O U ((b.length:Int)-1)):=Aa hW (by rw[Qo _ _ _ _ _ _ (Qp _ _)];rfl);refine(tH n b[n].2.2.2.1 _ _ W o).mono ?_;rintro e w' ⟨rfl,rfl⟩;refine⟨?_,rfl⟩;congr 2;unfold Fo Mj;have p:((n:Int) == (b.length:Int)-1)=decide (b.length-1-n=0):=by
   rw[Q4];simp;omega
  rw[p];rcases i with i | i<;>rw [i]<;>simp
theorem tN (v:Qc) (c:List Sn) (day age count:Int) (w:V) (hx:FX w v c) (hl:c.length<=900) :
  Qe Qa 76 #[v,O U day,O U age,O U count] w fun e w'=> ∃v',e=Qb v'/\w'.ownsRow w.heap.size 3 1 v' (Ev day age count c).length ((Ev day age count c).map (O U))/\BL w w':=by
 have HX:S _:=fun W (r:BL w W)=>hx.below r;have u:=tM c day age count w hl;obtain⟨q,ah,rfl⟩:=hx.form;obtain⟨L,t⟩:∃L,c.length=L:=⟨_,rfl⟩;have HL:S _:=t;have y:S (DN day age count c L=Ev day age count c):=by
  show _=_;rw[<-t,Tr]
 have aa:S _:=fun n (hn:n<=L)=>Qu (Ts day age count c n) (by omega);have ab:S (∀n (h:n<c.length),DN day age count c (n+1)=DN day age count c n++(if Fo day age count (L-1-n) c[n]=Qd then [c[n].1] else [])):=fun n h=>by rw[iV h,t]
 generalize Ev day age count c=KL at y ⊢;rw[t]at HX u ⊢
 go_enter func76,ntmps76
 go_wp2_with fail
 refine u.mono ?_;rintro e Y ⟨g,lb,rfl,eg,j,D⟩;have E:S _:=j
 go_wp2_with fail
 go_loopw [10,11,12,21] (fun o _ _ i wr=> ∃n:Nat,n<=L/\i=O U n/\wr.ownsRow Y.heap.size 3 1 o (DN day age count c n).length ((DN day age count c n).map (O U))/\BL Y wr) (fun _ _ _ i _=>L-(intOf i).toNat)
 case atStart=>exact ⟨0,by omega,rfl,World.ownsRow_nil _ _ _ _,Ql _ _⟩
 case round =>
 obtain⟨n,hn,rfl,ho,r⟩:=hrel;have HO:S _:=ho;have z:=Ad D r;by_cases ac:n<L
 case neg =>
  obtain rfl:n=L:=by omega
  have HT:S (wr.ownsRow w.heap.size 3 1 u10 KL.length (KL.map (O U))):=by
   have h':=HO.out;rw[y.out]at h';exact World.ownsRow.mono h' D.size
  go_wp2;go_ret;exact⟨_,rfl,HT.out,z⟩
 case pos =>
 have f:n<c.length:=by rw[HL.out];exact ac
 obtain⟨b,o,hq,hc⟩:=(HX.out wr z).cells (fun e=>by rw[e]at f;simp at f);subst hq;obtain⟨c0,c3,vf,c6,C,c1,c2,c4,c5⟩:=hc n f;have d:=E.out n f;rw[HL.out]at d;have F:=ab.out n f;generalize c[n]=sn at c0 c1 c2 c3 c4 c5 c6 C d F;obtain⟨s,M,N,Q,R,T,fs⟩:=sn;obtain⟨fq,fc,rfl⟩:=C.form;generalize fs.length=FL at c6;obtain⟨KB,af⟩:∃x,Fo day age count (L-1-n) (s,M,N,Q,R,T,fs)=x:=⟨_,rfl⟩;rw[af]at F d;have B:S _:=F;have m:BL wr (wr.alloc (A #[O U s,O U M,O U N,O U Q,O U R,Qh T,J fq FL fc] 40)):=Af _ _;have j:=d _ (Ad r m);have p:S _:=AO (P:=fun _=>False) HO.out (Ac.of_below m) (fun _ _ h=>h);have l:=Ad r m;cases KB
 case false =>
  have K:S (DN day age count c (n+1)=DN day age count c n):=by show _=_;rw[B.out];simp
  go_wp2_with (go_at_fn g;refine j.mono ?_;rintro e w' ⟨rfl,rfl⟩)
  go_roundw
  case rel=>exact ⟨n+1,by omega,by go_num,by rw[K.out];exact p.out,l⟩
  case measure=>simp [intOf];omega
 case true =>
  have ad:S (DN day age count c (n+1)=DN day age count c n++ [s]):=by show _=_;rw[B.out];simp
  obtain⟨v',W6,hr,ag,X⟩:=lK p.out l.size s rfl (by have:=aa.out n hn;omega);rw[show (wr.alloc (A #[O U s,O U M,O U N,O U Q,O U R,Qh T,J fq FL fc] 40)).heap.size=wr.heap.size+1 from by simp]at hr;have ae:=l.trans (X.below l.size (fun k hk=>(AF p.out hk).1));have K:S (W6.ownsRow Y.heap.size 3 1 v' (DN day age count c (n+1)).length ((DN day age count c (n+1)).map (O U))):=by
   show World.ownsRow _ _ _ _ _ _ _;rw[ad.out];exact ag
  go_upto_region 7 with(go_at_fn g;refine j.mono ?_;rintro e w' ⟨rfl,rfl⟩)
  go_wp2_with (at_builtin;refine wpList_append_run (by rfl) _ _ _ (by rfl) _ _ _ (by rfl) (by rfl) hr ?_)
  go_roundw
  case rel=>exact ⟨n+1,by omega,by go_num,K.out,ae⟩
  case measure=>simp [intOf];omega
end Go.Proofs.YtcllhobffhkafaaGreatDoor
