/- By an AI agent. -/
import Derived.Test.YtcllhobffhkafaaGreatDoorRefReadData
import Derived.Test.YtcllhobffhkafaaGreatDoorStorePure
set_option maxRecDepth 100000
set_option maxHeartbeats 16000000
open Go.Proofs.Tryz
open Bool renaming true->S,false->V,and_eq_true->Q8
open Go renaming World->J,Value->A,heap_setCell_same->Qe,Addr->Qi,bodyPost_ret->Qw,results->Qx
open Go.IntKind renaming i64->I
open Go.Value renaming int->Z,string->H,tuple->Qo,iface->Qs,slice->Qu,pointer->Qy,ownBlock->Q0
open Go.World renaming cell?_setCell_other->Qc
open List renaming length_cons->Qd,pairwise_cons->Qg,mem_cons->Qh,mem_cons_of_mem->Qj,mem_append->Qk,mem_singleton->Ql,pairwise_append->Qm,mem_cons_self->Qn,mem_map->Qp,length_nil->Qq,length_append->Qt,mem_filter->Qv,length_take->Qz,any_eq_true->Q1,filterMap_cons->Q2,getElem_cons_succ->Q3,getElem_cons_zero->Q4,length_map->Q7,perm_middle->QA,filter_sublist->QC,pairwise_map->QD,filter_cons_of_pos->QE,filter_cons_of_neg->QF,range->QG,range'->QH,getElem?_cons_succ->QI,getElem?_cons_zero->QJ
open List.Pairwise renaming sublist->QB,nil->QK,imp_of_mem->QM
open Nat renaming le_refl->Qa,zero_add->Q5,reduceAdd->Q6,zero_le->Q9
open Option renaming none->O,some->U
open Option.some renaming inj->Qr,injEq->QL
open Or renaming inr->Qb,inl->Qf
namespace Go.Proofs.YtcllhobffhkafaaGreatDoor
open Go.Lib
section
open Go.Extern Go.Extern.Stop Go.RowKit Go.Shelf Go.Sort Go.Stop
theorem gW {l:List UInt8} (h:(AY l).length≠6):BV l=(B7,1):=by
 unfold BV;split
 ·rename_i e;rw[e]at h;simp at h
 ·rfl
theorem gX {l p q a b c d:List UInt8} (h:AY l= [p,q,a,b,c,d]):BV l=(match As a,As b,As c,As d with
  | some n,U lo,U hi,U seq=>DZ (Ab p,Ab q,n,lo,hi,seq)
  | _,_,_,_=>(B7,1)):=by
 unfold BV;rw[h];rfl
theorem gY {α:Type} {g:List α} (h:g.length=6):∃a b c d e f,g= [a,b,c,d,e,f]:=by
 match g,h with
 | [a,b,c,d,e,f],_=>exact ⟨a,b,c,d,e,f,rfl⟩
theorem JI {W:J} {b R o:Nat} {v c d f g i j:A} (h:b≠R) (k:W.cell? ⟨b,o,O⟩=U v):((((((W.setCell ⟨R,0,O⟩ c).setCell ⟨R,1,O⟩ d).setCell ⟨R,2,O⟩ f).setCell ⟨R,3,O⟩ g).setCell ⟨R,4,O⟩ i).setCell ⟨R,5,O⟩ j).cell? ⟨b,o,O⟩=U v:=by
 rw[Qc _ _ _ _ (by simp),Qc _ _ _ _ (by simp),Qc _ _ _ _ (by simp),Qc _ _ _ _ (by simp),Qc _ _ _ _ (by simp),Qc _ _ _ _ (by simp)];exact k
theorem gZ {W w:J} {R:Nat} {b c d f g i:A} (h:Below R w W):Below R w ((((((W.setCell ⟨R,0,O⟩ b).setCell ⟨R,1,O⟩ c).setCell ⟨R,2,O⟩ d).setCell ⟨R,3,O⟩ f).setCell ⟨R,4,O⟩ g).setCell ⟨R,5,O⟩ i) :=
 (((((h.setCell (Qa _) _).setCell (Qa _) _).setCell (Qa _) _).setCell (Qa _) _).setCell (Qa _) _).setCell (Qa _) _
theorem hO (s:ByteArray) (w:J) (a:Nat->Qi) (h:JF w a) (hs:s.size<=100000) :
  Calls prog 262 #[H s] w fun e w'=>e= .returned (Qo #[A1 (BV s.data.toList).1,Ae a (BV s.data.toList).2])/\BL w w':=by
 have aa:BL w (w.alloc (.cells #[H ⟨#[]⟩,H ⟨#[]⟩,Z I 0,Z I 0,Z I 0,Z I 0] 77)):=Af _ _;have af:Az (w.alloc (.cells #[H ⟨#[]⟩,H ⟨#[]⟩,Z I 0,Z I 0,Z I 0,Z I 0] 77)) w.heap.size B7:=Az.new w B7;have ag:=J5 s _ a (h.below aa).weak (by omega);generalize hR:BV s.data.toList=R;have HR:Hid (BV s.data.toList=R):=hR;clear hR;have ah:=J4 s.data.toList;have m:Hid (∀W,Az W w.heap.size B7->(W.cell? ⟨w.heap.size,0,O⟩=U (H ⟨#[]⟩)/\W.cell? ⟨w.heap.size,1,O⟩=U (H ⟨#[]⟩)/\W.cell? ⟨w.heap.size,2,O⟩=U (Z I 0)/\W.cell? ⟨w.heap.size,3,O⟩=U (Z I 0)/\W.cell? ⟨w.heap.size,4,O⟩=U (Z I 0)/\W.cell? ⟨w.heap.size,5,O⟩=U (Z I 0)/\∀o,W.frozen? ⟨w.heap.size,o,O⟩=V)):=fun W hW=>hW.cells
 go_enter func262,ntmps262
 go_wp2_with fail
 generalize w.alloc (.cells #[H ⟨#[]⟩,H ⟨#[]⟩,Z I 0,Z I 0,Z I 0,Z I 0] 77)=WA at aa af ag ⊢;refine ag.mono ?_;rintro e w1 ⟨v1,ts,rfl,a4,E,ap⟩;clear ag;have ab:BL w w1:=Ad aa ap;have ar:Hid (Az w1 w.heap.size B7):=af.below ap;clear af ap aa;obtain⟨b,rfl,d⟩:=a4;by_cases h6:ts.length=6
 ·obtain⟨P,Q,c,B,C,D,rfl⟩:=gY h6;have hw:AY s.data.toList= [P.data.toList,Q.data.toList,c.data.toList,B.data.toList,C.data.toList,D.data.toList]:=by rw[<-E];rfl
  have ai:=HR.out;rw[gX hw,Dy,Dy]at ai;have ac:∀t∈ [P,Q,c,B,C,D],t.size<=100000:=fun t k=>by
   have:=ah t.data.toList (by rw[<-E];exact Qp.2 ⟨t,k,rfl⟩);rw[AA,AA]at this;omega
  have hP:=ac P (by simp);have hQ:=ac Q (by simp);have c0:=d 0 (by simp);have c1:=d 1 (by simp);have c2:=d 2 (by simp);simp only[Q3,Q4]at c0 c1 c2;have aj:=Np b 2 4 [c,B,C,D] w1 a (h.below ab).weak (fun j hj=>by
   have a0:j+2 < [P,Q,c,B,C,D].length:=by simp at hj ⊢;omega
   have:=d (j+2) a0;rw[Nat.add_comm 2 j];simpa using this) (fun t k=>by
    have:=ac t (Qj _ (Qj _ k));unfold maxLen;omega) (by simp)
  have ad:Hid ((match As c.data.toList,As B.data.toList,As C.data.toList,As D.data.toList with
   | some n,U lo,U hi,U z=>DZ (P,Q,n,lo,hi,z)
   | _,_,_,_=>(B7,1))=R):=ai
  clear hw E ah d h6 ac ai;simp only[Qd,Qq,Q5,Q6]at aj ⊢
  go_wp2_with fail
  refine aj.mono ?_;rintro e q ⟨az,p⟩;clear aj;have r:BL w q:=Ad ab p;have ae:Hid (Az q w.heap.size B7):=ar.out.below p;rcases az with⟨zs,g,ax,F,rfl,K⟩|⟨j,t,k,M,rfl⟩
  ·obtain⟨n,lo,hi,z,a3⟩:∃T X Y z3,zs= [T,X,Y,z3]:=by
    match zs,ax with
    | [T,X,Y,z3],_=>exact ⟨T,X,Y,z3,rfl⟩
   subst a3;have HX:Hid (DZ (P,Q,n,lo,hi,z)=R):=by
    show _=_;rw[<-ad.out];have q0:=F 0 c rfl;have q1:=F 1 B rfl;have q2:=F 2 C rfl;have q3:=F 3 D rfl;rw[q0,q1,q2,q3];rfl
   have d0:=Aa p c0;have d1:=Aa p c1;have k0:=K 0 (by simp);have k1:=K 1 (by simp);have k2:=K 2 (by simp);have k3:=K 3 (by simp);simp only[Q3,Q4]at k0 k1 k2 k3;have u:=fun W (hW:GP W a)=>NU (P,Q,n,lo,hi,z) W a hW hP hQ;rw[HX.out]at u;unfold A1 at u;obtain⟨⟨rp,rq,rn,an,ao,N⟩,rE⟩:=R;dsimp only at u;have ak:b≠w.heap.size:=fun e=>by
    have e2:=(m.out q ae.out).2.2.1;rw[<-e]at e2;have:=(Aa p c2).symm.trans e2;simp at this
   have y:g≠w.heap.size:=fun e=>by
    have e2:=(m.out q ae.out).1;rw[<-e]at e2;have:=k0.symm.trans e2;simp at this
   have a5:¬w.heap.size=b:=fun e=>ak e.symm;have a6:¬w.heap.size=g:=fun e=>y e.symm;have al:BL q q.drew:=(Below.refl _ _).drew;have au:=ae.out.below al;have av:Hid (Az q.drew w.heap.size B7):=au;have ay:=u q.drew (h.below (Ad r al)).file;clear F K ax c0 c1 c2 p ad u au al;simp only[Qd,Qq,Q5,Q6]
   go_wp2_with fail
   go_region_held3 (fun w'=>w'.cell? ⟨b,0,O⟩=U (H P)/\w'.cell? ⟨b,1,O⟩=U (H Q)/\w'.cell? ⟨g,0,O⟩=U (Z I n)/\w'.cell? ⟨g,1,O⟩=U (Z I lo)/\w'.cell? ⟨g,2,O⟩=U (Z I hi)/\w'.cell? ⟨g,3,O⟩=U (Z I z)/\BL w w')
    (first
     | (go_split_ands;with_reducible exact⟨Aa i (by assumption),Aa i (by assumption),Aa i (by assumption),Aa i (by assumption),Aa i (by assumption),Aa i (by assumption),Below.trans (by assumption) (i.mono (Below.size (by assumption)))⟩)
     | (go_split_ands;with_reducible exact⟨JI ak (by assumption),JI ak (by assumption),JI y (by assumption),JI y (by assumption),JI y (by assumption),JI y (by assumption),gZ (by assumption)⟩)
     | (go_split_ands;exact⟨by go_keep,by go_keep,by go_keep,by go_keep,by go_keep,by go_keep,Below.drew (by assumption)⟩))
    (first
     | (go_at_call 242;refine ay.mono ?_;rintro e w5 ⟨rfl,i⟩;obtain⟨y0,y1,y2,y3,y4,y5,yf⟩:=m.out w5 (av.out.below i)))
   go_split_ands;have aw:=av.out.below i;have a1:BL w w5:=r.drew.trans (i.mono r.drew.size);obtain⟨T,X,Y,z3,z4,z5,_⟩:=(aw.set (rp,rq,rn,an,ao,N)).cells;have am:=Mf (f:=(rp,rq,rn,an,ao,N)) a1 (Qa w.heap.size);unfold IY at T X Y z3 z4 z5 am;dsimp only at T X Y z3 z4 z5 am;clear aw;go_wp2;exact Qw (v:=Qo #[.agg #[H rp,H rq,Z I rn,Z I an,Z I ao,Z I N],Ae a rE]) (by simp[Qx,results262,go_sem,T,X,Y,z3,z4,z5]) rfl ⟨rfl,am⟩
  ·have aq:R=(B7,1):=by
    rw[<-ad.out]
    match j,k with
    | 0,k=>rw [Qr k,M]
    | 1,k=>rw [Qr k,M];split<;>simp_all
    | 2,k=>rw [Qr k,M];split<;>simp_all
    | 3,k=>rw [Qr k,M];split<;>simp_all
   subst aq;clear ad k M c0 c1;have et:=(h.below r).text;obtain⟨y0,y1,y2,y3,y4,y5,yf⟩:=m.out q ae.out;have s0:=Ah y0;have s1:=Ah y1;have s2:=Ah y2;have s3:=Ah y3;have s4:=Ah y4;have s5:=Ah y5;go_wp2
   go_region
   all_goals go_wp2
   all_goals exact Qw (v:=Qo #[.agg #[H ⟨#[]⟩,H ⟨#[]⟩,Z I 0,Z I 0,Z I 0,Z I 0],Qs 410 (Qy (U (a 0)))]) (by simp[Qx,results262,go_sem,y0,y1,y2,y3,y4,y5]) rfl ⟨rfl,r.drew⟩
 ·have a2:=HR.out.symm.trans (gW (l:=s.data.toList) (fun e=>h6 (by rw[<-e,<-E,Q7])));subst a2;generalize ts.length=L at h6 ⊢;have a7:¬(L:Int)=6:=by omega
  clear E ah d h6 HR;have et:=(h.below ab).text;obtain⟨y0,y1,y2,y3,y4,y5,yf⟩:=m.out w1 ar.out;have s0:=Ah y0;have s1:=Ah y1;have s2:=Ah y2;have s3:=Ah y3;have s4:=Ah y4;have s5:=Ah y5;go_wp2
  go_region
  all_goals go_wp2
  all_goals exact Qw (v:=Qo #[.agg #[H ⟨#[]⟩,H ⟨#[]⟩,Z I 0,Z I 0,Z I 0,Z I 0],Qs 410 (Qy (U (a 0)))]) (by simp[Qx,results262,go_sem,y0,y1,y2,y3,y4,y5]) rfl ⟨rfl,ab.drew⟩
def JJ (ps:List (List UInt8)):Nat:=if ps.getLastD []= [] then ps.length-1 else ps.length
theorem SW (s:List UInt8):Co s=if 60<JJ (Av 10 s) then ([],8,O) else
 if (AP Bz (Av 10 s) 0 []).2.1≠0 then ([],(AP Bz (Av 10 s) 0 []).2.1,U (AP Bz (Av 10 s) 0 []).2.2) else ((AP Bz (Av 10 s) 0 []).1,0,O):=rfl
theorem iA (l:List UInt8) (n:Nat) (b:List Fl):AP Bz [l] n b=if l= [] then (b,0,0) else ([],1,n):=rfl
theorem iB (l c:List UInt8) (r:List (List UInt8)) (n:Nat) (b:List Fl):AP Bz (l :: c :: r) n b=if (BV l).2≠0 then ([],(BV l).2,n) else
 if b≠ []/\decide (fk (BV l).1<=fk (b.getLastD B7))=S then ([],9,n) else AP Bz (c :: r) (n+1) (b++ [(BV l).1]):=rfl
theorem Ta (l:List UInt8) (h:(BV l).2=0):At (BV l).1=0:=by
 unfold BV at h ⊢;split at h
 ·split at h
  ·rename_i n d f c _ _ _ _;unfold DZ at h ⊢;split at h
   ·rename_i b;simp only[b,if_true]
   ·rename_i b;exact absurd h b
  ·cases h
 ·cases h
theorem Tb {f:Fl} (h:At f=0):f.1.size<=16:=by
 obtain⟨g,n,d,_⟩:=D0 h;obtain⟨e,_,i⟩:=El d;simp only[Dn,Q8,decide_eq_true_eq]at i;have j:=IK n (by omega) (by omega);have b:(AE g).length=4:=by cases g<;>rfl
 have c:=congrArg List.length e;rw[Qt,Qd,b,AA]at c;omega
theorem Al.fz {W:J} {b:Nat} {s:Sn} {vf:A} (h:Al W b s vf) (o:Nat):W.frozen? ⟨b,o,O⟩=V:=frozen_of_row _ _ _ _ _ h
def FR (W:J) (b:Nat) (s:Sn) (vf:A):J:=((((((W.setCell ⟨b,0,O⟩ (Z I s.1)).setCell ⟨b,1,O⟩ (Z I s.2.1)).setCell ⟨b,2,O⟩ (Z I s.2.2.1)).setCell ⟨b,3,O⟩ (Z I s.2.2.2.1)).setCell ⟨b,4,O⟩ (Z I s.2.2.2.2.1)).setCell ⟨b,5,O⟩ (H s.2.2.2.2.2.1)).setCell ⟨b,6,O⟩ vf
theorem Al.set {W:J} {b:Nat} {s:Sn} {vf:A} (h:Al W b s vf) (d:Sn) (c:A):Al (FR W b d c) b d c:=by
 unfold Al FR at *;rw[Qe _ _ _ _ _ _ (Qe _ _ _ _ _ _ (Qe _ _ _ _ _ _ (Qe _ _ _ _ _ _ (Qe _ _ _ _ _ _ (Qe _ _ _ _ _ _ (Qe _ _ _ _ _ _ h))))))];rfl
theorem Mh {W d:J} {B b:Nat} {s:Sn} {vf:A} (h:Below B d W) (c:B<=b):Below B d (FR W b s vf):=((((((h.setCell c _).setCell c _).setCell c _).setCell c _).setCell c _).setCell c _).setCell c _
theorem Tc {W:J} {F G:Nat} {s:Sn} {vf:A} (h:Al W F s vf) (b:G≠F) (o:Nat) (z:A):Al (W.setCell ⟨G,o,O⟩ z) F s vf:=(heap_setCell_other _ _ _ _ (fun e=>b e.symm)).trans h
def Td (v:A) (fs:List Fl) (R:Nat):Prop:= ∀b o c n,v=Qu (U ⟨b,o,O⟩) n c->fs≠ []->b≠R
theorem IZ {W:J} {R:Nat} {s:Sn} {q:Option Qi} {n c:Nat} {v:A} {j:List Fl} (h:Al W R s (Qu q n c)) (r:Ai W v j):Td v j R:=by
 intro b o t u i g e;subst e;rcases r with⟨_,_,_,_,e⟩|⟨y,l,z,m,_,p⟩
 ·exact g e
 ·rw[m]at i;injection i with e3;injection e3 with e3;injection e3 with e3 e4;subst e3;subst e4;obtain⟨d,f,_⟩:=p 0 (List.length_pos_iff.2 g);rw[cell_of_row _ _ _ _ _ _ h]at d f
  match l,d,f with
  | 0,d,_=>simp at d
  | 1,d,_=>simp at d
  | 2,d,_=>simp at d
  | 3,d,_=>simp at d
  | 4,d,_=>simp at d
  | 5,_,f=>simp at f
  | 6,d,_=>simp at d
  | k+7,d,_=>simp at d
theorem Ai.set_off {W:J} {R:Nat} {v:A} {g:List Fl} (h:Ai W v g) (B:Td v g R) (k:Nat) (z:A):Ai (W.setCell ⟨R,k,O⟩ z) v g:=by
 rcases h with h | ⟨b,o,c,i,u,y⟩
 ·exact Qf h
 ·by_cases f:g= []
  ·exact Qf ⟨U ⟨b,o,O⟩,c,by rw[i,f];rfl,fun e=>(nomatch e),f⟩
  ·have l:=B b o c _ i f;have d:∀p,(W.setCell ⟨R,k,O⟩ z).cell? ⟨b,p,O⟩=W.cell? ⟨b,p,O⟩:=fun p=>Qc _ _ _ _ (by intro e;injection e with e;exact l e.symm);refine Qb ⟨b,o,c,i,u,fun j hj=>?_⟩;obtain⟨m,n,q,r,s,t⟩:=y j hj;exact⟨(d _).trans m,(d _).trans n,(d _).trans q,(d _).trans r,(d _).trans s,(d _).trans t⟩
theorem iC {l:List UInt8} (h:20000<l.length):Hq l=(AC,2,O):=by unfold Hq;rw[if_pos h]
theorem iD {a:List UInt8} (h:(AY a).length≠8):Fe a=O:=by
 unfold Fe;split
 ·rename_i e;rw[e]at h;simp at h
 ·rfl
theorem iE {α:Type} {l:List α} (h:l.length=8):∃a b c d e f g i,l= [a,b,c,d,e,f,g,i]:=by
 match l,h with
 | [a,b,c,d,e,f,g,i],_=>exact ⟨a,b,c,d,e,f,g,i,rfl⟩
theorem iF {α:Type} {l:List α} (h:l.length=5):∃a b c d e,l= [a,b,c,d,e]:=by
 match l,h with
 | [a,b,c,d,e],_=>exact ⟨a,b,c,d,e,rfl⟩
theorem iG {a:List UInt8} {k w1 b c d f i j:List UInt8} (h:AY a= [k,w1,b,c,d,f,i,j]):Fe a=match Hp w1 b c d f j with
  | some (x1,x2,x3,x4,x5,g)=>if k=FC then U (x1,x2,x3,x4,x5,i,g) else O
  | none=>O:=by
 unfold Fe;rw[h];rfl
theorem Te {w1 b c d f g:List UInt8} (h:As w1=O\/As b=O\/As c=O\/As d=O\/As f=O\/As g=O):Hp w1 b c d f g=O:=by
 unfold Hp;split
 ·rename_i i j k l m n;rw[i,j,k,l,m,n]at h;simp at h
 ·rfl
theorem iH {w1 b c d f i:List UInt8} {j k l m n g:Int} (o:As w1=U j) (p:As b=U k) (q:As c=U l) (r:As d=U m) (s:As f=U n) (t:As i=U g):Hp w1 b c d f i=U (j,k,l,m,n,g):=by
 unfold Hp;rw[o,p,q,r,s,t]
theorem Tg:∀(ps:List (List UInt8)) (n:Nat) (acc:List Fl),(∀g∈acc,At g=0)->∀g∈(AP Bz ps n acc).1,At g=0
 | [],n,acc,h=>by
  intro g b
  first | exact h g b | simp at b
 | [l],n,acc,h=>by
  intro g b;rw[iA]at b;split at b
  ·exact h g b
  ·simp at b
 | l :: l2 :: r,n,acc,h=>by
  intro g b;rw[iB]at b;split at b
  ·simp at b
  ·rename_i d;split at b
   ·simp at b
   ·refine Tg (l2 :: r) (n+1) (acc++ [(BV l).1]) (fun x c=>?_) g b;rw[Qk,Ql]at c;rcases c with c | rfl
    ·exact h x c
    ·exact Ta l (by simpa using d)
theorem iI (b:List UInt8):∀f∈(Co b).1,At f=0:=by
 intro f c;rw[SW]at c;split at c
 ·simp at c
 ·split at c
  ·simp at c
  ·exact Tg (Av 10 b) 0 [] (by simp) f c
def AU (W:J) (a:Nat->Qi) (ev:A) (c:Nat×Option Nat):Prop:=match c.2 with
 | none=>ev=Ae a c.1
 | some j=>c.1≠0/\∃fb,ev=Qs 140 (Qy (U ⟨fb,0,O⟩))/\W.cell? ⟨fb,0,O⟩=U (Z I j)/\W.cell? ⟨fb,1,O⟩=U (Ae a c.1)
theorem AU.ok {W:J} {a:Nat->Qi} {b:A} {c:Nat×Option Nat} (h:AU W a b c) (d:c.1=0):b= .nilIface:=by
 obtain⟨n,o⟩:=c;subst d
 cases o with
 | none=>exact h
 | some j=>exact absurd rfl h.1
theorem AU.bad {W:J} {a:Nat->Qi} {b:A} {c:Nat×Option Nat} (h:AU W a b c) (d:c.1≠0):∃t u,b=Qs t u:=by
 obtain⟨n,o⟩:=c
 cases o with
 | none =>
  cases n with
  | zero=>exact absurd rfl d
  | succ n=>exact ⟨_,_,h⟩
 | some j =>
  obtain⟨_,f,h,_⟩:=h;exact⟨_,_,h⟩
def Eb (fs:List Fl):Prop:= ∀g∈fs,g.1.size<=30/\g.2.1.size<=30
def GR (W:J) (f:Fl):J:=W.alloc (.cells #[H f.1,H f.2.1,Z I f.2.2.1,Z I f.2.2.2.1,Z I f.2.2.2.2.1,Z I f.2.2.2.2.2] 77)
theorem Ja (W:J) (f:Fl):Az (GR W f) W.heap.size f:=Az.new W f
theorem Ir (W:J) (f:Fl):BL W (GR W f):=Af _ _
theorem iJ {w:J} {b o c:Nat} {d:List Fl} (h:Fi w b o d) {n:Nat} (f:n<=d.length) (g:d.length<=c):Ai w (Qu (U ⟨b,o,O⟩) n c) (d.take n):=by
 refine Qb ⟨b,o,c,?_,?_,gV h n⟩
 ·rw[Qz,Nat.min_eq_left f]
 ·rw[Qz];omega
def FS (w:J) (v:A):Prop:= ∀k,v.ownBlock=U k->w.heap.size<=k
theorem NY (w:J):FS w (Qu O 0 0):=fun k hk=>by simp[Q0]at hk
theorem Jb {w:J} {B:Nat} {e:TypeId} {z:Nat} {v:A} {n:Nat} {xs:List A} (h:w.ownsRow B e z v n xs) {k:Nat} (b:v.ownBlock=U k):B<=k:=by
 rcases h.2 with⟨rfl,_⟩|⟨g,d,f,rfl,c,_⟩
 ·simp[Q0]at b
 ·simp only[Q0,QL]at b;exact b▸c
def JK:Sn:=(1,0,0,0,0,⟨#[115,116,97,114,116]⟩, [])
theorem iK {f:Fl} (h:At f=0):0<=f.2.2.1/\f.2.2.1<=40/\∃g n,A7 f.1.data.toList=U (g,n)/\(g=S↔f.2.1.data.toList= [45]):=by
 obtain⟨g,n,d,b,i⟩:=D0 h;have c:=i;unfold De at c;simp only[Q8,decide_eq_true_eq]at c;refine⟨by omega,by omega,g,n,d,?_⟩;unfold Do at b;cases g
 ·simp only[Bool.false_eq_true,if_false,false_iff]at b ⊢;intro e;rw[e]at b;revert b;decide
 ·simp only[if_true,decide_eq_true_eq,true_iff]at b ⊢;exact b
theorem iL (b:List UInt8):(Co b).1.length<=60:=by
 obtain⟨c,j⟩:∃c,(if (Av 10 b).getLastD []= [] then (Av 10 b).length-1 else (Av 10 b).length)=c:=⟨_,rfl⟩;have k:(Av 10 b).length-1<=c:=by rw[<-j];split<;>omega
 unfold Co;rw[j];by_cases f:60<c
 ·rw[if_pos f];exact Q9 _
 ·rw[if_neg f];by_cases d:(AP Bz (Av 10 b) 0 []).2.1=0
  ·rw[if_neg (by simpa using d)];have g:=Ny 10 b;have i:Av 10 b≠ []:=by intro e;rw[e]at g;simp at g
   have:=RO Bz (Av 10 b) 0 [] i d;simp only[Qq]at this;show (AP Bz (Av 10 b) 0 []).1.length<=_;omega
  ·rw[if_pos d];exact Q9 _
end
section
open Go
abbrev Tx:=Sn×List Fl×List ByteArray
def Bn (f:Fl) (n:Int):Fl:=(f.1,f.2.1,f.2.2.1,f.2.2.2.1,f.2.2.2.2.1,n)
def BR (fs:List Fl) (p:ByteArray):Bool:=fs.any fun f=>decide (f.1=p)
def BI (ts:List ByteArray) (p:ByteArray):Bool:=ts.any fun t=>decide (t=p)
theorem NZ {b:List Fl} {p:ByteArray} :BR b p=S↔∃f∈b,f.1=p:=by simp[BR]
theorem Jc {b:List ByteArray} {p:ByteArray} :BI b p=S↔p∈b:=by
 simp only[BI,Q1,decide_eq_true_eq];exact⟨fun ⟨x,hx,e⟩=>e▸hx,fun h=>⟨p,h,rfl⟩⟩
theorem Mi {b:List ByteArray} {p:ByteArray} :BI b p=V↔p∉b:=by
 rw[<-Jc];simp
theorem Oa {b:List Fl} {p:ByteArray} :BR b p=V↔∀f∈b,f.1≠p:=by
 simp[BR]
theorem Oc (b:List Fl) (p:ByteArray):decide (0<=Df b p)=BR b p:=by
 by_cases h:∃f∈b,f.1=p
 ·have l:∃n,∃h:n<b.length,b[n].1=p/\∀j (c:j<b.length),j<n->b[j].1≠p:=by
   obtain⟨f,k,e⟩:=h;obtain⟨i,q,rfl⟩:=List.mem_iff_getElem.1 k;clear k
   induction i using Nat.strongRecOn with
   | ind i ih =>
    by_cases o:∃j,∃c:j<b.length,j<i/\b[j].1=p
    ·obtain⟨j,c,g,m⟩:=o;exact ih j g c m
    ·exact⟨i,q,e,fun j c g m=>o ⟨j,c,g,m⟩⟩
  obtain⟨n,l,e,d⟩:=l;rw[Mg l d e,NZ.2 h];simp
 ·have d:∀f∈b,f.1≠p:=fun f k e=>h ⟨f,k,e⟩;rw[SN (fun j c=>d _ (List.getElem_mem c)),Oa.2 d];rfl
def Fk (t:Tx) (f:Fl):Nat:=if At (Bn f 1)≠0 then At (Bn f 1) else if BR t.2.1 f.1=S then 7 else 0
def GS (t:Tx) (f:Fl):Tx:=if Fk t f=0 then (t.1,t.2.1++ [Bn f 1],t.2.2) else t
def GT (t:Tx) (p:ByteArray):Nat:=if BR t.1.2.2.2.2.2.2 p=V then 6 else if BI t.2.2 p=S then 7 else 0
def GU (t:Tx) (p:ByteArray):Tx:=if GT t p=0 then (t.1,t.2.1,t.2.2++ [p]) else t
def Jd (t:Tx) (now:Sn) (f:Fl):Int:=if 0<t.2.2.length/\f.2.1.data.toList≠ [45] then t.1.2.2.1 else now.2.2.1+1
def Bc (t:Tx) (now:Sn):List Fl:=t.2.1.map fun f=>Bn f (Jd t now f)
def B8 (t:Tx) (now:Sn):List Fl:=now.2.2.2.2.2.2.filter fun f=> !BI t.2.2 f.1
def CH (t:Tx) (now:Sn):List Fl:=(Bc t now).foldl Fd (B8 t now)
def Od (t:Tx):Bool:=t.2.1.any fun f=>decide (f.2.1.data.toList= [45])
def Is (t:Tx):ByteArray:=if 0<t.2.2.length then Ab IP else if Od t=S then Ab Oi0 else Ab IM
def Fm (t:Tx) (now:Sn) (id day idx:Int):Sn:=(id,now.1,now.2.2.1+1,day,idx,Is t,CH t now)
def Je (t:Tx) (now:Sn):Bool:=t.2.2.any fun p=> !BR now.2.2.2.2.2.2 p
def Fn (t:Tx) (now:Sn):Bool:=t.2.1.any fun f=>BR now.2.2.2.2.2.2 f.1
def CV (t:Tx) (now:Sn) (id day idx:Int):Nat×Option Nat :=
 if (Am now).1≠0 then Am now else if Je t now=S then (11,O) else if Fn t now=S then (7,O) else ((Am (Fm t now id day idx)).1,O)
def Dg (t:Tx) (now:Sn) (id day idx:Int):Sn:=if (CV t now id day idx).1=0 then Fm t now id day idx else AC
structure Cj (t:Tx):Prop where
 base:(Am t.1).1=0
 adds:∀f∈t.2.1,At f=0
 apart:t.2.1.Pairwise fun f g=>f.1≠g.1
 rems:∀p∈t.2.2,BR t.1.2.2.2.2.2.2 p=S
 ones:t.2.2.Pairwise (· ≠ ·)
theorem iM {s:Sn} (h:(Am s).1=0):Cj (s, [], []):=⟨h,by simp,by simp,by simp,by simp⟩
theorem iN {t:Tx} {f:Fl} (h:Fk t f=0):At (Bn f 1)=0/\BR t.2.1 f.1=V:=by
 unfold Fk at h;split at h
 ·rename_i b;exact absurd h b
 ·rename_i b;split at h
  ·cases h
  ·rename_i c;exact⟨by simpa using b,by simpa using c⟩
theorem Cj.add {t:Tx} (h:Cj t) (f:Fl):Cj (GS t f):=by
 unfold GS;split
 ·rename_i i;obtain⟨c,d⟩:=iN i;refine⟨h.base,fun g b=>?_,?_,h.rems,h.ones⟩
  ·rw[Qk,Ql]at b;rcases b with b | rfl
   ·exact h.adds g b
   ·exact c
  ·rw[Qm];refine⟨h.apart,by simp,fun g b k hk=>?_⟩;rw[Ql]at hk;subst hk;exact Oa.1 d g b
 ·exact h
theorem iO {t:Tx} {p:ByteArray} (h:GT t p=0):BR t.1.2.2.2.2.2.2 p=S/\BI t.2.2 p=V:=by
 unfold GT at h;split at h
 ·cases h
 ·rename_i b;split at h
  ·cases h
  ·rename_i c;exact⟨by simpa using b,by simpa using c⟩
theorem Cj.rem {t:Tx} (h:Cj t) (p:ByteArray):Cj (GU t p):=by
 unfold GU;split
 ·rename_i f;obtain⟨c,d⟩:=iO f;refine⟨h.base,h.adds,h.apart,fun q b=>?_,?_⟩
  ·rw[Qk,Ql]at b;rcases b with b | rfl
   ·exact h.rems q b
   ·exact c
  ·rw[Qm];refine⟨h.ones,by simp,fun q b k hk=>?_⟩;rw[Ql]at hk;subst hk;intro e;subst e;exact Mi.1 d b
 ·exact h
def Eu (fs:List Fl):Prop:=fs.Pairwise fun f g=>fk f<fk g
theorem iP (g:Fl) (r:List Fl) (f:Fl):Fd (g :: r) f=if fk g<fk f then g :: Fd r f else f :: g :: r:=by
 unfold Fd;by_cases h:fk g<fk f
 ·rw[if_pos h,List.takeWhile_cons_of_pos (by simpa using h),List.dropWhile_cons_of_pos (by simpa using h)];rfl
 ·rw[if_neg h,List.takeWhile_cons_of_neg (by simpa using h),List.dropWhile_cons_of_neg (by simpa using h)];rfl
theorem Th (b:List Fl) (f:Fl):(Fd b f).Perm (f :: b):=by
 unfold Fd;have h:b=b.takeWhile (fun g=>decide (fk g<fk f))++b.dropWhile (fun g=>decide (fk g<fk f)):=by rw[List.takeWhile_append_dropWhile]
 conv=>rhs;rw[h]
 exact QA
theorem Ti {b:List Fl} {f x:Fl} :x∈Fd b f↔x=f\/x∈b:=by
 rw[(Th b f).mem_iff,Qh]
theorem Oe:∀ {fs:List Fl} {f:Fl},Eu fs->(∀g∈fs,fk g≠fk f)->Eu (Fd fs f)
 | [],f,_,_=>by simp[Eu,Fd]
 | g :: r,f,h,hn=>by
  have d:=Qg.1 h;have i:=hn g Qn;rw[iP];split
  ·rename_i c;refine Qg.2 ⟨fun x b=>?_,Oe d.2 fun x b=>hn x (Qj _ b)⟩;rcases Ti.1 b with rfl | b
   ·exact c
   ·exact d.1 x b
  ·rename_i c;refine Qg.2 ⟨fun x b=>?_,h⟩;rw[Qh]at b;rcases b with rfl | b
   ·omega
   ·have:=d.1 x b;omega
theorem JL:∀(ys xs:List Fl),(ys.foldl Fd xs).Perm (xs++ys)
 | [],xs=>by simp
 | y :: ys,xs=>by
  refine(JL ys (Fd xs y)).trans ?_;refine((Th xs y).append_right ys).trans ?_;simpa using (QA (a:=y) (l₁:=xs) (l₂:=ys)).symm
theorem Tj:∀(ys xs:List Fl),Eu xs->(xs++ys).Pairwise (fun f g=>fk f≠fk g)->Eu (ys.foldl Fd xs)
 | [],xs,h,_=>h
 | y :: ys,xs,h,hp=>by
  have d:=Qm.1 hp;have c:∀g∈xs,fk g≠fk y:=fun g b=>d.2.2 g b y Qn;refine Tj ys (Fd xs y) (Oe h c) ?_;have i:=Qg.1 d.2.1;rw[Qm];refine⟨(Oe h c).imp fun h'=>by omega,i.2,fun g b k hk=>?_⟩;rcases Ti.1 b with rfl | b
  ·exact i.1 k hk
  ·exact d.2.2 g b k (Qj _ hk)
theorem Tk:∀ {xs ys:List Fl},Eu xs->Eu ys->xs.Perm ys->xs=ys
 | [],ys,_,_,h=>(List.nil_perm.1 h).symm
 | x :: xs, [],_,_,h=>absurd h.length_eq (by simp)
 | x :: xs,y :: ys,hx,hy,h=>by
  have f:=Qg.1 hx;have g:=Qg.1 hy;have e:x=y:=by
   have c:x∈y :: ys:=h.mem_iff.1 Qn;have d:y∈x :: xs:=h.mem_iff.2 Qn;rw[Qh]at c d;rcases c with c | c
   ·exact c
   ·rcases d with d | d
    ·exact d.symm
    ·have a:=g.1 x c;have b:=f.1 y d;omega
  subst e;rw[Tk f.2 g.2 h.cons_inv]
theorem Jf {s:Sn} (h:(Am s).1=0):s.2.2.2.2.2.2.length<=60/\Fc 0 s.2.2.2.2.2.2:=GJ.1 (GK h).2.2.1
theorem Tl {f g:Fl} (c:A7 f.1.data.toList≠O) (d:A7 g.1.data.toList≠O) (h:f.1≠g.1):fk f≠fk g:=fun e=>h (by
 have b:=cO c d e;have:Ab f.1.data.toList=Ab g.1.data.toList:=by rw[b]
 rwa [Dy,Dy]at this)
theorem Tm {t:Tx} {b:Sn} (d:Cj t) (u:(Am b).1=0) (q:Fn t b=V) :
  (∀f∈B8 t b++Bc t b,A7 f.1.data.toList≠O)/\(B8 t b++Bc t b).Pairwise (fun f g=>fk f≠fk g)/\Eu (B8 t b):=by
 obtain⟨_,o,p⟩:=Jf u;have i:∀f∈B8 t b,f∈b.2.2.2.2.2.2:=fun f hf=>(Qv.1 hf).1;have j:∀f∈Bc t b,∃g∈t.2.1,g.1=f.1:=fun f hf=>by
  obtain⟨g,c,rfl⟩:=Qp.1 hf;exact⟨g,c,rfl⟩
 have l:∀f∈B8 t b,A7 f.1.data.toList≠O:=fun f hf=>Ho (o f (i f hf)).1;have m:∀f∈Bc t b,A7 f.1.data.toList≠O:=fun f hf=>by
  obtain⟨g,c,e⟩:=j f hf;rw[<-e];exact Ho (d.adds g c)
 have n:Eu (B8 t b):=QB QC p;refine⟨fun f hf=>?_,?_,n⟩
 ·rcases Qk.1 hf with h | h
  ·exact l f h
  ·exact m f h
 ·rw[Qm];refine⟨n.imp fun h=>by omega,?_,fun f hf g c=>?_⟩
  ·refine QD.2 ?_;refine QM (fun {f g} hf c h=>?_) d.apart;exact Tl (f:=Bn f _) (g:=Bn g _) (show A7 f.1.data.toList≠O from Ho (d.adds f hf)) (show A7 g.1.data.toList≠O from Ho (d.adds g c)) h
  ·refine Tl (l f hf) (m g c) fun e=>?_;obtain⟨k,r,s⟩:=j g c;have:Fn t b=S:=by
    simp only[Fn,Q1];exact⟨k,r,NZ.2 ⟨f,i f hf,by rw[e,s]⟩⟩
   rw[q]at this;cases this
theorem Tn {t:Tx} {b:Sn} (g:Cj t) (i:(Am b).1=0) (c:Fn t b=V):Eu (CH t b):=by
 obtain⟨_,d,f⟩:=Tm g i c;exact Tj _ _ f d
theorem iQ {t:Tx} {b:Sn} (d:Cj t) (f:(Am b).1=0) (c:Fn t b=V) {ys:List Fl} (g:ys.Perm (B8 t b++Bc t b)) (i:Eu ys):ys=CH t b :=
 Tk i (Tn d f c) (g.trans (JL _ _).symm)
theorem Of {t:Tx} {b:Sn} {x:Fl} :x∈CH t b↔(x∈b.2.2.2.2.2.2/\x.1∉t.2.2)\/x∈Bc t b:=by
 unfold CH;rw[(JL _ _).mem_iff,Qk];unfold B8;rw[Qv];simp only[Bool.not_eq_true',Mi]
theorem JM {t:Tx} {b:Sn} {d day c:Int} (h:(CV t b d day c).1=0):(Am b).1=0/\Je t b=V/\Fn t b=V/\(Am (Fm t b d day c)).1=0/\Dg t b d day c=Fm t b d day c:=by
 have f:=h;unfold CV at h;split at h
 ·rename_i g;exact absurd h g
 ·rename_i i;split at h
  ·cases h
  ·rename_i j;split at h
   ·cases h
   ·rename_i k;exact⟨by simpa using i,by simpa using j,by simpa using k,h,by unfold Dg;rw[if_pos f]⟩
theorem iR {t:Tx} {b:Sn} {d day c:Int} (h:(CV t b d day c).1≠0):Dg t b d day c=AC:=by unfold Dg;rw[if_neg h]
theorem To {β:Type} (p:β->Bool):∀l:List β,(l.filter p).length+(l.filter fun x=> !p x).length=l.length
 | []=>rfl
 | x :: r=>by
  have b:=To p r
  cases h:p x with
  | true=>rw [QE h,QF (by simp[h])];simp only[Qd];omega
  | false=>rw [QF (by simp[h]),QE (by simp[h])];simp only[Qd];omega
theorem iS {b:List Fl} (n:Eu b) {rs:List ByteArray} (o:rs.Pairwise (· ≠ ·)) (q:∀p∈rs,BR b p=S):(b.filter fun f=> !BI rs f.1).length+rs.length=b.length:=by
 have l:(b.map (·.1)).Nodup:=by
  refine QD.2 (n.imp fun {f g} h e=>?_);unfold fk at h;rw[e]at h;omega
 have i:((b.filter fun f=>BI rs f.1).map (·.1)).Sublist (b.map (·.1)):=List.Sublist.map _ QC;have j:=QB i l;have c:((b.filter fun f=>BI rs f.1).map (·.1)).Perm rs:=by
  rw[List.perm_ext_iff_of_nodup j o];intro p;constructor
  ·intro d;obtain⟨f,k,rfl⟩:=Qp.1 d;exact Jc.1 (Qv.1 k).2
  ·intro d;obtain⟨f,k,rfl⟩:=NZ.1 (q p d);exact Qp.2 ⟨f,Qv.2 ⟨k,Jc.2 d⟩,rfl⟩
 have m:=c.length_eq;rw[Q7]at m;have:=To (fun f:Fl=>BI rs f.1) b;omega
theorem iT {t:Tx} {b:Sn} (d:Cj t) (f:(Am b).1=0) (g:Je t b=V):(CH t b).length+t.2.2.length=b.2.2.2.2.2.2.length+t.2.1.length:=by
 have c:(CH t b).length=(B8 t b).length+t.2.1.length:=by
  unfold CH;rw[(JL _ _).length_eq,Qt];simp[Bc]
 have i:=iS (Jf f).2.2 d.ones (fun p hp=>by
  cases h:BR b.2.2.2.2.2.2 p with
  | true=>rfl
  | false =>
   have:Je t b=S:=by
    simp only[Je,Q1];exact⟨p,hp,by rw[h];rfl⟩
   rw[g]at this;cases this)
 unfold B8 at c;omega
end
section
open Go.Extern Go.Extern.Stop Go.RowKit Go.Shelf Go.Sort Go.Stop
def Mj (n:Int):Bool:= !Ao n
def Fo (day age count:Int) (left:Nat) (s:Sn):Bool:=decide (left=0) || (!Mj day && !Mj age && (decide ((left:Int)<count) || decide (day-age<=s.2.2.2.1)))
def Ev (day age count:Int):List Sn->List Int
 | []=> []
 | s :: r=>if Fo day age count r.length s=S then s.1 :: Ev day age count r else Ev day age count r
theorem iU (day age count:Int) (s:Sn) (r:List Sn):Ev day age count (s :: r)=if Fo day age count r.length s=S then s.1 :: Ev day age count r else Ev day age count r:=by rw[Ev]
def DN (day age count:Int) (ss:List Sn) (n:Nat):List Int:=(QG n).filterMap fun i=>(ss[i]?).bind fun s=>if Fo day age count (ss.length-1-i) s=S then U s.1 else O
theorem iV {day age count:Int} {b:List Sn} {n:Nat} (h:n<b.length):DN day age count b (n+1)=DN day age count b n++(if Fo day age count (b.length-1-n) b[n]=S then [b[n].1] else []):=by
 unfold DN;rw[List.range_succ,List.filterMap_append];congr 1;split<;>simp_all
theorem Tp {α β:Type} {f g:α->Option β} :∀ {l:List α},(∀x∈l,f x=g x)->l.filterMap f=l.filterMap g
 | [],_=>rfl
 | a :: r,h=>by
  rw[Q2,Q2,h a Qn,Tp (fun x hx=>h x (Qj _ hx))]
theorem Tq {day age count:Int} :∀(ss:List Sn) (k:Nat),(QH k ss.length).filterMap (fun i=>(ss[i-k]?).bind fun s=>if Fo day age count (ss.length-1-(i-k)) s=S then U s.1 else O)=Ev day age count ss
 | [],k=>rfl
 | s :: r,k=>by
  rw[Qd,List.range'_succ,Q2];have c:=Tq (day:=day) (age:=age) (count:=count) r (k+1);have e:(QH (k+1) r.length).filterMap (fun i=>((s :: r)[i-k]?).bind fun x=>if Fo day age count (r.length+1-1-(i-k)) x=S then U x.1 else O)=Ev day age count r:=by
   rw[<-c];apply Tp;intro i n;have b:=List.mem_range'.1 n;obtain⟨j,o,rfl⟩:=b;have d:k+1+1*j-k=j+1:=by omega
   have f:k+1+1*j-(k+1)=j:=by omega
   have g:r.length+1-1-(j+1)=r.length-1-j:=by omega
   rw[d,f,g,QI]
  rw[e];have l:k-k=0:=Nat.sub_self k;have m:r.length+1-1-0=r.length:=by omega
  simp only[l,QJ,Option.bind_some,m];rw[iU];cases Fo day age count r.length s<;>rfl
theorem Tr (day age count:Int) (b:List Sn):DN day age count b b.length=Ev day age count b:=by
 have h:=Tq (day:=day) (age:=age) (count:=count) b 0;unfold DN;rw[List.range_eq_range'];simpa using h
theorem Ts (day age count:Int) (b:List Sn) (n:Nat):(DN day age count b n).length<=n:=by
 unfold DN;have h:=List.length_filterMap_le (fun i=>(b[i]?).bind fun s=>if Fo day age count (b.length-1-i) s=S then U s.1 else O) (QG n);rw[List.length_range]at h;exact h
def Fp (s:ByteArray) (l:List ByteArray):List ByteArray:=if l[Gj s l]? =U s then l else Hj s l
theorem iW {s x:ByteArray} {l:List ByteArray} :x∈Fp s l↔x=s\/x∈l:=by
 unfold Fp;split
 ·rename_i h;constructor
  ·exact Qb
  ·rintro(rfl | b)
   ·exact List.mem_of_getElem? h
   ·exact b
 ·exact Nx
theorem Tt {s:ByteArray} :∀ {l:List ByteArray},GH l->s∈l->l[Gj s l]? =U s
 | [],_,h=>absurd h List.not_mem_nil
 | q :: r,hr,h=>by
  unfold GH at hr;rw[Qg]at hr;by_cases e:Bk q s=S
  ·have c:Gj s (q :: r)=Gj s r+1:=by rw[Gj,if_pos e]
   rw[c,QI];rcases Qh.1 h with b | b
   ·exact absurd b.symm (LD e)
   ·exact Tt hr.2 b
  ·have c:Gj s (q :: r)=0:=by rw[Gj,if_neg e]
   rw[c,QJ];rcases Qh.1 h with b | b
   ·rw[b]
   ·exact absurd (hr.1 s b) e
theorem iX {s:ByteArray} {l:List ByteArray} (h:GH l):GH (Fp s l):=by
 unfold Fp;split
 ·exact h
 ·rename_i e;exact RB h (fun hm=>e (Tt h hm))
theorem iY (s:ByteArray) (l:List ByteArray):(Fp s l).length<=l.length+1:=by
 unfold Fp;split
 ·omega
 ·rw[RA];simp only[Qt,Qz,List.length_drop,List.length_singleton];omega
def Cd (id:Int):ByteArray:=⟨#[115,110,97,112,47]⟩++Ab (itoa id)
def B9 (s:Sn):List ByteArray:=Cd s.1 :: s.2.2.2.2.2.2.map (·.1)
def Cy (ss:List Sn):List ByteArray:=(ss.flatMap B9).foldl (fun l x=>Fp x l) []
theorem Og:∀(xs l:List ByteArray),GH l->GH (xs.foldl (fun l x=>Fp x l) l)/\∀x,x∈xs.foldl (fun l x=>Fp x l) l↔x∈xs\/x∈l
 | [],l,h=>⟨h,fun x=>by simp⟩
 | a :: r,l,h=>by
  obtain⟨b,c⟩:=Og r (Fp a l) (iX h);refine⟨b,fun x=>?_⟩;rw[List.foldl_cons,c,iW,Qh];constructor
  ·rintro(h | h | h)
   ·exact Qf (Qb h)
   ·exact Qf (Qf h)
   ·exact Qb h
  ·rintro((h | h) | h)
   ·exact Qb (Qf h)
   ·exact Qf h
   ·exact Qb (Qb h)
theorem Tu (b:List Sn):GH (Cy b):=(Og _ [] QK).1
theorem Oh {b:List Sn} {x:ByteArray} :x∈Cy b↔∃s∈b,x∈B9 s:=by
 unfold Cy;rw[(Og _ [] QK).2];simp[List.mem_flatMap]
def Mk (l:List ByteArray) (xs:List ByteArray):List ByteArray:=xs.foldl (fun l x=>Fp x l) l
theorem Tv:∀(xs l:List ByteArray),(Mk l xs).length<=l.length+xs.length
 | [],l=>Qa _
 | x :: r,l=>by
  have b:=Tv r (Fp x l);have c:=iY x l;show (Mk (Fp x l) r).length<=_;rw[Qd];omega
def Ml (ss:List Sn) (n:Nat):List ByteArray:=Mk [] ((ss.take n).flatMap B9)
theorem iZ (b:List Sn):Ml b b.length=Cy b:=by
 unfold Ml Cy Mk;rw[List.take_length]
theorem jA (b:List Sn) (n:Nat):(Ml b n).length<=(b.flatMap B9).length:=by
 have h:=Tv ((b.take n).flatMap B9) [];have e:b.flatMap B9=(b.take n).flatMap B9++(b.drop n).flatMap B9:=by rw[<-List.flatMap_append,List.take_append_drop]
 rw[e,Qt];unfold Ml;simp only[Qq]at h;omega
def FT (st:St) (needed:List ByteArray) (age:Int):List ByteArray:=(st.obs.filter fun o=> !BI needed o.1 && decide (age<=st.day-o.2.2)).map (·.1)
end
end Go.Proofs.YtcllhobffhkafaaGreatDoor
