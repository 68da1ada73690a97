/- By an AI agent. -/
import Derived.Test.YtcllhobffhkafaaGreatDoorRefSnap2
import Derived.Test.YtcllhobffhkafaaGreatDoorStorePure
import Derived.Maps.OwnIn
import Derived.Maps.Views
import Derived.Sort.KeysCollected
import Derived.Deep.AppendLies
import Derived.Maps.OwnSet
import Derived.Maps.Ext
import Derived.Maps.RangeWalk
set_option maxRecDepth 100000
set_option maxHeartbeats 16000000
open Go.Proofs.Tryz
open Bool renaming true->Qa,false->Qe,and_eq_true->QX,and_eq_false_iff->XL
open Go renaming World->Z,Value->I,TypeId->Qb,Addr->Qg,heap_setCell_same->Qh,DataW->Qi,Calls->Qj,cell_of_row->Qq,maxLen->Qu,lt_of_block->Q5,MemPlace->QC,frozen_of_row->QH,zeroValue->QR,bodyPost_ret->QT,results->QU,run_underlying->Xi,run_firstCells_none->Xk,run_append_own_at->Xl,heap_setCell_other->Xr,length_sorted->XC,bytesBefore->XF
open Go.Builtin renaming append_->QQ,lenOf->Xj,len_->XP,delete_->XS
open Go.Ending renaming returned->Qk
open Go.IntKind renaming i64->J
open Go.Maps renaming has->Qy,size->QL,has_put_other->Xc,has_eq->Xd,Canon->Xf,IsMap->X5,atKey_put_same->X7,atKey_put_other->X8,has_put_same->X9,size_eq->XB,ext->XG,has_del_same->XH,has_del_other->XI
open Go.Obj renaming cells->Ql
open Go.Obj.cells renaming injEq->Xe
open Go.Proofs.Tryz renaming prog->Qd,underlying68->QM,func200->QO,ntmps200->QP,results262->QV,func133->Xg,ntmps133->Xh,underlying9->XJ
open Go.Value renaming int->S,string->H,slice->Qc,pointer->Qf,iface->Qn,ownBlock->Qr,tuple->Qv,bool->QN
open Go.WideAt renaming IsKeyLit->QK
open Go.World renaming cell?_setCell_other->Q0,cell?->QE,ownsMap_made->X6
open Go.World.ownsMap renaming canon->XK,lt->XN,lookup->XO,len->XQ,store->XR,drop->XT
open List renaming mem_cons->Qp,pairwise_cons->Qs,mem_cons_self->Qt,mem_cons_of_mem->Qw,length_cons->Qx,length_take->Qz,mem_map->Q3,length_append->Q4,length_pos_iff->Q6,mem_append->Q7,mem_singleton->Q8,any_eq_true->Q9,pairwise_append->QA,mem_filter->QB,length_eq_zero_iff->QF,length_nil->QG,filter_sublist->QI,getElem_take->QS,length_map->QW,pairwise_map->QY,filterMap_cons->QZ,drop_eq_getElem_cons->Xb,map_cons->Xm,getElem_cons_succ->Xn,getElem_cons_zero->Xo,length->Xq,perm_middle->Xt,filter_cons_of_pos->Xv,filter_cons_of_neg->Xw,range->Xx,range'->Xy,getElem?_cons_succ->Xz,getElem?_cons_zero->X0,getD->X1,dropLast_concat->X2,getLast?_concat->X3,getLast?_eq_some_getLast->X4,append_nil->XA,getElem?_take->XD,any_map->XE
open List.Pairwise renaming nil->Xa,sublist->Xu,imp_of_mem->XM
open Nat renaming le_refl->Qm,lt_of_lt_of_le->Q2,zero_add->QD,le_trans->QJ,reduceAdd->Xp,zero_le->Xs
open Option renaming some->O,none->U
open Option.some renaming injEq->Qo,inj->Q1
open Or renaming inl->A,inr->V
namespace Go.Proofs.YtcllhobffhkafaaGreatDoor
open Go.Lib
section
open Go.Extern Go.Extern.Stop Go.RowKit Go.Shelf Go.Sort Go.Stop
def CR (w:Z) (q:Option Qg) (m c:Nat) (ys:List I):Prop :=
 (m=0/\(q=U->c=0))\/∃b o,q=O ⟨b,o,U⟩/\∀j u,ys[j]? =O u->w.cell? ⟨b,o+j,U⟩=O u
theorem CR.below {w w':Z} {q:Option Qg} {m c:Nat} {ys:List I} (h:CR w q m c ys) (d:BL w w'):CR w' q m c ys:=by
 rcases h with h | ⟨b,o,e,h⟩
 ·exact A h
 ·exact V ⟨b,o,e,fun j u hu=>Aa d (h j u hu)⟩
theorem Ih (w:Z) (b:List I) (t:Qb) (m c:Nat):CR (w.alloc (Ql b.toArray t)) (O ⟨w.heap.size,0,U⟩) m c b:=by
 refine V ⟨_,_,rfl,fun j u hj=>?_⟩;rw[QD];have h:=heap_alloc_new w (Ql b.toArray t);unfold QE;dsimp only;rw[h];simpa using hj
theorem Fc {P:Program} (w:Z) (base:Nat) (t T e:Qb) (i:TypeInfo) (z:I) (d k:Nat) (C:P.underlying t=O (.slice e)) (hi:P.info? e=O i) (D:i.zero=O z)
  (r:i.size=d) (E:i.bytes=k) (F:z.cells.size=d) (K:0<d)
  (v:I) (n:Nat) (xs:List I) (l:w.ownsRow base e d v n xs)
  (q:Option Qg) (m c:Nat) (f:List I) (W:f.length=m*d) (X:CR w q m c f) (h1:∀u∈f,u.oneCell'=Qa)
  (L:n+m<=Qu) (p:(n+m)*k<=140737488355328) (s:base<=w.heap.size) :
  ∃v' w',(QQ #[t,t] T #[v,Qc q m c]).run P w= .ok v' w'/\w'.ownsRow base e d v' (n+m) (xs++f)/\w.grownBy w' v.ownBlock/\(v'.ownBlock=v.ownBlock\/v'.ownBlock=O w.heap.size):=by
 rcases X with⟨h0,hc⟩|⟨b,o,rfl,y⟩
 ·subst h0;have B:f= []:=QF.1 (by simpa using W);subst B
  cases q with
  | none =>
   have Y:=hc rfl;subst Y;refine⟨v,w,?_,by simpa using l,⟨rfl,rfl,rfl,Qm _,fun _ _ _=>rfl⟩,A rfl⟩;rcases l.2 with⟨rfl,_⟩|⟨g,aa,ab,rfl,_,_,hn,_⟩
   ·simp[QQ,Xi C,sizeOf,typeInfo,QR,hi,D,Xj,Xk]
   ·simp[QQ,Xi C,sizeOf,typeInfo,QR,hi,D,Xj,Xk,hn,storeCells]
  | some ad =>
   obtain⟨v',w',M,N,Q,_,R⟩:=Xl (P:=P) w base t T e i z d k C hi D r E F K v n xs l ad 0 c [] W (fun j u hj=>by simp at hj) h1 L p s;exact⟨v',w',M,N,Q,R⟩
 ·obtain⟨v',w',M,N,Q,_,R⟩:=Xl (P:=P) w base t T e i z d k C hi D r E F K v n xs l ⟨b,o,U⟩ m c f W (fun j u hj=>by rw[Addr.add_lit];exact y j u hj) h1 L p s;exact⟨v',w',M,N,Q,R⟩
theorem O4 {P:Program} {w:Z} {l:Array Oper} {rest:List Oper} {o:Oper} {a:Act} {Q:Exit->Act->Z->Prop} (y:o.guard=U) (s x:Operand) (t:Qb)
  (R:o.op= .call { callee:=.builtin .append,args:=#[s,x],argTypes:=#[t,t] })
  (base:Nat) (e:Qb) (i:TypeInfo) (z:I) (b f:Nat) (T:P.underlying t=O (.slice e)) (hi:P.info? e=O i) (W:i.zero=O z)
  (j:i.size=b) (B:i.bytes=f) (C:z.cells.size=b) (D:0<b)
  (v:I) (n:Nat) (xs:List I) (X:a.eval s=v) (p:w.ownsRow base e b v n xs)
  (q:Option Qg) (m c:Nat) (d:List I) (Y:a.eval x= .slice q m c) (hl:d.length=m*b) (r:CR w q m c d) (h1:∀u∈d,u.oneCell'=Qa)
  (E:n+m<=Qu) (g:(n+m)*f<=140737488355328) (k:base<=w.heap.size)
  (h:∀v' w',w'.ownsRow base e b v' (n+m) (xs++d)->w.grownBy w' v.ownBlock->(v'.ownBlock=v.ownBlock\/v'.ownBlock=O w.heap.size)->wpList P l Q rest (a.put o.dst v') w') :
  wpList P l Q (o :: rest) a w:=by
 refine wpList_plain y fun K hK=>?_;obtain⟨v',w',F,L,M,N⟩:=Fc (P:=P) w base t o.type e i z b f T hi W j B C D v n xs p q m c d hl r h1 E g k;unfold Oper.wp execOp;simp only[R,resolve,invoke,builtin,Sem.run_bind,Sem.run_pure,Result.andThen_ok,List.map_toArray,Xm,List.map_nil,X,Y,F];exact hK _ _ (h v' w' L M N)
theorem kG {w:Z} {q:Option Qg} {n c:Nat} {d:List Fl} (h:Ai w (Qc q n c) d):CR w q n c (Ay d):=by
 rcases h with⟨p,j,e,f,rfl⟩|⟨b,o,i,e,k,g⟩
 ·simp only[Value.slice.injEq]at e;obtain⟨rfl,rfl,rfl⟩:=e;exact A ⟨rfl,f⟩
 ·simp only[Value.slice.injEq]at e;obtain⟨rfl,rfl,rfl⟩:=e;exact V ⟨b,o,rfl,jF g⟩
theorem kH {w:Z} {b o:Nat} {c:List Fl} (h:F6 w b o c) (n:Nat):F6 w b o (c.take n):=fun j hj=>by
 rw[Qz]at hj;have:=h j (by omega);rw[QS];exact this
def F8 (w:Z) (v:I):Prop:= ∀k,v.ownBlock=O k->w.heap.size<=k
theorem TL {W:Z} {base:Nat} {e:Qb} {b:Nat} {v:I} {n:Nat} {xs:List I} (h:W.ownsRow base e b v n xs):∃q c,v=Qc q n c:=by
 rcases h.2 with⟨rfl,rfl⟩|⟨g,d,f,rfl,_⟩
 ·exact⟨_,_,rfl⟩
 ·exact⟨_,_,rfl⟩
theorem kI {l:List UInt8} (h:(Bc l).length≠6):BZ l=(BC,1):=by
 unfold BZ;split
 ·rename_i e;rw[e]at h;simp at h
 ·rfl
theorem kJ {l p q a b c d:List UInt8} (h:Bc l= [p,q,a,b,c,d]):BZ l=(match At a,At b,At c,At d with
  | some n,O lo,O hi,O seq=>Eg (Ab p,Ab q,n,lo,hi,seq)
  | _,_,_,_=>(BC,1)):=by
 unfold BZ;rw[h];rfl
theorem kK {α:Type} {g:List α} (h:g.length=6):∃a b c d e f,g= [a,b,c,d,e,f]:=by
 match g,h with
 | [a,b,c,d,e,f],_=>exact ⟨a,b,c,d,e,f,rfl⟩
theorem Kk {W:Z} {b R o:Nat} {v c d f g i j:I} (h:b≠R) (k:W.cell? ⟨b,o,U⟩=O v):((((((W.setCell ⟨R,0,U⟩ c).setCell ⟨R,1,U⟩ d).setCell ⟨R,2,U⟩ f).setCell ⟨R,3,U⟩ g).setCell ⟨R,4,U⟩ i).setCell ⟨R,5,U⟩ j).cell? ⟨b,o,U⟩=O v:=by
 rw[Q0 _ _ _ _ (by simp),Q0 _ _ _ _ (by simp),Q0 _ _ _ _ (by simp),Q0 _ _ _ _ (by simp),Q0 _ _ _ _ (by simp),Q0 _ _ _ _ (by simp)];exact k
theorem kM {W w:Z} {R:Nat} {b c d f g i:I} (h:Below R w W):Below R w ((((((W.setCell ⟨R,0,U⟩ b).setCell ⟨R,1,U⟩ c).setCell ⟨R,2,U⟩ d).setCell ⟨R,3,U⟩ f).setCell ⟨R,4,U⟩ g).setCell ⟨R,5,U⟩ i) :=
 (((((h.setCell (Qm _) _).setCell (Qm _) _).setCell (Qm _) _).setCell (Qm _) _).setCell (Qm _) _).setCell (Qm _) _
theorem kN (s:ByteArray) (w:Z) (a:Nat->Qg) (h:Kh w a) (hs:s.size<=100000) :
  Qj Qd 262 #[H s] w fun e w'=>e=Qk (Qv #[A6 (BZ s.data.toList).1,Ae a (BZ s.data.toList).2])/\BL w w':=by
 have aa:BL w (w.alloc (Ql #[H ⟨#[]⟩,H ⟨#[]⟩,S J 0,S J 0,S J 0,S J 0] 77)):=Af _ _;have af:A1 (w.alloc (Ql #[H ⟨#[]⟩,H ⟨#[]⟩,S J 0,S J 0,S J 0,S J 0] 77)) w.heap.size BC:=A1.new w BC;have ag:=JX s _ a (h.below aa).weak (by omega);generalize hR:BZ s.data.toList=R;have HR:Hid (BZ s.data.toList=R):=hR;clear hR;have ah:=JW s.data.toList;have m:Hid (∀W,A1 W w.heap.size BC->(W.cell? ⟨w.heap.size,0,U⟩=O (H ⟨#[]⟩)/\W.cell? ⟨w.heap.size,1,U⟩=O (H ⟨#[]⟩)/\W.cell? ⟨w.heap.size,2,U⟩=O (S J 0)/\W.cell? ⟨w.heap.size,3,U⟩=O (S J 0)/\W.cell? ⟨w.heap.size,4,U⟩=O (S J 0)/\W.cell? ⟨w.heap.size,5,U⟩=O (S J 0)/\∀o,W.frozen? ⟨w.heap.size,o,U⟩=Qe)):=fun W hW=>hW.cells
 go_enter func262,ntmps262
 go_wp2_with fail
 generalize w.alloc (Ql #[H ⟨#[]⟩,H ⟨#[]⟩,S J 0,S J 0,S J 0,S J 0] 77)=WA at aa af ag ⊢;refine ag.mono ?_;rintro e w1 ⟨v1,ts,rfl,a4,E,ap⟩;clear ag;have ab:BL w w1:=Ad aa ap;have ar:Hid (A1 w1 w.heap.size BC):=af.below ap;clear af ap aa;obtain⟨b,rfl,d⟩:=a4;by_cases h6:ts.length=6
 ·obtain⟨P,Q,c,B,C,D,rfl⟩:=kK h6;have hw:Bc s.data.toList= [P.data.toList,Q.data.toList,c.data.toList,B.data.toList,C.data.toList,D.data.toList]:=by rw[<-E];rfl
  have ai:=HR.out;rw[kJ hw,D7,D7]at ai;have ac:∀t∈ [P,Q,c,B,C,D],t.size<=100000:=fun t k=>by
   have:=ah t.data.toList (by rw[<-E];exact Q3.2 ⟨t,k,rfl⟩);rw[AC,AC]at this;omega
  have hP:=ac P (by simp);have hQ:=ac Q (by simp);have c0:=d 0 (by simp);have c1:=d 1 (by simp);have c2:=d 2 (by simp);simp only[Xn,Xo]at c0 c1 c2;have aj:=NO b 2 4 [c,B,C,D] w1 a (h.below ab).weak (fun j hj=>by
   have a0:j+2 < [P,Q,c,B,C,D].length:=by simp at hj ⊢;omega
   have:=d (j+2) a0;rw[Nat.add_comm 2 j];simpa using this) (fun t k=>by
    have:=ac t (Qw _ (Qw _ k));unfold Qu;omega) (by simp)
  have ad:Hid ((match At c.data.toList,At B.data.toList,At C.data.toList,At D.data.toList with
   | some n,O lo,O hi,O z=>Eg (P,Q,n,lo,hi,z)
   | _,_,_,_=>(BC,1))=R):=ai
  clear hw E ah d h6 ac ai;simp only[Qx,QG,QD,Xp]at aj ⊢
  go_wp2_with fail
  refine aj.mono ?_;rintro e q ⟨az,p⟩;clear aj;have r:BL w q:=Ad ab p;have ae:Hid (A1 q w.heap.size BC):=ar.out.below p;rcases az with⟨zs,g,ax,F,rfl,K⟩|⟨j,t,k,M,rfl⟩
  ·obtain⟨n,lo,hi,z,a3⟩:∃T X Y z3,zs= [T,X,Y,z3]:=by
    match zs,ax with
    | [T,X,Y,z3],_=>exact ⟨T,X,Y,z3,rfl⟩
   subst a3;have HX:Hid (Eg (P,Q,n,lo,hi,z)=R):=by
    show _=_;rw[<-ad.out];have q0:=F 0 c rfl;have q1:=F 1 B rfl;have q2:=F 2 C rfl;have q3:=F 3 D rfl;rw[q0,q1,q2,q3];rfl
   have d0:=Aa p c0;have d1:=Aa p c1;have k0:=K 0 (by simp);have k1:=K 1 (by simp);have k2:=K 2 (by simp);have k3:=K 3 (by simp);simp only[Xn,Xo]at k0 k1 k2 k3;have u:=fun W (hW:Hb W a)=>O1 (P,Q,n,lo,hi,z) W a hW hP hQ;rw[HX.out]at u;unfold A6 at u;obtain⟨⟨rp,rq,rn,an,ao,N⟩,rE⟩:=R;dsimp only at u;have ak:b≠w.heap.size:=fun e=>by
    have e2:=(m.out q ae.out).2.2.1;rw[<-e]at e2;have:=(Aa p c2).symm.trans e2;simp at this
   have y:g≠w.heap.size:=fun e=>by
    have e2:=(m.out q ae.out).1;rw[<-e]at e2;have:=k0.symm.trans e2;simp at this
   have a5:¬w.heap.size=b:=fun e=>ak e.symm;have a6:¬w.heap.size=g:=fun e=>y e.symm;have al:BL q q.drew:=(Below.refl _ _).drew;have au:=ae.out.below al;have av:Hid (A1 q.drew w.heap.size BC):=au;have ay:=u q.drew (h.below (Ad r al)).file;clear F K ax c0 c1 c2 p ad u au al;simp only[Qx,QG,QD,Xp]
   go_wp2_with fail
   go_region_held3 (fun w'=>w'.cell? ⟨b,0,U⟩=O (H P)/\w'.cell? ⟨b,1,U⟩=O (H Q)/\w'.cell? ⟨g,0,U⟩=O (S J n)/\w'.cell? ⟨g,1,U⟩=O (S J lo)/\w'.cell? ⟨g,2,U⟩=O (S J hi)/\w'.cell? ⟨g,3,U⟩=O (S J z)/\BL w w')
    (first
     | (go_split_ands;with_reducible exact⟨Aa i (by assumption),Aa i (by assumption),Aa i (by assumption),Aa i (by assumption),Aa i (by assumption),Aa i (by assumption),Below.trans (by assumption) (i.mono (Below.size (by assumption)))⟩)
     | (go_split_ands;with_reducible exact⟨Kk ak (by assumption),Kk ak (by assumption),Kk y (by assumption),Kk y (by assumption),Kk y (by assumption),Kk y (by assumption),kM (by assumption)⟩)
     | (go_split_ands;exact⟨by go_keep,by go_keep,by go_keep,by go_keep,by go_keep,by go_keep,Below.drew (by assumption)⟩))
    (first
     | (go_at_call 242;refine ay.mono ?_;rintro e w5 ⟨rfl,i⟩;obtain⟨y0,y1,y2,y3,y4,y5,yf⟩:=m.out w5 (av.out.below i)))
   go_split_ands;have aw:=av.out.below i;have a1:BL w w5:=r.drew.trans (i.mono r.drew.size);obtain⟨T,X,Y,z3,z4,z5,_⟩:=(aw.set (rp,rq,rn,an,ao,N)).cells;have am:=Mx (f:=(rp,rq,rn,an,ao,N)) a1 (Qm w.heap.size);unfold Jq at T X Y z3 z4 z5 am;dsimp only at T X Y z3 z4 z5 am;clear aw;go_wp2;exact QT (v:=Qv #[.agg #[H rp,H rq,S J rn,S J an,S J ao,S J N],Ae a rE]) (by simp[QU,QV,go_sem,T,X,Y,z3,z4,z5]) rfl ⟨rfl,am⟩
  ·have aq:R=(BC,1):=by
    rw[<-ad.out]
    match j,k with
    | 0,k=>rw [Q1 k,M]
    | 1,k=>rw [Q1 k,M];split<;>simp_all
    | 2,k=>rw [Q1 k,M];split<;>simp_all
    | 3,k=>rw [Q1 k,M];split<;>simp_all
   subst aq;clear ad k M c0 c1;have et:=(h.below r).text;obtain⟨y0,y1,y2,y3,y4,y5,yf⟩:=m.out q ae.out;have s0:=Ah y0;have s1:=Ah y1;have s2:=Ah y2;have s3:=Ah y3;have s4:=Ah y4;have s5:=Ah y5;go_wp2
   go_region
   all_goals go_wp2
   all_goals exact QT (v:=Qv #[.agg #[H ⟨#[]⟩,H ⟨#[]⟩,S J 0,S J 0,S J 0,S J 0],Qn 410 (Qf (O (a 0)))]) (by simp[QU,QV,go_sem,y0,y1,y2,y3,y4,y5]) rfl ⟨rfl,r.drew⟩
 ·have a2:=HR.out.symm.trans (kI (l:=s.data.toList) (fun e=>h6 (by rw[<-e,<-E,QW])));subst a2;generalize ts.length=L at h6 ⊢;have a7:¬(L:Int)=6:=by omega
  clear E ah d h6 HR;have et:=(h.below ab).text;obtain⟨y0,y1,y2,y3,y4,y5,yf⟩:=m.out w1 ar.out;have s0:=Ah y0;have s1:=Ah y1;have s2:=Ah y2;have s3:=Ah y3;have s4:=Ah y4;have s5:=Ah y5;go_wp2
  go_region
  all_goals go_wp2
  all_goals exact QT (v:=Qv #[.agg #[H ⟨#[]⟩,H ⟨#[]⟩,S J 0,S J 0,S J 0,S J 0],Qn 410 (Qf (O (a 0)))]) (by simp[QU,QV,go_sem,y0,y1,y2,y3,y4,y5]) rfl ⟨rfl,ab.drew⟩
def Kl (ps:List (List UInt8)):Nat:=if ps.getLastD []= [] then ps.length-1 else ps.length
theorem TM (s:List UInt8):Cu s=if 60<Kl (Ax 10 s) then ([],8,U) else
 if (AV B2 (Ax 10 s) 0 []).2.1≠0 then ([],(AV B2 (Ax 10 s) 0 []).2.1,O (AV B2 (Ax 10 s) 0 []).2.2) else ((AV B2 (Ax 10 s) 0 []).1,0,U):=rfl
theorem kO (l:List UInt8) (n:Nat) (b:List Fl):AV B2 [l] n b=if l= [] then (b,0,0) else ([],1,n):=rfl
theorem kP (l c:List UInt8) (r:List (List UInt8)) (n:Nat) (b:List Fl):AV B2 (l :: c :: r) n b=if (BZ l).2≠0 then ([],(BZ l).2,n) else
 if b≠ []/\decide (fk (BZ l).1<=fk (b.getLastD BC))=Qa then ([],9,n) else AV B2 (c :: r) (n+1) (b++ [(BZ l).1]):=rfl
theorem TN (l:List UInt8) (h:(BZ l).2=0):Au (BZ l).1=0:=by
 unfold BZ at h ⊢;split at h
 ·split at h
  ·rename_i n d f c _ _ _ _;unfold Eg at h ⊢;split at h
   ·rename_i b;simp only[b,if_true]
   ·rename_i b;exact absurd h b
  ·cases h
 ·cases h
theorem TO {f:Fl} (h:Au f=0):f.1.size<=16:=by
 obtain⟨g,n,d,_⟩:=D0 h;obtain⟨e,_,i⟩:=Ew d;simp only[Do,QX,decide_eq_true_eq]at i;have j:=Jg n (by omega) (by omega);have b:(AH g).length=4:=by cases g<;>rfl
 have c:=congrArg Xq e;rw[Q4,Qx,b,AC]at c;omega
theorem Ao.fz {W:Z} {b:Nat} {s:Sn} {vf:I} (h:Ao W b s vf) (o:Nat):W.frozen? ⟨b,o,U⟩=Qe:=QH _ _ _ _ _ h
def Gi (W:Z) (b:Nat) (s:Sn) (vf:I):Z:=((((((W.setCell ⟨b,0,U⟩ (S J s.1)).setCell ⟨b,1,U⟩ (S J s.2.1)).setCell ⟨b,2,U⟩ (S J s.2.2.1)).setCell ⟨b,3,U⟩ (S J s.2.2.2.1)).setCell ⟨b,4,U⟩ (S J s.2.2.2.2.1)).setCell ⟨b,5,U⟩ (H s.2.2.2.2.2.1)).setCell ⟨b,6,U⟩ vf
theorem Ao.set {W:Z} {b:Nat} {s:Sn} {vf:I} (h:Ao W b s vf) (d:Sn) (c:I):Ao (Gi W b d c) b d c:=by
 unfold Ao Gi at *;rw[Qh _ _ _ _ _ _ (Qh _ _ _ _ _ _ (Qh _ _ _ _ _ _ (Qh _ _ _ _ _ _ (Qh _ _ _ _ _ _ (Qh _ _ _ _ _ _ (Qh _ _ _ _ _ _ h))))))];rfl
theorem Mz {W d:Z} {B b:Nat} {s:Sn} {vf:I} (h:Below B d W) (c:B<=b):Below B d (Gi W b s vf):=((((((h.setCell c _).setCell c _).setCell c _).setCell c _).setCell c _).setCell c _).setCell c _
theorem TP {W:Z} {F G:Nat} {s:Sn} {vf:I} (h:Ao W F s vf) (b:G≠F) (o:Nat) (z:I):Ao (W.setCell ⟨G,o,U⟩ z) F s vf:=(Xr _ _ _ _ (fun e=>b e.symm)).trans h
def TQ (v:I) (fs:List Fl) (R:Nat):Prop:= ∀b o c n,v=Qc (O ⟨b,o,U⟩) n c->fs≠ []->b≠R
theorem Jr {W:Z} {R:Nat} {s:Sn} {q:Option Qg} {n c:Nat} {v:I} {j:List Fl} (h:Ao W R s (Qc q n c)) (r:Ai W v j):TQ v j R:=by
 intro b o t u i g e;subst e;rcases r with⟨_,_,_,_,e⟩|⟨y,l,z,m,_,p⟩
 ·exact g e
 ·rw[m]at i;injection i with e3;injection e3 with e3;injection e3 with e3 e4;subst e3;subst e4;obtain⟨d,f,_⟩:=p 0 (Q6.2 g);rw[Qq _ _ _ _ _ _ h]at d f
  match l,d,f with
  | 0,d,_=>simp at d
  | 1,d,_=>simp at d
  | 2,d,_=>simp at d
  | 3,d,_=>simp at d
  | 4,d,_=>simp at d
  | 5,_,f=>simp at f
  | 6,d,_=>simp at d
  | k+7,d,_=>simp at d
theorem Ai.set_off {W:Z} {R:Nat} {v:I} {g:List Fl} (h:Ai W v g) (B:TQ v g R) (k:Nat) (z:I):Ai (W.setCell ⟨R,k,U⟩ z) v g:=by
 rcases h with h | ⟨b,o,c,i,u,y⟩
 ·exact A h
 ·by_cases f:g= []
  ·exact A ⟨O ⟨b,o,U⟩,c,by rw[i,f];rfl,fun e=>(nomatch e),f⟩
  ·have l:=B b o c _ i f;have d:∀p,(W.setCell ⟨R,k,U⟩ z).cell? ⟨b,p,U⟩=W.cell? ⟨b,p,U⟩:=fun p=>Q0 _ _ _ _ (by intro e;injection e with e;exact l e.symm);refine V ⟨b,o,c,i,u,fun j hj=>?_⟩;obtain⟨m,n,q,r,s,t⟩:=y j hj;exact⟨(d _).trans m,(d _).trans n,(d _).trans q,(d _).trans r,(d _).trans s,(d _).trans t⟩
theorem kQ {l:List UInt8} (h:20000<l.length):H8 l=(AE,2,U):=by unfold H8;rw[if_pos h]
theorem kR {a:List UInt8} (h:(Bc a).length≠8):Fw a=U:=by
 unfold Fw;split
 ·rename_i e;rw[e]at h;simp at h
 ·rfl
theorem kS {α:Type} {l:List α} (h:l.length=8):∃a b c d e f g i,l= [a,b,c,d,e,f,g,i]:=by
 match l,h with
 | [a,b,c,d,e,f,g,i],_=>exact ⟨a,b,c,d,e,f,g,i,rfl⟩
theorem kT {α:Type} {l:List α} (h:l.length=5):∃a b c d e,l= [a,b,c,d,e]:=by
 match l,h with
 | [a,b,c,d,e],_=>exact ⟨a,b,c,d,e,rfl⟩
theorem kU {a:List UInt8} {k w1 b c d f i j:List UInt8} (h:Bc a= [k,w1,b,c,d,f,i,j]):Fw a=match H3 w1 b c d f j with
  | some (x1,x2,x3,x4,x5,g)=>if k=Gc then O (x1,x2,x3,x4,x5,i,g) else U
  | none=>U:=by
 unfold Fw;rw[h];rfl
theorem TR {w1 b c d f g:List UInt8} (h:At w1=U\/At b=U\/At c=U\/At d=U\/At f=U\/At g=U):H3 w1 b c d f g=U:=by
 unfold H3;split
 ·rename_i i j k l m n;rw[i,j,k,l,m,n]at h;simp at h
 ·rfl
theorem kV {w1 b c d f i:List UInt8} {j k l m n g:Int} (o:At w1=O j) (p:At b=O k) (q:At c=O l) (r:At d=O m) (s:At f=O n) (t:At i=O g):H3 w1 b c d f i=O (j,k,l,m,n,g):=by
 unfold H3;rw[o,p,q,r,s,t]
theorem TS:∀(ps:List (List UInt8)) (n:Nat) (acc:List Fl),(∀g∈acc,Au g=0)->∀g∈(AV B2 ps n acc).1,Au g=0
 | [],n,acc,h=>by
  intro g b
  first | exact h g b | simp at b
 | [l],n,acc,h=>by
  intro g b;rw[kO]at b;split at b
  ·exact h g b
  ·simp at b
 | l :: l2 :: r,n,acc,h=>by
  intro g b;rw[kP]at b;split at b
  ·simp at b
  ·rename_i d;split at b
   ·simp at b
   ·refine TS (l2 :: r) (n+1) (acc++ [(BZ l).1]) (fun x c=>?_) g b;rw[Q7,Q8]at c;rcases c with c | rfl
    ·exact h x c
    ·exact TN l (by simpa using d)
theorem kW (b:List UInt8):∀f∈(Cu b).1,Au f=0:=by
 intro f c;rw[TM]at c;split at c
 ·simp at c
 ·split at c
  ·simp at c
  ·exact TS (Ax 10 b) 0 [] (by simp) f c
def AZ (W:Z) (a:Nat->Qg) (ev:I) (c:Nat×Option Nat):Prop:=match c.2 with
 | none=>ev=Ae a c.1
 | some j=>c.1≠0/\∃fb,ev=Qn 140 (Qf (O ⟨fb,0,U⟩))/\W.cell? ⟨fb,0,U⟩=O (S J j)/\W.cell? ⟨fb,1,U⟩=O (Ae a c.1)
theorem AZ.ok {W:Z} {a:Nat->Qg} {b:I} {c:Nat×Option Nat} (h:AZ W a b c) (d:c.1=0):b= .nilIface:=by
 obtain⟨n,o⟩:=c;subst d
 cases o with
 | none=>exact h
 | some j=>exact absurd rfl h.1
theorem AZ.bad {W:Z} {a:Nat->Qg} {b:I} {c:Nat×Option Nat} (h:AZ W a b c) (d:c.1≠0):∃t u,b=Qn t u:=by
 obtain⟨n,o⟩:=c
 cases o with
 | none =>
  cases n with
  | zero=>exact absurd rfl d
  | succ n=>exact ⟨_,_,h⟩
 | some j =>
  obtain⟨_,f,h,_⟩:=h;exact⟨_,_,h⟩
def Ej (fs:List Fl):Prop:= ∀g∈fs,g.1.size<=30/\g.2.1.size<=30
def He (W:Z) (f:Fl):Z:=W.alloc (Ql #[H f.1,H f.2.1,S J f.2.2.1,S J f.2.2.2.1,S J f.2.2.2.2.1,S J f.2.2.2.2.2] 77)
theorem Js (W:Z) (f:Fl):A1 (He W f) W.heap.size f:=A1.new W f
theorem I6 (W:Z) (f:Fl):BL W (He W f):=Af _ _
theorem kX {w:Z} {b o c:Nat} {d:List Fl} (h:F6 w b o d) {n:Nat} (f:n<=d.length) (g:d.length<=c):Ai w (Qc (O ⟨b,o,U⟩) n c) (d.take n):=by
 refine V ⟨b,o,c,?_,?_,kH h n⟩
 ·rw[Qz,Nat.min_eq_left f]
 ·rw[Qz];omega
def F9 (w:Z) (v:I):Prop:= ∀k,v.ownBlock=O k->w.heap.size<=k
theorem O5 (w:Z):F9 w (Qc U 0 0):=fun k hk=>by simp[Qr]at hk
theorem Jt {w:Z} {B:Nat} {e:Qb} {z:Nat} {v:I} {n:Nat} {xs:List I} (h:w.ownsRow B e z v n xs) {k:Nat} (b:v.ownBlock=O k):B<=k:=by
 rcases h.2 with⟨rfl,_⟩|⟨g,d,f,rfl,c,_⟩
 ·simp[Qr]at b
 ·simp only[Qr,Qo]at b;exact b▸c
def Km:Sn:=(1,0,0,0,0,⟨#[115,116,97,114,116]⟩, [])
theorem kY {f:Fl} (h:Au f=0):0<=f.2.2.1/\f.2.2.1<=40/\∃g n,AB f.1.data.toList=O (g,n)/\(g=Qa↔f.2.1.data.toList= [45]):=by
 obtain⟨g,n,d,b,i⟩:=D0 h;have c:=i;unfold Db at c;simp only[QX,decide_eq_true_eq]at c;refine⟨by omega,by omega,g,n,d,?_⟩;unfold Dz at b;cases g
 ·simp only[Bool.false_eq_true,if_false,false_iff]at b ⊢;intro e;rw[e]at b;revert b;decide
 ·simp only[if_true,decide_eq_true_eq,true_iff]at b ⊢;exact b
theorem kZ (b:List UInt8):(Cu b).1.length<=60:=by
 obtain⟨c,j⟩:∃c,(if (Ax 10 b).getLastD []= [] then (Ax 10 b).length-1 else (Ax 10 b).length)=c:=⟨_,rfl⟩;have k:(Ax 10 b).length-1<=c:=by rw[<-j];split<;>omega
 unfold Cu;rw[j];by_cases f:60<c
 ·rw[if_pos f];exact Xs _
 ·rw[if_neg f];by_cases d:(AV B2 (Ax 10 b) 0 []).2.1=0
  ·rw[if_neg (by simpa using d)];have g:=Oc 10 b;have i:Ax 10 b≠ []:=by intro e;rw[e]at g;simp at g
   have:=Sz B2 (Ax 10 b) 0 [] i d;simp only[QG]at this;show (AV B2 (Ax 10 b) 0 []).1.length<=_;omega
  ·rw[if_pos d];exact Xs _
end
section
open Go
abbrev Tx:=Sn×List Fl×List ByteArray
def Bk (f:Fl) (n:Int):Fl:=(f.1,f.2.1,f.2.2.1,f.2.2.2.1,f.2.2.2.2.1,n)
def BU (fs:List Fl) (p:ByteArray):Bool:=fs.any fun f=>decide (f.1=p)
def AQ (ts:List ByteArray) (p:ByteArray):Bool:=ts.any fun t=>decide (t=p)
theorem O6 {b:List Fl} {p:ByteArray} :BU b p=Qa↔∃f∈b,f.1=p:=by simp[BU]
theorem Ju {b:List ByteArray} {p:ByteArray} :AQ b p=Qa↔p∈b:=by
 simp only[AQ,Q9,decide_eq_true_eq];exact⟨fun ⟨x,hx,e⟩=>e▸hx,fun h=>⟨p,h,rfl⟩⟩
theorem Kn {b:List ByteArray} {p:ByteArray} :AQ b p=Qe↔p∉b:=by
 rw[<-Ju];simp
theorem O7 {b:List Fl} {p:ByteArray} :BU b p=Qe↔∀f∈b,f.1≠p:=by
 simp[BU]
theorem O8 (b:List Fl) (p:ByteArray):decide (0<=Dp b p)=BU b p:=by
 by_cases h:∃f∈b,f.1=p
 ·have l:∃n,∃h:n<b.length,b[n].1=p/\∀j (c:j<b.length),j<n->b[j].1≠p:=by
   obtain⟨f,k,e⟩:=h;obtain⟨i,q,rfl⟩:=List.mem_iff_getElem.1 k;clear k
   induction i using Nat.strongRecOn with
   | ind i ih =>
    by_cases o:∃j,∃c:j<b.length,j<i/\b[j].1=p
    ·obtain⟨j,c,g,m⟩:=o;exact ih j g c m
    ·exact⟨i,q,e,fun j c g m=>o ⟨j,c,g,m⟩⟩
  obtain⟨n,l,e,d⟩:=l;rw[My l d e,O6.2 h];simp
 ·have d:∀f∈b,f.1≠p:=fun f k e=>h ⟨f,k,e⟩;rw[T9 (fun j c=>d _ (List.getElem_mem c)),O7.2 d];rfl
def FA (t:Tx) (f:Fl):Nat:=if Au (Bk f 1)≠0 then Au (Bk f 1) else if BU t.2.1 f.1=Qa then 7 else 0
def Hf (t:Tx) (f:Fl):Tx:=if FA t f=0 then (t.1,t.2.1++ [Bk f 1],t.2.2) else t
def Hg (t:Tx) (p:ByteArray):Nat:=if BU t.1.2.2.2.2.2.2 p=Qe then 6 else if AQ t.2.2 p=Qa then 7 else 0
def Hh (t:Tx) (p:ByteArray):Tx:=if Hg t p=0 then (t.1,t.2.1,t.2.2++ [p]) else t
def I7 (t:Tx) (now:Sn) (f:Fl):Int:=if 0<t.2.2.length/\f.2.1.data.toList≠ [45] then t.1.2.2.1 else now.2.2.1+1
def Bd (t:Tx) (now:Sn):List Fl:=t.2.1.map fun f=>Bk f (I7 t now f)
def BA (t:Tx) (now:Sn):List Fl:=now.2.2.2.2.2.2.filter fun f=> !AQ t.2.2 f.1
def CH (t:Tx) (now:Sn):List Fl:=(Bd t now).foldl Fv (BA t now)
def O9 (t:Tx):Bool:=t.2.1.any fun f=>decide (f.2.1.data.toList= [45])
def I8 (t:Tx):ByteArray:=if 0<t.2.2.length then Ab Jk else if O9 t=Qa then Ab Jj else Ab Ji
def FB (t:Tx) (now:Sn) (id day idx:Int):Sn:=(id,now.1,now.2.2.1+1,day,idx,I8 t,CH t now)
def Jv (t:Tx) (now:Sn):Bool:=t.2.2.any fun p=> !BU now.2.2.2.2.2.2 p
def FC (t:Tx) (now:Sn):Bool:=t.2.1.any fun f=>BU now.2.2.2.2.2.2 f.1
def Dg (t:Tx) (now:Sn) (id day idx:Int):Nat×Option Nat :=
 if (Am now).1≠0 then Am now else if Jv t now=Qa then (11,U) else if FC t now=Qa then (7,U) else ((Am (FB t now id day idx)).1,U)
def Dq (t:Tx) (now:Sn) (id day idx:Int):Sn:=if (Dg t now id day idx).1=0 then FB t now id day idx else AE
structure Cn (t:Tx):Prop where
 base:(Am t.1).1=0
 adds:∀f∈t.2.1,Au f=0
 apart:t.2.1.Pairwise fun f g=>f.1≠g.1
 rems:∀p∈t.2.2,BU t.1.2.2.2.2.2.2 p=Qa
 ones:t.2.2.Pairwise (· ≠ ·)
theorem lC {s:Sn} (h:(Am s).1=0):Cn (s, [], []):=⟨h,by simp,by simp,by simp,by simp⟩
theorem lD {t:Tx} {f:Fl} (h:FA t f=0):Au (Bk f 1)=0/\BU t.2.1 f.1=Qe:=by
 unfold FA at h;split at h
 ·rename_i b;exact absurd h b
 ·rename_i b;split at h
  ·cases h
  ·rename_i c;exact⟨by simpa using b,by simpa using c⟩
theorem Cn.add {t:Tx} (h:Cn t) (f:Fl):Cn (Hf t f):=by
 unfold Hf;split
 ·rename_i i;obtain⟨c,d⟩:=lD i;refine⟨h.base,fun g b=>?_,?_,h.rems,h.ones⟩
  ·rw[Q7,Q8]at b;rcases b with b | rfl
   ·exact h.adds g b
   ·exact c
  ·rw[QA];refine⟨h.apart,by simp,fun g b k hk=>?_⟩;rw[Q8]at hk;subst hk;exact O7.1 d g b
 ·exact h
theorem lE {t:Tx} {p:ByteArray} (h:Hg t p=0):BU t.1.2.2.2.2.2.2 p=Qa/\AQ t.2.2 p=Qe:=by
 unfold Hg at h;split at h
 ·cases h
 ·rename_i b;split at h
  ·cases h
  ·rename_i c;exact⟨by simpa using b,by simpa using c⟩
theorem Cn.rem {t:Tx} (h:Cn t) (p:ByteArray):Cn (Hh t p):=by
 unfold Hh;split
 ·rename_i f;obtain⟨c,d⟩:=lE f;refine⟨h.base,h.adds,h.apart,fun q b=>?_,?_⟩
  ·rw[Q7,Q8]at b;rcases b with b | rfl
   ·exact h.rems q b
   ·exact c
  ·rw[QA];refine⟨h.ones,by simp,fun q b k hk=>?_⟩;rw[Q8]at hk;subst hk;intro e;subst e;exact Kn.1 d b
 ·exact h
def E6 (fs:List Fl):Prop:=fs.Pairwise fun f g=>fk f<fk g
theorem lF (g:Fl) (r:List Fl) (f:Fl):Fv (g :: r) f=if fk g<fk f then g :: Fv r f else f :: g :: r:=by
 unfold Fv;by_cases h:fk g<fk f
 ·rw[if_pos h,List.takeWhile_cons_of_pos (by simpa using h),List.dropWhile_cons_of_pos (by simpa using h)];rfl
 ·rw[if_neg h,List.takeWhile_cons_of_neg (by simpa using h),List.dropWhile_cons_of_neg (by simpa using h)];rfl
theorem TU (b:List Fl) (f:Fl):(Fv b f).Perm (f :: b):=by
 unfold Fv;have h:b=b.takeWhile (fun g=>decide (fk g<fk f))++b.dropWhile (fun g=>decide (fk g<fk f)):=by rw[List.takeWhile_append_dropWhile]
 conv=>rhs;rw[h]
 exact Xt
theorem TV {b:List Fl} {f x:Fl} :x∈Fv b f↔x=f\/x∈b:=by
 rw[(TU b f).mem_iff,Qp]
theorem OA:∀ {fs:List Fl} {f:Fl},E6 fs->(∀g∈fs,fk g≠fk f)->E6 (Fv fs f)
 | [],f,_,_=>by simp[E6,Fv]
 | g :: r,f,h,hn=>by
  have d:=Qs.1 h;have i:=hn g Qt;rw[lF];split
  ·rename_i c;refine Qs.2 ⟨fun x b=>?_,OA d.2 fun x b=>hn x (Qw _ b)⟩;rcases TV.1 b with rfl | b
   ·exact c
   ·exact d.1 x b
  ·rename_i c;refine Qs.2 ⟨fun x b=>?_,h⟩;rw[Qp]at b;rcases b with rfl | b
   ·omega
   ·have:=d.1 x b;omega
theorem Jw:∀(ys xs:List Fl),(ys.foldl Fv xs).Perm (xs++ys)
 | [],xs=>by simp
 | y :: ys,xs=>by
  refine(Jw ys (Fv xs y)).trans ?_;refine((TU xs y).append_right ys).trans ?_;simpa using (Xt (a:=y) (l₁:=xs) (l₂:=ys)).symm
theorem TW:∀(ys xs:List Fl),E6 xs->(xs++ys).Pairwise (fun f g=>fk f≠fk g)->E6 (ys.foldl Fv xs)
 | [],xs,h,_=>h
 | y :: ys,xs,h,hp=>by
  have d:=QA.1 hp;have c:∀g∈xs,fk g≠fk y:=fun g b=>d.2.2 g b y Qt;refine TW ys (Fv xs y) (OA h c) ?_;have i:=Qs.1 d.2.1;rw[QA];refine⟨(OA h c).imp fun h'=>by omega,i.2,fun g b k hk=>?_⟩;rcases TV.1 b with rfl | b
  ·exact i.1 k hk
  ·exact d.2.2 g b k (Qw _ hk)
theorem TY:∀ {xs ys:List Fl},E6 xs->E6 ys->xs.Perm ys->xs=ys
 | [],ys,_,_,h=>(List.nil_perm.1 h).symm
 | x :: xs, [],_,_,h=>absurd h.length_eq (by simp)
 | x :: xs,y :: ys,hx,hy,h=>by
  have f:=Qs.1 hx;have g:=Qs.1 hy;have e:x=y:=by
   have c:x∈y :: ys:=h.mem_iff.1 Qt;have d:y∈x :: xs:=h.mem_iff.2 Qt;rw[Qp]at c d;rcases c with c | c
   ·exact c
   ·rcases d with d | d
    ·exact d.symm
    ·have a:=g.1 x c;have b:=f.1 y d;omega
  subst e;rw[TY f.2 g.2 h.cons_inv]
theorem Jy {s:Sn} (h:(Am s).1=0):s.2.2.2.2.2.2.length<=60/\Eh 0 s.2.2.2.2.2.2:=GW.1 (GX h).2.2.1
theorem TZ {f g:Fl} (c:AB f.1.data.toList≠U) (d:AB g.1.data.toList≠U) (h:f.1≠g.1):fk f≠fk g:=fun e=>h (by
 have b:=fF c d e;have:Ab f.1.data.toList=Ab g.1.data.toList:=by rw[b]
 rwa [D7,D7]at this)
theorem Ua {t:Tx} {b:Sn} (d:Cn t) (u:(Am b).1=0) (q:FC t b=Qe) :
  (∀f∈BA t b++Bd t b,AB f.1.data.toList≠U)/\(BA t b++Bd t b).Pairwise (fun f g=>fk f≠fk g)/\E6 (BA t b):=by
 obtain⟨_,o,p⟩:=Jy u;have i:∀f∈BA t b,f∈b.2.2.2.2.2.2:=fun f hf=>(QB.1 hf).1;have j:∀f∈Bd t b,∃g∈t.2.1,g.1=f.1:=fun f hf=>by
  obtain⟨g,c,rfl⟩:=Q3.1 hf;exact⟨g,c,rfl⟩
 have l:∀f∈BA t b,AB f.1.data.toList≠U:=fun f hf=>H1 (o f (i f hf)).1;have m:∀f∈Bd t b,AB f.1.data.toList≠U:=fun f hf=>by
  obtain⟨g,c,e⟩:=j f hf;rw[<-e];exact H1 (d.adds g c)
 have n:E6 (BA t b):=Xu QI p;refine⟨fun f hf=>?_,?_,n⟩
 ·rcases Q7.1 hf with h | h
  ·exact l f h
  ·exact m f h
 ·rw[QA];refine⟨n.imp fun h=>by omega,?_,fun f hf g c=>?_⟩
  ·refine QY.2 ?_;refine XM (fun {f g} hf c h=>?_) d.apart;exact TZ (f:=Bk f _) (g:=Bk g _) (show AB f.1.data.toList≠U from H1 (d.adds f hf)) (show AB g.1.data.toList≠U from H1 (d.adds g c)) h
  ·refine TZ (l f hf) (m g c) fun e=>?_;obtain⟨k,r,s⟩:=j g c;have:FC t b=Qa:=by
    simp only[FC,Q9];exact⟨k,r,O6.2 ⟨f,i f hf,by rw[e,s]⟩⟩
   rw[q]at this;cases this
theorem Ub {t:Tx} {b:Sn} (g:Cn t) (i:(Am b).1=0) (c:FC t b=Qe):E6 (CH t b):=by
 obtain⟨_,d,f⟩:=Ua g i c;exact TW _ _ f d
theorem lG {t:Tx} {b:Sn} (d:Cn t) (f:(Am b).1=0) (c:FC t b=Qe) {ys:List Fl} (g:ys.Perm (BA t b++Bd t b)) (i:E6 ys):ys=CH t b :=
 TY i (Ub d f c) (g.trans (Jw _ _).symm)
theorem OC {t:Tx} {b:Sn} {x:Fl} :x∈CH t b↔(x∈b.2.2.2.2.2.2/\x.1∉t.2.2)\/x∈Bd t b:=by
 unfold CH;rw[(Jw _ _).mem_iff,Q7];unfold BA;rw[QB];simp only[Bool.not_eq_true',Kn]
theorem Jz {t:Tx} {b:Sn} {d day c:Int} (h:(Dg t b d day c).1=0):(Am b).1=0/\Jv t b=Qe/\FC t b=Qe/\(Am (FB t b d day c)).1=0/\Dq t b d day c=FB t b d day c:=by
 have f:=h;unfold Dg at h;split at h
 ·rename_i g;exact absurd h g
 ·rename_i i;split at h
  ·cases h
  ·rename_i j;split at h
   ·cases h
   ·rename_i k;exact⟨by simpa using i,by simpa using j,by simpa using k,h,by unfold Dq;rw[if_pos f]⟩
theorem lH {t:Tx} {b:Sn} {d day c:Int} (h:(Dg t b d day c).1≠0):Dq t b d day c=AE:=by unfold Dq;rw[if_neg h]
theorem Uc {β:Type} (p:β->Bool):∀l:List β,(l.filter p).length+(l.filter fun x=> !p x).length=l.length
 | []=>rfl
 | x :: r=>by
  have b:=Uc p r
  cases h:p x with
  | true=>rw [Xv h,Xw (by simp[h])];simp only[Qx];omega
  | false=>rw [Xw (by simp[h]),Xv (by simp[h])];simp only[Qx];omega
theorem lI {b:List Fl} (n:E6 b) {rs:List ByteArray} (o:rs.Pairwise (· ≠ ·)) (q:∀p∈rs,BU b p=Qa):(b.filter fun f=> !AQ rs f.1).length+rs.length=b.length:=by
 have l:(b.map (·.1)).Nodup:=by
  refine QY.2 (n.imp fun {f g} h e=>?_);unfold fk at h;rw[e]at h;omega
 have i:((b.filter fun f=>AQ rs f.1).map (·.1)).Sublist (b.map (·.1)):=List.Sublist.map _ QI;have j:=Xu i l;have c:((b.filter fun f=>AQ rs f.1).map (·.1)).Perm rs:=by
  rw[List.perm_ext_iff_of_nodup j o];intro p;constructor
  ·intro d;obtain⟨f,k,rfl⟩:=Q3.1 d;exact Ju.1 (QB.1 k).2
  ·intro d;obtain⟨f,k,rfl⟩:=O6.1 (q p d);exact Q3.2 ⟨f,QB.2 ⟨k,Ju.2 d⟩,rfl⟩
 have m:=c.length_eq;rw[QW]at m;have:=Uc (fun f:Fl=>AQ rs f.1) b;omega
theorem lJ {t:Tx} {b:Sn} (d:Cn t) (f:(Am b).1=0) (g:Jv t b=Qe):(CH t b).length+t.2.2.length=b.2.2.2.2.2.2.length+t.2.1.length:=by
 have c:(CH t b).length=(BA t b).length+t.2.1.length:=by
  unfold CH;rw[(Jw _ _).length_eq,Q4];simp[Bd]
 have i:=lI (Jy f).2.2 d.ones (fun p hp=>by
  cases h:BU b.2.2.2.2.2.2 p with
  | true=>rfl
  | false =>
   have:Jv t b=Qa:=by
    simp only[Jv,Q9];exact⟨p,hp,by rw[h];rfl⟩
   rw[g]at this;cases this)
 unfold BA at c;omega
end
section
open Go.Extern Go.Extern.Stop Go.RowKit Go.Shelf Go.Sort Go.Stop
def M0 (n:Int):Bool:= !Aq n
def FD (day age count:Int) (left:Nat) (s:Sn):Bool:=decide (left=0) || (!M0 day && !M0 age && (decide ((left:Int)<count) || decide (day-age<=s.2.2.2.1)))
def E7 (day age count:Int):List Sn->List Int
 | []=> []
 | s :: r=>if FD day age count r.length s=Qa then s.1 :: E7 day age count r else E7 day age count r
theorem lK (day age count:Int) (s:Sn) (r:List Sn):E7 day age count (s :: r)=if FD day age count r.length s=Qa then s.1 :: E7 day age count r else E7 day age count r:=by rw[E7]
def DU (day age count:Int) (ss:List Sn) (n:Nat):List Int:=(Xx n).filterMap fun i=>(ss[i]?).bind fun s=>if FD day age count (ss.length-1-i) s=Qa then O s.1 else U
theorem lL {day age count:Int} {b:List Sn} {n:Nat} (h:n<b.length):DU day age count b (n+1)=DU day age count b n++(if FD day age count (b.length-1-n) b[n]=Qa then [b[n].1] else []):=by
 unfold DU;rw[List.range_succ,List.filterMap_append];congr 1;split<;>simp_all
theorem Ud {α β:Type} {f g:α->Option β} :∀ {l:List α},(∀x∈l,f x=g x)->l.filterMap f=l.filterMap g
 | [],_=>rfl
 | a :: r,h=>by
  rw[QZ,QZ,h a Qt,Ud (fun x hx=>h x (Qw _ hx))]
theorem Ue {day age count:Int} :∀(ss:List Sn) (k:Nat),(Xy k ss.length).filterMap (fun i=>(ss[i-k]?).bind fun s=>if FD day age count (ss.length-1-(i-k)) s=Qa then O s.1 else U)=E7 day age count ss
 | [],k=>rfl
 | s :: r,k=>by
  rw[Qx,List.range'_succ,QZ];have c:=Ue (day:=day) (age:=age) (count:=count) r (k+1);have e:(Xy (k+1) r.length).filterMap (fun i=>((s :: r)[i-k]?).bind fun x=>if FD day age count (r.length+1-1-(i-k)) x=Qa then O x.1 else U)=E7 day age count r:=by
   rw[<-c];apply Ud;intro i n;have b:=List.mem_range'.1 n;obtain⟨j,o,rfl⟩:=b;have d:k+1+1*j-k=j+1:=by omega
   have f:k+1+1*j-(k+1)=j:=by omega
   have g:r.length+1-1-(j+1)=r.length-1-j:=by omega
   rw[d,f,g,Xz]
  rw[e];have l:k-k=0:=Nat.sub_self k;have m:r.length+1-1-0=r.length:=by omega
  simp only[l,X0,Option.bind_some,m];rw[lK];cases FD day age count r.length s<;>rfl
theorem Uf (day age count:Int) (b:List Sn):DU day age count b b.length=E7 day age count b:=by
 have h:=Ue (day:=day) (age:=age) (count:=count) b 0;unfold DU;rw[List.range_eq_range'];simpa using h
theorem Ug (day age count:Int) (b:List Sn) (n:Nat):(DU day age count b n).length<=n:=by
 unfold DU;have h:=List.length_filterMap_le (fun i=>(b[i]?).bind fun s=>if FD day age count (b.length-1-i) s=Qa then O s.1 else U) (Xx n);rw[List.length_range]at h;exact h
def FG (s:ByteArray) (l:List ByteArray):List ByteArray:=if l[G4 s l]? =O s then l else Hv s l
theorem lM {s x:ByteArray} {l:List ByteArray} :x∈FG s l↔x=s\/x∈l:=by
 unfold FG;split
 ·rename_i h;constructor
  ·exact V
  ·rintro(rfl | b)
   ·exact List.mem_of_getElem? h
   ·exact b
 ·exact Oa
theorem Uh {s:ByteArray} :∀ {l:List ByteArray},GU l->s∈l->l[G4 s l]? =O s
 | [],_,h=>absurd h List.not_mem_nil
 | q :: r,hr,h=>by
  unfold GU at hr;rw[Qs]at hr;by_cases e:Bu q s=Qa
  ·have c:G4 s (q :: r)=G4 s r+1:=by rw[G4,if_pos e]
   rw[c,Xz];rcases Qp.1 h with b | b
   ·exact absurd b.symm (Mb e)
   ·exact Uh hr.2 b
  ·have c:G4 s (q :: r)=0:=by rw[G4,if_neg e]
   rw[c,X0];rcases Qp.1 h with b | b
   ·rw[b]
   ·exact absurd (hr.1 s b) e
theorem lN {s:ByteArray} {l:List ByteArray} (h:GU l):GU (FG s l):=by
 unfold FG;split
 ·exact h
 ·rename_i e;exact So h (fun hm=>e (Uh h hm))
theorem lO (s:ByteArray) (l:List ByteArray):(FG s l).length<=l.length+1:=by
 unfold FG;split
 ·omega
 ·rw[Sm];simp only[Q4,Qz,List.length_drop,List.length_singleton];omega
def Cg (id:Int):ByteArray:=⟨#[115,110,97,112,47]⟩++Ab (itoa id)
def BE (s:Sn):List ByteArray:=Cg s.1 :: s.2.2.2.2.2.2.map (·.1)
def C7 (ss:List Sn):List ByteArray:=(ss.flatMap BE).foldl (fun l x=>FG x l) []
theorem OD:∀(xs l:List ByteArray),GU l->GU (xs.foldl (fun l x=>FG x l) l)/\∀x,x∈xs.foldl (fun l x=>FG x l) l↔x∈xs\/x∈l
 | [],l,h=>⟨h,fun x=>by simp⟩
 | a :: r,l,h=>by
  obtain⟨b,c⟩:=OD r (FG a l) (lN h);refine⟨b,fun x=>?_⟩;rw[List.foldl_cons,c,lM,Qp];constructor
  ·rintro(h | h | h)
   ·exact A (V h)
   ·exact A (A h)
   ·exact V h
  ·rintro((h | h) | h)
   ·exact V (A h)
   ·exact A h
   ·exact V (V h)
theorem Ui (b:List Sn):GU (C7 b):=(OD _ [] Xa).1
theorem OE {b:List Sn} {x:ByteArray} :x∈C7 b↔∃s∈b,x∈BE s:=by
 unfold C7;rw[(OD _ [] Xa).2];simp[List.mem_flatMap]
def M1 (l:List ByteArray) (xs:List ByteArray):List ByteArray:=xs.foldl (fun l x=>FG x l) l
theorem Uj:∀(xs l:List ByteArray),(M1 l xs).length<=l.length+xs.length
 | [],l=>Qm _
 | x :: r,l=>by
  have b:=Uj r (FG x l);have c:=lO x l;show (M1 (FG x l) r).length<=_;rw[Qx];omega
def M2 (ss:List Sn) (n:Nat):List ByteArray:=M1 [] ((ss.take n).flatMap BE)
theorem lP (b:List Sn):M2 b b.length=C7 b:=by
 unfold M2 C7 M1;rw[List.take_length]
theorem lQ (b:List Sn) (n:Nat):(M2 b n).length<=(b.flatMap BE).length:=by
 have h:=Uj ((b.take n).flatMap BE) [];have e:b.flatMap BE=(b.take n).flatMap BE++(b.drop n).flatMap BE:=by rw[<-List.flatMap_append,List.take_append_drop]
 rw[e,Q4];unfold M2;simp only[QG]at h;omega
def Gj (st:St) (needed:List ByteArray) (age:Int):List ByteArray:=(st.obs.filter fun o=> !AQ needed o.1 && decide (age<=st.day-o.2.2)).map (·.1)
end
section
open Go
def Ek:List UInt8:= [109,101,116,97]
def CT (z:Int):Bool:=decide (1<=z) && decide (z<=1073741824)
theorem Ko {z:Int} :CT z=Qa↔1<=z/\z<=1073741824:=by
 simp only[CT,QX,decide_eq_true_eq]
def D3:Int->List Int->Nat->Nat×Option Nat
 | _, [],_=>(0,U)
 | p,z :: r,i=>if CT z=Qe then (2,O i) else if z<=p then (9,O i) else D3 z r (i+1)
def AF (zs:List Int):Nat×Option Nat:=if zs= [] then (6,U) else if 40<zs.length then (8,U) else D3 0 zs 0
theorem Uk:∀ {zs:List Int} {p:Int} {i:Nat},(D3 p zs i).1=0->(∀z∈zs,CT z=Qa)/\(∀z∈zs,p<z)/\zs.Pairwise (· < ·)
 | [],_,_,_=>⟨fun _ h=>(nomatch h),fun _ h=>(nomatch h),Xa⟩
 | z :: r,p,i,h=>by
  unfold D3 at h;split at h
  ·cases h
  ·rename_i f;split at h
   ·cases h
   ·rename_i g;obtain⟨a,b,c⟩:=Uk h;refine⟨fun y d=>?_,fun y d=>?_,Qs.2 ⟨b,c⟩⟩
    ·rcases Qp.1 d with rfl | d
     ·simpa using f
     ·exact a y d
    ·rcases Qp.1 d with rfl | d
     ·omega
     ·have:=b y d;omega
theorem OG:∀ {zs:List Int} {p:Int} {i:Nat},(∀z∈zs,CT z=Qa)->(∀z∈zs,p<z)->zs.Pairwise (· < ·)->D3 p zs i=(0,U)
 | [],_,_,_,_,_=>rfl
 | z :: r,p,i,h1,h2,h3=>by
  obtain⟨b,c⟩:=Qs.1 h3;unfold D3;rw[if_neg (by rw[h1 z Qt];simp),if_neg (by have:=h2 z Qt;omega)];exact OG (fun y hy=>h1 y (Qw _ hy)) b c
theorem DA {zs:List Int} :(AF zs).1=0↔zs≠ []/\zs.length<=40/\(∀z∈zs,CT z=Qa)/\zs.Pairwise (· < ·):=by
 constructor
 ·intro h;unfold AF at h;split at h
  ·cases h
  ·rename_i b;split at h
   ·cases h
   ·rename_i f;obtain⟨a,_,c⟩:=Uk h;exact⟨b,by omega,a,c⟩
 ·rintro⟨b,f,d,g⟩;unfold AF;rw[if_neg b,if_neg (by omega),OG d (fun z hz=>by have:=Ko.1 (d z hz);omega) g]
theorem La {zs:List Int} (h:(AF zs).1=0):AF zs=(0,U):=by
 obtain⟨c,f,b,d⟩:=DA.1 h;unfold AF;rw[if_neg c,if_neg (by omega),OG b (fun z hz=>by have:=Ko.1 (b z hz);omega) d]
def I9 (zs:List Int):Nat->Int
 | 0=>0
 | n+1=>zs.getD n 0
def Ii (zs:List Int) (n:Nat):Prop:=D3 0 zs 0=D3 (I9 zs n) (zs.drop n) n
theorem lR (zs:List Int):Ii zs 0:=rfl
theorem lS {zs:List Int} {n:Nat} (h:Ii zs n) (b:n<zs.length) (e:CT zs[n]=Qe):D3 0 zs 0=(2,O n):=by
 rw[h,Xb b];unfold D3;rw[if_pos e]
theorem lT {zs:List Int} {n:Nat} (h:Ii zs n) (b:n<zs.length) (e:CT zs[n]=Qa) (o:zs[n]<=I9 zs n):D3 0 zs 0=(9,O n):=by
 rw[h,Xb b];unfold D3;rw[if_neg (by rw[e];simp),if_pos o]
theorem lU {zs:List Int} {n:Nat} (h:Ii zs n) (b:n<zs.length) (e:CT zs[n]=Qa) (o:¬zs[n]<=I9 zs n):Ii zs (n+1):=by
 unfold Ii at h ⊢;rw[h]
 conv=>lhs;rw[Xb b]
 conv=>lhs;unfold D3
 rw[if_neg (by rw[e];simp),if_neg o];have:I9 zs (n+1)=zs[n]:=by simp[I9,X1,b]
 rw[this]
theorem lV {zs:List Int} (h:Ii zs zs.length):D3 0 zs 0=(0,U):=by
 rw[h,List.drop_length];rfl
def Dh (zs:List Int):List UInt8:=zs.flatMap fun z=>32 :: itoa z
def BB (zs:List Int):List UInt8:=Ek++Dh zs++ [10]
theorem lW (zs:List Int) (z:Int):Dh (zs++ [z])=Dh zs++(32 :: itoa z):=by simp[Dh]
theorem lX {zs:List Int} {n:Nat} (b:n<zs.length):Dh (zs.take (n+1))=Dh (zs.take n)++(32 :: itoa zs[n]):=by
 rw[List.take_succ_eq_append_getElem b,lW]
theorem Ul:∀(a:List UInt8) (zs:List Int),(∀c∈a,c≠32)->Bc (a++Dh zs)=a :: zs.map itoa
 | a, [],h=>by simp[Dh,IZ a h]
 | a,z :: r,h=>by
  have e:a++Dh (z :: r)=a++32 :: (itoa z++Dh r):=by simp[Dh]
  rw[e,Dx _ _ h,Ul (itoa z) r (DQ z)];rfl
theorem Lb:∀zs:List Int,(∀z∈zs,CT z=Qa)->(Dh zs).length<=12*zs.length
 | [],_=>by simp[Dh]
 | z :: r,h=>by
  have b:=Lb r (fun y hy=>h y (Qw _ hy));have c:=Ko.1 (h z Qt);have d:=(Fu (EX z (by omega) (by omega))).2;have e:Dh (z :: r)=32 :: (itoa z++Dh r):=by simp[Dh]
  rw[e];simp only[Qx,Q4];omega
def E8:List (List UInt8)->Option (List Int)
 | []=>O []
 | w :: r=>match At w,E8 r with
  | some z,O zs=>O (z :: zs)
  | _,_=>U
theorem Um:∀ {ws:List (List UInt8)} {j:Nat} {t:List UInt8},ws[j]? =O t->At t=U->E8 ws=U
 | [],j,t,h,_=>by simp at h
 | w :: r,0,t,h,hn=>by
  obtain rfl:w=t:=by simpa using h
  unfold E8;rw[hn]
 | w :: r,j+1,t,h,hn=>by
  have:=Um (ws:=r) (j:=j) (t:=t) (by simpa using h) hn;unfold E8;rw[this];split<;>simp_all
theorem Un:∀ {ws:List (List UInt8)} {zs:List Int},zs.length=ws.length->(∀(j:Nat) (t:List UInt8),ws[j]? =O t->At t=zs[j]?)->E8 ws=O zs
 | [],zs,h,_=>by
  obtain rfl:zs= []:=QF.1 h;rfl
 | w :: r, [],h,_=>by simp at h
 | w :: r,z :: zs,h,hn=>by
  have b:=Un (ws:=r) (zs:=zs) (by simpa using h) (fun j t ht=>by simpa using hn (j+1) t (by simpa using ht));have c:At w=O z:=by simpa using hn 0 w rfl
  unfold E8;rw[c,b]
theorem Uo:∀zs:List Int,(∀z∈zs,CT z=Qa)->E8 (zs.map itoa)=O zs
 | [],_=>rfl
 | z :: r,h=>by
  have b:=Uo r (fun y hy=>h y (Qw _ hy));have c:=Ko.1 (h z Qt);rw[Xm];unfold E8;rw[EX z (by omega) (by omega),b]
def Ij (l:List UInt8):List Int×Nat×Option Nat:=match Bc l.dropLast with
 | k :: ws=>if l.getLast? =O 10/\k=Ek then match E8 ws with
   | some zs=>if (AF zs).1≠0 then ([],AF zs) else (zs,0,U)
   | none=>([],1,U)
  else ([],1,U)
 | []=>([],1,U)
theorem OH {zs:List Int} (h:(AF zs).1=0):Ij (BB zs)=(zs,0,U):=by
 obtain⟨_,_,b,_⟩:=DA.1 h;unfold Ij BB;rw[X2,X3,Ul Ek zs (by decide)];dsimp only;rw[if_pos ⟨rfl,rfl⟩,Uo zs b];dsimp only;rw[if_neg (by simpa using h)]
def E9 (zs:List Int) (z:Int):Nat×Option Nat:=if (AF zs).1≠0 then AF zs else ((AF (zs++ [z])).1,U)
def FH (zs:List Int) (z:Int):List Int:=if (E9 zs z).1=0 then zs++ [z] else []
def Ca (zs gs:List Int):List Int:=zs.dropLast.filter (fun z=>gs.contains z)++zs.getLast?.toList
def Kq (zs gs:List Int):List Int:=if (AF zs).1=0 then Ca zs gs else []
theorem Lc (zs gs:List Int):(Ca zs gs).Sublist zs:=by
 unfold Ca;rcases List.eq_nil_or_concat zs with rfl | ⟨b,z,rfl⟩
 ·simp
 ·simp only[List.concat_eq_append,X2,X3,Option.toList_some];exact List.Sublist.append QI (List.Sublist.refl _)
theorem Up {zs gs:List Int} (h:(AF zs).1=0):(AF (Ca zs gs)).1=0:=by
 obtain⟨c,g,d,f⟩:=DA.1 h;have b:=Lc zs gs;refine DA.2 ⟨fun e=>?_,by have:=b.length_le;omega,fun z hz=>d z (b.mem hz),f.sublist b⟩;have:=congrArg Xq e;unfold Ca at this;rw[X4 c]at this;simp at this
end
section
open Go.Extern Go.Extern.Stop Go.RowKit Go.Shelf Go.Sort Go.Stop
structure Ac (P:Nat->Prop) (w w':Z):Prop where
 os:w'.os=w.os
 tape:w'.tape=w.tape
 output:w'.output=w.output
 size:w.heap.size<=w'.heap.size
 block:∀k,k<w.heap.size->¬P k->w'.heap[k]? =w.heap[k]?
theorem Ac.refl (P:Nat->Prop) (w:Z):Ac P w w:=⟨rfl,rfl,rfl,Qm _,fun _ _ _=>rfl⟩
theorem Ac.trans {P Q:Nat->Prop} {a b c:Z} (h:Ac P a b) (k:Ac Q b c) (d:∀i,Q i->i<a.heap.size->P i):Ac P a c :=
 ⟨k.os.trans h.os,k.tape.trans h.tape,k.output.trans h.output,QJ h.size k.size,fun i hi hp=>(k.block i (Q2 hi h.size) (fun hQ=>hp (d i hQ hi))).trans (h.block i hi hp)⟩
theorem Ac.of_below {P:Nat->Prop} {w w':Z} (h:BL w w'):Ac P w w':=⟨h.os,h.tape,h.output,h.size,fun k hk _=>h.block k hk⟩
theorem Ac.below {P:Nat->Prop} {w w':Z} (h:Ac P w w') {B:Nat} (b:B<=w.heap.size) (c:∀k,P k->B<=k):Below B w w' :=
 ⟨h.os,h.tape,h.output,h.size,fun k hk=>h.block k (Q2 hk b) (fun hP=>Nat.lt_irrefl _ (Q2 hk (c k hP)))⟩
theorem Ac.mono {P Q:Nat->Prop} {w w':Z} (h:Ac P w w') (b:∀k,P k->Q k):Ac Q w w':=⟨h.os,h.tape,h.output,h.size,fun k hk hQ=>h.block k hk (fun hP=>hQ (b k hP))⟩
theorem Ac.setCell {P:Nat->Prop} {a w:Z} (h:Ac P a w) {b o:Nat} (c:P b\/a.heap.size<=b) (u:I):Ac P a (w.setCell ⟨b,o,U⟩ u):=by
 refine⟨h.os,h.tape,h.output,?_,fun k hk hP=>?_⟩
 ·have:(w.setCell ⟨b,o,U⟩ u).heap.size=w.heap.size:=by simp[World.setCell]
  rw[this];exact h.size
 ·rw[Xr _ _ _ _ (fun e=>by
   subst e;rcases c with c | c
   ·exact hP c
   ·omega)]
  exact h.block k hk hP
theorem Ac.keep {P:Nat->Prop} {w w':Z} (h:Ac P w w') {b o:Nat} {v:I} (d:¬P b) (c:w.cell? ⟨b,o,U⟩=O v):w'.cell? ⟨b,o,U⟩=O v:=by
 have e:=h.block b (BF c) d;rw[<-c];unfold QE;rw[e]
theorem lY {a b:ByteArray} (h:a=b):(a.toList == b.toList)=Qa:=by subst h;simp
theorem lZ {a b:ByteArray} (h:a≠b):(a.toList == b.toList)=Qe:=by
 rw[beq_eq_false_iff_ne];intro e;apply h;rw[ByteArray.toList_eq,ByteArray.toList_eq]at e;exact Ke e
theorem mA (c:UInt8):GY c=((decide (97<=(c.toNat:Int)) && decide ((c.toNat:Int)<=122)) || (decide (48<=(c.toNat:Int)) && decide ((c.toNat:Int)<=57)) || decide ((c.toNat:Int)=47)):=by
 unfold GY;have b:decide (97<=c.toNat)=decide (97<=(c.toNat:Int)):=by congr 1;exact propext (by omega)
 have d:decide (c.toNat<=122)=decide ((c.toNat:Int)<=122):=by congr 1;exact propext (by omega)
 have f:decide (48<=c.toNat)=decide (48<=(c.toNat:Int)):=by congr 1;exact propext (by omega)
 have g:decide (c.toNat<=57)=decide ((c.toNat:Int)<=57):=by congr 1;exact propext (by omega)
 have i:decide (c.toNat=47)=decide ((c.toNat:Int)=47):=by congr 1;exact propext (by omega)
 rw[b,d,f,g,i]
def Ba (l:List Ob) (n:ByteArray):ByteArray×Nat:=match B5 l n with
 | some o=>(o.2.1,0)
 | none=>(⟨#[]⟩,6)
theorem mB (s:ByteArray) (w:Z) (a:Nat->Qg) (h:Bl w a) (d:s.size<=1000) :
  Qj Qd 29 #[H s] w fun e w'=>e=Qk (Ae a (A5 s.data.toList).1)/\BL w w':=by
 have c:=Mp s w a h d
 go_enter func29,ntmps29
 go_wp2_with fail
 refine c.mono ?_;rintro e f ⟨g,rfl,_,b⟩;go_wp2;go_ret;exact⟨rfl,b⟩
def Ch:I->Option (Qi Unit×List QC)
 | .slice U 0 0=>O (.nil, [])
 | .slice (O ⟨g,0,U⟩) n c=>O (.agg [.lit (.int .i64 g),.lit (.int .i64 n),.lit (.int .i64 c)], [])
 | _=>U
theorem Uq {v:I} {z:Qi Unit×List QC} (h:Ch v=O z):z.2= []:=by
 unfold Ch at h;split at h
 ·cases h;rfl
 ·cases h;rfl
 ·cases h
theorem Ur {v v':I} {z:Qi Unit×List QC} (h:Ch v=O z) (b:Ch v'=O z):v=v':=by
 unfold Ch at h;split at h
 ·cases h
  unfold Ch at b;split at b
  ·rfl
  ·cases b
  ·cases b
 ·cases h
  unfold Ch at b;split at b
  ·cases b
  ·simp only[Qo,Prod.mk.injEq,and_true,DataW.agg.injEq,List.cons.injEq,DataW.lit.injEq,Lit.int.injEq,true_and]at b;obtain⟨g,i,j⟩:=b;have c:=Int.ofNat.inj g;have d:=Int.ofNat.inj i;have f:=Int.ofNat.inj j;subst c d f;rfl
  ·cases b
 ·cases h
def grp (p:Rw->ByteArray) (ys:List Rw) (nm:List UInt8):List Rw:=ys.filter fun x=>decide ((p x).data.toList=nm)
theorem Us (p:Rw->ByteArray) (ys:List Rw) (x:Rw) (nm:List UInt8):grp p (ys++ [x]) nm=grp p ys nm++if (p x).data.toList=nm then [x] else []:=by
 unfold grp;rw[List.filter_append];by_cases h:(p x).data.toList=nm<;>simp [h]
structure Di (W:Z) (base bm:Nat) (p:Rw->ByteArray) (ys:List Rw) (D:Qi Unit) (hv:List UInt8->I):Prop where
 map:W.ownsMap Qd 9 Ch bm ys.length D
 isMap:X5 D
 hd:∀nm,Ch (hv nm)=O (D.atKey (.string nm) .nil, [])
 has:∀nm,Qy D (.string nm)=Qa↔grp p ys nm≠ []
 own:∀nm,W.ownsRow base 62 3 (hv nm) (grp p ys nm).length (Az (grp p ys nm))
 apart:∀x y,x≠y->(hv x).ownBlock=U\/(hv x).ownBlock≠(hv y).ownBlock
 low:bm<base
 keys:∀es,D= .map es->∀q∈es,∃nm,q.1= .string nm
theorem Ut (q x:Lit×Qi Unit):∀l:List (Lit×Qi Unit),q∈DataW.insert x l->q=x\/q∈l
 | [],h=>by simp[DataW.insert]at h;exact A h
 | y :: r,h=>by
  unfold DataW.insert at h;split at h
  ·simp only[Qp]at h ⊢;exact h
  ·simp only[Qp]at h ⊢;rcases h with h | h
   ·exact V (A h)
   ·rcases Ut q x r h with h | h
    ·exact A h
    ·exact V (V h)
theorem Di.below {W d:Z} {base c:Nat} {p:Rw->ByteArray} {ys:List Rw} {D:Qi Unit} {f:List UInt8->I} (h:Di W base c p ys D f) (g:BL W d):Di d base c p ys D f where
 map:=by
  obtain⟨i,b,j,r⟩:=h.map;exact⟨i,b,(g.block c h.map.lt).trans j,r⟩
 isMap:=h.isMap
 hd:=h.hd
 has:=h.has
 own:=fun nm=>Eu (h.own nm) g
 apart:=h.apart
 low:=h.low
 keys:=h.keys
theorem Di.made (W:Z) (p:Rw->ByteArray):Di (W.alloc (.map #[] 0)) (W.heap.size+1) W.heap.size p [] (.map []) (fun _=>.slice U 0 0) where
 map:=X6 _ _ _ _
 isMap:=Maps.isMap_empty
 hd:=fun nm=>rfl
 has:=fun nm=>by simp[grp,Qy]
 own:=fun nm=>by simp[grp,Az];exact World.ownsRow_nil _ _ _ _
 apart:=fun x y _=>A rfl
 low:=Nat.lt_succ_self _
 keys:=fun es e q hq=>by cases e;cases hq
theorem IA {W:Z} {base:Nat} {e:Qb} {c:Nat} {v:I} {n:Nat} {xs:List I} (h:W.ownsRow base e c v n xs) {g:Nat} (b:v.ownBlock=O g):base<=g/\g<W.heap.size:=by
 rcases h.2 with⟨e,_⟩|⟨k,d,j,e,f,i,_⟩
 ·rw[e]at b;simp[Qr]at b
 ·rw[e]at b;simp[Qr]at b;subst b;exact⟨f,(Array.getElem?_eq_some_iff.1 i).1⟩
theorem Di.step {W k W4:Z} {base f:Nat} {p:Rw->ByteArray} {ys:List Rw} {D:Qi Unit} {i:List UInt8->I} (h:Di W base f p ys D i) (x:Rw) (v':I) (d:Qi Unit)
  (j:k.ownsRow base 62 3 v' ((grp p ys (p x).data.toList).length+1) (Az (grp p ys (p x).data.toList)++AM x))
  (F:W.grownBy k (i (p x).data.toList).ownBlock) (b:v'.ownBlock=(i (p x).data.toList).ownBlock\/v'.ownBlock=O W.heap.size)
  (K:W4.ownsMap Qd 9 Ch f (ys.length+1) (D.put (.string (p x).data.toList) d)) (r:k.grownBy W4 (O f)) (L:Ch v'=O (d, [])) :
  Di W4 base f p (ys++ [x]) (D.put (.string (p x).data.toList) d) (fun m=>if m=(p x).data.toList then v' else i m):=by
 generalize o:(p x).data.toList=c at *;have t:∀ {v:I} {n:Nat} {l:List I},k.ownsRow base 62 3 v n l->v.ownBlock=U\/v.ownBlock≠O f:=fun {v n l} hr=>by
  cases C:v.ownBlock with
  | none=>exact A rfl
  | some g =>
   refine V fun e=>?_;have:=(IA hr C).1;have M:=h.low;simp only[Qo]at e;omega
 refine⟨by simpa using K,h.isMap.put _ _,fun m=>?_,fun m=>?_,fun m=>?_,fun x' y' hne=>?_,h.low,fun es e q s=>?_⟩
 ·by_cases e:m=c
  ·subst e;rw[if_pos rfl,X7 h.isMap (show QK (.string m) from trivial)];exact L
  ·rw[if_neg e,X8 (by simpa using e)];exact h.hd m
 ·rw[Us,o];by_cases e:m=c
  ·subst e;rw[X9 h.isMap (show QK (.string m) from trivial)];simp
  ·rw[Xc (by simpa using e),if_neg (fun e'=>e e'.symm),XA];exact h.has m
 ·rw[Us,o];by_cases e:m=c
  ·subst e;rw[if_pos rfl,if_pos rfl,Q4,KE,NW];exact j.kept r (t j)
  ·rw[if_neg e,if_neg (fun e'=>e e'.symm),XA];have u:=(h.own m).kept F (h.apart m c e);exact u.kept r (t u)
 ·by_cases y:x'=c
  ·subst y;rw[if_pos rfl,if_neg (fun e'=>hne e'.symm)];rcases b with b | b
   ·rw[b];exact h.apart _ _ hne
   ·rw[b];refine V fun e=>?_;have:=(IA (h.own y') e.symm).2;omega
  ·rw[if_neg y];by_cases z:y'=c
   ·subst z;rw[if_pos rfl];rcases b with b | b
    ·rw[b];exact h.apart _ _ hne
    ·rw[b]
     cases E:(i x').ownBlock with
     | none=>exact A rfl
     | some g =>
      refine V fun e=>?_;have:=(IA (h.own x') E).2;simp only[Qo]at e;omega
   ·rw[if_neg z];exact h.apart _ _ hne
 ·obtain⟨B,rfl⟩:=h.isMap;simp only[DataW.put,DataW.map.injEq]at e;subst e;rcases Ut _ _ _ s with rfl | s
  ·exact⟨_,rfl⟩
  ·exact h.keys B rfl q (QB.1 s).1
theorem Di.key_mem {W:Z} {base g:Nat} {p:Rw->ByteArray} {ys:List Rw} {D:Qi Unit} {i:List UInt8->I} (h:Di W base g p ys D i) (nm:List UInt8):nm∈strKeys D↔grp p ys nm≠ []:=by
 rw[<-h.has nm];obtain⟨f,rfl⟩:=h.isMap;rw[Xd];simp only[strKeys,Q3,Q9];constructor
 ·rintro⟨q,d,e⟩;obtain⟨j,c⟩:=h.keys f rfl q d;rw[c]at e;subst e;exact⟨q,d,by rw[c];exact WideAt.sameKey_self trivial⟩
 ·rintro⟨q,d,e⟩;have c:=(WideAt.sameKey_iff (b:=.string nm) trivial).1 e;exact⟨q,d,by rw[c];rfl⟩
theorem Di.size {W:Z} {base d:Nat} {p:Rw->ByteArray} {ys:List Rw} {D:Qi Unit} {f:List UInt8->I} (h:Di W base d p ys D f):QL D<=ys.length:=by
 obtain⟨g,b,_,_,c,rfl⟩:=h.map;rw[XB,XC];simpa using c
structure Lk where
 st:St
 spec:ByteArray
 ids:List Int
 now:Sn
def IB (l:List UInt8):List UInt8:=(l.reverse.takeWhile fun c=>decide (c≠47)).reverse
def Ld (b:ByteArray):Option Int:=At (IB b.data.toList)
def Fd (n:Int) (o:Ob):Int:=match Ld o.1 with
 | some x=>if n<x then x else n
 | none=>n
def Fe (obs:List Ob):Int:=obs.foldl Fd 0
def Ag (s:St):Int:=Fe s.obs+1
def AJ (n:Int):ByteArray:=⟨#[109,101,116,97,47]⟩++Ab (itoa n)
def EA (w:Z) (v:I) (ts:List ByteArray):Prop :=
 (∃p c,v=Qc p 0 c/\ts= [])\/∃b o cap,v=Qc (O ⟨b,o,U⟩) ts.length cap/\∀j (h:j<ts.length),w.cell? ⟨b,o+j,U⟩=O (H ts[j])
theorem EA.below {w w':Z} {v:I} {d:List ByteArray} (h:EA w v d) (i:BL w w'):EA w' v d:=by
 rcases h with h | ⟨b,o,c,f,g⟩
 ·exact A h
 ·exact V ⟨b,o,c,f,fun j hj=>Aa i (g j hj)⟩
theorem EA.form {w:Z} {v:I} {f:List ByteArray} (h:EA w v f):∃q c,v=Qc q f.length c:=by
 rcases h with⟨p,c,rfl,rfl⟩|⟨b,o,d,rfl,_⟩
 ·exact⟨p,c,rfl⟩
 ·exact⟨_,d,rfl⟩
theorem EA.at {w:Z} {q:Option Qg} {n c:Nat} {d:List ByteArray} (h:EA w (Qc q n c) d) (f:d≠ []):∃b o,q=O ⟨b,o,U⟩/\∀j (h:j<d.length),w.cell? ⟨b,o+j,U⟩=O (H d[j]):=by
 rcases h with⟨p,k,_,e⟩|⟨b,o,i,e,g⟩
 ·exact absurd e f
 ·injection e with e1;exact⟨b,o,e1,g⟩
theorem Le {w:Z} {base:Nat} {v:I} {b:List ByteArray} (h:w.ownsRow base 9 1 v b.length (b.map H)):EA w v b:=by
 obtain⟨o,h⟩:=h;rcases h with⟨f,i⟩|⟨g,d,m,rfl,_,k,n,_,_,l⟩
 ·exact A ⟨U,0,by rw[f],QF.1 i⟩
 ·refine V ⟨g,0,d,rfl,fun j hj=>?_⟩;have c:(b.map H)[j]? =O (H b[j]):=by simp[hj]
  rw[<-l,XD,if_pos (by simpa using hj)]at c;simp only[QE,k,QD];simpa using c
theorem Uu (t:ByteArray) (k:Nat):t.extract 0 k=Ab (t.data.toList.take k):=by
 apply Ke;rw[extract_data];show _=(t.data.toList.take k).toArray.toList;simp
theorem Ac.grown {w w':Z} {b:Option Nat} (h:w.grownBy w' b):Ac (fun k=>b=O k) w w':=⟨h.os,h.tape,h.output,h.size,fun k hk hn=>h.block k hk (fun e=>hn e.symm)⟩
theorem Ai.but {P:Nat->Prop} {w w':Z} {v:I} {i:List Fl} (h:Ai w v i) (d:Ac P w w') (u:∀k,v.ownBlock=O k->¬P k):Ai w' v i:=by
 rcases h with h | ⟨b,o,f,g,s,t⟩
 ·exact A h
 ·refine V ⟨b,o,f,g,s,fun j hj=>?_⟩;have c:¬P b:=u b (by rw[g];rfl);obtain⟨l,m,n,p,q,r⟩:=t j hj;exact⟨d.keep c l,d.keep c m,d.keep c n,d.keep c p,d.keep c q,d.keep c r⟩
theorem AG {P:Nat->Prop} {w w':Z} {B:Nat} {e:Qb} {z:Nat} {v:I} {n:Nat} {xs:List I} (h:w.ownsRow B e z v n xs) (l:Ac P w w') (m:∀k,v.ownBlock=O k->¬P k):w'.ownsRow B e z v n xs:=by
 refine⟨h.1,?_⟩;rcases h.2 with i | ⟨g,b,c,d,j,f,rest⟩
 ·exact A i
 ·exact V ⟨g,b,c,d,j,(l.block g (Q5 f) (m g (by rw[d];rfl))).trans f,rest⟩
def BV (w:Z) (v:I) (ts:List ByteArray):Prop :=
 (v=Qc U 0 0/\ts= [])\/∃b cap,v=Qc (O ⟨b,0,U⟩) ts.length cap/\ts.length<=cap/\∀j (h:j<ts.length),w.cell? ⟨b,j,U⟩=O (H ts[j])
theorem BV.form {w:Z} {v:I} {d:List ByteArray} (h:BV w v d):∃q c,v=Qc q d.length c:=by
 rcases h with⟨rfl,rfl⟩|⟨b,f,rfl,_⟩
 ·exact⟨_,_,rfl⟩
 ·exact⟨_,_,rfl⟩
theorem BV.below {w w':Z} {v:I} {d:List ByteArray} (h:BV w v d) (k:BL w w'):BV w' v d:=by
 rcases h with h | ⟨b,c,f,g,i⟩
 ·exact A h
 ·exact V ⟨b,c,f,g,fun j hj=>Aa k (i j hj)⟩
theorem BV.cells {w:Z} {q:Option Qg} {n c:Nat} {d:List ByteArray} (h:BV w (Qc q n c) d) (f:d≠ []):∃b,q=O ⟨b,0,U⟩/\∀j (h:j<d.length),w.cell? ⟨b,j,U⟩=O (H d[j]):=by
 rcases h with⟨_,e⟩|⟨b,i,e,_,g⟩
 ·exact absurd e f
 ·injection e with e1 e2 e3;exact⟨b,e1,g⟩
theorem IC {w:Z} {B:Nat} {v:I} {b:List ByteArray} (h:w.ownsRow B 9 1 v b.length (b.map H)):BV w v b:=by
 rcases h.2 with⟨c,i⟩|⟨g,d,f,c,_,k,l,_,_,m⟩
 ·exact A ⟨c,QF.1 i⟩
 ·refine V ⟨g,d,c,l,fun j hj=>?_⟩;rw[Qq _ _ _ _ _ _ k];have e:(f.toList.take (b.length*1))[j]? =(b.map H)[j]? :=by rw[m]
  rw[XD,if_pos (by omega),Array.getElem?_toList]at e;rw[e];simp[hj]
def C8 (T:Qb) (W:Z) (tb:Nat) (s:Sn) (vb va vr:I):Prop:=W.heap[tb]? =O (Ql #[S J s.1,S J s.2.1,S J s.2.2.1,S J s.2.2.2.1,S J s.2.2.2.2.1,H s.2.2.2.2.2.1,vb,va,vr] T (0,0))
theorem C8.lt {T:Qb} {W:Z} {b:Nat} {s:Sn} {c d f:I} (h:C8 T W b s c d f):b<W.heap.size:=Q5 h
theorem C8.cells {T:Qb} {W:Z} {b:Nat} {s:Sn} {c d f:I} (h:C8 T W b s c d f):W.cell? ⟨b,2,U⟩=O (S J s.2.2.1)/\W.cell? ⟨b,6,U⟩=O c/\W.cell? ⟨b,7,U⟩=O d/\W.cell? ⟨b,8,U⟩=O f:=by
 refine⟨?_,?_,?_,?_⟩<;>rw [Qq _ _ _ _ _ _ h]<;>rfl
theorem C8.fz {T:Qb} {W:Z} {b:Nat} {s:Sn} {c d f:I} (h:C8 T W b s c d f) (o:Nat):W.frozen? ⟨b,o,U⟩=Qe:=QH _ _ _ _ _ h
theorem C8.set7 {T:Qb} {W:Z} {b:Nat} {s:Sn} {c f d:I} (h:C8 T W b s c f d) (x:I):C8 T (W.setCell ⟨b,7,U⟩ x) b s c x d:=by
 unfold C8 at *;rw[Qh _ _ _ _ _ _ h];rfl
theorem C8.set8 {T:Qb} {W:Z} {b:Nat} {s:Sn} {c d f:I} (h:C8 T W b s c d f) (x:I):C8 T (W.setCell ⟨b,8,U⟩ x) b s c d x:=by
 unfold C8 at *;rw[Qh _ _ _ _ _ _ h];rfl
theorem C8.but {P:Nat->Prop} {T:Qb} {W c:Z} {b:Nat} {s:Sn} {d f g:I} (h:C8 T W b s d f g) (i:Ac P W c) (j:¬P b):C8 T c b s d f g:=(i.block b h.lt j).trans h
structure CI (T:Qb) (B:Nat) (W:Z) (tb:Nat) (vb va vr:I) (t:Tx):Prop where
 cells:C8 T W tb t.1 vb va vr
 lo:B<=tb
 base:Ai W vb t.1.2.2.2.2.2.2
 adds:W.ownsRow B 77 6 va t.2.1.length (Ay t.2.1)
 rems:W.ownsRow B 9 1 vr t.2.2.length (t.2.2.map H)
 nb:∀k,vb.ownBlock=O k->k≠tb/\va.ownBlock≠O k/\vr.ownBlock≠O k
def EL (tb:Nat) (va vr:I) (k:Nat):Prop:=k=tb\/va.ownBlock=O k\/vr.ownBlock=O k
theorem CI.but {P:Nat->Prop} {T:Qb} {B:Nat} {W j:Z} {b:Nat} {d f g:I} {t:Tx} (h:CI T B W b d f g t) (c:Ac P W j) (i:∀k,EL b f g k->¬P k) (l:∀k,d.ownBlock=O k->¬P k):CI T B j b d f g t :=
 ⟨h.cells.but c (i b (A rfl)),h.lo,h.base.but c l,AG h.adds c (fun k hk=>i k (V (A hk))),AG h.rems c (fun k hk=>i k (V (V hk))),h.nb⟩
theorem CI.below {T:Qb} {B:Nat} {W b:Z} {c:Nat} {d f g:I} {t:Tx} (h:CI T B W c d f g t) (i:BL W b):CI T B b c d f g t :=
 h.but (Ac.of_below (P:=fun _=>False) i) (fun _ _ h=>h) (fun _ _ h=>h)
def DV (w:Z) (v:I):Prop:= ∀j,v.ownBlock=O j->w.heap.size<=j
theorem DV.low {W X:Z} {v:I} (h:DV X v) (b:W.heap.size<=X.heap.size):DV W v:=fun j hj=>QJ b (h j hj)
theorem A7 {w:Z} {B:Nat} {e:Qb} {z:Nat} {v:I} {n:Nat} {xs:List I} (h:w.ownsRow B e z v n xs) {k:Nat} (b:v.ownBlock=O k):B<=k/\k<w.heap.size/\∃cur,w.heap[k]? =O (Ql cur e (0,0)):=by
 rcases h.2 with⟨rfl,_⟩|⟨g,f,cur,rfl,d,c,_⟩
 ·simp[Qr]at b
 ·simp only[Qr,Qo]at b;subst b;exact⟨d,Q5 c,cur,c⟩
theorem CI.apart {T:Qb} {B:Nat} {W:Z} {c:Nat} {l d f:I} {t:Tx} (h:CI T B W c l d f t) (m:T≠77) (n:T≠9):d.ownBlock≠O c/\f.ownBlock≠O c/\∀k,d.ownBlock=O k->f.ownBlock≠O k:=by
 refine⟨fun e=>?_,fun e=>?_,fun k e1 e2=>?_⟩
 ·obtain⟨_,_,g,b⟩:=A7 h.adds e;have:=h.cells.symm.trans b;simp only[Qo,Xe]at this;exact m this.2.1
 ·obtain⟨_,_,g,b⟩:=A7 h.rems e;have:=h.cells.symm.trans b;simp only[Qo,Xe]at this;exact n this.2.1
 ·obtain⟨_,_,o,i⟩:=A7 h.adds e1;obtain⟨_,_,p,j⟩:=A7 h.rems e2;have:=i.symm.trans j;simp only[Qo,Xe]at this;exact absurd this.2.1 (by decide)
theorem CI.added {T:Qb} {B:Nat} {W g:Z} {f:Nat} {l i j d:I} {t:Tx} (h:CI T B W f l i j t) (z:T≠77) (C:T≠9) {o:List Fl} (D:g.ownsRow B 77 6 d o.length (Ay o))
  (E:W.grownBy g i.ownBlock) (c:d.ownBlock=i.ownBlock\/d.ownBlock=O W.heap.size) (s:∀k,l.ownBlock=O k->k<W.heap.size) :
  CI T B (g.setCell ⟨f,7,U⟩ d) f l d j (t.1,o,t.2.2)/\Ac (EL f i j) W (g.setCell ⟨f,7,U⟩ d)/\∀k,EL f d j k->EL f i j k\/W.heap.size<=k:=by
 obtain⟨r,v,y⟩:=h.apart z C;have m:=Ac.grown E;have u:C8 T g f t.1 l i j:=h.cells.but m r;have n:Ac (fun k=>k=f) g (g.setCell ⟨f,7,U⟩ d):=(Ac.refl (fun k=>k=f) g).setCell (A (Eq.refl f)) _;have F:=h.cells.lt;have p:d.ownBlock≠O f:=fun e=>by
  rcases c with c | c
  ·exact r (c.symm.trans e)
  ·rw[c]at e;injection e with e;omega
 have q:∀k,l.ownBlock=O k->¬i.ownBlock=O k:=fun k b=>(h.nb k b).2.1;refine⟨⟨u.set7 _,h.lo,(h.base.but m q).but n (fun k b=>(h.nb k b).1),AG D n (fun k b e=>p (by rw[<-e];exact b)),AG (AG h.rems m (fun k b e=>y k e b)) n (fun k b e=>v (by rw[<-e];exact b)),fun k b=>⟨(h.nb k b).1,fun e=>?_,(h.nb k b).2.2⟩⟩,?_,fun k b=>?_⟩
 ·rcases c with c | c
  ·exact(h.nb k b).2.1 (c.symm.trans e)
  ·rw[c]at e;injection e with e;have:=s k b;omega
 ·exact(m.mono fun k b=>V (A b)).trans n (fun k b _=>A b)
 ·rcases b with b | b | b
  ·exact A (A b)
  ·rcases c with c | c
   ·exact A (V (A (c.symm.trans b)))
   ·rw[c]at b;injection b with b;exact V (by omega)
  ·exact A (V (V b))
theorem CI.removed {T:Qb} {B:Nat} {W g:Z} {f:Nat} {l j i d:I} {t:Tx} (h:CI T B W f l j i t) (y:T≠77) (z:T≠9) {ps:List ByteArray} (C:g.ownsRow B 9 1 d ps.length (ps.map H))
  (D:W.grownBy g i.ownBlock) (c:d.ownBlock=i.ownBlock\/d.ownBlock=O W.heap.size) (r:∀k,l.ownBlock=O k->k<W.heap.size) :
  CI T B (g.setCell ⟨f,8,U⟩ d) f l j d (t.1,t.2.1,ps)/\Ac (EL f j i) W (g.setCell ⟨f,8,U⟩ d)/\∀k,EL f j d k->EL f j i k\/W.heap.size<=k:=by
 obtain⟨u,q,v⟩:=h.apart y z;have m:=Ac.grown D;have s:C8 T g f t.1 l j i:=h.cells.but m q;have n:Ac (fun k=>k=f) g (g.setCell ⟨f,8,U⟩ d):=(Ac.refl (fun k=>k=f) g).setCell (A (Eq.refl f)) _;have E:=h.cells.lt;have o:d.ownBlock≠O f:=fun e=>by
  rcases c with c | c
  ·exact q (c.symm.trans e)
  ·rw[c]at e;injection e with e;omega
 have p:∀k,l.ownBlock=O k->¬i.ownBlock=O k:=fun k b=>(h.nb k b).2.2;refine⟨⟨s.set8 _,h.lo,(h.base.but m p).but n (fun k b=>(h.nb k b).1),AG (AG h.adds m (fun k b e=>v k b e)) n (fun k b e=>u (by rw[<-e];exact b)),AG C n (fun k b e=>o (by rw[<-e];exact b)),fun k b=>⟨(h.nb k b).1,(h.nb k b).2.1,fun e=>?_⟩⟩,?_,fun k b=>?_⟩
 ·rcases c with c | c
  ·exact(h.nb k b).2.2 (c.symm.trans e)
  ·rw[c]at e;injection e with e;have:=r k b;omega
 ·exact(m.mono fun k b=>V (V b)).trans n (fun k b _=>A b)
 ·rcases b with b | b | b
  ·exact A (A b)
  ·exact A (V (A b))
  ·rcases c with c | c
   ·exact A (V (V (c.symm.trans b)))
   ·rw[c]at b;injection b with b;exact V (by omega)
def CU (T:Qb) (B:Nat) (W:Z) (v:I) (FP:Nat->Prop) (t:Tx):Prop :=
 ∃tb vb va vr,v=Qf (O ⟨tb,0,U⟩)/\CI T B W tb vb va vr t/\(∀k,EL tb va vr k->FP k)/\(∀k,vb.ownBlock=O k->(FP k\/k<B)/\k<W.heap.size)/\∀k,FP k->B<=k/\k<W.heap.size
theorem CU.but {P:Nat->Prop} {T:Qb} {B:Nat} {W l:Z} {v:I} {c:Nat->Prop} {t:Tx} (h:CU T B W v c t) (d:Ac P W l) (f:∀k,P k->B<=k/\¬c k):CU T B l v c t:=by
 obtain⟨m,n,o,p,rfl,g,i,b,j⟩:=h;refine⟨m,n,o,p,rfl,g.but d (fun k hk hP=>(f k hP).2 (i k hk)) (fun k hk hP=>?_),i,fun k hk=>⟨(b k hk).1,Q2 (b k hk).2 d.size⟩,fun k hk=>⟨(j k hk).1,Q2 (j k hk).2 d.size⟩⟩;rcases (b k hk).1 with h | h
 ·exact(f k hP).2 h
 ·exact absurd (f k hP).1 (by omega)
theorem CU.below {T:Qb} {B:Nat} {W b:Z} {v:I} {c:Nat->Prop} {t:Tx} (h:CU T B W v c t) (d:BL W b):CU T B b v c t :=
 h.but (Ac.of_below (P:=fun _=>False) d) (fun _ h=>h.elim)
def Ik (T:Qb) (B:Nat) (W:Z) (v:I) (FP:Nat->Prop) (t:Tx) (w':Z):Prop:= ∃FP',CU T B w' v FP' t/\Ac FP W w'/\∀k,FP' k->FP k\/W.heap.size<=k
theorem Uv {T:Qb} {B:Nat} {W p l:Z} {d:Nat} {q r s f g:I} {t:Tx} {i:Nat->Prop} (m:∀k,EL d r s k->i k) (n:∀k,q.ownBlock=O k->(i k\/k<B)/\k<W.heap.size) (o:∀k,i k->B<=k/\k<W.heap.size)
  (u:BL W p) (c:CI T B l d q f g t) (j:Ac (EL d r s) p l) (v:∀k,EL d f g k->EL d r s k\/p.heap.size<=k):Ik T B W (Qf (O ⟨d,0,U⟩)) i t l:=by
 have y:W.heap.size<=l.heap.size:=QJ u.size j.size;refine⟨fun k=>i k\/EL d f g k,⟨d,q,f,g,rfl,c,fun k b=>V b,fun k b=>⟨?_,Q2 (n k b).2 y⟩,fun k b=>?_⟩,?_,fun k b=>?_⟩
 ·rcases (n k b).1 with h | h
  ·exact A (A h)
  ·exact V h
 ·rcases b with b | b
  ·exact⟨(o k b).1,Q2 (o k b).2 y⟩
  ·rcases b with rfl | b | b
   ·exact⟨c.lo,c.cells.lt⟩
   ·exact⟨(A7 c.adds b).1,(A7 c.adds b).2.1⟩
   ·exact⟨(A7 c.rems b).1,(A7 c.rems b).2.1⟩
 ·exact(Ac.of_below u).trans (j.mono m) (fun _ h _=>h)
 ·rcases b with b | b
  ·exact A b
  ·rcases v k b with h | h
   ·exact A (m k h)
   ·exact V (QJ u.size h)
theorem Uw {T:Qb} {B:Nat} {W w':Z} {v:I} {b:Nat->Prop} {t:Tx} (h:CU T B W v b t) (c:BL W w'):Ik T B W v b t w':=⟨b,h.below c,Ac.of_below c,fun _ h=>A h⟩
theorem Kr {W g:Z} {P:Nat->Prop} {v:I} {zs:List Int} (h:A4 W v zs) (m:zs≠ []->∀k,v.ownBlock=O k->¬P k) (n:Ac P W g):A4 g v zs:=by
 rcases h with h | ⟨b,o,c,f,l⟩
 ·exact A h
 ·by_cases d:zs= []
  ·exact A ⟨O ⟨b,o,U⟩,c,by rw[f,d];rfl,d⟩
  ·have i:=m d b (by rw[f];rfl);exact V ⟨b,o,c,f,fun j hj=>n.keep i (l j hj)⟩
theorem Ks {W n:Z} {P:Nat->Prop} {v:I} {l:List Fl} (h:Ai W v l) (q:l≠ []->∀k,v.ownBlock=O k->¬P k) (g:Ac P W n):Ai n v l:=by
 rcases h with h | ⟨b,o,c,m,p,f⟩
 ·exact A h
 ·by_cases i:l= []
  ·exact A ⟨O ⟨b,o,U⟩,c,by rw[m,i];rfl,fun e=>(nomatch e),i⟩
  ·have d:=q i b (by rw[m];rfl);exact V ⟨b,o,c,m,p,fun j hj=>⟨g.keep d (f j hj).1,g.keep d (f j hj).2.1,g.keep d (f j hj).2.2.1,g.keep d (f j hj).2.2.2.1,g.keep d (f j hj).2.2.2.2.1,g.keep d (f j hj).2.2.2.2.2⟩⟩
def DW (k:Int):Qi Unit:=.lit (.int .i64 k)
abbrev Kt (k:Nat):I:=Qf (O ⟨k,0,U⟩)
def Il (v:I):Option (Qi Unit×List QC):=match v with
 | .pointer (O ⟨k,0,U⟩)=>O (DW k, [])
 | .pointer U=>O (DW (-1), [])
 | _=>U
theorem mC (k:Nat):Il (Kt k)=O (DW k, []):=rfl
theorem mD:Il (Qf U)=O (DW (-1), []):=rfl
theorem M3 {v:I} {z:Qi Unit×List QC} (h:Il v=O z):(∃k:Nat,v=Kt k/\z=(DW k, []))\/(v= .pointer U/\z=(DW (-1), [])):=by
 unfold Il at h;split at h
 ·exact A ⟨_,rfl,(Q1 h).symm⟩
 ·exact V ⟨rfl,(Q1 h).symm⟩
 ·cases h
theorem Ku {k j:Int} (h:DW k=DW j):k=j:=by simpa [DW] using h
def BN (n:ByteArray):Lit:=.string n.data.toList
def Ci (q:ByteArray->Nat) (l:List Ob):Qi Unit:=.map (l.map fun o=>(BN o.1,DW (q o.1)))
def Hi (q:ByteArray->Nat) (n:ByteArray) (k:Nat):ByteArray->Nat:=fun m=>if m=n then k else q m
theorem OI (q:ByteArray->Nat) (n:ByteArray) (k:Nat):Hi q n k n=k:=by simp[Hi]
theorem OJ (q:ByteArray->Nat) {n m:ByteArray} (k:Nat) (h:m≠n):Hi q n k m=q m:=by simp[Hi,h]
abbrev DX (l:List Ob):Prop:=l.Pairwise fun a b=>a.1.data.toList<b.1.data.toList
theorem OK (n m:ByteArray):(BN n).sameKey (BN m)=decide (n=m):=by
 show (n.data.toList == m.data.toList)=_;by_cases h:n=m
 ·subst h;simp
 ·rw[decide_eq_false h];simp only[beq_eq_false_iff_ne];exact fun e=>h (Ke e)
theorem M4 {n m:ByteArray} (h:n≠m):BN n≠BN m:=fun e=>h (Ke (by simpa [BN] using e))
theorem Im (q:ByteArray->Nat) (l:List Ob) (n:ByteArray):Qy (Ci q l) (BN n)=(B5 l n).isSome:=by
 unfold Ci B5;rw[Xd,XE];have e:((fun p:Lit×Qi Unit=>p.1.sameKey (BN n)) ∘ fun o:Ob=>(BN o.1,DW (q o.1)))=fun o=>decide (o.1=n):=by
  funext o;exact OK o.1 n
 rw[e,Bool.eq_iff_iff,Q9,List.find?_isSome]
theorem J0 (q:ByteArray->Nat) (l:List Ob) (n:ByteArray) (z:Qi Unit):(Ci q l).atKey (BN n) z=if (B5 l n).isSome=Qa then DW (q n) else z:=by
 unfold Ci B5 DataW.atKey;dsimp only;rw[List.find?_map];have e:((fun p:Lit×Qi Unit=>p.1.sameKey (BN n)) ∘ fun o:Ob=>(BN o.1,DW (q o.1)))=fun o=>decide (o.1=n):=by
  funext o;exact OK o.1 n
 rw[e]
 cases h:l.find? fun o=>decide (o.1=n) with
 | none=>rfl
 | some o =>
  have:=List.find?_some h;simp only[decide_eq_true_eq]at this;simp[this]
theorem Ux:∀(a b:List UInt8),a<b->XF a b=Qa
 | [], [],h=>absurd h (List.lt_irrefl _)
 | [],_ :: _,_=>rfl
 | _ :: _, [],h=>by cases h
 | x :: r,y :: s,h=>by
  unfold XF;rw[List.cons_lt_cons_iff]at h;rcases h with h | ⟨rfl,h⟩
  ·simp[h]
  ·simp[Ux r s h]
theorem Uy {q:ByteArray->Nat} {l:List Ob} (h:DX l):Xf (Ci q l):=by
 refine⟨_,rfl,?_,?_⟩
 ·rw[QY];exact h.imp fun h'=>Ux _ _ h'
 ·intro p b;obtain⟨o,_,rfl⟩:=Q3.1 b;exact trivial
theorem M5 (k:Lit):(∃n,k=BN n)\/∀q l,Qy (Ci q l) k=Qe:=by
 cases k with
 | string x=>exact A ⟨Ab x,by simp[BN,Ab]⟩
 | _ =>
  refine V fun q l=>?_;unfold Ci;rw[Xd,XE];apply List.any_eq_false.2;intro o _;simp[BN,Lit.sameKey]
theorem mE {q:ByteArray->Nat} {l:List Ob} {n t:ByteArray} {d:Int} {k:Nat} (c:DX l) (f:∀p∈l,p.1≠n) (s:Xf ((Ci q l).put (BN n) (DW k))):(Ci q l).put (BN n) (DW k)=Ci (Hi q n k) (Cx l (n,t,d)):=by
 have g:X5 (Ci q l):=⟨_,rfl⟩;have i:∀z,Qy ((Ci q l).put (BN n) (DW k)) z=Qy (Ci (Hi q n k) (Cx l (n,t,d))) z:=fun z=>by
  rcases M5 z with⟨m,rfl⟩ | b
  ·by_cases e:m=n
   ·subst e;rw[X9 g (show QK (BN m) from trivial),Im,Mk (o:=(m,t,d)) c f];rfl
   ·rw[Xc (M4 e),Im,Im,Ok (o:=(n,t,d)) c f e]
  ·rw[b,Xc (fun e=>?_),b];subst e;have j:=b q (Cx l (n,t,d));rw[Im,Mk (o:=(n,t,d)) c f]at j;cases j
 refine XG s (Uy (KP (o:=(n,t,d)) c f)) i (fun z u b=>?_);rcases M5 z with⟨m,rfl⟩ | r
 ·by_cases e:m=n
  ·subst e;rw[X7 g (show QK (BN m) from trivial),J0,Mk (o:=(m,t,d)) c f,OI];rfl
  ·rw[X8 (M4 e),J0,J0,Ok (o:=(n,t,d)) c f e,OJ _ _ e]
 ·rw[i,r]at b;cases b
theorem Uz {l:List Ob} {f:Ob->Bool} (h:DX l):DX (l.filter f):=h.sublist QI
theorem mF {q:ByteArray->Nat} {l:List Ob} {n:ByteArray} (c:DX l) (g:Xf ((Ci q l).del (BN n))):(Ci q l).del (BN n)=Ci q (l.filter fun o=>decide (o.1≠n)):=by
 have d:∀z,Qy ((Ci q l).del (BN n)) z=Qy (Ci q (l.filter fun o=>decide (o.1≠n))) z:=fun z=>by
  rcases M5 z with⟨m,rfl⟩ | b
  ·by_cases e:m=n
   ·subst e;rw[XH,Im,KQ c,if_pos rfl];rfl
   ·rw[XI (M4 e),Im,Im,KQ c,if_neg e]
  ·by_cases e:z=BN n
   ·subst e;rw[XH,b]
   ·rw[XI e,b,b]
 refine XG g (Uy (Uz c)) d (fun z u b=>?_);rcases M5 z with⟨m,rfl⟩ | f
 ·by_cases e:m=n
  ·subst e;rw[d,Im,KQ c,if_pos rfl]at b;cases b
  ·rw[Maps.atKey_del_other (M4 e),J0,J0,KQ c,if_neg e]
 ·rw[d,f]at b;cases b
theorem M6 (q:ByteArray->Nat) (l:List Ob):QL (Ci q l)=l.length:=by unfold Ci;rw[XB,QW]
def BW (w:Z) (b:Nat) (q:ByteArray->Nat) (l:List Ob):Prop:=w.ownsMap Qd 9 Il b l.length (Ci q l)
theorem Tryz.keyedS:Maps.Keyed Qd 9:=Maps.string_keyed XJ
theorem M7 {n:ByteArray} (h:n.size<=Qu):keyOf Qd 9 (.string n)=O (BN n):=WideMaps.keyOf_string_mk XJ h
theorem BW.block {w:Z} {b:Nat} {q:ByteArray->Nat} {l:List Ob} (h:BW w b q l):∃es clock,w.heap[b]? =O (.map es clock):=by
 obtain⟨es,clock,c,_⟩:=h;exact⟨es,clock,c⟩
theorem BW.lt {w:Z} {b:Nat} {q:ByteArray->Nat} {l:List Ob} (h:BW w b q l):b<w.heap.size:=XN h
theorem BW.keep {w w':Z} {b:Nat} {q:ByteArray->Nat} {l:List Ob} (h:BW w b q l) (k:w'.heap[b]? =w.heap[b]?):BW w' b q l:=by
 obtain⟨d,c,f,g,i,j⟩:=h;exact⟨d,c,k.trans f,g,i,j⟩
def J1 (q:ByteArray->Nat) (l:List Ob) (n:ByteArray):I:=if (B5 l n).isSome=Qa then Kt (q n) else Qf U
theorem Tryz.zeroObj (w:Z):(QR 153).run Qd w= .ok (Qf U) w:=zeroValue153 w
section
variable {w : Z} {b : Nat} {q : ByteArray → Nat} {l : List Ob}
theorem BW.look (h:BW w b q l) {n:ByteArray} (i:n.size<=Qu) :
  (Instr.lookup 68 (.map (O b)) (H n) Qe).run Qd w= .ok (J1 q l n) w:=by
 obtain⟨v,j,f,d⟩:=XO h Tryz.keyedS QM (Tryz.zeroObj w) mD (M7 i);rw[f];rw[J0]at d;unfold J1;by_cases g:(B5 l n).isSome=Qa
 ·rw[if_pos g]at d ⊢;rcases M3 d with⟨k,rfl,c⟩|⟨rfl,c⟩
  ·have:=Ku (Prod.mk.inj c).1;have:q n=k:=by omega
   rw[this]
  ·have:=Ku (Prod.mk.inj c).1;omega
 ·rw[if_neg g]at d ⊢;rcases M3 d with⟨k,rfl,c⟩|⟨rfl,c⟩
  ·have:=Ku (Prod.mk.inj c).1;omega
  ·rfl
theorem BW.len (h:BW w b q l) (c:Qb):(XP #[68] c #[.map (O b)]).run Qd w= .ok (S J l.length) w:=by
 rw[XQ h QM c,M6]
theorem BW.store (h:BW w b q l) (j:DX l) (m:l.length<Qu) {n:ByteArray} (o:n.size<=Qu) (g:∀p∈l,p.1≠n) (t:ByteArray) (d:Int) (k:Nat) :
  ∃w',(Instr.mapUpdate 68 (.map (O b)) (H n) (Kt k)).run Qd w= .ok () w'/\BW w' b (Hi q n k) (Cx l (n,t,d))/\w.mapTurned w' b:=by
 obtain⟨w',c,f,i⟩:=XR h Tryz.keyedS QM m (M7 o) (mC k);refine⟨w',c,?_,i⟩;unfold BW;rw[<-mE j g (XK f Tryz.keyedS),Oj];exact f
theorem BW.drop (h:BW w b q l) (s:DX l) {n:ByteArray} (t:n.size<=Qu) (j:Qb) :
  ∃w',(XS #[68,9] j #[.map (O b),.string n]).run Qd w= .ok (Qv #[]) w'/\BW w' b q (l.filter fun o=>decide (o.1≠n))/\w.mapTurned w' b:=by
 obtain⟨w',d,f,k⟩:=XT h Tryz.keyedS QM (M7 t) j;refine⟨w',d,?_,k⟩;have e:=mF s (XK f Tryz.keyedS);rw[e]at f;unfold BW;have g:QL (Ci q (l.filter fun o=>decide (o.1≠n)))<=(l.filter fun o=>decide (o.1≠n)).length:=by rw[M6];exact Qm _
 obtain⟨m,c,p,r,u,i⟩:=f;refine⟨m,c,p,r,?_,i⟩;rw[i]at g;simpa [QL,XC] using g
end
theorem BW.made (w:Z) (q:ByteArray->Nat):BW (w.alloc (.map #[] 0)) w.heap.size q []:=X6 w _ _ _
theorem Ac.of_turned {w w':Z} {b:Nat} (h:w.mapTurned w' b):Ac (fun k=>k=b) w w':=by
 have g:=World.mapTurned.grown h;exact⟨g.os,g.tape,g.output,g.size,fun k hk hP=>g.block k hk (fun e=>hP (Q1 e))⟩
def DB (s:St):Bool:= !s.off && decide (0<=s.cut)
def EN (s:St):Int:=if DB s=Qa then s.cut else 0
def SC (W:Z) (b:Nat) (mo:Option Nat) (h:ByteArray) (d:Int) (off waits:Bool) (left:Int):Prop:=W.heap[b]? =O (Ql #[.map mo,H h,S J d,QN off,QN waits,S J left] 72 (0,0))
def Gl (W:Z) (q:ByteArray->Nat) (l:List Ob):Prop:= ∀o∈l,W.heap[q o.1]? =O (Ql #[H o.2.1,S J o.2.2] 190 (0,0))
def Hj (W:Z) (mo:Option Nat) (q:ByteArray->Nat) (l:List Ob):Prop:=(mo=U/\l= [])\/∃mb,mo=O mb/\BW W mb q l
structure Bo (W:Z) (b:Nat) (mo:Option Nat) (q:ByteArray->Nat) (s:St):Prop where
 block:SC W b mo s.head s.day s.off (DB s) (EN s)
 map:Hj W mo q s.obs
 objs:Gl W q s.obs
 rise:DX s.obs
 cut:s.cut<=9223372036854775807
def C9 (b:Nat) (mo:Option Nat) (q:ByteArray->Nat) (l:List Ob):Nat->Prop:=fun k=>k=b\/mo=O k\/∃o∈l,q o.1=k
def An (W:Z) (v:I) (FP:Nat->Prop) (s:St):Prop:= ∃b mo q,v=Qf (O ⟨b,0,U⟩)/\FP=C9 b mo q s.obs/\Bo W b mo q s
theorem SC.lt {W:Z} {b:Nat} {i:Option Nat} {h:ByteArray} {d:Int} {g c:Bool} {f:Int} (j:SC W b i h d g c f):b<W.heap.size:=Q5 j
theorem SC.cells {W:Z} {b:Nat} {i:Option Nat} {h:ByteArray} {d:Int} {g c:Bool} {f:Int} (j:SC W b i h d g c f):W.cell? ⟨b,0,U⟩=O (.map i)/\W.cell? ⟨b,1,U⟩=O (H h)/\W.cell? ⟨b,2,U⟩=O (S J d)/\W.cell? ⟨b,3,U⟩=O (QN g)/\W.cell? ⟨b,4,U⟩=O (QN c)/\W.cell? ⟨b,5,U⟩=O (S J f)/\∀o,W.frozen? ⟨b,o,U⟩=Qe:=by
 refine⟨?_,?_,?_,?_,?_,?_,fun o=>QH _ _ _ _ _ j⟩<;>rw [Qq _ _ _ _ _ _ j]<;>rfl
theorem Gl.cells {W:Z} {q:ByteArray->Nat} {l:List Ob} (h:Gl W q l) {o:Ob} (b:o∈l):W.cell? ⟨q o.1,0,U⟩=O (H o.2.1)/\W.cell? ⟨q o.1,1,U⟩=O (S J o.2.2):=by
 refine⟨?_,?_⟩<;>rw [Qq _ _ _ _ _ _ (h o b)]<;>rfl
theorem Gl.lt {W:Z} {q:ByteArray->Nat} {l:List Ob} (h:Gl W q l) {o:Ob} (b:o∈l):q o.1<W.heap.size:=Q5 (h o b)
theorem Gl.keep {W b:Z} {q:ByteArray->Nat} {l:List Ob} (h:Gl W q l) (c:∀o∈l,b.heap[q o.1]? =W.heap[q o.1]?):Gl b q l:=fun o ho=>(c o ho).trans (h o ho)
theorem Hj.keep {W c:Z} {b:Option Nat} {q:ByteArray->Nat} {l:List Ob} (h:Hj W b q l) (d:∀mb,b=O mb->c.heap[mb]? =W.heap[mb]?):Hj c b q l:=by
 rcases h with h | ⟨mb,rfl,h⟩
 ·exact A h
 ·exact V ⟨mb,rfl,h.keep (d mb rfl)⟩
theorem Bo.lt {W:Z} {b:Nat} {d:Option Nat} {q:ByteArray->Nat} {s:St} (h:Bo W b d q s) {k:Nat} (c:C9 b d q s.obs k):k<W.heap.size:=by
 rcases c with rfl | c | ⟨o,f,rfl⟩
 ·exact h.block.lt
 ·rcases h.map with⟨e,_⟩|⟨i,rfl,g⟩
  ·rw[e]at c;cases c
  ·cases c;exact g.lt
 ·exact h.objs.lt f
theorem Bo.keep {W d:Z} {b:Nat} {c:Option Nat} {q:ByteArray->Nat} {s:St} {P:Nat->Prop} (h:Bo W b c q s) (f:Ac P W d) (i:∀k,C9 b c q s.obs k->¬P k):Bo d b c q s:=by
 have g:∀k,C9 b c q s.obs k->d.heap[k]? =W.heap[k]? :=fun k hk=>f.block k (h.lt hk) (i k hk);refine⟨(g b (A rfl)).trans h.block,h.map.keep fun mb e=>g mb (V (A e)),h.objs.keep fun o ho=>g _ (V (V ⟨o,ho,rfl⟩)),h.rise,h.cut⟩
theorem Bo.below {W c:Z} {b:Nat} {d:Option Nat} {q:ByteArray->Nat} {s:St} (h:Bo W b d q s) (f:BL W c):Bo c b d q s :=
 h.keep (Ac.of_below (P:=fun _=>False) f) fun _ _ h=>h
theorem OM {W:Z} {b i:Nat} {k:Option Nat} {h:ByteArray} {d:Int} {j f:Bool} {g:Int} {q:ByteArray->Nat} {l:List Ob} (m:SC W b k h d j f g) (n:BW W i q l):i≠b:=by
 rintro rfl;obtain⟨o,c,e⟩:=n.block;rw[m]at e;cases e
theorem U0 {W:Z} {b:Nat} {i:Option Nat} {h:ByteArray} {d:Int} {g c:Bool} {f:Int} {q:ByteArray->Nat} {l:List Ob} (j:SC W b i h d g c f) (k:Gl W q l) {o:Ob} (m:o∈l):q o.1≠b:=by
 rintro rfl;have e:=k o m;rw[j]at e;simp at e
theorem U1 {W:Z} {b:Nat} {q:ByteArray->Nat} {l:List Ob} (g:BW W b q l) {d:List Ob} {f:ByteArray->Nat} (i:Gl W f d) {o:Ob} (h:o∈d):f o.1≠b:=by
 rintro rfl;obtain⟨j,c,e⟩:=g.block;rw[i o h]at e;cases e
theorem Bo.turned {W g:Z} {b:Nat} {i:Option Nat} {q:ByteArray->Nat} {s c:St} (h:Bo W b i q s) (l:Ac (fun k=>k=b) W g) (m:SC g b i c.head c.day c.off (DB c) (EN c)) (j:c.obs=s.obs) (n:c.cut<=9223372036854775807):Bo g b i q c:=by
 refine⟨m,?_,?_,by rw[j];exact h.rise,n⟩
 ·rw[j];refine h.map.keep fun mb e=>?_;rcases h.map with⟨f,_⟩|⟨p,f,d⟩
  ·rw[f]at e;cases e
  ·rw[f]at e;cases e;exact l.block _ d.lt (OM h.block d)
 ·rw[j];exact h.objs.keep fun o d=>l.block _ (h.objs.lt d) (U0 h.block h.objs d)
theorem ID {W w':Z} {b:Nat} {d c:Option Nat} {q f:ByteArray->Nat} {s g:St} (h:Bo w' b c f g) (i:Ac (C9 b d q s.obs) W w') (j:∀k,C9 b c f g.obs k->C9 b d q s.obs k\/W.heap.size<=k) :
 ∃FP',An w' (Qf (O ⟨b,0,U⟩)) FP' g/\Ac (C9 b d q s.obs) W w'/\∀k,FP' k->C9 b d q s.obs k\/W.heap.size<=k:=⟨_,⟨b,c,f,rfl,rfl,h⟩,i,j⟩
theorem Lf {W w':Z} {b:Nat} {d:Option Nat} {q:ByteArray->Nat} {s c:St} (h:Bo W b d q s) (f:Ac (fun k=>k=b) W w') (i:SC w' b d c.head c.day c.off (DB c) (EN c)) (g:c.obs=s.obs) (j:c.cut<=9223372036854775807) :
  ∃FP',An w' (Qf (O ⟨b,0,U⟩)) FP' c/\Ac (C9 b d q s.obs) W w'/\∀k,FP' k->C9 b d q s.obs k\/W.heap.size<=k :=
 ID (h.turned f i g j) (f.mono fun _ e=>A e) fun k hk=>A (by rw[g]at hk;exact hk)
theorem A4.shape {w:Z} {v:I} {zs:List Int} (h:A4 w v zs):∃q c,v=Qc q zs.length c:=by
 rcases h with⟨p,c,rfl,rfl⟩|⟨b,o,d,rfl,_⟩
 ·exact⟨p,c,rfl⟩
 ·exact⟨_,d,rfl⟩
theorem A4.at {w:Z} {q:Option Qg} {n c:Nat} {zs:List Int} (h:A4 w (Qc q n c) zs) (d:zs≠ []):∃b o,q=O ⟨b,o,U⟩/\∀j (h:j<zs.length),w.cell? ⟨b,o+j,U⟩=O (S J zs[j]):=by
 rcases h with⟨p,i,_,e⟩|⟨b,o,g,e,f⟩
 ·exact absurd e d
 ·injection e with e1;exact⟨b,o,e1,f⟩
structure Gm (w:Z) (a:Nat->Qg):Prop where
 base:DR w
 text:w.cell? ⟨4,0,U⟩=O (Qn 410 (Qf (O (a 0))))
 bound:w.cell? ⟨1,0,U⟩=O (Qn 410 (Qf (O (a 1))))
 miss:w.cell? ⟨3,0,U⟩=O (Qn 410 (Qf (O (a 5))))
 full:w.cell? ⟨6,0,U⟩=O (Qn 410 (Qf (O (a 7))))
 order:w.cell? ⟨7,0,U⟩=O (Qn 410 (Qf (O (a 8))))
theorem Gm.below {w w':Z} {a:Nat->Qg} (h:Gm w a) (b:BL w w'):Gm w' a :=
 ⟨h.base.below b,Aa b h.text,Aa b h.bound,Aa b h.miss,Aa b h.full,Aa b h.order⟩
theorem Gm.weak {w:Z} {a:Nat->Qg} (h:Gm w a):Cd w a:=⟨h.text,h.bound,h.base.maxl,h.base.syn,h.base.tab⟩
def ON (v:I):Prop:= ∀q l c,v=Qc q l c->l<=c
def CA (w:Z) (v:I) (zs:List Int):Prop:=A4 w v zs/\ON v
theorem CA.below {w w':Z} {v:I} {zs:List Int} (h:CA w v zs) (b:BL w w'):CA w' v zs:=⟨h.1.below b,h.2⟩
def IE (w:Z) (v:I):Prop:= ∀k,v.ownBlock=O k->w.heap.size<=k
theorem Lg:ON (Qc U 0 0):=fun q l c e=>by injection e with _ e1 e2;omega
theorem U2 {zs:List Int} {k:Nat} (c:zs.length=k+1) (d:k<zs.length):zs.getLastD 0=zs[k]:=by
 have b:zs≠ []:=fun e=>by rw[e]at c;simp at c
 rw[List.getLastD_eq_getLast?,X4 b,Option.getD_some,List.getLast_eq_getElem];congr 1;omega
theorem mG {zs:List Int} {n:Nat} (d:n<=zs.length):(zs.take n).getLastD 0=I9 zs n:=by
 cases n with
 | zero=>rfl
 | succ m =>
  have b:m<zs.length:=by omega
  have c:(zs.take (m+1)).length=m+1:=by rw[Qz];omega
  rw[U2 c (by omega),QS];simp[I9,X1,b]
theorem mH {w:Z} {b o n c:Nat} {zs:List Int} (f:∀j (h:j<zs.length),w.cell? ⟨b,o+j,U⟩=O (S J zs[j])) (g:n<=zs.length):A4 w (Qc (O ⟨b,o,U⟩) n c) (zs.take n):=by
 have d:(zs.take n).length=n:=by rw[Qz];omega
 refine V ⟨b,o,c,by rw[d],fun j hj=>?_⟩;rw[QS];exact f j (by omega)
theorem OO (v:I) (zs:List Int) (w:Z) (i:A4 w v zs) (r:zs.length<=100000) :
  Qj Qd 68 #[v] w fun e w'=>e=Qk (S J (zs.getLastD 0))/\w'=w:=by
 obtain⟨q,n,rfl⟩:=i.shape;by_cases c:zs= []
 ·subst c
  go_enter func68,ntmps68
  go_wp2;go_ret;exact⟨rfl,rfl⟩
 ·obtain⟨b,o,rfl,p⟩:=i.at c;obtain⟨k,g⟩:∃k,zs.length=k+1:=⟨zs.length-1,by have:=Q6.2 c;omega⟩;have d:k<zs.length:=by omega
  rw[U2 g d,g];have j:(((k+1:Nat):Int) == 0)=Qe:=beq_eq_false_iff_ne.2 (by omega);have l:IntKind.i64.wrap (((k+1:Nat):Int)-1)=(k:Int):=by rw[IntWalk.i64_in _ (by omega)];omega
  have f:(k:Int)<((k+1:Nat):Int):=by omega
  obtain⟨K,m⟩:∃K,k+1=K:=⟨_,rfl⟩;rw[m]at j l f ⊢
  go_enter func68,ntmps68
  go_wp2;go_ret;exact⟨rfl,rfl⟩
def GB (zs:List Int) (z:Int):Nat:=if CT z=Qe then 2 else if z<=zs.getLastD 0 then 9 else 0
theorem U3 (v:I) (zs:List Int) (z:Int) (w:Z) (a:Nat->Qg) (h:Gm w a) (g:A4 w v zs) (j:zs.length<=100000) :
  Qj Qd 200 #[v,S J z] w fun e w'=>e=Qk (Ae a (GB zs z))/\w'=w:=by
 have b:=OO v zs w g j;obtain⟨q,m,rfl⟩:=g.shape;have k:=h.bound;have l:=h.order;by_cases n:z<1
 ·have c:GB zs z=2:=by
   unfold GB;rw[if_pos];simp only[CT,XL,decide_eq_false_iff_not];omega
  rw[c]
  go_enter QO,QP
  go_wp2;go_ret;exact⟨rfl,rfl⟩
 by_cases o:1073741824<z
 ·have c:GB zs z=2:=by
   unfold GB;rw[if_pos];simp only[CT,XL,decide_eq_false_iff_not];omega
  rw[c]
  go_enter QO,QP
  go_wp2;go_ret;exact⟨rfl,rfl⟩
 have c:GB zs z=if z<=zs.getLastD 0 then 9 else 0:=by
  unfold GB;rw[if_neg];rw[Bool.not_eq_false];exact Ko.2 ⟨by omega,by omega⟩
 rw[c];generalize zs.getLastD 0=d at b ⊢;by_cases f:z<=d
 ·rw[if_pos f]
  go_enter QO,QP
  go_wp2_with fail
  refine b.mono ?_;rintro e i ⟨rfl,rfl⟩;go_wp2;go_ret;exact⟨rfl,rfl⟩
 ·rw[if_neg f]
  go_enter QO,QP
  go_wp2_with fail
  refine b.mono ?_;rintro e i ⟨rfl,rfl⟩;go_wp2;go_ret;exact⟨rfl,rfl⟩
theorem Lh (v:I) (zs:List Int) (w:Z) (a:Nat->Qg) (h:Gm w a) (u:CA w v zs) (hl:zs.length<=100000) :
  Qj Qd 133 #[v] w fun e w'=> ∃ev,e=Qk ev/\AZ w' a ev (AF zs)/\BL w w':=by
 obtain⟨u,X⟩:=u;obtain⟨q,E,rfl⟩:=u.shape;have m:=X q zs.length E rfl;by_cases d:zs= []
 ·subst d;have F:AF ([]:List Int)=(6,U):=rfl;rw[F];have hm:=h.miss
  go_enter Xg,Xh
  go_wp2;go_ret;exact⟨_,rfl,rfl,Below.refl _ _⟩
 obtain⟨b,o,rfl,hc⟩:=u.at d;have p:=Q6.2 d;by_cases f:40<zs.length
 ·have F:AF zs=(8,U):=by unfold AF;rw[if_neg d,if_pos f]
  rw[F];have hm:=h.full;generalize zs.length=L at hl m p f ⊢;have h0:((L:Int) == 0)=Qe:=beq_eq_false_iff_ne.2 (by omega);have hi:(40:Int)<(L:Int):=by omega
  go_enter Xg,Xh
  go_wp2;go_ret;exact⟨_,rfl,rfl,Below.refl _ _⟩
 have y:Hid (AF zs=D3 0 zs 0):=by
  show _=_;unfold AF;rw[if_neg d,if_neg f]
 have M:Hid _:=hc;have N:Hid _:=h;obtain⟨R,hR⟩:∃R,AF zs=R:=⟨_,rfl⟩;rw[hR]at y ⊢;obtain⟨L,K⟩:∃L,zs.length=L:=⟨_,rfl⟩;have P:Hid _:=K;rw[K]at hl m p f ⊢;clear K u hc d hR h;have h0:((L:Int) == 0)=Qe:=beq_eq_false_iff_ne.2 (by omega)
 go_enter Xg,Xh
 go_wp2
 go_loopw [16] (fun k wr=> ∃n:Nat,n<=L/\k=S J n/\Ii zs n/\wr=w) (fun k _=>L-(intOf k).toNat)
 case atStart=>exact ⟨0,by omega,rfl,lR zs,rfl⟩
 case round =>
  obtain⟨n,hn,rfl,aa,rfl⟩:=hrel;have l:Hid (Ii zs n):=aa;by_cases Q:n<L
  ·have g:n<zs.length:=by rw[P.out];exact Q
   have c0:=M.out n g;have c:=U3 (Qc (O ⟨b,o,U⟩) n E) (zs.take n) zs[n] wr a N.out (mH M.out (by omega)) (by rw[Qz];omega);unfold GB at c;rw[mG (by omega)]at c;have D:=fun e=>lS l.out g e;have i:=fun e o=>lT l.out g e o;have j:=fun e o=>lU l.out g e o;generalize I9 zs n=Y at c i j;generalize zs[n]=z at c0 c D i j;cases t:CT z
   ·rw[if_pos t]at c;have r:Hid (R=(2,O n)):=by show _=_;rw[y.out];exact D t
    simp only[Ae]at c;have s:BL wr (wr.alloc (Ql #[S J n,Qn 410 (Qf (O (a 1)))] 143)):=Af _ _
    go_wp2_with fail
    refine c.mono ?_;rintro e C ⟨rfl,rfl⟩;go_wp2;go_ret;refine⟨_,rfl,?_,s⟩;rw[r.out];exact⟨by simp,C.heap.size,rfl,by simp,by simp[Ae]⟩
   ·rw[if_neg (by rw[t];simp)]at c;replace i:=i t;replace j:=j t;by_cases B:z<=Y
    ·rw[if_pos B]at c;have r:Hid (R=(9,O n)):=by show _=_;rw[y.out];exact i B
     simp only[Ae]at c;have s:BL wr (wr.alloc (Ql #[S J n,Qn 410 (Qf (O (a 8)))] 143)):=Af _ _
     go_wp2_with fail
     refine c.mono ?_;rintro e C ⟨rfl,rfl⟩;go_wp2;go_ret;refine⟨_,rfl,?_,s⟩;rw[r.out];exact⟨by simp,C.heap.size,rfl,by simp,by simp[Ae]⟩
    ·rw[if_neg B]at c;have T:Hid _:=j B;simp only[Ae]at c
     go_wp2_with fail
     refine c.mono ?_;rintro e C ⟨rfl,rfl⟩;go_wp2;go_roundw
     case rel=>exact ⟨n+1,by omega,by go_num,T.out,by first | trivial | rfl⟩
     case measure=>simp [intOf];omega
  ·obtain rfl:n=L:=by omega
   have r:Hid (R=(0,U)):=by
    show _=_;rw[y.out];have W:=l.out;rw[<-P.out]at W;exact lV W
   go_wp2;go_ret;refine⟨_,rfl,?_,Below.refl _ _⟩;rw[r.out];rfl
def CB (W:Z) (kb:Nat) (vs:I) (spec hd:ByteArray) (vi:I) (s:Sn) (vf:I):Prop:=W.heap[kb]? =O (Ql #[vs,H spec,H hd,vi,S J s.1,S J s.2.1,S J s.2.2.1,S J s.2.2.2.1,S J s.2.2.2.2.1,H s.2.2.2.2.2.1,vf] 66 (0,0))
theorem CB.lt {W:Z} {c:Nat} {d f vf:I} {b g:ByteArray} {s:Sn} (h:CB W c d b g f s vf):c<W.heap.size:=Q5 h
theorem CB.cells {W:Z} {b:Nat} {d f vf:I} {c g:ByteArray} {s:Sn} (h:CB W b d c g f s vf):W.cell? ⟨b,0,U⟩=O d/\W.cell? ⟨b,1,U⟩=O (H c)/\W.cell? ⟨b,2,U⟩=O (H g)/\W.cell? ⟨b,3,U⟩=O f/\W.cell? ⟨b,4,U⟩=O (S J s.1)/\W.cell? ⟨b,5,U⟩=O (S J s.2.1)/\W.cell? ⟨b,6,U⟩=O (S J s.2.2.1)/\W.cell? ⟨b,7,U⟩=O (S J s.2.2.2.1)/\W.cell? ⟨b,8,U⟩=O (S J s.2.2.2.2.1)/\W.cell? ⟨b,9,U⟩=O (H s.2.2.2.2.2.1)/\W.cell? ⟨b,10,U⟩=O vf/\∀o,W.frozen? ⟨b,o,U⟩=Qe:=by
 refine⟨?_,?_,?_,?_,?_,?_,?_,?_,?_,?_,?_,fun o=>QH _ _ _ _ _ h⟩<;>rw [Qq _ _ _ _ _ _ h]<;>rfl
theorem CB.keep {W d:Z} {c:Nat} {f g vf:I} {b i:ByteArray} {s:Sn} (h:CB W c f b i g s vf) (e:d.heap[c]? =W.heap[c]?):CB d c f b i g s vf:=e.trans h
theorem CB.setHd {W:Z} {c:Nat} {d f vf:I} {b g:ByteArray} {s:Sn} (h:CB W c d b g f s vf) (x:ByteArray):CB (W.setCell ⟨c,2,U⟩ (H x)) c d b x f s vf:=by
 unfold CB at *;rw[Qh _ _ _ _ _ _ h];rfl
theorem CB.setIds {W:Z} {c:Nat} {d g vf:I} {b f:ByteArray} {s:Sn} (h:CB W c d b f g s vf) (x:I):CB (W.setCell ⟨c,3,U⟩ x) c d b f x s vf:=by
 unfold CB at *;rw[Qh _ _ _ _ _ _ h];rfl
def EO (W:Z) (kb:Nat) (s:Sn) (vf:I):Z:=((((((W.setCell ⟨kb,4,U⟩ (S J s.1)).setCell ⟨kb,5,U⟩ (S J s.2.1)).setCell ⟨kb,6,U⟩ (S J s.2.2.1)).setCell ⟨kb,7,U⟩ (S J s.2.2.2.1)).setCell ⟨kb,8,U⟩ (S J s.2.2.2.2.1)).setCell ⟨kb,9,U⟩ (H s.2.2.2.2.2.1)).setCell ⟨kb,10,U⟩ vf
theorem CB.setNow {W:Z} {c:Nat} {d f vf g:I} {b i:ByteArray} {s r:Sn} (j:CB W c d b i f s vf):CB (EO W c r g) c d b i f r g:=by
 obtain⟨k,l,m,n,o,p,q⟩:=r;obtain⟨t,u,v,y,z,B,C⟩:=s;unfold CB EO at *;rw[Qh _ _ _ _ _ _ (Qh _ _ _ _ _ _ (Qh _ _ _ _ _ _ (Qh _ _ _ _ _ _ (Qh _ _ _ _ _ _ (Qh _ _ _ _ _ _ (Qh _ _ _ _ _ _ j))))))];simp
theorem U4 (W:Z) (c:Nat) (s:Sn) (vf:I):Ac (fun j=>j=c) W (EO W c s vf):=by
 have b:(fun k=>k=c) c\/W.heap.size<=c:=A rfl;unfold EO;exact(((((((Ac.refl (fun k=>k=c) W).setCell b _).setCell b _).setCell b _).setCell b _).setCell b _).setCell b _).setCell b _
theorem mI {W:Z} {v:I} {p:Nat->Prop} {s:St} {vf:I} {r:List Fl} (h:An W v p s) (C:Ai W vf r) (g:r≠ []) {j:Nat} (m:vf.ownBlock=O j):¬p j:=by
 obtain⟨b,D,q,-,rfl,i⟩:=h;rcases C with⟨_,_,_,_,e⟩|⟨F,o,c,y,_,z⟩
 ·exact absurd e g
 ·rw[y]at m;simp only[Qr,Qo]at m;subst m;obtain⟨d,f,-⟩:=z 0 (Q6.2 g);rintro(e | e | ⟨x,u,e⟩)
  ·subst e;rw[Qq _ _ _ _ _ _ i.block]at d f
   match o,d,f with
   | 0,d,_=>simp at d
   | 1,_,f=>simp at f
   | 2,d,_=>simp at d
   | 3,d,_=>simp at d
   | 4,d,_=>simp at d
   | 5,d,_=>simp at d
   | k+6,d,_=>simp at d
  ·rcases i.map with⟨l,_⟩|⟨K,l,B⟩
   ·rw[l]at e;cases e
   ·rw[l]at e;injection e with e;subst e;obtain⟨E,t,n,-⟩:=B;simp[QE,n]at d
  ·subst e;rw[Qq _ _ _ _ _ _ (i.objs x u)]at d f
   match o,d,f with
   | 0,_,f=>simp at f
   | 1,d,_=>simp at d
   | k+2,d,_=>simp at d
theorem mJ {W:Z} {m:Nat} {r t vf u:I} {i D:ByteArray} {s:Sn} {v:List Fl} (h:CB W m r i D t s vf) (y:∃p,r=Qf p) (z:∃q n c,t=Qc q n c) (E:Ai W u v) (g:v≠ []) {j:Nat} (l:u.ownBlock=O j):j≠m:=by
 obtain⟨p,rfl⟩:=y;obtain⟨q,n,c,rfl⟩:=z;rcases E with⟨_,_,_,_,e⟩|⟨F,o,c,B,_,C⟩
 ·exact absurd e g
 ·rw[B]at l;simp only[Qr,Qo]at l;subst l;obtain⟨b,d,f,-⟩:=C 0 (Q6.2 g);intro e;subst e;rw[Qq _ _ _ _ _ _ h]at b d f
  match o,b,d,f with
  | 0,b,_,_=>simp at b
  | 1,_,_,f=>simp at f
  | 2,_,d,_=>simp at d
  | 3,b,_,_=>simp at b
  | 4,b,_,_=>simp at b
  | 5,b,_,_=>simp at b
  | 6,b,_,_=>simp at b
  | 7,b,_,_=>simp at b
  | 8,b,_,_=>simp at b
  | 9,_,_,f=>simp at f
  | 10,b,d,_=>simp at d
  | k+11,b,_,_=>simp at b
def Dt (SAt:Z->I->(Nat->Prop)->St->Prop) (W:Z) (v:I) (FP:Nat->Prop) (s:St) (w':Z):Prop:= ∃FP',SAt w' v FP' s/\Ac FP W w'/\∀k,FP' k->FP k\/W.heap.size<=k
structure A2 (a:Nat->Qg) (B:Nat) (EM:Z->Prop) (SAt:Z->I->(Nat->Prop)->St->Prop):Prop where
 below:∀W W':Z,EM W->Below B W W'->EM W'
 size:∀W:Z,EM W->B<=W.heap.size
 ptr:∀(W:Z) (v:I) (FP:Nat->Prop) (s:St),SAt W v FP s->∃p,v=Qf (O p)
 lt:∀(W:Z) (v:I) (FP:Nat->Prop) (s:St) (k:Nat),SAt W v FP s->FP k->k<W.heap.size
 keep:∀(W W':Z) (v:I) (FP P:Nat->Prop) (s:St),SAt W v FP s->Ac P W W'->(∀k,FP k->¬P k)->SAt W' v FP s
 new:∀W:Z,EM W->Qj Qd 9 #[] W fun e w'=> ∃v FP,e=Qk v/\SAt w' v FP E1/\(∀k,FP k->W.heap.size<=k)/\BL W w'
 put:∀(W:Z) (v:I) (FP:Nat->Prop) (s:St) (n t:ByteArray),EM W->SAt W v FP s->AY s->n.size<=1000->t.size<=100000->Qj Qd 137 #[v,H n,H t] W fun e w'=>e=Qk (Ae a (BM s n t))/\Dt SAt W v FP (B3 s n t) w'
 get:∀(W:Z) (v:I) (FP:Nat->Prop) (s:St) (n:ByteArray),EM W->SAt W v FP s->AY s->n.size<=1000->Qj Qd 65 #[v,H n] W fun e w'=>e=Qk (Qv #[H (Ba s.obs n).1,Ae a (Ba s.obs n).2])/\BL W w'
 drop:∀(W:Z) (v:I) (FP:Nat->Prop) (s:St) (n:ByteArray),EM W->SAt W v FP s->AY s->n.size<=1000->Qj Qd 44 #[v,H n] W fun e w'=>e=Qk (Ae a (Fx s n))/\Dt SAt W v FP (E2 s n) w'
 names:∀(W:Z) (v:I) (FP:Nat->Prop) (s:St),EM W->SAt W v FP s->AY s->Qj Qd 91 #[v] W fun e w'=> ∃v',e=Qk v'/\EA w' v' (s.obs.map fun o=>o.1)/\BL W w'
 born:∀(W:Z) (v:I) (FP:Nat->Prop) (s:St) (n:ByteArray),EM W->SAt W v FP s->AY s->n.size<=1000->Qj Qd 94 #[v,H n] W fun e w'=>e=Qk (S J (Ib s.obs n))/\BL W w'
 swap:∀(W:Z) (v:I) (FP:Nat->Prop) (s:St) (n t:ByteArray),EM W->SAt W v FP s->AY s->n.size<=1000->t.size<=100000->Qj Qd 152 #[v,H n,H t] W fun e w'=>e=Qk (Ae a (CG s n t))/\Dt SAt W v FP (B9 s n t) w'
 head:∀(W:Z) (v:I) (FP:Nat->Prop) (s:St),EM W->SAt W v FP s->AY s->Qj Qd 31 #[v] W fun e w'=>e=Qk (H s.head)/\BL W w'
 cut:∀(W:Z) (v:I) (FP:Nat->Prop) (s:St) (z:Int),EM W->SAt W v FP s->AY s->(-9223372036854775808<=z/\z<=9223372036854775807)->Qj Qd 37 #[v,S J z] W fun e w'=>e=Qk (Ae a (H9 s z))/\Dt SAt W v FP (E3 s z) w'
 on:∀(W:Z) (v:I) (FP:Nat->Prop) (s:St),EM W->SAt W v FP s->AY s->Qj Qd 30 #[v] W fun e w'=>e=Qk (Qv #[])/\Dt SAt W v FP (Bq s) w'
 next:∀(W:Z) (v:I) (FP:Nat->Prop) (s:St) (z:Int),EM W->SAt W v FP s->AY s->(-9223372036854775808<=z/\z<=9223372036854775807)->Qj Qd 36 #[v,S J z] W fun e w'=>e=Qk (Qv #[S J (if I2 s z=0 then s.day+z else 0),Ae a (I2 s z)])/\Dt SAt W v FP (Ia s z) w'
 day:∀(W:Z) (v:I) (FP:Nat->Prop) (s:St),EM W->SAt W v FP s->AY s->Qj Qd 77 #[v] W fun e w'=>e=Qk (S J s.day)/\BL W w'
section
variable {a : Nat → Qg} {B : Nat} {EM : Z → Prop} {SAt : Z → I → (Nat → Prop) → St → Prop}
end
end
end Go.Proofs.YtcllhobffhkafaaGreatDoor
