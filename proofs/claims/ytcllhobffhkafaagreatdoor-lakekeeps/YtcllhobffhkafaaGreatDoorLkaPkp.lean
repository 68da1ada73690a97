/- By an AI agent. -/
import Derived.Test.YtcllhobffhkafaaGreatDoorPackGrp
set_option maxRecDepth 100000
set_option maxHeartbeats 16000000
open Go.Proofs.Tryz
open Array renaming getElem?_toList->QO
open Bool renaming false->Qe,true->Qh,and_eq_true->Q7,decide_and->Xm,not_eq_false'->Xt,and_comm->Xv
open Go renaming World->H,Value->Qa,Calls->Qf,Addr->Qt,bodyPost_ret->Q9,results->QA,cell_of_row->QD,maxLen->QF,wp_loop_rounds->QV,rounds_succ->QW,lt_of_block->Xa,heap_alloc_new->Xg,frozen_of_row->Xk
open Go.Builtin renaming append_->QC
open Go.Ending renaming returned->Qg
open Go.IntKind renaming i64->U
open Go.IntWalk renaming i64_in->Qb
open Go.Obj renaming cells->Qd
open Go.Proofs renaming intOf->A
open Go.Proofs.Tryz renaming prog->V,func312->QT,ntmps312->QU,results312->Xl
open Go.RowKit renaming Hid->Z
open Go.RowKit.Below renaming refl->Ql,drew->Qw,trans->QH,size->QI
open Go.Value renaming int->O,slice->J,string->Qc,pointer->Qi,tuple->Qj,bool->Qu,nilIface->Qx,ownBlock->Xh
open List renaming getElem_mem->Qk,length_map->Qn,flatMap_cons->Qo,mem_singleton->Qq,mem_filter->Qr,map_cons->Qv,length_append->Q0,map_append->Q1,filter_append->Q2,mem_cons_of_mem->Q3,mem_map->Q4,take_succ_eq_append_getElem->Q5,mem_cons->Q6,mem_append->Q8,mem_cons_self->QB,getElem_set->QE,getElem?_eq_getElem->QG,length_filter_le->QJ,map_map->QK,length_cons->QL,filter_congr->QM,getElem?_take->QN,length_set->QP,getElem?_eq_some_iff->QQ,map_set->QR,append_assoc->QX,nil_append->QY,filter_filter->QZ,length_eq_zero_iff->Xb,pairwise_iff_getElem->Xc,getElem_map->Xd,mem_iff_getElem->Xe,length->Xj,filter_map->Xn,take_length->Xo,foldl_append->Xp,length_singleton->Xq,map_nil->Xr,pairwise_map->Xs,any_eq_true->Xu
open List.Perm renaming refl->QS,swap->Xw
open Nat renaming le_trans->Qm,le_refl->Qp,mul_one->Xi
open Option renaming none->I,some->S,map_some->Xf
open Option.some renaming injEq->Qy
open Or renaming inl->Qs,inr->Qz
namespace Go.Proofs.YtcllhobffhkafaaGreatDoor
open Go.RowKit Go.Extern.Stop Go.Stop Go.Extern Go.Sort Go.Shelf Go.Lib
def L8 (B:Nat) (w:H) (gb:Nat) (vp:Qa) (g:Gp) (w':H):Prop :=
 ∃v',Cp w' gb g v'/\w'.ownsRow B 9 1 v' g.2.2.length (g.2.2.map Qc)/\Ac (fun k=>k=gb\/vp.ownBlock=S k) w w'/\(v'.ownBlock=vp.ownBlock\/∃k,v'.ownBlock=S k/\w.heap.size<=k/\k<w'.heap.size)
theorem Wt (B:Nat) (f:Fl) (g:Gp) (b:Nat) (o:Qa) (w:H) (hg:Cp w b g o) (ho:w.ownsRow B 9 1 o g.2.2.length (g.2.2.map Qc)) (hB:B<=w.heap.size) (h1:0<=g.2.1/\g.2.1<=1000000) (h2:0<=f.2.2.1/\f.2.2.1<=1000000) (al:g.2.2.length<=1000) :
  Qf V 228 #[Qi (S ⟨b,0,I⟩),A6 f] w fun e w'=>e=Qg (Qj #[])/\L8 B w b o (CK f g) w':=by
 have t:BL w (w.alloc (Qd #[Qc f.1,Qc f.2.1,O U f.2.2.1,O U f.2.2.2.1,O U f.2.2.2.2.1,O U f.2.2.2.2.2] 77)):=Af _ _;have u:=A1.new w f;have v:=hg.below t;have L:=AG (P:=fun _=>False) ho (Ac.of_below t) (fun _ _ h=>h);have am:IntKind.i64.wrap (g.2.1+f.2.2.1)=g.2.1+f.2.2.1:=Qb _ (by omega);have an:=hg.lt;obtain⟨qp,cp,ai⟩:=Dj ho;unfold A6 CK
 go_enter func228,ntmps228
 go_upto_region 1 with fail
 obtain⟨p,fq,d,ad,ae,Q⟩:=f;obtain⟨gp,i,X⟩:=g;generalize w.alloc (Qd #[Qc p,Qc fq,O U d,O U ad,O U ae,O U Q] 77)=l at t u v L ⊢;obtain⟨c0,c1,c2,c3,c4,c5,-⟩:=u.cells;obtain⟨d0,d1,d2,dz⟩:=v.cells;have y:∀k,o.ownBlock=S k->k≠b:=fun k hk e=>by
  obtain⟨_,_,ao,hc⟩:=A7 L hk;subst e;have:=v.symm.trans hc;simp only[Qy,Obj.cells.injEq]at this;exact absurd this.2.1 (by decide)
 have M:Ac (fun k=>k=b) l ((l.setCell ⟨b,1,I⟩ (O U (i+d))).drew):=by
  have h':Ac (fun k=>k=b) l (l.setCell ⟨b,1,I⟩ (O U (i+d))):=(Ac.refl (fun k=>k=b) l).setCell (Qs (Eq.refl b)) _;exact h'.trans (Ac.of_below (Qw (Ql _ _))) (fun _ h _=>h)
 have z:Cp ((l.setCell ⟨b,1,I⟩ (O U (i+d))).drew) b (gp,i+d,X) o:=(v.set1 (i+d)).below (Qw (Ql _ _));have Y:=AG L M y;have aa:A1 ((l.setCell ⟨b,1,I⟩ (O U (i+d))).drew) w.heap.size (p,fq,d,ad,ae,Q):=(M.block w.heap.size (Xa u) (by omega)).trans u;have C:Z (Ac (fun k=>k=b\/o.ownBlock=S k) w ((l.setCell ⟨b,1,I⟩ (O U (i+d))).drew)):=(Ac.of_below t).trans (M.mono fun _ h=>Qs h) (fun _ h _=>h)
 go_region
 go_upto_region 2 with fail
 generalize (l.setCell ⟨b,1,I⟩ (O U (i+d))).drew=m at *;have ag:B<=m.heap.size:=Qm hB C.out.size;have D:BL m m.drew:=(Ql _ _).drew;have ab:BL m (m.alloc (Qd #[Qc p] 9)):=Af _ _;have ac:=AG (P:=fun _=>False) Y (Ac.of_below D) (fun _ _ h=>h);obtain⟨r,K,hr,R,T,W⟩:=Lm ac ag p rfl (by omega);have E:Cp K b (gp,i+d,X) o:=(z.below D).but T (fun e=>y b e rfl);have N:∀k,r.ownBlock=S k->k≠b:=fun k hk e=>by
  rcases W with s | ⟨j,s,hj,_⟩
  ·exact y k (s.symm.trans hk) e
  ·rw[s]at hk;injection hk with hk;have h5:m.drew.heap.size=m.heap.size:=rfl;have:=z.lt;omega
 obtain⟨q',n',c',aj⟩:∃q n c,r=J q n c:=by
  obtain⟨q,c,h⟩:=Dj R;exact⟨q,_,c,h⟩
 have F:Ac (fun k=>k=b) K (K.setCell ⟨b,2,I⟩ r):=(Ac.refl (fun k=>k=b) K).setCell (Qs (Eq.refl b)) _;have af:Z (L8 B w b o (gp,i+d,X++ [p]) (K.setCell ⟨b,2,I⟩ r)):=by
  refine⟨r,E.set2 r (X++ [p]),AG R F N,(C.out.trans ((Ac.of_below D).trans (T.mono fun _ h=>Qz h) (fun _ h _=>h)) (fun _ h _=>h)).trans (F.mono fun _ h=>Qs h) (fun _ h _=>h),?_⟩;rcases W with s | ⟨j,s,hj,ak⟩
  ·exact Qs s
  ·exact Qz ⟨j,s,Qm C.out.size hj,Nat.lt_of_lt_of_le ak F.size⟩
 have ah:(QC #[82,82] 82 #[o,J (S ⟨m.heap.size,0,I⟩) 1 1]).run V (m.alloc (Qd #[Qc p] 9)).drew= .ok r K:=hr;have k0:=aa.cells.1;have m0:=z.cells.2.2.1;have m2:=Aa ab m0;have y0:=E.cells.2.2.1;have y1:=E.cells.2.2.2;subst aj;clear hr ac D ab aa z E Y R T W F y N C ai
 go_region_law (refine OY (by rfl) _ _ _ (by rfl) _ _ _ (by rfl) (by rfl) ah ?_)
 all_goals go_wp2
 all_goals go_end0
 all_goals exact⟨rfl,af.out⟩
abbrev Gx:=Nat×Qa×Gp
def Fn (x:Gx):Qa:=Qi (S ⟨x.1,0,I⟩)
structure BR (B:Nat) (W:H) (v:Qa) (xs:List Gx):Prop where
 row:W.ownsRow B 202 1 v xs.length (xs.map Fn)
 cell:∀x∈xs,Cp W x.1 x.2.2 x.2.1/\B<=x.1/\W.ownsRow B 9 1 x.2.1 x.2.2.2.2.length (x.2.2.2.2.map Qc)
 ap:xs.Pairwise fun x y=>x.1≠y.1/\∀k,x.2.1.ownBlock=S k->y.2.1.ownBlock≠S k
theorem Ho {W:H} {j k:Nat} {d f:Array Qa} {b c:TypeId} (g:W.heap[j]? =S (Qd d b (0,0))) (i:W.heap[k]? =S (Qd f c (0,0))) (l:b≠c):j≠k:=fun e=>by
 subst e;have:=g.symm.trans i;simp only[Qy,Obj.cells.injEq]at this;exact l this.2.1
theorem BR.but {P:Nat->Prop} {B:Nat} {W c:H} {v:Qa} {xs:List Gx} (h:BR B W v xs) (b:Ac P W c) (f:∀k,v.ownBlock=S k->¬P k) (d:∀x∈xs,¬P x.1/\∀k,x.2.1.ownBlock=S k->¬P k):BR B c v xs :=
 ⟨AG h.row b f,fun x hx=>⟨(h.cell x hx).1.but b (d x hx).1,(h.cell x hx).2.1,AG (h.cell x hx).2.2 b (d x hx).2⟩,h.ap⟩
theorem BR.below {B:Nat} {W b:H} {v:Qa} {xs:List Gx} (h:BR B W v xs) (c:BL W b):BR B b v xs :=
 h.but (Ac.of_below (P:=fun _=>False) c) (fun _ _ h=>h) (fun _ _=>⟨fun h=>h,fun _ _ h=>h⟩)
theorem BR.nil (B:Nat) (W:H):BR B W (J I 0 0) []:=⟨World.ownsRow_nil _ _ _ _,fun _ h=>absurd h (List.not_mem_nil),List.Pairwise.nil⟩
theorem BR.at_ {B:Nat} {W:H} {q:Option Qt} {n c:Nat} {xs:List Gx} (h:BR B W (J q n c) xs) (i:xs≠ []):∃b,q=S ⟨b,0,I⟩/\∀j (hj:j<xs.length),W.cell? ⟨b,j,I⟩=S (Fn xs[j]):=by
 rcases h.row.2 with⟨_,k⟩|⟨g,o,d,f,_,l,p,_,_,m⟩
 ·exact absurd (Xb.1 k) i
 ·simp only[Value.slice.injEq]at f;refine⟨g,f.1,fun j hj=>?_⟩;rw[QD _ _ _ _ _ _ l];have e:(d.toList.take (xs.length*1))[j]? =(xs.map Fn)[j]? :=by rw[m]
  rw[QN,if_pos (by omega),QO]at e;rw[e];simp[hj]
theorem BR.took {B:Nat} {W L:H} {v:Qa} {xs:List Gx} (h:BR B W v xs) {n:Nat} (t:n<xs.length) {g:Gp} (Q:L8 B W xs[n].1 xs[n].2.1 g L):∃v',BR B L v (xs.set n (xs[n].1,v',g)):=by
 obtain⟨v',M,N,z,P⟩:=Q;have m:=h.cell xs[n] (Qk _);have c:=Xc.1 h.ap;have y:∀k,v.ownBlock=S k->¬(k=xs[n].1\/xs[n].2.1.ownBlock=S k):=fun k hk e=>by
  obtain⟨_,_,R,d⟩:=A7 h.row hk;rcases e with e | e
  ·exact Ho d m.1 (by decide) e
  ·obtain⟨_,_,K,f⟩:=A7 m.2.2 e;exact Ho d f (by decide) rfl
 have o:∀j (b:j<xs.length),j≠n->¬(xs[j].1=xs[n].1\/xs[n].2.1.ownBlock=S xs[j].1)/\∀k,xs[j].2.1.ownBlock=S k->¬(k=xs[n].1\/xs[n].2.1.ownBlock=S k):=fun j b hne=>by
  have l:=h.cell xs[j] (Qk _);have u:xs[j].1≠xs[n].1/\∀k,xs[j].2.1.ownBlock=S k->xs[n].2.1.ownBlock≠S k:=by
   rcases Nat.lt_or_gt_of_ne hne with D | D
   ·exact c j n b t D
   ·obtain⟨q,C⟩:=c n j t b D;exact⟨fun e=>q e.symm,fun k d f=>C k f d⟩
  refine⟨fun e=>?_,fun k hk e=>?_⟩
  ·rcases e with e | e
   ·exact u.1 e
   ·obtain⟨_,_,K,f⟩:=A7 m.2.2 e;exact Ho l.1 f (by decide) rfl
  ·rcases e with e | e
   ·obtain⟨_,_,K,f⟩:=A7 l.2.2 hk;exact Ho m.1 f (by decide) e.symm
   ·exact u.2 k hk e
 have p:∀j (b:j<xs.length),j≠n->∀k,xs[j].2.1.ownBlock=S k->v'.ownBlock≠S k:=fun j b hne k hk e=>by
  rcases P with E | ⟨i,E,r,_⟩
  ·exact(o j b hne).2 k hk (Qz (E.symm.trans e))
  ·rw[E]at e;injection e with e;have:=(A7 (h.cell xs[j] (Qk _)).2.2 hk).2.1;omega
 refine⟨v',?_,fun x hxm=>?_,?_⟩
 ·have d:(xs.set n (xs[n].1,v',g)).map Fn=xs.map Fn:=by
   apply List.ext_getElem (by simp);intro j _ _;simp only[Xd,QE];split
   ·rename_i e;subst e;rfl
   ·rfl
  rw[d,QP];exact AG h.row z y
 ·obtain⟨j,b,rfl⟩:=Xe.1 hxm;rw[QP]at b;rw[QE];split
  ·rename_i e;exact⟨M,m.2.1,N⟩
  ·rename_i e;have l:=h.cell xs[j] (Qk _);have F:=o j b (fun e'=>e e'.symm);exact⟨l.1.but z F.1,l.2.1,AG l.2.2 z F.2⟩
 ·rw[Xc];intro i j r b s;rw[QP]at r b;rw[QE,QE];split
  ·rename_i e;subst e;rw[if_neg (by omega)];obtain⟨q,C⟩:=c n j t b s;exact⟨q,fun k hk e=>p j b (by omega) k e hk⟩
  ·split
   ·rename_i d e;subst e;obtain⟨q,C⟩:=c i n r t s;exact⟨q,fun k hk e=>p i r (by omega) k hk e⟩
   ·exact c i j r b s
theorem Tryz.grpInfo3:(Tryz.prog.info? 202).map (fun i=>(i.zero,i.size,i.bytes))=S (S (Qi I),1,8):=by kernel_rfl
theorem Tryz.grpInfo:∃i0:TypeInfo,Tryz.prog.info? 202=S i0/\i0.zero=S (Qi I)/\i0.size=1/\i0.bytes=8:=by
 have h:=Tryz.grpInfo3
 cases b:Tryz.prog.info? 202 with
 | none=>rw [b]at h;simp at h
 | some i =>
  rw[b]at h;simp only[Xf,Qy,Prod.mk.injEq]at h;exact⟨i,rfl,h.1,h.2.1,h.2.2⟩
theorem BR.more {B:Nat} {W d i:H} {v:Qa} {xs:List Gx} (h:BR B W v xs) (K:B<=W.heap.size) (g:ByteArray) (p:d=W.alloc (Qd #[Qc g,O U 0,J I 0 0] 205)) (r:i=d.alloc (Qd #[Qi (S ⟨W.heap.size,0,I⟩)] 202)) (hl:xs.length<=1000) :
  ∃v' W2,(QC #[198,198] 198 #[v,J (S ⟨W.heap.size+1,0,I⟩) 1 1]).run V i= .ok v' W2/\BR B W2 v' (xs++ [(W.heap.size,J I 0 0,(g,0, []))])/\Ac (fun k=>v.ownBlock=S k) W W2:=by
 obtain⟨L,M,N,Q,E⟩:=Tryz.grpInfo;have s:BL W d:=by rw[p];exact Af _ _
 have t:d.heap.size=W.heap.size+1:=by rw[p];simp
 have j:BL d i:=by rw[r];exact Af _ _
 have D:Cp d W.heap.size (g,0, []) (J I 0 0):=by rw[p];exact Xg _ _
 have q:=D.below j;have l:=Ad s j;have z:=h.below l;have C:CR i (S ⟨W.heap.size+1,0,I⟩) 1 1 [Qi (S ⟨W.heap.size,0,I⟩)]:=by
  rw[<-t,r];exact Ih d [Qi (S ⟨W.heap.size,0,I⟩)] 202 1 1
 obtain⟨v',W2,R,T,X,hv⟩:=Fc (P:=V) i B 198 198 202 L (Qi I) 1 8 underlying198 M N Q E rfl (by decide) v xs.length (xs.map Fn) z.row (S ⟨W.heap.size+1,0,I⟩) 1 1 [Qi (S ⟨W.heap.size,0,I⟩)] rfl C (by intro u F;rw[Qq]at F;subst F;rfl) (by unfold QF;omega) (by omega) (Qm K l.size);have b:=Ac.grown X;have m:∀k,v.ownBlock=S k->∃c,i.heap[k]? =S (Qd c 202 (0,0)):=fun k hk=>(A7 z.row hk).2.2;refine⟨v',W2,R,⟨?_,fun x f=>?_,?_⟩,(Ac.of_below l).trans b (fun _ h _=>h)⟩
 ·rw[Q0,Q1];exact T
 ·rw[Q8,Qq]at f;rcases f with f | rfl
  ·have n:=z.cell x f;refine⟨n.1.but b (fun e=>?_),n.2.1,AG n.2.2 b (fun k hk e=>?_)⟩
   ·obtain⟨c,o⟩:=m _ e;exact Ho n.1 o (by decide) rfl
   ·obtain⟨c,o⟩:=m _ e;obtain⟨_,_,c1,Y⟩:=A7 n.2.2 hk;exact Ho Y o (by decide) rfl
  ·refine⟨q.but b (fun e=>?_),K,World.ownsRow_nil _ _ _ _⟩;obtain⟨c,o⟩:=m _ e;exact Ho q o (by decide) rfl
 ·rw[List.pairwise_append];refine⟨h.ap,List.pairwise_singleton _ _,fun x f y hy=>?_⟩;rw[Qq]at hy;subst hy;refine⟨fun e=>?_,fun k _ e=>by simp[Xh]at e⟩;have:=(h.cell x f).1.lt;omega
def Rj (xs:List Gx):Prop:= ∀x∈xs,0<=x.2.2.2.1/\x.2.2.2.1<=1000000
theorem xR (f:Fl) (x:Gx) (d:Nat) (w:H) (g:A1 w d f) (i:Cp w x.1 x.2.2 x.2.1) (j:0<=x.2.2.2.1/\x.2.2.2.1<=1000000) (k:0<=f.2.2.1/\f.2.2.1<=1000000) :
  Qf V 226 #[Fn x,Qi (S ⟨d,0,I⟩)] w fun e w'=>e=Qg (Qu (Cl f x.2.2))/\BL w w':=by
 have b:=xQ f x.2.2 x.1 x.2.1 w i j k;obtain⟨l,m,n,o,p,q,-⟩:=g.cells;unfold Fn
 go_enter func226,ntmps226
 go_wp2_with fail
 refine b.mono ?_;rintro e r ⟨rfl,c⟩;go_wp2;go_ret;exact⟨rfl,c⟩
theorem xS (B:Nat) (f:Fl) (m:Nat) (v:Qa) (xs:List Gx) (w:H) (u:BR B w v xs) (T:A1 w m f) (P:Rj xs) (X:0<=f.2.2.1/\f.2.2.1<=1000000) (Y:xs.length<=20000) :
  Qf V 225 #[v,.func (.func 226) #[] #[Qi (S ⟨m,0,I⟩)]] w fun e w'=> ∃i,e=Qg (O U i)/\Gn (fun x:Gx=>Cl f x.2.2) xs i/\BL w w':=by
 have s:Z (∀x∈xs,∀W,BL w W->Qf V 226 #[Fn x,Qi (S ⟨m,0,I⟩)] W fun e w'=>e=Qg (Qu (Cl f x.2.2))/\BL W w'):=fun x hxm W d=>xR f x m W (T.below d) ((u.cell x hxm).1.below d) (P x hxm) X;obtain⟨q,aa,rfl⟩:=Dj u.row;have o:Z _:=fun W (d:BL w W)=>u.below d;obtain⟨L,K⟩:∃L,xs.length=L:=⟨_,rfl⟩;have y:Z _:=K;rw[K]at Y o ⊢
 go_enter func225,ntmps225
 go_wp2
 go_loopw [8] (fun k wr=> ∃n:Nat,n<=L/\k=O U n/\(∀j (h:j<xs.length),j<n->Cl f xs[j].2.2=Qe)/\BL w wr) (fun k _=>L-(A k).toNat)
 case atStart=>exact ⟨0,by omega,rfl,fun j h h'=>absurd h' (Nat.not_lt_zero _),Ql _ _⟩
 case round =>
  obtain⟨n,hn,rfl,M,d⟩:=hrel;have g:Z _:=M;by_cases z:n<L
  ·have c:n<xs.length:=by rw[y.out];exact z
   obtain⟨b,Q,hc⟩:=(o.out wr d).at_ (fun e=>by rw[e]at c;simp at c);subst Q;have l:=s.out xs[n] (Qk _) wr d;have C:Z (Cl f xs[n].2.2=Qh->Gn (fun x:Gx=>Cl f x.2.2) xs n):=fun e=>M9 (p:=fun x:Gx=>Cl f x.2.2) g.out c e;have D:Z (Cl f xs[n].2.2=Qe->∀j (h:j<xs.length),j<n+1->Cl f xs[j].2.2=Qe):=fun e=>M8 (p:=fun x:Gx=>Cl f x.2.2) g.out c e;generalize Cl f xs[n].2.2=R at l C D
   go_wp2_with fail
   refine l.mono ?_;rintro e w1 ⟨rfl,N⟩;have r:=Ad d N;cases R
   ·have E:=D.out rfl;have F:Z _:=E;go_wp2;go_roundw
    case rel=>exact ⟨n+1,by omega,by go_num,F.out,r⟩
    case measure=>simp [A];omega
   ·have t:Z _:=C.out rfl;go_wp2;go_ret;exact⟨_,rfl,t.out,r⟩
  ·obtain rfl:n=L:=by omega
   have t:Z (Gn (fun x:Gx=>Cl f x.2.2) xs (-1)):=MA (p:=fun x:Gx=>Cl f x.2.2) (fun j hj _=>g.out j hj (by rw[<-y.out];exact hj));go_wp2;go_ret;exact⟨_,rfl,t.out,d⟩
def pN (x:Nat):Qa:=Qi (S ⟨x,0,I⟩)
def CL (B:Nat) (W:H) (b L cap:Nat) (D:List Nat):Prop:=W.ownsRow B 202 1 (J (S ⟨b,0,I⟩) L cap) L (D.map pN)
theorem CL.len {B:Nat} {W:H} {b L c:Nat} {D:List Nat} (h:CL B W b L c D):D.length=L:=by
 have:=h.1;rw[Qn]at this;omega
theorem CL.blk {B:Nat} {W:H} {b L c:Nat} {D:List Nat} (h:CL B W b L c D):∃cur,W.heap[b]? =S (Qd cur 202 (0,0))/\L<=c/\c<=QF/\cur.size=c/\cur.toList.take L=D.map pN/\B<=b:=by
 rcases h.2 with⟨d,_⟩|⟨g,f,cur,d,i,j,k,l,n,m⟩
 ·simp at d
 ·simp only[Value.slice.injEq,Qy,Addr.mk.injEq]at d;obtain⟨⟨rfl,_⟩,_,rfl⟩:=d;exact⟨cur,j,k,l,by omega,by rw[<-m,Xi],i⟩
theorem CL.of {B:Nat} {W:H} {b L c:Nat} {D:List Nat} {d:Array Qa} (g:W.heap[b]? =S (Qd d 202 (0,0))) (i:L<=c) (j:c<=QF) (m:d.size=c) (f:d.toList.take L=D.map pN) (k:B<=b):CL B W b L c D:=by
 have l:D.length=L:=by
  have:=congrArg Xj f;rw[Qn,List.length_take,Array.length_toList]at this;omega
 exact⟨by rw[Qn];omega,Qz ⟨b,c,d,rfl,k,g,i,j,by omega,by rw[Xi];exact f⟩⟩
theorem CL.but {P:Nat->Prop} {B:Nat} {W d:H} {b L c:Nat} {D:List Nat} (h:CL B W b L c D) (f:Ac P W d) (g:¬P b):CL B d b L c D:=AG h f (fun k hk e=>g (by simp only[Xh,Qy]at hk;rw[hk];exact e))
theorem CL.below {B:Nat} {W d:H} {b L c:Nat} {D:List Nat} (h:CL B W b L c D) (f:BL W d):CL B d b L c D:=h.but (Ac.of_below (P:=fun _=>False) f) (fun h=>h)
theorem CL.cell {B:Nat} {W:H} {b L d:Nat} {D:List Nat} (h:CL B W b L d D) {j x:Nat} (f:D[j]? =S x):W.cell? ⟨b,j,I⟩=S (pN x):=by
 obtain⟨c,g,_,_,_,i,_⟩:=h.blk;have l:=h.len;have k:j<D.length:=(QQ.1 f).1;rw[QD _ _ _ _ _ _ g];have e:(c.toList.take L)[j]? =(D.map pN)[j]? :=by rw[i]
 rw[QN,if_pos (by omega),QO,List.getElem?_map,f]at e;exact e
theorem CL.fz {B:Nat} {W:H} {b L c:Nat} {D:List Nat} (h:CL B W b L c D) (j:Nat):W.frozen? ⟨b,j,I⟩=Qe:=by
 obtain⟨f,d,_⟩:=h.blk;exact Xk _ _ _ _ _ d
theorem CL.set {B:Nat} {W:H} {b L c:Nat} {D:List Nat} (h:CL B W b L c D) (j x:Nat):CL B (W.setCell ⟨b,j,I⟩ (pN x)) b L c (D.set j x):=by
 obtain⟨d,g,i,k,l,m,n⟩:=h.blk;have f:(W.setCell ⟨b,j,I⟩ (pN x)).heap[b]? =S (Qd (d.setIfInBounds j (pN x)) 202 (0,0)):=heap_setCell_same _ _ _ _ _ _ g;refine CL.of f i k (by rw[Array.size_setIfInBounds];exact l) ?_ n;rw[Array.toList_setIfInBounds,QR,<-m,List.take_set]
theorem Wu (W:H) (b j:Nat) (v:Qa):Ac (fun k=>k=b) W (W.setCell ⟨b,j,I⟩ v):=(Ac.refl (fun k=>k=b) W).setCell (Qs (Eq.refl b)) _
theorem xT {P:Nat->Prop} {W b:H} (h:Ac P W b):Ac P W b.drew:=h.trans (Ac.of_below (Qw (Ql _ _))) (fun _ h _=>h)
theorem xU {E:List Nat} {i j x y:Nat} (f:E[i]? =S x) (g:E[j]? =S y):((E.set i y).set j x).Perm E:=by
 obtain⟨c,rfl⟩:=QQ.1 f;obtain⟨d,rfl⟩:=QQ.1 g;have h:=Array.swap_perm (xs:=E.toArray) (i:=i) (j:=j) (by simpa using c) (by simpa using d);have b:=h.toList;simpa [Array.swap] using b
def Pm (B b L cap:Nat) (D:List Nat) (w W:H):Prop:=(∃E,CL B W b L cap E/\E.Perm D)/\Ac (fun k=>k=b) w W
section
variable {B b L cap : Nat} {D : List Nat} {w W W' : H}
theorem Pm.below (h:Pm B b L cap D w W) (c:BL W W'):Pm B b L cap D w W':=by
 obtain⟨⟨E,d,f⟩,g⟩:=h;exact⟨⟨E,d.below c,f⟩,g.trans (Ac.of_below c) (fun _ h _=>h)⟩
theorem Pm.at_ (h:Pm B b L cap D w W) {i:Nat} (hi:i<L):∃x∈D,W.cell? ⟨b,i,I⟩=S (pN x):=by
 obtain⟨⟨E,c,d⟩,-⟩:=h;have f:=c.len;exact⟨E[i],d.subset (Qk _),c.cell (QG _)⟩
theorem Pm.swap (h:Pm B b L cap D w W) {i j x y:Nat} (m:i≠j) (hi:i<L) (t:j<L) (u:W.cell? ⟨b,i,I⟩=S (pN x)) (v:W.cell? ⟨b,j,I⟩=S (pN y)) :
  (∀o,W.frozen? ⟨b,o,I⟩=Qe)/\(W.setCell ⟨b,i,I⟩ (pN y)).cell? ⟨b,j,I⟩=S (pN y)/\(∀o,(W.setCell ⟨b,i,I⟩ (pN y)).frozen? ⟨b,o,I⟩=Qe)/\Pm B b L cap D w (((W.setCell ⟨b,i,I⟩ (pN y)).setCell ⟨b,j,I⟩ (pN x)).drew):=by
 obtain⟨⟨E,c,r⟩,s⟩:=h;have C:=c.len;have d:∀ {k z},k<L->W.cell? ⟨b,k,I⟩=S (pN z)->E[k]? =S z:=fun {k z} hk e=>by
  have n:=c.cell (j:=k) (x:=E[k]'(by omega)) (QG _);have f:=n.symm.trans e;unfold pN at f;simp only[Qy,Value.pointer.injEq,Addr.mk.injEq,and_true]at f;rw[QG (by omega:k<E.length),f]
 have p:=d hi u;have l:=d t v;have g:=c.set i y;have q:=g.set j x;refine⟨c.fz,g.cell (by rw[List.getElem?_set_ne m];exact l),g.fz,⟨_,q.below (Qw (Ql _ _)),(xU p l).trans r⟩,xT ((s.trans (Wu _ _ _ _) (fun _ h _=>h)).trans (Wu _ _ _ _) (fun _ h _=>h))⟩
theorem Pm.start (h:CL B w b L cap D):Pm B b L cap D w w:=⟨⟨D,h,QS _⟩,Ac.refl _ _⟩
theorem Rk (h:Pm B b L cap D w W) (P:L<=10000) (p m u:Nat) (o:Qa) (Q:p+u<=m) (R:m+u<=L) :
  Qf V 379 #[J (S ⟨b,0,I⟩) L cap,O U (p:Nat),O U (m:Nat),O U (u:Nat),o] W fun e w'=>e=Qg (Qj #[])/\Pm B b L cap D w w':=by
 have c:Z (Pm B b L cap D w W):=h;clear h
 go_enter func379,ntmps379
 go_wp2
 go_loopw [10] (fun k wr=> ∃i:Nat,i<=u/\k=O U i/\Pm B b L cap D w wr) (fun k _=>u-(A k).toNat)
 case atStart=>exact ⟨0,by omega,rfl,c.out⟩
 case round =>
  clear c;obtain⟨i,F,rfl,d⟩:=hrel;by_cases q:i<u
  ·obtain⟨x,-,f⟩:=d.at_ (i:=p+i) (by omega);obtain⟨y,-,g⟩:=d.at_ (i:=m+i) (by omega);obtain⟨K,n,j,l⟩:=d.swap (by omega:p+i≠m+i) (by omega) (by omega) f g;have c:Z (Pm B b L cap D w (((wr.setCell ⟨b,p+i,I⟩ (pN y)).setCell ⟨b,m+i,I⟩ (pN x)).drew)):=l;have s:IntKind.i64.wrap ((p:Int)+(i:Int))=((p+i:Nat):Int):=by rw[Qb _ (by omega)];omega
   have t:IntKind.i64.wrap ((m:Int)+(i:Int))=((m+i:Nat):Int):=by rw[Qb _ (by omega)];omega
   have v:((p+i:Nat):Int)<(L:Int):=by omega
   have z:((m+i:Nat):Int)<(L:Int):=by omega
   have C:(0:Int)<=((p+i:Nat):Int):=by omega
   have E:(0:Int)<=((m+i:Nat):Int):=by omega
   have r:p+i≠m+i:=by omega
   clear l d;generalize p+i=M at *;generalize m+i=N at *;unfold pN at f g n c j
   go_upto_region 3 with fail
   go_region
   go_wp2;go_roundw
   case rel=>exact ⟨i+1,by omega,by go_num,c.out⟩
   case measure=>simp [A];omega
  ·have c:Z (Pm B b L cap D w wr):=d;obtain rfl:i=u:=by omega
   clear d;go_wp2;go_end0;exact⟨rfl,c.out⟩
theorem xV (h:Pm B b L cap D w W) (o:L<=10000) (p m q:Nat) (l:Qa) (T:p<m) (X:m<q) (Y:q<=L) :
  Qf V 352 #[J (S ⟨b,0,I⟩) L cap,O U (p:Nat),O U (m:Nat),O U (q:Nat),l] W fun e w'=>e=Qg (Qj #[])/\Pm B b L cap D w w':=by
 have d:Z (Pm B b L cap D w W):=h;have r:IntKind.i64.wrap ((m:Int)-(p:Int))=((m-p:Nat):Int):=by rw[Qb _ (by omega)];omega
 have s:IntKind.i64.wrap ((q:Int)-(m:Int))=((q-m:Nat):Int):=by rw[Qb _ (by omega)];omega
 have g:0<m-p/\m-p<=m/\0<q-m/\m+(q-m)<=L:=by omega
 generalize m-p=x at *;generalize q-m=y at *;clear h
 go_enter func352,ntmps352
 go_wp2
 go_loopw [10,11] (fun i j wr=> ∃u v:Nat,0<u/\0<v/\u<=m/\m+v<=L/\i=O U (u:Nat)/\j=O U (v:Nat)/\Pm B b L cap D w wr) (fun i j _=>(A i).toNat+(A j).toNat)
 case atStart=>exact ⟨x,y,g.1,g.2.2.1,g.2.1,g.2.2.2,rfl,rfl,d.out⟩
 case round =>
  clear d r s g;obtain⟨u,v,M,N,C,E,rfl,rfl,c⟩:=hrel;have r:IntKind.i64.wrap ((m:Int)-((u:Nat):Int))=((m-u:Nat):Int):=by rw[Qb _ (by omega)];omega
  rcases Nat.lt_trichotomy u v with h | h | h
  ·have f:=Rk c o (m-u) (m+v-u) u l (by omega) (by omega);have n:((u:Int) == (v:Int))=Qe:=by simp;omega
   have t:¬(v:Int)<(u:Int):=by omega
   have s:IntKind.i64.wrap ((m:Int)+(v:Int))=((m+v:Nat):Int):=by rw[Qb _ (by omega)];omega
   have P:IntKind.i64.wrap (((m+v:Nat):Int)-(u:Int))=((m+v-u:Nat):Int):=by rw[Qb _ (by omega)];omega
   have K:IntKind.i64.wrap ((v:Int)-(u:Int))=((v-u:Nat):Int):=by rw[Qb _ (by omega)];omega
   have z:Z (m+(v-u)<=L):=by show _<=_;omega
   clear c;generalize m+v-u=Q at *;generalize m+v=R at *;generalize m-u=F at *
   go_wp2_with fail
   refine f.mono ?_;rintro e k ⟨rfl,c⟩;have d:Z (Pm B b L cap D w k):=c;clear f c;go_wp2;go_roundw
   case rel=>exact ⟨u,v-u,M,by omega,C,z.out,rfl,rfl,d.out⟩
   case measure=>simp [A];omega
  ·subst h;have f:=Rk c o (m-u) m u l (by omega) (by omega);have n:((u:Int) == (u:Int))=Qh:=by simp
   clear c;generalize m-u=F at *
   go_wp2_with fail
   refine f.mono ?_;rintro e k ⟨rfl,c⟩;have d:Z (Pm B b L cap D w k):=c;clear f c;go_wp2;go_end0;exact⟨rfl,d.out⟩
  ·have f:=Rk c o (m-u) m v l (by omega) (by omega);have n:((u:Int) == (v:Int))=Qe:=by simp;omega
   have t:(v:Int)<(u:Int):=by omega
   have K:IntKind.i64.wrap ((u:Int)-(v:Int))=((u-v:Nat):Int):=by rw[Qb _ (by omega)];omega
   clear c;generalize m-u=F at *
   go_wp2_with fail
   refine f.mono ?_;rintro e k ⟨rfl,c⟩;have d:Z (Pm B b L cap D w k):=c;clear f c;go_wp2;go_roundw
   case rel=>exact ⟨u-v,v,by omega,N,by omega,E,rfl,rfl,d.out⟩
   case measure=>simp [A];omega
def FT (b:Nat) (D:List Nat) (w:H):Prop:= ∀x∈D,∀y∈D,∀W,Ac (fun k=>k=b) w W->Qf V 142 #[pN x,pN y] W fun e w'=> ∃z:Int,e=Qg (O U z)/\BL W w'
theorem Nu:∀args w,(callFunc 142 args).run V w= .ok (.enter 142 args) w:=enters_of func142 (by kernel_rfl) rfl
theorem Wv (h:Pm B b L cap D w W) (R:FT b D w) (hL:L<=10000) (p q:Nat) (h1:p<=q) (h2:q<=L) :
  Qf V 311 #[J (S ⟨b,0,I⟩) L cap,O U (p:Nat),O U (q:Nat),.func (.func 142) #[] #[]] W fun e w'=>e=Qg (Qj #[])/\Pm B b L cap D w w':=by
 have eg:=Nu;have f:Z (Pm B b L cap D w W):=h;have T:Z (FT b D w):=R;have X:IntKind.i64.wrap ((p:Int)+1)=((p+1:Nat):Int):=by rw[Qb _ (by omega)];omega
 clear h R
 go_enter func311,ntmps311
 go_wp2
 go_loopw [8,9] (fun i _ wr=> ∃k:Nat,p<k/\i=O U (k:Nat)/\Pm B b L cap D w wr) (fun i _ _=>q-(A i).toNat)
 case atStart=>exact ⟨p+1,by omega,rfl,f.out⟩
 case round =>
 clear f X;obtain⟨i,ae,rfl,d⟩:=hrel;have f:Z (Pm B b L cap D w wr):=d;clear d;by_cases aa:i<q
 case neg =>
  have ab:¬(i:Int)<(q:Int):=by omega
  go_wp2;go_end0;exact⟨rfl,f.out⟩
 case pos =>
 have g0:(i:Int)<(q:Int):=by omega
 have a2:IntKind.i64.wrap ((i:Int)+1)=(i:Int)+1:=Qb _ (by omega)
 go_upto_region 3 with fail
 go_wp2
 go_loopw [9] (fun j wx=> ∃k:Nat,p<=k/\k<=i/\j=O U (k:Nat)/\Pm B b L cap D w wx) (fun j _=>(A j).toNat)
 case atStart=>exact ⟨i,by omega,Qp _,rfl,f.out⟩
 case round =>
 clear f;obtain⟨j,E,F,rfl,d⟩:=hrel;by_cases u:p<j
 case neg =>
  obtain rfl:j=p:=by omega
  have v:decide ((j:Int)<(j:Int))=Qe:=by simp
  have y:Z (∀k,Pm B b L cap D w (wr.drewN k)):=fun k=>d.below (AK (Ql _ _) k);clear d
  go_upto_region 4 with fail
  go_quiet (fail)
  go_wp2;go_roundw
  case rel=>exact ⟨i+1,by omega,by go_num,y.out _⟩
  case measure=>simp [A];omega
 case pos =>
 obtain⟨k,rfl⟩:∃k,j=k+1:=⟨j-1,by omega⟩;obtain⟨x,K,r⟩:=d.at_ (i:=k+1) (by omega);obtain⟨z,o,s⟩:=d.at_ (i:=k) (by omega);have l:=fun c (hV:BL wr c)=>T.out x K z o c (d.2.trans (Ac.of_below hV) (fun _ h _=>h));have Y:Z (∀c,BL wr c->Pm B b L cap D w c/\c.cell? ⟨b,k+1,I⟩=S (pN x)/\c.cell? ⟨b,k,I⟩=S (pN z)):=fun c hV=>⟨d.below hV,Aa hV r,Aa hV s⟩;have C:BL wr wr:=Ql _ _;have a3:IntKind.i64.wrap (((k+1:Nat):Int)-1)=(k:Int):=by rw[Qb _ (by omega)];omega
 have g1:((k+1:Nat):Int)<(L:Int):=by omega
 have g2:(k:Int)<(L:Int):=by omega
 have g3:(0:Int)<=((k+1:Nat):Int):=by omega
 have g4:(0:Int)<=(k:Int):=by omega
 have g5:(p:Int)<((k+1:Nat):Int):=by omega
 have v:decide ((p:Int)<((k+1:Nat):Int))=Qh:=decide_eq_true g5;have ac:decide (p<k+1)=Qh:=decide_eq_true u;have ad:k<k+1:=Nat.lt_succ_self k;have g:Z (p<=k/\k<=i/\k+1≠k/\k+1<L/\k<L):=by show _/\_;omega
 clear d E F u K o;generalize k+1=j at *;unfold pN at r s l
 go_upto_region 4 with fail
 go_region_held3 (fun w'=>w'.cell? ⟨b,j,I⟩=S (Qi (S ⟨x,0,I⟩))/\w'.cell? ⟨b,k,I⟩=S (Qi (S ⟨z,0,I⟩))/\BL wr w')
  (first
   | (go_split_ands;with_reducible exact⟨Aa m (by assumption),Aa m (by assumption),QH (by assumption) (m.mono (QI (by assumption)))⟩)
   | (go_split_ands;exact⟨by go_keep,by go_keep,by assumption⟩)
   | (go_split_ands;exact⟨by go_keep,by go_keep,Qw (by assumption)⟩))
  (first
   | (go_at_call 142;(with_reducible refine(l _ (by go_split_ands;assumption)).mono ?_);rintro e t ⟨zc,rfl,m⟩))
 all_goals go_split_ands
 obtain⟨d,M,N⟩:=Y.out t (by assumption);obtain⟨fz,d3,P,Q⟩:=d.swap g.out.2.2.1 g.out.2.2.2.1 g.out.2.2.2.2 M N;have n:Z (Pm B b L cap D w t):=d;have f:Z (Pm B b L cap D w (((t.setCell ⟨b,j,I⟩ (pN z)).setCell ⟨b,k,I⟩ (pN x)).drew)):=Q;clear l C r s d Q;unfold pN at M N d3 P f;by_cases o:zc<0
 ·clear n
  go_wp2_with fail
  go_upto_region 6 with fail
  go_region
  go_wp2;go_roundw
  case rel=>exact ⟨k,g.out.1,g.out.2.1,rfl,f.out⟩
  case measure=>simp [A];omega
 ·go_wp2;go_roundw
  case rel=>exact ⟨i+1,by omega,by go_num,n.out⟩
  case measure=>simp [A];omega
end
section
variable {B b L cap : Nat} {D : List Nat} {w W : H}
theorem xW (h:Pm B b L cap D w W) (hk:FT b D w) (hL:L<=10000) (p q:Nat) (h1:p+1<q) (h2:q<=L) :
  Qf V 312 #[J (S ⟨b,0,I⟩) L cap,O U (p:Nat),O U ((p+1:Nat):Int),O U (q:Nat),.func (.func 142) #[] #[]] W fun e w'=>e=Qg (Qj #[])/\Pm B b L cap D w w':=by
 have eg:=Nu;have g:Z (Pm B b L cap D w W):=h;have HK:Z (FT b D w):=hk;have M:IntKind.i64.wrap (((p+1:Nat):Int)-(p:Int))=1:=by rw[Qb _ (by omega)];omega
 obtain⟨m,K⟩:∃m,p+1=m:=⟨_,rfl⟩;have F:Z (p+1=m):=K;rw[K]at M h1 ⊢;clear h hk K
 go_enter QT,QU
 go_upto_region 3 with fail
 go_loopw [10,11,12] (fun i j _ wr=> ∃s t:Nat,m<=s/\s<=t/\t<=q/\i=O U (s:Nat)/\j=O U (t:Nat)/\Pm B b L cap D w wr) (fun i j _ _=>(A j).toNat-(A i).toNat)
 case atStart=>exact ⟨m,q,Qp _,by omega,Qp _,rfl,rfl,g.out⟩
 case round =>
 clear g M;obtain⟨i,j,z,C,E,rfl,rfl,f⟩:=hrel;by_cases N:i<j
 case pos =>
  have P:(i:Int)<(j:Int):=by omega
  have a1:IntKind.i64.wrap ((i:Int)+(j:Int))=(i:Int)+(j:Int):=Qb _ (by omega);obtain⟨h,hh⟩:∃h,(i+j) / 2=h:=⟨_,rfl⟩;have l:Z (i<=h/\h<j/\m<=i/\j<=q):=by show _/\_;omega
  have a2:((i:Int)+(j:Int)) / 2=(h:Int):=by omega
  obtain⟨y,Y,cy⟩:=f.at_ (i:=h) (by omega);obtain⟨x,hx,cx⟩:=f.at_ (i:=p) (by have:=F.out;omega);have n:=fun d (hV:BL wr d)=>HK.out y Y x hx d (f.2.trans (Ac.of_below hV) (fun _ h _=>h));have Q:Z (∀d,BL wr d->Pm B b L cap D w d):=fun d hV=>f.below hV;have g2:(h:Int)<(L:Int):=by omega
  have g3:(0:Int)<=(h:Int):=by omega
  have g4:(p:Int)<(L:Int):=by have:=F.out;omega
  have g5:(0:Int)<=(p:Int):=by omega
  have a3:IntKind.i64.wrap ((h:Int)+1)=(h:Int)+1:=Qb _ (by omega);have R:BL wr wr:=Ql _ _;unfold pN at cy cx n;clear hh f hx Y C z E
  go_upto_region 5 with fail
  go_region_held3 (fun w'=>w'.cell? ⟨b,h,I⟩=S (Qi (S ⟨y,0,I⟩))/\w'.cell? ⟨b,p,I⟩=S (Qi (S ⟨x,0,I⟩))/\BL wr w')
   (first
    | (go_split_ands;with_reducible exact⟨Aa r (by assumption),Aa r (by assumption),QH (by assumption) (r.mono (QI (by assumption)))⟩)
    | (go_split_ands;exact⟨by go_keep,by go_keep,by assumption⟩)
    | (go_split_ands;exact⟨by go_keep,by go_keep,Qw (by assumption)⟩))
   (first
    | (go_at_call 142;(with_reducible refine(n _ (by go_split_ands;assumption)).mono ?_);rintro e wX ⟨zc,rfl,r⟩))
  all_goals go_split_ands
  have g:Z (Pm B b L cap D w wX):=Q.out wX (by assumption);clear n R cy cx a2 a1 Q;by_cases hz:zc<0
  ·go_wp2;go_roundw
   case rel=>exact ⟨h+1,j,by have:=l.out;omega,by have:=l.out;omega,l.out.2.2.2,by go_num,rfl,g.out⟩
   case measure=>have:=l.out;simp[A];omega
  ·go_wp2;go_roundw
   case rel=>exact ⟨i,h,l.out.2.2.1,l.out.1,by have:=l.out;omega,rfl,rfl,g.out⟩
   case measure=>have:=l.out;simp[A];omega
 case neg =>
 have g:Z (Pm B b L cap D w wr):=f;have ac:¬(i:Int)<(j:Int):=by omega
 have a4:IntKind.i64.wrap ((i:Int)-1)=(i:Int)-1:=Qb _ (by omega);have T:Z (m<=i/\i<=q):=by show _/\_;omega
 clear f z C E N
 go_upto_region 9 with fail
 go_loopw [13] (fun k wr=> ∃c:Nat,c<i/\k=O U (c:Nat)/\Pm B b L cap D w wr) (fun k _=>i-(A k).toNat)
 case atStart=>exact ⟨p,by have:=T.out;have:=F.out;omega,rfl,g.out⟩
 case round =>
 clear g;obtain⟨k,aa,rfl,f⟩:=hrel;have X:=T.out;by_cases o:k+1<i
 ·obtain⟨x,-,c1⟩:=f.at_ (i:=k) (by omega);obtain⟨y,-,c2⟩:=f.at_ (i:=k+1) (by omega);obtain⟨fz,c3,ab,h4⟩:=f.swap (by omega:k≠k+1) (by omega) (by omega) c1 c2;have g:Z (Pm B b L cap D w (((wr.setCell ⟨b,k,I⟩ (pN y)).setCell ⟨b,k+1,I⟩ (pN x)).drew)):=h4;have P:(k:Int)<(i:Int)-1:=by omega
  have a5:IntKind.i64.wrap ((k:Int)+1)=((k+1:Nat):Int):=by rw[Qb _ (by omega)];omega
  have g2:((k+1:Nat):Int)<(L:Int):=by omega
  have g3:(0:Int)<=((k+1:Nat):Int):=by omega
  have g4:(k:Int)<(L:Int):=by omega
  have g5:(0:Int)<=(k:Int):=by omega
  have u:Z (k+1<i/\k<k+1):=⟨o,by omega⟩;clear f h4 aa X o;generalize k+1=k1 at *;unfold pN at c1 c2 c3 g ab
  go_upto_region 11 with fail
  go_region
  go_wp2;go_roundw
  case rel=>exact ⟨k1,u.out.1,rfl,g.out⟩
  case measure=>have:=u.out;simp[A];omega
 ·have g:Z (Pm B b L cap D w wr):=f;have P:¬(k:Int)<(i:Int)-1:=by omega
  clear f;go_wp2;refine Q9 (v:=Qj #[]) (by simp[QA,Xl,go_sem]) rfl ?_;exact⟨rfl,g.out⟩
theorem xX (h:Pm B b L cap D w W) (hk:FT b D w) (hL:L≤10000) (p m:Nat) (h1:p+1<m) (h2:m+1≤L) :
   Qf V 312 #[J (S ⟨b,0,I⟩) L cap,O U (p:Nat),O U (m:Nat),O U ((m+1:Nat):Int),.func (.func 142) #[] #[]] W fun e w'=>e=Qg (Qj #[])∧Pm B b L cap D w w':=by
 have eg:=Nu
 have o:Z (Pm B b L cap D w W):=h
 have HK:Z (FT b D w):=hk
 obtain⟨n,hn⟩:∃n,m-p=n:=⟨_,rfl⟩
 have a0:IntKind.i64.wrap ((m:Int)-(p:Int))=(n:Int):=by rw[Qb _ (by omega)];omega
 have e0:((n:Int) == 1)=Qe:=by simp;omega
 have Q:IntKind.i64.wrap (((m+1:Nat):Int)-(m:Int))=1:=by rw[Qb _ (by omega)];omega
 obtain⟨q,P⟩:∃q,m+1=q:=⟨_,rfl⟩
 rw[P]at Q h2 ⊢
 have HQ:Z (m+1=q∧p+1<m):=⟨P,h1⟩
 clear h hk hn P
 go_enter QT,QU
 go_upto_region 15 with fail
 go_loopw [14,15,16] (fun i j _ wr=> ∃s t:Nat,s≤t∧t≤m∧i=O U (s:Nat)∧j=O U (t:Nat)∧Pm B b L cap D w wr) (fun i j _ _=>(A j).toNat-(A i).toNat)
 case atStart=>exact ⟨p,m,by omega,Qp _,rfl,rfl,o.out⟩
 case round =>
 clear o a0 Q e0
 obtain⟨i,j,K,M,rfl,rfl,l⟩:=hrel
 have F:=HQ.out
 by_cases R:i<j
 case pos =>
   have T:(i:Int)<(j:Int):=by omega
   have a1:IntKind.i64.wrap ((i:Int)+(j:Int))=(i:Int)+(j:Int):=Qb _ (by omega)
   obtain⟨h,E⟩:∃h,(i+j) / 2=h:=⟨_,rfl⟩
   have u:Z (i≤h∧h<j∧j≤m):=by show _∧_;omega
   have a2:((i:Int)+(j:Int)) / 2=(h:Int):=by omega
   obtain⟨x,hx,cx⟩:=l.at_ (i:=h) (by omega)
   obtain⟨y,hy,cy⟩:=l.at_ (i:=m) (by omega)
   have r:=fun d (hV:BL wr d)=>HK.out y hy x hx d (l.2.trans (Ac.of_below hV) (fun _ h _=>h))
   have X:Z (∀d,BL wr d→Pm B b L cap D w d):=fun d hV=>l.below hV
   have g2:(h:Int)<(L:Int):=by omega
   have g3:(0:Int)≤(h:Int):=by omega
   have g4:(m:Int)<(L:Int):=by omega
   have g5:(0:Int)≤(m:Int):=by omega
   have a3:IntKind.i64.wrap ((h:Int)+1)=(h:Int)+1:=Qb _ (by omega)
   have Y:BL wr wr:=Ql _ _
   unfold pN at cy cx r
   clear E l hx hy K M F
   go_upto_region 17 with fail
   go_region_held3 (fun w'=>w'.cell? ⟨b,m,I⟩=S (Qi (S ⟨y,0,I⟩))∧w'.cell? ⟨b,h,I⟩=S (Qi (S ⟨x,0,I⟩))∧BL wr w')
     (first
       | (go_split_ands;with_reducible exact⟨Aa C (by assumption),Aa C (by assumption),QH (by assumption) (C.mono (QI (by assumption)))⟩)
       | (go_split_ands;exact⟨by go_keep,by go_keep,by assumption⟩)
       | (go_split_ands;exact⟨by go_keep,by go_keep,Qw (by assumption)⟩))
     (first
       | (go_at_call 142;(with_reducible refine(r _ (by go_split_ands;assumption)).mono ?_);rintro e wX ⟨zc,rfl,C⟩))
   all_goals go_split_ands
   have o:Z (Pm B b L cap D w wX):=X.out wX (by assumption)
   clear r Y cy cx a2 a1 X
   obtain⟨g,hg⟩:∃g,decide (zc<0)=g:=⟨_,rfl⟩
   cases g
   all_goals go_wp2
   all_goals first
     | (exfalso;rename_i E;rw[hg]at E;exact absurd E (by decide))
     | (go_roundw
        case rel=>first | exact⟨i,h,u.out.1,by have:=u.out;omega,rfl,rfl,o.out⟩ | exact⟨h+1,j,by have:=u.out;omega,u.out.2.2,by go_num,rfl,o.out⟩
        case measure=>have:=u.out;simp[A];omega)
 case neg =>
 have o:Z (Pm B b L cap D w wr):=l
 have ae:¬(i:Int)<(j:Int):=by omega
 have HI:Z (i≤m∧m<L∧L≤10000):=by show _∧_;omega
 clear l K M R F
 go_upto_region 21 with fail
 go_loopw [17] (fun k wr=> ∃c:Nat,i≤c∧c≤m∧k=O U (c:Nat)∧Pm B b L cap D w wr) (fun k _=>(A k).toNat)
 case atStart=>exact ⟨m,HI.out.1,Qp _,rfl,o.out⟩
 case round =>
 clear o
 obtain⟨k,ab,ac,rfl,l⟩:=hrel
 have aa:=HI.out
 by_cases N:i<k
 · obtain⟨f,rfl⟩:∃c,k=c+1:=⟨k-1,by omega⟩
   obtain⟨x,-,c1⟩:=l.at_ (i:=f+1) (by omega)
   obtain⟨y,-,c2⟩:=l.at_ (i:=f) (by omega)
   obtain⟨fz,c3,ad,h4⟩:=l.swap (by omega:f+1≠f) (by omega) (by omega) c1 c2
   have o:Z (Pm B b L cap D w (((wr.setCell ⟨b,f+1,I⟩ (pN y)).setCell ⟨b,f,I⟩ (pN x)).drew)):=h4
   have T:(i:Int)<((f+1:Nat):Int):=by omega
   have a5:IntKind.i64.wrap (((f+1:Nat):Int)-1)=(f:Int):=by rw[Qb _ (by omega)];omega
   have g2:((f+1:Nat):Int)<(L:Int):=by omega
   have g3:(0:Int)≤((f+1:Nat):Int):=by omega
   have g4:(f:Int)<(L:Int):=by omega
   have g5:(0:Int)≤(f:Int):=by omega
   have z:Z (i≤f∧f≤m∧f<f+1):=by show _∧_;omega
   clear l h4 ab ac aa N
   generalize f+1=k1 at *
   unfold pN at c1 c2 c3 o ad
   go_upto_region 23 with fail
   go_region
   go_wp2
   go_roundw
   case rel=>exact ⟨f,z.out.1,z.out.2.1,rfl,o.out⟩
   case measure=>have:=z.out;simp[A];omega
 · have o:Z (Pm B b L cap D w wr):=l
   have T:¬(i:Int)<(k:Int):=by omega
   clear l
   go_wp2
   refine Q9 (v:=Qj #[]) (by simp[QA,Xl,go_sem]) rfl ?_
   exact⟨rfl,o.out⟩
def Nv (B b L cap:Nat) (D:List Nat) (w:H) (n:Nat):Prop:= ∀W,Pm B b L cap D w W->∀p m q:Nat,p<m->m<q->q<=L->q-p<=n->Qf V 312 #[J (S ⟨b,0,I⟩) L cap,O U (p:Nat),O U (m:Nat),O U (q:Nat),.func (.func 142) #[] #[]] W fun e w'=>e=Qg (Qj #[])/\Pm B b L cap D w w'
theorem xY (h:Pm B b L cap D w W) (hk:FT b D w) (hL:L≤10000) (k0:Nat) (IH:Nv B b L cap D w k0) (p m q:Nat) (h1:p+1<m) (h2:m+1<q) (h3:q≤L) (h4:q-p≤k0+1) :
   Qf V 312 #[J (S ⟨b,0,I⟩) L cap,O U (p:Nat),O U (m:Nat),O U (q:Nat),.func (.func 142) #[] #[]] W fun e w'=>e=Qg (Qj #[])∧Pm B b L cap D w w':=by
 have eg:=Nu
 have r:Z (Pm B b L cap D w W):=h
 have HK:Z (FT b D w):=hk
 have ae:Z (Nv B b L cap D w k0):=IH
 obtain⟨nx,ao⟩:∃n,m-p=n:=⟨_,rfl⟩
 obtain⟨ny,ap⟩:∃n,q-m=n:=⟨_,rfl⟩
 obtain⟨l,aj⟩:∃k,(p+q) / 2=k:=⟨_,rfl⟩
 obtain⟨n,hn⟩:∃n,l+m=n:=⟨_,rfl⟩
 have HQ:Z (p+1<m∧m+1<q∧q≤L∧q-p≤k0+1∧2*l≤p+q∧p+q≤2*l+1∧l+m=n):=by show _∧_;omega
 have a0:IntKind.i64.wrap ((m:Int)-(p:Int))=(nx:Int):=by rw[Qb _ (by omega)];omega
 have e0:((nx:Int) == 1)=Qe:=by simp;omega
 have a9:IntKind.i64.wrap ((q:Int)-(m:Int))=(ny:Int):=by rw[Qb _ (by omega)];omega
 have e9:((ny:Int) == 1)=Qe:=by simp;omega
 have b1:IntKind.i64.wrap ((p:Int)+(q:Int))=(p:Int)+(q:Int):=Qb _ (by omega)
 have b2:((p:Int)+(q:Int)) / 2=(l:Int):=by omega
 have b3:IntKind.i64.wrap ((l:Int)+(m:Int))=(n:Int):=by rw[Qb _ (by omega)];omega
 obtain⟨v,F,ab⟩:∃v F:Nat,(l<m∧v+q=n∧F=l)∨(m≤l∧v=p∧F=m):=by
   by_cases h:l<m
   · exact⟨n-q,l,Qs ⟨h,by omega,rfl⟩⟩
   · exact⟨p,m,Qz ⟨by omega,rfl,rfl⟩⟩
 have Y:Z ((l<m∧v+q=n∧F=l)∨(m≤l∧v=p∧F=m)):=ab
 obtain⟨pp,af⟩:∃k,n-1=k:=⟨_,rfl⟩
 have b4:IntKind.i64.wrap ((n:Int)-1)=(pp:Int):=by rw[Qb _ (by omega)];omega
 have ak:Z (n-1=pp):=af
 have ar:n≤30000:=by omega
 clear h hk ao ap aj hn IH ab h4 af
 go_enter QT,QU
 go_upto_if 140 with fail
 go_cut [20,21] from 140 to 146 (fun x y wx=>x=O U (v:Int)∧y=O U (F:Int)∧W=wx)
 case first =>
   rcases Y.out with⟨h1,h2,h3⟩|⟨h1,h2,h3⟩
   · have K:(l:Int)<(m:Int):=by omega
     have P:IntKind.i64.wrap ((n:Int)-(q:Int))=(v:Int):=by rw[Qb _ (by omega)];omega
     have aa:decide (l<m)=Qh:=decide_eq_true h1
     have HR:Z ((F:Int)=(l:Int)):=by show _=_;omega
     first | rw[aa] | skip
     clear h1 h2 h3 a0 a9 b1 b2 b3 b4 e0 e9
     go_wp2
     go_meet
     case rel=>exact ⟨rfl,by rw[HR.out],rfl⟩
   · have K:¬(l:Int)<(m:Int):=by omega
     have aa:decide (l<m)=Qe:=decide_eq_false (by omega)
     have HR:Z ((F:Int)=(m:Int)∧(v:Int)=(p:Int)):=⟨by omega,by omega⟩
     first | rw[aa] | skip
     clear h1 h2 h3 a0 a9 b1 b2 b3 b4 e0 e9
     go_wp2
     go_meet
     case rel=>exact ⟨by rw[HR.out.2],by rw[HR.out.1],rfl⟩
 case rest =>
 obtain⟨rfl,rfl,rfl⟩:=hcut
 go_upto_region 33 with fail
 clear a0 a9 b1 b2 b3 b4 e0 e9
 go_loopw [20,21,23] (fun i j _ wr=> ∃s t:Nat,v≤s∧s≤t∧t≤F∧i=O U (s:Int)∧j=O U (t:Int)∧Pm B b L cap D w wr) (fun i j _ _=>(A j).toNat-(A i).toNat)
 case atStart=>exact ⟨v,F,by omega,by have:=HQ.out;rcases Y.out with h | h<;>omega,by omega,rfl,rfl,r.out⟩
 case round =>
 clear r
 obtain⟨s,t,ag,ah,ai,rfl,rfl,z⟩:=hrel
 have hq:=HQ.out
 by_cases al:s<t
 case pos =>
   have K:(s:Int)<(t:Int):=by omega
   obtain⟨c,M⟩:∃c,(s+t) / 2=c:=⟨_,rfl⟩
   obtain⟨d,hd⟩:∃d,pp-c=d:=⟨_,rfl⟩
   have am:p≤c∧c<m∧m≤d∧d<q∧s≤c∧c<t∧d+c=pp:=by
     have g:=ak.out
     rcases Y.out with h | h<;>omega
   have a1:IntKind.i64.wrap ((s:Int)+(t:Int))=(s:Int)+(t:Int):=Qb _ (by omega)
   have a2:((s:Int)+(t:Int)) / 2=(c:Int):=by omega
   have a4:IntKind.i64.wrap ((pp:Int)-(c:Int))=(d:Int):=by rw[Qb _ (by omega)];omega
   obtain⟨y,hy,cy⟩:=z.at_ (i:=d) (by omega)
   obtain⟨x,hx,cx⟩:=z.at_ (i:=c) (by omega)
   have Q:=fun f (hV:BL wr f)=>HK.out y hy x hx f (z.2.trans (Ac.of_below hV) (fun _ h _=>h))
   have HS:Z (∀f,BL wr f→Pm B b L cap D w f):=fun f hV=>z.below hV
   have P:(c:Int)<(L:Int):=by omega
   have g3:(0:Int)≤(c:Int):=by omega
   have g4:(d:Int)<(L:Int):=by omega
   have g5:(0:Int)≤(d:Int):=by omega
   have a3:IntKind.i64.wrap ((c:Int)+1)=(c:Int)+1:=Qb _ (by omega)
   have an:BL wr wr:=Ql _ _
   have R:Z (s≤c∧c<t∧v≤s∧t≤F):=by show _∧_;omega
   unfold pN at cy cx Q
   clear M hd am z hx hy ag ah ai hq
   go_upto_region 35 with fail
   go_region_held3 (fun w'=>w'.cell? ⟨b,d,I⟩=S (Qi (S ⟨y,0,I⟩))∧w'.cell? ⟨b,c,I⟩=S (Qi (S ⟨x,0,I⟩))∧BL wr w')
     (first
       | (go_split_ands;with_reducible exact⟨Aa ad (by assumption),Aa ad (by assumption),QH (by assumption) (ad.mono (QI (by assumption)))⟩)
       | (go_split_ands;exact⟨by go_keep,by go_keep,by assumption⟩)
       | (go_split_ands;exact⟨by go_keep,by go_keep,Qw (by assumption)⟩))
     (first
       | (go_at_call 142;(with_reducible refine(Q _ (by go_split_ands;assumption)).mono ?_);rintro e wX ⟨zc,rfl,ad⟩))
   all_goals go_split_ands
   have r:Z (Pm B b L cap D w wX):=HS.out wX (by assumption)
   clear Q an cy cx a2 a1 HS
   obtain⟨g,u⟩:∃g,decide (zc<0)=g:=⟨_,rfl⟩
   cases g
   all_goals go_wp2
   all_goals first
     | (exfalso;rename_i hh;rw[u]at hh;exact absurd hh (by decide))
     | (go_roundw
        case rel=>first | exact⟨s,c,R.out.2.2.1,R.out.1,by have:=R.out;omega,rfl,rfl,r.out⟩ | exact⟨c+1,t,by have:=R.out;omega,by have:=R.out;omega,R.out.2.2.2,by go_num,rfl,r.out⟩
        case measure=>have:=R.out;simp[A];omega)
 case neg =>
 obtain rfl:s=t:=by omega
 obtain⟨o,aq⟩:∃k,n-s=k:=⟨_,rfl⟩
 have N:Z (p≤s∧s≤m∧m≤o∧o≤q∧s≤l∧l≤o∧q≤L∧(s<l→p<l)∧l-p≤k0∧q-l≤k0):=by
   show _∧_
   rcases Y.out with h | h<;>omega
 have r:Z (Pm B b L cap D w wr):=z
 have b5:IntKind.i64.wrap ((n:Int)-(s:Int))=(o:Int):=by
   have:=N.out
   rw[Qb _ (by omega)];omega
 have au:¬(s:Int)<(s:Int):=by omega
 clear z ag ah ai hq al aq
 -- each of the three tests,decided
 go_upto_region 39 with fail
 go_cut [185] from 178 to 184 (fun x wx=>x=Qu (decide (s<m) && decide (m<o))∧wr=wx)
 case first =>
   by_cases C:s<m
   · have K:(s:Int)<(m:Int):=by omega
     have T:decide (s<m)=Qh:=decide_eq_true C
     by_cases E:m<o
     · have P:(m:Int)<(o:Int):=by omega
       have X:decide (m<o)=Qh:=decide_eq_true E
       go_wp2
       go_meet
       case rel=>exact ⟨by first | rfl | (simp;omega),rfl⟩
     · have P:¬(m:Int)<(o:Int):=by omega
       have X:decide (m<o)=Qe:=decide_eq_false E
       go_wp2
       go_meet
       case rel=>exact ⟨by first | rfl | (simp;omega),rfl⟩
   · have K:¬(s:Int)<(m:Int):=by omega
     have T:decide (s<m)=Qe:=decide_eq_false C
     go_wp2
     go_meet
     case rel=>exact ⟨by first | rfl | (simp;omega),rfl⟩
 case rest =>
 obtain⟨rfl,ac⟩:=hcut
 subst ac
 go_upto_if 185 with fail
 go_cut [185] from 186 to 191 (fun _ wx=>Pm B b L cap D w wx)
 case first =>
   by_cases u:s<m∧m<o
   · have M:=xV r.out hL s m o (.func (.func 142) #[] #[]) u.1 u.2 (by have:=N.out;omega)
     have K:(s:Int)<(m:Int):=by omega
     have P:(m:Int)<(o:Int):=by omega
     have T:decide (s<m)=Qh:=decide_eq_true u.1
     have X:decide (m<o)=Qh:=decide_eq_true u.2
     clear u r
     go_wp2_with fail
     refine M.mono ?_
     rintro e w1 ⟨rfl,z⟩
     have r:Z (Pm B b L cap D w w1):=z
     clear M z
     go_wp2
     go_meet
     case rel=>exact r.out
   · have d0:(decide (s<m) && decide (m<o))=Qe:=by
       rw[←Xm]
       exact decide_eq_false u
     rw[d0]
     clear u
     go_wp2
     go_meet
     case rel=>exact r.out
 case rest =>
 replace r:Z (Pm B b L cap D w wc):=hcut
 clear hcut
 generalize wc=w2 at *
 go_upto_region 41 with fail
 go_cut [199] from 192 to 198 (fun x wx=>x=Qu (decide (p<s) && decide (s<l))∧w2=wx)
 case first =>
   by_cases C:p<s
   · have K:(p:Int)<(s:Int):=by omega
     have T:decide (p<s)=Qh:=decide_eq_true C
     by_cases E:s<l
     · have P:(s:Int)<(l:Int):=by omega
       have X:decide (s<l)=Qh:=decide_eq_true E
       go_wp2
       go_meet
       case rel=>exact ⟨by first | rfl | (simp;omega),rfl⟩
     · have P:¬(s:Int)<(l:Int):=by omega
       have X:decide (s<l)=Qe:=decide_eq_false E
       go_wp2
       go_meet
       case rel=>exact ⟨by first | rfl | (simp;omega),rfl⟩
   · have K:¬(p:Int)<(s:Int):=by omega
     have T:decide (p<s)=Qe:=decide_eq_false C
     go_wp2
     go_meet
     case rel=>exact ⟨by first | rfl | (simp;omega),rfl⟩
 case rest =>
 obtain⟨rfl,ac⟩:=hcut
 subst ac
 go_upto_if 199 with fail
 go_cut [199] from 200 to 205 (fun _ wx=>Pm B b L cap D w wx)
 case first =>
   by_cases u:p<s∧s<l
   · have M:=ae.out w2 r.out p s l u.1 u.2 (by have:=N.out;omega) (by have:=N.out;omega)
     have K:(p:Int)<(s:Int):=by omega
     have P:(s:Int)<(l:Int):=by omega
     have T:decide (p<s)=Qh:=decide_eq_true u.1
     have X:decide (s<l)=Qh:=decide_eq_true u.2
     clear u r
     go_wp2_with fail
     refine M.mono ?_
     rintro e w1 ⟨rfl,z⟩
     have r:Z (Pm B b L cap D w w1):=z
     clear M z
     go_wp2
     go_meet
     case rel=>exact r.out
   · have d0:(decide (p<s) && decide (s<l))=Qe:=by
       rw[←Xm]
       exact decide_eq_false u
     rw[d0]
     clear u
     go_wp2
     go_meet
     case rel=>exact r.out
 case rest =>
 replace r:Z (Pm B b L cap D w wc):=hcut
 clear hcut
 generalize wc=w3 at *
 by_cases C:l<o
 case neg =>
   have K:¬(l:Int)<(o:Int):=by omega
   have T:decide (l<o)=Qe:=decide_eq_false C
   go_wp2
   go_end0
   exact⟨rfl,r.out⟩
 case pos =>
 have K:(l:Int)<(o:Int):=by omega
 have T:decide (l<o)=Qh:=decide_eq_true C
 by_cases E:o<q
 · have M:=ae.out w3 r.out l o q C E (by have:=N.out;omega) (by have:=N.out;omega)
   have P:(o:Int)<(q:Int):=by omega
   have X:decide (o<q)=Qh:=decide_eq_true E
   clear r C E
   go_wp2_with fail
   refine M.mono ?_
   rintro e w1 ⟨rfl,z⟩
   have r:Z (Pm B b L cap D w w1):=z
   clear M z
   go_wp2
   go_end0
   exact⟨rfl,r.out⟩
 · have P:¬(o:Int)<(q:Int):=by omega
   have X:decide (o<q)=Qe:=decide_eq_false E
   go_wp2
   go_end0
   exact⟨rfl,r.out⟩
theorem Ww (c:FT b D w) (d:L<=10000):∀n,Nv B b L cap D w n
 | 0=>fun _ _ p m q h1 h2 h3 h4=>by omega
 | n+1=>fun W h p m q h1 h2 h3 h4=>by
  have f:=Ww c d n;by_cases g:p+1=m
  ·subst g;exact xW h c d p q h2 h3
  ·by_cases i:m+1=q
   ·subst i;exact xX h c d p m (by omega) h3
   ·exact xY h c d n f p m q (by omega) (by omega) h3 h4
end
section
variable {B b L cap : Nat} {D : List Nat} {w W : H}
theorem xZ (d:Pm B b L cap D w w) (E:FT b D w) (F:L<=10000) :
  Qf V 229 #[J (S ⟨b,0,I⟩) L cap,O U (L:Int),.func (.func 142) #[] #[]] w fun e w'=>e=Qg (Qj #[])/\Pm B b L cap D w w':=by
 have K:Z (FT b D w):=E;have M:Z (Nv B b L cap D w L):=Ww E F L;have f:Z (Pm B b L cap D w w):=d;clear E d
 go_enter func229,ntmps229
 go_wp2
 go_loopw [7,8] (fun x y wr=> ∃a:Nat,a<=L/\x=O U (a:Int)/\y=O U ((a+20:Nat):Int)/\Pm B b L cap D w wr) (fun x _ _=>L-(A x).toNat)
 case atStart=>exact ⟨0,by omega,rfl,rfl,f.out⟩
 case round =>
 clear f;obtain⟨a,P,rfl,rfl,d⟩:=hrel;obtain⟨c,o⟩:∃c,a+20=c:=⟨_,rfl⟩;rw[o];by_cases n:c<=L
 case pos =>
  have i:=Wv d K.out F a c (by omega) n;have u:(c:Int)<=(L:Int):=by omega
  have Q:IntKind.i64.wrap ((c:Int)+20)=((c+20:Nat):Int):=by rw[Qb _ (by omega)];omega
  have R:Z (a+20=c):=o;clear o d
  go_wp2_with fail
  refine i.mono ?_;rintro e Y ⟨rfl,d⟩;have f:Z (Pm B b L cap D w Y):=d;clear i d;go_wp2;go_roundw
  case rel=>exact ⟨c,n,rfl,rfl,f.out⟩
  case measure=>have:=R.out;simp[A];omega
 case neg =>
 have i:=Wv d K.out F a L P (Qp _);have u:¬(c:Int)<=(L:Int):=by omega
 clear o d
 go_wp2_with fail
 refine i.mono ?_;rintro e w2 ⟨rfl,d⟩;have f:Z (Pm B b L cap D w w2):=d;clear i d n u;go_wp2
 go_loopw [6,7,8,9] (fun x _ _ _ wr=> ∃z:Nat,0<z/\z<=2*L+20/\x=O U (z:Int)/\Pm B b L cap D w wr) (fun x _ _ _ _=>L-(A x).toNat)
 case atStart=>exact ⟨20,by omega,by omega,rfl,f.out⟩
 case round =>
 clear f;obtain⟨z,ac,ad,rfl,d⟩:=hrel;have f:Z (Pm B b L cap D w wr):=d;clear d;by_cases n:z<L
 case neg =>
  have u:¬(z:Int)<(L:Int):=by omega
  go_wp2;go_end0;exact⟨rfl,f.out⟩
 case pos =>
 have u:(z:Int)<(L:Int):=by omega
 obtain⟨g,l⟩:∃k,2*z=k:=⟨_,rfl⟩;have N:Z (2*z=g):=l;have Q:IntKind.i64.wrap (2*(z:Int))=(g:Int):=by rw[Qb _ (by omega)];omega
 have aa:IntKind.i64.wrap ((z:Int)*2)=(g:Int):=by rw[Qb _ (by omega)];omega
 clear l
 go_upto_region 9 with fail
 go_loopw [7,8] (fun x y wr=> ∃a:Nat,a<=L/\x=O U (a:Int)/\y=O U ((a+g:Nat):Int)/\Pm B b L cap D w wr) (fun x _ _=>L-(A x).toNat)
 case atStart=>exact ⟨0,by omega,rfl,by rw[Nat.zero_add],f.out⟩
 case round =>
 clear f;obtain⟨q,X,rfl,rfl,d⟩:=hrel;have l:=N.out;obtain⟨m,p⟩:∃c,q+g=c:=⟨_,rfl⟩;obtain⟨r,t⟩:∃c,q+z=c:=⟨_,rfl⟩;have j:Z (q+g=m/\0<g/\g<=2*L+20/\z<g):=by show _/\_;omega
 have ab:IntKind.i64.wrap ((q:Int)+(z:Int))=(r:Int):=by rw[Qb _ (by omega)];omega
 rw[p];by_cases s:m<=L
 ·have i:=M.out wr d q r m (by omega) (by omega) s (by omega);have T:(m:Int)<=(L:Int):=by omega
  have a3:IntKind.i64.wrap ((m:Int)+(g:Int))=((m+g:Nat):Int):=by rw[Qb _ (by omega)];omega
  clear d l p t
  go_wp2_with fail
  refine i.mono ?_;rintro e C ⟨rfl,d⟩;have f:Z (Pm B b L cap D w C):=d;clear i d;go_wp2;go_roundw
  case rel=>exact ⟨m,s,rfl,rfl,f.out⟩
  case measure=>have:=j.out;simp[A];omega
 ·have T:¬(m:Int)<=(L:Int):=by omega
  by_cases v:r<L
  ·have i:=M.out wr d q r L (by omega) v (Qp _) (by omega);have W:(r:Int)<(L:Int):=by omega
   clear d l p t v
   go_wp2_with fail
   refine i.mono ?_;rintro e C ⟨rfl,d⟩;have f:Z (Pm B b L cap D w C):=d;clear i d;go_wp2;go_roundw
   case rel=>exact ⟨g,j.out.2.1,j.out.2.2.1,rfl,f.out⟩
   case measure=>have:=j.out;simp[A];omega
  ·have f:Z (Pm B b L cap D w wr):=d;have W:¬(r:Int)<(L:Int):=by omega
   clear d l p t v;go_wp2;go_roundw
   case rel=>exact ⟨g,j.out.2.1,j.out.2.2.1,rfl,f.out⟩
   case measure=>have:=j.out;simp[A];omega
theorem yA (d:CL B w b L cap D) (f:FT b D w) (i:L<=10000) :
  Qf V 141 #[J (S ⟨b,0,I⟩) L cap,.func (.func 142) #[] #[]] w fun e w'=>e=Qg (Qj #[])/\Pm B b L cap D w w':=by
 have c:=xZ (Pm.start d) f i;clear f d
 go_enter func141,ntmps141
 go_wp2_with fail
 refine c.mono ?_;rintro e j ⟨rfl,g⟩;go_wp2;go_end0;exact⟨rfl,g⟩
end
theorem yB (B:Nat) (f:Fl) (v:Qa) (xs:List Gx) (w:H) (K:BR B w v xs) (hB:B<=w.heap.size) (av:Rj xs) (h2:0<=f.2.2.1/\f.2.2.1<=1000000) (hl:xs.length<=900) (aw:∀x∈xs,x.2.2.2.2.length<=900) :
  Qf V 140 #[v,A6 f] w fun e w'=> ∃v' xs',e=Qg v'/\BR B w' v' xs'/\xs'.map (·.2.2)=Co f (xs.map (·.2.2))/\Below B w w':=by
 have M:BL w (w.alloc (Qd #[Qc f.1,Qc f.2.1,O U f.2.2.1,O U f.2.2.2.1,O U f.2.2.2.2.1,O U f.2.2.2.2.2] 77)):=Af _ _;have N:=A1.new w f;have ad:=K.below M;have ae:=xS B f w.heap.size v xs _ ad N av h2 (by omega);obtain⟨q,ay,hv⟩:=Dj K.row;have D:Z _:=av;have E:Z _:=aw;obtain⟨L,hL⟩:∃L,xs.length=L:=⟨_,rfl⟩;have HL:Z _:=hL;rw[hL]at hv;subst hv;clear K av aw;unfold A6
 go_enter func140,ntmps140
 go_upto_region 1 with fail
 generalize w.alloc (Qd #[Qc f.1,Qc f.2.1,O U f.2.2.1,O U f.2.2.2.1,O U f.2.2.2.2.1,O U f.2.2.2.2.2] 77)=WA at M N ad ae ⊢;generalize w.heap.size=fb at N ae ⊢
 go_wp2_with fail
 refine ae.mono ?_;rintro e o ⟨i,rfl,hi,ab⟩;clear ae;have z:=ad.below ab;have C:=N.below ab;have ag:=Qm hB M.size;have t:=Qm ag ab.size;have ah:Below B w o:=(M.mono hB).trans (ab.mono ag);clear M N ad ab ag;rcases hi with⟨rfl,a0⟩|⟨n,hn,rfl,ar,au,-⟩
 ·have ai:Z (Co f (xs.map (·.2.2))=xs.map (·.2.2)++ [CK f (f.2.1,0, [])]):=Wr f (by rw[List.any_map];exact a0);clear a0;have z1:=C.cells.2.1;obtain⟨v2,X,hr,u,F⟩:=z.more t f.2.1 rfl rfl (by omega);have a1:A1 X fb f:=(F.block fb (Xa C) (fun e=>by
   obtain⟨_,_,c,e2⟩:=A7 z.row e;exact Ho C e2 (by decide) rfl)).trans C
  have aj:B<=X.heap.size:=Qm t F.size;have a2:Below B w X:=ah.trans (F.below t (fun k r=>(A7 z.row r).1));have ax:(QC #[198,198] 198 #[J q L ay,J (S ⟨o.heap.size+1,0,I⟩) 1 1]).run V ((o.alloc (Qd #[Qc f.2.1,O U 0,J I 0 0] 205)).alloc (Qd #[Qi (S ⟨o.heap.size,0,I⟩)] 202))= .ok v2 X:=hr;have ak:Z (∀y∈xs++ [(o.heap.size,J I 0 0,((f.2.1,0, []):Gp))],(0<=y.2.2.2.1/\y.2.2.2.1<=1000000)/\y.2.2.2.2.length<=1000):=fun y P=>by
   rw[Q8,Qq]at P;rcases P with P | rfl
   ·exact⟨D.out y P,by have:=E.out y P;omega⟩
   ·exact⟨⟨by simp,by simp⟩,by simp⟩
  have al:Z (((xs++ [(o.heap.size,J I 0 0,((f.2.1,0, []):Gp))]).map (·.2.2)).set L (CK f (f.2.1,0, []))=Co f (xs.map (·.2.2))):=by
   show _=_;rw[ai.out,Q1];have e:L=(xs.map (·.2.2)).length:=by rw[Qn,HL.out]
   rw[e,List.set_append_right _ _ (Qp _)];simp
  have hnx:L<(xs++ [(o.heap.size,J I 0 0,((f.2.1,0, []):Gp))]).length:=by rw[Q0,HL.out];simp
  have P:(xs++ [(o.heap.size,J I 0 0,((f.2.1,0, []):Gp))])[L]'hnx=(o.heap.size,J I 0 0,(f.2.1,0, [])):=by
   have e:L=xs.length:=HL.out.symm;subst e;simp
  have af:(xs++ [(o.heap.size,J I 0 0,((f.2.1,0, []):Gp))]).length=L+1:=by rw[Q0,HL.out];rfl
  generalize a3:xs++ [(o.heap.size,J I 0 0,((f.2.1,0, []):Gp))]=s at *;have Q:Z ((s.map (·.2.2)).set L (CK f s[L].2.2)=Co f (xs.map (·.2.2))):=by
   show _=_;rw[P];exact al.out
  have R:Z (∀x∈s,0<=x.2.2.2.1/\x.2.2.2.1<=1000000):=fun x K=>(ak.out x K).1;have T:Z (∀x∈s,x.2.2.2.2.length<=1000):=fun x K=>(ak.out x K).2;obtain⟨q2,c2,am⟩:=Dj u.row;rw[af]at am;obtain⟨L2,az⟩:∃k,L+1=k:=⟨_,rfl⟩;rw[az]at am;have a4:(L:Int)<(L2:Int):=by omega
  have a5:(0:Int)<=(L:Int):=by omega
  subst am;clear hr a3 F ai al D E ak P af az z ah C t
  go_upto_region 5 with(at_builtin;refine wpList_append_run (by rfl) _ _ _ (by rfl) _ _ _ (by rfl) (by rfl) ax ?_)
  clear ax;have d:BL X X.drew:=(Ql _ _).drew;have p:=u.below d;obtain⟨b,hq,hc⟩:=p.at_ (fun e=>by rw[e]at hnx;simp at hnx);obtain⟨b',Y,aa⟩:=u.at_ (fun e=>by rw[e]at hnx;simp at hnx);obtain rfl:b'=b:=by
   rw[hq]at Y;injection Y with e;injection e with e1 e2 e3;exact e1.symm
  subst hq;have c0:=hc _ hnx;have W:=aa _ hnx;have l:=p.cell _ (Qk hnx);have m:=Wt B f s[L].2.2 s[L].1 s[L].2.1 X.drew l.1 l.2.2 (Qm aj d.size) (R.out _ (Qk _)) h2 (T.out _ (Qk _));have g:Z (∀w',L8 B X.drew s[L].1 s[L].2.1 (CK f s[L].2.2) w'->∃xs',BR B w' (J (S ⟨b',0,I⟩) L2 c2) xs'/\xs'.map (·.2.2)=Co f (xs.map (·.2.2))/\Below B w w'):=fun w' hp=>by
   obtain⟨v2,u⟩:=p.took hnx hp;refine⟨_,u,?_,?_⟩
   ·rw[QR];exact Q.out
   ·obtain⟨_,_,_,an,_⟩:=hp;exact(a2.trans (d.mono aj)).trans (an.below (Qm aj d.size) (fun k r=>by
     rcases r with r | r
     ·rw[r];exact l.2.1
     ·exact(A7 l.2.2 r).1))
  generalize CK f s[L].2.2=TG at m g;generalize s[L]=x at c0 W m g;unfold Fn at c0 W;unfold A6 at m;obtain⟨d0,d1,d2,d3,d4,d5,-⟩:=a1.cells;have s0:=Aa d d0;have s1:=Aa d d1;have s2:=Aa d d2;have s3:=Aa d d3;have s4:=Aa d d4;have s5:=Aa d d5;clear p hc aa l hnx d Q R T
  first
   | (go_region_with (first | (go_at_call 228;refine m.mono ?_;rintro e w9 ⟨rfl,ac⟩)))
   | fail
  all_goals obtain⟨xs',ao,ap,aq⟩:=g.out w9 ac
  all_goals clear m g ac
  all_goals go_wp2
  all_goals go_ret
  all_goals exact⟨_,xs',rfl,ao,ap,aq⟩
 ·have hnx:n<xs.length:=hn;have Q:Z ((xs.map (·.2.2)).set n (CK f xs[n].2.2)=Co f (xs.map (·.2.2))):=by
   show _=_;rw[Ws f (gs:=xs.map (·.2.2)) (n:=n) (by simpa using hn) (by simpa using ar) (fun j hj hjn=>by have:=au j (by simpa using hj) hjn;simpa using this)];simp
  have R:Z (∀x∈xs,0<=x.2.2.2.1/\x.2.2.2.1<=1000000):=D.out;have T:Z (∀x∈xs,x.2.2.2.2.length<=1000):=fun x K=>by have:=E.out x K;omega
  have a4:(n:Int)<(L:Int):=by rw[HL.out]at hn;omega
  have a5:(0:Int)<=(n:Int):=by omega
  clear ar au D E
  go_upto_region 5 with fail
  have d:BL o o.drew:=(Ql _ _).drew;have p:=z.below d;obtain⟨b,hq,hc⟩:=p.at_ (fun e=>by rw[e]at hnx;simp at hnx);obtain⟨b',Y,aa⟩:=z.at_ (fun e=>by rw[e]at hnx;simp at hnx);obtain rfl:b'=b:=by
   rw[hq]at Y;injection Y with e;injection e with e1 e2 e3;exact e1.symm
  subst hq;have c0:=hc _ hnx;have W:=aa _ hnx;have l:=p.cell _ (Qk hnx);have m:=Wt B f xs[n].2.2 xs[n].1 xs[n].2.1 o.drew l.1 l.2.2 (Qm t d.size) (R.out _ (Qk _)) h2 (T.out _ (Qk _));have g:Z (∀w',L8 B o.drew xs[n].1 xs[n].2.1 (CK f xs[n].2.2) w'->∃xs',BR B w' (J (S ⟨b',0,I⟩) L ay) xs'/\xs'.map (·.2.2)=Co f (xs.map (·.2.2))/\Below B w w'):=fun w' hp=>by
   obtain⟨v2,u⟩:=p.took hnx hp;refine⟨_,u,?_,?_⟩
   ·rw[QR];exact Q.out
   ·obtain⟨_,_,_,an,_⟩:=hp;exact(ah.trans (d.mono t)).trans (an.below (Qm t d.size) (fun k r=>by
     rcases r with r | r
     ·rw[r];exact l.2.1
     ·exact(A7 l.2.2 r).1))
  generalize CK f xs[n].2.2=TG at m g;generalize xs[n]=x at c0 W m g;unfold Fn at c0 W;unfold A6 at m;obtain⟨d0,d1,d2,d3,d4,d5,-⟩:=C.cells;have s0:=Aa d d0;have s1:=Aa d d1;have s2:=Aa d d2;have s3:=Aa d d3;have s4:=Aa d d4;have s5:=Aa d d5;clear p hc aa l hnx d Q R T
  first
   | (go_region_with (first | (go_at_call 228;refine m.mono ?_;rintro e w9 ⟨rfl,ac⟩)))
   | fail
  all_goals obtain⟨xs',ao,ap,aq⟩:=g.out w9 ac
  all_goals clear m g ac
  all_goals go_wp2
  all_goals go_ret
  all_goals exact⟨_,xs',rfl,ao,ap,aq⟩
def Oi0 (gs:List Gp):List (List ByteArray):=(gs.filter fun g=>decide (1<g.2.2.length)).map (·.2.2)
def GP (W:H) (v:Qa) (ls:List (List ByteArray)):Prop :=
 ∃vs:List Qa,vs.length=ls.length/\((v=J I 0 0/\ls= [])\/∃b cap,v=J (S ⟨b,0,I⟩) ls.length cap/\∀j (h:j<vs.length),W.cell? ⟨b,j,I⟩=S vs[j])/\∀j (h:j<vs.length) (h':j<ls.length),BV W vs[j] ls[j]
theorem GP.form {W:H} {v:Qa} {d:List (List ByteArray)} (h:GP W v d):∃q c,v=J q d.length c:=by
 obtain⟨_,_,⟨rfl,rfl⟩|⟨b,f,rfl,_⟩,_⟩:=h
 ·exact⟨_,_,rfl⟩
 ·exact⟨_,_,rfl⟩
theorem GP.below {W f:H} {v:Qa} {g:List (List ByteArray)} (h:GP W v g) (i:BL W f):GP f v g:=by
 obtain⟨k,l,c,m⟩:=h;refine⟨k,l,?_,fun j a b=>(m j a b).below i⟩;rcases c with c | ⟨b,d,e,n⟩
 ·exact Qs c
 ·exact Qz ⟨b,d,e,fun j h=>Aa i (n j h)⟩
def DE (xs:List Gx) (n:Nat):List Qa:=((xs.take n).filter fun x=>decide (1<x.2.2.2.2.length)).map (·.2.1)
theorem yC {xs:List Gx} {n:Nat} (h:n<xs.length) (e:1<xs[n].2.2.2.2.length):DE xs (n+1)=DE xs n++ [xs[n].2.1]:=by
 unfold DE;rw[Q5 h,Q2,Q1];simp[e]
theorem yD {xs:List Gx} {n:Nat} (h:n<xs.length) (e:¬1<xs[n].2.2.2.2.length):DE xs (n+1)=DE xs n:=by
 unfold DE;rw[Q5 h,Q2,Q1];simp[e]
theorem yE (xs:List Gx) (n:Nat):(DE xs n).length<=xs.length:=by
 unfold DE;rw[Qn];have b:=QJ (fun x:Gx=>decide (1<x.2.2.2.2.length)) (xs.take n);have c:=List.length_take_le' n xs;omega
theorem yF (xs:List Gx):Oi0 (xs.map (·.2.2))=((xs.filter fun x=>decide (1<x.2.2.2.2.length))).map (fun x=>x.2.2.2.2):=by
 unfold Oi0;rw[Xn,QK];rfl
theorem Tryz.txsInfo3:(Tryz.prog.info? 82).map (fun i=>(i.zero,i.size,i.bytes))=S (S (J I 0 0),1,24):=by kernel_rfl
theorem Tryz.txsInfo:∃i0:TypeInfo,Tryz.prog.info? 82=S i0/\i0.zero=S (J I 0 0)/\i0.size=1/\i0.bytes=24:=by
 have h:=Tryz.txsInfo3
 cases b:Tryz.prog.info? 82 with
 | none=>rw [b]at h;simp at h
 | some i =>
  rw[b]at h;simp only[Xf,Qy,Prod.mk.injEq]at h;exact⟨i,rfl,h.1,h.2.1,h.2.2⟩
theorem yG {B:Nat} {W d:H} {v:Qa} {b:List Qa} (s:W.ownsRow B 82 1 v b.length b) (t:B<=W.heap.size) (u:Qa) (y:u.oneCell'=Qh) (f:d=W.alloc (Qd #[u] 82)) (z:b.length<=1000) :
  ∃v' W2,(QC #[122,122] 122 #[v,J (S ⟨W.heap.size,0,I⟩) 1 1]).run V d= .ok v' W2/\W2.ownsRow B 82 1 v' (b++ [u]).length (b++ [u])/\Ac (fun k=>v.ownBlock=S k) W W2:=by
 obtain⟨l,m,n,o,i⟩:=Tryz.txsInfo;have c:BL W d:=by rw[f];exact Af _ _
 have g:CR d (S ⟨W.heap.size,0,I⟩) 1 1 [u]:=by
  rw[f];exact Ih W [u] 82 1 1
 obtain⟨v',W2,p,q,r,C⟩:=Fc (P:=V) d B 122 122 82 l (J I 0 0) 1 24 underlying122 m n o i rfl (by decide) v b.length b (AG (P:=fun _=>False) s (Ac.of_below c) (fun _ _ h=>h)) (S ⟨W.heap.size,0,I⟩) 1 1 [u] rfl g (by intro D j;rw[Qq]at j;subst j;exact y) (by unfold QF;omega) (by omega) (Qm t c.size);refine⟨v',W2,p,?_,(Ac.of_below c).trans (Ac.grown r) (fun _ h _=>h)⟩;rw[Q0];exact q
theorem yH {B:Nat} {W:H} {v:Qa} {xs:List Gx} {o:Nat} {p:Qa} (i:W.ownsRow B 82 1 v (DE xs xs.length).length (DE xs xs.length)) (q:BR o W p xs):GP W v (Oi0 (xs.map (·.2.2))):=by
 have k:DE xs xs.length=(xs.filter fun x=>decide (1<x.2.2.2.2.length)).map (·.2.1):=by unfold DE;rw[Xo]
 rw[k]at i;rw[yF];refine⟨(xs.filter fun x=>decide (1<x.2.2.2.2.length)).map (·.2.1),by simp,?_,fun j h h'=>?_⟩
 ·rcases i.2 with⟨b,c⟩|⟨g,d,f,b,_,m,r,_,_,n⟩
  ·refine Qs ⟨b,?_⟩;rw[Qn]at c;rw[Xb.1 c];rfl
  ·rw[Qn]at b;refine Qz ⟨g,d,by rw[b,Qn],fun j hj=>?_⟩;rw[QD _ _ _ _ _ _ m];have e:(f.toList.take (((xs.filter fun x=>decide (1<x.2.2.2.2.length)).map (·.2.1)).length*1))[j]? =((xs.filter fun x=>decide (1<x.2.2.2.2.length)).map (·.2.1))[j]? :=by rw[n]
   rw[QN,if_pos (by omega),QO]at e;rw[e,QG hj]
 ·simp only[Xd];have l:(xs.filter fun x=>decide (1<x.2.2.2.2.length))[j]'(by simpa using h)∈xs:=(Qr.1 (Qk _)).1;exact IC (q.cell _ l).2.2
theorem Wx (B:Nat) (v:Qa) (xs:List Gx) (w:H) (p:BR B w v xs) (P:xs.length<=900) :
  Qf V 144 #[v] w fun e w'=> ∃v',e=Qg v'/\GP w' v' (Oi0 (xs.map (·.2.2)))/\BL w w':=by
 obtain⟨q,aa,rfl⟩:=Dj p.row;have g:Z _:=fun W (f:BL w W)=>p.below f;have r:Z (∀x∈xs,∃q c,x.2.1=J q x.2.2.2.2.length c):=fun x hxm=>Dj (p.cell x hxm).2.2;have s:Z _:=fun n=>Qm (yE xs n) P;obtain⟨L,K⟩:∃L,xs.length=L:=⟨_,rfl⟩;have t:Z _:=K;rw[K]at P g ⊢
 go_enter func144,ntmps144
 go_wp2
 go_loopw [3,8] (fun u k wr=> ∃n:Nat,n<=L/\k=O U n/\wr.ownsRow w.heap.size 82 1 u (DE xs n).length (DE xs n)/\BL w wr) (fun _ k _=>L-(A k).toNat)
 case atStart=>exact ⟨0,by omega,rfl,World.ownsRow_nil _ _ _ _,Ql _ _⟩
 case round =>
  obtain⟨n,hn,rfl,ho,f⟩:=hrel;have i:Z _:=ho;by_cases y:n<L
  ·have d:n<xs.length:=by rw[t.out];exact y
   obtain⟨b,hq,M⟩:=(g.out wr f).at_ (fun e=>by rw[e]at d;simp at d);subst hq;have z:=M n d;have l:=(g.out wr f).cell xs[n] (Qk _);have Q:=l.1.cells.2.2.1;obtain⟨pq,pc,m⟩:=r.out xs[n] (Qk _);have C:Z (1<xs[n].2.2.2.2.length->DE xs (n+1)=DE xs n++ [xs[n].2.1]):=fun e=>yC d e;have D:Z (¬1<xs[n].2.2.2.2.length->DE xs (n+1)=DE xs n):=fun e=>yD d e;generalize xs[n]=x at z Q m C D;unfold Fn at z;clear M d l;obtain⟨xb,xv,xg⟩:=x;dsimp only at *;subst m;generalize xg.2.2.length=j at *;by_cases E:1<j
   ·have R:(1:Int)<(j:Int):=by omega
    obtain⟨v',W6,hr,N,o⟩:=yG i.out f.size (J pq j pc) rfl rfl (by have:=s.out n;omega);have F:=f.trans (o.below f.size (fun k hk=>(A7 i.out hk).1));have T:Z (W6.ownsRow w.heap.size 82 1 v' (DE xs (n+1)).length (DE xs (n+1))):=by
     show World.ownsRow _ _ _ _ _ _ _;rw[C.out E];exact N
    go_wp2_with (at_builtin;refine wpList_append_run (by rfl) _ _ _ (by rfl) _ _ _ (by rfl) (by rfl) hr ?_)
    go_roundw
    case rel=>exact ⟨n+1,by omega,by go_num,T.out,F⟩
    case measure=>simp [A];omega
   ·have R:¬(1:Int)<(j:Int):=by omega
    have X:Z _:=D.out E;go_wp2;go_roundw
    case rel=>exact ⟨n+1,by omega,by go_num,by rw[X.out];exact i.out,f⟩
    case measure=>simp [A];omega
  ·obtain rfl:n=L:=by omega
   have Y:Z _:=yH (by rw[t.out];exact i.out) (g.out wr f);go_wp2;go_ret;exact⟨_,rfl,Y.out,f⟩
theorem yI (q:Option Qt) (n c:Nat) (b:Qa) (h:n<=1) (w:H) :
  Qf V 311 #[J q n c,O U 0,O U n,b] w fun e w'=>e=Qg (Qj #[])/\w'=w:=by
 go_enter func311,ntmps311
 go_wp2;refine QV 1 ?_;rw[QW];go_wp2;go_end0;exact⟨rfl,rfl⟩
theorem yJ (q:Option Qt) (n c:Nat) (d:Qa) (h:n<=1) (w:H) :
  Qf V 229 #[J q n c,O U n,d] w fun e w'=>e=Qg (Qj #[])/\w'=w:=by
 have b:=yI q n c d h w
 go_enter func229,ntmps229
 go_wp2;refine QV 1 ?_;rw[QW]
 go_wp2_with fail
 refine b.mono ?_;rintro e f ⟨rfl,rfl⟩;go_wp2;refine QV 1 ?_;rw[QW];go_wp2;go_end0;exact⟨rfl,rfl⟩
theorem yK (q:Option Qt) (n c:Nat) (d:Qa) (h:n<=1) (w:H) :
  Qf V 141 #[J q n c,d] w fun e w'=>e=Qg (Qj #[])/\w'=w:=by
 have b:=yJ q n c d h w
 go_enter func141,ntmps141
 go_wp2_with fail
 refine b.mono ?_;rintro e f ⟨rfl,rfl⟩;go_wp2;go_end0;exact⟨rfl,rfl⟩
def Ep (least:Int) (f:Fl):Bool:= !AL f.1 && decide (f.2.2.1<least)
def CY (fs:List Fl) (least:Int) (n:Nat):List Gp:=((fs.take n).filter (Ep least)).foldl (fun gs f=>Co f gs) []
theorem Rl {b:List Fl} {least:Int} {n:Nat} (h:n<b.length) (e:Ep least b[n]=Qh):CY b least (n+1)=Co b[n] (CY b least n):=by
 unfold CY;rw[Q5 h,Q2,Xp];simp[e]
theorem Rn {b:List Fl} {least:Int} {n:Nat} (h:n<b.length) (e:Ep least b[n]=Qe):CY b least (n+1)=CY b least n:=by
 unfold CY;rw[Q5 h,Q2,Xp];simp[e]
def JN (n:Nat) (gs:List Gp):Prop:=gs.length<=n/\∀g∈gs,(0<=g.2.1/\g.2.1<=40)/\g.2.2.length<=n
theorem JN.mono {n:Nat} {gs:List Gp} (h:JN n gs):JN (n+1) gs:=⟨by have:=h.1;omega,fun g hg=>⟨(h.2 g hg).1,by have:=(h.2 g hg).2;omega⟩⟩
theorem yL {f:Fl} (d:0<=f.2.2.1/\f.2.2.1<=40):∀ {n:Nat} {gs:List Gp},JN n gs->JN (n+1) (Co f gs)
 | n, [],_=>⟨by simp[Co],fun g b=>by
  rw[Co,Qq]at b;subst b;unfold CK;exact⟨by simpa using d,by simp⟩⟩
 | n,g :: r,h=>by
  have b:=h.2 g QB;unfold Co;by_cases e:Cl f g=Qh
  ·rw[if_pos e];refine⟨by have:=h.1;simpa using Nat.le_succ_of_le this,fun x c=>?_⟩;rcases Q6.1 c with rfl | c
   ·unfold Cl at e;rw[Q7,decide_eq_true_eq,decide_eq_true_eq]at e;unfold CK;exact⟨⟨by show 0<=g.2.1+f.2.2.1;omega,e.2⟩,by simp only[Q0,Xq];omega⟩
   ·have:=h.2 x (Q3 _ c);exact⟨this.1,by omega⟩
  ·rw[if_neg e];have l:r.length+1<=n:=by have:=h.1;simpa using this
   obtain⟨k,rfl⟩:∃k,n=k+1:=⟨n-1,by omega⟩;have m:=putG_len f r;have i:=putG_mem (f:=f) (n:=k+1) d r (fun x c=>h.2 x (Q3 _ c));refine⟨by simp only[QL];omega,fun x c=>?_⟩;rcases Q6.1 c with rfl | c
   ·exact⟨b.1,by omega⟩
   ·exact i x c
 where
 putG_len (f:Fl):∀gs:List Gp,(Co f gs).length<=gs.length+1
  | []=>by simp[Co]
  | g :: r=>by
   unfold Co;split
   ·simp
   ·have:=putG_len f r;simp only[QL];omega
 putG_mem {f:Fl} {n:Nat} (d:0<=f.2.2.1/\f.2.2.1<=40):∀gs:List Gp,(∀g∈gs,(0<=g.2.1/\g.2.1<=40)/\g.2.2.length<=n)->∀g∈Co f gs,(0<=g.2.1/\g.2.1<=40)/\g.2.2.length<=n+1
  | [],_,g,b=>by
   rw[Co,Qq]at b;subst b;unfold CK;exact⟨by simpa using d,by simp⟩
  | a :: r,h,g,b=>by
   have j:=h a QB;unfold Co at b;by_cases e:Cl f a=Qh
   ·rw[if_pos e]at b;rcases Q6.1 b with rfl | b
    ·unfold Cl at e;rw[Q7,decide_eq_true_eq,decide_eq_true_eq]at e;unfold CK;exact⟨⟨by show 0<=a.2.1+f.2.2.1;omega,e.2⟩,by simp only[Q0,Xq];omega⟩
    ·have:=h g (Q3 _ b);exact⟨this.1,by omega⟩
   ·rw[if_neg e]at b;rcases Q6.1 b with rfl | b
    ·exact⟨j.1,by omega⟩
    ·exact putG_mem d r (fun x c=>h x (Q3 _ c)) g b
theorem Wy {b:List Fl} {least:Int} (c:∀f∈b,0<=f.2.2.1/\f.2.2.1<=40):∀n,n<=b.length->JN n (CY b least n)
 | 0,_=>⟨by simp[CY],fun g hg=>by simp[CY]at hg⟩
 | n+1,h=>by
  have d:=Wy (least:=least) c n (by omega)
  cases e:Ep least (b[n]'(by omega)) with
  | true=>rw [Rl (by omega) e];exact yL (c _ (Qk _)) d
  | false=>rw [Rn (by omega) e];exact d.mono
theorem Wz {f:Fl} (h:Au f=0):0<=f.2.2.1/\f.2.2.1<=40:=by
 obtain⟨_,_,_,_,b⟩:=D0 h;unfold Db at b;simp only[Q7,decide_eq_true_eq]at b;omega
theorem yM (d f:Gp) (x y:Nat) (l m:Qa) (w:H) (g:Cp w x d l) (i:Cp w y f m) :
  Qf V 142 #[pN x,pN y] w fun e w'=>e=Qg (O U (Lib.compareBytes d.1.data.toList f.1.data.toList))/\BL w w':=by
 have j:=g.cells.1;have k:=i.cells.1;have c:=strings_Compare d.1 f.1;unfold pN;generalize d.1=a at j c ⊢;generalize f.1=b at k c ⊢;generalize Lib.compareBytes a.data.toList b.data.toList=n at c ⊢;clear g i
 go_enter func142,ntmps142
 go_upto_region 1 with fail
 go_quiet (first | (go_at_call 143;exact Calls.quiet_of_same (c _)))
 go_wp2;go_ret;exact⟨rfl,AK (Ql _ _) _⟩
theorem yN {B:Nat} {W:H} {b L c:Nat} {xs:List Gx} (h:BR B W (J (S ⟨b,0,I⟩) L c) xs) (f:xs.length=L):CL B W b L c (xs.map (·.1)):=by
 have d:=h.row;rw[f]at d;have e:xs.map Fn=(xs.map (·.1)).map pN:=by rw[QK];rfl
 unfold CL;rw[<-e];exact d
theorem Ro {B:Nat} {W:H} {b L i:Nat} {xs:List Gx} (h:BR B W (J (S ⟨b,0,I⟩) L i) xs):∀x∈xs,x.1≠b/\∀k,x.2.1.ownBlock=S k->k≠b:=fun x hx=>by
 obtain⟨_,_,c,f⟩:=A7 h.row (k:=b) rfl;have d:=h.cell x hx;refine⟨Ho d.1 f (by decide),fun k hk=>?_⟩;obtain⟨_,_,j,g⟩:=A7 d.2.2 hk;exact Ho g f (by decide)
theorem yO {B:Nat} {W:H} {b L i:Nat} {xs:List Gx} (h:BR B W (J (S ⟨b,0,I⟩) L i) xs):FT b (xs.map (·.1)) W:=fun x hx y hy W' hW=>by
 obtain⟨g,f,rfl⟩:=Q4.1 hx;obtain⟨c,d,rfl⟩:=Q4.1 hy;exact(yM g.2.2 c.2.2 g.1 c.1 g.2.1 c.2.1 W' ((h.cell g f).1.but hW (Ro h g f).1) ((h.cell c d).1.but hW (Ro h c d).1)).mono fun e w' ⟨he,hb⟩=>⟨_,he,hb⟩
theorem WC {α β:Type} {f:α->β} {d g:List β} (h:d.Perm g):∀zs:List α,zs.map f=g->∃ys:List α,ys.Perm zs/\ys.map f=d:=by
 induction h with
 | nil=>exact fun zs e=>⟨zs,QS _,e⟩
 | cons x h ih =>
  intro zs e
  cases zs with
  | nil=>simp at e
  | cons z r =>
   rw[Qv]at e;injection e with e1 e2;obtain⟨ys,b,c⟩:=ih r e2;exact⟨z :: ys,b.cons z,by rw[Qv,c,e1]⟩
 | swap x y l =>
  intro zs e
  match zs,e with
  | z1 :: z2 :: r,e =>
   simp only[Qv]at e;injection e with e1 e2;injection e2 with e2 e3;exact⟨z2 :: z1 :: r,Xw _ _ _,by simp only[Qv];rw[e1,e2,e3]⟩
  | [_],e=>simp at e
  | [],e=>simp at e
 | trans b c ih1 ih2 =>
  intro zs e;obtain⟨ys,i,j⟩:=ih2 zs e;obtain⟨k,m,n⟩:=ih1 ys j;exact⟨k,m.trans i,n⟩
theorem yP {B:Nat} {W l:H} {b L d:Nat} {xs:List Gx} (h:BR B W (J (S ⟨b,0,I⟩) L d) xs) (o:xs.length=L) (p:Pm B b L d (xs.map (·.1)) W l):∃ys,BR B l (J (S ⟨b,0,I⟩) L d) ys/\ys.Perm xs:=by
 obtain⟨⟨E,m,n⟩,j⟩:=p;obtain⟨ys,c,rfl⟩:=WC (f:=fun x:Gx=>x.1) n xs rfl;refine⟨ys,⟨?_,fun x hx=>?_,(c.pairwise_iff (fun {x y} hxy=>⟨fun e=>hxy.1 e.symm,fun k hk e=>hxy.2 k e hk⟩)).2 h.ap⟩,c⟩
 ·have e:ys.map Fn=(ys.map (·.1)).map pN:=by rw[QK];rfl
  rw[e,c.length_eq,o];exact m
 ·have g:=h.cell x (c.subset hx);have i:=Ro h x (c.subset hx);exact⟨g.1.but j i.1,g.2.1,AG g.2.2 j i.2⟩
theorem yQ (v:Qa) (c:List Fl) (least:Int) (w:H) (a:Nat->Qt) (h:DC w a) (t:Ai w v c) (hl:c.length<=100) (am:Ej c) (hE:(BK c).1=0) (bc:0<=least) (bd:least<=41) :
  Qf V 72 #[v,O U least] w fun e w'=> ∃v' gs,e=Qg (Qj #[v',Qx])/\GP w' v' (Oi0 gs)/\gs.Perm (CY c least c.length)/\BL w w':=by
 have ac:=Li v c w a h t (by omega) am;have ao:Z _:=fun W (p:BL w W)=>h.file.env.below p;have HX:Z _:=fun W (p:BL w W)=>t.below p;have ad:Z (∀f∈c,0<=f.2.2.1/\f.2.2.1<=40):=fun f hf=>Wz ((GW.1 hE).2.1 f hf).1;have ap:Z (∀f∈c,∀W,BL w W->Qf V 139 #[A6 f] W fun e w'=>e=Qg (Qu (AL f.1))/\BL W w'):=fun f hf W p=>IF f W a (ao.out W p) (by have:=(am f hf).1;omega);obtain⟨q,bb,rfl⟩:=t.form;obtain⟨L,hL⟩:∃L,c.length=L:=⟨_,rfl⟩;have HL:Z _:=hL;have F:Z (∀n,n<=L->JN n (CY c least n)):=fun n hn=>Wy ad.out n (by omega);have a7:L<=100:=by omega
 rw[hL]at ac HX ⊢
 go_enter func72,ntmps72
 go_wp2_with fail
 refine ac.mono ?_;rintro e w1 ⟨ev,rfl,ht,an⟩;obtain rfl:=ht.ok hE
 go_wp2_with fail
 go_loopw [7,24] (fun u k wr=> ∃(n:Nat) (d:List Gx),n<=L/\k=O U n/\BR w.heap.size wr u d/\d.map (·.2.2)=CY c least n/\BL w wr) (fun _ k _=>L-(A k).toNat)
 case atStart=>exact ⟨0, [],by omega,rfl,BR.nil _ _,rfl,an⟩
 case round =>
 obtain⟨n,d,hn,rfl,hG,hm,p⟩:=hrel;have B:Z _:=hm;have E:Z _:=hG;by_cases aq:n<L
 case neg =>
  obtain rfl:n=L:=by omega
  have a8:¬(n:Int)<(n:Int):=by omega
  have ar:d.length<=100:=by
   have e:=congrArg Xj B.out;rw[Qn]at e;have:=(F.out n (Qp _)).1;omega
  obtain⟨q7,c7,ax⟩:=Dj E.out.row;subst ax;by_cases C:d.length<=1
  ·have y:=Wx w.heap.size _ d wr E.out (by omega);rw[B.out]at y;have K:=fun cv=>yK q7 d.length c7 cv C wr;generalize d.length=XL at *
   go_upto_region 13 with fail
   go_wp2_with fail
   refine(K _).mono ?_;rintro e w2 ⟨rfl,rfl⟩
   go_wp2_with fail
   refine y.mono ?_;rintro e w3 ⟨v3,rfl,aa,r⟩;have M:Z _:=aa;have j:=Ad p r;go_wp2;refine Q9 (v:=Qj #[v3,Qx]) (by simp[QA,results72,go_sem]) rfl ?_;exact⟨_,_,rfl,M.out,QS _,j⟩
  ·obtain⟨b7,ay,_⟩:=E.out.at_ (fun e=>by rw[e]at C;simp at C);subst ay;obtain⟨XL,z⟩:∃k,d.length=k:=⟨_,rfl⟩;have au:Z (d.length=XL/\XL<=100):=⟨z,by omega⟩;have s:=E.out;rw[z]at s ⊢;have K:=yA (yN s z) (yO s) (by omega);have av:Z (∀W',Pm w.heap.size b7 XL c7 (d.map (·.1)) wr W'->∃i,BR w.heap.size W' (J (S ⟨b7,0,I⟩) XL c7) i/\i.Perm d/\Ac (fun k=>k=b7) wr W'/\w.heap.size<=b7):=fun W' hp=>by
    obtain⟨i,h1,h2⟩:=yP s z hp;exact⟨i,h1,h2,hp.2,(A7 s.row (k:=b7) rfl).1⟩
   clear s E ar F C z
   go_upto_region 13 with fail
   go_wp2_with fail
   refine K.mono ?_;rintro e w2 ⟨rfl,a2⟩;obtain⟨i,az,al,a0,a1⟩:=av.out w2 a2;have D:=p.trans (a0.below p.size (fun k hk=>by rw[hk];exact a1));have y:=Wx w.heap.size _ i w2 az (by have:=au.out;rw[al.length_eq];omega);have ae:Z ((i.map (·.2.2)).Perm (CY c least n)):=by
    have h:=al.map (·.2.2);rw[B.out]at h;exact h
   generalize i.map (·.2.2)=gs at y ae
   go_wp2_with fail
   refine y.mono ?_;rintro e w3 ⟨v3,rfl,aa,r⟩;have M:Z _:=aa;have j:=Ad D r;go_wp2;refine Q9 (v:=Qj #[v3,Qx]) (by simp[QA,results72,go_sem]) rfl ?_;exact⟨_,gs,rfl,M.out,ae.out,j⟩
 case pos =>
  have l:n<c.length:=by rw[HL.out];exact aq
  obtain⟨b,o,hq,hc⟩:=(HX.out wr p).cells (fun e=>by rw[e]at l;simp at l);subst hq;obtain⟨c0,c1,c2,c3,c4,c5⟩:=hc n l;have a9:(n:Int)<(L:Int):=by omega
  have ba:(0:Int)<=(n:Int):=by omega
  have af:Z (Ep least c[n]=Qh->CY c least (n+1)=Co c[n] (CY c least n)):=fun e=>Rl l e;have N:Z (Ep least c[n]=Qe->CY c least (n+1)=CY c least n):=fun e=>Rn l e;have ag:=ad.out c[n] (Qk _);have ah:=ap.out c[n] (Qk _);have P:=F.out n (by omega);have Q:Z (Rj d/\d.length<=900/\∀x∈d,x.2.2.2.2.length<=900):=by
   have e:=B.out;have el:d.length=(CY c least n).length:=by rw[<-e,Qn]
   have em:∀x∈d,x.2.2∈CY c least n:=fun x t=>by rw[<-e];exact Q4.2 ⟨x,t,rfl⟩
   exact⟨fun x t=>by have:=(P.2 _ (em x t)).1;omega,by have:=P.1;omega,fun x t=>by have:=(P.2 _ (em x t)).2;omega⟩
  generalize c[n]=g at c0 c1 c2 c3 c4 c5 af N ah ag;have ai:BL wr (wr.alloc (Qd #[Qc g.1,Qc g.2.1,O U g.2.2.1,O U g.2.2.2.1,O U g.2.2.2.2.1,O U g.2.2.2.2.2] 77)):=Af _ _;have aj:=A1.new wr g;have D:=Ad p ai;have aw:Z _:=E.out.below ai
  go_upto_region 10 with fail
  generalize wr.alloc (Qd #[Qc g.1,Qc g.2.1,O U g.2.2.1,O U g.2.2.2.1,O U g.2.2.2.2.1,O U g.2.2.2.2.2] 77)=W2 at *;generalize wr.heap.size=gb at *;obtain⟨d0,d1,d2,d3,d4,d5,-⟩:=aj.cells;have R:=ah W2 D;unfold A6 at R
  go_wp2_with fail
  refine R.mono ?_;rintro e w3 ⟨rfl,r⟩;have j:=Ad D r;have T:Z _:=aw.out.below r;obtain⟨d0,d1,d2,d3,d4,d5,-⟩:=(aj.below r).cells;cases ab:AL g.1
  case true =>
   have X:Z _:=N.out (by unfold Ep;rw[ab];rfl);go_wp2;go_roundw
   case rel=>exact ⟨n+1,d,by omega,by go_num,T.out,by rw[X.out];exact B.out,j⟩
   case measure=>simp [A];omega
  case false =>
   by_cases ak:g.2.2.1<least
   ·have X:Z _:=af.out (by unfold Ep;rw[ab,decide_eq_true ak];rfl);have Y:=yB w.heap.size g u7 d w3 T.out j.size Q.out.1 ⟨ag.1,by omega⟩ Q.out.2.1 Q.out.2.2;rw[B.out,<-X.out]at Y;unfold A6 at Y
    go_wp2_with fail
    refine Y.mono ?_;rintro e w4 ⟨v4,a3,rfl,a4,a5,a6⟩;have HR:Z (∃(m:Nat) (i:List Gx),m<=L/\O U ((n:Int)+1)=O U m/\BR w.heap.size w4 v4 i/\i.map (·.2.2)=CY c least m/\BL w w4):=⟨n+1,a3,by omega,by go_num,a4,a5,j.trans a6⟩;go_wp2;go_roundw
    case rel =>
     obtain⟨m,i,g1,g2,g3,g4,g5⟩:=HR.out;exact⟨m,i,g1,g2,g3,g4,g5⟩
    case measure=>simp [A];omega
   ·have X:Z _:=N.out (by unfold Ep;rw[ab,decide_eq_false ak];rfl);go_wp2;go_roundw
    case rel=>exact ⟨n+1,d,by omega,by go_num,T.out,by rw[X.out];exact B.out,j⟩
    case measure=>simp [A];omega
theorem yR {b:List Fl} {p:ByteArray} :∀j (hj:j<b.length),b[j].1=p->∃i,∃hi:i<b.length,b[i].1=p/\∀k (hk:k<b.length),k<i->b[k].1≠p:=by
 intro j
 induction j using Nat.strongRecOn with
 | ind j ih =>
  intro hj e;by_cases h:∃k,∃hk:k<b.length,k<j/\b[k].1=p
  ·obtain⟨k,hk,c,d⟩:=h;exact ih k c hk d
  ·exact⟨j,hj,e,fun k hk c d=>h ⟨k,hk,c,d⟩⟩
theorem WD {b:List Fl} {f:Fl} (l:f∈b):∃n,∃hn:n<b.length,Dp b f.1=n/\b[n].1=f.1:=by
 obtain⟨j,g,rfl⟩:=Xe.1 l;obtain⟨i,c,e,d⟩:=yR j g rfl;exact⟨i,c,My c (fun k hk hki=>d k hk hki) e,e⟩
def WG (fs:List Fl) (p:ByteArray):Prop:= ∃f∈fs,f.1=p/\AL p=Qe
theorem yS (v:Qa) (c:List Fl) (p:ByteArray) (w:H) (a:Nat->Qt) (h:Df w a) (l:Ai w v c) (hl:c.length<=1000) (K:∀f∈c,f.1.size<=100000) (M:WG c p) :
  Qf V 231 #[v,Qc p] w fun e w'=>e=Qg (Qu Qh)/\BL w w':=by
 have d:=Kx v c p w l (by omega);obtain⟨n,i,s,t⟩:∃n,∃s:n<c.length,Dp c p=n/\c[n].1=p:=by
  obtain⟨f,N,e,_⟩:=M;have g:=WD N;rw[e]at g;exact g
 have k:Z (∀W,BL w W->Qf V 139 #[A6 c[n]] W fun e w'=>e=Qg (Qu Qe)/\BL W w'):=fun W hb=>by
  have g:=IF c[n] W a (h.below hb) (K _ (Qk _));obtain⟨_,_,_,P⟩:=M;rw[t,P]at g;exact g
 obtain⟨q,X,rfl⟩:=l.form;rw[s]at d;obtain⟨L,Q⟩:∃L,c.length=L:=⟨_,rfl⟩;obtain⟨b,o,R,T⟩:=l.cells (fun e=>by rw[e]at i;simp at i);subst R;have m:Z (∀W,BL w W->W.cell? ⟨b,o+n*6,I⟩=S (Qc c[n].1)/\W.cell? ⟨b,o+n*6+1,I⟩=S (Qc c[n].2.1)/\W.cell? ⟨b,o+n*6+2,I⟩=S (O U c[n].2.2.1)/\W.cell? ⟨b,o+n*6+3,I⟩=S (O U c[n].2.2.2.1)/\W.cell? ⟨b,o+n*6+4,I⟩=S (O U c[n].2.2.2.2.1)/\W.cell? ⟨b,o+n*6+5,I⟩=S (O U c[n].2.2.2.2.2)):=fun W hb=>by
  obtain⟨u,y,z,B,C,D⟩:=T n i;exact⟨Aa hb u,Aa hb y,Aa hb z,Aa hb B,Aa hb C,Aa hb D⟩
 generalize c[n]=f at k m;rw[Q]at d ⊢
 go_enter func231,ntmps231
 go_wp2_with fail
 refine d.mono ?_;rintro e E ⟨rfl,j⟩;obtain⟨u,y,z,B,C,D⟩:=m.out E j;have r:=k.out E j
 go_wp2_with fail
 refine r.mono ?_;rintro e Y ⟨rfl,F⟩;go_wp2;go_ret;exact⟨rfl,(Ad j F)⟩
def CC (ps:List ByteArray) (f:Fl):Bool:= !AL f.1 && !AQ ps f.1
theorem yT (ps:List ByteArray) (l:Qa) (f:Fl) (p:Nat) (w:H) (a:Nat->Qt) (h:Df w a) (u:w.cell? ⟨p,0,I⟩=S l) (r:BV w l ps) (T:ps.length<=1000) (v:f.1.size<=100000) :
  Qf V 233 #[A6 f,Qi (S ⟨p,0,I⟩)] w fun e w'=>e=Qg (Qu (CC ps f))/\BL w w':=by
 have b:BL w (w.alloc (Qd #[Qc f.1,Qc f.2.1,O U f.2.2.1,O U f.2.2.2.1,O U f.2.2.2.2.1,O U f.2.2.2.2.2] 77)):=Af _ _;have i:=A1.new w f;have d:=IF f _ a (h.below b) v;have m:=Aa b u;have n:Z _:=fun W (hW:BL w W)=>OU l ps f.1 W (r.below hW) (by omega);have j:Z (CC ps f=(!AL f.1 && !AQ ps f.1)):=rfl;obtain⟨q,c,rfl⟩:=r.form;generalize AL f.1=G at d j;unfold A6 at d ⊢
 go_enter func233,ntmps233
 go_upto_region 1 with fail
 obtain⟨D,E,F,y,z,s⟩:=f;obtain⟨K,L,M,N,P,Q,-⟩:=i.cells
 go_wp2_with fail
 refine d.mono ?_;rintro e t ⟨rfl,g⟩;have k:=Ad b g;have B:=(i.below g).cells.1;have C:=Aa g m;cases G
 ·have o:=n.out t k
  go_wp2_with fail
  refine o.mono ?_;rintro e R ⟨rfl,rfl⟩;go_wp2;go_ret;exact⟨by rw[j.out];simp,k⟩
 ·go_wp2;go_ret;exact⟨by rw[j.out];simp,k⟩
section
variable {a : Nat → Qt} {B : Nat} {EM : H → Prop} {SAt : H → Qa → (Nat → Prop) → St → Prop}
theorem yU (X:H) (pt:Qt) (s:Sn) (vf:Qa) (T:Ai X vf s.2.2.2.2.2.2) (hl:s.2.2.2.2.2.2.length<=100) (M:Ej s.2.2.2.2.2.2) (vp:Qa) (ps:List ByteArray) (hp:BV X vp ps) (bb:ps.length<=1000) (hE:(Am s).1=0) (hd:∀p∈ps,WG s.2.2.2.2.2.2 p) (RR:List Rw) (N:Qa->Prop) (bc:∀W,BL X W->DC W a)
  (bd:∀W v,BL X W->Ai W v (s.2.2.2.2.2.2.filter fun f=> !CC ps f)->Qf V 40 #[Qi (S pt),A8 (Hn s (s.2.2.2.2.2.2.filter fun f=> !CC ps f)) v,O U (-1073741824),O U 1073741824] W fun e w'=> ∃v',e=Qg (Qj #[v',Qx])/\Ap w' v' RR/\N v'/\BL W w') :
  Qf V 147 #[Qi (S pt),A8 s vf,vp] X fun e w'=> ∃v',e=Qg (Qj #[v',Qx])/\Ap w' v' RR/\N v'/\BL X w':=by
 have eg:∀args w,(callFunc 233 args).run V w= .ok (.enter 233 args) w:=enters_of func233 (by kernel_rfl) rfl;have aa:Z (∀W,BL X W->DC W a):=bc;have D:Z (∀W v,BL X W->Ai W v (s.2.2.2.2.2.2.filter fun f=> !CC ps f)->Qf V 40 #[Qi (S pt),A8 (Hn s (s.2.2.2.2.2.2.filter fun f=> !CC ps f)) v,O U (-1073741824),O U 1073741824] W fun e w'=> ∃v',e=Qg (Qj #[v',Qx])/\Ap w' v' RR/\N v'/\BL W w'):=bd;have HX:Z (∀W,BL X W->Ai W vf s.2.2.2.2.2.2):=fun W c=>T.below c;have HP:Z (∀W,BL X W->BV W vp ps):=fun W c=>hp.below c;have al:Z (∀W,BL X W->Qf V 79 #[A8 s vf] W fun e w'=>e= .returned Qx/\BL W w'):=fun W c=>(J2 s vf W a (aa.out W c) (T.below c) (by omega) M).mono fun e w' ⟨ev,he,ht,hb'⟩=>⟨by rw[he,ht.ok hE],hb'⟩;have be:Z (∀W,BL X W->∀p∈ps,Qf V 231 #[vf,Qc p] W fun e w'=>e=Qg (Qu Qh)/\BL W w'):=fun W c p hpm=>yS vf s.2.2.2.2.2.2 p W a (aa.out W c).file.env (T.below c) (by omega) (fun f hf=>by have:=(M f hf).1;omega) (hd p hpm);have bf:Z (∀W,BL X W->Qf V 39 #[vf] W fun e w'=> ∃v',e=Qg v'/\w'.ownsRow W.heap.size 77 6 v' s.2.2.2.2.2.2.length (Ay s.2.2.2.2.2.2)/\BL W w'):=fun W c=>MC vf s.2.2.2.2.2.2 W (T.below c) (by omega);have am:Z (∀W0 W v C,BL X W0->W0.cell? ⟨C,0,I⟩=S vp->BL W0 W->W.ownsRow W0.heap.size 77 6 v s.2.2.2.2.2.2.length (Ay s.2.2.2.2.2.2)->Qf V 232 #[v,.func (.func 233) #[] #[Qi (S ⟨C,0,I⟩)]] W fun e w'=> ∃v',e=Qg v'/\Ai w' v' (s.2.2.2.2.2.2.filter fun f=> !CC ps f)/\BL W0 w'):=fun W0 W v C hb0 hc c ho=>(UG 233 #[Qi (S ⟨C,0,I⟩)] (CC ps) v s.2.2.2.2.2.2 W0 W c ho (by omega) eg (fun f hf Y hY=>yT ps vp f C Y a (aa.out Y (Ad hb0 hY)).file.env (Aa hY hc) ((hp.below hb0).below hY) bb (by have:=(M f hf).1;omega))).mono fun e w' ⟨v',he,ho',hb'⟩=>⟨v',he,(GA ho').1,hb'⟩;obtain⟨r,t,a0⟩:=T.form;obtain⟨qp,cp,a1⟩:=hp.form;obtain⟨L,hL⟩:∃L,s.2.2.2.2.2.2.length=L:=⟨_,rfl⟩;obtain⟨o,ai⟩:∃k,ps.length=k:=⟨_,rfl⟩;have bg:Z (ps.length=o):=ai;rw[hL]at a0;rw[ai]at a1;have bl:o<=1000:=by omega
 subst a0 a1;generalize (s.2.2.2.2.2.2.filter fun f=> !CC ps f)=FF at D am;have hS:Ao (X.alloc (Qd #[O U s.1,O U s.2.1,O U s.2.2.1,O U s.2.2.2.1,O U s.2.2.2.2.1,Qc s.2.2.2.2.2.1,J r L t] 40)) X.heap.size s (J r L t):=Ao.new X s _;have an:BL X (X.alloc (Qd #[O U s.1,O U s.2.1,O U s.2.2.1,O U s.2.2.2.1,O U s.2.2.2.2.1,Qc s.2.2.2.2.2.1,J r L t] 40)):=Af _ _;clear T hp hE hd hl M bb hL ai eg bc bd;unfold A8 at al D ⊢;unfold Hn at D;obtain⟨l,d,g,i,j,m,bm⟩:=s;dsimp only at *
 go_enter func147,ntmps147
 have ab:Below (X.alloc (Qd #[O U l,O U d,O U g,O U i,O U j,Qc m,J r L t] 40)).heap.size (X.alloc (Qd #[O U l,O U d,O U g,O U i,O U j,Qc m,J r L t] 40)) ((X.alloc (Qd #[O U l,O U d,O U g,O U i,O U j,Qc m,J r L t] 40)).alloc (Qd #[J qp o cp] 82)):=Af _ _;have E:=hS.below ab;have ac:=Ad an ab;have ad:((X.alloc (Qd #[O U l,O U d,O U g,O U i,O U j,Qc m,J r L t] 40)).alloc (Qd #[J qp o cp] 82)).cell? ⟨X.heap.size+1,0,I⟩=S (J qp o cp):=by
  have e:(X.alloc (Qd #[O U l,O U d,O U g,O U i,O U j,Qc m,J r L t] 40)).heap.size=X.heap.size+1:=by simp
  have h:=QD ((X.alloc (Qd #[O U l,O U d,O U g,O U i,O U j,Qc m,J r L t] 40)).alloc (Qd #[J qp o cp] 82)) (X.alloc (Qd #[O U l,O U d,O U g,O U i,O U j,Qc m,J r L t] 40)).heap.size 0 _ _ _ (Xg _ _);rw[e]at h;rw[h];rfl
 clear hS an ab
 go_upto_region 1 with fail
 generalize ((X.alloc (Qd #[O U l,O U d,O U g,O U i,O U j,Qc m,J r L t] 40)).alloc (Qd #[J qp o cp] 82))=W1 at *;obtain⟨B,aj⟩:∃k,X.heap.size=k:=⟨_,rfl⟩;obtain⟨C,a2⟩:∃k,X.heap.size+1=k:=⟨_,rfl⟩;have bh:Z (X.heap.size=B):=aj;rw[a2]at ad ⊢;rw[aj]at E ⊢;clear aj a2;obtain⟨z0,z1,z2,z3,z4,z5,q⟩:=E.cells;dsimp only at z0 z1 z2 z3 z4 z5 q;have ao:=al.out W1 ac
 go_wp2_with fail
 refine ao.mono ?_;rintro e w2 ⟨rfl,F⟩;have ae:=E.below F;have ap:=Aa F ad;have aq:=Ad ac F;clear ao E ad ac F z0 z1 z2 z3 z4 z5 q
 go_wp2_with fail
 go_loopw [9,10,23] (fun _ _ k wr=> ∃n:Nat,n<=o/\k=O U n/\BL w2 wr) (fun _ _ k _=>o-(A k).toNat)
 case atStart=>exact ⟨0,by omega,rfl,Ql _ _⟩
 case round =>
 obtain⟨n,hn,rfl,c⟩:=hrel;have u:=Ad aq c;by_cases bi:n<o
 case pos =>
  have y:n<ps.length:=by rw[bg.out];exact bi
  obtain⟨b,hq,hc⟩:=(HP.out wr u).cells (fun e=>by rw[e]at y;simp at y);subst hq;have c0:=hc n y;have af:=be.out wr u ps[n] (Qk _);have q:=(ae.below c).cells.2.2.2.2.2.2
  try dsimp only at q
  generalize ps[n]=p at c0 af;have g1:(n:Int)<(o:Int):=by omega
  have g2:(0:Int)<=(n:Int):=by omega
  clear hc y
  go_wp2_with fail
  refine af.mono ?_;rintro e w3 ⟨rfl,a5⟩;have bj:Z (BL w2 w3):=Ad c a5;clear af a5 c0 q;go_wp2;go_roundw
  case rel=>exact ⟨n+1,by omega,by go_num,bj.out⟩
  case measure=>simp [A];omega
 case neg =>
 have g1:¬(n:Int)<(o:Int):=by omega
 have ag:=ae.below c;have ar:=Aa c ap;have q:=ag.cells.2.2.2.2.2.2
 try dsimp only at q
 have au:=bf.out wr u;clear ae ap c aq
 go_wp2_with fail
 refine au.mono ?_;rintro e w4 ⟨v4,rfl,a6,a7⟩;have av:=am.out wr w4 v4 C u ar a7 a6;clear au a6 q
 go_wp2_with fail
 refine av.mono ?_;rintro e w5 ⟨v5,rfl,K,ak⟩;have z:=ag.below ak;have aw:=Ad u ak;obtain⟨P,Q,a3⟩:=K.form;obtain⟨R,a4⟩:∃k,FF.length=k:=⟨_,rfl⟩;rw[a4]at a3;subst a3;have ax:Ao (w5.setCell ⟨B,6,I⟩ (J P R Q)) B (l,d,g,i,j,m,FF) (J P R Q):=Ao.set6 z;have ay:Ai (w5.setCell ⟨B,6,I⟩ (J P R Q)) (J P R Q) FF:=K.set_off (Jr z K) 6 _;have ah:BL X (w5.setCell ⟨B,6,I⟩ (J P R Q)):=aw.setCell (p:=⟨B,6,I⟩) (by rw[bh.out];exact Qp _) _;have y6:=z.cells.2.2.2.2.2.2;have yf:w5.frozen? ⟨B,6,I⟩=Qe:=Xk _ _ _ _ _ z
 try dsimp only at y6
 clear av K a7 ak ag ar z aw u a4
 go_upto_region 13 with fail
 clear y6 yf;generalize w5.setCell ⟨B,6,I⟩ (J P R Q)=w6 at *;have az:=D.out w6 _ ah ay;obtain⟨z0,z1,z2,z3,z4,z5,q⟩:=ax.cells;dsimp only at z0 z1 z2 z3 z4 z5 q
 go_wp2_with fail
 refine az.mono ?_;rintro e w7 ⟨v7,rfl,a8,a9,ba⟩;have bk:Z (Ap w7 v7 RR/\N v7/\BL X w7):=⟨a8,a9,(Ad ah ba)⟩;clear az a8 a9 ba ax ay ah z0 z1 z2 z3 z4 z5 q;go_wp2;refine Q9 (v:=Qj #[v7,Qx]) (by simp[QA,results147,go_sem]) rfl ?_;exact⟨v7,rfl,bk.out⟩
end
structure L9 (g:Gp) (F:List Fl):Prop where
 paths:g.2.2=F.map (·.1)
 sum:g.2.1=(F.map (·.2.2.1)).sum
 part:∀f∈F,f.2.1=g.1
 room:g.2.1<=40
abbrev Gz:=Gp×List Fl
def Hp (f:Fl):List Gz->List Gz
 | []=> [(CK f (f.2.1,0, []), [f])]
 | z :: r=>if Cl f z.1=Qh then (CK f z.1,z.2++ [f]) :: r else z :: Hp f r
theorem WH (f:Fl):∀zs:List Gz,(Hp f zs).map (·.1)=Co f (zs.map (·.1))
 | []=>rfl
 | z :: r=>by
  unfold Hp;rw[Qv]
  conv=>rhs;unfold Co
  split
  ·rw[Qv]
  ·rw[Qv,WH f r]
theorem WI (f:Fl) (i:f.2.2.1<=40):∀zs:List Gz,(∀z∈zs,L9 z.1 z.2)->∀z∈Hp f zs,L9 z.1 z.2
 | [],_,z,b=>by
  rw[Hp,Qq]at b;subst b;exact⟨rfl,by simp[CK],by simp[CK],by simpa [CK] using i⟩
 | y :: r,h,z,b=>by
  unfold Hp at b;by_cases e:Cl f y.1=Qh
  ·rw[if_pos e]at b;rcases Q6.1 b with rfl | b
   ·have d:=h y QB;unfold Cl at e;rw[Q7,decide_eq_true_eq,decide_eq_true_eq]at e;refine⟨?_,?_,fun g c=>?_,e.2⟩
    ·simp only[CK,Q1,Qv,Xr,d.paths]
    ·simp only[CK,Q1,Qv,Xr,List.sum_append,List.sum_cons,List.sum_nil,d.sum];omega
    ·rw[Q8,Qq]at c;rcases c with c | rfl
     ·exact d.part g c
     ·exact e.1.symm
   ·exact h z (Q3 _ b)
  ·rw[if_neg e]at b;rcases Q6.1 b with rfl | b
   ·exact h z QB
   ·exact WI f i r (fun x hx=>h x (Q3 _ hx)) z b
theorem WJ (f:Fl):∀zs:List Gz,((Hp f zs).flatMap (·.2)).Perm (zs.flatMap (·.2)++ [f])
 | []=>by simp[Hp]
 | z :: r=>by
  unfold Hp;split
  ·rw[Qo,Qo];show ((z.2++ [f])++r.flatMap (·.2)).Perm ((z.2++r.flatMap (·.2))++ [f]);rw[QX,QX];exact List.perm_append_comm.append_left z.2
  ·rw[Qo,Qo,QX];exact(WJ f r).append_left z.2
theorem WK {b:List Fl} {least:Int} (d:∀f∈b,f.2.2.1<=40):∀n,n<=b.length->∃zs:List Gz,zs.map (·.1)=CY b least n/\(∀z∈zs,L9 z.1 z.2)/\(zs.flatMap (·.2)).Perm ((b.take n).filter (Ep least))
 | 0,_=>⟨[],by simp[CY],by simp,by simp⟩
 | n+1,h=>by
  obtain⟨zs,i,j,k⟩:=WK (least:=least) d n (by omega);have c:n<b.length:=by omega
  cases e:Ep least b[n] with
  | true =>
   refine⟨Hp b[n] zs,?_,WI _ (d _ (Qk _)) zs j,?_⟩
   ·rw[WH,i,Rl c e]
   ·refine(WJ b[n] zs).trans ?_;rw[Q5 c,Q2];have g: [b[n]].filter (Ep least)= [b[n]]:=by simp[e]
    rw[g];exact k.append_right _
  | false =>
   refine⟨zs,by rw[i,Rn c e],j,?_⟩;rw[Q5 c,Q2];have g: [b[n]].filter (Ep least)= []:=by simp[e]
   rw[g,List.append_nil];exact k
structure JO (fs:List Fl) (least:Int) (ws:List Gz):Prop where
 grp:∀z∈ws,L9 z.1 z.2/\1<z.2.length
 mem:∀f∈ws.flatMap (·.2),f∈fs/\Ep least f=Qh
 nd:((ws.flatMap (·.2)).map (·.1)).Pairwise fun p q=>p≠q
 len:(ws.flatMap (·.2)).length<=fs.length
theorem yV {j:List Fl} {least:Int} {gs:List Gp} (t:Eh 0 j) (D:gs.Perm (CY j least j.length)):∃ws:List Gz,JO j least ws/\Oi0 gs=ws.map fun z=>z.2.map (·.1):=by
 obtain⟨u,v,B,o⟩:=WK (least:=least) (fun f hf=>(Wz (t.1 f hf).1).2) j.length (Qp _);rw[Xo]at o;obtain⟨i,s,C⟩:=WC (f:=fun z:Gz=>z.1) D u v;have k:∀z∈i,L9 z.1 z.2:=fun z c=>B z (s.subset c);have d:((i.filter fun z=>decide (1<z.2.length)).flatMap (·.2)).Sublist (i.flatMap (·.2)):=by
  generalize i=l
  induction l with
  | nil=>exact List.Sublist.refl _
  | cons z r ih =>
   rw[List.filter_cons];split
   ·rw[Qo,Qo];exact List.Sublist.append (List.Sublist.refl _) ih
   ·rw[Qo];exact ih.trans (List.sublist_append_right _ _)
 have b:=(s.flatMap_right (f:=fun z:Gz=>z.2)).trans o;refine⟨i.filter fun z=>decide (1<z.2.length),⟨fun z c=>⟨k z (Qr.1 c).1,of_decide_eq_true (Qr.1 c).2⟩,fun f hf=>?_,?_,Qm d.length_le (by rw[b.length_eq];exact QJ _ _)⟩,?_⟩
 ·have:=b.subset (d.subset hf);exact Qr.1 this
 ·have n:((j.filter (Ep least)).map (·.1)).Pairwise fun p q=>p≠q:=by
   rw[Xs];refine(t.2.sublist List.filter_sublist).imp ?_;intro f g h e;have E:fk f=fk g:=by unfold fk;rw[e]
   omega
  have m:=((b.map (·.1)).pairwise_iff (fun {x y} h e=>h e.symm)).2 n;exact m.sublist (d.map _)
 ·unfold Oi0;rw[<-C,Xn,QK];have e:(i.filter ((fun g:Gp=>decide (1<g.2.2.length)) ∘ fun z:Gz=>z.1))=i.filter fun z=>decide (1<z.2.length):=by
   apply QM;intro z c;show decide (1<z.1.2.2.length)=_;rw[(k z c).paths,Qn]
  rw[e];apply List.map_congr_left;intro z c;exact(k z (Qr.1 c).1).paths
def EU (obs:List Ob) (fs:List Fl) (x:Fl):List Rw:=((Ck obs x).filter fun p=>Bs Be Bf p.1 && !BP (fs.flatMap (BI obs)) p).map (·.1)
theorem WL {obs:List Ob} {b:List Fl} {x:Fl} (h:x.2.1.data.toList= [45]):EU obs b x= []:=by
 unfold EU Ck;rw[if_neg (by simpa using h)];rfl
theorem WM {obs:List Ob} {x:Fl} (h:x.2.1.data.toList≠ [45]):BI obs x= []:=by
 unfold BI;rw[if_pos h]
theorem LB {α β:Type} {p:α->Bool} {f:α->List β} :∀ {l:List α},(∀x∈l,p x=Qe->f x= [])->(l.filter p).flatMap f=l.flatMap f
 | [],_=>rfl
 | x :: r,h=>by
  have b:=LB (p:=p) (f:=f) (l:=r) (fun y hy=>h y (Q3 _ hy))
  cases e:p x with
  | true=>rw [List.filter_cons_of_pos e,Qo,Qo,b]
  | false=>rw [List.filter_cons_of_neg (by rw[e];simp),Qo,h x QB e,QY,b]
theorem Nw {obs:List Ob} {G:List (Int×Int)} :∀l:List Fl,((l.flatMap (Ck obs)).filter fun p=>Bs Be Bf p.1 && !BP G p).map (·.1)=l.flatMap fun x=>((Ck obs x).filter fun p=>Bs Be Bf p.1 && !BP G p).map (·.1)
 | []=>rfl
 | x :: r=>by rw[Qo,Q2,Q1,Nw r,Qo]
theorem Nx {obs:List Ob} {s:Sn} (c:(Am s).1=0) (h:∀x∈s.2.2.2.2.2.2,(Aj obs x).1=0):AR obs s Be Bf=(A3 (s.2.2.2.2.2.2.flatMap (EU obs s.2.2.2.2.2.2)),0,I):=by
 have d:=(Fg c).2;have b:=Pz fun x hx=>(d.1 x hx).1;rw[sG c (by rw[b];exact h),b,V3];unfold EP;dsimp only;rw[QY,QY,Nw];rfl
theorem WN {obs:List Ob} {s:Sn} (h:(AR obs s Be Bf).2.1=0) (ps:List ByteArray):AR obs (Hn s (s.2.2.2.2.2.2.filter fun f=> !CC ps f)) Be Bf=(A3 ((s.2.2.2.2.2.2.filter fun f=> !AL f.1 && AQ ps f.1).flatMap (EU obs s.2.2.2.2.2.2)),0,I):=by
 obtain⟨g,d⟩:=V4 h;have i:=(Fg g).2;have b:∀f∈s.2.2.2.2.2.2,Au f=0:=fun f hf=>(i.1 f hf).1;rw[Pz b]at d;have j:=Wp g fun f=> !CC ps f;rw[Nx j (fun x hx=>d x (Qr.1 hx).1)];have k:(Hn s (s.2.2.2.2.2.2.filter fun f=> !CC ps f)).2.2.2.2.2.2=s.2.2.2.2.2.2.filter fun f=> !CC ps f:=rfl;rw[k];have m:(s.2.2.2.2.2.2.filter fun f=> !CC ps f).flatMap (BI obs)=s.2.2.2.2.2.2.flatMap (BI obs):=LB fun x hx e=>by
  refine WM fun e2=>?_;have c:=Ky (b x hx);rw[decide_eq_true e2]at c;unfold CC at e;rw[c]at e;simp at e
 have n:EU obs (s.2.2.2.2.2.2.filter fun f=> !CC ps f)=EU obs s.2.2.2.2.2.2:=by
  funext x;unfold EU;rw[m]
 rw[n];have o:(s.2.2.2.2.2.2.filter fun f=> !AL f.1 && AQ ps f.1)=(s.2.2.2.2.2.2.filter fun f=> !CC ps f).filter fun f=> !AL f.1:=by
  rw[QZ];apply QM;intro x _;unfold CC;cases AL x.1<;>cases AQ ps x.1<;>rfl
 rw[o,LB (p:=fun f=> !AL f.1) (l:=s.2.2.2.2.2.2.filter fun f=> !CC ps f) fun x hx e=>WL (by
  have c:=Ky (b x (Qr.1 hx).1);rw[Xt]at e;rw[e]at c;exact of_decide_eq_true c.symm)]
theorem yW:∀ {l m:List Fl},l.Nodup->m.Nodup->(∀x,x∈l↔x∈m)->l.Perm m:=fun hl hm h=>(List.perm_ext_iff_of_nodup hl hm).2 h
theorem yX {b:List Fl} (c:Eh 0 b):b.Nodup:=c.2.imp fun h e=>by rw[e]at h;omega
theorem WO {d F:List Fl} (j:Eh 0 d) (g:∀f∈F,f∈d/\AL f.1=Qe) (k:(F.map (·.1)).Pairwise fun p q=>p≠q):(d.filter fun f=> !AL f.1 && AQ (F.map (·.1)) f.1).Perm F:=by
 refine yW ((yX j).filter _) ?_ fun x=>?_
 ·rw[Xs]at k;exact k.imp fun h e=>h (by rw[e])
 ·rw[Qr];constructor
  ·rintro⟨n,b⟩;rw[Q7]at b;unfold AQ at b;obtain⟨p,m,e⟩:=Xu.1 b.2;obtain⟨f,i,rfl⟩:=Q4.1 m;have l:f.1=x.1:=of_decide_eq_true e;rw[<-Ns j (g f i).1 n l];exact i
  ·intro c;refine⟨(g x c).1,?_⟩;rw[(g x c).2];show AQ _ _=Qh;unfold AQ;exact Xu.2 ⟨x.1,Q4.2 ⟨x,c,rfl⟩,decide_eq_true rfl⟩
theorem yY {c b:List Fl} (k:Eh 0 c) (l:∀f∈b,f∈c/\AL f.1=Qe) (m:(b.map (·.1)).Pairwise fun p q=>p≠q):((c.filter fun f=> !AL f.1 && !AQ (b.map (·.1)) f.1)++b).Perm (c.filter fun f=> !AL f.1):=by
 have g:=WO k l m;have d:=List.filter_append_perm (fun f:Fl=>AQ (b.map (·.1)) f.1) (c.filter fun f=> !AL f.1);rw[QZ,QZ]at d;have i:(c.filter fun a=>AQ (b.map (·.1)) a.1 && !AL a.1)=c.filter fun f=> !AL f.1 && AQ (b.map (·.1)) f.1:=QM fun x _=>Xv _ _;have j:(c.filter fun a=> !AQ (b.map (·.1)) a.1 && !AL a.1)=c.filter fun f=> !AL f.1 && !AQ (b.map (·.1)) f.1:=QM fun x _=>Xv _ _;rw[i,j]at d;exact(List.perm_append_comm.trans (g.symm.append_right _)).trans d
theorem yZ {obs:List Ob} {s:Sn} (h:(AR obs s Be Bf).2.1=0) {b:List Fl} (n:∀f∈b,f∈s.2.2.2.2.2.2/\AL f.1=Qe) (o:(b.map (·.1)).Pairwise fun p q=>p≠q) {R:List Rw} (r:R.Perm (((s.2.2.2.2.2.2.filter fun f=> !AL f.1 && !AQ (b.map (·.1)) f.1)++b).flatMap (EU obs s.2.2.2.2.2.2))):A3 R=A3 (AR obs s Be Bf).1/\R.length=(AR obs s Be Bf).1.length:=by
 obtain⟨k,d⟩:=V4 h;have g:=(Fg k).2;have c:∀f∈s.2.2.2.2.2.2,Au f=0:=fun f hf=>(g.1 f hf).1;rw[Pz c]at d;have m:=Nx k d;have i:R.Perm (s.2.2.2.2.2.2.flatMap (EU obs s.2.2.2.2.2.2)):=by
  refine r.trans ?_;refine((yY g n o).flatMap_right (f:=EU obs s.2.2.2.2.2.2)).trans ?_;rw[LB (p:=fun f:Fl=> !AL f.1) (f:=EU obs s.2.2.2.2.2.2) (l:=s.2.2.2.2.2.2) fun x hx e=>WL (by
   have j:=Ky (c x hx);rw[Xt]at e;rw[e]at j;exact of_decide_eq_true j.symm)]
 rw[m];dsimp only;exact⟨(Je i).trans (Je (Dy _)).symm,by rw[i.length_eq,(Dy _).length_eq]⟩
theorem WP {β:Type} (k:FK β) (P:β->Prop) (d:∀l,(k.rd l).2=0->P (k.rd l).1):∀(ls:List (List UInt8)) (n:Nat) (acc:List β),(∀x∈acc,P x)->∀x∈(AV k ls n acc).1,P x
 | [],n,acc,h=>h
 | [l],n,acc,h=>by
  intro x b;rw[KK]at b;split at b
  ·exact h x b
  ·simp at b
 | l :: l2 :: r,n,acc,h=>by
  intro x b;rw[Kb]at b;split at b
  ·simp at b
  ·rename_i f;split at b
   ·simp at b
   ·refine WP k P d (l2 :: r) (n+1) _ (fun y c=>?_) x b;rcases Q8.1 c with c | c
    ·exact h y c
    ·rw[Qq.1 c];exact d l (by simpa using f)
theorem WQ (s:List UInt8):∀x∈(Bn s).1,A0 x=0:=by
 intro x b;change x∈(BS CO s).1 at b;unfold BS at b;split at b
 ·simp at b
 ·split at b
  ·simp at b
  ·split at b
   ·simp at b
   ·split at b
    ·simp at b
    ·unfold GV at b;split at b
     ·simp at b
     ·split at b
      ·simp at b
      ·split at b
       ·refine WP CO (fun x=>A0 x=0) (fun l hl=>?_) _ 0 [] (by simp) x b;change (Bx l).2=0 at hl;change A0 (Bx l).1=0;unfold Bx at hl ⊢;split at hl
        ·split at hl
         ·split at hl
          ·rename_i c;rw[if_pos c];exact c
          ·rename_i c;exact absurd hl c
         ·cases hl
        ·cases hl
       ·simp at b
theorem zA (s:List UInt8):(Bn s).1.length<=40:=(Md CO (fun l=>by
 show (Bx l).2<=12;unfold Bx;split
 ·split
  ·split
   ·exact Nat.zero_le _
   ·show A0 _<=12;unfold A0
    repeat' split
    all_goals omega
  ·show 1<=12;omega
 ·show 1<=12;omega) s).2
theorem zB {lo hi:Int} {x:Fl} {t:ByteArray} {b:List (Rw×Int)} (h:∀p∈b,A0 p.1=0):(∀p∈EC lo hi x t b,A0 p.1=0)/\(EC lo hi x t b).length<=b.length+40:=by
 by_cases d:x.2.1.data.toList≠ [45]
 ·rw[J7 d];refine⟨fun p c=>?_,?_⟩
  ·rcases Q8.1 c with c | c
   ·exact h p c
   ·obtain⟨r,f,rfl⟩:=Q4.1 c;exact WQ _ r (Qr.1 f).1
  ·rw[Q0,Qn];have g:=QJ (Bs lo hi) (Bn t.data.toList).1;have i:=zA t.data.toList;omega
 ·rw[J8 (by simpa using d)];refine⟨fun p c=>h p (Qr.1 c).1,?_⟩;have:=QJ (fun p:Rw×Int=> !((B8 t.data.toList).1.contains p.1.2.1 && decide (p.2<x.2.2.2.2.2))) b;omega
theorem Rp {obs:List Ob} {lo hi:Int} :∀(fs:List Fl) (i:Nat) (acc:List (Rw×Int)),(∀p∈acc,A0 p.1=0)->(∀p∈(Cj obs lo hi fs i acc).1,A0 p.1=0)/\(Cj obs lo hi fs i acc).1.length<=acc.length+40*fs.length
 | [],i,acc,h=>⟨h,by simp[Cj]⟩
 | x :: r,i,acc,h=>by
  unfold Cj;split
  ·have b:=Rp (obs:=obs) (lo:=lo) (hi:=hi) r (i+1) acc h;refine⟨b.1,?_⟩;rw[QL];omega
  ·split
   ·simp
   ·have c:=zB (lo:=lo) (hi:=hi) (x:=x) (t:=(Aj obs x).2) h;have b:=Rp (obs:=obs) (lo:=lo) (hi:=hi) r (i+1) _ c.1;refine⟨b.1,?_⟩;rw[QL];have:=c.2;omega
theorem WR {obs:List Ob} {s:Sn} {lo hi:Int} :(∀r∈(AR obs s lo hi).1,A0 r=0)/\(AR obs s lo hi).1.length<=40*s.2.2.2.2.2.2.length:=by
 have h:=Rp (obs:=obs) (lo:=lo) (hi:=hi) s.2.2.2.2.2.2 0 [] (by simp);unfold AR;split
 ·simp
 ·split
  ·simp
  ·refine⟨fun r hr=>?_,?_⟩
   ·obtain⟨p,b,rfl⟩:=Q4.1 ((Dy _).mem_iff.1 hr);exact h.1 p b
   ·show (A3 _).length<=_;rw[(Dy _).length_eq,Qn];simpa using h.2
theorem zC {x:Rw} (h:A0 x=0):x.1.size<=30:=by
 have b:=KJ h;unfold Fs at b;simp only[Q7,decide_eq_true_eq]at b;have e:x.1.data.toList.length=x.1.size:=rfl;omega
def Cq (obs:List Ob) (x:Sn) (ps:List ByteArray):List Rw:=(AR obs (Hn x (x.2.2.2.2.2.2.filter fun f=> !CC ps f)) Be Bf).1
def G1 (obs:List Ob) (x:Sn) (nm:ByteArray) (ps:List ByteArray):List Dr:=if Cq obs x ps= [] then [] else [CX nm (Cq obs x ps)]
def CM (obs:List Ob) (x:Sn) (ws:List Gz):List Dr:=ws.flatMap fun z=>G1 obs x z.1.1 (z.2.map (·.1))
def CZ (fs:List Fl) (ws:List Gz):List ByteArray:=Em fs++(ws.flatMap (·.2)).map (·.1)
end Go.Proofs.YtcllhobffhkafaaGreatDoor
