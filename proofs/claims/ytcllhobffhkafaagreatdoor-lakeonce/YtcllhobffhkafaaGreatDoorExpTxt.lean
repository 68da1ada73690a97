/- By an AI agent. -/
import Derived.Test.YtcllhobffhkafaaGreatDoorFileOf
import Derived.Laws.AppendOwn
import Derived.Deep.RegionLaw
import Derived.Deep.CutRange
import Derived.BigFrame
import Derived.Sort.Walk0
set_option maxRecDepth 100000
set_option maxHeartbeats 16000000
open Go.Proofs.Tryz
open Go renaming World->H,Value->A,Addr->Qa,Oper->Qd,Calls->Qf,maxLen->Qi,TypeId->Qq,bodyPost_ret->Qs,results->Qt,wpList->Qv,Program->Q0,Operand->Q1,execOp->Q2,resolve->Q3,invoke->Q4,builtin->Q5,wpList_plain->QC
open Go.Builtin renaming append_->Qe,append->QQ
open Go.Ending renaming returned->Qk
open Go.IntKind renaming i64->U
open Go.Obj renaming cells->G
open Go.Proofs.Tryz renaming prog->V,results155->Qu,underlying82->QG
open Go.Value renaming int->O,string->S,slice->J,pointer->Qg,agg->Qh,iface->Qj,tuple->Ql,ownBlock->Qm
open Go.World renaming ownsRow_nil->Q6,cell?->QJ
open List renaming mem_singleton->Qn,length_pos_iff->Qr,length_append->Qx,map_append->Qy,length_map->Qz,mem_map->Q7,mem_append->Q9,le_trans->QA,take_length->QB,map_toArray->QD,map_cons->QE,map_nil->QF,getElem?_take->QH,flatMap_cons->QI,getElem_mem->QK,le_antisymm->QL,lt_irrefl->QN,pairwise_map->QO,mem_flatMap->QP
open Nat renaming add_assoc->Qo,le_refl->Qp,le_trans->Qw,zero_add->Q8,lt_or_ge->QM
open Option renaming some->Z,none->I
open Or renaming inl->Qb,inr->Qc
namespace Go.Proofs.YtcllhobffhkafaaGreatDoor
open Go.RowKit Go.Extern.Stop Go.Stop Go.Extern Go.Sort Go.Shelf Go.Lib
theorem lC (g:Bool) (s:ByteArray) (w:H) (a:Nat->Qa) (h:DE w a) (b:s.size<=Qi) :
  Qf V 239 #[S (Ab (AE g)),S s] w fun e w'=>Ox w a (Bf g s.data.toList) e w':=by
 cases g
 ·exact kX s w a h b
 ·exact kV s w a h.weak b
theorem Oy (E:Nat) (b:A) (w:H) (a:Nat->Qa) (h:Fj w) (d:b=Ae a (E+1)\/∃fb,b=Qj 140 (Qg (Z ⟨fb,0,I⟩))/\w.cell? ⟨fb,1,I⟩=Z (Ae a (E+1))) :
  Qf V 134 #[b] w fun e w'=>e=Qk (Ae a (E+1))/\BL w w':=by
 rcases d with rfl | ⟨fb,rfl,c⟩
 ·exact kY E w a h
 ·exact kZ fb E w a h c
theorem lD (b o c:Nat) (zs:List Int) (w:H) (d:zs≠ []) (m:zs.length<=100000) (l:∀j (h:j<zs.length),w.cell? ⟨b,o+j,I⟩=Z (O U zs[j])) :
  Qf V 240 #[J (Z ⟨b,o,I⟩) zs.length c] w (fun e w'=>e=Qk (O U (Ap zs).1)/\w'=w) /\
  Qf V 241 #[J (Z ⟨b,o,I⟩) zs.length c] w (fun e w'=>e=Qk (O U (Ap zs).2)/\w'=w):=by
 have g:0<zs.length:=Qr.2 d;have f:∀j,j<zs.length->w.cell? ⟨b,o+j,I⟩=Z (O U (zs.getD j 0)):=fun j hj=>by
  rw[l j hj];simp[List.getD,hj]
 have i:=slices_Min_int b o zs.length c zs w g (Qp _) (by omega) f;have k:=slices_Max_int b o zs.length c zs w g (Qp _) (by omega) f;rw[QB,(Sb d).1]at i;rw[QB,(Sb d).2]at k;exact⟨i,k⟩
theorem lE {p q:ByteArray} {s:List UInt8} {b:Int} (h:A7 p.data.toList=I):Bx p q s b=(B7,5):=by unfold Bx;rw[h]
theorem Mv {p q:ByteArray} {s:List UInt8} {b:Int} {g:Bool} {n:Int} (h:A7 p.data.toList=Z (g,n)):Bx p q s b=if (Bf g s).2=0 then DZ (p,q,(Bf g s).1.length,(Ap (Bf g s).1).1,(Ap (Bf g s).1).2,b) else (B7,(Bf g s).2):=by unfold Bx;rw[h]
theorem lF (s:List UInt8):(B4 s).1.length<=40:=(LI AB (fun l=>by
 show (BE l).2<=12;unfold BE;split
 ·exact(by decide:(1:Nat)<=12)
 ·split
  ·exact Nat.zero_le _
  ·exact(by decide:(2:Nat)<=12)) s).2
theorem lG (g:Bool) (s:List UInt8):(Bf g s).1.length<=40:=by
 cases g
 ·show (BB (Bw s).1).length<=40;rw[KK];exact(LI CD Uk s).2
 ·exact lF s
theorem Ul (p q s:ByteArray) (d:Int) (w:H) (a:Nat->Qa) (h:Gs w a) (a5:∀g n,A7 p.data.toList=Z (g,n)->(Bf g s.data.toList).2≠0->Fj w) (h1:p.size<=100000) (h2:q.size<=100000) (hs:s.size<=Qi) :
  Qf V 155 #[S p,S q,S s,O U d] w fun e w'=>e=Qk (Ql #[A1 (Bx p q s.data.toList d).1,Ae a (Bx p q s.data.toList d).2])/\BL w w':=by
 have aa:BL w (w.alloc (G #[S ⟨#[]⟩,S ⟨#[]⟩,O U 0,O U 0,O U 0,O U 0] 77)):=Af _ _;have af:Az (w.alloc (G #[S ⟨#[]⟩,S ⟨#[]⟩,O U 0,O U 0,O U 0,O U 0] 77)) w.heap.size B7:=Az.new w B7;have ag:=fP p _ a (h.below aa).data.env h1;generalize hR:Bx p q s.data.toList d=R;have HR:Hid (Bx p q s.data.toList d=R):=hR;clear hR;have zero:∀W,Az W w.heap.size B7->(W.cell? ⟨w.heap.size,0,I⟩=Z (S ⟨#[]⟩)/\W.cell? ⟨w.heap.size,1,I⟩=Z (S ⟨#[]⟩)/\W.cell? ⟨w.heap.size,2,I⟩=Z (O U 0)/\W.cell? ⟨w.heap.size,3,I⟩=Z (O U 0)/\W.cell? ⟨w.heap.size,4,I⟩=Z (O U 0)/\W.cell? ⟨w.heap.size,5,I⟩=Z (O U 0)/\∀o,W.frozen? ⟨w.heap.size,o,I⟩=false):=fun W hW=>hW.cells;have B:Hid (∀W,Az W w.heap.size B7->(W.cell? ⟨w.heap.size,0,I⟩=Z (S ⟨#[]⟩)/\W.cell? ⟨w.heap.size,1,I⟩=Z (S ⟨#[]⟩)/\W.cell? ⟨w.heap.size,2,I⟩=Z (O U 0)/\W.cell? ⟨w.heap.size,3,I⟩=Z (O U 0)/\W.cell? ⟨w.heap.size,4,I⟩=Z (O U 0)/\W.cell? ⟨w.heap.size,5,I⟩=Z (O U 0)/\∀o,W.frozen? ⟨w.heap.size,o,I⟩=false)):=zero;clear zero
 go_enter func155,ntmps155
 go_wp2_with fail
 generalize w.alloc (G #[S ⟨#[]⟩,S ⟨#[]⟩,O U 0,O U 0,O U 0,O U 0] 77)=WA at aa af ag ⊢;refine ag.mono ?_;rintro e w1 ⟨rfl,ap⟩;clear ag;have ah:BL w w1:=Ad aa ap;have ai:=af.below ap;have ar:Hid (Az w1 w.heap.size B7):=ai;clear af ap aa ai
 cases hp:A7 p.data.toList with
 | none =>
  have c:=HR.out;rw[lE hp]at c;subst c;rw[Md hp];simp only[Ae,Ab];obtain⟨F,M,N,P,Q,T,yf⟩:=B.out w1 ar.out;have s0:=Ah F;have s1:=Ah M;have s2:=Ah N;have s3:=Ah P;have s4:=Ah Q;have s5:=Ah T;clear hp;go_wp2;exact Qs (v:=Ql #[Qh #[S ⟨#[]⟩,S ⟨#[]⟩,O U 0,O U 0,O U 0,O U 0],Qj 410 (Qg (Z (a 4)))]) (by simp[Qt,Qu,go_sem,F,M,N,P,Q,T]) rfl ⟨rfl,ah⟩
 | some gn =>
  obtain⟨g,k⟩:=gn;have c:=HR.out;rw[Mv hp]at c;rw[IX hp];have aj:=lC g s w1 a (h.below ah).data hs;have ab:=lG g s.data.toList;have C:=a5 g k hp;clear a5 hp;simp only[Ae];generalize Bf g s.data.toList=K at c aj ab C;obtain⟨y,E⟩:=K;dsimp only at c ab C
  go_wp2_with fail
  refine aj.mono ?_;rintro e l ⟨a2,aq⟩;clear aj;have ac:BL w l:=Ad ah a2;have ak:Hid (Az l w.heap.size B7):=ar.out.below a2;dsimp only at aq;rcases aq with⟨h0,v,rfl,hv⟩|⟨h0,ev,rfl,a4⟩
  ·rw[if_pos h0]at c;obtain⟨L,hL⟩:∃L,y.length=L:=⟨_,rfl⟩;have HL:Hid (y.length=L):=hL;obtain⟨vq,vc,rfl⟩:=hv.form;rw[hL]at c ab ⊢;clear h0 C hL;have ad:BL l (l.alloc (G #[S p,S q,O U L,O U 0,O U 0,O U d] 77)):=Af _ _;have ae:=Az.new l (p,q,(L:Int),0,0,d);have au:=ak.out.below ad;dsimp only at ae;have al:BL w (l.alloc (G #[S p,S q,O U L,O U 0,O U 0,O U d] 77)):=Ad ac ad;by_cases hz:y= []
   ·subst hz;have a7:L=0:=by rw[<-HL.out];rfl
    subst a7;have e0:Ap []=(0,0):=rfl;rw[e0]at c;dsimp only at c;have i:=NU (p,q,((0:Nat):Int),0,0,d) _ a (h.below al).lean h1 h2;rw[c]at i;unfold A1 at i;dsimp only at i;obtain⟨x0,x1,x2,x3,x4,x5,_⟩:=ae.cells;dsimp only at x0 x1 x2 x3 x4 x5;obtain⟨⟨X,Y,rn,t,u,m⟩,rE⟩:=R;dsimp only at i;have av:Hid (Az (l.alloc (G #[S p,S q,O U ((0:Nat):Int),O U 0,O U 0,O U d] 77)) w.heap.size B7):=au;clear c hv ad ae au HL ab e0
    go_wp2_with fail
    generalize l.alloc (G #[S p,S q,O U ((0:Nat):Int),O U 0,O U 0,O U d] 77)=WF at i al x0 x1 x2 x3 x4 x5 av ⊢;refine i.mono ?_;rintro e w5 ⟨rfl,D⟩;clear i x0 x1 x2 x3 x4 x5;have am:BL w w5:=Ad al D;have z:=av.out.below D;obtain⟨F,M,N,P,Q,T,yf⟩:=B.out w5 z;obtain⟨z0,z1,z2,z3,z4,z5,_⟩:=(z.set (X,Y,rn,t,u,m)).cells;have r:=Mf (f:=(X,Y,rn,t,u,m)) am (Qp w.heap.size);unfold IY at z0 z1 z2 z3 z4 z5 r;dsimp only at z0 z1 z2 z3 z4 z5 r;clear z;go_wp2;exact Qs (v:=Ql #[Qh #[S X,S Y,O U rn,O U t,O U u,O U m],Ae a rE]) (by simp[Qt,Qu,go_sem,z0,z1,z2,z3,z4,z5]) rfl ⟨rfl,r⟩
   ·have bd:0<L:=by rw[<-HL.out];exact Qr.2 hz
    obtain⟨b,o,a0,a1,hc⟩:∃b o a0,J vq y.length vc=J (Z ⟨b,o,I⟩) y.length a0/\∀j (h:j<y.length),l.cell? ⟨b,o+j,I⟩=Z (O U y[j]):=by
     rcases hv with⟨_,_,_,e⟩ | hv
     ·exact absurd e hz
     ·exact hv
    simp only[Value.slice.injEq,true_and]at a1;obtain⟨rfl,rfl⟩:=a1;obtain⟨an,ao⟩:=lD b o vc y (l.alloc (G #[S p,S q,O U L,O U 0,O U 0,O U d] 77)) hz (by rw[HL.out];omega) (fun j hj=>Aa ad (hc j hj));rw[HL.out]at an ao;generalize (Ap y).1=lo at an c;generalize (Ap y).2=hi at ao c;have be:(0:Int)<(L:Int):=by omega
    obtain⟨x0,x1,x2,x3,x4,x5,xf⟩:=ae.cells;dsimp only at x0 x1 x2 x3 x4 x5;have aw:=Az.new l (p,q,(L:Int),lo,hi,d);dsimp only at aw;have ax:BL l (l.alloc (G #[S p,S q,O U L,O U lo,O U hi,O U d] 77)):=Af _ _;have a8:=ak.out.below ax;have ay:BL w (l.alloc (G #[S p,S q,O U L,O U lo,O U hi,O U d] 77)):=Ad ac ax;have i:=NU (p,q,(L:Int),lo,hi,d) _ a (h.below ay).lean h1 h2;rw[c]at i;unfold A1 at i;dsimp only at i;obtain⟨g0,g1,g2,g3,g4,g5,_⟩:=aw.cells;dsimp only at g0 g1 g2 g3 g4 g5;obtain⟨⟨X,Y,rn,t,u,m⟩,rE⟩:=R;dsimp only at i;have a9:Hid (Az (l.alloc (G #[S p,S q,O U L,O U lo,O U hi,O U d] 77)) w.heap.size B7):=a8
    go_wp2_with fail
    refine an.mono ?_;rintro e w3 ⟨rfl,bb⟩;rw[bb]
    go_wp2_with fail
    refine ao.mono ?_;rintro e w4 ⟨rfl,bc⟩;rw[bc]
    go_wp2_with fail
    refine i.mono ?_;rintro e w5 ⟨rfl,D⟩;have am:=Ad ay D;have z:=a9.out.below D;obtain⟨F,M,N,P,Q,T,yf⟩:=B.out w5 z;obtain⟨z0,z1,z2,z3,z4,z5,_⟩:=(z.set (X,Y,rn,t,u,m)).cells;have r:=Mf (f:=(X,Y,rn,t,u,m)) am (Qp w.heap.size);unfold IY at z0 z1 z2 z3 z4 z5 r;dsimp only at z0 z1 z2 z3 z4 z5 r;go_wp2;exact Qs (v:=Ql #[Qh #[S X,S Y,O U rn,O U t,O U u,O U m],Ae a rE]) (by simp[Qt,Qu,go_sem,z0,z1,z2,z3,z4,z5]) rfl ⟨rfl,r⟩
  ·rw[if_neg h0]at c;subst c;obtain⟨j,rfl⟩:∃j,E=j+1:=⟨E-1,by omega⟩;have az:=Oy j ev l a ((C h0).below ac) a4;have a6:∃ty pv,ev=Qj ty pv:=by
    rcases a4 with rfl | ⟨fb,rfl,_⟩
    ·exact⟨_,_,rfl⟩
    ·exact⟨_,_,rfl⟩
   obtain⟨ty,pv,rfl⟩:=a6;simp only[Ae,Ab]at az ⊢
   go_wp2_with fail
   refine az.mono ?_;rintro e w3 ⟨rfl,a3⟩;have ba:=Ad ac a3;obtain⟨F,M,N,P,Q,T,yf⟩:=B.out w3 (ak.out.below a3);have s0:=Ah F;have s1:=Ah M;have s2:=Ah N;have s3:=Ah P;have s4:=Ah Q;have s5:=Ah T;go_wp2;exact Qs (v:=Ql #[Qh #[S ⟨#[]⟩,S ⟨#[]⟩,O U 0,O U 0,O U 0,O U 0],Qj 410 (Qg (Z (a j)))]) (by simp[Qt,Qu,go_sem,F,M,N,P,Q,T]) rfl ⟨rfl,ba⟩
theorem CY {W:H} {base:Nat} {e:Qq} {b:Nat} {v:A} {n:Nat} {xs:List A} (h:W.ownsRow base e b v n xs):∃q c,v=J q n c:=by
 rcases h.2 with⟨rfl,rfl⟩|⟨g,d,f,rfl,_⟩
 ·exact⟨_,_,rfl⟩
 ·exact⟨_,_,rfl⟩
def Ck (p:ByteArray):Bool:=match A7 p.data.toList with
 | some (g,_)=>g
 | none=>false
theorem Iz (f:Fl) (w:H) (a:Nat->Qa) (h:CT w a) (l:f.1.size<=100000) :
  Qf V 139 #[A1 f] w fun e w'=>e=Qk (.bool (Ck f.1))/\BL w w':=by
 have b:BL w (w.alloc (G #[S f.1,S f.2.1,O U f.2.2.1,O U f.2.2.2.1,O U f.2.2.2.2.1,O U f.2.2.2.2.2] 77)):=Af _ _;have i:=K4 f.1 (w.alloc (G #[S f.1,S f.2.1,O U f.2.2.1,O U f.2.2.2.1,O U f.2.2.2.2.1,O U f.2.2.2.2.2] 77)) a (h.below b) l;have j:((Ab (EL f.1.data.toList).1).toList == [103,111,110,101])=Ck f.1:=by
  unfold Ck
  cases d:A7 f.1.data.toList with
  | none=>rw [Md d];exact BH (by rw[BQ];decide)
  | some x =>
   obtain⟨g,n⟩:=x;rw[IX d];cases g
   ·exact BH (by rw[BQ];show AE false≠_;decide)
   ·exact CG (by rw[BQ];rfl)
 unfold A1;obtain⟨p,q,r,m,o,k⟩:=f
 go_enter func139,ntmps139
 go_upto_region 1 with fail
 go_wp2_with fail
 refine i.mono ?_;rintro e s ⟨rfl,c⟩;go_wp2;go_ret;exact⟨by rw[<-j];rfl,(Ad b c)⟩
theorem Mw {f:Fl} (h:At f=0):Ck f.1=decide (f.2.1.data.toList= [45]):=by
 obtain⟨_,_,g,n,c,b⟩:=iK h;unfold Ck;rw[c];dsimp only;cases g
 ·exact(decide_eq_false (fun e=>by have:=b.2 e;cases this)).symm
 ·exact(decide_eq_true (b.1 rfl)).symm
theorem Oz {P:Q0} {b:Array Qd} {o:Qd} {a:Act} {w w':H} {K:Act->H->Prop} {Q:Exit->Act->H->Prop} {E:Prop}
  (g:o.guard=I) (s x:Q1) (t:Qq) (d:o.op=Op.call { callee:=Callee.builtin QQ,args:=#[s,x],argTypes:=#[t,t] }) (v u v':A) (i:a.eval s=v) (j:a.eval x=u)
  (c:(Qe #[t,t] o.type #[v,u]).run P w= .ok v' w') (k:K (a.put o.dst v') w'):if Region.wanted o (yielded b a.tmps)=true then Oper.wp P o a w K Q else E:=by
 have f:Region.wanted o (yielded b a.tmps)=true:=by simp[Region.wanted,g]
 rw[if_pos f];unfold Oper.wp;simp[Q2,d,Q3,Q4,Q5,i,j,c,Result.andThen];exact k
theorem lH {P:Q0} {w w':H} {b:Array Qd} {rest:List Qd} {o:Qd} {a:Act} {Q:Exit->Act->H->Prop} (c:o.guard=I) (s x:Q1) (t:Qq)
  (d:o.op= .call { callee:=.builtin .append,args:=#[s,x],argTypes:=#[t,t] }) (v u v':A) (f:a.eval s=v) (g:a.eval x=u) (i:(Qe #[t,t] o.type #[v,u]).run P w= .ok v' w')
  (h:Qv P b Q rest (a.put o.dst v') w'):Qv P b Q (o :: rest) a w:=by
 refine QC c fun K hK=>?_;unfold Oper.wp Q2;simp only[d,Q3,Q4,Q5,Sem.run_bind,Sem.run_pure,Result.andThen_ok,QD,QE,QF,f,g,i];exact hK _ _ h
structure G0 (w:H) (a:Nat->Qa):Prop where
 list:D4 w a
 shape:w.cell? ⟨0,0,I⟩=Z (Qj 410 (Qg (Z (a 2))))
 stale:w.cell? ⟨2,0,I⟩=Z (Qj 410 (Qg (Z (a 10))))
 hand:Fj w
theorem G0.below {w w':H} {a:Nat->Qa} (h:G0 w a) (b:BL w w'):G0 w' a:=⟨h.list.below b,Aa b h.shape,Aa b h.stale,h.hand.below b⟩
theorem Al.setF6 {W:H} {b:Nat} {s:Sn} {vf:A} (h:Al W b s vf) (x:A):Al (W.setCell ⟨b,6,I⟩ x) b s x:=by
 unfold Al at *;rw[heap_setCell_same _ _ _ _ _ _ h];rfl
def Um (T:Qq) (w:H) (a:Nat->Qa) (s:Sn) (e:Ending) (w':H):Prop :=
 ∃v ev,e=Qk (Ql #[v,ev])/\AU w' a ev (Am s)/\BL w w'/\(((Am s).1≠0/\v=Qg I)\/((Am s).1=0/\∀B,B<=w.heap.size->CJ T B w' v (fun k=>w.heap.size<=k/\k<w'.heap.size) (s, [], [])))
theorem lI (s:Sn) (vf:A) (w:H) (a:Nat->Qa) (h:G0 w a) (hx:Ai w vf s.2.2.2.2.2.2) (hl:s.2.2.2.2.2.2.length<=100) (aj:Eb s.2.2.2.2.2.2) :
  Qf V 194 #[A9 s vf] w fun e w'=>Um 312 w a s e w':=by
 have i:BL w (w.alloc (G #[O U s.1,O U s.2.1,O U s.2.2.1,O U s.2.2.2.1,O U s.2.2.2.2.1,S s.2.2.2.2.2.1,vf] 40)):=Af _ _;have l:=Al.new w s vf;have m:=Ji s vf (w.alloc (G #[O U s.1,O U s.2.1,O U s.2.2.1,O U s.2.2.2.1,O U s.2.2.2.2.1,S s.2.2.2.2.2.1,vf] 40)) a (h.list.below i) (hx.below i) (by omega) aj;have aa:=fun W (hb:BL w W)=>Mu vf s.2.2.2.2.2.2 W (hx.below hb) (by omega);obtain⟨qf,cf,ai⟩:=hx.form;subst ai;unfold Um;generalize hR:Am s=R at m ⊢;unfold A9 at m ⊢;obtain⟨T,p,q,r,v,X,F⟩:=s;obtain⟨L,hL⟩:∃L,F.length=L:=⟨_,rfl⟩;have HL:Hid _:=hL;rw[hL]at i l m aa hl ⊢
 go_enter func194,ntmps194
 go_upto_region 1 with fail
 obtain⟨x0,x1,x2,x3,x4,x5,x6⟩:=l.cells;have ab:=l.lt
 go_wp2_with fail
 refine m.mono ?_;rintro e Y ⟨ev,rfl,ht,K⟩;have z:=Ad i K;have C:=l.below K;have ak:=Nat.lt_of_lt_of_le ab K.size;by_cases N:R.1=0
 case neg =>
  obtain⟨t,u,rfl⟩:=ht.bad N;have HT:Hid _:=ht;go_wp2;go_ret2;exact⟨_,_,rfl,HT.out,z,Qb ⟨N,rfl⟩⟩
 case pos =>
 have HT:Hid _:=ht;obtain rfl:=ht.ok N;have HE:Hid _:=N;have ae:=aa Y z;have x6:=C.cells.2.2.2.2.2.2
 go_upto_region 4 with fail
 go_wp2_with fail
 refine ae.mono ?_;rintro e f ⟨vb,rfl,ho,M⟩;have g:=C.below M;have af:=Ad z M;obtain⟨b,c,rfl⟩:=CY ho;have x6:=g.cells.2.2.2.2.2.2;have fz:=g.fz;have ac:=g.setF6 (J b L c);have D:Hid (BL w (f.setCell ⟨w.heap.size,6,I⟩ (J b L c))):=af.setCell (Qp _) _;have E:Hid ((f.setCell ⟨w.heap.size,6,I⟩ (J b L c)).ownsRow Y.heap.size 77 6 (J b L c) L (Aw F)):=AO ho ((Ac.refl (fun k=>k=w.heap.size) f).setCell (Qb (Eq.refl w.heap.size)) _) (fun k d e=>by
  have:=(AF ho d).1;omega)
 have al:Hid (Y.heap.size<=(f.setCell ⟨w.heap.size,6,I⟩ (J b L c)).heap.size):=by
  show _<=_;have:(f.setCell ⟨w.heap.size,6,I⟩ (J b L c)).heap.size=f.heap.size:=by simp[World.setCell]
  rw[this];exact M.size
 have ag:Hid (AU f a .nilIface R):=by
  show AU _ _ _ _;have h:=HT.out;obtain⟨n,o⟩:=R;have h0:=HE.out;subst h0
  cases o with
  | none=>exact h
  | some j=>exact absurd rfl h.1
 go_upto_region 5 with fail
 generalize f.setCell ⟨w.heap.size,6,I⟩ (J b L c)=y at *;obtain⟨p0,p1,p2,p3,p4,p5,p6⟩:=ac.cells;dsimp only at p0 p1 p2 p3 p4 p5;have HN:Hid (Cz 312 (y.alloc (G #[O U T,O U p,O U q,O U r,O U v,S X,J b L c,J I 0 0,J I 0 0] 312)) y.heap.size (T,p,q,r,v,X,F) (J b L c) (J I 0 0) (J I 0 0)):=heap_alloc_new _ _;have HA:Hid (BL y (y.alloc (G #[O U T,O U p,O U q,O U r,O U v,S X,J b L c,J I 0 0,J I 0 0] 312))):=Af _ _;go_wp2;go_ret2;refine⟨_,_,rfl,?_,D.out.trans (HA.out.mono D.out.size),Qc ⟨HE.out,fun B hB=>?_⟩⟩
 ·have h:=ag.out;obtain⟨n,o⟩:=R;have h0:=HE.out;subst h0
  cases o with
  | none=>exact h
  | some j=>exact absurd rfl h.1
 ·have ah:=D.out.size;have ad:=AO (P:=fun _=>False) E.out (Ac.of_below HA.out) (fun _ _ h=>h);have Q:(y.alloc (G #[O U T,O U p,O U q,O U r,O U v,S X,J b L c,J I 0 0,J I 0 0] 312)).ownsRow Y.heap.size 77 6 (J b L c) F.length (Aw F):=by rw[HL.out];exact ad
  refine⟨y.heap.size,J b L c,J I 0 0,J I 0 0,rfl,⟨HN.out,by omega,(Gt Q).1,Q6 _ _ _ _,Q6 _ _ _ _,fun k d=>⟨?_,by simp[Qm],by simp[Qm]⟩⟩,fun k d=>?_,fun k d=>?_,fun k d=>⟨by omega,d.2⟩⟩
  ·have:=(AF E.out d).2.1;omega
  ·rcases d with rfl | d | d
   ·exact⟨ah,HN.out.lt⟩
   ·simp[Qm]at d
   ·simp[Qm]at d
  ·have h1:=AF E.out d;have h2:=HA.out.size;exact⟨Qb ⟨by omega,by omega⟩,by omega⟩
theorem wpList_append_run {P:Q0} {w w':H} {b:Array Qd} {rest:List Qd} {o:Qd} {a:Act} {Q:Exit->Act->H->Prop} (c:o.guard=I) (s x:Q1) (t:Qq)
  (d:o.op= .call { callee:=.builtin .append,args:=#[s,x],argTypes:=#[t,t] }) (v u v':A) (f:a.eval s=v) (g:a.eval x=u) (i:(Qe #[t,t] o.type #[v,u]).run P w= .ok v' w')
  (h:Qv P b Q rest (a.put o.dst v') w'):Qv P b Q (o :: rest) a w:=by
 refine QC c fun K hK=>?_;unfold Oper.wp Q2;simp only[d,Q3,Q4,Q5,Sem.run_bind,Sem.run_pure,Result.andThen_ok,QD,QE,QF,f,g,i];exact hK _ _ h
theorem KM {B:Nat} {W f:H} {v:A} {b:List ByteArray} (z:W.ownsRow B 9 1 v b.length (b.map S)) (C:B<=W.heap.size) (p:ByteArray) (i:f=W.alloc (G #[S p] 9)) (D:b.length<=20000) :
  ∃v' W2,(Qe #[82,82] 82 #[v,J (Z ⟨W.heap.size,0,I⟩) 1 1]).run V f= .ok v' W2/\W2.ownsRow B 9 1 v' (b++ [p]).length ((b++ [p]).map S)/\Ac (fun k=>v.ownBlock=Z k) W W2/\(v'.ownBlock=v.ownBlock\/∃k,v'.ownBlock=Z k/\W.heap.size<=k/\k<W2.heap.size):=by
 obtain⟨n,o,q,r,l⟩:=Tryz.strInfo;have c:BL W f:=by rw[i];exact Af _ _
 have j:CU f (Z ⟨W.heap.size,0,I⟩) 1 1 [S p]:=by
  rw[i];exact Iq W [S p] 9 1 1
 obtain⟨v',W2,s,t,y,d⟩:=FO (P:=V) f B 82 82 9 n (S ⟨#[]⟩) 1 16 QG o q r l rfl (by decide) v b.length (b.map S) (AO (P:=fun _=>False) z (Ac.of_below c) (fun _ _ h=>h)) (Z ⟨W.heap.size,0,I⟩) 1 1 [S p] rfl j (by intro u m;rw[Qn]at m;subst m;rfl) (by unfold Qi;omega) (by omega) (Qw C c.size);have g:W2.ownsRow B 9 1 v' (b++ [p]).length ((b++ [p]).map S):=by
  rw[Qx,Qy];simpa using t
 refine⟨v',W2,s,g,(Ac.of_below c).trans (Ac.grown y) (fun _ h _=>h),?_⟩;rcases d with d | d
 ·exact Qb d
 ·exact Qc ⟨_,d,c.size,(AF g d).2.1⟩
theorem Un {B:Nat} {W:H} {v:A} {b d:List ByteArray} (t:W.ownsRow B 9 1 v b.length (b.map S)) (y:B<=W.heap.size) (q:Option Qa) (m c:Nat) (i:d.length=m) (z:CU W q m c (d.map S)) (D:b.length+d.length<=20000) :
  ∃v' W2,(Qe #[82,82] 82 #[v,J q m c]).run V W= .ok v' W2/\W2.ownsRow B 9 1 v' (b++d).length ((b++d).map S)/\Ac (fun k=>v.ownBlock=Z k) W W2:=by
 obtain⟨j,l,n,f,g⟩:=Tryz.strInfo;obtain⟨v',W2,o,p,r,C⟩:=FO (P:=V) W B 82 82 9 j (S ⟨#[]⟩) 1 16 QG l n f g rfl (by decide) v b.length (b.map S) t q m c (d.map S) (by rw[Qz,i,Nat.mul_one]) z (by intro u s;obtain⟨x,_,rfl⟩:=Q7.1 s;rfl) (by unfold Qi;omega) (by omega) y;refine⟨v',W2,o,?_,Ac.grown r⟩;rw[Qx,Qy,i];exact p
theorem lJ {W:H} {g n c:Nat} {b:List ByteArray} (h:∀j (hj:j<b.length),W.cell? ⟨g,j,I⟩=Z (S b[j])):CU W (Z ⟨g,0,I⟩) n c ((b.take n).map S):=Qc ⟨g,0,rfl,fun j u hu=>by
 rw[List.getElem?_map,QH]at hu;split at hu
 ·cases hj:b[j]? with
  | none=>rw [hj]at hu;cases hu
  | some x =>
   rw[hj]at hu;obtain⟨d,rfl⟩:=List.getElem?_eq_some_iff.1 hj;cases hu
   rw[Q8];exact h j d
 ·cases hu⟩
def KN (w:H) (b o:Nat) (ss:List Sn):Prop :=
 ∀j (h:j<ss.length),w.cell? ⟨b,o+j*7,I⟩=Z (O U ss[j].1)/\w.cell? ⟨b,o+j*7+3,I⟩=Z (O U ss[j].2.2.2.1)/\∃vf,w.cell? ⟨b,o+j*7+6,I⟩=Z vf/\Ai w vf ss[j].2.2.2.2.2.2/\w.cell? ⟨b,o+j*7+1,I⟩=Z (O U ss[j].2.1)/\w.cell? ⟨b,o+j*7+2,I⟩=Z (O U ss[j].2.2.1)/\w.cell? ⟨b,o+j*7+4,I⟩=Z (O U ss[j].2.2.2.2.1)/\w.cell? ⟨b,o+j*7+5,I⟩=Z (S ss[j].2.2.2.2.2.1)
def FX (w:H) (v:A) (ss:List Sn):Prop :=
 (∃p c,v=J p 0 c/\(p=I->c=0)/\ss= [])\/∃b o cap,v=J (Z ⟨b,o,I⟩) ss.length cap/\ss.length<=cap/\KN w b o ss
theorem KN.below {w w':H} {b o:Nat} {d:List Sn} (h:KN w b o d) (c:BL w w'):KN w' b o d:=fun j hj=>by
 obtain⟨f,g,i,k,l,m,n,p,q⟩:=h j hj;exact⟨Aa c f,Aa c g,i,Aa c k,l.below c,Aa c m,Aa c n,Aa c p,Aa c q⟩
theorem FX.below {w w':H} {v:A} {d:List Sn} (h:FX w v d) (j:BL w w'):FX w' v d:=by
 rcases h with h | ⟨b,o,c,f,g,i⟩
 ·exact Qb h
 ·exact Qc ⟨b,o,c,f,g,i.below j⟩
theorem FX.form {w:H} {v:A} {d:List Sn} (h:FX w v d):∃p c,v=J p d.length c:=by
 rcases h with⟨p,c,rfl,_,rfl⟩|⟨b,o,f,rfl,_⟩
 ·exact⟨_,_,rfl⟩
 ·exact⟨_,_,rfl⟩
theorem FX.cells {w:H} {q:Option Qa} {n c:Nat} {d:List Sn} (h:FX w (J q n c) d) (f:d≠ []):∃b o,q=Z ⟨b,o,I⟩/\KN w b o d:=by
 rcases h with⟨_,_,_,_,e⟩|⟨b,o,i,e,_,g⟩
 ·exact absurd e f
 ·simp only[Value.slice.injEq]at e;exact⟨b,o,e.1,g⟩
theorem lK {B:Nat} {W c:H} {v:A} {zs:List Int} (s:W.ownsRow B 3 1 v zs.length (zs.map (O U))) (t:B<=W.heap.size) (z:Int) (d:c=W.alloc (G #[O U z] 3)) (y:zs.length<=1000) :
  ∃v' W2,(Qe #[32,32] 32 #[v,J (Z ⟨W.heap.size,0,I⟩) 1 1]).run V c= .ok v' W2/\W2.ownsRow B 3 1 v' (zs++ [z]).length ((zs++ [z]).map (O U))/\Ac (fun k=>v.ownBlock=Z k) W W2:=by
 obtain⟨l,m,n,o,i⟩:=Tryz.numInfo;have b:BL W c:=by rw[d];exact Af _ _
 have f:CU c (Z ⟨W.heap.size,0,I⟩) 1 1 [O U z]:=by
  rw[d];exact Iq W [O U z] 3 1 1
 obtain⟨v',W2,p,q,r,C⟩:=FO (P:=V) c B 32 32 3 l (O U 0) 1 8 underlying32 m n o i rfl (by decide) v zs.length (zs.map (O U)) (AO (P:=fun _=>False) s (Ac.of_below b) (fun _ _ h=>h)) (Z ⟨W.heap.size,0,I⟩) 1 1 [O U z] rfl f (by intro u j;rw[Qn]at j;subst j;rfl) (by unfold Qi;omega) (by omega) (Qw t b.size);have g:W2.ownsRow B 3 1 v' (zs++ [z]).length ((zs++ [z]).map (O U)):=by
  rw[Qx,Qy];simpa using q
 exact⟨v',W2,p,g,(Ac.of_below b).trans (Ac.grown r) (fun _ h _=>h)⟩
theorem Tryz.snapInfo3:(Tryz.prog.info? 40).map (fun i=>(i.zero,i.size,i.bytes))=Z (Z (Qh #[O U 0,O U 0,O U 0,O U 0,O U 0,S ⟨#[]⟩,J I 0 0]),7,80):=by kernel_rfl
theorem Tryz.snapInfo:∃i0:TypeInfo,Tryz.prog.info? 40=Z i0/\i0.zero=Z (Qh #[O U 0,O U 0,O U 0,O U 0,O U 0,S ⟨#[]⟩,J I 0 0])/\i0.size=7/\i0.bytes=80:=by
 obtain⟨i,b,h⟩:=Option.map_eq_some_iff.1 Tryz.snapInfo3;simp only[Prod.mk.injEq]at h;exact⟨i,b,h.1,h.2.1,h.2.2⟩
def E1 (p:Sn×A):List A:= [O U p.1.1,O U p.1.2.1,O U p.1.2.2.1,O U p.1.2.2.2.1,O U p.1.2.2.2.2.1,S p.1.2.2.2.2.2.1,p.2]
def Fs (ps:List (Sn×A)):List A:=ps.flatMap E1
theorem Mx (p:Sn×A):(E1 p).length=7:=rfl
theorem lL (xs ys:List (Sn×A)):Fs (xs++ys)=Fs xs++Fs ys:=by simp[Fs]
theorem Uo:∀(ps:List (Sn×A)) (j c:Nat) (h:j<ps.length),c<7->(Fs ps)[j*7+c]? =(E1 ps[j])[c]?
 | [],j,_,h,_=>by simp at h
 | p :: ps,0,c,_,hc=>by
  simp only[Fs,QI,Nat.zero_mul,Q8,List.getElem_cons_zero];rw[List.getElem?_append_left (by rw[Mx];exact hc)]
 | p :: ps,j+1,c,h,hc=>by
  have b:j<ps.length:=by simp at h;omega
  have:=Uo ps j c b hc;simp only[Fs,QI,List.getElem_cons_succ]at *;rw[List.getElem?_append_right (by rw[Mx];omega),Mx,show (j+1)*7+c-7=j*7+c by omega];exact this
theorem lM {B:Nat} {W f:H} {v:A} {ps:List (Sn×A)} (C:W.ownsRow B 40 7 v ps.length (Fs ps)) (D:B<=W.heap.size) (s:Sn) (q:Option Qa) (n c:Nat) (g:f=W.alloc (G #[O U s.1,O U s.2.1,O U s.2.2.1,O U s.2.2.2.1,O U s.2.2.2.2.1,S s.2.2.2.2.2.1,J q n c] 40)) (E:ps.length<=1000) :
  ∃v' W2,(Qe #[79,79] 79 #[v,J (Z ⟨W.heap.size,0,I⟩) 1 1]).run V f= .ok v' W2/\W2.ownsRow B 40 7 v' (ps++ [(s,J q n c)]).length (Fs (ps++ [(s,J q n c)]))/\Ac (fun k=>v.ownBlock=Z k) W W2/\(v'.ownBlock=v.ownBlock\/∃k,v'.ownBlock=Z k/\W.heap.size<=k):=by
 obtain⟨m,o,p,r,l⟩:=Tryz.snapInfo;have b:BL W f:=by rw[g];exact Af _ _
 have i:CU f (Z ⟨W.heap.size,0,I⟩) 1 1 (E1 (s,J q n c)):=by
  rw[g];exact Iq W (E1 (s,J q n c)) 40 1 1
 obtain⟨v',W2,t,y,z,d⟩:=FO (P:=V) f B 79 79 40 m (Qh #[O U 0,O U 0,O U 0,O U 0,O U 0,S ⟨#[]⟩,J I 0 0]) 7 80 underlying79 o p r l rfl (by decide) v ps.length (Fs ps) (AO (P:=fun _=>False) C (Ac.of_below b) (fun _ _ h=>h)) (Z ⟨W.heap.size,0,I⟩) 1 1 (E1 (s,J q n c)) rfl i (fun u hu=>by
   simp only[E1,List.mem_cons,List.not_mem_nil,or_false]at hu;rcases hu with rfl | rfl | rfl | rfl | rfl | rfl | rfl<;>rfl) (by unfold Qi;omega) (by omega) (Qw D b.size)
 have j:W2.ownsRow B 40 7 v' (ps++ [(s,J q n c)]).length (Fs (ps++ [(s,J q n c)])):=by
  rw[Qx,lL];simpa [Fs] using y
 refine⟨v',W2,t,j,(Ac.of_below b).trans (Ac.grown z) (fun _ h _=>h),?_⟩;rcases d with d | d
 ·exact Qb d
 ·exact Qc ⟨_,d,b.size⟩
theorem lN {W n:H} {P:Nat->Prop} {v:A} {l:List Fl} (h:Ai W v l) (q:l≠ []->∀k,v.ownBlock=Z k->¬P k) (g:Ac P W n):Ai n v l:=by
 rcases h with h | ⟨b,o,c,m,p,f⟩
 ·exact Qb h
 ·by_cases i:l= []
  ·exact Qb ⟨Z ⟨b,o,I⟩,c,by rw[m,i];rfl,fun e=>(nomatch e),i⟩
  ·have d:=q i b (by rw[m];rfl);exact Qc ⟨b,o,c,m,p,fun j hj=>⟨g.keep d (f j hj).1,g.keep d (f j hj).2.1,g.keep d (f j hj).2.2.1,g.keep d (f j hj).2.2.2.1,g.keep d (f j hj).2.2.2.2.1,g.keep d (f j hj).2.2.2.2.2⟩⟩
theorem JU {W:H} {v:A} {f:List Fl} (h:Ai W v f) (d:f≠ []) {k:Nat} (e:v.ownBlock=Z k):k<W.heap.size:=by
 rcases h with⟨_,_,_,_,g⟩|⟨b,o,c,i,l,j⟩
 ·exact absurd g d
 ·rw[i]at e;simp only[Qm,Option.some.injEq]at e;rw[<-e];exact BD (j 0 (Qr.2 d)).1
def D5 (W:H) (B:Nat) (v:A) (ss:List Sn):Prop :=
 ∃ps:List (Sn×A),ps.map (fun p=>p.1)=ss/\W.ownsRow B 40 7 v ps.length (Fs ps)/\∀p∈ps,Ai W p.2 p.1.2.2.2.2.2.2/\(p.1.2.2.2.2.2.2≠ []->∀k,p.2.ownBlock=Z k->v.ownBlock≠Z k)
theorem D5.nil (W:H) (B:Nat):D5 W B (J I 0 0) []:=⟨[],rfl,Q6 _ _ _ _,fun _ h=>(nomatch h)⟩
theorem D5.below {W c:H} {B:Nat} {v:A} {d:List Sn} (h:D5 W B v d) (f:BL W c):D5 c B v d:=by
 obtain⟨g,i,j,b⟩:=h;exact⟨g,i,AO (P:=fun _=>False) j (Ac.of_below f) (fun _ _ h=>h),fun p hp=>⟨(b p hp).1.below f,(b p hp).2⟩⟩
theorem D5.blk {W:H} {B:Nat} {v:A} {d:List Sn} (h:D5 W B v d) {k:Nat} (c:v.ownBlock=Z k):B<=k/\k<W.heap.size:=by
 obtain⟨f,g,b,i⟩:=h;exact⟨(AF b c).1,(AF b c).2.1⟩
theorem D5.run {W:H} {B:Nat} {v:A} {j:List Sn} (h:D5 W B v j) (o:B<=W.heap.size) (s:Sn) (q:Option Qa) (n c:Nat) (z:Ai W (J q n c) s.2.2.2.2.2.2) (C:s.2.2.2.2.2.2≠ []->∀k,(J q n c).ownBlock=Z k->v.ownBlock≠Z k) (i:j.length<=1000) :
  ∃v' W2,(Qe #[79,79] 79 #[v,J (Z ⟨W.heap.size,0,I⟩) 1 1]).run V (W.alloc (G #[O U s.1,O U s.2.1,O U s.2.2.1,O U s.2.2.2.1,O U s.2.2.2.2.1,S s.2.2.2.2.2.1,J q n c] 40))= .ok v' W2/\D5 W2 B v' (j++ [s])/\Below B W W2:=by
 obtain⟨r,l,m,t⟩:=h;obtain⟨v',W2,u,y,f,g⟩:=lM m o s q n c rfl (by rw[<-l,Qz]at i;exact i);refine⟨v',W2,u,⟨r++ [(s,J q n c)],by rw[Qy,l];rfl,y,fun p d=>?_⟩,f.below o (fun k hk=>(AF m hk).1)⟩;have b:Ai W p.2 p.1.2.2.2.2.2.2/\(p.1.2.2.2.2.2.2≠ []->∀k,p.2.ownBlock=Z k->v.ownBlock≠Z k):=by
  rcases Q9.1 d with d | d
  ·exact t p d
  ·rw[Qn]at d;subst d;exact⟨z,C⟩
 refine⟨lN b.1 b.2 f,fun hne k hk e=>?_⟩;rcases g with g | ⟨E,g,D⟩
 ·exact b.2 hne k hk (g▸e)
 ·rw[g]at e;injection e with e;have:=JU b.1 hne hk;omega
theorem D5.sns {W:H} {B:Nat} {v:A} {l:List Sn} (h:D5 W B v l):FX W v l:=by
 obtain⟨d,o,p,q⟩:=h;subst o;rcases p.2 with⟨s,t⟩|⟨g,i,z,rfl,_,u,k,_,_,y⟩
 ·have m:=List.length_eq_zero_iff.1 t;subst m;exact Qb ⟨I,0,s,fun _=>rfl,rfl⟩
 ·refine Qc ⟨g,0,i,by rw[Qz],by rw[Qz];exact k,fun j hj=>?_⟩;have f:j<d.length:=by simpa using hj
  have b:∀c,c<7->W.cell? ⟨g,0+(j*7+c),I⟩=(E1 d[j])[c]? :=fun c b=>by
   have e:=Uo d j c f b;have n:c<(E1 d[j]).length:=by rw[Mx];exact b
   rw[List.getElem?_eq_getElem n]at e ⊢;rw[<-y,QH,if_pos (by omega)]at e;simp only[QJ,u,Q8];simpa using e
  obtain⟨r,-⟩:=q d[j] (QK _);rw[List.getElem_map];refine⟨?_,?_,d[j].2,?_,r,?_,?_,?_,?_⟩
  ·simpa [E1] using b 0 (by omega)
  ·simpa [E1,Qo] using b 3 (by omega)
  ·simpa [E1,Qo] using b 6 (by omega)
  ·simpa [E1,Qo] using b 1 (by omega)
  ·simpa [E1,Qo] using b 2 (by omega)
  ·simpa [E1,Qo] using b 4 (by omega)
  ·simpa [E1,Qo] using b 5 (by omega)
structure Bg (W:H) (a:Nat->Qa):Prop where
 x:G0 W a
 p:KJ W a
 m:FV W a
 f:Gs W a
theorem Bg.s {W:H} {a:Nat->Qa} (h:Bg W a):DJ W:=h.m.base
theorem KO {W:H} {v:A} {zs:List Int} (h:A3 W v zs) (d:zs≠ []) {j:Nat} (e:v.ownBlock=Z j):j<W.heap.size:=by
 rcases h with⟨_,_,_,f⟩|⟨b,o,c,g,i⟩
 ·exact absurd f d
 ·rw[g]at e;simp only[Qm,Option.some.injEq]at e;rw[<-e];exact BD (i 0 (Qr.2 d))
def DS {α:Type} (v:A) (l:List α) (kb:Nat) (SP:Nat->Prop):Prop:=l≠ []->∀j,v.ownBlock=Z j->j≠kb/\¬SP j
theorem DS.nil {α:Type} (v:A) (b:Nat) (c:Nat->Prop):DS v ([]:List α) b c:=fun h=>absurd rfl h
structure An (W:H) (kb:Nat) (vs:A) (SP:Nat->Prop) (hd:ByteArray) (vi vf:A) (k:Lk):Prop where
 blk:C5 W kb vs k.spec hd vi k.now vf
 st:A0 W vs SP k.st
 ids:C4 W vi k.ids
 fls:Ai W vf k.now.2.2.2.2.2.2
 off:¬SP kb
 offi:DS vi k.ids kb SP
 offf:DS vf k.now.2.2.2.2.2.2 kb SP
def lO (W:H) (kb:Nat) (k:Lk) (j:Nat):Prop:= ∃o v,(o=3\/o=10/\k.now.2.2.2.2.2.2≠ [])/\W.cell? ⟨kb,o,I⟩=Z v/\v.ownBlock=Z j
def Ft (W:H) (kb:Nat) (k:Lk) (vi vf:A) (k':Lk):Prop:= ∀j,vi.ownBlock=Z j\/(k'.now.2.2.2.2.2.2≠ []/\vf.ownBlock=Z j)->W.heap.size<=j\/lO W kb k j
theorem Ft.low {W X:H} {b:Nat} {k c:Lk} {d vf:A} (h:Ft X b k d vf c) (f:BL W X) (g:b<W.heap.size):Ft W b k d vf c:=fun j hj=>(h j hj).imp (Qw f.size) fun ⟨o,v,ho,hc,e⟩=>⟨o,v,ho,by
 have:=f.block b g;unfold QJ at *;dsimp only at *;rw[this]at hc;exact hc,e⟩
section
variable {a : Nat → Qa} {B : Nat} {EM : H → Prop} {W w' : H} {kb : Nat} {vs vi vf : A} {SP : Nat → Prop} {hd : ByteArray} {k : Lk}
theorem An.owt (h:An W kb vs SP hd vi vf k):Ft W kb k vi vf k:=fun _ hj=>Qc (hj.elim (fun e=>⟨3,vi,Qb rfl,h.blk.cells.2.2.2.1,e⟩) (fun e=>⟨10,vf,Qc ⟨rfl,e.1⟩,h.blk.cells.2.2.2.2.2.2.2.2.2.2.1,e.2⟩))
theorem An.quiet (K:AJ a B EM A0) (h:An W kb vs SP hd vi vf k) (b:BL W w'):An w' kb vs SP hd vi vf k :=
 ⟨(b.block kb h.blk.lt).trans h.blk,K.keep _ _ _ _ (fun _=>False) _ h.st (Ac.of_below b) (fun _ _ h=>h),⟨h.ids.1.below b,h.ids.2⟩,h.fls.below b,h.off,h.offi,h.offf⟩
theorem DS.up {α:Type} {v:A} {l:List α} {b:Nat->Prop} (h:DS v l kb SP) (c:l≠ []->∀j,v.ownBlock=Z j->j<W.heap.size) (d:∀j,b j->SP j\/W.heap.size<=j):DS v l kb b:=fun hne j hj=>⟨(h hne j hj).1,fun e=>(d j e).elim (h hne j hj).2 (fun e'=>absurd (c hne j hj) (by omega))⟩
theorem An.post (h:An W kb vs SP hd vi vf k) {d:St} (g:Dh A0 W vs SP d w'):∃SP',An w' kb vs SP' hd vi vf { k with st:=d } /\Ac SP W w'/\∀j,SP' j->SP j\/W.heap.size<=j:=by
 obtain⟨SP',f,b,c⟩:=g;refine⟨SP',⟨(b.block kb h.blk.lt h.off).trans h.blk,f,⟨KD h.ids.1 (fun hne j hj=>(h.offi hne j hj).2) b,h.ids.2⟩,JP h.fls (fun hne j hj=>(h.offf hne j hj).2) b,fun e=>(c kb e).elim h.off (fun e'=>absurd h.blk.lt (by omega)),h.offi.up (fun hne j hj=>KO h.ids.1 hne hj) c,h.offf.up (fun hne j hj=>JU h.fls hne hj) c⟩,b,c⟩
theorem An.but (K:AJ a B EM A0) (h:An W kb vs SP hd vi vf k) {P:Nat->Prop} (b:Ac P W w') (c:∀j,SP j->¬P j) (d:¬P kb) (hi:k.ids≠ []->∀j,vi.ownBlock=Z j->¬P j) (f:k.now.2.2.2.2.2.2≠ []->∀j,vf.ownBlock=Z j->¬P j):An w' kb vs SP hd vi vf k :=
 ⟨(b.block kb h.blk.lt d).trans h.blk,K.keep _ _ _ _ P _ h.st b c,⟨KD h.ids.1 hi b,h.ids.2⟩,JP h.fls f b,h.off,h.offi,h.offf⟩
theorem An.ptr (K:AJ a B EM A0) (h:An W kb vs SP hd vi vf k):∃p,vs=Qg (Z p):=K.ptr _ _ _ _ h.st
theorem An.sizes (K:AJ a B EM A0) (h:An W kb vs SP hd vi vf k):kb<W.heap.size/\∀j,SP j->j<W.heap.size:=⟨h.blk.lt,fun j hj=>K.lt _ _ _ _ j h.st hj⟩
end
def AW (b:ByteArray):List UInt8:=b.data.toList
theorem O0 {a b:ByteArray} (h:AW a=AW b):a=b:=Ii h
theorem Up (a b:ByteArray):Bk a b=decide (AW a<AW b):=by
 unfold Bk AW;rw[ByteArray.toList_eq,ByteArray.toList_eq,bytesLess_eq]
def Di (zs:List (List UInt8)):List (List UInt8):=zs.mergeSort fun x y=>decide (x<=y)
theorem O1 (zs:List (List UInt8)):(Di zs).Perm zs:=List.mergeSort_perm _ _
theorem O2 (zs:List (List UInt8)):(Di zs).length=zs.length:=(O1 zs).length_eq
theorem Uq (zs:List (List UInt8)):(Di zs).Pairwise fun x y=>x<=y:=by
 have d:=List.pairwise_mergeSort (le:=fun x y:List UInt8=>decide (x<=y)) (fun a b c h1 d=>by simp only[decide_eq_true_eq]at *;exact QA h1 d) (fun a b=>by simp only[Bool.or_eq_true,decide_eq_true_eq];exact List.le_total a b) zs;exact d.imp fun h=>by simpa using h
theorem lP {a b:List UInt8} (h:a<=b) (c:a≠b):a<b:=Classical.byContradiction fun hn=>c (QL h hn)
theorem Ur (d:Array (List UInt8)) (s:∀i j,i<=j->j<d.size->d[i]! <=d[j]!):∀m,m<=d.size->(compactUpTo d m).Pairwise (· < ·)/\(∀x,x∈compactUpTo d m↔∃j,j<m/\d[j]! =x)/\∀x∈compactUpTo d m,∀j,m<=j+1->j<d.size->x<=d[j]! :=by
 intro m
 induction m with
 | zero=>intro _;exact⟨by simp[compactUpTo],by simp[compactUpTo],by simp[compactUpTo]⟩
 | succ m ih =>
  intro t;obtain⟨q,n,r⟩:=ih (by omega);rw[compactUpTo_succ]
  cases c:keeps d m with
  | true =>
   simp only[if_true];have g:∀x∈compactUpTo d m,x<d[m]! :=by
    intro x b;have o:m≠0:=by
     intro e;subst e;obtain⟨j,f,_⟩:=(n x).1 b;omega
    simp only[keeps,decide_eq_true_eq]at c;rcases c with c | c
    ·exact absurd c o
    ·have l:=r x b (m-1) (by omega) (by omega);have p:=s (m-1) m (by omega) (by omega);refine lP (QA l p) fun e=>c ?_;rw[e]at l;exact QL l p
   refine⟨List.pairwise_append.2 ⟨q,List.pairwise_singleton _ _,fun x b y hy=>by rw[Qn.1 hy];exact g x b⟩,fun x=>?_,fun x b j hj1 hj2=>?_⟩
   ·rw[Q9,Qn,n];constructor
    ·rintro(⟨j,f,e⟩ | e)
     ·exact⟨j,by omega,e⟩
     ·exact⟨m,by omega,e.symm⟩
    ·rintro⟨j,f,e⟩;rcases QM j m with h | h
     ·exact Qb ⟨j,h,e⟩
     ·have:j=m:=by omega
      subst this;exact Qc e.symm
   ·rw[Q9,Qn]at b;have k:=s m j (by omega) hj2;rcases b with b | b
    ·exact QA (List.le_of_lt (g x b)) k
    ·rw[b];exact k
  | false =>
   simp only[Bool.false_eq_true,if_false,List.append_nil];simp only[keeps,decide_eq_false_iff_not,not_or,ne_eq,Classical.not_not]at c;refine⟨q,fun x=>?_,fun x b j hj1 hj2=>r x b j (by omega) hj2⟩;rw[n];constructor
   ·rintro⟨j,f,e⟩;exact⟨j,by omega,e⟩
   ·rintro⟨j,f,e⟩;rcases QM j m with h | h
    ·exact⟨j,h,e⟩
    ·have:j=m:=by omega
     subst this;exact⟨j-1,by omega,by rw[<-e,c.2]⟩
theorem Us (zs:List (List UInt8)) (i j:Nat) (c:i<=j) (d:j<(Di zs).toArray.size):(Di zs).toArray[i]! <=(Di zs).toArray[j]! :=by
 have b:j<(Di zs).length:=by simpa using d
 rw[getElem!_pos _ i (by omega),getElem!_pos _ j d];rcases Nat.lt_or_eq_of_le c with h | h
 ·exact List.pairwise_iff_getElem.1 (Uq zs) i j (by omega) b h
 ·subst h;exact List.le_refl _
def My (zs:List (List UInt8)):List (List UInt8):=Lib.compact (Di zs)
theorem Ut (zs:List (List UInt8)):(My zs).Pairwise (· < ·):=(Ur (Di zs).toArray (Us zs) (Di zs).length (by simp)).1
theorem lQ (zs:List (List UInt8)) (x:List UInt8):x∈My zs↔x∈zs:=by
 have h:=(Ur (Di zs).toArray (Us zs) (Di zs).length (by simp)).2.1 x;show x∈compactUpTo (Di zs).toArray (Di zs).length↔_;rw[h,<-(O1 zs).mem_iff];constructor
 ·rintro⟨j,b,e⟩;rw[getElem!_pos _ j (by simpa using b)]at e;rw[<-e];exact QK _
 ·intro c;obtain⟨j,b,e⟩:=List.mem_iff_getElem.1 c;exact⟨j,b,by rw[getElem!_pos _ j (by simpa using b)];simpa using e⟩
theorem lR (c:List Sn):My ((c.flatMap B9).map AW)=(Cy c).map AW:=by
 refine List.Perm.eq_of_pairwise (le:=fun a b:List UInt8=>a<b) (fun a b _ _ h1 h2=>absurd (List.lt_trans h1 h2) (QN _)) (Ut _) ?_ ?_
 ·rw[QO];exact(Tu c).imp fun h=>by rw[Up,decide_eq_true_eq]at h;exact h
 ·refine(List.perm_ext_iff_of_nodup ((Ut _).imp fun h e=>by subst e;exact QN _ h) ?_).2 fun x=>?_
  ·show List.Pairwise _ _;rw[QO];exact(Tu c).imp fun h e=>LD h (O0 e)
  ·rw[lQ,Q7,Q7];constructor
   ·rintro⟨a,d,rfl⟩;exact⟨a,Oh.2 (by simpa [QP] using d),rfl⟩
   ·rintro⟨a,d,rfl⟩;exact⟨a,by simpa [QP] using Oh.1 d,rfl⟩
end Go.Proofs.YtcllhobffhkafaaGreatDoor
