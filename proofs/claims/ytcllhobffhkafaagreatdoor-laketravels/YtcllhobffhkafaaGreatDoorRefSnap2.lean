/- By an AI agent. -/
import Derived.Test.YtcllhobffhkafaaGreatDoorDataAll
import Derived.Test.YtcllhobffhkafaaGreatDoorSnapPure
import Derived.Handy
import Derived.Laws.Bits128
import Derived.LaidEql
import Derived.Stop.Asserts
import Derived.RowKitTokens
import Derived.Deep.CutBlock
set_option maxRecDepth 100000
set_option maxHeartbeats 16000000
open Go.Proofs.Tryz
open Array renaming getElem?_eq_none->QK,getLit->X4
open Bool renaming true->Qd,false->Qj,false_eq_true->QZ,and_eq_true->Xl
open Classical renaming byContradiction->XG
open Go renaming World->S,Value->Qb,Addr->Qc,Calls->Qh,run_callFunc_extern->Qm,lt_of_block->Qp,cell_of_one->Qs,maxLen->Qu,cell_of_row->Qv,TypeId->Qz,heap_alloc_new->Q0,free_of_one->Q2,cell_regrown->Q3,heap_setCell_same->QD,ownsRow_setCell_other->QO,heap_setCell_other->QQ,wpList_append_own_at->QR,method->Xd,TypeInfo->Xo,run_typeAssert_lacksB->X0,loadVar->X5,underlying->X6,one_setCell->XC,heap_alloc2_old->XL,heap_alloc2_new->XM,bodyPost_ret->XV,wp_loop_rounds->Yc,rounds_succ->Yd
open Go.Addr renaming add_lit->QS
open Go.Ending renaming returned->Qg
open Go.Extern.ReflectliteType renaming relation->Q7,abiMethod->Xe,typeOf->Xg,assignableTo->Xh,toType->X2,method->X7,elem->X8,implements_->X9
open Go.Extern.ReflectliteValue renaming valueError->Qy,method->Q6,unpack->Xc,isNil->Xf,methodAny->X1,parts->X3,elem->XA,set->XB,flagAddr->Yb,mk->Yg
open Go.Extern.ReflectliteValue.method renaming match_2->XZ
open Go.Instr renaming typeAssert->Xz
open Go.IntKind renaming i64->Z,u8->XY
open Go.Lib renaming itoa->Qk,compact->Q4,cut->QC,IsBuilder->QW,byteCells->QX,below_putRow->XJ,byteCells_append->XN,join->XX
open Go.Obj renaming cells->A
open Go.Proofs.Tryz renaming prog->G,func353->QM,func119->QY,ntmps353->Xj,func120->Xq,ntmps120->Xr,ntmps119->Xt,func310->Xu,ntmps310->Xv,func309->Xw,ntmps309->Xx,underlying35->XD,underlying32->XR,results242->XW,underlying271->Ya
open Go.Result renaming andThen->QE
open Go.RowKit renaming Hid->V
open Go.RowKit.Below renaming refl->Q9,size->Xn,trans->XO,drew->XP
open Go.Sort renaming ahead->QB,putRow->QU,holds_putRow->XI
open Go.Value renaming int->U,pointer->J,string->H,slice->Qa,agg->Qe,iface->Qf,tuple->Qi,bool->Qn,nilIface->Qt,ownBlock->QF
open Go.Value.slice renaming injEq->Xy
open Go.World renaming cell?_alloc_lt->Qr,cell?->Q5,setCell->QP,frozen?_alloc_old->Xi,ownsRow_nil->Xk,cell?_of_block->XE,cell?_setCell_other->XF
open List renaming length_append->Q1,length_cons->QI,drop_eq_getElem_cons->QL,length_eq_zero_iff->QT,getElem_toArray->QV,flatMap_cons->Xa,getElem_cons_zero->Xb,take_append_getElem->Xm,getElem?_take->Xs,length_pos_iff->XH,replicate->XK,mem_iff_getElem->XQ,getElem_cons_succ->XS,getElem?_eq_none->XT,getElem?_eq_getElem->XU,drop_length->Ye
open Nat renaming le_trans->Ql,zero_add->Qw,lt_or_ge->Qx,le_of_lt->Q8,le_succ->QA,le_refl->QG,lt_succ_self->QH,add_assoc->QJ
open Option renaming some->O,none->I,map_eq_some_iff->Xp
open Option.some renaming inj->QN,injEq->Yf
open Or renaming inr->Qo,inl->Qq
namespace Go.Proofs.YtcllhobffhkafaaGreatDoor
open Go.Extern Go.Extern.Stop Go.RowKit Go.Stop
section
open Go.Lib Go.Shelf Go.Sort
structure G7 (W:S) (B bl:Nat) (v:Qb) (acc:List Rw):Prop where
 box:W.heap[bl]? =O (A #[v] 35 (0,0))
 own:W.ownsRow B 62 3 v acc.length (Az acc)
 off:v.ownBlock≠O bl
 low:B<=bl
structure Gg (B bl P Q:Nat) (W:S) (acc:List Rw):Prop where
 ex:∃v,G7 W B bl v acc/\∀j,P<=j->j<Q->v.ownBlock≠O j
 lt:bl<P
 hq:Q<=W.heap.size
theorem G7.below {W d:S} {B c:Nat} {v:Qb} {b:List Rw} (h:G7 W B c v b) (f:BL W d):G7 d B c v b :=
 ⟨(f.block c (Qp h.box)).trans h.box,Eu h.own f,h.off,h.low⟩
theorem iP (b:ByteArray) (m:Nat) (W:S) (a:Nat->Qc) (h:DI W a) (n:b.size<=100000) (o:(Bx b.data.toList).2≠0) :
  Qh G 353 #[H b,J (O ⟨m,0,I⟩)] W fun e w'=>e=Qg (Qi #[U Z 0,Ae a (Bx b.data.toList).2])/\BL W w':=by
 have c:=NP b W a h.env (by omega);obtain⟨E,g⟩:∃E,(Bx b.data.toList).2=E+1:=⟨(Bx b.data.toList).2-1,by omega⟩;rw[g]at c ⊢;simp only[Ae]at c ⊢;generalize (Bx b.data.toList).1=x at c;obtain⟨i,j,k⟩:=x;simp only[LV]at c
 go_enter QM,Xj
 go_wp2_with fail
 refine c.mono ?_;rintro e l ⟨rfl,d⟩;have f:BL W (l.alloc (A #[H i,U Z j,U Z k] 62)):=d.alloc d.size _;go_wp2;go_ret2;exact⟨rfl,f⟩
theorem Mt {W:S} {base:Nat} {e:Qz} {b:Nat} {v:Qb} {n:Nat} {xs:List Qb} (h:W.ownsRow base e b v n xs):∃q c,v=Qa q n c:=by
 rcases h.2 with⟨rfl,rfl⟩|⟨g,d,f,rfl,_⟩
 ·exact⟨I,0,rfl⟩
 ·exact⟨_,_,rfl⟩
theorem Jo {W:S} {base:Nat} {e:Qz} {b:Nat} {v:Qb} {n:Nat} {xs:List Qb} (h:W.ownsRow base e b v (n+1) xs):∃g c,v=Qa (O ⟨g,0,I⟩) (n+1) c:=by
 rcases h.2 with⟨_,i⟩|⟨g,d,f,rfl,_⟩
 ·omega
 ·exact⟨_,_,rfl⟩
theorem KW {W:S} {base:Nat} {e:Qz} {b:Nat} {v:Qb} {n:Nat} {xs:List Qb} (h:W.ownsRow base e b v n xs) {k:Nat} (c:v.ownBlock=O k):base<=k:=(h.lt k c).1
theorem Tr (wr:S) (c:ByteArray) (d f:Int) (j:Nat) (u:Qb) (b:(AM (c,d,f))[j]? =O u):(wr.alloc (A #[H c,U Z d,U Z f] 62)).cell? ⟨wr.heap.size,j,I⟩=O u:=by
 rw[Qv _ _ _ _ _ _ (Q0 _ _)]
 match j,b with
 | 0,b=>simpa [AM] using b
 | 1,b=>simpa [AM] using b
 | 2,b=>simpa [AM] using b
 | j+3,b=>simp [AM]at b
theorem Ot {W f:S} {B b:Nat} {v v':Qb} {c:List Rw} {x:Rw} (h:G7 W B b v c) (l:f.ownsRow B 62 3 v' (c.length+1) (Az c++AM x)) (m:W.grownBy f v.ownBlock) (j:v'.ownBlock=v.ownBlock\/v'.ownBlock=O W.heap.size) :
  G7 (f.setCell ⟨b,0,I⟩ v') B b v' (c++ [x])/\f.heap[b]? =O (A #[v] 35 (0,0)):=by
 have i:=Qp h.box;have g:f.heap[b]? =O (A #[v] 35 (0,0)):=(m.block b i (fun e=>h.off e.symm)).trans h.box;have d:v'.ownBlock≠O b:=by
  rcases j with e | e
  ·rw[e];exact h.off
  ·rw[e];intro k;have:=QN k;omega
 refine⟨⟨XC g,?_,d,h.low⟩,g⟩;rw[Q1,KE,NW];exact QO l d _
theorem Ts {k W b:S} {B c P Q:Nat} {v v':Qb} {d:List Rw} {x:Rw} (h:G7 W B c v d) (o:b.ownsRow B 62 3 v' (d.length+1) (Az d++AM x)) (l:W.grownBy b v.ownBlock) (g:v'.ownBlock=v.ownBlock\/v'.ownBlock=O W.heap.size)
  (m:BL k W) (f:∀j,P<=j->j<Q->v.ownBlock≠O j) (n:c<P) (p:Q<=k.heap.size) :
  Gg B c P Q (b.setCell ⟨c,0,I⟩ v') (d++ [x])/\∀j,P<=j->j<Q->(b.setCell ⟨c,0,I⟩ v').heap[j]? =k.heap[j]? :=by
 have q:Q<=W.heap.size:=Ql p m.size;have r:W.heap.size<=b.heap.size:=l.size;refine⟨⟨⟨v',(Ot h o l g).1,fun j h1 h2 e=>?_⟩,n,?_⟩,fun j h1 h2=>?_⟩
 ·rcases g with i | i
  ·exact f j h1 h2 (i.symm.trans e)
  ·rw[i]at e;have:=QN e;omega
 ·have:(b.setCell ⟨c,0,I⟩ v').heap.size=b.heap.size:=by simp[QP]
  omega
 ·rw[QQ _ _ _ _ (by show j≠c;omega),l.block j (by omega) (fun e=>f j h1 h2 e.symm)];exact m.block j (by omega)
theorem iQ (b:ByteArray) (t B:Nat) (v:Qb) (W:S) (a:Nat->Qc) (h:DI W a) (R:G7 W B t v []) (P Q:Nat) (af:∀j,P<=j->j<Q->v.ownBlock≠O j) (ao:t<P) (hq:Q<=W.heap.size) (hs:b.size<=100000) (hr:(Bx b.data.toList).2=0) :
  Qh G 353 #[H b,J (O ⟨t,0,I⟩)] W fun e w'=>e=Qg (Qi #[U Z (Bx b.data.toList).1.2.1,Qt])/\Gg B t P Q w' [(Bx b.data.toList).1]/\(∀j,P<=j->j<Q->w'.heap[j]? =W.heap[j]?)/\Below B W w':=by
 obtain⟨i0,al,am,an,ae⟩:=Tryz.rowInfo;have m:=NP b W a h.env (by omega);rw[hr]at m;simp only[Ae]at m;obtain⟨x,hx⟩:∃x,(Bx b.data.toList).1=x:=⟨_,rfl⟩;rw[hx]at m ⊢;obtain⟨f,d,g⟩:=x;simp only[LV]at m;have y:=Ql R.low (Q8 (Qp R.box));have M:=fun k (hk:v.ownBlock=O k)=>(R.own.lt k hk).2;have X:V _:=af;have Y:V _:=M
 go_enter QM,Xj
 go_wp2_with fail
 refine m.mono ?_;rintro e i ⟨rfl,K⟩;have z:BL W (i.alloc (A #[H f,U Z d,U Z g] 62)):=K.alloc K.size _;have n:=R.below z;have x0:(i.alloc (A #[H f,U Z d,U Z g] 62)).cell? ⟨i.heap.size,0,I⟩=O (H f):=by simp
 have x1:(i.alloc (A #[H f,U Z d,U Z g] 62)).cell? ⟨i.heap.size,1,I⟩=O (U Z d):=by simp
 have x2:(i.alloc (A #[H f,U Z d,U Z g] 62)).cell? ⟨i.heap.size,2,I⟩=O (U Z g):=by simp
 obtain⟨q,cp,rfl⟩:=Mt n.own;have ag:=Qs n.box;have ah:=Q2 n.box
 go_wp2_with fail
 have aa:=K.size;generalize i.heap.size=bx at x0 x1 x2 aa ⊢;generalize i.alloc (A #[H f,U Z d,U Z g] 62)=W2 at z n x0 x1 x2 ag ah ⊢
 go_quiet (fail)
 have o:BL W2 (W2.drewN nq):=AK (Q9 _ _) nq;have C:=Ad z o;have s:=n.below o;have y0:=Aa o x0;have y1:=Aa o x1;have y2:=Aa o x2;have ab:=Qs s.box;have ac:=Q2 s.box;generalize W2.drewN nq=N at C s y0 y1 y2 ab ac ⊢;have p:BL N (N.alloc (A #[H f,U Z d,U Z g] 62)):=Af _ _;have r:=s.below p;have D:=(Ad C p).mono y
 go_wp2_with (at_builtin;refine QR _ rfl _ _ 35 rfl B 62 i0 (Qe #[H ⟨#[]⟩,U Z 0,U Z 0]) 3 32 XD al am an ae rfl (by decide) (Qa q 0 cp) 0 (Az []) rfl r.own ⟨N.heap.size,0,I⟩ 1 1 (AM (f,d,g)) rfl ?qd1 ?qd2 ?qd3 ?qd4 ?qd5 ?qd6 ?_)
 case qd1=>rfl
 case qd2 =>
  intro j u hj;rw[QS,Qw];exact Tr N f d g j u hj
 case qd3=>exact Jc _
 case qd4=>unfold Qu;omega
 case qd5=>omega
 case qd6=>exact Ql y D.size
 intro v7 w7 l c _ L;obtain⟨g7,F,rfl⟩:=Jo l;obtain⟨ar,T⟩:=Ot (x:=(f,d,g)) r l c (by simpa using L);have ap:=Qs T;have aq:=Q2 T;have ai:Below B W w7:=D.grown c (Ql y D.size) (fun k hk=>KW r.own hk);have aj:Below B W (w7.setCell ⟨t,0,I⟩ (Qa (O ⟨g7,0,I⟩) (0+1) F)):=ai.setCell r.low _;have ad:=Ad C p;have E:V _:=Ts (x:=(f,d,g)) r l c (by simpa using L) ad X.out ao hq;have ak:=(XE (c.block bx (BF (Aa p y1)) (fun e=>by have:=Y.out bx e.symm;omega))).trans (Aa p y1);have au:(w7.setCell ⟨t,0,I⟩ (Qa (O ⟨g7,0,I⟩) (0+1) F)).cell? ⟨bx,1,I⟩=O (U Z d):=by
  rw[XF _ _ _ _ (by intro e;injection e;omega)];exact ak
 go_wp2;go_ret2;exact⟨rfl,E.out.1,E.out.2,aj⟩
theorem iR (f:ByteArray) (F B k:Nat) (v:Qb) (b:List Rw) (W:S) (a:Nat->Qc) (h:DI W a) (hB:G7 W B F v b) (hs:f.size<=100000) (hl:b.length<=100000) (P Q:Nat) (ar:∀j,P<=j->j<Q->v.ownBlock≠O j) (a5:F<P) (hq:Q<=W.heap.size) (L:b.length=k+1) (a6:k<b.length) (hr:(Bx f.data.toList).2=0) :
  Qh G 353 #[H f,J (O ⟨F,0,I⟩)] W fun e w'=>(ltOf AP (Bx f.data.toList).1 b[k]=Qd->e=Qg (Qi #[U Z 0,Ae a 9])/\BL W w') /\
   (ltOf AP (Bx f.data.toList).1 b[k]=Qj->e=Qg (Qi #[U Z (Bx f.data.toList).1.2.1,Qt])/\Gg B F P Q w' (b++ [(Bx f.data.toList).1])/\(∀j,P<=j->j<Q->w'.heap[j]? =W.heap[j]?)/\Below B W w'):=by
 obtain⟨i0,a1,a2,a3,ap⟩:=Tryz.rowInfo;have t:=NP f W a h.env (by omega);rw[hr]at t;simp only[Ae]at t;obtain⟨x,hx⟩:∃x,(Bx f.data.toList).1=x:=⟨_,rfl⟩;rw[hx]at t;have r:=dK x b[k];obtain⟨lb,ai⟩:∃lb,ltOf AP x b[k]=lb:=⟨_,rfl⟩;rw[ai]at r;have HX:V _:=hx;have af:V _:=ai;obtain⟨l,i,m⟩:=x;simp only[LV]at t;have M:=Ql hB.low (Q8 (Qp hB.box));have ae:=fun k (L:v.ownBlock=O k)=>(hB.own.lt k L).2;have ak:V _:=ar;have al:V _:=ae
 go_enter QM,Xj
 go_wp2_with fail
 refine t.mono ?_;rintro e p ⟨rfl,ac⟩;have N:BL W (p.alloc (A #[H l,U Z i,U Z m] 62)):=ac.alloc ac.size _;have q:=hB.below N;have x0:(p.alloc (A #[H l,U Z i,U Z m] 62)).cell? ⟨p.heap.size,0,I⟩=O (H l):=by simp
 have x1:(p.alloc (A #[H l,U Z i,U Z m] 62)).cell? ⟨p.heap.size,1,I⟩=O (U Z i):=by simp
 have x2:(p.alloc (A #[H l,U Z i,U Z m] 62)).cell? ⟨p.heap.size,2,I⟩=O (U Z m):=by simp
 have au:∃g c,v=Qa (O ⟨g,0,I⟩) (k+1) c:=Jo (n:=k) (by rw[<-L];exact q.own);obtain⟨g,cp,rfl⟩:=au;have ag:=Qs q.box;have av:=Q2 q.box;have aw:Ed (p.alloc (A #[H l,U Z i,U Z m] 62)) g 0 b:=by
  rcases (RY q.own).2 with⟨e,_⟩|⟨g',bb,e,hc⟩
  ·cases e
  ·injection e with e1;injection e1 with e1;injection e1 with e1;subst e1;exact hc
 obtain⟨p0,p1,p2⟩:=aw k a6;simp only[Qw]at p0 p1 p2;generalize b[k]=y at p0 p1 p2 r;obtain⟨yp,yk,yv⟩:=y;have bc:IntKind.i64.wrap (k:Int)=(k:Int):=IntWalk.i64_in _ (by omega);have am:Tryz.prog.follows .mixedOrders=Qd:=by kernel_rfl
 have ah:V (b.length<=100000):=hl;clear L hl
 go_wp2_with fail
 have an:W.heap.size<=p.heap.size:=ac.size;generalize p.heap.size=bx at x0 x1 x2 an ⊢;generalize p.alloc (A #[H l,U Z i,U Z m] 62)=W2 at N q x0 x1 x2 ag av p0 p1 p2 ⊢;have R:=fun d os=>Calls.regrown_of (w:=W2) (d:=d) (os:=os) (r _);have f0:=Q3 x0;have f1:=Q3 x1;have f2:=Q3 x2;have f3:=Q3 ag;have f4:=Q3 p0;have f5:=Q3 p1;have f6:=Q3 p2;refine wp_region_quiet_below am (by kernel_rfl) ?_
 repeat (go_big_quiet_step (exact R _ _))
 refine wpQuiet_nil ?_;intro _ a4;obtain⟨⟨dq,aa⟩,aq⟩:=a4;subst aq;have z:=below_regrown W2 dq aa;have C:BL W (grow (redrawn W2 dq) aa):=Ad N z;have T:=q.below z;have y0:=Aa z x0;have y1:=Aa z x1;have y2:=Aa z x2;generalize grow (redrawn W2 dq) aa=K at C T y0 y1 y2 ⊢;have a7:=Qs T.box;cases lb
 ·have D:BL K (K.alloc (A #[H l,U Z i,U Z m] 62)):=Af _ _;have ax:=T.below D;have X:Below B W (K.alloc (A #[H l,U Z i,U Z m] 62)):=(Ad C D).mono M;have E:V (G7 (K.alloc (A #[H l,U Z i,U Z m] 62)) B F (Qa (O ⟨g,0,I⟩) (k+1) cp) b):=ax
  go_wp2_with (at_builtin;refine QR _ rfl _ _ 35 rfl B 62 i0 (Qe #[H ⟨#[]⟩,U Z 0,U Z 0]) 3 32 XD a1 a2 a3 ap rfl (by decide) (Qa (O ⟨g,0,I⟩) (k+1) cp) b.length (Az b) rfl E.out.own ⟨K.heap.size,0,I⟩ 1 1 (AM (l,i,m)) rfl ?qd1 ?qd2 ?qd3 ?qd4 ?qd5 ?qd6 ?_)
  case qd1=>rfl
  case qd2 =>
   intro j u hj;rw[QS,Qw];exact Tr K l i m j u hj
  case qd3=>exact Jc _
  case qd4=>have:=ah.out;unfold Qu;omega
  case qd5=>have:=ah.out;omega
  case qd6=>exact Ql M X.size
  intro v7 w7 s o _ ad;obtain⟨g7,ab,rfl⟩:=Jo s;obtain⟨ba,aj⟩:=Ot (x:=(l,i,m)) E.out s o (by simpa using ad);have a8:=Qs aj;have a9:=Q2 aj;have ay:Below B W w7:=X.grown o (Ql M X.size) (fun k L=>KW E.out.own L);have az:Below B W (w7.setCell ⟨F,0,I⟩ (Qa (O ⟨g7,0,I⟩) (b.length+1) ab)):=ay.setCell E.out.low _;have ao:=Ad C D;have Y:V _:=Ts (x:=(l,i,m)) E.out s o (by simpa using ad) ao ak.out a5 hq;have a0:=(XE (o.block bx (BF (Aa D y1)) (fun e=>by have:=al.out bx e.symm;omega))).trans (Aa D y1);have bd:(w7.setCell ⟨F,0,I⟩ (Qa (O ⟨g7,0,I⟩) (b.length+1) ab)).cell? ⟨bx,1,I⟩=O (U Z i):=by
   rw[XF _ _ _ _ (by intro e;injection e;omega)];exact a0
  go_wp2;go_ret2;refine⟨fun h9=>?_,fun _=>⟨by rw[HX.out];rfl,by rw[HX.out];exact Y.out.1,Y.out.2,az⟩⟩;rw[HX.out,af.out]at h9;cases h9
 ·have ho:=(h.below C).order;go_wp2
  go_quiet (fail)
  go_wp2;go_ret2;refine⟨fun _=>⟨rfl,AK C nq⟩,fun h9=>?_⟩;rw[HX.out,af.out]at h9;cases h9
theorem Gg.keep {B c P Q:Nat} {W d:S} {b:List Rw} (h:Gg B c P Q W b) (f:BL W d):Gg B c P Q d b:=by
 obtain⟨⟨v,g,i⟩,j,k⟩:=h;exact⟨⟨v,g.below f,i⟩,j,Ql k f.size⟩
theorem Gg.set {B d P Q:Nat} {W:S} {c:List Rw} (j o:Nat) (u:Qb) (i:P<=j) (k:j<Q) (h:Gg B d P Q W c):Gg B d P Q (W.setCell ⟨j,o,I⟩ u) c:=by
 obtain⟨⟨v,b,f⟩,g,m⟩:=h;have l:(W.setCell ⟨j,o,I⟩ u).heap.size=W.heap.size:=by simp[QP]
 refine⟨⟨v,⟨?_,QO b.own (f j i k) u,b.off,b.low⟩,f⟩,g,by omega⟩;rw[QQ _ _ _ _ (by show d≠j;omega)];exact b.box
theorem Tt {β:Type} (b:List β) (k:Nat) (d:β) (f:b.length=k+1) (g:k<b.length):b.getLastD d=b[k]:=by
 have c:b≠ []:=by intro e;rw[e]at f;simp at f
 rw[List.getLastD_eq_getLast?,List.getLast?_eq_some_getLast c,Option.getD_some,List.getLast_eq_getElem];congr 1;omega
theorem iS (a:Nat->Qc) (g B P Q:Nat) (E:B<=P):Jn CO a (fun W=>DI W a) 353 g B P Q (Gg B g P Q) where
 env:=fun h=>h.weak
 ent:=enters_of QM (by kernel_rfl) rfl
 low:=E
 keep:=fun h c=>h.keep c
 set:=fun j o u h1 h2 h=>h.set j o u h1 h2
 take:=fun W line acc hE hI hQ hs hl=>by
  have y:V (Gg B g P Q W acc):=hI;obtain⟨⟨v,m,z⟩,r,C⟩:=hI;have n:B<=W.heap.size:=Ql m.low (Q8 (Qp m.box));show Qh _ _ _ _ fun e w'=>Below B W w'/\_/\((C6 CO acc line.data.toList≠0/\_)\/(C6 CO acc line.data.toList=0/\_));have b:C6 CO acc line.data.toList=if (Bx line.data.toList).2≠0 then (Bx line.data.toList).2 else if acc≠ []/\ltOf AP (Bx line.data.toList).1 (acc.getLastD (Ab [],0,0))=Qd then 9 else 0:=rfl;by_cases i:(Bx line.data.toList).2≠0
  ·rw[if_pos i]at b;refine(iP line g W a hE hs i).mono fun e w' ⟨f,c⟩=>⟨c.mono n,fun j h1 h2=>c.block j (by omega),Qq ⟨by rw[b];exact i,by rw[f,b],y.out.keep c⟩⟩
  ·have p:(Bx line.data.toList).2=0:=XG i;rw[if_neg i]at b;by_cases l:acc= []
   ·subst l;rw[if_neg (by simp)]at b;exact(iQ line g B v W a hE m P Q z r C hs p).mono fun e w' ⟨f,s,t,c⟩=>⟨c,t,Qo ⟨b,f,s⟩⟩
   ·obtain⟨k,D⟩:∃k,acc.length=k+1:=⟨acc.length-1,by have:=XH.2 l;omega⟩;have q:k<acc.length:=by omega
    rw[Tt acc k _ D q]at b;refine(iR line g B k v acc W a hE m hs hl P Q z r C D q p).mono fun e w' ⟨h1,h2⟩=>?_
    cases c:ltOf AP (Bx line.data.toList).1 acc[k] with
    | true =>
     rw[if_pos ⟨l,c⟩]at b;obtain⟨f,d⟩:=h1 c;exact⟨d.mono n,fun j q1 q2=>d.block j (by omega),Qq ⟨by rw[b];decide,by rw[f,b],y.out.keep d⟩⟩
    | false =>
     rw[if_neg (fun e=>by rw[c]at e;cases e.2)]at b;obtain⟨f,s,t,d⟩:=h2 c;exact⟨d,t,Qo ⟨b,f,s⟩⟩
def iT (w:S) (a:Nat->Qc) (D:List Rw×Nat×Option Nat) (e:Ending) (w':S):Prop :=
 BL w w'/\((D.2.1=0/\∃v,e=Qg (Qi #[v,Qt])/\Ap w' v D.1) \/
  (D.2.1≠0/\D.1= []/\D.2.2=I/\e=Qg (Qi #[Qa I 0 0,Ae a D.2.1])) \/
  (D.2.1≠0/\D.1= []/\∃at_,D.2.2=O at_/\∃fb,e=Qg (Qi #[Qa I 0 0,Qf 140 (J (O ⟨fb,0,I⟩))])/\w'.cell? ⟨fb,0,I⟩=O (U Z at_)/\w'.cell? ⟨fb,1,I⟩=O (Ae a D.2.1)))
theorem Tu (s:ByteArray) (w:S) (a:Nat->Qc) (h:DI w a) (Y:s.size<=Qu) :
  Qh G 315 #[H s] w fun e w'=>iT w a (Bn s.data.toList) e w':=by
 have f:BL w (w.alloc (A #[Qa I 0 0] 35)):=Af _ _;have k:G7 (w.alloc (A #[Qa I 0 0] 35)) w.heap.size w.heap.size (Qa I 0 0) []:=⟨Q0 _ _,Xk _ _ _ _,by simp[QF],QG _⟩;have p:(w.alloc (A #[Qa I 0 0] 35)).heap.size=w.heap.size+1:=by simp
 have g:=Tq CO ⟨#[100,97,116,97]⟩ s rfl (w.alloc (A #[Qa I 0 0] 35)) a (fun W=>DI W a) 353 w.heap.size w.heap.size (fun Q=>Gg w.heap.size w.heap.size (w.heap.size+1) Q) (by omega) (fun W' hW=>h.below (f.trans hW))
  (fun Q=>by rw[p];exact iS a w.heap.size w.heap.size (w.heap.size+1) Q (QA _))
  (fun Q W' hW hQ=>⟨⟨_,k.below hW,fun j _ _=>by simp[QF]⟩,QH _,hQ⟩) Y
 have C:Bn s.data.toList=BS CO s.data.toList:=rfl;rw[C];generalize BS CO s.data.toList=D at g ⊢
 go_enter func315,ntmps315
 go_wp2_with fail
 refine g.mono ?_;rintro e P ⟨z,l⟩;have b:=f.trans z;rcases l with⟨d,rfl,Q,m⟩|⟨d,n,o,rfl⟩|⟨d,n,B,o,R,rfl,T,X⟩
 ·obtain⟨⟨v,c,_⟩,_,_⟩:=m;have F:=Qs c.box;have r:=(I0 c.own).1;obtain⟨q,N,rfl⟩:=Mt c.own;have i:V (Ap P (Qa q D.1.length N) D.1):=r;obtain⟨t,u⟩:∃t,D.1.length=t:=⟨_,rfl⟩;rw[u]at F i;go_wp2;go_ret2;exact⟨b,Qq ⟨d,_,rfl,i.out⟩⟩
 ·obtain⟨E,y⟩:∃E,D.2.1=E+1:=⟨D.2.1-1,by omega⟩;have K:V _:=y;rw[y];simp only[Ae];go_wp2;go_ret2;exact⟨b,Qo (Qq ⟨d,n,o,by rw[K.out];rfl⟩)⟩
 ·have L:V _:=T;have M:V _:=X;go_wp2;go_ret2;exact⟨b,Qo (Qo ⟨d,n,B,o,R,rfl,L.out,M.out⟩)⟩
theorem Tv (v:Qb) (zs:List Int) (w:S) (h:A4 w v zs) (hl:zs.length<=1000) :
  Qh G 114 #[v] w fun e w'=> ∃v',e=Qg v'/\A4 w' v' (A9 zs)/\BL w w':=by
 have l:=LY v zs w h (Ql hl (by decide));obtain⟨q0,c0,rfl⟩:=h.form
 go_enter func114,ntmps114
 go_wp2_with fail
 refine l.mono ?_;rintro e d ⟨v1,rfl,Q,u⟩;by_cases C:v1=Qa I 0 0
 ·subst C;have R:zs= []:=by
   rcases Q.2 with⟨_,N⟩|⟨g,c,ab,e,_⟩
   ·exact QT.1 N
   ·cases e
  subst R;have b:=AnyM.slices_Sort_int_none Tryz.sortInt I 0 d;change Qh G 48 _ _ _ at b;have f:=slices_Compact_int_empty I 0 d
  go_wp2_with fail
  refine b.mono ?_;rintro e k ⟨rfl,rfl⟩
  go_wp2_with fail
  refine f.mono ?_;rintro e z ⟨rfl,rfl⟩;go_wp2;go_ret;exact⟨_,rfl,Qq ⟨I,0,rfl,eT⟩,u⟩
 ·obtain⟨g,c,rfl,s,t,N,hm,aa,P⟩:=holds_of_ownsRow Q C;have b:=AnyM.slices_Sort_int Tryz.sortInt g 0 c zs d P t (by omega);change Qh G 48 _ _ _ at b;have T:V _:=P
  go_wp2_with fail
  refine b.mono ?_;rintro e k ⟨rfl,n,B,i⟩;have m:Holds (U Z) k g 0 (Bt zs).toArray:=by
   rw[i];exact holds_grow (U Z) _ B g 0 (Bt zs).toArray (by simpa [QU,mapBlock,QB] using t) (XI (U Z) (QB d n) g 0 zs.toArray (Bt zs).toArray T.out (by simp[Jd]))
  have D:BL w k:=by
   rw[i];have E:BL w (QU (U Z) (QB d n) g 0 (zs.mergeSort fun x y=>decide (x<=y)).toArray):=XJ u s;exact E.trans ((GR B).mono E.size)
  have W:g<k.heap.size:=by
   rw[i];have:d.heap.size<=(grow (QU (U Z) (QB d n) g 0 (zs.mergeSort fun x y=>decide (x<=y)).toArray) B).heap.size:=by simp[grow,QU,mapBlock,QB]
   omega
  have p:=Jd zs;have f:=slices_Compact_int g 0 c (Bt zs) k m (by omega) (by omega);rw[p]at f;clear i
  go_wp2_with fail
  refine f.mono ?_;rintro e z ⟨rfl,q,o⟩;have F:=eR zs;have X:V (A4 z (Qa (O ⟨g,0,I⟩) (A9 zs).length c) (A9 zs)):=by
   show A4 _ _ _;refine Qo ⟨g,0,c,rfl,fun j hj=>?_⟩;rw[o];have Y:(Q4 (Bt zs)++XK (zs.length-(Q4 (Bt zs)).length) 0).toArray.size=(Bt zs).toArray.size:=by
    have:(Q4 (Bt zs)).length<=zs.length:=F;simp[p];omega
   have K:=XI (U Z) (QB k q) g 0 (Bt zs).toArray (Q4 (Bt zs)++XK (zs.length-(Q4 (Bt zs)).length) 0).toArray m Y;have L:j<(Q4 (Bt zs)).length:=hj;have:=(K j (by simp;omega)).1;rw[getElem!_pos _ j (by simp;omega)]at this;simp only[QV,List.getElem_append_left L]at this;exact this
  have M:BL w z:=by rw[o];exact XJ D s
  have r:Q4 (Bt zs)=A9 zs:=rfl;rw[r];clear o m r;go_wp2;go_ret;exact⟨_,rfl,X.out,M⟩
theorem iU (x:Int) (w:S) (a:Nat->Qc) (h:Cd w a) (d:Aq x=Qd) :
  Qh G 117 #[U Z x] w fun e w'=>e=Qg (Qi #[H (Ab (Qk x)),U Z x])/\BL w w':=by
 simp only[Aq,Xl,decide_eq_true_eq]at d;have b:=Jm x w a h (by omega) (by omega)
 go_enter func117,ntmps117
 go_wp2_with fail
 refine b.mono ?_;rintro e f ⟨rfl,c⟩;go_wp2;go_ret2;exact⟨rfl,c⟩
theorem iV (s:ByteArray) (hK:s.data.toList.length<=4) (v:Qb) (xs:List Int) (w:S) (a:Nat->Qc) (h:Cd w a) (hx:A4 w v xs) (hl:xs.length<=1000) (j:∀x∈xs,Aq x=Qd) :
  Qh G 116 #[H s,v,.func (.func 117) #[] #[]] w fun e w'=>e=Qg (H (Ab (CN s.data.toList xs.length (Ar (AA AD xs)).1 (Ar (AA AD xs)).2 (Bi (AW AD xs))++10 :: AW AD xs)))/\BL w w':=by
 have eg:∀args w,(callFunc 117 args).run G w= .ok (.enter 117 args) w:=enters_of func117 (by kernel_rfl) rfl;obtain⟨q,av,rfl⟩:=hx.form;obtain⟨L,hL⟩:∃L,xs.length=L:=⟨_,rfl⟩;have K:V (xs.length=L):=hL;have P:(Qa q xs.length av)=Qa q L av:=by rw[hL]
 rw[P]at hx ⊢;rw[hL]at hl;clear hL P;have hA:=XL w (A #[U Z 0,U Z 0,U Z 0] 256) (A #[J I,Qa I 0 0] 260);have d:=XM w (A #[U Z 0,U Z 0,U Z 0] 256) (A #[J I,Qa I 0 0] 260);have ai:BL w ((w.alloc (A #[U Z 0,U Z 0,U Z 0] 256)).alloc (A #[J I,Qa I 0 0] 260)):=(Af _ _).alloc (by simp) _;have Q:QW 260 5 (w.heap.size+1) (w.heap.size+1) (QX (AW AD ([]:List Int))) ((w.alloc (A #[U Z 0,U Z 0,U Z 0] 256)).alloc (A #[J I,Qa I 0 0] 260)) :=
  Qq ⟨QG _,Qa I 0 0,d,Xk _ _ _ _,by simp[QF]⟩
 go_enter func116,ntmps116
 go_wp2
 go_loopw [16] (fun k wr=> ∃n:Nat,n<=L/\k=U Z n/\BL w wr/\Bj wr w.heap.size n (Ar (AA AD (xs.take n)))/\QW 260 5 (w.heap.size+1) (w.heap.size+1) (QX (AW AD (xs.take n))) wr) (fun k _=>L-(intOf k).toNat)
 case atStart=>exact ⟨0,by omega,rfl,ai,hA,by simpa using Q⟩
 case round =>
  clear ai Q hA d;obtain⟨n,hn,rfl,hb,y,d⟩:=hrel;have bg:w.heap.size<=wr.heap.size:=hb.size;have be:w.heap.size+1<wr.heap.size:=by
   rcases d with d | d
   ·exact d.lt
   ·exact d.lt
  by_cases a2:n<L
  ·have R:n<xs.length:=by rw[K.out];exact a2
   have ah:=hx.below hb;rcases ah with⟨_,_,e,e'⟩|⟨b,o,bf,e,r⟩
   ·exfalso;have:=K.out;rw[e']at this;simp at this;omega
   injection e with e1 e2 e3;subst e1;clear e2 e3;have c1:=r n R;clear r;have hi:(n:Int)<(L:Int):=by omega
   have T:xs[n]∈xs:=List.getElem_mem _;have t:=j _ T;have X:xs.take (n+1)=xs.take n++ [xs[n]]:=by rw[Xm R]
   have B:=fun W (hW:Cd W a)=>iU xs[n] W a hW t;have Y:V ((Ab (Qk xs[n])).data.toList=Qk xs[n]):=by show _=_;simp[Ab]
   have aj:(Ab (Qk xs[n])).size<=32:=by rw[De];exact Jh.len _ t
   have HT:V (AW AD (xs.take (n+1))=AW AD (xs.take n)++(Qk xs[n]++ [10])):=by
    show _=_;rw[X];exact Sw AD _ _
   have aa:V (Ar (AA AD (xs.take (n+1)))=Cf n (Ar (AA AD (xs.take n))) xs[n]):=by
    show _=_;have a3:(xs.take n).length=n:=by simp;omega
    have:=Ol (xs.take n) xs[n];rw[a3]at this;rw[S6,S6,<-this,X]
   have a4:=Kc Jh (xs.take n) (fun x hx2=>j x (List.mem_of_mem_take hx2));have a1:(QX (AW AD (xs.take n))).length<=40000:=by
    rw[Lib.byteCells_length];have:(xs.take n).length<=n:=List.length_take_le _ _;omega
   clear X T t a4;generalize xs[n]=i at c1 B Y aj HT aa;generalize AW AD (xs.take n)=bj at d HT a1;generalize Ar (AA AD (xs.take n))=E at y aa;generalize Ab (Qk i)=tb at B Y aj;have ab:=B _ (h.below hb);clear B
   go_wp2_with (go_at_fn 117;refine ab.mono ?_;rintro e z ⟨rfl,af⟩)
   clear ab c1;have ak:BL w z:=Ad hb af;have C:=y.below af;have al:=KU d af;have am:=Oo w.heap.size n E i z C (by omega);clear d y
   go_wp2_with fail
   refine am.mono ?_;rintro e w4 ⟨rfl,rfl⟩;clear am;have ac:Bj (D9 z w.heap.size (n+1) (Cf n E i)) w.heap.size (n+1) (Cf n E i):=Om C;have ad:=Tk al w.heap.size (n+1) (Cf n E i) (by omega);have an:BL w (D9 z w.heap.size (n+1) (Cf n E i)):=On ak (QG _);have u:w.heap.size+1<=(D9 z w.heap.size (n+1) (Cf n E i)).heap.size:=by rw[Ti];exact Qp C
   clear al C ak;generalize D9 z w.heap.size (n+1) (Cf n E i)=W4 at ac ad an u ⊢;have l:=Ha (w.heap.size+1) (w.heap.size+1) _ tb W4 ad (by omega) u;clear ad
   go_wp2_with fail
   refine l.mono ?_;rintro e w5 ⟨rfl,ax,ag⟩;clear l;have a5:BL w w5:=an.trans (ag.mono (QA _));have ao:Bj w5 w.heap.size (n+1) (Cf n E i):=by
    unfold Bj at *;exact(ag.block _ (QH _)).trans ac
   have l:=Ha (w.heap.size+1) (w.heap.size+1) _ ⟨#[10]⟩ w5 (Qo ax) (by rw[Q1,Lib.strCells_length];have:(⟨#[10]⟩:ByteArray).size=1:=rfl;omega) (Ql u ag.size);clear ac
   go_wp2_with fail
   refine l.mono ?_;rintro e w7 ⟨rfl,ay,az⟩;clear l ax;have a6:BL w w7:=a5.trans (az.mono (QA _));have a7:V (Bj w7 w.heap.size (n+1) (Ar (AA AD (xs.take (n+1))))):=by
    show Bj _ _ _ _;rw[aa.out];unfold Bj at *;exact(az.block _ (QH _)).trans ao
   have a8:V (QW 260 5 (w.heap.size+1) (w.heap.size+1) (QX (AW AD (xs.take (n+1)))) w7):=by
    show QW _ _ _ _ _ _;rw[HT.out,XN,XN,<-Y.out,<-List.append_assoc];exact Qo ay
   clear ay ao;go_wp2;go_roundw
   case rel=>exact ⟨n+1,by omega,by go_num,a6,a7.out,a8.out⟩
   case measure=>simp [intOf];omega
  ·obtain rfl:n=L:=by omega
   have a9:xs.take n=xs:=List.take_of_length_le (by rw[K.out];exact QG _);rw[a9]at d y;have D:=Builder_String_any (w.heap.size+1) (w.heap.size+1) (AW AD xs) wr d (by omega);have ap:=Kc Jh xs j;have f:=Mc Jh j;have g:=fun W=>KR (Ab (AW AD xs)) W (by rw[De];unfold Qu;rw[K.out]at ap;omega);have eL:(Ab (AW AD xs)).data.toList=AW AD xs:=by simp[Ab]
   rw[eL]at g;have aq:=Hz (AW AD xs);have m:=fun W (hW:Cd W a)=>Tj s hK n (Ar (AA AD xs)).1 (Ar (AA AD xs)).2 (Bi (AW AD xs)) W a hW (by omega) f.1 f.2 aq;have bh:=Me hK n (Ar (AA AD xs)).1 (Ar (AA AD xs)).2 (Bi (AW AD xs)) (by omega) f.1 f.2 (by omega);obtain⟨T0,aw⟩:∃T0,Ab (CN s.data.toList xs.length (Ar (AA AD xs)).1 (Ar (AA AD xs)).2 (Bi (AW AD xs))++10 :: AW AD xs)=T0:=⟨_,rfl⟩;have ba:V _:=aw;have M:V (T0=Ab (CN s.data.toList n (Ar (AA AD xs)).1 (Ar (AA AD xs)).2 (Bi (AW AD xs)))++⟨#[10]⟩++Ab (AW AD xs)):=by
    show _=_;rw[<-aw,K.out];apply ByteArray.ext;apply Array.ext';simp[Ab]
   have F:(Ab (CN s.data.toList n (Ar (AA AD xs)).1 (Ar (AA AD xs)).2 (Bi (AW AD xs)))).size<=2000:=by rw[De];omega
   have bb:(Ab (AW AD xs)).size<=40000:=by rw[De];rw[K.out]at ap;omega
   generalize Bi (AW AD xs)=c at m g M F aq;generalize Ar (AA AD xs)=E at m M F y;obtain⟨lo,ae⟩:=E;dsimp only at m M F;generalize Ab (CN s.data.toList n lo ae (c:Int))=d at m M F;have eS:(⟨(AW AD xs).toArray⟩:ByteArray)=Ab (AW AD xs):=rfl;rw[eS]at D;generalize Ab (AW AD xs)=lB at D g M bb
   go_wp2_with fail
   refine D.mono ?_;rintro e N ⟨rfl,a0⟩;clear D;have ar:Bj N w.heap.size n (lo,ae):=by
    unfold Bj at *;exact(a0.block _ (QH _)).trans y
   obtain⟨g0,g1,g2,_⟩:=ar.cells;dsimp only at g1 g2;clear y ar;have au:BL w N:=hb.trans (a0.mono (QA _));have bc:=h.below au;have bi:BL N N:=Q9 _ _;have n1:¬9223372036854775807<d.size+1:=by omega
   have n2:¬9223372036854775807<d.size+1+lB.size:=by omega
   go_wp2_with fail
   go_region_held3 (fun w'=>w'.cell? ⟨w.heap.size,0,I⟩=O (U Z n)/\w'.cell? ⟨w.heap.size,1,I⟩=O (U Z lo)/\w'.cell? ⟨w.heap.size,2,I⟩=O (U Z ae)/\BL N w')
    (first
     | (go_split_ands;exact⟨Aa p (by assumption),Aa p (by assumption),Aa p (by assumption),XO (by assumption) (p.mono (Xn (by assumption)))⟩)
     | (go_split_ands;exact⟨by go_keep,by go_keep,by go_keep,by assumption⟩)
     | (go_split_ands;exact⟨by go_keep,by go_keep,by go_keep,XP (by assumption)⟩))
    (first
     | (go_at_call 171;refine(g _).mono ?_;rintro e z ⟨rfl,p⟩)
     | (go_at_call 206;refine(m _ (bc.below (by go_split_ands;assumption))).mono ?_;rintro e w4 ⟨rfl,p⟩))
   go_split_ands;have bd:BL N w4:=by assumption
   go_wp2;go_ret;exact⟨by rw[ba.out,M.out];rfl,(Ad au bd)⟩
theorem iW (v:Qb) (zs:List Int) (w:S) (a:Nat->Qc) (h:DT w a) (f:A4 w v zs) (g:zs.length<=1000) (p:40<(A9 zs).length) :
  Qh G 61 #[v] w fun e w'=>e=Qg (Qi #[H ⟨#[]⟩,Ae a 8])/\BL w w':=by
 have c:=Tv v zs w f g;obtain⟨j,k,rfl⟩:=f.form
 go_enter func61,ntmps61
 go_wp2_with fail
 refine c.mono ?_;rintro e n ⟨o,rfl,d,b⟩;obtain⟨l,m,rfl⟩:=d.form;have i:=(h.below b).full;go_wp2
 go_quiet (fail)
 go_wp2;go_ret2;exact⟨rfl,AK b nq⟩
theorem iX (v:Qb) (zs:List Int) (w:S) (a:Nat->Qc) (h:DT w a) (C:A4 w v zs) (hl:zs.length<=1000) (hn:(A9 zs).length<=40)
  (m:Nat) (hm:m<=zs.length) (j:∀i (h:i<zs.length),i<m->Aq zs[i]=Qd) (u:∀(h:m<zs.length),Aq zs[m]=Qj) :
  Qh G 61 #[v] w fun e w'=>(m=zs.length/\e=Qg (Qi #[H (Ab (DS (A9 zs))),Qt])/\BL w w') \/
   (m<zs.length/\∃fb,e=Qg (Qi #[H ⟨#[]⟩,Qf 140 (J (O ⟨fb,0,I⟩))])/\w'.cell? ⟨fb,0,I⟩=O (U Z m)/\w'.cell? ⟨fb,1,I⟩=O (Ae a 2)/\BL w w'):=by
 have D:=Tv v zs w C hl;obtain⟨q0,c0,rfl⟩:=C.form;obtain⟨L,B⟩:∃L,zs.length=L:=⟨_,rfl⟩;have y:V _:=B;have f:V _:=j;have M:V _:=u;rw[B]at hm hl;have l:(Qa q0 zs.length c0)=Qa q0 L c0:=by rw[B]
 rw[l]at C D ⊢;clear B j u l;have N:¬(40:Int)<((A9 zs).length:Int):=by omega
 go_enter func61,ntmps61
 go_wp2_with fail
 refine D.mono ?_;rintro e w1 ⟨v1,rfl,s,ac⟩;obtain⟨q1,P,rfl⟩:=s.form;obtain⟨r,F⟩:∃r,(A9 zs).length=r:=⟨_,rfl⟩;have W:V ((A9 zs).length=r):=F;rw[F]at N hn s ⊢;have X:V (A4 w1 (Qa q1 r P) (A9 zs)):=s;go_wp2
 go_loopw [15] (fun k wr=> ∃n:Nat,n<=m/\k=U Z n/\BL w1 wr) (fun k _=>L-(intOf k).toNat)
 case atStart=>exact ⟨0,by omega,rfl,Q9 _ _⟩
 case round =>
  obtain⟨n,ae,rfl,T⟩:=hrel;have c:BL w wr:=Ad ac T;by_cases Y:n<L
  ·have d:n<zs.length:=by rw[y.out];exact Y
   have z:=C.below c;rcases z with⟨_,_,e,e'⟩|⟨b,o,af,e,t⟩
   ·exfalso;have:=y.out;rw[e']at this;simp at this;omega
   injection e with e1 e2 e3;subst e1;clear e2 e3;have P:=t n d;have Q:(n:Int)<(L:Int):=by omega
   have g:=GS zs[n] wr;by_cases p:n<m
   ·rw[f.out n d p]at g
    go_wp2_with fail
    refine g.mono ?_;rintro e w3 ⟨rfl,rfl⟩;go_wp2;go_roundw
    case rel=>exact ⟨n+1,by omega,by go_num,T⟩
    case measure=>simp [intOf];omega
   ·obtain rfl:n=m:=by omega
    rw[M.out d]at g;have ag:=(h.below c).env.bound;have aa:BL w (wr.alloc (A #[U Z n,Qf 410 (J (O (a 1)))] 143)):=c.alloc c.size _
    go_wp2_with fail
    refine g.mono ?_;rintro e w3 ⟨rfl,rfl⟩;go_wp2
    go_region
    go_wp2;go_ret2;exact Qo ⟨d,w3.heap.size,rfl,by simp,by simp[Ae],aa.drew⟩
  ·have p:n=m:=by omega
   have E:m=L:=by omega
   subst p;have R:∀x∈A9 zs,Aq x=Qd:=fun x hxm=>by
    obtain⟨i,Q,e⟩:=XQ.1 ((KN zs x).1 hxm);rw[<-e];exact f.out i Q (by rw[E,<-y.out];exact Q)
   have q:=iV ⟨#[103,111,110,101]⟩ (by decide) (Qa q1 r P) (A9 zs) wr a (h.env.below c) (X.out.below T) (by rw[W.out];omega) R;have HF:V (Ab (CN (⟨#[103,111,110,101]⟩:ByteArray).data.toList (A9 zs).length (Ar (AA AD (A9 zs))).1 (Ar (AA AD (A9 zs))).2 (Bi (AW AD (A9 zs)))++10 :: AW AD (A9 zs))=Ab (DS (A9 zs))):=rfl;rw[HF.out]at q;obtain⟨fB,K⟩:∃fB,Ab (DS (A9 zs))=fB:=⟨_,rfl⟩;have ab:V _:=K;rw[K]at q
   go_wp2_with fail
   refine q.mono ?_;rintro e w2 ⟨rfl,ad⟩;go_wp2;go_ret2;exact Qq ⟨E.trans y.out.symm,by rw[ab.out];rfl,(Ad c ad)⟩
theorem EK (l:List UInt8):(Ab l).size=l.length:=by simp[Ab,ByteArray.size]
theorem Tryz.strInfo3:(Tryz.prog.info? 9).map (fun i=>(i.zero,i.size,i.bytes))=O (O (H ⟨#[]⟩),1,16):=by kernel_rfl
theorem Tryz.strInfo:∃i0:Xo,Tryz.prog.info? 9=O i0/\i0.zero=O (H ⟨#[]⟩)/\i0.size=1/\i0.bytes=16:=by
 obtain⟨i,b,h⟩:=Xp.1 Tryz.strInfo3;simp only[Prod.mk.injEq]at h;exact⟨i,b,h.1,h.2.1,h.2.2⟩
theorem Tw (w:S) (x:Qb) (t:Qz):∀j u, [x][j]? =O u->(w.alloc (A #[x] t)).cell? ((⟨w.heap.size,0,I⟩:Qc).add j)=O u:=by
 intro j u b;rw[QS,Qw]
 match j,b with
 | 0,b=>simp at b;subst b;simp
 | j+1,b=>simp at b
theorem Tryz.numInfo3:(Tryz.prog.info? 3).map (fun i=>(i.zero,i.size,i.bytes))=O (O (U Z 0),1,8):=by kernel_rfl
theorem Tryz.numInfo:∃i0:Xo,Tryz.prog.info? 3=O i0/\i0.zero=O (U Z 0)/\i0.size=1/\i0.bytes=8:=by
 obtain⟨i,b,h⟩:=Xp.1 Tryz.numInfo3;simp only[Prod.mk.injEq]at h;exact⟨i,b,h.1,h.2.1,h.2.2⟩
theorem Ou (l:List UInt8):BJ l=match At l with
 | none=>(0,1)
 | some n=>if Aq n then (n,0) else (0,2):=rfl
theorem Ov (b:ByteArray) (w:S) (a:Nat->Qc) (h:DT w a) (o:b.size<=100000) :
  Qh G 120 #[H b] w fun e w'=>e=Qg (Qi #[U Z (BJ b.data.toList).1,Ae a (BJ b.data.toList).2])/\BL w w':=by
 have d:=LR b w a h.env (by unfold Qu;omega);unfold Dn at d
 cases i:At b.data.toList with
 | none =>
  have g:V (BJ b.data.toList=(0,1)):=by show _=_;rw[Ou,i]
  rw[i]at d;rw[g.out]
  go_enter Xq,Xr
  go_wp2_with fail
  refine d.mono ?_;rintro e k ⟨rfl,c⟩;have l:=(h.below c).env.text;go_wp2
  go_quiet (fail)
  go_wp2;go_ret2;exact⟨rfl,AK c nq⟩
 | some n =>
  rw[i]at d
  cases j:Aq n with
  | true =>
   have g:V (BJ b.data.toList=(n,0)):=by show _=_;rw[Ou,i];simp[j]
   have f:=fun W=>GS n W;rw[j]at f;rw[g.out]
   go_enter Xq,Xr
   go_wp2_with fail
   refine d.mono ?_;rintro e k ⟨rfl,c⟩
   go_wp2_with fail
   refine(f _).mono ?_;rintro e m ⟨rfl,rfl⟩;go_wp2;go_ret2;exact⟨rfl,c⟩
  | false =>
   have g:V (BJ b.data.toList=(0,2)):=by show _=_;rw[Ou,i];simp[j]
   have f:=fun W=>GS n W;rw[j]at f;rw[g.out]
   go_enter Xq,Xr
   go_wp2_with fail
   refine d.mono ?_;rintro e k ⟨rfl,c⟩
   go_wp2_with fail
   refine(f _).mono ?_;rintro e m ⟨rfl,rfl⟩;have l:=(h.below c).env.bound;go_wp2
   go_quiet (fail)
   go_wp2;go_ret2;exact⟨rfl,AK c nq⟩
theorem Ow {w:S} {base:Nat} {v:Qb} {zs:List Int} (h:w.ownsRow base 3 1 v zs.length (zs.map (U Z))):A4 w v zs:=by
 obtain⟨m,h⟩:=h;rcases h with⟨d,f⟩|⟨g,c,l,rfl,_,i,n,_,_,k⟩
 ·have:zs= []:=QT.1 f;subst this;exact .inl ⟨I,0,d,rfl⟩
 ·refine .inr ⟨g,0,c,rfl,fun j hj=>?_⟩;have b:(zs.map (U Z))[j]? =O (U Z zs[j]):=by simp[hj]
  rw[<-k,Xs,if_pos (by omega)]at b;simp only[Q5,i,Qw];simpa using b
structure G8 (W:S) (B bl:Nat) (v:Qb) (acc:List Int):Prop where
 box:W.heap[bl]? =O (A #[v] 32 (0,0))
 own:W.ownsRow B 3 1 v acc.length (acc.map (U Z))
 off:v.ownBlock≠O bl
 low:B<=bl
structure Gh (B bl P Q:Nat) (W:S) (acc:List Int):Prop where
 ex:∃v,G8 W B bl v acc/\∀j,P<=j->j<Q->v.ownBlock≠O j
 lt:bl<P
 hq:Q<=W.heap.size
theorem G8.below {W d:S} {B c:Nat} {v:Qb} {b:List Int} (h:G8 W B c v b) (f:BL W d):G8 d B c v b :=
 ⟨(f.block c (Qp h.box)).trans h.box,Eu h.own f,h.off,h.low⟩
theorem Gh.keep {B c P Q:Nat} {W d:S} {b:List Int} (h:Gh B c P Q W b) (f:BL W d):Gh B c P Q d b:=by
 obtain⟨⟨v,g,i⟩,j,k⟩:=h;exact⟨⟨v,g.below f,i⟩,j,Ql k f.size⟩
theorem Gh.set {B d P Q:Nat} {W:S} {c:List Int} (j o:Nat) (u:Qb) (i:P<=j) (k:j<Q) (h:Gh B d P Q W c):Gh B d P Q (W.setCell ⟨j,o,I⟩ u) c:=by
 obtain⟨⟨v,b,f⟩,g,m⟩:=h;have l:(W.setCell ⟨j,o,I⟩ u).heap.size=W.heap.size:=by simp[QP]
 refine⟨⟨v,⟨?_,QO b.own (f j i k) u,b.off,b.low⟩,f⟩,g,by omega⟩;rw[QQ _ _ _ _ (by show d≠j;omega)];exact b.box
theorem Ox {W f:S} {B b:Nat} {v v':Qb} {c:List Int} {x:Int} (h:G8 W B b v c) (l:f.ownsRow B 3 1 v' (c.length+1) (c.map (U Z)++ [U Z x])) (m:W.grownBy f v.ownBlock) (j:v'.ownBlock=v.ownBlock\/v'.ownBlock=O W.heap.size) :
  G8 (f.setCell ⟨b,0,I⟩ v') B b v' (c++ [x])/\f.heap[b]? =O (A #[v] 32 (0,0)):=by
 have i:=Qp h.box;have g:f.heap[b]? =O (A #[v] 32 (0,0)):=(m.block b i (fun e=>h.off e.symm)).trans h.box;have d:v'.ownBlock≠O b:=by
  rcases j with e | e
  ·rw[e];exact h.off
  ·rw[e];intro k;have:=QN k;omega
 refine⟨⟨XC g,?_,d,h.low⟩,g⟩;rw[Q1,List.map_append];exact QO l d _
theorem Ty {k W b:S} {B c P Q:Nat} {v v':Qb} {d:List Int} {x:Int} (h:G8 W B c v d) (o:b.ownsRow B 3 1 v' (d.length+1) (d.map (U Z)++ [U Z x])) (l:W.grownBy b v.ownBlock) (g:v'.ownBlock=v.ownBlock\/v'.ownBlock=O W.heap.size)
  (m:BL k W) (f:∀j,P<=j->j<Q->v.ownBlock≠O j) (n:c<P) (p:Q<=k.heap.size) :
  Gh B c P Q (b.setCell ⟨c,0,I⟩ v') (d++ [x])/\∀j,P<=j->j<Q->(b.setCell ⟨c,0,I⟩ v').heap[j]? =k.heap[j]? :=by
 have q:Q<=W.heap.size:=Ql p m.size;have r:W.heap.size<=b.heap.size:=l.size;refine⟨⟨⟨v',(Ox h o l g).1,fun j h1 h2 e=>?_⟩,n,?_⟩,fun j h1 h2=>?_⟩
 ·rcases g with i | i
  ·exact f j h1 h2 (i.symm.trans e)
  ·rw[i]at e;have:=QN e;omega
 ·have:(b.setCell ⟨c,0,I⟩ v').heap.size=b.heap.size:=by simp[QP]
  omega
 ·rw[QQ _ _ _ _ (by show j≠c;omega),l.block j (by omega) (fun e=>f j h1 h2 e.symm)];exact m.block j (by omega)
theorem iY (b:ByteArray) (g:Nat) (W:S) (a:Nat->Qc) (h:DT W a) (i:b.size<=100000) (k:(BJ b.data.toList).2≠0) :
  Qh G 119 #[H b,J (O ⟨g,0,I⟩)] W fun e w'=>e=Qg (Qi #[U Z 0,Ae a (BJ b.data.toList).2])/\BL W w':=by
 have c:=Ov b W a h i;obtain⟨E,f⟩:∃E,(BJ b.data.toList).2=E+1:=⟨(BJ b.data.toList).2-1,by omega⟩;rw[f]at c ⊢;simp only[Ae]at c ⊢
 go_enter QY,Xt
 go_wp2_with fail
 refine c.mono ?_;rintro e j ⟨rfl,d⟩;go_wp2;go_ret2;exact⟨rfl,d⟩
theorem iZ (b:ByteArray) (s B:Nat) (v:Qb) (W:S) (a:Nat->Qc) (h:DT W a) (F:G8 W B s v []) (P Q:Nat) (K:∀j,P<=j->j<Q->v.ownBlock≠O j) (Y:s<P) (hq:Q<=W.heap.size) (hs:b.size<=100000) (hr:(BJ b.data.toList).2=0) :
  Qh G 119 #[H b,J (O ⟨s,0,I⟩)] W fun e w'=>e=Qg (Qi #[U Z (BJ b.data.toList).1,Qt])/\Gh B s P Q w' [(BJ b.data.toList).1]/\(∀j,P<=j->j<Q->w'.heap[j]? =W.heap[j]?)/\Below B W w':=by
 obtain⟨i0,N,R,T,C⟩:=Tryz.numInfo;have g:=Ov b W a h hs;rw[hr]at g;simp only[Ae]at g;obtain⟨x,hx⟩:∃x,(BJ b.data.toList).1=x:=⟨_,rfl⟩;rw[hx]at g ⊢;have i:=Ql F.low (Q8 (Qp F.box));have y:V _:=K
 go_enter QY,Xt
 go_wp2_with fail
 refine g.mono ?_;rintro e E ⟨rfl,p⟩;have l:=F.below p;obtain⟨q,cp,rfl⟩:=Mt l.own;have ad:=Qs l.box;have m:BL E (E.alloc (A #[U Z x] 3)):=Af _ _;have f:=l.below m;have n:=(Ad p m).mono i
 go_wp2_with (at_builtin;refine QR _ rfl _ _ 32 rfl B 3 i0 (U Z 0) 1 8 XR N R T C rfl (by decide) (Qa q 0 cp) 0 (([]:List Int).map (U Z)) rfl f.own ⟨E.heap.size,0,I⟩ 1 1 [U Z x] rfl ?qd1 ?qd2 ?qd3 ?qd4 ?qd5 ?qd6 ?_)
 case qd1=>rfl
 case qd2=>exact Tw _ _ _
 case qd3=>intro u X;simp at X;subst X;rfl
 case qd4=>unfold Qu;omega
 case qd5=>omega
 case qd6=>exact Ql i n.size
 intro v7 w7 d c _ r;obtain⟨g7,D,rfl⟩:=Jo d;obtain⟨ac,t⟩:=Ox (x:=x) f d c (by simpa using r);have aa:=Qs t;have ab:=Q2 t;have L:=n.grown c (Ql i n.size) (fun k hk=>KW f.own hk);have M:Below B W (w7.setCell ⟨s,0,I⟩ (Qa (O ⟨g7,0,I⟩) (0+1) D)):=L.setCell f.low _;have z:=Ad p m;have o:V _:=Ty (x:=x) f d c (by simpa using r) z y.out Y hq;go_wp2;go_ret2;exact⟨rfl,o.out.1,o.out.2,M⟩
theorem jA (f:ByteArray) (t B k:Nat) (v:Qb) (d:List Int) (W:S) (a:Nat->Qc) (h:DT W a) (hB:G8 W B t v d) (hs:f.size<=100000) (hl:d.length<=100000) (P Q:Nat) (ac:∀j,P<=j->j<Q->v.ownBlock≠O j) (ak:t<P) (hq:Q<=W.heap.size) (z:d.length=k+1) (al:k<d.length) (hr:(BJ f.data.toList).2=0) :
  Qh G 119 #[H f,J (O ⟨t,0,I⟩)] W fun e w'=>((BJ f.data.toList).1<=d[k]->e=Qg (Qi #[U Z 0,Ae a 9])/\BL W w') /\
   (¬(BJ f.data.toList).1<=d[k]->e=Qg (Qi #[U Z (BJ f.data.toList).1,Qt])/\Gh B t P Q w' (d++ [(BJ f.data.toList).1])/\(∀j,P<=j->j<Q->w'.heap[j]? =W.heap[j]?)/\Below B W w'):=by
 obtain⟨i0,ah,ai,aj,aa⟩:=Tryz.numInfo;have r:=Ov f W a h hs;rw[hr]at r;simp only[Ae]at r;obtain⟨x,hx⟩:∃x,(BJ f.data.toList).1=x:=⟨_,rfl⟩;rw[hx]at r;have M:V ((BJ f.data.toList).1=x):=hx;clear hx hr;have C:B<=W.heap.size:=Ql hB.low (Q8 (Qp hB.box));have X:V (∀j,P<=j->j<Q->v.ownBlock≠O j):=ac
 go_enter QY,Xt
 go_wp2_with fail
 refine r.mono ?_;rintro e q ⟨rfl,p⟩;have s:=hB.below p;have ad:∃g c,v=Qa (O ⟨g,0,I⟩) (k+1) c:=Jo (n:=k) (by rw[<-z];exact s.own);obtain⟨g,cp,rfl⟩:=ad;have aq:=Qs s.box;have ae:A4 q (Qa (O ⟨g,0,I⟩) (k+1) cp) d:=Ow s.own;have p0:q.cell? ⟨g,k,I⟩=O (U Z d[k]):=by
  rcases ae with⟨_,_,e,e'⟩|⟨b,o,ap,e,L⟩
  ·rw[e']at z;simp at z
  ·injection e with e1;injection e1 with e1;injection e1 with e1 e2;subst e1 e2;have:=L k al;simpa using this
 have HY:V (∃y,d[k]=y):=⟨_,rfl⟩;obtain⟨y,hy⟩:=HY.out;have N:V (d[k]=y):=hy;rw[hy]at p0;clear hy HY;have ar:IntKind.i64.wrap (k:Int)=(k:Int):=IntWalk.i64_in _ (by omega);have R:V (d.length<=100000):=hl;clear z hl;by_cases au:x<=y
 ·have ho:=(h.below p).order;go_wp2
  go_quiet (fail)
  go_wp2;go_ret2;refine⟨fun _=>⟨rfl,AK p _⟩,fun h9=>?_⟩;rw[M.out,N.out]at h9;omega
 ·have D:BL q (q.alloc (A #[U Z x] 3)):=Af _ _;have E:Below B W (q.alloc (A #[U Z x] 3)):=(Ad p D).mono C;have m:V (G8 (q.alloc (A #[U Z x] 3)) B t (Qa (O ⟨g,0,I⟩) (k+1) cp) d):=s.below D
  go_wp2_with (at_builtin;refine QR _ rfl _ _ 32 rfl B 3 i0 (U Z 0) 1 8 XR ah ai aj aa rfl (by decide) (Qa (O ⟨g,0,I⟩) (k+1) cp) d.length (d.map (U Z)) rfl m.out.own ⟨q.heap.size,0,I⟩ 1 1 [U Z x] rfl ?qd1 ?qd2 ?qd3 ?qd4 ?qd5 ?qd6 ?_)
  case qd1=>rfl
  case qd2=>exact Tw _ _ _
  case qd3=>intro u hu;simp at hu;subst hu;rfl
  case qd4=>have:=R.out;unfold Qu;omega
  case qd5=>have:=R.out;omega
  case qd6=>exact Ql C E.size
  intro v7 w7 l i _ K;obtain⟨g7,ab,rfl⟩:=Jo l;obtain⟨ao,T⟩:=Ox (x:=x) m.out l i (by simpa using K);have am:=Qs T;have an:=Q2 T;have af:Below B W w7:=E.grown i (Ql C E.size) (fun k z=>KW m.out.own z);have ag:Below B W (w7.setCell ⟨t,0,I⟩ (Qa (O ⟨g7,0,I⟩) (d.length+1) ab)):=af.setCell m.out.low _;have Y:=Ad p D;have F:V _:=Ty (x:=x) m.out l i (by simpa using K) Y X.out ak hq;go_wp2;go_ret2;refine⟨fun h9=>?_,fun _=>⟨by rw[M.out];rfl,by rw[M.out];exact F.out.1,F.out.2,ag⟩⟩;rw[M.out,N.out]at h9;omega
theorem jB (a:Nat->Qc) (g B P Q:Nat) (E:B<=P):Jn AD a (fun W=>DT W a) 119 g B P Q (Gh B g P Q) where
 env:=fun h=>h
 ent:=enters_of QY (by kernel_rfl) rfl
 low:=E
 keep:=fun h c=>h.keep c
 set:=fun j o u h1 h2 h=>h.set j o u h1 h2
 take:=fun W line acc hE hI hQ hs hl=>by
  have y:V (Gh B g P Q W acc):=hI;obtain⟨⟨v,m,z⟩,r,C⟩:=hI;have n:B<=W.heap.size:=Ql m.low (Q8 (Qp m.box));show Qh _ _ _ _ fun e w'=>Below B W w'/\_/\((C6 AD acc line.data.toList≠0/\_)\/(C6 AD acc line.data.toList=0/\_));have b:C6 AD acc line.data.toList=if (BJ line.data.toList).2≠0 then (BJ line.data.toList).2 else if acc≠ []/\decide ((BJ line.data.toList).1<=acc.getLastD 0)=Qd then 9 else 0:=rfl;by_cases i:(BJ line.data.toList).2≠0
  ·rw[if_pos i]at b;refine(iY line g W a hE hs i).mono fun e w' ⟨f,c⟩=>⟨c.mono n,fun j h1 h2=>c.block j (by omega),Qq ⟨by rw[b];exact i,by rw[f,b],y.out.keep c⟩⟩
  ·have p:(BJ line.data.toList).2=0:=XG i;rw[if_neg i]at b;by_cases l:acc= []
   ·subst l;rw[if_neg (by simp)]at b;exact(iZ line g B v W a hE m P Q z r C hs p).mono fun e w' ⟨f,s,t,c⟩=>⟨c,t,Qo ⟨b,f,s⟩⟩
   ·obtain⟨k,D⟩:∃k,acc.length=k+1:=⟨acc.length-1,by have:=XH.2 l;omega⟩;have q:k<acc.length:=by omega
    rw[Tt acc k _ D q]at b;refine(jA line g B k v acc W a hE m hs hl P Q z r C D q p).mono fun e w' ⟨h1,h2⟩=>?_;by_cases c:(BJ line.data.toList).1<=acc[k]
    ·rw[if_pos ⟨l,by simpa using c⟩]at b;obtain⟨f,d⟩:=h1 c;exact⟨d.mono n,fun j q1 q2=>d.block j (by omega),Qq ⟨by rw[b];decide,by rw[f,b],y.out.keep d⟩⟩
    ·rw[if_neg (fun e=>c (by simpa using e.2))]at b;obtain⟨f,s,t,d⟩:=h2 c;exact⟨d,t,Qo ⟨b,f,s⟩⟩
def Oy (w:S) (v:Qb):Prop:= ∀k,v.ownBlock=O k->w.heap.size<=k
def Tz (w:S) (a:Nat->Qc) (D:List Int×Nat×Option Nat) (e:Ending) (w':S):Prop :=
 BL w w'/\((D.2.1=0/\∃v,e=Qg (Qi #[v,Qt])/\A4 w' v D.1/\Oy w v) \/
  (D.2.1≠0/\D.1= []/\D.2.2=I/\e=Qg (Qi #[Qa I 0 0,Ae a D.2.1])) \/
  (D.2.1≠0/\D.1= []/\∃at_,D.2.2=O at_/\∃fb,e=Qg (Qi #[Qa I 0 0,Qf 140 (J (O ⟨fb,0,I⟩))])/\w'.cell? ⟨fb,0,I⟩=O (U Z at_)/\w'.cell? ⟨fb,1,I⟩=O (Ae a D.2.1)))
theorem Oz (s:ByteArray) (w:S) (a:Nat->Qc) (h:DT w a) (hs:s.size<=Qu) :
  Qh G 62 #[H s] w fun e w'=>Tz w a (B8 s.data.toList) e w':=by
 have g:BL w (w.alloc (A #[Qa I 0 0] 32)):=Af _ _;have m:G8 (w.alloc (A #[Qa I 0 0] 32)) w.heap.size w.heap.size (Qa I 0 0) []:=⟨Q0 _ _,Xk _ _ _ _,by simp[QF],QG _⟩;have t:(w.alloc (A #[Qa I 0 0] 32)).heap.size=w.heap.size+1:=by simp
 have i:=Tq AD ⟨#[103,111,110,101]⟩ s rfl (w.alloc (A #[Qa I 0 0] 32)) a (fun W=>DT W a) 119 w.heap.size w.heap.size (fun Q=>Gh w.heap.size w.heap.size (w.heap.size+1) Q) (by omega) (fun W' hW=>h.below (g.trans hW))
  (fun Q=>by rw[t];exact jB a w.heap.size w.heap.size (w.heap.size+1) Q (QA _))
  (fun Q W' hW hQ=>⟨⟨_,m.below hW,fun j _ _=>by simp[QF]⟩,QH _,hQ⟩) hs
 have M:B8 s.data.toList=BS AD s.data.toList:=rfl;rw[M];generalize BS AD s.data.toList=D at i ⊢
 go_enter func62,ntmps62
 go_wp2_with fail
 refine i.mono ?_;rintro e F ⟨K,n⟩;have c:BL w F:=g.trans K;rcases n with⟨f,rfl,Q,o⟩|⟨f,p,r,rfl⟩|⟨f,p,L,r,X,rfl,Y,c1⟩
 ·obtain⟨⟨v,b,_⟩,_,_⟩:=o;have N:=Qs b.box;have u:=Ow b.own;obtain⟨q,y,rfl⟩:=Mt b.own;have l:V (A4 F (Qa q D.1.length y) D.1):=u;have d:V (Oy w (Qa q D.1.length y)):=fun k hk=>(b.own.lt k hk).1;obtain⟨z,B⟩:∃z,D.1.length=z:=⟨_,rfl⟩;rw[B]at N l d;go_wp2;go_ret2;exact⟨c,Qq ⟨f,_,rfl,l.out,d.out⟩⟩
 ·obtain⟨E,C⟩:∃E,D.2.1=E+1:=⟨D.2.1-1,by omega⟩;have P:V _:=C;rw[C];simp only[Ae];go_wp2;go_ret2;exact⟨c,Qo (Qq ⟨f,p,r,by rw[P.out];rfl⟩)⟩
 ·have R:V _:=Y;have T:V _:=c1;go_wp2;go_ret2;exact⟨c,Qo (Qo ⟨f,p,L,r,X,rfl,R.out,T.out⟩)⟩
structure G9 (w:S) (a:Nat->Qc):Prop where
 data:DI w a
 kind:w.cell? ⟨8,0,I⟩=O (Qf 410 (J (O (a 3))))
theorem G9.below {w w':S} {a:Nat->Qc} (h:G9 w a) (b:BL w w'):G9 w' a:=⟨h.data.below b,Aa b h.kind⟩
structure Df (w:S) (a:Nat->Qc):Prop where
 base:DR w
 bound:w.cell? ⟨1,0,I⟩=O (Qf 410 (J (O (a 1))))
 name:w.cell? ⟨10,0,I⟩=O (Qf 410 (J (O (a 4))))
theorem Df.below {w w':S} {a:Nat->Qc} (h:Df w a) (b:BL w w'):Df w' a:=⟨h.base.below b,Aa b h.bound,Aa b h.name⟩
theorem Bl.n {w:S} {a:Nat->Qc} (h:Bl w a):Df w a:=⟨h.s,h.bound,h.name⟩
structure Hb (w:S) (a:Nat->Qc):Prop where
 env:Df w a
 kind:w.cell? ⟨8,0,I⟩=O (Qf 410 (J (O (a 3))))
theorem Hb.below {w w':S} {a:Nat->Qc} (h:Hb w a) (b:BL w w'):Hb w' a:=⟨h.env.below b,Aa b h.kind⟩
theorem G9.lean {w:S} {a:Nat->Qc} (h:G9 w a):Hb w a:=⟨h.data.env.n,h.kind⟩
structure Kh (w:S) (a:Nat->Qc):Prop where
 file:Hb w a
 text:w.cell? ⟨4,0,I⟩=O (Qf 410 (J (O (a 0))))
theorem Kh.below {w w':S} {a:Nat->Qc} (h:Kh w a) (b:BL w w'):Kh w' a:=⟨h.file.below b,Aa b h.text⟩
theorem Kh.weak {w:S} {a:Nat->Qc} (h:Kh w a):Cd w a:=⟨h.text,h.file.env.bound,h.file.env.base.maxl,h.file.env.base.syn,h.file.env.base.tab⟩
def A6 (f:Fl):Qb:=Qe #[H f.1,H f.2.1,U Z f.2.2.1,U Z f.2.2.2.1,U Z f.2.2.2.2.1,U Z f.2.2.2.2.2]
theorem O0 (n:Int) (w:S):Qh G 310 #[U Z n] w fun e w'=>e=Qg (Qn (Do n))/\w'=w:=by
 by_cases c:1<=n
 ·by_cases d:n<=1073741824
  ·have b:Do n=Qd:=by simp[Do,c,d]
   rw[b]
   go_enter Xu,Xv
   go_wp2;go_ret;exact⟨rfl,rfl⟩
  ·have b:Do n=Qj:=by simp[Do,d]
   rw[b]
   go_enter Xu,Xv
   go_wp2;go_ret;exact⟨rfl,rfl⟩
 ·have b:Do n=Qj:=by simp[Do,c]
  rw[b]
  go_enter Xu,Xv
  go_wp2;go_ret;exact⟨rfl,rfl⟩
theorem Mu {s:List UInt8} (h:AB s=I):EZ s=([],0,5):=by unfold EZ;rw[h]
theorem Jp {s:List UInt8} {g:Bool} {n:Int} (h:AB s=O (g,n)):EZ s=(AH g,n,0):=by unfold EZ;rw[h]
theorem BT (l:List UInt8):(Ab l).data.toList=l:=by simp[Ab]
theorem KX (p:ByteArray) (w:S) (a:Nat->Qc) (h:Df w a) (hp:p.size<=100000) :
  Qh G 224 #[H p] w fun e w'=>e=Qg (Qi #[H (Ab (EZ p.data.toList).1),U Z (EZ p.data.toList).2.1,Ae a (EZ p.data.toList).2.2])/\BL w w':=by
 obtain⟨m,hm⟩:=h.base.maxl;have hcut:=strings_Cut p ⟨#[47]⟩ m w (by omega) hm;have E:=eY p.data.toList;have N:(QC p.data.toList [47]).2.1.length<=p.size:=by
  rw[<-AC];rcases Hx 47 p.data.toList with⟨_,u⟩|⟨x,y,ac,_,u⟩
  ·rw[u];simp
  ·rw[u,ac];simp;omega
 have eK:(⟨(QC p.data.toList [47]).1.toArray⟩:ByteArray)=Ab (QC p.data.toList [47]).1:=rfl;have eW:(⟨(QC p.data.toList [47]).2.1.toArray⟩:ByteArray)=Ab (QC p.data.toList [47]).2.1:=rfl;rw[eK,eW]at hcut;generalize QC p.data.toList [47]=C at hcut E N;obtain⟨o,L,ae⟩:=C;dsimp only at hcut E N;have F:=fun W (hW:DR W)=>LQ (Ab L) W hW (by rw[De];unfold Qu;omega);rw[BT]at F;have c:(Ab o).data.toList=o:=BT o;generalize ad:Ab o=D at hcut c;have aa:V _:=ad;have P:V _:=E
 go_enter func224,ntmps224
 go_wp2_with fail
 refine hcut.mono ?_;rintro e w1 ⟨rfl,q,rfl⟩;have z:BL w (w.drewN q):=AK (Q9 _ _) q;have i:=F _ (h.below z).base;have ab:∀(b:Bool),AB p.data.toList=I->∀W,BL w W->(Qg (Qi #[H ⟨#[]⟩,U Z 0,Qf 410 (J (O (a 4)))])=Qg (Qi #[H (Ab (EZ p.data.toList).1),U Z (EZ p.data.toList).2.1,Ae a (EZ p.data.toList).2.2])/\BL w W):=fun _ hp0 W hW=>by
  rw[Mu hp0];exact⟨rfl,hW⟩
 have r:V _:=ab;by_cases Y:∃g,o=AH g
 ·obtain⟨g,f⟩:=Y;unfold Dn at i;have HP:V (AB p.data.toList=(Ev L).map fun n=>(g,n)):=by
   show _=_;rw[P.out];cases g
   ·rw[if_pos (show o=Ee from f)]
   ·rw[if_neg (by rw[f];decide),if_pos (show o=Ef from f)]
  cases M:At L with
  | none =>
   rw[M]at i;have v:V (AB p.data.toList=I):=by
    show _=_;rw[HP.out];unfold Ev;rw[M];rfl
   go_wp2_with fail
   refine i.mono ?_;rintro e w2 ⟨rfl,t⟩;have d:=Ad z t;have et:=(h.below d).name;cases g
   ·have k:=CQ (c.trans f);simp only[AH,QZ,if_false,Ee]at k;go_wp2
    go_region
    go_wp2
    go_ret3
    exact r.out Qd v.out _ d.drew
   ·have k:=BD (s:=D) (l:= [100,97,116,97]) (by rw[c,f];decide);have B:=CQ (c.trans f);simp only[AH,if_true,Ef]at B;go_wp2
    go_region
    go_wp2
    go_ret3
    exact r.out Qd v.out _ d.drew
  | some n =>
   rw[M]at i;have v:V _:=M
   go_wp2_with fail
   refine i.mono ?_;rintro e w2 ⟨rfl,t⟩;have d:=Ad z t;have et:=(h.below d).name;have j:=O0 n w2
   cases u:Do n with
   | false =>
    rw[u]at j;have K:V (AB p.data.toList=I):=by
     show _=_;rw[HP.out];unfold Ev;rw[v.out];simp[u]
    cases g
    ·have k:=CQ (c.trans f);simp only[AH,QZ,if_false,Ee]at k
     go_wp2_with (go_at_call 310;refine j.mono ?_;rintro e w' ⟨rfl,rfl⟩)
     go_region
     go_wp2
     go_ret3
     exact r.out Qd K.out _ d.drew
    ·have k:=BD (s:=D) (l:= [100,97,116,97]) (by rw[c,f];decide);have B:=CQ (c.trans f);simp only[AH,if_true,Ef]at B
     go_wp2_with (go_at_call 310;refine j.mono ?_;rintro e w' ⟨rfl,rfl⟩)
     go_region
     go_wp2
     go_ret3
     exact r.out Qd K.out _ d.drew
   | true =>
    rw[u]at j;have K:V (AB p.data.toList=O (g,n)):=by
     show _=_;rw[HP.out];unfold Ev;rw[v.out];simp[u]
    have Q:V (D=Ab (AH g)):=by
     show _=_;rw[<-aa.out,f]
    cases g
    ·have k:=CQ (c.trans f);simp only[AH,QZ,if_false,Ee]at k
     go_wp2_with (go_at_call 310;refine j.mono ?_;rintro e w' ⟨rfl,rfl⟩)
     go_ret3
     exact⟨by rw[Jp K.out,Q.out];rfl,d⟩
    ·have k:=BD (s:=D) (l:= [100,97,116,97]) (by rw[c,f];decide);have B:=CQ (c.trans f);simp only[AH,if_true,Ef]at B
     go_wp2_with (go_at_call 310;refine j.mono ?_;rintro e w' ⟨rfl,rfl⟩)
     go_ret3
     exact⟨by rw[Jp K.out,Q.out];rfl,d⟩
 ·have T:o≠Ee:=fun e=>Y ⟨Qj,e⟩;have X:o≠Ef:=fun e=>Y ⟨Qd,e⟩;have v:V (AB p.data.toList=I):=by
   show _=_;rw[P.out,if_neg T,if_neg X]
  have k:=BD (s:=D) (l:= [100,97,116,97]) (by rw[c];exact T);have B:=BD (s:=D) (l:= [103,111,110,101]) (by rw[c];exact X);generalize Dn L=R at i;obtain⟨nv,bv⟩:=R
  go_wp2_with fail
  refine i.mono ?_;rintro e w2 ⟨rfl,t⟩;have d:=Ad z t;have et:=(h.below d).name;go_wp2
  go_region
  go_wp2
  go_ret3
  exact r.out Qd v.out _ d.drew
theorem jC (p:ByteArray) (w:S) (a:Nat->Qc) (h:Bl w a) (b:p.size<=100000) :
  Qh G 224 #[H p] w fun e w'=>e=Qg (Qi #[H (Ab (EZ p.data.toList).1),U Z (EZ p.data.toList).2.1,Ae a (EZ p.data.toList).2.2])/\BL w w' :=
 KX p w a h.n b
theorem jD (g:Bool) (q:ByteArray) (w:S) (i:q.size<=Qu) :
  Qh G 309 #[H (Ab (AH g)),H q] w fun e w'=>e=Qg (Qn (Dz g q.data.toList))/\w'=w:=by
 cases g
 ·have c:Qh G 276 #[H q,U Z 12] w fun e w'=>e=Qg (Qn (Dz Qj q.data.toList))/\w'=w:=NM q 12 w i (by omega);have d:=BD (s:=Ab (AH Qj)) (l:= [103,111,110,101]) (by rw[BT];decide)
  go_enter Xw,Xx
  go_wp2_with (go_at_call 276;refine c.mono ?_;rintro e w' ⟨rfl,rfl⟩)
  go_ret;exact⟨rfl,rfl⟩
 ·have d:=CQ (s:=Ab (AH Qd)) (l:= [103,111,110,101]) (by rw[BT];rfl);by_cases h:q.data.toList= [45]
  ·have b:Dz Qd q.data.toList=Qd:=by simp[Dz,h]
   rw[b];have f:=CQ h
   go_enter Xw,Xx
   go_wp2;go_ret;exact⟨rfl,rfl⟩
  ·have b:Dz Qd q.data.toList=Qj:=by simp[Dz,h]
   rw[b];have f:=BD h
   go_enter Xw,Xx
   go_wp2;go_ret;exact⟨rfl,rfl⟩
def A1 (W:S) (b:Nat) (f:Fl):Prop:=W.heap[b]? =O (A #[H f.1,H f.2.1,U Z f.2.2.1,U Z f.2.2.2.1,U Z f.2.2.2.2.1,U Z f.2.2.2.2.2] 77 (0,0))
theorem A1.lt {W:S} {b:Nat} {f:Fl} (h:A1 W b f):b<W.heap.size:=Qp h
theorem A1.below {W c:S} {b:Nat} {f:Fl} (h:A1 W b f) (d:BL W c):A1 c b f:=(d.block b h.lt).trans h
theorem A1.cells {W:S} {b:Nat} {f:Fl} (h:A1 W b f):W.cell? ⟨b,0,I⟩=O (H f.1)/\W.cell? ⟨b,1,I⟩=O (H f.2.1)/\W.cell? ⟨b,2,I⟩=O (U Z f.2.2.1)/\W.cell? ⟨b,3,I⟩=O (U Z f.2.2.2.1)/\W.cell? ⟨b,4,I⟩=O (U Z f.2.2.2.2.1)/\W.cell? ⟨b,5,I⟩=O (U Z f.2.2.2.2.2)/\∀o,W.frozen? ⟨b,o,I⟩=Qj:=by
 exact⟨by rw[Qv _ _ _ _ _ _ h];rfl,by rw[Qv _ _ _ _ _ _ h];rfl,by rw[Qv _ _ _ _ _ _ h];rfl,by rw[Qv _ _ _ _ _ _ h];rfl,by rw[Qv _ _ _ _ _ _ h];rfl,by rw[Qv _ _ _ _ _ _ h];rfl,fun o=>frozen_of_row _ _ _ _ _ h⟩
theorem A1.new (w:S) (f:Fl):A1 (w.alloc (A #[H f.1,H f.2.1,U Z f.2.2.1,U Z f.2.2.2.1,U Z f.2.2.2.2.1,U Z f.2.2.2.2.2] 77)) w.heap.size f:=Q0 _ _
theorem Mv (f:Fl) (w:S) (a:Nat->Qc) (h:Hb w a) (h1:f.1.size<=100000) (h2:f.2.1.size<=100000) :
  Qh G 222 #[A6 f] w fun e w'=>e=Qg (Ae a (Au f))/\BL w w':=by
 have s:BL w (w.alloc (A #[H f.1,H f.2.1,U Z f.2.2.1,U Z f.2.2.2.1,U Z f.2.2.2.2.1,U Z f.2.2.2.2.2] 77)):=Af _ _;have C:=A1.new w f;obtain⟨p,q,n,i,j,d⟩:=f;dsimp only at h1 h2 s;have D:=KX p _ a (h.below s).env h1;unfold A6;dsimp only;generalize hE:Au (p,q,n,i,j,d)=E;have N:V _:=hE
 go_enter func222,ntmps222
 go_wp2_with fail
 generalize w.alloc (A #[H p,H q,U Z n,U Z i,U Z j,U Z d] 77)=WA at s C D ⊢;refine D.mono ?_;rintro e w1 ⟨rfl,L⟩;have b:=Ad s L;have M:=C.below L;obtain⟨c0,c1,c2,c3,c4,c5,cf⟩:=M.cells;dsimp only at c0 c1 c2 c3 c4 c5
 cases B:AB p.data.toList with
 | none =>
  have c:E=5:=by rw[<-N.out];unfold Au;dsimp only;rw[B]
  subst c;rw[Mu B];simp only[Ae];go_wp2;go_ret;exact⟨rfl,b⟩
 | some gn =>
  obtain⟨g,k⟩:=gn;rw[Jp B];have F:V (E=if Dz g q.data.toList then (if Db (p,q,n,i,j,d) then 0 else 2) else 4):=by
   show _=_;rw[<-N.out];unfold Au;dsimp only;rw[B]
  simp only[Ae];have P:=jD g q w1 (by unfold Qu;omega)
  go_wp2_with fail
  refine P.mono ?_;rintro e w2 ⟨rfl,aa⟩;rw[aa];have ek:=(h.below b).kind;have eb:=(h.below b).env.bound
  cases v:Dz g q.data.toList with
  | false =>
   have c:=F.out;rw[v]at c;simp only[QZ,if_false]at c;subst c;go_wp2;go_ret;exact⟨rfl,b⟩
  | true =>
   have c:=F.out;rw[v,if_pos rfl]at c;have Q:V _:=c;clear c v;have K:Db (p,q,n,i,j,d)=Qj->E=2:=fun hb=>by rw[Q.out,hb];rfl
   have l:V (Db (p,q,n,i,j,d)=Qj->E=2):=K;clear K;by_cases R:1<=n
   ·by_cases T:n<=40
    ·have r:=fun W=>GS i W;have t:=fun W=>GS j W
     cases m:Aq i with
     | false =>
      obtain rfl:=l.out (by simp[Db,m]);rw[m]at r;clear m
      go_wp2_with (go_at_call 115;refine(r _).mono ?_;rintro e w' ⟨rfl,rfl⟩)
      go_ret;exact⟨rfl,b⟩
     | true =>
      rw[m]at r
      cases o:Aq j with
      | false =>
       obtain rfl:=l.out (by simp[Db,o]);rw[o]at t;clear m o
       go_wp2_with (first | (go_at_call 115;refine(r _).mono ?_;rintro e w' ⟨rfl,rfl⟩) | (go_at_call 115;refine(t _).mono ?_;rintro e w' ⟨rfl,rfl⟩))
       go_ret;exact⟨rfl,b⟩
      | true =>
       rw[o]at t;by_cases X:i<=j
       ·have Y:¬j<i:=by omega
        have y:=fun W=>O0 d W
        cases u:Do d with
        | false =>
         obtain rfl:=l.out (by simp[Db,u]);rw[u]at y;clear m o u
         go_wp2_with (first | (go_at_call 115;refine(r _).mono ?_;rintro e w' ⟨rfl,rfl⟩) | (go_at_call 115;refine(t _).mono ?_;rintro e w' ⟨rfl,rfl⟩) | (go_at_call 310;refine(y _).mono ?_;rintro e w' ⟨rfl,rfl⟩))
         go_ret;exact⟨rfl,b⟩
        | true =>
         have z:E=0:=by
          rw[Q.out,if_pos];simp[Db,R,T,m,o,X,u]
         subst z;rw[u]at y;clear m o u
         go_wp2_with (first | (go_at_call 115;refine(r _).mono ?_;rintro e w' ⟨rfl,rfl⟩) | (go_at_call 115;refine(t _).mono ?_;rintro e w' ⟨rfl,rfl⟩) | (go_at_call 310;refine(y _).mono ?_;rintro e w' ⟨rfl,rfl⟩))
         go_ret;exact⟨rfl,b⟩
       ·obtain rfl:=l.out (by simp[Db,X]);have Y:j<i:=by omega
        clear m o
        go_wp2_with (first | (go_at_call 115;refine(r _).mono ?_;rintro e w' ⟨rfl,rfl⟩) | (go_at_call 115;refine(t _).mono ?_;rintro e w' ⟨rfl,rfl⟩))
        go_ret;exact⟨rfl,b⟩
    ·obtain rfl:=l.out (by simp[Db,T]);have ab:40<n:=by omega
     go_wp2;go_ret;exact⟨rfl,b⟩
   ·obtain rfl:=l.out (by simp[Db,R]);have ac:n<1:=by omega
    go_wp2;go_ret;exact⟨rfl,b⟩
def Bv (f:Fl):List Qb:= [H f.1,H f.2.1,U Z f.2.2.1,U Z f.2.2.2.1,U Z f.2.2.2.2.1,U Z f.2.2.2.2.2]
def F6 (w:S) (b o:Nat) (fs:List Fl):Prop :=
 ∀j (h:j<fs.length),w.cell? ⟨b,o+j*6,I⟩=O (H fs[j].1)/\w.cell? ⟨b,o+j*6+1,I⟩=O (H fs[j].2.1)/\w.cell? ⟨b,o+j*6+2,I⟩=O (U Z fs[j].2.2.1)/\w.cell? ⟨b,o+j*6+3,I⟩=O (U Z fs[j].2.2.2.1)/\w.cell? ⟨b,o+j*6+4,I⟩=O (U Z fs[j].2.2.2.2.1)/\w.cell? ⟨b,o+j*6+5,I⟩=O (U Z fs[j].2.2.2.2.2)
def Ai (w:S) (v:Qb) (fs:List Fl):Prop :=
 (∃p c,v=Qa p 0 c/\(p=I->c=0)/\fs= [])\/∃b o cap,v=Qa (O ⟨b,o,I⟩) fs.length cap/\fs.length<=cap/\F6 w b o fs
theorem F6.below {w w':S} {b o:Nat} {d:List Fl} (h:F6 w b o d) (c:BL w w'):F6 w' b o d :=
 fun j hj=>⟨Aa c (h j hj).1,Aa c (h j hj).2.1,Aa c (h j hj).2.2.1,Aa c (h j hj).2.2.2.1,Aa c (h j hj).2.2.2.2.1,Aa c (h j hj).2.2.2.2.2⟩
theorem Ai.below {w w':S} {v:Qb} {d:List Fl} (h:Ai w v d) (j:BL w w'):Ai w' v d:=by
 rcases h with h | ⟨b,o,c,f,g,i⟩
 ·exact Qq h
 ·exact Qo ⟨b,o,c,f,g,i.below j⟩
theorem Ai.form {w:S} {v:Qb} {d:List Fl} (h:Ai w v d):∃p c,v=Qa p d.length c:=by
 rcases h with⟨p,c,rfl,_,rfl⟩|⟨b,o,f,rfl,_⟩
 ·exact⟨_,_,rfl⟩
 ·exact⟨_,_,rfl⟩
theorem Ai.cells {w:S} {q:Option Qc} {n c:Nat} {d:List Fl} (h:Ai w (Qa q n c) d) (f:d≠ []):∃b o,q=O ⟨b,o,I⟩/\F6 w b o d:=by
 rcases h with⟨_,_,_,_,e⟩|⟨b,o,i,e,_,g⟩
 ·exact absurd e f
 ·simp only[Xy]at e;exact⟨b,o,e.1,g⟩
theorem Ai.room {w:S} {q:Option Qc} {n c:Nat} {d:List Fl} (h:Ai w (Qa q n c) d):n=d.length/\(d≠ []->n<=c):=by
 rcases h with⟨p,i,e,_,rfl⟩|⟨b,o,g,e,f,j⟩
 ·simp only[Xy]at e;exact⟨e.2.1,fun h=>absurd rfl h⟩
 ·simp only[Xy]at e;obtain⟨_,rfl,rfl⟩:=e;exact⟨rfl,fun _=>f⟩
def Ay (fs:List Fl):List Qb:=fs.flatMap Bv
theorem Ki (f:Fl):(Bv f).length=6:=rfl
theorem Ic (f:Fl):∀u∈Bv f,u.oneCell'=Qd:=by
 intro u b;simp only[Bv,List.mem_cons,List.not_mem_nil,or_false]at b;rcases b with rfl | rfl | rfl | rfl | rfl | rfl<;>rfl
theorem E5:∀fs:List Fl,(Ay fs).length=fs.length*6
 | []=>rfl
 | f :: fs=>by
  have:=E5 fs;simp only[Ay,Xa,Q1,QI]at *;rw[this,Ki];omega
theorem jE (d:List Fl):∀u∈Ay d,u.oneCell'=Qd:=by
 intro u b;simp only[Ay,List.mem_flatMap]at b;obtain⟨f,_,c⟩:=b;exact Ic f u c
theorem Id (xs ys:List Fl):Ay (xs++ys)=Ay xs++Ay ys:=by simp[Ay]
theorem KY:∀(fs:List Fl) (j c:Nat) (h:j<fs.length),c<6->(Ay fs)[j*6+c]? =(Bv fs[j])[c]?
 | [],j,_,h,_=>by simp at h
 | f :: fs,0,c,_,hc=>by
  simp only[Ay,Xa,Nat.zero_mul,Qw,Xb];rw[List.getElem?_append_left (by rw[Ki];exact hc)]
 | f :: fs,j+1,c,h,hc=>by
  have b:j<fs.length:=by simp at h;omega
  have:=KY fs j c b hc;simp only[Ay,Xa,XS]at *;rw[List.getElem?_append_right (by rw[Ki];omega),Ki,show (j+1)*6+c-6=j*6+c by omega];exact this
theorem jF {w:S} {b o:Nat} {f:List Fl} (h:F6 w b o f):∀t u,(Ay f)[t]? =O u->w.cell? ⟨b,o+t,I⟩=O u:=by
 intro t u c;have j:t<(Ay f).length:=by
  rcases Qx t (Ay f).length with g | g
  ·exact g
  ·rw[XT g]at c;cases c
 rw[E5]at j;have i:t / 6<f.length:=by omega
 have e:t=t / 6*6+t % 6:=by omega
 rw[e,KY f (t / 6) (t % 6) i (by omega)]at c;obtain⟨k,l,m,n,p,q⟩:=h (t / 6) i;have d:t % 6=0\/t % 6=1\/t % 6=2\/t % 6=3\/t % 6=4\/t % 6=5:=by omega
 rcases d with d | d | d | d | d | d<;>rw [d]at c<;>simp only[Bv,List.getElem?_cons_succ,List.getElem?_cons_zero,Yf]at c
 ·rw[<-c,<-k];congr 2;omega
 ·rw[<-c,<-l];congr 2;omega
 ·rw[<-c,<-m];congr 2;omega
 ·rw[<-c,<-n];congr 2;omega
 ·rw[<-c,<-p];congr 2;omega
 ·rw[<-c,<-q];congr 2;omega
theorem T8 {w:S} {b o:Nat} {d:List Fl} (h:∀t u,(Ay d)[t]? =O u->w.cell? ⟨b,o+t,I⟩=O u):F6 w b o d:=fun j hj=>by
 have g:∀c (hc:c<6),w.cell? ⟨b,o+(j*6+c),I⟩=(Bv d[j])[c]? :=fun c hc=>by
  have e:=KY d j c hj hc;have f:c<(Bv d[j]).length:=by rw[Ki];exact hc
  rw[XU f]at e ⊢;exact h _ _ e
 refine⟨?_,?_,?_,?_,?_,?_⟩
 ·simpa [Bv] using g 0 (by omega)
 ·simpa [Bv,QJ] using g 1 (by omega)
 ·simpa [Bv,QJ] using g 2 (by omega)
 ·simpa [Bv,QJ] using g 3 (by omega)
 ·simpa [Bv,QJ] using g 4 (by omega)
 ·simpa [Bv,QJ] using g 5 (by omega)
theorem GA {w:S} {base:Nat} {v:Qb} {n:Nat} {b:List Fl} (h:w.ownsRow base 77 6 v n (Ay b)):Ai w v b/\n=b.length:=by
 obtain⟨k,h⟩:=h;have c:n=b.length:=by rw[E5]at k;omega
 refine⟨?_,c⟩;subst c;rcases h with⟨l,c⟩|⟨g,i,p,rfl,_,m,j,_,_,o⟩
 ·exact Qq ⟨I,0,by rw[l],fun _=>rfl,QT.1 c⟩
 ·refine Qo ⟨g,0,i,rfl,j,T8 fun t u hu=>?_⟩;have f:t<b.length*6:=by
   rw[<-E5];rcases Qx t (Ay b).length with d | d
   ·exact d
   ·rw[XT d]at hu;cases hu
  rw[<-o,Xs,if_pos f]at hu;simp only[Q5,m,Qw];simpa using hu
theorem Tryz.fileInfo3:(Tryz.prog.info? 77).map (fun i=>(i.zero,i.size,i.bytes))=O (O (Qe #[H ⟨#[]⟩,H ⟨#[]⟩,U Z 0,U Z 0,U Z 0,U Z 0]),6,64):=by kernel_rfl
theorem Tryz.fileInfo:∃i0:Xo,Tryz.prog.info? 77=O i0/\i0.zero=O (Qe #[H ⟨#[]⟩,H ⟨#[]⟩,U Z 0,U Z 0,U Z 0,U Z 0])/\i0.size=6/\i0.bytes=64:=by
 obtain⟨i,b,h⟩:=Xp.1 Tryz.fileInfo3;simp only[Prod.mk.injEq]at h;exact⟨i,b,h.1,h.2.1,h.2.2⟩
def Fb (n:Int):Qb:=U Z n
theorem Mw {w:S} {base:Nat} {v:Qb} {zs:List Int} (h:w.ownsRow base 3 1 v zs.length (zs.map Fb)):A4 w v zs:=by
 obtain⟨m,h⟩:=h;rcases h with⟨d,f⟩|⟨g,c,l,rfl,_,i,n,_,_,k⟩
 ·have:zs= []:=QT.1 f;subst this;exact .inl ⟨I,0,d,rfl⟩
 ·refine .inr ⟨g,0,c,rfl,fun j hj=>?_⟩;have b:(zs.map Fb)[j]? =O (U Z zs[j]):=by simp[hj,Fb]
  rw[<-k,Xs,if_pos (by omega)]at b;simp only[Q5,i,Qw];simpa using b
def Jq (W:S) (b:Nat) (f:Fl):S:=(((((W.setCell ⟨b,0,I⟩ (H f.1)).setCell ⟨b,1,I⟩ (H f.2.1)).setCell ⟨b,2,I⟩ (U Z f.2.2.1)).setCell ⟨b,3,I⟩ (U Z f.2.2.2.1)).setCell ⟨b,4,I⟩ (U Z f.2.2.2.2.1)).setCell ⟨b,5,I⟩ (U Z f.2.2.2.2.2)
theorem A1.set {W:S} {b:Nat} {f:Fl} (h:A1 W b f) (c:Fl):A1 (Jq W b c) b c:=by
 unfold A1 Jq at *;rw[QD _ _ _ _ _ _ (QD _ _ _ _ _ _ (QD _ _ _ _ _ _ (QD _ _ _ _ _ _ (QD _ _ _ _ _ _ (QD _ _ _ _ _ _ h)))))];rfl
theorem Mx {W d:S} {B b:Nat} {f:Fl} (h:Below B d W) (c:B<=b):Below B d (Jq W b f):=(((((h.setCell c _).setCell c _).setCell c _).setCell c _).setCell c _).setCell c _
theorem O1 (f:Fl) (w:S) (a:Nat->Qc) (h:Hb w a) (W:f.1.size<=100000) (X:f.2.1.size<=100000) :
  Qh G 242 #[A6 f] w fun e w'=>e=Qg (Qi #[A6 (Eg f).1,Ae a (Eg f).2])/\BL w w':=by
 have i:BL w ((w.alloc (A #[H f.1,H f.2.1,U Z f.2.2.1,U Z f.2.2.2.1,U Z f.2.2.2.2.1,U Z f.2.2.2.2.2] 77)).alloc (A #[H ⟨#[]⟩,H ⟨#[]⟩,U Z 0,U Z 0,U Z 0,U Z 0] 77)):=(Af _ _).alloc (by simp) _;have D:A1 ((w.alloc (A #[H f.1,H f.2.1,U Z f.2.2.1,U Z f.2.2.2.1,U Z f.2.2.2.2.1,U Z f.2.2.2.2.2] 77)).alloc (A #[H ⟨#[]⟩,H ⟨#[]⟩,U Z 0,U Z 0,U Z 0,U Z 0] 77)) w.heap.size f:=(A1.new w f).below (Af _ _);have s:A1 ((w.alloc (A #[H f.1,H f.2.1,U Z f.2.2.1,U Z f.2.2.2.1,U Z f.2.2.2.2.1,U Z f.2.2.2.2.2] 77)).alloc (A #[H ⟨#[]⟩,H ⟨#[]⟩,U Z 0,U Z 0,U Z 0,U Z 0] 77)) (w.heap.size+1) BC:=by
  have:=A1.new (w.alloc (A #[H f.1,H f.2.1,U Z f.2.2.1,U Z f.2.2.2.1,U Z f.2.2.2.2.1,U Z f.2.2.2.2.2] 77)) BC;rw[show (w.alloc (A #[H f.1,H f.2.1,U Z f.2.2.1,U Z f.2.2.2.1,U Z f.2.2.2.2.1,U Z f.2.2.2.2.2] 77)).heap.size=w.heap.size+1 by simp]at this;exact this
 have b:=Mv f _ a (h.below i) W X;unfold Eg;by_cases u:Au f=0
 ·rw[if_pos u];rw[u]at b;obtain⟨p,q,n,l,m,g⟩:=f;unfold A6 at b ⊢;simp only[Ae]at b ⊢
  go_enter func242,ntmps242
  go_wp2_with fail
  refine b.mono ?_;rintro e T ⟨rfl,c⟩;have k:=Ad i c;obtain⟨x0,x1,x2,x3,x4,x5,_⟩:=(D.below c).cells;have d:=s.below c;obtain⟨o,r,y,z,B,C,P⟩:=d.cells;obtain⟨E,F,K,L,M,N,Q⟩:=(d.set (p,q,n,l,m,g)).cells;have t:=Mx (f:=(p,q,n,l,m,g)) k (QA w.heap.size);unfold Jq at E F K L M N Q t;go_wp2;exact XV (v:=Qi #[Qe #[H p,H q,U Z n,U Z l,U Z m,U Z g],Qt]) (by simp[results,XW,go_sem,E,F,K,L,M,N]) rfl ⟨rfl,t⟩
 ·rw[if_neg u];obtain⟨j,R⟩:∃j,Au f=j+1:=⟨Au f-1,by omega⟩;rw[R]at b ⊢;obtain⟨p,q,n,l,m,g⟩:=f;unfold A6 BC at *;simp only[Ae]at b ⊢
  go_enter func242,ntmps242
  go_wp2_with fail
  refine b.mono ?_;rintro e T ⟨rfl,c⟩;have k:=Ad i c;have d:=s.below c;obtain⟨o,r,y,z,B,C,P⟩:=d.cells;simp only[Ab]at o r;have Y:=Ah o;have s1:=Ah r;have s2:=Ah y;have s3:=Ah z;have s4:=Ah B;have s5:=Ah C;go_wp2;exact XV (v:=Qi #[Qe #[H ⟨#[]⟩,H ⟨#[]⟩,U Z 0,U Z 0,U Z 0,U Z 0],Qf 410 (J (O (a j)))]) (by simp[results,XW,go_sem,o,r,y,z,B,C]) rfl ⟨rfl,k⟩
theorem O2 {f:Fl} (h:Au f=0):(Ce f).length<=f.1.size+f.2.1.size+60:=by
 obtain⟨g,n,_,_,j⟩:=D0 h;obtain⟨b,c,d,i⟩:=Mi j;simp only[Aq,Xl,decide_eq_true_eq]at b c d i;have k:=EI _ b.1 b.2;have l:=EI _ c.1 c.2;have m:=EI _ d.1 d.2;have o:=EI _ i.1 i.2;unfold Ce;simp only[Q1,QI,AC];omega
theorem jG (f:Fl) (w:S) (a:Nat->Qc) (h:Hb w a) (R:f.1.size<=100000) (T:f.2.1.size<=100000) :
  Qh G 306 #[A6 f] w fun e w'=>e=Qg (H (Mh f))/\BL w w':=by
 have r:BL w (w.alloc (A #[H f.1,H f.2.1,U Z f.2.2.1,U Z f.2.2.2.1,U Z f.2.2.2.2.1,U Z f.2.2.2.2.2] 77)):=Af _ _;have z:=A1.new w f;have b:=Mv f _ a (h.below r) R T;have B:Au f=0->(Aq f.2.2.1=Qd/\Aq f.2.2.2.1=Qd/\Aq f.2.2.2.2.1=Qd/\Aq f.2.2.2.2.2=Qd):=fun o=>let ⟨_,_,_,_,v⟩:=D0 o;Mi v;have W:=@O2 f;unfold Mh;by_cases o:Au f=0
 ·rw[if_pos o];rw[o]at b;have v:=B o;obtain⟨p,q,n,i,k,c⟩:=f;unfold A6 at b ⊢;simp only[Ae]at b;simp only[Aq,Xl,decide_eq_true_eq]at v
  go_enter func306,ntmps306
  go_wp2_with fail
  refine b.mono ?_;rintro e s ⟨rfl,m⟩;have l:=Ad r m;have C:=(h.below l).env;obtain⟨K,L,M,N,P,Q,_⟩:=(z.below m).cells;generalize w.heap.size=g at K L M N P Q;have X:BL s s:=Q9 _ _
  go_wp2_with fail
  go_region_held3 (fun w'=>w'.cell? ⟨g,0,I⟩=O (H p)/\w'.cell? ⟨g,1,I⟩=O (H q)/\w'.cell? ⟨g,2,I⟩=O (U Z n)/\w'.cell? ⟨g,3,I⟩=O (U Z i)/\w'.cell? ⟨g,4,I⟩=O (U Z k)/\w'.cell? ⟨g,5,I⟩=O (U Z c)/\BL s w')
   (first
    | (go_split_ands;exact⟨Aa d (by assumption),Aa d (by assumption),Aa d (by assumption),Aa d (by assumption),Aa d (by assumption),Aa d (by assumption),XO (by assumption) (d.mono (Xn (by assumption)))⟩)
    | (go_split_ands;exact⟨by go_keep,by go_keep,by go_keep,by go_keep,by go_keep,by go_keep,by assumption⟩)
    | (go_split_ands;exact⟨by go_keep,by go_keep,by go_keep,by go_keep,by go_keep,by go_keep,XP (by assumption)⟩)
    | (go_split_ands;exact⟨by go_keep,by go_keep,by go_keep,by go_keep,by go_keep,by go_keep,Below.alloc (by assumption) (Xn (by assumption)) _⟩))
   (first
    | (go_at_call 86;refine(dA _ _ (C.below (by go_split_ands;assumption)).base (by omega) (by omega)).mono ?_;rintro e y ⟨rfl,d⟩))
  go_split_ands;have D:BL s (y.alloc (A #[H p,H q,H (Ab (Qk n)),H (Ab (Qk i)),H (Ab (Qk k)),H (Ab (Qk c))] 9)):=by assumption
  have E:=Ad l D;have u:(XX ([p,q,Ab (Qk n),Ab (Qk i),Ab (Qk k),Ab (Qk c)].map (·.data.toList)) (⟨#[32]⟩:ByteArray).data.toList)=Ce (p,q,n,i,k,c):=by
   simp[XX,Ce,Ab]
  have t:=strings_Join y.heap.size 0 6 [p,q,Ab (Qk n),Ab (Qk i),Ab (Qk k),Ab (Qk c)] ⟨#[32]⟩ (y.alloc (A #[H p,H q,H (Ab (Qk n)),H (Ab (Qk i)),H (Ab (Qk k)),H (Ab (Qk c))] 9)) (fun j x hx=>by
    rw[Qw,Qv _ _ _ _ _ _ (Q0 _ _)]
    match j,hx with
    | 0,hx=>simp at hx;subst hx;rfl
    | 1,hx=>simp at hx;subst hx;rfl
    | 2,hx=>simp at hx;subst hx;rfl
    | 3,hx=>simp at hx;subst hx;rfl
    | 4,hx=>simp at hx;subst hx;rfl
    | 5,hx=>simp at hx;subst hx;rfl
    | j+6,hx=>simp at hx) (by simp) (by simp) (by simp) (by rw[u];omega)
  rw[u]at t
  go_wp2_with fail
  refine t.mono ?_;rintro e Y ⟨rfl,F⟩;go_wp2;go_ret;exact⟨rfl,(Ad E F)⟩
 ·rw[if_neg o];obtain⟨j,t⟩:∃j,Au f=j+1:=⟨Au f-1,by omega⟩;rw[t]at b;obtain⟨p,q,n,i,k,c⟩:=f;unfold A6 at b ⊢;simp only[Ae]at b
  go_enter func306,ntmps306
  go_wp2_with fail
  refine b.mono ?_;rintro e s ⟨rfl,m⟩;have l:=Ad r m;go_wp2;go_ret;exact⟨rfl,l⟩
theorem jH (f g:Fl) (h:f≠g) (w:S):(binOp .neq 77 (A6 f) (A6 g)).run G w= .ok (Qn Qd) w:=by
 have j:Tryz.prog.underlying 77=O (.struct (Tryz.prog.fieldsOf 77)):=by kernel_rfl
 have k:Tryz.prog.stoodInHeld 77=Qj:=by kernel_rfl
 obtain⟨p,q,n,B,C,v⟩:=f;obtain⟨b,c,D,y,z,o⟩:=g;unfold A6;dsimp only;rw[run_neq_struct,show (10000:Nat)=9999+1 from rfl,run_equalIn_agg w 9999 77 _ _ j k];simp only[Program.fieldsOf,underlying77]
 go_simp
 intro d i r s t u;refine h ?_;rw[ByteArray.toList_eq,ByteArray.toList_eq]at d i;have l:p=b:=by
  cases p;cases b
  simpa using d
 have m:q=c:=by
  cases q;cases c
  simpa using i
 rw[l,m,r,s,t,u]
theorem jI:GuardAt G 77 A6:=GuardAt.agg _ (by kernel_rfl)
theorem Kj (w:S) (f:Fl):∀j u,(Bv f)[j]? =O u->(w.alloc (A #[H f.1,H f.2.1,U Z f.2.2.1,U Z f.2.2.2.1,U Z f.2.2.2.2.1,U Z f.2.2.2.2.2] 77)).cell? ((⟨w.heap.size,0,I⟩:Qc).add j)=O u:=by
 intro j u b;rw[QS,Qw,Qv _ _ _ _ _ _ (Q0 _ _)];rw[<-b];simp[Bv]
def Dp (fs:List Fl) (p:ByteArray):Int:=match fs.findIdx? (fun f=>decide (f.1=p)) with
 | some i=>i
 | none=> -1
theorem My {b:List Fl} {p:ByteArray} {n:Nat} (c:n<b.length) (h:∀j (h:j<b.length),j<n->b[j].1≠p) (e:b[n].1=p):Dp b p=n:=by
 unfold Dp;have:b.findIdx? (fun f=>decide (f.1=p))=O n:=by
  rw[List.findIdx?_eq_some_iff_getElem];exact⟨c,by simpa using e,fun j hj=>by simpa using h j (by omega) hj⟩
 rw[this]
theorem T9 {b:List Fl} {p:ByteArray} (h:∀j (h:j<b.length),b[j].1≠p):Dp b p= -1:=by
 unfold Dp;have:b.findIdx? (fun f=>decide (f.1=p))=I:=by
  rw[List.findIdx?_eq_none_iff];intro f d;obtain⟨j,c,rfl⟩:=XQ.1 d;simpa using h j c
 rw[this]
theorem jJ {b:List Fl} {n:Nat} {p:ByteArray} (h:∀j (h:j<b.length),j<n->b[j].1≠p) (d:n<b.length) (e:b[n].1≠p):∀j (h:j<b.length),j<n+1->b[j].1≠p:=fun j hj hjn=>by
 rcases Qx j n with c | c
 ·exact h j hj c
 ·obtain rfl:j=n:=by omega
  exact e
def kept (P:Fl->Bool) (fs:List Fl) (n:Nat):List Fl:=(fs.take n).filter P
theorem jK (P:Fl->Bool) (b:List Fl):kept P b 0= []:=by simp[kept]
theorem TD (P:Fl->Bool) (b:List Fl) (n:Nat):(kept P b n).length<=n:=by
 have:=List.length_filter_le P (b.take n);rw[List.length_take]at this;unfold kept;omega
theorem KZ (P:Fl->Bool) (b:List Fl) (n:Nat) (h:n<b.length):kept P b (n+1)=if P b[n]=Qd then kept P b n++ [b[n]] else kept P b n:=by
 unfold kept;rw[<-Xm h,List.filter_append];split
 ·rename_i c;rw[List.filter_cons_of_pos c];rfl
 ·rename_i c;rw[List.filter_cons_of_neg c];simp
theorem TH (P:Fl->Bool) (b:List Fl):kept P b b.length=b.filter P:=by unfold kept;rw[List.take_length]
def As (lo hi:Int) (f:Fl):Bool:=decide ((if f.2.2.2.1<lo then lo else f.2.2.2.1)<=(if hi<f.2.2.2.2.1 then hi else f.2.2.2.2.1))
end
theorem Tryz.noUnwrapE (v:Qb) (b:Qz) (w:S):(Xz (Qf 410 v) b 376 Qd).run G w= .ok (Qi #[Qt,Qn Qj]) w:=X0 underlying376 (by kernel_rfl) (by kernel_rfl) v b w
theorem Tryz.noUnwrapsE (v:Qb) (b:Qz) (w:S):(Xz (Qf 410 v) b 377 Qd).run G w= .ok (Qi #[Qt,Qn Qj]) w:=X0 underlying377 (by kernel_rfl) (by kernel_rfl) v b w
theorem Tryz.noAsE (v:Qb) (b:Qz) (w:S):(Xz (Qf 410 v) b 373 Qd).run G w= .ok (Qi #[Qt,Qn Qj]) w:=X0 underlying373 (by kernel_rfl) (by kernel_rfl) v b w
theorem Tryz.valueOf27 (t:Qc) (w:S):(Xc (Qf 271 (J (O t)))).run G w
 = .ok (Qe #[J (O ⟨21,271,I⟩),J (O ⟨w.heap.size,0,I⟩),.int .u64 150]) (w.alloc (A #[J (O t)] 271)):=by kernel_rfl
theorem Tryz.type27 (a : Qc) (w : S) : (X1 (Qy "reflectlite.Value.Type" 0) (fun t _ _ _ => X2 t) #[Qe #[J (O ⟨21, 271, I⟩), J (O a), .int .u64 150]]).run G w
 = .ok (Qf 368 (Qe #[J (O ⟨21,271,I⟩)])) w:=by kernel_rfl
theorem Tryz.methodKind (h : Qb) (w : S) : (Xd 546 368 (Qe #[h]) "Kind").run G w = .ok (404, h) w := by kernel_rfl
theorem Tryz.kind27 (w:S):((Xe fun t=>(fun a:Nat=>U XY (a:Int)) <$> Rtype.kind t) #[J (O ⟨21,271,I⟩)]).run G w= .ok (.int .u8 22) w:=by kernel_rfl
theorem Tryz.kind25 (w:S):((Xe fun t=>(fun a:Nat=>U XY (a:Int)) <$> Rtype.kind t) #[J (O ⟨21,140,I⟩)]).run G w= .ok (.int .u8 22) w:=by kernel_rfl
theorem Tryz.parts27 (a:Qc) (w:S):(X3 (Qe #[J (O ⟨21,271,I⟩),J (O a),.int .u64 150])).run G w= .ok (O (271,a,150)) w:=by kernel_rfl
theorem Tryz.isNil27 (a p:Qc) (W:S) (b:W.cell? a=O (J (O p))) :
  (Q6 (Qy "reflectlite.Value.IsNil" 0) Xf #[Qe #[J (O ⟨21, 271, I⟩), J (O a), .int .u64 150]]).run G W = .ok (Qn Qj) W := by
 delta Q6 XZ
 dsimp only;refine Eq.trans (congrArg (fun z=>Sem.run G z W) (dif_pos rfl)) ?_;simp only[Sem.run_bind,X4,QV,Xb,Tryz.parts27,QE];simp[Xf,X5,isAgg,X6,Ya,b,QE]
theorem Tryz.methodElem (h : Qb) (w : S) : (Xd 546 368 (Qe #[h]) "Elem").run G w = .ok (419, Qe #[h]) w := by kernel_rfl
theorem Tryz.methodImplements (h : Qb) (w : S) : (Xd 546 368 (Qe #[h]) "Implements").run G w = .ok (420, Qe #[h]) w := by kernel_rfl
theorem Tryz.methodAssignableTo (h : Qb) (w : S) : (Xd 546 368 (Qe #[h]) "AssignableTo").run G w = .ok (417, Qe #[h]) w := by kernel_rfl
theorem Tryz.elem27 (w:S):(X7 X8 #[Qe #[J (O ⟨21,271,I⟩)]]).run G w= .ok (Qf 368 (Qe #[J (O ⟨21,140,I⟩)])) w:=by kernel_rfl
theorem Tryz.implements25 (w : S) : (Q7 "Implements" X9 #[Qe #[J (O ⟨21, 140, I⟩)], Qf 368 (Qe #[J (O ⟨21, 27, I⟩)])]).run G w = .ok (Qn Qd) w := by kernel_rfl
theorem Tryz.typeOf25 (v:Qb) (w:S):(Xg #[Qf 140 v]).run G w= .ok (Qf 368 (Qe #[J (O ⟨21,140,I⟩)])) w:=by kernel_rfl
theorem Tryz.assignable25 (w : S) : (Q7 "AssignableTo" Xh #[Qe #[J (O ⟨21, 140, I⟩)], Qf 368 (Qe #[J (O ⟨21, 140, I⟩)])]).run G w = .ok (Qn Qd) w := by kernel_rfl
theorem Tryz.valueOf25 (e:Qc) (w:S):(Xc (Qf 140 (J (O e)))).run G w
 = .ok (Qe #[J (O ⟨21,140,I⟩),J (O ⟨w.heap.size,0,I⟩),.int .u64 150]) (w.alloc (A #[J (O e)] 140)):=by kernel_rfl
theorem Tryz.elemOf27 (w:S):(Rtype.elem? 271).run G w= .ok (O 140) w:=by kernel_rfl
theorem Tryz.mk25 (p:Qc) (w:S):(Yg 140 p Yb).run G w= .ok (Qe #[J (O ⟨21,140,I⟩),J (O p),.int .u64 406]) w:=by kernel_rfl
theorem Tryz.elemV27 (a p:Qc) (W:S) (b:W.cell? a=O (J (O p))) :
  (Q6 (Qy "reflectlite.Value.Elem" 0) XA #[Qe #[J (O ⟨21, 271, I⟩), J (O a), .int .u64 150]]).run G W
   = .ok (Qe #[J (O ⟨21,140,I⟩),J (O p),.int .u64 406]) W:=by
 delta Q6 XZ
 dsimp only;refine Eq.trans (congrArg (fun z=>Sem.run G z W) (dif_pos rfl)) ?_;simp only[Sem.run_bind,X4,QV,Xb,Tryz.parts27,QE];simp[XA,X5,isAgg,X6,Ya,b,QE,Tryz.elemOf27,Tryz.mk25]
theorem Tryz.parts25a (a:Qc) (w:S):(X3 (Qe #[J (O ⟨21,140,I⟩),J (O a),.int .u64 406])).run G w= .ok (O (140,a,406)) w:=by kernel_rfl
theorem Tryz.parts25 (a:Qc) (w:S):(X3 (Qe #[J (O ⟨21,140,I⟩),J (O a),.int .u64 150])).run G w= .ok (O (140,a,150)) w:=by kernel_rfl
theorem Tryz.direct25 (w:S):(Rtype.directlyAssignable 140 140).run G w= .ok Qd w:=by kernel_rfl
theorem Tryz.set25 (c b e:Qc) (d:Qb) (W:S) (f:W.cell? b=O (J (O e))) (g:W.cell? c=O d) (i:W.frozen? c=Qj) :
  (XB #[Qe #[J (O ⟨21,140,I⟩),J (O c),.int .u64 406],Qe #[J (O ⟨21,140,I⟩),J (O b),.int .u64 150]]).run G W
   = .ok (Qi #[]) (W.setCell c (J (O e))):=by
 delta XB ReflectliteValue.set.match_3
 dsimp only;refine Eq.trans (congrArg (fun z=>Sem.run G z W) (dif_pos rfl)) ?_;simp only[Sem.run_bind,X4,QV,Xb,XS,Tryz.parts25a,Tryz.parts25,QE];simp[Yb,X5,isAgg,X6,underlying140,f,QE,Tryz.direct25,storeVar,Value.cells,storeCells,Addr.add];rw[run_store G W c _ _ (by rfl)];simp[g,i]
theorem jL (e t:Qc) (c:Qb) (w:S) (g:w.cell? ⟨12,0,I⟩=O (Qf 368 (Qe #[J (O ⟨21,27,I⟩)]))) (d:w.cell? t=O c) (i:w.frozen? t=Qj) :
  Qh G 216 #[Qf 140 (J (O e)),Qf 271 (J (O t))] w fun ev w'=>ev=Qg (Qn Qd)/\w'=((((w.alloc (A #[J (O t)] 271)).alloc (A #[J (O ⟨21,271,I⟩),J (O ⟨w.heap.size,0,I⟩),.int .u64 150] 328)).alloc (A #[J (O ⟨21,271,I⟩),J (O ⟨w.heap.size,0,I⟩),.int .u64 150] 328)).alloc (A #[J (O e)] 140)).setCell t (J (O e)):=by
 have B := @Qm G 300 _ (fun args => Xc (args.getD 0 (Qi #[]))) func300 (by kernel_rfl) (by kernel_rfl) (by kernel_rfl) (by kernel_rfl);have C := @Qm G 301 _ (X1 (Qy "reflectlite.Value.Type" 0) (fun t _ _ _ => X2 t)) func301 (by kernel_rfl) (by kernel_rfl) (by kernel_rfl) (by kernel_rfl);have D := @Qm G 302 _ (Q6 (Qy "reflectlite.Value.IsNil" 0) Xf) func302 (by kernel_rfl) (by kernel_rfl) (by kernel_rfl) (by kernel_rfl);have j := @Qm G 404 _ (Xe fun t => do pure (.int .u8 (← Rtype.kind t))) func404 (by kernel_rfl) (by kernel_rfl) (by kernel_rfl) (by kernel_rfl);have k := @Qm G 419 _ (X7 X8) func419 (by kernel_rfl) (by kernel_rfl) (by kernel_rfl) (by kernel_rfl);have l := @Qm G 420 _ (Q7 "Implements" X9) func420 (by kernel_rfl) (by kernel_rfl) (by kernel_rfl) (by kernel_rfl);have m := @Qm G 346 _ Xg func346 (by kernel_rfl) (by kernel_rfl) (by kernel_rfl) (by kernel_rfl);have n := @Qm G 417 _ (Q7 "AssignableTo" Xh) func417 (by kernel_rfl) (by kernel_rfl) (by kernel_rfl) (by kernel_rfl);have o := @Qm G 347 _ (Q6 (Qy "reflectlite.Value.Elem" 0) XA) func347 (by kernel_rfl) (by kernel_rfl) (by kernel_rfl) (by kernel_rfl);have p := @Qm G 348 _ XB func348 (by kernel_rfl) (by kernel_rfl) (by kernel_rfl) (by kernel_rfl);have E := Tryz.typeOf25;have F := Tryz.methodAssignableTo;have q := Tryz.assignable25;have r := Tryz.valueOf25;have K := Tryz.valueOf27;have L := Tryz.type27;have M := Tryz.methodKind;have N := Tryz.methodElem;have P := Tryz.methodImplements;have s := Tryz.kind27;have u := Tryz.kind25;have v := Tryz.elem27;have y := Tryz.implements25;have Q := Tryz.isNil27 ⟨w.heap.size, 0, I⟩ t ((w.alloc (A #[J (O t)] 271)).alloc (A #[J (O ⟨21, 271, I⟩), J (O ⟨w.heap.size, 0, I⟩), .int .u64 150] 328)) (by simp);have f : 12 < w.heap.size := by
  rcases Qx 12 w.heap.size with h | h
  ·exact h
  ·simp[Q5,QK h]at g
 have z:((w.alloc (A #[J (O t)] 271)).alloc (A #[J (O ⟨21,271,I⟩),J (O ⟨w.heap.size,0,I⟩),.int .u64 150] 328)).cell? ⟨12,0,I⟩=O (Qf 368 (Qe #[J (O ⟨21,27,I⟩)])):=by
  rw[Qr _ _ ⟨12,0,I⟩ (by simp;omega),Qr _ _ ⟨12,0,I⟩ f];exact g
 have b:t.block<w.heap.size:=by
  rcases Qx t.block w.heap.size with h | h
  ·exact h
  ·simp[Q5,QK h]at d
 have R:=Tryz.elemV27 ⟨w.heap.size,0,I⟩ t (((w.alloc (A #[J (O t)] 271)).alloc (A #[J (O ⟨21,271,I⟩),J (O ⟨w.heap.size,0,I⟩),.int .u64 150] 328)).alloc (A #[J (O ⟨21,271,I⟩),J (O ⟨w.heap.size,0,I⟩),.int .u64 150] 328)) (by rw[Qr _ _ ⟨w.heap.size,0,I⟩ (by simp;omega)];simp);have T:=Tryz.set25 t ⟨w.heap.size+1+1+1,0,I⟩ e c ((((w.alloc (A #[J (O t)] 271)).alloc (A #[J (O ⟨21,271,I⟩),J (O ⟨w.heap.size,0,I⟩),.int .u64 150] 328)).alloc (A #[J (O ⟨21,271,I⟩),J (O ⟨w.heap.size,0,I⟩),.int .u64 150] 328)).alloc (A #[J (O e)] 140))
  (by rw[World.cell?_alloc_at _ _ _ _ (by simp)];rfl)
  (by rw[Qr _ _ t (by simp;omega),Qr _ _ t (by simp;omega),Qr _ _ t (by simp;omega),Qr _ _ t b];exact d)
  (by rw[Xi _ _ t (by simp;omega),Xi _ _ t (by simp;omega),Xi _ _ t (by simp;omega),Xi _ _ t (Nat.ne_of_lt b)];exact i)
 go_enter func216,ntmps216
 go_wp2;refine Yc 1 ?_;rw[Yd];go_wp2;go_ret;exact⟨rfl,rfl⟩
theorem Tryz.typeOfE (v:Qb) (w:S):(Xg #[Qf 410 v]).run G w= .ok (Qf 368 (Qe #[J (O ⟨21,410,I⟩)])) w:=by kernel_rfl
theorem Tryz.assignableE (w : S) : (Q7 "AssignableTo" Xh #[Qe #[J (O ⟨21, 410, I⟩)], Qf 368 (Qe #[J (O ⟨21, 140, I⟩)])]).run G w = .ok (Qn Qj) w := by kernel_rfl
theorem jM (e t:Qc) (w:S) (c:w.cell? ⟨12,0,I⟩=O (Qf 368 (Qe #[J (O ⟨21,27,I⟩)]))) :
  Qh G 216 #[Qf 410 (J (O e)),Qf 271 (J (O t))] w fun ev w'=>ev=Qg (Qn Qj)/\w'=(((w.alloc (A #[J (O t)] 271)).alloc (A #[J (O ⟨21,271,I⟩),J (O ⟨w.heap.size,0,I⟩),.int .u64 150] 328)).alloc (A #[J (O ⟨21,271,I⟩),J (O ⟨w.heap.size,0,I⟩),.int .u64 150] 328)):=by
 have q := @Qm G 300 _ (fun args => Xc (args.getD 0 (Qi #[]))) func300 (by kernel_rfl) (by kernel_rfl) (by kernel_rfl) (by kernel_rfl);have r := @Qm G 301 _ (X1 (Qy "reflectlite.Value.Type" 0) (fun t _ _ _ => X2 t)) func301 (by kernel_rfl) (by kernel_rfl) (by kernel_rfl) (by kernel_rfl);have s := @Qm G 302 _ (Q6 (Qy "reflectlite.Value.IsNil" 0) Xf) func302 (by kernel_rfl) (by kernel_rfl) (by kernel_rfl) (by kernel_rfl);have d := @Qm G 404 _ (Xe fun t => do pure (.int .u8 (← Rtype.kind t))) func404 (by kernel_rfl) (by kernel_rfl) (by kernel_rfl) (by kernel_rfl);have f := @Qm G 419 _ (X7 X8) func419 (by kernel_rfl) (by kernel_rfl) (by kernel_rfl) (by kernel_rfl);have g := @Qm G 420 _ (Q7 "Implements" X9) func420 (by kernel_rfl) (by kernel_rfl) (by kernel_rfl) (by kernel_rfl);have i := @Qm G 346 _ Xg func346 (by kernel_rfl) (by kernel_rfl) (by kernel_rfl) (by kernel_rfl);have j := @Qm G 417 _ (Q7 "AssignableTo" Xh) func417 (by kernel_rfl) (by kernel_rfl) (by kernel_rfl) (by kernel_rfl);have u := Tryz.typeOfE;have v := Tryz.methodAssignableTo;have k := Tryz.assignableE;have y := Tryz.noAsE;have z := Tryz.noUnwrapE;have B := Tryz.noUnwrapsE;have C := Tryz.valueOf27;have D := Tryz.type27;have E := Tryz.methodKind;have F := Tryz.methodElem;have K := Tryz.methodImplements;have l := Tryz.kind27;have m := Tryz.kind25;have n := Tryz.elem27;have o := Tryz.implements25;have L := Tryz.isNil27 ⟨w.heap.size, 0, I⟩ t ((w.alloc (A #[J (O t)] 271)).alloc (A #[J (O ⟨21, 271, I⟩), J (O ⟨w.heap.size, 0, I⟩), .int .u64 150] 328)) (by simp);have b : 12 < w.heap.size := by
  rcases Qx 12 w.heap.size with h | h
  ·exact h
  ·simp[Q5,QK h]at c
 have p:((w.alloc (A #[J (O t)] 271)).alloc (A #[J (O ⟨21,271,I⟩),J (O ⟨w.heap.size,0,I⟩),.int .u64 150] 328)).cell? ⟨12,0,I⟩=O (Qf 368 (Qe #[J (O ⟨21,27,I⟩)])):=by
  rw[Qr _ _ ⟨12,0,I⟩ (by simp;omega),Qr _ _ ⟨12,0,I⟩ b];exact c
 go_enter func216,ntmps216
 go_wp2;refine Yc 1 ?_;rw[Yd];go_wp2;go_ret;exact⟨rfl,rfl⟩
def jN:Nat->Nat
 | 0=>4
 | 1=>1
 | 2=>0
 | 3=>8
 | 4=>10
 | 5=>3
 | 6=>11
 | 7=>6
 | 8=>7
 | 9=>9
 | 10=>2
 | _=>5
structure Hc (W:S) (a:Nat->Qc):Prop where
 cell:∀i,i<12->W.cell? ⟨jN i,0,I⟩=O (Qf 410 (J (O (a i))))
 inj:∀i j,i<12->j<12->a i=a j->i=j
 block:∀i,i<12->∃c t,W.heap[(a i).block]? =O (A c t (0,0))
 handle:W.cell? ⟨12,0,I⟩=O (Qf 368 (Qe #[J (O ⟨21,27,I⟩)]))
def F7 (W:S):Prop:=W.cell? ⟨12,0,I⟩=O (Qf 368 (Qe #[J (O ⟨21,27,I⟩)]))
theorem O3 {W:S} {p:Qc} {v:Qb} (h:W.cell? p=O v):p.block<W.heap.size:=by
 rcases Qx p.block W.heap.size with b | b
 ·exact b
 ·simp[Q5,QK b]at h
theorem jO {W:S} {b:Nat} {o:Obj} (h:W.heap[b]? =O o):b<W.heap.size:=by
 rcases Qx b W.heap.size with c | c
 ·exact c
 ·simp[QK c]at h
theorem F7.below {W b:S} (h:F7 W) (c:BL W b):F7 b:=(c.cell (O3 h)).trans h
theorem Hc.below {W f:S} {a:Nat->Qc} (h:Hc W a) (b:BL W f):Hc f a where
 cell i hi:=by rw[b.cell (O3 (h.cell i hi))];exact h.cell i hi
 inj:=h.inj
 block i hi:=by
  obtain⟨c,t,d⟩:=h.block i hi;exact⟨c,t,by rw[b.block _ (jO d)];exact d⟩
 handle:=by rw[b.cell (O3 h.handle)];exact h.handle
theorem jP (e t:Qc) (w:S) (h:F7 w) :
  Qh G 216 #[Qf 410 (J (O e)),Qf 271 (J (O t))] w fun ev w'=>ev=Qg (Qn Qj)/\BL w w':=by
 refine(jM e t w h).mono fun ev w' ⟨he,hw⟩=>⟨he,?_⟩;subst hw;exact((Af _ _).alloc (by simp) _).alloc (by simp;omega) _
theorem jQ (e:Qc) (w:S) (h:F7 w) :
  Qh G 216 #[Qf 140 (J (O e)),Qf 271 (J (O ⟨w.heap.size,0,I⟩))] (w.alloc (A #[J I] 140)) fun ev w'=>ev=Qg (Qn Qd)/\BL w w'/\w'.cell? ⟨w.heap.size,0,I⟩=O (J (O e)):=by
 have b:BL w (w.alloc (A #[J I] 140)):=Af _ _;refine(jL e ⟨w.heap.size,0,I⟩ (J I) _ (h.below b) (by simp) (by simp)).mono fun ev w' ⟨he,hw⟩=>⟨he,?_,?_⟩
 ·subst hw;exact((((b.alloc (by simp) _).alloc (by simp;omega) _).alloc (by simp;omega) _).alloc (by simp;omega) _).setCell (by simp) _
 ·subst hw;refine World.cell?_setCell_same (u:=J I) _ _ _ ?_;rw[Qr _ _ ⟨w.heap.size,0,I⟩ (by simp;omega),Qr _ _ ⟨w.heap.size,0,I⟩ (by simp;omega),Qr _ _ ⟨w.heap.size,0,I⟩ (by simp;omega),Qr _ _ ⟨w.heap.size,0,I⟩ (by simp)];simp
section
open Go.Lib Go.Shelf Go.Sort
theorem jR (v v':Qb) (d:List Fl) (w:S) (y:Ai w v d) (z:Ai w v' d) (hl:d.length<=20000) :
  Qh G 54 #[v,v'] w fun e w'=>e=Qg (Qn Qd)/\BL w w':=by
 obtain⟨q,r,rfl⟩:=y.form;obtain⟨C,i,rfl⟩:=z.form;have j:V (Ai w (Qa q d.length r) d):=y;have l:V (Ai w (Qa C d.length i) d):=z;obtain⟨L,s⟩:∃L,d.length=L:=⟨_,rfl⟩;have B:V (d.length=L):=s;rw[s]at hl ⊢
 go_enter func54,ntmps54
 go_wp2
 go_loopw [5] (fun k wr=> ∃n:Nat,n<=L/\k=U Z n/\BL w wr) (fun k _=>L-(intOf k).toNat)
 case atStart=>exact ⟨0,by omega,rfl,Q9 _ _⟩
 case round =>
  obtain⟨n,hn,rfl,g⟩:=hrel;by_cases m:n<L
  ·have c:n<d.length:=by rw[B.out];exact m
   obtain⟨b,o,D,E⟩:=(j.out.below g).cells (fun e=>by rw[e]at c;simp at c);obtain⟨b',o',t,u⟩:=(l.out.below g).cells (fun e=>by rw[e]at c;simp at c);subst D t;obtain⟨F,K,M,N,P,Q⟩:=E n c;obtain⟨R,T,W,X,Y,d5⟩:=u n c;generalize d[n]=f at F K M N P Q R T W X Y d5;obtain⟨fp,fq,fn,ab,ac,aa⟩:=f;go_wp2
   go_quiet (fail)
   have p:=AK g nq;go_wp2;go_roundw
   case rel=>exact ⟨n+1,by omega,by go_num,p⟩
   case measure=>simp [intOf];omega
  ·obtain rfl:n=L:=by omega
   go_wp2;go_ret;exact⟨rfl,g⟩
theorem jS (b:List Fl) (n:Nat) (h:n<b.length):AO (b.take (n+1))=AO (b.take n)++(Ce b[n]++ [10]):=by
 have e:=(Xm h).symm;unfold AO;rw[e,List.flatMap_append];simp only[Xa,List.flatMap_nil,List.append_nil]
theorem TI:∀fs:List Fl,(∀f∈fs,Au f=0/\f.1.size<=100/\f.2.1.size<=100)->(AO fs).length<=300*fs.length
 | [],_=>by simp[AO]
 | f :: r,h=>by
  have c:=TI r (fun g hg=>h g (List.mem_cons_of_mem _ hg));obtain⟨b,d,i⟩:=h f List.mem_cons_self;have:=O2 b;have e:AO (f :: r)=Ce f++10 :: AO r:=by simp[AO]
  rw[e,Q1,QI,QI];omega
def ahead (fs:List Fl):Nat->Int
 | 0=>0
 | n+1=>match fs[n]? with
  | some f=>fk f
  | none=>0
theorem TJ {b:List Fl} {n:Nat} (h:n<b.length):ahead b (n+1)=fk b[n]:=by
 show (match b[n]? with
  | some f=>fk f
  | none=>0)=_
 rw[XU h]
def Ie (fs:List Fl) (n:Nat):Prop:=Fa 0 fs 0=Fa (ahead fs n) (fs.drop n) n
theorem jT (b:List Fl):Ie b 0:=rfl
theorem jU {b:List Fl} {n:Nat} (h:Ie b n) (c:n<b.length) (d:Au b[n]≠0):Fa 0 b 0=(Au b[n],O n):=by
 rw[h,QL c];unfold Fa;rw[if_pos d]
theorem jV {b:List Fl} {n:Nat} (h:Ie b n) (c:n<b.length) (d:Au b[n]=0) (f:fk b[n]<=ahead b n):Fa 0 b 0=(9,O n):=by
 rw[h,QL c];unfold Fa;rw[if_neg (by simp[d]),if_pos f]
theorem jW {b:List Fl} {n:Nat} (h:Ie b n) (c:n<b.length) (d:Au b[n]=0) (f:ahead b n<fk b[n]):Ie b (n+1):=by
 unfold Ie at h ⊢;rw[h,TJ c]
 conv=>lhs;rw[QL c]
 conv=>lhs;unfold Fa
 rw[if_neg (by simp[d]),if_neg (by omega)]
theorem jX {b:List Fl} (h:Ie b b.length):Fa 0 b 0=(0,I):=by
 rw[h,Ye];rfl
def A8 (s:Sn) (vf:Qb):Qb:=Qe #[U Z s.1,U Z s.2.1,U Z s.2.2.1,U Z s.2.2.2.1,U Z s.2.2.2.2.1,H s.2.2.2.2.2.1,vf]
def Ao (W:S) (b:Nat) (s:Sn) (vf:Qb):Prop:=W.heap[b]? =O (A #[U Z s.1,U Z s.2.1,U Z s.2.2.1,U Z s.2.2.2.1,U Z s.2.2.2.2.1,H s.2.2.2.2.2.1,vf] 40 (0,0))
theorem Ao.lt {W:S} {b:Nat} {s:Sn} {vf:Qb} (h:Ao W b s vf):b<W.heap.size:=Qp h
theorem Ao.below {W c:S} {b:Nat} {s:Sn} {vf:Qb} (h:Ao W b s vf) (d:BL W c):Ao c b s vf:=(d.block b h.lt).trans h
theorem Ao.cells {W:S} {b:Nat} {s:Sn} {vf:Qb} (h:Ao W b s vf):W.cell? ⟨b,0,I⟩=O (U Z s.1)/\W.cell? ⟨b,1,I⟩=O (U Z s.2.1)/\W.cell? ⟨b,2,I⟩=O (U Z s.2.2.1)/\W.cell? ⟨b,3,I⟩=O (U Z s.2.2.2.1)/\W.cell? ⟨b,4,I⟩=O (U Z s.2.2.2.2.1)/\W.cell? ⟨b,5,I⟩=O (H s.2.2.2.2.2.1)/\W.cell? ⟨b,6,I⟩=O vf:=by
 refine⟨?_,?_,?_,?_,?_,?_,?_⟩<;>rw [Qv _ _ _ _ _ _ h]<;>rfl
theorem Ao.new (w:S) (s:Sn) (vf:Qb):Ao (w.alloc (A #[U Z s.1,U Z s.2.1,U Z s.2.2.1,U Z s.2.2.2.1,U Z s.2.2.2.2.1,H s.2.2.2.2.2.1,vf] 40)) w.heap.size s vf:=Q0 _ _
def Ig (seq:Int) (fs:List Fl) (n:Nat):Prop:=Ez seq fs 0=Ez seq (fs.drop n) n
theorem jY (b:Int) (c:List Fl):Ig b c 0:=rfl
theorem jZ {b:Int} {c:List Fl} {n:Nat} (h:Ig b c n) (d:n<c.length) (e:b<c[n].2.2.2.2.2):Ez b c 0=(9,O n):=by
 rw[h,QL d];unfold Ez;rw[if_pos e]
theorem kC {b:Int} {c:List Fl} {n:Nat} (h:Ig b c n) (d:n<c.length) (e:¬b<c[n].2.2.2.2.2):Ig b c (n+1):=by
 unfold Ig at h ⊢;rw[h]
 conv=>lhs;rw[QL d]
 conv=>lhs;unfold Ez
 rw[if_neg e]
theorem kD {b:Int} {c:List Fl} (h:Ig b c c.length):Ez b c 0=(0,I):=by
 rw[h,Ye];rfl
theorem kE {s:Sn} (b:Ey s=Qd):(Cv s.2.2.2.2.2.1.data.toList=Qj->Am s=(4,I))/\(Cv s.2.2.2.2.2.1.data.toList=Qd->((BK s.2.2.2.2.2.2).1≠0->Am s=BK s.2.2.2.2.2.2)/\((BK s.2.2.2.2.2.2).1=0->Am s=Ez s.2.2.1 s.2.2.2.2.2.2 0)):=by
 unfold Am;rw[if_neg (by rw[b];simp)];refine⟨fun h=>by rw[if_pos h],fun h=>⟨fun h1=>?_,fun h1=>?_⟩⟩
 ·rw[if_neg (by rw[h];simp),if_pos h1]
 ·rw[if_neg (by rw[h];simp),if_neg (by simpa using h1)]
theorem TK {f:Fl} (h:Au f=0):f.1.size<=100/\f.2.1.size<=100:=by
 have b:=SQ h;unfold Ce at b;simp only[Q1,QI,AC]at b;omega
theorem kF (s:Sn) (p q:Qb) (w:S) (v:Ai w p s.2.2.2.2.2.2) (y:Ai w q s.2.2.2.2.2.2) (C:s.2.2.2.2.2.2.length<=20000) :
  Qh G 22 #[A8 s p,A8 s q] w fun e w'=>e=Qg (Qn Qd)/\BL w w':=by
 have r:=fun W (h:BL w W)=>jR p q s.2.2.2.2.2.2 W (v.below h) (y.below h) C;obtain⟨j,k,rfl⟩:=v.form;obtain⟨l,m,rfl⟩:=y.form;obtain⟨g,b,c,d,f,i,o⟩:=s;unfold A8;generalize o.length=L at *;have n:BL w ((w.alloc (A #[U Z g,U Z b,U Z c,U Z d,U Z f,H i,Qa j L k] 40)).alloc (A #[U Z g,U Z b,U Z c,U Z d,U Z f,H i,Qa l L m] 40)):=(Af _ _).alloc (by simp) _;have z:Ao ((w.alloc (A #[U Z g,U Z b,U Z c,U Z d,U Z f,H i,Qa j L k] 40)).alloc (A #[U Z g,U Z b,U Z c,U Z d,U Z f,H i,Qa l L m] 40)) w.heap.size (g,b,c,d,f,i,o) (Qa j L k):=XL w _ _;have B:Ao ((w.alloc (A #[U Z g,U Z b,U Z c,U Z d,U Z f,H i,Qa j L k] 40)).alloc (A #[U Z g,U Z b,U Z c,U Z d,U Z f,H i,Qa l L m] 40)) (w.heap.size+1) (g,b,c,d,f,i,o) (Qa l L m):=XM w _ _;have t:=r _ n;obtain⟨D,E,F,K,M,N,P⟩:=z.cells;obtain⟨Q,R,T,X,Y,b5,b6⟩:=B.cells
 go_enter func22,ntmps22
 go_upto_region 1 with fail
 go_wp2_with fail
 refine t.mono ?_;rintro e w1 ⟨rfl,u⟩;go_wp2;go_ret;exact⟨rfl,(Ad n u)⟩
end
end Go.Proofs.YtcllhobffhkafaaGreatDoor
