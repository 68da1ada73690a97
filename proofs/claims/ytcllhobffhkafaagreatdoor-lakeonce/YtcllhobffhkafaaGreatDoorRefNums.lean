/- By an AI agent. -/
import Derived.Test.YtcllhobffhkafaaGreatDoorDataAll
import Derived.Test.YtcllhobffhkafaaGreatDoorSnapPure
set_option maxRecDepth 100000
set_option maxHeartbeats 16000000
open Go.Proofs.Tryz
open Go renaming World->A,Value->G,Calls->Qa,Addr->Qc,cell_of_one->Qh,cell_regrown->Qi,lt_of_block->Ql,free_of_one->Qo,TypeId->Qq,maxLen->Qt,heap_alloc_new->Q4,ownsRow_setCell_other->Q5,heap_setCell_other->Q7,wpList_append_own_at->Q8
open Go.Ending renaming returned->V
open Go.IntKind renaming i64->U
open Go.Lib renaming compact->Qk,itoa->Qn,IsBuilder->Qy,byteCells->Qz,below_putRow->QE,byteCells_append->QF
open Go.Obj renaming cells->S
open Go.Proofs.Tryz renaming prog->Qb,func353->Qp,ntmps353->Q0,underlying35->Q9
open Go.Sort renaming ahead->Qm,putRow->Qx,holds_putRow->QD
open Go.Value renaming int->O,string->J,slice->H,tuple->Qd,pointer->Qf,nilIface->Qr,iface->Q2,ownBlock->Q3
open Go.World renaming setCell->Q6,cell?_of_block->QA,cell?_setCell_other->QB,ownsRow_nil->QC
open Nat renaming le_trans->Qe,zero_add->Qs,le_refl->Qu,le_succ->Qv,lt_succ_self->Qw,le_of_lt->Q1
open Option renaming none->Z,some->I,map_eq_some_iff->QG
open Or renaming inr->Qg,inl->Qj
namespace Go.Proofs.YtcllhobffhkafaaGreatDoor
open Go.RowKit Go.Extern.Stop Go.Stop Go.Extern Go.Sort Go.Shelf Go.Lib
structure Gn (W:A) (B bl:Nat) (v:G) (acc:List Rw):Prop where
 box:W.heap[bl]? =I (S #[v] 35 (0,0))
 own:W.ownsRow B 62 3 v acc.length (A2 acc)
 off:v.ownBlock≠I bl
 low:B<=bl
structure FJ (B bl P Q:Nat) (W:A) (acc:List Rw):Prop where
 ex:∃v,Gn W B bl v acc/\∀j,P<=j->j<Q->v.ownBlock≠I j
 lt:bl<P
 hq:Q<=W.heap.size
theorem Gn.below {W d:A} {B c:Nat} {v:G} {b:List Rw} (h:Gn W B c v b) (f:BL W d):Gn d B c v b :=
 ⟨(f.block c (Ql h.box)).trans h.box,E7 h.own f,h.off,h.low⟩
theorem fA (b:ByteArray) (m:Nat) (W:A) (a:Nat->Qc) (h:DE W a) (n:b.size<=100000) (o:(Bq b.data.toList).2≠0) :
  Qa Qb 353 #[J b,Qf (I ⟨m,0,Z⟩)] W fun e w'=>e=V (Qd #[O U 0,Ae a (Bq b.data.toList).2])/\BL W w':=by
 have c:=Nq b W a h.env (by omega);obtain⟨E,g⟩:∃E,(Bq b.data.toList).2=E+1:=⟨(Bq b.data.toList).2-1,by omega⟩;rw[g]at c ⊢;simp only[Ae]at c ⊢;generalize (Bq b.data.toList).1=x at c;obtain⟨i,j,k⟩:=x;simp only[L1]at c
 go_enter Qp,Q0
 go_wp2_with fail
 refine c.mono ?_;rintro e l ⟨rfl,d⟩;have f:BL W (l.alloc (S #[J i,O U j,O U k] 62)):=d.alloc d.size _;go_wp2;go_ret2;exact⟨rfl,f⟩
theorem Mc {W:A} {base:Nat} {e:Qq} {b:Nat} {v:G} {n:Nat} {xs:List G} (h:W.ownsRow base e b v n xs):∃q c,v=H q n c:=by
 rcases h.2 with⟨rfl,rfl⟩|⟨g,d,f,rfl,_⟩
 ·exact⟨Z,0,rfl⟩
 ·exact⟨_,_,rfl⟩
theorem IW {W:A} {base:Nat} {e:Qq} {b:Nat} {v:G} {n:Nat} {xs:List G} (h:W.ownsRow base e b v (n+1) xs):∃g c,v=H (I ⟨g,0,Z⟩) (n+1) c:=by
 rcases h.2 with⟨_,i⟩|⟨g,d,f,rfl,_⟩
 ·omega
 ·exact⟨_,_,rfl⟩
theorem K3 {W:A} {base:Nat} {e:Qq} {b:Nat} {v:G} {n:Nat} {xs:List G} (h:W.ownsRow base e b v n xs) {k:Nat} (c:v.ownBlock=I k):base<=k:=(h.lt k c).1
theorem S9 (wr:A) (c:ByteArray) (d f:Int) (j:Nat) (u:G) (b:(AN (c,d,f))[j]? =I u):(wr.alloc (S #[J c,O U d,O U f] 62)).cell? ⟨wr.heap.size,j,Z⟩=I u:=by
 rw[cell_of_row _ _ _ _ _ _ (Q4 _ _)]
 match j,b with
 | 0,b=>simpa [AN] using b
 | 1,b=>simpa [AN] using b
 | 2,b=>simpa [AN] using b
 | j+3,b=>simp [AN]at b
theorem NH {W f:A} {B b:Nat} {v v':G} {c:List Rw} {x:Rw} (h:Gn W B b v c) (l:f.ownsRow B 62 3 v' (c.length+1) (A2 c++AN x)) (m:W.grownBy f v.ownBlock) (j:v'.ownBlock=v.ownBlock\/v'.ownBlock=I W.heap.size) :
  Gn (f.setCell ⟨b,0,Z⟩ v') B b v' (c++ [x])/\f.heap[b]? =I (S #[v] 35 (0,0)):=by
 have i:=Ql h.box;have g:f.heap[b]? =I (S #[v] 35 (0,0)):=(m.block b i (fun e=>h.off e.symm)).trans h.box;have d:v'.ownBlock≠I b:=by
  rcases j with e | e
  ·rw[e];exact h.off
  ·rw[e];intro k;have:=Option.some.inj k;omega
 refine⟨⟨one_setCell g,?_,d,h.low⟩,g⟩;rw[List.length_append,Kn,Ns];exact Q5 l d _
theorem SA {k W b:A} {B c P Q:Nat} {v v':G} {d:List Rw} {x:Rw} (h:Gn W B c v d) (o:b.ownsRow B 62 3 v' (d.length+1) (A2 d++AN x)) (l:W.grownBy b v.ownBlock) (g:v'.ownBlock=v.ownBlock\/v'.ownBlock=I W.heap.size)
  (m:BL k W) (f:∀j,P<=j->j<Q->v.ownBlock≠I j) (n:c<P) (p:Q<=k.heap.size) :
  FJ B c P Q (b.setCell ⟨c,0,Z⟩ v') (d++ [x])/\∀j,P<=j->j<Q->(b.setCell ⟨c,0,Z⟩ v').heap[j]? =k.heap[j]? :=by
 have q:Q<=W.heap.size:=Qe p m.size;have r:W.heap.size<=b.heap.size:=l.size;refine⟨⟨⟨v',(NH h o l g).1,fun j h1 h2 e=>?_⟩,n,?_⟩,fun j h1 h2=>?_⟩
 ·rcases g with i | i
  ·exact f j h1 h2 (i.symm.trans e)
  ·rw[i]at e;have:=Option.some.inj e;omega
 ·have:(b.setCell ⟨c,0,Z⟩ v').heap.size=b.heap.size:=by simp[Q6]
  omega
 ·rw[Q7 _ _ _ _ (by show j≠c;omega),l.block j (by omega) (fun e=>f j h1 h2 e.symm)];exact m.block j (by omega)
theorem fC (b:ByteArray) (t B:Nat) (v:G) (W:A) (a:Nat->Qc) (h:DE W a) (R:Gn W B t v []) (P Q:Nat) (af:∀j,P<=j->j<Q->v.ownBlock≠I j) (ao:t<P) (hq:Q<=W.heap.size) (hs:b.size<=100000) (hr:(Bq b.data.toList).2=0) :
  Qa Qb 353 #[J b,Qf (I ⟨t,0,Z⟩)] W fun e w'=>e=V (Qd #[O U (Bq b.data.toList).1.2.1,Qr])/\FJ B t P Q w' [(Bq b.data.toList).1]/\(∀j,P<=j->j<Q->w'.heap[j]? =W.heap[j]?)/\Below B W w':=by
 obtain⟨i0,al,am,an,ae⟩:=Tryz.rowInfo;have m:=Nq b W a h.env (by omega);rw[hr]at m;simp only[Ae]at m;obtain⟨x,hx⟩:∃x,(Bq b.data.toList).1=x:=⟨_,rfl⟩;rw[hx]at m ⊢;obtain⟨f,d,g⟩:=x;simp only[L1]at m;have y:=Qe R.low (Q1 (Ql R.box));have M:=fun k (hk:v.ownBlock=I k)=>(R.own.lt k hk).2;have X:Hid _:=af;have Y:Hid _:=M
 go_enter Qp,Q0
 go_wp2_with fail
 refine m.mono ?_;rintro e i ⟨rfl,K⟩;have z:BL W (i.alloc (S #[J f,O U d,O U g] 62)):=K.alloc K.size _;have n:=R.below z;have x0:(i.alloc (S #[J f,O U d,O U g] 62)).cell? ⟨i.heap.size,0,Z⟩=I (J f):=by simp
 have x1:(i.alloc (S #[J f,O U d,O U g] 62)).cell? ⟨i.heap.size,1,Z⟩=I (O U d):=by simp
 have x2:(i.alloc (S #[J f,O U d,O U g] 62)).cell? ⟨i.heap.size,2,Z⟩=I (O U g):=by simp
 obtain⟨q,cp,rfl⟩:=Mc n.own;have ag:=Qh n.box;have ah:=Qo n.box
 go_wp2_with fail
 have aa:=K.size;generalize i.heap.size=bx at x0 x1 x2 aa ⊢;generalize i.alloc (S #[J f,O U d,O U g] 62)=W2 at z n x0 x1 x2 ag ah ⊢
 go_quiet (fail)
 have o:BL W2 (W2.drewN nq):=AH (Below.refl _ _) nq;have C:=Ad z o;have s:=n.below o;have y0:=Aa o x0;have y1:=Aa o x1;have y2:=Aa o x2;have ab:=Qh s.box;have ac:=Qo s.box;generalize W2.drewN nq=N at C s y0 y1 y2 ab ac ⊢;have p:BL N (N.alloc (S #[J f,O U d,O U g] 62)):=Af _ _;have r:=s.below p;have D:=(Ad C p).mono y
 go_wp2_with (at_builtin;refine Q8 _ rfl _ _ 35 rfl B 62 i0 (.agg #[J ⟨#[]⟩,O U 0,O U 0]) 3 32 Q9 al am an ae rfl (by decide) (H q 0 cp) 0 (A2 []) rfl r.own ⟨N.heap.size,0,Z⟩ 1 1 (AN (f,d,g)) rfl ?qd1 ?qd2 ?qd3 ?qd4 ?qd5 ?qd6 ?_)
 case qd1=>rfl
 case qd2 =>
  intro j u hj;rw[Addr.add_lit,Qs];exact S9 N f d g j u hj
 case qd3=>exact IF _
 case qd4=>unfold Qt;omega
 case qd5=>omega
 case qd6=>exact Qe y D.size
 intro v7 w7 l c _ L;obtain⟨g7,F,rfl⟩:=IW l;obtain⟨ar,T⟩:=NH (x:=(f,d,g)) r l c (by simpa using L);have ap:=Qh T;have aq:=Qo T;have ai:Below B W w7:=D.grown c (Qe y D.size) (fun k hk=>K3 r.own hk);have aj:Below B W (w7.setCell ⟨t,0,Z⟩ (H (I ⟨g7,0,Z⟩) (0+1) F)):=ai.setCell r.low _;have ad:=Ad C p;have E:Hid _:=SA (x:=(f,d,g)) r l c (by simpa using L) ad X.out ao hq;have ak:=(QA (c.block bx (BD (Aa p y1)) (fun e=>by have:=Y.out bx e.symm;omega))).trans (Aa p y1);have au:(w7.setCell ⟨t,0,Z⟩ (H (I ⟨g7,0,Z⟩) (0+1) F)).cell? ⟨bx,1,Z⟩=I (O U d):=by
  rw[QB _ _ _ _ (by intro e;injection e;omega)];exact ak
 go_wp2;go_ret2;exact⟨rfl,E.out.1,E.out.2,aj⟩
theorem fD (f:ByteArray) (F B k:Nat) (v:G) (b:List Rw) (W:A) (a:Nat->Qc) (h:DE W a) (hB:Gn W B F v b) (hs:f.size<=100000) (hl:b.length<=100000) (P Q:Nat) (ar:∀j,P<=j->j<Q->v.ownBlock≠I j) (a5:F<P) (hq:Q<=W.heap.size) (L:b.length=k+1) (a6:k<b.length) (hr:(Bq f.data.toList).2=0) :
  Qa Qb 353 #[J f,Qf (I ⟨F,0,Z⟩)] W fun e w'=>(ltOf AM (Bq f.data.toList).1 b[k]=true->e=V (Qd #[O U 0,Ae a 9])/\BL W w') /\
   (ltOf AM (Bq f.data.toList).1 b[k]=false->e=V (Qd #[O U (Bq f.data.toList).1.2.1,Qr])/\FJ B F P Q w' (b++ [(Bq f.data.toList).1])/\(∀j,P<=j->j<Q->w'.heap[j]? =W.heap[j]?)/\Below B W w'):=by
 obtain⟨i0,a1,a2,a3,ap⟩:=Tryz.rowInfo;have t:=Nq f W a h.env (by omega);rw[hr]at t;simp only[Ae]at t;obtain⟨x,hx⟩:∃x,(Bq f.data.toList).1=x:=⟨_,rfl⟩;rw[hx]at t;have r:=aZ x b[k];obtain⟨lb,ai⟩:∃lb,ltOf AM x b[k]=lb:=⟨_,rfl⟩;rw[ai]at r;have HX:Hid _:=hx;have af:Hid _:=ai;obtain⟨l,i,m⟩:=x;simp only[L1]at t;have M:=Qe hB.low (Q1 (Ql hB.box));have ae:=fun k (L:v.ownBlock=I k)=>(hB.own.lt k L).2;have ak:Hid _:=ar;have al:Hid _:=ae
 go_enter Qp,Q0
 go_wp2_with fail
 refine t.mono ?_;rintro e p ⟨rfl,ac⟩;have N:BL W (p.alloc (S #[J l,O U i,O U m] 62)):=ac.alloc ac.size _;have q:=hB.below N;have x0:(p.alloc (S #[J l,O U i,O U m] 62)).cell? ⟨p.heap.size,0,Z⟩=I (J l):=by simp
 have x1:(p.alloc (S #[J l,O U i,O U m] 62)).cell? ⟨p.heap.size,1,Z⟩=I (O U i):=by simp
 have x2:(p.alloc (S #[J l,O U i,O U m] 62)).cell? ⟨p.heap.size,2,Z⟩=I (O U m):=by simp
 have au:∃g c,v=H (I ⟨g,0,Z⟩) (k+1) c:=IW (n:=k) (by rw[<-L];exact q.own);obtain⟨g,cp,rfl⟩:=au;have ag:=Qh q.box;have av:=Qo q.box;have aw:Ei (p.alloc (S #[J l,O U i,O U m] 62)) g 0 b:=by
  rcases (Ru q.own).2 with⟨e,_⟩|⟨g',bb,e,hc⟩
  ·cases e
  ·injection e with e1;injection e1 with e1;injection e1 with e1;subst e1;exact hc
 obtain⟨p0,p1,p2⟩:=aw k a6;simp only[Qs]at p0 p1 p2;generalize b[k]=y at p0 p1 p2 r;obtain⟨yp,yk,yv⟩:=y;have bc:IntKind.i64.wrap (k:Int)=(k:Int):=IntWalk.i64_in _ (by omega);have am:Tryz.prog.follows .mixedOrders=true:=by kernel_rfl
 have ah:Hid (b.length<=100000):=hl;clear L hl
 go_wp2_with fail
 have an:W.heap.size<=p.heap.size:=ac.size;generalize p.heap.size=bx at x0 x1 x2 an ⊢;generalize p.alloc (S #[J l,O U i,O U m] 62)=W2 at N q x0 x1 x2 ag av p0 p1 p2 ⊢;have R:=fun d os=>Calls.regrown_of (w:=W2) (d:=d) (os:=os) (r _);have f0:=Qi x0;have f1:=Qi x1;have f2:=Qi x2;have f3:=Qi ag;have f4:=Qi p0;have f5:=Qi p1;have f6:=Qi p2;refine wp_region_quiet_below am (by kernel_rfl) ?_
 repeat (go_big_quiet_step (exact R _ _))
 refine wpQuiet_nil ?_;intro _ a4;obtain⟨⟨dq,aa⟩,aq⟩:=a4;subst aq;have z:=below_regrown W2 dq aa;have C:BL W (grow (redrawn W2 dq) aa):=Ad N z;have T:=q.below z;have y0:=Aa z x0;have y1:=Aa z x1;have y2:=Aa z x2;generalize grow (redrawn W2 dq) aa=K at C T y0 y1 y2 ⊢;have a7:=Qh T.box;cases lb
 ·have D:BL K (K.alloc (S #[J l,O U i,O U m] 62)):=Af _ _;have ax:=T.below D;have X:Below B W (K.alloc (S #[J l,O U i,O U m] 62)):=(Ad C D).mono M;have E:Hid (Gn (K.alloc (S #[J l,O U i,O U m] 62)) B F (H (I ⟨g,0,Z⟩) (k+1) cp) b):=ax
  go_wp2_with (at_builtin;refine Q8 _ rfl _ _ 35 rfl B 62 i0 (.agg #[J ⟨#[]⟩,O U 0,O U 0]) 3 32 Q9 a1 a2 a3 ap rfl (by decide) (H (I ⟨g,0,Z⟩) (k+1) cp) b.length (A2 b) rfl E.out.own ⟨K.heap.size,0,Z⟩ 1 1 (AN (l,i,m)) rfl ?qd1 ?qd2 ?qd3 ?qd4 ?qd5 ?qd6 ?_)
  case qd1=>rfl
  case qd2 =>
   intro j u hj;rw[Addr.add_lit,Qs];exact S9 K l i m j u hj
  case qd3=>exact IF _
  case qd4=>have:=ah.out;unfold Qt;omega
  case qd5=>have:=ah.out;omega
  case qd6=>exact Qe M X.size
  intro v7 w7 s o _ ad;obtain⟨g7,ab,rfl⟩:=IW s;obtain⟨ba,aj⟩:=NH (x:=(l,i,m)) E.out s o (by simpa using ad);have a8:=Qh aj;have a9:=Qo aj;have ay:Below B W w7:=X.grown o (Qe M X.size) (fun k L=>K3 E.out.own L);have az:Below B W (w7.setCell ⟨F,0,Z⟩ (H (I ⟨g7,0,Z⟩) (b.length+1) ab)):=ay.setCell E.out.low _;have ao:=Ad C D;have Y:Hid _:=SA (x:=(l,i,m)) E.out s o (by simpa using ad) ao ak.out a5 hq;have a0:=(QA (o.block bx (BD (Aa D y1)) (fun e=>by have:=al.out bx e.symm;omega))).trans (Aa D y1);have bd:(w7.setCell ⟨F,0,Z⟩ (H (I ⟨g7,0,Z⟩) (b.length+1) ab)).cell? ⟨bx,1,Z⟩=I (O U i):=by
   rw[QB _ _ _ _ (by intro e;injection e;omega)];exact a0
  go_wp2;go_ret2;refine⟨fun h9=>?_,fun _=>⟨by rw[HX.out];rfl,by rw[HX.out];exact Y.out.1,Y.out.2,az⟩⟩;rw[HX.out,af.out]at h9;cases h9
 ·have ho:=(h.below C).order;go_wp2
  go_quiet (fail)
  go_wp2;go_ret2;refine⟨fun _=>⟨rfl,AH C nq⟩,fun h9=>?_⟩;rw[HX.out,af.out]at h9;cases h9
theorem FJ.keep {B c P Q:Nat} {W d:A} {b:List Rw} (h:FJ B c P Q W b) (f:BL W d):FJ B c P Q d b:=by
 obtain⟨⟨v,g,i⟩,j,k⟩:=h;exact⟨⟨v,g.below f,i⟩,j,Qe k f.size⟩
theorem FJ.set {B d P Q:Nat} {W:A} {c:List Rw} (j o:Nat) (u:G) (i:P<=j) (k:j<Q) (h:FJ B d P Q W c):FJ B d P Q (W.setCell ⟨j,o,Z⟩ u) c:=by
 obtain⟨⟨v,b,f⟩,g,m⟩:=h;have l:(W.setCell ⟨j,o,Z⟩ u).heap.size=W.heap.size:=by simp[Q6]
 refine⟨⟨v,⟨?_,Q5 b.own (f j i k) u,b.off,b.low⟩,f⟩,g,by omega⟩;rw[Q7 _ _ _ _ (by show d≠j;omega)];exact b.box
theorem SD {β:Type} (b:List β) (k:Nat) (d:β) (f:b.length=k+1) (g:k<b.length):b.getLastD d=b[k]:=by
 have c:b≠ []:=by intro e;rw[e]at f;simp at f
 rw[List.getLastD_eq_getLast?,List.getLast?_eq_some_getLast c,Option.getD_some,List.getLast_eq_getElem];congr 1;omega
theorem fE (a:Nat->Qc) (g B P Q:Nat) (E:B<=P):IV CD a (fun W=>DE W a) 353 g B P Q (FJ B g P Q) where
 env:=fun h=>h.weak
 ent:=enters_of Qp (by kernel_rfl) rfl
 low:=E
 keep:=fun h c=>h.keep c
 set:=fun j o u h1 h2 h=>h.set j o u h1 h2
 take:=fun W line acc hE hI hQ hs hl=>by
  have y:Hid (FJ B g P Q W acc):=hI;obtain⟨⟨v,m,z⟩,r,C⟩:=hI;have n:B<=W.heap.size:=Qe m.low (Q1 (Ql m.box));show Qa _ _ _ _ fun e w'=>Below B W w'/\_/\((Cx CD acc line.data.toList≠0/\_)\/(Cx CD acc line.data.toList=0/\_));have b:Cx CD acc line.data.toList=if (Bq line.data.toList).2≠0 then (Bq line.data.toList).2 else if acc≠ []/\ltOf AM (Bq line.data.toList).1 (acc.getLastD (Ab [],0,0))=true then 9 else 0:=rfl;by_cases i:(Bq line.data.toList).2≠0
  ·rw[if_pos i]at b;refine(fA line g W a hE hs i).mono fun e w' ⟨f,c⟩=>⟨c.mono n,fun j h1 h2=>c.block j (by omega),Qj ⟨by rw[b];exact i,by rw[f,b],y.out.keep c⟩⟩
  ·have p:(Bq line.data.toList).2=0:=Classical.byContradiction i;rw[if_neg i]at b;by_cases l:acc= []
   ·subst l;rw[if_neg (by simp)]at b;exact(fC line g B v W a hE m P Q z r C hs p).mono fun e w' ⟨f,s,t,c⟩=>⟨c,t,Qg ⟨b,f,s⟩⟩
   ·obtain⟨k,D⟩:∃k,acc.length=k+1:=⟨acc.length-1,by have:=List.length_pos_iff.2 l;omega⟩;have q:k<acc.length:=by omega
    rw[SD acc k _ D q]at b;refine(fD line g B k v acc W a hE m hs hl P Q z r C D q p).mono fun e w' ⟨h1,h2⟩=>?_
    cases c:ltOf AM (Bq line.data.toList).1 acc[k] with
    | true =>
     rw[if_pos ⟨l,c⟩]at b;obtain⟨f,d⟩:=h1 c;exact⟨d.mono n,fun j q1 q2=>d.block j (by omega),Qj ⟨by rw[b];decide,by rw[f,b],y.out.keep d⟩⟩
    | false =>
     rw[if_neg (fun e=>by rw[c]at e;cases e.2)]at b;obtain⟨f,s,t,d⟩:=h2 c;exact⟨d,t,Qg ⟨b,f,s⟩⟩
def fF (w:A) (a:Nat->Qc) (D:List Rw×Nat×Option Nat) (e:Ending) (w':A):Prop :=
 BL w w'/\((D.2.1=0/\∃v,e=V (Qd #[v,Qr])/\Ar w' v D.1) \/
  (D.2.1≠0/\D.1= []/\D.2.2=Z/\e=V (Qd #[H Z 0 0,Ae a D.2.1])) \/
  (D.2.1≠0/\D.1= []/\∃at_,D.2.2=I at_/\∃fb,e=V (Qd #[H Z 0 0,Q2 140 (Qf (I ⟨fb,0,Z⟩))])/\w'.cell? ⟨fb,0,Z⟩=I (O U at_)/\w'.cell? ⟨fb,1,Z⟩=I (Ae a D.2.1)))
theorem SF (s:ByteArray) (w:A) (a:Nat->Qc) (h:DE w a) (Y:s.size<=Qt) :
  Qa Qb 315 #[J s] w fun e w'=>fF w a (Bw s.data.toList) e w':=by
 have f:BL w (w.alloc (S #[H Z 0 0] 35)):=Af _ _;have k:Gn (w.alloc (S #[H Z 0 0] 35)) w.heap.size w.heap.size (H Z 0 0) []:=⟨Q4 _ _,QC _ _ _ _,by simp[Q3],Qu _⟩;have p:(w.alloc (S #[H Z 0 0] 35)).heap.size=w.heap.size+1:=by simp
 have g:=S8 CD ⟨#[100,97,116,97]⟩ s rfl (w.alloc (S #[H Z 0 0] 35)) a (fun W=>DE W a) 353 w.heap.size w.heap.size (fun Q=>FJ w.heap.size w.heap.size (w.heap.size+1) Q) (by omega) (fun W' hW=>h.below (f.trans hW))
  (fun Q=>by rw[p];exact fE a w.heap.size w.heap.size (w.heap.size+1) Q (Qv _))
  (fun Q W' hW hQ=>⟨⟨_,k.below hW,fun j _ _=>by simp[Q3]⟩,Qw _,hQ⟩) Y
 have C:Bw s.data.toList=BP CD s.data.toList:=rfl;rw[C];generalize BP CD s.data.toList=D at g ⊢
 go_enter func315,ntmps315
 go_wp2_with fail
 refine g.mono ?_;rintro e P ⟨z,l⟩;have b:=f.trans z;rcases l with⟨d,rfl,Q,m⟩|⟨d,n,o,rfl⟩|⟨d,n,B,o,R,rfl,T,X⟩
 ·obtain⟨⟨v,c,_⟩,_,_⟩:=m;have F:=Qh c.box;have r:=(II c.own).1;obtain⟨q,N,rfl⟩:=Mc c.own;have i:Hid (Ar P (H q D.1.length N) D.1):=r;obtain⟨t,u⟩:∃t,D.1.length=t:=⟨_,rfl⟩;rw[u]at F i;go_wp2;go_ret2;exact⟨b,Qj ⟨d,_,rfl,i.out⟩⟩
 ·obtain⟨E,y⟩:∃E,D.2.1=E+1:=⟨D.2.1-1,by omega⟩;have K:Hid _:=y;rw[y];simp only[Ae];go_wp2;go_ret2;exact⟨b,Qg (Qj ⟨d,n,o,by rw[K.out];rfl⟩)⟩
 ·have L:Hid _:=T;have M:Hid _:=X;go_wp2;go_ret2;exact⟨b,Qg (Qg ⟨d,n,B,o,R,rfl,L.out,M.out⟩)⟩
theorem SG (v:G) (zs:List Int) (w:A) (h:A3 w v zs) (hl:zs.length<=1000) :
  Qa Qb 114 #[v] w fun e w'=> ∃v',e=V v'/\A3 w' v' (A4 zs)/\BL w w':=by
 have l:=R4 v zs w h (Qe hl (by decide));obtain⟨q0,c0,rfl⟩:=h.form
 go_enter func114,ntmps114
 go_wp2_with fail
 refine l.mono ?_;rintro e d ⟨v1,rfl,Q,u⟩;by_cases C:v1=H Z 0 0
 ·subst C;have R:zs= []:=by
   rcases Q.2 with⟨_,N⟩|⟨g,c,ab,e,_⟩
   ·exact List.length_eq_zero_iff.1 N
   ·cases e
  subst R;have b:=AnyM.slices_Sort_int_none Tryz.sortInt Z 0 d;change Qa Qb 48 _ _ _ at b;have f:=slices_Compact_int_empty Z 0 d
  go_wp2_with fail
  refine b.mono ?_;rintro e k ⟨rfl,rfl⟩
  go_wp2_with fail
  refine f.mono ?_;rintro e z ⟨rfl,rfl⟩;go_wp2;go_ret;exact⟨_,rfl,Qj ⟨Z,0,rfl,cE⟩,u⟩
 ·obtain⟨g,c,rfl,s,t,N,hm,aa,P⟩:=holds_of_ownsRow Q C;have b:=AnyM.slices_Sort_int Tryz.sortInt g 0 c zs d P t (by omega);change Qa Qb 48 _ _ _ at b;have T:Hid _:=P
  go_wp2_with fail
  refine b.mono ?_;rintro e k ⟨rfl,n,B,i⟩;have m:Holds (O U) k g 0 (Ca zs).toArray:=by
   rw[i];exact holds_grow (O U) _ B g 0 (Ca zs).toArray (by simpa [Qx,mapBlock,Qm] using t) (QD (O U) (Qm d n) g 0 zs.toArray (Ca zs).toArray T.out (by simp[Nu]))
  have D:BL w k:=by
   rw[i];have E:BL w (Qx (O U) (Qm d n) g 0 (zs.mergeSort fun x y=>decide (x<=y)).toArray):=QE u s;exact E.trans ((Hg B).mono E.size)
  have W:g<k.heap.size:=by
   rw[i];have:d.heap.size<=(grow (Qx (O U) (Qm d n) g 0 (zs.mergeSort fun x y=>decide (x<=y)).toArray) B).heap.size:=by simp[grow,Qx,mapBlock,Qm]
   omega
  have p:=Nu zs;have f:=slices_Compact_int g 0 c (Ca zs) k m (by omega) (by omega);rw[p]at f;clear i
  go_wp2_with fail
  refine f.mono ?_;rintro e z ⟨rfl,q,o⟩;have F:=cD zs;have X:Hid (A3 z (H (I ⟨g,0,Z⟩) (A4 zs).length c) (A4 zs)):=by
   show A3 _ _ _;refine Qg ⟨g,0,c,rfl,fun j hj=>?_⟩;rw[o];have Y:(Qk (Ca zs)++List.replicate (zs.length-(Qk (Ca zs)).length) 0).toArray.size=(Ca zs).toArray.size:=by
    have:(Qk (Ca zs)).length<=zs.length:=F;simp[p];omega
   have K:=QD (O U) (Qm k q) g 0 (Ca zs).toArray (Qk (Ca zs)++List.replicate (zs.length-(Qk (Ca zs)).length) 0).toArray m Y;have L:j<(Qk (Ca zs)).length:=hj;have:=(K j (by simp;omega)).1;rw[getElem!_pos _ j (by simp;omega)]at this;simp only[List.getElem_toArray,List.getElem_append_left L]at this;exact this
  have M:BL w z:=by rw[o];exact QE D s
  have r:Qk (Ca zs)=A4 zs:=rfl;rw[r];clear o m r;go_wp2;go_ret;exact⟨_,rfl,X.out,M⟩
theorem fG (x:Int) (w:A) (a:Nat->Qc) (h:BZ w a) (d:Ao x=true) :
  Qa Qb 117 #[O U x] w fun e w'=>e=V (Qd #[J (Ab (Qn x)),O U x])/\BL w w':=by
 simp only[Ao,Bool.and_eq_true,decide_eq_true_eq]at d;have b:=IU x w a h (by omega) (by omega)
 go_enter func117,ntmps117
 go_wp2_with fail
 refine b.mono ?_;rintro e f ⟨rfl,c⟩;go_wp2;go_ret2;exact⟨rfl,c⟩
theorem fH (s:ByteArray) (hK:s.data.toList.length<=4) (v:G) (xs:List Int) (w:A) (a:Nat->Qc) (h:BZ w a) (hx:A3 w v xs) (hl:xs.length<=1000) (j:∀x∈xs,Ao x=true) :
  Qa Qb 116 #[J s,v,.func (.func 117) #[] #[]] w fun e w'=>e=V (J (Ab (CC s.data.toList xs.length (Ap (A6 AB xs)).1 (Ap (A6 AB xs)).2 (Ba (AQ AB xs))++10 :: AQ AB xs)))/\BL w w':=by
 have eg:∀args w,(callFunc 117 args).run Qb w= .ok (.enter 117 args) w:=enters_of func117 (by kernel_rfl) rfl;obtain⟨q,av,rfl⟩:=hx.form;obtain⟨L,hL⟩:∃L,xs.length=L:=⟨_,rfl⟩;have K:Hid (xs.length=L):=hL;have P:(H q xs.length av)=H q L av:=by rw[hL]
 rw[P]at hx ⊢;rw[hL]at hl;clear hL P;have hA:=heap_alloc2_old w (S #[O U 0,O U 0,O U 0] 256) (S #[Qf Z,H Z 0 0] 260);have d:=heap_alloc2_new w (S #[O U 0,O U 0,O U 0] 256) (S #[Qf Z,H Z 0 0] 260);have ai:BL w ((w.alloc (S #[O U 0,O U 0,O U 0] 256)).alloc (S #[Qf Z,H Z 0 0] 260)):=(Af _ _).alloc (by simp) _;have Q:Qy 260 5 (w.heap.size+1) (w.heap.size+1) (Qz (AQ AB ([]:List Int))) ((w.alloc (S #[O U 0,O U 0,O U 0] 256)).alloc (S #[Qf Z,H Z 0 0] 260)) :=
  Qj ⟨Qu _,H Z 0 0,d,QC _ _ _ _,by simp[Q3]⟩
 go_enter func116,ntmps116
 go_wp2
 go_loopw [16] (fun k wr=> ∃n:Nat,n<=L/\k=O U n/\BL w wr/\Bb wr w.heap.size n (Ap (A6 AB (xs.take n)))/\Qy 260 5 (w.heap.size+1) (w.heap.size+1) (Qz (AQ AB (xs.take n))) wr) (fun k _=>L-(intOf k).toNat)
 case atStart=>exact ⟨0,by omega,rfl,ai,hA,by simpa using Q⟩
 case round =>
  clear ai Q hA d;obtain⟨n,hn,rfl,hb,y,d⟩:=hrel;have bg:w.heap.size<=wr.heap.size:=hb.size;have be:w.heap.size+1<wr.heap.size:=by
   rcases d with d | d
   ·exact d.lt
   ·exact d.lt
  by_cases a2:n<L
  ·have R:n<xs.length:=by rw[K.out];exact a2
   have ah:=hx.below hb;rcases ah with⟨_,_,e,e'⟩|⟨b,o,bf,e,r⟩
   ·exfalso;have:=K.out;rw[e']at this;simp at this;omega
   injection e with e1 e2 e3;subst e1;clear e2 e3;have c1:=r n R;clear r;have hi:(n:Int)<(L:Int):=by omega
   have T:xs[n]∈xs:=List.getElem_mem _;have t:=j _ T;have X:xs.take (n+1)=xs.take n++ [xs[n]]:=by rw[List.take_append_getElem R]
   have B:=fun W (hW:BZ W a)=>fG xs[n] W a hW t;have Y:Hid ((Ab (Qn xs[n])).data.toList=Qn xs[n]):=by show _=_;simp[Ab]
   have aj:(Ab (Qn xs[n])).size<=32:=by rw[CR];exact IL.len _ t
   have HT:Hid (AQ AB (xs.take (n+1))=AQ AB (xs.take n)++(Qn xs[n]++ [10])):=by
    show _=_;rw[X];exact RK AB _ _
   have aa:Hid (Ap (A6 AB (xs.take (n+1)))=Cc n (Ap (A6 AB (xs.take n))) xs[n]):=by
    show _=_;have a3:(xs.take n).length=n:=by simp;omega
    have:=N9 (xs.take n) xs[n];rw[a3]at this;rw[RV,RV,<-this,X]
   have a4:=JA IL (xs.take n) (fun x hx2=>j x (List.mem_of_mem_take hx2));have a1:(Qz (AQ AB (xs.take n))).length<=40000:=by
    rw[Lib.byteCells_length];have:(xs.take n).length<=n:=List.length_take_le _ _;omega
   clear X T t a4;generalize xs[n]=i at c1 B Y aj HT aa;generalize AQ AB (xs.take n)=bj at d HT a1;generalize Ap (A6 AB (xs.take n))=E at y aa;generalize Ab (Qn i)=tb at B Y aj;have ab:=B _ (h.below hb);clear B
   go_wp2_with (go_at_fn 117;refine ab.mono ?_;rintro e z ⟨rfl,af⟩)
   clear ab c1;have ak:BL w z:=Ad hb af;have C:=y.below af;have al:=K1 d af;have am:=NF w.heap.size n E i z C (by omega);clear d y
   go_wp2_with fail
   refine am.mono ?_;rintro e w4 ⟨rfl,rfl⟩;clear am;have ac:Bb (D1 z w.heap.size (n+1) (Cc n E i)) w.heap.size (n+1) (Cc n E i):=NA C;have ad:=S0 al w.heap.size (n+1) (Cc n E i) (by omega);have an:BL w (D1 z w.heap.size (n+1) (Cc n E i)):=ND ak (Qu _);have u:w.heap.size+1<=(D1 z w.heap.size (n+1) (Cc n E i)).heap.size:=by rw[Sy];exact Ql C
   clear al C ak;generalize D1 z w.heap.size (n+1) (Cc n E i)=W4 at ac ad an u ⊢;have l:=GO (w.heap.size+1) (w.heap.size+1) _ tb W4 ad (by omega) u;clear ad
   go_wp2_with fail
   refine l.mono ?_;rintro e w5 ⟨rfl,ax,ag⟩;clear l;have a5:BL w w5:=an.trans (ag.mono (Qv _));have ao:Bb w5 w.heap.size (n+1) (Cc n E i):=by
    unfold Bb at *;exact(ag.block _ (Qw _)).trans ac
   have l:=GO (w.heap.size+1) (w.heap.size+1) _ ⟨#[10]⟩ w5 (Qg ax) (by rw[List.length_append,Lib.strCells_length];have:(⟨#[10]⟩:ByteArray).size=1:=rfl;omega) (Qe u ag.size);clear ac
   go_wp2_with fail
   refine l.mono ?_;rintro e w7 ⟨rfl,ay,az⟩;clear l ax;have a6:BL w w7:=a5.trans (az.mono (Qv _));have a7:Hid (Bb w7 w.heap.size (n+1) (Ap (A6 AB (xs.take (n+1))))):=by
    show Bb _ _ _ _;rw[aa.out];unfold Bb at *;exact(az.block _ (Qw _)).trans ao
   have a8:Hid (Qy 260 5 (w.heap.size+1) (w.heap.size+1) (Qz (AQ AB (xs.take (n+1)))) w7):=by
    show Qy _ _ _ _ _ _;rw[HT.out,QF,QF,<-Y.out,<-List.append_assoc];exact Qg ay
   clear ay ao;go_wp2;go_roundw
   case rel=>exact ⟨n+1,by omega,by go_num,a6,a7.out,a8.out⟩
   case measure=>simp [intOf];omega
  ·obtain rfl:n=L:=by omega
   have a9:xs.take n=xs:=List.take_of_length_le (by rw[K.out];exact Qu _);rw[a9]at d y;have D:=Builder_String_any (w.heap.size+1) (w.heap.size+1) (AQ AB xs) wr d (by omega);have ap:=JA IL xs j;have f:=LH IL j;have g:=fun W=>Ky (Ab (AQ AB xs)) W (by rw[CR];unfold Qt;rw[K.out]at ap;omega);have eL:(Ab (AQ AB xs)).data.toList=AQ AB xs:=by simp[Ab]
   rw[eL]at g;have aq:=Hn (AQ AB xs);have m:=fun W (hW:BZ W a)=>Sz s hK n (Ap (A6 AB xs)).1 (Ap (A6 AB xs)).2 (Ba (AQ AB xs)) W a hW (by omega) f.1 f.2 aq;have bh:=LJ hK n (Ap (A6 AB xs)).1 (Ap (A6 AB xs)).2 (Ba (AQ AB xs)) (by omega) f.1 f.2 (by omega);obtain⟨T0,aw⟩:∃T0,Ab (CC s.data.toList xs.length (Ap (A6 AB xs)).1 (Ap (A6 AB xs)).2 (Ba (AQ AB xs))++10 :: AQ AB xs)=T0:=⟨_,rfl⟩;have ba:Hid _:=aw;have M:Hid (T0=Ab (CC s.data.toList n (Ap (A6 AB xs)).1 (Ap (A6 AB xs)).2 (Ba (AQ AB xs)))++⟨#[10]⟩++Ab (AQ AB xs)):=by
    show _=_;rw[<-aw,K.out];apply ByteArray.ext;apply Array.ext';simp[Ab]
   have F:(Ab (CC s.data.toList n (Ap (A6 AB xs)).1 (Ap (A6 AB xs)).2 (Ba (AQ AB xs)))).size<=2000:=by rw[CR];omega
   have bb:(Ab (AQ AB xs)).size<=40000:=by rw[CR];rw[K.out]at ap;omega
   generalize Ba (AQ AB xs)=c at m g M F aq;generalize Ap (A6 AB xs)=E at m M F y;obtain⟨lo,ae⟩:=E;dsimp only at m M F;generalize Ab (CC s.data.toList n lo ae (c:Int))=d at m M F;have eS:(⟨(AQ AB xs).toArray⟩:ByteArray)=Ab (AQ AB xs):=rfl;rw[eS]at D;generalize Ab (AQ AB xs)=lB at D g M bb
   go_wp2_with fail
   refine D.mono ?_;rintro e N ⟨rfl,a0⟩;clear D;have ar:Bb N w.heap.size n (lo,ae):=by
    unfold Bb at *;exact(a0.block _ (Qw _)).trans y
   obtain⟨g0,g1,g2,_⟩:=ar.cells;dsimp only at g1 g2;clear y ar;have au:BL w N:=hb.trans (a0.mono (Qv _));have bc:=h.below au;have bi:BL N N:=Below.refl _ _;have n1:¬9223372036854775807<d.size+1:=by omega
   have n2:¬9223372036854775807<d.size+1+lB.size:=by omega
   go_wp2_with fail
   go_region_held3 (fun w'=>w'.cell? ⟨w.heap.size,0,Z⟩=I (O U n)/\w'.cell? ⟨w.heap.size,1,Z⟩=I (O U lo)/\w'.cell? ⟨w.heap.size,2,Z⟩=I (O U ae)/\BL N w')
    (first
     | (go_split_ands;exact⟨Aa p (by assumption),Aa p (by assumption),Aa p (by assumption),Below.trans (by assumption) (p.mono (Below.size (by assumption)))⟩)
     | (go_split_ands;exact⟨by go_keep,by go_keep,by go_keep,by assumption⟩)
     | (go_split_ands;exact⟨by go_keep,by go_keep,by go_keep,Below.drew (by assumption)⟩))
    (first
     | (go_at_call 171;refine(g _).mono ?_;rintro e z ⟨rfl,p⟩)
     | (go_at_call 206;refine(m _ (bc.below (by go_split_ands;assumption))).mono ?_;rintro e w4 ⟨rfl,p⟩))
   go_split_ands;have bd:BL N w4:=by assumption
   go_wp2;go_ret;exact⟨by rw[ba.out,M.out];rfl,(Ad au bd)⟩
theorem fI (v:G) (zs:List Int) (w:A) (a:Nat->Qc) (h:DM w a) (f:A3 w v zs) (g:zs.length<=1000) (p:40<(A4 zs).length) :
  Qa Qb 61 #[v] w fun e w'=>e=V (Qd #[J ⟨#[]⟩,Ae a 8])/\BL w w':=by
 have c:=SG v zs w f g;obtain⟨j,k,rfl⟩:=f.form
 go_enter func61,ntmps61
 go_wp2_with fail
 refine c.mono ?_;rintro e n ⟨o,rfl,d,b⟩;obtain⟨l,m,rfl⟩:=d.form;have i:=(h.below b).full;go_wp2
 go_quiet (fail)
 go_wp2;go_ret2;exact⟨rfl,AH b nq⟩
theorem fJ (v:G) (zs:List Int) (w:A) (a:Nat->Qc) (h:DM w a) (C:A3 w v zs) (hl:zs.length<=1000) (hn:(A4 zs).length<=40)
  (m:Nat) (hm:m<=zs.length) (j:∀i (h:i<zs.length),i<m->Ao zs[i]=true) (u:∀(h:m<zs.length),Ao zs[m]=false) :
  Qa Qb 61 #[v] w fun e w'=>(m=zs.length/\e=V (Qd #[J (Ab (DK (A4 zs))),Qr])/\BL w w') \/
   (m<zs.length/\∃fb,e=V (Qd #[J ⟨#[]⟩,Q2 140 (Qf (I ⟨fb,0,Z⟩))])/\w'.cell? ⟨fb,0,Z⟩=I (O U m)/\w'.cell? ⟨fb,1,Z⟩=I (Ae a 2)/\BL w w'):=by
 have D:=SG v zs w C hl;obtain⟨q0,c0,rfl⟩:=C.form;obtain⟨L,B⟩:∃L,zs.length=L:=⟨_,rfl⟩;have y:Hid _:=B;have f:Hid _:=j;have M:Hid _:=u;rw[B]at hm hl;have l:(H q0 zs.length c0)=H q0 L c0:=by rw[B]
 rw[l]at C D ⊢;clear B j u l;have N:¬(40:Int)<((A4 zs).length:Int):=by omega
 go_enter func61,ntmps61
 go_wp2_with fail
 refine D.mono ?_;rintro e w1 ⟨v1,rfl,s,ac⟩;obtain⟨q1,P,rfl⟩:=s.form;obtain⟨r,F⟩:∃r,(A4 zs).length=r:=⟨_,rfl⟩;have W:Hid ((A4 zs).length=r):=F;rw[F]at N hn s ⊢;have X:Hid (A3 w1 (H q1 r P) (A4 zs)):=s;go_wp2
 go_loopw [15] (fun k wr=> ∃n:Nat,n<=m/\k=O U n/\BL w1 wr) (fun k _=>L-(intOf k).toNat)
 case atStart=>exact ⟨0,by omega,rfl,Below.refl _ _⟩
 case round =>
  obtain⟨n,ae,rfl,T⟩:=hrel;have c:BL w wr:=Ad ac T;by_cases Y:n<L
  ·have d:n<zs.length:=by rw[y.out];exact Y
   have z:=C.below c;rcases z with⟨_,_,e,e'⟩|⟨b,o,af,e,t⟩
   ·exfalso;have:=y.out;rw[e']at this;simp at this;omega
   injection e with e1 e2 e3;subst e1;clear e2 e3;have P:=t n d;have Q:(n:Int)<(L:Int):=by omega
   have g:=GF zs[n] wr;by_cases p:n<m
   ·rw[f.out n d p]at g
    go_wp2_with fail
    refine g.mono ?_;rintro e w3 ⟨rfl,rfl⟩;go_wp2;go_roundw
    case rel=>exact ⟨n+1,by omega,by go_num,T⟩
    case measure=>simp [intOf];omega
   ·obtain rfl:n=m:=by omega
    rw[M.out d]at g;have ag:=(h.below c).env.bound;have aa:BL w (wr.alloc (S #[O U n,Q2 410 (Qf (I (a 1)))] 143)):=c.alloc c.size _
    go_wp2_with fail
    refine g.mono ?_;rintro e w3 ⟨rfl,rfl⟩;go_wp2
    go_region
    go_wp2;go_ret2;exact Qg ⟨d,w3.heap.size,rfl,by simp,by simp[Ae],aa.drew⟩
  ·have p:n=m:=by omega
   have E:m=L:=by omega
   subst p;have R:∀x∈A4 zs,Ao x=true:=fun x hxm=>by
    obtain⟨i,Q,e⟩:=List.mem_iff_getElem.1 ((Kt zs x).1 hxm);rw[<-e];exact f.out i Q (by rw[E,<-y.out];exact Q)
   have q:=fH ⟨#[103,111,110,101]⟩ (by decide) (H q1 r P) (A4 zs) wr a (h.env.below c) (X.out.below T) (by rw[W.out];omega) R;have HF:Hid (Ab (CC (⟨#[103,111,110,101]⟩:ByteArray).data.toList (A4 zs).length (Ap (A6 AB (A4 zs))).1 (Ap (A6 AB (A4 zs))).2 (Ba (AQ AB (A4 zs)))++10 :: AQ AB (A4 zs))=Ab (DK (A4 zs))):=rfl;rw[HF.out]at q;obtain⟨fB,K⟩:∃fB,Ab (DK (A4 zs))=fB:=⟨_,rfl⟩;have ab:Hid _:=K;rw[K]at q
   go_wp2_with fail
   refine q.mono ?_;rintro e w2 ⟨rfl,ad⟩;go_wp2;go_ret2;exact Qj ⟨E.trans y.out.symm,by rw[ab.out];rfl,(Ad c ad)⟩
theorem E9 (l:List UInt8):(Ab l).size=l.length:=by simp[Ab,ByteArray.size]
theorem Tryz.strInfo3:(Tryz.prog.info? 9).map (fun i=>(i.zero,i.size,i.bytes))=I (I (J ⟨#[]⟩),1,16):=by kernel_rfl
theorem Tryz.strInfo:∃i0:TypeInfo,Tryz.prog.info? 9=I i0/\i0.zero=I (J ⟨#[]⟩)/\i0.size=1/\i0.bytes=16:=by
 obtain⟨i,b,h⟩:=QG.1 Tryz.strInfo3;simp only[Prod.mk.injEq]at h;exact⟨i,b,h.1,h.2.1,h.2.2⟩
theorem SH (w:A) (x:G) (t:Qq):∀j u, [x][j]? =I u->(w.alloc (S #[x] t)).cell? ((⟨w.heap.size,0,Z⟩:Qc).add j)=I u:=by
 intro j u b;rw[Addr.add_lit,Qs]
 match j,b with
 | 0,b=>simp at b;subst b;simp
 | j+1,b=>simp at b
theorem Tryz.numInfo3:(Tryz.prog.info? 3).map (fun i=>(i.zero,i.size,i.bytes))=I (I (O U 0),1,8):=by kernel_rfl
theorem Tryz.numInfo:∃i0:TypeInfo,Tryz.prog.info? 3=I i0/\i0.zero=I (O U 0)/\i0.size=1/\i0.bytes=8:=by
 obtain⟨i,b,h⟩:=QG.1 Tryz.numInfo3;simp only[Prod.mk.injEq]at h;exact⟨i,b,h.1,h.2.1,h.2.2⟩
end Go.Proofs.YtcllhobffhkafaaGreatDoor
