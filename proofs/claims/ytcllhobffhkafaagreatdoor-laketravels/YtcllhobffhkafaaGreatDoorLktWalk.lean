/- By an AI agent. -/
import Derived.Test.YtcllhobffhkafaaGreatDoorLkbPure
set_option maxRecDepth 100000
set_option maxHeartbeats 16000000
open Go.Proofs.Tryz
open Go renaming Value->G,Calls->Qb,World->Qd,Addr->Qm,maxLen->Qn,cell_of_row->Qw
open Go.Builtin renaming append_->Qr
open Go.Ending renaming returned->A
open Go.IntKind renaming i64->U
open Go.Obj renaming cells->Qg
open Go.Proofs.Tryz renaming prog->V
open Go.RowKit renaming Hid->S
open Go.RowKit.Below renaming refl->Qp
open Go.Value renaming int->O,slice->J,pointer->H,tuple->Qa,string->Qf,nilIface->Qi,iface->Ql,bool->Qs
open List renaming length_map->Qh,mem_singleton->Qj,mem_append->Qk,not_mem_nil->Qq,contains_iff_mem->Qt,getLastD_eq_getLast?->Qu,length_append->Qx,map_append->Qy,getElem?_eq_getElem->Qz,append_nil->Q0,getElem_mem->Q1,mem_map->Q2,getElem_map->Q3
open Nat renaming le_trans->Qo,le_refl->Qv
open Option renaming some->Z,none->I
open Or renaming inl->Qc,inr->Qe
namespace Go.Proofs.YtcllhobffhkafaaGreatDoor
open Go.RowKit Go.Extern.Stop Go.Stop Go.Extern Go.Sort Go.Shelf Go.Lib
section
variable {a : Nat → Qm} {B : Nat} {EM : Qd → Prop}
def RJ (a:Nat->Qm) (W:Qd) (k:Lk) (id lo up:Int) (e:Ending) (w':Qd):Prop:=(k.ids.contains id=false/\e=A (Qa #[J I 0 0,Ql 410 (H (Z (a 5)))])/\BL W w')\/(k.ids.contains id=true/\∃x,Cy k.st id x/\JB a W (AR k.st.obs x lo up) e w'/\IG W e)
theorem zj1 (K:A2 a B EM An) (HL:∀X,EM X->AX X a) {W:Qd} {kb:Nat} {vs:G} {SP:Nat->Prop} {hd:ByteArray} {vi vf:G} {k:Lk} (v:EM W) (h:Al W kb vs SP hd vi vf k) (hi:Av k) (hl:k.ids.length<=1000) (b lo i:Int) (T: -9223372036854775808<=b/\b<=9223372036854775807) :
  Qb V 16 #[H (Z ⟨kb,0,I⟩),O U b,O U lo,O U i] W (RJ a W k b lo i):=by
 obtain⟨pt,rfl⟩:=h.ptr K;have y:S (∀x,Cy k.st b x->Qb V 47 #[H (Z pt),O U b] W fun e w'=> ∃vf,e=A (Qa #[A8 x vf,Qi])/\Ai w' vf x.2.2.2.2.2.2/\F9 W vf/\BL W w'):=fun x f =>
  P9 K HL W _ SP k.st b x v h.st hi.good.keeps f.has f.fine T
 have z:S (∀x:Sn,(Am x).1=0->∀q c,_):=fun x f q c=>PV K HL v h.st hi.good.keeps f (q:=q) (c:=c) lo i;have C:S (k.ids.contains b=true->∃x,Cy k.st b x):=fun hc=>hi.snaps b (Qt.1 hc);have aa:=(HL W v).x.list.miss;obtain⟨q,c,ah⟩:=h.ids.1.form;subst ah;have D:=Wa _ k.ids b W h.ids.1 hl;obtain⟨u,-,-,c3,-⟩:=h.blk.cells;have E:=GN u;clear h hi v T hl;generalize k.ids.length=L at *
 go_enter func16,ntmps16
 go_wp2_with fail
 refine E.mono ?_;rintro e w1 ⟨rfl,l⟩;rw[l];clear E l
 go_wp2_with fail
 refine D.mono ?_;rintro e w1 ⟨rfl,l⟩;rw[l];clear D l c3
 cases s:k.ids.contains b with
 | false =>
  have t:S (∀X,BL W X->RJ a W k b lo i (A (Qa #[J I 0 0,Ql 410 (H (Z (a 5)))])) X):=fun X hX=>Qc ⟨s,rfl,hX⟩;clear s u;go_wp2
  go_quiet (fail)
  go_wp2;go_ret2;exact t.out _ (AK (Qp _ _) nq)
 | true =>
 obtain⟨x,f⟩:=C.out s;have t:S (∀Y p r,JB a W (AR k.st.obs x lo i) (A (Qa #[p,r])) Y/\IG W (A (Qa #[p,r]))->RJ a W k b lo i (A (Qa #[p,r])) Y):=fun Y p r hp=>Qe ⟨s,x,f,hp⟩;have F:=y.out x f;have N:=z.out x f.fine;clear s f y C z aa
 go_wp2_with fail
 refine F.mono ?_;rintro e m ⟨vf,rfl,n,-,o⟩;obtain⟨q,c,rfl⟩:=n.form;have g:=N q c;generalize AR k.st.obs x lo i=R at g t;obtain⟨x1,x2,x3,x4,x5,xo,fs⟩:=x;dsimp only at n g;generalize fs.length=M at n g ⊢;have ab:S (∀X,BL W X->Ai X (J q M c) fs->_):=g;have P:=Aa o u;have j:=Ao.new m (x1,x2,x3,x4,x5,xo,fs) (J q M c);have d:BL m (m.alloc (Qg #[O U x1,O U x2,O U x3,O U x4,O U x5,Qf xo,J q M c] 40)):=Af _ _;have ac:=Aa d P;unfold A8;clear F N g u P
 go_upto_region 8 with fail
 generalize m.alloc (Qg #[O U x1,O U x2,O U x3,O U x4,O U x5,Qf xo,J q M c] 40)=WA at j d ac ⊢;generalize m.heap.size=xb at j ⊢;obtain⟨p0,p1,p2,p3,p4,p5,p6⟩:=j.cells;dsimp only at p0 p1 p2 p3 p4 p5;have ad:=n.below d;have ae:=Ad o d;have Q:BL WA WA.drew:=(Qp _ _).drew;have af:=Ad ae Q;have ag:=ad.below Q;clear j d n o
 go_region_with ((go_at_call 40;(with_reducible refine(ab.out _ af ag).mono ?_);rintro e wZ ⟨p,r,rfl,hP⟩))
 all_goals
  go_wp2;go_ret2;exact t.out _ _ _ hP
end
structure Et (k:Lk) (h:List (Int×List Rw)):Prop where
 top:∀m,k.st.head=AJ m->k.now.1<m
 low:∀p∈h,∀m,k.st.head=AJ m->p.1<m
 here:∀p∈h,p.1∈k.ids->∃x,Cy k.st p.1 x/\AR k.st.obs x Be Bf=(p.2,0,I)
theorem cF {s b:St} {c:Int} {x:Sn} (h:Cy s c x) (d:Cy b c x) (i:∀f∈x.2.2.2.2.2.2,Aj b.obs f=Aj s.obs f):AR b.obs x Be Bf=AR s.obs x Be Bf:=by
 rw[R3 d.fine d.files,R3 h.fine h.files];unfold DO;rw[EV (f:=BI b.obs) (g:=BI s.obs) fun y hy=>(Ht (i y hy)).2,EV (f:=Ck b.obs) (g:=Ck s.obs) fun y hy=>(Ht (i y hy)).1]
theorem Et.nil {k:Lk} (h:∀m,k.st.head=AJ m->k.now.1<m):Et k []:=⟨h,(fun _ hp=>absurd hp (Qq)),(fun _ hp=>absurd hp (Qq))⟩
theorem Et.tame {k j:Lk} {h:List (Int×List Rw)} (p:Et k h) (hi:Av k) (b:CD k j):Et j h:=by
 obtain⟨c,d,-⟩:=hi.head;obtain⟨n,f,r⟩:=b.head c d;refine⟨fun m hm=>?_,fun q hq m hm=>?_,fun q hq hid=>?_⟩
 ·have:=p.top c d;obtain rfl:=JJ (f.symm.trans hm);rw[b.now];omega
 ·have:=p.low q hq c d;obtain rfl:=JJ (f.symm.trans hm);omega
 ·obtain⟨x,g,l⟩:=p.here q hq (b.ids _ hid);obtain⟨i,o⟩:=b.snaps _ hid x g;exact⟨x,i,(cF g i o).trans l⟩
theorem Et.done {k l:Lk} {h:List (Int×List Rw)} (p:Et k h) (hi:Av k) (c:IL k l):Et l h:=by
 obtain⟨d,f,-⟩:=hi.head;have t:=c.new d f;obtain⟨n,g,o⟩:=c.head;refine⟨fun m hm=>?_,fun q hq m hm=>?_,fun q hq b=>?_⟩
 ·obtain rfl:=JJ (g.symm.trans hm);exact o
 ·have:=p.low q hq d f;obtain rfl:=JJ (g.symm.trans hm);omega
 ·rw[c.ids]at b;rcases Qk.1 b with b | b
  ·obtain⟨x,i,r⟩:=p.here q hq b;obtain⟨j,s⟩:=N3 i c.old;exact⟨x,j,(cF i j s).trans r⟩
  ·have:=p.low q hq d f;rw[Qj]at b;omega
theorem Et.step {k c:Lk} {h:List (Int×List Rw)} {x:Ak} {f:G} (p:Et k h) (hi:Av k) (g:FU k c x f):Et c h:=by
 rcases g with⟨d,-⟩|⟨-,-,-,-,i,-,b,-⟩|⟨-,-,-,-,-,b,-⟩|⟨-,-,b,-⟩
 ·exact p.tame hi d
 ·exact p.done hi b
 ·exact p.done hi b
 ·exact p.done hi b
theorem Et.more {k:Lk} {h:List (Int×List Rw)} (p:Et k h) (hi:Av k):Et k (h++ [(k.now.1,AU k)]):=by
 refine⟨p.top,fun q b m hm=>?_,fun q b hid=>?_⟩
 ·rcases Qk.1 b with b | b
  ·exact p.low q b m hm
  ·rw[Qj.1 b];exact p.top m hm
 ·rcases Qk.1 b with b | b
  ·exact p.here q b hid
  ·rw[Qj.1 b];exact⟨k.now,hi.now,(FV hi).1⟩
section
variable {a : Nat → Qm} {B : Nat} {EM : Qd → Prop}
theorem zj2 (K:A2 a B EM An) (HL:∀X,EM X->AX X a) {W:Qd} {kb:Nat} {vs:G} {SP:Nat->Prop} {hd:ByteArray} {vi vf:G} {k:Lk} (hE:EM W) (h:Al W kb vs SP hd vi vf k) (hi:Av k) (day:Int) (E:∀id x,Cy k.st id x->x.2.2.2.1<=day) :
  Qb V 18 #[H (Z ⟨kb,0,I⟩),O U day] W fun e w'=>e=A (Qa #[O U k.now.1,Qi])/\BL W w':=by
 obtain⟨pt,rfl⟩:=h.ptr K;obtain⟨d,hl,ab,ac⟩:=PW K HL hE h hi;have Q:=ac W (Qp _ _);have ae:S (∀(i:Nat) (h1:i<d.length),d[i].2.2.2.1<=day):=fun i h1=>E _ _ (ab i h1 (by omega));have af:S (k.ids.getLastD 0=k.now.1):=by
  show _=_;rw[Qu,hi.last];rfl
 have ag:=(JK hi.ids).1;obtain⟨c0,-,-,c3,-⟩:=h.blk.cells;obtain⟨q,c,ak⟩:=h.ids.1.form;subst ak;have ah:S (∀i (h2:i<k.ids.length),∃b o,q=Z ⟨b,o,I⟩/\W.cell? ⟨b,o+i,I⟩=Z (O U k.ids[i])):=fun i h2=>by
  rcases h.ids.1 with⟨_,_,_,e⟩|⟨b,o,c',P,hc⟩
  ·rw[e]at h2;simp at h2
  ·injection P with hq;exact⟨b,o,hq,hc i h2⟩
 obtain⟨L,N⟩:∃L,k.ids.length=L:=⟨_,rfl⟩;have l:S (k.ids.length=L/\d.length=L):=⟨N,hl.trans N⟩;rw[N]at c3 ag;have R:=GN c0;clear hE h hi hl ab ac E N
 go_enter func18,ntmps18
 go_wp2_with fail
 refine R.mono ?_;rintro e w1 ⟨rfl,e1⟩;rw[e1];clear R e1
 go_wp2_with fail
 refine Q.mono ?_;rintro e w2 ⟨v2,rfl,ho,s⟩;have t:=ho.sns;have F:=t.form;obtain⟨q2,ad,rfl⟩:=F;have ai:S (FJ w2 (J q2 d.length ad) d):=t;have al:S (d.length=L):=l.out.2;rw[l.out.2];clear Q ho t
 go_wp2_with fail
 go_loopw [8,9,10,24] (fun o _ _ i wr=> ∃n:Nat,n<=L/\i=O U n/\o=O U ((k.ids.take n).getLastD 0)/\BL w2 wr) (fun _ _ _ i _=>L-(intOf i).toNat)
 case atStart=>exact ⟨0,by omega,rfl,rfl,Qp _ _⟩
 case round =>
 obtain⟨n,hn,rfl,rfl,r⟩:=hrel;by_cases T:n<L
 case neg =>
  obtain rfl:n=L:=by omega
  have am:¬(n:Int)<(n:Int):=by omega
  have HT:S ((k.ids.take n).getLastD 0=k.now.1):=by
   show _=_;rw[List.take_of_length_le (by rw[l.out.1];exact Qv _)];exact af.out
  rw[HT.out];go_wp2;go_ret2;exact⟨rfl,(Ad s r)⟩
 case pos =>
 have an:(n:Int)<(L:Int):=by omega
 have ao:(0:Int)<=(n:Int):=by omega
 have m:n<d.length:=by rw[l.out.2];exact T
 have u:n<k.ids.length:=by rw[l.out.1];exact T
 obtain⟨b,o,rfl,v⟩:=ah.out n u;replace v:=Aa (Ad s r) v;have f0:=Aa (Ad s r) c0;have f3:=Aa (Ad s r) c3;have Y:S ((k.ids.take (n+1)).getLastD 0=k.ids[n]):=by
  show _=_;rw[<-List.take_append_getElem u,Qu,List.getLast?_concat];rfl
 have aa:d[n].2.2.2.1<=day:=ae.out n m;obtain⟨g,f,rfl,⟨vf,C,d0,d1,d2,d3,d4,d5,d6⟩⟩:∃g f,q2=Z ⟨g,f,I⟩/\∃vf,Ai wr vf d[n].2.2.2.2.2.2/\wr.cell? ⟨g,f+n*7,I⟩=Z (O U d[n].1)/\wr.cell? ⟨g,f+n*7+1,I⟩=Z (O U d[n].2.1)/\wr.cell? ⟨g,f+n*7+2,I⟩=Z (O U d[n].2.2.1)/\wr.cell? ⟨g,f+n*7+3,I⟩=Z (O U d[n].2.2.2.1)/\wr.cell? ⟨g,f+n*7+4,I⟩=Z (O U d[n].2.2.2.2.1)/\wr.cell? ⟨g,f+n*7+5,I⟩=Z (Qf d[n].2.2.2.2.2.1)/\wr.cell? ⟨g,f+n*7+6,I⟩=Z vf:=by
  rcases ai.out.below r with⟨p,c,P,-,e⟩|⟨g,f,aq,P,-,hc⟩
  ·rw[e]at m;simp at m
  ·injection P with hq;obtain⟨i0,i3,vf,i6,hf,i1,i2,i4,i5⟩:=hc n m;exact⟨g,f,hq,vf,hf,i0,i1,i2,i3,i4,i5,i6⟩
 obtain⟨qf,cf,rfl⟩:=C.form;generalize d[n].2.2.2.2.2.2.length=M at C d6;generalize d[n].2.2.2.2.2.1=xo at d5;generalize d[n].1=x0 at d0;generalize d[n].2.1=x1 at d1;generalize d[n].2.2.1=x2 at d2;generalize d[n].2.2.2.2.1=x4 at d4;generalize d[n].2.2.2.1=D at d3 aa;clear C;have j:BL wr (wr.alloc (Qg #[O U x0,O U x1,O U x2,O U D,O U x4,Qf xo,J qf M cf] 40)):=Af _ _;have y:=heap_alloc_new wr (Qg #[O U x0,O U x1,O U x2,O U D,O U x4,Qf xo,J qf M cf] 40)
 go_upto_region 10 with fail
 generalize wr.alloc (Qg #[O U x0,O U x1,O U x2,O U D,O U x4,Qf xo,J qf M cf] 40)=WA at j y ⊢;have g3:WA.cell? ⟨wr.heap.size,3,I⟩=Z (O U D):=by rw[Qw _ _ _ _ _ _ y];rfl
 generalize wr.heap.size=xb at g3;replace v:=Aa j v;replace f0:=Aa j f0;replace f3:=Aa j f3;have aj:=Ad r j;generalize k.ids[n]=z at v Y;clear d0 d1 d2 d3 d4 d5 d6 y j m u r;have ap:decide (D<=day)=true:=decide_eq_true aa;go_wp2;go_roundw
 case rel=>exact ⟨n+1,by omega,by go_num,by rw[Y.out],aj⟩
 case measure=>simp [intOf];omega
end
theorem zj3:(Tryz.prog.info? 35).map (fun i=>(i.zero,i.size,i.bytes))=Z (Z (J I 0 0),1,24):=by kernel_rfl
theorem zj4:∃i0:TypeInfo,Tryz.prog.info? 35=Z i0/\i0.zero=Z (J I 0 0)/\i0.size=1/\i0.bytes=24:=by
 obtain⟨i,b,h⟩:=Option.map_eq_some_iff.1 zj3;simp only[Prod.mk.injEq]at h;exact⟨i,b,h.1,h.2.1,h.2.2⟩
theorem cG {t e:TypeId} {i:TypeInfo} {z:G} {c:Nat} (r:Tryz.prog.underlying t=Z (.slice e)) (hi:Tryz.prog.info? e=Z i) (s:i.zero=Z z) (y:i.size=1) (m:i.bytes=c) (n:z.cells.size=1) (C:c<=100) {B:Nat} {X:Qd} {v:G} {b:List G} (D:X.ownsRow B e 1 v b.length b) (E:B<=X.heap.size) (u:G) (F:u.oneCell'=true) (L:b.length<=1000) :
  ∃v' W2,(Qr #[t,t] t #[v,J (Z ⟨X.heap.size,0,I⟩) 1 1]).run V (X.alloc (Qg #[u] e))= .ok v' W2/\W2.ownsRow B e 1 v' (b++ [u]).length (b++ [u])/\Ac (fun k=>v.ownBlock=Z k) X W2/\∀j,v'.ownBlock=Z j->v.ownBlock=Z j\/(X.heap.size<=j/\j<W2.heap.size):=by
 have d:BL X (X.alloc (Qg #[u] e)):=Af _ _;obtain⟨v',W2,o,p,q,f⟩:=Fc (P:=V) (X.alloc (Qg #[u] e)) B t t e i z 1 c r hi s y m n (by decide) v b.length b (AG (P:=fun _=>False) D (Ac.of_below d) (fun _ _ h=>h)) (Z ⟨X.heap.size,0,I⟩) 1 1 [u] rfl (Ih X [u] e 1 1) (by intro K l;rw[Qj]at l;subst l;exact F) (by unfold Qn;omega) (Qo (Nat.mul_le_mul (show b.length+1<=1001 by omega) C) (by decide)) (Qo E d.size);have g:W2.ownsRow B e 1 v' (b++ [u]).length (b++ [u]):=by rw[Qx];exact p
 refine⟨v',W2,o,g,(Ac.of_below d).trans (Ac.grown q) (fun _ h _=>h),fun j hj=>?_⟩;rcases f with f | f
 ·exact Qc (f▸hj)
 ·have:=(A7 g hj).2.1;rw[f]at hj;injection hj with hj;have:=d.size;exact Qe ⟨by omega,by omega⟩
abbrev Rv:=List Rw×G
def N7 (vi vh:G) (gs:List Rv) (j:Nat):Prop:=vi.ownBlock=Z j\/vh.ownBlock=Z j\/∃p∈gs,p.1≠ []/\p.2.ownBlock=Z j
structure B4 (W X:Qd) (kb:Nat) (vs:G) (k:Lk) (vi vh:G) (is:List Int) (hs gs:List Rv):Prop where
 bes:Cc W X kb vs k (N7 vi vh gs)
 ints:X.ownsRow W.heap.size 3 1 vi (is.map (O U)).length (is.map (O U))
 rws:X.ownsRow W.heap.size 35 1 vh (hs.map (·.2)).length (hs.map (·.2))
 at_:∀p∈gs,Ap X p.2 p.1
 dis:∀p∈gs,p.1≠ []->∀j,p.2.ownBlock=Z j->W.heap.size<=j/\vi.ownBlock≠Z j/\vh.ownBlock≠Z j
section
variable {a : Nat → Qm} {B : Nat} {EM : Qd → Prop} {W X Y : Qd} {kb : Nat} {vs : G} {k : Lk} {vi vh : G} {is : List Int} {hs gs : List Rv}
theorem B4.two (h:B4 W X kb vs k vi vh is hs gs) {j:Nat} (d:vi.ownBlock=Z j) (f:vh.ownBlock=Z j):False:=by
 obtain⟨-,-,g,c⟩:=A7 h.ints d;obtain⟨-,-,i,b⟩:=A7 h.rws f;rw[c]at b;injection b with b;injection b with _ e3;exact absurd e3 (by decide)
theorem B4.low (h:B4 W X kb vs k vi vh is hs gs) {j:Nat} (d:N7 vi vh gs j):W.heap.size<=j:=by
 rcases d with e | e | ⟨p,c,b,e⟩
 ·exact(A7 h.ints e).1
 ·exact(A7 h.rws e).1
 ·exact(h.dis p c b j e).1
theorem B4.to {b:Nat} {f:Lk} (h:B4 W X kb vs k vi vh is hs gs) {P:Nat->Prop} (c:Ac P X Y) (d:∀j,N7 vi vh gs j->¬P j) (g:Cc W Y b vs f (N7 vi vh gs)):B4 W Y b vs f vi vh is hs gs :=
 ⟨g,AG h.ints c fun j hj=>d j (Qc hj),AG h.rws c fun j hj=>d j (Qe (Qc hj)),fun p hm=>(h.at_ p hm).but c fun hne j hj=>d j (Qe (Qe ⟨p,hm,hne,hj⟩)),h.dis⟩
theorem B4.quiet (K:A2 a B EM An) (h:B4 W X kb vs k vi vh is hs gs) (b:BL X Y):B4 W Y kb vs k vi vh is hs gs:=h.to (P:=fun _=>False) (Ac.of_below b) (fun _ _ h=>h) (h.bes.quiet K b)
theorem B4.start (h:Es W.heap.size X kb vs k) (n:BL W X):B4 W X kb vs k (J I 0 0) (J I 0 0) [] [] []:=by
 obtain⟨c,d,f,g,i,l,m⟩:=h;refine⟨⟨c,⟨d,f,g,i,m,fun j hj=>?_⟩,l,n⟩,World.ownsRow_nil _ _ _ _,World.ownsRow_nil _ _ _ _,fun p b=>absurd b Qq,fun p b=>absurd b Qq⟩;rcases hj with e | e | ⟨p,b,-⟩
 ·cases e
 ·cases e
 ·cases b
theorem B4.ply (K:A2 a B EM An) (i:∀X,EM X->AX X a) (b:B<=W.heap.size) (j:EM X) (h:B4 W X kb vs k vi vh is hs gs) (c:k.spec.size<=30) (d:(A5 k.spec.data.toList).1=0) {f g:G} {x:Ak} (l:JP X f g x) :
  Qb V 10 #[H (Z ⟨kb,0,I⟩),Qf k.spec,CF x f g] X fun e w'=> ∃kb' k' ev,e=A (Qa #[H (Z ⟨kb',0,I⟩),ev])/\(ev=Qi\/∃t u,ev=Ql t u)/\B4 W w' kb' vs k' vi vh is hs gs/\FU k k' x ev :=
 (h.bes.ply K i b j c d l).mono fun _ _ ⟨kb',k',ev,he,h3,h4,h5,_,h6,h7⟩=>⟨kb',k',ev,he,h3,h.to h6 h7 h4,h5⟩
theorem B4.keep (K:A2 a B EM An) (h:B4 W X kb vs k vi vh is hs gs) (f:BL X Y) {R:List Rw} {v:G} (g:Ap Y v R) (i:F8 X v):B4 W Y kb vs k vi vh is hs (gs++ [(R,v)]):=by
 have d:=h.quiet K f;refine⟨h.bes.more K f fun j hj=>?_,d.ints,d.rws,fun p b=>?_,fun p b c j hj=>?_⟩
 ·rcases hj with e | e | ⟨p,b,c,e⟩
  ·exact Qc (Qc e)
  ·exact Qc (Qe (Qc e))
  ·rcases Qk.1 b with b | b
   ·exact Qc (Qe (Qe ⟨p,b,c,e⟩))
   ·rw[Qj]at b;subst b;exact Qe ⟨i j e,Pe g c e⟩
 ·rcases Qk.1 b with b | b
  ·exact d.at_ p b
  ·rw[Qj]at b;subst b;exact g
 ·rcases Qk.1 b with b | b
  ·exact h.dis p b c j hj
  ·rw[Qj]at b;subst b;have:=i j hj;exact⟨Qo h.bes.frame.size this,fun e=>by have:=(A7 h.ints e).2.1;omega,fun e=>by have:=(A7 h.rws e).2.1;omega⟩
theorem B4.addI (K:A2 a B EM An) (h:B4 W X kb vs k vi vh is hs gs) (z:Int) (r:is.length<=1000) :
  ∃v' W2,(Qr #[32,32] 32 #[vi,J (Z ⟨X.heap.size,0,I⟩) 1 1]).run V (X.alloc (Qg #[O U z] 3))= .ok v' W2/\B4 W W2 kb vs k v' vh (is++ [z]) hs gs:=by
 obtain⟨s,g,i,c,d⟩:=Tryz.numInfo;obtain⟨v',W2,l,m,b,f⟩:=cG underlying32 g i c d rfl (by decide) h.ints h.bes.frame.size (O U z) rfl (by rw[Qh];exact r);refine⟨v',W2,l,h.bes.turn K (b.mono fun j hj=>Qc hj) (fun j hj=>h.low hj) (fun j hj=>?_),by rw[Qy];exact m,AG h.rws b fun j e e'=>h.two e' e,fun p hp=>(h.at_ p hp).but b fun hne j e=>(h.dis p hp hne j e).2.1,fun p hp hne j hj=>?_⟩
 ·rcases hj with e | e
  ·exact(f j e).imp_left Qc
  ·exact Qc (Qe e)
 ·obtain⟨n,o,q⟩:=h.dis p hp hne j hj;refine⟨n,fun e=>?_,q⟩;rcases f j e with e | ⟨e,-⟩
  ·exact o e
  ·have:=Pe (h.at_ p hp) hne hj;omega
theorem B4.addR (K:A2 a B EM An) (h:B4 W X kb vs k vi vh is hs gs) {p:Rv} (b:p∈gs) (v:hs.length<=1000) :
  ∃v' W2,(Qr #[33,33] 33 #[vh,J (Z ⟨X.heap.size,0,I⟩) 1 1]).run V (X.alloc (Qg #[p.2] 35))= .ok v' W2/\B4 W W2 kb vs k vi v' is (hs++ [p]) gs:=by
 obtain⟨y,l,m,f,g⟩:=zj4;obtain⟨q,c,n⟩:=(h.at_ p b).form;obtain⟨v',W2,o,r,d,i⟩:=cG underlying33 l m f g rfl (by decide) h.rws h.bes.frame.size p.2 (by rw[n];rfl) (by rw[Qh];exact v);refine⟨v',W2,o,h.bes.turn K (d.mono fun j hj=>Qe (Qc hj)) (fun j hj=>h.low hj) (fun j hj=>?_),AG h.ints d fun j e e'=>h.two e e',by rw[Qy];exact r,fun p b=>(h.at_ p b).but d fun hne j e=>(h.dis p b hne j e).2.2,fun p b hne j hj=>?_⟩
 ·rcases hj with e | e | e
  ·exact Qc (Qc e)
  ·exact(i j e).imp_left fun e=>Qe (Qc e)
  ·exact Qc (Qe (Qe e))
 ·obtain⟨s,t,u⟩:=h.dis p b hne j hj;refine⟨s,t,fun e=>?_⟩;rcases i j e with e | ⟨e,-⟩
  ·exact u e
  ·have:=Pe (h.at_ p b) hne hj;omega
theorem B4.keys (h:B4 W X kb vs k vi vh is hs gs):A4 X vi is:=by
 have:=h.ints;rw[Qh]at this;exact Mw this
theorem B4.cells (h:B4 W X kb vs k vi vh is hs gs):∃q c,vh=J q hs.length c/\∀i (hi:i<hs.length),∃b,q=Z ⟨b,0,I⟩/\X.cell? ⟨b,i,I⟩=Z hs[i].2:=by
 have f:=h.rws;rw[Qh]at f;rcases f.2 with⟨d,m⟩|⟨g,j,l,d,_,n,p,_,_,o⟩
 ·exact⟨I,0,by rw[d,m],fun i hi=>by omega⟩
 ·refine⟨Z ⟨g,0,I⟩,j,d,fun i hi=>⟨g,rfl,?_⟩⟩;have e:(l.toList.take (hs.length*1))[i]? =(hs.map (·.2))[i]? :=by rw[o]
  rw[List.getElem?_take,if_pos (by omega),Array.getElem?_toList,List.getElem?_map,Qz hi]at e;rw[Qw _ _ _ _ _ _ n,e];rfl
theorem B4.clean (K:A2 a B EM An) (F:∀X,EM X->AX X a) (q:B<=W.heap.size) (L:EM X) (h:B4 W X kb vs k vi vh is hs gs) (age:Int) :
  Qb V 14 #[H (Z ⟨kb,0,I⟩),O U age] X fun e w'=> ∃k' m ev,e=A (Qa #[O U m,ev])/\B4 W w' kb vs k' vi vh is hs gs/\CD k k':=by
 obtain⟨s,⟨M,t,u,v,b,g⟩,i,c⟩:=h.bes;refine(Wl K F L v i (fun j hj=>Qo q (b j hj)) age).mono fun e w' hc=>?_;obtain⟨l,y,m,ev,rfl,-,d,n,o,p⟩:=hc;have f:=CD.clean i p;obtain⟨N,z,-⟩:=p;have r:k.st.head=({ k with st:=y } :Lk).st.head:=z.head.symm;rw[r]at o;refine⟨_,m,ev,rfl,h.to d (fun j hj=>(g j hj).2.1) ⟨s,⟨l,t,u,o,fun j hj=>(n j hj).elim (b j) (fun e=>Qo c.size e),fun j hj=>?_⟩,f.lki,c.trans (d.below c.size b)⟩,f⟩;obtain⟨C,D,E⟩:=g j hj;exact⟨Nat.lt_of_lt_of_le C d.size,fun e=>(n j e).elim D (fun e=>by omega),E⟩
theorem B4.atr (K:A2 a B EM An) (q:∀X,EM X->AX X a) (r:EM X) (h:B4 W X kb vs k vi vh is hs gs) {ps:List (Int×List Rw)} (s:Et k ps) {b:Int} {R:List Rw} (v:(b,R)∈ps) (i: -9223372036854775808<=b/\b<=9223372036854775807) :
  Qb V 16 #[H (Z ⟨kb,0,I⟩),O U b,O U (-9223372036854775808),O U 9223372036854775807] X fun e w'=>((k.ids.contains b=false/\∃t u,e=A (Qa #[J I 0 0,Ql t u]))\/(k.ids.contains b=true/\∃v',e=A (Qa #[v',Qi])/\Ap w' v' R))/\BL X w':=by
 obtain⟨z,C,D,l,-⟩:=h.bes.at_;refine(zj1 K q r l h.bes.lki (by have:=(JK h.bes.lki.ids).1;omega) b _ _ i).mono fun e w' ha=>?_;rcases ha with⟨c,rfl,d⟩|⟨c,x,d,p,-⟩
 ·exact⟨Qc ⟨c,_,_,rfl⟩,d⟩
 ·obtain⟨y,m,n⟩:=s.here _ v (Qt.1 c);obtain rfl:=Nk m d;obtain⟨v',E,rfl,f,g,o⟩:=p;have j:AR k.st.obs y (-9223372036854775808) 9223372036854775807=(R,0,I):=n;rw[j]at f g;have:=g.ok rfl;subst this;exact⟨Qe ⟨c,v',rfl,f⟩,o⟩
theorem zj5 {s:Sn} (h:(Am s).1=0):s.2.2.2.1<=100000:=(I1.1 (K0.1 h).1).2.1.2.2
theorem B4.last (K:A2 a B EM An) (c:∀X,EM X->AX X a) (d:EM X) (h:B4 W X kb vs k vi vh is hs gs) :
  Qb V 18 #[H (Z ⟨kb,0,I⟩),O U 100000] X fun e w'=>e=A (Qa #[O U k.now.1,Qi])/\BL X w':=by
 obtain⟨f,g,i,b,-⟩:=h.bes.at_;exact zj2 K c d b h.bes.lki 100000 fun id x hx=>zj5 hx.fine
end
attribute [local go_sem] Oper.semAt_some
theorem cH (b c d f g:Int) (i:ByteArray) (j:G) (w:Qd):(Instr.field 40 (.agg #[O U b,O U c,O U d,O U f,O U g,Qf i,j]) 0).run V w= .ok (O U b) w:=by kernel_rfl
section
variable {a : Nat → Qm} {B : Nat} {EM : Qd → Prop}
def C4 (W X:Qd) (kb:Nat) (vs:G) (k:Lk) (vi vh:G) (h:List (Int×Rv)) (gs:List Rv) (spec:ByteArray) (m:Nat):Prop:=B4 W X kb vs k vi vh (h.map (·.1)) (h.map (·.2)) (h.map (·.2)++gs)/\Et k (h.map fun p=>(p.1,p.2.1))/\k.spec=spec/\h.length<=m/\∀p∈h,(-9223372036854775808<=p.1/\p.1<=9223372036854775807)/\p.2.1.length<=20000
theorem C4.quiet (K:A2 a B EM An) {W X Y:Qd} {c:Nat} {d:G} {k:Lk} {f g:G} {h:List (Int×Rv)} {gs:List Rv} {b:ByteArray} {m:Nat} (t:C4 W X c d k f g h gs b m) (i:BL X Y):C4 W Y c d k f g h gs b m:=⟨t.1.quiet K i,t.2⟩
theorem C4.add (K:A2 a B EM An) {W X:Qd} {g:Nat} {i:G} {k:Lk} {j l v:G} {h:List (Int×Rv)} {c:ByteArray} {m:Nat} (t:C4 W X g i k j l h [(AU k,v)] c m) (C:m<=30) :
  ∃vi' X2 vh' X3,(Qr #[32,32] 32 #[j,J (Z ⟨X.heap.size,0,I⟩) 1 1]).run V (X.alloc (Qg #[O U k.now.1] 3))= .ok vi' X2/\(Qr #[33,33] 33 #[l,J (Z ⟨X2.heap.size,0,I⟩) 1 1]).run V (X2.alloc (Qg #[v] 35))= .ok vh' X3/\C4 W X3 g i k vi' vh' (h++ [(k.now.1,(AU k,v))]) [] c (m+1):=by
 obtain⟨f,n,o,q,r⟩:=t;obtain⟨vi',X2,s,u⟩:=f.addI K k.now.1 (by rw[Qh];omega);obtain⟨vh',X3,y,z⟩:=u.addR K (p:=(AU k,v)) (Qk.2 (Qe (Qj.2 rfl))) (by rw[Qh];omega);have d:=f.bes.lki;refine⟨vi',X2,vh',X3,s,y,⟨by simpa using z,by simpa using n.more d,o,by rw[Qx];exact Nat.succ_le_succ q,fun p b=>?_⟩⟩;rcases Qk.1 b with b | b
 ·exact r p b
 ·rw[Qj]at b;subst b;have:=(JK d.ids).2 _ (List.mem_of_getLast? d.last);exact⟨by omega,ze7 d⟩
theorem zj6 (K:A2 a B EM An) (HL:∀X,EM X→AX X a) {W:Qd} (hE:EM W) (d:ByteArray) (de:d.size≤Qn) {vl:G} {l:List Ak} (hl:Er W vl l) (bd:l.length≤Qn) (cg:∀x∈l,JQ x) (age:Int) (hn: -9223372036854775808≤age∧age≤9223372036854775807) :
   Qb V 3 #[Qf d,vl,O U age] W fun e w'=>e=A (Qs true)∧BL W w':=by
 have ag:=K.size _ hE
 have aa:S (∀X,BL W X→EM X):=fun X hb=>K.below _ _ hE (hb.mono ag)
 have bf:=bI K HL hE
 have bg:S (∀X,BL W X→Qb V 7 #[vl,O U 30] X fun e w'=>e=A (Qs (Ec 30 l))∧w'=X):=fun X y=>aN vl l 30 (by omega) X (hl.below y) bd cg
 have bh:S (∀X,BL W X→Qb V 9 #[] X fun e w'=> ∃v FP,e=A v∧An w' v FP E1∧(∀k,FP k→X.heap.size≤k)∧BL X w'):=fun X y=>K.new X (aa.out X y)
 have bi:S (∀X D SP,BL W X→An X D SP E1→(∀j,SP j→W.heap.size≤j)→d.size≤30→Qb V 8 #[D,Qf d] X fun e w'=>(∃t u,e=A (Qa #[H I,Ql t u])∧BL W w')∨∃f k,e=A (Qa #[H (Z ⟨f,0,I⟩),Qi])∧C4 W w' f D k (J I 0 0) (J I 0 0) [] [] d 0∧(A5 d.data.toList).1=0):=fun X D SP y h1 h2 h3=>(bK K HL ag (aa.out X y) y h1 h2 d h3).mono fun e w' h=>h.imp_right fun ⟨f,k,Q,g2,g3,g4,g5,_,g7⟩=>⟨f,k,Q,⟨B4.start g2 g3,Et.nil g7,g4,Qv _,fun p hp=>absurd hp Qq⟩,g5⟩
 have bj:S (∀X f D k vi vh h m vr vz x,C4 W X f D k vi vh h [] d m→d.size≤30→(A5 d.data.toList).1=0→JP X vr vz x→Qb V 10 #[H (Z ⟨f,0,I⟩),Qf d,CF x vr vz] X fun e w'=> ∃kb' k' ev,e=A (Qa #[H (Z ⟨kb',0,I⟩),ev])∧(ev=Qi∨∃t u,ev=Ql t u)∧C4 W w' kb' D k' vi vh h [] d m):=fun X f D k vi vh h m vr vz x E h3 h4 hx=>by
   obtain⟨Y,t2,rfl,t4⟩:=E
   exact(Y.ply K HL ag (aa.out X Y.bes.frame) h3 h4 hx).mono fun e w' ⟨kb',k',ev,e1,e2,e3,e4⟩=>⟨kb',k',ev,e1,e2,e3,t2.step Y.bes.lki e4,e4.lki.2,t4⟩
 have bk:S (∀X f D k vi vh h m,C4 W X f D k vi vh h [] d m→Qb V 11 #[H (Z ⟨f,0,I⟩)] X fun e w'=> ∃i2 i3 i4 i5 sx vg,e=A (.agg #[O U k.now.1,O U i2,O U i3,O U i4,O U i5,Qf sx,vg])∧C4 W w' f D k vi vh h [] d m):=fun X f D k vi vh h m E=>(E.1.bes.nowS K).mono fun e w' ⟨vg,Q,_,g3⟩=>⟨_,_,_,_,_,vg,Q,E.quiet K g3⟩
 have bl:S (∀X f D k vi vh h m,C4 W X f D k vi vh h [] d m→Qb V 12 #[H (Z ⟨f,0,I⟩),O U (-9223372036854775808),O U 9223372036854775807] X fun e w'=> ∃q N c,e=A (Qa #[J q N c,Qi])∧C4 W w' f D k vi vh h [] d m∧C4 W w' f D k vi vh h [(AU k,J q N c)] d m):=fun X f D k vi vh h m E=>(E.1.bes.rows K HL (aa.out X E.1.bes.frame)).mono fun e w' ⟨v',Q,g2,g3,g4⟩=>by
   obtain⟨q,c,rfl⟩:=g2.form
   refine⟨q,_,c,Q,E.quiet K g4,?_,E.2⟩
   have:=E.1.keep K g4 g2 g3
   rw[Q0]at this
   exact this
 have ah:S (∀X f D k vi vh h m z,m≤30→C4 W X f D k vi vh h [] d m→Qb V 13 #[O U z,vi] X fun e w'=>e=A (Qs ((h.map (·.1)).contains z))∧w'=X):=fun X f D k vi vh h m z hm E=>Si vi _ z X E.1.keys (by have:=E.2.2.2.1;unfold Qn;rw[Qh];omega)
 have bm:S (Er W vl l):=hl
 obtain⟨lq,lc,b1⟩:=hl.form
 obtain⟨L,hL⟩:∃L,l.length=L:=⟨_,rfl⟩
 have aw:S (l.length=L):=hL
 rw[hL]at b1 bd
 subst b1
 have M:S (A2 a B EM An∧(∀X,EM X→AX X a)∧B≤W.heap.size):=⟨K,HL,ag⟩
 unfold Qn at de bd
 obtain⟨LG,b2⟩:∃b,(decide (30<d.size) || Ec 30 l)=b:=⟨_,rfl⟩
 have ai:S ((decide (30<d.size) || Ec 30 l)=LG):=b2
 clear K HL hE hl cg ag hL b2
 go_enter func3,ntmps3
 go_wp2_with fail
 refine bf.mono ?_
 rintro e w1 ⟨rfl,af⟩
 have aj:=bg.out w1 af
 clear bf bg
 go_upto_region 2 with fail
 go_cut [36] from 26 to 36 (fun c wx=>c=Qs LG∧wx=w1)
 case first =>
   by_cases Q:30<d.size
   · have e:LG=true:=by rw[←ai.out];simp[Q]
     have cj:(30:Int)<(d.size:Int):=by omega
     subst e
     clear aj
     go_wp2
     go_meet
     case rel=>exact ⟨by first | rfl | (simp;omega),rfl⟩
   have cj:¬(30:Int)<(d.size:Int):=by omega
   have e:Ec 30 l=LG:=by rw[←ai.out];simp[Q]
   rw[e]at aj
   clear ai
   go_wp2_with fail
   refine aj.mono ?_
   rintro e wa ⟨rfl,rfl⟩
   clear aj
   go_wp2
   go_meet
   case rel=>exact ⟨by first | rfl | (cases LG<;>rfl),rfl⟩
 case rest =>
 obtain⟨rfl,rfl⟩:=hcut
 clear aj
 cases LG
 case true =>
   go_wp2
   go_ret
   exact⟨rfl,af⟩
 have ax:d.size≤30∧Ec 30 l=false:=by
   have:=ai.out
   simp only[Bool.or_eq_false_iff,decide_eq_false_iff_not]at this
   exact⟨by omega,this.2⟩
 have ay:=ax.1
 have ap:=aM ax.2
 have df:L≤30:=by have:=ap.1;have:=aw.out;omega
 have bn:S (∀x∈l,x.2.2.2.1.length≤60∧(∀r∈x.2.2.2.1,r.1.size≤30)∧x.2.2.2.2.length≤50):=ap.2
 clear ax ap ai
 have bo:=bh.out _ af
 go_wp2_with fail
 refine bo.mono ?_
 rintro e w2 ⟨D,FP,rfl,ac,b9,ca⟩
 obtain⟨pt,rfl⟩:=M.out.1.ptr _ _ _ _ ac
 have bp:=bi.out w2 _ FP (Ad af ca) ac (fun j hj=>Qo af.size (b9 j hj)) ay
 clear bo ac b9 ca bh bi af
 go_wp2_with fail
 refine bp.mono ?_
 rintro e w3 ba
 clear bp
 rcases ba with⟨t,u,rfl,dd⟩|⟨cd,k0,rfl,ce,cf⟩
 case inl =>
   go_wp2
   go_ret
   exact⟨rfl,dd⟩
 case inr =>
 have ck:S ((A5 d.data.toList).1=0):=cf
 have bq:S (C4 W w3 cd (H (Z pt)) k0 (J I 0 0) (J I 0 0) [] [] d 0):=ce
 clear ce cf
 go_wp2_with fail
 go_loopw [8,10,11,12,13,14,15,16,17,18] (fun k8 v10 v11 i _ _ _ _ _ _ wr=> ∃m:Nat,m≤L∧i=O U m∧∃f k h,k8=H (Z ⟨f,0,I⟩)∧C4 W wr f (H (Z pt)) k v10 v11 h [] d m) (fun _ _ _ i _ _ _ _ _ _ _=>L-(intOf i).toNat)
 case atStart=>exact ⟨0,by omega,rfl,cd,k0, [],rfl,bq.out⟩
 case round =>
 clear bq
 obtain⟨m,hm,rfl,f,k,h,rfl,an⟩:=hrel
 by_cases az:m<L
 case pos =>
   have ab:m<l.length:=by rw[aw.out];exact az
   obtain⟨g,o,hq,hc⟩:=(bm.out.below an.1.bes.frame).cells (fun e=>by rw[e]at ab;simp at ab)
   subst hq
   obtain⟨ur,uk,hp⟩:=hc m ab
   have hi:(m:Int)<(L:Int):=by omega
   have cl:(0:Int)≤(m:Int):=by omega
   have ak:=bj.out wr f _ k _ _ h m ur uk l[m] an ay ck.out (Er.act hp (bn.out _ (Q1 ab)))
   generalize l[m]=x at hp ak
   obtain⟨kd,xn,xm,xr,xk⟩:=x
   have c0:=hp.kind
   have c1:=hp.n
   have c2:=hp.m
   have c3:=hp.crow
   have c4:=hp.ckey
   obtain⟨dl,dm,a6⟩:=hp.rows.form
   obtain⟨dn,dp,a7,-⟩:=hp.form
   dsimp only at c0 c1 c2 c3 c4 a6 a7
   generalize xr.length=N1 at a6
   generalize xk.length=N2 at a7
   subst a6 a7
   unfold CF at ak
   dsimp only at ak
   clear hc ab hp an
   go_wp2_with fail
   refine ak.mono ?_
   rintro e w4 ⟨P,s,ev,rfl,db,bb⟩
   have H4:S (C4 W w4 P (H (Z pt)) s u10 u11 h [] d m):=bb
   have ad:=bk.out w4 P _ s _ _ h m bb
   clear ak bb db c0 c1 c2 c3 c4
   go_wp2_with fail
   refine ad.mono ?_
   rintro e w5 ⟨i2,i3,i4,i5,sx,vg,rfl,h5⟩
   have br:=cH
   have bs:=bl.out w5 P _ s _ _ h m h5
   clear ad h5 H4
   go_wp2_with fail
   refine bs.mono ?_
   rintro e w6 ⟨q6,N6,c6,rfl,h6,cb⟩
   have F:=ah.out w6 P _ s _ _ h m s.now.1 (by omega) h6
   have H6:S (C4 W w6 P (H (Z pt)) s u10 u11 h [] d m):=h6
   have a0:=C4.add M.out.1 cb (by omega)
   clear bs h6 cb br
   go_wp2_with fail
   refine F.mono ?_
   rintro e w7 ⟨rfl,rfl⟩
   clear F
   cases di:(h.map (·.1)).contains s.now.1 with
   | true =>
     clear a0
     go_wp2
     go_roundw
     case rel=>exact ⟨m+1,by omega,by go_num,P,s,h,rfl,by obtain⟨Y,t2,t3,t4,t5⟩:=H6.out;exact⟨Y,t2,t3,Nat.le_succ_of_le t4,t5⟩⟩
     case measure=>simp [intOf];omega
   | false =>
     obtain⟨cu,X2,cv,X3,b3,ao,E⟩:=a0
     have HT:S (C4 W X3 P (H (Z pt)) s cu cv (h++ [(s.now.1,(AU s,J q6 N6 c6))]) [] d (m+1)):=E
     clear E H6
     go_upto_region 23 with(at_builtin;refine wpList_append_run (by rfl) _ _ _ (by rfl) _ _ _ (by rfl) (by rfl) b3 ?_)
     clear b3
     go_upto_region 11 with(at_builtin;refine wpList_append_run (by rfl) _ _ _ (by rfl) _ _ _ (by rfl) (by rfl) ao ?_)
     clear ao
     go_wp2
     go_roundw
     case rel=>exact ⟨m+1,by omega,by go_num,P,s,_,rfl,HT.out⟩
     case measure=>simp [intOf];omega
 case neg =>
 obtain rfl:m=L:=by omega
 have gm:¬(m:Int)<(m:Int):=by omega
 have HB:S (C4 W wr f (H (Z pt)) k u10 u11 h [] d m):=an
 clear an bj bm aw bn bl bk ah
 have a1:S (Qb V 14 #[H (Z ⟨f,0,I⟩),O U age] wr fun e w'=> ∃k' n ev,e=A (Qa #[O U n,ev])∧C4 W w' f (H (Z pt)) k' u10 u11 h [] d m):=by
   obtain⟨Y,t2,t3,t4⟩:=HB.out
   exact(Y.clean M.out.1 M.out.2.1 M.out.2.2 (aa.out wr Y.bes.frame) age).mono fun e w' ⟨k',n,ev,Q,g2,g3⟩=>⟨k',n,ev,Q,g2,t2.tame Y.bes.lki g3,g3.spec.trans t3,t4⟩
 have a2:S (∃s,C4 W wr f (H (Z pt)) s u10 u11 h [] d m):=⟨k,HB.out⟩
 have gg:(0:Int)≤age∨¬(0:Int)≤age:=Decidable.em _
 rcases gg with ga | ga
 all_goals first
   | (have cm:¬(age<0):=by omega
      have bu:=a1.out
      clear a1 a2 HB
      go_wp2_with fail
      refine bu.mono ?_
      rintro e w4 ⟨s,n4,ev,rfl,h4⟩
      have H4:S (C4 W w4 f (H (Z pt)) s u10 u11 h [] d m):=h4
      clear bu h4 ga cm
      go_upto_region 26 with fail)
   | (obtain⟨s,h4⟩:=a2.out
      generalize wr=w4 at *
      have H4:S (C4 W w4 f (H (Z pt)) s u10 u11 h [] d m):=h4
      clear a1 a2 HB h4
      go_upto_region 26 with fail
      clear ga)
 all_goals
   have cn:=H4.out.1.bes.snaps M.out.1
   go_wp2_with fail
   refine cn.mono ?_
   rintro e w5 ⟨vt,rfl,cc,dc⟩
   have H5:S (C4 W w5 f (H (Z pt)) s u10 u11 h [] d m):=H4.out.quiet M.out.1 dc
   have HF:S _:=fun X (y:BL w5 X)=>H5.out.quiet M.out.1 y
   have dg:=(JK H5.out.1.bes.lki.ids).1
   have ah:S _:=fun X z (y:BL w5 X)=>Si vt _ z X (cc.below y) (by unfold Qn;omega)
   obtain⟨T,hT⟩:∃T,s.ids.length=T+1:=by
     have h0:s.ids≠ []:=fun e=>by
       have h1:=H5.out.1.bes.lki.last
       rw[e]at h1
       cases h1
     have:=List.length_pos_iff.2 h0
     exact⟨s.ids.length-1,by omega⟩
   have co:S (∃b o c,vt=J (Z ⟨b,o,I⟩) (T+1) c∧∀X,BL w5 X→X.cell? ⟨b,o+T,I⟩=Z (O U s.now.1)):=by
     rcases cc with⟨_,_,_,e⟩|⟨b,o,c,hv,hc⟩
     · rw[e]at hT;cases hT
     · have be:s.ids[T]'(by omega)=s.now.1:=by
         have:=H5.out.1.bes.lki.last
         rw[List.getLast?_eq_getElem?,hT,Qz (by omega)]at this
         exact Option.some.inj this
       exact⟨b,o,c,by rw[hv,hT],fun X y=>Aa y (by rw[←be];exact hc T (by omega))⟩
   obtain⟨bt,ot,ct,b4,cw⟩:=co.out
   obtain⟨LT,b5⟩:∃n,T+1=n:=⟨_,rfl⟩
   have a3:S (T+1=LT∧LT≤40):=⟨b5,by omega⟩
   rw[b5]at b4
   have cp:S _:=cw
   obtain⟨LH,cx⟩:∃n,h.length=n:=⟨_,rfl⟩
   have dh:LH≤30:=by have:=H5.out.2.2.2.1;omega
   obtain⟨qi,ci,a8⟩:=H5.out.1.keys.form
   obtain⟨qh,ch,b6,a9⟩:=H5.out.1.cells
   rw[Qh,cx]at a8 b6
   have bv:S (∀n,n<LH→∃(id:Int) (R:List Rw) (q2:Option Qm) (N2 c2 b o b' o':Nat),qi=Z ⟨b,o,I⟩∧qh=Z ⟨b',o',I⟩∧R.length≤20000∧(∀X,BL w5 X→X.cell? ⟨b,o+n,I⟩=Z (O U id))∧(∀X,BL w5 X→X.cell? ⟨b',o'+n,I⟩=Z (J q2 N2 c2)∧Ap X (J q2 N2 c2) R)∧∀X,BL w5 X→Qb V 16 #[H (Z ⟨f,0,I⟩),O U id,O U (-9223372036854775808),O U 9223372036854775807] X fun e w'=>((s.ids.contains id=false∧∃t u,e=A (Qa #[J I 0 0,Ql t u]))∨(s.ids.contains id=true∧∃v',e=A (Qa #[v',Qi])∧Ap w' v' R))∧BL X w'):=fun n hn=>by
     obtain⟨Y,t2,t3,t4,t5⟩:=H5.out
     have al:n<h.length:=by omega
     have hm:=Q1 al
     obtain⟨b',cy,ar⟩:=a9 n (by rw[Qh];exact al)
     have a4:=Y.at_ h[n].2 (by rw[Q0];exact Q2.2 ⟨_,hm,rfl⟩)
     obtain⟨q2,c2,b7⟩:=a4.form
     rw[Q3,b7]at ar
     rw[b7]at a4
     rcases Y.keys with⟨_,_,_,e⟩|⟨b,o,c,hv,hc⟩
     · rw[List.map_eq_nil_iff.1 e]at al;simp at al
     · rw[a8]at hv
       injection hv with hv
       have bw:=hc n (by rw[Qh];exact al)
       rw[Q3]at bw
       refine⟨h[n].1,h[n].2.1,q2,_,c2,b,o,b',0,hv,cy,(t5 _ hm).2,fun X y=>Aa y bw,fun X y=>⟨Aa y (by rw[Nat.zero_add];exact ar),a4.below y⟩,fun X y=>?_⟩
       have bx:=HF.out X y
       exact bx.1.atr M.out.1 M.out.2.1 (aa.out X bx.1.bes.frame) t2 (Q2.2 ⟨_,hm,rfl⟩) (t5 _ hm).1
   subst a8 b6 b4
   go_wp2_with fail
   go_loopw [20,21,22,23] (fun i _ _ _ wx=> ∃n:Nat,n≤LH∧i=O U n∧BL w5 wx) (fun i _ _ _ _=>LH-(intOf i).toNat)
   case atStart=>exact ⟨0,by omega,rfl,Qp _ _⟩
   case round =>
   obtain⟨n,hn,rfl,ae⟩:=hrel
   by_cases az:n<LH
   case pos =>
     obtain⟨id,R,q2,N2,c2,b,o,b',o',cz,c7,c8,b8,c9,ac⟩:=bv.out n az
     have bz:S _:=c8
     have cq:S _:=b8
     have cr:S _:=c9
     have hi:(n:Int)<(LH:Int):=by omega
     have cl:(0:Int)≤(n:Int):=by omega
     have c0:=b8 _ ae
     replace ac:=ac _ ae
     subst cz c7
     go_wp2_with fail
     refine ac.mono ?_
     rintro e w6 ⟨ba,C⟩
     replace C:=Ad ae C
     have c1:=cq.out _ C
     have F:=ah.out _ id C
     rcases ba with⟨au,t,u,rfl⟩|⟨au,v',rfl,av⟩
     · rw[au]at F
       go_wp2_with fail
       refine F.mono ?_
       rintro e w7 ⟨rfl,rfl⟩
       clear F c1
       go_wp2
       go_roundw
       case rel=>exact ⟨n+1,by omega,by go_num,C⟩
       case measure=>simp [intOf];omega
     · rw[au]at F
       obtain⟨da,ao⟩:=cr.out _ C
       have aq:=Sd v' _ R R w6 av ao bz.out bz.out
       rw[decide_eq_true rfl]at aq
       obtain⟨q6,c6,rfl⟩:=av.form
       generalize R.length=N6 at aq av
       clear au av ao
       go_wp2_with fail
       refine F.mono ?_
       rintro e w7 ⟨rfl,rfl⟩
       clear F c1
       go_wp2_with fail
       refine aq.mono ?_
       rintro e w8 ⟨rfl,a5⟩
       replace a5:=Ad C a5
       clear aq da C
       go_wp2
       go_roundw
       case rel=>exact ⟨n+1,by omega,by go_num,a5⟩
       case measure=>simp [intOf];omega
   case neg =>
   obtain rfl:n=LH:=by omega
   have gm:¬(n:Int)<(n:Int):=by omega
   have y:=HF.out _ ae
   have b0:=y.1.last M.out.1 M.out.2.1 (aa.out _ y.1.bes.frame)
   clear y bv ah
   go_wp2_with fail
   refine b0.mono ?_
   rintro e w6 ⟨rfl,C⟩
   replace C:=Ad ae C
   have ad:Qb V 11 #[H (Z ⟨f,0,I⟩)] w6 fun e w'=> ∃i2 i3 i4 i5 sx vg,e=A (.agg #[O U s.now.1,O U i2,O U i3,O U i4,O U i5,Qf sx,vg])∧BL w6 w':=((HF.out _ C).1.bes.nowS M.out.1).mono fun e w' ⟨vg,Q,_,g3⟩=>⟨_,_,_,_,_,vg,Q,g3⟩
   clear b0 ae
   have br:=cH
   generalize bc:s.now.1=N0 at ad
   have dj:S (s.now.1=N0):=bc
   have e0:(N0 == N0)=true:=beq_self_eq_true _
   go_wp2_with fail
   refine ad.mono ?_
   rintro e w7 ⟨i2,i3,i4,i5,sx,vg,rfl,am⟩
   replace am:=Ad C am
   have c5:=cp.out _ am
   rw[bc]at c5
   have h0:(0:Int)<(LT:Int):=by have:=a3.out.1;omega
   have hw:IntKind.i64.wrap ((LT:Int)-1)=(T:Int):=by have:=a3.out;rw[IntWalk.i64_in _ (by omega)];omega
   have dk:(T:Int)<(LT:Int):=by have:=a3.out.1;omega
   have cs:S (BL W w7):=(HF.out _ am).1.bes.frame
   clear ad C am bc
   go_wp2
   go_ret
   exact⟨rfl,cs.out⟩
end
end Go.Proofs.YtcllhobffhkafaaGreatDoor
