/- By an AI agent. -/
import Derived.Test.YtcllhobffhkafaaGreatDoorLkaPkp
set_option maxRecDepth 100000
set_option maxHeartbeats 16000000
open Go.Proofs.Tryz
open Array renaming getElem?_eq_some_iff->Qp,replicate_succ->QF,replicate_zero->QG
open Bool renaming false->Qt,true->Q2
open Go renaming World->A,Value->Qc,Boxed->Qd,Addr->Ql,maxLen->Qn,Calls->Qq,callsIn_wide->Qs,lt_of_block->Qw,DataW->Q3,KeepsFrom->Q8,OwnFrom->Q9,cell_of_row->QN,callsIn_of_wp_marks->QV,Ending->QX,run_takeDeferred->Xf,undef->Xg,CallsIn->Xm,results->Xt,ownsRow_succ->X1,results_tmp2->X3,cell_kept->X4,callsIn_of_wp->XE,results_none->XG,heap_alloc_new->XI,wpList_append_own_at->XP,wpList_mapUpdate_own->XR,ownFrom_below->XS,grownBy_putObj'->XU
open Go.Boxed renaming new->Q7
open Go.Ending renaming returned->Qk
open Go.Fence renaming wide->Qo
open Go.IntKind renaming i64->J
open Go.Maps renaming size->Q5,string_keyed->QS
open Go.Obj renaming cells->V,deferred->Qg
open Go.Oper renaming semAt_some->QL
open Go.Proofs renaming intOf->Q0,enters_of->QU
open Go.Proofs.Tryz renaming prog->Qb,underlying9->Qx,underlying163->QT,underlying82->Xo,isAgg82->Xp,sizeOf82->Xq,zeroValue82->Xr,func56->Xz,ntmps56->X0,zeroValue9->XD,underlying35->XQ
open Go.RowKit renaming Hid->Z,run_makeMap->XO
open Go.RowKit.Below renaming refl->Q1,size->QZ,heap_alloc->Xn,heap_setCell->Xx,drew->X8,alloc->X9
open Go.Value renaming slice->I,int->S,string->Qa,pointer->Qf,nilIface->Qi,tuple->Qv,iface->Qy,agg->QQ,ownBlock->Xk
open Go.WideMaps renaming keyOf_string_mk->Xa
open Go.World renaming putObj_heap_other->Qz,cell?->Q6,alloc_heap_new->XA,putObj->XB,putObj_heap_same->XC
open List renaming length_map->Qr,getElem_mem->Q4,size_toArray->QA,length_cons->QB,length_nil->QC,push_toArray->QH,append_toArray->QI,nil_append->QJ,cons_append->QK,mem_map->QM,length_append->QP,mem_filter->QW,length_filter_le->QY,take_append_getElem->Xc,length_take->Xd,map_append->Xe,flatMap_append->Xh,flatMap_cons->Xi,mem_cons->Xj,append_nil->Xl,getElem?_take->Xs,nodup_cons->Xu,map_map->Xv,take_length->X5,mem_cons_self->X6,mergeSort_perm->XF,take_of_length_le->XH,flatMap_nil->XJ,length_range->XK,mem_of_mem_drop->XL,mem_of_mem_take->XM,length_take_le->XN,exists_mem_of_ne_nil->XT,count_eq_zero->XV,flatMap_map->XW
open Nat renaming le_refl->Qj,lt_of_lt_of_le->Qm,le_trans->Qu,reduceAdd->QD,reduceSub->QE,ne_of_lt->QO,le_succ->QR,zero_le->Xb,zero_add->Xy
open Option renaming some->O,none->U
open Option.some renaming injEq->Xw
open Or renaming inr->Qe,inl->Qh
namespace Go.Proofs.YtcllhobffhkafaaGreatDoor
open Go.RowKit Go.Extern.Stop Go.Stop Go.Extern Go.Sort Go.Shelf Go.Lib
attribute [local go_sem] QL
def K8 (X:A) (cb D:Nat) (ds:List Dr) (rem:List ByteArray):Prop:= ∃vd vr,El X cb vd vr/\Bg X D vd ds/\X.ownsRow D 9 1 vr rem.length (rem.map Qa)
theorem WS {X:A} {D n:Nat} {c d:Qc} {ds:List Dr} {g:List Qc} (h:Bg X D c ds) (i:X.ownsRow D 9 1 d n g) {j:Nat} (k:c.ownBlock=O j):d.ownBlock≠O j:=fun h2=>by
 obtain⟨-,-,l,f⟩:=A7 h k;obtain⟨-,-,m,b⟩:=A7 i h2;rw[f]at b;cases b
theorem Rq {X:A} {b D n:Nat} {d f g:Qc} {i:List Qc} (j:X.ownsRow D 9 1 d n i) (k:El X b f g):d.ownBlock≠O b:=fun h2=>by
 obtain⟨-,-,l,c⟩:=A7 j h2;rw[show X.heap[b]? =_ from k]at c;cases c
theorem zD {W:A} {q:Option Ql} {n c:Nat} {d:List ByteArray} (h:BV W (I q n c) d):CR W q n c (d.map Qa):=by
 by_cases e:d= []
 ·subst e;rcases h with⟨h,-⟩|⟨g,k,h,-,-⟩
  ·cases h;exact Qh ⟨rfl,fun _=>rfl⟩
  ·cases h;exact Qe ⟨_,_,rfl,fun j u hu=>by simp at hu⟩
 ·obtain⟨b,rfl,f⟩:=h.cells e;have:=nV (n:=d.length) (c:=c) f;obtain⟨l,m,i⟩:=h.form;obtain⟨-,rfl,-⟩:=i;rw[X5]at this;exact this
def LC (W:A) (cb:Nat) (obs:List Ob) (x:Sn) (nm:ByteArray) (ps:List ByteArray) (ds:List Dr) (rem:List ByteArray) (e:QX) (w':A):Prop :=
 BL W w'/\((∃t u,e=Qk (Qy t u))\/(e= .returned Qi/\K8 w' cb W.heap.size (ds++G1 obs x nm ps) (rem++ps)/\(Cq obs x ps= []\/DM (Cq obs x ps))))
section
variable {a : Nat → Ql} {B : Nat} {EM : A → Prop}
theorem zE (K:A2 a B EM An) (HL:∀X,EM X->AX X a) {W:A} {kb:Nat} {vs:Qc} {SP:Nat->Prop} {hd:ByteArray} {vi vf:Qc} {k:Lk} (hE:EM W) (h:Al W kb vs SP hd vi vf k) (hi:Av k) {X:A} (hb:BL W X) {i:Nat} (b3:W.heap.size<=i) {ds:List Dr} {z:List ByteArray} (hc:K8 X i W.heap.size ds z) (b4:ds.length<=900) (b5:z.length<=1000) {F:List Fl} {nm:ByteArray} (hF:∀f∈F,f∈k.now.2.2.2.2.2.2/\AL f.1=Qt/\f.2.1=nm) (b6:F≠ []) (a8:F.length<=1000) {vp:Qc} (hp:BV W vp (F.map (·.1))) :
  Qq Qb 74 #[Qf (O ⟨kb,0,U⟩),Qf (O ⟨i,0,U⟩),vp] X (LC W i k.st.obs k.now nm (F.map (·.1)) ds z):=by
 obtain⟨pt,rfl⟩:=h.ptr K;have ba:=JG hi.now.fine;have al:=fun Y (hY:BL W Y)=>K.below _ _ hE (hY.mono (K.size _ hE));have aa:Z _:=hb;have bb:(AR k.st.obs k.now Be Bf).2.1=0:=by rw[Nx hi.now.fine hi.now.files]
 have bc:=WN bb (F.map (·.1));have bd:(AR k.st.obs (Hn k.now (k.now.2.2.2.2.2.2.filter fun f=> !CC (F.map (·.1)) f)) Be Bf).2.1=0:=by rw[bc]
 have au:=Wp hi.now.fine fun f=> !CC (F.map (·.1)) f;obtain⟨C,ae⟩:∃l,Cq k.st.obs k.now (F.map (·.1))=l:=⟨_,rfl⟩;have be:Z ((∀r∈C,r.1.size<=30)/\C.length<=2400):=by
  have:=WR (obs:=k.st.obs) (s:=Hn k.now (k.now.2.2.2.2.2.2.filter fun f=> !CC (F.map (·.1)) f)) (lo:=Be) (hi:=Bf);have e:(AR k.st.obs (Hn k.now (k.now.2.2.2.2.2.2.filter fun f=> !CC (F.map (·.1)) f)) Be Bf).1=C:=ae;rw[e]at this;refine⟨fun r hr=>zC (this.1 r hr),Qu this.2 ?_⟩;have h1:(k.now.2.2.2.2.2.2.filter fun f=> !CC (F.map (·.1)) f).length<=k.now.2.2.2.2.2.2.length:=QY _ _;show 40*(k.now.2.2.2.2.2.2.filter fun f=> !CC (F.map (·.1)) f).length<=2400;omega
 have ab:=h;have bf:Z (∀Y,BL W Y->Qq Qb 147 #[Qf (O pt),A8 k.now vf,vp] Y fun e w'=> ∃v',e=Qk (Qv #[v',Qi])/\Ap w' v' C/\F8 Y v'/\BL Y w'):=fun Y hY=>by
  refine yU Y pt k.now vf (ab.fls.below hY) (by omega) ba.2 vp (F.map (·.1)) (hp.below hY) (by rw[Qr];exact a8) hi.now.fine (fun p hp'=>?_) C (F8 Y) (fun d hZ=>(HL d (al d (Ad hY hZ))).x.list) fun d v hZ hf=>?_
  ·obtain⟨f,hf,rfl⟩:=QM.1 hp';exact⟨f,(hF f hf).1,rfl,(hF f hf).2.1⟩
  ·have bg:=Ad hY hZ;obtain⟨q,c,hv⟩:=hf.form;subst hv;refine(PV K HL (al d bg) (ab.quiet K bg).st hi.good.keeps au (q:=q) (c:=c) (-1073741824) 1073741824 d (Q1 _ _) hf).mono ?_;rintro e w' ⟨v',ev,rfl,⟨v1,df,he,h1,h2,h3⟩,cv⟩;cases he
   rw[sD (by omega) (by omega) (show Be<= -1073741824 by unfold Be;omega) (show (1073741824:Int)<=Bf by unfold Bf;omega)]at h1 h2;have e1:=h2.ok bd;subst e1;refine⟨v',rfl,?_,(cv _ _ rfl).up hZ.size,h3⟩;rw[<-ae];exact h1
 obtain⟨f0,Fr,rfl⟩:∃f r,F=f :: r:=by cases F with | nil=>exact absurd rfl b6 | cons f r=>exact ⟨f,r,rfl⟩
 have am:=hF f0 X6;obtain⟨E,ap,bt,bu⟩:=WD am.1;have bh:=Ns (Fg hi.now.fine).2 (Q4 _) am.1 bu;have bi:Z (∀Y,BL W Y->Qq Qb 83 #[vf,Qa f0.1] Y fun e w'=>e=Qk (S J (E:Int))/\BL Y w'):=fun Y hY=>by
  have:=Kx vf k.now.2.2.2.2.2.2 f0.1 Y (ab.fls.below hY) (by omega);rw[bt]at this;exact this
 have bj:Z _:=fun Y D v vr ds vx (hY:BL W Y) (h1:El Y i v vr) (h2:Bg Y D v ds) (h3:D<=Y.heap.size) (h4:ds.length<=1000) (h5:Ap Y vx C)=>Wo (HL Y (al Y hY)).f.data h1 h2 h3 h4 h5 (by have:=be.out.2;omega) be.out.1 nm;obtain⟨M,N,a9⟩:∃M N,∃q c,vf=I q k.now.2.2.2.2.2.2.length c/\q=O ⟨M,N,U⟩/\F6 W M N k.now.2.2.2.2.2.2:=by
  obtain⟨q,c,e⟩:=ab.fls.form;have hx:=ab.fls;rw[e]at hx;obtain⟨b,o,e2,e3⟩:=hx.cells (fun e=>by rw[e]at ap;simp at ap);exact⟨b,o,q,c,e,e2,e3⟩
 obtain⟨q,fc,rfl,rfl,bv⟩:=a9;have av:=bv E ap;rw[bh]at av;have b8:Z _:=am.2.2;obtain⟨PS,af⟩:∃l,(f0 :: Fr).map (·.1)=l:=⟨_,rfl⟩;have aw:PS.length<=1000:=by rw[<-af,Qr];exact a8
 rw[af]at hp ae ⊢;obtain⟨pb,pc,cj,a4⟩:∃pb pc,vp=I (O ⟨pb,0,U⟩) PS.length pc/\W.cell? ⟨pb,0,U⟩=O (Qa f0.1):=by
  obtain⟨q,c,e⟩:=hp.form;have hx:=hp;rw[e]at hx;obtain⟨b,e2,e3⟩:=hx.cells (by rw[<-af];simp);refine⟨b,c,by rw[e,e2],?_⟩;subst af;exact e3 0 (by simp)
 subst cj;have bk:Z _:=fun Y (hY:BL W Y)=>zD (hp.below hY);have ax:Z (G1 k.st.obs k.now nm PS=if C= [] then [] else [CX nm C]):=by
  show (if Cq _ _ _= [] then [] else [CX nm (Cq _ _ _)])=_;rw[ae]
 have HQ:Z _:=fun Y (hY:BL W Y)=>ab.quiet K hY;obtain⟨c0,-,-,-,c4,c5,c6,c7,c8,c9,a1,-⟩:=ab.blk.cells;have c3:(E:Int)<(k.now.2.2.2.2.2.2.length:Int):=by omega
 have HC:Z _:=hc;have ay:Z (ds.length<=900/\z.length<=1000/\PS.length<=1000):=⟨b4,b5,aw⟩;have bl:Z _:=ae;have c2:0<PS.length:=by rw[<-af];simp
 clear af;obtain⟨p0,p1,p2,p3,p4,p5⟩:=f0;dsimp only at *;have en:p1=nm:=b8.out;subst en;obtain⟨d0,d1,d2,d3,d4,d5⟩:=av;have bm:BL X X.drew:=(Q1 _ _).drew;clear hE h hi hb hc b4 b5 hF b6 a8 hp ba al bb bc bd au ae ab am bu bh ap bt bv aw;unfold A8 at bf;generalize k.now.2.2.2.2.2.2.length=FN at *;obtain⟨vd,vr,a5,ck,a6⟩:=HC.out;have HV:Z (∀Y,BL X Y->El Y i vd vr/\Bg Y W.heap.size vd ds/\Y.ownsRow W.heap.size 9 1 vr z.length (z.map Qa)):=fun Y hY=>⟨(hY.block i (Qw a5)).trans a5,ck.below hY,AG (P:=fun _=>False) a6 (Ac.of_below hY) (fun _ _ h=>h)⟩;have bn:Z (i<X.heap.size/\∀j,vr.ownBlock=O j->j<X.heap.size):=⟨Qw a5,fun j hj=>(A7 a6 hj).2.1⟩;obtain⟨qr,nr,cr,cl⟩:∃q n c,vr=I q n c:=by
  rcases a6.2 with⟨e,-⟩|⟨g,dg,dh,e,-⟩
  ·exact⟨_,_,_,e⟩
  ·exact⟨_,_,_,e⟩
 have az:Z _:=fun Y (hY:BL X Y)=>aa.out.trans (hY.mono aa.out.size);have c4:=Aa aa.out c4;have c5:=Aa aa.out c5;have c6:=Aa aa.out c6;have c7:=Aa aa.out c7;have c8:=Aa aa.out c8;have c9:=Aa aa.out c9;have a0:Z _:=a1;have ac:Z (W.cell? ⟨pb,0,U⟩=O (Qa p0)/\W.cell? ⟨M,N+E*6,U⟩=O (Qa p0)/\W.cell? ⟨M,N+E*6+1,U⟩=O (Qa p1)/\W.cell? ⟨M,N+E*6+2,U⟩=O (S J p2)/\W.cell? ⟨M,N+E*6+3,U⟩=O (S J p3)/\W.cell? ⟨M,N+E*6+4,U⟩=O (S J p4)/\W.cell? ⟨M,N+E*6+5,U⟩=O (S J p5)):=⟨a4,d0,d1,d2,d3,d4,d5⟩;have b9:=bf.out X.drew (az.out _ bm);have a1:=Aa aa.out a1;have c0:=Aa aa.out c0
 go_enter func74,ntmps74
 go_upto_region 1 with fail
 go_cut [7,8] from 10 to 23 (fun c7 c8 wx=>c8=Qi/\Ap wx c7 C/\F8 X c7/\BL X wx)
 case first =>
  clear HV az a0 ac ax bk bi bj HQ ay
  first
   | (go_region_with (go_at_call 147;(with_reducible refine b9.mono ?_);rintro e wZ ⟨v',rfl,cw,cy,cz⟩))
   | fail
  all_goals
   go_wp2;go_meet
   case rel=>exact ⟨rfl,cw,cy,(Ad bm cz)⟩
 case rest =>
 obtain⟨rfl,bw,bx,bz⟩:=hcut;obtain⟨qx,cx,cm⟩:=bw.form;subst cm;obtain⟨aq,b0,ar⟩:=HV.out wc bz;have an:=az.out wc bz;have k1:wc.cell? ⟨i,1,U⟩=O vr:=by rw[QN _ _ _ _ _ _ aq];rfl
 obtain⟨vn,R,hr,a7,ag⟩:=UK ar an.size (O ⟨pb,0,U⟩) PS.length pc rfl (bk.out wc an) (by have:=ay.out;omega);have a2:Bg R W.heap.size vd ds:=b0.but ag (fun j hj=>WS b0 ar hj);have ad:El R i vd vr:=(ag.block i (Qw aq) (Rq ar aq)).trans aq;have bo:BL W R:=an.trans (ag.below an.size (fun j hj=>Jt ar hj));have k2:R.cell? ⟨i,1,U⟩=O vr:=by rw[QN _ _ _ _ _ _ ad];rfl
 have kf:R.frozen? ⟨i,1,U⟩=Qt:=frozen_of_row _ _ _ _ _ ad;have b7:Ap R (I qx C.length cx) C:=bw.but ag (fun _ j hj e=>by have:=bn.out.2 j e;have:=bx j hj;omega);have y:Z (Ap (R.setCell ⟨i,1,U⟩ vn) (I qx C.length cx) C/\El (R.setCell ⟨i,1,U⟩ vn) i vd vn/\Bg (R.setCell ⟨i,1,U⟩ vn) W.heap.size vd ds/\(R.setCell ⟨i,1,U⟩ vn).ownsRow W.heap.size 9 1 vn (z++PS).length ((z++PS).map Qa)/\BL W (R.setCell ⟨i,1,U⟩ vn)):=by
  have hs:Ac (fun j=>j=i) R (R.setCell ⟨i,1,U⟩ vn):=(Ac.refl (fun j=>j=i) R).setCell (Qh rfl) _;refine⟨b7.but hs (fun _ j hj e=>by have:=bn.out.1;have:=bx j hj;omega),?_,a2.but hs (fun j hj e=>Wm a2 ad (e▸hj)),AG a7 hs (fun j hj e=>Rq a7 ad (e▸hj)),bo.trans (hs.below bo.size (fun j hj=>by rw[hj];exact b3))⟩;unfold El at *;rw[heap_setCell_same _ _ _ _ _ _ ad];rfl
 obtain⟨qn,cn,co⟩:=(IC a7).form;subst cl co;obtain⟨RL,b1⟩:∃n,(z++PS).length=n:=⟨_,rfl⟩;rw[b1]at hr y;have bp:Z _:=b1;by_cases ah:C= []
 case pos =>
  have HP:Z (LC W i k.st.obs k.now p1 PS ds z (.returned Qi) (R.setCell ⟨i,1,U⟩ (I qn RL cn))):=by
   obtain⟨-,h1,h2,h3,h4⟩:=y.out;refine⟨h4,Qe ⟨rfl,⟨vd,_,h1,?_,by rw[bp.out];exact h3⟩,Qh (bl.out.trans ah)⟩⟩;rw[ax.out,if_pos ah,Xl];exact h2
  subst ah
  go_wp2_with (at_builtin;refine wpList_append_run (by rfl) _ _ _ (by rfl) _ _ _ (by rfl) (by rfl) hr ?_)
  go_wp2;go_ret;exact HP.out
 case neg =>
 have ca:C.length≠0:=fun e=>ah (List.length_eq_zero_iff.1 e);have cc:Z _:=ah;have da:Z (C.length=C.length):=rfl;obtain⟨L,hL⟩:∃L,C.length=L:=⟨_,rfl⟩;rw[hL]at ca ⊢;have cd:Z _:=hL;have db:¬(L:Int)=0:=by omega
 go_wp2_with (at_builtin;refine wpList_append_run (by rfl) _ _ _ (by rfl) _ _ _ (by rfl) (by rfl) hr ?_)
 have ce:=Aa y.out.2.2.2.2 a0.out;have y0:=Aa y.out.2.2.2.2 ac.out.1;have f0:=Aa y.out.2.2.2.2 ac.out.2.1;have f1:=Aa y.out.2.2.2.2 ac.out.2.2.1;have f2:=Aa y.out.2.2.2.2 ac.out.2.2.2.1;have f3:=Aa y.out.2.2.2.2 ac.out.2.2.2.2.1;have f4:(R.setCell ⟨i,1,U⟩ (I qn RL cn)).cell? ⟨M,N+E*6+4,U⟩=O (S J p4):=Aa y.out.2.2.2.2 ac.out.2.2.2.2.2.1;have f5:(R.setCell ⟨i,1,U⟩ (I qn RL cn)).cell? ⟨M,N+E*6+5,U⟩=O (S J p5):=Aa y.out.2.2.2.2 ac.out.2.2.2.2.2.2
 go_upto_region 7 with fail
 clear k1 k2 kf;generalize R.setCell ⟨i,1,U⟩ (I qn RL cn)=W3 at *;have cf:Z (∀Y,BL W3 Y->Qq Qb 83 #[I (O ⟨M,N,U⟩) FN fc,Qa p0] Y fun e w'=>e=Qk (S J (E:Int))/\BL Y w'):=fun Y hY=>bi.out Y (y.out.2.2.2.2.trans (hY.mono y.out.2.2.2.2.size));have dc:BL W3 W3:=Q1 _ _;have aj:=BF ce;have ak:=BF y0;have T:=BF f0;have dd:(0:Int)<=(E:Int):=by omega
 have de:(0:Int)<(PS.length:Int):=by omega
 go_cut [9] from 37 to 53 (fun c9 wx=> ∃xb,c9=Qf (O ⟨xb,0,U⟩)/\A1 wx xb (p0,p1,p2,p3,p4,p5)/\BL W3 wx)
 case first =>
  go_region_held3 (fun w'=>BL W3 w'/\w'.cell? ⟨kb,10,U⟩=O (I (O ⟨M,N,U⟩) FN fc)/\w'.cell? ⟨pb,0,U⟩=O (Qa p0)/\w'.cell? ⟨M,N+E*6,U⟩=O (Qa p0)/\w'.cell? ⟨M,N+E*6+1,U⟩=O (Qa p1)/\w'.cell? ⟨M,N+E*6+2,U⟩=O (S J p2)/\w'.cell? ⟨M,N+E*6+3,U⟩=O (S J p3)/\w'.cell? ⟨M,N+E*6+4,U⟩=O (S J p4)/\w'.cell? ⟨M,N+E*6+5,U⟩=O (S J p5))
   (first
    | (go_split_ands;with_reducible exact⟨Below.trans (by with_reducible assumption) (Q.mono (QZ (by with_reducible assumption))),Aa Q (by with_reducible assumption),Aa Q (by with_reducible assumption),Aa Q (by with_reducible assumption),Aa Q (by with_reducible assumption),Aa Q (by with_reducible assumption),Aa Q (by with_reducible assumption),Aa Q (by with_reducible assumption),Aa Q (by with_reducible assumption)⟩)
    | (go_split_ands;with_reducible exact⟨L0 (by with_reducible assumption) m m,(Dv (by with_reducible assumption) (Qm aj m)),(Dv (by with_reducible assumption) (Qm ak m)),(Dv (by with_reducible assumption) (Qm T m)),(Dv (by with_reducible assumption) (Qm T m)),(Dv (by with_reducible assumption) (Qm T m)),(Dv (by with_reducible assumption) (Qm T m)),(Dv (by with_reducible assumption) (Qm T m)),(Dv (by with_reducible assumption) (Qm T m))⟩)
    | (go_split_ands;with_reducible refine⟨VN (by with_reducible assumption) ?_,GM (by with_reducible assumption) ?_,GM (by with_reducible assumption) ?_,GM (by with_reducible assumption) ?_,GM (by with_reducible assumption) ?_,GM (by with_reducible assumption) ?_,GM (by with_reducible assumption) ?_,GM (by with_reducible assumption) ?_,GM (by with_reducible assumption) ?_⟩;all_goals first | exact m | exact Qj _ | exact QO aj | exact QO ak | exact QO T | exact QO (Qm aj m) | exact QO (Qm ak m) | exact QO (Qm T m))
    | (go_split_ands;with_reducible refine⟨X8 (by with_reducible assumption),?_,?_,?_,?_,?_,?_,?_,?_⟩;all_goals go_keep)
    | (go_split_ands;with_reducible refine⟨X9 (by with_reducible assumption) (QZ (by with_reducible assumption)) _,?_,?_,?_,?_,?_,?_,?_,?_⟩;all_goals go_keep)
    | (go_split_ands;with_reducible refine⟨X8 (X9 (by with_reducible assumption) (QZ (by with_reducible assumption)) _),?_,?_,?_,?_,?_,?_,?_,?_⟩;all_goals go_keep)
    | (go_split_ands;with_reducible exact⟨by assumption,by assumption,by assumption,by assumption,by assumption,by assumption,by assumption,by assumption,by assumption⟩))
   (first | (go_at_call 83;with_reducible refine(cf.out _ (by go_split_ands;with_reducible assumption)).mono ?_;rintro e wX ⟨rfl,Q⟩;have m:W3.heap.size<=wX.heap.size:=(by go_split_ands;exact Qu (QZ (by with_reducible assumption)) Q.size);first | (with_reducible have ao:=A1.below (VK _) Q;obtain⟨y0,y1,y2,y3,y4,y5,yf⟩:=ao.cells) | (with_reducible have ao:=A1.below (VJ _) Q;obtain⟨y0,y1,y2,y3,y4,y5,yf⟩:=ao.cells) | skip))
  all_goals go_split_ands
  all_goals go_wp2
  all_goals go_meet
  all_goals first
   | (with_reducible exact⟨_,rfl,VM _ _ _ _ _ _ _,by assumption⟩)
   | (with_reducible exact⟨_,rfl,VL ao _ _ _ _ _ _,by assumption⟩)
 case rest =>
 obtain⟨xb,rfl,cp,ai⟩:=hcut;obtain⟨cq,b2,cs,ct,cu⟩:=y.out;have a3:=Ad cu ai;have bq:=(ai.block i (Qw b2)).trans b2;have br:=cs.below ai;have cg:=AG (P:=fun _=>False) ct (Ac.of_below ai) (fun _ _ h=>h);have bs:=bj.out wc W.heap.size vd (I qn RL cn) ds (I qx C.length cx) a3 bq br a3.size (by have:=ay.out.1;omega) (cq.below ai);rw[cd.out]at bs;have ch:=cp.cells.2.1
 try dsimp only at ch
 have H4:Z (El wc i vd (I qn RL cn)/\Bg wc W.heap.size vd ds/\wc.ownsRow W.heap.size 9 1 (I qn RL cn) RL ((z++PS).map Qa)/\BL W wc):=⟨bq,br,cg,a3⟩
 go_wp2_with fail
 refine bs.mono ?_;rintro e w6 c1;rcases c1 with⟨g0,rfl,v6,g1,g2,g3⟩|⟨-,⟨t,u,rfl⟩,g3⟩
 case inl =>
  have HP:Z (LC W i k.st.obs k.now p1 PS ds z (.returned Qi) w6):=by
   obtain⟨h1,h2,h3,h4⟩:=H4.out;have ci:=fun j (hj:(j=i\/vd.ownBlock=O j))=>hj.elim (fun e=>e▸b3) (fun e=>Jt h2 e);refine⟨h4.trans (g3.below h4.size ci),Qe ⟨rfl,⟨v6,_,g1,?_,?_⟩,Qe (by rw[bl.out];exact g0)⟩⟩
   ·rw[ax.out,if_neg cc.out];exact g2
   ·rw[bp.out];exact AG h3 g3 (fun j hj e=>e.elim (fun e=>Rq h3 h1 (e▸hj)) (fun e=>WS h2 h3 e hj))
  go_wp2;go_ret;exact HP.out
 case inr =>
  have HP:Z (LC W i k.st.obs k.now p1 PS ds z (Qk (Qy t u)) w6):=⟨H4.out.2.2.2.trans (g3.mono H4.out.2.2.2.size),Qh ⟨t,u,rfl⟩⟩;go_wp2;go_ret;exact HP.out
end
end Go.Proofs.YtcllhobffhkafaaGreatDoor
namespace Go.Proofs.YtcllhobffhkafaaGreatDoor
open Go.RowKit
def zF (B:Nat) (Kp:A->A->Prop) (b:A->Prop) (W:A):Exit->Act->A->Prop
 | .normal,_,W'=>Q8 B W W'/\Kp W W'/\b W'
 | _,_,_=>False
def Rr {α:Type} (n gf:Nat) (lb:Array Qc) (encs:α->Array Qc) (Ex:List α->α->A->Prop) (Kp:A->A->Prop) (b:List α->Prop) (w:A):Prop :=
 ∀(l:Nat) (c:List α->A->Prop) (W:A),BL w W->Q9 W.heap.size c->(∀pre x W1,c pre W1->Ex pre x W1->YieldAt Qo (n-1) Qb l (encs x) W1 fun e W'=>e=Qk (.bool Q2)/\c (pre++ [x]) W'/\Kp W1 W'/\Q8 W.heap.size W1 W')->c [] W ->
  Xm Qo n Qb gf (#[.func (.yield l) #[] #[]]++lb) W fun e W'=>(∃v,e=Qk v)/\∃xs,b xs/\c xs W'
theorem _root_.Go.KeepsFrom.up {B b:Nat} {W c:A} (h:Q8 B W c) (d:B<=b):Q8 b W c:=⟨h.size,fun k o hk=>h.same k o (Qu d hk)⟩
theorem WT {α:Type} {n:Nat} {g:Operand} {ps:Array Tmp} {assign body:Code} {Q:Exit->Act->A->Prop} {a:Act} {w:A} {gf:Nat} {lb:Array Qc} (q:a.eval g= .func (.func gf) #[] lb) (eg:∀args w,(callFunc gf args).run Qb w= .ok (.enter gf args) w) {m:α->Array Qc} (am:∀x,(m x).size=ps.size) {Ex:List α->α->A->Prop} {z:A->A->Prop} {c:List α->Prop} (ai:Rr (n-1) gf lb m Ex z c w)
  (ae:∀ {d B C:A},z d B->z B C->z d C) (af:∀(W:A) (l:Nat) (o o':Obj),w.heap.size<=l->W.heap[l]? =O o->o.isCells=Qt->z W (W.putObj l o')) (an:∀pre x,Q9 w.heap.size (fun (_:Unit) W=>Ex pre x W))
  (b:List α->A->Prop) (E:Q9 w.heap.size b) (h0:b [] w) (a₁:α->Act)
  (F:∀(l:Nat) (x:α) (W:A) (K:Act->A->Prop),K (a₁ x) W->assign.wpIn (Fence.wide.inRound l) (n-1-1) Qb (Exit.then K (fun _ _ _=>False)) { tmps:=(ps.zip (m x)).foldl (fun t (p,v)=>t.setIfInBounds p v) a.tmps,defers:= [] } W)
  (aa:∀(l:Nat) (pre:List α) (x:α) (W:A),w.heap.size<=l->(∃r,W.heap[l]? =O (.loop r))->b pre W->Ex pre x W->body.wpIn (Fence.wide.inRound l) (n-1-1) Qb (zF w.heap.size z (b (pre++ [x])) W) (a₁ x) W)
  (ab:∀(D:Nat) (xs:List α) (W:A),w.heap.size<=D->c xs->b xs W->W.heap[D]? =O (Qg (O []))->Q .normal { a with defers:= { target:=.collected D,args:=#[] } :: a.defers } W) :
  (Code.rangeFunc g ps assign body).wpIn Qo n Qb Q a w:=by
 refine wpIn_rangeFunc fun fn hfn=>?_;obtain⟨f,i⟩:∃f:LoopState->Loop,f=fun st=> { state:=st,pending:=U,fn,tmps:=a.tmps,params:=ps,assign,body,defers:=w.heap.size } :=⟨_,rfl⟩;have L:(Instr.enterLoop fn a.tmps ps assign body U).run Qb w= .ok (w.heap.size+1, [{ target:=.collected w.heap.size,args:=#[] }]) ((w.alloc (Qg (O []))).alloc (.loop (f .ready))):=by rw[i];exact run_enterLoop_outer _ _ _ _ _
 have u:((w.alloc (Qg (O []))).alloc (.loop (f .ready))).heap[w.heap.size+1]? =O (.loop (f .ready)):=by
  have:=XA (w.alloc (Qg (O []))) (.loop (f .ready))
  rwa [World.size_alloc]at this
 have M:((w.alloc (Qg (O []))).alloc (.loop (f .ready))).heap[w.heap.size]? =O (Qg (O [])):=(Xn _ _ _ (by simp)).trans (XA w _);have ac:b [] ((w.alloc (Qg (O []))).alloc (.loop (f .ready))):=E.alloc _ (E.alloc _ h0);have ad:BL w ((w.alloc (Qg (O []))).alloc (.loop (f .ready))):=((Q1 _ w).alloc (Qj _) _).alloc (by simp) _;have aj:w.heap.size+2<=((w.alloc (Qg (O []))).alloc (.loop (f .ready))).heap.size:=by simp
 generalize (w.alloc (Qg (O []))).alloc (.loop (f .ready))=y at L u M ac ad aj;refine⟨w.heap.size+1, [{ target:=.collected w.heap.size,args:=#[] }],y, { target:=.fn (.func gf) lb,args:=#[.func (.yield (w.heap.size+1)) #[] #[]] },y,gf,#[.func (.yield (w.heap.size+1)) #[] #[]]++lb,y,L,?_,fun _ _=>trivial,?_,(fun h=>by cases h),?_⟩
 ·simp only[resolve,q];simp[go_sem]
 ·simp[invoke,go_sem,eg]
 have N:∀ {d B:A} {row:Option Nat} {k:Nat} {o:Obj},d.grownBy B row->(∀r,row=O r->y.heap.size<=r/\∃o:Obj,d.heap[r]? =O o/\o.isCells=Qt)->k<w.heap.size+2->d.heap[k]? =O o->B.heap[k]? =O o:=fun q hr hk ho=>(q.block _ (Qp.1 ho).1 (fun e=>by have:=(hr _ e.symm).1;omega)).trans ho;have R:∀(X:A) (l:Nat) (o:Obj),l=w.heap.size+1->Q8 y.heap.size X (X.putObj l o):=fun X l o hl=>⟨by simp[XB],fun k o' hB hk _=>(Qz (by omega)).trans hk⟩;refine(ai (w.heap.size+1) (fun xs W=>b xs W/\W.heap[w.heap.size+1]? =O (.loop (f .ready))/\W.heap[w.heap.size]? =O (Qg (O []))) y ad
  (fun s d B row hs q hr=>⟨E s d B row hs.1 q (fun r e=>⟨by have:=(hr r e).1;omega,(hr r e).2⟩),N q hr (by omega) hs.2.1,N q hr (by omega) hs.2.2⟩) ?yield ⟨ac,u,M⟩).mono ?_
 case yield =>
  rintro pre x W ⟨h1,j,h3⟩ hx;have ak:w.heap.size+1<W.heap.size:=(Qp.1 j).1;have hy:=run_yield (P:=Qb) (args:=m x) j (by rw[i];exact am x);rw[i]at hy;refine⟨fn,_,assign,body,hy,roundIn_of_wpIn hfn (F _ x W _ ⟨_,run_beginRound j (by rw[i]),?_⟩)⟩;have e2:(W.putObj (w.heap.size+1) (.loop { f .ready with state:=.busy })).heap[w.heap.size+1]? =O (.loop { f .ready with state:=.busy }):=XC ak;have e3:(W.putObj (w.heap.size+1) (.loop { f .ready with state:=.busy })).heap[w.heap.size]? =O (Qg (O [])):=(Qz (by omega)).trans h3;refine wpIn_mono (aa _ pre x _ (by omega) ⟨_,e2⟩ (E.putObj _ h1 (by omega) j rfl) ((an pre x).putObj (s:=()) _ hx (by omega) j rfl)) ?_;intro e a3 W3 hp
  cases e with
  | normal =>
   obtain⟨T,ah,al⟩:=hp;have Y:=T.same _ _ (by omega) e2 rfl;have ag:=run_endRound (P:=Qb) U Y;refine⟨_,_,ag,rfl,⟨E.putObj _ al (by omega) Y rfl,?_,(Qz (by omega)).trans (T.same _ _ (Qj _) e3 rfl)⟩,ae (ae (af _ _ _ _ (by omega) j rfl) ah) (af _ _ _ _ (by omega) Y rfl),(KeepsFrom.trans ((R _ _ _ rfl).trans (T.up (by omega))) (R _ _ _ rfl))⟩;rw[XC (Qp.1 Y).1,i];rfl
  | _=>exact hp.elim
 rintro e W2 ⟨⟨v,rfl⟩,xs,hS,h1,j,h3⟩;exact⟨U,_,by have:=run_endLoop (P:=Qb) j (by rw[i];simp);rw[i]at this;exact this,ab _ xs _ (Qj _) hS (E.putObj _ h1 (by omega) j rfl) ((Qz (by omega)).trans h3)⟩
end Go.Proofs.YtcllhobffhkafaaGreatDoor
namespace Go.Proofs.YtcllhobffhkafaaGreatDoor
open Go.RowKit Go.Extern.Stop Go.Stop Go.Extern Go.Sort Go.Shelf Go.Lib
theorem Tryz.zeroRows (w:A):(zeroValue 35).run Qb w= .ok (I U 0 0) w:=by kernel_rfl
theorem Di.look {W:A} {base f:Nat} {p:Rw->ByteArray} {ys:List Rw} {D:Q3 Unit} {g:List UInt8->Qc} (h:Di W base f p ys D g) (b:ByteArray) (j:b.size<=Qn) :
  (Instr.lookup 163 (.map (O f)) (.string b) Qt).run Qb W= .ok (g b.data.toList) W:=by
 obtain⟨v,k,c,d⟩:=h.map.lookup (QS Qx) QT (Tryz.zeroRows W) (zd:=.nil) (zp:= []) rfl (Xa Qx j);have i:=Uq d;subst i;rw[c,Ur d (h.hd b.data.toList)]
end Go.Proofs.YtcllhobffhkafaaGreatDoor
namespace Go.Proofs
open Go.Shelf
def Tryz.keysIt_ren:Go.Shelf.Ren:=⟨fun | 7=>189 | 10=>277 | n=>n,fun | 23=>163 | 26=>9 | 3=>35 | 28=>224 | 0=>0 | 27=>223 | 33=>116 | 4=>4 | n=>n,fun | n=>n⟩
theorem Tryz.keysIt:Go.Proofs.SlLaysZ.n7 Qb keysIt_ren:= { lays172 with
 mixed:=by kernel_rfl
 f7:=⟨Tryz.f189.name,by decide,Tryz.lq func189 (by kernel_rfl)⟩
 f10:=⟨Tryz.f277.name,by decide,Tryz.lq func277 (by kernel_rfl)⟩
 t23:=QT
 a23:=isAgg163
 z23:=sizeOf163
 v23:=zeroValue163
 t26:=Qx
 a26:=isAgg9
 z26:=sizeOf9
 v26:=XD
 t27:=underlying223
 a27:=isAgg223
 z27:=sizeOf223
 v27:=zeroValue223
 t28:=underlying224
 a28:=isAgg224
 z28:=sizeOf224
 v28:=zeroValue224
 t33:=underlying116
 a33:=isAgg116
 z33:=sizeOf116
 v33:=zeroValue116 }
def Tryz.sortedIt_ren:Go.Shelf.Ren:=⟨fun | 6=>166 | 8=>256 | 9=>87 | 11=>323 | 13=>99 | 12=>164 | 23=>181 | 24=>182 | 14=>248 | 15=>249 | 16=>250 | 17=>251 | 18=>252 | 19=>253 | 20=>168 | 21=>254 | 22=>255 | 25=>320 | 26=>264 | 27=>265 | 28=>321 | 29=>322 | 30=>258 | 31=>360 | n=>n,fun | 26=>9 | 28=>224 | 24=>82 | 0=>0 | 3=>3 | 37=>159 | 48=>229 | 50=>242 | 4=>4 | 40=>235 | 39=>234 | 45=>90 | 5=>5 | 9=>9 | 51=>299 | 55=>303 | 57=>351 | 58=>267 | 33=>116 | n=>n,fun | n=>n⟩
theorem Tryz.sortedIt:Go.Proofs.SlLaysZ.n6 Qb sortedIt_ren:= { keysIt with
 mixed:=by kernel_rfl
 f6:=⟨Tryz.f166.name,by decide,Tryz.lq func166 (by kernel_rfl)⟩
 f8:=⟨Tryz.f256.name,by decide,Tryz.lq func256 (by kernel_rfl)⟩
 f11:=⟨Tryz.f323.name,by decide,Tryz.lq func323 (by kernel_rfl)⟩
 t24:=Xo
 a24:=Xp
 z24:=Xq
 v24:=Xr
 i26:=by kernel_rfl }
def Tryz.sortIt_ren:Go.Shelf.Ren:=⟨fun | 6=>87 | 8=>99 | 9=>164 | 19=>181 | 20=>182 | 21=>248 | 22=>249 | 23=>250 | 24=>251 | 25=>252 | 26=>253 | 27=>168 | 28=>254 | 29=>255 | 36=>320 | 31=>264 | 32=>265 | 37=>321 | 38=>322 | 39=>258 | 41=>360 | n=>n,fun | 27=>82 | 29=>9 | 3=>3 | 32=>159 | 26=>82 | 0=>0 | 44=>229 | 46=>242 | 4=>4 | 36=>235 | 35=>234 | 41=>90 | 5=>5 | 9=>9 | 53=>299 | 57=>303 | 63=>351 | 64=>267 | n=>n,fun | n=>n⟩
theorem Tryz.sortIt:Go.Proofs.SlLaysM.n6 Qb sortIt_ren:= { lays172 with
 mixed:=by kernel_rfl
 f6:=⟨Tryz.f87.name,by decide,Tryz.lq func87 (by kernel_rfl)⟩
 f8:=Tryz.lq func99 (by kernel_rfl)
 f9:=⟨Tryz.f164.name,by decide,Tryz.lq func164 (by kernel_rfl)⟩
 f19:=Tryz.lq func181 (by kernel_rfl)
 f20:=Tryz.lq func182 (by kernel_rfl)
 f21:=⟨Tryz.f248.name,by decide,Tryz.lq func248 (by kernel_rfl)⟩
 f22:=⟨Tryz.f249.name,by decide,Tryz.lq func249 (by kernel_rfl)⟩
 f23:=⟨Tryz.f250.name,by decide,Tryz.lq func250 (by kernel_rfl)⟩
 f24:=⟨Tryz.f251.name,by decide,Tryz.lq func251 (by kernel_rfl)⟩
 f25:=⟨Tryz.f252.name,by decide,Tryz.lq func252 (by kernel_rfl)⟩
 f26:=⟨Tryz.f253.name,by decide,Tryz.lq func253 (by kernel_rfl)⟩
 f27:=⟨Tryz.f168.name,by decide,Tryz.lq func168 (by kernel_rfl)⟩
 f28:=⟨Tryz.f254.name,by decide,Tryz.lq func254 (by kernel_rfl)⟩
 f29:=⟨Tryz.f255.name,by decide,Tryz.lq func255 (by kernel_rfl)⟩
 f31:=Tryz.lq func264 (by kernel_rfl)
 f32:=Tryz.lq func265 (by kernel_rfl)
 f36:=⟨Tryz.f320.name,by decide,Tryz.lq func320 (by kernel_rfl)⟩
 f37:=⟨Tryz.f321.name,by decide,Tryz.lq func321 (by kernel_rfl)⟩
 f38:=⟨Tryz.f322.name,by decide,Tryz.lq func322 (by kernel_rfl)⟩
 f39:=⟨Tryz.f258.name,by decide,Tryz.lq func258 (by kernel_rfl)⟩
 f41:=⟨Tryz.f360.name,by decide,Tryz.lq func360 (by kernel_rfl)⟩
 t26:=Xo
 a26:=Xp
 z26:=Xq
 v26:=Xr
 t27:=Xo
 a27:=Xp
 z27:=Xq
 v27:=Xr
 t29:=Qx
 a29:=isAgg9
 z29:=sizeOf9
 v29:=XD
 t32:=underlying159
 a32:=isAgg159
 z32:=sizeOf159
 v32:=zeroValue159
 t35:=underlying234
 a35:=isAgg234
 z35:=sizeOf234
 v35:=zeroValue234
 t36:=underlying235
 a36:=isAgg235
 z36:=sizeOf235
 v36:=zeroValue235
 t41:=underlying90
 a41:=isAgg90
 z41:=sizeOf90
 v41:=zeroValue90
 t44:=underlying229
 a44:=isAgg229
 z44:=sizeOf229
 v44:=zeroValue229
 t46:=underlying242
 a46:=isAgg242
 z46:=sizeOf242
 v46:=zeroValue242
 t53:=underlying299
 a53:=isAgg299
 z53:=sizeOf299
 v53:=zeroValue299
 t57:=underlying303
 a57:=isAgg303
 z57:=sizeOf303
 v57:=zeroValue303
 t63:=underlying351
 a63:=isAgg351
 z63:=sizeOf351
 v63:=zeroValue351
 t64:=underlying267
 a64:=isAgg267
 z64:=sizeOf267
 v64:=zeroValue267 }
end Go.Proofs
namespace Go.Proofs.YtcllhobffhkafaaGreatDoor
open Go.RowKit Go.Maps Go.Sort Go.Shelf
theorem Tryz.sortsIt (m:Nat):AnyZ.SortsIn Qb sortedIt_ren Qo m :=
 ⟨fun blk off cap ss W hH hblk hsz=>Qs.2 (AnyM.slices_Sort_string sortIt blk off cap ss W hH hblk hsz),
  fun p cap W=>Qs.2 (AnyM.slices_Sort_string_none sortIt p cap W)⟩
theorem Tryz.mapsKeys (b:Option Nat) (W:A):Xm Qo 5 Qb 189 #[.map b] W fun e w'=>e=Qk (.func (.func 277) #[] #[Qf (O ⟨W.heap.size,0,U⟩)])/\w'=W.alloc (V #[.map b] 163) :=
 AnyZ.keys_in keysIt Qo 5 trivial rfl b W
theorem Tryz.sortedKeys {H:Type} (b m:Nat) (c:Q3 H) (R:Qc->Option (Q3 H×List MemPlace)) (w:A) (f:w.ownsMap Qb 9 R b m c) (k:Q5 c<=Qn) (g:Q5 c*16<=140737488355328) :
  Xm Qo 5 Qb 166 #[.func (.func 277) #[] #[.pointer (O ⟨w.heap.size,0,U⟩)]] (w.alloc (V #[.map (O b)] 163)) fun e w'=> ∃(v:Qc) (d:List (List UInt8)),e=Qk v/\d.Perm (strKeys c) /\
   w'.ownsRow (w.alloc (V #[.map (O b)] 163)).heap.size 9 1 v d.length ((d.mergeSort (fun x y=>decide (x<=y))).map encStr)/\(v= .slice U 0 0↔d= [])/\Below (w.alloc (V #[.map (O b)] 163)).heap.size (w.alloc (V #[.map (O b)] 163)) w':=by
 have l:=f.lt;have j:SeqGives Qo 2 Qb 277 #[.pointer (O ⟨w.heap.size,0,U⟩)] encStr (fun d=>d.Perm (strKeys c)) (Q5 c) (w.alloc (V #[.map (O b)] 163)) :=
  AnyZ.keys_gives (ρ:=keysIt_ren) { keysIt with } Qo _ trivial rfl (by omega) w.heap.size b m c _ (by simp) (by simp) (by
   obtain⟨n,i,o,p,q,r⟩:=f;exact⟨n,i,(Xn _ _ b l).trans o,p,q,r⟩)
 exact AnyZ.sorted_in sortedIt Qo 5 trivial trivial trivial trivial rfl (by omega) (Tryz.sortsIt _) (QU func87 (by kernel_rfl) rfl) 277 #[.pointer (O ⟨w.heap.size,0,U⟩)] trivial (QU func277 (by kernel_rfl) rfl) _ _ k g _ j
end Go.Proofs.YtcllhobffhkafaaGreatDoor
namespace Go.Proofs.YtcllhobffhkafaaGreatDoor
open Go.RowKit Go.Extern.Stop Go.Stop Go.Extern Go.Sort Go.Shelf Go.Lib
attribute [local go_sem] QL
def Hq (B:Nat) (W W':A):Prop :=
 W.heap.size<=W'.heap.size/\∀k,k<W.heap.size->(k<B\/∃cs t fz,W.heap[k]? =O (V cs t fz)/\(t=9\/t=163))->W'.heap[k]? =W.heap[k]?
theorem Hq.refl (B:Nat) (W:A):Hq B W W:=⟨Qj _,fun _ _ _=>rfl⟩
theorem Hq.trans {B:Nat} {b C E:A} (h:Hq B b C) (k:Hq B C E):Hq B b E :=
 ⟨Qu h.1 k.1,fun i hi c=>by
  have e:=h.2 i hi c;rw[<-e];refine k.2 i (Qm hi h.1) ?_;rcases c with c | ⟨d,t,f,g,j⟩
  ·exact Qh c
  ·exact Qe ⟨d,t,f,e.trans g,j⟩⟩
theorem Rs {W b:A} (h:BL W b):W.grownBy b U:=⟨h.os,h.tape,h.output,h.size,fun k hk _=>h.block k hk⟩
theorem zG {W:A} {f k:Nat} {D:Q3 Unit} {g:List UInt8->Qc} (h:W.ownsMap Qb 9 Ch f k D) (i:∀nm,Ch (g nm)=O (D.atKey (.string nm) .nil, [])) (b:ByteArray) (l:b.size<=Qn) :
  (Instr.lookup 163 (.map (O f)) (.string b) Qt).run Qb W= .ok (g b.data.toList) W:=by
 obtain⟨v,m,c,d⟩:=h.lookup (QS Qx) QT (Tryz.zeroRows W) (zd:=.nil) (zp:= []) rfl (Xa Qx l);have j:=Uq d;subst j;rw[c,Ur d (i b.data.toList)]
theorem WU (D:Q3 Unit) (h:Maps.IsMap D):(strKeys D).length=Q5 D:=by
 obtain⟨b,rfl⟩:=h;simp[strKeys,Q5]
theorem zH (f n B Y:Nat) (g:Q3 Unit) (hv:List UInt8->Qc) (w:A) (aa:w.ownsMap Qb 9 Ch f Y g) (a2:∀nm,Ch (hv nm)=O (g.atKey (.string nm) .nil, []))
  (am:∀nm∈strKeys g,nm.length<=1000) (a6:Q5 g<=1000) (a3:f<B) (ad:w.heap[n]? =O (V #[.map (O f)] 163 (0,0))) :
  SeqStopsK Qo 8 Qb 188 #[.pointer (O ⟨n,0,U⟩)] (fun nm:List UInt8=>#[encStr nm,hv nm]) (Hq B) (fun xs=> ∃ss:List (List UInt8),ss.Perm (strKeys g)/\xs=ss.mergeSort (fun x y=>decide (x<=y))) (fun _=>True) (Q5 g) w:=by
 intro l b Jx W hW hJ bb hY h0;have E:=(Qp.1 ad).1;have F:=(hW.block n E).trans ad;have j:W.ownsMap Qb 9 Ch f Y g:=by
  have K:=aa.lt;obtain⟨C,d,Q,r⟩:=aa;exact⟨C,d,(hW.block f K).trans Q,r⟩
 have an:W.cell? ⟨n,0,U⟩=O (.map (O f)):=by simp[Q6,F]
 refine XE func188 rfl trivial ?_ rfl;simp only[ntmps188,QA,QB,QC,QD,QE,QF,QG,QH,QI,QJ,QK];have a7:Fence.wide.fn 189:=trivial;have a8:Fence.wide.fn 166:=trivial
 gi_wp2_with (first
  | (gi_at_call 189;refine(Qs.2 (Qs.1 (Tryz.mapsKeys _ _))).mono ?_;rintro e w' ⟨rfl,rfl⟩)
  | (gi_at_call 166;refine(Qs.2 (Qs.1 (Tryz.sortedKeys f Y g Ch W j (by unfold Qn;omega) (by omega)))).mono ?_;rintro e X ⟨sv,ss,rfl,hS,m,ak,az⟩;obtain⟨sq,sc,rfl⟩:=Dj m))
 have o:(ss.mergeSort (fun x y=>decide (x<=y))).length=ss.length:=List.length_mergeSort _;have L:ss.length=Q5 g:=by
  rw[hS.length_eq];refine WU g ?_;obtain⟨C,d,_,_,_,e⟩:=j;exact⟨_,e⟩
 have ao:Z _:=hS;obtain⟨c,R⟩:∃c,ss.mergeSort (fun x y=>decide (x<=y))=c:=⟨_,rfl⟩;have ap:Z _:=R.symm;have ae:∀t∈c,t.length<=1000:=fun t ht=>am t (hS.mem_iff.1 ((XF _ _).mem_iff.1 (by rw[R];exact ht)));rw[R]at m o;obtain⟨M,hM⟩:∃M,ss.length=M:=⟨_,rfl⟩;rw[hM]at m o L ak ⊢;have N:Z _:=o;have aq:Z _:=L;have a9:M<=1000:=by omega
 clear o hM hS L;have ar:BL W (W.alloc (V #[.map (O f)] 163)):=Af _ _;have p:=Ad ar az;have au:=hJ [] W X U h0 (Rs p) (fun r e=>by cases e);have q:=Qm E hW.size;have P:=(p.block n q).trans F;have af:=j.lt;have s:X.ownsMap Qb 9 Ch f Y g:=by
  obtain⟨C,d,Q,r⟩:=j;exact⟨C,d,(p.block f af).trans Q,r⟩
 have u:Z (f<X.heap.size/\n<X.heap.size):=⟨s.lt,Qm q p.size⟩;have ag:Z _:=m
 gi_loopw [9] (fun i wr=> ∃k:Nat,k<=M/\i= .int .i64 k/\b (c.take k) wr/\Hq B X wr) (fun i _=>M-(Q0 i).toNat)
 case atStart=>exact ⟨0,Xb _,rfl,by simpa using au,Hq.refl _ _⟩
 case round =>
  obtain⟨k,hk,rfl,T,z⟩:=hrel;by_cases K:k<M
  ·have ac:k<c.length:=by rw[N.out];exact K
   have av:c.take (k+1)=c.take k++ [c[k]]:=by rw[Xc ac]
   have ba:=ae c[k] (Q4 _);obtain⟨fn,tmps,assign,body,hy,hR⟩:=hY (c.take k) c[k] wr T (by rw[Xd,N.out,<-aq.out];omega);have ah:wr.ownsMap Qb 9 Ch f Y g:=by
    have:=z.2 f u.out.1 (Qh a3);obtain⟨C,d,Q,r⟩:=s;exact⟨C,d,this.trans Q,r⟩
   have ai:=(z.2 n u.out.2 (Qe ⟨_,_,_,P,Qe rfl⟩)).trans P;have an:wr.cell? ⟨n,0,U⟩=O (.map (O f)):=by simp[Q6,ai]
   have a4:(Instr.lookup 163 (.map (O f)) (.string ⟨c[k].toArray⟩) Qt).run Qb wr= .ok (hv c[k]) wr:=by
    have:=zG ah a2 ⟨c[k].toArray⟩ (by rw[<-AC];unfold Qn;simp;omega);simpa using this
   have v:∃D,sq=O ⟨D,0,U⟩/\wr.cell? ⟨D,k,U⟩=O (encStr c[k]):=by
    rcases ag.out.2 with⟨_,h0⟩|⟨D,a5,bc,e,_,hg,_,_,_,ab⟩
    ·omega
    ·injection e with e1 e2 e3;refine⟨D,e1,?_⟩;have aw:=(Qp.1 hg).1;have ax:=(z.2 D aw (Qe ⟨_,_,_,hg,Qh rfl⟩)).trans hg;have hu:(c.map encStr)[k]? =O (encStr c[k]):=by simp[ac]
     rw[<-ab,Xs,if_pos (by omega)]at hu;simp only[Q6,ax];simpa using hu
   obtain⟨D,rfl,v⟩:=v;have ay:Z _:=av
   gi_wp2
   refine hR.mono ?_;rintro e W3 (⟨rfl,a0,a1⟩|⟨rfl,al⟩)
   ·gi_wp2
    go_roundw
    case rel=>exact ⟨k+1,by omega,by go_num,by rw[ay.out];exact a0,z.trans a1⟩
    case measure=>simp [Q0];omega
   ·gi_wp2
    refine bodyPost_ret (XG rfl _ _ _) rfl ?_;exact⟨⟨_,rfl⟩,.inr ⟨_,trivial,al⟩⟩
  ·obtain rfl:k=M:=by omega
   have aj:=XH (by rw[N.out];exact Qj _);rw[aj]at T
   gi_wp2
   go_end0;exact⟨⟨_,rfl⟩,.inl ⟨_,⟨ss,ao.out,ap.out⟩,T⟩⟩
end Go.Proofs.YtcllhobffhkafaaGreatDoor
namespace Go.Proofs.YtcllhobffhkafaaGreatDoor
open Go.RowKit Go.Extern.Stop Go.Stop Go.Extern Go.Sort Go.Shelf Go.Lib
attribute [local go_sem] QL
def zI (w:A) (v:Qc):Prop:= ∃q n c,v=I q n c/\n<=c/\∀ad,q=O ad->∃g cs fz,ad=⟨g,0,U⟩/\w.heap[g]? =O (V cs 62 fz)
theorem zJ (v:Qc) (xs:List Rw) (w:A) (h:Ap w v xs) (t:xs.length<=20000) :
  Qq Qb 53 #[v] w fun e w'=> ∃v',e=Qk v'/\Ap w' v' (A3 xs)/\BL w w'/\zI w' v':=by
 have u:=LW v xs w h t
 go_enter func53,ntmps53
 go_wp2_with (first
  | (go_at_call 102;refine u.mono ?_;rintro e l ⟨m,rfl,i,E⟩;have y:=NR m xs w.heap.size w l E (Qj _) i t;have d:∃q n c,m=I q n c/\n<=c/\∀ad,q=O ad->∃g f b,ad=⟨g,0,U⟩/\l.heap[g]? =O (V f 62 b):=(by
   rcases i.2 with⟨e,-⟩|⟨g,L,r,e,_,K,s,_⟩
   ·exact⟨_,_,_,e,Qj _,fun ad e=>by cases e⟩
   ·exact⟨_,_,_,e,s,fun ad e=>by injection e with e;exact⟨g,r,_,e.symm,K⟩⟩);clear i)
  | (go_at_call 103;refine y.mono ?_;rintro e M ⟨rfl,F,o,p⟩))
 go_ret;refine⟨_,rfl,F,o,?_⟩;obtain⟨q,n,c,rfl,j,z⟩:=d;refine⟨q,n,c,rfl,j,fun ad e=>?_⟩;obtain⟨g,f,b,B,C⟩:=z ad e;obtain⟨k,D⟩:=p g f _ b C;exact⟨g,k,b,B,D⟩
def Hr (q:Option Ql) (L i:Nat):Qc:=I (q.map fun ad=>⟨ad.block,i*3,U⟩) (min 40 (L-i)) (min 40 (L-i))
def DN (n:Nat):List Nat:=(List.range n).map (· * 40)
def Ny (b1 b2:Nat) (W W':A):Prop:=W'.heap[b1]? =W.heap[b1]? /\W'.heap[b2]? =W.heap[b2]?
theorem zK (n f d L c:Nat) (q:Option Ql) (w:A) (T:Qd w f 35 (I q L c)) (X:Qd w d 3 (S J 40)) (hL:L<=1000) (hc:L<=c) (hq:L≠0->∃g,q=O ⟨g,0,U⟩) :
  Rr n 190 #[Qf (O ⟨f,0,U⟩),Qf (O ⟨d,0,U⟩)] (fun i:Nat=>#[Hr q L i]) (fun pre i _=>pre=DN pre.length/\i=pre.length*40/\i<L) (Ny f d) (fun xs=>xs=DN ((L+39) / 40)) w:=by
 intro l b W P hJ hY h0;have Y:Z _:=hY;have B:=T.lt;have C:=X.lt;have v:Z (Qd W f 35 (I q L c)/\Qd W d 3 (S J 40)):=⟨(P.block f B).trans T,(P.block d C).trans X⟩;refine XE func190 rfl trivial ?_ rfl;simp only[ntmps190,QA,QB,QC,QD,QE,QF,QG,QH,QI,QJ,QK]
 gi_wp2
 gi_loopw [4,5] (fun i _ wr=> ∃k:Nat,k<=(L+39) / 40/\i=S J ((k*40:Nat):Int)/\b (DN k) wr/\Ny f d W wr) (fun i _ _=>1100-(Q0 i).toNat)
 case atStart=>exact ⟨0,Xb _,rfl,h0,rfl,rfl⟩
 case round =>
 obtain⟨k,hk,rfl,t,j⟩:=hrel;have d1:Qd wr f 35 (I q L c):=j.1.trans v.out.1;have d2:Qd wr d 3 (S J 40):=j.2.trans v.out.2;have k1:=d1.cell;have k2:=d2.cell;have m:Z (Ny f d W wr):=j;by_cases o:k*40<L
 case neg =>
  have D:k=(L+39) / 40:=by omega
  have hn:¬((k*40:Nat):Int)<(L:Int):=by omega
  have HE:Z (b (DN ((L+39) / 40)) wr):=by rw[<-D];exact t
  gi_wp2
  go_end0;exact⟨⟨_,rfl⟩,HE.out⟩
 case pos =>
 obtain⟨g,rfl⟩:=hq (by omega);obtain⟨M,hM⟩:∃M,min 40 (L-k*40)=M:=⟨_,rfl⟩;have HM:Z (min 40 (L-k*40)=M):=hM;have E:b (DN k) wr.drew:=hJ _ wr wr.drew U t (Rs ((Q1 _ wr).drew)) (fun r e=>by cases e);have F:Z _:=Y.out (DN k) (k*40) wr.drew E ⟨by simp[DN],by simp[DN],o⟩;have K:Z (DN k++ [k*40]=DN (k+1)):=by
  show _=_;unfold DN;rw[List.range_succ,Xe];rfl
 generalize R:k*40=i at *;have p:Z (k*40=i/\i<L):=⟨R,o⟩;have aa:min (40:Int) ((L-i:Nat):Int)=(M:Int):=by omega
 obtain⟨fn,tmps,assign,body,y,hR⟩:=F.out;unfold Hr at y;rw[HM.out]at y;simp only[Option.map_some]at y
 gi_wp2
 gi_region
 gi_wp2
 refine⟨(fun h=>by cases h),hR.mono ?_⟩;rintro e z ⟨rfl,Q,u,-⟩;have N:Z (b (DN (k+1)) z):=by
  show b _ _;rw[<-K.out];exact Q
 have s:Z (Ny f d W z):=⟨u.1.trans m.out.1,u.2.trans m.out.2⟩;have k3:=(show Qd z d 3 (S J 40) from s.out.2.trans v.out.2).cell
 gi_wp2
 go_roundw
 case rel=>exact ⟨k+1,by have:=p.out;omega,by go_num,N.out,s.out⟩
 case measure=>simp [Q0];have:=p.out;omega
end Go.Proofs.YtcllhobffhkafaaGreatDoor
namespace Go.Proofs.YtcllhobffhkafaaGreatDoor
open Go.RowKit Go.Extern.Stop Go.Stop Go.Extern Go.Sort Go.Shelf Go.Lib
attribute [local go_sem] QL
def DF (B:Nat) (W W':A):Prop :=
 W.heap.size<=W'.heap.size/\∀k,k<W.heap.size->(k<B\/∃cs t fz,W.heap[k]? =O (V cs t fz)/\t≠100/\t≠111)->W'.heap[k]? =W.heap[k]?
theorem DF.trans {B:Nat} {b C E:A} (h:DF B b C) (k:DF B C E):DF B b E :=
 ⟨Qu h.1 k.1,fun i hi c=>by
  have e:=h.2 i hi c;rw[<-e];refine k.2 i (Qm hi h.1) ?_;rcases c with c | ⟨d,t,f,g,j⟩
  ·exact Qh c
  ·exact Qe ⟨d,t,f,e.trans g,j⟩⟩
theorem DF.of_below {B:Nat} {W b:A} (h:BL W b):DF B W b:=⟨h.size,fun k hk _=>h.block k hk⟩
theorem DF.cell {B:Nat} {W d:A} (h:DF B W d) {b o:Nat} {v:Qc} (g:b<B) (c:W.cell? ⟨b,o,U⟩=O v):d.cell? ⟨b,o,U⟩=O v:=by
 have f:=BF c;simp only[Q6]at c ⊢;rw[h.2 b f (Qh g)];exact c
theorem zL {β:Type} {B C:Nat} {b:A} (c:b.heap.size<=C):Q9 C (fun (_:β) W=>DF B b W):=fun _ X Y row hs hg hr=>⟨Qu hs.1 hg.size,fun k hk hc=>(hg.block k (Qm hk hs.1) (fun e=>by have:=(hr k e.symm).1;omega)).trans (hs.2 k hk hc)⟩
theorem WV {i:Func} {b:Array Qc} {n base:Nat} {R:QX->A->Prop} {T:A->Prop} (c:∀W,∃v,(Xt i b).run Qb W= .ok v W) (j:∀W D o o',T W->base<=D->W.heap[D]? =O o->o.isCells=Qt->T (W.putObj D o')) (k:∀v W,T W->R (Qk v) W):∀(Ds:List Nat) (W:A),Ds.Nodup->(∀D∈Ds,base<=D/\W.heap[D]? =O (Qg (O [])))->T W->LeavesInM Qo n Qb i b R (Ds.map fun D=> { target:=.collected D,args:=#[] }) .returning W
 | [],W,_,_,h=>by
  obtain⟨v,l⟩:=c W;exact⟨v,l,k v W h⟩
 | D :: r,W,hn,hD,h=>by
  obtain⟨m,p⟩:=Xu.1 hn;obtain⟨q,d⟩:=hD D X6;refine⟨by simp,Qh ⟨D,_,rfl,Xf d,WV c j k r _ p (fun D' hD'=>?_) (j _ _ _ _ h q d rfl)⟩⟩;obtain⟨f,g⟩:=hD D' (List.mem_cons_of_mem _ hD');exact⟨f,(Qz (fun e=>m (by rw[<-e];exact hD'))).trans g⟩
theorem zM {m i l j:Nat} {f:FuncId} {d:Array Qc} {b g:Code} {w:A} {R:QX->A->Prop} (h:RoundIn Qo m Qb l f d b g w R):RoundIn (Fence.wide.inRound j) i Qb l f d b g w R:=⟨h.1,fun c cs _=>h.2 c cs (room_wide _)⟩
theorem zN {w W:A} {v:Qc} {xs:List Rw} (h:Ap w v xs) (m:∀g,v.ownBlock=O g->W.heap[g]? =w.heap[g]?):Ap W v xs:=by
 rcases h with h | ⟨b,o,c,e,l⟩
 ·exact Qh h
 ·refine Qe ⟨b,o,c,e,fun j hj=>?_⟩;have:=m b (by rw[e];rfl);have k:∀o v,w.cell? ⟨b,o,U⟩=O v->W.cell? ⟨b,o,U⟩=O v:=fun o v h=>by
   simp only[Q6]at h ⊢;rw[this];exact h
  obtain⟨d,f,i⟩:=l j hj;exact⟨k _ _ d,k _ _ f,k _ _ i⟩
theorem zO {β:Type} {B c:Nat} {b:β->A->Prop} (h:Q9 B b) (d:B<=c):Q9 c b:=fun s X Y row hs hg hr=>h s X Y row hs hg (fun r e=>⟨Qu d (hr r e).1,(hr r e).2⟩)
abbrev Gk:=ByteArray×Qc×List Rw
structure IP (w:A) (B:Nat) (gv:Qc) (gs:List Gk):Prop where
 form:∃q c,gv=I q gs.length c
 cells:∀j (h:j<gs.length),∃gb c,gv=I (O ⟨gb,0,U⟩) gs.length c/\gb<B/\w.cell? ⟨gb,j*2,U⟩=O (Qa gs[j].1)/\w.cell? ⟨gb,j*2+1,U⟩=O gs[j].2.1
 rows:∀g∈gs,Ap w g.2.1 g.2.2/\(g.2.2≠ []->∀k,g.2.1.ownBlock=O k->k<B)/\g.2.2.length<=1000
theorem IP.keep {w W:A} {B:Nat} {k:Qc} {gs:List Gk} (h:IP w B k gs) (f:DF B w W):IP W B k gs :=
 ⟨h.form,fun j hj=>by
  obtain⟨l,c,e,d,m,n⟩:=h.cells j hj;exact⟨l,c,e,d,f.cell d m,f.cell d n⟩,fun g hg=>by
  obtain⟨q,i,r⟩:=h.rows g hg;refine⟨?_,i,r⟩;rcases q with⟨p,c,e,v⟩|⟨b,o,c,e,y⟩
  ·exact Qh ⟨p,c,e,v⟩
  ·refine Qe ⟨b,o,c,e,fun j hj=>?_⟩;have d:b<B:=i (fun e=>by rw[e]at hj;simp at hj) b (by rw[e];rfl);obtain⟨s,t,u⟩:=y j hj;exact⟨f.cell d s,f.cell d t,f.cell d u⟩⟩
def Cr (gs:List Gk):List (ByteArray×List Rw):=gs.flatMap fun g=>(DN ((g.2.2.length+39) / 40)).map fun i=>(g.1,((A3 g.2.2).drop i).take 40)
def Rt (gs:List Gk) (pre:List Gk) (x:Gk) (W:A):Prop:=pre.length<(Cr gs).length/\Ap W x.2.1 x.2.2/\(∃g∈gs,x.1=g.1/\∀r∈x.2.2,r∈g.2.2)/\x.2.2.length<=40
theorem zP {W:A} {q:Option Ql} {c L i g:Nat} {xs:List Rw} (h:Ap W (I q L c) xs) (m:xs.length=L) (hi:i<L) (n:q=O ⟨g,0,U⟩):Ap W (Hr q L i) ((xs.drop i).take 40):=by
 subst n m;have d:((xs.drop i).take 40).length=min 40 (xs.length-i):=by rw[Xd,List.length_drop]
 rcases h with⟨p,f,e,k⟩|⟨b,o,f,e,l⟩
 ·rw[k]at hi;simp at hi
 ·injection e with e1 e2 e3;injection e1 with e1;injection e1 with e1 e4;subst e1 e4;refine Qe ⟨g,i*3,_,by unfold Hr;rw[d];rfl,fun j hj=>?_⟩;rw[d]at hj;have:=l (i+j) (by omega);rw[show 0+(i+j)*3=i*3+j*3 by omega]at this;simp only[List.getElem_take,List.getElem_drop];exact this
def Fo (w:A) (v:Qc):A:=(w.alloc (V #[v] 35)).alloc (V #[S J 40] 3)
theorem zQ (q:Option Ql) (L c:Nat) (w:A):Qq Qb 108 #[I q L c,S J 40] w fun e w'=>e=Qk (.func (.func 190) #[] #[Qf (O ⟨w.heap.size,0,U⟩),Qf (O ⟨w.heap.size+1,0,U⟩)])/\w'=Fo w (I q L c):=by
 go_enter func108,ntmps108
 go_wp2;go_ret;exact⟨rfl,rfl⟩
theorem zR (n bx B:Nat) (gv:Qc) (gs:List Gk) (w:A) (a9:Qd w bx 95 gv) (ba:IP w B gv gs) (hl:gs.length<=1000) :
  Rr n 107 #[Qf (O ⟨bx,0,U⟩)] (fun x:Gk=>#[Qa x.1,x.2.1]) (Rt gs) (DF B) (fun xs=>xs.map (fun x=>(x.1,x.2.2))=Cr gs) w:=by
 intro l d W hW hJ hY h0;have HY:Z (∀z x W1,d z W1->Rt gs z x W1->YieldAt Qo (n-1) Qb l #[Qa x.1,x.2.1] W1 fun e W'=>e=Qk (.bool Q2)/\d (z++ [x]) W'/\DF B W1 W'/\Q8 W.heap.size W1 W'):=hY;have au:Qd W bx 95 gv:=(hW.block bx a9.lt).trans a9;have bb:IP W B gv gs:=ba.keep (.of_below hW);obtain⟨q,c,rfl⟩:=ba.form;have c1:=au.cell;have P:BL W (W.alloc (V #[.func (.yield l) #[] #[]] 168)):=Af _ _;have bc:=Q7 W 168 (.func (.yield l) #[] #[]);have bd:d [] (W.alloc (V #[.func (.yield l) #[] #[]] 168)):=hJ.alloc _ h0;clear hY a9 ba h0;refine QV func107 rfl trivial ?_ rfl;simp only[ntmps107,QA,QB,QC,QD,QE,QF,QG,QH,QI,QJ,QK];have bw:=Aa P c1
 gi_wp2
 have cb:Z (W.heap.size<=(W.alloc (V #[.func (.yield l) #[] #[]] 168)).heap.size):=P.size;have be:Z (IP (W.alloc (V #[.func (.yield l) #[] #[]] 168)) B (I q gs.length c) gs):=bb.keep (.of_below P);have aa:Z (Qd (W.alloc (V #[.func (.yield l) #[] #[]] 168)) W.heap.size 168 (.func (.yield l) #[] #[])):=bc;generalize bs:W.heap.size=F at *;generalize W.alloc (V #[.func (.yield l) #[] #[]] 168)=W2 at *;have cc:Z (W.heap.size=F):=bs;have av:Z (Q9 F d):=hJ;clear hW au bb P c1 bw bc bs hJ;refine wpIn_loop (fun a' w'=> ∃(k:Nat) (xs:List Gk) (M:List Nat) (u4 u5 u9 u10 u11 u12 u13 u14 u15 u16 u17 u18 u19 u20 u21 u22 u23:Qc),a'= { tmps:=#[.func (.yield l) #[] #[],Qf (O ⟨bx,0,U⟩),Qf (O ⟨F,0,U⟩),Xg,u4,u5,I q gs.length c,S J gs.length,S J k,u9,u10,u11,u12,u13,u14,u15,u16,u17,u18,u19,u20,u21,u22,u23],defers:=M.map fun D=> { target:=.collected D,args:=#[] } } /\k<=gs.length/\d xs w'/\xs.map (fun x=>(x.1,x.2.2))=Cr (gs.take k)/\DF B W2 w'/\M.Nodup/\∀D∈M,F<=D/\w'.heap[D]? =O (Qg (O []))) (fun a' _=>gs.length-(Q0 (a'.tmps.getD 8 Xg)).toNat) ⟨0, [], [],_,_,_,_,_,_,_,_,_,_,_,_,_,_,_,_,_,rfl,Xb _,bd,rfl,⟨Qj _,fun _ _ _=>rfl⟩,List.nodup_nil,fun D h=>by cases h⟩ ?_;clear bd;rintro _ wr ⟨k,xs,M,u4,u5,u9,u10,u11,u12,u13,u14,u15,u16,u17,u18,u19,u20,u21,u22,u23,rfl,hk,bp,ak,ae,a4,a5⟩;by_cases aw:k<gs.length
 case neg =>
  have bf:k=gs.length:=by omega
  have cd:¬(k:Int)<(gs.length:Int):=by omega
  have HE:Z (xs.map (fun x=>(x.1,x.2.2))=Cr gs):=by
   rw[bf,X5]at ak;exact ak
  clear ae ak bf hk
  gi_wp2
  refine WV (base:=F) (T:=d xs) (fun W=>⟨_,XG rfl _ _ _⟩) (fun W D o o' h hb ho hc=>av.out.putObj _ h hb ho hc) (fun v W h=>⟨⟨_,rfl⟩,_,HE.out,h⟩) M wr a4 a5 bp
 case pos =>
 obtain⟨gb,c',b5,ck,e0,E⟩:=(be.out.keep ae).cells k aw;obtain⟨ai,a2,ar⟩:=(be.out.keep ae).rows gs[k] (Q4 _);have bg:Z (gs[k]∈gs):=Q4 _;have ax:Z (gs.take (k+1)=gs.take k++ [gs[k]]):=(Xc aw).symm;generalize gs[k]=gk at e0 E ai a2 ar bg ax;injection b5 with hq1 hq2 hq3;subst hq1;obtain⟨R,gv,m⟩:=gk;dsimp only at e0 E ai a2 ar;obtain⟨qr,cr,rfl⟩:=ai.form;have ce:(k:Int)<(gs.length:Int):=by omega
 have cf:(0:Int)<=(k:Int):=by omega
 have af:=zJ _ m (wr.alloc (V #[Qa R,I qr m.length cr] 167)) (ai.below (Af _ _)) (by omega);have ag:=XI wr (V #[Qa R,I qr m.length cr] 167);have P:BL wr (wr.alloc (V #[Qa R,I qr m.length cr] 167)):=Af _ _;have bh:Z _:=ak;have bi:Z (M.Nodup/\∀D∈M,F<=D/\wr.heap[D]? =O (Qg (O []))):=⟨a4,a5⟩;clear a4 a5 ak hq3 hq2 ai a2 aw;obtain⟨RL,a3⟩:∃n,m.length=n:=⟨_,rfl⟩;have an:Z (m.length=RL):=a3;rw[a3]at af ag P ar E;clear a3
 gi_wp2_with fail
 refine⟨trivial,(fun h=>by cases h),((Qs (n:=n-1)).2 af).mono ?_⟩;rintro e u ⟨vs,rfl,a6,a7,b7⟩;obtain⟨t,j,C,rfl,b6,bn⟩:=b7;have bj:=zQ t j C u;clear af
 gi_wp2_with fail
 refine⟨trivial,(fun h=>by cases h),((Qs (n:=n-1)).2 bj).mono ?_⟩;rintro e w4 ⟨rfl,rfl⟩;clear bj
 gi_wp2_with fail
 have bz:j=RL:=by
  obtain⟨q0,c0,e⟩:=a6.form;injection e with _ L _;rw[L,G3,an.out]
 subst bz;have ab:BL wr u:=Ad P a7;have ac:BL u (Fo u (I t j C)):=(Af _ _).alloc (by simp) _;have ao:Qd (Fo u (I t j C)) u.heap.size 35 (I t j C):=(Q7 u 35 (I t j C)).alloc _;have ap:Qd (Fo u (I t j C)) (u.heap.size+1) 3 (S J 40):=by
  have:=Q7 (u.alloc (V #[I t j C] 35)) 3 (S J 40);simpa [Fo] using this
 have ay:(Fo u (I t j C)).heap[wr.heap.size]? =O (V #[Qa R,I qr j cr] 167 (0,0)):=(ac.block _ (Qm (Qw ag) a7.size)).trans ((a7.block _ (Qw ag)).trans ag);have az:Qd (Fo u (I t j C)) F 168 (.func (.yield l) #[] #[]):=by
  have E:=(ae.2 F aa.out.lt (Qe ⟨_,_,_,aa.out,by decide,by decide⟩)).trans aa.out;have L:=(ab.block F (Qw E)).trans E;exact(ac.block F (Qw L)).trans L
 have b0:∀g,(I t j C).ownBlock=O g->∃aj fz,(Fo u (I t j C)).heap[g]? =O (V aj 62 fz)/\(Fo u (I t j C)).heap[g]? =u.heap[g]? :=fun g Q=>by
  cases t with
  | none=>cases Q
  | some ad =>
   obtain⟨g',aj,fz,E,L⟩:=bn ad rfl;subst E;injection Q with Q;have Q:g'=g:=Q;subst Q;have:=ac.block g' (Qp.1 L).1;exact⟨aj,fz,this.trans L,this⟩
 have bt:=ae.trans ((DF.of_below ab).trans (DF.of_below ac));have b2:=av.out xs _ _ U bp (Rs (Ad ab ac)) (fun r e=>by cases e);have ah:∀D∈M,F<=D/\D<wr.heap.size/\(Fo u (I t j C)).heap[D]? =O (Qg (O [])):=fun D N=>by
  obtain⟨h1,h2⟩:=bi.out.2 D N;have hl:=(Qp.1 h2).1;exact⟨h1,hl,(ac.block D (Qm hl ab.size)).trans ((ab.block D hl).trans h2)⟩
 have b9:wr.heap.size<=u.heap.size/\u.heap.size+2<=(Fo u (I t j C)).heap.size:=⟨ab.size,by simp[Fo]⟩;have cg:=Nat.le_of_lt (Qw ((ae.2 F aa.out.lt (Qe ⟨_,_,_,aa.out,by decide,by decide⟩)).trans aa.out));have bk:j≠0->∃g,t=O ⟨g,0,U⟩:=fun hn=>by
  rcases a6 with⟨p,c',e,hx⟩|⟨b,o,c',e,hc⟩
  ·injection e with _ L _;exact absurd L hn
  ·injection e with E _ _;obtain⟨g,aj,fz,e3,-⟩:=bn _ E;exact⟨g,by rw[E,e3]⟩
 generalize ca:u.heap.size=b1 at *;have a0:∀(z:List Nat) (f:Nat->Gk),z.length*40<j->(xs++z.map f).length<(Cr gs).length:=fun z f hm=>by
  have E:=congrArg List.length bh.out;rw[Qr]at E;have L:Cr gs=Cr (gs.take (k+1))++Cr (gs.drop (k+1)):=by
   unfold Cr;rw[<-Xh,List.take_append_drop]
  rw[L,ax.out,QP,QP,Qr,E];unfold Cr DN;rw[Xh,QP];simp only[Xi,XJ,Xl,Qr,XK,an.out];omega
 have bu:=zK (n-1) b1 (b1+1) j C t _ ao ap ar b6 bk;refine WT (n:=n) rfl (QU func190 (by kernel_rfl) rfl) (fun _=>rfl) bu (fun h k=>⟨k.1.trans h.1,k.2.trans h.2⟩) (fun W l o o' hl _ _=>⟨Qz (by omega),Qz (by omega)⟩) (fun z i _ X Y row hs _ _=>hs)
  (fun z W=>d (xs++z.map fun i=>(R,Hr t j i,((A3 m).drop i).take 40)) W/\DF B (Fo u (I t j C)) W/\∀D∈M,W.heap[D]? =O (Qg (O []))) ?own ⟨by simpa using b2,⟨Qj _,fun _ _ _=>rfl⟩,fun D N=>(ah D N).2.2⟩ ?a1 ?assign ?body ?done
 case assign =>
  intro l x W K hK
  gi_wp2
  exact hK
 case own =>
  refine OwnFrom.and (fun s X Y row hs Q hr=>zO av.out (by omega) _ X Y row hs Q hr) (OwnFrom.and (zL (Qj _)) fun s X Y row hs Q hr D N=>?_);have h2:=hs D N;exact(Q.block D (Qp.1 h2).1 (fun e=>by have:=(hr D e.symm).1;have:=(ah D N).2.1;omega)).trans h2
 case body =>
  rintro l' z i W cl-⟨al,y,am⟩ ⟨-,bv,hi⟩;obtain⟨g,bo⟩:=bk (by omega);have bl:Ap W (Hr t j i) (((A3 m).drop i).take 40):=by
   refine zP (g:=g) (zN a6 fun g' hg'=>?_) (by rw[G3,an.out]) hi bo;obtain⟨aj,fz,E,L⟩:=b0 g' hg';exact((y.2 g' (Qp.1 E).1 (Qe ⟨_,_,_,E,by decide,by decide⟩))).trans L
  have hx:Rt gs (xs++z.map fun i=>(R,Hr t j i,((A3 m).drop i).take 40)) (R,Hr t j i,((A3 m).drop i).take 40) W:=⟨a0 z _ (by omega),bl,⟨_,bg.out,rfl,fun r hr=>(Dy m).mem_iff.1 (XL (XM hr))⟩,XN _ _⟩;obtain⟨fn,tmps,assign,body,hy,hR⟩:=HY.out _ _ W al hx;dsimp only at hy;have ch:W.cell? ⟨wr.heap.size,0,U⟩=O (Qa R):=by
   have:=(y.2 _ (Qp.1 ay).1 (Qe ⟨_,_,_,ay,by decide,by decide⟩)).trans ay;rw[QN _ _ _ _ _ _ this];rfl
  have ci:W.cell? ⟨F,0,U⟩=O (.func (.yield l) #[] #[]):=(show Qd W F _ _ from (y.2 _ az.lt (Qe ⟨_,_,_,az,by decide,by decide⟩)).trans az).cell;have aq:Z (W.heap[b1]? =O (V #[I t j C] 35 (0,0))/\W.heap[b1+1]? =O (V #[S J 40] 3 (0,0))):=⟨(y.2 _ ao.lt (Qe ⟨_,_,_,ao,by decide,by decide⟩)).trans ao,(y.2 _ ap.lt (Qe ⟨_,_,_,ap,by decide,by decide⟩)).trans ap⟩;have b3:Z (DF B (Fo u (I t j C)) W):=y;have bm:Z (∀D∈M,F<=D/\W.heap[D]? =O (Qg (O []))):=fun D N=>⟨(ah D N).1,am D N⟩;clear y am al bl hx bo bv
  gi_wp2
  refine⟨(fun h=>by cases h),(zM hR).mono ?_⟩;rintro e W5 ⟨rfl,b8,a8,bq⟩
  gi_wp2
  refine⟨bq.up (by omega),⟨a8.2 _ (Qp.1 aq.out.1).1 (Qe ⟨_,_,_,aq.out.1,by decide,by decide⟩),a8.2 _ (Qp.1 aq.out.2).1 (Qe ⟨_,_,_,aq.out.2,by decide,by decide⟩)⟩,?_,b3.out.trans a8,fun D N=>bq.same D _ (bm.out D N).1 (bm.out D N).2 rfl⟩;rw[Xe,<-List.append_assoc];exact b8
 case done =>
  rintro D br W N hS ⟨al,y,am⟩ hK;have cj:IntKind.i64.wrap ((k:Int)+1)=((k+1:Nat):Int):=by rw[IntWalk.i64_in _ (by omega)];omega
  have b4:Z (d (xs++br.map fun i=>(R,Hr t j i,((A3 m).drop i).take 40)) W/\(xs++br.map fun i=>(R,Hr t j i,((A3 m).drop i).take 40)).map (fun x=>(x.1,x.2.2))=Cr (gs.take (k+1))/\DF B W2 W/\(D :: M).Nodup/\∀D'∈D :: M,F<=D'/\W.heap[D']? =O (Qg (O []))):=by
   refine⟨al,?_,bt.trans y,Xu.2 ⟨fun h=>by have:=(ah D h).2.1;omega,bi.out.1⟩,fun D' h=>?_⟩
   ·rw[ax.out];unfold Cr at *;rw[Xh,Xe,bh.out,Xi,XJ,Xl,hS];simp only[Xv];rw[an.out];rfl
   ·rcases Xj.1 h with rfl | h
    ·exact⟨by omega,hK⟩
    ·exact⟨(ah D' h).1,am D' h⟩
  clear al y am hK hS
  gi_wp2
  rw[show (k:Int)+1=((k+1:Nat):Int) by omega];exact⟨⟨k+1,_,D :: M,_,_,_,_,_,_,_,_,_,_,_,_,_,_,_,_,_,rfl,by omega,b4.out⟩,by simp[Q0];omega⟩
end Go.Proofs.YtcllhobffhkafaaGreatDoor
namespace Go.Proofs.YtcllhobffhkafaaGreatDoor
open Go.RowKit Go.Extern.Stop Go.Stop Go.Extern Go.Sort Go.Shelf Go.Lib
attribute [local go_sem] QL
theorem zS {W w1:A} {B:Nat} {v v':Qc} {k:Nat} {xs:List Qc} {f:Obj} (z:Qd W B 95 v) (n:W.ownsRow B 167 2 v k xs) (c:(W.alloc f).grownBy w1 v.ownBlock):Hq B W (w1.setCell ⟨B,0,U⟩ v'):=by
 refine⟨?_,fun i hi l=>?_⟩
 ·have d:=c.size;have j:=(KeepsOthers.setCell w1 ⟨B,0,U⟩ v').size;simp at d;omega
 ·have o:i≠B:=by
   rintro rfl;rcases l with l | ⟨s,t,u,d,j⟩
   ·omega
   ·have b:=(show W.heap[i]? =_ from z).symm.trans d;simp only[Xw,Obj.cells.injEq]at b;obtain⟨_,b,_⟩:=b;subst b;revert j;decide
  have p:O i≠v.ownBlock:=by
   intro e;rcases n.2 with⟨m,_⟩|⟨g,C,D,m,E,y,_⟩
   ·rw[m]at e;simp[Xk]at e
   ·rw[m]at e;simp[Xk]at e;subst e;rcases l with l | ⟨s,t,u,d,j⟩
    ·omega
    ·have b:=y.symm.trans d;simp only[Xw,Obj.cells.injEq]at b;obtain⟨_,b,_⟩:=b;subst b;revert j;decide
  have q:(w1.setCell ⟨B,0,U⟩ v').heap[i]? =w1.heap[i]? :=Xx _ _ _ i o;have r:w1.heap[i]? =(W.alloc f).heap[i]? :=c.block i (by simp;omega) p;rw[q,r];exact Xn W f i hi
theorem Tryz.groupInfo3:(Tryz.prog.info? 167).map (fun i=>(i.zero,i.size,i.bytes))=O (O (QQ #[Qa ⟨#[]⟩,I U 0 0]),2,40):=by kernel_rfl
theorem Tryz.groupInfo:∃i0:TypeInfo,Tryz.prog.info? 167=O i0/\i0.zero=O (QQ #[Qa ⟨#[]⟩,I U 0 0])/\i0.size=2/\i0.bytes=40:=by
 obtain⟨i,b,h⟩:=Option.map_eq_some_iff.1 Tryz.groupInfo3;simp only[Prod.mk.injEq]at h;exact⟨i,b,h.1,h.2.1,h.2.2⟩
theorem zT (w:A) (x y:Qc) (t:TypeId):∀j u, [x,y][j]? =O u->(w.alloc (V #[x,y] t)).cell? ((⟨w.heap.size,0,U⟩:Ql).add j)=O u:=by
 intro j u b;rw[Addr.add_lit,Xy]
 match j,b with
 | 0,b=>simp at b;subst b;simp
 | 1,b=>simp at b;subst b;simp
 | j+2,b=>simp at b
theorem zU {v:Qc} {z:Q3 Unit×List MemPlace} (h:Ch v=O z):v.oneCell'=Q2/\∃q n c,v= .slice q n c:=by
 unfold Ch at h;split at h
 ·exact⟨rfl,_,_,_,rfl⟩
 ·exact⟨rfl,_,_,_,rfl⟩
 ·cases h
theorem zV (s:ByteArray) (q:Option Ql) (a6:Nat) (xs:List Rw) (w:A) (a:Nat->Ql) (h:Bl w a) (hs:s.size<=1000) (hx:Ap w (.slice q xs.length a6) xs) (hl:xs.length<=1000) (hp:∀x∈xs,x.1.size<=30) (cx:(A5 s.data.toList).1=0)
  (a7:∀x∈xs,A0 x=0) (a8:∀x∈xs,A0 x=0->(D1 (A5 s.data.toList).2.1 (A5 s.data.toList).2.2 x).size<=1000) :
  Qq Qb 56 #[.string s,.slice q xs.length a6] w fun e w'=> ∃gv ts D hv b1 b2,e=Qk (Qv #[gv,Qi])/\(∃ss:List (List UInt8),ss.Perm (strKeys D)/\ts=ss.mergeSort (fun x y=>decide (x<=y)))/\w'.ownsRow w.heap.size 167 2 gv ts.length (ts.flatMap fun nm=> [encStr nm,hv nm]) /\
   Di w' b1 b2 (D1 (A5 s.data.toList).2.1 (A5 s.data.toList).2.2) xs D hv/\w.heap.size<=b1/\BL w w':=by
 obtain⟨i0,ck,cl,cm,bv⟩:=Tryz.rowInfo;have hr:=Mp s w a h hs;generalize hL:xs.length=L at hx hl ⊢;have HX:Z (xs.length=L):=hL;clear hL;rw[cx]at hr;simp only[Ae]at hr;generalize D1 (A5 s.data.toList).2.1 (A5 s.data.toList).2.2=p at hr a8 ⊢;refine(Qs (n:=9)).1 ?_;refine QV Xz rfl trivial ?_ rfl;refine wpIn_wide.2 ?_;simp only[X0,QA,QB,QC,QD,QE,QF,QG,QH,QI,QJ,QK]
 go_wp2_with fail
 refine hr.mono ?_;rintro e d ⟨fv,rfl,bq,ae⟩;clear hr;obtain⟨g,cb,rfl,eg,cn⟩:=bq trivial;clear bq;have b0:=@XO Qb;have b3:BL d (d.alloc (.map #[] 0)):=Af _ _;have b4:=Di.made d p;have bc:∀W,BL d W->Bl W a:=fun W hW=>h.below (Ad ae hW);have b5:∀W,BL d W->Ap W (.slice q L a6) xs:=fun W hW=>hx.below (Ad ae hW);clear hx h;go_wp2;clear b0
 go_loopw [27] (fun k wr=> ∃n:Nat,n<=L/\k= .int .i64 n/\BL d wr/\∃D hv,Di wr (d.heap.size+1) d.heap.size p (xs.take n) D hv) (fun k _=>L-(Q0 k).toNat)
 case atStart=>exact ⟨0,by omega,rfl,b3,_,_,b4⟩
 case round =>
  obtain⟨n,hn,rfl,hb,D,hv,P⟩:=hrel;by_cases b6:n<L
  ·have ar:n<xs.length:=by rw[HX.out];exact b6
   have a9:=b5 wr hb;rcases a9 with⟨_,_,e,e'⟩|⟨b,o,cz,e,ah⟩
   ·exfalso;have:=HX.out;rw[e']at this;simp at this;omega
   injection e with e1 e2 e3;subst e1;clear e2 e3;obtain⟨c1,c2,c3⟩:=ah n ar;clear ah;have hi:(n:Int)<(L:Int):=by omega
   have Y:xs[n]∈xs:=Q4 _;have aa:=a7 _ Y;have au:=a8 _ Y aa;have b7:=hp _ Y;have av:xs.take (n+1)=xs.take n++ [xs[n]]:=by rw[Xc ar]
   have R:=fun W (hW:Bl W a)=>JV xs[n] W a hW (by unfold Qn;omega);rw[aa]at R;simp only[Ae]at R;generalize xs[n]=x at c1 c2 c3 aa au av R;have HT:Z (xs.take (n+1)=xs.take n++ [x]):=av;have T:(xs.take n).length=n:=by rw[Xd];omega
   have ac:Z ((xs.take n).length=n):=T;clear av Y b7 T;generalize xs.take n=ys at P HT ac;obtain⟨m,r,z⟩:=x;dsimp only at c1 c2 c3 R;have bd:BL wr (wr.alloc (V #[.string m,.int .i64 r,.int .i64 z] 62)):=Af _ _;have ai:BL d (wr.alloc (V #[.string m,.int .i64 r,.int .i64 z] 62)):=Ad hb bd;have aw:=R _ (bc _ ai);have d0:(wr.alloc (V #[.string m,.int .i64 r,.int .i64 z] 62)).cell? ⟨wr.heap.size,0,U⟩=O (.string m):=by simp
   have d1:(wr.alloc (V #[.string m,.int .i64 r,.int .i64 z] 62)).cell? ⟨wr.heap.size,1,U⟩=O (.int .i64 r):=by simp
   have d2:(wr.alloc (V #[.string m,.int .i64 r,.int .i64 z] 62)).cell? ⟨wr.heap.size,2,U⟩=O (.int .i64 z):=by simp
   clear R
   go_wp2_with fail
   refine aw.mono ?_;rintro e w3 ⟨rfl,af⟩;clear aw c1 c2 c3;have aj:BL d w3:=Ad ai af;have f0:=Aa af d0;have f1:=Aa af d1;have f2:=Aa af d2;have ax:=cn (m,r,z) w3 aj (bc _ aj) aa;have ay:=(P.below bd).below af;clear d0 d1 d2 P;dsimp only at ax;obtain⟨M,a0⟩:∃M,p (m,r,z)=M:=⟨_,rfl⟩;have HG:Z (p (m,r,z)=M):=a0;rw[a0]at ax au;clear a0;have be:M.size<=Qn:=by unfold Qn;omega
   obtain⟨vo,a2⟩:∃vo,hv M.data.toList=vo:=⟨_,rfl⟩;have ad:Z (hv M.data.toList=vo):=a2;have ak:=fun W (hW:Di W (d.heap.size+1) d.heap.size p ys D hv)=>hW.look M be;rw[a2]at ak;clear a2;obtain⟨C,a3⟩:∃C,grp p ys M.data.toList=C:=⟨_,rfl⟩;have bf:Z (grp p ys M.data.toList=C):=a3;have az:C.length<=n:=by rw[<-a3,<-ac.out];exact QY _ _
   have bg:Z (C.length<=n):=az;clear a3 az
   go_wp2_with (first
    | (go_at_fn g;refine ax.mono ?_;rintro e w4 ⟨rfl,X⟩;have al:=ay.below X;have cy:=ak w4 al;have q0:=Aa X f0;have q1:=Aa X f1;have q2:=Aa X f2)
    | (at_builtin;refine XP _ rfl _ _ 35 rfl (d.heap.size+1) 62 i0 (.agg #[.string ⟨#[]⟩,.int .i64 0,.int .i64 0]) 3 32 XQ ck cl cm bv rfl (by decide) vo C.length (Az C) rfl ?qc0 ⟨w4.heap.size,0,U⟩ 1 1 (AM (m,r,z)) rfl ?qc1 ?qc2 ?qc3 ?qc4 ?qc5 ?qc6 ?_))
   case qc0 =>
    have ho:=al.own M.data.toList;rw[ad.out,bf.out]at ho;exact ho.alloc _
   case qc1=>rfl
   case qc2 =>
    intro j u hj;rw[Addr.add_lit,Xy];exact Sj w4 m r z j u hj
   case qc3=>exact Jc _
   case qc4=>have:=bg.out;unfold Qn;omega
   case qc5=>have:=bg.out;omega
   case qc6 =>
    have e1:=aj.size;have e2:=X.size;have e3:=al.map.lt;simp;omega
   have bt:BL w4 (w4.alloc (V #[.string m,.int .i64 r,.int .i64 z] 62)):=Af _ _;have am:=al.below bt;have bh:BL d w4:=Ad aj X;have bi:BL d (w4.alloc (V #[.string m,.int .i64 r,.int .i64 z] 62)):=bh.alloc bh.size _;intro v' w5 ab E bb a5;obtain⟨g',B,rfl⟩:=X1 ab;have bj:BL d w5:=bi.grown E bi.size (fun k hk=>by
    have ho:=am.own M.data.toList;rw[ad.out]at ho;have:=(IA ho hk).1;omega)
   have bk:w5.ownsMap Qb 9 Ch d.heap.size ys.length D:=am.map.kept E (fun e=>by
    have ho:=am.own M.data.toList;rw[ad.out]at ho;have:=(IA ho e.symm).1;omega)
   have b8:Z ((I (O ⟨g',0,U⟩) (C.length+1) B).ownBlock=vo.ownBlock\/(I (O ⟨g',0,U⟩) (C.length+1) B).ownBlock=O (w4.alloc (V #[.string m,.int .i64 r,.int .i64 z] 62)).heap.size):=by simpa [Z] using a5
   have b9:Z (w5.ownsRow (d.heap.size+1) 62 3 (I (O ⟨g',0,U⟩) (C.length+1) B) (C.length+1) (Az C++AM (m,r,z))):=ab;have ca:Z ((w4.alloc (V #[.string m,.int .i64 r,.int .i64 z] 62)).grownBy w5 vo.ownBlock):=E;have cc:Z (w5.ownsMap Qb 9 Ch d.heap.size ys.length D):=bk;clear a5 ab E bk bb
   go_wp2_with (at_mapUpdate;refine XR _ rfl _ _ _ 163 rfl 9 35 (QS Qx) QT Ch d.heap.size ys.length D rfl cc.out ?qd1 _ _ (.string M.data.toList) rfl rfl (Xa Qx be) (.agg [.lit (.int .i64 g'),.lit (.int .i64 ((C.length+1:Nat):Int)),.lit (.int .i64 B)]) [] rfl ?_)
   case qd1=>have:=ac.out;unfold Qn;omega
   intro w6 br Q;have bl:=am.step (W4:=w6) (m,r,z) (.slice (O ⟨g',0,U⟩) (C.length+1) B) (.agg [.lit (.int .i64 g'),.lit (.int .i64 ((C.length:Int)+1)),.lit (.int .i64 B)]) (by rw[HG.out,bf.out];exact b9.out) (by rw[HG.out,ad.out];exact ca.out) (by rw[HG.out,ad.out];exact b8.out) (by rw[HG.out];exact br) Q (by simp[Ch]);have cd:BL d w6:=bj.grown Q bj.size (fun k hk=>by cases hk;exact Qj _);rw[<-HT.out]at bl;clear br Q;go_wp2;go_roundw
   case rel=>exact ⟨n+1,by omega,by go_num,cd,_,_,bl⟩
   case measure=>simp [Q0];omega
  ·obtain rfl:n=L:=by omega
   rw[XH (by rw[HX.out];omega)]at P;have c4:=P.map;have bm:BL wr ((wr.alloc (V #[.slice U 0 0] 95)).alloc (V #[.map (O d.heap.size)] 163)):=(Af _ _).alloc (by simp) _;have bn:=P.below bm;have bu:d.heap.size<wr.heap.size:=P.map.lt;go_wp2;refine(wpIn_wide (n:=9)).1 ?_;refine wpIn_rangeFunc_ownG (F:=Qo) rfl (by decide) (gf:=188) (lb:=#[.pointer (O ⟨wr.heap.size+1,0,U⟩)]) rfl trivial (QU func188 (by kernel_rfl) rfl)
    (zH d.heap.size (wr.heap.size+1) wr.heap.size xs.length D hv _ bn.map bn.hd ?hkey ?hmax bu ?hbx) (fun h k=>h.trans k) ?hKb (Q1 _ _) (fun _=>rfl)
    (fun f W=>(∃v,Qd W wr.heap.size 95 v/\W.ownsRow wr.heap.size 167 2 v f.length (f.flatMap fun nm=> [encStr nm,hv nm])/\True)/\BL wr W)
    (fun _ _ _=>False)
    (OwnFrom.and (Own.from (holdsRow_own wr.heap.size wr.heap.size 95 167 2 (fun f:List (List UInt8)=>f.length) (fun f=>f.flatMap fun nm=> [encStr nm,hv nm]) (fun _ _=>True)) _) (XS (Qj _) (by simp;omega)))
    (fun _ _ _ _ _ hs _ _=>hs.elim) ?start ?a1 ?assign ?body ?done ?stop
   case assign =>
    intro l x W K hK
    gi_wp2
    exact hK
   case hkey =>
    intro nm hm;obtain⟨x,ao⟩:=XT _ ((P.key_mem nm).1 hm);simp only[grp,QW,decide_eq_true_eq]at ao;have:=a8 x ao.1 (a7 x ao.1);rw[<-ao.2,AC];exact this
   case hmax=>exact Qu P.size (by rw[HX.out];exact hl)
   case hbx =>
    have:=Q7 (wr.alloc (V #[.slice U 0 0] 95)) 163 (.map (O d.heap.size));simpa [Qd] using this
   case hKb =>
    intro W l o o' hl cv cw _;have hg:=XU W l o';refine⟨hg.size,fun i hi hc=>hg.block i hi ?_⟩;intro e;cases e
    rcases hc with hc | ⟨cs,t,fz,h1,_⟩
    ·simp at hl;omega
    ·rw[cv]at h1;cases h1;cases cw
   case start=>exact ⟨⟨_,(Q7 wr 95 (.slice U 0 0)).alloc _,World.ownsRow_nil _ _ _ _,trivial⟩,bm⟩
   case stop =>
    rintro D' c f W _ _ hf _;exact hf.elim
   case body =>
    rintro l f x W ⟨⟨v,ag,N,_⟩,hB⟩ bz;obtain⟨i1,co,cp,cq,bw⟩:=Tryz.groupInfo;have hc:=ag.cell;have ce:=P.size;obtain⟨bx,q0,n0,c0,a4⟩:=zU (P.hd x);have c5:f.length<=1000:=by rw[HX.out]at ce;omega
    have cf:Z (hv x= .slice q0 n0 c0):=a4;have ba:∀u∈ [encStr x,I q0 n0 c0],u.oneCell'=Q2:=by
     intro u hu;simp only[Xj,List.not_mem_nil,or_false]at hu;rcases hu with rfl | rfl
     ·rfl
     ·rfl
    rw[a4];clear a4 bx bz
    gi_wp2_with (gi_at_builtin;refine wpListIn_append_own _ rfl _ _ 95 rfl wr.heap.size 167 i1 (.agg #[.string ⟨#[]⟩,.slice U 0 0]) 2 40 underlying95 co cp cq bw rfl (by decide) _ _ _ rfl (N.alloc _) ⟨W.heap.size,0,U⟩ 1 1 [encStr x,.slice q0 n0 c0] rfl rfl (zT _ _ _ _) ba (by unfold Qn;omega) (by omega) (by have:=hB.size;simp;omega) ?_;intro v' w5 ap aq _;obtain⟨g',B,rfl⟩:=X1 ap;have cg:=zS (v':=.slice (O ⟨g',0,U⟩) (f.length+1) B) ag N aq;obtain⟨bp,cr,ct,cu,ai⟩:=ag.appended (by decide) N hB.size (Qj _) ap aq;have c6:=bp.cell;have c7:=bp.frozen)
    refine⟨cu.from _,cg,⟨⟨_,cr,?_,trivial⟩,hB.trans ai⟩⟩;have e1:(f++ [x]).flatMap (fun nm=> [encStr nm,hv nm])=f.flatMap (fun nm=> [encStr nm,hv nm])++ [encStr x,.slice q0 n0 c0]:=by rw[Xh];simp[cf.out]
    rw[e1,QP];exact ct
   case done =>
    rintro D' ts W hD ⟨ss,hS,bs⟩ ⟨⟨v,ag,N,_⟩,hB⟩ hK;obtain⟨gq,gc,rfl⟩:=Dj N;have hc:=ag.cell;have ch:w.heap.size<=wr.heap.size:=Qu ae.size hb.size;have bo:BL wr (W.putObj D' (Qg U)):=hB.trans (belowK_b (w:=wr) (Qj _) W D' _ _ (by simp at hD;omega) hK rfl rfl);have an:=World.ownsRow.mono (ownsRow_putObj N (Qg U) hK rfl) ch;have ay:=P.below bo;have ci:BL w (W.putObj D' (Qg U)):=by
     have q:=Ad hb bo;exact(Ad ae q)
    have cj:Z (ts=ss.mergeSort (fun x y=>decide (x<=y))):=bs;clear bs;obtain⟨tl,T⟩:∃tl,ts.length=tl:=⟨_,rfl⟩;have ac:Z (ts.length=tl):=T;rw[T]at hc an;clear T;go_wp2;refine⟨by simp,.inl ⟨_,_,rfl,Xf hK,?_⟩⟩;refine⟨_,X3 rfl _ _ _,?_⟩;exact⟨_,ts,D,hv,_,_,rfl,⟨ss,hS,cj.out⟩,by rw[ac.out];exact an,ay,Qu ae.size (QR _),ci⟩
end Go.Proofs.YtcllhobffhkafaaGreatDoor
namespace Go.Proofs.YtcllhobffhkafaaGreatDoor
open Go.RowKit Go.Extern.Stop Go.Stop Go.Extern Go.Sort Go.Shelf Go.Lib
theorem zW (s:ByteArray) (q:Option Ql) (ar:Nat) (xs:List Rw) (w:A) (a:Nat->Ql) (h:Bl w a) (hs:s.size<=1000) (hx:Ap w (.slice q xs.length ar) xs) (hl:xs.length<=1000) (hp:∀x∈xs,x.1.size<=30) (bs:(A5 s.data.toList).1=0)
  (j:Nat) (hj:j<xs.length) (bu:A0 xs[j]≠0) (av:∀i (h:i<xs.length),i<j->A0 xs[i]=0) (a8:∀x∈xs,A0 x=0->(D1 (A5 s.data.toList).2.1 (A5 s.data.toList).2.2 x).size<=1000) :
  Qq Qb 56 #[.string s,.slice q xs.length ar] w fun e w'=> ∃fb,e=Qk (Qv #[.slice U 0 0,.iface 140 (.pointer (O ⟨fb,0,U⟩))])/\w'.cell? ⟨fb,0,U⟩=O (.int .i64 j)/\w'.cell? ⟨fb,1,U⟩=O (Ae a (A0 xs[j]))/\BL w w':=by
 obtain⟨i0,bn,bo,bp,ba⟩:=Tryz.rowInfo;have hr:=Mp s w a h hs;generalize hL:xs.length=L at hx hl ⊢;have HX:Z (xs.length=L):=hL;clear hL;rw[bs]at hr;simp only[Ae]at hr;generalize D1 (A5 s.data.toList).2.1 (A5 s.data.toList).2.2=p at hr a8;have bv:j<L:=by rw[<-HX.out];exact hj
 refine(Qs (n:=9)).1 ?_;refine QV Xz rfl trivial ?_ rfl;refine wpIn_wide.2 ?_;simp only[X0,QA,QB,QC,QD,QE,QF,QG,QH,QI,QJ,QK]
 go_wp2_with fail
 refine hr.mono ?_;rintro e c ⟨fv,rfl,a6,ap⟩;clear hr;obtain⟨g,cb,rfl,eg,bq⟩:=a6 trivial;clear a6;have bc:=@XO Qb;have bd:BL c (c.alloc (.map #[] 0)):=Af _ _;have be:=Di.made c p;have af:∀W,BL c W->Bl W a:=fun W hW=>h.below (Ad ap hW);have aw:∀W,BL c W->Ap W (.slice q L ar) xs:=fun W hW=>hx.below (Ad ap hW);clear hx h;go_wp2;clear bc
 go_loopw [27] (fun k wr=> ∃n:Nat,n<=j/\k= .int .i64 n/\BL c wr/\∃D hv,Di wr (c.heap.size+1) c.heap.size p (xs.take n) D hv) (fun k _=>L-(Q0 k).toNat)
 case atStart=>exact ⟨0,Xb _,rfl,bd,_,_,be⟩
 case round =>
  obtain⟨n,hn,rfl,hb,D,hv,hG⟩:=hrel;have bf:n<L:=by omega
  by_cases bg:n<j
  ·have F:n<xs.length:=by rw[HX.out];exact bf
   have Q:=aw wr hb;rcases Q with⟨_,_,e,e'⟩|⟨b,o,bb,e,t⟩
   ·exfalso;have:=HX.out;rw[e']at this;simp at this;omega
   injection e with e1 e2 e3;subst e1;clear e2 e3;obtain⟨c1,c2,c3⟩:=t n F;clear t;have hi:(n:Int)<(L:Int):=by omega
   have B:xs[n]∈xs:=Q4 _;have R:=av n F bg;have ag:=a8 _ B R;have ah:=hp _ B;have ai:xs.take (n+1)=xs.take n++ [xs[n]]:=by rw[Xc F]
   have r:=fun W (hW:Bl W a)=>JV xs[n] W a hW (by unfold Qn;omega);rw[R]at r;simp only[Ae]at r;generalize xs[n]=x at c1 c2 c3 R ag ai r;have HT:Z (xs.take (n+1)=xs.take n++ [x]):=ai;have ax:(xs.take n).length=n:=by rw[Xd];omega
   have aj:Z ((xs.take n).length=n):=ax;clear ai B ah ax;generalize xs.take n=ys at hG HT aj;obtain⟨d,f,l⟩:=x;dsimp only at c1 c2 c3 r;have ab:BL wr (wr.alloc (V #[.string d,.int .i64 f,.int .i64 l] 62)):=Af _ _;have Y:BL c (wr.alloc (V #[.string d,.int .i64 f,.int .i64 l] 62)):=Ad hb ab;have K:=r _ (af _ Y);have d0:(wr.alloc (V #[.string d,.int .i64 f,.int .i64 l] 62)).cell? ⟨wr.heap.size,0,U⟩=O (.string d):=by simp
   have d1:(wr.alloc (V #[.string d,.int .i64 f,.int .i64 l] 62)).cell? ⟨wr.heap.size,1,U⟩=O (.int .i64 f):=by simp
   have d2:(wr.alloc (V #[.string d,.int .i64 f,.int .i64 l] 62)).cell? ⟨wr.heap.size,2,U⟩=O (.int .i64 l):=by simp
   clear r
   go_wp2_with fail
   refine K.mono ?_;rintro e w3 ⟨rfl,M⟩;clear K c1 c2 c3;have P:BL c w3:=Ad Y M;have f0:=Aa M d0;have f1:=Aa M d1;have f2:=Aa M d2;have ak:=bq (d,f,l) w3 P (af _ P) R;have bh:=(hG.below ab).below M;clear d0 d1 d2 hG;dsimp only at ak;obtain⟨C,am⟩:∃C,p (d,f,l)=C:=⟨_,rfl⟩;have HG:Z (p (d,f,l)=C):=am;rw[am]at ak ag;clear am;have ay:C.size<=Qn:=by unfold Qn;omega
   obtain⟨vo,an⟩:∃vo,hv C.data.toList=vo:=⟨_,rfl⟩;have aa:Z (hv C.data.toList=vo):=an;have ac:=fun W (hW:Di W (c.heap.size+1) c.heap.size p ys D hv)=>hW.look C ay;rw[an]at ac;clear an;obtain⟨v,ao⟩:∃v,grp p ys C.data.toList=v:=⟨_,rfl⟩;have az:Z (grp p ys C.data.toList=v):=ao;have al:v.length<=n:=by rw[<-ao,<-aj.out];exact QY _ _
   have a0:Z (v.length<=n):=al;clear ao al
   go_wp2_with (first
    | (go_at_fn g;refine ak.mono ?_;rintro e T ⟨rfl,y⟩;have ad:=bh.below y;have bt:=ac T ad;have q0:=Aa y f0;have q1:=Aa y f1;have q2:=Aa y f2)
    | (at_builtin;refine XP _ rfl _ _ 35 rfl (c.heap.size+1) 62 i0 (.agg #[.string ⟨#[]⟩,.int .i64 0,.int .i64 0]) 3 32 XQ bn bo bp ba rfl (by decide) vo v.length (Az v) rfl ?qc0 ⟨T.heap.size,0,U⟩ 1 1 (AM (d,f,l)) rfl ?qc1 ?qc2 ?qc3 ?qc4 ?qc5 ?qc6 ?_))
   case qc0 =>
    have ho:=ad.own C.data.toList;rw[aa.out,az.out]at ho;exact ho.alloc _
   case qc1=>rfl
   case qc2 =>
    intro j u hj;rw[Addr.add_lit,Xy];exact Sj T d f l j u hj
   case qc3=>exact Jc _
   case qc4=>have:=a0.out;unfold Qn;omega
   case qc5=>have:=a0.out;omega
   case qc6 =>
    have e1:=P.size;have e2:=y.size;have e3:=ad.map.lt;simp;omega
   have a9:BL T (T.alloc (V #[.string d,.int .i64 f,.int .i64 l] 62)):=Af _ _;have ae:=ad.below a9;have a1:BL c T:=Ad P y;have a2:BL c (T.alloc (V #[.string d,.int .i64 f,.int .i64 l] 62)):=a1.alloc a1.size _;intro v' w5 X z au aq;obtain⟨g',E,rfl⟩:=X1 X;have a3:BL c w5:=a2.grown z a2.size (fun k hk=>by
    have ho:=ae.own C.data.toList;rw[aa.out]at ho;have:=(IA ho hk).1;omega)
   have a4:w5.ownsMap Qb 9 Ch c.heap.size ys.length D:=ae.map.kept z (fun e=>by
    have ho:=ae.own C.data.toList;rw[aa.out]at ho;have:=(IA ho e.symm).1;omega)
   have bi:Z ((I (O ⟨g',0,U⟩) (v.length+1) E).ownBlock=vo.ownBlock\/(I (O ⟨g',0,U⟩) (v.length+1) E).ownBlock=O (T.alloc (V #[.string d,.int .i64 f,.int .i64 l] 62)).heap.size):=by simpa [Z] using aq
   have bj:Z (w5.ownsRow (c.heap.size+1) 62 3 (I (O ⟨g',0,U⟩) (v.length+1) E) (v.length+1) (Az v++AM (d,f,l))):=X;have bk:Z ((T.alloc (V #[.string d,.int .i64 f,.int .i64 l] 62)).grownBy w5 vo.ownBlock):=z;have bl:Z (w5.ownsMap Qb 9 Ch c.heap.size ys.length D):=a4;clear aq X z a4 au
   go_wp2_with (at_mapUpdate;refine XR _ rfl _ _ _ 163 rfl 9 35 (QS Qx) QT Ch c.heap.size ys.length D rfl bl.out ?qd1 _ _ (.string C.data.toList) rfl rfl (Xa Qx ay) (.agg [.lit (.int .i64 g'),.lit (.int .i64 ((v.length+1:Nat):Int)),.lit (.int .i64 E)]) [] rfl ?_)
   case qd1=>have:=aj.out;unfold Qn;omega
   intro w6 a7 N;have a5:=ae.step (W4:=w6) (d,f,l) (.slice (O ⟨g',0,U⟩) (v.length+1) E) (.agg [.lit (.int .i64 g'),.lit (.int .i64 ((v.length:Int)+1)),.lit (.int .i64 E)]) (by rw[HG.out,az.out];exact bj.out) (by rw[HG.out,aa.out];exact bk.out) (by rw[HG.out,aa.out];exact bi.out) (by rw[HG.out];exact a7) N (by simp[Ch]);have bm:BL c w6:=a3.grown N a3.size (fun k hk=>by cases hk;exact Qj _);rw[<-HT.out]at a5;clear a7 N;go_wp2;go_roundw
   case rel=>exact ⟨n+1,by omega,by go_num,bm,_,_,a5⟩
   case measure=>simp [Q0];omega
  ·obtain rfl:n=j:=by omega
   have F:n<xs.length:=hj;have Q:=aw wr hb;rcases Q with⟨_,_,e,e'⟩|⟨b,o,bb,e,t⟩
   ·exfalso;have:=HX.out;rw[e']at this;simp at this;omega
   injection e with e1 e2 e3;subst e1;clear e2 e3;obtain⟨c1,c2,c3⟩:=t n F;clear t;have hi:(n:Int)<(L:Int):=by omega
   have B:xs[n]∈xs:=Q4 _;have ah:=hp _ B;have r:=fun W (hW:Bl W a)=>JV xs[n] W a hW (by unfold Qn;omega);obtain⟨m,hm⟩:∃m,A0 xs[n]=m+1:=⟨A0 xs[n]-1,by omega⟩;have HM:Z (Ae a (A0 xs[n])= .iface 410 (.pointer (O (a m)))):=by
    show Ae a (A0 xs[n])=_;rw[hm];rfl
   rw[HM.out]at r;clear hm;generalize br:xs[n]=x at c1 c2 c3 r;clear B ah br hG;obtain⟨d,f,l⟩:=x;dsimp only at c1 c2 c3 r;have ab:BL wr (wr.alloc (V #[.string d,.int .i64 f,.int .i64 l] 62)):=Af _ _;have Y:BL c (wr.alloc (V #[.string d,.int .i64 f,.int .i64 l] 62)):=Ad hb ab;have K:=r _ (af _ Y);clear r
   go_wp2_with fail
   refine K.mono ?_;rintro e w3 ⟨rfl,M⟩;clear K c1 c2 c3;have P:BL c w3:=Ad Y M;have y:BL w w3:=Ad ap P;go_wp2;refine⟨_,X3 rfl _ _ _,?_⟩;refine⟨w3.heap.size,rfl,by simp,by rw[HM.out];simp,y.alloc y.size _⟩
theorem zX (s:ByteArray) (q:Option Ql) (d n:Nat) (w:A) (a:Nat->Ql) (h:Bl w a) (g:s.size<=1000) (j:(A5 s.data.toList).1≠0) :
  Qq Qb 56 #[Qa s,I q n d] w fun e w'=>e=Qk (Qv #[I U 0 0,Ae a (A5 s.data.toList).1])/\BL w w':=by
 have b:=Mp s w a h g;obtain⟨m,f⟩:∃m,(A5 s.data.toList).1=m+1:=⟨(A5 s.data.toList).1-1,by omega⟩;rw[f]at b ⊢;simp only[Ae]at b ⊢;refine(Qs (n:=9)).1 ?_;refine QV Xz rfl trivial ?_ rfl;refine wpIn_wide.2 ?_;simp only[X0,QA,QB,QC,QD,QE,QF,QG,QH,QI,QJ,QK]
 go_wp2_with fail
 refine b.mono ?_;rintro e k ⟨l,rfl,i,c⟩;go_wp2;refine⟨_,X3 rfl _ _ _,?_⟩;exact⟨rfl,c⟩
theorem WW (k:List UInt8) (c:Nat):∀ts:List (List UInt8),ts.Nodup->(ts.map fun nm=>if k=nm then c else 0).sum=if k∈ts then c else 0
 | [],_=>by simp
 | t :: ts,h=>by
  rw[Xu]at h;simp only[List.map_cons,List.sum_cons,WW k c ts h.2,Xj];by_cases e:k=t
  ·subst e;simp[h.1]
  ·simp[e]
theorem zY {α:Type} [DecidableEq α] (f:α->List UInt8) (xs:List α) (b:List (List UInt8)) (d:b.Nodup) (g:∀nm,nm∈b↔(xs.filter fun x=>decide (f x=nm))≠ []):(b.flatMap fun nm=>xs.filter fun x=>decide (f x=nm)).Perm xs:=by
 rw[List.perm_iff_count];intro a;rw[List.count_flatMap];have e:(List.count a ∘ fun nm=>xs.filter fun x=>decide (f x=nm))=fun nm=>if f a=nm then xs.count a else 0:=by
  funext nm;simp only[Function.comp_def];by_cases h:f a=nm
  ·rw[if_pos h,List.count_filter (by simpa using h)]
  ·rw[if_neg h,XV];simp[h]
 rw[e,WW _ _ b d];split
 ·rfl
 ·rename_i h;rw[g]at h;symm;rw[XV];intro c;exact h (List.ne_nil_of_mem (QW.2 ⟨c,by simp⟩))
theorem WX (p:Rw->ByteArray) (xs:List Rw) (c:List (List UInt8)) (d:c.Nodup) (f:∀nm,nm∈c↔grp p xs nm≠ []):(c.flatMap (grp p xs)).Perm xs :=
 @zY Rw (fun a b=>Classical.propDecidable (a=b)) (fun x=>(p x).data.toList) xs c d f
theorem zZ {W:A} {base t:Nat} {p:Rw->ByteArray} {ys:List Rw} {D:Q3 Unit} {u:List UInt8->Qc} (h:Di W base t p ys D u) {j d:List (List UInt8)} (v:j.Perm (strKeys D)) (m:d=j.mergeSort (fun x y=>decide (x<=y))) :
  d.Pairwise (fun x y=> ¬y<=x)/\d.Nodup/\(∀nm,nm∈d↔grp p ys nm≠ [])/\d.length<=ys.length:=by
 have g:d.Perm (strKeys D):=by rw[m];exact(XF _ _).trans v
 have f:d.Nodup:=by
  rw[g.nodup_iff];obtain⟨i,n,l,_⟩:=h.map.entries (QS Qx);subst n;show (i.map fun q=>strOf q.1).Nodup;refine List.pairwise_map.2 (l.imp_of_mem fun {q r} hq hr hne e=>hne ?_);obtain⟨x,o⟩:=h.keys i rfl q hq;obtain⟨y,s⟩:=h.keys i rfl r hr;rw[o,s]at e ⊢;exact congrArg _ e
 have k:d.Pairwise (fun x y=>decide (x<=y)=Q2):=by
  rw[m];exact List.pairwise_mergeSort (fun a b c h1 h2=>by simp only[decide_eq_true_eq]at *;exact List.le_trans h1 h2) (fun a b=>by simp only[Bool.or_eq_true,decide_eq_true_eq];exact List.le_total a b) j
 refine⟨?_,f,fun nm=>by rw[g.mem_iff];exact h.key_mem nm,by rw[g.length_eq,WU D h.isMap];exact h.size⟩;refine(List.pairwise_and_iff.2 ⟨k,f⟩).imp fun {a b} hab hle=>?_;exact hab.2 (List.le_antisymm (by simpa using hab.1) hle)
theorem Ru (b:List UInt8->Qc):∀(ts:List (List UInt8)) (i:Nat) (h:i<ts.length),(ts.flatMap fun nm=> [encStr nm,b nm])[i*2]? =O (encStr ts[i])/\(ts.flatMap fun nm=> [encStr nm,b nm])[i*2+1]? =O (b ts[i])
 | [],i,h=>by simp at h
 | t :: ts,0,_=>by simp
 | t :: ts,i+1,h=>by
  have c:=Ru b ts i (by simpa using h);rw[show (i+1)*2=i*2+2 by omega];simpa using c
structure za0 (W:A) (gq:Option Ql) (ts:List (List UInt8)) (hv:List UInt8->Qc) (G:List UInt8->List Rw):Prop where
 cells:∀i (h:i<ts.length),∃gg,gq=O ⟨gg,0,U⟩/\W.cell? ⟨gg,i*2,U⟩=O (encStr ts[i])/\W.cell? ⟨gg,i*2+1,U⟩=O (hv ts[i])
 rows:∀nm,Ap W (hv nm) (G nm)
theorem za1 {W:A} {base k l:Nat} {j:Option Ql} {m:Nat} {b:List (List UInt8)} {c:List UInt8->Qc} {p:Rw->ByteArray} {xs:List Rw} {D:Q3 Unit} (h:W.ownsRow base 167 2 (.slice j b.length m) b.length (b.flatMap fun nm=> [encStr nm,c nm])) (n:Di W k l p xs D c) :
  za0 W j b c (grp p xs):=by
 refine⟨fun i hi=>?_,fun nm=>(I0 (n.own nm)).1⟩;rcases h.2 with⟨_,r⟩|⟨g,o,q,e,_,d,_,_,_,f⟩
 ·omega
 ·injection e with e1 e2 e3;refine⟨g,e1,?_,?_⟩
  ·have:=(Ru c b i hi).1;rw[<-f,Xs,if_pos (by omega)]at this;simp only[Q6,d];simpa using this
  ·have:=(Ru c b i hi).2;rw[<-f,Xs,if_pos (by omega)]at this;simp only[Q6,d];simpa using this
theorem WY (s:List UInt8):(A5 s).2.1=0\/(1<=(A5 s).2.2/\(A5 s).2.2<=1000):=by
 have b:∀l,(nO l).1=0->1<=(nO l).2/\(nO l).2<=1000:=fun l=>by
  unfold nO;split
  ·intro h;cases h
  ·split
   ·intro h;cases h
   ·split
    ·intro h;cases h
    ·intro _;dsimp only;omega
 unfold A5;split
 ·exact Qh rfl
 ·split
  ·split
   ·rename_i c;exact Qe (b _ c)
   ·exact Qh rfl
  ·split
   ·split
    ·rename_i d;exact Qe (b _ d)
    ·exact Qh rfl
   ·exact Qh rfl
theorem Ry (c:UInt8) (n:Int) (b: -1073741824<=n) (d:n<=1073741824):(Gf c n).size<=1000:=by
 have:=EI n b d;unfold Gf;rw[<-AC,ByteArray.data_append];simp[Ab];omega
theorem WZ (k:Nat) (n:Int) (f:k=0\/(1<=n/\n<=1000)) (x:Rw) (j:x.1.size<=30) (h:A0 x=0):(D1 k n x).size<=1000:=by
 have b:=Mo h;unfold D1;split
 ·omega
 ·rename_i d;have c:=f.resolve_left d;split
  ·have g:=Int.emod_nonneg x.2.1 (show n≠0 by omega);have i:=Int.emod_lt_of_pos x.2.1 (show 0<n by omega);exact Ry _ _ (by omega) (by omega)
  ·have:=Te x.2.1 n c.1 b.1 b.2;unfold I5;split
   ·exact Ry _ _ (by omega) (by omega)
   ·exact Ry _ _ (by omega) (by omega)
theorem aA:∀xs:List Rw,(∀x∈xs,A0 x=0)\/∃j,∃h:j<xs.length,A0 xs[j]≠0/\∀i (h':i<xs.length),i<j->A0 xs[i]=0
 | []=>Qh fun _ h=>by cases h
 | x :: xs=>by
  by_cases b:A0 x=0
  ·rcases aA xs with h | ⟨j,d,f,g⟩
   ·refine Qh fun y c=>?_;rcases Xj.1 c with rfl | c
    ·exact b
    ·exact h y c
   ·refine Qe ⟨j+1,by simpa using d,by simpa using f,fun i hi hij=>?_⟩
    cases i with
    | zero=>simpa using b
    | succ i=>simpa using g i (by simpa using hi) (by omega)
  ·exact Qe ⟨0,by simp,by simpa using b,fun i _ h=>by omega⟩
attribute [local go_sem] QL
def IQ (spec:ByteArray) (xs:List Rw) (ds:List Dr):Prop:= ∃ts:List (List UInt8),ts.Nodup/\(∀nm,nm∈ts↔grp (D1 (A5 spec.data.toList).2.1 (A5 spec.data.toList).2.2) xs nm≠ []) /\
 ds=(Cr (ts.map fun nm=>(Ab nm,Qi,grp (D1 (A5 spec.data.toList).2.1 (A5 spec.data.toList).2.2) xs nm))).map fun c=>CX c.1 c.2
def Iu (spec:ByteArray) (xs:List Rw):Prop:=(A5 spec.data.toList).1=0/\∀x∈xs,A0 x=0
def GQ (k:Lk) (idx:Int) (xs:List Rw) (k':Lk) (m:Int):Prop :=
 ET idx=Q2/\Iu k.spec xs/\((idx<=k.now.2.2.2.2.1/\m=0/\k'=k)\/(k.now.2.2.2.2.1<idx/\m=xs.length/\∃ds,IQ k.spec xs ds/\Fm k k' ds [] idx))
def Iv (k:Lk) (idx:Int) (xs:List Rw):Prop:=ET idx=Q2/\Iu k.spec xs/\(idx<=k.now.2.2.2.2.1\/∀ds,IQ k.spec xs ds->JH k ds [] idx)
theorem za2 (gs:List Gk):Cr gs=Cr (gs.map fun g=>(g.1,Qi,g.2.2)):=by
 unfold Cr;rw[XW]
def aB (W:A) (spec:ByteArray) (xs:List Rw) (e:QX) (w':A):Prop :=
 BL W w'/\((Iu spec xs/\∃(gv:Qc) (ts:List (List UInt8)) (gs:List Gk),e=Qk (Qv #[gv,Qi])/\IP w' w'.heap.size gv gs/\gs.length<=xs.length/\(∀g∈gs,∀r∈g.2.2,r∈xs)/\(gs.map fun g=>(g.1,Qi,g.2.2))=(ts.map fun nm=>(Ab nm,Qi,grp (D1 (A5 spec.data.toList).2.1 (A5 spec.data.toList).2.2) xs nm))/\ts.Nodup/\∀nm,nm∈ts↔grp (D1 (A5 spec.data.toList).2.1 (A5 spec.data.toList).2.2) xs nm≠ []) \/
  (¬Iu spec xs/\∃t u,e=Qk (Qv #[I U 0 0,Qy t u])))
theorem za3 (s:ByteArray) (v:Qc) (xs:List Rw) (w:A) (a:Nat->Ql) (h:Bl w a) (B:s.size<=1000) (C:Ap w v xs) (E:xs.length<=1000) (F:∀x∈xs,x.1.size<=30) :
  Qq Qb 56 #[Qa s,v] w (aB w s xs):=by
 obtain⟨q,d,rfl⟩:=C.form;have K:(A5 s.data.toList).2.1=0\/(1<=(A5 s.data.toList).2.2/\(A5 s.data.toList).2.2<=1000):=WY _;have t:∀x∈xs,A0 x=0->(D1 (A5 s.data.toList).2.1 (A5 s.data.toList).2.2 x).size<=1000:=fun x hm h0=>WZ _ _ K x (F x hm) h0;by_cases b:(A5 s.data.toList).1=0
 ·rcases aA xs with m | ⟨j,o,p,i⟩
  ·refine(zV s q d xs w a h B C E F b m t).mono ?_;rintro e R ⟨gv,T,D,hv,b1,b2,rfl,⟨ss,hS,W⟩,f,z,aa,p⟩;obtain⟨X,L,rfl⟩:=Dj f;have u:=za1 f z;obtain⟨-,M,y,N⟩:=zZ z hS W;refine⟨p,Qh ⟨⟨b,m⟩,_,T,T.map fun c=>(Ab c,hv c,grp (D1 (A5 s.data.toList).2.1 (A5 s.data.toList).2.2) xs c),rfl,⟨⟨X,L,by rw[Qr]⟩,fun j o=>?_,fun g i=>?_⟩,by rw[Qr];exact N,?_,by rw[Xv];rfl,M,y⟩⟩
   ·rw[Qr]at o;obtain⟨Y,e1,P,c1⟩:=u.cells j o;subst e1;simp only[List.getElem_map,Qr];exact⟨Y,L,rfl,BF P,P,c1⟩
   ·obtain⟨c,Q,rfl⟩:=QM.1 i;refine⟨u.rows c,fun _ k hk=>(IA (z.own c) hk).2,Qu ?_ E⟩;exact QY _ _
   ·intro g i r hr;obtain⟨c,Q,rfl⟩:=QM.1 i;exact(QW.1 hr).1
  ·refine(zW s q d xs w a h B C E F b j o p i t).mono ?_;rintro e R ⟨fb,rfl,-,-,l⟩;exact⟨l,Qe ⟨fun h=>p (h.2 _ (Q4 o)),_,_,rfl⟩⟩
 ·refine(zX s q d xs.length w a h B b).mono ?_;rintro e R ⟨rfl,l⟩;obtain⟨n,hn⟩:∃n,(A5 s.data.toList).1=n+1:=⟨(A5 s.data.toList).1-1,by omega⟩;exact⟨l,Qe ⟨fun h=>b h.1,_,_,by rw[hn];rfl⟩⟩
theorem za4 {W j:A} {D:Nat} {v:Qc} {ds:List Dr} {b:Option Nat} (h:Bg W D v ds) (n:W.grownBy j b) (p:∀r,b=O r->∃o:Obj,W.heap[r]? =O o/\o.isCells=Qt):Bg j D v ds:=by
 refine⟨h.1,h.2.imp id ?_⟩;rintro⟨g,f,i,e,l,c,m⟩;refine⟨g,f,i,e,l,(n.block g (Qp.1 c).1 (fun e'=>?_)).trans c,m⟩;obtain⟨o,d,k⟩:=p g e'.symm;rw[c]at d;cases d
 cases k
theorem LD {X:A} {c:Nat} {d f:Qc} {b:Array Qc} (j:b[6]?.getD Xg=Qf (O ⟨c,0,U⟩)) (k:b[7]?.getD Xg=Qf (O ⟨c+1,0,U⟩)) (l:Qd X c 3 d) (m:Qd X (c+1) 27 f):(Xt Tryz.f25 b).run Qb X= .ok (Qv #[d,f]) X:=by
 have g:=l.cell;have i:=m.cell;simp[Xt,results25,go_sem,j,k,g,i]
theorem IR {Y:A} {b:Nat} {f g:Qc} (i:Qd Y b 3 f) (j:Qd Y (b+1) 27 g) (c d:Qc):Qd ((Y.setCell ⟨b,0,U⟩ c).setCell ⟨b+1,0,U⟩ d) b 3 c/\Qd ((Y.setCell ⟨b,0,U⟩ c).setCell ⟨b+1,0,U⟩ d) (b+1) 27 d:=⟨(i.set c).other (by omega) d,(j.other (by omega) c).set d⟩
theorem za5 (q:Option Ql) (n c:Nat) (w:A):Qq Qb 58 #[I q n c] w fun e w'=>e=Qk (.func (.func 107) #[] #[Qf (O ⟨w.heap.size,0,U⟩)])/\w'=w.alloc (V #[I q n c] 95):=by
 go_enter func58,ntmps58
 go_wp2;go_ret;exact⟨rfl,rfl⟩
theorem za6 {X:A} {vf:Qc} {g:List Fl} (h:Ai X vf g) (d:g≠ []) {j:Nat} (f:vf.ownBlock=O j):∃o s,X.cell? ⟨j,o,U⟩=O (Qa s):=by
 rcases h with⟨_,_,_,_,e⟩|⟨b,o,c,k,_,l⟩
 ·exact absurd e d
 ·rw[k]at f;simp only[Xk,Xw]at f;subst f;obtain⟨i,-⟩:=l 0 (List.length_pos_iff.2 d);exact⟨_,_,i⟩
theorem aC {X:A} {j o:Nat} {t:TypeId} {v u:Qc} (h:Qd X j t v) (b:X.cell? ⟨j,o,U⟩=O u):u=v:=by
 rw[QN _ _ _ _ _ _ h]at b
 match o,b with
 | 0,b=>simpa using b.symm
 | o+1,b=>simp at b
theorem Ac.putObj {P:Nat->Prop} {b w:A} (h:Ac P b w) {D:Nat} (c:P D) (o:Obj):Ac P b (w.putObj D o):=⟨h.os,h.tape,h.output,by simpa [XB] using h.size,fun k hk hP=>(Qz (fun e=>hP (by rw[e];exact c))).trans (h.block k hk hP)⟩
theorem Al.told {a:Nat->Ql} {B:Nat} {q:A->Prop} (K:A2 a B q An) {X:A} {g:Nat} {n i vf:Qc} {l:Nat->Prop} {p:ByteArray} {k:Lk} (h:Al X g n l p i vf k) {b D:Nat} (r:Qd X b 3 (S J 0)) (t:Qd X (b+1) 27 Qi) (u:X.heap[D]? =O (Qg (O []))) (v:∀j,l j->j≠b/\j≠b+1/\j≠D) (y:g<b/\b<D) (hi:∀j,i.ownBlock=O j->j≠b/\j≠b+1/\j≠D) (c d:Qc) :
  Al (((X.setCell ⟨b,0,U⟩ c).setCell ⟨b+1,0,U⟩ d).putObj D (Qg U)) g n l p i vf k/\Ac (fun j=>j=b\/j=b+1\/j=D) X (((X.setCell ⟨b,0,U⟩ c).setCell ⟨b+1,0,U⟩ d).putObj D (Qg U)):=by
 have m:Ac (fun j=>j=b\/j=b+1\/j=D) X (((X.setCell ⟨b,0,U⟩ c).setCell ⟨b+1,0,U⟩ d).putObj D (Qg U)):=(((Ac.refl _ X).setCell (Qh (Qh rfl)) c).setCell (Qh (Qe (Qh rfl))) d).putObj (Qe (Qe rfl)) _;refine⟨h.but K m (fun j hj e=>?_) (fun e=>by omega) (fun _ j hj e=>?_) (fun hne j hj e=>?_),m⟩
 ·have:=v j hj;omega
 ·have:=hi j hj;omega
 ·obtain⟨o,s,f⟩:=za6 h.fls hne hj;rcases e with rfl | rfl | rfl
  ·cases aC r f
  ·cases aC t f
  ·simp[Q6,u]at f
theorem za7 {W k:A} {v:Qc} {xs:List Rw} {d:Option Nat} (h:Ap W v xs) (g:W.grownBy k d) (i:∀r,d=O r->∃o:Obj,W.heap[r]? =O o/\o.isCells=Qt):Ap k v xs:=by
 rcases h with h | ⟨b,o,c,e,f⟩
 ·exact Qh h
 ·exact Qe ⟨b,o,c,e,fun j hj=>⟨X4 (f j hj).1 g i,X4 (f j hj).2.1 g i,X4 (f j hj).2.2 g i⟩⟩
theorem za8 (gs:List Gk):(Cr gs).length<=(gs.flatMap fun g=>g.2.2).length:=by
 induction gs with
 | nil=>exact Qj _
 | cons g r ih =>
  unfold Cr DN at *;rw[Xi,QP,Xi,QP,Qr,Qr,XK];omega
theorem aD {gs:List Gk} {c:ByteArray×List Rw} (h:c∈Cr gs):∃g∈gs,c.1=g.1/\(∀r∈c.2,r∈g.2.2)/\c.2.length<=40:=by
 obtain⟨g,b,h⟩:=List.mem_flatMap.1 h;obtain⟨i,d,rfl⟩:=QM.1 h;exact⟨g,b,rfl,fun r hr=>(Dy g.2.2).mem_iff.1 (XL (XM hr)),XN _ _⟩
theorem aE {xs:List Rw} (h:DM xs):(Ab (EY (A3 xs))).size<=1400:=by
 rw[EK];exact Mf KM (A3 xs) (fun x hx=>h.2 x ((Dy xs).mem_iff.1 hx)) (by rw[G3];exact h.1)
theorem Nz {b:ByteArray} {xs:List Rw} {ds:List Dr} (h:IQ b xs ds) (o:Iu b xs) (v:∀x∈xs,x.1.size<=30):ds.length<=xs.length/\∀d∈ds,Ea d.1/\Bw d.1/\d.1.size<=100/\d.2.1.size<=1000/\d.2.2.size<=1400:=by
 obtain⟨k,p,l,rfl⟩:=h;refine⟨?_,fun d hd=>?_⟩
 ·rw[Qr];refine Qu (za8 _) ?_;rw[XW,show (k.flatMap fun f=>grp _ xs f).length=xs.length from (WX _ xs k p l).length_eq];exact Qj _
 ·obtain⟨c,q,rfl⟩:=QM.1 hd;obtain⟨g,r,s,t,u⟩:=aD q;obtain⟨f,m,rfl⟩:=QM.1 r;refine⟨VA,show (47:UInt8)∈(⟨#[100,97,116,97,47]⟩:ByteArray).data.toList by decide,show (⟨#[100,97,116,97,47]⟩:ByteArray).size<=100 by decide,?_,aE ⟨u,fun x j=>o.2 x (QW.1 (t x j)).1⟩⟩;show c.1.size<=1000;obtain⟨x,j⟩:=XT _ ((l f).1 m);obtain⟨i,n⟩:=QW.1 j;have:=WZ _ _ (WY b.data.toList) x (v x i) (o.2 x i);rw[s];show (Ab f).size<=1000;rw[EK,<-of_decide_eq_true n,AC];exact this
section
variable {a : Nat → Ql} {B : Nat} {EM : A → Prop}
theorem aF (K:A2 a B EM An) (HL:∀X,EM X->AX X a) {W:A} {Q:Nat} {vs:Qc} {SP:Nat->Prop} {vi vf:Qc} {k:Lk} (hE:EM W) (h:Al W Q vs SP k.st.head vi vf k) (hi:Av k) (hB:B<=Q/\∀j,SP j->B<=j) (c5:k.spec.size<=1000) (b:Int) {vx:Qc} {xs:List Rw} (hx:Ap W vx xs) (db:xs.length<=100) (hp:∀x∈xs,x.1.size<=30) :
  Qq Qb 25 #[Qf (O ⟨Q,0,U⟩),S J b,vx] W (Bh W Q vs SP k (GQ k b xs) (Iv k b xs)):=by
 obtain⟨pt,rfl⟩:=h.ptr K;have ao:Z (∀X,Below W.heap.size W X->EM X):=fun X M=>K.below _ _ hE (M.mono (K.size _ hE));have HQ:Z (∀X,Below W.heap.size W X->Al X Q (Qf (O pt)) SP k.st.head vi vf k):=fun X M=>h.quiet K M;have HG:Z (B7 k.st):=hi.good;have be:Z (∀X,Below W.heap.size W X->Qq Qb 56 #[Qa k.spec,vx] X (aB X k.spec xs)):=fun X M=>za3 k.spec vx xs X a (HL X (ao.out X M)).f.data.env c5 (hx.below M) (by omega) hp;have cg:Z (∀X,Below W.heap.size W X->DI X a):=fun X M=>(HL X (ao.out X M)).f.data;have ch:Z (∀X D vd vr ds,Below W.heap.size W X->W.heap.size<=D->Bg X D vd ds->BV X vr []->(∀j,vr.ownBlock=O j->¬SP j)->ds.length<=100->(∀d∈ds,Bw d.1/\d.1.size<=100/\d.2.1.size<=1000/\d.2.2.size<=100000)->Qq Qb 60 #[Qf (O ⟨Q,0,U⟩),QQ #[vd,vr],S J b] X (D5 a X Q (Qf (O pt)) SP vi k ds [] b)):=fun X D vd vr ds M hD N hr hro hl au=>PM K HL (ao.out X M) (HQ.out X M) hi hB N hr (fun j q e=>by have:=Jt N q;have:=(h.sizes K).2 j e;omega) hro hl (by simp) au b;have ax:Z (∀x∈xs,x.1.size<=30):=hp;have ci:Z (∀j,vi.ownBlock=O j->j<W.heap.size):=fun j q=>J6 h.ids.1 (DA.1 hi.ids).1 q;have ai:Z (Q<W.heap.size/\∀j,SP j->j<W.heap.size):=h.sizes K;obtain⟨qx,cx,ct⟩:=hx.form;subst ct;have bf:Z (∀X,Below W.heap.size W X->X.cell? ⟨1,0,U⟩=O (Qy 410 (Qf (O (a 1))))):=fun X M=>(HL X (ao.out X M)).m.bound;obtain⟨c0,c1,-,-,-,-,-,-,c8,-⟩:=h.blk.cells;clear hE h hi hB hx hp;refine(Qs (n:=20)).1 ?_;refine QV func25 rfl trivial ?_ rfl;simp only[ntmps25,QA,QB,QC,QD,QE,QF,QG,QH,QI,QJ,QK];refine wpIn_wide.2 ?_;have P:Below W.heap.size W ((W.alloc (V #[S J 0] 3)).alloc (V #[Qi] 27)):=(Af _ _).alloc (by simp) _;have ac:Qd ((W.alloc (V #[S J 0] 3)).alloc (V #[Qi] 27)) W.heap.size 3 (S J 0):=(Q7 W 3 (S J 0)).alloc _;have ad:Qd ((W.alloc (V #[S J 0] 3)).alloc (V #[Qi] 27)) (W.heap.size+1) 27 Qi:=by
  have:=Q7 (W.alloc (V #[S J 0] 3)) 27 Qi;simpa using this
 go_upto_region 1 with fail
 generalize (W.alloc (V #[S J 0] 3)).alloc (V #[Qi] 27)=W1 at P ac ad ⊢;have HR:Z (Qd W1 W.heap.size 3 (S J 0)/\Qd W1 (W.heap.size+1) 27 Qi):=⟨ac,ad⟩;have z:Z (W.heap.size<=W.heap.size/\W.heap.size<=W.heap.size+1):=⟨Qj _,QR _⟩;have bg:=Aa P c0;have bh:=Aa P c1;have ay:=Aa P c8;have bi:=GN bg;have bj:=VX b W1
 -- a result is stored,and told
 have ca:∀(X:A) (v7:Qc),Qd X W.heap.size 3 (S J 0)->True:=fun _ _ _=>trivial;generalize bd:W.heap.size=p at *;have R:Z (W.heap.size=p):=bd;clear bd ca c0 c1 c8
 go_wp2_with fail
 refine bi.mono ?_;rintro e w1 ⟨rfl,e1⟩;rw[e1];clear bi e1
 go_wp2_with fail
 refine bj.mono ?_;rintro e w1 ⟨rfl,e1⟩;rw[e1];clear bj e1;have k6:=ac.cell;have k7:=ad.cell;have f6:=ac.frozen;have f7:=ad.frozen
 cases M:ET b with
 | false =>
  have cj:Z (ET b=Qt):=M;have HP:Z (∀X,Below p W X->Bh W Q (Qf (O pt)) SP k (GQ k b xs) (Iv k b xs) (Qk (Qv #[S J 0,Qy 410 (Qf (O (a 1)))])) X):=fun X L=>Bh.bad (HQ.out W (Q1 _ _)) HG.out K (by unfold BL;rw[R.out];exact L) (fun h=>by have y:=h.1;rw[cj.out]at y;cases y);have ck:=bf.out W1 P;have es:W1.setCell ⟨p,0,U⟩ (S J 0)=W1:=Ah k6;have c6:(W1.setCell ⟨p,0,U⟩ (S J 0)).cell? ⟨1,0,U⟩=O (Qy 410 (Qf (O (a 1)))):=by rw[es];exact ck
  clear bh ay ac ad es;go_wp2
  go_region
  go_wp2;exact⟨_,LD rfl rfl (IR HR.out.1 HR.out.2 _ _).1 (IR HR.out.1 HR.out.2 _ _).2,HP.out _ (((P.setCell (Qj _) _).setCell (QR _) _).drew)⟩
 | true =>
 have bk:Z (ET b=Q2):=M;have bl:=be.out W1 P;clear M ac ad k6 k7 f6 f7 bf be
 go_wp2_with fail
 refine bl.mono ?_;rintro e C ⟨aw,a6⟩;have az:Below p W C:=P.trans (aw.mono (by have:=P.size;have:=R.out;omega));have z:Z (Qd C p 3 (S J 0)/\Qd C (p+1) 27 Qi):=⟨(aw.block _ HR.out.1.lt).trans HR.out.1,(aw.block _ HR.out.2.lt).trans HR.out.2⟩;have a0:=Aa aw ay;have k6:=z.out.1.cell;have k7:=z.out.2.cell;have f6:=z.out.1.frozen;have f7:=z.out.2.frozen;clear bl bg bh ay P;rcases a6 with⟨hR,gv,ts,F,rfl,a9,b2,b3,b4,b5,ba⟩|⟨hR,t,u,rfl⟩
 case inr =>
  have HP:Z (∀X,Below p W X->Bh W Q (Qf (O pt)) SP k (GQ k b xs) (Iv k b xs) (Qk (Qv #[S J 0,Qy t u])) X):=fun X L=>Bh.bad (HQ.out W (Q1 _ _)) HG.out K (by unfold BL;rw[R.out];exact L) (fun h=>hR h.2.1);clear a0 hR;go_wp2;exact⟨_,LD rfl rfl (IR z.out.1 z.out.2 _ _).1 (IR z.out.1 z.out.2 _ _).2,HP.out _ ((az.setCell (Qj _) _).setCell (QR _) _)⟩
 case inl =>
 have ap:Z (Iu k.spec xs):=hR;have aj:Z (F.length<=xs.length/\(∀g∈F,∀r∈g.2.2,r∈xs)/\(F.map fun g=>(g.1,Qi,g.2.2))=(ts.map fun nm=>(Ab nm,Qi,grp (D1 (A5 k.spec.data.toList).2.1 (A5 k.spec.data.toList).2.2) xs nm))/\ts.Nodup/\∀nm,nm∈ts↔grp (D1 (A5 k.spec.data.toList).2.1 (A5 k.spec.data.toList).2.2) xs nm≠ []):=⟨b2,b3,b4,b5,ba⟩;have cl:Z (IP C C.heap.size gv F):=a9;obtain⟨gq,gc,cu⟩:=a9.form;subst cu;have bm:=PT (n:=b) a0;clear hR a9 b2 b3 b4 b5 ba a0
 go_wp2_with fail
 refine bm.mono ?_;rintro e w3 ⟨rfl,e1⟩;rw[e1];clear bm e1;by_cases cm:b<=k.now.2.2.2.2.1
 case pos =>
  have HP:Z (∀X,Below p W X->Bh W Q (Qf (O pt)) SP k (GQ k b xs) (Iv k b xs) (Qk (Qv #[S J 0,Qi])) X):=fun X L=>Bh.same (HQ.out W (Q1 _ _)) K (by unfold BL;rw[R.out];exact L) ⟨bk.out,ap.out,Qh ⟨cm,rfl,rfl⟩⟩;go_wp2;exact⟨_,LD rfl rfl (IR z.out.1 z.out.2 _ _).1 (IR z.out.1 z.out.2 _ _).2,HP.out _ ((az.setCell (Qj _) _).setCell (QR _) _)⟩
 case neg =>
 have bn:Z (k.now.2.2.2.2.1<b):=by show _<_;omega
 have bo:=za5 gq F.length gc (C.alloc (V #[I U 0 0,I U 0 0] 100));clear k6 k7 f6 f7
 go_wp2_with fail
 refine bo.mono ?_;rintro e w4 ⟨rfl,rfl⟩;clear bo
 go_wp2_with fail
 have aq:Below C.heap.size C ((C.alloc (V #[I U 0 0,I U 0 0] 100)).alloc (V #[I gq F.length gc] 95)):=(Af _ _).alloc (by simp) _;have al:El ((C.alloc (V #[I U 0 0,I U 0 0] 100)).alloc (V #[I gq F.length gc] 95)) C.heap.size (I U 0 0) (I U 0 0):=by
  have:=XI C (V #[I U 0 0,I U 0 0] 100);exact((Af _ _).block _ (Qw this)).trans this
 have am:Qd ((C.alloc (V #[I U 0 0,I U 0 0] 100)).alloc (V #[I gq F.length gc] 95)) (C.heap.size+1) 95 (I gq F.length gc):=by
  have:=Q7 (C.alloc (V #[I U 0 0,I U 0 0] 100)) 95 (I gq F.length gc);simpa using this
 have an:=cl.out.keep (DF.of_below aq);have bp:((C.alloc (V #[I U 0 0,I U 0 0] 100)).alloc (V #[I gq F.length gc] 95)).heap.size=C.heap.size+2:=by simp
 have cc:=z.out.2.lt;generalize (C.alloc (V #[I U 0 0,I U 0 0] 100)).alloc (V #[I gq F.length gc] 95)=W5 at aq al am an bp ⊢;obtain⟨E,a5⟩:∃n,C.heap.size=n:=⟨_,rfl⟩;have bq:Z (C.heap.size=E):=a5;rw[a5]at aq al am an bp cc ⊢;have ce:=zR 19 (E+1) E (I gq F.length gc) F W5 am an (by have:=aj.out.1;omega);have br:Z (∀X,Below E C X->Below p W X):=fun X L=>az.trans (L.mono (by omega));have ar:Z (IQ k.spec xs ((Cr F).map fun c=>CX c.1 c.2)):=⟨ts,aj.out.2.2.2.1,aj.out.2.2.2.2,by rw[za2 F,aj.out.2.2.1]⟩;have ae:=Nz ar.out ap.out ax.out;have ae:Z (((Cr F).map fun c=>CX c.1 c.2).length<=xs.length/\∀d∈(Cr F).map fun c=>CX c.1 c.2,Ea d.1/\Bw d.1/\d.1.size<=100/\d.2.1.size<=1000/\d.2.2.size<=1400):=ae;refine(wpIn_wide (n:=20)).1 ?_;refine WT (n:=20) rfl (QU func107 (by kernel_rfl) rfl) (fun _=>rfl) ce (fun h k=>h.trans k) ?hKb ?hEx
  (fun ah X=> ∃v,El X E v (I U 0 0)/\Bg X E v (ah.map fun x=>CX x.1 x.2.2)/\Below E C X) ?own ⟨_,al,Bg.nil _ _,aq⟩ ?a1 ?assign ?body ?done
 case assign =>
  intro l x X K hK
  gi_wp2
  exact hK
 case hKb =>
  intro X l o o' hl cy cz;have hg:=XU X l o';refine⟨hg.size,fun i hi hc=>hg.block i hi ?_⟩;intro e;cases e
  rcases hc with hc | ⟨cs,t,fz,y,_⟩
  ·omega
  ·rw[cy]at y;cases y;cases cz
 case hEx =>
  rintro ah x s X Y bx ⟨y,h2,h3⟩ hg hr;exact⟨y,za7 h2 hg (fun r e=>(hr r e).2),h3⟩
 case own =>
  rintro ah X Y bx ⟨v,y,h2,h3⟩ hg hr;exact⟨v,(hg.block E (Qw y) (fun e=>by have:=(hr E e.symm).1;omega)).trans y,za4 h2 hg (fun r e=>(hr r e).2),XS (β:=Unit) (by omega) (by omega) () X Y bx h3 hg hr⟩
 case body =>
  rintro l ah x X hl-⟨v,hc,N,T⟩ ⟨hn,a7,⟨g,hg,-,cf⟩,bz⟩;have af:=br.out X T;have bs:=cg.out X af;have a2:∀r∈x.2.2,r∈xs:=fun r hr=>aj.out.2.1 g hg r (cf r hr);have cn:=ae.out.1;rw[Qr]at cn;have a3:=Wo bs hc N (by have:=T.size;have:=bq.out;omega) (by rw[Qr];omega) a7 (by omega) (fun r hr=>ax.out r (a2 r hr)) x.1;have bt:Z (DM x.2.2):=⟨bz,fun r hr=>ap.out.2 r (a2 r hr)⟩;have ak:Z (El X E v (I U 0 0)/\Bg X E v (ah.map fun x=>CX x.1 x.2.2)/\Below E C X):=⟨hc,N,T⟩;obtain⟨qw,cw,cv⟩:=a7.form;rw[cv]at a3;clear hc N T bs a7 bz a2 hn af
  gi_wp2_with fail
  refine⟨trivial,(CallsIn.inRound l ((Qs (n:=17)).2 a3)).mono ?_⟩;rintro e X2 c2;clear a3;rcases c2 with⟨-,rfl,v',b8,b9,aa⟩|⟨bb,-⟩
  case inr=>exact absurd bt.out bb
  have ab:∀j,(j=E\/v.ownBlock=O j)->∃cs fz t,X.heap[j]? =O (V cs t fz)/\E<=j/\(t=100\/t=111):=fun j q=>by
   rcases q with rfl | q
   ·exact⟨_,_,_,ak.out.1,Qj _,Qh rfl⟩
   ·obtain⟨y,h2,c7,h3⟩:=A7 ak.out.2.1 q;exact⟨_,_,_,h3,y,Qe rfl⟩
  have co:Z (Q8 W5.heap.size X X2/\DF E X X2/\∃v,El X2 E v (I U 0 0)/\Bg X2 E v ((ah++ [x]).map fun x=>CX x.1 x.2.2)/\Below E C X2):=by
   refine⟨⟨aa.size,fun j o _ q ho=>(aa.block j (Qp.1 q).1 fun hp=>?_).trans q⟩,⟨aa.size,fun j q hc=>aa.block j q fun hp=>?_⟩,v',b8,by rw[Xe];exact b9,ak.out.2.2.trans (aa.below (by have:=ak.out.2.2.size;have:=bq.out;omega) (fun j q=>by obtain⟨_,_,_,-,h,-⟩:=ab j q;exact h))⟩
   ·obtain⟨cs,fz,t,y,-⟩:=ab j hp;rw[q]at y;cases y
    cases ho
   ·obtain⟨cs,fz,t,y,h2,h3⟩:=ab j hp;rcases hc with hc | ⟨c9,t',da,h4,h5,h6⟩
    ·omega
    ·rw[y]at h4;cases h4
     exact h3.elim h5 h6
  clear ab aa b8 b9 bt ak
  gi_wp2
  exact co.out
 case done =>
  rintro D c3 X hD hS ⟨v,hc,N,T⟩ hK;have af:=br.out X T;have au:(c3.map fun x=>CX x.1 x.2.2)=(Cr F).map fun c=>CX c.1 c.2:=by rw[<-hS,Xv];rfl
  rw[au]at N;clear au hS;generalize (Cr F).map (fun c=>CX c.1 c.2)=ds at N ar ae;obtain⟨qd,cd,rfl,-⟩:=N.at;have a4:=ch.out X E (I qd ds.length cd) (I U 0 0) ds af (by omega) N (Qh ⟨rfl,rfl⟩) (fun j q=>by simp[Xk]at q) (by have:=ae.out.1;omega) (fun d N=>by obtain⟨-,y,h2,h3,h4⟩:=ae.out.2 d N;exact⟨y,h2,h3,by omega⟩);have k0:X.cell? ⟨E,0,U⟩=O (I qd ds.length cd):=by rw[QN _ _ _ _ _ _ hc];rfl
  have k1:X.cell? ⟨E,1,U⟩=O (I U 0 0):=by rw[QN _ _ _ _ _ _ hc];rfl
  have cp:Z (Qd X p 3 (S J 0)/\Qd X (p+1) 27 Qi/\X.heap[D]? =O (Qg (O []))/\p+2<=D/\Below p W X):=⟨(T.block _ (by omega)).trans z.out.1,(T.block _ (by omega)).trans z.out.2,hK,by omega,af⟩;generalize ds.length=GL at a4 k0 ⊢;clear hc N T af hK
  go_wp2_with fail
  refine a4.mono ?_;rintro e X7 ⟨n,c4,b0,b1,k',rfl,y,h2,a8,h3,h4⟩;have L:=cp.out;have bu:p+2<=X.heap.size/\D<X.heap.size:=⟨by have:=L.2.1.lt;omega,(Qp.1 L.2.2.1).1⟩;have av:∀j,p<=j->¬(SP j\/j=Q):=fun j q e=>e.elim (fun e=>by have:=ai.out.2 j e;omega) (fun e=>by have:=ai.out.1;omega);have b6:Qd X7 p 3 (S J 0):=(y.block _ L.1.lt (av _ (Qj _))).trans L.1;have b7:Qd X7 (p+1) 27 Qi:=(y.block _ L.2.1.lt (av _ (QR _))).trans L.2.1;have bD:X7.heap[D]? =O (Qg (O [])):=(y.block _ bu.2 (av _ (by omega))).trans L.2.2.1;have bv:=Al.told K h3 b6 b7 bD (fun j q=>(h2 j q).elim (fun e=>by have:=ai.out.2 j e;omega) (fun e=>by omega)) ⟨ai.out.1,by omega⟩ (fun j q=>a8.1.elim (fun e=>by have:=ci.out j (e▸q);omega) (fun e=>by have:=e j q;omega));have cq:Z (Ac (fun j=>SP j\/j=Q) W X7):=(Ac.of_below (by have:=L.2.2.2.2;unfold BL;rw[R.out];exact this)).trans y (fun _ h _=>h);have cr:Z (FO W Q k b0 b1 k'):=a8.2.low (by have:=L.2.2.2.2;unfold BL;rw[R.out];exact this) (by have:=ai.out.1;have:=R.out;omega);have bw:Z (∀v6 v7 m ev,((∃t u,ev=Qy t u)/\n≠0)\/(ev=Qi/\n=0/\m=(xs.length:Int))->Bh W Q (Qf (O pt)) SP k (GQ k b xs) (Iv k b xs) (Qk (Qv #[S J m,ev])) (((X7.setCell ⟨p,0,U⟩ v6).setCell ⟨p+1,0,U⟩ v7).putObj D (Qg U))):=fun v6 v7 m ev a6=>by
   obtain⟨g1,g2⟩:=bv v6 v7;refine⟨c4,b0,b1,k',m,ev,rfl,cq.out.trans g2 (fun j q hjl=>by have:=R.out;omega),fun j q=>(h2 j q).imp_right (fun e=>by have:=R.out;omega),⟨g1,cr.out⟩,?_⟩;rcases a6 with⟨bc,hn⟩|⟨bc,hn,hm⟩
   ·rcases h4 with⟨-,bb,s',hg,e⟩|⟨h0,-⟩
    ·exact Qh ⟨bc,fun h=>h.2.2.elim (fun e=>absurd e (by have:=bn.out;omega)) (fun e=>bb (e _ ar.out)),s',hg,e⟩
    ·exact absurd h0 hn
   ·rcases h4 with⟨h0,-⟩|⟨-,N⟩
    ·exact absurd hn h0
    ·exact Qe ⟨bc,bk.out,ap.out,Qe ⟨bn.out,hm,_,ar.out,N⟩⟩
  have ag:Z (∀v6 v7,Qd (((X7.setCell ⟨p,0,U⟩ v6).setCell ⟨p+1,0,U⟩ v7).putObj D (Qg U)) p 3 v6/\Qd (((X7.setCell ⟨p,0,U⟩ v6).setCell ⟨p+1,0,U⟩ v7).putObj D (Qg U)) (p+1) 27 v7/\((X7.setCell ⟨p,0,U⟩ v6).setCell ⟨p+1,0,U⟩ v7).heap[D]? =O (Qg (O []))):=fun v6 v7=>⟨(Qz (by omega)).trans (IR b6 b7 v6 v7).1,(Qz (by omega)).trans (IR b6 b7 v6 v7).2,(Xx _ _ _ _ (by show D≠p+1;omega)).trans ((Xx _ _ _ _ (by show D≠p;omega)).trans bD)⟩;have k6:=b6.cell;have k7:=b7.cell;have f6:=b6.frozen;have f7:=b7.frozen;clear av bv b6 b7 bD y h2 a8 h3 h4 L bu k0 k1 a4;by_cases hn:n=0
  case neg =>
   obtain⟨i,rfl⟩:∃i,n=i+1:=⟨n-1,by omega⟩;simp only[Ae];clear hn;go_wp2;refine⟨by simp,.inl ⟨_,_,rfl,Xf (ag.out _ _).2.2,?_⟩⟩;exact⟨_,LD rfl rfl (ag.out _ _).1 (ag.out _ _).2.1,bw.out _ _ _ _ (Qh ⟨⟨_,_,rfl⟩,by omega⟩)⟩
  case pos =>
   subst hn;simp only[Ae];go_wp2;refine⟨by simp,.inl ⟨_,_,rfl,Xf (ag.out _ _).2.2,?_⟩⟩;exact⟨_,LD rfl rfl (ag.out _ _).1 (ag.out _ _).2.1,bw.out _ _ _ _ (Qe ⟨rfl,by trivial,rfl⟩)⟩
end
end Go.Proofs.YtcllhobffhkafaaGreatDoor
