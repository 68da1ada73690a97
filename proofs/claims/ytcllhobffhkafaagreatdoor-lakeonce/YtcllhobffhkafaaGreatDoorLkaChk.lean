/- By an AI agent. -/
import Derived.Test.YtcllhobffhkafaaGreatDoorLkaPkp
set_option maxRecDepth 100000
set_option maxHeartbeats 16000000
open Go.Proofs.Tryz
open Array renaming getElem?_eq_some_iff->Qt,replicate_succ->QQ,replicate_zero->QR
open Go renaming World->Z,Value->G,Boxed->Ql,DataW->Qn,callsIn_wide->Qp,Calls->Qr,maxLen->Qu,lt_of_block->Qv,KeepsFrom->Q0,OwnFrom->Q1,CallsIn->Q2,cell_of_row->QB,callsIn_of_wp->QK
open Go.Ending renaming returned->Qg
open Go.Fence renaming wide->Qe
open Go.IntKind renaming i64->Qa
open Go.Maps renaming size->Qj,string_keyed->QH
open Go.Obj renaming deferred->Qc,cells->Qf
open Go.Oper renaming semAt_some->Qy
open Go.Proofs.Tryz renaming prog->S,underlying9->Qo,underlying163->Q3,underlying82->Q4,isAgg82->Q5,sizeOf82->Q6,zeroValue82->Q7,zeroValue9->QJ
open Go.RowKit renaming Hid->I
open Go.RowKit.Below renaming refl->Qs,size->Qw,drew->QC,alloc->QD,heap_alloc->QF
open Go.Value renaming slice->J,string->A,int->V,pointer->Qd,nilIface->Qq
open Go.WideMaps renaming keyOf_string_mk->QI
open Go.World renaming putObj_heap_other->Qx,cell?->Q8,alloc_heap_new->QE,putObj_heap_same->QG
open List renaming length_map->Q9,getElem_mem->QA,size_toArray->QL,length_cons->QM,length_nil->QN,push_toArray->QS,append_toArray->QT,nil_append->QU,cons_append->QV
open Nat renaming lt_of_lt_of_le->Qb,le_refl->Qi,ne_of_lt->Qm,le_trans->Qz,reduceAdd->QO,reduceSub->QP,zero_le->QW
open Option renaming some->O,none->U
open Or renaming inr->Qh,inl->Qk
namespace Go.Proofs.YtcllhobffhkafaaGreatDoor
open Go.RowKit Go.Extern.Stop Go.Stop Go.Extern Go.Sort Go.Shelf Go.Lib
attribute [local go_sem] Qy
theorem _root_.Go.KeepsFrom.up {B b:Nat} {W w:World} (h:KeepsFrom B W w) (k:B<=b):KeepsFrom b W w:=⟨h.size,fun q o c=>h.same q o (Nat.le_trans k c)⟩
def Kg (X:Z) (cb D:Nat) (ds:List Dr) (rem:List ByteArray):Prop:= ∃vd vr,Ee X cb vd vr/\AZ X D vd ds/\X.ownsRow D 9 1 vr rem.length (rem.map A)
theorem Wc {X:Z} {D n:Nat} {c d:G} {ds:List Dr} {g:List G} (h:AZ X D c ds) (i:X.ownsRow D 9 1 d n g) {j:Nat} (k:c.ownBlock=O j):d.ownBlock≠O j:=fun h2=>by
 obtain⟨-,-,l,f⟩:=AF h k;obtain⟨-,-,m,b⟩:=AF i h2;rw[f]at b;cases b
theorem PO {X:Z} {b D n:Nat} {d f g:G} {i:List G} (j:X.ownsRow D 9 1 d n i) (k:Ee X b f g):d.ownBlock≠O b:=fun h2=>by
 obtain⟨-,-,l,c⟩:=AF j h2;rw[show X.heap[b]? =_ from k]at c;cases c
theorem wN {W:Z} {q:Option Addr} {n c:Nat} {d:List ByteArray} (h:BS W (J q n c) d):CU W q n c (d.map A):=by
 by_cases e:d= []
 ·subst e;rcases h with⟨h,-⟩|⟨g,k,h,-,-⟩
  ·cases h;exact Qk ⟨rfl,fun _=>rfl⟩
  ·cases h;exact Qh ⟨_,_,rfl,fun j u hu=>by simp at hu⟩
 ·obtain⟨b,rfl,f⟩:=h.cells e;have:=lJ (n:=d.length) (c:=c) f;obtain⟨l,m,i⟩:=h.form;obtain⟨-,rfl,-⟩:=i;rw[List.take_length]at this;exact this
def Lj (W:Z) (cb:Nat) (obs:List Ob) (x:Sn) (nm:ByteArray) (ps:List ByteArray) (ds:List Dr) (rem:List ByteArray) (e:Ending) (w':Z):Prop :=
 BL W w'/\((∃t u,e=Qg (.iface t u))\/(e= .returned Qq/\Kg w' cb W.heap.size (ds++Ie obs x nm ps) (rem++ps)/\(Dx obs x ps= []\/Ed (Dx obs x ps))))
section
variable {a : Nat → Addr} {B : Nat} {EM : Z → Prop}
theorem wO (K:AJ a B EM A0) (HL:∀X,EM X->Bg X a) {W:Z} {kb:Nat} {vs:G} {SP:Nat->Prop} {hd:ByteArray} {vi vf:G} {k:Lk} (hE:EM W) (h:An W kb vs SP hd vi vf k) (hi:Ax k) {X:Z} (hb:BL W X) {i:Nat} (b3:W.heap.size<=i) {ds:List Dr} {z:List ByteArray} (hc:Kg X i W.heap.size ds z) (b4:ds.length<=900) (b5:z.length<=1000) {F:List Fl} {nm:ByteArray} (hF:∀f∈F,f∈k.now.2.2.2.2.2.2/\Ck f.1=false/\f.2.1=nm) (b6:F≠ []) (a8:F.length<=1000) {vp:G} (hp:BS W vp (F.map (·.1))) :
  Qr S 74 #[Qd (O ⟨kb,0,U⟩),Qd (O ⟨i,0,U⟩),vp] X (Lj W i k.st.obs k.now nm (F.map (·.1)) ds z):=by
 obtain⟨pt,rfl⟩:=h.ptr K;have ba:=Ju hi.now.fine;have al:=fun Y (hY:BL W Y)=>K.below _ _ hE (hY.mono (K.size _ hE));have aa:I _:=hb;have bb:(Bo k.st.obs k.now Bt Bu).2.1=0:=by rw[PK hi.now.fine hi.now.files]
 have bc:=wJ bb (F.map (·.1));have bd:(Bo k.st.obs (Ha k.now (k.now.2.2.2.2.2.2.filter fun f=> !C6 (F.map (·.1)) f)) Bt Bu).2.1=0:=by rw[bc]
 have au:=VG hi.now.fine fun f=> !C6 (F.map (·.1)) f;obtain⟨C,ae⟩:∃l,Dx k.st.obs k.now (F.map (·.1))=l:=⟨_,rfl⟩;have be:I ((∀r∈C,r.1.size<=30)/\C.length<=2400):=by
  have:=Wb (obs:=k.st.obs) (s:=Ha k.now (k.now.2.2.2.2.2.2.filter fun f=> !C6 (F.map (·.1)) f)) (lo:=Bt) (hi:=Bu);have e:(Bo k.st.obs (Ha k.now (k.now.2.2.2.2.2.2.filter fun f=> !C6 (F.map (·.1)) f)) Bt Bu).1=C:=ae;rw[e]at this;refine⟨fun r hr=>wM (this.1 r hr),Qz this.2 ?_⟩;have h1:(k.now.2.2.2.2.2.2.filter fun f=> !C6 (F.map (·.1)) f).length<=k.now.2.2.2.2.2.2.length:=List.length_filter_le _ _;show 40*(k.now.2.2.2.2.2.2.filter fun f=> !C6 (F.map (·.1)) f).length<=2400;omega
 have ab:=h;have bf:I (∀Y,BL W Y->Qr S 147 #[Qd (O pt),A9 k.now vf,vp] Y fun e w'=> ∃v',e=Qg (.tuple #[v',Qq])/\Ar w' v' C/\FQ Y v'/\BL Y w'):=fun Y hY=>by
  refine wG Y pt k.now vf (ab.fls.below hY) (by omega) ba.2 vp (F.map (·.1)) (hp.below hY) (by rw[Q9];exact a8) hi.now.fine (fun p hp'=>?_) C (FQ Y) (fun d hZ=>(HL d (al d (Ad hY hZ))).x.list) fun d v hZ hf=>?_
  ·obtain⟨f,hf,rfl⟩:=List.mem_map.1 hp';exact⟨f,(hF f hf).1,rfl,(hF f hf).2.1⟩
  ·have bg:=Ad hY hZ;obtain⟨q,c,hv⟩:=hf.form;subst hv;refine(V2 K HL (al d bg) (ab.quiet K bg).st hi.good.keeps au (q:=q) (c:=c) (-1073741824) 1073741824 d (Qs _ _) hf).mono ?_;rintro e w' ⟨v',ev,rfl,⟨v1,df,he,h1,h2,h3⟩,cv⟩;cases he
   rw[pU (by omega) (by omega) (show Bt<= -1073741824 by unfold Bt;omega) (show (1073741824:Int)<=Bu by unfold Bu;omega)]at h1 h2;have e1:=h2.ok bd;subst e1;refine⟨v',rfl,?_,(cv _ _ rfl).up hZ.size,h3⟩;rw[<-ae];exact h1
 obtain⟨f0,Fr,rfl⟩:∃f r,F=f :: r:=by cases F with | nil=>exact absurd rfl b6 | cons f r=>exact ⟨f,r,rfl⟩
 have am:=hF f0 List.mem_cons_self;obtain⟨E,ap,bt,bu⟩:=VS am.1;have bh:=uU (FY hi.now.fine).2 (QA _) am.1 bu;have bi:I (∀Y,BL W Y->Qr S 83 #[vf,A f0.1] Y fun e w'=>e=Qg (V Qa (E:Int))/\BL Y w'):=fun Y hY=>by
  have:=JT vf k.now.2.2.2.2.2.2 f0.1 Y (ab.fls.below hY) (by omega);rw[bt]at this;exact this
 have bj:I _:=fun Y D v vr ds vx (hY:BL W Y) (h1:Ee Y i v vr) (h2:AZ Y D v ds) (h3:D<=Y.heap.size) (h4:ds.length<=1000) (h5:Ar Y vx C)=>VF (HL Y (al Y hY)).f.data h1 h2 h3 h4 h5 (by have:=be.out.2;omega) be.out.1 nm;obtain⟨M,N,a9⟩:∃M N,∃q c,vf=J q k.now.2.2.2.2.2.2.length c/\q=O ⟨M,N,U⟩/\Fi W M N k.now.2.2.2.2.2.2:=by
  obtain⟨q,c,e⟩:=ab.fls.form;have hx:=ab.fls;rw[e]at hx;obtain⟨b,o,e2,e3⟩:=hx.cells (fun e=>by rw[e]at ap;simp at ap);exact⟨b,o,q,c,e,e2,e3⟩
 obtain⟨q,fc,rfl,rfl,bv⟩:=a9;have av:=bv E ap;rw[bh]at av;have b8:I _:=am.2.2;obtain⟨PS,af⟩:∃l,(f0 :: Fr).map (·.1)=l:=⟨_,rfl⟩;have aw:PS.length<=1000:=by rw[<-af,Q9];exact a8
 rw[af]at hp ae ⊢;obtain⟨pb,pc,cj,a4⟩:∃pb pc,vp=J (O ⟨pb,0,U⟩) PS.length pc/\W.cell? ⟨pb,0,U⟩=O (A f0.1):=by
  obtain⟨q,c,e⟩:=hp.form;have hx:=hp;rw[e]at hx;obtain⟨b,e2,e3⟩:=hx.cells (by rw[<-af];simp);refine⟨b,c,by rw[e,e2],?_⟩;subst af;exact e3 0 (by simp)
 subst cj;have bk:I _:=fun Y (hY:BL W Y)=>wN (hp.below hY);have ax:I (Ie k.st.obs k.now nm PS=if C= [] then [] else [Db nm C]):=by
  show (if Dx _ _ _= [] then [] else [Db nm (Dx _ _ _)])=_;rw[ae]
 have HQ:I _:=fun Y (hY:BL W Y)=>ab.quiet K hY;obtain⟨c0,-,-,-,c4,c5,c6,c7,c8,c9,a1,-⟩:=ab.blk.cells;have c3:(E:Int)<(k.now.2.2.2.2.2.2.length:Int):=by omega
 have HC:I _:=hc;have ay:I (ds.length<=900/\z.length<=1000/\PS.length<=1000):=⟨b4,b5,aw⟩;have bl:I _:=ae;have c2:0<PS.length:=by rw[<-af];simp
 clear af;obtain⟨p0,p1,p2,p3,p4,p5⟩:=f0;dsimp only at *;have en:p1=nm:=b8.out;subst en;obtain⟨d0,d1,d2,d3,d4,d5⟩:=av;have bm:BL X X.drew:=(Qs _ _).drew;clear hE h hi hb hc b4 b5 hF b6 a8 hp ba al bb bc bd au ae ab am bu bh ap bt bv aw;unfold A9 at bf;generalize k.now.2.2.2.2.2.2.length=FN at *;obtain⟨vd,vr,a5,ck,a6⟩:=HC.out;have HV:I (∀Y,BL X Y->Ee Y i vd vr/\AZ Y W.heap.size vd ds/\Y.ownsRow W.heap.size 9 1 vr z.length (z.map A)):=fun Y hY=>⟨(hY.block i (Qv a5)).trans a5,ck.below hY,AO (P:=fun _=>False) a6 (Ac.of_below hY) (fun _ _ h=>h)⟩;have bn:I (i<X.heap.size/\∀j,vr.ownBlock=O j->j<X.heap.size):=⟨Qv a5,fun j hj=>(AF a6 hj).2.1⟩;obtain⟨qr,nr,cr,cl⟩:∃q n c,vr=J q n c:=by
  rcases a6.2 with⟨e,-⟩|⟨g,dg,dh,e,-⟩
  ·exact⟨_,_,_,e⟩
  ·exact⟨_,_,_,e⟩
 have az:I _:=fun Y (hY:BL X Y)=>aa.out.trans (hY.mono aa.out.size);have c4:=Aa aa.out c4;have c5:=Aa aa.out c5;have c6:=Aa aa.out c6;have c7:=Aa aa.out c7;have c8:=Aa aa.out c8;have c9:=Aa aa.out c9;have a0:I _:=a1;have ac:I (W.cell? ⟨pb,0,U⟩=O (A p0)/\W.cell? ⟨M,N+E*6,U⟩=O (A p0)/\W.cell? ⟨M,N+E*6+1,U⟩=O (A p1)/\W.cell? ⟨M,N+E*6+2,U⟩=O (V Qa p2)/\W.cell? ⟨M,N+E*6+3,U⟩=O (V Qa p3)/\W.cell? ⟨M,N+E*6+4,U⟩=O (V Qa p4)/\W.cell? ⟨M,N+E*6+5,U⟩=O (V Qa p5)):=⟨a4,d0,d1,d2,d3,d4,d5⟩;have b9:=bf.out X.drew (az.out _ bm);have a1:=Aa aa.out a1;have c0:=Aa aa.out c0
 go_enter func74,ntmps74
 go_upto_region 1 with fail
 go_cut [7,8] from 10 to 23 (fun c7 c8 wx=>c8=Qq/\Ar wx c7 C/\FQ X c7/\BL X wx)
 case first =>
  clear HV az a0 ac ax bk bi bj HQ ay
  first
   | (go_region_with (go_at_call 147;(with_reducible refine b9.mono ?_);rintro e wZ ⟨v',rfl,cw,cy,cz⟩))
   | fail
  all_goals
   go_wp2;go_meet
   case rel=>exact ⟨rfl,cw,cy,(Ad bm cz)⟩
 case rest =>
 obtain⟨rfl,bw,bx,bz⟩:=hcut;obtain⟨qx,cx,cm⟩:=bw.form;subst cm;obtain⟨aq,b0,ar⟩:=HV.out wc bz;have an:=az.out wc bz;have k1:wc.cell? ⟨i,1,U⟩=O vr:=by rw[QB _ _ _ _ _ _ aq];rfl
 obtain⟨vn,R,hr,a7,ag⟩:=Un ar an.size (O ⟨pb,0,U⟩) PS.length pc rfl (bk.out wc an) (by have:=ay.out;omega);have a2:AZ R W.heap.size vd ds:=b0.but ag (fun j hj=>Wc b0 ar hj);have ad:Ee R i vd vr:=(ag.block i (Qv aq) (PO ar aq)).trans aq;have bo:BL W R:=an.trans (ag.below an.size (fun j hj=>Jb ar hj));have k2:R.cell? ⟨i,1,U⟩=O vr:=by rw[QB _ _ _ _ _ _ ad];rfl
 have kf:R.frozen? ⟨i,1,U⟩=false:=frozen_of_row _ _ _ _ _ ad;have b7:Ar R (J qx C.length cx) C:=bw.but ag (fun _ j hj e=>by have:=bn.out.2 j e;have:=bx j hj;omega);have y:I (Ar (R.setCell ⟨i,1,U⟩ vn) (J qx C.length cx) C/\Ee (R.setCell ⟨i,1,U⟩ vn) i vd vn/\AZ (R.setCell ⟨i,1,U⟩ vn) W.heap.size vd ds/\(R.setCell ⟨i,1,U⟩ vn).ownsRow W.heap.size 9 1 vn (z++PS).length ((z++PS).map A)/\BL W (R.setCell ⟨i,1,U⟩ vn)):=by
  have hs:Ac (fun j=>j=i) R (R.setCell ⟨i,1,U⟩ vn):=(Ac.refl (fun j=>j=i) R).setCell (Qk rfl) _;refine⟨b7.but hs (fun _ j hj e=>by have:=bn.out.1;have:=bx j hj;omega),?_,a2.but hs (fun j hj e=>VD a2 ad (e▸hj)),AO a7 hs (fun j hj e=>PO a7 ad (e▸hj)),bo.trans (hs.below bo.size (fun j hj=>by rw[hj];exact b3))⟩;unfold Ee at *;rw[heap_setCell_same _ _ _ _ _ _ ad];rfl
 obtain⟨qn,cn,co⟩:=(Iw a7).form;subst cl co;obtain⟨RL,b1⟩:∃n,(z++PS).length=n:=⟨_,rfl⟩;rw[b1]at hr y;have bp:I _:=b1;by_cases ah:C= []
 case pos =>
  have HP:I (Lj W i k.st.obs k.now p1 PS ds z (.returned Qq) (R.setCell ⟨i,1,U⟩ (J qn RL cn))):=by
   obtain⟨-,h1,h2,h3,h4⟩:=y.out;refine⟨h4,Qh ⟨rfl,⟨vd,_,h1,?_,by rw[bp.out];exact h3⟩,Qk (bl.out.trans ah)⟩⟩;rw[ax.out,if_pos ah,List.append_nil];exact h2
  subst ah
  go_wp2_with (at_builtin;refine wpList_append_run (by rfl) _ _ _ (by rfl) _ _ _ (by rfl) (by rfl) hr ?_)
  go_wp2;go_ret;exact HP.out
 case neg =>
 have ca:C.length≠0:=fun e=>ah (List.length_eq_zero_iff.1 e);have cc:I _:=ah;have da:I (C.length=C.length):=rfl;obtain⟨L,hL⟩:∃L,C.length=L:=⟨_,rfl⟩;rw[hL]at ca ⊢;have cd:I _:=hL;have db:¬(L:Int)=0:=by omega
 go_wp2_with (at_builtin;refine wpList_append_run (by rfl) _ _ _ (by rfl) _ _ _ (by rfl) (by rfl) hr ?_)
 have ce:=Aa y.out.2.2.2.2 a0.out;have y0:=Aa y.out.2.2.2.2 ac.out.1;have f0:=Aa y.out.2.2.2.2 ac.out.2.1;have f1:=Aa y.out.2.2.2.2 ac.out.2.2.1;have f2:=Aa y.out.2.2.2.2 ac.out.2.2.2.1;have f3:=Aa y.out.2.2.2.2 ac.out.2.2.2.2.1;have f4:(R.setCell ⟨i,1,U⟩ (J qn RL cn)).cell? ⟨M,N+E*6+4,U⟩=O (V Qa p4):=Aa y.out.2.2.2.2 ac.out.2.2.2.2.2.1;have f5:(R.setCell ⟨i,1,U⟩ (J qn RL cn)).cell? ⟨M,N+E*6+5,U⟩=O (V Qa p5):=Aa y.out.2.2.2.2 ac.out.2.2.2.2.2.2
 go_upto_region 7 with fail
 clear k1 k2 kf;generalize R.setCell ⟨i,1,U⟩ (J qn RL cn)=W3 at *;have cf:I (∀Y,BL W3 Y->Qr S 83 #[J (O ⟨M,N,U⟩) FN fc,A p0] Y fun e w'=>e=Qg (V Qa (E:Int))/\BL Y w'):=fun Y hY=>bi.out Y (y.out.2.2.2.2.trans (hY.mono y.out.2.2.2.2.size));have dc:BL W3 W3:=Qs _ _;have aj:=BD ce;have ak:=BD y0;have T:=BD f0;have dd:(0:Int)<=(E:Int):=by omega
 have de:(0:Int)<(PS.length:Int):=by omega
 go_cut [9] from 37 to 53 (fun c9 wx=> ∃xb,c9=Qd (O ⟨xb,0,U⟩)/\Az wx xb (p0,p1,p2,p3,p4,p5)/\BL W3 wx)
 case first =>
  go_region_held3 (fun w'=>BL W3 w'/\w'.cell? ⟨kb,10,U⟩=O (J (O ⟨M,N,U⟩) FN fc)/\w'.cell? ⟨pb,0,U⟩=O (A p0)/\w'.cell? ⟨M,N+E*6,U⟩=O (A p0)/\w'.cell? ⟨M,N+E*6+1,U⟩=O (A p1)/\w'.cell? ⟨M,N+E*6+2,U⟩=O (V Qa p2)/\w'.cell? ⟨M,N+E*6+3,U⟩=O (V Qa p3)/\w'.cell? ⟨M,N+E*6+4,U⟩=O (V Qa p4)/\w'.cell? ⟨M,N+E*6+5,U⟩=O (V Qa p5))
   (first
    | (go_split_ands;with_reducible exact⟨Below.trans (by with_reducible assumption) (Q.mono (Qw (by with_reducible assumption))),Aa Q (by with_reducible assumption),Aa Q (by with_reducible assumption),Aa Q (by with_reducible assumption),Aa Q (by with_reducible assumption),Aa Q (by with_reducible assumption),Aa Q (by with_reducible assumption),Aa Q (by with_reducible assumption),Aa Q (by with_reducible assumption)⟩)
    | (go_split_ands;with_reducible exact⟨Lc (by with_reducible assumption) m m,(Dj (by with_reducible assumption) (Qb aj m)),(Dj (by with_reducible assumption) (Qb ak m)),(Dj (by with_reducible assumption) (Qb T m)),(Dj (by with_reducible assumption) (Qb T m)),(Dj (by with_reducible assumption) (Qb T m)),(Dj (by with_reducible assumption) (Qb T m)),(Dj (by with_reducible assumption) (Qb T m)),(Dj (by with_reducible assumption) (Qb T m))⟩)
    | (go_split_ands;with_reducible refine⟨Vp (by with_reducible assumption) ?_,G7 (by with_reducible assumption) ?_,G7 (by with_reducible assumption) ?_,G7 (by with_reducible assumption) ?_,G7 (by with_reducible assumption) ?_,G7 (by with_reducible assumption) ?_,G7 (by with_reducible assumption) ?_,G7 (by with_reducible assumption) ?_,G7 (by with_reducible assumption) ?_⟩;all_goals first | exact m | exact Qi _ | exact Qm aj | exact Qm ak | exact Qm T | exact Qm (Qb aj m) | exact Qm (Qb ak m) | exact Qm (Qb T m))
    | (go_split_ands;with_reducible refine⟨QC (by with_reducible assumption),?_,?_,?_,?_,?_,?_,?_,?_⟩;all_goals go_keep)
    | (go_split_ands;with_reducible refine⟨QD (by with_reducible assumption) (Qw (by with_reducible assumption)) _,?_,?_,?_,?_,?_,?_,?_,?_⟩;all_goals go_keep)
    | (go_split_ands;with_reducible refine⟨QC (QD (by with_reducible assumption) (Qw (by with_reducible assumption)) _),?_,?_,?_,?_,?_,?_,?_,?_⟩;all_goals go_keep)
    | (go_split_ands;with_reducible exact⟨by assumption,by assumption,by assumption,by assumption,by assumption,by assumption,by assumption,by assumption,by assumption⟩))
   (first | (go_at_call 83;with_reducible refine(cf.out _ (by go_split_ands;with_reducible assumption)).mono ?_;rintro e wX ⟨rfl,Q⟩;have m:W3.heap.size<=wX.heap.size:=(by go_split_ands;exact Qz (Qw (by with_reducible assumption)) Q.size);first | (with_reducible have ao:=Az.below (Vm _) Q;obtain⟨y0,y1,y2,y3,y4,y5,yf⟩:=ao.cells) | (with_reducible have ao:=Az.below (Vl _) Q;obtain⟨y0,y1,y2,y3,y4,y5,yf⟩:=ao.cells) | skip))
  all_goals go_split_ands
  all_goals go_wp2
  all_goals go_meet
  all_goals first
   | (with_reducible exact⟨_,rfl,Vo _ _ _ _ _ _ _,by assumption⟩)
   | (with_reducible exact⟨_,rfl,Vn ao _ _ _ _ _ _,by assumption⟩)
 case rest =>
 obtain⟨xb,rfl,cp,ai⟩:=hcut;obtain⟨cq,b2,cs,ct,cu⟩:=y.out;have a3:=Ad cu ai;have bq:=(ai.block i (Qv b2)).trans b2;have br:=cs.below ai;have cg:=AO (P:=fun _=>False) ct (Ac.of_below ai) (fun _ _ h=>h);have bs:=bj.out wc W.heap.size vd (J qn RL cn) ds (J qx C.length cx) a3 bq br a3.size (by have:=ay.out.1;omega) (cq.below ai);rw[cd.out]at bs;have ch:=cp.cells.2.1
 try dsimp only at ch
 have H4:I (Ee wc i vd (J qn RL cn)/\AZ wc W.heap.size vd ds/\wc.ownsRow W.heap.size 9 1 (J qn RL cn) RL ((z++PS).map A)/\BL W wc):=⟨bq,br,cg,a3⟩
 go_wp2_with fail
 refine bs.mono ?_;rintro e w6 c1;rcases c1 with⟨g0,rfl,v6,g1,g2,g3⟩|⟨-,⟨t,u,rfl⟩,g3⟩
 case inl =>
  have HP:I (Lj W i k.st.obs k.now p1 PS ds z (.returned Qq) w6):=by
   obtain⟨h1,h2,h3,h4⟩:=H4.out;have ci:=fun j (hj:(j=i\/vd.ownBlock=O j))=>hj.elim (fun e=>e▸b3) (fun e=>Jb h2 e);refine⟨h4.trans (g3.below h4.size ci),Qh ⟨rfl,⟨v6,_,g1,?_,?_⟩,Qh (by rw[bl.out];exact g0)⟩⟩
   ·rw[ax.out,if_neg cc.out];exact g2
   ·rw[bp.out];exact AO h3 g3 (fun j hj e=>e.elim (fun e=>PO h3 h1 (e▸hj)) (fun e=>Wc h2 h3 e hj))
  go_wp2;go_ret;exact HP.out
 case inr =>
  have HP:I (Lj W i k.st.obs k.now p1 PS ds z (Qg (.iface t u)) w6):=⟨H4.out.2.2.2.trans (g3.mono H4.out.2.2.2.size),Qk ⟨t,u,rfl⟩⟩;go_wp2;go_ret;exact HP.out
end
end Go.Proofs.YtcllhobffhkafaaGreatDoor
namespace Go.Proofs.YtcllhobffhkafaaGreatDoor
open Go.RowKit
def wP (B:Nat) (Kp:Z->Z->Prop) (b:Z->Prop) (W:Z):Exit->Act->Z->Prop
 | .normal,_,W'=>Q0 B W W'/\Kp W W'/\b W'
 | _,_,_=>False
def PP {α:Type} (n gf:Nat) (lb:Array G) (encs:α->Array G) (Ex:List α->α->Z->Prop) (Kp:Z->Z->Prop) (b:List α->Prop) (w:Z):Prop :=
 ∀(l:Nat) (c:List α->Z->Prop) (W:Z),BL w W->Q1 W.heap.size c->(∀pre x W1,c pre W1->Ex pre x W1->YieldAt Qe (n-1) S l (encs x) W1 fun e W'=>e=Qg (.bool true)/\c (pre++ [x]) W'/\Kp W1 W'/\Q0 W.heap.size W1 W')->c [] W ->
  Q2 Qe n S gf (#[.func (.yield l) #[] #[]]++lb) W fun e W'=>(∃v,e=Qg v)/\∃xs,b xs/\c xs W'
theorem Wd {α:Type} {n:Nat} {g:Operand} {ps:Array Tmp} {assign body:Code} {Q:Exit->Act->Z->Prop} {a:Act} {w:Z} {gf:Nat} {lb:Array G} (q:a.eval g= .func (.func gf) #[] lb) (eg:∀args w,(callFunc gf args).run S w= .ok (.enter gf args) w) {m:α->Array G} (am:∀x,(m x).size=ps.size) {Ex:List α->α->Z->Prop} {z:Z->Z->Prop} {c:List α->Prop} (ai:PP (n-1) gf lb m Ex z c w)
  (ae:∀ {d B C:Z},z d B->z B C->z d C) (af:∀(W:Z) (l:Nat) (o o':Obj),w.heap.size<=l->W.heap[l]? =O o->o.isCells=false->z W (W.putObj l o')) (an:∀pre x,Q1 w.heap.size (fun (_:Unit) W=>Ex pre x W))
  (b:List α->Z->Prop) (E:Q1 w.heap.size b) (h0:b [] w) (a₁:α->Act)
  (F:∀(l:Nat) (x:α) (W:Z) (K:Act->Z->Prop),K (a₁ x) W->assign.wpIn (Fence.wide.inRound l) (n-1-1) S (Exit.then K (fun _ _ _=>False)) { tmps:=(ps.zip (m x)).foldl (fun t (p,v)=>t.setIfInBounds p v) a.tmps,defers:= [] } W)
  (aa:∀(l:Nat) (pre:List α) (x:α) (W:Z),w.heap.size<=l->(∃r,W.heap[l]? =O (.loop r))->b pre W->Ex pre x W->body.wpIn (Fence.wide.inRound l) (n-1-1) S (wP w.heap.size z (b (pre++ [x])) W) (a₁ x) W)
  (ab:∀(D:Nat) (xs:List α) (W:Z),w.heap.size<=D->c xs->b xs W->W.heap[D]? =O (Qc (O []))->Q .normal { a with defers:= { target:=.collected D,args:=#[] } :: a.defers } W) :
  (Code.rangeFunc g ps assign body).wpIn Qe n S Q a w:=by
 refine wpIn_rangeFunc fun fn hfn=>?_;obtain⟨f,i⟩:∃f:LoopState->Loop,f=fun st=> { state:=st,pending:=U,fn,tmps:=a.tmps,params:=ps,assign,body,defers:=w.heap.size } :=⟨_,rfl⟩;have L:(Instr.enterLoop fn a.tmps ps assign body U).run S w= .ok (w.heap.size+1, [{ target:=.collected w.heap.size,args:=#[] }]) ((w.alloc (Qc (O []))).alloc (.loop (f .ready))):=by rw[i];exact run_enterLoop_outer _ _ _ _ _
 have u:((w.alloc (Qc (O []))).alloc (.loop (f .ready))).heap[w.heap.size+1]? =O (.loop (f .ready)):=by
  have:=QE (w.alloc (Qc (O []))) (.loop (f .ready))
  rwa [World.size_alloc]at this
 have M:((w.alloc (Qc (O []))).alloc (.loop (f .ready))).heap[w.heap.size]? =O (Qc (O [])):=(QF _ _ _ (by simp)).trans (QE w _);have ac:b [] ((w.alloc (Qc (O []))).alloc (.loop (f .ready))):=E.alloc _ (E.alloc _ h0);have ad:BL w ((w.alloc (Qc (O []))).alloc (.loop (f .ready))):=((Qs _ w).alloc (Qi _) _).alloc (by simp) _;have aj:w.heap.size+2<=((w.alloc (Qc (O []))).alloc (.loop (f .ready))).heap.size:=by simp
 generalize (w.alloc (Qc (O []))).alloc (.loop (f .ready))=y at L u M ac ad aj;refine⟨w.heap.size+1, [{ target:=.collected w.heap.size,args:=#[] }],y, { target:=.fn (.func gf) lb,args:=#[.func (.yield (w.heap.size+1)) #[] #[]] },y,gf,#[.func (.yield (w.heap.size+1)) #[] #[]]++lb,y,L,?_,fun _ _=>trivial,?_,(fun h=>by cases h),?_⟩
 ·simp only[resolve,q];simp[go_sem]
 ·simp[invoke,go_sem,eg]
 have N:∀ {d B:Z} {row:Option Nat} {k:Nat} {o:Obj},d.grownBy B row->(∀r,row=O r->y.heap.size<=r/\∃o:Obj,d.heap[r]? =O o/\o.isCells=false)->k<w.heap.size+2->d.heap[k]? =O o->B.heap[k]? =O o:=fun q hr hk ho=>(q.block _ (Qt.1 ho).1 (fun e=>by have:=(hr _ e.symm).1;omega)).trans ho;have R:∀(X:Z) (l:Nat) (o:Obj),l=w.heap.size+1->Q0 y.heap.size X (X.putObj l o):=fun X l o hl=>⟨by simp[World.putObj],fun k o' hB hk _=>(Qx (by omega)).trans hk⟩;refine(ai (w.heap.size+1) (fun xs W=>b xs W/\W.heap[w.heap.size+1]? =O (.loop (f .ready))/\W.heap[w.heap.size]? =O (Qc (O []))) y ad
  (fun s d B row hs q hr=>⟨E s d B row hs.1 q (fun r e=>⟨by have:=(hr r e).1;omega,(hr r e).2⟩),N q hr (by omega) hs.2.1,N q hr (by omega) hs.2.2⟩) ?yield ⟨ac,u,M⟩).mono ?_
 case yield =>
  rintro pre x W ⟨h1,j,h3⟩ hx;have ak:w.heap.size+1<W.heap.size:=(Qt.1 j).1;have hy:=run_yield (P:=S) (args:=m x) j (by rw[i];exact am x);rw[i]at hy;refine⟨fn,_,assign,body,hy,roundIn_of_wpIn hfn (F _ x W _ ⟨_,run_beginRound j (by rw[i]),?_⟩)⟩;have e2:(W.putObj (w.heap.size+1) (.loop { f .ready with state:=.busy })).heap[w.heap.size+1]? =O (.loop { f .ready with state:=.busy }):=QG ak;have e3:(W.putObj (w.heap.size+1) (.loop { f .ready with state:=.busy })).heap[w.heap.size]? =O (Qc (O [])):=(Qx (by omega)).trans h3;refine wpIn_mono (aa _ pre x _ (by omega) ⟨_,e2⟩ (E.putObj _ h1 (by omega) j rfl) ((an pre x).putObj (s:=()) _ hx (by omega) j rfl)) ?_;intro e a3 W3 hp
  cases e with
  | normal =>
   obtain⟨T,ah,al⟩:=hp;have Y:=T.same _ _ (by omega) e2 rfl;have ag:=run_endRound (P:=S) U Y;refine⟨_,_,ag,rfl,⟨E.putObj _ al (by omega) Y rfl,?_,(Qx (by omega)).trans (T.same _ _ (Qi _) e3 rfl)⟩,ae (ae (af _ _ _ _ (by omega) j rfl) ah) (af _ _ _ _ (by omega) Y rfl),(KeepsFrom.trans ((R _ _ _ rfl).trans (T.up (by omega))) (R _ _ _ rfl))⟩;rw[QG (Qt.1 Y).1,i];rfl
  | _=>exact hp.elim
 rintro e W2 ⟨⟨v,rfl⟩,xs,hS,h1,j,h3⟩;exact⟨U,_,by have:=run_endLoop (P:=S) j (by rw[i];simp);rw[i]at this;exact this,ab _ xs _ (Qi _) hS (E.putObj _ h1 (by omega) j rfl) ((Qx (by omega)).trans h3)⟩
end Go.Proofs.YtcllhobffhkafaaGreatDoor
namespace Go.Proofs.YtcllhobffhkafaaGreatDoor
open Go.RowKit Go.Extern.Stop Go.Stop Go.Extern Go.Sort Go.Shelf Go.Lib
theorem Tryz.zeroRows (w:Z):(zeroValue 35).run S w= .ok (J U 0 0) w:=by kernel_rfl
theorem CX.look {W:Z} {base f:Nat} {p:Rw->ByteArray} {ys:List Rw} {D:Qn Unit} {g:List UInt8->G} (h:CX W base f p ys D g) (b:ByteArray) (j:b.size<=Qu) :
  (Instr.lookup 163 (.map (O f)) (A b) false).run S W= .ok (g b.data.toList) W:=by
 obtain⟨v,k,c,d⟩:=h.map.lookup (QH Qo) Q3 (Tryz.zeroRows W) (zd:=.nil) (zp:= []) rfl (QI Qo j);have i:=TH d;subst i;rw[c,TI d (h.hd b.data.toList)]
end Go.Proofs.YtcllhobffhkafaaGreatDoor
namespace Go.Proofs
open Go.Shelf
def Tryz.keysIt_ren:Go.Shelf.Ren:=⟨fun | 7=>189 | 10=>277 | n=>n,fun | 23=>163 | 26=>9 | 3=>35 | 28=>224 | 0=>0 | 27=>223 | 33=>116 | 4=>4 | n=>n,fun | n=>n⟩
theorem Tryz.keysIt:Go.Proofs.SlLaysZ.n7 S keysIt_ren:= { lays172 with
 mixed:=by kernel_rfl
 f7:=⟨Tryz.f189.name,by decide,Tryz.lq func189 (by kernel_rfl)⟩
 f10:=⟨Tryz.f277.name,by decide,Tryz.lq func277 (by kernel_rfl)⟩
 t23:=Q3
 a23:=isAgg163
 z23:=sizeOf163
 v23:=zeroValue163
 t26:=Qo
 a26:=isAgg9
 z26:=sizeOf9
 v26:=QJ
 t27:=underlying223
 a27:=isAgg223
 z27:=sizeOf223
 v27:=zeroValue223
 t28:=underlying224
 a28:=isAgg224
 z28:=sizeOf224
 v28:=zeroValue224
 t33:=underlying116
 a33:=isAgg116
 z33:=sizeOf116
 v33:=zeroValue116 }
def Tryz.sortedIt_ren:Go.Shelf.Ren:=⟨fun | 6=>166 | 8=>256 | 9=>87 | 11=>323 | 13=>99 | 12=>164 | 23=>181 | 24=>182 | 14=>248 | 15=>249 | 16=>250 | 17=>251 | 18=>252 | 19=>253 | 20=>168 | 21=>254 | 22=>255 | 25=>320 | 26=>264 | 27=>265 | 28=>321 | 29=>322 | 30=>258 | 31=>360 | n=>n,fun | 26=>9 | 28=>224 | 24=>82 | 0=>0 | 3=>3 | 37=>159 | 48=>229 | 50=>242 | 4=>4 | 40=>235 | 39=>234 | 45=>90 | 5=>5 | 9=>9 | 51=>299 | 55=>303 | 57=>351 | 58=>267 | 33=>116 | n=>n,fun | n=>n⟩
theorem Tryz.sortedIt:Go.Proofs.SlLaysZ.n6 S sortedIt_ren:= { keysIt with
 mixed:=by kernel_rfl
 f6:=⟨Tryz.f166.name,by decide,Tryz.lq func166 (by kernel_rfl)⟩
 f8:=⟨Tryz.f256.name,by decide,Tryz.lq func256 (by kernel_rfl)⟩
 f11:=⟨Tryz.f323.name,by decide,Tryz.lq func323 (by kernel_rfl)⟩
 t24:=Q4
 a24:=Q5
 z24:=Q6
 v24:=Q7
 i26:=by kernel_rfl }
def Tryz.sortIt_ren:Go.Shelf.Ren:=⟨fun | 6=>87 | 8=>99 | 9=>164 | 19=>181 | 20=>182 | 21=>248 | 22=>249 | 23=>250 | 24=>251 | 25=>252 | 26=>253 | 27=>168 | 28=>254 | 29=>255 | 36=>320 | 31=>264 | 32=>265 | 37=>321 | 38=>322 | 39=>258 | 41=>360 | n=>n,fun | 27=>82 | 29=>9 | 3=>3 | 32=>159 | 26=>82 | 0=>0 | 44=>229 | 46=>242 | 4=>4 | 36=>235 | 35=>234 | 41=>90 | 5=>5 | 9=>9 | 53=>299 | 57=>303 | 63=>351 | 64=>267 | n=>n,fun | n=>n⟩
theorem Tryz.sortIt:Go.Proofs.SlLaysM.n6 S sortIt_ren:= { lays172 with
 mixed:=by kernel_rfl
 f6:=⟨Tryz.f87.name,by decide,Tryz.lq func87 (by kernel_rfl)⟩
 f8:=Tryz.lq func99 (by kernel_rfl)
 f9:=⟨Tryz.f164.name,by decide,Tryz.lq func164 (by kernel_rfl)⟩
 f19:=Tryz.lq func181 (by kernel_rfl)
 f20:=Tryz.lq func182 (by kernel_rfl)
 f21:=⟨Tryz.f248.name,by decide,Tryz.lq func248 (by kernel_rfl)⟩
 f22:=⟨Tryz.f249.name,by decide,Tryz.lq func249 (by kernel_rfl)⟩
 f23:=⟨Tryz.f250.name,by decide,Tryz.lq func250 (by kernel_rfl)⟩
 f24:=⟨Tryz.f251.name,by decide,Tryz.lq func251 (by kernel_rfl)⟩
 f25:=⟨Tryz.f252.name,by decide,Tryz.lq func252 (by kernel_rfl)⟩
 f26:=⟨Tryz.f253.name,by decide,Tryz.lq func253 (by kernel_rfl)⟩
 f27:=⟨Tryz.f168.name,by decide,Tryz.lq func168 (by kernel_rfl)⟩
 f28:=⟨Tryz.f254.name,by decide,Tryz.lq func254 (by kernel_rfl)⟩
 f29:=⟨Tryz.f255.name,by decide,Tryz.lq func255 (by kernel_rfl)⟩
 f31:=Tryz.lq func264 (by kernel_rfl)
 f32:=Tryz.lq func265 (by kernel_rfl)
 f36:=⟨Tryz.f320.name,by decide,Tryz.lq func320 (by kernel_rfl)⟩
 f37:=⟨Tryz.f321.name,by decide,Tryz.lq func321 (by kernel_rfl)⟩
 f38:=⟨Tryz.f322.name,by decide,Tryz.lq func322 (by kernel_rfl)⟩
 f39:=⟨Tryz.f258.name,by decide,Tryz.lq func258 (by kernel_rfl)⟩
 f41:=⟨Tryz.f360.name,by decide,Tryz.lq func360 (by kernel_rfl)⟩
 t26:=Q4
 a26:=Q5
 z26:=Q6
 v26:=Q7
 t27:=Q4
 a27:=Q5
 z27:=Q6
 v27:=Q7
 t29:=Qo
 a29:=isAgg9
 z29:=sizeOf9
 v29:=QJ
 t32:=underlying159
 a32:=isAgg159
 z32:=sizeOf159
 v32:=zeroValue159
 t35:=underlying234
 a35:=isAgg234
 z35:=sizeOf234
 v35:=zeroValue234
 t36:=underlying235
 a36:=isAgg235
 z36:=sizeOf235
 v36:=zeroValue235
 t41:=underlying90
 a41:=isAgg90
 z41:=sizeOf90
 v41:=zeroValue90
 t44:=underlying229
 a44:=isAgg229
 z44:=sizeOf229
 v44:=zeroValue229
 t46:=underlying242
 a46:=isAgg242
 z46:=sizeOf242
 v46:=zeroValue242
 t53:=underlying299
 a53:=isAgg299
 z53:=sizeOf299
 v53:=zeroValue299
 t57:=underlying303
 a57:=isAgg303
 z57:=sizeOf303
 v57:=zeroValue303
 t63:=underlying351
 a63:=isAgg351
 z63:=sizeOf351
 v63:=zeroValue351
 t64:=underlying267
 a64:=isAgg267
 z64:=sizeOf267
 v64:=zeroValue267 }
end Go.Proofs
namespace Go.Proofs.YtcllhobffhkafaaGreatDoor
open Go.RowKit Go.Maps Go.Sort Go.Shelf
theorem Tryz.sortsIt (m:Nat):AnyZ.SortsIn S sortedIt_ren Qe m :=
 ⟨fun blk off cap ss W hH hblk hsz=>Qp.2 (AnyM.slices_Sort_string sortIt blk off cap ss W hH hblk hsz),
  fun p cap W=>Qp.2 (AnyM.slices_Sort_string_none sortIt p cap W)⟩
theorem Tryz.mapsKeys (b:Option Nat) (W:Z):Q2 Qe 5 S 189 #[.map b] W fun e w'=>e=Qg (.func (.func 277) #[] #[Qd (O ⟨W.heap.size,0,U⟩)])/\w'=W.alloc (Qf #[.map b] 163) :=
 AnyZ.keys_in keysIt Qe 5 trivial rfl b W
theorem Tryz.sortedKeys {H:Type} (b m:Nat) (c:Qn H) (R:G->Option (Qn H×List MemPlace)) (w:Z) (f:w.ownsMap S 9 R b m c) (k:Qj c<=Qu) (g:Qj c*16<=140737488355328) :
  Q2 Qe 5 S 166 #[.func (.func 277) #[] #[Qd (O ⟨w.heap.size,0,U⟩)]] (w.alloc (Qf #[.map (O b)] 163)) fun e w'=> ∃(v:G) (d:List (List UInt8)),e=Qg v/\d.Perm (strKeys c) /\
   w'.ownsRow (w.alloc (Qf #[.map (O b)] 163)).heap.size 9 1 v d.length ((d.mergeSort (fun x y=>decide (x<=y))).map encStr)/\(v=J U 0 0↔d= [])/\Below (w.alloc (Qf #[.map (O b)] 163)).heap.size (w.alloc (Qf #[.map (O b)] 163)) w':=by
 have l:=f.lt;have j:SeqGives Qe 2 S 277 #[Qd (O ⟨w.heap.size,0,U⟩)] encStr (fun d=>d.Perm (strKeys c)) (Qj c) (w.alloc (Qf #[.map (O b)] 163)) :=
  AnyZ.keys_gives (ρ:=keysIt_ren) { keysIt with } Qe _ trivial rfl (by omega) w.heap.size b m c _ (by simp) (by simp) (by
   obtain⟨n,i,o,p,q,r⟩:=f;exact⟨n,i,(QF _ _ b l).trans o,p,q,r⟩)
 exact AnyZ.sorted_in sortedIt Qe 5 trivial trivial trivial trivial rfl (by omega) (Tryz.sortsIt _) (enters_of func87 (by kernel_rfl) rfl) 277 #[Qd (O ⟨w.heap.size,0,U⟩)] trivial (enters_of func277 (by kernel_rfl) rfl) _ _ k g _ j
end Go.Proofs.YtcllhobffhkafaaGreatDoor
namespace Go.Proofs.YtcllhobffhkafaaGreatDoor
open Go.RowKit Go.Extern.Stop Go.Stop Go.Extern Go.Sort Go.Shelf Go.Lib
attribute [local go_sem] Qy
def He (B:Nat) (W W':Z):Prop :=
 W.heap.size<=W'.heap.size/\∀k,k<W.heap.size->(k<B\/∃cs t fz,W.heap[k]? =O (Qf cs t fz)/\(t=9\/t=163))->W'.heap[k]? =W.heap[k]?
theorem He.refl (B:Nat) (W:Z):He B W W:=⟨Qi _,fun _ _ _=>rfl⟩
theorem He.trans {B:Nat} {b C E:Z} (h:He B b C) (k:He B C E):He B b E :=
 ⟨Qz h.1 k.1,fun i hi c=>by
  have e:=h.2 i hi c;rw[<-e];refine k.2 i (Qb hi h.1) ?_;rcases c with c | ⟨d,t,f,g,j⟩
  ·exact Qk c
  ·exact Qh ⟨d,t,f,e.trans g,j⟩⟩
theorem PR {W b:Z} (h:BL W b):W.grownBy b U:=⟨h.os,h.tape,h.output,h.size,fun k hk _=>h.block k hk⟩
theorem wQ {W:Z} {f k:Nat} {D:Qn Unit} {g:List UInt8->G} (h:W.ownsMap S 9 Ce f k D) (i:∀nm,Ce (g nm)=O (D.atKey (.string nm) .nil, [])) (b:ByteArray) (l:b.size<=Qu) :
  (Instr.lookup 163 (.map (O f)) (A b) false).run S W= .ok (g b.data.toList) W:=by
 obtain⟨v,m,c,d⟩:=h.lookup (QH Qo) Q3 (Tryz.zeroRows W) (zd:=.nil) (zp:= []) rfl (QI Qo l);have j:=TH d;subst j;rw[c,TI d (i b.data.toList)]
theorem We (D:Qn Unit) (h:Maps.IsMap D):(strKeys D).length=Qj D:=by
 obtain⟨b,rfl⟩:=h;simp[strKeys,Qj]
theorem wR (f n B Y:Nat) (g:Qn Unit) (hv:List UInt8->G) (w:Z) (aa:w.ownsMap S 9 Ce f Y g) (a2:∀nm,Ce (hv nm)=O (g.atKey (.string nm) .nil, []))
  (am:∀nm∈strKeys g,nm.length<=1000) (a6:Qj g<=1000) (a3:f<B) (ad:w.heap[n]? =O (Qf #[.map (O f)] 163 (0,0))) :
  SeqStopsK Qe 8 S 188 #[Qd (O ⟨n,0,U⟩)] (fun nm:List UInt8=>#[encStr nm,hv nm]) (He B) (fun xs=> ∃ss:List (List UInt8),ss.Perm (strKeys g)/\xs=ss.mergeSort (fun x y=>decide (x<=y))) (fun _=>True) (Qj g) w:=by
 intro l b Jx W hW hJ bb hY h0;have E:=(Qt.1 ad).1;have F:=(hW.block n E).trans ad;have j:W.ownsMap S 9 Ce f Y g:=by
  have K:=aa.lt;obtain⟨C,d,Q,r⟩:=aa;exact⟨C,d,(hW.block f K).trans Q,r⟩
 have an:W.cell? ⟨n,0,U⟩=O (.map (O f)):=by simp[Q8,F]
 refine QK func188 rfl trivial ?_ rfl;simp only[ntmps188,QL,QM,QN,QO,QP,QQ,QR,QS,QT,QU,QV];have a7:Fence.wide.fn 189:=trivial;have a8:Fence.wide.fn 166:=trivial
 gi_wp2_with (first
  | (gi_at_call 189;refine(Qp.2 (Qp.1 (Tryz.mapsKeys _ _))).mono ?_;rintro e w' ⟨rfl,rfl⟩)
  | (gi_at_call 166;refine(Qp.2 (Qp.1 (Tryz.sortedKeys f Y g Ce W j (by unfold Qu;omega) (by omega)))).mono ?_;rintro e X ⟨sv,ss,rfl,hS,m,ak,az⟩;obtain⟨sq,sc,rfl⟩:=CY m))
 have o:(ss.mergeSort (fun x y=>decide (x<=y))).length=ss.length:=List.length_mergeSort _;have L:ss.length=Qj g:=by
  rw[hS.length_eq];refine We g ?_;obtain⟨C,d,_,_,_,e⟩:=j;exact⟨_,e⟩
 have ao:I _:=hS;obtain⟨c,R⟩:∃c,ss.mergeSort (fun x y=>decide (x<=y))=c:=⟨_,rfl⟩;have ap:I _:=R.symm;have ae:∀t∈c,t.length<=1000:=fun t ht=>am t (hS.mem_iff.1 ((List.mergeSort_perm _ _).mem_iff.1 (by rw[R];exact ht)));rw[R]at m o;obtain⟨M,hM⟩:∃M,ss.length=M:=⟨_,rfl⟩;rw[hM]at m o L ak ⊢;have N:I _:=o;have aq:I _:=L;have a9:M<=1000:=by omega
 clear o hM hS L;have ar:BL W (W.alloc (Qf #[.map (O f)] 163)):=Af _ _;have p:=Ad ar az;have au:=hJ [] W X U h0 (PR p) (fun r e=>by cases e);have q:=Qb E hW.size;have P:=(p.block n q).trans F;have af:=j.lt;have s:X.ownsMap S 9 Ce f Y g:=by
  obtain⟨C,d,Q,r⟩:=j;exact⟨C,d,(p.block f af).trans Q,r⟩
 have u:I (f<X.heap.size/\n<X.heap.size):=⟨s.lt,Qb q p.size⟩;have ag:I _:=m
 gi_loopw [9] (fun i wr=> ∃k:Nat,k<=M/\i=V Qa k/\b (c.take k) wr/\He B X wr) (fun i _=>M-(intOf i).toNat)
 case atStart=>exact ⟨0,QW _,rfl,by simpa using au,He.refl _ _⟩
 case round =>
  obtain⟨k,hk,rfl,T,z⟩:=hrel;by_cases K:k<M
  ·have ac:k<c.length:=by rw[N.out];exact K
   have av:c.take (k+1)=c.take k++ [c[k]]:=by rw[List.take_append_getElem ac]
   have ba:=ae c[k] (QA _);obtain⟨fn,tmps,assign,body,hy,hR⟩:=hY (c.take k) c[k] wr T (by rw[List.length_take,N.out,<-aq.out];omega);have ah:wr.ownsMap S 9 Ce f Y g:=by
    have:=z.2 f u.out.1 (Qk a3);obtain⟨C,d,Q,r⟩:=s;exact⟨C,d,this.trans Q,r⟩
   have ai:=(z.2 n u.out.2 (Qh ⟨_,_,_,P,Qh rfl⟩)).trans P;have an:wr.cell? ⟨n,0,U⟩=O (.map (O f)):=by simp[Q8,ai]
   have a4:(Instr.lookup 163 (.map (O f)) (A ⟨c[k].toArray⟩) false).run S wr= .ok (hv c[k]) wr:=by
    have:=wQ ah a2 ⟨c[k].toArray⟩ (by rw[<-AA];unfold Qu;simp;omega);simpa using this
   have v:∃D,sq=O ⟨D,0,U⟩/\wr.cell? ⟨D,k,U⟩=O (encStr c[k]):=by
    rcases ag.out.2 with⟨_,h0⟩|⟨D,a5,bc,e,_,hg,_,_,_,ab⟩
    ·omega
    ·injection e with e1 e2 e3;refine⟨D,e1,?_⟩;have aw:=(Qt.1 hg).1;have ax:=(z.2 D aw (Qh ⟨_,_,_,hg,Qk rfl⟩)).trans hg;have hu:(c.map encStr)[k]? =O (encStr c[k]):=by simp[ac]
     rw[<-ab,List.getElem?_take,if_pos (by omega)]at hu;simp only[Q8,ax];simpa using hu
   obtain⟨D,rfl,v⟩:=v;have ay:I _:=av
   gi_wp2
   refine hR.mono ?_;rintro e W3 (⟨rfl,a0,a1⟩|⟨rfl,al⟩)
   ·gi_wp2
    go_roundw
    case rel=>exact ⟨k+1,by omega,by go_num,by rw[ay.out];exact a0,z.trans a1⟩
    case measure=>simp [intOf];omega
   ·gi_wp2
    refine bodyPost_ret (results_none rfl _ _ _) rfl ?_;exact⟨⟨_,rfl⟩,.inr ⟨_,trivial,al⟩⟩
  ·obtain rfl:k=M:=by omega
   have aj:=List.take_of_length_le (by rw[N.out];exact Qi _);rw[aj]at T
   gi_wp2
   go_end0;exact⟨⟨_,rfl⟩,.inl ⟨_,⟨ss,ao.out,ap.out⟩,T⟩⟩
end Go.Proofs.YtcllhobffhkafaaGreatDoor
namespace Go.Proofs.YtcllhobffhkafaaGreatDoor
open Go.RowKit Go.Extern.Stop Go.Stop Go.Extern Go.Sort Go.Shelf Go.Lib
attribute [local go_sem] Qy
def wS (w:Z) (v:G):Prop:= ∃q n c,v=J q n c/\n<=c/\∀ad,q=O ad->∃g cs fz,ad=⟨g,0,U⟩/\w.heap[g]? =O (Qf cs 62 fz)
theorem wT (v:G) (xs:List Rw) (w:Z) (h:Ar w v xs) (t:xs.length<=20000) :
  Qr S 53 #[v] w fun e w'=> ∃v',e=Qg v'/\Ar w' v' (A5 xs)/\BL w w'/\wS w' v':=by
 have u:=L6 v xs w h t
 go_enter func53,ntmps53
 go_wp2_with (first
  | (go_at_call 102;refine u.mono ?_;rintro e l ⟨m,rfl,i,E⟩;have y:=Nr m xs w.heap.size w l E (Qi _) i t;have d:∃q n c,m=J q n c/\n<=c/\∀ad,q=O ad->∃g f b,ad=⟨g,0,U⟩/\l.heap[g]? =O (Qf f 62 b):=(by
   rcases i.2 with⟨e,-⟩|⟨g,L,r,e,_,K,s,_⟩
   ·exact⟨_,_,_,e,Qi _,fun ad e=>by cases e⟩
   ·exact⟨_,_,_,e,s,fun ad e=>by injection e with e;exact⟨g,r,_,e.symm,K⟩⟩);clear i)
  | (go_at_call 103;refine y.mono ?_;rintro e M ⟨rfl,F,o,p⟩))
 go_ret;refine⟨_,rfl,F,o,?_⟩;obtain⟨q,n,c,rfl,j,z⟩:=d;refine⟨q,n,c,rfl,j,fun ad e=>?_⟩;obtain⟨g,f,b,B,C⟩:=z ad e;obtain⟨k,D⟩:=p g f _ b C;exact⟨g,k,b,B,D⟩
def Hf (q:Option Addr) (L i:Nat):G:=J (q.map fun ad=>⟨ad.block,i*3,U⟩) (min 40 (L-i)) (min 40 (L-i))
def DH (n:Nat):List Nat:=(List.range n).map (· * 40)
def Nb (b1 b2:Nat) (W W':Z):Prop:=W'.heap[b1]? =W.heap[b1]? /\W'.heap[b2]? =W.heap[b2]?
theorem wU (n f d L c:Nat) (q:Option Addr) (w:Z) (T:Ql w f 35 (J q L c)) (X:Ql w d 3 (V Qa 40)) (hL:L<=1000) (hc:L<=c) (hq:L≠0->∃g,q=O ⟨g,0,U⟩) :
  PP n 190 #[Qd (O ⟨f,0,U⟩),Qd (O ⟨d,0,U⟩)] (fun i:Nat=>#[Hf q L i]) (fun pre i _=>pre=DH pre.length/\i=pre.length*40/\i<L) (Nb f d) (fun xs=>xs=DH ((L+39) / 40)) w:=by
 intro l b W P hJ hY h0;have Y:I _:=hY;have B:=T.lt;have C:=X.lt;have v:I (Ql W f 35 (J q L c)/\Ql W d 3 (V Qa 40)):=⟨(P.block f B).trans T,(P.block d C).trans X⟩;refine QK func190 rfl trivial ?_ rfl;simp only[ntmps190,QL,QM,QN,QO,QP,QQ,QR,QS,QT,QU,QV]
 gi_wp2
 gi_loopw [4,5] (fun i _ wr=> ∃k:Nat,k<=(L+39) / 40/\i=V Qa ((k*40:Nat):Int)/\b (DH k) wr/\Nb f d W wr) (fun i _ _=>1100-(intOf i).toNat)
 case atStart=>exact ⟨0,QW _,rfl,h0,rfl,rfl⟩
 case round =>
 obtain⟨k,hk,rfl,t,j⟩:=hrel;have d1:Ql wr f 35 (J q L c):=j.1.trans v.out.1;have d2:Ql wr d 3 (V Qa 40):=j.2.trans v.out.2;have k1:=d1.cell;have k2:=d2.cell;have m:I (Nb f d W wr):=j;by_cases o:k*40<L
 case neg =>
  have D:k=(L+39) / 40:=by omega
  have hn:¬((k*40:Nat):Int)<(L:Int):=by omega
  have HE:I (b (DH ((L+39) / 40)) wr):=by rw[<-D];exact t
  gi_wp2
  go_end0;exact⟨⟨_,rfl⟩,HE.out⟩
 case pos =>
 obtain⟨g,rfl⟩:=hq (by omega);obtain⟨M,hM⟩:∃M,min 40 (L-k*40)=M:=⟨_,rfl⟩;have HM:I (min 40 (L-k*40)=M):=hM;have E:b (DH k) wr.drew:=hJ _ wr wr.drew U t (PR ((Qs _ wr).drew)) (fun r e=>by cases e);have F:I _:=Y.out (DH k) (k*40) wr.drew E ⟨by simp[DH],by simp[DH],o⟩;have K:I (DH k++ [k*40]=DH (k+1)):=by
  show _=_;unfold DH;rw[List.range_succ,List.map_append];rfl
 generalize R:k*40=i at *;have p:I (k*40=i/\i<L):=⟨R,o⟩;have aa:min (40:Int) ((L-i:Nat):Int)=(M:Int):=by omega
 obtain⟨fn,tmps,assign,body,y,hR⟩:=F.out;unfold Hf at y;rw[HM.out]at y;simp only[Option.map_some]at y
 gi_wp2
 gi_region
 gi_wp2
 refine⟨(fun h=>by cases h),hR.mono ?_⟩;rintro e z ⟨rfl,Q,u,-⟩;have N:I (b (DH (k+1)) z):=by
  show b _ _;rw[<-K.out];exact Q
 have s:I (Nb f d W z):=⟨u.1.trans m.out.1,u.2.trans m.out.2⟩;have k3:=(show Ql z d 3 (V Qa 40) from s.out.2.trans v.out.2).cell
 gi_wp2
 go_roundw
 case rel=>exact ⟨k+1,by have:=p.out;omega,by go_num,N.out,s.out⟩
 case measure=>simp [intOf];have:=p.out;omega
end Go.Proofs.YtcllhobffhkafaaGreatDoor
