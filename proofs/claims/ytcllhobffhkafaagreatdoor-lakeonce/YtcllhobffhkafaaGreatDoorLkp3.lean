/- By an AI agent. -/
import Derived.Test.YtcllhobffhkafaaGreatDoorTxnRem
set_option maxRecDepth 100000
set_option maxHeartbeats 16000000
open Go.Proofs.Tryz
open Go renaming World->Qa,Value->Qc,Calls->Qg,heap_alloc_new->Qi,Addr->Qo,cell_of_row->Qs,maxLen->Qw
open Go.Ending renaming returned->Qb
open Go.IntKind renaming i64->S
open Go.Lib renaming IsBuilder->Ql,itoa->Qn,byteCells->Qr,byteCells_append->Q0,byteCells_length->Q5
open Go.Obj renaming cells->A
open Go.RowKit renaming Hid->O
open Go.RowKit.Below renaming refl->Qh,size->Qu,drew->Q3,alloc->Q4
open Go.Value renaming string->Z,int->I,slice->H,pointer->V,tuple->Qf,nilIface->Qz
open List renaming length_append->Qq,take_of_length_le->Qt,take_append_getElem->Qx,getElem_mem->Qy,length_take->Q1,getElem?_eq_getElem->Q2
open Nat renaming le_trans->Qd,lt_of_lt_of_le->Qe,le_refl->Qk,le_of_lt->Qp,ne_of_lt->Qv
open Option renaming none->U,some->J
open Or renaming inl->Qj,inr->Qm
namespace Go.Proofs.YtcllhobffhkafaaGreatDoor
open Go.RowKit Go.Extern.Stop Go.Stop Go.Extern Go.Sort Go.Shelf Go.Lib
theorem Vl (w:Qa):Az (w.alloc (A #[Z ⟨#[]⟩,Z ⟨#[]⟩,I S 0,I S 0,I S 0,I S 0] 77)).drew w.heap.size (⟨#[]⟩,⟨#[]⟩,0,0,0,0):=Qi w _
theorem Vm (w:Qa):Az (w.alloc (A #[Z ⟨#[]⟩,Z ⟨#[]⟩,I S 0,I S 0,I S 0,I S 0] 77)) w.heap.size (⟨#[]⟩,⟨#[]⟩,0,0,0,0):=Qi w _
theorem Vn {X:Qa} {b:Nat} {f:Fl} (h:Az X b f) (c d:ByteArray) (g i j k:Int):Az ((((((X.setCell ⟨b,0,U⟩ (Z c)).setCell ⟨b,1,U⟩ (Z d)).setCell ⟨b,2,U⟩ (I S g)).setCell ⟨b,3,U⟩ (I S i)).setCell ⟨b,4,U⟩ (I S j)).setCell ⟨b,5,U⟩ (I S k)) b (c,d,g,i,j,k):=h.set (c,d,g,i,j,k)
theorem Vo (w:Qa) (b c:ByteArray) (d f g i:Int):Az (w.alloc (A #[Z b,Z c,I S d,I S f,I S g,I S i] 77)) w.heap.size (b,c,d,f,g,i):=Qi _ _
theorem G7 {X:Qa} {b p o:Nat} {v d f g i l m:Qc} (n:X.cell? ⟨b,o,U⟩=J v) (c:b≠p):((((((X.setCell ⟨p,0,U⟩ d).setCell ⟨p,1,U⟩ f).setCell ⟨p,2,U⟩ g).setCell ⟨p,3,U⟩ i).setCell ⟨p,4,U⟩ l).setCell ⟨p,5,U⟩ m).cell? ⟨b,o,U⟩=J v:=by
 have k:∀(Y:Qa) (j:Nat) (u:Qc),Y.cell? ⟨b,o,U⟩=J v->(Y.setCell ⟨p,j,U⟩ u).cell? ⟨b,o,U⟩=J v:=fun Y j u h=>by
  rw[World.cell?_setCell_other _ _ _ _ (by intro e;injection e with e;exact c e.symm)];exact h
 exact k _ _ _ (k _ _ _ (k _ _ _ (k _ _ _ (k _ _ _ (k _ _ _ n)))))
theorem Vp {c X:Qa} {B p:Nat} {d f g i j k:Qc} (h:Below B c X) (b:B<=p):Below B c ((((((X.setCell ⟨p,0,U⟩ d).setCell ⟨p,1,U⟩ f).setCell ⟨p,2,U⟩ g).setCell ⟨p,3,U⟩ i).setCell ⟨p,4,U⟩ j).setCell ⟨p,5,U⟩ k):=(((((h.setCell b _).setCell b _).setCell b _).setCell b _).setCell b _).setCell b _
section
variable {a : Nat → Qo} {B : Nat} {EM : Qa → Prop}
def MP (now:Sn) (ds:List Dr) (ps rem:List ByteArray):Prop:=rem= []/\∀i fs d p,ds[i]? =J d->ps[i]? =J p->Fils (ds.take i) (ps.take i) fs->(Cs p d).2=0/\Fk (now,fs, []) (Cs p d).1=0
def Kc (a:Nat->Qo) (W:Qa) (now:Sn) (ds:List Dr) (ps rem:List ByteArray) (e:Ending) (w':Qa):Prop :=
 ∃v n,e=Qb (Qf #[v,Ae a n])/\BL W w'/\(n≠0->¬MP now ds ps rem)/\(n=0->∃fs FP D,Fils ds ps fs/\CJ 312 D w' v FP (now,fs,rem)/\W.heap.size<=D/\Cj (now,fs,rem)/\fs.length=ds.length)
theorem sA {t:Tx} {p:ByteArray} (h:GT t p=0):GU t p=(t.1,t.2.1,t.2.2++ [p]):=by unfold GU;rw[if_pos h]
theorem sB {t:Tx} {f:Fl} (h:Fk t f=0) (b:f.2.2.2.2.2=1):GS t f=(t.1,t.2.1++ [f],t.2.2):=by
 unfold GS;rw[if_pos h];obtain⟨c,d,g,i,j,k⟩:=f;subst b;rfl
theorem sC (K:AJ a B EM A0) (HL:∀X,EM X->Bg X a) {W:Qa} {kb:Nat} {vs:Qc} {SP:Nat->Prop} {hd:ByteArray} {vi vf:Qc} {k:Lk} (hE:EM W) (h:An W kb vs SP hd vi vf k) (hf:(Am k.now).1=0) {D:Nat} {vd vr vp:Qc} {ds:List Dr} {ps b:List ByteArray} (cx:AZ W D vd ds) (hr:BS W vr b) (hp:BS W vp ps) (hl:ds.length=ps.length) (de:ds.length<=1000) (dg:b.length<=1000) (cy:∀d∈ds,d.2.1.size<=1000/\d.2.2.size<=Qw) (cz:∀p∈ps,p.size<=1000) :
  Qg prog 111 #[V (J ⟨kb,0,U⟩),.agg #[vd,vr],vp] W (Kc a W k.now ds ps b):=by
 have ak:O _:=fun X (E:BL W X)=>K.below _ _ hE (E.mono (K.size _ hE));obtain⟨da,cn,_⟩:=Jf hf;have a9:O _:=fun X (E:BL W X)=>lI k.now vf X a (HL X (ak.out X E)).x (h.fls.below E) (by omega) (fun g hg=>Kb (cn g hg).1);have bp:O _:=fun X v Q t p D (E:BL W X) (ht:CJ 312 D X v Q t) (hD:D<=X.heap.size) (hl:t.2.2.length<=1000) (hn:t.1=k.now)=>rZ D v Q t p X a (HL X (ak.out X E)).x ht hD hl (by rw[hn];omega);have c0:O _:=fun X v Q t f D (E:BL W X) (ht:CJ 312 D X v Q t) (hD:D<=X.heap.size) (hl:t.2.1.length<=1000) (h1:f.1.size<=100000) (h2:f.2.1.size<=100000)=>rS D v Q t f X a (HL X (ak.out X E)).x ht hD hl h1 h2;have bq:O (∀X p q s,BL W X->p.size<=1000->q.size<=1000->s.size<=Qw->Qg prog 155 #[Z p,Z q,Z s,I S 1] X fun e w'=>e=Qb (Qf #[A1 (Bx p q s.data.toList 1).1,Ae a (Bx p q s.data.toList 1).2])/\BL X w'):=fun X p q s E h1 h2 h3=>by
  have hx:=(HL X (ak.out X E)).x;exact Ul p q s 1 X a (HL X (ak.out X E)).f (fun _ _ _ _=>hx.hand) (by omega) (by omega) h3
 obtain⟨qf,cf,rfl⟩:=h.fls.form;obtain⟨qd,cd,rfl,co⟩:=cx.at;obtain⟨qr,cr,rfl⟩:=hr.form;obtain⟨qp,cp,rfl⟩:=hp.form;have M:BL W (W.alloc (A #[H qd ds.length cd,H qr b.length cr] 100)):=Af _ _;have ae:=Qi W (A #[H qd ds.length cd,H qr b.length cr] 100);have c1:O (∀X,BL W X->∀j (hj:j<ds.length),∃g,qd=J ⟨g,0,U⟩/\X.cell? ⟨g,j*3,U⟩=J (Z ds[j].1)/\X.cell? ⟨g,j*3+1,U⟩=J (Z ds[j].2.1)/\X.cell? ⟨g,j*3+2,U⟩=J (Z ds[j].2.2)):=fun X E j hj=>by
  obtain⟨g,e,h0,h1,h2⟩:=co j hj;exact⟨g,e,Aa E h0,Aa E h1,Aa E h2⟩
 have br:O (∀X,BL W X->∀j (hj:j<b.length),∃g,qr=J ⟨g,0,U⟩/\X.cell? ⟨g,j,U⟩=J (Z b[j])):=fun X E j hj=>by
  obtain⟨g,e,hc⟩:=hr.cells (fun e=>by rw[e]at hj;simp at hj);exact⟨g,e,Aa E (hc j hj)⟩
 have c2:O (∀X,BL W X->∀j (hj:j<ps.length),∃g,qp=J ⟨g,0,U⟩/\X.cell? ⟨g,j,U⟩=J (Z ps[j])):=fun X E j hj=>by
  obtain⟨g,e,hc⟩:=hp.cells (fun e=>by rw[e]at hj;simp at hj);exact⟨g,e,Aa E (hc j hj)⟩
 have HZ:O ((∀d∈ds,d.2.1.size<=1000/\d.2.2.size<=Qw)/\∀p∈ps,p.size<=1000):=⟨cy,cz⟩;have ba:O _:=hf;obtain⟨-,-,-,-,b4,b5,b6,b7,b8,b9,cq,-⟩:=h.blk.cells;clear hE h hf cx hr hp cy cz co cn da;obtain⟨dr,du,dv,l,o,r,u,y,z,c⟩:=k;dsimp only at *;unfold A9 at a9;obtain⟨L,hL⟩:∃L,ds.length=L:=⟨_,rfl⟩;obtain⟨R,hR⟩:∃R,b.length=R:=⟨_,rfl⟩;have ac:O (ds.length=L/\ps.length=L/\b.length=R):=⟨hL,hl.symm.trans hL,hR⟩;have bs:=hl.symm.trans hL;rw[hL]at de;rw[hR]at dg;rw[hL,hR]at M ae;rw[hL,hR,bs];clear hl hL hR bs;have bt:=Aa M b4;have bu:=Aa M b5;have bv:=Aa M b6;have bw:=Aa M b7;have bx:=Aa M b8;have bz:=Aa M b9;have bb:=Aa M cq;have bc:=a9.out _ M;clear b4 b5 b6 b7 b8 b9 cq a9
 go_enter func111,ntmps111
 go_upto_region 1 with fail
 generalize W.alloc (A #[H qd L cd,H qr R cr] 100)=WA at M ae bc bt bu bv bw bx bz bb ⊢;have bd:=lt_of_block ae;have aw:O (W.heap.size<=WA.heap.size):=Qp bd;generalize W.heap.size=cb at ae bd ⊢
 go_wp2_with fail
 refine bc.mono ?_;rintro e w1 ⟨v,ev,rfl,ht,ar,cw⟩;obtain rfl:=ht.ok ba.out;have b0:O (CJ 312 WA.heap.size w1 v (fun k=>WA.heap.size<=k/\k<w1.heap.size) ((l,o,r,u,y,z,c), [], [])):=by
  rcases cw with⟨h0,-⟩|⟨-,h1⟩
  ·exact absurd ba.out h0
  ·exact h1 WA.heap.size (Qk _)
 have c3:=Ad M ar;have b1:WA.heap.size<=w1.heap.size:=ar.size;have r1:w1.cell? ⟨cb,1,U⟩=J (H qr R cr):=Aa ar (by rw[Qs _ _ _ _ _ _ ae];rfl);have r0:w1.cell? ⟨cb,0,U⟩=J (H qd L cd):=Aa ar (by rw[Qs _ _ _ _ _ _ ae];rfl);clear bc ht cw bt bu bv bw bx bz bb M ar ae;generalize WA.heap.size=NB at b0 bd b1 aw
 go_wp2_with fail
 go_loopw [11,12,32] (fun _ _ i wr=> ∃(n:Nat) (Q:Nat->Prop),n<=R/\i=I S n/\CJ 312 NB wr v Q ((l,o,r,u,y,z,c), [],b.take n)/\Cj ((l,o,r,u,y,z,c), [],b.take n)/\BL W wr/\NB<=wr.heap.size/\wr.cell? ⟨cb,0,U⟩=J (H qd L cd)) (fun _ _ i _=>R-(intOf i).toNat)
 case atStart=>exact ⟨0,_,by omega,rfl,b0.out,iM ba.out,c3,b1,r0⟩
 case round =>
 obtain⟨n,Q,hn,rfl,hT,ab,E,hN,k0⟩:=hrel;by_cases ax:n<R
 case pos =>
  have be:n<b.length:=by rw[ac.out.2.2];exact ax
  obtain⟨g,rfl,e0⟩:=br.out wr E n be;have bf:O (b.take (n+1)=b.take n++ [b[n]]):=(Qx be).symm;have al:=bp.out wr v Q _ b[n] NB E hT hN (by show (b.take n).length<=1000;rw[Q1];omega) rfl;have am:O (Cj (GU ((l,o,r,u,y,z,c), [],b.take n) b[n])):=ab.rem _;have ad:O (GT ((l,o,r,u,y,z,c), [],b.take n) b[n]=0->GU ((l,o,r,u,y,z,c), [],b.take n) b[n]=((l,o,r,u,y,z,c), [],b.take (n+1))):=fun h=>by rw[sA h,bf.out]
  have ay:O (∀j,Q j->NB<=j):=fun j hj=>by
   obtain⟨tb,vb,va,vr,-,-,-,-,h3⟩:=hT;exact(h3 j hj).1
  generalize GU ((l,o,r,u,y,z,c), [],b.take n) b[n]=t1 at al am ad;generalize GT ((l,o,r,u,y,z,c), [],b.take n) b[n]=C at al ad;generalize b[n]=p at e0 al bf;have dh:(n:Int)<(R:Int):=by omega
  have di:(0:Int)<=(n:Int):=by omega
  clear hT ab be bf
  go_wp2_with fail
  refine al.mono ?_;rintro e w2 ⟨rfl,au,af,aa,dd⟩;have b2:=E.trans (aa.below E.size (fun j hj=>Qd aw.out (ay.out j hj)));have c4:=Qd hN aa.size;clear al e0;by_cases hC:C=0
  case neg =>
   have HP:O (Kc a W (l,o,r,u,y,z,c) ds ps b (Qb (Qf #[V U,Ae a C])) w2):=⟨_,C,rfl,b2,fun _ hG=>by have:=ac.out.2.2;rw[hG.1]at this;simp at this;omega,fun e=>absurd e hC⟩;obtain⟨m,rfl⟩:∃m,C=m+1:=⟨C-1,by omega⟩;simp only[Ae]at HP ⊢;clear af hC;go_wp2;go_ret2;exact HP.out
  case pos =>
  subst hC;simp only[Ae];have c5:w2.cell? ⟨cb,0,U⟩=J (H qd L cd):=aa.keep (fun e=>by have:=ay.out _ e;omega) k0;have b3:O (CJ 312 NB w2 v au ((l,o,r,u,y,z,c), [],b.take (n+1))/\Cj ((l,o,r,u,y,z,c), [],b.take (n+1))):=by
   show _/\_;rw[<-ad.out rfl];exact⟨af,am.out⟩
  clear af;go_wp2;go_roundw
  case rel=>exact ⟨n+1,au,by omega,by go_num,b3.out.1,b3.out.2,b2,c4,c5⟩
  case measure=>simp [intOf];omega
 case neg =>
 obtain rfl:n=R:=by omega
 have dj:¬(n:Int)<(n:Int):=by omega
 have bg:O (CJ 312 NB wr v Q ((l,o,r,u,y,z,c), [],b)/\Cj ((l,o,r,u,y,z,c), [],b)):=by
  rw[Qt (by rw[ac.out.2.2];exact Qk _)]at hT ab;exact⟨hT,ab⟩
 obtain⟨W3,dc⟩:∃X,X=wr:=⟨_,rfl⟩;subst dc;clear hT ab bp br
 go_wp2_with fail
 go_loopw [13,14,15,16,17,46] (fun _ _ _ _ _ i wx=> ∃(m:Nat) (N:List Fl) (Q:Nat->Prop),m<=L/\i=I S m/\Fils (ds.take m) (ps.take m) N/\N.length=m/\CJ 312 NB wx v Q ((l,o,r,u,y,z,c),N,b)/\Cj ((l,o,r,u,y,z,c),N,b)/\BL W wx/\NB<=wx.heap.size) (fun _ _ _ _ _ i _=>L-(intOf i).toNat)
 case atStart=>exact ⟨0, [],Q,by omega,rfl,Fils.nil,rfl,bg.out.1,bg.out.2,E,hN⟩
 case round =>
 clear E hN k0 bg;obtain⟨m,N,Q,hm,rfl,aq,a6,hT,ab,E,hN⟩:=hrel;by_cases ax:m<L
 case neg =>
  obtain rfl:m=L:=by omega
  have dk:¬(m:Int)<(m:Int):=by omega
  have HP:O (Kc a W (l,o,r,u,y,z,c) ds ps b (Qb (Qf #[v,Ae a 0])) wr):=by
   rw[Qt (by rw[ac.out.1];exact Qk _),Qt (by rw[ac.out.2.1];exact Qk _)]at aq;exact⟨_,0,rfl,E,fun e=>absurd rfl e,fun _=>⟨N,Q,NB,aq,hT,aw.out,ab,a6.trans ac.out.1.symm⟩⟩
  simp only[Ae]at HP;clear aq hT ab a6 E;go_wp2;go_ret2;exact HP.out
 case pos =>
 have az:m<ds.length:=by rw[ac.out.1];exact ax
 have a0:m<ps.length:=by rw[ac.out.2.1];exact ax
 obtain⟨g,rfl,e0,e1,e2⟩:=c1.out wr E m az;have ca:O (ds.take (m+1)=ds.take m++ [ds[m]]):=(Qx az).symm;have cc:O (ps.take (m+1)=ps.take m++ [ps[m]]):=(Qx a0).symm;have an:=HZ.out.1 ds[m] (Qy _);have bh:=HZ.out.2 ps[m] (Qy _);have bi:O (∀X,BL W X->∃g,qp=J ⟨g,0,U⟩/\X.cell? ⟨g,m,U⟩=J (Z ps[m])):=fun X hX=>c2.out X hX m a0;have a1:O (ds[m]? =J ds[m]/\ps[m]? =J ps[m]):=⟨Q2 az,Q2 a0⟩;generalize ds[m]=d at e0 e1 e2 ca an a1;generalize ps[m]=p at cc bh bi a1;obtain⟨df,Y,dt⟩:=d;dsimp only at e0 e1 e2 an;have dl:(m:Int)<(L:Int):=by omega
 have dm:(0:Int)<=(m:Int):=by omega
 have M:BL wr (wr.alloc (A #[Z df,Z Y,Z dt] 111)):=Af _ _;have ao:=Qi wr (A #[Z df,Z Y,Z dt] 111);have HT:O (CJ 312 NB wr v Q ((l,o,r,u,y,z,c),N,b)/\Cj ((l,o,r,u,y,z,c),N,b)/\Fils (ds.take m) (ps.take m) N/\N.length=m):=⟨hT,ab,aq,a6⟩;clear hT ab aq a6 az a0
 go_upto_region 14 with fail
 generalize wr.alloc (A #[Z df,Z Y,Z dt] 111)=P at M ao ⊢;have a2:=Ad E M;generalize wr.heap.size=db at ao ⊢;have q1:P.cell? ⟨db,1,U⟩=J (Z Y):=by rw[Qs _ _ _ _ _ _ ao];rfl
 have q2:P.cell? ⟨db,2,U⟩=J (Z dt):=by rw[Qs _ _ _ _ _ _ ao];rfl
 obtain⟨gp,rfl,q3⟩:=bi.out P a2;have a3:BL P P.drew:=(Qh _ _).drew;have ah:O (∀X,BL P X->Qg prog 155 #[Z p,Z Y,Z dt,I S 1] X fun e w'=>e=Qb (Qf #[A1 (Cs p (df,Y,dt)).1,Ae a (Cs p (df,Y,dt)).2])/\BL X w'):=fun X hX=>bq.out X p Y dt (Ad a2 hX) bh an.1 an.2;have ce:O (∀F C,Cs p (df,Y,dt)=(F,C)->C=0->Fils (ds.take (m+1)) (ps.take (m+1)) (N++ [F])/\F.2.2.2.2.2=1/\F.1.size<=100000/\F.2.1.size<=100000):=fun F C hF hC=>by
  have h0:(Cs p (df,Y,dt)).2=0:=by rw[hF];exact hC
  obtain⟨g,mm,-,-,h3,-⟩:=Le h0;have h4:F=(Bx p Y dt.data.toList 1).1:=by
   show F=(Cs p (df,Y,dt)).1;rw[hF]
  rw[h3]at h4;rw[ca.out,cc.out];refine⟨?_,by rw[h4],by rw[h4];show p.size<=_;omega,by rw[h4];show Y.size<=_;omega⟩;have:=Fils.step (df,Y,dt) p HT.out.2.2.1 h0;rw[hF]at this;exact this
 obtain⟨⟨F,C⟩,a7⟩:∃x,Cs p (df,Y,dt)=x:=⟨_,rfl⟩;have cg:=ce.out F C a7;have bj:O (MP (l,o,r,u,y,z,c) ds ps b->C=0/\Fk ((l,o,r,u,y,z,c),N,b) F=0):=fun hG=>by
  have:=hG.2 m N (df,Y,dt) p a1.out.1 a1.out.2 HT.out.2.2.1;rw[a7]at this;rw[hG.1];exact this
 rw[a7]at ah;dsimp only at ah;unfold A1 at ah;have bk:BL P (P.alloc (A #[Z ⟨#[]⟩,Z ⟨#[]⟩,I S 0,I S 0,I S 0,I S 0] 77)):=Af _ _;have ap:BL P (P.alloc (A #[Z ⟨#[]⟩,Z ⟨#[]⟩,I S 0,I S 0,I S 0,I S 0] 77)).drew:=bk.drew;have zn:Az (P.alloc (A #[Z ⟨#[]⟩,Z ⟨#[]⟩,I S 0,I S 0,I S 0,I S 0] 77)) P.heap.size (⟨#[]⟩,⟨#[]⟩,0,0,0,0):=Qi _ _;have zd:Az (P.alloc (A #[Z ⟨#[]⟩,Z ⟨#[]⟩,I S 0,I S 0,I S 0,I S 0] 77)).drew P.heap.size (⟨#[]⟩,⟨#[]⟩,0,0,0,0):=Qi P _;have c6:=Aa a3 q1;have c7:=Aa a3 q2;have c8:=Aa a3 q3;have ch:=Aa ap q1;have ci:=Aa ap q2;have cj:=Aa ap q3;have dn:(0:Int)<=(m:Int):=by omega
 clear a7 ce bi bq an bh
 go_cut [15,16] from 51 to 62 (fun s15 s16 wx=> ∃xb,s15=V (J ⟨xb,0,U⟩)/\Az wx xb F/\s16=Ae a C/\BL P wx)
 case first =>
  obtain⟨F0,F1,F2,F3,F4,F5⟩:=F;dsimp only at ah ⊢;have dq:BL P P:=Qh _ _;have aj:db<P.heap.size:=BD q1;have av:gp<P.heap.size:=BD q3;clear zn zd bk ap ch ci cj
  go_region_held3 (fun w'=>BL P w'/\w'.cell? ⟨db,1,U⟩=J (Z Y)/\w'.cell? ⟨db,2,U⟩=J (Z dt)/\w'.cell? ⟨gp,m,U⟩=J (Z p))
   (first
    | (go_split_ands;with_reducible exact⟨Below.trans (by with_reducible assumption) (ag.mono (Qu (by with_reducible assumption))),Aa ag (by with_reducible assumption),Aa ag (by with_reducible assumption),Aa ag (by with_reducible assumption)⟩)
    | (go_split_ands;with_reducible exact⟨Lc (by with_reducible assumption) T T,Dj (by with_reducible assumption) (Qe aj T),Dj (by with_reducible assumption) (Qe aj T),Dj (by with_reducible assumption) (Qe av T)⟩)
    | (go_split_ands;with_reducible refine⟨Vp (by with_reducible assumption) ?_,G7 (by with_reducible assumption) ?_,G7 (by with_reducible assumption) ?_,G7 (by with_reducible assumption) ?_⟩;all_goals first | exact T | exact Qk _ | exact Qv aj | exact Qv av | exact Qv (Qe aj T) | exact Qv (Qe av T))
    | (go_split_ands;with_reducible refine⟨Q3 (by with_reducible assumption),?_,?_,?_⟩;all_goals go_keep)
    | (go_split_ands;with_reducible refine⟨Q4 (by with_reducible assumption) (Qu (by with_reducible assumption)) _,?_,?_,?_⟩;all_goals go_keep)
    | (go_split_ands;with_reducible refine⟨Q3 (Q4 (by with_reducible assumption) (Qu (by with_reducible assumption)) _),?_,?_,?_⟩;all_goals go_keep)
    | (go_split_ands;with_reducible exact⟨by assumption,by assumption,by assumption,by assumption⟩))
   (first | (go_at_call 155;with_reducible refine(ah.out _ (by go_split_ands;with_reducible assumption)).mono ?_;rintro e wX ⟨rfl,ag⟩;have T:P.heap.size<=wX.heap.size:=(by go_split_ands;exact Qd (Qu (by with_reducible assumption)) ag.size);first | (with_reducible have a4:=Az.below (Vm _) ag;obtain⟨y0,y1,y2,y3,y4,y5,yf⟩:=a4.cells) | (with_reducible have a4:=Az.below (Vl _) ag;obtain⟨y0,y1,y2,y3,y4,y5,yf⟩:=a4.cells) | skip))
  all_goals go_split_ands
  all_goals go_wp2
  all_goals go_meet
  all_goals first
   | (with_reducible exact⟨_,rfl,Vo _ _ _ _ _ _ _,rfl,by assumption⟩)
   | (with_reducible exact⟨_,rfl,Vn a4 _ _ _ _ _ _,rfl,by assumption⟩)
 case rest =>
 obtain⟨xb,rfl,bn,rfl,a8⟩:=hcut;have a5:=Ad a2 a8;have ck:NB<=wc.heap.size:=Qd hN (Qd M.size a8.size);have bl:O (CJ 312 NB wc v Q ((l,o,r,u,y,z,c),N,b)):=(HT.out.1.below M).below a8;clear q1 q2 q3 c6 c7 c8 ch ci cj bk ap zn zd a3 ah a8 M a2 ao E hN;by_cases hC:C=0
 case neg =>
  have HP:O (Kc a W (l,o,r,u,y,z,c) ds ps b (Qb (Qf #[V U,Ae a C])) wc):=⟨_,C,rfl,a5,fun _ hG=>hC (bj.out hG).1,fun e=>absurd e hC⟩;obtain⟨i,rfl⟩:∃i,C=i+1:=⟨C-1,by omega⟩;simp only[Ae]at HP ⊢;clear bn hC;go_wp2;go_ret2;exact HP.out
 case pos =>
 subst hC;simp only[Ae];obtain⟨cs,ct,cu,cv⟩:=cg rfl;have ai:=c0.out wc v Q ((l,o,r,u,y,z,c),N,b) F NB a5 bl.out ck (by show N.length<=1000;have:=HT.out.2.2.2;omega) cu cv;have am:O (Cj (GS ((l,o,r,u,y,z,c),N,b) F)):=HT.out.2.1.add F;have ad:O (Fk ((l,o,r,u,y,z,c),N,b) F=0->GS ((l,o,r,u,y,z,c),N,b) F=((l,o,r,u,y,z,c),N++ [F],b)):=fun h=>sB h ct;have ay:O (∀j,Q j->NB<=j):=fun j hj=>by
  obtain⟨tb,vb,va,vr,-,-,-,-,h3⟩:=bl.out;exact(h3 j hj).1
 have bm:O (Fils (ds.take (m+1)) (ps.take (m+1)) (N++ [F])/\(N++ [F]).length=m+1):=⟨cs,by rw[Qq,HT.out.2.2.2];rfl⟩;generalize GS ((l,o,r,u,y,z,c),N,b) F=t1 at ai am ad;generalize Fk ((l,o,r,u,y,z,c),N,b) F=C at ai ad bj;generalize N++ [F]=bo at ad bm;obtain⟨F0,F1,F2,F3,F4,F5⟩:=F;obtain⟨y0,y1,y2,y3,y4,y5,-⟩:=bn.cells;dsimp only at y0 y1 y2 y3 y4 y5;unfold A1 at ai;dsimp only at ai;clear bn cu cv ct cs cg HT
 go_wp2_with fail
 refine ai.mono ?_;rintro e w6 ⟨rfl,au,af,aa,dd⟩;have cl:=a5.trans (aa.below a5.size (fun j hj=>Qd aw.out (ay.out j hj)));have c9:=Qd ck aa.size;clear ai y0 y1 y2 y3 y4 y5 bl;by_cases hC:C=0
 case neg =>
  have HP:O (Kc a W (l,o,r,u,y,z,c) ds ps b (Qb (Qf #[V U,Ae a C])) w6):=⟨_,C,rfl,cl,fun _ hG=>hC (bj.out hG).2,fun e=>absurd e hC⟩;obtain⟨i,rfl⟩:∃i,C=i+1:=⟨C-1,by omega⟩;simp only[Ae]at HP ⊢;clear af hC;go_wp2;go_ret2;exact HP.out
 case pos =>
 subst hC;simp only[Ae];have cm:O (CJ 312 NB w6 v au ((l,o,r,u,y,z,c),bo,b)/\Cj ((l,o,r,u,y,z,c),bo,b)):=by
  show _/\_;rw[<-ad.out rfl];exact⟨af,am.out⟩
 clear af;go_wp2;go_roundw
 case rel=>exact ⟨m+1,bo,au,by omega,by go_num,bm.out.1,bm.out.2,cm.out.1,cm.out.2,cl,c9⟩
 case measure=>simp [intOf];omega
end
theorem sD {z:Int} (h:CI z=true):(Qn z).length<=12:=by
 have b:=K8 [z] (fun x hx=>by simp at hx;subst hx;exact h);simp[CW]at b;omega
theorem sE (v:Qc) (zs:List Int) (w:Qa) (a:Nat->Qo) (h:FV w a) (P:C4 w v zs) (hl:zs.length<=100) :
  Qg prog 151 #[v] w fun e w'=> ∃ev,e=Qb (Qf #[Z (if (AD zs).1=0 then Ab (B6 zs) else ⟨#[]⟩),ev])/\AU w' a ev (AD zs)/\BL w w':=by
 have p:=KH v zs w a h P (by omega);by_cases i:(AD zs).1=0
 case neg =>
  rw[if_neg i]
  go_enter func151,ntmps151
  go_wp2_with fail
  refine p.mono ?_;rintro e d ⟨ev,rfl,R,s⟩;obtain⟨t,u,rfl⟩:=R.bad i;have y:O _:=R;go_wp2;go_ret2;exact⟨_,rfl,y.out,s⟩
 case pos =>
 rw[if_pos i];have Q:=K7 i;rw[Q]at p ⊢;obtain⟨a0,-,an,-⟩:=DO.1 i;obtain⟨q,a6,rfl⟩:=P.1.shape;obtain⟨b,o,rfl,hc⟩:=P.1.at a0;have HC:O (∀W,BL w W->∀j (h:j<zs.length),W.cell? ⟨b,o+j,U⟩=J (I S zs[j])):=fun W m j hj=>Aa m (hc j hj);have C:O _:=an;have ao:O _:=fun W (m:BL w W)=>(h.below m).weak;obtain⟨L,hL⟩:∃L,zs.length=L:=⟨_,rfl⟩;have HX:O _:=hL;rw[hL]at hl p ⊢;obtain⟨TT,ae⟩:∃TT,Ab (B6 zs)=TT:=⟨_,rfl⟩;have y:O _:=ae;rw[ae]
 go_enter func151,ntmps151
 go_wp2_with fail
 refine p.mono ?_;rintro e d ⟨ev,rfl,R,s⟩;obtain rfl:ev=Qz:=R;have T:BL d (d.alloc (A #[V U,H U 0 0] 260)):=Af _ _;have ap:=Ad s T;have ah:Ql 260 5 d.heap.size d.heap.size [] (d.alloc (A #[V U,H U 0 0] 260)) :=
  Qj ⟨Qk _,H U 0 0,Qi _ _,World.ownsRow_nil _ _ _ _,by simp[Value.ownBlock]⟩
 have f:=s.size;have c:=GO d.heap.size d.heap.size _ ⟨#[109,101,116,97]⟩ _ ah (by have:(⟨#[109,101,116,97]⟩:ByteArray).size=4:=rfl;simp;omega) T.size;have X:d.heap.size<(d.alloc (A #[V U,H U 0 0] 260)).heap.size:=by simp
 go_upto_region 5 with fail
 generalize d.heap.size=B at c f X ⊢
 go_wp2_with fail
 refine c.mono ?_;rintro e w3 ⟨rfl,a1,af⟩;have ai:=ap.trans (af.mono f);have aq:=Qe X af.size;have ar:O (Ql 260 5 B B (Qr (Ec++CW (zs.take 0))) w3):=by
  show Ql _ _ _ _ _ _;exact Qm a1
 go_wp2
 go_loopw [16] (fun k wr=> ∃n:Nat,n<=L/\k=I S n/\BL w wr/\B<wr.heap.size/\Ql 260 5 B B (Qr (Ec++CW (zs.take n))) wr) (fun k _=>L-(intOf k).toNat)
 case atStart=>exact ⟨0,by omega,rfl,ai,aq,ar.out⟩
 case round =>
  obtain⟨n,hn,rfl,m,r,hB⟩:=hrel;by_cases au:n<L
  ·have D:n<zs.length:=by rw[HX.out];exact au
   have c0:=HC.out wr m n D;have Y:=C.out zs[n] (Qy _);have a5:=JN.1 Y;have av:=sD Y;have E:=K8 (zs.take n) (fun z P=>C.out z (List.mem_of_mem_take P));rw[Q1]at E;have a4:(Qr (Ec++CW (zs.take n))).length<=30000:=by
    rw[Q5,Qq];have:Ec.length=4:=rfl;omega
   have HT:O (Ec++CW (zs.take (n+1))=Ec++CW (zs.take n)++ [32]++Qn zs[n]):=by
    show _=_;rw[jH D];simp
   have aj:(Ab (Qn zs[n])).size<=12:=by rw[CR];exact av
   have aa:O ((Ab (Qn zs[n])).data.toList=Qn zs[n]):=by show _=_;simp[Ab]
   have ab:=fun W (hW:BZ W a)=>IU zs[n] W a hW (by omega) (by omega);generalize Ab (Qn zs[n])=tb at ab aa aj;have c:=GO B B _ ⟨#[32]⟩ wr hB (by have:(⟨#[32]⟩:ByteArray).size=1:=rfl;omega) (Qp r)
   go_wp2_with fail
   refine c.mono ?_;rintro e K ⟨rfl,M,l⟩;have g:=m.trans (l.mono f);have F:=Qe r l.size;have ak:=ab K (ao.out K g)
   go_wp2_with fail
   refine ak.mono ?_;rintro e w6 ⟨rfl,N⟩;have al:=Ad g N;have ac:=Qe F N.size;have c:=GO B B _ tb w6 (K1 (Qm M) N) (by rw[Qq,Lib.strCells_length];have:(⟨#[32]⟩:ByteArray).size=1:=rfl;omega) (Qp ac)
   go_wp2_with fail
   refine c.mono ?_;rintro e w7 ⟨rfl,a2,ag⟩;have am:=al.trans (ag.mono f);have aw:=Qe ac ag.size;have ax:O (Ql 260 5 B B (Qr (Ec++CW (zs.take (n+1)))) w7):=by
    show Ql _ _ _ _ _ _;rw[HT.out,Q0,Q0,<-aa.out];exact Qm a2
   go_wp2;go_roundw
   case rel=>exact ⟨n+1,by omega,by go_num,am,aw,ax.out⟩
   case measure=>simp [intOf];omega
  ·obtain rfl:n=L:=by omega
   have ay:=Qt (by rw[HX.out];exact Qk _);rw[ay]at hB;have E:=K8 zs C.out;rw[HX.out]at E;have c:=GO B B _ ⟨#[10]⟩ wr hB (by
    have:(⟨#[10]⟩:ByteArray).size=1:=rfl;rw[Q5,Qq];have:Ec.length=4:=rfl;omega) (Qp r)
   go_wp2_with fail
   refine c.mono ?_;rintro e K ⟨rfl,M,l⟩;have g:=m.trans (l.mono f);have F:=Qe r l.size;have az:Ql 260 5 B B (Qr (B6 zs)) K:=by
    unfold B6;rw[Q0];exact Qm M
   have ad:=Builder_String_any B B (B6 zs) K az (Qp F);have eS:(⟨(B6 zs).toArray⟩:ByteArray)=Ab (B6 zs):=rfl;rw[eS,y.out]at ad
   go_wp2_with fail
   refine ad.mono ?_;rintro e w2 ⟨rfl,a3⟩;go_wp2;go_ret2;exact⟨_,rfl,rfl,g.trans (a3.mono f)⟩
def Dk (a:Nat->Qo) (W:Qa) (kb:Nat) (vs:Qc) (SP:Nat->Prop) (vi vf:Qc) (k:Lk) (vj vg:Qc) (ids:List Int) (now:Sn) (X:Int->St->Prop) (G:Prop) (e:Ending) (w':Qa):Prop :=
 ∃n SP',e=Qb (Ae a n)/\Ac (fun j=>SP j\/j=kb) W w'/\(∀j,SP' j->SP j\/W.heap.size<=j) /\
  ((n≠0/\¬G/\∃s',Gw k.st s'/\An w' kb vs SP' k.st.head vi vf { k with st:=s' }) \/
   (n=0/\∃s' m,B3 s'/\(∀x t,AK k.st x t->AK s' x t)/\s'.head=AG m/\CF (AG m).data.toList=true/\AK s' (AG m) (Ab (B6 ids))/\X m s'/\An w' kb vs SP' (AG m) vj vg { k with st:=s',ids:=ids,now:=now }))
section
variable {a : Nat → Qo} {B : Nat} {EM : Qa → Prop}
theorem Vq {zs:List Int} (h:(AD zs).1=0):(Ab (B6 zs)).size<=10000:=by
 obtain⟨-,c,b,-⟩:=DO.1 h;have:=K8 zs b;rw[E9];unfold B6 Ec;simp only[Qq,List.length_cons,List.length_nil];omega
theorem Vr (K:AJ a B EM A0) (HL:∀X,EM X->Bg X a) {W:Qa} {f:Nat} {vs:Qc} {p:Nat->Prop} {vi vf:Qc} {k:Lk} (hE:EM W) (h:An W f vs p k.st.head vi vf k) (hg:B3 k.st) (hB:B<=f/\∀j,p j->B<=j) (b7:k.st.head.size<=1000) (vj vg:Qc) (d:List Int) (b:Sn) (g:C4 W vj d) (al:(AD d).1=0) (b8:DS vj d f p) (hv:Ai W vg b.2.2.2.2.2.2) (b9:DS vg b.2.2.2.2.2.2 f p) :
  Qg prog 78 #[V (J ⟨f,0,U⟩),A9 b vg,vj] W (Dk a W f vs p vi vf k vj vg d b (fun m s=>m=Ag k.st/\∀n,Rm (n+1) k.st->Rm n s) (Rm 1 k.st)):=by
 obtain⟨T,rfl⟩:=h.ptr K;obtain⟨F,L,rfl⟩:=g.1.form;obtain⟨r,u,rfl⟩:=hv.form;obtain⟨cc,cd⟩:=Id k.st;have am:BL W (W.alloc (A #[I S b.1,I S b.2.1,I S b.2.2.1,I S b.2.2.2.1,I S b.2.2.2.2.1,Z b.2.2.2.2.2.1,H r b.2.2.2.2.2.2.length u] 40)):=Af _ _;have ac:=Al.new W b (H r b.2.2.2.2.2.2.length u);have Q:O _:=fun X (hb:BL W X)=>K.below _ _ hE (hb.mono (K.size _ hE));have HQ:O _:=fun X (hb:BL W X)=>h.quiet K hb;have bd:O (∀X,BL W X->Qg prog 151 #[H F d.length L] X fun e w'=>e=Qb (Qf #[Z (Ab (B6 d)),Qz])/\BL X w'):=fun X hb=>by
  have:=sE _ d X a (HL X (Q.out X hb)).m ⟨g.1.below hb,g.2⟩ (by have:=(DO.1 al).2.1;omega);rw[if_pos al]at this;refine this.mono fun e w' ⟨ev,h1,h2,h3⟩=>?_;obtain rfl:=h2.ok al;exact⟨h1,h3⟩
 have be:O _:=fun X (hb:BL W X)=>MI K (fun Y hY=>(HL Y hY).s) X _ p k.st (Q.out X hb) (HQ.out X hb).st hg.keeps (fun o ho=>by have:=G5 (hg.keeps.names o ho);omega) hg.slb;have bf:O (∀X,BL W X->Qg prog 96 #[Z ⟨#[109,101,116,97,47]⟩,I S (Ag k.st)] X fun e w'=>e=Qb (Z (AG (Ag k.st)))/\BL X w'):=fun X hb=>MJ ⟨#[109,101,116,97,47]⟩ _ X (HL X (Q.out X hb)).s (by decide) (by omega);have ca:(AG (Ag k.st)).size<=100:=by
  unfold AG;rw[ByteArray.size_append,E9];have:=itoa_length_le (Ag k.st) (by omega) (by omega);have h5:(⟨#[109,101,116,97,47]⟩:ByteArray).size=5:=rfl;omega
 have cb:=Vq al;have bg:O (∀X,BL W X->Qg prog 137 #[V (J T),Z (AG (Ag k.st)),Z (Ab (B6 d))] X fun e w'=>e=Qb (Ae a (BG k.st (AG (Ag k.st)) (Ab (B6 d))))/\Dh A0 X (V (J T)) p (B0 k.st (AG (Ag k.st)) (Ab (B6 d))) w'):=fun X hb=>K.put X _ p k.st _ _ (Q.out X hb) (HQ.out X hb).st hg.keeps (by omega) (by omega);have v:O (Gw k.st (B0 k.st (AG (Ag k.st)) (Ab (B6 d)))):=Jp hg _ (qA _);have bh:O (BG k.st (AG (Ag k.st)) (Ab (B6 d))=0->AK (B0 k.st (AG (Ag k.st)) (Ab (B6 d))) (AG (Ag k.st)) (Ab (B6 d))/\CF (AG (Ag k.st)).data.toList=true):=fun h0=>⟨(JY hg h0).1,(JY hg h0).2.2⟩;have HJ:O (C4 W (H F d.length L) d/\Ai W (H r b.2.2.2.2.2.2.length u) b.2.2.2.2.2.2):=⟨g,hv⟩;have HO:O (DS (H F d.length L) d f p/\DS (H r b.2.2.2.2.2.2.length u) b.2.2.2.2.2.2 f p):=⟨b8,b9⟩;have bi:O (k.st.head.size<=1000):=b7;have an:O (∀n,Rm (n+1) k.st->BG k.st (AG (Ag k.st)) (Ab (B6 d))=0/\Rm n (B0 k.st (AG (Ag k.st)) (Ab (B6 d)))):=fun n h=>La h MM (by omega);generalize B0 k.st (AG (Ag k.st)) (Ab (B6 d))=l at *;generalize BG k.st (AG (Ag k.st)) (Ab (B6 d))=C1 at *;generalize b5:Ab (B6 d)=TX at *;have bj:O _:=b5;generalize b6:AG (Ag k.st)=i at *;have bk:O _:=b6;generalize Ag k.st=NN at *;unfold A9
 go_enter func78,ntmps78
 go_upto_region 1 with fail
 generalize W.alloc (A #[I S b.1,I S b.2.1,I S b.2.2.1,I S b.2.2.2.1,I S b.2.2.2.2.1,Z b.2.2.2.2.2.1,H r b.2.2.2.2.2.2.length u] 40)=WA at am ac ⊢;have ax:O _:=(HQ.out W (Qh _ _)).blk.lt;have ao:O (¬p W.heap.size/\W.heap.size<WA.heap.size/\f<W.heap.size):=⟨fun e=>absurd (((HQ.out W (Qh _ _)).sizes K).2 _ e) (by omega),ac.lt,(HQ.out W (Qh _ _)).blk.lt⟩;generalize W.heap.size=nb at ac ao ax ⊢;have bl:=bd.out WA am
 go_wp2_with fail
 refine bl.mono ?_;rintro e w1 ⟨rfl,ba⟩;have ap:=Ad am ba;have bm:=ac.below ba;have bn:=HQ.out w1 ap;obtain⟨c0,-⟩:=bn.blk.cells;have bo:=be.out w1 ap
 go_wp2_with fail
 refine bo.mono ?_;rintro e w2 ⟨rfl,bb⟩;have ay:=Ad ap bb;have bp:=bm.below bb;have bq:=bf.out w2 ay
 go_wp2_with fail
 refine bq.mono ?_;rintro e w3 ⟨rfl,bc⟩;have ad:=Ad ay bc;have az:=bp.below bc;have a0:=HQ.out w3 ad;obtain⟨c0,-⟩:=a0.blk.cells;have br:=bg.out w3 ad
 go_wp2_with fail
 refine br.mono ?_;rintro e N ⟨rfl,b1⟩;obtain⟨z,ab,ak,a7⟩:=a0.post b1;have bs:nb<w3.heap.size:=az.lt;have ae:Al N nb b (H r b.2.2.2.2.2.2.length u):=(ak.block nb bs ao.out.1).trans az;have aq:O (¬z nb/\nb<N.heap.size):=⟨fun e=>(a7 nb e).elim ao.out.1 (fun e'=>by omega),ae.lt⟩;have af:O _:=(Ac.of_below ad).trans ak (fun _ h _=>h);have ar:O _:=fun j (g:z j)=>(a7 j g).imp_right (Qd ad.size);have a1:=K.below _ _ (Q.out W (Qh _ _)) (af.out.below (K.size _ (Q.out W (Qh _ _))) hB.2);by_cases C:C1=0
 case neg =>
  have R:O (Dk a W f (V (J T)) p vi vf k (H F d.length L) (H r b.2.2.2.2.2.2.length u) d b (fun m s=>m=NN/\∀n,Rm (n+1) k.st->Rm n s) (Rm 1 k.st) (Qb (Ae a C1)) N):=⟨C1,z,rfl,af.out.mono (fun _ h=>Qj h),ar.out,Qj ⟨C,fun h=>C (an.out 0 h).1,l,v.out,ab⟩⟩;obtain⟨n,rfl⟩:∃n,C1=n+1:=⟨C1-1,by omega⟩;simp only[Ae]at R ⊢;clear ab ae C;go_wp2;go_ret;exact R.out
 case pos =>
 subst C;simp only[Ae];obtain⟨bw,bx⟩:=bh.out rfl;have ag:O (∀X,BL N X->Qg prog 152 #[V (J T),Z k.st.head,Z i] X fun e w'=>e=Qb (Ae a (C7 l k.st.head i))/\∃y,An w' f (V (J T)) y k.st.head vi vf { k with st:=B5 l k.st.head i } /\Ac z N w'/\∀j,y j->z j\/N.heap.size<=j):=fun X hb=>by
  have a2:=ab.quiet K hb;refine(K.swap X _ z l k.st.head i (K.below _ _ a1 (hb.mono (K.size _ a1))) a2.st v.out.good.keeps (by have:=bi.out;omega) (by omega)).mono fun e w' ⟨h1,h2⟩=>?_;obtain⟨y,h3,h4,h5⟩:=a2.post h2;exact⟨h1,y,h3,(Ac.of_below hb).trans h4 (fun _ h _=>h),fun j g=>(h5 j g).imp_right (Qd hb.size)⟩
 have au:O (B3 (B5 l k.st.head i)):=by
  by_cases hc:C7 l k.st.head i=0
  ·exact ME v.out.good (So v.out.good.keeps _ _) (UW hc).1
  ·exact ME v.out.good (So v.out.good.keeps _ _) (UX hc).1
 have av:O (C7 l k.st.head i=0->(B5 l k.st.head i).obs=l.obs/\(B5 l k.st.head i).head=i):=fun h=>UW h;have ah:O (C7 l k.st.head i≠0->(B5 l k.st.head i).obs=l.obs/\(B5 l k.st.head i).head=l.head):=fun h=>UX h;have ai:O (∀n,Rm n l->C7 l k.st.head i=0/\Rm n (B5 l k.st.head i)):=fun n h=>by
  have:=qV h (t:=i) (by omega);rw[v.out.head]at this;exact this
 generalize B5 l k.st.head i=S2 at ag au av ah ai;generalize C7 l k.st.head i=C2 at ag av ah ai;have D:BL N N.drew:=(Qh _ _).drew;obtain⟨c0,-,c2,-⟩:=ab.blk.cells;have bt:=Aa D c0;have bu:=Aa D c2
 go_upto_region 8 with fail
 go_cut [11] from 37 to 46 (fun c wx=> ∃y,c=Ae a C2/\An wx f (V (J T)) y k.st.head vi vf { k with st:=S2 } /\Ac z N wx/\∀j,y j->z j\/N.heap.size<=j)
 case first =>
  first
   | (go_region_with (go_at_call 152;(with_reducible refine(ag.out _ D).mono ?_);rintro e wZ ⟨rfl,y,b2,b3,b4⟩))
   | fail
  all_goals
   go_wp2;go_meet
   case rel=>exact ⟨y,rfl,b2,b3,b4⟩
 case rest =>
 obtain⟨y,rfl,M,aa,a8⟩:=hcut;have a3:Al wc nb b (H r b.2.2.2.2.2.2.length u):=(aa.block nb aq.out.2 aq.out.1).trans ae;have a4:O (Ac p W wc):=af.out.trans aa (fun j g hjl=>(ar.out j g).elim id (fun e=>absurd hjl (by omega)));have aj:O (∀j,y j->p j\/W.heap.size<=j):=fun j g=>(a8 j g).elim (ar.out j) (fun e=>Qm (Qd af.out.size e));clear ab ae c0 c2 bt bu D ag aa a8 aq;by_cases C:C2=0
 case neg =>
  have R:O (Dk a W f (V (J T)) p vi vf k (H F d.length L) (H r b.2.2.2.2.2.2.length u) d b (fun m s=>m=NN/\∀n,Rm (n+1) k.st->Rm n s) (Rm 1 k.st) (Qb (Ae a C2)) wc):=⟨C2,y,rfl,a4.out.mono (fun _ h=>Qj h),aj.out,Qj ⟨C,fun h=>C (ai.out 0 (an.out 0 h).2).1,S2,v.out.trans ⟨au.out,fun x t h=>MF (ah.out C).1 h,(ah.out C).2⟩,M⟩⟩;obtain⟨n,rfl⟩:∃n,C2=n+1:=⟨C2-1,by omega⟩;simp only[Ae]at R ⊢;clear M a3 C;go_wp2;go_ret;exact R.out
 case pos =>
 subst C;simp only[Ae];obtain⟨a9,bz⟩:=av.out rfl;have q:¬nb=f:=by have:=ax.out;omega
 have R:O (Dk a W f (V (J T)) p vi vf k (H F d.length L) (H r b.2.2.2.2.2.2.length u) d b (fun m s=>m=NN/\∀n,Rm (n+1) k.st->Rm n s) (Rm 1 k.st) (.returned Qz) (EC ((wc.setCell ⟨f,2,U⟩ (Z i)).setCell ⟨f,3,U⟩ (H F d.length L)) f b (H r b.2.2.2.2.2.2.length u)).drew):=by
  have E:C5 (EC ((wc.setCell ⟨f,2,U⟩ (Z i)).setCell ⟨f,3,U⟩ (H F d.length L)) f b (H r b.2.2.2.2.2.2.length u)) f (V (J T)) k.spec i (H F d.length L) b (H r b.2.2.2.2.2.2.length u):=C5.setNow ((M.blk.setHd i).setIds _);have a5:Ac (fun j=>j=f) wc (EC ((wc.setCell ⟨f,2,U⟩ (Z i)).setCell ⟨f,3,U⟩ (H F d.length L)) f b (H r b.2.2.2.2.2.2.length u)):=(((Ac.refl (fun j=>j=f) wc).setCell (Qj rfl) _).setCell (Qj rfl) _).trans (TW _ f b _) (fun _ h _=>h);generalize EC ((wc.setCell ⟨f,2,U⟩ (Z i)).setCell ⟨f,3,U⟩ (H F d.length L)) f b (H r b.2.2.2.2.2.2.length u)=W8 at E a5 ⊢;have D:BL W8 W8.drew:=(Qh _ _).drew;have a6:Ac (fun j=>j=f) wc W8.drew:=a5.trans (Ac.of_below (P:=fun _=>False) D) (fun _ h _=>h.elim);replace E:=E.keep (D.block f E.lt);have bv:=K.keep _ _ _ _ _ _ M.st a6 (fun j g e=>M.off (e▸g));have aw:=(a4.out.mono (fun _ h=>Qj h)).trans a6 (fun j g _=>(Qm g:p j\/j=f));obtain rfl:=bk.out;refine⟨0,y,rfl,aw,aj.out,Qm ⟨rfl,S2,NN,au.out,fun x t hx=>MF a9 (v.out.old x t hx),bz,bx,MF a9 (bj.out▸bw),⟨rfl,fun n h=>(ai.out n (an.out n h).2).2⟩,?_⟩⟩;exact⟨E,bv,⟨KD HJ.out.1.1 (fun q j g e=>e.elim (HO.out.1 q j g).2 (HO.out.1 q j g).1) aw,HJ.out.1.2⟩,JP HJ.out.2 (fun q j g e=>e.elim (HO.out.2 q j g).2 (HO.out.2 q j g).1) aw,M.off,HO.out.1.up (fun q j g=>KO HJ.out.1.1 q g) aj.out,HO.out.2.up (fun q j g=>JU HJ.out.2 q g) aj.out⟩
 unfold EC at R;obtain⟨d0,d1,d2,d3,d4,d5,d6,d7,d8,d9,b0,dz⟩:=M.blk.cells;obtain⟨n1,n2,n3,n4,n5,n6,ce⟩:=b;obtain⟨x0,x1,x2,x3,x4,x5,x6⟩:=a3.cells;dsimp only at x0 x1 x2 x3 x4 x5 x6 d2 d3 d4 d5 d6 d7 d8 d9 b0 R ⊢
 go_upto_region 11 with fail
 go_region
 go_wp2;go_ret;exact R.out
end
end Go.Proofs.YtcllhobffhkafaaGreatDoor
