/- By an AI agent. -/
import Derived.Test.YtcllhobffhkafaaGreatDoorTxnAdd
import Derived.Test.YtcllhobffhkafaaGreatDoorLkp4
set_option maxRecDepth 100000
set_option maxHeartbeats 16000000
open Go.Proofs.Tryz
open Go renaming World->G,Value->V,Calls->Qd,Addr->Qe,heap_alloc_new->Qh,bodyPost_ret->Qn,results->Qo
open Go.Ending renaming returned->Qc
open Go.IntKind renaming i64->U
open Go.Obj renaming cells->A
open Go.Proofs.Tryz renaming prog->Qb,results112->Qp
open Go.RowKit renaming Hid->I
open Go.RowKit.Below renaming size->Qk,refl->Qu,drew->Qv,alloc->Qw
open Go.Value renaming int->O,string->J,slice->H,pointer->Qa,agg->Qf,tuple->Qg,iface->Qm,nilIface->Qx
open List renaming length_append->Qj,length_filter_le->Qs,length_take->Qt
open Nat renaming le_trans->Qi,le_refl->Ql,ne_of_lt->Qq,lt_of_lt_of_le->Qr
open Option renaming none->Z,some->S
namespace Go.Proofs.YtcllhobffhkafaaGreatDoor
open Go.RowKit Go.Extern.Stop Go.Stop Go.Extern Go.Sort Go.Shelf Go.Lib
theorem rT (t:Tx) (b:Sn) (n:Nat) (h:n<t.2.1.length):(Bc t b).take (n+1)=(Bc t b).take n++ [Bn t.2.1[n] (Jd t b t.2.1[n])]:=by
 have c:n<(Bc t b).length:=by simpa [Bc] using h
 rw[List.take_succ_eq_append_getElem c];simp[Bc]
theorem rU (B r:Nat) (vb va vr v:V) (t:Tx) (d:Sn) (w:G) (a:Nat->Qe) (h:G0 w a) (ac:C8 312 B w r vb va vr t) (hx:Ai w v d.2.2.2.2.2.2) (ad:Cj t) (hn:(Am d).1=0) (ar:Fn t d=false) (b0:t.2.1.length<=1000) (b1:t.2.2.length<=1000) :
  Qd Qb 199 #[Qa (S ⟨r,0,Z⟩),v,O U (d.2.2.1+1)] w fun e w'=> ∃v',e=Qc v'/\Ai w' v' (CH t d)/\DP w v'/\BL w w':=by
 obtain⟨i0,bt,bu,bv,ba⟩:=Tryz.fileInfo;have eg:∀args w,(callFunc 283 args).run Qb w= .ok (.enter 283 args) w:=enters_of func283 (by kernel_rfl) rfl;have z:BL w (w.alloc (A #[Qa (S ⟨r,0,Z⟩)] 174)):=Af _ _;have R:(w.alloc (A #[Qa (S ⟨r,0,Z⟩)] 174)).cell? ⟨w.heap.size,0,Z⟩=S (Qa (S ⟨r,0,Z⟩)):=by
  rw[cell_of_row _ _ _ _ _ _ (Qh _ _)];rfl
 have bd:d.2.2.2.2.2.2.length<=60:=(Jf hn).1;have au:=Mu v d.2.2.2.2.2.2 (w.alloc (A #[Qa (S ⟨r,0,Z⟩)] 174)) (hx.below z) (by omega);obtain⟨a3,a4,-⟩:=Tm ad hn ar;have av:I ((∀f∈B8 t d++Bc t d,A7 f.1.data.toList≠Z)/\(B8 t d++Bc t d).Pairwise (fun f g=>fk f≠fk g)):=⟨a3,a4⟩;have ae:I (∀ys:List Fl,ys.Perm (B8 t d++Bc t d)->Eu ys->ys=CH t d):=fun ys h1 h2=>iQ ad hn ar h1 h2;have aw:I ((B8 t d).length<=60):=Qi (Qs _ _) bd;have af:I ((Bc t d).length=t.2.1.length):=by show _=_;simp[Bc]
 have be:I (∀W,BL w W->Ai W va t.2.1):=fun W l=>(Gt ac.adds).1.below l;have ag:I (∀W,BL w W->C8 312 B W r vb va vr t):=fun W l=>ac.below l;have ah:I (∀W,BL w W->CT W a):=fun W l=>(h.below l).list.file.env;have bf:I (∀f∈t.2.1,At f=0):=ad.adds;have bg:I (∀n (hh:n<t.2.1.length),(Bc t d).take (n+1)=(Bc t d).take n++ [Bn t.2.1[n] (Jd t d t.2.1[n])]):=fun n hh=>rT t d n hh;have bh:I ((d.2.2.2.2.2.2.filter fun f=> !BI t.2.2 f.1)=B8 t d):=rfl;obtain⟨q,c,hv⟩:=hx.form;obtain⟨qa,ca,a5⟩:=CY ac.adds;obtain⟨LA,an⟩:∃L,t.2.1.length=L:=⟨_,rfl⟩;have ai:I (t.2.1.length=LA):=an;rw[an]at a5 b0;have aj:I (∀W,BL w W->∀f,At f=0->Qd Qb 284 #[Qa (S ⟨r,0,Z⟩),A1 f,O U (d.2.2.1+1)] W fun e w'=>e=Qc (O U (Jd t d f))/\BL W w'):=fun W l f hf=>rO B r vb va vr t d f W a (ah.out W l) (ag.out W l) hf;generalize bx:CH t d=TF at ae ⊢;generalize bz:d.2.2.1+1=NS at aj ⊢;subst hv a5;clear ac hx ad hn ar h a3 a4 an bx bz
 go_enter func199,ntmps199
 go_upto_region 1 with fail
 generalize w.alloc (A #[Qa (S ⟨r,0,Z⟩)] 174)=i at *;have ak:=fun (v1:V) (W:G) (l:BL i W) (ho:W.ownsRow i.heap.size 77 6 v1 d.2.2.2.2.2.2.length (Aw d.2.2.2.2.2.2))=>Uj 283 #[Qa (S ⟨w.heap.size,0,Z⟩)] (fun f=>BI t.2.2 f.1) v1 d.2.2.2.2.2.2 i W l ho (by omega) eg (fun f _ W' hW'=>rP B r w.heap.size vb _ vr t f W' (ag.out W' (z.trans (hW'.mono z.size))) b1 (Aa hW' R))
 go_wp2_with fail
 refine au.mono ?_;rintro e w1 ⟨v1,rfl,a6,a7⟩;have ax:=ak v1 w1 a7 a6;clear ak au a6
 go_wp2_with fail
 refine ax.mono ?_;rintro e w2 ⟨v2,rfl,ap,Y⟩;clear ax a7;rw[bh.out]at ap;have bi:I (w2.ownsRow i.heap.size 77 6 v2 (B8 t d++(Bc t d).take 0).length (Aw (B8 t d++(Bc t d).take 0))):=by
  show World.ownsRow _ _ _ _ _ _ _;simpa using ap
 have bj:BL w w2:=Ad z Y;have kx:=Aa Y R;have ka:=(ag.out w2 bj).cells.cells.2.2.1;have bk:I (BL i w2):=Y;have C:I (BL w i):=z;have bl:I (∀W,BL i W->W.cell? ⟨w.heap.size,0,Z⟩=S (Qa (S ⟨r,0,Z⟩))):=fun W l=>Aa l R;clear ap Y z R eg
 go_wp2_with fail
 clear kx ka
 go_loopw [7,9,19] (fun s7 _ k wr=> ∃n:Nat,n<=LA/\k=O U n/\BL i wr/\wr.ownsRow i.heap.size 77 6 s7 (B8 t d++(Bc t d).take n).length (Aw (B8 t d++(Bc t d).take n))) (fun _ _ k _=>LA-(intOf k).toNat)
 case atStart=>exact ⟨0,by omega,rfl,bk.out,bi.out⟩
 case round =>
  obtain⟨n,hn,rfl,l,ao⟩:=hrel;have OW:I (wr.ownsRow i.heap.size 77 6 u7 (B8 t d++(Bc t d).take n).length (Aw (B8 t d++(Bc t d).take n))):=ao;have D:I (BL i wr):=l;have al:I (BL w wr):=C.out.trans (l.mono C.out.size);clear ao;by_cases bm:n<LA
  ·have s:n<t.2.1.length:=by rw[ai.out];exact bm
   obtain⟨b,o,hq,hc⟩:=(be.out wr al.out).cells (fun e=>by rw[e]at s;simp at s);subst hq;obtain⟨c0,c1,c2,c3,c4,c5⟩:=hc n s;have ay:I ((B8 t d++(Bc t d).take n).length<=1100):=by
    show _<=_;have h1:=aw.out;have h2:=af.out;rw[Qj,Qt];omega
   have E:=bg.out n s;have az:=bf.out t.2.1[n] (List.getElem_mem _);have F:=Ja wr t.2.1[n];have u:=Ir wr t.2.1[n];unfold GR at F u;have K:=aj.out _ (al.out.trans (u.mono al.out.size)) t.2.1[n] az;generalize t.2.1[n]=f at c0 c1 c2 c3 c4 c5 E F u K;generalize Jd t d f=y at E K;unfold Bn at E;unfold A1 at K;obtain⟨M,N,P,m,p,bb⟩:=f;dsimp only at c0 c1 c2 c3 c4 c5 E F u K;have b4:(n:Int)<(LA:Int):=by omega
   have b2:(0:Int)<=(n:Int):=by omega
   clear hc s az;have bn:I ((Bc t d).take (n+1)=(Bc t d).take n++ [(M,N,P,m,p,y)]):=E;clear E
   go_upto_region 5 with fail
   clear c0 c1 c2 c3 c4 c5;generalize wr.alloc (A #[J M,J N,O U P,O U m,O U p,O U bb] 77)=W5 at *;have kx:=bl.out W5 (D.out.trans (u.mono D.out.size));obtain⟨r0,r1,r2,r3,r4,Q,-⟩:=F.cells;dsimp only at r0 r1 r2 r3 r4 Q
   go_wp2_with fail
   refine K.mono ?_;rintro e w6 ⟨rfl,aq⟩;clear K kx r0 r1 r2 r3 r4 Q;have T:=F.below aq;have Q:=T.cells.2.2.2.2.2.1;have r6:=T.cells.2.2.2.2.2.2;dsimp only at Q;have a0:BL wr w6:=Ad u aq;have bo:=T.toSeq (x:=y);have X:BL wr (w6.setCell ⟨wr.heap.size,5,Z⟩ (O U y)):=a0.setCell (Ql _) _;clear F aq T a0 u
   go_upto_region 6 with fail
   clear Q r6;generalize w6.setCell ⟨wr.heap.size,5,Z⟩ (O U y)=W7 at *;obtain⟨r0,r1,r2,r3,r4,Q,-⟩:=bo.cells;dsimp only at r0 r1 r2 r3 r4 Q;have b3:BL W7 (W7.alloc (A #[J M,J N,O U P,O U m,O U p,O U y] 77)):=Af _ _;have am:BL i (W7.alloc (A #[J M,J N,O U P,O U m,O U p,O U y] 77)):=(D.out.trans (X.mono D.out.size)).alloc (Qi D.out.size X.size) _;have a9:BL wr (W7.alloc (A #[J M,J N,O U P,O U m,O U p,O U y] 77)):=X.alloc X.size _
   go_wp2_with (at_builtin;refine wpList_append_own _ rfl _ _ 38 rfl i.heap.size 77 i0 (Qf #[J ⟨#[]⟩,J ⟨#[]⟩,O U 0,O U 0,O U 0,O U 0]) 6 64 underlying38 bt bu bv ba rfl (by decide) u7 (B8 t d++(Bc t d).take n).length (Aw (B8 t d++(Bc t d).take n)) rfl ?qc0 ⟨W7.heap.size,0,Z⟩ 1 1 (Bl (M,N,P,m,p,y)) rfl ?qc1 ?qc2 ?qc3 ?qc4 ?qc5 ?qc6 ?_)
   case qc0=>exact E7 OW.out a9
   case qc1=>rfl
   case qc2=>exact JH W7 (M,N,P,m,p,y)
   case qc3=>exact Hu _
   case qc4=>have:=ay.out;unfold maxLen;omega
   case qc5=>have:=ay.out;omega
   case qc6=>exact am.size
   intro v' w8 aa ab bc;have bp:BL i w8:=am.grown ab am.size (fun k hk=>(AF OW.out hk).1);have bq:I (w8.ownsRow i.heap.size 77 6 v' ((B8 t d++(Bc t d).take n).length+1) (Aw (B8 t d++(Bc t d).take n)++Bl (M,N,P,m,p,y))):=by
    show World.ownsRow _ _ _ _ _ _ _;rw[Qj,Qt];exact aa
   clear aa bc ab;go_wp2;go_roundw
   case rel=>exact ⟨n+1,by omega,by go_num,bp,by rw[bn.out,<-List.append_assoc,Qj,Hv];simpa [Aw] using bq.out⟩
   case measure=>simp [intOf];omega
  ·obtain rfl:n=LA:=by omega
   have a1:I (wr.ownsRow i.heap.size 77 6 u7 (B8 t d++Bc t d).length (Aw (B8 t d++Bc t d))):=by
    have h':=OW.out;have e:(Bc t d).take n=Bc t d:=List.take_of_length_le (by rw[af.out,ai.out];exact Ql _);rw[e]at h';exact h'
   have br:I (DP w u7):=fun j hj=>Qi C.out.size (AF a1.out hj).1;have a2:=rM u7 (B8 t d++Bc t d) i wr a (ah.out i C.out) D.out a1.out (by
    have h1:=aw.out;have h2:=af.out;have h3:=ai.out;rw[Qj];omega) av.out.1 av.out.2
   go_wp2_with fail
   refine a2.mono ?_;rintro e w9 ⟨rfl,ys,hp,hu,a8,bw⟩;clear a2;have bs:I (Ai w9 u7 TF):=by
    show Ai _ _ _;rw[<-ae.out ys hp hu];exact a8
   clear hp hu a8;go_wp2;go_ret;exact⟨_,rfl,bs.out,br.out,C.out.trans (bw.mono C.out.size)⟩
theorem Al.zeros {W:G} {b:Nat} (h:Al W b AC (H Z 0 0)):W.cell? ⟨b,0,Z⟩=S (O U 0)/\W.cell? ⟨b,1,Z⟩=S (O U 0)/\W.cell? ⟨b,2,Z⟩=S (O U 0)/\W.cell? ⟨b,3,Z⟩=S (O U 0)/\W.cell? ⟨b,4,Z⟩=S (O U 0)/\W.cell? ⟨b,5,Z⟩=S (J ⟨#[]⟩)/\W.cell? ⟨b,6,Z⟩=S (H Z 0 0)/\∀o,W.frozen? ⟨b,o,Z⟩=false:=by
 obtain⟨c,d,f,g,i,j,k⟩:=h.cells;exact⟨c,d,f,g,i,j,k,h.fz⟩
theorem Fu {X:G} {b p o:Nat} {v d f g i l m n:V} (q:X.cell? ⟨b,o,Z⟩=S v) (c:b≠p):(((((((X.setCell ⟨p,0,Z⟩ d).setCell ⟨p,1,Z⟩ f).setCell ⟨p,2,Z⟩ g).setCell ⟨p,3,Z⟩ i).setCell ⟨p,4,Z⟩ l).setCell ⟨p,5,Z⟩ m).setCell ⟨p,6,Z⟩ n).cell? ⟨b,o,Z⟩=S v:=by
 have k:∀(Y:G) (j:Nat) (u:V),Y.cell? ⟨b,o,Z⟩=S v->(Y.setCell ⟨p,j,Z⟩ u).cell? ⟨b,o,Z⟩=S v:=fun Y j u h=>by
  rw[World.cell?_setCell_other _ _ _ _ (by intro e;injection e with e;exact c e.symm)];exact h
 exact k _ _ _ (k _ _ _ (k _ _ _ (k _ _ _ (k _ _ _ (k _ _ _ (k _ _ _ q))))))
theorem Pe {c X:G} {B p:Nat} {d f g i j k l:V} (h:Below B c X) (b:B<=p):Below B c (((((((X.setCell ⟨p,0,Z⟩ d).setCell ⟨p,1,Z⟩ f).setCell ⟨p,2,Z⟩ g).setCell ⟨p,3,Z⟩ i).setCell ⟨p,4,Z⟩ j).setCell ⟨p,5,Z⟩ k).setCell ⟨p,6,Z⟩ l):=((((((h.setCell b _).setCell b _).setCell b _).setCell b _).setCell b _).setCell b _).setCell b _
theorem Lc {B:Nat} {a w:G} {o b:Obj} (h:Below B a (w.alloc o)) (c:B<=w.heap.size) (d:a.heap.size<=w.heap.size):Below B a (w.alloc b):=by
 refine⟨h.os,h.tape,h.output,by simp;omega,fun k hk=>?_⟩;rw[<-h.block k hk];simp only[World.alloc,Array.getElem?_push];rw[if_neg (by omega),if_neg (by omega)]
theorem Dj {w:G} {o c:Obj} {b p:Nat} {v:V} (h:(w.alloc o).cell? ⟨b,p,Z⟩=S v) (d:b<w.heap.size):(w.alloc c).cell? ⟨b,p,Z⟩=S v:=by
 rw[<-h];simp only[World.cell?,World.alloc,Array.getElem?_push,Qq d,if_false]
theorem Vj {X:G} {p:Nat} {g:Sn} {q:Option Qe} {n c:Nat} {v:V} {d:List Fl} (h:Al X p g (H q n c)) (f:Ai X v d) (s:Sn) (vf:V):Ai (FR X p s vf) v d:=by
 have b:=IZ h f;exact(((((((f.set_off b 0 _).set_off b 1 _).set_off b 2 _).set_off b 3 _).set_off b 4 _).set_off b 5 _).set_off b 6 _)
theorem JZ (w:G):Al (w.alloc (A #[O U 0,O U 0,O U 0,O U 0,O U 0,J ⟨#[]⟩,H Z 0 0] 40)) w.heap.size AC (H Z 0 0):=Qh _ _
theorem Ld (w:G):Al (w.alloc (A #[O U 0,O U 0,O U 0,O U 0,O U 0,J ⟨#[]⟩,H Z 0 0] 40)).drew w.heap.size AC (H Z 0 0):=Qh w _
theorem Pf (w:G) (b c d f g:Int) (o:ByteArray) (v:V) (i:List Fl):Al (w.alloc (A #[O U b,O U c,O U d,O U f,O U g,J o,v] 40)) w.heap.size (b,c,d,f,g,o,i) v:=Qh _ _
theorem Pg {X:G} {p:Nat} {s:Sn} {vf:V} (h:Al X p s vf) (b c d f g:Int) (o:ByteArray) (v:V) (i:List Fl):Al (((((((X.setCell ⟨p,0,Z⟩ (O U b)).setCell ⟨p,1,Z⟩ (O U c)).setCell ⟨p,2,Z⟩ (O U d)).setCell ⟨p,3,Z⟩ (O U f)).setCell ⟨p,4,Z⟩ (O U g)).setCell ⟨p,5,Z⟩ (J o)).setCell ⟨p,6,Z⟩ v) p (b,c,d,f,g,o,i) v:=h.set (b,c,d,f,g,o,i) v
theorem Ph {X:G} {p:Nat} {s:Sn} {q:Option Qe} {n c:Nat} (h:Al X p s (H q n c)) (d f g i j:Int) (o:ByteArray) (v:V) {k:V} {b:List Fl} (l:Ai X k b):Ai (((((((X.setCell ⟨p,0,Z⟩ (O U d)).setCell ⟨p,1,Z⟩ (O U f)).setCell ⟨p,2,Z⟩ (O U g)).setCell ⟨p,3,Z⟩ (O U i)).setCell ⟨p,4,Z⟩ (O U j)).setCell ⟨p,5,Z⟩ (J o)).setCell ⟨p,6,Z⟩ v) k b:=Vj h l (d,f,g,i,j,o,b) v
def Ka (w:G) (a:Nat->Qe) (E:Nat×Option Nat) (b:Sn) (e:Ending) (w':G):Prop :=
 ∃vf ev,e=Qc (Qg #[A9 b vf,ev])/\Ai w' vf b.2.2.2.2.2.2/\DP w vf/\AU w' a ev E/\BL w w'
theorem Pi {w w':G} {a:Nat->Qe} {E:Nat×Option Nat} {b:Sn} {c:V} (d:b=AC) (f:AU w' a c E) (g:BL w w'):Ka w a E b (Qc (Qg #[Qf #[O U 0,O U 0,O U 0,O U 0,O U 0,J ⟨#[]⟩,H Z 0 0],c])) w':=by
 subst d;exact⟨H Z 0 0,c,rfl,Or.inl ⟨Z,0,rfl,fun _=>rfl,rfl⟩,(fun _ h=>by cases h),f,g⟩
theorem rV (t:Tx) (b:Sn) (d day c:Int) (h:(Am b).1=0):CV t b d day c=if Gd t b.2.2.2.2.2.2≠0 then (Gd t b.2.2.2.2.2.2,Z) else ((Am (Fm t b d day c)).1,Z):=by
 unfold CV Gd Je Fn;rw[if_neg (by simpa using h)];split
 ·simp
 ·split
  ·simp
  ·simp
theorem rW {t:Tx} {b:Sn} (h:Gd t b.2.2.2.2.2.2=0):Fn t b=false:=by
 unfold Gd at h;split at h
 ·cases h
 ·split at h
  ·cases h
  ·rename_i c;unfold Fn;simpa using c
theorem Kb {f:Fl} (h:At f=0):f.1.size<=30/\f.2.1.size<=30:=by
 obtain⟨g,n,c,b,j⟩:=D0 h;have d:f.1.data.toList.length<=16:=by
  rw[(El c).1];have:=(Fb (El c).2.1).2;cases g<;>simp [AE,DX,DY]<;>omega
 have i:f.2.1.data.toList.length<=12:=by
  unfold Do at b;cases g
  ·simp only[Bool.false_eq_true,if_false,DC,Bool.and_eq_true,decide_eq_true_eq]at b;omega
  ·simp only[if_true,decide_eq_true_eq]at b;rw[b];decide
 rw[AA]at d i;omega
theorem Vk {t:Tx} {b:Sn} (i:Cj t) (j:(Am b).1=0) (l:t.2.1.length<=100):(CH t b).length<=200/\Eb (CH t b):=by
 obtain⟨k,c,_⟩:=Jf j;refine⟨?_,fun g hg=>?_⟩
 ·unfold CH;rw[(JL _ _).length_eq,Qj];have m:(B8 t b).length<=b.2.2.2.2.2.2.length:=Qs _ _;have n:(Bc t b).length=t.2.1.length:=by simp[Bc]
  omega
 ·rcases Of.1 hg with⟨h,_⟩ | h
  ·exact Kb (c g h).1
  ·obtain⟨f,d,rfl⟩:=List.mem_map.1 h;exact Kb (f:=f) (i.adds f d)
theorem rX (B:Nat) (v:V) (FP:Nat->Prop) (t:Tx) (b:Sn) (vf:V) (f day c:Int) (w:G) (a:Nat->Qe) (h:G0 w a) (u:CJ 312 B w v FP t) (ai:Cj t) (hx:Ai w vf b.2.2.2.2.2.2) (hl:b.2.2.2.2.2.2.length<=100) (bx:Eb b.2.2.2.2.2.2) (bf:t.2.1.length<=100) (bg:t.2.2.length<=1000) :
  Qd Qb 112 #[v,A9 b vf,O U f,O U day,O U c] w fun e w'=>Ka w a (CV t b f day c) (Dg t b f day c) e w':=by
 obtain⟨tb,vb,va,vr,rfl,bt,-,-,-⟩:=u;have y:I (∀W,BL w W->G0 W a):=fun W hb=>h.below hb;have al:I (∀W,BL w W->C8 312 B W tb vb va vr t):=fun W hb=>bt.below hb;have HX:I (∀W,BL w W->Ai W vf b.2.2.2.2.2.2):=fun W hb=>hx.below hb;have ax:I (∀W,BL w W->Qd Qb 79 #[A9 b vf] W fun e w'=> ∃ev,e=Qc ev/\AU w' a ev (Am b)/\BL W w'):=fun W hb=>Ji b vf W a (y.out W hb).list (HX.out W hb) (by omega) bx;have bh:I (∀W,BL w W->Qd Qb 197 #[Qa (S ⟨tb,0,Z⟩),vf] W fun e w'=>e=Qc (Ae a (Gd t b.2.2.2.2.2.2))/\BL W w'):=fun W hb=>qZ B tb vb va vr vf t b.2.2.2.2.2.2 W a (y.out W hb) (al.out W hb) (HX.out W hb) (by omega) (by omega) bg;have bi:I (∀W,BL w W->Qd Qb 198 #[Qa (S ⟨tb,0,Z⟩)] W fun e w'=>e=Qc (J (Is t))/\BL W w'):=fun W hb=>rN B tb vb va vr t W a (y.out W hb).list.file.env (al.out W hb) ai.adds (by omega);have bj:I ((Am b).1=0->Gd t b.2.2.2.2.2.2=0->∀W,BL w W->Qd Qb 199 #[Qa (S ⟨tb,0,Z⟩),vf,O U (b.2.2.1+1)] W fun e w'=> ∃v',e=Qc v'/\Ai w' v' (CH t b)/\DP W v'/\BL W w'):=fun h0 hf W hb=>rU B tb vb va vr vf t b W a (y.out W hb) (al.out W hb) (HX.out W hb) ai h0 (rW hf) (by omega) bg;have ac:I ((Am b).1=0->∀(W:G) (C:V),BL w W->Ai W C (CH t b)->Qd Qb 79 #[A9 (Fm t b f day c) C] W fun e w'=> ∃ev,e=Qc ev/\AU w' a ev (Am (Fm t b f day c))/\BL W w'):=fun h0 W C hb h2=>Ji (Fm t b f day c) C W a (y.out W hb).list h2 (Vk ai h0 bf).1 (Vk ai h0 bf).2;have bk:I ((Am b).1=0-> -1<=b.2.2.1/\b.2.2.1<=1073741824):=fun h0=>by
  have:=(IQ.1 (GK h0).1).2.1.1;exact⟨by omega,this.2⟩
 have bl:I ((Am b).1≠0->CV t b f day c=Am b):=fun h=>by unfold CV;rw[if_pos h]
 have ay:I ((Am b).1=0->CV t b f day c=if Gd t b.2.2.2.2.2.2≠0 then (Gd t b.2.2.2.2.2.2,Z) else ((Am (Fm t b f day c)).1,Z)):=fun h=>rV t b f day c h;have T:I ((CV t b f day c).1≠0->Dg t b f day c=AC):=fun h=>iR h;have am:I ((CV t b f day c).1=0->Dg t b f day c=(f,b.1,b.2.2.1+1,day,c,Is t,CH t b)):=fun h=>(JM h).2.2.2.2;have bm:BL w (w.alloc (A #[O U b.1,O U b.2.1,O U b.2.2.1,O U b.2.2.2.1,O U b.2.2.2.2.1,J b.2.2.2.2.2.1,vf] 40)):=Af _ _;have bn:=Al.new w b vf;obtain⟨qf,cf,bu⟩:=hx.form;have bo:I (Fm t b f day c=(f,b.1,b.2.2.1+1,day,c,Is t,CH t b)):=rfl;rw[bo.out]at ac ay;generalize r:CV t b f day c=CE at *;generalize b5:Dg t b f day c=CS at *;generalize b6:Am b=SE at *;generalize b7:Gd t b.2.2.2.2.2.2=TF at *;generalize Is t=OP at *;clear h bt hx ai hl bx bf bg r b5 b6 b7 bo;have bz:I (b.2.2.2.2.2.2.length<=b.2.2.2.2.2.2.length):=Ql _;generalize b.2.2.2.2.2.2.length=L at bu;subst bu;unfold A9 at ax ac ⊢;clear HX al bz;generalize CH t b=R at *;generalize Am (f,b.1,b.2.2.1+1,day,c,OP,R)=NE at *;obtain⟨g,l,d,m,p,D,cb⟩:=b;dsimp only at *
 go_enter func112,ntmps112
 go_upto_region 1 with fail
 have az:=Qh (w.alloc (A #[O U g,O U l,O U d,O U m,O U p,J D,H qf L cf] 40)) (A #[O U 0,O U 0,O U 0,O U 0,O U 0,J ⟨#[]⟩,H Z 0 0] 40);have aj:Below (w.alloc (A #[O U g,O U l,O U d,O U m,O U p,J D,H qf L cf] 40)).heap.size (w.alloc (A #[O U g,O U l,O U d,O U m,O U p,J D,H qf L cf] 40)) ((w.alloc (A #[O U g,O U l,O U d,O U m,O U p,J D,H qf L cf] 40)).alloc (A #[O U 0,O U 0,O U 0,O U 0,O U 0,J ⟨#[]⟩,H Z 0 0] 40)):=Af _ _;have a0:(w.alloc (A #[O U g,O U l,O U d,O U m,O U p,J D,H qf L cf] 40)).heap.size=w.heap.size+1:=by simp
 have ak:=bn.below aj;have a1:=Ad bm aj;rw[a0]at az;have bp:Al ((w.alloc (A #[O U g,O U l,O U d,O U m,O U p,J D,H qf L cf] 40)).alloc (A #[O U 0,O U 0,O U 0,O U 0,O U 0,J ⟨#[]⟩,H Z 0 0] 40)) (w.heap.size+1) AC (H Z 0 0):=az;have b0:w.heap.size<=w.heap.size+1:=Nat.le_succ _;clear bm aj bn az a0;generalize (w.alloc (A #[O U g,O U l,O U d,O U m,O U p,J D,H qf L cf] 40)).alloc (A #[O U 0,O U 0,O U 0,O U 0,O U 0,J ⟨#[]⟩,H Z 0 0] 40)=W2 at *;have b8:I (w.heap.size≠w.heap.size+1):=by show _≠_;omega
 generalize w.heap.size+1=zb at *;obtain⟨x0,x1,x2,x3,x4,x5,x6⟩:=ak.cells;dsimp only at x0 x1 x2 x3 x4 x5
 go_wp2_with fail
 refine(ax.out W2 a1).mono ?_;rintro e w3 ⟨ev,rfl,u,av⟩;clear x0 x1 x2 x3 x4 x5 x6 ax;have an:BL w w3:=Ad a1 av;have Y:=ak.below av;have ao:=bp.below av;clear av a1 ak bp;by_cases hE:SE.1=0
 case neg =>
  obtain rfl:=bl.out hE;have HZ:I (CS=AC):=T.out hE;obtain⟨tt,uu,rfl⟩:=u.bad hE;have HT:I (AU w3 a (Qm tt uu) CE):=u;obtain⟨E,F,K,M,N,P,Q,yf⟩:=ao.zeros;have s0:=Ah E;have s1:=Ah F;have s2:=Ah K;have s3:=Ah M;have s4:=Ah N;have s5:=Ah P;have s6:=Ah Q;clear u Y ao;go_wp2;exact Qn (v:=Qg #[(Qf #[O U 0,O U 0,O U 0,O U 0,O U 0,J ⟨#[]⟩,H Z 0 0]),Qm tt uu]) (by simp[Qo,Qp,go_sem,E,F,K,M,N,P,Q]) rfl (Pi HZ.out HT.out an)
 case pos =>
 obtain rfl:=u.ok hE;have a2:I (SE.1=0):=hE;have b9:=bk.out hE;have a3:I (CE=if TF≠0 then (TF,Z) else (NE.fst,Z)):=ay.out hE;clear u hE bl ay bk;have x6:=Y.cells.2.2.2.2.2.2
 go_wp2_with fail
 refine(bh.out w3 an).mono ?_;rintro e w4 ⟨rfl,aw⟩;clear x6 bh;have q:BL w w4:=Ad an aw;have z:=Y.below aw;have ad:=ao.below aw;clear aw an Y ao;by_cases ap:TF=0
 case neg =>
  have r:CE=(TF,Z):=by rw[a3.out,if_pos ap]
  subst r;have HZ:I (CS=AC):=T.out ap;obtain⟨n,rfl⟩:∃n,TF=n+1:=⟨TF-1,by omega⟩;have HT:I (AU w4 a (Ae a (n+1)) (n+1,Z)):=rfl;simp only[Ae]at HT ⊢;obtain⟨E,F,K,M,N,P,Q,yf⟩:=ad.zeros;have s0:=Ah E;have s1:=Ah F;have s2:=Ah K;have s3:=Ah M;have s4:=Ah N;have s5:=Ah P;have s6:=Ah Q;clear z ad ap;go_wp2;exact Qn (v:=Qg #[(Qf #[O U 0,O U 0,O U 0,O U 0,O U 0,J ⟨#[]⟩,H Z 0 0]),Qm 410 (Qa (S (a n)))]) (by simp[Qo,Qp,go_sem,E,F,K,M,N,P,Q]) rfl (Pi HZ.out HT.out q)
 case pos =>
 subst ap;have ae:I (CE=(NE.1,Z)):=by show _=_;rw[a3.out,if_neg (by simp)]
 simp only[Ae];have x2:=z.cells.2.2.1;dsimp only at x2;have b1:IntKind.i64.wrap (d+1)=d+1:=IntWalk.i64_in _ (by omega);clear a3
 go_upto_region 10 with fail
 clear x2 b1;have x0:=z.cells.1;have x6:=z.cells.2.2.2.2.2.2;dsimp only at x0;have a4:I (∀W,BL w W->Qd Qb 199 #[Qa (S ⟨tb,0,Z⟩),H qf L cf,O U (d+1)] W fun e w'=> ∃v',e=Qc v'/\Ai w' v' R/\DP W v'/\BL W w'):=bj.out a2.out rfl;clear bj
 go_cut [15] from 38 to 51 (fun s15 wx=> ∃sb C,s15=Qa (S ⟨sb,0,Z⟩)/\Al wx sb (f,g,d+1,day,c,OP,R) C/\Ai wx C R/\DP w C/\BL w4 wx)
 case first =>
  have ca:BL w4 w4:=Qu _ _;clear z ad T am ac ae a2;have aa:w.heap.size<w4.heap.size:=BD x0
  go_region_held3 (fun w'=>BL w4 w'/\w'.cell? ⟨w.heap.size,0,Z⟩=S (O U g)/\w'.cell? ⟨w.heap.size,6,Z⟩=S (H qf L cf))
   (first
    | (go_split_ands;with_reducible exact⟨Below.trans (by with_reducible assumption) (i.mono (Qk (by with_reducible assumption))),Aa i (by with_reducible assumption),Aa i (by with_reducible assumption)⟩)
    | (go_split_ands;with_reducible exact⟨Lc (by with_reducible assumption) ab ab,Dj (by with_reducible assumption) (Qr aa ab),Dj (by with_reducible assumption) (Qr aa ab)⟩)
    | (go_split_ands;with_reducible refine⟨Pe (by with_reducible assumption) ?_,Fu (by with_reducible assumption) ?_,Fu (by with_reducible assumption) ?_⟩;all_goals first | exact a5 | exact Ql _ | exact Qq aa | exact Qq (Qr aa a5))
    | (go_split_ands;with_reducible refine⟨Qv (by with_reducible assumption),?_,?_⟩;all_goals go_keep)
    | (go_split_ands;with_reducible refine⟨Qw (by with_reducible assumption) (Qk (by with_reducible assumption)) _,?_,?_⟩;all_goals go_keep)
    | (go_split_ands;with_reducible refine⟨Qv (Qw (by with_reducible assumption) (Qk (by with_reducible assumption)) _),?_,?_⟩;all_goals go_keep)
    | (go_split_ands;with_reducible exact⟨by assumption,by assumption,by assumption⟩))
   (first
    | (go_at_call 198;with_reducible refine(bi.out _ (by go_split_ands;exact q.trans (Below.mono (by with_reducible assumption) q.size))).mono ?_;rintro e wX ⟨rfl,i⟩;have a5:w4.heap.size<=wX.heap.size:=(by go_split_ands;exact Qi (Qk (by with_reducible assumption)) i.size);first | (with_reducible have bq:=Al.below (Ld _) i) | (with_reducible have bq:=Al.below (JZ _) i) | skip)
    | (go_at_call 199;with_reducible refine(a4.out _ (by go_split_ands;exact q.trans (Below.mono (by with_reducible assumption) q.size))).mono ?_;rintro e wY ⟨C,rfl,bd,aq,i⟩;have aq:DP w C:=DP.low aq (by go_split_ands;exact(q.trans (Below.mono (by with_reducible assumption) q.size)).size);have ab:w4.heap.size<=wY.heap.size:=(by go_split_ands;exact Qi (Qk (by with_reducible assumption)) i.size);obtain⟨q2,c2,rfl⟩:=bd.form;first | (with_reducible have af:=Al.below (JZ _) i;obtain⟨E,F,K,M,N,P,Q,yf⟩:=af.zeros) | (with_reducible have af:=Al.below bq i;obtain⟨E,F,K,M,N,P,Q,yf⟩:=af.zeros) | skip))
  all_goals go_split_ands
  all_goals go_wp2
  all_goals go_meet
  all_goals first
   | (with_reducible exact⟨_,_,rfl,Pf _ _ _ _ _ _ _ _ _,Ai.below bd (Af _ _),aq,by assumption⟩)
   | (with_reducible exact⟨_,_,rfl,Pg af _ _ _ _ _ _ _ _,Ph af _ _ _ _ _ _ _ bd,aq,by assumption⟩)
 case rest =>
  obtain⟨sb,C,rfl,au,ag,bv,bc⟩:=hcut;have br:I (DP w C):=bv;clear bv;have a6:BL w wc:=Ad q bc;have bs:=ad.below bc;clear ad z x0 x6 a4 bi bc q;obtain⟨q2,c2,b4⟩:=ag.form;subst b4;have a7:=ac.out a2.out wc _ a6 ag;obtain⟨LT,bw⟩:∃n,R.length=n:=⟨_,rfl⟩;rw[bw]at au ag a7 br;clear bw ac;obtain⟨p0,p1,p2,p3,p4,p5,p6⟩:=au.cells;dsimp only at p0 p1 p2 p3 p4 p5
  go_wp2_with fail
  refine a7.mono ?_;rintro e w6 ⟨ev,rfl,u,ah⟩;clear a7 p0 p1 p2 p3 p4 p5 p6;have ar:BL w w6:=Ad a6 ah;have X:=bs.below ah;have a8:=au.below ah;have a9:=ag.below ah;clear au ag bs ah a6;by_cases hN:NE.1=0
  case neg =>
   obtain⟨n,hn⟩:∃n,NE.1=n+1:=⟨NE.1-1,by omega⟩;have r:CE=(n+1,Z):=by rw[ae.out,hn]
   have HZ:I (CS=AC):=T.out (by rw[r];simp);subst r;have ba:=Oy n ev w6 a (y.out w6 ar).hand (by
    obtain⟨k,o⟩:=NE;dsimp only at hn;subst hn
    cases o with
    | none=>exact Or.inl u
    | some j =>
     obtain⟨_,fb,h1,_,h2⟩:=u;exact Or.inr ⟨fb,h1,h2⟩)
   obtain⟨tt,uu,rfl⟩:=u.bad hN;have HT:I (∀W,AU W a (Ae a (n+1)) (n+1,Z)):=fun W=>rfl;simp only[Ae]at ba HT;clear u hN hn a8 a9 ae T am
   go_wp2_with fail
   refine ba.mono ?_;rintro e w7 ⟨rfl,be⟩;clear ba;have b2:BL w w7:=Ad ar be;obtain⟨E,F,K,M,N,P,Q,yf⟩:=(X.below be).zeros;have s0:=Ah E;have s1:=Ah F;have s2:=Ah K;have s3:=Ah M;have s4:=Ah N;have s5:=Ah P;have s6:=Ah Q;clear X be ar;go_wp2;exact Qn (v:=Qg #[(Qf #[O U 0,O U 0,O U 0,O U 0,O U 0,J ⟨#[]⟩,H Z 0 0]),Qm 410 (Qa (S (a n)))]) (by simp[Qo,Qp,go_sem,E,F,K,M,N,P,Q]) rfl (Pi HZ.out (HT.out _) b2)
  case pos =>
   obtain rfl:=u.ok hN;have r:CE=(0,Z):=by rw[ae.out,hN]
   have b3:I (CS=(f,g,d+1,day,c,OP,R)):=am.out (by rw[r]);subst r;clear u hN ae T am;obtain⟨p0,p1,p2,p3,p4,p5,p6⟩:=a8.cells;dsimp only at p0 p1 p2 p3 p4 p5;obtain⟨E,F,K,M,N,P,Q,yf⟩:=X.zeros;have HF:I (Ai (FR w6 zb (f,g,d+1,day,c,OP,R) (H q2 LT c2)) (H q2 LT c2) R):=Vj X a9 (f,g,d+1,day,c,OP,R) (H q2 LT c2);obtain⟨u0,u1,u2,u3,u4,u5,u6⟩:=(X.set (f,g,d+1,day,c,OP,R) (H q2 LT c2)).cells;have bb:=Mh (s:=(f,g,d+1,day,c,OP,R)) (vf:=H q2 LT c2) ar b0;unfold FR at u0 u1 u2 u3 u4 u5 u6 bb HF;dsimp only at u0 u1 u2 u3 u4 u5 bb HF;clear X a8 a9;go_wp2;refine Qn (v:=Qg #[Qf #[O U f,O U g,O U (d+1),O U day,O U c,J OP,H q2 LT c2],Qx]) (by simp[Qo,Qp,go_sem,u0,u1,u2,u3,u4,u5,u6]) rfl ?_;show Ka _ _ _ CS _ _;rw[b3.out];exact⟨H q2 LT c2,Qx,rfl,HF.out,br.out,rfl,bb⟩
def Cs (p:ByteArray) (d:Dr):Fl×Nat:=Bx p d.2.1 d.2.2.data.toList 1
inductive Fils:List Dr->List ByteArray->List Fl->Prop
 | nil:Fils [] [] []
 | step {ds:List Dr} {ps:List ByteArray} {fs:List Fl} (d:Dr) (p:ByteArray):Fils ds ps fs->(Cs p d).2=0->Fils (ds++ [d]) (ps++ [p]) (fs++ [(Cs p d).1])
theorem Le {p q:ByteArray} {s:List UInt8} {n:Int} (h:(Bx p q s n).2=0):∃g m,A7 p.data.toList=S (g,m)/\(Bf g s).2=0/\(Bx p q s n).1=(p,q,((Bf g s).1.length:Int),(Ap (Bf g s).1).1,(Ap (Bf g s).1).2,n)/\At (Bx p q s n).1=0:=by
 unfold Bx at h ⊢
 cases e:A7 p.data.toList with
 | none=>rw [e]at h;cases h
 | some x =>
  obtain⟨g,m⟩:=x;rw[e]at h;dsimp only at h ⊢;by_cases b:(Bf g s).2=0
  ·rw[if_pos b]at h ⊢;unfold DZ at h ⊢;by_cases c:At (p,q,((Bf g s).1.length:Int),(Ap (Bf g s).1).1,(Ap (Bf g s).1).2,n)=0
   ·rw[if_pos c];exact⟨g,m,rfl,b,rfl,c⟩
   ·rw[if_neg c]at h;exact absurd h c
  ·rw[if_neg b]at h;exact absurd h b
theorem rY {p q:ByteArray} {s:List UInt8} {n k:Int} (h:(Bx p q s n).2=0) (b:At (Bn (Bx p q s n).1 k)=0):Bx p q s k=(Bn (Bx p q s n).1 k,0):=by
 obtain⟨g,m,c,d,f,-⟩:=Le h;rw[f]at b ⊢;unfold Bn at b ⊢;unfold Bx;rw[c];dsimp only;rw[if_pos d];unfold DZ;rw[if_pos b]
theorem rZ (B:Nat) (v:V) (X:Nat->Prop) (t:Tx) (p:ByteArray) (w:G) (a:Nat->Qe) (h:G0 w a) (ht:CJ 312 B w v X t) (hB:B<=w.heap.size) (Y:t.2.2.length<=1000) (ak:t.1.2.2.2.2.2.2.length<=1000) :
  Qd Qb 195 #[v,J p] w fun e w'=>e=Qc (Ae a (GT t p))/\H1 312 B w v X (GU t p) w':=by
 have k:I _:=fun w' (hb:BL w w')=>TN ht hb;obtain⟨N,vb,va,P,rfl,f,ac,ad,ae⟩:=ht;have E:=JT vb t.1.2.2.2.2.2.2 p w f.base (by omega);have F:=fun W (hb:BL w W)=>Ow P t.2.2 p W ((Iw f.rems).below hb) (by omega);have L:I (∀(W W9:G),BL w W9->W9=W.alloc (A #[J p] 9)->∃m z,(Builtin.append_ #[82,82] 82 #[P,H (S ⟨W.heap.size,0,Z⟩) 1 1]).run Qb W9= .ok m z/\(∃q n c,m=H q n c)/\Cz 312 z N t.1 vb va P/\H1 312 B w (Qa (S ⟨N,0,Z⟩)) X (t.1,t.2.1,t.2.2++ [p]) (z.setCell ⟨N,8,Z⟩ m)) :=
  fun W W9 hW9 e=>rR (by decide) (by decide) f ac ad ae hB hW9 p e Y
 have K:I _:=fun W (hb:BL w W)=>(f.below hb).cells;obtain⟨qr,cr,af⟩:=CY f.rems;obtain⟨qb,cb,Q⟩:=f.base.form;have o:I _:=fun W (hb:BL w W)=>h.below hb;have l:I (decide (0<=Df t.1.2.2.2.2.2.2 p)=BR t.1.2.2.2.2.2.2 p):=Oc _ _;have g:I (GT t p=if BR t.1.2.2.2.2.2.2 p=false then 6 else if BI t.2.2 p=true then 7 else 0):=rfl;have i:I (GU t p=if GT t p=0 then (t.1,t.2.1,t.2.2++ [p]) else t):=rfl;generalize GU t p=T at i ⊢;generalize GT t p=D at g i ⊢;generalize ah:Df t.1.2.2.2.2.2.2 p=FI at E l;generalize ai:BR t.1.2.2.2.2.2.2 p=HP at l g;generalize aj:BI t.2.2 p=IT at F g;subst af Q;have aa:=(K.out w (Qu _ _)).cells.2.1
 go_enter func195,ntmps195
 go_wp2_with fail
 refine E.mono ?_;rintro e R ⟨rfl,d⟩
 cases HP with
 | false =>
  have b:I (D=6):=by show _=_;rw[g.out,if_pos rfl]
  have j:I (T=t):=by show _=_;rw[i.out,b.out,if_neg (by omega)]
  have ab:FI<0:=by have:=of_decide_eq_false l.out;omega
  have et:=(o.out R d).list.miss;go_wp2;go_ret;refine⟨by rw[b.out];rfl,?_⟩;rw[j.out];exact k.out _ d
 | true =>
 have r:I (D=if IT=true then 7 else 0):=by show _=_;rw[g.out,if_neg (by simp)]
 have ab:¬FI<0:=by have:=of_decide_eq_true l.out;omega
 have aa:=(K.out R d).cells.2.2.2;have M:=F R d
 go_wp2_with fail
 refine M.mono ?_;rintro e u ⟨rfl,rfl⟩
 cases IT with
 | true =>
  have b:I (D=7):=by show _=_;rw[r.out,if_pos rfl]
  have j:I (T=t):=by show _=_;rw[i.out,b.out,if_neg (by omega)]
  have et:=(o.out u d).list.exist;go_wp2;go_ret;refine⟨by rw[b.out];rfl,?_⟩;rw[j.out];exact k.out _ d
 | false =>
  have b:I (D=0):=by show _=_;rw[r.out,if_neg (by simp)]
  have j:I (T=(t.1,t.2.1,t.2.2++ [p])):=by show _=_;rw[i.out,b.out,if_pos rfl]
  obtain⟨m,z,hr,⟨q',n',c',rfl⟩,s,C⟩:=L.out u (u.alloc (A #[J p] 9)) (d.alloc d.size _) rfl;have y:I _:=C;have ag:BL u (u.alloc (A #[J p] 9)):=Af _ _;have y0:=s.cells.2.2.2;have y1:=s.fz
  go_wp2_with (at_builtin;refine lH (by rfl) _ _ _ (by rfl) _ _ _ (by rfl) (by rfl) hr ?_)
  all_goals go_ret
  all_goals
   refine⟨by rw[b.out];rfl,?_⟩;rw[j.out];exact y.out
end Go.Proofs.YtcllhobffhkafaaGreatDoor
