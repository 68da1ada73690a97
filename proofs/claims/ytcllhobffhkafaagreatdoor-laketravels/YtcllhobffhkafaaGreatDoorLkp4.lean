/- By an AI agent. -/
import Derived.Test.YtcllhobffhkafaaGreatDoorListPrn
import Derived.Lib.ItoaLen
set_option maxRecDepth 100000
set_option maxHeartbeats 16000000
open Go.Proofs.Tryz
open Array renaming getElem?_eq_some_iff->Xg
open Bool renaming true->Qg,false->Qi,and_eq_true->QC,false_eq_true->QJ
open ByteArray renaming size_append->Xb,size_extract->Xt
open Go renaming World->V,Value->Qb,Calls->Qh,Addr->Qm,bodyPost_ret->Qq,results->Qr,maxLen->Qu,Ending->Q3,cell_of_row->QA,cell_of_one->QH,heap_alloc_new->QK,lt_of_block->QV,below_regrown->Xd,cell_regrown->Xs
open Go.Ending renaming returned->Qc
open Go.IntKind renaming i64->U
open Go.Lib renaming cut->Qp,hasSuffix->Q4,itoa_length_le->QO
open Go.Obj renaming cells->A
open Go.Proofs renaming intOf->Qv
open Go.Proofs.Tryz renaming prog->Qf,results97->Qz,results170->Q8,func260->QT,ntmps260->QU,func261->QX,func172->QY,ntmps172->QZ
open Go.RowKit renaming Hid->S
open Go.RowKit.Below renaming refl->Qw
open Go.Value renaming int->O,string->J,slice->H,pointer->Qa,tuple->Qd,iface->Qk,agg->Ql,nilIface->Qs,bool->Qy,ownBlock->QW
open Go.World renaming cell?_setCell_other->Q1,ownsRow_nil->Xa,cell?->Xe
open Int renaming le_refl->QD
open List renaming length_append->Qt,length_cons->Q0,length_map->Q2,take_of_length_le->Q5,getElem_mem->Q6,foldl_cons->Q7,mem_map->Q9,getElem?_eq_getElem->QB,flatMap_cons->QE,mem_cons->QF,length_nil->QG,mem_append->QI,length_filter_le->QL,mem_cons_self->QM,mem_cons_of_mem->QN,getElem_cons_succ->QP,getElem_cons_zero->QQ,length_eq_zero_iff->QS,length_take->Xc,mem_filter->Xf,filter_cons->Xh,take_append_getElem->Xm,sum_append->Xn,map_append->Xo,mem_append_left->Xq,mem_of_mem_take->Xr
open Nat renaming le_refl->Qn,le_trans->Qo,zero_add->QR,zero_le->Xi,reduceAdd->Xj,le_of_lt->Xk,succ_ne_zero->Xl,lt_irrefl->Xp
open Option renaming none->Z,some->I
open Option.some renaming inj->Qx
open Or renaming inr->Qe,inl->Qj
namespace Go.Proofs.YtcllhobffhkafaaGreatDoor
open Go.Lib Go.Sort
section
open Go.Extern Go.Extern.Stop Go.RowKit Go.Shelf Go.Stop
structure Is (n:Nat) (c:Ct) (qs:List Int):Prop where
 rows:c.1.length<=40*n
 keys:c.2.length<=40*n
 nums:qs.length<=n
 small:∀p∈c.1,-1073741824<=p.1.2.1/\p.1.2.1<=1073741824
theorem Is.start:Is 0 ([], []) []:=⟨by simp,by simp,by simp,fun p hp=>by cases hp⟩
theorem Is.step {n:Nat} {c:Ct} {k:List Int} (h:Is n c k) {obs:List Ob} {x:Fl} (q:(Aj obs x).1=0):Is (n+1) (ED x (Aj obs x).2 c) (Gq x k):=by
 obtain⟨g,m,D,d,u,v,y,i,j⟩:=Pk q;generalize (Aj obs x).2=t at *;have z:=h.rows;have B:=h.keys;have C:=h.nums;unfold Gq;by_cases f:x.2.1.data.toList= [45]
 ·obtain rfl:=d.1 f;rw[MI f,if_neg (by simpa using f)];have l:(B8 t.data.toList).1.length<=40:=i;exact⟨by dsimp only;omega,by dsimp only;rw[Qt,Q2];omega,by omega,h.small⟩
 ·obtain rfl:g=Qi:=by
   cases g with
   | false=>rfl
   | true=>exact absurd (d.2 rfl) f
  rw[Lr f,if_pos f];have s:(Bn t.data.toList).1.length=(Bp Qi t.data.toList).1.length:=by
   show _=(BG (Bn t.data.toList).1).length;rw[Ll]
  refine⟨by dsimp only;rw[Qt,Q2];omega,by dsimp only;omega,by rw[Q0];omega,fun p b=>?_⟩;rw[QI]at b;rcases b with b | b
  ·exact h.small p b
  ·obtain⟨r,o,rfl⟩:=Q9.1 b;exact j r.2.1 (by simp only[Bp,QJ,if_false];exact Q9.2 ⟨r,o,rfl⟩)
theorem Ai.butC {W i:V} {base l m:Nat} {c:Ct} {t:List Int} {v:Qb} {n:List Fl} (h:Ai W v n) (y:Ac (Dk W base l m) W i) (z:B6 W base l m c t) (B:base=W.heap.size):Ai i v n:=by
 have f:∀ {b o:Nat} {u:Qb},W.cell? ⟨b,o,Z⟩=I u->i.cell? ⟨b,o,Z⟩=I u:=fun {b o u} d=>by
  have g:=BF d;obtain⟨p,q⟩:=z.noCell d;have e:=Pj y g (by rw[B];exact g) p q;rw[<-d];unfold Xe;rw[e]
 rcases h with h | ⟨b,o,k,r,s,d⟩
 ·exact Qj h
 ·exact Qe ⟨b,o,k,r,s,fun j hj=>⟨f (d j hj).1,f (d j hj).2.1,f (d j hj).2.2.1,f (d j hj).2.2.2.1,f (d j hj).2.2.2.2.1,f (d j hj).2.2.2.2.2⟩⟩
def JB (a:Nat->Qm) (W:V) (R:List Rw×Nat×Option Nat) (e:Q3) (w':V):Prop:= ∃v' ev,e=Qc (Qd #[v',ev])/\Ap w' v' R.1/\AZ w' a ev R.2/\BL W w'
section
variable {a : Nat → Qm} {B : Nat} {EM : V → Prop} {SAt : V → Qb → (Nat → Prop) → St → Prop}
theorem sB (K:A2 a B EM SAt) (HV:∀W,EM W->G9 W a/\F7 W/\DC W a) (W:V) (v:Qb) (FP:Nat->Prop) (b:St) (s:Sn) (vf:Qb) (lo hi:Int) (hE:EM W) (cd:SAt W v FP b) (ks:AY b) (hx:Ai W vf s.2.2.2.2.2.2) (hl:s.2.2.2.2.2.2.length<=100) (ce:Ej s.2.2.2.2.2.2) :
  Qh Qf 40 #[v,A8 s vf,O U lo,O U hi] W (fun e w'=>JB a W (AR b.obs s lo hi) e w'/\IG W e):=by
 obtain⟨pt,rfl⟩:=K.ptr _ _ _ _ cd;obtain⟨vq,vc,rfl⟩:=hx.form;have ck:=K.size W hE;have bp:S _:=fun X (hX:BL W X)=>K.below W X hE (hX.mono ck);have cl:S _:=fun X (hX:BL W X)=>K.keep _ X _ _ (fun _=>False) _ cd (Ac.of_below hX) (fun _ _ h=>h);have br:S _:=fun X base f g c o x (hX:BL W X) (h:B6 X base f g c o) (r:base<=X.heap.size) (h2:x.1.size<=1000) (h3:x.2.1.size<=1000) (h4:o.length<=100) (h5:c.1.length<=10000) (h6:c.2.length<=10000) =>
  pS K (fun W hW=>⟨(HV W hW).1,(HV W hW).2.1⟩) X (bp.out X hX) (Qa (I pt)) FP b (cl.out X hX) ks base f g c o x h r h2 h3 h4 h5 h6
 have ad:S _:=fun X (hX:BL W X)=>hx.below hX;have a5:S _:=fun X (hX:BL W X)=>J2 s _ X a (HV X (bp.out X hX)).2.2 (ad.out X hX) (by omega) ce;have cm:S _:=ce;have ao:S (∀(n:Nat) (x:Fl),(Am s).1=0->(s.2.2.2.2.2.2.filter (As lo hi))[n]? =I x->(∀m y,m<n->(s.2.2.2.2.2.2.filter (As lo hi))[m]? =I y->(Aj b.obs y).1=0)->(Aj b.obs x).1≠0->AR b.obs s lo hi=([],(Aj b.obs x).1,I (Dp s.2.2.2.2.2.2 x.1).toNat)/\0<=Dp s.2.2.2.2.2.2 x.1):=fun n x he hn hm hb=>by
  obtain⟨j,r,h2⟩:=pC he n x hn hm hb;rw[pA (Fg he).2 r];exact⟨h2,by omega⟩
 have ap:S _:=fun l (he:(Am s).1=0) (h:(∀x∈s.2.2.2.2.2.2.filter (As lo hi),(Aj b.obs x).1=0)) (hn:l.Nodup) (hq:(∀p∈(BO b.obs (s.2.2.2.2.2.2.filter (As lo hi)) ([], [])).1,p.2∈l))=>pB he h l hn hq;have bs:S ((Am s).1≠0->AR b.obs s lo hi=([],Am s)):=fun h=>by unfold AR;rw[if_pos h]
 generalize AR b.obs s lo hi=R at ao ap bs ⊢;have aq:=Ao.new W s (H vq s.2.2.2.2.2.2.length vc);have aa:BL W (W.alloc (A #[O U s.1,O U s.2.1,O U s.2.2.1,O U s.2.2.2.1,O U s.2.2.2.2.1,J s.2.2.2.2.2.1,H vq s.2.2.2.2.2.2.length vc] 40)):=Af _ _;unfold A8 at a5 ⊢;obtain⟨id,a1,a2,a3,a4,op,Q⟩:=s;dsimp only at *;obtain⟨L,hL⟩:∃L,Q.length=L:=⟨_,rfl⟩;have ah:S _:=hL;rw[hL]at hl ad a5 aq aa ⊢
 go_enter func40,ntmps40
 go_upto_region 1 with fail
 have HA:S _:=aa;have cn:=a5.out _ aa;generalize W.alloc (A #[O U id,O U a1,O U a2,O U a3,O U a4,J op,H vq L vc] 40)=W1 at *;obtain⟨sb,am⟩:∃k,W.heap.size=k:=⟨_,rfl⟩;have dr:S _:=am;rw[am]at aq;rw[am];obtain⟨z0,z1,z2,z3,z4,z5,z6⟩:=aq.cells
 go_wp2_with fail
 refine cn.mono ?_;rintro e w2 ⟨ev,rfl,ht,b8⟩;have ar:=HA.out.trans (b8.mono HA.out.size);have cf:=aq.below b8;by_cases au:(Am (id,a1,a2,a3,a4,op,Q)).1=0
 case neg =>
  obtain⟨t,u,rfl⟩:=ht.bad au;have HT:S (AZ w2 a (Qk t u) R.2/\R.1= []):=by
   rw[bs.out au];exact⟨ht,rfl⟩
  go_wp2;go_ret2;exact⟨⟨_,_,rfl,by rw[HT.out.2];exact Qj ⟨Z,0,rfl,rfl⟩,HT.out.1,ar⟩,Pd (UU _)⟩
 obtain rfl:ev=Qs:=ht.ok au;have bt:S _:=au;have co:=pK w2
 go_wp2_with fail
 refine co.mono ?_;rintro e T ⟨f,g,rfl,de,ci,df,dg,dh,di⟩;have a6:BL T (T.alloc (A #[.map (I f),.map (I g)] 136)):=Af _ _;have a7:(T.alloc (A #[.map (I f),.map (I g)] 136)).heap[T.heap.size]? =I (A #[.map (I f),.map (I g)] 136 (0,0)):=QK _ _;have a8:=Ad di a6;have bu:=Ad ar a8;have cp:S _:=fun base (r:f<base) (h2:g<base)=>(dh base r h2).below a6;have a9:=cf.below a8;have ba:S (W.heap.size<=f/\W.heap.size<=g/\f<T.heap.size/\g<T.heap.size):=⟨Qo ar.size de,Qo ar.size ci,df,dg⟩
 go_upto_region 7 with fail
 have dm:(T.alloc (A #[.map (I f),.map (I g)] 136)).heap.size=T.heap.size+1:=by simp
 generalize T.alloc (A #[.map (I f),.map (I g)] 136)=w4 at *;generalize T.heap.size=cb at *;have z6:=a9.cells.2.2.2.2.2.2;have bv:=sA (H vq L vc) Q lo hi w4 (ad.out w4 bu) (by rw[ah.out];omega);obtain⟨G,hG⟩:∃G,Q.filter (As lo hi)=G:=⟨_,rfl⟩;have cq:S (G.length<=L):=by
  show _<=_;rw[<-hG,<-ah.out];exact QL _ _
 have cr:S (∀x∈G,x.1.size<=30/\x.2.1.size<=30):=fun x hx=>by
  rw[<-hG]at hx;exact cm.out x (Xf.1 hx).1
 rw[hG]at bv ao ap
 go_wp2_with fail
 refine bv.mono ?_;rintro e d ⟨v5,rfl,b9,ag⟩;obtain⟨gq,gc,rfl⟩:=b9.form;have cs:=Ad bu ag;have ai:=a9.below ag;have bb:=(ag.block cb (Xg.1 a7).1).trans a7;have bw:B6 d d.heap.size f g ([], []) []:=by
  have r:=ba.out;have h2:=ag.size;exact(cp.out d.heap.size (by omega) (by omega)).below ag
 have bc:=(Xg.1 bb).1;have bd:cb≠f/\cb≠g:=by
  have r:=ba.out;exact⟨by omega,by omega⟩
 have be:=ai.lt;have bf:=bw.noCell ai.cells.1;have H5:S (Ao d sb (id,a1,a2,a3,a4,op,Q) (H vq L vc)/\d.heap[cb]? =I (A #[.map (I f),.map (I g)] 136 (0,0))/\B6 d d.heap.size f g ([], []) []/\BL W d/\Ai d (H gq G.length gc) G):=⟨ai,bb,bw,cs,b9⟩;have bg:S (∀X,Ac (Dk d d.heap.size f g) d X->Ao X sb (id,a1,a2,a3,a4,op,Q) (H vq L vc)/\X.heap[cb]? =I (A #[.map (I f),.map (I g)] 136 (0,0))/\BL W X/\Ai X (H gq G.length gc) G):=fun X hX=>by
  obtain⟨g1,g2,g3,g4,g5⟩:=H5.out;have r:=ba.out;exact⟨(Pj hX be be bf.1 bf.2).trans g1,(Pj hX bc bc bd.1 bd.2).trans g2,g4.trans (pI hX g4.size r.1 r.2.1 g4.size),g5.butC hX g3 rfl⟩
 obtain⟨M,hM⟩:∃M,G.length=M:=⟨_,rfl⟩;have HM:S _:=hM;have ds:M<=L:=by rw[<-hM];exact cq.out
 rw[hM]at bg ⊢;go_wp2
 go_loopw [30] (fun k wr=> ∃(n:Nat) (o:List Int),n<=M/\k=O U n/\(∀m y,m<n->G[m]? =I y->(Aj b.obs y).1=0)/\B6 wr d.heap.size f g (BO b.obs (G.take n) ([], [])) o/\Is n (BO b.obs (G.take n) ([], [])) o/\Ac (Dk d d.heap.size f g) d wr) (fun k _=>M-(Qv k).toNat)
 case atStart=>exact ⟨0, [],by omega,rfl,fun m y hm=>absurd hm (Nat.not_lt_zero _),by simpa [BO] using H5.out.2.2.1,by simpa [BO] using Is.start,Ac.refl _ _⟩
 case round =>
  obtain⟨n,o,hn,rfl,db,dc,dd,b3⟩:=hrel;have av:S _:=db;have i:S (B6 wr d.heap.size f g (BO b.obs (G.take n) ([], [])) o/\Is n (BO b.obs (G.take n) ([], [])) o/\Ac (Dk d d.heap.size f g) d wr):=⟨dc,dd,b3⟩;obtain⟨ch,an,bl,b4⟩:=bg.out wr b3;have k0:wr.cell? ⟨cb,0,Z⟩=I (.map (I f)):=by rw[QA _ _ _ _ _ _ an];rfl
  have k1:wr.cell? ⟨cb,1,Z⟩=I (.map (I g)):=by rw[QA _ _ _ _ _ _ an];rfl
  by_cases ct:n<M
  case neg =>
   obtain rfl:n=M:=by omega
   have ht:=Q5 (by rw[HM.out];omega);rw[ht]at i;have aw:∀x∈G,(Aj b.obs x).1=0:=fun x hx=>by
    obtain⟨m,hm,rfl⟩:=List.getElem_of_mem hx;exact av.out m _ (by rw[<-HM.out];exact hm) (QB hm)
   have cu:S (∀x∈G,(Aj b.obs x).1=0):=aw;have r:=i.out.2.1.rows;have aa:=rZ wr d.heap.size f g _ o i.out.1 (fun p hp=>by have:=i.out.2.1.small p hp;omega) (by omega) (by have:=i.out.2.1.nums;omega);have ae:∀(X:V) (u:Qb) (l:List Int),l.Nodup->(∀z∈o,z∈l)->Ap X u (BQ (BO b.obs G ([], [])) l)->Qh Qf 84 #[u,O U lo,O U hi] X fun e w'=> ∃v',e=Qc v'/\Ap w' v' ((BQ (BO b.obs G ([], [])) l).filter (Bs lo hi))/\((BQ (BO b.obs G ([], [])) l).filter (Bs lo hi)).length<=20000/\R=(A3 ((BQ (BO b.obs G ([], [])) l).filter (Bs lo hi)),0,Z)/\BL X w':=fun X u l hn hq hu=>by
    have ac:∀p∈(BO b.obs G ([], [])).1,p.2∈l:=fun p hp=>by
     obtain⟨D,hv,hG⟩:=i.out.1.rows;exact hq _ (hG.all p hp)
    have dn:(BQ (BO b.obs G ([], [])) l).length<=4000:=by
     have:=(Ve _ l hn ac).length_eq;rw[this,Q2];exact Qo (QL _ _) (by omega)
    have hR:=ap.out l bt.out cu.out hn ac;exact(dR u _ lo hi X hu (by omega)).mono fun e w' ⟨v',he,hr,hb⟩=>⟨v',he,hr,Qo (QL _ _) (by omega),hR,hb⟩
   have cv:S _:=ae;clear ae aw ht ao ap br ad av r ch an b4
   go_wp2_with fail
   refine aa.mono ?_;rintro e Y ⟨v6,l,rfl,dj,ac,ca,N⟩;clear aa k0 k1;have ae:=cv.out Y v6 l dj ac ca;obtain⟨q6,c6,rfl⟩:=ca.form;generalize (BQ (BO b.obs G ([], [])) l).filter (Bs lo hi)=ys at ae;generalize (BQ (BO b.obs G ([], [])) l).length=al at *
   go_wp2_with fail
   refine ae.mono ?_;rintro e C ⟨v7,rfl,cc,dk,dl,ab⟩;have cw:=oL v7 ys C cc dk;obtain⟨q7,c7,rfl⟩:=cc.form;have cx:S _:=dl;have dp:=ab;have F:=(Ad bl N).trans (ab.mono (Qo bl.size N.size));generalize ys.length=yl at *
   go_wp2_with fail
   refine cw.mono ?_;rintro e w8 ⟨v8,rfl,bn,bo,cj⟩;obtain⟨q8,c8,rfl⟩:=bn.form;have cy:S _:=F8.up (w:=W) (w':=C) cj F.size;have q:S (Ap w8 (H q8 (A3 ys).length c8) R.1/\AZ w8 a Qs R.2/\BL W w8):=by
    rw[cx.out];exact⟨bn,rfl,(Ad F bo)⟩
   clear bn;generalize (A3 ys).length=sl at *;go_wp2;go_ret2;exact⟨⟨_,_,rfl,q.out.1,q.out.2.1,q.out.2.2⟩,Pd cy.out⟩
  have P:n<G.length:=by rw[HM.out];exact ct
  obtain⟨bq,oq,hq,hc⟩:=b4.cells (fun e=>by rw[e]at P;simp at P);subst hq;obtain⟨c0,c1,c2,c3,c4,c5⟩:=hc n P;obtain⟨s1,s2⟩:=cr.out G[n] (Q6 _);have bh:S (G[n]? =I G[n]/\G.take (n+1)=G.take n++ [G[n]]):=⟨QB P,List.take_succ_eq_append_getElem P⟩;generalize G[n]=x at c0 c1 c2 c3 c4 c5 s1 s2 bh;have bi:=A1.new wr x;have N:BL wr (wr.alloc (A #[J x.1,J x.2.1,O U x.2.2.1,O U x.2.2.2.1,O U x.2.2.2.2.1,O U x.2.2.2.2.2] 77)):=Af _ _;have dt:(n:Int)<(M:Int):=by omega
  have dq:(0:Int)<=(n:Int):=by omega
  have bj:=Ad bl N;have bk:=i.out.1.below N;have aj:=JA i.out.2.2 (Ac.of_below N);have m0:=Aa N k0;have m1:=Aa N k1
  go_upto_region 10 with fail
  generalize wr.alloc (A #[J x.1,J x.2.1,O U x.2.2.1,O U x.2.2.2.1,O U x.2.2.2.2.1,O U x.2.2.2.2.2] 77)=Y at *;generalize wr.heap.size=xb at *;obtain⟨d0,d1,d2,d3,d4,d5,-⟩:=bi.cells;have r:=i.out.2.1.rows;have h2:=i.out.2.1.keys;have h3:=i.out.2.1.nums;have ax:=br.out Y d.heap.size f g _ o x bj bk aj.size (by omega) (by omega) (by omega) (by omega) (by omega);unfold A6 GG at ax;have cz:S (B6 Y d.heap.size f g (BO b.obs (G.take n) ([], [])) o):=bk;have af:S (Ac (Dk d d.heap.size f g) d Y/\BL W Y):=⟨aj,bj⟩;have bx:S (A1 Y xb x):=bi;clear bk aj bj bi r h2 h3;by_cases ay:(Aj b.obs x).1=0
  case pos =>
   have ak:S ((Aj b.obs x).1=0):=ay;clear ay
   go_wp2_with fail
   refine ax.mono ?_;intro e C E;obtain⟨-,rfl,b5,F⟩:(Aj b.obs x).1=0/\e= .returned Qs/\B6 C d.heap.size f g (ED x (Aj b.obs x).2 (BO b.obs (G.take n) ([], []))) (Gq x o)/\Ac (Dk Y d.heap.size f g) Y C:=by
    rcases E with E | E
    ·exact absurd ak.out E.1
    ·exact E
   have az:S ((∀m y,m<n+1->G[m]? =I y->(Aj b.obs y).1=0)/\B6 C d.heap.size f g (BO b.obs (G.take (n+1)) ([], [])) (Gq x o)/\Is (n+1) (BO b.obs (G.take (n+1)) ([], [])) (Gq x o)/\Ac (Dk d d.heap.size f g) d C):=by
    obtain⟨g1,g2⟩:=bh.out;rw[g2,oS];refine⟨fun m y hm hy=>?_,b5,i.out.2.1.step ak.out,JA af.out.1 F⟩;by_cases e:m=n
    ·subst e;rw[g1]at hy;rw[<-Qx hy];exact ak.out
    ·exact av.out m y (by omega) hy
   clear ax d0 d1 d2 d3 d4 d5 m0 m1 b5 F E i cz bx af;go_wp2;go_roundw
   case rel=>exact ⟨n+1,Gq x o,by omega,by go_num,az.out.1,az.out.2.1,az.out.2.2.1,az.out.2.2.2⟩
   case measure=>simp [Qv];omega
  case neg =>
   obtain⟨b6,bm⟩:=ao.out n x bt.out bh.out.1 av.out ay;have bz:S (R=([],(Aj b.obs x).1,I (Dp Q x.1).toNat)/\0<=Dp Q x.1):=⟨b6,bm⟩;obtain⟨ec,b7⟩:∃c,(Aj b.obs x).1=c+1:=⟨(Aj b.obs x).1-1,by omega⟩;have a0:S ((Aj b.obs x).1=ec+1):=b7;clear b6 bm ay b7
   go_wp2_with fail
   refine ax.mono ?_;intro e C E;obtain⟨rfl,ab⟩:e=Qc (Qk 410 (Qa (I (a ec))))/\BL Y C:=by
    rcases E with E | E
    ·refine⟨?_,E.2.2⟩;rw[E.2.1,a0.out];rfl
    ·exact absurd E.1 (by rw[a0.out];omega)
   have F:BL W C:=af.out.2.trans (ab.mono af.out.2.size);have cg:Ac (Dk d d.heap.size f g) d C:=JA af.out.1 (Ac.of_below ab);have c9:=bx.out.below ab;have z6:=(bg.out C cg).1.cells.2.2.2.2.2.2;obtain⟨y0,-⟩:=c9.cells;have da:=Kx (H vq L vc) Q x.1 C (ad.out C F) (by rw[ah.out];omega);generalize Dp Q x.1=fi at *
   go_wp2_with fail
   refine da.mono ?_;rintro e w8 ⟨rfl,bo⟩;have b0:=Ad F bo;have q:S (R.1= []/\AZ (w8.alloc (A #[O U fi,Qk 410 (Qa (I (a ec)))] 143)) a (Qk 140 (Qa (I ⟨w8.heap.size,0,Z⟩))) R.2/\BL W (w8.alloc (A #[O U fi,Qk 410 (Qa (I (a ec)))] 143))):=by
    rw[bz.out.1];refine⟨rfl,⟨by rw[a0.out];omega,w8.heap.size,rfl,?_,?_⟩,b0.alloc b0.size _⟩
    ·rw[Int.toNat_of_nonneg bz.out.2];simp
    ·rw[a0.out];simp[Ae]
   go_wp2;go_ret2;exact⟨⟨_,_,rfl,by rw[q.out.1];exact Qj ⟨Z,0,rfl,rfl⟩,q.out.2.1,q.out.2.2⟩,Pd (UU _)⟩
end
theorem Px {lo hi:Int} {x:Fl} (i:lo<= -1073741824) (j:1073741824<=hi) (c:Au x=0):As lo hi x=Qg:=by
 obtain⟨g,n,d,f,b⟩:=D0 c;unfold Db at b;simp only[QC,decide_eq_true_eq,Aq]at b;unfold As;apply decide_eq_true;split<;>split<;>omega
theorem sC {obs:List Ob} {lo hi d f:Int} (v:lo<= -1073741824) (y:1073741824<=hi) (s:d<= -1073741824) (t:1073741824<=f) {x:Fl} (l:(Aj obs x).1=0) (i:List (Rw×Int)):EC lo hi x (Aj obs x).2 i=EC d f x (Aj obs x).2 i:=by
 obtain⟨g,m,u,c,n,o,p,q,j⟩:=Pk l;by_cases b:x.2.1.data.toList= [45]
 ·rw[J8 b,J8 b]
 ·rw[J7 b,J7 b];obtain rfl:g=Qi:=by
   cases g with
   | false=>rfl
   | true=>exact absurd (c.2 rfl) b
  congr 2;apply List.filter_congr;intro r k;have:=j r.2.1 (by simp only[Bp,QJ,if_false];exact Q9.2 ⟨r,k,rfl⟩);unfold Bs;rw[decide_eq_true (by omega),decide_eq_true (by omega),decide_eq_true (by omega),decide_eq_true (by omega)]
theorem V0 {obs:List Ob} {lo hi f g:Int} (j:lo<= -1073741824) (k:1073741824<=hi) (c:f<= -1073741824) (d:1073741824<=g):∀(fs:List Fl) (i:Nat) (acc:List (Rw×Int)),(∀x∈fs,Au x=0)->Cj obs lo hi fs i acc=Cj obs f g fs i acc
 | [],_,_,_=>rfl
 | x :: r,i,acc,h=>by
  have l:=h x QM;have m:=fun y hy=>h y (QN _ hy);unfold Cj;rw[Px j k l,Px c d l];simp only[Bool.true_eq_false,if_false];by_cases b:(Aj obs x).1≠0
  ·rw[if_pos b,if_pos b]
  ·rw[if_neg b,if_neg b,sC j k c d (by simpa using b)];exact V0 j k c d r (i+1) _ m
theorem sD {obs:List Ob} {s:Sn} {lo hi c d:Int} (i:lo<= -1073741824) (j:1073741824<=hi) (f:c<= -1073741824) (g:1073741824<=d):AR obs s lo hi=AR obs s c d:=by
 unfold AR;by_cases b:(Am s).1≠0
 ·rw[if_pos b,if_pos b]
 ·rw[if_neg b,if_neg b,V0 i j f g _ 0 [] (fun x hx=>((Fg (by simpa using b)).2.1 x hx).1)]
section
variable {a : Nat → Qm} {B : Nat} {EM : V → Prop} {SAt : V → Qb → (Nat → Prop) → St → Prop}
end
end
section
open Go
theorem V1 {s:St} (K:AY s) {n t:ByteArray} (b:∀o∈s.obs,o.1≠n):Ba (Cx s.obs (n,t,s.day)) n=(t,0)/\∀m,m≠n->Ba (Cx s.obs (n,t,s.day)) m=Ba s.obs m:=by
 constructor
 ·unfold Ba;rw[Mk (o:=(n,t,s.day)) K.rise b]
 ·intro m c;unfold Ba;rw[Ok (o:=(n,t,s.day)) K.rise b c]
theorem V2 {n:Int} (b:1<=n) (d:n<=1073741824):(itoa n).length<=11/\∀c∈itoa n,GY c=Qg:=by
 refine⟨Jg n (by omega) (by omega),fun c hc=>?_⟩;unfold itoa at hc;rw[if_neg (by omega)]at hc;have:=JU _ _ hc;unfold GY;rw[decide_eq_true this.1,decide_eq_true this.2];simp
theorem Kz (k:Int):∀(l:List (Int×Int)) (m:Int),0<=m->l.foldl (fun m p=>if p.1=k then max m p.2 else m) m=max m (B0 l k)
 | [],m,h=>by
  show m=max m 0;omega
 | p :: r,m,h=>by
  unfold B0;rw[Q7,Q7];by_cases e:p.1=k
  ·rw[if_pos e,if_pos e,Kz k r (max m p.2) (by omega),Kz k r (max 0 p.2) (by omega)];omega
  ·rw[if_neg e,if_neg e,Kz k r m h,Kz k r 0 (QD _)];omega
theorem sE (l:List (Int×Int)) (k:Int):0<=B0 l k:=by
 have:=Kz k l 0 (QD _);have e:B0 l k=max 0 (B0 l k):=this;omega
theorem sF (l m:List (Int×Int)) (k:Int):B0 (l++m) k=max (B0 l k) (B0 m k):=by
 have e:B0 (l++m) k=m.foldl (fun m p=>if p.1=k then max m p.2 else m) (B0 l k):=by
  unfold B0;rw[List.foldl_append]
 rw[e,Kz k m _ (sE l k)]
def Ck (obs:List Ob) (x:Fl):List (Rw×Int):=if x.2.1.data.toList≠ [45] then (Bn (Aj obs x).2.data.toList).1.map (fun r=>(r,x.2.2.2.2.2)) else []
def BI (obs:List Ob) (x:Fl):List (Int×Int):=if x.2.1.data.toList≠ [45] then [] else (B8 (Aj obs x).2.data.toList).1.map fun k=>(k,x.2.2.2.2.2)
theorem V3 (obs:List Ob):∀(g:List Fl) (c:Ct),BO obs g c=(c.1++g.flatMap (Ck obs),c.2++g.flatMap (BI obs))
 | [],c=>by simp[BO]
 | x :: r,c=>by
  have e:BO obs (x :: r) c=BO obs r (ED x (Aj obs x).2 c):=rfl;rw[e,V3 obs r,QE,QE];unfold Ck BI;by_cases b:x.2.1.data.toList= [45]
  ·rw[MI b,if_neg (by simpa using b),if_neg (by simpa using b)];simp
  ·rw[Lr b,if_pos b,if_pos b];simp
theorem Py {obs:List Ob} {lo hi:Int} :∀(fs:List Fl) (i:Nat) (acc:List (Rw×Int)),(Cj obs lo hi fs i acc).2.1=0->∀x∈fs.filter (As lo hi),(Aj obs x).1=0
 | [],_,_,_,x,b=>by cases b
 | y :: r,i,acc,h,x,b=>by
  unfold Cj at h;by_cases c:As lo hi y=Qi
  ·rw[if_pos c]at h;rw[Xh,c]at b;exact Py r (i+1) acc h x b
  ·rw[if_neg c]at h;have f:As lo hi y=Qg:=by simpa using c
   by_cases d:(Aj obs y).1≠0
   ·rw[if_pos d]at h;exact absurd h d
   ·rw[if_neg d]at h;rw[Xh,f]at b;simp only[if_true,QF]at b;rcases b with rfl | b
    ·simpa using d
    ·exact Py r (i+1) _ h x b
theorem V4 {obs:List Ob} {s:Sn} {lo hi:Int} (h:(AR obs s lo hi).2.1=0):(Am s).1=0/\∀x∈s.2.2.2.2.2.2.filter (As lo hi),(Aj obs x).1=0:=by
 unfold AR at h;by_cases b:(Am s).1≠0
 ·rw[if_pos b]at h;exact absurd h b
 ·rw[if_neg b]at h;refine⟨by simpa using b,?_⟩;by_cases c:(Cj obs lo hi s.2.2.2.2.2.2 0 []).2.1≠0
  ·rw[if_pos c]at h;exact absurd h c
  ·exact Py _ 0 [] (by simpa using c)
theorem sG {obs:List Ob} {s:Sn} {lo hi:Int} (f:(Am s).1=0) (h:∀x∈s.2.2.2.2.2.2.filter (As lo hi),(Aj obs x).1=0):AR obs s lo hi=(A3 ((EP lo hi (BO obs (s.2.2.2.2.2.2.filter (As lo hi)) ([], []))).map (·.1)),0,Z):=by
 have b:=(Fg f).2;have c:=MJ s.2.2.2.2.2.2 0 [] h;have d:=MK (obs:=obs) (lo:=lo) (hi:=hi) (s.2.2.2.2.2.2.filter (As lo hi)) ([], []) (Vc (Vb b) _) (Qj rfl) (fun x hx=>by
  have:=(Pi (b.1 x (Xf.1 hx).1).1).1;omega)
 have g:EP lo hi ([], [])= []:=rfl;rw[g]at d;rw[d]at c;unfold AR;rw[if_neg (by simpa using f),c];simp
theorem Pz {b:List Fl} (h:∀x∈b,Au x=0):b.filter (As Be Bf)=b:=by
 rw[List.filter_eq_self];exact fun x hx=>Px (by unfold Be;omega) (by unfold Bf;omega) (h x hx)
theorem P0 {c:Int} :∀ {fs:List Fl} {i:Nat},(Ez c fs i).1=0↔∀f∈fs,f.2.2.2.2.2<=c
 | [],i=>by simp[Ez]
 | f :: r,i=>by
  unfold Ez;split
  ·rename_i h;constructor
   ·intro e;cases e
   ·intro e;have:=e f QM;omega
  ·rename_i h;rw[P0];constructor
   ·intro e g b;rw[QF]at b;rcases b with rfl | b
    ·omega
    ·exact e g b
   ·exact fun e g b=>e g (QN _ b)
theorem K0 {s:Sn} :(Am s).1=0↔Ey s=Qg/\Cv s.2.2.2.2.2.1.data.toList=Qg/\(BK s.2.2.2.2.2.2).1=0/\∀f∈s.2.2.2.2.2.2,f.2.2.2.2.2<=s.2.2.1:=by
 unfold Am;constructor
 ·intro h;split at h
  ·cases h
  ·rename_i c;split at h
   ·cases h
   ·rename_i d;split at h
    ·rename_i b;exact absurd h b
    ·rename_i b;exact⟨by simpa using c,by simpa using d,by simpa using b,P0.1 h⟩
 ·rintro⟨c,d,b,g⟩;rw[if_neg (by rw[c];decide),if_neg (by rw[d];decide),if_neg (by simpa using b)];exact P0.2 g
end
section
open Go.Extern Go.Extern.Stop Go.RowKit Go.Shelf Go.Stop
def Bw (n:ByteArray):Prop:=(47:UInt8)∈n.data.toList
def AN (s:St) (n t:ByteArray):Prop:=Ba s.obs n=(t,0)
structure B7 (s:St):Prop where
 keeps:AY s
 slb:∀o∈s.obs,Bw o.1
 aged:Lo s
structure Gw (s s':St):Prop where
 good:B7 s'
 old:∀n t,AN s n t->AN s' n t
 head:s'.head=s.head
theorem Gw.refl {s:St} (h:B7 s):Gw s s:=⟨h,fun _ _ h=>h,rfl⟩
theorem Gw.trans {s t u:St} (h:Gw s t) (k:Gw t u):Gw s u:=⟨k.good,fun n x hx=>k.old n x (h.old n x hx),k.head.trans h.head⟩
theorem MU {s b:St} (h:B7 s) (d:AY b) (c:b.obs=s.obs):B7 b:=⟨d,fun o hm=>h.slb o (c▸hm),fun o hm=>h.aged o (c▸hm)⟩
theorem MV {s b:St} (c:b.obs=s.obs) {n t:ByteArray} (h:AN s n t):AN b n t:=by unfold AN;rw[c];exact h
theorem MW {s b:St} (h:B7 s) (d:AY b) (c:b.obs=s.obs) (f:b.head=s.head):Gw s b:=⟨MU h d c,fun _ _=>MV c,f⟩
theorem GJ {n:ByteArray} (h:CP n.data.toList=Qg):n.size<=16:=by
 unfold CP at h;simp only[QC,decide_eq_true_eq]at h;rw[AC]at h;exact h.2
theorem P1 {s:St} {n t:ByteArray} (h:Dc s n t=0):(∀o∈s.obs,o.1≠n)/\s.off=Qi/\CP n.data.toList=Qg:=⟨(Ml h).2.2.2.1,(Ml h).2.2.1,(Ml h).1⟩
theorem K1 {s:St} {n t:ByteArray} (h:Dc s n t=0):B3 s n t= { (Aw s t.size).2 with obs:=Cx s.obs (n,Ab (t.data.toList.take (Aw s t.size).1),s.day) } :=by unfold B3;rw[if_neg (by simpa using h)]
theorem JC {s:St} (h:B7 s) {n:ByteArray} (t:ByteArray) (i:Bw n):Gw s (B3 s n t):=by
 by_cases c:Dc s n t=0
 ·obtain⟨f,-⟩:=P1 c;obtain⟨-,g⟩:=V1 h.keeps (n:=n) (t:=Ab (t.data.toList.take (Aw s t.size).1)) f;refine⟨⟨fZ h.keeps n t,fun o b=>?_,fun o b=>?_⟩,fun m u hm=>?_,?_⟩
  ·rw[K1 c]at b;rcases GZ.1 b with rfl | b
   ·exact i
   ·exact h.slb o b
  ·rw[K1 c]at b;rcases GZ.1 b with rfl | b
   ·exact⟨h.keeps.day0,h.keeps.day1⟩
   ·exact h.aged o b
  ·have d:m≠n:=by
    rintro rfl;unfold AN Ba at hm
    cases e:B5 s.obs m with
    | none=>rw [e]at hm;cases hm
    | some o=>exact f o (Ge e).1 (Ge e).2
   unfold AN;rw[K1 c];exact(g m d).trans hm
  ·rw[K1 c];exact(I3 s t.size).2.1
 ·have e:B3 s n t=s:=by unfold B3;rw[if_pos c]
  rw[e];exact Gw.refl h
theorem K2 {s:St} (h:B7 s) {n t:ByteArray} (b:BM s n t=0):AN (B3 s n t) n t/\(∀o∈s.obs,o.1≠n)/\CP n.data.toList=Qg:=by
 have c:Dc s n t=0:=by
  unfold BM at b;split at b
  ·rename_i f;exact absurd b f
  ·rename_i f;simpa using f
 obtain⟨g,d,i⟩:=P1 c;refine⟨?_,g,i⟩;have j:(Aw s t.size).2.off=Qi:=by
  unfold BM at b;rw[if_neg (by simpa using c)]at b
  cases e:(Aw s t.size).2.off with
  | false=>rfl
  | true=>rw [e]at b;simp at b
 have k:=(SS d).1 j;unfold AN;rw[K1 c,k];have l:Ab (t.data.toList.take t.size)=t:=by
  rw[Q5 (by rw[AC];exact Qn _),D7]
 rw[l];exact(V1 h.keeps (n:=n) (t:=t) g).1
theorem V5 {s:St} {b t:ByteArray} (h:CG s b t=0):(B9 s b t).obs=s.obs/\(B9 s b t).head=t:=by
 have d:Ei s b t=0:=by
  unfold CG at h;split at h
  ·rename_i c;exact absurd h c
  ·rename_i c;simpa using c
 unfold CG at h;rw[if_neg (by simpa using d)]at h;unfold B9;rw[if_neg (by simpa using d)];by_cases f:(Aw s t.size).1<t.size
 ·rw[if_pos f]at h;cases h
 ·rw[if_neg f];exact⟨(I3 s t.size).1,rfl⟩
theorem V6 {s:St} {b t:ByteArray} (h:CG s b t≠0):(B9 s b t).obs=s.obs/\(B9 s b t).head=s.head:=by
 unfold B9;by_cases c:Ei s b t=0
 ·rw[if_neg (by simpa using c)];unfold CG at h;rw[if_neg (by simpa using c)]at h;by_cases d:(Aw s t.size).1<t.size
  ·rw[if_pos d];exact⟨(I3 s t.size).1,(I3 s t.size).2.1⟩
  ·rw[if_neg d]at h;exact absurd rfl h
 ·rw[if_pos c];exact⟨rfl,rfl⟩
theorem MX {s:St} {x:Fl} (h:(Aj s.obs x).1=0):AN s x.1 (Aj s.obs x).2:=by
 unfold Aj at h ⊢;by_cases b:(Ba s.obs x.1).2=0
 ·rw[if_neg (by simpa using b)]at h ⊢;split at h
  ·rename_i c;exact absurd h c
  ·rename_i c;split at h
   ·cases h
   ·rename_i d;rw[if_neg c,if_neg d];exact Prod.ext rfl b
 ·rw[if_pos b]at h;exact absurd h b
theorem P2 {s b:St} {x:Fl} (h:Ba b.obs x.1=Ba s.obs x.1):Aj b.obs x=Aj s.obs x:=by unfold Aj;rw[h]
theorem IJ {s c:St} (d:∀n t,AN s n t->AN c n t) {x:Fl} (h:(Aj s.obs x).1=0):Aj c.obs x=Aj s.obs x:=by
 have b:=MX h;exact P2 ((d _ _ b).trans b.symm)
structure Cy (s:St) (id:Int) (x:Sn):Prop where
 has:AN s (Cg id) (Ab (BH x))
 fine:(Am x).1=0
 id:x.1=id
 files:∀f∈x.2.2.2.2.2.2,(Aj s.obs f).1=0
theorem Cy.up {s b:St} {c:Int} {x:Sn} (h:Cy s c x) (d:∀n t,AN s n t->AN b n t):Cy b c x:=⟨d _ _ h.has,h.fine,h.id,fun f hf=>by rw[IJ d (h.files f hf)];exact h.files f hf⟩
structure Av (k:Lk):Prop where
 good:B7 k.st
 ids:(AF k.ids).1=0
 head:∃m,k.st.head=AJ m/\CP (AJ m).data.toList=Qg/\AN k.st (AJ m) (Ab (BB k.ids))
 snaps:∀id∈k.ids,∃x,Cy k.st id x
 now:Cy k.st k.now.1 k.now
 last:k.ids.getLast? =I k.now.1
theorem Av.up {k:Lk} (h:Av k) {s:St} (b:Gw k.st s):Av { k with st:=s } :=by
 obtain⟨m,c,d,f⟩:=h.head;exact⟨b.good,h.ids,⟨m,b.head.trans c,d,b.old _ _ f⟩,fun id hi=>(h.snaps id hi).imp fun x hx=>hx.up b.old,h.now.up b.old,h.last⟩
theorem JD (a:ByteArray) (b:ByteArray) (h:Bw a):Bw (a++b):=by
 unfold Bw at *;rw[show (a++b).data.toList=a.data.toList++b.data.toList by simp];exact QI.2 (Qj h)
theorem sH (n:Int):Bw (Cg n):=JD _ _ (by unfold Bw;decide)
theorem sI (n:Int):Bw (AJ n):=JD _ _ (by unfold Bw;decide)
theorem It (s:St):1<=Ag s/\Ag s<=1000000000000000000:=by
 have:=Pc s.obs;unfold Ag;omega
def P3 (l:List UInt8) (j:Nat):Prop:=j<=l.length/\(∀i (h:i<l.length),j<=i->l[i]≠47)/\∀k,j=k+1->l[k]? =I 47
theorem sJ (s:ByteArray) (w:V) (r:s.size<=Qu) :
  Qh Qf 304 #[J s,.int .u8 47] w fun e w'=> ∃j:Nat,P3 s.data.toList j/\e=Qc (O U ((j:Int)-1))/\w'=w:=by
 unfold Qu at r;obtain⟨L,q⟩:∃L,s.size=L:=⟨_,rfl⟩
 go_enter func304,ntmps304
 go_wp2
 go_loopw [5] (fun k wr=> ∃j:Nat,j<=s.size/\k=O U ((j:Int)-1)/\(∀i (h:i<s.data.toList.length),j<=i->s.data.toList[i]≠47)/\wr=w) (fun k _=>(Qv k+1).toNat)
 case atStart=>exact ⟨s.size,Qn _,by rw[q],fun i h h'=>by rw[AC]at h;omega,rfl⟩
 case round =>
 obtain⟨j,u,n,o,p⟩:=hrel;subst p;have b:S _:=o
 cases j with
 | zero =>
  have c:u5=O U (-1):=by rw[n];rfl
  subst c;go_wp2;go_ret;exact⟨0,⟨Xi _,b.out,fun k e=>by cases e⟩,rfl,rfl⟩
 | succ i =>
  have c:u5=O U (i:Int):=by rw[n];congr 1;omega
  subst c;have g:i<s.size:=by omega
  have d:=NK s i g;by_cases f:s[i].toNat=47
  case neg =>
   have t:¬(s[i].toNat:Int)=47:=by omega
   have l:S (∀k (h:k<s.data.toList.length),i<=k->s.data.toList[k]≠47):=fun k h hik=>by
    by_cases e:k=i
    ·subst e;rw[QB h]at d;rw[Qx d];exact fun e'=>f (by rw[e'];rfl)
    ·exact b.out k h (by omega)
   go_wp2;go_roundw
   case rel=>exact ⟨i,by omega,by first | go_num | (congr 1;omega),l.out,by trivial⟩
   case measure=>first | (simp[Qv];done) | (simp[Qv];omega)
  case pos =>
  have m:s.data.toList[i]? =I 47:=by rw[d];exact congrArg I (UInt8.toNat_inj.1 f)
  go_wp2;go_ret;exact⟨i+1,⟨by rw[AC];omega,b.out,fun k e=>by cases e;exact m⟩,by rw[show ((i+1:Nat):Int)-1=(i:Int) by omega];rfl,rfl⟩
theorem sK (s:ByteArray) (w:V) (g:s.size<=Qu) :
  Qh Qf 217 #[J s,J ⟨#[47]⟩] w fun e w'=> ∃j:Nat,P3 s.data.toList j/\e=Qc (O U ((j:Int)-1))/\w'=w:=by
 have b:=sJ s w g
 go_enter func217,ntmps217
 go_wp2_with fail
 refine b.mono ?_;rintro e i ⟨j,d,rfl,f⟩;rw[f];have c:S (P3 s.data.toList j):=d;go_wp2;go_ret;exact⟨j,c.out,rfl,rfl⟩
def Gt (n:ByteArray):Int:=(Ld n).getD 0
theorem sL (s:ByteArray) (w:V) (h:DR w) (y:s.size<=1000) (n:Bw s) :
  Qh Qf 135 #[J s] w fun e w'=>e=Qc (O U (Gt s))/\BL w w':=by
 have d:=sK s w (by unfold Qu;omega);have o:S (DR w):=h
 go_enter func135,ntmps135
 go_wp2_with fail
 refine d.mono ?_;rintro e u ⟨j,r,rfl,t⟩;rw[t];obtain⟨k,c,l⟩:=r
 cases j with
 | zero =>
  exfalso;obtain⟨i,q,e⟩:=List.mem_iff_getElem.1 n;exact c i q (Xi _) e
 | succ i =>
  rw[AC]at k;have b:=LQ (s.extract (i+1) s.size) w o.out (by unfold Qu;rw[Xt];omega);have f:(s.extract (i+1) s.size).data.toList=IB s.data.toList:=by rw[extract_to_end];exact(oK (j:=i+1) (by rw[AC];omega) c l).symm
  rw[f]at b;have g:S ((Dn (IB s.data.toList)).1=O U (Gt s)):=by
   show _=_;unfold Dn Gt Ld;cases At (IB s.data.toList)<;>rfl
  rw[g.out]at b;have p:(((i+1:Nat):Int)-1)=(i:Int):=by omega
  rw[p]
  go_wp2_with fail
  refine b.mono ?_;rintro e v ⟨rfl,m⟩;go_wp2;go_ret;exact⟨rfl,m⟩
theorem P4 {n:Int} (b:0<=n) (o:Ob):Fd n o=max n (Gt o.1):=by
 unfold Fd Gt
 cases h:Ld o.1 with
 | none=>simp only[Option.getD_none];omega
 | some x=>simp only[Option.getD_some];split<;>omega
section
variable {a : Nat → Qm} {B : Nat} {EM : V → Prop} {SAt : V → Qb → (Nat → Prop) → St → Prop}
theorem MY (K:A2 a B EM SAt) (HS:∀W,EM W->DR W) (W:V) (v:Qb) (FP:Nat->Prop) (s:St) (D:EM W) (z:SAt W v FP s) (ks:AY s) (f:∀o∈s.obs,o.1.size<=1000) (g:∀o∈s.obs,Bw o.1) :
  Qh Qf 70 #[v] W fun e w'=>e=Qc (O U (Ag s))/\BL W w':=by
 obtain⟨pt,rfl⟩:=K.ptr _ _ _ _ z;have E:=K.names W _ FP s D z ks;have HB:S _:=K.size _ D;have HE:S _:=fun X (hb:BL W X)=>HS X (K.below _ _ D (hb.mono HB.out));have HZ:S (∀o∈s.obs,o.1.size<=1000/\Bw o.1):=fun o ho=>⟨f o ho,g o ho⟩;have F:S _:=ks.many;unfold Ag;generalize hT:Fe s.obs=l;have M:S _:=hT;have N:S (0<=l/\l<1000000000000000000):=by
  rw[<-hT];exact Pc s.obs
 go_enter func70,ntmps70
 go_wp2_with fail
 refine E.mono ?_;rintro e w1 ⟨vn,rfl,hx,ab⟩;have C:S _:=fun X (hb:BL w1 X)=>hx.below hb;obtain⟨q,af,rfl⟩:=hx.form;rw[Q2]at C;rw[Q2];obtain⟨L,hL⟩:∃L,s.obs.length=L:=⟨_,rfl⟩;have P:S _:=hL;rw[hL]at C F ⊢;have ad:=F.out;have p:S _:=ab;go_wp2
 go_loopw [3,5,9] (fun n _ i wr=> ∃m:Nat,m<=L/\i=O U m/\n=O U (Fe (s.obs.take m))/\BL w1 wr) (fun _ _ i _=>L-(Qv i).toNat)
 case atStart=>exact ⟨0,by omega,rfl,rfl,Qw _ _⟩
 case round =>
 obtain⟨m,hm,rfl,rfl,y⟩:=hrel;have j:S _:=y;have r:S _:=p.out.trans (y.mono p.out.size);by_cases Q:m<L
 case neg =>
  obtain rfl:m=L:=by omega
  have R:Fe (s.obs.take m)=l:=by rw[Q5 (by rw[P.out];exact Qn _)];exact M.out
  rw[R];have ae:IntKind.i64.wrap (l+1)=l+1:=IntWalk.i64_in _ (by have:=N.out;omega);go_wp2;go_ret;exact⟨rfl,r.out⟩
 case pos =>
 have d:m<s.obs.length:=by rw[P.out];exact Q
 have T:=C.out wr j.out;rcases T with⟨_,_,_,e⟩|⟨b,o,c,hv,hc⟩
 ·rw[List.map_eq_nil_iff]at e;rw[e]at d;simp at d
 injection hv with hq hl1 hl2;subst hq;clear hl1 hl2;have Y:=hc m (by simpa using d);rw[List.getElem_map]at Y;obtain⟨f,g⟩:=HZ.out s.obs[m] (Q6 _);have t:=Pc (s.obs.take m);have k:S (Fe (s.obs.take (m+1))=max (Fe (s.obs.take m)) (Gt s.obs[m].1)):=by
  show _=_;rw[oJ d,P4 t.1]
 generalize s.obs[m].1=x at Y f g k;have aa:=sL x wr (HE.out _ r.out) f g;clear hc d g f t
 go_wp2_with fail
 refine aa.mono ?_;rintro e w2 ⟨rfl,ac⟩;have u:S _:=j.out.trans (ac.mono j.out.size);go_wp2;go_roundw
 case rel=>first | exact⟨m+1,by omega,by go_num,by rw[k.out],u.out⟩ | ((repeat apply Exists.intro);exact⟨⟨m+1,by omega,by go_num,by rw[k.out],u.out⟩,rfl⟩)
 case measure=>simp [Qv];omega
theorem MZ (f:ByteArray) (n:Int) (w:V) (h:DR w) (m:f.size<=1000) (b: -9223372036854775808<=n/\n<=9223372036854775807) :
  Qh Qf 96 #[J f,O U n] w fun e w'=>e=Qc (J (f++Ab (itoa n)))/\BL w w':=by
 have c:=Ix n w h.tab b.1 b.2;have l:(Ab (itoa n)).size<=21:=by rw[EK];exact QO n b.1 b.2
 go_enter func96,ntmps96
 go_wp2_with fail
 refine c.mono ?_;rintro e i ⟨rfl,j,k,d⟩;have g:BL w i:=by rw[d];exact GT j k
 clear c d;go_wp2;go_ret;exact⟨rfl,g⟩
end
theorem sM {f:Fl} (h:Au f=0):f.1.size<=30/\f.2.1.size<=30:=by
 obtain⟨g,n,c,b,j⟩:=D0 h;have d:f.1.data.toList.length<=16:=by
  rw[(Ew c).1];have:=(Fu (Ew c).2.1).2;cases g<;>simp [AH,Ee,Ef]<;>omega
 have i:f.2.1.data.toList.length<=12:=by
  unfold Dz at b;cases g
  ·simp only[QJ,if_false,DG,QC,decide_eq_true_eq]at b;omega
  ·simp only[if_true,decide_eq_true_eq]at b;rw[b];decide
 rw[AC]at d i;omega
theorem sN {l:List UInt8} (h:¬20000<l.length):H8 l=if (Qp l [10]).2.2=Qi then (AE,1,Z) else match Fw (Qp l [10]).1 with
 | none=>(AE,1,Z)
 | some (x1,x2,x3,x4,x5,op,g)=>if g≠Bi (Qp l [10]).2.1 then (AE,10,Z) else
  if (Cu (Qp l [10]).2.1).2.1≠0 then (AE,(Cu (Qp l [10]).2.1).2) else
  if (Am (x1,x2,x3,x4,x5,Ab op,(Cu (Qp l [10]).2.1).1)).1≠0 then (AE,Am (x1,x2,x3,x4,x5,Ab op,(Cu (Qp l [10]).2.1).1)) else
  ((x1,x2,x3,x4,x5,Ab op,(Cu (Qp l [10]).2.1).1),0,Z):=by
 unfold H8;rw[if_neg h];rfl
theorem sO (b:List UInt8):Ej (Cu b).1:=fun f hf=>sM (kW b f hf)
def sP (w:V) (o:Option (Int×Int×Int×Int×Int×List UInt8×Int)) (e:Q3) (w':V):Prop:=BL w w'/\match o with
 | some (x1,x2,x3,x4,x5,op,g)=>e=Qc (Qd #[A8 (x1,x2,x3,x4,x5,Ab op, []) (H Z 0 0),O U g,Qy Qg])
 | none=>e=Qc (Qd #[A8 AE (H Z 0 0),O U 0,Qy Qi])
theorem DZ {W:V} {b R o:Nat} {v c d f g i j k:Qb} (h:b≠R) (l:W.cell? ⟨b,o,Z⟩=I v):(((((((W.setCell ⟨R,0,Z⟩ c).setCell ⟨R,1,Z⟩ d).setCell ⟨R,2,Z⟩ f).setCell ⟨R,3,Z⟩ g).setCell ⟨R,4,Z⟩ i).setCell ⟨R,5,Z⟩ j).setCell ⟨R,6,Z⟩ k).cell? ⟨b,o,Z⟩=I v:=by
 rw[Q1 _ _ _ _ (by simp),Q1 _ _ _ _ (by simp),Q1 _ _ _ _ (by simp),Q1 _ _ _ _ (by simp),Q1 _ _ _ _ (by simp),Q1 _ _ _ _ (by simp),Q1 _ _ _ _ (by simp)];exact l
theorem Na {W w:V} {R:Nat} {b c d f g i j:Qb} (h:Below R w W):Below R w (((((((W.setCell ⟨R,0,Z⟩ b).setCell ⟨R,1,Z⟩ c).setCell ⟨R,2,Z⟩ d).setCell ⟨R,3,Z⟩ f).setCell ⟨R,4,Z⟩ g).setCell ⟨R,5,Z⟩ i).setCell ⟨R,6,Z⟩ j) :=
 ((((((h.setCell (Qn _) _).setCell (Qn _) _).setCell (Qn _) _).setCell (Qn _) _).setCell (Qn _) _).setCell (Qn _) _).setCell (Qn _) _
theorem Ao.zero {W:V} {b:Nat} (h:Ao W b AE (H Z 0 0)):W.cell? ⟨b,0,Z⟩=I (O U 0)/\W.cell? ⟨b,1,Z⟩=I (O U 0)/\W.cell? ⟨b,2,Z⟩=I (O U 0)/\W.cell? ⟨b,3,Z⟩=I (O U 0)/\W.cell? ⟨b,4,Z⟩=I (O U 0)/\W.cell? ⟨b,5,Z⟩=I (J ⟨#[]⟩)/\W.cell? ⟨b,6,Z⟩=I (H Z 0 0)/\∀o,W.frozen? ⟨b,o,Z⟩=Qi:=by
 obtain⟨c,d,f,g,i,j,k⟩:=h.cells;exact⟨c,d,f,g,i,j,k,fun o=>h.fz o⟩
theorem sQ (s:ByteArray) (w:V) (a:Nat->Qm) (h:Cd w a) (hs:s.size<=20000) :
  Qh Qf 170 #[J s] w (sP w (Fw s.data.toList)):=by
 have an:BL w (w.alloc (A #[O U 0,O U 0,O U 0,O U 0,O U 0,J ⟨#[]⟩,H Z 0 0] 40)):=Af _ _;have aw:Ao (w.alloc (A #[O U 0,O U 0,O U 0,O U 0,O U 0,J ⟨#[]⟩,H Z 0 0] 40)) w.heap.size AE (H Z 0 0):=Ao.new w AE (H Z 0 0);have ao:=JX s _ a (h.below an) (by omega);generalize hR:Fw s.data.toList=R;have HR:S (Fw s.data.toList=R):=hR;clear hR;have ap:=JW s.data.toList
 go_enter func170,ntmps170
 go_wp2_with fail
 generalize w.alloc (A #[O U 0,O U 0,O U 0,O U 0,O U 0,J ⟨#[]⟩,H Z 0 0] 40)=WA at an aw ao ⊢;refine ao.mono ?_;rintro e w1 ⟨v1,ts,rfl,a6,af,ay⟩;clear ao;have ah:BL w w1:=Ad an ay;have ab:S (Ao w1 w.heap.size AE (H Z 0 0)):=aw.below ay;have a1:S _:=ab.out.lt;obtain⟨b,rfl,m⟩:=a6;by_cases h8:ts.length=8
 case neg =>
  have n:R=Z:=HR.out.symm.trans (kR (fun e=>h8 (by rw[<-e,<-af,Q2])));subst n;generalize ts.length=L at h8 ⊢;have a9:¬(L:Int)=8:=by omega
  clear af ap m h8 HR;obtain⟨C,D,E,F,M,N,P,yf⟩:=ab.out.zero;have s0:=Ah C;have s1:=Ah D;have s2:=Ah E;have s3:=Ah F;have s4:=Ah M;have s5:=Ah N;have s6:=Ah P;go_wp2;exact Qq (v:=Qd #[(Ql #[O U 0,O U 0,O U 0,O U 0,O U 0,J ⟨#[]⟩,H Z 0 0]),O U 0,Qy Qi]) (by simp[Qr,Q8,go_sem,C,D,E,F,M,N,P]) rfl ⟨ah,rfl⟩
 case pos =>
 obtain⟨K,T1,T2,T3,T4,T5,p,T7,rfl⟩:=kS h8;have hw:Bc s.data.toList= [K.data.toList,T1.data.toList,T2.data.toList,T3.data.toList,T4.data.toList,T5.data.toList,p.data.toList,T7.data.toList]:=by rw[<-af];rfl
 have aq:=HR.out;rw[kU hw]at aq;have ar:∀t∈ [K,T1,T2,T3,T4,T5,p,T7],t.size<=20000:=fun t f=>by
  have:=ap t.data.toList (by rw[<-af];exact Q9.2 ⟨t,f,rfl⟩);rw[AC,AC]at this;omega
 have a2:=ar T7 (by simp);have c0:=m 0 (by simp);have c6:=m 6 (by simp);have c7:=m 7 (by simp);simp only[QP,QQ]at c0 c6 c7;have ai:=LU b 1 7 [T1,T2,T3,T4,T5] w1 a (h.below ah) (fun j hj=>by
  have a3:j+1 < [K,T1,T2,T3,T4,T5,p,T7].length:=by simp at hj ⊢;omega
  have:=m (j+1) a3;rw[Nat.add_comm 1 j];rw[this]
  match j,hj with
  | 0,_=>rfl
  | 1,_=>rfl
  | 2,_=>rfl
  | 3,_=>rfl
  | 4,_=>rfl
  | k+5,hj=>exact absurd hj (by simp only[Q0,QG];omega)) (fun t f=>by
   have:=ar t (by
    simp only[QF,List.not_mem_nil,or_false]at f ⊢;rcases f with rfl | rfl | rfl | rfl | rfl<;>simp)
   unfold Qu;omega) (by simp)
 have aj:=fun W (hW:Cd W a)=>LR T7 W a hW (by unfold Qu;omega);have ak:S ((match H3 T1.data.toList T2.data.toList T3.data.toList T4.data.toList T5.data.toList T7.data.toList with
  | some (r,u,y,z,B,g)=>if K.data.toList=Gc then I (r,u,y,z,B,p.data.toList,g) else Z
  | none=>Z)=R):=aq
 clear hw af ap m h8 ar aq a2 HR;simp only[Q0,QG,QR,Xj]at ai ⊢;by_cases hk:K.data.toList=Gc
 case neg =>
  have n:R=Z:=by
   rw[<-ak.out];split
   ·rw[if_neg hk]
   ·rfl
  subst n;have d1:=BD hk;simp only[Gc]at d1;clear hk ai aj ak c6 c7;obtain⟨C,D,E,F,M,N,P,yf⟩:=ab.out.zero;have s0:=Ah C;have s1:=Ah D;have s2:=Ah E;have s3:=Ah F;have s4:=Ah M;have s5:=Ah N;have s6:=Ah P;go_wp2;exact Qq (v:=Qd #[(Ql #[O U 0,O U 0,O U 0,O U 0,O U 0,J ⟨#[]⟩,H Z 0 0]),O U 0,Qy Qi]) (by simp[Qr,Q8,go_sem,C,D,E,F,M,N,P]) rfl ⟨ah,rfl⟩
 case pos =>
 have d1:=CQ hk;have q:S ((match H3 T1.data.toList T2.data.toList T3.data.toList T4.data.toList T5.data.toList T7.data.toList with
  | some (r,u,y,z,B,g)=>I (r,u,y,z,B,p.data.toList,g)
  | none=>Z)=R):=by
  show _=_;rw[<-ak.out];split
  ·rw[if_pos hk]
  ·rfl
 simp only[Gc]at d1;clear hk ak
 go_wp2_with fail
 refine ai.mono ?_;rintro e w3 ⟨a0,ag⟩;clear ai;have ac:BL w w3:=Ad ah ag;have al:S (Ao w3 w.heap.size AE (H Z 0 0)):=ab.out.below ag;have e6:=Aa ag c6;have e7:=Aa ag c7;clear ab c0 c6 c7 d1;rcases a0 with⟨zs,g,az,X,rfl,Y,ba⟩|⟨j,t,f,aa,rfl⟩
 case inr =>
  have n:R=Z:=by
   rw[<-q.out,TR]
   match j,f with
   | 0,f=>exact Qj (by rw[Qx f];exact aa)
   | 1,f=>exact Qe (Qj (by rw[Qx f];exact aa))
   | 2,f=>exact Qe (Qe (Qj (by rw[Qx f];exact aa)))
   | 3,f=>exact Qe (Qe (Qe (Qj (by rw[Qx f];exact aa))))
   | 4,f=>exact Qe (Qe (Qe (Qe (Qj (by rw[Qx f];exact aa)))))
   | k+5,f=>simp at f
  subst n;clear q f aa e6 e7 aj;obtain⟨C,D,E,F,M,N,P,yf⟩:=al.out.zero;have s0:=Ah C;have s1:=Ah D;have s2:=Ah E;have s3:=Ah F;have s4:=Ah M;have s5:=Ah N;have s6:=Ah P;go_wp2;exact Qq (v:=Qd #[(Ql #[O U 0,O U 0,O U 0,O U 0,O U 0,J ⟨#[]⟩,H Z 0 0]),O U 0,Qy Qi]) (by simp[Qr,Q8,go_sem,C,D,E,F,M,N,P]) rfl ⟨ac,rfl⟩
 case inl =>
 obtain⟨r,u,y,z,B,ae⟩:=kT (l:=zs) az;subst ae;have q1:=X 0 T1 rfl;have q2:=X 1 T2 rfl;have q3:=X 2 T3 rfl;have q4:=X 3 T4 rfl;have q5:=X 4 T5 rfl;have k1:=Y 0 (by simp);have k2:=Y 1 (by simp);have k3:=Y 2 (by simp);have k4:=Y 3 (by simp);have k5:=Y 4 (by simp);simp only[QP,QQ]at k1 k2 k3 k4 k5;have o:=aj w3 (h.below ac);unfold Dn at o;clear aj X Y az;simp only[Q0,QG,QR,Xj]
 cases hg:At T7.data.toList with
 | none =>
  rw[hg]at o;dsimp only at o;have n:R=Z:=by rw[<-q.out,TR (Qe (Qe (Qe (Qe (Qe hg)))))]
  subst n;clear q hg q1 q2 q3 q4 q5
  go_wp2_with fail
  refine o.mono ?_;rintro e w4 ⟨rfl,i⟩;clear o;have Q:BL w w4:=Ad ac i;obtain⟨C,D,E,F,M,N,P,yf⟩:=(al.out.below i).zero;have s0:=Ah C;have s1:=Ah D;have s2:=Ah E;have s3:=Ah F;have s4:=Ah M;have s5:=Ah N;have s6:=Ah P;go_wp2;exact Qq (v:=Qd #[(Ql #[O U 0,O U 0,O U 0,O U 0,O U 0,J ⟨#[]⟩,H Z 0 0]),O U 0,Qy Qi]) (by simp[Qr,Q8,go_sem,C,D,E,F,M,N,P]) rfl ⟨Q,rfl⟩
 | some sm =>
  rw[hg]at o;dsimp only at o;have n:R=I (r,u,y,z,B,p.data.toList,sm):=by
   rw[<-q.out,kV (by simpa using q1) (by simpa using q2) (by simpa using q3) (by simpa using q4) (by simpa using q5) hg]
  subst n;clear q hg q1 q2 q3 q4 q5
  go_wp2_with fail
  refine o.mono ?_;rintro e w4 ⟨rfl,i⟩;clear o;have Q:BL w w4:=Ad ac i;have ad:=al.out.below i;have t6:=Aa i e6;have l1:=Aa i k1;have l2:=Aa i k2;have l3:=Aa i k3;have l4:=Aa i k4;have l5:=Aa i k5;have am:b≠w.heap.size:=fun e=>by
   have e2:=ad.zero.2.2.2.2.2.2.1;rw[<-e]at e2;have:=t6.symm.trans e2;simp at this
  have c:g≠w.heap.size:=by have:=a1.out;omega
  have a7:¬w.heap.size=b:=fun e=>am e.symm;have a8:¬w.heap.size=g:=fun e=>c e.symm;have d:BL w4 w4.drew:=(Qw _ _).drew;have au:=ad.below d;have ax:=Q.drew;have T:Below (((((((w4.setCell ⟨w.heap.size,0,Z⟩ (O U r)).setCell ⟨w.heap.size,1,Z⟩ (O U u)).setCell ⟨w.heap.size,2,Z⟩ (O U y)).setCell ⟨w.heap.size,3,Z⟩ (O U z)).setCell ⟨w.heap.size,4,Z⟩ (O U B)).setCell ⟨w.heap.size,5,Z⟩ (J p)).setCell ⟨w.heap.size,6,Z⟩ (H Z 0 0)).heap.size (((((((w4.setCell ⟨w.heap.size,0,Z⟩ (O U r)).setCell ⟨w.heap.size,1,Z⟩ (O U u)).setCell ⟨w.heap.size,2,Z⟩ (O U y)).setCell ⟨w.heap.size,3,Z⟩ (O U z)).setCell ⟨w.heap.size,4,Z⟩ (O U B)).setCell ⟨w.heap.size,5,Z⟩ (J p)).setCell ⟨w.heap.size,6,Z⟩ (H Z 0 0)) (((((((w4.setCell ⟨w.heap.size,0,Z⟩ (O U r)).setCell ⟨w.heap.size,1,Z⟩ (O U u)).setCell ⟨w.heap.size,2,Z⟩ (O U y)).setCell ⟨w.heap.size,3,Z⟩ (O U z)).setCell ⟨w.heap.size,4,Z⟩ (O U B)).setCell ⟨w.heap.size,5,Z⟩ (J p)).setCell ⟨w.heap.size,6,Z⟩ (H Z 0 0)).drew:=(Qw _ _).drew;obtain⟨C,D,E,F,M,N,P,yf⟩:=au.zero;obtain⟨v0,v1,v2,v3,v4,v5,v6,vf⟩:=ad.zero;have ae:=ad.set (r,u,y,z,B,p, []) (H Z 0 0);have av:=au.set (r,u,y,z,B,p, []) (H Z 0 0);unfold Gi at ae av;dsimp only at ae av;clear e6 e7 k1 k2 k3 k4 k5 i ag ad au ac al
  go_wp2_with fail
  go_region_held3 (fun w'=>w'.cell? ⟨b,6,Z⟩=I (J p)/\w'.cell? ⟨g,0,Z⟩=I (O U r)/\w'.cell? ⟨g,1,Z⟩=I (O U u)/\w'.cell? ⟨g,2,Z⟩=I (O U y)/\w'.cell? ⟨g,3,Z⟩=I (O U z)/\w'.cell? ⟨g,4,Z⟩=I (O U B)/\BL w w')
   (first
    | with_reducible exact⟨Aa d t6,Aa d l1,Aa d l2,Aa d l3,Aa d l4,Aa d l5,ax⟩
    | with_reducible exact⟨DZ am (Aa d t6),DZ c (Aa d l1),DZ c (Aa d l2),DZ c (Aa d l3),DZ c (Aa d l4),DZ c (Aa d l5),Na ax⟩
    | with_reducible exact⟨Aa T (DZ am t6),Aa T (DZ c l1),Aa T (DZ c l2),Aa T (DZ c l3),Aa T (DZ c l4),Aa T (DZ c l5),(Na Q).drew⟩
    | with_reducible exact⟨t6,l1,l2,l3,l4,l5,Q⟩
    | with_reducible exact⟨DZ am t6,DZ c l1,DZ c l2,DZ c l3,DZ c l4,DZ c l5,Na Q⟩)
   (fail)
  go_split_ands;have a4:BL w (((((((w4.setCell ⟨w.heap.size,0,Z⟩ (O U r)).setCell ⟨w.heap.size,1,Z⟩ (O U u)).setCell ⟨w.heap.size,2,Z⟩ (O U y)).setCell ⟨w.heap.size,3,Z⟩ (O U z)).setCell ⟨w.heap.size,4,Z⟩ (O U B)).setCell ⟨w.heap.size,5,Z⟩ (J p)).setCell ⟨w.heap.size,6,Z⟩ (H Z 0 0)):=Na Q;have a5:=a4.drew;obtain⟨u0,u1,u2,u3,u4,u5,u6⟩:=(ae.below T).cells;obtain⟨m0,m1,m2,m3,m4,m5,m6⟩:=av.cells;dsimp only at u0 u1 u2 u3 u4 u5 m0 m1 m2 m3 m4 m5;go_wp2;refine Qq (v:=Qd #[Ql #[O U r,O U u,O U y,O U z,O U B,J p,H Z 0 0],O U sm,Qy Qg]) (by simp[Qr,Q8,go_sem,u0,u1,u2,u3,u4,u5,u6]) rfl ⟨a5,?_⟩;dsimp only;rw[D7];rfl
theorem V7:∀(n:Nat) (s:List UInt8),s.length<=n->((Ax 10 s).getLastD []= []↔s= []\/Q4 s [10]=Qg)
 | 0,s,h=>by
  obtain rfl:s= []:=QS.1 (by omega);simp[JY 10 [] (by simp)]
 | n+1,s,h=>by
  have d:∀t:List UInt8,Q4 t [10]=Qg↔ [10] <:+ t:=fun t=>by unfold Q4;exact List.isSuffixOf_iff_suffix
  rcases Hx 10 s with⟨f,_⟩|⟨a,b,rfl,f,_⟩
  ·rw[JY 10 s f,d];constructor
   ·intro e;exact Qj e
   ·rintro(e | ⟨t,e⟩)
    ·exact e
    ·exact absurd rfl (f 10 (by rw[<-e];simp))
  ·have o:b.length<=n:=by simp at h;omega
   have p:=V7 n b o;rw[Hw 10 a b f];obtain⟨v,r,e⟩:=List.exists_cons_of_ne_nil (JZ 10 b);have q:(a :: Ax 10 b).getLastD []=(Ax 10 b).getLastD []:=by rw[e];simp[List.getLastD_eq_getLast?,List.getLast?_cons_cons]
   rw[q,p,d,d];constructor
   ·rintro(rfl | ⟨t,rfl⟩)
    ·exact Qe ⟨a,rfl⟩
    ·exact Qe ⟨a++10 :: t,by simp⟩
   ·rintro(k | ⟨t,k⟩)
    ·simp at k
    ·by_cases g:b= []
     ·exact Qj g
     ·refine Qe ?_;have j:(a++10 :: b).getLast? =I 10:=by rw[<-k];simp
      have l:b.getLast? =I 10:=by
       rw[List.getLast?_append,List.getLast?_cons]at j
       cases i:b.getLast? with
       | none=>exact absurd (List.getLast?_eq_none_iff.1 i) g
       | some c=>rw [i]at j;simpa using j
      obtain⟨u,m⟩:=List.getLast?_eq_some_iff.1 l;exact⟨u,m.symm⟩
theorem sR (s:List UInt8):(Kl (Ax 10 s):Int)=if s≠ []/\Q4 s [10]=Qi then (s.count 10:Int)+1 else s.count 10:=by
 have d:=Oc 10 s;have c:=V7 s.length s (Qn _);unfold Kl;by_cases h:(Ax 10 s).getLastD []= []
 ·rw[if_pos h,if_neg,d]
  ·simp
  ·rintro⟨f,g⟩;rcases c.1 h with b | b
   ·exact f b
   ·rw[g]at b;cases b
 ·rw[if_neg h,if_pos,d]
  ·simp
  ·refine⟨fun e=>h (c.2 (Qj e)),?_⟩
   cases i:Q4 s [10] with
   | false=>rfl
   | true=>exact absurd (c.2 (Qe i)) h
theorem sS (s:ByteArray) (w:V) (n:s.size<=100000) :
  Qh Qf 260 #[J s] w fun e w'=>e=Qc (O U (Kl (Ax 10 s.data.toList)))/\w'=w:=by
 have b:=strings_Count_one s 10 w;have c:=strings_HasSuffix s ⟨#[10]⟩ w (by omega);rw[sR];unfold Lib.countByte at b;have f:=List.count_le_length (a:=(10:UInt8)) (l:=s.data.toList);rw[AC]at f;have j:(⟨#[10]⟩:ByteArray).data.toList= [10]:=rfl;rw[j]at c;generalize List.count 10 s.data.toList=N at b f ⊢;by_cases d:s.data.toList= []
 ·have k:=CQ d;rw[if_neg (by simp[d])]
  go_enter QT,QU
  go_wp2_with fail
  refine b.mono ?_;rintro e g ⟨rfl,rfl⟩;go_wp2;go_ret;exact⟨rfl,rfl⟩
 ·have k:=BD d
  cases i:Q4 s.data.toList [10] with
  | true =>
   rw[if_neg (by simp)];rw[i]at c
   go_enter QT,QU
   go_wp2_with fail
   refine b.mono ?_;rintro e g ⟨rfl,rfl⟩
   go_wp2_with fail
   refine c.mono ?_;rintro e m ⟨rfl,rfl⟩;go_wp2;go_ret;exact⟨rfl,rfl⟩
  | false =>
   rw[if_pos ⟨d,rfl⟩];rw[i]at c
   go_enter QT,QU
   go_wp2_with fail
   refine b.mono ?_;rintro e g ⟨rfl,rfl⟩
   go_wp2_with fail
   refine c.mono ?_;rintro e m ⟨rfl,rfl⟩;go_wp2;go_ret;exact⟨by go_num,rfl⟩
structure ER (W:V) (B bl:Nat) (v:Qb) (acc:List Fl):Prop where
 box:W.heap[bl]? =I (A #[v] 38 (0,0))
 own:W.ownsRow B 77 6 v acc.length (Ay acc)
 off:v.ownBlock≠I bl
 low:B<=bl
 good:∀g∈acc,Au g=0
theorem ER.below {W d:V} {B c:Nat} {v:Qb} {b:List Fl} (h:ER W B c v b) (f:BL W d):ER d B c v b :=
 ⟨(f.block c (QV h.box)).trans h.box,Eu h.own f,h.off,h.low,h.good⟩
theorem sT {W i:V} {B b:Nat} {v v':Qb} {c:List Fl} {x:Fl} (h:ER W B b v c) (o:Au x=0) (p:i.ownsRow B 77 6 v' (c.length+1) (Ay c++Bv x)) (d:W.grownBy i v.ownBlock) (l:v'.ownBlock=v.ownBlock\/v'.ownBlock=I W.heap.size) :
  ER (i.setCell ⟨b,0,Z⟩ v') B b v' (c++ [x])/\i.heap[b]? =I (A #[v] 38 (0,0)):=by
 have k:=QV h.box;have j:i.heap[b]? =I (A #[v] 38 (0,0)):=(d.block b k (fun e=>h.off e.symm)).trans h.box;have f:v'.ownBlock≠I b:=by
  rcases l with e | e
  ·rw[e];exact h.off
  ·rw[e];intro n;have:=Qx n;omega
 refine⟨⟨one_setCell j,?_,f,h.low,fun g d=>?_⟩,j⟩
 ·rw[Qt,Id];have m:Ay [x]=Bv x:=by simp[Ay]
  rw[m];exact ownsRow_setCell_other p f _
 ·rw[QI,List.mem_singleton]at d;rcases d with d | rfl
  ·exact h.good g d
  ·exact o
theorem sU (b:List Fl) (l:List UInt8):C6 B2 b l=if (BZ l).2≠0 then (BZ l).2 else GD b (BZ l).1:=by
 show (if (BZ l).2≠0 then (BZ l).2 else if b≠ []/\decide (fk (BZ l).1<=fk (b.getLastD BC))=Qg then 9 else 0)=_;unfold GD;simp only[decide_eq_true_eq]
def P5 (a:Nat->Qm) (B bl:Nat) (acc:List Fl) (l:List UInt8) (W:V) (e:Q3) (w':V):Prop:=Below B W w' /\
 ((C6 B2 acc l≠0/\e=Qc (Ae a (C6 B2 acc l)))\/(C6 B2 acc l=0/\e= .returned Qs/\∃v',ER w' B bl v' (acc++ [(BZ l).1])))
theorem sV (d:ByteArray) (R B:Nat) (v:Qb) (b:List Fl) (W:V) (a:Nat->Qm) (h:GC W a) (t:ER W B R v b) (hs:d.size<=100000) (hl:b.length<=100000) :
  Qh Qf 261 #[J d,Qa (I ⟨R,0,Z⟩)] W (P5 a B R b d.data.toList W):=by
 obtain⟨i0,ax,ay,az,ak⟩:=Tryz.fileInfo;unfold P5;rw[sU];have i:=kN d W a ⟨h.list.file,h.text⟩ hs;have l:=TN d.data.toList;have ao:S _:=fun W' (hb:BL W W')=>(h.below hb).list;have m:=Qo t.low (Xk (QV t.box));generalize BZ d.data.toList=RF at i l ⊢;obtain⟨f,E⟩:=RF;dsimp only at i l ⊢;by_cases hE:E=0
 ·subst hE;replace l:=l rfl;have F:=fun W' (hb:BL W W')=>U9 v b f W' a (ao.out W' hb) (GA (t.below hb).own).1 hl (fun g hg=>⟨by have:=TO (t.good g hg);omega,H1 (t.good g hg)⟩) (by have:=TO l;omega) (H1 l);simp only[Ae]at i;obtain⟨q,cp,rfl⟩:=TL t.own;have ap:S _:=l;have T:S (∀W',BL W W'->ER W' B R (H q b.length cp) b):=fun W' hb=>t.below hb;have aq:S (∀k,QW (H q b.length cp)=I k->B<=k/\k<W.heap.size):=fun k hk=>t.own.lt k hk;obtain⟨X,hX⟩:∃X,GD b f=X:=⟨_,rfl⟩;have ar:X=0\/X=9:=by
   rw[<-hX];unfold GD;split
   ·exact Qe rfl
   ·exact Qj rfl
  rw[hX]at F;simp only[hX];have ae:=fun p=>Js p f;have K:=fun p=>I6 p f;unfold He at ae K;unfold A6 at i F;obtain⟨N,hN⟩:∃N,b.length=N:=⟨_,rfl⟩;have HN:S (b.length=N):=hN;rw[hN]at F T aq hl;clear hN;obtain⟨y,z,C,n,o,c⟩:=f
  go_enter QX,ntmps261
  go_wp2_with fail
  refine i.mono ?_;rintro e p ⟨rfl,ad⟩;have Y:=ae p;have L:=K p
  go_upto_region 3 with fail
  generalize p.alloc (A #[J y,J z,O U C,O U n,O U o,O U c] 77)=W2 at Y L ⊢;have r:BL W W2:=Ad ad L;have aj:=T.out W2 r;have k0:=QH aj.box;obtain⟨z0,z1,z2,z3,z4,z5,-⟩:=Y.cells;have au:=F W2 r
  go_wp2_with fail
  refine au.mono ?_;rintro e D ⟨rfl,ai⟩;have M:BL W D:=Ad r ai;have av:=Y.below ai;have aa:=T.out D M;obtain⟨z0,z1,z2,z3,z4,z5,-⟩:=av.cells;dsimp only at z0 z1 z2 z3 z4 z5;rcases ar with rfl | rfl
  ·have af:BL D (D.alloc (A #[J y,J z,O U C,O U n,O U o,O U c] 77)):=Af _ _;have ab:BL W (D.alloc (A #[J y,J z,O U C,O U n,O U o,O U c] 77)):=Ad M af;have k0:=QH aa.box;have P:S (ER (D.alloc (A #[J y,J z,O U C,O U n,O U o,O U c] 77)) B R (H q N cp) b):=aa.below af;simp only[Ae]
   go_wp2_with (at_builtin;refine wpList_append_own_at _ rfl _ _ 38 rfl B 77 i0 (Ql #[J ⟨#[]⟩,J ⟨#[]⟩,O U 0,O U 0,O U 0,O U 0]) 6 64 underlying38 ax ay az ak rfl (by decide) (H q N cp) b.length (Ay b) rfl P.out.own ⟨D.heap.size,0,Z⟩ 1 1 (Bv (y,z,C,n,o,c)) rfl ?qd1 ?qd2 ?qd3 ?qd4 ?qd5 ?qd6 ?_)
   case qd1=>rfl
   case qd2=>first | exact Kj _ _ | exact fun j u hu=>hu
   case qd3=>exact Ic _
   case qd4=>have:=HN.out;unfold Qu;omega
   case qd5=>have:=HN.out;omega
   case qd6=>exact Qo m ab.size
   intro v7 w7 Q s _ an;obtain⟨g7,al,rfl⟩:=Jo Q;obtain⟨am,ah⟩:=sT (x:=(y,z,C,n,o,c)) P.out ap.out Q s (by simpa using an);have a0:=QH ah;have a1:=free_of_one ah;have aw:Below B W w7:=(ab.mono m).grown s (Qo m ab.size) (fun k hk=>KW P.out.own hk);have ag:Below B W (w7.setCell ⟨R,0,Z⟩ (H (I ⟨g7,0,Z⟩) (b.length+1) al)):=aw.setCell P.out.low _;have ac:S _:=am;go_wp2;go_ret
   first | exact⟨ag,Qe ⟨rfl,rfl,_,ac.out⟩⟩ | exact⟨ag,rfl,_,ac.out⟩
  ·simp only[Ae];go_wp2;go_ret
   first | exact⟨M.mono m,Qj ⟨by decide,rfl⟩⟩ | exact⟨M.mono m,rfl⟩
 ·obtain⟨j,rfl⟩:∃j,E=j+1:=⟨E-1,by omega⟩;simp only[Ae]at i ⊢;have K:=fun p=>I6 p f;unfold A6 at i;obtain⟨y,z,C,n,o,c⟩:=f
  go_enter QX,ntmps261
  go_wp2_with fail
  refine i.mono ?_;rintro e p ⟨rfl,ad⟩;have L:=K p
  go_upto_region 2 with fail
  have r:=Ad ad L;go_wp2;go_ret
  first | exact⟨r.mono m,Qj ⟨by simp,rfl⟩⟩ | exact⟨r.mono m,rfl⟩
def P6 (a:Nat->Qm) (B bl:Nat) (W:V) (R:List Fl×Nat×Nat) (e:Q3) (w':V):Prop:=Below B W w'/\((R.2.1=0/\e= .returned Qs/\∃v',ER w' B bl v' R.1) \/
 (R.2.1≠0/\∃fb,e=Qc (Qk 140 (Qa (I ⟨fb,0,Z⟩)))/\w'.cell? ⟨fb,0,Z⟩=I (O U R.2.2)/\w'.cell? ⟨fb,1,Z⟩=I (Ae a R.2.1)))
theorem sW (y B:Nat) (v:Qb) (j:ByteArray) (W:V) (a:Nat->Qm) (m:∀W',Below B W W'->GC W' a) (ai:ER W B y v []) (aa:B<=W.heap.size) (hs:j.size<=20000) :
  Qh Qf 208 #[J j,.func (.func 261) #[] #[Qa (I ⟨y,0,Z⟩)]] W (P6 a B y W (AV B2 (Ax 10 j.data.toList) 0 [])):=by
 have eg:∀args w,(callFunc 261 args).run Qf w= .ok (.enter 261 args) w:=enters_of QX (by kernel_rfl) rfl;unfold P6;obtain⟨R,hR⟩:∃R,AV B2 (Ax 10 j.data.toList) 0 []=R:=⟨_,rfl⟩;rw[hR];have HR:S (AV B2 (Ax 10 j.data.toList) 0 []=R):=hR;clear hR
 go_enter func208,ntmps208
 go_wp2
 go_loopw [0,5] (fun sv n wr=> ∃(rest:ByteArray) (b:List Fl),sv=J rest/\n=O U b.length/\rest.size+b.length<=20000/\Below B W wr/\(∃v',ER wr B y v' b)/\AV B2 (Ax 10 rest.data.toList) b.length b=R) (fun sv _ _=>Mq sv)
 case atStart=>exact ⟨j, [],rfl,rfl,by simpa using hs,Qw _ _,⟨v,ai⟩,HR.out⟩
 case round =>
  clear ai;obtain⟨rest,b,rfl,rfl,ap,X,⟨v1,p⟩,al⟩:=hrel;have t:S (AV B2 (Ax 10 rest.data.toList) b.length b=R):=al;have K:=m wr X;have ab:=Qo aa X.size;obtain⟨n,hn⟩:∃n,b.length=n:=⟨_,rfl⟩;have D:S _:=hn;rw[hn]at ap;simp only[hn];clear hn;by_cases he:rest.size=0
  ·have L:rest.data.toList= []:=QS.1 (by rw[AC];exact he);have am:(rest.toList == [])=Qg:=CQ L;have c:S (R=(b,0,0)):=by
    show _=_;rw[<-t.out,L];rfl
   have an:S (ER wr B y v1 b):=p;clear L p;go_wp2;go_ret;refine⟨X,Qj ⟨by rw[c.out],rfl,v1,?_⟩⟩;rw[c.out];exact an.out
  ·have z:rest.data.toList≠ []:=fun e=>he (by rw[<-AC,e];rfl);have am:(rest.toList == [])=Qi:=BD z;obtain⟨mx,Y⟩:=K.list.file.env.base.maxl;have hcut:=strings_Cut rest ⟨#[10]⟩ mx wr (by omega) Y;dsimp only at hcut;rcases Hx 10 rest.data.toList with⟨s,hc⟩|⟨f,g,hl,s,hc⟩
   ·rw[hc]at hcut;dsimp only at hcut;have c:S (R=([],1,n)):=by
     show _=_;rw[<-t.out,JY 10 _ s,KK,if_neg z,D.out]
    clear hc s z p;generalize (⟨rest.data.toList.toArray⟩:ByteArray)=fB at hcut
    go_wp2_with fail
    refine hcut.mono ?_;rintro e w1 ⟨rfl,q,rfl⟩;clear hcut;have l:BL wr (wr.drewN q):=AK (Qw _ _) q;have i:Below B W (wr.drewN q):=X.trans (l.mono ab);have ht:=(m _ i).text;clear K Y l;generalize wr.drewN q=F at i ht ⊢;have M:BL F (F.alloc (A #[O U n,Qk 410 (Qa (I (a 0)))] 143)):=Af _ _;have o:Below B W (F.alloc (A #[O U n,Qk 410 (Qa (I (a 0)))] 143)):=i.trans (M.mono (Qo aa i.size));go_wp2;go_ret;exact⟨o,Qe ⟨by rw[c.out];exact Nat.one_ne_zero,F.heap.size,rfl,by rw[c.out];simp,by rw[c.out];simp[Ae]⟩⟩
   ·rw[hc]at hcut;dsimp only at hcut;have aj:f.length+g.length+1=rest.size:=by rw[<-AC,hl];simp;omega
    have k:R=if C6 B2 b f≠0 then ([],C6 B2 b f,n) else AV B2 (Ax 10 g) (n+1) (b++ [(BZ f).1]):=by
     rw[<-t.out,hl,Hw 10 f g s,Tn B2 f _ (JZ 10 g),D.out];rfl
    have eA:(⟨f.toArray⟩:ByteArray)=Ab f:=rfl;have eB:(⟨g.toArray⟩:ByteArray)=Ab g:=rfl;rw[eA,eB]at hcut;have ac:(Ab f).data.toList=f:=by simp[Ab]
    have ad:(Ab g).data.toList=g:=by simp[Ab]
    have N:(Ab f).size<=100000:=by rw[De];omega
    have u:(Ab g).size+n+1<=20000/\(Ab g).size<rest.size:=by rw[De];omega
    have P:b.length<=100000:=by rw[D.out];omega
    clear hc s z hl eA eB aj
    go_wp2_with fail
    refine hcut.mono ?_;rintro e w1 ⟨rfl,q,rfl⟩;clear hcut;have l:BL wr (wr.drewN q):=AK (Qw _ _) q;have i:Below B W (wr.drewN q):=X.trans (l.mono ab);have ae:=m _ i;have Q:=p.below l;clear p K Y l;generalize wr.drewN q=F at i ae Q ⊢;have d:=sV (Ab f) y B v1 b F a ae Q N P;rw[ac]at d;unfold P5 at d;have T:S ((Ab g).data.toList=g):=ad;clear Q ac ad P;obtain⟨E,ag⟩:∃E,C6 B2 b f=E:=⟨_,rfl⟩;rw[ag]at d k;clear ag;by_cases af:E=0
    ·subst af;rw[if_neg (by simp)]at k;have c:S (AV B2 (Ax 10 g) (n+1) (b++ [(BZ f).1])=R):=k.symm;clear k;simp only[ne_eq,not_true_eq_false,false_and,false_or,true_and]at d;generalize (BZ f).1=x at d c;generalize Ab f=lA at d N ⊢;generalize Ab g=lB at u T ⊢
     go_wp2_with (go_at_fn 261;refine d.mono ?_;rintro e r ⟨o,rfl,v2,ah⟩)
     have C:Below B W r:=i.trans o;have ak:S (ER r B y v2 (b++ [x])):=ah;clear ah d;go_roundw
     case rel=>exact ⟨lB,b++ [x],rfl,by rw[Qt,D.out];go_num,by rw[Qt,D.out];simp;omega,C,⟨v2,ak.out⟩,by rw[T.out,Qt,D.out];exact c.out⟩
     case measure=>simp only[Mq];exact u.2
    ·rw[if_pos af]at k;obtain⟨E',aq⟩:∃E',E=E'+1:=⟨E-1,by omega⟩;subst aq;have c:S (R=([],E'+1,n)):=k;clear k;simp only[Ae,ne_eq,Xl,not_false_eq_true,false_and,or_false,true_and]at d;generalize Ab f=lA at d N ⊢;generalize Ab g=lB at u T ⊢
     go_wp2_with (go_at_fn 261;refine d.mono ?_;rintro e r ⟨o,rfl⟩)
     have C:Below B W r:=i.trans o;have M:BL r (r.alloc (A #[O U n,Qk 410 (Qa (I (a E')))] 143)):=Af _ _;have ao:Below B W (r.alloc (A #[O U n,Qk 410 (Qa (I (a E')))] 143)):=C.trans (M.mono (Qo aa C.size));clear d;go_wp2;go_ret;exact⟨ao,Qe ⟨by rw[c.out];exact Xl _,r.heap.size,rfl,by rw[c.out];simp,by rw[c.out];simp[Ae]⟩⟩
theorem sX (s:ByteArray) (w:V) (a:Nat->Qm) (h:GC w a) (z:s.size<=20000) :
  Qh Qf 172 #[J s] w fun e w'=> ∃v' ev,e=Qc (Qd #[v',ev])/\Ai w' v' (Cu s.data.toList).1/\AZ w' a ev (Cu s.data.toList).2/\BL w w'/\F9 w v':=by
 have f:=sS s w (by omega);rw[TM];by_cases m:60<Kl (Ax 10 s.data.toList)
 ·rw[if_pos m];dsimp only;have B:(60:Int)<(Kl (Ax 10 s.data.toList):Int):=by omega
  have C:=h.list.full
  go_enter QY,QZ
  go_wp2_with fail
  refine f.mono ?_;rintro e l ⟨rfl,rfl⟩;go_wp2
  go_quiet (fail)
  go_wp2;go_ret2;exact⟨_,_,rfl,Qj ⟨Z,0,rfl,fun _=>rfl,rfl⟩,rfl,AK (Qw _ _) nq,O5 _⟩
 ·rw[if_neg m];have d:BL w (w.alloc (A #[H Z 0 0] 38)):=Af _ _;have b:ER (w.alloc (A #[H Z 0 0] 38)) w.heap.size w.heap.size (H Z 0 0) []:=⟨QK _ _,Xa _ _ _ _,by simp[QW],Qn _,by simp⟩;have c:=sW w.heap.size w.heap.size (H Z 0 0) s (w.alloc (A #[H Z 0 0] 38)) a (fun W' hb=>h.below (d.trans hb)) b d.size z;unfold P6 at c;generalize AV B2 (Ax 10 s.data.toList) 0 []=R at c ⊢;obtain⟨u,E,n⟩:=R;by_cases j:E=0
  ·subst j;simp only[ne_eq,not_true_eq_false,false_and,or_false,true_and,if_false]at c ⊢
   go_enter QY,QZ
   go_wp2_with fail
   refine f.mono ?_;rintro e l ⟨rfl,rfl⟩
   go_wp2_with fail
   refine c.mono ?_;rintro e r ⟨i,rfl,t,b⟩;have g:=d.trans i;have o:=QH b.box;have p:S (Ai r t u):=(GA b.own).1;have q:S (F9 l t):=fun k hk=>Jt b.own hk;obtain⟨D,F,rfl⟩:=TL b.own;go_wp2;go_ret2;exact⟨_,_,rfl,p.out,rfl,g,q.out⟩
  ·simp only[ne_eq,j,not_false_eq_true,true_and,false_and,false_or,if_true]at c ⊢
   go_enter QY,QZ
   go_wp2_with fail
   refine f.mono ?_;rintro e l ⟨rfl,rfl⟩
   go_wp2_with fail
   refine c.mono ?_;rintro e r ⟨i,v,rfl,o,y⟩;have g:=d.trans i;go_wp2;go_ret2;exact⟨_,_,rfl,Qj ⟨Z,0,rfl,fun _=>rfl,rfl⟩,⟨j,v,rfl,o,y⟩,g,O5 _⟩
def P7 (w:V) (a:Nat->Qm) (R:Sn×Nat×Option Nat) (e:Q3) (w':V):Prop:= ∃vf ev,e=Qc (Qd #[A8 R.1 vf,ev])/\Ai w' vf R.1.2.2.2.2.2.2/\AZ w' a ev R.2/\BL w w'/\F9 w vf
theorem JE {w w':V} {a:Nat->Qm} {b:Qb} {c:Nat×Option Nat} (h:AZ w' a b c) (d:BL w w'):P7 w a (AE,c) (Qc (Qd #[(Ql #[O U 0,O U 0,O U 0,O U 0,O U 0,J ⟨#[]⟩,H Z 0 0]),b])) w' :=
 ⟨H Z 0 0,b,rfl,Qj ⟨Z,0,rfl,fun _=>rfl,rfl⟩,h,d,O5 _⟩
theorem sY (s:ByteArray) (w:V) (a:Nat->Qm) (h:Lj w a) (hs:s.size<=Qu) :
  Qh Qf 97 #[J s] w (P7 w a (H8 s.data.toList)):=by
 unfold Qu at hs;have bl:=AC s;have ad:BL w (w.alloc (A #[O U 0,O U 0,O U 0,O U 0,O U 0,J ⟨#[]⟩,H Z 0 0] 40)):=Af _ _;have ah:Ao (w.alloc (A #[O U 0,O U 0,O U 0,O U 0,O U 0,J ⟨#[]⟩,H Z 0 0] 40)) w.heap.size AE (H Z 0 0):=Ao.new w AE (H Z 0 0);generalize hR:H8 s.data.toList=R;have HR:S (H8 s.data.toList=R):=hR;clear hR;by_cases bv:20000<s.size
 ·have F:R=(AE,2,Z):=by rw[<-HR.out];exact kQ (by omega)
  subst F;have bn:(20000:Int)<(s.size:Int):=by omega
  clear HR
  go_enter func97,ntmps97
  go_upto_region 1 with fail
  generalize w.alloc (A #[O U 0,O U 0,O U 0,O U 0,O U 0,J ⟨#[]⟩,H Z 0 0] 40)=WA at ad ah ⊢;have et:=(h.below ad).text.list.file.env.bound;obtain⟨o,p,r,z,B,D,E,yf⟩:=ah.zero;have s0:=Ah o;have s1:=Ah p;have s2:=Ah r;have s3:=Ah z;have s4:=Ah B;have s5:=Ah D;have s6:=Ah E;go_wp2
  go_region
  all_goals go_wp2
  all_goals exact Qq (v:=Qd #[(Ql #[O U 0,O U 0,O U 0,O U 0,O U 0,J ⟨#[]⟩,H Z 0 0]),Qk 410 (Qa (I (a 1)))]) (by simp[Qr,Qz,go_sem,o,p,r,z,B,D,E]) rfl (JE rfl ad.drew)
 have bn:¬(20000:Int)<(s.size:Int):=by omega
 obtain⟨m,hm⟩:=(h.below ad).text.list.file.env.base.maxl;have hcut:=strings_Cut s ⟨#[10]⟩ m _ (by omega) hm;have bw:(⟨#[10]⟩:ByteArray).data.toList= [10]:=rfl;dsimp only at hcut;have a4:(Qp s.data.toList [10]).1.length<=20000/\(Qp s.data.toList [10]).2.1.length<=20000:=by
  rcases Hx 10 s.data.toList with⟨_,hc⟩|⟨x,y,bt,_,hc⟩
  ·rw[hc];simp;omega
  ·rw[hc];have:s.data.toList.length=x.length+1+y.length:=by rw[bt];simp;omega
   dsimp only;omega
 have hD:=sN (l:=s.data.toList) (by omega);rw[HR.out]at hD;have eK:(⟨(Qp s.data.toList [10]).1.toArray⟩:ByteArray)=Ab (Qp s.data.toList [10]).1:=rfl;have eW:(⟨(Qp s.data.toList [10]).2.1.toArray⟩:ByteArray)=Ab (Qp s.data.toList [10]).2.1:=rfl;rw[eK,eW]at hcut;clear eK eW hm;generalize Qp s.data.toList [10]=C at hcut a4 hD;obtain⟨fL,M,ag⟩:=C;dsimp only at hcut a4 hD;obtain⟨be,bf⟩:=a4;have aq:=fun W (hW:Cd W a)=>sQ (Ab fL) W a hW (by rw[De];exact be);have ae:=fun W=>KR (Ab M) W (by rw[De];unfold Qu;omega);have P:=fun W (hW:GC W a)=>sX (Ab M) W a hW (by rw[De];exact bf);rw[BT]at aq ae P;have ar:S (Ej (Cu M).1/\(Cu M).1.length<=60):=⟨sO M,kZ M⟩;have bo:=Hz M;have a5:IntKind.i64.wrap ((Bi M:Nat):Int)=((Bi M:Nat):Int):=IntWalk.i64_in _ (by omega);have HD:S (R=if ag=Qi then (AE,1,Z) else match Fw fL with
  | none=>(AE,1,Z)
  | some (b,c,d,f,i,op,g)=>if g≠Bi M then (AE,10,Z) else
   if (Cu M).2.1≠0 then (AE,(Cu M).2) else
   if (Am (b,c,d,f,i,Ab op,(Cu M).1)).1≠0 then (AE,Am (b,c,d,f,i,Ab op,(Cu M).1)) else
   ((b,c,d,f,i,Ab op,(Cu M).1),0,Z)):=hD
 clear hD HR be bf bl bo;generalize Ab fL=fB at hcut aq;generalize Ab M=bB at hcut ae P;generalize Bi M=SM at ae a5 HD;generalize Cu M=RL at P HD ar;obtain⟨j,LE⟩:=RL;dsimp only at P HD ar
 go_enter func97,ntmps97
 go_wp2_with fail
 generalize w.alloc (A #[O U 0,O U 0,O U 0,O U 0,O U 0,J ⟨#[]⟩,H Z 0 0] 40)=WA at ad ah hcut ⊢;refine hcut.mono ?_;rintro e w1 ⟨rfl,q,rfl⟩;clear hcut;have au:BL WA (WA.drewN q):=AK (Qw _ _) q;have av:BL w (WA.drewN q):=Ad ad au;have a6:=ah.below au;generalize WA.drewN q=w1 at au av a6 ⊢;have a7:=aq w1 (h.below av).text.weak;clear ah ad au aq
 go_wp2_with fail
 refine a7.mono ?_;rintro e N ⟨bg,ab⟩;clear a7;have a8:BL w N:=Ad av bg;have aw:=a6.below bg;clear a6 av bg;generalize bu:Fw fL=SO at ab HD;clear bu
 cases SO with
 | none =>
  obtain rfl:e=Qc (Qd #[(Ql #[O U 0,O U 0,O U 0,O U 0,O U 0,J ⟨#[]⟩,H Z 0 0]),O U 0,Qy Qi]):=ab;have F:R=(AE,1,Z):=by
   rw[HD.out];split<;>rfl
  subst F;clear HD ae P a5;have Y:BL N (N.alloc (A #[O U 0,O U 0,O U 0,O U 0,O U 0,J ⟨#[]⟩,H Z 0 0] 40)):=Af _ _;have K:BL w (N.alloc (A #[O U 0,O U 0,O U 0,O U 0,O U 0,J ⟨#[]⟩,H Z 0 0] 40)):=Ad a8 Y;have Q:=aw.below Y;cases ag
  ·go_upto_region 5 with fail
   generalize N.alloc (A #[O U 0,O U 0,O U 0,O U 0,O U 0,J ⟨#[]⟩,H Z 0 0] 40)=w3 at K Q ⊢;have et:=(h.below K).text.text;obtain⟨o,p,r,z,B,D,E,yf⟩:=Q.zero;have s0:=Ah o;have s1:=Ah p;have s2:=Ah r;have s3:=Ah z;have s4:=Ah B;have s5:=Ah D;have s6:=Ah E;go_wp2
   go_region
   all_goals go_wp2
   all_goals exact Qq (v:=Qd #[(Ql #[O U 0,O U 0,O U 0,O U 0,O U 0,J ⟨#[]⟩,H Z 0 0]),Qk 410 (Qa (I (a 0)))]) (by simp[Qr,Qz,go_sem,o,p,r,z,B,D,E]) rfl (JE rfl K.drew)
  ·go_upto_region 5 with fail
   generalize N.alloc (A #[O U 0,O U 0,O U 0,O U 0,O U 0,J ⟨#[]⟩,H Z 0 0] 40)=w3 at K Q ⊢;have et:=(h.below K).text.text;obtain⟨o,p,r,z,B,D,E,yf⟩:=Q.zero;have s0:=Ah o;have s1:=Ah p;have s2:=Ah r;have s3:=Ah z;have s4:=Ah B;have s5:=Ah D;have s6:=Ah E;go_wp2
   go_region
   all_goals go_wp2
   all_goals exact Qq (v:=Qd #[(Ql #[O U 0,O U 0,O U 0,O U 0,O U 0,J ⟨#[]⟩,H Z 0 0]),Qk 410 (Qa (I (a 0)))]) (by simp[Qr,Qz,go_sem,o,p,r,z,B,D,E]) rfl (JE rfl K.drew)
 | some X =>
 obtain⟨b,c,d,f,i,op,g⟩:=X;dsimp only at ab HD;unfold A8 at ab;dsimp only at ab;subst ab;generalize Ab op=n at HD ⊢;have Y:BL N (N.alloc (A #[O U b,O U c,O U d,O U f,O U i,J n,H Z 0 0] 40)):=Af _ _;have K:BL w (N.alloc (A #[O U b,O U c,O U d,O U f,O U i,J n,H Z 0 0] 40)):=Ad a8 Y;have Q:=aw.below Y;have ai:Ao (N.alloc (A #[O U b,O U c,O U d,O U f,O U i,J n,H Z 0 0] 40)) N.heap.size (b,c,d,f,i,n, []) (H Z 0 0):=Ao.new N (b,c,d,f,i,n, []) (H Z 0 0);have bh:w.heap.size<N.heap.size:=aw.lt;clear Y aw a8
 go_upto_region 5 with fail
 generalize N.alloc (A #[O U b,O U c,O U d,O U f,O U i,J n,H Z 0 0] 40)=w3 at K Q ai ⊢;generalize N.heap.size=X at ai bh ⊢;cases ag
 ·have F:R=(AE,1,Z):=by rw[HD.out,if_pos rfl]
  subst F;clear HD ae P a5 ai;have et:=(h.below K).text.text;obtain⟨o,p,r,z,B,D,E,yf⟩:=Q.zero;have s0:=Ah o;have s1:=Ah p;have s2:=Ah r;have s3:=Ah z;have s4:=Ah B;have s5:=Ah D;have s6:=Ah E;go_wp2
  go_region
  all_goals go_wp2
  all_goals exact Qq (v:=Qd #[(Ql #[O U 0,O U 0,O U 0,O U 0,O U 0,J ⟨#[]⟩,H Z 0 0]),Qk 410 (Qa (I (a 0)))]) (by simp[Qr,Qz,go_sem,o,p,r,z,B,D,E]) rfl (JE rfl K.drew)
 have ax:S (R=if g≠(SM:Nat) then (AE,10,Z) else
   if LE.1≠0 then (AE,LE) else
   if (Am (b,c,d,f,i,n,j)).1≠0 then (AE,Am (b,c,d,f,i,n,j)) else
   ((b,c,d,f,i,n,j),0,Z)):=by
  show _=_;rw[HD.out,if_neg (by simp)]
 clear HD;have a9:=ae w3;clear ae
 go_wp2_with fail
 refine a9.mono ?_;rintro e w4 ⟨rfl,a1⟩;clear a9;have af:BL w w4:=Ad K a1;have ba:=Q.below a1;have bb:=ai.below a1;clear K Q ai a1;by_cases hg:g=(SM:Nat)
 case neg =>
  have F:R=(AE,10,Z):=by rw[ax.out,if_pos hg]
  subst F;clear ax P bb;have et:=(h.below af).sum;obtain⟨o,p,r,z,B,D,E,yf⟩:=ba.zero;have s0:=Ah o;have s1:=Ah p;have s2:=Ah r;have s3:=Ah z;have s4:=Ah B;have s5:=Ah D;have s6:=Ah E;go_wp2
  go_region
  all_goals go_wp2
  all_goals exact Qq (v:=Qd #[(Ql #[O U 0,O U 0,O U 0,O U 0,O U 0,J ⟨#[]⟩,H Z 0 0]),Qk 410 (Qa (I (a 9)))]) (by simp[Qr,Qz,go_sem,o,p,r,z,B,D,E]) rfl (JE rfl af.drew)
 case pos =>
 have ay:S (R=if LE.1≠0 then (AE,LE) else
   if (Am (b,c,d,f,i,n,j)).1≠0 then (AE,Am (b,c,d,f,i,n,j)) else
   ((b,c,d,f,i,n,j),0,Z)):=by
  show _=_;rw[ax.out,if_neg (by simpa using hg)]
 clear ax;subst hg;have bm:=P w4 (h.below af).text;clear P
 go_wp2_with fail
 refine bm.mono ?_;rintro e w5 ⟨v5,ev,rfl,a2,ht,a3,bs⟩;have bp:S (F9 w v5):=fun k hk=>Qo af.size (bs k hk);have bi:=Ad af a3;have bj:=ba.below a3;have aj:=bb.below a3;clear af ba bb a3;by_cases hE:LE.1=0
 case neg =>
  have F:R=(AE,LE):=by rw[ay.out,if_pos hE]
  subst F;obtain⟨t,u,rfl⟩:=ht.bad hE;have HT:S (AZ w5 a (Qk t u) LE):=ht;clear ay ht aj a2;obtain⟨o,p,r,z,B,D,E,yf⟩:=bj.zero;have s0:=Ah o;have s1:=Ah p;have s2:=Ah r;have s3:=Ah z;have s4:=Ah B;have s5:=Ah D;have s6:=Ah E;go_wp2;exact Qq (v:=Qd #[(Ql #[O U 0,O U 0,O U 0,O U 0,O U 0,J ⟨#[]⟩,H Z 0 0]),Qk t u]) (by simp[Qr,Qz,go_sem,o,p,r,z,B,D,E]) rfl (JE HT.out bi)
 case pos =>
 obtain rfl:=ht.ok hE;have ak:S (R=if (Am (b,c,d,f,i,n,j)).1≠0 then (AE,Am (b,c,d,f,i,n,j)) else
   ((b,c,d,f,i,n,j),0,Z)):=by
  show _=_;rw[ay.out,if_neg (by simpa using hE)]
 clear ay ht hE;obtain⟨T,cv,hq⟩:=a2.form;subst hq;have bq:=Jr aj a2;have al:=a2.set_off bq 6 (H T j.length cv);have am:Ao (w5.setCell ⟨X,6,Z⟩ (H T j.length cv)) X (b,c,d,f,i,n,j) (H T j.length cv):=by
  have:=aj;unfold Ao at *;rw[heap_setCell_same _ _ _ _ _ _ this];rfl
 have az:=TP bj (show X≠w.heap.size by omega) 6 (H T j.length cv);have an:BL w (w5.setCell ⟨X,6,Z⟩ (H T j.length cv)):=bi.setCell (Xk bh) _;have fX:=aj.fz;have x6:=aj.cells.2.2.2.2.2.2;have aa:=J2 (b,c,d,f,i,n,j) (H T j.length cv) _ a (h.below an).text.list al (by have:=ar.out.2;dsimp only;omega) ar.out.1;unfold A8 at aa;dsimp only at aa;have bx:S (X≠w.heap.size):=by show _≠_;omega
 generalize bz:Am (b,c,d,f,i,n,j)=XE at aa ak;obtain⟨L,hL⟩:∃L,j.length=L:=⟨_,rfl⟩;rw[hL]at al am az an aa ⊢
 go_upto_region 13 with fail
 generalize w5.setCell ⟨X,6,Z⟩ (H T L cv)=w6 at al am az an aa ⊢;obtain⟨p0,p1,p2,p3,p4,p5,p6⟩:=am.cells;dsimp only at p0 p1 p2 p3 p4 p5
 go_wp2_with fail
 refine aa.mono ?_;rintro e w7 ⟨ev,rfl,ht,ap⟩;have bk:BL w w7:=Ad an ap;have ao:=az.below ap;have bc:=am.below ap;have a0:=al.below ap;clear al am az an ap;by_cases hE:XE.1=0
 case neg =>
  have F:R=(AE,XE):=by rw[ak.out,if_pos hE]
  subst F;obtain⟨t,u,rfl⟩:=ht.bad hE;have HT:S (AZ w7 a (Qk t u) XE):=ht;clear ak ht bc a0;obtain⟨o,p,r,z,B,D,E,yf⟩:=ao.zero;have s0:=Ah o;have s1:=Ah p;have s2:=Ah r;have s3:=Ah z;have s4:=Ah B;have s5:=Ah D;have s6:=Ah E;go_wp2;exact Qq (v:=Qd #[(Ql #[O U 0,O U 0,O U 0,O U 0,O U 0,J ⟨#[]⟩,H Z 0 0]),Qk t u]) (by simp[Qr,Qz,go_sem,o,p,r,z,B,D,E]) rfl (JE HT.out bk)
 case pos =>
 obtain rfl:=ht.ok hE;have F:R=((b,c,d,f,i,n,j),0,Z):=by rw[ak.out,if_neg (by simpa using hE)]
 subst F;clear ak ht hE;obtain⟨p0,p1,p2,p3,p4,p5,p6⟩:=bc.cells;dsimp only at p0 p1 p2 p3 p4 p5;obtain⟨o,p,r,z,B,D,E,yf⟩:=ao.zero;have ac:=Jr ao a0;have br:S (Ai (((((((w7.setCell ⟨w.heap.size,0,Z⟩ (O U b)).setCell ⟨w.heap.size,1,Z⟩ (O U c)).setCell ⟨w.heap.size,2,Z⟩ (O U d)).setCell ⟨w.heap.size,3,Z⟩ (O U f)).setCell ⟨w.heap.size,4,Z⟩ (O U i)).setCell ⟨w.heap.size,5,Z⟩ (J n)).setCell ⟨w.heap.size,6,Z⟩ (H T L cv)) (H T L cv) j):=(((((((a0.set_off ac 0 _).set_off ac 1 _).set_off ac 2 _).set_off ac 3 _).set_off ac 4 _).set_off ac 5 _).set_off ac 6 _);obtain⟨u0,u1,u2,u3,u4,u5,u6⟩:=(ao.set (b,c,d,f,i,n,j) (H T L cv)).cells;have bd:=Mz (s:=(b,c,d,f,i,n,j)) (vf:=H T L cv) bk (Qn w.heap.size);unfold Gi at u0 u1 u2 u3 u4 u5 u6 bd;dsimp only at u0 u1 u2 u3 u4 u5 bd;clear ao bc a0 ac;go_wp2;refine Qq (v:=Qd #[Ql #[O U b,O U c,O U d,O U f,O U i,J n,H T L cv],Qs]) (by simp[Qr,Qz,go_sem,u0,u1,u2,u3,u4,u5,u6]) rfl ?_;exact⟨H T L cv,Qs,rfl,br.out,rfl,bd,fun k hk=>bp.out k (by cases T<;>exact hk)⟩
section
variable {a : Nat → Qm} {B : Nat} {EM : V → Prop}
theorem P8 {x:Sn} (h:(Am x).1=0):(Ab (BH x)).size<=20000:=by
 obtain⟨b,c⟩:=Og h;rw[EK];unfold BH;rw[Qt,Q0];omega
theorem P9 (K:A2 a B EM An) (HL:∀X,EM X->AX X a) (W:V) (v:Qb) (SP:Nat->Prop) (s:St) (d:Int) (x:Sn) (hE:EM W) (aa:An W v SP s) (hg:AY s) (hh:AN s (Cg d) (Ab (BH x))) (hf:(Am x).1=0) (z: -9223372036854775808<=d/\d<=9223372036854775807) :
  Qh Qf 47 #[v,O U d] W fun e w'=> ∃vf,e=Qc (Qd #[A8 x vf,Qs])/\Ai w' vf x.2.2.2.2.2.2/\F9 W vf/\BL W w':=by
 obtain⟨pt,rfl⟩:=K.ptr _ _ _ _ aa;have r:BL W (W.alloc (A #[O U 0,O U 0,O U 0,O U 0,O U 0,J ⟨#[]⟩,H Z 0 0] 40)):=Af _ _;have D:Ao (W.alloc (A #[O U 0,O U 0,O U 0,O U 0,O U 0,J ⟨#[]⟩,H Z 0 0] 40)) W.heap.size AE (H Z 0 0):=Ao.new W AE (H Z 0 0);have t:S (∀X,BL W X->EM X):=fun X hb=>K.below _ _ hE (hb.mono (K.size _ hE));have ab:S (∀X,BL W X->Qh Qf 96 #[J ⟨#[115,110,97,112,47]⟩,O U d] X fun e w'=>e=Qc (J (Cg d))/\BL X w'):=fun X hb=>MZ ⟨#[115,110,97,112,47]⟩ d X (HL X (t.out X hb)).s (by decide) z;have ac:S (∀X,BL W X->Qh Qf 65 #[Qa (I pt),J (Cg d)] X fun e w'=>e=Qc (Qd #[J (Ab (BH x)),Qs])/\BL X w'):=fun X hb=>by
  have:=K.get X _ SP s (Cg d) (t.out X hb) (K.keep _ _ _ _ (fun _=>False) _ aa (Ac.of_below hb) (fun _ _ h=>h)) hg (by unfold Cg;rw[Xb,EK];have:=QO d z.1 z.2;have h5:(⟨#[115,110,97,112,47]⟩:ByteArray).size=5:=rfl;omega);rw[hh]at this;exact this
 have ad:S (∀X,BL W X->Qh Qf 97 #[J (Ab (BH x))] X (P7 X a (x,0,Z))):=fun X hb=>by
  have:=sY (Ab (BH x)) X a (HL X (t.out X hb)).p (by have:=P8 hf;unfold Qu;omega);rw[BT,Oh hf]at this;exact this
 go_enter func47,ntmps47
 go_upto_region 1 with fail
 generalize W.alloc (A #[O U 0,O U 0,O U 0,O U 0,O U 0,J ⟨#[]⟩,H Z 0 0] 40)=WA at r D ⊢;have ae:=ab.out WA r
 go_wp2_with fail
 refine ae.mono ?_;rintro e w1 ⟨rfl,Q⟩;have E:=Ad r Q;have af:=D.below Q;have ag:=ac.out w1 E
 go_wp2_with fail
 refine ag.mono ?_;rintro e w2 ⟨rfl,R⟩;have u:=Ad E R;have ah:=af.below R;have ai:=ad.out w2 u
 go_wp2_with fail
 refine ai.mono ?_;rintro e C ⟨vf,ev,rfl,T,ht,Y,an⟩;obtain rfl:ev=Qs:=ht;have aj:=Ad u Y;have ak:=ah.below Y;have al:S (F9 W vf):=fun k hk=>Qo u.size (an k hk);obtain⟨q,c,rfl⟩:=T.form;obtain⟨g,i,j,l,m,n,o⟩:=x;generalize hL:o.length=L at *;have F:=Ao.new C (g,i,j,l,m,n,o) (H q L c);have f:BL C (C.alloc (A #[O U g,O U i,O U j,O U l,O U m,J n,H q L c] 40)):=Af _ _;unfold A8
 go_upto_region 5 with fail
 generalize C.alloc (A #[O U g,O U i,O U j,O U l,O U m,J n,H q L c] 40)=W4 at F f ⊢;have am:=Ad aj f;have y:=ak.below f;have M:=T.below f;obtain⟨p0,p1,p2,p3,p4,p5,p6⟩:=F.cells;obtain⟨y0,y1,y2,y3,y4,y5,y6,yf⟩:=y.zero;have b:=Jr y M;have N:S (Ai (Gi W4 W.heap.size (g,i,j,l,m,n,o) (H q L c)) (H q L c) o):=(((((((M.set_off b 0 _).set_off b 1 _).set_off b 2 _).set_off b 3 _).set_off b 4 _).set_off b 5 _).set_off b 6 _);obtain⟨u0,u1,u2,u3,u4,u5,u6⟩:=(y.set (g,i,j,l,m,n,o) (H q L c)).cells;have P:=Mz (s:=(g,i,j,l,m,n,o)) (vf:=H q L c) am (Qn W.heap.size);unfold Gi at u0 u1 u2 u3 u4 u5 u6 P N;go_wp2;refine Qq (v:=Qd #[Ql #[O U g,O U i,O U j,O U l,O U m,J n,H q L c],Qs]) (by simp[Qr,results47,go_sem,u0,u1,u2,u3,u4,u5,u6]) rfl ?_;exact⟨H q L c,rfl,N.out,al.out,P⟩
theorem sZ (K:A2 a B EM An) (HL:∀X,EM X->AX X a) {W:V} {kb:Nat} {vs:Qb} {SP:Nat->Prop} {hd:ByteArray} {vi vf:Qb} {k:Lk} (hE:EM W) (h:Al W kb vs SP hd vi vf k) (hk:AY k.st) (d:List Sn) (hl:d.length=k.ids.length) (aa:∀i (h1:i<d.length) (h2:i<k.ids.length),AN k.st (Cg k.ids[i]) (Ab (BH d[i]))/\(Am d[i]).1=0) (al:∀z∈k.ids,-9223372036854775808<=z/\z<=9223372036854775807) (hm:d.length<=1000) :
  Qh Qf 41 #[Qa (I ⟨kb,0,Z⟩)] W fun e w'=> ∃v',e=Qc (Qd #[v',Qs])/\DD w' W.heap.size v' d/\BL W w':=by
 obtain⟨pt,rfl⟩:=h.ptr K;have ab:S (∀X,BL W X->∀i (h1:i<d.length) (h2:i<k.ids.length),Qh Qf 47 #[Qa (I pt),O U k.ids[i]] X fun e w'=> ∃vf,e=Qc (Qd #[A8 d[i] vf,Qs])/\Ai w' vf d[i].2.2.2.2.2.2/\F9 X vf/\BL X w'):=fun X g i h1 h2 =>
  P9 K HL X _ SP k.st k.ids[i] d[i] (K.below _ _ hE (g.mono (K.size _ hE))) (K.keep _ _ _ _ (fun _=>False) _ h.st (Ac.of_below g) (fun _ _ h=>h)) hk (aa i h1 h2).1 (aa i h1 h2).2 (al _ (Q6 _))
 obtain⟨d0,-,-,d3,-⟩:=h.blk.cells;obtain⟨q,c,rfl⟩:=h.ids.1.form;have ac:S (∀i (h2:i<k.ids.length),∃b o,q=I ⟨b,o,Z⟩/\W.cell? ⟨b,o+i,Z⟩=I (O U k.ids[i])):=fun i h2=>by
  rcases h.ids.1 with⟨_,_,_,e⟩|⟨b,o,c',hv,hc⟩
  ·rw[e]at h2;simp at h2
  ·injection hv with hq;exact⟨b,o,hq,hc i h2⟩
 obtain⟨L,hL⟩:∃L,k.ids.length=L:=⟨_,rfl⟩;have l:S (k.ids.length=L/\d.length=L):=⟨hL,hl.trans hL⟩;rw[hL]at d3
 go_enter func41,ntmps41
 go_wp2_with fail
 go_loopw [4,6,7,8,14] (fun o _ _ _ i wr=> ∃n:Nat,n<=L/\i=O U n/\DD wr W.heap.size o (d.take n)/\BL W wr) (fun _ _ _ _ i _=>L-(Qv i).toNat)
 case atStart=>exact ⟨0,by omega,rfl,DD.nil _ _,Qw _ _⟩
 case round =>
 obtain⟨n,hn,rfl,ho,g⟩:=hrel;have HO:S (DD wr W.heap.size u4 (d.take n)):=ho;by_cases D:n<L
 case neg =>
  obtain rfl:n=L:=by omega
  have HT:S (DD wr W.heap.size u4 d):=by
   have:=HO.out;rw[Q5 (by rw[l.out.2];exact Qn _)]at this;exact this
  go_wp2;go_ret2;exact⟨_,rfl,HT.out,g⟩
 case pos =>
 have E:n<d.length:=by rw[l.out.2];exact D
 have F:n<k.ids.length:=by rw[l.out.1];exact D
 obtain⟨b,o,rfl,e0⟩:=ac.out n F;replace e0:=Aa g e0;have f0:=Aa g d0;have N:=ab.out wr g n E F;have P:S (d.take (n+1)=d.take n++ [d[n]]):=(Xm E).symm;have ad:S ((d.take n).length<=1000):=by
  show (d.take n).length<=1000;rw[Xc];omega
 generalize d[n]=x at N P
 go_wp2_with fail
 refine N.mono ?_;rintro e C ⟨vf,rfl,m,ak,Y⟩;have ae:=Ad g Y;obtain⟨q,c,rfl⟩:=m.form;obtain⟨p,r,s,t,u,v,y⟩:=x;have af:=HO.out.below Y;have Q:S (∀j,(H q y.length c).ownBlock=I j->u4.ownBlock≠I j):=fun j hj e=>by
  have h1:=ak j hj;have h2:=(HO.out.blk e).2;omega
 obtain⟨M,hM⟩:∃M,y.length=M:=⟨_,rfl⟩;rw[hM]at m Q ⊢;have R:=Ao.new C (p,r,s,t,u,v,y) (H q M c);have f:BL C (C.alloc (A #[O U p,O U r,O U s,O U t,O U u,J v,H q M c] 40)):=Af _ _;unfold A8
 go_upto_region 6 with fail
 generalize C.alloc (A #[O U p,O U r,O U s,O U t,O U u,J v,H q M c] 40)=WA at R f ⊢;obtain⟨p0,p1,p2,p3,p4,p5,p6⟩:=R.cells;have T:=Ad ae f;obtain⟨v',W2,hr,ai,aj⟩:=(af.below f).run T.size (p,r,s,t,u,v,y) q M c (m.below f) (fun _ j hj=>Q.out j hj) ad.out;have ag:S (DD W2 W.heap.size v' (d.take (n+1))):=by
  show DD _ _ _ _;rw[P.out];exact ai
 have ah:=T.trans aj
 go_wp2_with (at_builtin;refine wpList_append_run (by rfl) _ _ _ (by rfl) _ _ _ (by rfl) (by rfl) hr ?_)
 go_roundw
 case rel=>exact ⟨n+1,by omega,by go_num,ag.out,ah⟩
 case measure=>simp [Qv];omega
end
def Ea (f:ByteArray):Prop:= ∃g:List UInt8,f.data.toList=g++ [47]/\g.length=4/\g.all GY=Qg
structure Rm (n:Nat) (s:St):Prop where
 on:s.off=Qi
 cut:s.cut= -1
 cnt:s.obs.length+n<=200
 byt:Cw s.obs+n*20000<=262144
 num:Ag s+n<=1000000
theorem V8:∀(l:List Ob) (n:Int),0<=n->n<=l.foldl Fd n/\∀o∈l,Gt o.1<=l.foldl Fd n
 | [],n,_=>⟨QD _,fun o h=>by cases h⟩
 | x :: r,n,hn=>by
  have e:=P4 hn x;obtain⟨d,c⟩:=V8 r (Fd n x) (by rw[e];omega);refine⟨by rw[Q7];omega,fun o b=>?_⟩;rw[Q7];rcases QF.1 b with rfl | b
  ·omega
  ·exact c o b
theorem V9:∀(l:List Ob) (n m:Int),0<=n->n<=m->(∀o∈l,Gt o.1<=m)->l.foldl Fd n<=m
 | [],_,_,_,h,_=>h
 | x :: r,n,m,hn,h,hx=>by
  have e:=P4 hn x;have b:=hx x QM;rw[Q7];exact V9 r _ m (by rw[e];omega) (by rw[e];omega) (fun o ho=>hx o (QN _ ho))
theorem Lv {s:St} {o:Ob} (h:o∈s.obs):Gt o.1<Ag s:=by
 have:=(V8 s.obs 0 (by decide)).2 o h;unfold Ag Fe;omega
theorem PA {f:ByteArray} (j:Ea f) {n:Int} (k:(itoa n).length<=11):Gt (f++Ab (itoa n))=n:=by
 obtain⟨g,e,-,-⟩:=j;have d:IB (f++Ab (itoa n)).data.toList=itoa n:=by
  have i:(f++Ab (itoa n)).data.toList=g++47 :: itoa n:=by
   rw[show (f++Ab (itoa n)).data.toList=f.data.toList++(Ab (itoa n)).data.toList by simp,e,BT];simp
  rw[i];unfold IB;rw[List.reverse_append,List.reverse_cons,List.append_assoc,List.takeWhile_append_of_pos (fun c hc=>?_)]
  ·simp
  ·rcases Sp n c (List.mem_reverse.1 hc) with rfl | ⟨a,b⟩
   ·decide
   ·refine decide_eq_true fun e=>?_;rw[e]at a;revert a;decide
 unfold Gt Ld;rw[d];unfold At;rw[if_pos k,Ja];simp
theorem Nb:Ea ⟨#[115,110,97,112,47]⟩:=⟨[115,110,97,112],rfl,rfl,by decide⟩
theorem Nc:Ea ⟨#[109,101,116,97,47]⟩:=⟨[109,101,116,97],rfl,rfl,by decide⟩
theorem VA:Ea ⟨#[100,97,116,97,47]⟩:=⟨[100,97,116,97],rfl,rfl,by decide⟩
theorem tA:Ea ⟨#[103,111,110,101,47]⟩:=⟨[103,111,110,101],rfl,rfl,by decide⟩
theorem PB {s:St} {n t:ByteArray} (h:AN s n t):∃o∈s.obs,o.1=n:=by
 unfold AN Ba at h
 cases e:B5 s.obs n with
 | none=>rw [e]at h;cases h
 | some o=>exact ⟨o,(Ge e).1,(Ge e).2⟩
theorem Lx {s:St} (k:AY s) {f t:ByteArray} {n:Int} (l:Ea f) (h:AN s (f++Ab (itoa n)) t):n<Ag s:=by
 obtain⟨o,c,e⟩:=PB h;have:=Lv c;have b:=GJ (k.names o c);rw[e]at this b;obtain⟨g,d,i,j⟩:=l;have m:f.size=5:=by rw[<-AC,d,Qt,i];rfl
 rw[Xb,EK]at b;rw[PA ⟨g,d,i,j⟩ (by omega)]at this;exact this
theorem tB {f:ByteArray} (k:Ea f) {n:Int} (l:1<=n) (m:n<=1073741824):CP (f++Ab (itoa n)).data.toList=Qg:=by
 obtain⟨g,e,d,i⟩:=k;obtain⟨o,j⟩:=V2 l m;have c:(f++Ab (itoa n)).data.toList=g++47 :: itoa n:=by
  rw[show (f++Ab (itoa n)).data.toList=f.data.toList++(Ab (itoa n)).data.toList by simp,e,BT];simp
 rw[c];unfold CP;rw[List.all_append,i,List.all_cons,List.all_eq_true.2 j,Qt,Q0,d];have b:GY 47=Qg:=by decide
 rw[b];simp only[Bool.and_true,Bool.true_and,decide_eq_true_eq,QC];omega
theorem tC (l:List Ob) (o:Ob):Cw (Cx l o)=Cw l+o.2.1.size:=by
 have h:Cw l=Cw (l.takeWhile (fun p=>decide (p.1.data.toList<o.1.data.toList)))+Cw (l.dropWhile (fun p=>decide (p.1.data.toList<o.1.data.toList))):=by
  unfold Cw;rw[<-Xn,<-Xo,List.takeWhile_append_dropWhile]
 rw[h];unfold Cx Cw;rw[Xo,List.map_cons,Xn,List.sum_cons];omega
theorem Ly {n:Nat} {s:St} (h:Rm (n+1) s) {f t:ByteArray} (q:Ea f) (B:t.size<=20000):BM s (f++Ab (itoa (Ag s))) t=0/\Rm n (B3 s (f++Ab (itoa (Ag s))) t):=by
 have g:=It s;have i:Ag s<=1073741824:=by have:=h.num;omega
 have j:=tB q g.1 i;have b:=PA q (n:=Ag s) (V2 g.1 i).1;have y:=h.cnt;have z:=h.byt;have k:Aw s t.size=(t.size,s):=by unfold Aw;rw[h.cut];rfl
 have l:Dc s (f++Ab (itoa (Ag s))) t=0:=by
  unfold Dc;rw[if_neg (by rw[j];simp),if_neg (by omega),if_neg (by rw[h.on];simp),if_neg,if_neg (by omega)];intro e
  cases p:B5 s.obs (f++Ab (itoa (Ag s))) with
  | none=>rw [p]at e;cases e
  | some o =>
   obtain⟨r,u⟩:=Ge p;have:=Lv r;rw[u,b]at this;omega
 have c:=K1 l;rw[k]at c;have m:Ab (t.data.toList.take t.size)=t:=fY t;rw[m]at c;refine⟨?_,?_⟩
 ·unfold BM;rw[if_neg (by simpa using l),k];dsimp only;rw[if_neg (by rw[h.on];simp)]
 ·rw[c];refine⟨h.on,h.cut,by dsimp only;rw[Oj];omega,by dsimp only;rw[tC];dsimp only;omega,?_⟩;have v:Fe (Cx s.obs (f++Ab (itoa (Ag s)),t,s.day))<=Ag s:=by
   refine V9 _ 0 _ (by decide) (by omega) fun o d=>?_;rcases GZ.1 d with rfl | d
   ·rw[b];exact QD _
   ·exact Int.le_of_lt (Lv d)
  have:=h.num;show Fe (Cx s.obs (f++Ab (itoa (Ag s)),t,s.day))+1+(n:Int)<=1000000;omega
theorem tD {n:Nat} {s:St} (h:Rm n s) {t:ByteArray} (f:t.size<=20000):CG s s.head t=0/\Rm n (B9 s s.head t):=by
 have b:Aw s t.size=(t.size,s):=by unfold Aw;rw[h.cut];rfl
 have c:Ei s s.head t=0:=by
  unfold Ei;rw[if_neg (by omega),if_neg (by rw[h.on];simp),if_neg (fun e=>e rfl)]
 have d:B9 s s.head t= { s with head:=t } :=by
  unfold B9;rw[if_neg (by simpa using c),b];dsimp only;rw[if_neg (Xp _)]
 refine⟨?_,?_⟩
 ·unfold CG;rw[if_neg (by simpa using c),b];dsimp only;rw[if_neg (Xp _)]
 ·rw[d];exact⟨h.on,h.cut,h.cnt,h.byt,h.num⟩
abbrev Dr:=ByteArray×ByteArray×ByteArray
def Gu (d:Dr):List Qb:= [J d.1,J d.2.1,J d.2.2]
def IK (ds:List Dr):List Qb:=ds.flatMap Gu
theorem VB:∀(ds:List Dr) (j c:Nat) (h:j<ds.length),c<3->(IK ds)[j*3+c]? =(Gu ds[j])[c]?
 | [],j,_,h,_=>by simp at h
 | p :: ps,0,c,_,hc=>by
  simp only[IK,QE,Nat.zero_mul,QR,QQ];rw[List.getElem?_append_left (by rw[show (Gu p).length=3 from rfl];exact hc)]
 | p :: ps,j+1,c,h,hc=>by
  have b:j<ps.length:=by simp at h;omega
  have:=VB ps j c b hc;simp only[IK,QE,QP]at *;rw[List.getElem?_append_right (by rw[show (Gu p).length=3 from rfl];omega),show (Gu p).length=3 from rfl,show (j+1)*3+c-3=j*3+c by omega];exact this
def Bg (W:V) (B:Nat) (v:Qb) (ds:List Dr):Prop:=W.ownsRow B 111 3 v ds.length (IK ds)
theorem Bg.nil (W:V) (B:Nat):Bg W B (H Z 0 0) []:=Xa _ _ _ _
theorem Bg.below {W b:V} {B:Nat} {v:Qb} {ds:List Dr} (h:Bg W B v ds) (c:BL W b):Bg b B v ds:=AG (P:=fun _=>False) h (Ac.of_below c) (fun _ _ h=>h)
theorem Bg.but {W b:V} {B:Nat} {P:Nat->Prop} {v:Qb} {ds:List Dr} (h:Bg W B v ds) (c:Ac P W b) (d:∀j,v.ownBlock=I j->¬P j):Bg b B v ds:=AG h c d
theorem Bg.at {W:V} {B:Nat} {v:Qb} {ds:List Dr} (h:Bg W B v ds):∃q c,v=H q ds.length c/\∀j (hj:j<ds.length),∃g,q=I ⟨g,0,Z⟩/\W.cell? ⟨g,j*3,Z⟩=I (J ds[j].1)/\W.cell? ⟨g,j*3+1,Z⟩=I (J ds[j].2.1)/\W.cell? ⟨g,j*3+2,Z⟩=I (J ds[j].2.2):=by
 rcases h.2 with⟨i,k⟩|⟨g,n,o,rfl,_,l,p,_,_,m⟩
 ·have d:=QS.1 k;subst d;exact⟨Z,0,i,fun j hj=>by simp at hj⟩
 ·refine⟨_,_,rfl,fun j hj=>⟨g,rfl,?_⟩⟩;have b:∀c,c<3->W.cell? ⟨g,j*3+c,Z⟩=(Gu ds[j])[c]? :=fun c b=>by
   have e:=VB ds j c hj b;have f:c<(Gu ds[j]).length:=b;rw[QB f]at e ⊢;rw[<-m,List.getElem?_take,if_pos (by omega)]at e;simp only[Xe,l];simpa using e
  exact⟨b 0 (by omega),b 1 (by omega),b 2 (by omega)⟩
inductive Puts (s:St):List Dr->St->List ByteArray->Prop
 | nil:Puts s [] s []
 | step {ds:List Dr} {t:St} {ps:List ByteArray} (d:Dr):Puts s ds t ps->BM t (d.1++Ab (itoa (Ag t))) d.2.2=0->Puts s (ds++ [d]) (B3 t (d.1++Ab (itoa (Ag t))) d.2.2) (ps++ [d.1++Ab (itoa (Ag t))])
theorem Puts.len {s b:St} {ds:List Dr} {ps:List ByteArray} (h:Puts s ds b ps):ps.length=ds.length:=by
 induction h with
 | nil=>rfl
 | step d h0 hc ih=>rw [Qt,Qt,ih];rfl
theorem Puts.gw {s c:St} {ds:List Dr} {ps:List ByteArray} (h:Puts s ds c ps) (g:B7 s) (f:∀d∈ds,Bw d.1):Gw s c:=by
 induction h with
 | nil=>exact Gw.refl g
 | step d h0 hc ih =>
  have b:=ih (fun e he=>f e (Xq _ he));exact b.trans (JC b.good _ (JD _ _ (f d (by simp))))
def Nd (s:St) (ds:List Dr):Prop:=Rm ds.length s/\∀d∈ds,Ea d.1/\d.2.2.size<=20000
theorem Puts.rm {s g:St} {ds:List Dr} {ps:List ByteArray} (h:Puts s ds g ps):∀ {n:Nat},Rm (ds.length+n) s->(∀d∈ds,Ea d.1/\d.2.2.size<=20000)->Rm n g:=by
 induction h with
 | nil=>intro n b _;simpa using b
 | step d h0 hc ih =>
  intro n b f;have c:=f d (by simp);exact(Ly (ih (n:=n+1) (by rw[Qt,Q0,QG]at b;rw[show ∀a:Nat,a+(n+1)=a+(0+1)+n from fun a=>by omega];exact b) (fun e he=>f e (Xq _ he))) c.1 c.2).2
theorem Puts.next {s b:St} {ds:List Dr} {ps:List ByteArray} {n:Nat} (h:Puts s (ds.take n) b ps) (i:n<ds.length) (c:Nd s ds):BM b (ds[n].1++Ab (itoa (Ag b))) ds[n].2.2=0:=by
 have f:=c.2 ds[n] (Q6 _);have g:Rm (ds.length-n-1+1) b:=h.rm (by rw[Xc,show min n ds.length+(ds.length-n-1+1)=ds.length by omega];exact c.1) (fun d hd=>c.2 d (Xr hd));exact(Ly g f.1 f.2).1
section
variable {a : Nat → Qm} {B : Nat} {EM : V → Prop}
def Ne (a:Nat->Qm) (W:V) (kb:Nat) (vs:Qb) (SP:Nat->Prop) (hd:ByteArray) (vi vf:Qb) (k:Lk) (ds:List Dr) (e:Q3) (w':V):Prop :=
 ∃v' n SP' s',e=Qc (Qd #[v',Ae a n])/\Ac SP W w'/\(∀j,SP' j->SP j\/W.heap.size<=j)/\Gw k.st s'/\Al w' kb vs SP' hd vi vf { k with st:=s' } /\(n≠0->¬Nd k.st ds)/\(n=0->∃ps,Puts k.st ds s' ps/\w'.ownsRow W.heap.size 9 1 v' ps.length (ps.map J))
theorem tE (K:A2 a B EM An) (HL:∀X,EM X->AX X a) {W:V} {N:Nat} {vs:Qb} {p:Nat->Prop} {E:ByteArray} {Q vf:Qb} {k:Lk} (hE:EM W) (h:Al W N vs p E Q vf k) (hg:B7 k.st) (hB:∀j,p j->B<=j) {D:Nat} {v:Qb} {ds:List Dr} (bz:Bg W D v ds) (b1:∀d∈ds,Bw d.1/\d.1.size<=100/\d.2.2.size<=100000) (b2:∀j,v.ownBlock=I j->¬p j) (hl:ds.length<=1000) :
  Qh Qf 110 #[.pointer (I ⟨N,0,Z⟩),v] W (Ne a W N vs p E Q vf k ds):=by
 obtain⟨F,rfl⟩:=h.ptr K;have av:S _:=K.size _ hE;have aw:S (∀X b s,Ac p W X->(∀j,b j->p j\/W.heap.size<=j)->Gw k.st s->Al X N (.pointer (I F)) b E Q vf { k with st:=s } ->EM X/\Qh Qf 70 #[.pointer (I F)] X fun e w'=>e=Qc (.int .i64 (Ag s))/\BL X w'):=fun X b s y ab hgX hX=>by
  have ae:=K.below _ _ hE (y.below av.out hB);exact⟨ae,MY K (fun Y hY=>(HL Y hY).s) X _ b s ae hX.st hgX.good.keeps (fun o ho=>by have:=(GJ (hgX.good.keeps.names o ho));omega) hgX.good.slb⟩
 have bc:S _:=fun X b s n t (ae:EM X) (hgX:B7 s) (hX:Al X N (.pointer (I F)) b E Q vf { k with st:=s }) (hn:n.size<=1000) (ht:t.size<=100000)=>K.put X _ b s n t ae hX.st hgX.keeps hn ht;have HQ:S _:=h;have HG:S _:=hg;have ax:S _:=b1;obtain⟨q,c,hv,br⟩:=bz.at;subst hv;have bd:S (∀X,Ac p W X->∀j (hj:j<ds.length),∃g,q=I ⟨g,0,Z⟩/\X.cell? ⟨g,j*3,Z⟩=I (.string ds[j].1)/\X.cell? ⟨g,j*3+1,Z⟩=I (.string ds[j].2.1)/\X.cell? ⟨g,j*3+2,Z⟩=I (.string ds[j].2.2)):=fun X y j hj=>by
  obtain⟨g,rfl,h0,h1,h2⟩:=br j hj;have am:=b2 g rfl;exact⟨g,rfl,y.keep am h0,y.keep am h1,y.keep am h2⟩
 obtain⟨L,hL⟩:∃L,ds.length=L:=⟨_,rfl⟩;have an:S _:=hL;rw[hL]at hl ⊢
 go_enter func110,ntmps110
 go_wp2_with fail
 go_loopw [6,8,9,10,13] (fun o _ _ _ i wr=> ∃(n:Nat) (M:List ByteArray) (b:Nat->Prop) (s:St),n<=L/\i= .int .i64 n/\Puts k.st (ds.take n) s M/\wr.ownsRow W.heap.size 9 1 o M.length (M.map J)/\Al wr N (.pointer (I F)) b E Q vf { k with st:=s } /\Ac p W wr/\(∀j,b j->p j\/W.heap.size<=j)/\∀j,o.ownBlock=I j->¬b j) (fun _ _ _ _ i _=>L-(Qv i).toNat)
 case atStart=>exact ⟨0, [],p,k.st,by omega,rfl,Puts.nil,Xa _ _ _ _,HQ.out,Ac.refl _ _,fun j h=>Qj h,fun j h=>by simp[QW]at h⟩
 case round =>
 obtain⟨n,M,b,s,hn,rfl,C,ho,hP,ad,ab,ba⟩:=hrel;have T:=C.gw HG.out (fun d E=>(ax.out d (Xr E)).1);have b3:M.length<=1000:=by
  have h1:=C.len;rw[Xc,an.out]at h1;omega
 by_cases be:n<L
 case neg =>
  obtain rfl:n=L:=by omega
  have b4:¬(n:Int)<(n:Int):=by omega
  have HE:S (Ne a W N (.pointer (I F)) p E Q vf k ds (Qc (Qd #[u6,Ae a 0])) wr):=⟨_,0,b,s,rfl,ad,ab,T,hP,fun e=>absurd rfl e,fun _=>⟨M,by rw[Q5 (by rw[an.out];exact Qn _)]at C;exact C,ho⟩⟩;go_wp2;go_ret2;exact HE.out
 case pos =>
 have ao:n<ds.length:=by rw[an.out];exact be
 obtain⟨g,rfl,e0,e1,e2⟩:=bd.out wr ad n ao;obtain⟨aq,a5,ar⟩:=ax.out ds[n] (Q6 _);have ay:S _:=(Xm ao).symm;have ac:S (Nd k.st ds->BM s (ds[n].1++Ab (itoa (Ag s))) ds[n].2.2=0):=fun h=>C.next ao h;generalize ds[n]=d at e0 e1 e2 aq a5 ar ay ac;obtain⟨f,dp,z⟩:=d;dsimp only at e0 e1 e2 aq a5 ar ac;have b5:(n:Int)<(L:Int):=by omega
 have b6:(0:Int)<=(n:Int):=by omega
 have aa:BL wr (wr.alloc (A #[.string f,.string dp,.string z] 111)):=Af _ _;have af:=QK wr (A #[.string f,.string dp,.string z] 111);have HO:S _:=ho;have u:=ad.trans (Ac.of_below (P:=fun _=>False) aa) (fun _ h _=>h.elim);have ag:=hP.quiet K aa;have ah:S (∀j,u6.ownBlock=I j->¬b j/\j<wr.heap.size):=fun j hj=>⟨ba j hj,(A7 ho hj).2.1⟩;have az:=AG (P:=fun _=>False) ho (Ac.of_below aa) (fun _ _ h=>h)
 go_upto_region 5 with fail
 generalize wr.alloc (A #[.string f,.string dp,.string z] 111)=r at aa af u ag az ⊢;have bf:=aa.size;generalize wr.heap.size=db at af ah bf ⊢;have q0:r.cell? ⟨db,0,Z⟩=I (.string f):=by rw[QA _ _ _ _ _ _ af];rfl
 have q2:r.cell? ⟨db,2,Z⟩=I (.string z):=by rw[QA _ _ _ _ _ _ af];rfl
 obtain⟨b0,-⟩:=ag.blk.cells;have ai:=K.below _ _ (aw.out W p k.st (Ac.refl _ _) (fun _ h=>Qj h) (Gw.refl HG.out) HQ.out).1 (u.below av.out hB);have bg:S (∀X,BL r X->Qh Qf 70 #[.pointer (I F)] X fun e w'=>e=Qc (.int .i64 (Ag s))/\BL X w'):=fun X hb=>(aw.out X b s (u.trans (Ac.of_below (P:=fun _=>False) hb) (fun _ h _=>h.elim)) ab T (ag.quiet K hb)).2;have bh:S (∀X,BL r X->Qh Qf 96 #[.string f,.int .i64 (Ag s)] X fun e w'=>e=Qc (.string (f++Ab (itoa (Ag s))))/\BL X w'):=fun X hb=>MZ f _ X (HL X (K.below _ _ ai (hb.mono (K.size _ ai)))).s (by omega) (by have:=It s;omega);have bi:(f++Ab (itoa (Ag s))).size<=1000:=by
  rw[Xb,EK];have:=It s;have:=QO (Ag s) (by omega) (by omega);omega
 have bj:S (∀X,BL r X->Qh Qf 137 #[.pointer (I F),.string (f++Ab (itoa (Ag s))),.string z] X fun e w'=>e=Qc (Ae a (BM s (f++Ab (itoa (Ag s))) z))/\∃l,Al w' N (.pointer (I F)) l E Q vf { k with st:=B3 s (f++Ab (itoa (Ag s))) z } /\Ac b r w'/\∀j,l j->b j\/r.heap.size<=j):=fun X hb=>by
  have a0:=ag.quiet K hb;refine(bc.out X b s _ z (K.below _ _ ai (hb.mono (K.size _ ai))) T.good a0 bi ar).mono fun e w' ⟨h1,h2⟩=>?_;obtain⟨l,h3,h4,h5⟩:=a0.post h2;exact⟨h1,l,h3,(Ac.of_below hb).trans h4 (fun _ h _=>h),fun j hj=>(h5 j hj).imp_right (Qo hb.size)⟩
 have bk:S (Gw k.st (B3 s (f++Ab (itoa (Ag s))) z)):=T.trans (JC T.good _ (JD _ _ aq));have bl:S (BM s (f++Ab (itoa (Ag s))) z=0->Puts k.st (ds.take (n+1)) (B3 s (f++Ab (itoa (Ag s))) z) (M++ [f++Ab (itoa (Ag s))])):=fun h0=>by
  rw[ay.out];exact Puts.step (f,dp,z) C h0
 generalize B3 s (f++Ab (itoa (Ag s))) z=S1 at *;generalize BM s (f++Ab (itoa (Ag s))) z=C1 at *;generalize f++Ab (itoa (Ag s))=PN at *;generalize Ag s=NN at *;have a8:Tryz.prog.follows .mixedOrders=Qg:=by kernel_rfl
 have f0:=Xs q0;have f1:=Xs b0;have a1:=fun d os=>Calls.regrown_of (w:=r) (d:=d) (os:=os) (bg.out _ (Xd r d os));have a2:=fun d os=>Calls.regrown_of (w:=r) (d:=d) (os:=os) (bh.out _ (Xd r d os));refine wp_region_quiet_below a8 (by kernel_rfl) ?_
 repeat (go_big_quiet_step (first | exact a1 _ _ | exact a2 _ _))
 refine wpQuiet_nil ?_;intro _ bu;obtain⟨⟨dq,a6⟩,bb⟩:=bu;subst bb;have aj:=Xd r dq a6;clear a1 a2 f0 f1;generalize grow (redrawn r dq) a6=WB at aj ⊢;have bm:=Aa aj q2;have bn:=Aa aj b0;have ap:BL WB WB.drew:=(Qw _ _).drew;have b7:=Aa ap bm;have b8:=Aa ap bn;have a9:=Ad aj ap
 go_upto_region 6 with fail
 go_cut [10] from 25 to 33 (fun c wx=> ∃l,c=Ae a C1/\Al wx N (.pointer (I F)) l E Q vf { k with st:=S1 } /\Ac b r wx/\∀j,l j->b j\/r.heap.size<=j)
 case first =>
  first
   | (go_region_with (go_at_call 137;(with_reducible refine(bj.out _ a9).mono ?_);rintro e wZ ⟨rfl,l,bv,bw,bx⟩))
   | fail
  all_goals
   go_wp2;go_meet
   case rel=>exact ⟨l,rfl,bv,bw,bx⟩
 case rest =>
 obtain⟨l,rfl,au,ak,a7⟩:=hcut;have y:=u.trans ak (fun j hj hjl=>(ab j hj).elim id (fun e=>absurd hjl (by omega)));have a3:∀j,l j->p j\/W.heap.size<=j:=fun j hj=>(a7 j hj).elim (ab j) (fun e=>Qe (Qo u.size e));have R:=AG az ak (fun j hj=>(ah.out j hj).1);have a4:S (∀j,u6.ownBlock=I j->¬l j/\j<wc.heap.size):=fun j hj=>⟨fun e=>(a7 j e).elim (ah.out j hj).1 (fun e'=>absurd (ah.out j hj).2 (by omega)),(A7 R hj).2.1⟩;by_cases hC:C1=0
 case neg =>
  have HE:S (Ne a W N (.pointer (I F)) p E Q vf k ds (Qc (Qd #[.slice Z 0 0,Ae a C1])) wc):=⟨_,C1,l,S1,rfl,y,a3,bk.out,au,fun _ h=>hC (ac.out h),fun e=>absurd e hC⟩;obtain⟨m,rfl⟩:∃m,C1=m+1:=⟨C1-1,by omega⟩;simp only[Ae]at HE ⊢;go_wp2;go_ret2;exact HE.out
 case pos =>
 subst hC;simp only[Ae];have C:=bl.out rfl;obtain⟨v',W2,hr,bs,al,bt⟩:=Lm R y.size PN rfl (by omega);have bo:=y.trans al (fun j hj hjl=>absurd hjl (by have:=(A7 R hj).1;omega));have bp:=au.but K al (fun j hj e=>(a4.out j e).1 hj) (fun e=>by have:=(A7 R e).1;have:=HQ.out.blk.lt;omega) (fun hne j hj e=>by have:=(A7 R e).1;have:=J6 HQ.out.ids.1 hne hj;omega) (fun hne j hj e=>by have:=(A7 R e).1;have:=J5 HQ.out.fls hne hj;omega);have bq:∀j,v'.ownBlock=I j->¬l j:=fun j hj=>by
  rcases bt with e | ⟨i,e,e1,e2⟩
  ·exact(a4.out j (e▸hj)).1
  ·rw[e]at hj;injection hj with hj;subst hj;exact fun e'=>absurd ((au.sizes K).2 _ e') (by omega)
 have HR:S (Puts k.st (ds.take (n+1)) S1 (M++ [PN])/\W2.ownsRow W.heap.size 9 1 v' (M++ [PN]).length ((M++ [PN]).map J)/\Al W2 N (.pointer (I F)) l E Q vf { k with st:=S1 } /\Ac p W W2/\(∀j,l j->p j\/W.heap.size<=j)/\∀j,v'.ownBlock=I j->¬l j):=⟨C,bs,bp,bo,a3,bq⟩
 go_wp2_with (at_builtin;refine wpList_append_run (by rfl) _ _ _ (by rfl) _ _ _ (by rfl) (by rfl) hr ?_)
 go_roundw
 case rel=>exact ⟨n+1,M++ [PN],l,S1,by omega,by go_num,HR.out⟩
 case measure=>simp [Qv];omega
end
end
end Go.Proofs.YtcllhobffhkafaaGreatDoor
