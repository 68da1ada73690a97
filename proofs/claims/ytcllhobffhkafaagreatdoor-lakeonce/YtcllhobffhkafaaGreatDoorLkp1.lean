/- By an AI agent. -/
import Derived.Test.YtcllhobffhkafaaGreatDoorListPrn
import Derived.Lib.ItoaLen
set_option maxRecDepth 100000
set_option maxHeartbeats 16000000
open Go.Proofs.Tryz
open Array renaming getElem?_eq_some_iff->Qx
open Bool renaming true->Qa,false->Qe,false_eq_true->Qv,and_eq_true->Q0
open Go renaming World->S,Value->Qf,Calls->Qh,maxLen->Qm,cell_of_row->Qy
open Go.Ending renaming returned->Qg
open Go.IntKind renaming i64->I
open Go.Obj renaming cells->J
open Go.RowKit renaming Hid->O
open Go.Value renaming int->Z,string->Qb,slice->Qd,pointer->Qj,iface->Qk,nilIface->Qo
open List renaming length_map->Qi,mem_map->Qn,length_filter_le->Qp,take_of_length_le->Qq,getElem?_eq_getElem->Qr,length_append->Qt,mem_append->Qu,mem_filter->Qw,getElem_mem->Qz,mem_cons_self->Q1,mem_cons_of_mem->Q2,foldl_cons->Q3,flatMap_cons->Q4,filter_cons->Q5,mem_cons->Q6
open Nat renaming le_trans->Ql,le_refl->Qs,zero_le->Q7
open Option renaming some->U,none->Qc
namespace Go.Proofs.YtcllhobffhkafaaGreatDoor
open Go.Lib Go.Sort
section
open Go.Extern Go.Extern.Stop Go.RowKit Go.Shelf Go.Stop
structure Ic (n:Nat) (c:Ct) (qs:List Int):Prop where
 rows:c.1.length<=40*n
 keys:c.2.length<=40*n
 nums:qs.length<=n
 small:∀p∈c.1,-1073741824<=p.1.2.1/\p.1.2.1<=1073741824
theorem Ic.start:Ic 0 ([], []) []:=⟨by simp,by simp,by simp,fun p hp=>by cases hp⟩
theorem Ic.step {n:Nat} {c:Ct} {k:List Int} (h:Ic n c k) {obs:List Ob} {x:Fl} (q:(Aj obs x).1=0):Ic (n+1) (E3 x (Aj obs x).2 c) (FZ x k):=by
 obtain⟨g,m,D,d,u,v,y,i,j⟩:=OA q;generalize (Aj obs x).2=t at *;have z:=h.rows;have B:=h.keys;have C:=h.nums;unfold FZ;by_cases f:x.2.1.data.toList= [45]
 ·obtain rfl:=d.1 f;rw[M0 f,if_neg (by simpa using f)];have l:(B4 t.data.toList).1.length<=40:=i;exact⟨by dsimp only;omega,by dsimp only;rw[Qt,Qi];omega,by omega,h.small⟩
 ·obtain rfl:g=Qe:=by
   cases g with
   | false=>rfl
   | true=>exact absurd (d.2 rfl) f
  rw[KS f,if_pos f];have s:(Bw t.data.toList).1.length=(Bf Qe t.data.toList).1.length:=by
   show _=(BB (Bw t.data.toList).1).length;rw[KK]
  refine⟨by dsimp only;rw[Qt,Qi];omega,by dsimp only;omega,by rw[List.length_cons];omega,fun p b=>?_⟩;rw[Qu]at b;rcases b with b | b
  ·exact h.small p b
  ·obtain⟨r,o,rfl⟩:=Qn.1 b;exact j r.2.1 (by simp only[Bf,Qv,if_false];exact Qn.2 ⟨r,o,rfl⟩)
theorem Ai.butC {W i:S} {base l m:Nat} {c:Ct} {t:List Int} {v:Qf} {n:List Fl} (h:Ai W v n) (y:Ac (CZ W base l m) W i) (z:B2 W base l m c t) (B:base=W.heap.size):Ai i v n:=by
 have f:∀ {b o:Nat} {u:Qf},W.cell? ⟨b,o,Qc⟩=U u->i.cell? ⟨b,o,Qc⟩=U u:=fun {b o u} d=>by
  have g:=BD d;obtain⟨p,q⟩:=z.noCell d;have e:=O9 y g (by rw[B];exact g) p q;rw[<-d];unfold World.cell?;rw[e]
 rcases h with h | ⟨b,o,k,r,s,d⟩
 ·exact Or.inl h
 ·exact Or.inr ⟨b,o,k,r,s,fun j hj=>⟨f (d j hj).1,f (d j hj).2.1,f (d j hj).2.2.1,f (d j hj).2.2.2.1,f (d j hj).2.2.2.2.1,f (d j hj).2.2.2.2.2⟩⟩
def KW (a:Nat->Addr) (W:S) (R:List Rw×Nat×Option Nat) (e:Ending) (w':S):Prop:= ∃v' ev,e=Qg (.tuple #[v',ev])/\Ar w' v' R.1/\AU w' a ev R.2/\BL W w'
section
variable {a : Nat → Addr} {B : Nat} {EM : S → Prop} {SAt : S → Qf → (Nat → Prop) → St → Prop}
theorem pS (K:AJ a B EM SAt) (HV:∀W,EM W->Gs W a/\Fj W/\D4 W a) (W:S) (v:Qf) (FP:Nat->Prop) (b:St) (s:Sn) (vf:Qf) (lo hi:Int) (hE:EM W) (cd:SAt W v FP b) (ks:AR b) (hx:Ai W vf s.2.2.2.2.2.2) (hl:s.2.2.2.2.2.2.length<=100) (ce:Eb s.2.2.2.2.2.2) :
  Qh prog 40 #[v,A9 s vf,Z I lo,Z I hi] W (fun e w'=>KW a W (Bo b.obs s lo hi) e w'/\JV W e):=by
 obtain⟨pt,rfl⟩:=K.ptr _ _ _ _ cd;obtain⟨vq,vc,rfl⟩:=hx.form;have ck:=K.size W hE;have bp:O _:=fun X (hX:BL W X)=>K.below W X hE (hX.mono ck);have cl:O _:=fun X (hX:BL W X)=>K.keep _ X _ _ (fun _=>False) _ cd (Ac.of_below hX) (fun _ _ h=>h);have br:O _:=fun X base f g c o x (hX:BL W X) (h:B2 X base f g c o) (r:base<=X.heap.size) (h2:x.1.size<=1000) (h3:x.2.1.size<=1000) (h4:o.length<=100) (h5:c.1.length<=10000) (h6:c.2.length<=10000) =>
  nI K (fun W hW=>⟨(HV W hW).1,(HV W hW).2.1⟩) X (bp.out X hX) (Qj (U pt)) FP b (cl.out X hX) ks base f g c o x h r h2 h3 h4 h5 h6
 have ad:O _:=fun X (hX:BL W X)=>hx.below hX;have a5:O _:=fun X (hX:BL W X)=>Ji s _ X a (HV X (bp.out X hX)).2.2 (ad.out X hX) (by omega) ce;have cm:O _:=ce;have ao:O (∀(n:Nat) (x:Fl),(Am s).1=0->(s.2.2.2.2.2.2.filter (Aq lo hi))[n]? =U x->(∀m y,m<n->(s.2.2.2.2.2.2.filter (Aq lo hi))[m]? =U y->(Aj b.obs y).1=0)->(Aj b.obs x).1≠0->Bo b.obs s lo hi=([],(Aj b.obs x).1,U (Df s.2.2.2.2.2.2 x.1).toNat)/\0<=Df s.2.2.2.2.2.2 x.1):=fun n x he hn hm hb=>by
  obtain⟨j,r,h2⟩:=mS he n x hn hm hb;rw[mQ (FY he).2 r];exact⟨h2,by omega⟩
 have ap:O _:=fun l (he:(Am s).1=0) (h:(∀x∈s.2.2.2.2.2.2.filter (Aq lo hi),(Aj b.obs x).1=0)) (hn:l.Nodup) (hq:(∀p∈(BK b.obs (s.2.2.2.2.2.2.filter (Aq lo hi)) ([], [])).1,p.2∈l))=>mR he h l hn hq;have bs:O ((Am s).1≠0->Bo b.obs s lo hi=([],Am s)):=fun h=>by unfold Bo;rw[if_pos h]
 generalize Bo b.obs s lo hi=R at ao ap bs ⊢;have aq:=Al.new W s (Qd vq s.2.2.2.2.2.2.length vc);have aa:BL W (W.alloc (J #[Z I s.1,Z I s.2.1,Z I s.2.2.1,Z I s.2.2.2.1,Z I s.2.2.2.2.1,Qb s.2.2.2.2.2.1,Qd vq s.2.2.2.2.2.2.length vc] 40)):=Af _ _;unfold A9 at a5 ⊢;obtain⟨id,a1,a2,a3,a4,op,Q⟩:=s;dsimp only at *;obtain⟨L,hL⟩:∃L,Q.length=L:=⟨_,rfl⟩;have ah:O _:=hL;rw[hL]at hl ad a5 aq aa ⊢
 go_enter func40,ntmps40
 go_upto_region 1 with fail
 have HA:O _:=aa;have cn:=a5.out _ aa;generalize W.alloc (J #[Z I id,Z I a1,Z I a2,Z I a3,Z I a4,Qb op,Qd vq L vc] 40)=W1 at *;obtain⟨sb,am⟩:∃k,W.heap.size=k:=⟨_,rfl⟩;have dr:O _:=am;rw[am]at aq;rw[am];obtain⟨z0,z1,z2,z3,z4,z5,z6⟩:=aq.cells
 go_wp2_with fail
 refine cn.mono ?_;rintro e w2 ⟨ev,rfl,ht,b8⟩;have ar:=HA.out.trans (b8.mono HA.out.size);have cf:=aq.below b8;by_cases au:(Am (id,a1,a2,a3,a4,op,Q)).1=0
 case neg =>
  obtain⟨t,u,rfl⟩:=ht.bad au;have HT:O (AU w2 a (Qk t u) R.2/\R.1= []):=by
   rw[bs.out au];exact⟨ht,rfl⟩
  go_wp2;go_ret2;exact⟨⟨_,_,rfl,by rw[HT.out.2];exact Or.inl ⟨Qc,0,rfl,rfl⟩,HT.out.1,ar⟩,O4 (Uv _)⟩
 obtain rfl:ev=Qo:=ht.ok au;have bt:O _:=au;have co:=nB w2
 go_wp2_with fail
 refine co.mono ?_;rintro e T ⟨f,g,rfl,de,ci,df,dg,dh,di⟩;have a6:BL T (T.alloc (J #[.map (U f),.map (U g)] 136)):=Af _ _;have a7:(T.alloc (J #[.map (U f),.map (U g)] 136)).heap[T.heap.size]? =U (J #[.map (U f),.map (U g)] 136 (0,0)):=heap_alloc_new _ _;have a8:=Ad di a6;have bu:=Ad ar a8;have cp:O _:=fun base (r:f<base) (h2:g<base)=>(dh base r h2).below a6;have a9:=cf.below a8;have ba:O (W.heap.size<=f/\W.heap.size<=g/\f<T.heap.size/\g<T.heap.size):=⟨Ql ar.size de,Ql ar.size ci,df,dg⟩
 go_upto_region 7 with fail
 have dm:(T.alloc (J #[.map (U f),.map (U g)] 136)).heap.size=T.heap.size+1:=by simp
 generalize T.alloc (J #[.map (U f),.map (U g)] 136)=w4 at *;generalize T.heap.size=cb at *;have z6:=a9.cells.2.2.2.2.2.2;have bv:=pR (Qd vq L vc) Q lo hi w4 (ad.out w4 bu) (by rw[ah.out];omega);obtain⟨G,hG⟩:∃G,Q.filter (Aq lo hi)=G:=⟨_,rfl⟩;have cq:O (G.length<=L):=by
  show _<=_;rw[<-hG,<-ah.out];exact Qp _ _
 have cr:O (∀x∈G,x.1.size<=30/\x.2.1.size<=30):=fun x hx=>by
  rw[<-hG]at hx;exact cm.out x (Qw.1 hx).1
 rw[hG]at bv ao ap
 go_wp2_with fail
 refine bv.mono ?_;rintro e d ⟨v5,rfl,b9,ag⟩;obtain⟨gq,gc,rfl⟩:=b9.form;have cs:=Ad bu ag;have ai:=a9.below ag;have bb:=(ag.block cb (Qx.1 a7).1).trans a7;have bw:B2 d d.heap.size f g ([], []) []:=by
  have r:=ba.out;have h2:=ag.size;exact(cp.out d.heap.size (by omega) (by omega)).below ag
 have bc:=(Qx.1 bb).1;have bd:cb≠f/\cb≠g:=by
  have r:=ba.out;exact⟨by omega,by omega⟩
 have be:=ai.lt;have bf:=bw.noCell ai.cells.1;have H5:O (Al d sb (id,a1,a2,a3,a4,op,Q) (Qd vq L vc)/\d.heap[cb]? =U (J #[.map (U f),.map (U g)] 136 (0,0))/\B2 d d.heap.size f g ([], []) []/\BL W d/\Ai d (Qd gq G.length gc) G):=⟨ai,bb,bw,cs,b9⟩;have bg:O (∀X,Ac (CZ d d.heap.size f g) d X->Al X sb (id,a1,a2,a3,a4,op,Q) (Qd vq L vc)/\X.heap[cb]? =U (J #[.map (U f),.map (U g)] 136 (0,0))/\BL W X/\Ai X (Qd gq G.length gc) G):=fun X hX=>by
  obtain⟨g1,g2,g3,g4,g5⟩:=H5.out;have r:=ba.out;exact⟨(O9 hX be be bf.1 bf.2).trans g1,(O9 hX bc bc bd.1 bd.2).trans g2,g4.trans (mY hX g4.size r.1 r.2.1 g4.size),g5.butC hX g3 rfl⟩
 obtain⟨M,hM⟩:∃M,G.length=M:=⟨_,rfl⟩;have HM:O _:=hM;have ds:M<=L:=by rw[<-hM];exact cq.out
 rw[hM]at bg ⊢;go_wp2
 go_loopw [30] (fun k wr=> ∃(n:Nat) (o:List Int),n<=M/\k=Z I n/\(∀m y,m<n->G[m]? =U y->(Aj b.obs y).1=0)/\B2 wr d.heap.size f g (BK b.obs (G.take n) ([], [])) o/\Ic n (BK b.obs (G.take n) ([], [])) o/\Ac (CZ d d.heap.size f g) d wr) (fun k _=>M-(intOf k).toNat)
 case atStart=>exact ⟨0, [],by omega,rfl,fun m y hm=>absurd hm (Nat.not_lt_zero _),by simpa [BK] using H5.out.2.2.1,by simpa [BK] using Ic.start,Ac.refl _ _⟩
 case round =>
  obtain⟨n,o,hn,rfl,db,dc,dd,b3⟩:=hrel;have av:O _:=db;have i:O (B2 wr d.heap.size f g (BK b.obs (G.take n) ([], [])) o/\Ic n (BK b.obs (G.take n) ([], [])) o/\Ac (CZ d d.heap.size f g) d wr):=⟨dc,dd,b3⟩;obtain⟨ch,an,bl,b4⟩:=bg.out wr b3;have k0:wr.cell? ⟨cb,0,Qc⟩=U (.map (U f)):=by rw[Qy _ _ _ _ _ _ an];rfl
  have k1:wr.cell? ⟨cb,1,Qc⟩=U (.map (U g)):=by rw[Qy _ _ _ _ _ _ an];rfl
  by_cases ct:n<M
  case neg =>
   obtain rfl:n=M:=by omega
   have ht:=Qq (by rw[HM.out];omega);rw[ht]at i;have aw:∀x∈G,(Aj b.obs x).1=0:=fun x hx=>by
    obtain⟨m,hm,rfl⟩:=List.getElem_of_mem hx;exact av.out m _ (by rw[<-HM.out];exact hm) (Qr hm)
   have cu:O (∀x∈G,(Aj b.obs x).1=0):=aw;have r:=i.out.2.1.rows;have aa:=pQ wr d.heap.size f g _ o i.out.1 (fun p hp=>by have:=i.out.2.1.small p hp;omega) (by omega) (by have:=i.out.2.1.nums;omega);have ae:∀(X:S) (u:Qf) (l:List Int),l.Nodup->(∀z∈o,z∈l)->Ar X u (BN (BK b.obs G ([], [])) l)->Qh prog 84 #[u,Z I lo,Z I hi] X fun e w'=> ∃v',e=Qg v'/\Ar w' v' ((BN (BK b.obs G ([], [])) l).filter (Bj lo hi))/\((BN (BK b.obs G ([], [])) l).filter (Bj lo hi)).length<=20000/\R=(A5 ((BN (BK b.obs G ([], [])) l).filter (Bj lo hi)),0,Qc)/\BL X w':=fun X u l hn hq hu=>by
    have ac:∀p∈(BK b.obs G ([], [])).1,p.2∈l:=fun p hp=>by
     obtain⟨D,hv,hG⟩:=i.out.1.rows;exact hq _ (hG.all p hp)
    have dn:(BN (BK b.obs G ([], [])) l).length<=4000:=by
     have:=(U5 _ l hn ac).length_eq;rw[this,Qi];exact Ql (Qp _ _) (by omega)
    have hR:=ap.out l bt.out cu.out hn ac;exact(bI u _ lo hi X hu (by omega)).mono fun e w' ⟨v',he,hr,hb⟩=>⟨v',he,hr,Ql (Qp _ _) (by omega),hR,hb⟩
   have cv:O _:=ae;clear ae aw ht ao ap br ad av r ch an b4
   go_wp2_with fail
   refine aa.mono ?_;rintro e Y ⟨v6,l,rfl,dj,ac,ca,N⟩;clear aa k0 k1;have ae:=cv.out Y v6 l dj ac ca;obtain⟨q6,c6,rfl⟩:=ca.form;generalize (BN (BK b.obs G ([], [])) l).filter (Bj lo hi)=ys at ae;generalize (BN (BK b.obs G ([], [])) l).length=al at *
   go_wp2_with fail
   refine ae.mono ?_;rintro e C ⟨v7,rfl,cc,dk,dl,ab⟩;have cw:=mA v7 ys C cc dk;obtain⟨q7,c7,rfl⟩:=cc.form;have cx:O _:=dl;have dp:=ab;have F:=(Ad bl N).trans (ab.mono (Ql bl.size N.size));generalize ys.length=yl at *
   go_wp2_with fail
   refine cw.mono ?_;rintro e w8 ⟨v8,rfl,bn,bo,cj⟩;obtain⟨q8,c8,rfl⟩:=bn.form;have cy:O _:=FQ.up (w:=W) (w':=C) cj F.size;have q:O (Ar w8 (Qd q8 (A5 ys).length c8) R.1/\AU w8 a Qo R.2/\BL W w8):=by
    rw[cx.out];exact⟨bn,rfl,(Ad F bo)⟩
   clear bn;generalize (A5 ys).length=sl at *;go_wp2;go_ret2;exact⟨⟨_,_,rfl,q.out.1,q.out.2.1,q.out.2.2⟩,O4 cy.out⟩
  have P:n<G.length:=by rw[HM.out];exact ct
  obtain⟨bq,oq,hq,hc⟩:=b4.cells (fun e=>by rw[e]at P;simp at P);subst hq;obtain⟨c0,c1,c2,c3,c4,c5⟩:=hc n P;obtain⟨s1,s2⟩:=cr.out G[n] (Qz _);have bh:O (G[n]? =U G[n]/\G.take (n+1)=G.take n++ [G[n]]):=⟨Qr P,List.take_succ_eq_append_getElem P⟩;generalize G[n]=x at c0 c1 c2 c3 c4 c5 s1 s2 bh;have bi:=Az.new wr x;have N:BL wr (wr.alloc (J #[Qb x.1,Qb x.2.1,Z I x.2.2.1,Z I x.2.2.2.1,Z I x.2.2.2.2.1,Z I x.2.2.2.2.2] 77)):=Af _ _;have dt:(n:Int)<(M:Int):=by omega
  have dq:(0:Int)<=(n:Int):=by omega
  have bj:=Ad bl N;have bk:=i.out.1.below N;have aj:=Jo i.out.2.2 (Ac.of_below N);have m0:=Aa N k0;have m1:=Aa N k1
  go_upto_region 10 with fail
  generalize wr.alloc (J #[Qb x.1,Qb x.2.1,Z I x.2.2.1,Z I x.2.2.2.1,Z I x.2.2.2.2.1,Z I x.2.2.2.2.2] 77)=Y at *;generalize wr.heap.size=xb at *;obtain⟨d0,d1,d2,d3,d4,d5,-⟩:=bi.cells;have r:=i.out.2.1.rows;have h2:=i.out.2.1.keys;have h3:=i.out.2.1.nums;have ax:=br.out Y d.heap.size f g _ o x bj bk aj.size (by omega) (by omega) (by omega) (by omega) (by omega);unfold A1 G2 at ax;have cz:O (B2 Y d.heap.size f g (BK b.obs (G.take n) ([], [])) o):=bk;have af:O (Ac (CZ d d.heap.size f g) d Y/\BL W Y):=⟨aj,bj⟩;have bx:O (Az Y xb x):=bi;clear bk aj bj bi r h2 h3;by_cases ay:(Aj b.obs x).1=0
  case pos =>
   have ak:O ((Aj b.obs x).1=0):=ay;clear ay
   go_wp2_with fail
   refine ax.mono ?_;intro e C E;obtain⟨-,rfl,b5,F⟩:(Aj b.obs x).1=0/\e= .returned Qo/\B2 C d.heap.size f g (E3 x (Aj b.obs x).2 (BK b.obs (G.take n) ([], []))) (FZ x o)/\Ac (CZ Y d.heap.size f g) Y C:=by
    rcases E with E | E
    ·exact absurd ak.out E.1
    ·exact E
   have az:O ((∀m y,m<n+1->G[m]? =U y->(Aj b.obs y).1=0)/\B2 C d.heap.size f g (BK b.obs (G.take (n+1)) ([], [])) (FZ x o)/\Ic (n+1) (BK b.obs (G.take (n+1)) ([], [])) (FZ x o)/\Ac (CZ d d.heap.size f g) d C):=by
    obtain⟨g1,g2⟩:=bh.out;rw[g2,mI];refine⟨fun m y hm hy=>?_,b5,i.out.2.1.step ak.out,Jo af.out.1 F⟩;by_cases e:m=n
    ·subst e;rw[g1]at hy;rw[<-Option.some.inj hy];exact ak.out
    ·exact av.out m y (by omega) hy
   clear ax d0 d1 d2 d3 d4 d5 m0 m1 b5 F E i cz bx af;go_wp2;go_roundw
   case rel=>exact ⟨n+1,FZ x o,by omega,by go_num,az.out.1,az.out.2.1,az.out.2.2.1,az.out.2.2.2⟩
   case measure=>simp [intOf];omega
  case neg =>
   obtain⟨b6,bm⟩:=ao.out n x bt.out bh.out.1 av.out ay;have bz:O (R=([],(Aj b.obs x).1,U (Df Q x.1).toNat)/\0<=Df Q x.1):=⟨b6,bm⟩;obtain⟨ec,b7⟩:∃c,(Aj b.obs x).1=c+1:=⟨(Aj b.obs x).1-1,by omega⟩;have a0:O ((Aj b.obs x).1=ec+1):=b7;clear b6 bm ay b7
   go_wp2_with fail
   refine ax.mono ?_;intro e C E;obtain⟨rfl,ab⟩:e=Qg (Qk 410 (Qj (U (a ec))))/\BL Y C:=by
    rcases E with E | E
    ·refine⟨?_,E.2.2⟩;rw[E.2.1,a0.out];rfl
    ·exact absurd E.1 (by rw[a0.out];omega)
   have F:BL W C:=af.out.2.trans (ab.mono af.out.2.size);have cg:Ac (CZ d d.heap.size f g) d C:=Jo af.out.1 (Ac.of_below ab);have c9:=bx.out.below ab;have z6:=(bg.out C cg).1.cells.2.2.2.2.2.2;obtain⟨y0,-⟩:=c9.cells;have da:=JT (Qd vq L vc) Q x.1 C (ad.out C F) (by rw[ah.out];omega);generalize Df Q x.1=fi at *
   go_wp2_with fail
   refine da.mono ?_;rintro e w8 ⟨rfl,bo⟩;have b0:=Ad F bo;have q:O (R.1= []/\AU (w8.alloc (J #[Z I fi,Qk 410 (Qj (U (a ec)))] 143)) a (Qk 140 (Qj (U ⟨w8.heap.size,0,Qc⟩))) R.2/\BL W (w8.alloc (J #[Z I fi,Qk 410 (Qj (U (a ec)))] 143))):=by
    rw[bz.out.1];refine⟨rfl,⟨by rw[a0.out];omega,w8.heap.size,rfl,?_,?_⟩,b0.alloc b0.size _⟩
    ·rw[Int.toNat_of_nonneg bz.out.2];simp
    ·rw[a0.out];simp[Ae]
   go_wp2;go_ret2;exact⟨⟨_,_,rfl,by rw[q.out.1];exact Or.inl ⟨Qc,0,rfl,rfl⟩,q.out.2.1,q.out.2.2⟩,O4 (Uv _)⟩
end
theorem OO {lo hi:Int} {x:Fl} (i:lo<= -1073741824) (j:1073741824<=hi) (c:At x=0):Aq lo hi x=Qa:=by
 obtain⟨g,n,d,f,b⟩:=D0 c;unfold De at b;simp only[Q0,decide_eq_true_eq,Ao]at b;unfold Aq;apply decide_eq_true;split<;>split<;>omega
theorem pT {obs:List Ob} {lo hi d f:Int} (v:lo<= -1073741824) (y:1073741824<=hi) (s:d<= -1073741824) (t:1073741824<=f) {x:Fl} (l:(Aj obs x).1=0) (i:List (Rw×Int)):E2 lo hi x (Aj obs x).2 i=E2 d f x (Aj obs x).2 i:=by
 obtain⟨g,m,u,c,n,o,p,q,j⟩:=OA l;by_cases b:x.2.1.data.toList= [45]
 ·rw[Jm b,Jm b]
 ·rw[Jl b,Jl b];obtain rfl:g=Qe:=by
   cases g with
   | false=>rfl
   | true=>exact absurd (c.2 rfl) b
  congr 2;apply List.filter_congr;intro r k;have:=j r.2.1 (by simp only[Bf,Qv,if_false];exact Qn.2 ⟨r,k,rfl⟩);unfold Bj;rw[decide_eq_true (by omega),decide_eq_true (by omega),decide_eq_true (by omega),decide_eq_true (by omega)]
theorem UR {obs:List Ob} {lo hi f g:Int} (j:lo<= -1073741824) (k:1073741824<=hi) (c:f<= -1073741824) (d:1073741824<=g):∀(fs:List Fl) (i:Nat) (acc:List (Rw×Int)),(∀x∈fs,At x=0)->Cg obs lo hi fs i acc=Cg obs f g fs i acc
 | [],_,_,_=>rfl
 | x :: r,i,acc,h=>by
  have l:=h x Q1;have m:=fun y hy=>h y (Q2 _ hy);unfold Cg;rw[OO j k l,OO c d l];simp only[Bool.true_eq_false,if_false];by_cases b:(Aj obs x).1≠0
  ·rw[if_pos b,if_pos b]
  ·rw[if_neg b,if_neg b,pT j k c d (by simpa using b)];exact UR j k c d r (i+1) _ m
theorem pU {obs:List Ob} {s:Sn} {lo hi c d:Int} (i:lo<= -1073741824) (j:1073741824<=hi) (f:c<= -1073741824) (g:1073741824<=d):Bo obs s lo hi=Bo obs s c d:=by
 unfold Bo;by_cases b:(Am s).1≠0
 ·rw[if_pos b,if_pos b]
 ·rw[if_neg b,if_neg b,UR i j f g _ 0 [] (fun x hx=>((FY (by simpa using b)).2.1 x hx).1)]
section
variable {a : Nat → Addr} {B : Nat} {EM : S → Prop} {SAt : S → Qf → (Nat → Prop) → St → Prop}
end
end
section
open Go
theorem US {s:St} (K:AR s) {n t:ByteArray} (b:∀o∈s.obs,o.1≠n):AV (Cr s.obs (n,t,s.day)) n=(t,0)/\∀m,m≠n->AV (Cr s.obs (n,t,s.day)) m=AV s.obs m:=by
 constructor
 ·unfold AV;rw[LR (o:=(n,t,s.day)) K.rise b]
 ·intro m c;unfold AV;rw[N8 (o:=(n,t,s.day)) K.rise b c]
theorem UT {n:Int} (b:1<=n) (d:n<=1073741824):(itoa n).length<=11/\∀c∈itoa n,GM c=Qa:=by
 refine⟨IK n (by omega) (by omega),fun c hc=>?_⟩;unfold itoa at hc;rw[if_neg (by omega)]at hc;have:=J2 _ _ hc;unfold GM;rw[decide_eq_true this.1,decide_eq_true this.2];simp
theorem JW (k:Int):∀(l:List (Int×Int)) (m:Int),0<=m->l.foldl (fun m p=>if p.1=k then max m p.2 else m) m=max m (Bv l k)
 | [],m,h=>by
  show m=max m 0;omega
 | p :: r,m,h=>by
  unfold Bv;rw[Q3,Q3];by_cases e:p.1=k
  ·rw[if_pos e,if_pos e,JW k r (max m p.2) (by omega),JW k r (max 0 p.2) (by omega)];omega
  ·rw[if_neg e,if_neg e,JW k r m h,JW k r 0 (Int.le_refl _)];omega
theorem pV (l:List (Int×Int)) (k:Int):0<=Bv l k:=by
 have:=JW k l 0 (Int.le_refl _);have e:Bv l k=max 0 (Bv l k):=this;omega
theorem pW (l m:List (Int×Int)) (k:Int):Bv (l++m) k=max (Bv l k) (Bv m k):=by
 have e:Bv (l++m) k=m.foldl (fun m p=>if p.1=k then max m p.2 else m) (Bv l k):=by
  unfold Bv;rw[List.foldl_append]
 rw[e,JW k m _ (pV l k)]
def Da (obs:List Ob) (x:Fl):List (Rw×Int):=if x.2.1.data.toList≠ [45] then (Bw (Aj obs x).2.data.toList).1.map (fun r=>(r,x.2.2.2.2.2)) else []
def BX (obs:List Ob) (x:Fl):List (Int×Int):=if x.2.1.data.toList≠ [45] then [] else (B4 (Aj obs x).2.data.toList).1.map fun k=>(k,x.2.2.2.2.2)
theorem UU (obs:List Ob):∀(g:List Fl) (c:Ct),BK obs g c=(c.1++g.flatMap (Da obs),c.2++g.flatMap (BX obs))
 | [],c=>by simp[BK]
 | x :: r,c=>by
  have e:BK obs (x :: r) c=BK obs r (E3 x (Aj obs x).2 c):=rfl;rw[e,UU obs r,Q4,Q4];unfold Da BX;by_cases b:x.2.1.data.toList= [45]
  ·rw[M0 b,if_neg (by simpa using b),if_neg (by simpa using b)];simp
  ·rw[KS b,if_pos b,if_pos b];simp
theorem OR {obs:List Ob} {lo hi:Int} :∀(fs:List Fl) (i:Nat) (acc:List (Rw×Int)),(Cg obs lo hi fs i acc).2.1=0->∀x∈fs.filter (Aq lo hi),(Aj obs x).1=0
 | [],_,_,_,x,b=>by cases b
 | y :: r,i,acc,h,x,b=>by
  unfold Cg at h;by_cases c:Aq lo hi y=Qe
  ·rw[if_pos c]at h;rw[Q5,c]at b;exact OR r (i+1) acc h x b
  ·rw[if_neg c]at h;have f:Aq lo hi y=Qa:=by simpa using c
   by_cases d:(Aj obs y).1≠0
   ·rw[if_pos d]at h;exact absurd h d
   ·rw[if_neg d]at h;rw[Q5,f]at b;simp only[if_true,Q6]at b;rcases b with rfl | b
    ·simpa using d
    ·exact OR r (i+1) _ h x b
theorem pX {obs:List Ob} {s:Sn} {lo hi:Int} (h:(Bo obs s lo hi).2.1=0):(Am s).1=0/\∀x∈s.2.2.2.2.2.2.filter (Aq lo hi),(Aj obs x).1=0:=by
 unfold Bo at h;by_cases b:(Am s).1≠0
 ·rw[if_pos b]at h;exact absurd h b
 ·rw[if_neg b]at h;refine⟨by simpa using b,?_⟩;by_cases c:(Cg obs lo hi s.2.2.2.2.2.2 0 []).2.1≠0
  ·rw[if_pos c]at h;exact absurd h c
  ·exact OR _ 0 [] (by simpa using c)
theorem pY {obs:List Ob} {s:Sn} {lo hi:Int} (f:(Am s).1=0) (h:∀x∈s.2.2.2.2.2.2.filter (Aq lo hi),(Aj obs x).1=0):Bo obs s lo hi=(A5 ((ED lo hi (BK obs (s.2.2.2.2.2.2.filter (Aq lo hi)) ([], []))).map (·.1)),0,Qc):=by
 have b:=(FY f).2;have c:=M1 s.2.2.2.2.2.2 0 [] h;have d:=M2 (obs:=obs) (lo:=lo) (hi:=hi) (s.2.2.2.2.2.2.filter (Aq lo hi)) ([], []) (U3 (U2 b) _) (Or.inl rfl) (fun x hx=>by
  have:=(O8 (b.1 x (Qw.1 hx).1).1).1;omega)
 have g:ED lo hi ([], [])= []:=rfl;rw[g]at d;rw[d]at c;unfold Bo;rw[if_neg (by simpa using f),c];simp
theorem UV {b:List Fl} (h:∀x∈b,At x=0):b.filter (Aq Bt Bu)=b:=by
 rw[List.filter_eq_self];exact fun x hx=>OO (by unfold Bt;omega) (by unfold Bu;omega) (h x hx)
theorem OS {c:Int} :∀ {fs:List Fl} {i:Nat},(Eo c fs i).1=0↔∀f∈fs,f.2.2.2.2.2<=c
 | [],i=>by simp[Eo]
 | f :: r,i=>by
  unfold Eo;split
  ·rename_i h;constructor
   ·intro e;cases e
   ·intro e;have:=e f Q1;omega
  ·rename_i h;rw[OS];constructor
   ·intro e g b;rw[Q6]at b;rcases b with rfl | b
    ·omega
    ·exact e g b
   ·exact fun e g b=>e g (Q2 _ b)
theorem KX {s:Sn} :(Am s).1=0↔Em s=Qa/\Cp s.2.2.2.2.2.1.data.toList=Qa/\(BF s.2.2.2.2.2.2).1=0/\∀f∈s.2.2.2.2.2.2,f.2.2.2.2.2<=s.2.2.1:=by
 unfold Am;constructor
 ·intro h;split at h
  ·cases h
  ·rename_i c;split at h
   ·cases h
   ·rename_i d;split at h
    ·rename_i b;exact absurd h b
    ·rename_i b;exact⟨by simpa using c,by simpa using d,by simpa using b,OS.1 h⟩
 ·rintro⟨c,d,b,g⟩;rw[if_neg (by rw[c];decide),if_neg (by rw[d];decide),if_neg (by simpa using b)];exact OS.2 g
end
section
open Go.Extern Go.Extern.Stop Go.RowKit Go.Shelf Go.Stop
def Bp (n:ByteArray):Prop:=(47:UInt8)∈n.data.toList
def AK (s:St) (n t:ByteArray):Prop:=AV s.obs n=(t,0)
structure B3 (s:St):Prop where
 keeps:AR s
 slb:∀o∈s.obs,Bp o.1
 aged:KP s
structure Gw (s s':St):Prop where
 good:B3 s'
 old:∀n t,AK s n t->AK s' n t
 head:s'.head=s.head
theorem Gw.refl {s:St} (h:B3 s):Gw s s:=⟨h,fun _ _ h=>h,rfl⟩
theorem Gw.trans {s t u:St} (h:Gw s t) (k:Gw t u):Gw s u:=⟨k.good,fun n x hx=>k.old n x (h.old n x hx),k.head.trans h.head⟩
theorem ME {s b:St} (h:B3 s) (d:AR b) (c:b.obs=s.obs):B3 b:=⟨d,fun o hm=>h.slb o (c▸hm),fun o hm=>h.aged o (c▸hm)⟩
theorem MF {s b:St} (c:b.obs=s.obs) {n t:ByteArray} (h:AK s n t):AK b n t:=by unfold AK;rw[c];exact h
theorem MG {s b:St} (h:B3 s) (d:AR b) (c:b.obs=s.obs) (f:b.head=s.head):Gw s b:=⟨ME h d c,fun _ _=>MF c,f⟩
theorem G5 {n:ByteArray} (h:CF n.data.toList=Qa):n.size<=16:=by
 unfold CF at h;simp only[Q0,decide_eq_true_eq]at h;rw[AA]at h;exact h.2
theorem OT {s:St} {n t:ByteArray} (h:CP s n t=0):(∀o∈s.obs,o.1≠n)/\s.off=Qe/\CF n.data.toList=Qa:=⟨(LU h).2.2.2.1,(LU h).2.2.1,(LU h).1⟩
theorem JX {s:St} {n t:ByteArray} (h:CP s n t=0):B0 s n t= { (Au s t.size).2 with obs:=Cr s.obs (n,Ab (t.data.toList.take (Au s t.size).1),s.day) } :=by unfold B0;rw[if_neg (by simpa using h)]
theorem Jp {s:St} (h:B3 s) {n:ByteArray} (t:ByteArray) (i:Bp n):Gw s (B0 s n t):=by
 by_cases c:CP s n t=0
 ·obtain⟨f,-⟩:=OT c;obtain⟨-,g⟩:=US h.keeps (n:=n) (t:=Ab (t.data.toList.take (Au s t.size).1)) f;refine⟨⟨dG h.keeps n t,fun o b=>?_,fun o b=>?_⟩,fun m u hm=>?_,?_⟩
  ·rw[JX c]at b;rcases GN.1 b with rfl | b
   ·exact i
   ·exact h.slb o b
  ·rw[JX c]at b;rcases GN.1 b with rfl | b
   ·exact⟨h.keeps.day0,h.keeps.day1⟩
   ·exact h.aged o b
  ·have d:m≠n:=by
    rintro rfl;unfold AK AV at hm
    cases e:B1 s.obs m with
    | none=>rw [e]at hm;cases hm
    | some o=>exact f o (FG e).1 (FG e).2
   unfold AK;rw[JX c];exact(g m d).trans hm
  ·rw[JX c];exact(Im s t.size).2.1
 ·have e:B0 s n t=s:=by unfold B0;rw[if_pos c]
  rw[e];exact Gw.refl h
theorem JY {s:St} (h:B3 s) {n t:ByteArray} (b:BG s n t=0):AK (B0 s n t) n t/\(∀o∈s.obs,o.1≠n)/\CF n.data.toList=Qa:=by
 have c:CP s n t=0:=by
  unfold BG at b;split at b
  ·rename_i f;exact absurd b f
  ·rename_i f;simpa using f
 obtain⟨g,d,i⟩:=OT c;refine⟨?_,g,i⟩;have j:(Au s t.size).2.off=Qe:=by
  unfold BG at b;rw[if_neg (by simpa using c)]at b
  cases e:(Au s t.size).2.off with
  | false=>rfl
  | true=>rw [e]at b;simp at b
 have k:=(Sk d).1 j;unfold AK;rw[JX c,k];have l:Ab (t.data.toList.take t.size)=t:=by
  rw[Qq (by rw[AA];exact Qs _),Dy]
 rw[l];exact(US h.keeps (n:=n) (t:=t) g).1
theorem UW {s:St} {b t:ByteArray} (h:C7 s b t=0):(B5 s b t).obs=s.obs/\(B5 s b t).head=t:=by
 have d:Ea s b t=0:=by
  unfold C7 at h;split at h
  ·rename_i c;exact absurd h c
  ·rename_i c;simpa using c
 unfold C7 at h;rw[if_neg (by simpa using d)]at h;unfold B5;rw[if_neg (by simpa using d)];by_cases f:(Au s t.size).1<t.size
 ·rw[if_pos f]at h;cases h
 ·rw[if_neg f];exact⟨(Im s t.size).1,rfl⟩
theorem UX {s:St} {b t:ByteArray} (h:C7 s b t≠0):(B5 s b t).obs=s.obs/\(B5 s b t).head=s.head:=by
 unfold B5;by_cases c:Ea s b t=0
 ·rw[if_neg (by simpa using c)];unfold C7 at h;rw[if_neg (by simpa using c)]at h;by_cases d:(Au s t.size).1<t.size
  ·rw[if_pos d];exact⟨(Im s t.size).1,(Im s t.size).2.1⟩
  ·rw[if_neg d]at h;exact absurd rfl h
 ·rw[if_pos c];exact⟨rfl,rfl⟩
theorem MH {s:St} {x:Fl} (h:(Aj s.obs x).1=0):AK s x.1 (Aj s.obs x).2:=by
 unfold Aj at h ⊢;by_cases b:(AV s.obs x.1).2=0
 ·rw[if_neg (by simpa using b)]at h ⊢;split at h
  ·rename_i c;exact absurd h c
  ·rename_i c;split at h
   ·cases h
   ·rename_i d;rw[if_neg c,if_neg d];exact Prod.ext rfl b
 ·rw[if_pos b]at h;exact absurd h b
theorem OU {s b:St} {x:Fl} (h:AV b.obs x.1=AV s.obs x.1):Aj b.obs x=Aj s.obs x:=by unfold Aj;rw[h]
theorem Jq {s c:St} (d:∀n t,AK s n t->AK c n t) {x:Fl} (h:(Aj s.obs x).1=0):Aj c.obs x=Aj s.obs x:=by
 have b:=MH h;exact OU ((d _ _ b).trans b.symm)
structure D6 (s:St) (id:Int) (x:Sn):Prop where
 has:AK s (Cd id) (Ab (BC x))
 fine:(Am x).1=0
 id:x.1=id
 files:∀f∈x.2.2.2.2.2.2,(Aj s.obs f).1=0
theorem D6.up {s b:St} {c:Int} {x:Sn} (h:D6 s c x) (d:∀n t,AK s n t->AK b n t):D6 b c x:=⟨d _ _ h.has,h.fine,h.id,fun f hf=>by rw[Jq d (h.files f hf)];exact h.files f hf⟩
structure Ax (k:Lk):Prop where
 good:B3 k.st
 ids:(AD k.ids).1=0
 head:∃m,k.st.head=AG m/\CF (AG m).data.toList=Qa/\AK k.st (AG m) (Ab (B6 k.ids))
 snaps:∀id∈k.ids,∃x,D6 k.st id x
 now:D6 k.st k.now.1 k.now
 last:k.ids.getLast? =U k.now.1
theorem Ax.up {k:Lk} (h:Ax k) {s:St} (b:Gw k.st s):Ax { k with st:=s } :=by
 obtain⟨m,c,d,f⟩:=h.head;exact⟨b.good,h.ids,⟨m,b.head.trans c,d,b.old _ _ f⟩,fun id hi=>(h.snaps id hi).imp fun x hx=>hx.up b.old,h.now.up b.old,h.last⟩
theorem Jr (a:ByteArray) (b:ByteArray) (h:Bp a):Bp (a++b):=by
 unfold Bp at *;rw[show (a++b).data.toList=a.data.toList++b.data.toList by simp];exact Qu.2 (Or.inl h)
theorem pZ (n:Int):Bp (Cd n):=Jr _ _ (by unfold Bp;decide)
theorem qA (n:Int):Bp (AG n):=Jr _ _ (by unfold Bp;decide)
theorem Id (s:St):1<=Ag s/\Ag s<=1000000000000000000:=by
 have:=O3 s.obs;unfold Ag;omega
def OV (l:List UInt8) (j:Nat):Prop:=j<=l.length/\(∀i (h:i<l.length),j<=i->l[i]≠47)/\∀k,j=k+1->l[k]? =U 47
theorem qB (s:ByteArray) (w:S) (r:s.size<=Qm) :
  Qh prog 304 #[Qb s,.int .u8 47] w fun e w'=> ∃j:Nat,OV s.data.toList j/\e=Qg (Z I ((j:Int)-1))/\w'=w:=by
 unfold Qm at r;obtain⟨L,q⟩:∃L,s.size=L:=⟨_,rfl⟩
 go_enter func304,ntmps304
 go_wp2
 go_loopw [5] (fun k wr=> ∃j:Nat,j<=s.size/\k=Z I ((j:Int)-1)/\(∀i (h:i<s.data.toList.length),j<=i->s.data.toList[i]≠47)/\wr=w) (fun k _=>(intOf k+1).toNat)
 case atStart=>exact ⟨s.size,Qs _,by rw[q],fun i h h'=>by rw[AA]at h;omega,rfl⟩
 case round =>
 obtain⟨j,u,n,o,p⟩:=hrel;subst p;have b:O _:=o
 cases j with
 | zero =>
  have c:u5=Z I (-1):=by rw[n];rfl
  subst c;go_wp2;go_ret;exact⟨0,⟨Q7 _,b.out,fun k e=>by cases e⟩,rfl,rfl⟩
 | succ i =>
  have c:u5=Z I (i:Int):=by rw[n];congr 1;omega
  subst c;have g:i<s.size:=by omega
  have d:=Nl s i g;by_cases f:s[i].toNat=47
  case neg =>
   have t:¬(s[i].toNat:Int)=47:=by omega
   have l:O (∀k (h:k<s.data.toList.length),i<=k->s.data.toList[k]≠47):=fun k h hik=>by
    by_cases e:k=i
    ·subst e;rw[Qr h]at d;rw[Option.some.inj d];exact fun e'=>f (by rw[e'];rfl)
    ·exact b.out k h (by omega)
   go_wp2;go_roundw
   case rel=>exact ⟨i,by omega,by first | go_num | (congr 1;omega),l.out,by trivial⟩
   case measure=>first | (simp[intOf];done) | (simp[intOf];omega)
  case pos =>
  have m:s.data.toList[i]? =U 47:=by rw[d];exact congrArg U (UInt8.toNat_inj.1 f)
  go_wp2;go_ret;exact⟨i+1,⟨by rw[AA];omega,b.out,fun k e=>by cases e;exact m⟩,by rw[show ((i+1:Nat):Int)-1=(i:Int) by omega];rfl,rfl⟩
theorem qC (s:ByteArray) (w:S) (g:s.size<=Qm) :
  Qh prog 217 #[Qb s,Qb ⟨#[47]⟩] w fun e w'=> ∃j:Nat,OV s.data.toList j/\e=Qg (Z I ((j:Int)-1))/\w'=w:=by
 have b:=qB s w g
 go_enter func217,ntmps217
 go_wp2_with fail
 refine b.mono ?_;rintro e i ⟨j,d,rfl,f⟩;rw[f];have c:O (OV s.data.toList j):=d;go_wp2;go_ret;exact⟨j,c.out,rfl,rfl⟩
def Gb (n:ByteArray):Int:=(KA n).getD 0
theorem qD (s:ByteArray) (w:S) (h:DJ w) (y:s.size<=1000) (n:Bp s) :
  Qh prog 135 #[Qb s] w fun e w'=>e=Qg (Z I (Gb s))/\BL w w':=by
 have d:=qC s w (by unfold Qm;omega);have o:O (DJ w):=h
 go_enter func135,ntmps135
 go_wp2_with fail
 refine d.mono ?_;rintro e u ⟨j,r,rfl,t⟩;rw[t];obtain⟨k,c,l⟩:=r
 cases j with
 | zero =>
  exfalso;obtain⟨i,q,e⟩:=List.mem_iff_getElem.1 n;exact c i q (Q7 _) e
 | succ i =>
  rw[AA]at k;have b:=Lx (s.extract (i+1) s.size) w o.out (by unfold Qm;rw[ByteArray.size_extract];omega);have f:(s.extract (i+1) s.size).data.toList=Iv s.data.toList:=by rw[extract_to_end];exact(lZ (j:=i+1) (by rw[AA];omega) c l).symm
  rw[f]at b;have g:O ((Dd (Iv s.data.toList)).1=Z I (Gb s)):=by
   show _=_;unfold Dd Gb KA;cases As (Iv s.data.toList)<;>rfl
  rw[g.out]at b;have p:(((i+1:Nat):Int)-1)=(i:Int):=by omega
  rw[p]
  go_wp2_with fail
  refine b.mono ?_;rintro e v ⟨rfl,m⟩;go_wp2;go_ret;exact⟨rfl,m⟩
theorem OX {n:Int} (b:0<=n) (o:Ob):EP n o=max n (Gb o.1):=by
 unfold EP Gb
 cases h:KA o.1 with
 | none=>simp only[Option.getD_none];omega
 | some x=>simp only[Option.getD_some];split<;>omega
section
variable {a : Nat → Addr} {B : Nat} {EM : S → Prop} {SAt : S → Qf → (Nat → Prop) → St → Prop}
theorem MI (K:AJ a B EM SAt) (HS:∀W,EM W->DJ W) (W:S) (v:Qf) (FP:Nat->Prop) (s:St) (D:EM W) (z:SAt W v FP s) (ks:AR s) (f:∀o∈s.obs,o.1.size<=1000) (g:∀o∈s.obs,Bp o.1) :
  Qh prog 70 #[v] W fun e w'=>e=Qg (Z I (Ag s))/\BL W w':=by
 obtain⟨pt,rfl⟩:=K.ptr _ _ _ _ z;have E:=K.names W _ FP s D z ks;have HB:O _:=K.size _ D;have HE:O _:=fun X (hb:BL W X)=>HS X (K.below _ _ D (hb.mono HB.out));have HZ:O (∀o∈s.obs,o.1.size<=1000/\Bp o.1):=fun o ho=>⟨f o ho,g o ho⟩;have F:O _:=ks.many;unfold Ag;generalize hT:EQ s.obs=l;have M:O _:=hT;have N:O (0<=l/\l<1000000000000000000):=by
  rw[<-hT];exact O3 s.obs
 go_enter func70,ntmps70
 go_wp2_with fail
 refine E.mono ?_;rintro e w1 ⟨vn,rfl,hx,ab⟩;have C:O _:=fun X (hb:BL w1 X)=>hx.below hb;obtain⟨q,af,rfl⟩:=hx.form;rw[Qi]at C;rw[Qi];obtain⟨L,hL⟩:∃L,s.obs.length=L:=⟨_,rfl⟩;have P:O _:=hL;rw[hL]at C F ⊢;have ad:=F.out;have p:O _:=ab;go_wp2
 go_loopw [3,5,9] (fun n _ i wr=> ∃m:Nat,m<=L/\i=Z I m/\n=Z I (EQ (s.obs.take m))/\BL w1 wr) (fun _ _ i _=>L-(intOf i).toNat)
 case atStart=>exact ⟨0,by omega,rfl,rfl,Below.refl _ _⟩
 case round =>
 obtain⟨m,hm,rfl,rfl,y⟩:=hrel;have j:O _:=y;have r:O _:=p.out.trans (y.mono p.out.size);by_cases Q:m<L
 case neg =>
  obtain rfl:m=L:=by omega
  have R:EQ (s.obs.take m)=l:=by rw[Qq (by rw[P.out];exact Qs _)];exact M.out
  rw[R];have ae:IntKind.i64.wrap (l+1)=l+1:=IntWalk.i64_in _ (by have:=N.out;omega);go_wp2;go_ret;exact⟨rfl,r.out⟩
 case pos =>
 have d:m<s.obs.length:=by rw[P.out];exact Q
 have T:=C.out wr j.out;rcases T with⟨_,_,_,e⟩|⟨b,o,c,hv,hc⟩
 ·rw[List.map_eq_nil_iff]at e;rw[e]at d;simp at d
 injection hv with hq hl1 hl2;subst hq;clear hl1 hl2;have Y:=hc m (by simpa using d);rw[List.getElem_map]at Y;obtain⟨f,g⟩:=HZ.out s.obs[m] (Qz _);have t:=O3 (s.obs.take m);have k:O (EQ (s.obs.take (m+1))=max (EQ (s.obs.take m)) (Gb s.obs[m].1)):=by
  show _=_;rw[lY d,OX t.1]
 generalize s.obs[m].1=x at Y f g k;have aa:=qD x wr (HE.out _ r.out) f g;clear hc d g f t
 go_wp2_with fail
 refine aa.mono ?_;rintro e w2 ⟨rfl,ac⟩;have u:O _:=j.out.trans (ac.mono j.out.size);go_wp2;go_roundw
 case rel=>first | exact⟨m+1,by omega,by go_num,by rw[k.out],u.out⟩ | ((repeat apply Exists.intro);exact⟨⟨m+1,by omega,by go_num,by rw[k.out],u.out⟩,rfl⟩)
 case measure=>simp [intOf];omega
theorem MJ (f:ByteArray) (n:Int) (w:S) (h:DJ w) (m:f.size<=1000) (b: -9223372036854775808<=n/\n<=9223372036854775807) :
  Qh prog 96 #[Qb f,Z I n] w fun e w'=>e=Qg (Qb (f++Ab (itoa n)))/\BL w w':=by
 have c:=Ij n w h.tab b.1 b.2;have l:(Ab (itoa n)).size<=21:=by rw[E9];exact itoa_length_le n b.1 b.2
 go_enter func96,ntmps96
 go_wp2_with fail
 refine c.mono ?_;rintro e i ⟨rfl,j,k,d⟩;have g:BL w i:=by rw[d];exact GG j k
 clear c d;go_wp2;go_ret;exact⟨rfl,g⟩
end
end
end Go.Proofs.YtcllhobffhkafaaGreatDoor
