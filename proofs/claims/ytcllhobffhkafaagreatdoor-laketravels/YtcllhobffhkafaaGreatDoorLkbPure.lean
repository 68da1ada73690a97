/- By an AI agent. -/
import Derived.Test.YtcllhobffhkafaaGreatDoorLkaApp
set_option maxRecDepth 100000
set_option maxHeartbeats 16000000
open Go.Proofs.Tryz
open Bool renaming false->Qk,true->Qn,and_eq_true->Qw,not_eq_true->Q9,not_eq_true'->QF,or_eq_false_iff->QN,eq_iff_iff->QP
open Go renaming Value->A,Calls->Qd,World->Qf,cell_of_row->Qp,heap_alloc_new->Qr,Addr->Qs,maxLen->Q4,bodyPost_ret->QC,results->QD,Ending->QM
open Go.Ending renaming returned->V
open Go.IntKind renaming i64->U
open Go.Obj renaming cells->Qg
open Go.Oper renaming semAt_some->QE
open Go.Proofs.Tryz renaming prog->Qe,func10->Qy,ntmps10->Qz,results72->QH
open Go.RowKit renaming Hid->H
open Go.RowKit.Below renaming drew->Qm,refl->Q5
open Go.Value renaming int->O,pointer->J,slice->Qa,string->Qb,tuple->Qc,nilIface->Qi,iface->Qq
open Int renaming le_refl->Q8
open List renaming mem_singleton->Qo,flatMap_append->Qt,mem_map->Qu,mem_flatMap->Qv,mem_append->Qx,flatMap_cons->Q0,length_append->Q1,length_map->Q2,mem_cons_self->Q3,flatMap_singleton->Q6,mem_cons_of_mem->Q7,flatMap_map->QA,filter_congr->QG,length_cons->QI,take_succ_eq_append_getElem->QJ,getElem_mem->QK,any_eq_false->QO,append_nil->QQ,filter_eq_self->QR,contains_iff_mem->QS,length->QT,length_nil->QU,mem_of_mem_take->QV,exists_mem_of_ne_nil->QW,mem_cons->QX,map_singleton->QY
open Nat renaming le_trans->Ql,lt_of_lt_of_le->QB,le_refl->QL
open Option renaming none->I,some->S
open Or renaming inl->Qh,inr->Qj
namespace Go.Proofs.YtcllhobffhkafaaGreatDoor
open Go.Extern Go.Extern.Stop Go.Lib Go.RowKit Go.Shelf Go.Sort Go.Stop
section
theorem za9 (v:A) (d:List Fl) (least:Int) (w:Qf) (a:Nat->Qs) (h:DC w a) (l:Ai w v d) (B:d.length<=100) (m:Ej d) (g:(BK d).1≠0\/least<0\/41<least) :
  Qd Qe 72 #[v,O U least] w fun e w'=> ∃t u,e=V (Qc #[Qa I 0 0,Qq t u])/\BL w w':=by
 have i:=Li v d w a h l (by omega) m;have j:H _:=fun W (c:BL w W)=>h.file.env.below c;obtain⟨q,s,rfl⟩:=l.form
 go_enter func72,ntmps72
 go_wp2_with fail
 refine i.mono ?_;rintro e r ⟨z,rfl,k,b⟩;by_cases f:(BK d).1=0
 case neg =>
  obtain⟨o,p,rfl⟩:=k.bad f;go_wp2;refine QC (v:=Qc #[Qa I 0 0,Qq o p]) (by simp[QD,QH,go_sem]) rfl ?_;exact⟨_,_,rfl,b⟩
 case pos =>
 obtain rfl:=k.ok f;have c:least<0\/41<least:=by
  rcases g with h | h
  ·exact absurd f h
  ·exact h
 have y:=(j.out r b).bound;rcases c with c | c
 ·have n:=c
  go_upto_region 5 with fail
  go_region
  all_goals go_wp2
  all_goals refine QC (v:=Qc #[Qa I 0 0,Qq 410 (J (S (a 1)))]) (by simp[QD,QH,go_sem]) rfl ?_
  all_goals exact⟨_,_,rfl,b.drew⟩
 ·have n:¬least<0:=by omega
  go_upto_region 5 with fail
  go_region
  all_goals go_wp2
  all_goals refine QC (v:=Qc #[Qa I 0 0,Qq 410 (J (S (a 1)))]) (by simp[QD,QH,go_sem]) rfl ?_
  all_goals exact⟨_,_,rfl,b.drew⟩
attribute [local go_sem] QE
def IU (k:Lk) (k':Lk) (_:Int):Prop:=k'=k\/∃(least:Int) (ws:List Gz),JO k.now.2.2.2.2.2.2 least ws/\(∀z∈ws,Cq k.st.obs k.now (z.2.map (·.1))= []\/DM (Cq k.st.obs k.now (z.2.map (·.1))))/\Fm k k' (CM k.st.obs k.now ws) (CZ k.now.2.2.2.2.2.2 ws) k.now.2.2.2.2.1
theorem Rz {nm:ByteArray} {xs:List Rw} (b:nm.size<=1000) (h:DM xs):Ea (CX nm xs).1/\Bw (CX nm xs).1/\(CX nm xs).1.size<=100/\(CX nm xs).2.1.size<=1000/\(CX nm xs).2.2.size<=1400 :=
 ⟨VA,show (47:UInt8)∈(⟨#[100,97,116,97,47]⟩:ByteArray).data.toList by decide,show (⟨#[100,97,116,97,47]⟩:ByteArray).size<=100 by decide,b,aE h⟩
theorem aG {obs:List Ob} {x:Sn} {ws:List Gz} (h:∀z∈ws,(Cq obs x (z.2.map (·.1))= []\/DM (Cq obs x (z.2.map (·.1))))/\z.1.1.size<=1000):(CM obs x ws).length<=ws.length/\∀d∈CM obs x ws,Ea d.1/\Bw d.1/\d.1.size<=100/\d.2.1.size<=1000/\d.2.2.size<=1400:=by
 refine⟨?_,fun d b=>?_⟩
 ·clear h;unfold CM
  induction ws with
  | nil=>simp
  | cons z r ih =>
   rw[Q0,Q1,QI];have:(G1 obs x z.1.1 (z.2.map (·.1))).length<=1:=by unfold G1;split<;>simp
   omega
 ·obtain⟨z,c,b⟩:=Qv.1 b;unfold G1 at b;split at b
  ·cases b
  ·rename_i f;rw[Qo]at b;subst b;exact Rz (h z c).2 ((h z c).1.resolve_left f)
theorem zb0 {obs:List Ob} {x:Sn} {ws:List Gz} {n:Nat} (h:n<ws.length):CM obs x (ws.take (n+1))=CM obs x (ws.take n)++G1 obs x ws[n].1.1 (ws[n].2.map (·.1)):=by
 unfold CM;rw[QJ h,Qt];simp
theorem zb1 {b:List Fl} {ws:List Gz} {n:Nat} (h:n<ws.length):CZ b (ws.take (n+1))=CZ b (ws.take n)++ws[n].2.map (·.1):=by
 unfold CZ;rw[QJ h,Qt];simp
theorem aH {least:Int} {f:Fl} (h:Ep least f=Qn):AL f.1=Qk:=by
 unfold Ep at h;simp only[Qw,QF]at h;exact h.1
theorem aI {b:List Fl} {least:Int} {ws:List Gz} (K:JO b least ws) (n:Nat):(CZ b (ws.take n)).length<=2*b.length:=by
 unfold CZ Em;rw[Q1,Q2,Q2];have c:=List.length_filter_le (EG b) b;have d:((ws.take n).flatMap (·.2)).length<=(ws.flatMap (·.2)).length:=by
  conv=>rhs;rw[<-List.take_append_drop n ws,Qt,Q1]
  omega
 have f:=K.len;omega
theorem zb2 {c:List Fl} {least:Int} {ws:List Gz} (K:JO c least ws):ws.length<=c.length/\∀z∈ws,z.2.length<=c.length:=by
 constructor
 ·refine Ql ?_ K.len;have h:∀z∈ws,1<=z.2.length:=fun z b=>by have:=(K.grp z b).2;omega
  clear K
  induction ws with
  | nil=>exact Nat.zero_le _
  | cons z r ih =>
   have d:=h z Q3;have f:=ih (fun y hy=>h y (Q7 _ hy));rw[Q0,QI,Q1];omega
 ·intro z b;refine Ql ?_ K.len;obtain⟨g,i,rfl⟩:=List.append_of_mem b;rw[Qt,Q0,Q1,Q1];omega
theorem zb3 {W:Qf} {q:Option Qs} {n c:Nat} {d:List (List ByteArray)} (h:GP W (Qa q n c) d) (f:d≠ []):∃b,q=S ⟨b,0,I⟩/\∀j (hj:j<d.length),∃u,W.cell? ⟨b,j,I⟩=S u/\BV W u d[j]:=by
 obtain⟨g,o,i,k⟩:=h;rcases i with⟨_,e⟩|⟨b,m,e,l⟩
 ·exact absurd e f
 ·simp only[Value.slice.injEq]at e;exact⟨b,e.1,fun j hj=>⟨g[j]'(by omega),l j (by omega),k j (by omega) hj⟩⟩
section
variable {a : Nat → Qs} {B : Nat} {EM : Qf → Prop}
theorem zb4 (K:A2 a B EM An) (HL:∀X,EM X->AX X a) {W:Qf} {l:Nat} {vs:A} {E:Nat->Prop} {vi vf:A} {k:Lk} (hE:EM W) (h:Al W l vs E k.st.head vi vf k) (hi:Av k) (hB:B<=l/\∀j,E j->B<=j) (least:Int) :
  Qd Qe 34 #[J (S ⟨l,0,I⟩),O U least] W (Bh W l vs E k (IU k) False):=by
 obtain⟨pt,rfl⟩:=h.ptr K;have ag:=JG hi.now.fine;have ax:=Fg hi.now.fine;have ak:H (∀X,BL W X->EM X):=fun X hb=>K.below _ _ hE (hb.mono (K.size _ hE));have HQ:H (∀X,BL W X->Al X l (J (S pt)) E k.st.head vi vf k):=fun X hb=>h.quiet K hb;have HG:H (B7 k.st):=hi.good;have al:(BK k.now.2.2.2.2.2.2).1=0:=GW.2 ⟨ag.1,ax.2⟩;have ay:H (0<=least/\least<=41->Qd Qe 72 #[vf,O U least] W fun e w'=> ∃v' gs,e=V (Qc #[v',Qi])/\GP w' v' (Oi0 gs)/\gs.Perm (CY k.now.2.2.2.2.2.2 least k.now.2.2.2.2.2.2.length)/\BL W w'):=fun N=>yQ vf k.now.2.2.2.2.2.2 least W a (HL W hE).x.list h.fls (by omega) ag.2 al N.1 N.2;have az:H (¬(0<=least/\least<=41)->Qd Qe 72 #[vf,O U least] W fun e w'=> ∃t u,e=V (Qc #[Qa I 0 0,Qq t u])/\BL W w'):=fun N=>za9 vf k.now.2.2.2.2.2.2 least W a (HL W hE).x.list h.fls (by omega) ag.2 (by omega);have a0:H (∀X,BL W X->Qd Qe 73 #[vf] X fun e w'=> ∃v,e=V (Qc #[v,Qi])/\BL X w'/\w'.ownsRow X.heap.size 9 1 v (Em k.now.2.2.2.2.2.2).length ((Em k.now.2.2.2.2.2.2).map Qb)):=fun X hX=>(xP vf k.now.2.2.2.2.2.2 X a (HL X (ak.out X hX)).x.list ((HQ.out X hX).fls) (by omega) ag.2).mono fun e w' ⟨v,ev,he,ht,hb,_,ho⟩=>⟨v,by rw[he,ht.ok al],hb,ho al⟩;have bs:H (∀Y X Q ds rem F nm vp,BL W Y->BL Y X->Y.heap.size<=Q->K8 X Q Y.heap.size ds rem->ds.length<=900->rem.length<=1000->(∀f∈F,f∈k.now.2.2.2.2.2.2/\AL f.1=Qk/\f.2.1=nm)->F≠ []->F.length<=1000->BV Y vp (F.map (·.1))->Qd Qe 74 #[J (S ⟨l,0,I⟩),J (S ⟨Q,0,I⟩),vp] X (LC Y Q k.st.obs k.now nm (F.map (·.1)) ds rem)):=fun Y X Q ds rem F nm vp hY hX ao hc C h2 h3 h4 h5 h6=>zE K HL (ak.out Y hY) (HQ.out Y hY) hi hX ao hc C h2 h3 h4 h5 h6;have bt:H (∀X D vd vr ds rem,BL W X->W.heap.size<=D->Bg X D vd ds->X.ownsRow D 9 1 vr rem.length (rem.map Qb)->ds.length<=100->rem.length<=1000->(∀d∈ds,Bw d.1/\d.1.size<=100/\d.2.1.size<=1000/\d.2.2.size<=100000)->Qd Qe 60 #[J (S ⟨l,0,I⟩),.agg #[vd,vr],O U k.now.2.2.2.2.1] X (D5 a X l (J (S pt)) E vi k ds rem k.now.2.2.2.2.1)):=fun X D vd vr ds rem hb hD hd hr hl hrl hds=>PM K HL (ak.out X hb) (HQ.out X hb) hi hB hd (IC hr) (fun j hj e=>by have:=Jt hd hj;have:=(h.sizes K).2 j e;omega) (fun j hj e=>by have:=Jt hr hj;have:=(h.sizes K).2 j e;omega) hl hrl hds k.now.2.2.2.2.1;have r:H (k.now.2.2.2.2.2.2.length<=60/\Eh 0 k.now.2.2.2.2.2.2):=ax;obtain⟨qf,fc,cl⟩:=h.fls.form;subst cl;obtain⟨c0,-,-,-,-,-,-,-,c8,-,ad,-⟩:=h.blk.cells;have am:H (W.cell? ⟨l,0,I⟩=S (J (S pt))/\W.cell? ⟨l,8,I⟩=S (O U k.now.2.2.2.2.1)/\W.cell? ⟨l,10,I⟩=S (Qa qf k.now.2.2.2.2.2.2.length fc)):=⟨c0,c8,ad⟩;have bu:=GN c0;obtain⟨FN,a8⟩:∃n,k.now.2.2.2.2.2.2.length=n:=⟨_,rfl⟩;have ah:H (k.now.2.2.2.2.2.2.length=FN):=a8;have aj:H (∀X t u,BL W X->Bh W l (J (S pt)) E k (IU k) False (V (Qc #[O U 0,Qq t u])) X):=fun X t u hX=>Bh.bad (HQ.out W (Q5 _ _)) HG.out K hX (fun h=>h);rw[a8]at ay az a0 HQ am r ad;clear hE h hi hB ag ax al a8
 go_enter func34,ntmps34
 go_wp2_with fail
 refine bu.mono ?_;rintro e w1 ⟨rfl,e1⟩;rw[e1];clear bu e1;by_cases N:0<=least/\least<=41
 case neg =>
  have bv:=az.out N;clear N
  go_wp2_with fail
  refine bv.mono ?_;rintro e o ⟨t,u,rfl,aa⟩;have M:=aj.out o t u aa;have M:H _:=M;clear bv c0 c8 ad aa;go_wp2;go_ret2;exact M.out
 case pos =>
 have an:=ay.out N;clear N az ay
 go_wp2_with fail
 refine an.mono ?_;rintro e o ⟨v2,gs,rfl,aw,bo,aa⟩;rw[<-ah.out]at bo;obtain⟨ws,a9,ba⟩:=yV r.out.2 bo;have s:H (JO k.now.2.2.2.2.2.2 least ws):=a9;rw[ba]at aw;have cf:H (∀X,BL o X->GP X v2 (ws.map fun z=>z.2.map (·.1))):=fun X hb=>aw.below hb;obtain⟨q2,c2,ca⟩:=aw.form;have a1:=zb2 a9;obtain⟨R,bb⟩:∃n,ws.length=n:=⟨_,rfl⟩;have ab:H (ws.length=R/\R<=60/\∀z∈ws,z.2.length<=60):=⟨bb,by have:=ah.out;have:=r.out.1;omega,fun z hz=>by have:=a1.2 z hz;have:=ah.out;have:=r.out.1;omega⟩;rw[Q2,bb]at ca;subst ca;have bw:=a0.out o aa;have ac:H (BL W o):=aa;have ad:=Aa aa ad;clear an bo a9 ba aw a1 bb a0 c0 c8 aa
 go_wp2_with fail
 refine bw.mono ?_;rintro e w3 ⟨v3,rfl,bp,bq⟩;clear bw ad;have a2:BL w3 (w3.alloc (Qg #[Qa I 0 0,v3] 100)):=Af _ _;have ao:=Qr w3 (Qg #[Qa I 0 0,v3] 100);have bx:=AG (P:=fun _=>False) bq (Ac.of_below a2) (fun _ _ h=>h);have bz:H (BL o (w3.alloc (Qg #[Qa I 0 0,v3] 100))):=Ad bp a2;obtain⟨q3,n3,c3,cm⟩:∃q n c,v3=Qa q n c:=by
  rcases bq.2 with⟨e,-⟩|⟨g,ct,cu,e,-⟩
  ·exact⟨_,_,_,e⟩
  ·exact⟨_,_,_,e⟩
 subst cm;have a3:H (K8 (w3.alloc (Qg #[Qa I 0 0,Qa q3 n3 c3] 100)) w3.heap.size o.heap.size (CM k.st.obs k.now (ws.take 0)) (CZ k.now.2.2.2.2.2.2 (ws.take 0))):=by
  refine⟨_,_,ao,Bg.nil _ _,?_⟩;have e:CZ k.now.2.2.2.2.2.2 (ws.take 0)=Em k.now.2.2.2.2.2.2:=by simp[CZ]
  rw[e];exact bx
 obtain⟨Q,bc⟩:∃n,w3.heap.size=n:=⟨_,rfl⟩;have cg:H (o.heap.size<=Q):=by have:=bp.size;show _<=_;omega
 rw[bc]at a3;clear bp bq a2 ao bx
 go_upto_region 10 with fail
 clear bc;generalize w3.alloc (Qg #[Qa I 0 0,Qa q3 n3 c3] 100)=w4 at bz a3 ⊢
 go_wp2_with fail
 have cs:=ab.out.2.1
 go_loopw [11,12,47] (fun _ _ i wr=> ∃n:Nat,n<=R/\i=O U n/\K8 wr Q o.heap.size (CM k.st.obs k.now (ws.take n)) (CZ k.now.2.2.2.2.2.2 (ws.take n))/\(∀z∈ws.take n,Cq k.st.obs k.now (z.2.map (·.1))= []\/DM (Cq k.st.obs k.now (z.2.map (·.1))))/\BL o wr) (fun _ _ i _=>R-(intOf i).toNat)
 case atStart=>exact ⟨0,by omega,rfl,a3.out,fun z hz=>by simp at hz,bz.out⟩
 case round =>
 obtain⟨n,hn,rfl,au,T,af⟩:=hrel;by_cases b0:n<R
 case pos =>
  have ai:n<ws.length:=by rw[ab.out.1];exact b0
  have g1:(n:Int)<(R:Int):=by omega
  have g2:(0:Int)<=(n:Int):=by omega
  have ap:ws[n]∈ws:=QK _;obtain⟨cc,bd⟩:=s.out.grp _ ap;have b1:∀f∈ws[n].2,f∈k.now.2.2.2.2.2.2/\AL f.1=Qk/\f.2.1=ws[n].1.1:=fun f hf=>by
   have:=s.out.mem f (Qv.2 ⟨_,ap,hf⟩);exact⟨this.1,aH this.2,cc.part f hf⟩
  obtain⟨b6,u6,cn,hU,be⟩:∃b u,q2=S ⟨b,0,I⟩/\wr.cell? ⟨b,n,I⟩=S u/\BV o u (ws[n].2.map (·.1)):=by
   obtain⟨b,hq,hc⟩:=zb3 (cf.out o (Q5 _ _)) (fun e=>by have e2:=congrArg QT e;rw[Q2]at e2;simp only[QU]at e2;omega);obtain⟨u,C,h2⟩:=hc n (by rw[Q2];exact ai);rw[List.getElem_map]at h2;exact⟨b,u,hq,Aa af C,h2⟩
  subst cn;have ch:=(aG (obs:=k.st.obs) (x:=k.now) (ws:=ws.take n) (fun z hz=>⟨T z hz,by
   obtain⟨hg,C⟩:=s.out.grp z (QV hz);obtain⟨f,hf⟩:=QW z.2 (fun e=>by rw[e]at C;simp at C);rw[<-hg.part f hf];have:=(K5 (r.out.2.1 f (s.out.mem f (Qv.2 ⟨z,QV hz,hf⟩)).1).1).2;omega⟩)).1
  have ci:(ws.take n).length<=R:=by rw[List.length_take];omega
  have an:=aI s.out n;have a4:=bs.out o wr Q _ _ ws[n].2 ws[n].1.1 u6 ac.out af cg.out au (by have:=ab.out.2.1;omega) (by have:=ah.out;have:=r.out.1;omega) b1 (fun e=>by rw[e]at bd;simp at bd) (by have:=ab.out.2.2 _ ap;omega) be;have cj:H (BL o wr/\∀z∈ws.take n,Cq k.st.obs k.now (z.2.map (·.1))= []\/DM (Cq k.st.obs k.now (z.2.map (·.1)))):=⟨af,T⟩;have aq:H (CM k.st.obs k.now (ws.take (n+1))=CM k.st.obs k.now (ws.take n)++G1 k.st.obs k.now ws[n].1.1 (ws[n].2.map (·.1))/\CZ k.now.2.2.2.2.2.2 (ws.take (n+1))=CZ k.now.2.2.2.2.2.2 (ws.take n)++ws[n].2.map (·.1)/\ws.take (n+1)=ws.take n++ [ws[n]]):=⟨zb0 ai,zb1 ai,QJ ai⟩;obtain⟨uq,uc,bf⟩:=be.form;clear cc bd ap b1 be;generalize ws[n]=z at a4 aq bf;generalize (z.2.map (·.1)).length=UL at bf;subst bf;clear ch ci an au T af ai
  go_wp2_with fail
  refine a4.mono ?_;rintro e w6 cq;clear a4 hU;obtain⟨av,⟨t,u,rfl⟩|⟨rfl,bg,bh⟩⟩:=cq
  ·have M:H (Bh W l (J (S pt)) E k (IU k) False (V (Qc #[O U 0,Qq t u])) w6):=aj.out w6 t u (ac.out.trans (av.mono ac.out.size));clear av;go_wp2;go_ret2;exact M.out
  ·have M:H (∃m:Nat,m<=R/\(n:Int)+1=m/\R-m<R-n/\K8 w6 Q o.heap.size (CM k.st.obs k.now (ws.take m)) (CZ k.now.2.2.2.2.2.2 (ws.take m))/\(∀z∈ws.take m,Cq k.st.obs k.now (z.2.map (·.1))= []\/DM (Cq k.st.obs k.now (z.2.map (·.1))))/\BL o w6):=by
    refine⟨n+1,b0,rfl,by omega,?_,fun y hy=>?_,av⟩
    ·rw[aq.out.1,aq.out.2.1];exact bg
    ·rw[aq.out.2.2]at hy;rcases Qx.1 hy with hy | hy
     ·exact cj.out.2 y hy
     ·rw[Qo.1 hy];exact bh
   clear av bg bh;go_wp2;go_roundw
   case rel =>
    refine⟨n+1,by omega,by go_num,?_⟩;obtain⟨m,-,C,-,h2,h3,h4⟩:=M.out;obtain rfl:m=n+1:=by omega
    exact⟨h2,h3,h4⟩
   case measure=>simp [intOf];omega
 case neg =>
 obtain rfl:n=R:=by omega
 have g1:¬(n:Int)<(n:Int):=by omega
 have a5:H (ws.take n=ws):=by rw[<-ab.out.1];exact List.take_length
 rw[a5.out]at au T;have ae:=aG (obs:=k.st.obs) (x:=k.now) (ws:=ws) (fun z hz=>⟨T z hz,by
   obtain⟨hg,C⟩:=s.out.grp z hz;obtain⟨f,hf⟩:=QW z.2 (fun e=>by rw[e]at C;simp at C);rw[<-hg.part f hf];have:=(K5 (r.out.2.1 f (s.out.mem f (Qv.2 ⟨z,hz,hf⟩)).1).1).2;omega⟩)
 have ae:H ((CM k.st.obs k.now ws).length<=60/\∀d∈CM k.st.obs k.now ws,Bw d.1/\d.1.size<=100/\d.2.1.size<=1000/\d.2.2.size<=100000):=⟨by have:=ab.out;have:=ae.1;omega,fun d hd=>by obtain⟨-,C,h2,h3,h4⟩:=ae.2 d hd;exact⟨C,h2,h3,by omega⟩⟩;have b2:H ((CZ k.now.2.2.2.2.2.2 ws).length<=120):=by
  have:=aI s.out n;rw[a5.out]at this;have:=ah.out;have:=r.out.1;show _<=120;omega
 have b3:H (∀z∈ws,Cq k.st.obs k.now (z.2.map (·.1))= []\/DM (Cq k.st.obs k.now (z.2.map (·.1)))):=T;have HW:H (BL W wr):=ac.out.trans (af.mono ac.out.size);have y0:=Aa HW.out am.out.1;have y8:=Aa HW.out am.out.2.1;have b4:=Aa HW.out am.out.2.2;obtain⟨vd,vr,bi,bj,bk⟩:=au;have k0:wr.cell? ⟨Q,0,I⟩=S vd:=by rw[Qp _ _ _ _ _ _ bi];rfl
 have k1:wr.cell? ⟨Q,1,I⟩=S vr:=by rw[Qp _ _ _ _ _ _ bi];rfl
 obtain⟨qr,cr,co⟩:=(IC bk).form;obtain⟨qd,cd,cp,-⟩:=bj.at;subst co cp;have ar:BL wr wr.drew:=(Q5 _ _).drew;have a6:=bj.below ar;have p:=bt.out wr.drew o.heap.size _ _ _ _ (HW.out.trans (ar.mono HW.out.size)) ac.out.size a6 (AG (P:=fun _=>False) bk (Ac.of_below ar) (fun _ _ h=>h)) (by have:=ae.out.1;omega) (by have:=b2.out;show _<=1000;omega) ae.out.2;obtain⟨RL,ce⟩:∃m,(CZ k.now.2.2.2.2.2.2 ws).length=m:=⟨_,rfl⟩;rw[ce]at k1 p;generalize (CM k.st.obs k.now ws).length=DL at k0 p;clear a6 bj bk bi T af ar bs ce;by_cases ck:RL=0
 case pos =>
  subst ck;have M:H (Bh W l (J (S pt)) E k (IU k) False (V (Qc #[O U 0,Qi])) wr):=Bh.same (HQ.out W (Q5 _ _)) K HW.out (Qh rfl);clear p k0 y0 y8 b4;go_wp2;go_ret2;exact M.out
 case neg =>
 have g3:¬(RL:Int)=0:=by omega
 have a7:H (BL W wr.drew):=HW.out.drew;have b5:H (∀e w',D5 a wr.drew l (J (S pt)) E vi k (CM k.st.obs k.now ws) (CZ k.now.2.2.2.2.2.2 ws) k.now.2.2.2.2.1 e w'->∃ev,e=V ev/\((∃t u,ev=Qq t u/\Bh W l (J (S pt)) E k (IU k) False (V (Qc #[O U 0,ev])) w')\/(ev=Qi/\∃q c L,w'.cell? ⟨l,10,I⟩=S (Qa q L c)/\∀m,Bh W l (J (S pt)) E k (IU k) False (V (Qc #[O U m,Qi])) w'))):=fun e w' hd=>by
  obtain⟨n,bl,bm,bn,k',rfl,C,h2,⟨-,ho⟩,h3,h4⟩:=hd;have b7:FO W l k bm bn k':=ho.low a7.out (HQ.out W (Q5 _ _)).blk.lt;have b8:Ac (fun j=>E j\/j=l) W w':=(Ac.of_below a7.out).trans C (fun _ h _=>h);have b9:∀j,bl j->E j\/W.heap.size<=j:=fun j hj=>(h2 j hj).imp_right (Ql a7.out.size);rcases h4 with⟨hn,-,s',hg,rfl⟩|⟨rfl,br⟩
  ·obtain⟨i,rfl⟩:∃i,n=i+1:=⟨n-1,by omega⟩;exact⟨_,rfl,Qh ⟨_,_,rfl,bl,bm,bn,_,0,_,rfl,b8,b9,⟨h3,b7⟩,Qh ⟨⟨_,_,rfl⟩,fun h=>h,s',hg,rfl⟩⟩⟩
  ·obtain⟨q,c,hq⟩:=h3.fls.form;exact⟨_,rfl,Qj ⟨rfl,q,c,k'.now.2.2.2.2.2.2.length,by have:=h3.blk.cells.2.2.2.2.2.2.2.2.2.2.1;rw[this,hq],fun m=>⟨bl,bm,bn,k',m,_,rfl,b8,b9,⟨h3,b7⟩,Qj ⟨rfl,Qj ⟨least,ws,s.out,b3.out,br⟩⟩⟩⟩⟩
 have p:=p.mono b5.out;clear b5 bt a5 ae b2 b3 HQ ak HG r aj
 go_upto_region 20 with fail
 generalize cw:Bh W l (J (S pt)) E k (IU k) False=OQ at *
 go_cut [14] from 61 to 75 (fun c14 wx=>(∃t u,c14=Qq t u/\OQ (V (Qc #[O U 0,c14])) wx)\/(c14=Qi/\∃q c L,wx.cell? ⟨l,10,I⟩=S (Qa q L c)/\∀m,OQ (V (Qc #[O U m,Qi])) wx))
 case first =>
  first
   | (go_region_with (go_at_call 60;(with_reducible refine p.mono ?_);rintro e wZ ⟨ev,rfl,hZ⟩))
   | fail
  all_goals
   go_wp2;go_meet
   case rel=>exact hZ
 case rest =>
 clear p k0 k1 y0 y8 b4;rcases hcut with⟨t,u,rfl,hq⟩|⟨rfl,q,c,L,cv,hq⟩
 ·have M:H _:=hq;clear hq;go_wp2;exact M.out
 ·have M:H (∀m,OQ (V (Qc #[O U m,Qi])) wc):=hq;clear hq;go_wp2;exact M.out _
end
end
section
structure CD (k k':Lk):Prop where
 lki:Av k'
 now:k'.now=k.now
 spec:k'.spec=k.spec
 ids:∀id∈k'.ids,id∈k.ids
 snaps:∀id∈k'.ids,∀x,Cy k.st id x->Cy k'.st id x/\∀f∈x.2.2.2.2.2.2,Aj k'.st.obs f=Aj k.st.obs f
 head:∀m,k.st.head=AJ m->∃n,k'.st.head=AJ n/\m<=n
theorem N3 {s b:St} {c:Int} {x:Sn} (h:Cy s c x) (d:∀n t,AN s n t->AN b n t):Cy b c x/\∀f∈x.2.2.2.2.2.2,Aj b.obs f=Aj s.obs f:=⟨h.up d,fun f hf=>IJ d (h.files f hf)⟩
theorem CD.same {k:Lk} (h:Av k):CD k k:=⟨h,rfl,rfl,fun _ h=>h,fun _ _ _ h=>⟨h,fun _ _=>rfl⟩,fun m h=>⟨m,h,Q8 m⟩⟩
theorem CD.gw {k:Lk} (h:Av k) {s:St} (b:Gw k.st s):CD k { k with st:=s } :=⟨h.up b,rfl,rfl,fun _ h=>h,fun _ _ _ h=>N3 h b.old,fun m h=>⟨m,b.head.trans h,Q8 m⟩⟩
theorem zb5 {s:St} (h:B7 s) (z:Int):Gw s (Ia s z):=by
 refine MW h (gH h.keeps z) ?_ ?_
 all_goals unfold Ia;split<;>rfl
theorem zb6 {s:St} (h:B7 s) (z:Int):Gw s (E3 s z):=by
 refine MW h (gG h.keeps z) ?_ ?_
 all_goals unfold E3;split<;>rfl
theorem aJ {s:St} (h:B7 s):Gw s (Bq s):=MW h (Mm h.keeps) rfl rfl
theorem CD.few {k b:Lk} {z:Int} (h:Av k) (o:GO k b z):CD k b:=by
 rcases o with rfl | ⟨q,d,f,g,i,j,l⟩
 ·exact CD.same h
 ·refine⟨j,f,g,fun id hid=>?_,fun _ _ _ hx=>N3 hx i,fun m hm=>?_⟩
  ·rw[d]at hid;exact(Lc _ _).subset hid
  ·obtain⟨n,c,p⟩:=l m hm;exact⟨n,c,by omega⟩
theorem CD.clean {k:Lk} {i:St} (h:Av k) (n:Rd k i):CD k { k with st:=i } :=by
 obtain⟨N,b,j,g⟩:=n;refine⟨h.lw b g j,rfl,rfl,fun _ h=>h,fun id hid x hx=>?_,fun m hm=>⟨m,b.head.trans hm,Q8 m⟩⟩;obtain⟨y,l,c⟩:=g id hid;obtain rfl:=Nk hx l;refine⟨hx.lw b c,fun f hf=>?_⟩;have d:=MX (hx.files f hf);exact P2 ((b.old _ (c f.1 (Q7 _ (Qu.2 ⟨f,hf,rfl⟩))) _ d).trans d.symm)
theorem CD.open {k b:Lk} (h:Av k) (j:b.spec=k.spec) (l:VW k.st b):CD k b:=by
 obtain⟨d,f,-⟩:=l;obtain⟨g,i,c⟩:=f k rfl h;refine⟨d,i,j,fun id hid=>by rw[g]at hid;exact hid,fun id hid x hx=>?_,fun m hm=>⟨m,by rw[c];exact hm,Q8 m⟩⟩;rw[c];exact N3 hx (aJ h.good).old
abbrev Ak:=ByteArray×Int×Int×List Rw×List Int
def Cs:ByteArray:=⟨#[97,112,112,101,110,100]⟩
def C3:ByteArray:=⟨#[100,101,108,101,116,101]⟩
def FU (k k':Lk) (x:Ak) (ev:A):Prop :=
 (CD k k'/\(x.1=Cs\/x.1=C3->ev=Qi->x.2.1<=k.now.2.2.2.2.1)) \/
 (x.1=Cs/\ev=Qi/\k.now.2.2.2.2.1<x.2.1/\Iu k.spec x.2.2.2.1/\∃ds,IQ k.spec x.2.2.2.1 ds/\IL k k'/\Fm k k' ds [] x.2.1) \/
 (x.1=C3/\ev=Qi/\k.now.2.2.2.2.1<x.2.1/\(∀z∈x.2.2.2.2,Aq z=Qn)/\(A9 x.2.2.2.2).length<=40/\IL k k'/\Fm k k' (Eb x.2.2.2.2) [] x.2.1) \/
 (x.1≠Cs/\x.1≠C3/\IL k k'/\∃(least:Int) (ws:List Gz),JO k.now.2.2.2.2.2.2 least ws/\(∀z∈ws,Cq k.st.obs k.now (z.2.map (·.1))= []\/DM (Cq k.st.obs k.now (z.2.map (·.1))))/\Fm k k' (CM k.st.obs k.now ws) (CZ k.now.2.2.2.2.2.2 ws) k.now.2.2.2.2.1)
theorem FU.lki {k b:Lk} {x:Ak} {c:A} (h:FU k b x c):Av b/\b.spec=k.spec:=by
 rcases h with⟨h,-⟩|⟨-,-,-,-,d,-,h,-⟩|⟨-,-,-,-,-,h,-⟩|⟨-,-,h,-⟩
 ·exact⟨h.lki,h.spec⟩
 ·exact⟨h.lki,h.spec⟩
 ·exact⟨h.lki,h.spec⟩
 ·exact⟨h.lki,h.spec⟩
theorem zb7 {k i:Lk} {x:Ak} {m:Int} (hi:Av k) (l:x.1=Cs) (n:∀r∈x.2.2.2.1,r.1.size<=30) (h:GQ k x.2.1 x.2.2.2.1 i m):FU k i x Qi:=by
 obtain⟨o,c,⟨b,-,rfl⟩|⟨b,-,j,f,g⟩⟩:=h
 ·exact Qh ⟨CD.same hi,fun _ _=>b⟩
 ·exact Qj (Qh ⟨l,rfl,b,c,j,f,g.all hi (fun d hd=>((Nz f c n).2 d hd).2.1),g⟩)
theorem N4 {zs:List Int} :∀d∈Eb zs,Bw d.1:=fun d hd=>by
 unfold Eb at hd;split at hd
 ·cases hd
 ·rw[Qo]at hd;subst hd;exact show (47:UInt8)∈(⟨#[103,111,110,101,47]⟩:ByteArray).data.toList by decide
theorem aK {obs:List Ob} {x:Sn} {ws:List Gz} :∀d∈CM obs x ws,Bw d.1:=fun d b=>by
 obtain⟨z,-,b⟩:=Qv.1 b;unfold G1 at b;split at b
 ·cases b
 ·rw[Qo]at b;subst b;exact show (47:UInt8)∈(⟨#[100,97,116,97,47]⟩:ByteArray).data.toList by decide
theorem zb8 {k d:Lk} {x:Ak} {m:Int} (hi:Av k) (i:x.1=C3) (h:FS k x.2.1 x.2.2.2.2 d m):FU k d x Qi:=by
 obtain⟨j,f,g,⟨b,-,rfl⟩|⟨b,-,c⟩⟩:=h
 ·exact Qh ⟨CD.same hi,fun _ _=>b⟩
 ·exact Qj (Qj (Qh ⟨i,rfl,b,g,f,c.all hi N4,c⟩))
theorem zb9 {k f:Lk} {x:Ak} {m:Int} {l:A} (hi:Av k) (c:x.1≠Cs/\x.1≠C3) (h:IU k f m):FU k f x l:=by
 rcases h with rfl | ⟨b,g,i,j,d⟩
 ·exact Qh ⟨CD.same hi,fun h _=>absurd h (by simp[c.1,c.2])⟩
 ·exact Qj (Qj (Qj ⟨c.1,c.2,d.all hi aK,b,g,i,j,d⟩))
theorem LI {k c:Lk} {x:Ak} {d:A} (h:CD k c) (b:(x.1≠Cs/\x.1≠C3)\/d≠ Qi):FU k c x d :=
 Qh ⟨h,fun h1 h2=>by
  rcases b with b | b
  ·exact absurd h1 (by simp[b.1,b.2])
  ·exact absurd h2 b⟩
theorem zc0 (q:Option Qs) (c:Nat) (zs:List Int) (w:Qf) (z:A4 w (Qa q zs.length c) zs) (B:q=I->c=0) (C:zs.length<=1000) :
  Qd Qe 28 #[Qa q zs.length c] w fun e w'=> ∃v',e=V v'/\w'.ownsRow w.heap.size 3 1 v' zs.length (zs.map Fb)/\BL w w':=by
 obtain⟨v,j,l,m,b⟩:=Tryz.numInfo;have d:H _:=Vz z B;obtain⟨L,n⟩:∃L,zs.length=L:=⟨_,rfl⟩;have f:H _:=n;rw[n]at C ⊢
 go_enter func28,ntmps28
 go_wp2_with (at_builtin;(refine O4 rfl _ _ 32 rfl w.heap.size 3 v (O U 0) 1 8 underlying32 j l m b rfl (by decide) (Qa I 0 0) 0 [] rfl (World.ownsRow_nil _ _ _ _) q L c (zs.map Fb) rfl ?qf1 ?qf2 ?qf3 ?qf4 ?qf5 ?qf6 ?_))
 any_goals first
  | (intro u y;obtain⟨x,_,rfl⟩:=Qu.1 y;rfl)
  | (rw[Q2,f.out];simp)
  | (have g:=d.out;rw[f.out]at g;exact g)
  | (unfold Q4;omega)
  | omega
  | exact QL _
 intro o p r s _;have i:=(Q5 _ _).grown s (QL _) (fun k hk=>by simp[Value.ownBlock]at hk);have t:H (p.ownsRow w.heap.size 3 1 o L (zs.map Fb)):=by
  show p.ownsRow _ _ _ _ _ _;simpa using r
 go_wp2;go_ret;exact⟨o,rfl,t.out,i⟩
attribute [local go_sem] QE
def CF (x:Ak) (vr vz:A):A:=.agg #[Qb x.1,O U x.2.1,O U x.2.2.1,vr,vz]
def Cb (W:Qf) (kb:Nat) (vs:A) (SP:Nat->Prop) (k:Lk) (x:Ak) (e:QM) (w':Qf):Prop :=
 ∃kb' SP' vi' vf' k' ev,e=V (Qc #[J (S ⟨kb',0,I⟩),ev])/\(ev=Qi\/∃t u,ev=Qq t u)/\Ac (fun j=>SP j\/j=kb) W w'/\(∀j,SP' j->SP j\/W.heap.size<=j)/\(kb'=kb\/W.heap.size<=kb')/\(Al w' kb' vs SP' k'.st.head vi' vf' k'/\FO W kb k vi' vf' k')/\FU k k' x ev
section
variable {a : Nat → Qs} {B : Nat} {EM : Qf → Prop}
theorem Bh.play {W X w':Qf} {b:Nat} {p:A} {f:Nat->Prop} {k:Lk} {Q:Lk->Int->Prop} {G:Prop} {x:Ak} {e:QM} (h:Bh X b p f k Q G e w') (hi:Av k) (g:BL W X) (q:b<W.heap.size) (B:∀k' m,Q k' m->FU k k' x Qi):∃m ev,e=V (Qc #[O U m,ev])/\Cb W b p f k x (V (Qc #[J (S ⟨b,0,I⟩),ev])) w':=by
 obtain⟨c,n,o,k',m,ev,rfl,r,s,d,v⟩:=h;have i:Ac (fun j=>f j\/j=b) W w':=(Ac.of_below g).trans r (fun _ h _=>h);have l:∀j,c j->f j\/W.heap.size<=j:=fun j hj=>(s j hj).imp_right (Ql g.size);rcases v with⟨⟨t,u,rfl⟩,-,C,y,rfl⟩|⟨rfl,z⟩
 ·exact⟨m,_,rfl,b,c,n,o,_,_,rfl,Qj ⟨_,_,rfl⟩,i,l,Qh rfl,⟨d.1,d.2.low g q⟩,LI (CD.gw hi y) (Qj (by simp))⟩
 ·exact⟨m,_,rfl,b,c,n,o,_,_,rfl,Qh rfl,i,l,Qh rfl,⟨d.1,d.2.low g q⟩,B _ _ z⟩
theorem zc1 (K:A2 a B EM An) (M:∀X,EM X->AX X a) {W:Qf} {f:Nat} {v:A} {p:Nat->Prop} {vi vf:A} {k:Lk} (D:EM W) (h:Al W f v p k.st.head vi vf k) (hi:Av k) (N:B<=f/\∀j,p j->B<=j) (P:k.spec.size<=30) (n m:Int) {y s:A} {b:List Rw} {zs:List Int} (E:Ap W y b) (Q:b.length<=60) (t:∀r∈b,r.1.size<=30) :
  Qd Qe 10 #[J (S ⟨f,0,I⟩),Qb k.spec,CF (Cs,n,m,b,zs) y s] W (Cb W f v p k (Cs,n,m,b,zs)):=by
 have g:H (∀X,BL W X->Qd Qe 26 #[y] X fun e w'=> ∃v',e=V v'/\Ap w' v' b/\BL X w'):=fun X hX=>(dN y b X (E.below hX) (by omega)).mono fun e w' ⟨v',h1,h2,h3⟩=>⟨v',h1,(I0 h2).1,h3⟩;have i:H (∀X v',BL W X->Ap X v' b->Qd Qe 25 #[J (S ⟨f,0,I⟩),O U n,v'] X fun e w'=> ∃z C,e=V (Qc #[O U z,C])/\Cb W f v p k (Cs,n,m,b,zs) (V (Qc #[J (S ⟨f,0,I⟩),C])) w'):=fun X v' hX hv=>(aF K M (K.below _ _ D (hX.mono (K.size _ D))) (h.quiet K hX) hi N (by omega) n hv (by omega) t).mono fun e w' ho=>ho.play hi hX h.blk.lt (fun k' z hq=>zb7 hi rfl t hq);obtain⟨q,c,rfl⟩:=E.form;generalize b.length=o at g ⊢;generalize L:Cb W f v p k (Cs,n,m,b,zs)=PQ at i ⊢;clear K M D h hi N P E Q t L;unfold CF Cs;dsimp only;have d:BL W (W.alloc (Qg #[Qb ⟨#[97,112,112,101,110,100]⟩,O U n,O U m,Qa q o c,s] 37)):=Af _ _
 go_enter Qy,Qz
 have u:(W.alloc (Qg #[Qb ⟨#[97,112,112,101,110,100]⟩,O U n,O U m,Qa q o c,s] 37)).cell? ⟨W.heap.size,1,I⟩=S (O U n):=by rw[Qp _ _ _ _ _ _ (Qr _ _)];rfl
 have F:(W.alloc (Qg #[Qb ⟨#[97,112,112,101,110,100]⟩,O U n,O U m,Qa q o c,s] 37)).cell? ⟨W.heap.size,3,I⟩=S (Qa q o c):=by rw[Qp _ _ _ _ _ _ (Qr _ _)];rfl
 go_upto_region 3 with fail
 generalize W.alloc (Qg #[Qb ⟨#[97,112,112,101,110,100]⟩,O U n,O U m,Qa q o c,s] 37)=W1 at d u F ⊢
 go_cut [8,9] from 26 to 35 (fun _ c9 wx=>PQ (V (Qc #[J (S ⟨f,0,I⟩),c9])) wx)
 case first =>
  first
   | (go_region_with (first
    | (go_at_call 26;(with_reducible refine(g.out _ (by with_reducible first | exact d | exact Qm d | exact Qm (Qm d))).mono ?_);rintro e T ⟨v2,rfl,aa,l⟩;(first | (with_reducible have d:=Ad d l) | (with_reducible have d:=(Qm d).trans (l.mono (Qm d).size)));have u:=Aa l u)
    | (go_at_call 25;with_reducible refine(i.out _ _ (by with_reducible first | exact d | exact Qm d) (by with_reducible assumption)).mono ?_;rintro e T ⟨z,C,rfl,Y⟩)))
   | fail
  all_goals
   go_wp2;go_meet
   case rel=>exact Y
 case rest =>
 have R:H _:=hcut;clear hcut u F d g i;go_wp2;exact R.out
theorem aL (a:Nat->Qs) (n:Nat):Ae a n=Qi\/∃t u,Ae a n=Qq t u:=by
 cases n with
 | zero=>exact Qh rfl
 | succ n=>exact Qj ⟨_,_,rfl⟩
theorem G2 {x y:ByteArray} (h:x.data.toList≠y.data.toList):x≠y:=fun e=>h (by rw[e])
theorem zc2 (K:A2 a B EM An) (F:∀X,EM X->AX X a) {W:Qf} {d:Nat} {t:A} {p:Nat->Prop} {vi vf:A} {k:Lk} (z:EM W) (h:Al W d t p k.st.head vi vf k) (hi:Av k) (L:B<=d/\∀j,p j->B<=j) (n m:Int) {r C:A} {f:List Rw} {zs:List Int} (M:A4 W C zs) (N:∃q c,C=Qa q zs.length c/\(q=I->c=0)) (P:zs.length<=50) :
  Qd Qe 10 #[J (S ⟨d,0,I⟩),Qb k.spec,CF (C3,n,m,f,zs) r C] W (Cb W d t p k (C3,n,m,f,zs)):=by
 obtain⟨q,c,rfl,u⟩:=N;have g:H (∀X,BL W X->Qd Qe 28 #[Qa q zs.length c] X fun e w'=> ∃v',e=V v'/\A4 w' v' zs/\BL X w'):=fun X hX=>(zc0 q c zs X (M.below hX) u (by omega)).mono fun e w' ⟨v',h1,h2,h3⟩=>⟨v',h1,Mw h2,h3⟩;have i:H (∀X v',BL W X->A4 X v' zs->Qd Qe 27 #[J (S ⟨d,0,I⟩),O U n,v'] X fun e w'=> ∃v y,e=V (Qc #[O U v,y])/\Cb W d t p k (C3,n,m,f,zs) (V (Qc #[J (S ⟨d,0,I⟩),y])) w'):=fun X v' hX hv=>(VZ K F (K.below _ _ z (hX.mono (K.size _ z))) (h.quiet K hX) hi L n hv (by omega)).mono fun e w' ho=>ho.play hi hX h.blk.lt (fun k' v hq=>zb8 hi rfl hq);generalize zs.length=o at g ⊢;generalize E:Cb W d t p k (C3,n,m,f,zs)=Y at i ⊢;clear K F z h hi L M P E u;unfold CF C3;dsimp only;have b:BL W (W.alloc (Qg #[Qb ⟨#[100,101,108,101,116,101]⟩,O U n,O U m,r,Qa q o c] 37)):=Af _ _
 go_enter Qy,Qz
 have s:(W.alloc (Qg #[Qb ⟨#[100,101,108,101,116,101]⟩,O U n,O U m,r,Qa q o c] 37)).cell? ⟨W.heap.size,1,I⟩=S (O U n):=by rw[Qp _ _ _ _ _ _ (Qr _ _)];rfl
 have D:(W.alloc (Qg #[Qb ⟨#[100,101,108,101,116,101]⟩,O U n,O U m,r,Qa q o c] 37)).cell? ⟨W.heap.size,4,I⟩=S (Qa q o c):=by rw[Qp _ _ _ _ _ _ (Qr _ _)];rfl
 go_upto_region 6 with fail
 generalize (W.alloc (Qg #[Qb ⟨#[100,101,108,101,116,101]⟩,O U n,O U m,r,Qa q o c] 37))=W1 at b s D ⊢
 go_cut [10,11] from 40 to 49 (fun _ c9 wx=>Y (V (Qc #[J (S ⟨d,0,I⟩),c9])) wx)
 case first =>
  first
   | (go_region_with (first
    | (go_at_call 28;(with_reducible refine(g.out _ (by with_reducible first | exact b | exact Qm b | exact Qm (Qm b))).mono ?_);rintro e R ⟨v2,rfl,aa,l⟩;(first | (with_reducible have b:=Ad b l) | (with_reducible have b:=(Qm b).trans (l.mono (Qm b).size)));have s:=Aa l s)
    | (go_at_call 27;(with_reducible refine(i.out _ _ (by with_reducible first | exact b | exact Qm b) (by with_reducible assumption)).mono ?_);rintro e R ⟨v,y,rfl,T⟩)))
   | fail
  all_goals
   go_wp2;go_meet
   case rel=>exact T
 case rest =>
 have Q:H _:=hcut;clear hcut s D b g i;go_wp2;exact Q.out
theorem zc3 (K:A2 a B EM An) (t:∀X,EM X->AX X a) {W:Qf} {c:Nat} {g:A} {f:Nat->Prop} {C vf:A} {k:Lk} (q:EM W) (h:Al W c g f k.st.head C vf k) (hi:Av k) (u:B<=c/\∀j,f j->B<=j) (n m:Int) {v y:A} {b:List Rw} {zs:List Int} :
  Qd Qe 10 #[J (S ⟨c,0,I⟩),Qb k.spec,CF (⟨#[112,97,99,107]⟩,n,m,b,zs) v y] W (Cb W c g f k (⟨#[112,97,99,107]⟩,n,m,b,zs)):=by
 have i:(⟨#[112,97,99,107]⟩:ByteArray)≠Cs/\(⟨#[112,97,99,107]⟩:ByteArray)≠C3:=⟨G2 (by decide),G2 (by decide)⟩;have d:H (∀X,BL W X->Qd Qe 34 #[J (S ⟨c,0,I⟩),O U n] X fun e w'=> ∃o p,e=V (Qc #[O U o,p])/\Cb W c g f k (⟨#[112,97,99,107]⟩,n,m,b,zs) (V (Qc #[J (S ⟨c,0,I⟩),p])) w'):=fun X hX=>(zb4 K t (K.below _ _ q (hX.mono (K.size _ q))) (h.quiet K hX) hi u n).mono fun e w' ho=>ho.play hi hX h.blk.lt (fun k' o hq=>zb9 hi i hq);generalize s:Cb W c g f k (⟨#[112,97,99,107]⟩,n,m,b,zs)=E at d ⊢;clear K t q h hi u s i;unfold CF;dsimp only;have l:=d.out (W.alloc (Qg #[Qb ⟨#[112,97,99,107]⟩,O U n,O U m,v,y] 37)) (Af _ _)
 go_enter Qy,Qz
 go_wp2_with fail
 refine l.mono ?_;rintro e D ⟨o,p,rfl,r⟩;have z:H _:=r;clear r l d;go_wp2;exact z.out
theorem zc4 (K:A2 a B EM An) (t:∀X,EM X->AX X a) {W:Qf} {c:Nat} {g:A} {f:Nat->Prop} {C vf:A} {k:Lk} (q:EM W) (h:Al W c g f k.st.head C vf k) (hi:Av k) (u:B<=c/\∀j,f j->B<=j) (n m:Int) {v y:A} {b:List Rw} {zs:List Int} :
  Qd Qe 10 #[J (S ⟨c,0,I⟩),Qb k.spec,CF (⟨#[101,120,112,105,114,101]⟩,n,m,b,zs) v y] W (Cb W c g f k (⟨#[101,120,112,105,114,101]⟩,n,m,b,zs)):=by
 have i:(⟨#[101,120,112,105,114,101]⟩:ByteArray)≠Cs/\(⟨#[101,120,112,105,114,101]⟩:ByteArray)≠C3:=⟨G2 (by decide),G2 (by decide)⟩;have d:H (∀X,BL W X->Qd Qe 35 #[J (S ⟨c,0,I⟩),O U n,O U m] X fun e w'=> ∃o p,e=V (Qc #[O U o,p])/\Cb W c g f k (⟨#[101,120,112,105,114,101]⟩,n,m,b,zs) (V (Qc #[J (S ⟨c,0,I⟩),p])) w'):=fun X hX=>(vY K t (K.below _ _ q (hX.mono (K.size _ q))) (h.quiet K hX) hi u n m).mono fun e w' ho=>ho.play hi hX h.blk.lt (fun k' o hq=>LI (CD.few hi hq) (Qh i));generalize s:Cb W c g f k (⟨#[101,120,112,105,114,101]⟩,n,m,b,zs)=E at d ⊢;clear K t q h hi u s i;unfold CF;dsimp only;have l:=d.out (W.alloc (Qg #[Qb ⟨#[101,120,112,105,114,101]⟩,O U n,O U m,v,y] 37)) (Af _ _)
 go_enter Qy,Qz
 go_wp2_with fail
 refine l.mono ?_;rintro e D ⟨o,p,rfl,r⟩;have z:H _:=r;clear r l d;go_wp2;exact z.out
theorem zc5 (K:A2 a B EM An) (t:∀X,EM X->AX X a) {W:Qf} {b:Nat} {l:A} {g:Nat->Prop} {u vf:A} {k:Lk} (q:EM W) (h:Al W b l g k.st.head u vf k) (hi:Av k) (v:B<=b/\∀j,g j->B<=j) (n m:Int) {y z:A} {c:List Rw} {zs:List Int} :
  Qd Qe 10 #[J (S ⟨b,0,I⟩),Qb k.spec,CF (⟨#[99,108,101,97,110]⟩,n,m,c,zs) y z] W (Cb W b l g k (⟨#[99,108,101,97,110]⟩,n,m,c,zs)):=by
 have o:(⟨#[99,108,101,97,110]⟩:ByteArray)≠Cs/\(⟨#[99,108,101,97,110]⟩:ByteArray)≠C3:=⟨G2 (by decide),G2 (by decide)⟩;have f:H (∀X,BL W X->Qd Qe 14 #[J (S ⟨b,0,I⟩),O U n] X fun e w'=> ∃i d,e=V (Qc #[O U i,d])/\Cb W b l g k (⟨#[99,108,101,97,110]⟩,n,m,c,zs) (V (Qc #[J (S ⟨b,0,I⟩),d])) w'):=fun X hX=>(Wl K t (K.below _ _ q (hX.mono (K.size _ q))) (h.quiet K hX) hi v.2 n).mono fun e w' ⟨SP',s',i,d,he,hev,h1,h2,h3,h4⟩=>⟨i,d,he,b,SP',u,vf, { k with st:=s' },d,rfl,hev,(Ac.of_below hX).trans h1 (fun _ h _=>Qh h),fun j hj=>(h2 j hj).imp_right (Ql hX.size),Qh rfl,⟨by
   have C:s'.head=k.st.head:=by obtain⟨N,E,-⟩:=h4;exact E.head
   rw[C];exact h3,h.owt⟩,LI (CD.clean hi h4) (Qh o)⟩
 generalize s:Cb W b l g k (⟨#[99,108,101,97,110]⟩,n,m,c,zs)=L at f ⊢;clear K t q h hi v s o;unfold CF;dsimp only;have p:=f.out (W.alloc (Qg #[Qb ⟨#[99,108,101,97,110]⟩,O U n,O U m,y,z] 37)) (Af _ _)
 go_enter Qy,Qz
 go_wp2_with fail
 refine p.mono ?_;rintro e F ⟨i,d,rfl,r⟩;have D:H _:=r;clear r p f;go_wp2;exact D.out
end
end
section
attribute [local go_sem] QE
section
variable {a : Nat → Qs} {B : Nat} {EM : Qf → Prop}
theorem R0 {W X w':Qf} {b:Nat} {d m vf:A} {f:Nat->Prop} {k:Lk} {g:St} {x:Ak} (c:A) (n:c=Qi\/∃t u,c=Qq t u) (h:Al X b d f k.st.head m vf k) (hi:Av k) (i:BL W X) (o:Gw k.st g) (s:Dt An X d f g w') (v:x.1≠Cs/\x.1≠C3) (y:b<W.heap.size):Cb W b d f k x (V (Qc #[J (S ⟨b,0,I⟩),c])) w':=by
 obtain⟨l,p,q,r⟩:=h.post s;refine⟨b,l,m,vf, { k with st:=g },c,rfl,n,(Ac.of_below i).trans q (fun _ h _=>Qh h),fun j hj=>(r j hj).imp_right (Ql i.size),Qh rfl,⟨?_,h.owt.low i y⟩,LI (CD.gw hi o) (Qh v)⟩;rw[o.head];exact p
theorem zc6 (K:A2 a B EM An) {W:Qf} {d:Nat} {u:A} {g:Nat->Prop} {E vf:A} {k:Lk} (r:EM W) (h:Al W d u g k.st.head E vf k) (hi:Av k) (n m:Int) (F: -9223372036854775808<=n/\n<=9223372036854775807) {j l:A} {c:List Rw} {zs:List Int} :
  Qd Qe 10 #[J (S ⟨d,0,I⟩),Qb k.spec,CF (⟨#[100,97,121,115]⟩,n,m,c,zs) j l] W (Cb W d u g k (⟨#[100,97,121,115]⟩,n,m,c,zs)):=by
 have o:(⟨#[100,97,121,115]⟩:ByteArray)≠Cs/\(⟨#[100,97,121,115]⟩:ByteArray)≠C3:=⟨G2 (by decide),G2 (by decide)⟩;obtain⟨i,rfl⟩:=h.ptr K;have p:H (∀X,BL W X->Qd Qe 21 #[J (S ⟨d,0,I⟩)] X fun e w'=>e=V (J (S i))/\w'=X):=fun X hX=>L7 K (h.quiet K hX);have f:H (∀X,BL W X->Qd Qe 36 #[J (S i),O U n] X fun e w'=> ∃z q,e=V (Qc #[O U z,q])/\Cb W d (J (S i)) g k (⟨#[100,97,121,115]⟩,n,m,c,zs) (V (Qc #[J (S ⟨d,0,I⟩),q])) w'):=fun X hX=>(K.next X _ g k.st n (K.below _ _ r (hX.mono (K.size _ r))) (h.quiet K hX).st hi.good.keeps F).mono fun e w' ⟨he,hp⟩=>⟨_,_,he,R0 _ (aL a _) (h.quiet K hX) hi hX (zb5 hi.good n) hp o h.blk.lt⟩;generalize t:Cb W d (J (S i)) g k (⟨#[100,97,121,115]⟩,n,m,c,zs)=D at f ⊢;clear K r h hi t o;unfold CF;dsimp only;have b:BL W (W.alloc (Qg #[Qb ⟨#[100,97,121,115]⟩,O U n,O U m,j,l] 37)):=Af _ _;have s:(W.alloc (Qg #[Qb ⟨#[100,97,121,115]⟩,O U n,O U m,j,l] 37)).cell? ⟨W.heap.size,1,I⟩=S (O U n):=by rw[Qp _ _ _ _ _ _ (Qr _ _)];rfl
 go_enter Qy,Qz
 go_upto_region 18 with fail
 generalize (W.alloc (Qg #[Qb ⟨#[100,97,121,115]⟩,O U n,O U m,j,l] 37))=L at b s ⊢
 go_cut [18,19] from 89 to 96 (fun _ c9 wx=>D (V (Qc #[J (S ⟨d,0,I⟩),c9])) wx)
 case first =>
  first
   | (go_region_with (first
    | (go_at_call 21;(with_reducible refine(p.out _ (by with_reducible first | exact b | exact Qm b | exact Qm (Qm b))).mono ?_);rintro e y ⟨rfl,rfl⟩)
    | (go_at_call 36;(with_reducible refine(f.out _ (by with_reducible first | exact b | exact Qm b)).mono ?_);rintro e y ⟨z,q,rfl,C⟩)))
   | fail
  all_goals
   go_wp2;go_meet
   case rel=>exact C
 case rest =>
 have v:H _:=hcut;clear hcut s b p f;go_wp2;exact v.out
theorem zc7 (K:A2 a B EM An) {W:Qf} {c:Nat} {v:A} {g:Nat->Prop} {E vf:A} {k:Lk} (r:EM W) (h:Al W c v g k.st.head E vf k) (hi:Av k) (n m:Int) (F: -9223372036854775808<=n/\n<=9223372036854775807) {j l:A} {d:List Rw} {zs:List Int} :
  Qd Qe 10 #[J (S ⟨c,0,I⟩),Qb k.spec,CF (⟨#[99,117,116]⟩,n,m,d,zs) j l] W (Cb W c v g k (⟨#[99,117,116]⟩,n,m,d,zs)):=by
 have o:(⟨#[99,117,116]⟩:ByteArray)≠Cs/\(⟨#[99,117,116]⟩:ByteArray)≠C3:=⟨G2 (by decide),G2 (by decide)⟩;obtain⟨i,rfl⟩:=h.ptr K;have p:H (∀X,BL W X->Qd Qe 21 #[J (S ⟨c,0,I⟩)] X fun e w'=>e=V (J (S i))/\w'=X):=fun X hX=>L7 K (h.quiet K hX);have f:H (∀X,BL W X->Qd Qe 37 #[J (S i),O U n] X fun e w'=> ∃q,e=V q/\Cb W c (J (S i)) g k (⟨#[99,117,116]⟩,n,m,d,zs) (V (Qc #[J (S ⟨c,0,I⟩),q])) w'):=fun X hX=>(K.cut X _ g k.st n (K.below _ _ r (hX.mono (K.size _ r))) (h.quiet K hX).st hi.good.keeps F).mono fun e w' ⟨he,hp⟩=>⟨_,he,R0 _ (aL a _) (h.quiet K hX) hi hX (zb6 hi.good n) hp o h.blk.lt⟩;generalize u:Cb W c (J (S i)) g k (⟨#[99,117,116]⟩,n,m,d,zs)=D at f ⊢;clear K r h hi u o;unfold CF;dsimp only;have b:BL W (W.alloc (Qg #[Qb ⟨#[99,117,116]⟩,O U n,O U m,j,l] 37)):=Af _ _;have s:(W.alloc (Qg #[Qb ⟨#[99,117,116]⟩,O U n,O U m,j,l] 37)).cell? ⟨W.heap.size,1,I⟩=S (O U n):=by rw[Qp _ _ _ _ _ _ (Qr _ _)];rfl
 go_enter Qy,Qz
 go_upto_region 21 with fail
 generalize (W.alloc (Qg #[Qb ⟨#[99,117,116]⟩,O U n,O U m,j,l] 37))=L at b s ⊢
 go_cut [6,7] from 101 to 106 (fun c6 c9 wx=>c6=J (S ⟨c,0,I⟩)/\D (V (Qc #[J (S ⟨c,0,I⟩),c9])) wx)
 case first =>
  first
   | (go_region_with (first
    | (go_at_call 21;(with_reducible refine(p.out _ (by with_reducible first | exact b | exact Qm b | exact Qm (Qm b))).mono ?_);rintro e z ⟨rfl,rfl⟩)
    | (go_at_call 37;(with_reducible refine(f.out _ (by with_reducible first | exact b | exact Qm b)).mono ?_);rintro e z ⟨q,rfl,C⟩)))
   | fail
  all_goals
   go_wp2;go_meet
   case rel=>exact ⟨rfl,C⟩
 case rest =>
 obtain⟨rfl,t⟩:=hcut;have y:H _:=t;clear t s b p f;go_wp2;exact y.out
theorem zc8 (K:A2 a B EM An) (F:∀X,EM X->AX X a) {W:Qf} {f:Nat} {L:A} {p:Nat->Prop} {vi vf:A} {k:Lk} (u:EM W) (h:Al W f L p k.st.head vi vf k) (hi:Av k) (M:B<=f/\∀j,p j->B<=j) (N:k.spec.size<=30) (t:(A5 k.spec.data.toList).1=0) (n m:Int) {i l:A} {d:List Rw} {zs:List Int} :
  Qd Qe 10 #[J (S ⟨f,0,I⟩),Qb k.spec,CF (⟨#[97,103,97,105,110]⟩,n,m,d,zs) i l] W (Cb W f L p k (⟨#[97,103,97,105,110]⟩,n,m,d,zs)):=by
 have s:(⟨#[97,103,97,105,110]⟩:ByteArray)≠Cs/\(⟨#[97,103,97,105,110]⟩:ByteArray)≠C3:=⟨G2 (by decide),G2 (by decide)⟩;obtain⟨q,rfl⟩:=h.ptr K;have b:BL W (W.alloc (Qg #[Qb ⟨#[97,103,97,105,110]⟩,O U n,O U m,i,l] 37)):=Af _ _;have o:Qd Qe 21 #[J (S ⟨f,0,I⟩)] (W.alloc (Qg #[Qb ⟨#[97,103,97,105,110]⟩,O U n,O U m,i,l] 37)) fun e r=>e=V (J (S q))/\r=(W.alloc (Qg #[Qb ⟨#[97,103,97,105,110]⟩,O U n,O U m,i,l] 37)):=L7 K (h.quiet K b);have g:Qd Qe 8 #[J (S q),Qb k.spec] (W.alloc (Qg #[Qb ⟨#[97,103,97,105,110]⟩,O U n,O U m,i,l] 37)) fun e r=> ∃c,e=V (Qc #[J (S ⟨c,0,I⟩),Qi])/\Cb W f (J (S q)) p k (⟨#[97,103,97,105,110]⟩,n,m,d,zs) (V (Qc #[J (S ⟨c,0,I⟩),Qi])) r:=by
  refine(Nn K F (K.below _ _ u (b.mono (K.size _ u))) (h.quiet K b).st hi.good M.2 k.spec (by omega) (Qj ⟨k,rfl,hi⟩)).mono ?_;rintro e r ⟨n',vk,rfl,⟨-,-,v,-⟩|⟨rfl,y,c,z,C,Q,rfl,R,T,Y,⟨h4,h8⟩,h5,h6,h7⟩⟩
  ·exact absurd ⟨t,fun e=>absurd e (Nl hi)⟩ v
  ·exact⟨c,rfl,c,y,z,C,Q,_,rfl,Qh rfl,(Ac.of_below b).trans R (fun _ h _=>Qh h),fun j hj=>(T j hj).imp_right (Ql b.size),Qj (Ql b.size Y),⟨h4,fun j hj=>Qh (Ql b.size (h8 j (hj.imp_right And.right)))⟩,LI (CD.open hi h5 h7) (Qh s)⟩
 generalize E:Cb W f (J (S q)) p k (⟨#[97,103,97,105,110]⟩,n,m,d,zs)=PQ at g ⊢;clear K F u h hi M E s N t;unfold CF;dsimp only
 go_enter Qy,Qz
 go_wp2_with fail
 generalize (W.alloc (Qg #[Qb ⟨#[97,103,97,105,110]⟩,O U n,O U m,i,l] 37))=W1 at o g ⊢;refine o.mono ?_;rintro e w2 ⟨rfl,rfl⟩
 go_wp2_with fail
 refine g.mono ?_;rintro e w3 ⟨c,rfl,D⟩;have P:H _:=D;clear o g D b;go_wp2;exact P.out
theorem zc9 (K:A2 a B EM An) {W:Qf} {f:Nat} {y:A} {o:Nat->Prop} {N vf:A} {k:Lk} (r:EM W) (h:Al W f y o k.st.head N vf k) (hi:Av k) (b:ByteArray) (s:b.data.toList≠ [97,112,112,101,110,100]) (t:b.data.toList≠ [100,101,108,101,116,101]) (z:b.data.toList≠ [112,97,99,107]) (C:b.data.toList≠ [101,120,112,105,114,101]) (D:b.data.toList≠ [99,108,101,97,110]) (E:b.data.toList≠ [100,97,121,115]) (F:b.data.toList≠ [99,117,116]) (L:b.data.toList≠ [97,103,97,105,110]) (n m:Int) {i j:A} {d:List Rw} {zs:List Int} :
  Qd Qe 10 #[J (S ⟨f,0,I⟩),Qb k.spec,CF (b,n,m,d,zs) i j] W (Cb W f y o k (b,n,m,d,zs)):=by
 have q:b≠Cs/\b≠C3:=⟨fun e=>s (by rw[e];rfl),fun e=>t (by rw[e];rfl)⟩;obtain⟨p,rfl⟩:=h.ptr K;have c:BL W (W.alloc (Qg #[Qb b,O U n,O U m,i,j] 37)):=Af _ _;have l:Qd Qe 21 #[J (S ⟨f,0,I⟩)] (W.alloc (Qg #[Qb b,O U n,O U m,i,j] 37)) fun e w'=>e=V (J (S p))/\w'=(W.alloc (Qg #[Qb b,O U n,O U m,i,j] 37)):=L7 K (h.quiet K c);have g:Qd Qe 30 #[J (S p)] (W.alloc (Qg #[Qb b,O U n,O U m,i,j] 37)) fun e w'=>e=V (Qc #[])/\Cb W f (J (S p)) o k (b,n,m,d,zs) (V (Qc #[J (S ⟨f,0,I⟩),Qi])) w':=(K.on _ _ o k.st (K.below _ _ r (c.mono (K.size _ r))) (h.quiet K c).st hi.good.keeps).mono fun e w' ⟨he,hp⟩=>⟨he,R0 _ (Qh rfl) (h.quiet K c) hi c (aJ hi.good) hp q h.blk.lt⟩;have P:(b.toList == [97,112,112,101,110,100])=Qk:=BD s;have Q:(b.toList == [100,101,108,101,116,101])=Qk:=BD t;have R:(b.toList == [112,97,99,107])=Qk:=BD z;have T:(b.toList == [101,120,112,105,114,101])=Qk:=BD C;have X:(b.toList == [99,108,101,97,110])=Qk:=BD D;have Y:(b.toList == [100,97,121,115])=Qk:=BD E;have d6:(b.toList == [99,117,116])=Qk:=BD F;have d7:(b.toList == [97,103,97,105,110])=Qk:=BD L;generalize v:Cb W f (J (S p)) o k (b,n,m,d,zs)=PQ at g ⊢;clear K r h hi v q s t z C D E F L;unfold CF;dsimp only
 go_enter Qy,Qz
 go_wp2_with fail
 generalize (W.alloc (Qg #[Qb b,O U n,O U m,i,j] 37))=W1 at l g ⊢;refine l.mono ?_;rintro e w2 ⟨rfl,rfl⟩
 go_wp2_with fail
 refine g.mono ?_;rintro e w3 ⟨rfl,u⟩;have M:H _:=u;clear l g u c;go_wp2;exact M.out
end
end
section
theorem Hs {x y:ByteArray} (h:x.data.toList=y.data.toList):x=y:=by rw[<-D7 x,h,D7]
structure JP (W:Qf) (vr vz:A) (x:Ak):Prop where
 rows:Ap W vr x.2.2.2.1
 len:x.2.2.2.1.length<=60
 parts:∀r∈x.2.2.2.1,r.1.size<=30
 keys:A4 W vz x.2.2.2.2
 form:∃q c,vz=Qa q x.2.2.2.2.length c/\(q=I->c=0)
 few:x.2.2.2.2.length<=50
 num: -9223372036854775808<=x.2.1/\x.2.1<=9223372036854775807
section
variable {a : Nat → Qs} {B : Nat} {EM : Qf → Prop}
theorem zd0 (K:A2 a B EM An) (d:∀X,EM X->AX X a) {W:Qf} {g:Nat} {C:A} {l:Nat->Prop} {Y vf:A} {k:Lk} (c:EM W) (h:Al W g C l k.st.head Y vf k) (hi:Av k) (f:B<=g/\∀j,l j->B<=j) (i:k.spec.size<=30) (D:(A5 k.spec.data.toList).1=0) {E F:A} {x:Ak} (hx:JP W E F x) :
  Qd Qe 10 #[J (S ⟨g,0,I⟩),Qb k.spec,CF x E F] W (Cb W g C l k x):=by
 obtain⟨b,n,m,L,zs⟩:=x;obtain⟨M,N,P,Q,R,T,z⟩:=hx;by_cases o:b.data.toList= [97,112,112,101,110,100]
 ·obtain rfl:=Hs (y:=Cs) o;exact zc1 K d c h hi f i n m M N P
 by_cases p:b.data.toList= [100,101,108,101,116,101]
 ·obtain rfl:=Hs (y:=C3) p;exact zc2 K d c h hi f n m Q R T
 by_cases q:b.data.toList= [112,97,99,107]
 ·obtain rfl:=Hs (y:=⟨#[112,97,99,107]⟩) q;exact zc3 K d c h hi f n m
 by_cases r:b.data.toList= [101,120,112,105,114,101]
 ·obtain rfl:=Hs (y:=⟨#[101,120,112,105,114,101]⟩) r;exact zc4 K d c h hi f n m
 by_cases s:b.data.toList= [99,108,101,97,110]
 ·obtain rfl:=Hs (y:=⟨#[99,108,101,97,110]⟩) s;exact zc5 K d c h hi f n m
 by_cases t:b.data.toList= [100,97,121,115]
 ·obtain rfl:=Hs (y:=⟨#[100,97,121,115]⟩) t;exact zc6 K c h hi n m z
 by_cases u:b.data.toList= [99,117,116]
 ·obtain rfl:=Hs (y:=⟨#[99,117,116]⟩) u;exact zc7 K c h hi n m z
 by_cases v:b.data.toList= [97,103,97,105,110]
 ·obtain rfl:=Hs (y:=⟨#[97,103,97,105,110]⟩) v;exact zc8 K d c h hi f i D n m
 exact zc9 K c h hi b o p q r s t u v n m
end
structure K9 (w:Qf) (b o:Nat) (vr vk:A) (x:Ak):Prop where
 kind:w.cell? ⟨b,o,I⟩=S (Qb x.1)
 n:w.cell? ⟨b,o+1,I⟩=S (O U x.2.1)
 m:w.cell? ⟨b,o+2,I⟩=S (O U x.2.2.1)
 crow:w.cell? ⟨b,o+3,I⟩=S vr
 ckey:w.cell? ⟨b,o+4,I⟩=S vk
 rows:Ap w vr x.2.2.2.1
 keys:A4 w vk x.2.2.2.2
 form:∃q c,vk=Qa q x.2.2.2.2.length c/\(q=I->c=0)
 formr:∃q c,vr=Qa q x.2.2.2.1.length c/\(q=I->c=0)
 num: -9223372036854775808<=x.2.1/\x.2.1<=9223372036854775807
theorem K9.below {w w':Qf} {b o:Nat} {d f:A} {p:Ak} (h:K9 w b o d f p) (c:BL w w'):K9 w' b o d f p :=
 ⟨Aa c h.kind,Aa c h.n,Aa c h.m,Aa c h.crow,Aa c h.ckey,h.rows.below c,h.keys.below c,h.form,h.formr,h.num⟩
def Er (w:Qf) (v:A) (l:List Ak):Prop :=
 (∃p c,v=Qa p 0 c/\l= [])\/∃b o cap,v=Qa (S ⟨b,o,I⟩) l.length cap/\∀j (h:j<l.length),∃vr vk,K9 w b (o+j*5) vr vk l[j]
theorem Er.below {w w':Qf} {v:A} {l:List Ak} (h:Er w v l) (k:BL w w'):Er w' v l:=by
 rcases h with h | ⟨b,o,c,g,i⟩
 ·exact Qh h
 ·exact Qj ⟨b,o,c,g,fun j hj=>by
   obtain⟨d,f,h⟩:=i j hj;exact⟨d,f,h.below k⟩⟩
theorem Er.form {w:Qf} {v:A} {l:List Ak} (h:Er w v l):∃p c,v=Qa p l.length c:=by
 rcases h with⟨p,c,rfl,rfl⟩|⟨b,o,d,rfl,_⟩
 ·exact⟨_,_,rfl⟩
 ·exact⟨_,_,rfl⟩
theorem Er.cells {w:Qf} {q:Option Qs} {n c:Nat} {l:List Ak} (h:Er w (Qa q n c) l) (d:l≠ []):∃b o,q=S ⟨b,o,I⟩/\∀j (h:j<l.length),∃vr vk,K9 w b (o+j*5) vr vk l[j]:=by
 rcases h with⟨_,_,_,e⟩|⟨b,o,g,e,f⟩
 ·exact absurd e d
 ·simp only[Value.slice.injEq]at e;exact⟨b,o,e.1,f⟩
def IV (x:Ak):Bool:=Fq 60 x.2.2.2.1 || (decide (50<x.2.2.2.2.length) || decide (20<x.1.size))
def Ec (m:Int) (l:List Ak):Bool:=decide (m<l.length) || l.any IV
theorem aM {m:Int} {l:List Ak} (h:Ec m l=Qk):(l.length:Int)<=m/\∀x∈l,x.2.2.2.1.length<=60/\(∀r∈x.2.2.2.1,r.1.size<=30)/\x.2.2.2.2.length<=50:=by
 unfold Ec at h;simp only[QN,decide_eq_false_iff_not,QO]at h;refine⟨by omega,fun x hx=>?_⟩;have:=h.2 x hx;unfold IV Fq at this;simp only[Q9,QN,decide_eq_false_iff_not,QO,decide_eq_true_eq]at this;obtain⟨⟨c,b⟩,d,-⟩:=this;exact⟨by omega,fun r hr=>by have:=b r hr;omega,by omega⟩
theorem Er.act {w:Qf} {b o:Nat} {d f:A} {x:Ak} (h:K9 w b o d f x) (c:x.2.2.2.1.length<=60/\(∀r∈x.2.2.2.1,r.1.size<=30)/\x.2.2.2.2.length<=50):JP w d f x:=⟨h.rows,c.1,c.2.1,h.keys,h.form,c.2.2,h.num⟩
def JQ (x:Ak):Prop:=x.1.size<=Q4/\x.2.2.2.1.length<=Q4/\x.2.2.2.2.length<=Q4
theorem aN (v:A) (l:List Ak) (b:Int) (ac:0<=b/\b<=1000) (w:Qf) (h:Er w v l) (hl:l.length<=Q4) (hz:∀p∈l,JQ p) :
  Qd Qe 7 #[v,O U b] w fun e w'=>e=V (.bool (Ec b l))/\w'=w:=by
 obtain⟨q,N,rfl⟩:=h.form;have X:H (Er w (Qa q l.length N) l):=h;have Y:H (∀p∈l,JQ p):=hz;obtain⟨L,P⟩:∃L,l.length=L:=⟨_,rfl⟩;have n:H (l.length=L):=P;rw[P]at hl ⊢;generalize hR:Ec b l=R;have u:H (Ec b l=R):=hR;by_cases D:b<(L:Int)
 ·have e:R=Qn:=by rw[<-u.out];unfold Ec;rw[n.out];simp[D]
  subst e
  go_enter func7,ntmps7
  go_wp2;go_ret;exact⟨rfl,rfl⟩
 go_enter func7,ntmps7
 go_wp2
 go_loop [5] (fun k=> ∃m:Nat,m<=L/\k=O U m/\∀i (h:i<l.length),i<m->IV l[i]=Qk) (fun k=>L-(intOf k).toNat)
 case atStart=>exact ⟨0,by omega,rfl,fun i h h'=>absurd h' (Nat.not_lt_zero _)⟩
 case round =>
  obtain⟨m,hm,rfl,Q⟩:=hrel;have t:H (∀i (h:i<l.length),i<m->IV l[i]=Qk):=Q;by_cases E:m<L
  ·have c:m<l.length:=by rw[n.out];exact E
   obtain⟨g,o,hq,hc⟩:=X.out.cells (fun e=>by rw[e]at c;simp at c);subst hq;obtain⟨vr,vk,j⟩:=hc m c;have F:=Y.out _ (QK c);have f:(m:Int)<(L:Int):=by omega
   have y:H (IV l[m]=Qn->R=Qn):=fun e=>by
    show R=Qn;rw[<-u.out];unfold Ec;rw[Bool.or_eq_true];exact Qj (List.any_eq_true.2 ⟨_,QK c,e⟩)
   have HF:H (IV l[m]=Qk->∀i (h:i<l.length),i<m+1->IV l[i]=Qk):=fun e i f him=>by
    by_cases e':i=m
    ·subst e';exact e
    ·exact t.out i f (by omega)
   generalize l[m]=p at *;obtain⟨z1,z2,z3⟩:=F;unfold Q4 at z1 z2 z3;have r:H (IV p=(Fq 60 p.2.2.2.1 || (decide (50<p.2.2.2.2.length) || decide (20<p.1.size)))):=rfl;have c0:=j.kind;have c3:=j.crow;have c4:=j.ckey;have d:=cR vr p.2.2.2.1 60 w j.rows (by unfold Q4;omega) (by omega);obtain⟨kq,kc,hk,-⟩:=j.form;subst hk;generalize p.2.2.2.2.length=T at *;generalize p.1=W at *;generalize p.2.2.2.1=rs at *;cases s:Fq 60 rs
   ·have z:=NH s;rw[z]at d;by_cases K:50<T
    ·have aa:(50:Int)<(T:Int):=by omega
     have e:=y.out (by rw[r.out];simp[K]);subst e
     go_wp2_with fail
     refine d.mono ?_;rintro e C ⟨rfl,rfl⟩;go_wp2;go_ret;exact⟨rfl,rfl⟩
    by_cases M:20<W.size
    ·have ab:(20:Int)<(W.size:Int):=by omega
     have e:=y.out (by rw[r.out];simp[M]);subst e
     go_wp2_with fail
     refine d.mono ?_;rintro e C ⟨rfl,rfl⟩;go_wp2;go_ret;exact⟨rfl,rfl⟩
    have B:=HF.out (by rw[r.out,s];simp[K,M]);have B:H _:=B
    go_wp2_with fail
    refine d.mono ?_;rintro e C ⟨rfl,rfl⟩;go_wp2;go_round
    case rel=>exact ⟨m+1,by omega,by go_num,B.out⟩
    case measure=>simp [intOf];omega
   ·have z:=NG s;rw[z]at d;have e:=y.out (by rw[r.out,s];rfl);subst e
    go_wp2_with fail
    refine d.mono ?_;rintro e C ⟨rfl,rfl⟩;go_wp2;go_ret;exact⟨rfl,rfl⟩
  ·obtain rfl:m=L:=by omega
   have e:R=Qk:=by
    rw[<-u.out];unfold Ec;rw[n.out,QN];refine⟨by simp;omega,?_⟩;rw[QO];intro x hx;obtain⟨i,f,rfl⟩:=List.mem_iff_getElem.1 hx;rw[t.out i f (by rw[n.out]at f;exact f)];simp
   subst e;go_wp2;go_ret;exact⟨rfl,rfl⟩
theorem aO {k q:Int} (n:0<=q):∀l:List (Int×Int),q<B0 l k↔∃e∈l,e.1=k/\q<e.2
 | []=>by
  have:B0 [] k=0:=rfl;simp[this];omega
 | x :: r=>by
  have g:B0 (x :: r) k=max (B0 [x] k) (B0 r k):=sF [x] r k;have i:B0 [x] k=if x.1=k then max 0 x.2 else 0:=rfl;have d:=aO n (k:=k) r;rw[g,i];constructor
  ·intro h;by_cases f:x.1=k
   ·rw[if_pos f]at h;by_cases j:q<x.2
    ·exact⟨x,Q3,f,j⟩
    ·obtain⟨e,b,c⟩:=d.1 (by omega);exact⟨e,Q7 _ b,c⟩
   ·rw[if_neg f]at h;obtain⟨e,b,c⟩:=d.1 (by omega);exact⟨e,Q7 _ b,c⟩
  ·rintro⟨e,b,c,m⟩;rcases QX.1 b with rfl | b
   ·rw[if_pos c];omega
   ·have:=d.2 ⟨e,b,c,m⟩;omega
theorem JR {l:List (Int×Int)} {p:Rw×Int} (b:0<=p.2):BP l p=Qn↔∃e∈l,e.1=p.1.2.1/\p.2<e.2:=by
 unfold BP;rw[decide_eq_true_eq];exact aO b l
def DO (obs:List Ob) (fs:List Fl):List Rw:=((fs.flatMap (Ck obs)).filter fun p=> !BP (fs.flatMap (BI obs)) p).map (·.1)
theorem aP {r:Rw} (h:A0 r=0):Bs Be Bf r=Qn:=by
 have:=Mo h;unfold Bs Be Bf;simp only[Qw,decide_eq_true_eq];omega
theorem LJ {obs:List Ob} {x:Fl} {p:Rw×Int} (h:p∈Ck obs x):A0 p.1=0/\p.2=x.2.2.2.2.2/\x.2.1.data.toList≠ [45]:=by
 unfold Ck at h;split at h
 ·rename_i c;obtain⟨r,b,rfl⟩:=Qu.1 h;exact⟨WQ _ r b,rfl,c⟩
 ·cases h
theorem aQ {obs:List Ob} {x:Fl} {e:Int×Int} (h:e∈BI obs x):e.2=x.2.2.2.2.2/\x.2.1.data.toList= [45]:=by
 unfold BI at h;split at h
 ·cases h
 ·rename_i b;obtain⟨r,c,rfl⟩:=Qu.1 h;exact⟨rfl,by simpa using b⟩
theorem R3 {obs:List Ob} {s:Sn} (c:(Am s).1=0) (h:∀x∈s.2.2.2.2.2.2,(Aj obs x).1=0):AR obs s Be Bf=(A3 (DO obs s.2.2.2.2.2.2),0,I):=by
 have e:=Nw (obs:=obs) (G:=s.2.2.2.2.2.2.flatMap (BI obs)) s.2.2.2.2.2.2;rw[Nx c h,show s.2.2.2.2.2.2.flatMap (EU obs s.2.2.2.2.2.2)=_ from e.symm];unfold DO;rw[QG (p:=fun p=>Bs Be Bf p.1 && !BP (s.2.2.2.2.2.2.flatMap (BI obs)) p) (q:=fun p=> !BP (s.2.2.2.2.2.2.flatMap (BI obs)) p) fun p b=>?_];obtain⟨x,d,b⟩:=Qv.1 b;rw[aP (LJ b).1,Bool.true_and]
theorem R4 {obs:List Ob} {L b:List Fl} (h:L.Perm b) (j:∀f∈L,0<=f.2.2.2.2.2):(DO obs L).Perm (DO obs b):=by
 unfold DO;refine List.Perm.map _ ?_;have d:(L.flatMap (BI obs)).Perm (b.flatMap (BI obs)):=h.flatMap_right _;rw[QG (q:=fun p=> !BP (b.flatMap (BI obs)) p) fun p c=>?_]
 ·exact(h.flatMap_right _).filter _
 ·obtain⟨x,i,c⟩:=Qv.1 c;have g:0<=p.2:=by rw[(LJ c).2.1];exact j x i
  congr 1;rw[QP,JR g,JR g];exact⟨fun ⟨e,he,h1⟩=>⟨e,d.mem_iff.1 he,h1⟩,fun ⟨e,he,h1⟩=>⟨e,d.mem_iff.2 he,h1⟩⟩
theorem EV {α β:Type} {f g:α->List β} :∀ {l:List α},(∀x∈l,f x=g x)->l.flatMap f=l.flatMap g
 | [],_=>rfl
 | a :: r,h=>by
  rw[Q0,Q0,h a Q3,EV fun x hx=>h x (Q7 _ hx)]
theorem Ht {obs b:List Ob} {x:Fl} (h:Aj b x=Aj obs x):Ck b x=Ck obs x/\BI b x=BI obs x:=by
 unfold Ck BI;rw[h];exact⟨rfl,rfl⟩
theorem aR {obs b:List Ob} {i c:List Fl} {n:Int} (o:∀f∈i,Aj b f=Aj obs f) (s:∀f∈i,f.2.2.2.2.2<=n) (t:0<=n) (m:∀f∈c,f.2.1.data.toList≠ [45]/\n<=f.2.2.2.2.2):DO b (i++c)=DO obs i++c.flatMap fun f=>(Bn (Aj b f).2.data.toList).1:=by
 have q:c.flatMap (BI b)= []:=by
  rw[List.flatMap_eq_nil_iff];exact fun f hf=>WM (m f hf).1
 unfold DO;rw[Qt,Qt,q,QQ,List.filter_append,List.map_append,EV (f:=BI b) (g:=BI obs) fun x d=>(Ht (o x d)).2,EV (f:=Ck b) (g:=Ck obs) (l:=i) fun x d=>(Ht (o x d)).1];congr 1;rw[QR.2 fun p j=>?_]
 ·rw[List.map_flatMap];refine EV fun f hf=>?_;unfold Ck;rw[if_pos (m f hf).1,List.map_map];exact List.map_id' _
 ·obtain⟨x,d,j⟩:=Qv.1 j;have u:=(LJ j).2.1;have v:=(m x d).2;rw[QF,<-Q9,JR (by omega)];rintro⟨e,k,-,C⟩;obtain⟨y,r,k⟩:=Qv.1 k;have z:=(aQ k).1;have B:=s y r;omega
theorem zd1 {obs b:List Ob} {i:List Fl} {g:Fl} {n:Int} (q:∀f∈i,Aj b f=Aj obs f) (C:∀f∈i,0<=f.2.2.2.2.2/\f.2.2.2.2.2<=n) (s:g.2.1.data.toList= [45]/\n<g.2.2.2.2.2):DO b (i++ [g])=(DO obs i).filter fun r=> !(B8 (Aj b g).2.data.toList).1.contains r.2.1:=by
 have t:Ck b g= []:=by unfold Ck;rw[if_neg (by simpa using s.1)]
 have u:BI b g=(B8 (Aj b g).2.data.toList).1.map fun k=>(k,g.2.2.2.2.2):=by unfold BI;rw[if_neg (by simpa using s.1)]
 unfold DO;rw[Qt,Qt,Q6,Q6,t,QQ,u,EV (f:=BI b) (g:=BI obs) fun x d=>(Ht (q x d)).2,EV (f:=Ck b) (g:=Ck obs) (l:=i) fun x d=>(Ht (q x d)).1,List.filter_map,List.filter_filter];congr 1;refine QG fun p j=>?_;obtain⟨x,d,j⟩:=Qv.1 j;have D:=(LJ j).2.1;have E:=C x d;rw[Function.comp_def];dsimp only;rw[QP];simp only[Qw,QF,<-Q9,QS];rw[JR (by omega),JR (by omega)];constructor
 ·intro h;exact⟨fun hm=>h ⟨_,Qx.2 (Qj (Qu.2 ⟨_,hm,rfl⟩)),rfl,by show _<_;omega⟩,fun ⟨e,c,m⟩=>h ⟨e,Qx.2 (Qh c),m⟩⟩
 ·rintro⟨m,y⟩ ⟨e,c,o,B⟩;rcases Qx.1 c with c | c
  ·exact y ⟨e,c,o,B⟩
  ·obtain⟨z,v,rfl⟩:=Qu.1 c;exact m (by rw[<-o];exact v)
theorem aS {β:Type} (φ:ByteArray->List β) {s m:St} {ds:List Dr} {ps:List ByteArray} (o:Puts s ds m ps) (p:B7 s):(∀d∈ds,Bw d.1)->∀ {fs:List Fl},Fils ds ps fs->∀ {s2:St},(∀x t,AN m x t->AN s2 x t)->(fs.flatMap fun f=>φ (Ba s2.obs f.1).1)=ds.flatMap fun d=>φ d.2.2:=by
 induction o with
 | nil =>
  intro _ fs j s2 _;rw[L4 j];rfl
 | @step ds t ps d h1 h2 ih =>
  intro g fs j s2 i;obtain⟨q,rfl,l,n⟩:=Np j;have b:∀d∈ds,Bw d.1:=fun x hx=>g x (Qx.2 (Qh hx));have c:=(h1.gw p b).good;have k:Bw (d.1++Ab (itoa (Ag t))):=JD _ _ (g d (by simp));rw[Qt,Qt,ih b l (fun x u hx=>i x u ((JC c d.2.2 k).old _ _ hx)),Q6,Q6,(L6 n).1];have:=i _ _ (K2 c h2).1;rw[this]
theorem R6 {s l:St} {ds:List Dr} {ps:List ByteArray} (m:Puts s ds l ps):∀ {fs:List Fl},Fils ds ps fs->∀f∈fs,∃d∈ds,∃n,f.1=d.1++Ab (itoa n):=by
 induction m with
 | nil =>
  intro fs c f b;rw[L4 c]at b;cases b
 | @step ds t ps d h1 h2 ih =>
  intro fs c f b;obtain⟨o,rfl,i,j⟩:=Np c;rcases Qx.1 b with b | b
  ·obtain⟨e,k,g⟩:=ih i f b;exact⟨e,Qx.2 (Qh k),g⟩
  ·rw[Qo]at b;subst b;exact⟨d,by simp,Ag t,(L6 j).1⟩
theorem R7 {f:Fl} (h:Au f=0) {r:List UInt8} :(f.1.data.toList= [100,97,116,97,47]++r->f.2.1.data.toList≠ [45])/\(f.1.data.toList= [103,111,110,101,47]++r->f.2.1.data.toList= [45]):=by
 obtain⟨g,n,d,i,-⟩:=D0 h;have b:=(Ew d).1;have c:=Lq i;constructor
 ·intro e;rw[e]at b
  cases g with
  | false=>intro j;have:=c.1 j;cases this
  | true=>simp [AH,Ef]at b
 ·intro e;rw[e]at b
  cases g with
  | true=>exact c.2 rfl
  | false=>simp [AH,Ee]at b
theorem N5 (a b:ByteArray):(a++b).data.toList=a.data.toList++b.data.toList:=by simp
theorem R8 {k b:Lk} {ds:List Dr} {c:Int} (hi:Av k) (h:Fm k b ds [] c) (o:∀d∈ds,Bw d.1):∃fs:List Fl,b.now.2.2.2.2.2.2.Perm (k.now.2.2.2.2.2.2++fs.map fun f=>Bk f (k.now.2.2.1+1))/\(∀f∈fs,Au f=0/\∃d∈ds,∃n,f.1=d.1++Ab (itoa n))/\(∀ {β:Type} (φ:ByteArray->List β),(fs.flatMap fun f=>φ (Ba b.st.obs f.1).1)=ds.flatMap fun d=>φ d.2.2)/\b.now.2.2.2.2.1=c:=by
 obtain⟨u,v,fs,i,j,s,t,g,-,-,-,-,l,-⟩:=h;obtain⟨-,-,-,-,m⟩:=Jz t;rw[m]at g;have p:b.now.2.2.2.2.2.2=CH (k.now,fs, []) k.now:=by rw[g];rfl
 refine⟨fs,?_,fun f hff=>⟨s.adds f hff,R6 i j f hff⟩,fun φ=>aS φ i hi.good o j l,by rw[g];rfl⟩;rw[p];have q:BA (k.now,fs, []) k.now=k.now.2.2.2.2.2.2:=QR.2 fun f _=>rfl;have r:Bd (k.now,fs, []) k.now=fs.map fun f=>Bk f (k.now.2.2.1+1):=rfl;have:(CH (k.now,fs, []) k.now).Perm (BA (k.now,fs, []) k.now++Bd (k.now,fs, []) k.now):=Jw (Bd (k.now,fs, []) k.now) (BA (k.now,fs, []) k.now);rw[q,r]at this;exact this
theorem R9 {obs:List Ob} {f:Fl} (h:(Aj obs f).1=0):(Aj obs f).2=(Ba obs f.1).1:=by
 unfold Aj at h ⊢
 repeat' split at h
 all_goals first | (rename_i b c d;rw[if_neg b,if_neg c,if_neg d]) | skip
 all_goals simp_all
theorem aT {β:Type} (l:List β):∀n:Nat,((List.range n).flatMap fun i=>(l.drop (i*40)).take 40)=l.take (n*40)
 | 0=>by simp
 | n+1=>by
  rw[List.range_succ,Qt,aT l n,Q6,Nat.add_mul,Nat.one_mul,List.take_add]
theorem zd2 (gs:List Gk):((Cr gs).flatMap (·.2)).Perm (gs.flatMap fun g=>g.2.2):=by
 induction gs with
 | nil=>exact List.Perm.refl _
 | cons g r ih =>
  have e:Cr (g :: r)=((DN ((g.2.2.length+39) / 40)).map fun i=>(g.1,((A3 g.2.2).drop i).take 40))++Cr r:=rfl;rw[e,Qt,Q0];refine List.Perm.append ?_ ih;have b:(((DN ((g.2.2.length+39) / 40)).map fun i=>(g.1,((A3 g.2.2).drop i).take 40)).flatMap (·.2))=A3 g.2.2:=by
   unfold DN;rw[QA,QA];rw[aT (A3 g.2.2) ((g.2.2.length+39) / 40)];exact List.take_of_length_le (by rw[G3];omega)
  rw[b];exact Dy _
theorem aU {xs:List Rw} (h:DM xs):(Bn (Ab (EY (A3 xs))).data.toList).1=A3 xs:=by
 rw[BT,S5 (A3 xs) (fun x hx=>h.2 x ((Dy xs).mem_iff.1 hx)) (by rw[G3];exact h.1) (Tl xs)]
theorem aV:∀cs:List (ByteArray×List Rw),(cs.flatMap fun c=>A3 c.2).Perm (cs.flatMap (·.2))
 | []=>List.Perm.refl _
 | c :: r=>by
  rw[Q0,Q0];exact(Dy _).append (aV r)
theorem zd3 {b:ByteArray} {xs:List Rw} {ds:List Dr} (h:IQ b xs ds) (o:Iu b xs):(ds.flatMap fun d=>(Bn d.2.2.data.toList).1).Perm xs/\∀d∈ds,d.1=⟨#[100,97,116,97,47]⟩:=by
 obtain⟨f,i,j,rfl⟩:=h;constructor
 ·rw[QA];rw[EV (g:=fun c:ByteArray×List Rw=>A3 c.2) fun c hc=>?_]
  ·refine(aV _).trans ((zd2 _).trans ?_);rw[QA];exact WX _ xs f i j
  ·obtain⟨g,k,q,l,m⟩:=aD hc;obtain⟨r,p,rfl⟩:=Qu.1 k;exact aU ⟨m,fun x hx=>o.2 x (List.mem_filter.1 (l x hx)).1⟩
 ·intro d n;obtain⟨c,-,rfl⟩:=Qu.1 n;rfl
def AU (k:Lk):List Rw:=(AR k.st.obs k.now Be Bf).1
theorem FV {k:Lk} (hi:Av k):AR k.st.obs k.now Be Bf=(AU k,0,I)/\AU k=A3 (DO k.st.obs k.now.2.2.2.2.2.2):=by
 unfold AU;rw[R3 hi.now.fine hi.now.files];exact⟨rfl,rfl⟩
theorem JS {k:Lk} (hi:Av k):∀f∈k.now.2.2.2.2.2.2,0<=f.2.2.2.2.2/\f.2.2.2.2.2<=k.now.2.2.1:=fun f hf=>by
 have c:=(K0.1 hi.now.fine).2.2.2 f hf;obtain⟨g,n,-,-,b⟩:=D0 ((Fg hi.now.fine).2.1 f hf).1;unfold Db Do at b;simp only[Qw,decide_eq_true_eq]at b;omega
theorem RA {k:Lk} (hi:Av k):0<=k.now.2.2.1:=by
 have h:=(K0.1 hi.now.fine).1;unfold Ey at h;simp only[Qw,decide_eq_true_eq]at h;omega
theorem aW {k c:Lk} {ds:List Dr} {j:Int} {xs:List Rw} (hi:Av k) (h:Fm k c ds [] j) (i:IL k c) (o:∀d∈ds,Bw d.1) (E:IQ k.spec xs ds) (F:Iu k.spec xs):(AU c).Perm (AU k++xs)/\c.now.2.2.2.2.1=j:=by
 obtain⟨q,l,s,u,v⟩:=R8 hi h o;obtain⟨y,z⟩:=zd3 E F;refine⟨?_,v⟩;rw[(FV i.lki).2,(FV hi).2];have p:=JS i.lki;refine(Dy _).trans ((R4 l fun f b=>(p f b).1).trans ?_);rw[aR (n:=k.now.2.2.1) (fun f b=>IJ i.old (hi.now.files f b)) (fun f b=>(JS hi f b).2) (RA hi) ?_]
 ·refine(Dy _).symm.append ?_;have e:((q.map fun f=>Bk f (k.now.2.2.1+1)).flatMap fun f=>(Bn (Aj c.st.obs f).2.data.toList).1)=ds.flatMap fun d=>(Bn d.2.2.data.toList).1:=by
   rw[<-u fun t=>(Bn t.data.toList).1,QA];refine EV fun f b=>?_;rw[R9 (i.lki.now.files _ (l.mem_iff.2 (Qx.2 (Qj (Qu.2 ⟨f,b,rfl⟩)))))];rfl
  rw[e];exact y
 ·intro f b;obtain⟨g,B,rfl⟩:=Qu.1 b;obtain⟨C,d,m,n,D⟩:=s g B;refine⟨(R7 C (r:=(Ab (itoa n)).data.toList)).1 (by rw[D,N5,z d m]),?_⟩;show _<=k.now.2.2.1+1;omega
theorem aX {k b:Lk} {m:Int} {zs:List Int} (hi:Av k) (h:Fm k b (Eb zs) [] m) (c:IL k b) (Q:∀z∈zs,Aq z=Qn) (v:(A9 zs).length<=40):(AU b).Perm ((AU k).filter fun r=> !zs.contains r.2.1)/\b.now.2.2.2.2.1=m:=by
 obtain⟨j,u,p,K,L⟩:=R8 hi h N4;refine⟨?_,L⟩;rw[(FV c.lki).2,(FV hi).2,<-UW];have y:=JS c.lki;refine(Dy _).trans ((R4 u fun f hf=>(y f hf).1).trans ?_);refine List.Perm.trans ?_ (Dy _).symm;by_cases o:A9 zs= []
 ·have B:j= []:=by
   rcases j with _ | ⟨f,r⟩
   ·rfl
   ·obtain⟨-,d,q,-⟩:=p f Q3;unfold Eb at q;rw[if_pos o]at q;cases q
  have C:∀r:Rw,zs.contains r.2.1=Qk:=fun r=>by
   rw[<-Q9,QS,<-KN zs,o];simp
  rw[B,List.map_nil,QQ,QR.2 fun r _=>by rw[C];rfl];unfold DO;rw[EV (f:=BI b.st.obs) (g:=BI k.st.obs) fun x hx=>(Ht (IJ c.old (hi.now.files x hx))).2,EV (f:=Ck b.st.obs) (g:=Ck k.st.obs) fun x hx=>(Ht (IJ c.old (hi.now.files x hx))).1]
 ·have D:Eb zs= [(⟨#[103,111,110,101,47]⟩,⟨#[45]⟩,Ab (DS (A9 zs)))]:=by unfold Eb;rw[if_neg o]
  have i:=K fun t=> [t];rw[D]at i p;obtain⟨f,rfl,M⟩:∃f,j= [f]/\(Ba b.st.obs f.1).1=Ab (DS (A9 zs)):=by
   rcases j with _ | ⟨f,_ | ⟨g,r⟩⟩
   ·simp at i
   ·exact⟨f,rfl,by simpa using i⟩
   ·simp at i
  obtain⟨N,d,l,n,P⟩:=p f Q3;rw[Qo]at l;subst l;have E:f.2.1.data.toList= [45]:=(R7 N (r:=(Ab (itoa n)).data.toList)).2 (by rw[P,N5]);have s:=c.lki.now.files (Bk f (k.now.2.2.1+1)) (u.mem_iff.2 (by simp));rw[QY,zd1 (g:=Bk f (k.now.2.2.1+1)) (n:=k.now.2.2.1) (fun f hf=>IJ c.old (hi.now.files f hf)) (JS hi) ⟨E,by show k.now.2.2.1<k.now.2.2.1+1;omega⟩,R9 s];have F:(B8 (Ba b.st.obs (Bk f (k.now.2.2.1+1)).1).1.data.toList).1=A9 zs:=by
   rw[show (Ba b.st.obs (Bk f (k.now.2.2.1+1)).1).1=Ab (DS (A9 zs)) from M,BT,(Nq Q v).2]
  rw[F];rw[QG fun r hr=>?_];rw[QP];simp only[QF,<-Q9,QS];rw[KN]
theorem zd4 {s f:St} {d:Dr} {ps:List ByteArray} (h:Puts s [d] f ps):f=B3 s (d.1++Ab (itoa (Ag s))) d.2.2/\ps= [d.1++Ab (itoa (Ag s))]/\BM s (d.1++Ab (itoa (Ag s))) d.2.2=0:=by
 generalize b: [d]=D at h
 cases h with
 | nil=>simp at b
 | @step ds t ps d' h1 h2 =>
  obtain⟨g,i⟩:=List.append_inj' (s₁:= []) (t₁:= [d]) b rfl;cases i
  subst g;generalize c:([]:List Dr)=D at h1
  cases h1 with
  | nil=>exact ⟨rfl,rfl,h2⟩
  | step d h1 h2=>simp at c
theorem zd5 {d:Dr} {p:ByteArray} {b:List Fl} (h:Fils [d] [p] b):b= [(Cz p d).1]/\(Cz p d).2=0:=by
 obtain⟨g,rfl,c,f⟩:=Np (ds:= []) (ps:= []) h;rw[L4 c];exact⟨rfl,f⟩
theorem aY {f:Fl} (h:Au f=0) {n:Int} (i:1<=n) (j:n<=1073741824):Au (Bk f n)=0:=by
 obtain⟨g,m,c,d,b⟩:=D0 h;unfold Au;rw[show (Bk f n).1=f.1 from rfl,c];dsimp only;rw[if_pos (show Dz g (Bk f n).2.1.data.toList=Qn from d)];unfold Db Do at b ⊢;rw[if_pos ?_];show (decide (1<=f.2.2.1) && decide (f.2.2.1<=40) && Aq f.2.2.2.1 && Aq f.2.2.2.2.1 && decide (f.2.2.2.1<=f.2.2.2.2.1) && (decide (1<=n) && decide (n<=1073741824)))=Qn;simp only[Qw,decide_eq_true_eq]at b ⊢;exact⟨b.1,i,j⟩
theorem aZ {k:Lk} {d:Dr} {q:Int} (hi:Av k) (X:Rm 3 k.st) (c:Ea d.1) (ht:d.2.2.size<=20000) (ae:Bw d.1) (D:(Cz (d.1++Ab (itoa (Ag k.st))) d).2=0) (hl:k.now.2.2.2.2.2.2.length<=59) (al:k.ids.length<=39) (hs:k.now.2.2.1<=1000) (hx:0<=q/\q<=1073741824):JH k [d] [] q:=by
 obtain⟨P,B⟩:∃p,d.1++Ab (itoa (Ag k.st))=p:=⟨_,rfl⟩;rw[B]at D;obtain⟨F,C⟩:∃f,(Cz P d).1=f:=⟨_,rfl⟩;have s:Au F=0:=by
  obtain⟨g,m,-,-,-,h4⟩:=L3 D;rw[<-C];exact h4
 have Y:F.1=P:=by rw[<-C];exact(L6 D).1
 have ah:F.2.2.2.2.2=1:=by
  obtain⟨g,m,-,-,v,-⟩:=L3 D;rw[<-C,show (Cz P d).1=_ from v]
 have j:=RA hi;have ai:=It k.st;have ag:=X.num;have t:Gt P=Ag k.st:=by
  rw[<-B];exact PA c (EI _ (by omega) (by omega))
 have E:∀g∈k.now.2.2.2.2.2.2,g.1≠F.1:=fun g W e=>by
  obtain⟨o,R,r⟩:=PB (MX (hi.now.files g W));have b:=Lv R;rw[r,e,Y,t]at b;omega
 have af:k.now.1<Ag k.st:=Lx hi.good.keeps Nb hi.now.has;refine⟨X,fun e he=>by rw[Qo.1 he];exact⟨c,ht⟩,fun s1 ps hp=>?_⟩;obtain⟨r,T,e3⟩:=zd4 hp;rw[B]at r T e3;have aa:Bw P:=by rw[<-B];exact JD _ _ ae
 have ab:Gw k.st s1:=by rw[r];exact JC hi.good d.2.2 aa
 have ac:Rm 2 s1:=by
  have:=(Ly (n:=2) X c ht).2;rw[B,<-r]at this;exact this
 have aj:Ag k.st<Ag s1:=by
  have b:AN s1 P d.2.2:=by rw[r];exact(K2 hi.good e3).1
  obtain⟨o,R,e4⟩:=PB b;have:=Lv R;rw[e4,t]at this;exact this
 have ak:=ac.num;refine⟨⟨rfl,fun i fs d' p' b L v=>?_⟩,fun fs hfs=>?_⟩
 ·rw[T]at L v
  cases i with
  | zero =>
   simp only[List.getElem?_cons_zero,Option.some.injEq]at b L;subst b L;have:fs= []:=L4 (by simpa using v);subst this;refine⟨D,?_⟩;rw[C];unfold FA;rw[if_neg (by rw[aY s (by omega) (by omega)];simp)];rfl
  | succ i=>simp at b
 ·rw[T]at hfs;obtain⟨rfl,-⟩:=zd5 hfs;rw[C];have M:FC (k.now, [F], []) k.now=Qk:=by
   unfold FC;simp only[List.any_cons,List.any_nil,Bool.or_false];exact O7.2 E
  have N:Cn (k.now, [F], []):=⟨hi.now.fine,fun f c=>by rw[Qo.1 c];exact s,by simp,by simp,by simp⟩;have ad:=Ub N hi.now.fine M;have l:∀f∈CH (k.now, [F], []) k.now,Au f=0/\f.2.2.2.2.2<=k.now.2.2.1+1:=fun f c=>by
   rcases OC.1 c with⟨b,-⟩ | b
   ·have:=JS hi f b;exact⟨((Fg hi.now.fine).2.1 f b).1,by omega⟩
   ·obtain⟨g,W,rfl⟩:=Qu.1 b;rw[Qo.1 W];exact⟨aY s (by show 1<=k.now.2.2.1+1;omega) (by show k.now.2.2.1+1<=1073741824;omega),Q8 _⟩
  have Q:(CH (k.now, [F], []) k.now).length<=60:=by
   have:=lJ N hi.now.fine (by rfl);simp only[QU,QI]at this;omega
  have u:=ab.good.keeps;have K:(Am (FB (k.now, [F], []) k.now (Ag s1) s1.day q)).1=0:=by
   refine K0.2 ⟨?_,?_,GW.2 ⟨Q,fun f c=>⟨(l f c).1,?_⟩,ad⟩,fun f c=>(l f c).2⟩
   ·unfold Ey FB;dsimp only;simp only[Qw,decide_eq_true_eq];have b:=(Ng hi.now.fine);have L:=u.day0;have v:=u.day1;omega
   ·unfold Cv FB I8;dsimp only;rw[if_neg (by simp)];split
    ·decide
    ·decide
   ·exact SG (by obtain⟨g,n,b,-⟩:=D0 (l f c).1;rw[b];simp)
  constructor
  ·unfold Dg;rw[if_neg (by rw[hi.now.fine];simp),if_neg (by simp[Jv]),if_neg (by rw[M];simp)];exact K
  ·unfold E9;rw[if_neg (by rw[hi.ids];simp)];obtain⟨g1,g2,g3,g4⟩:=DA.1 hi.ids;refine DA.2 ⟨by simp,by simp;omega,fun z j=>?_,?_⟩
   ·rcases Qx.1 j with j | j
    ·exact g3 z j
    ·rw[Qo.1 j];unfold CT;simp only[Qw,decide_eq_true_eq];omega
   ·rw[List.pairwise_append];refine⟨g4,by simp,fun z j y hy=>?_⟩;rw[Qo.1 hy];obtain⟨x,hx⟩:=hi.snaps z j;have:=Lx hi.good.keeps Nb hx.has;omega
abbrev LK:ByteArray:=⟨#[112,97,114,116]⟩
theorem RB:A5 LK.data.toList=(0,0,0):=by decide
theorem bA {n:Nat} (h:n<=13):Rm n (Bq E1):=⟨rfl,rfl,by show 0+n<=200;omega,by show 0+n*20000<=262144;omega,by show (1:Int)+n<=1000000;omega⟩
theorem zd6:PR E1 LK:=⟨by rw[RB],fun _=>bA (by omega)⟩
theorem bC {n:Int} (c:1<=n) (d:n<=1073741824) (g:Bool) {f:ByteArray} (b:f.data.toList=AH g++ [47]):AB (f++Ab (itoa n)).data.toList=S (g,n):=by
 have h:=Mg g (itoa n);have e:(f++Ab (itoa n)).data.toList=AH g++47 :: itoa n:=by rw[N5,b,BT];simp
 rw[e,h];unfold Ev Do;rw[EX n (by omega) (by omega)];dsimp only;rw[if_pos (by simp only[Qw,decide_eq_true_eq];omega)];rfl
theorem bE:DM BX:=⟨by decide,Rh⟩
theorem zd7 {n:Int} (d:1<=n) (g:n<=1073741824):(Cz ((CX Eo BX).1++Ab (itoa n)) (CX Eo BX)).2=0:=by
 have b:=bC d g Qk (f:=⟨#[100,97,116,97,47]⟩) rfl;show (B1 (⟨#[100,97,116,97,47]⟩++Ab (itoa n)) Eo (Ab (EY (A3 BX))).data.toList 1).2=0;have c:Bp Qk (Ab (EY (A3 BX))).data.toList=([1,2],0):=by
  show (BG (Bn (Ab (EY (A3 BX))).data.toList).1,(Bn (Ab (EY (A3 BX))).data.toList).2.1)=_;rw[BT,Ri,S5 BX Rh (by decide) (by have:=Tl BX;rw[Ri]at this;exact this)];rfl
 rw[ME b,c,if_pos rfl];unfold Eg;rw[if_pos];unfold Au;dsimp only;rw[b];rfl
theorem zd8 {n:Int} (d:1<=n) (g:n<=1073741824) {t:ByteArray} (i:B8 t.data.toList=([2],0,I)):(Cz ((⟨#[103,111,110,101,47]⟩:ByteArray)++Ab (itoa n)) (⟨#[103,111,110,101,47]⟩,Rg,t)).2=0:=by
 have b:=bC d g Qn (f:=⟨#[103,111,110,101,47]⟩) rfl;show (B1 (⟨#[103,111,110,101,47]⟩++Ab (itoa n)) Rg t.data.toList 1).2=0;have c:Bp Qn t.data.toList=([2],0):=by
  show ((B8 t.data.toList).1,(B8 t.data.toList).2.1)=_;rw[i]
 rw[ME b,c,if_pos rfl];unfold Eg;rw[if_pos];unfold Au;dsimp only;rw[b];rfl
theorem bF {ds:List Dr} (h:IQ LK BX ds):ds= [CX Eo BX]:=by
 obtain⟨c,g,i,rfl⟩:=h;rw[RB]at i ⊢;have f:∀nm:List UInt8,grp (D1 0 0) BX nm=if nm= [97] then BX else []:=fun nm=>by
  unfold grp;by_cases e:nm= [97]
  ·subst e;rw[if_pos rfl];rfl
  ·rw[if_neg e];rw[List.filter_eq_nil_iff];intro x d;have:D1 0 0 x=Eo:=by
    rcases QX.1 d with rfl | d
    ·rfl
    ·rw[Qo.1 d];rfl
   rw[this];simp only[decide_eq_true_eq];exact fun e'=>e e'.symm
 have j:c= [[97]]:=by
  have b:∀nm,nm∈c↔nm= [97]:=fun nm=>by
   rw[i,f];split
   ·rename_i e;simp[e]
   ·rename_i e;simp[e]
  rcases c with _ | ⟨t,_ | ⟨u,r⟩⟩
  ·have:=(b [97]).2 rfl;simp at this
  ·rw[(b t).1 Q3]
  ·have k:=(b t).1 Q3;have l:=(b u).1 (by simp);rw[k,l]at g;simp at g
 subst j;rw[QY,f,if_pos rfl];unfold Cr DN;simp only[Q6];rw[Ri];rfl
theorem zd9 {k b:Lk} {ds:List Dr} {j:Int} (hi:Av k) (h:Fm k b ds [] j) (c:∀d∈ds,Bw d.1/\Ea d.1/\d.2.2.size<=20000):b.now.2.2.2.2.2.2.length=k.now.2.2.2.2.2.2.length+ds.length/\b.now.2.2.1=k.now.2.2.1+1/\∀n,Rm (ds.length+(n+2)) k.st->Rm n b.st:=by
 obtain⟨q,l,-,m,-⟩:=R8 hi h fun d hd=>(c d hd).1;obtain⟨r,s,u,o,v,y,p,f,-,-,-,-,-,-,-,g⟩:=h;obtain⟨-,-,-,-,i⟩:=Jz p;rw[i]at f;refine⟨?_,by rw[f];rfl,fun n hr=>g n (o.rm hr fun d hd=>(c d hd).2)⟩;have e:=congrArg QT (m fun t=> [t]);simp only[List.length_flatMap,List.length_singleton,List.map_const',List.sum_replicate_nat,Nat.mul_one]at e;rw[l.length_eq,Q1,Q2,e]
theorem ze0 {k:Lk} (hi:Av k) (i:k.ids.length=1) (j:k.now.2.2.2.2.2.2= []) (p:k.now.2.2.1=0) (b:k.spec=LK) (c:Rm 11 k.st):Iv k 1 BX:=by
 refine⟨rfl,⟨by rw[b,RB],Rh⟩,Qj fun ds hd=>?_⟩;rw[b]at hd;rw[bF hd];have d:=It k.st;have l:=c.num;obtain⟨f,g,m,n,o⟩:=Rz (nm:=Eo) (by decide) bE;exact aZ hi (c.le (by omega)) f (by omega) g (zd7 d.1 (by omega)) (by rw[j];simp) (by omega) (by omega) (by omega)
theorem ze1 {k f:Lk} {m:Int} (hi:Av k) (M:k.ids.length=1) (B:k.now.2.2.2.2.2.2= []) (hs:k.now.2.2.1=0) (C:k.now.2.2.2.2.1=0) (i:k.spec=LK) (N:Rm 11 k.st) (h:GQ k 1 BX f m):m=2/\Av f/\G0 f 2 [2]/\(AU f).Perm BX/\f.now.2.2.2.2.1=1:=by
 obtain⟨-,u,⟨Q,-⟩|⟨-,F,R,g,p⟩⟩:=h
 ·omega
 have j:=fun d hd'=>((Nz g u (by decide)).2 d hd').2.1;have b:=p.all hi j;have c:=aW hi p b j g u;rw[i]at g;have l:=bF g;obtain⟨K,L,T,W,X⟩:=Rz (nm:=Eo) (by decide) bE;obtain⟨v,Y,y⟩:=zd9 hi p (fun d hd'=>by rw[l,Qo]at hd';rw[hd'];exact⟨L,K,by omega⟩);rw[l]at v y;have n:Rm 8 f.st:=y 8 N;have D:AU k= []:=by
  rw[(FV hi).2,B];exact List.length_eq_zero_iff.1 (by rw[G3];rfl)
 rw[D,List.nil_append]at c;have q:∀z∈ [(2:Int)],Aq z=Qn:=by decide
 have o:(A9 [2]).length<=40:=by rw[Nt];decide
 refine⟨by rw[F];rfl,b.lki,⟨rfl,o,q,Qj ?_⟩,c.1,c.2⟩;have r:Eb [2]= [(⟨#[103,111,110,101,47]⟩,Rg,Ab (DS [2]))]:=by
  unfold Eb;rw[Nt,if_neg (by simp)]
 rw[r];have E:=It f.st;have P:=n.num;have s:=Nq q o;rw[Nt]at s;have t:(Ab (DS [2])).size<=20000:=by
  rw[EK];have:=Mf Jh [2] (fun x C=>by rw[Qo.1 C];show Aq 2=Qn;decide) (by decide);have e:(DS [2]).length<=1400:=this;omega
 exact aZ b.lki (n.le (by omega)) tA t (N4 (zs:= [2]) _ (by rw[r];exact Qo.2 rfl)) (zd8 E.1 (by omega) (by rw[BT];exact s.2)) (by rw[v,B];simp) (by rw[b.ids];simp;omega) (by omega) (by omega)
theorem bG {k c:Lk} {m:Int} (hi:Av k) (q:k.now.2.2.2.2.1=1) (o:(AU k).Perm BX) (h:FS k 2 [2] c m):m=1/\Av c/\AR c.st.obs c.now 0 9=([(Eo,1,5)],0,I):=by
 obtain⟨-,g,l,⟨p,-⟩|⟨-,n,i⟩⟩:=h
 ·omega
 have b:=i.all hi N4;have d:=(aX hi i b l g).1.trans (o.filter _);have j:AU c= [(Eo,1,5)]:=List.perm_singleton.1 d;have f:=(FV b.lki).1;refine⟨by rw[n,Nt];rfl,b.lki,?_⟩;rw[oP (by unfold Be;omega) (by unfold Bf;omega) (by rw[f])];rw[f,j];rfl
attribute [local go_sem] QE
theorem bH:B7 E1:=⟨fQ,fun _ h=>(nomatch h),oD⟩
theorem ze2 (w:Qf):Ap (w.alloc (Qg #[Qb ⟨#[97]⟩,O U 1,O U 5,Qb ⟨#[97]⟩,O U 2,O U 6] 62)) (Qa (S ⟨w.heap.size,0,I⟩) 2 2) BX:=by
 refine Qj ⟨w.heap.size,0,2,rfl,fun j hj=>?_⟩;rw[Qp _ _ _ _ _ _ (Qr _ _),Qp _ _ _ _ _ _ (Qr _ _),Qp _ _ _ _ _ _ (Qr _ _)]
 match j,hj with
 | 0,_=>exact ⟨rfl,rfl,rfl⟩
 | 1,_=>exact ⟨rfl,rfl,rfl⟩
theorem ze3 (w:Qf):Ap (w.alloc (Qg #[Qb ⟨#[97]⟩,O U 1,O U 5] 62)) (Qa (S ⟨w.heap.size,0,I⟩) 1 1) [(Eo,1,5)]:=by
 refine Qj ⟨w.heap.size,0,1,rfl,fun j hj=>?_⟩;rw[Qp _ _ _ _ _ _ (Qr _ _),Qp _ _ _ _ _ _ (Qr _ _),Qp _ _ _ _ _ _ (Qr _ _)]
 match j,hj with
 | 0,_=>exact ⟨rfl,rfl,rfl⟩
theorem ze4 (w:Qf):A4 (w.alloc (Qg #[O U 2] 3)) (Qa (S ⟨w.heap.size,0,I⟩) 1 1) [2]:=by
 refine Qj ⟨w.heap.size,0,1,rfl,fun j hj=>?_⟩;rw[Qp _ _ _ _ _ _ (Qr _ _)]
 match j,hj with
 | 0,_=>rfl
section
variable {a : Nat → Qs} {B : Nat} {EM : Qf → Prop}
def Es (D:Nat) (X:Qf) (kb:Nat) (vs:A) (k:Lk):Prop:=D<=kb/\∃SP vi vf,Al X kb vs SP k.st.head vi vf k/\Av k/\∀j,SP j->D<=j
theorem Es.quiet (K:A2 a B EM An) {D:Nat} {X Y:Qf} {b:Nat} {c:A} {k:Lk} (h:Es D X b c k) (n:BL X Y):Es D Y b c k:=by
 obtain⟨d,f,g,i,j,l,m⟩:=h;exact⟨d,f,g,i,j.quiet K n,l,m⟩
theorem Es.op {D:Nat} {W X w':Qf} {c:Nat} {l:A} {n:Nat->Prop} {k:Lk} {Q:Lk->Int->Prop} {G:Prop} {e:QM} (t:D<=X.heap.size) (u:Below D W X) (o:D<=c) (b:∀j,n j->D<=j) (h:Bh X c l n k Q G e w') (v:∀k' m,Q k' m->Av k') (y:G):∃k' m,e=V (Qc #[O U m,Qi])/\Q k' m/\Es D w' c l k'/\Below D W w':=by
 obtain⟨d,f,g,k',m,z,rfl,p,q,⟨r,-⟩,⟨-,s,-⟩|⟨rfl,i⟩⟩:=h
 ·exact absurd y s
 ·exact⟨k',m,rfl,i,⟨o,d,f,g,r,v _ _ i,fun j hj=>(q j hj).elim (b j) (fun h=>by omega)⟩,u.trans (p.below t (fun j hj=>hj.elim (b j) (fun e=>by omega)))⟩
theorem bI (K:A2 a B EM An) (T:∀X,EM X->AX X a) {W:Qf} (Y:EM W) :
  Qd Qe 6 #[] W fun e w'=>e=V (.bool Qn)/\BL W w':=by
 have t:H (∀X,BL W X->EM X):=fun X hb=>K.below _ _ Y (hb.mono (K.size _ Y));have u:=K.size _ Y;have aa:=K.new W Y;have ab:H (∀X d z,BL W X->An X d z E1->(∀j,z j->W.heap.size<=j)->Qd Qe 8 #[d,Qb ⟨#[112,97,114,116]⟩] X fun e w'=> ∃b k,e=V (Qc #[J (S ⟨b,0,I⟩),Qi])/\Es W.heap.size w' b d k/\BL W w'/\k.spec.size<=1000/\Iv k 1 BX/\∀k' m,GQ k 1 BX k' m->m=2/\Av k'/\G0 k' 2 [2]/\(AU k').Perm BX/\k'.now.2.2.2.2.1=1):=fun X d z hX p g=>by
  refine(Nn K T (t.out X hX) p bH (fun j hj=>Ql u (g j hj)) ⟨#[112,97,114,116]⟩ (by decide) (Qh ⟨rfl,by decide⟩)).mono ?_;rintro e w' ⟨n,vk,rfl,⟨-,-,a0,-⟩|⟨rfl,a1,b,vi,vf,k,rfl,i,f,s,⟨o,-⟩,h5,-,h6,-,h7⟩⟩
  ·exact absurd zd6 a0
  ·obtain⟨g1,y,-,g4⟩:=h7 rfl;have hr:Rm 11 k.st:=g4 11 (bA (by omega));have e1:k.ids.length=1:=by rw[g1];rfl
   have e2:k.now.2.2.2.2.2.2= []:=by rw[y];rfl
   have e3:k.now.2.2.1=0:=by rw[y];rfl
   have e4:k.now.2.2.2.2.1=0:=by rw[y];rfl
   exact⟨b,k,rfl,⟨Ql hX.size s,a1,vi,vf,o,h6,fun j hj=>(f j hj).elim (g j) (Ql hX.size)⟩,hX.trans (i.below hX.size g),by rw[h5];decide,ze0 h6 e1 e2 e3 h5 hr,fun k' m c=>ze1 h6 e1 e2 e3 e4 h5 hr c⟩
 have ac:H (∀X b d k vx,BL W X->Es W.heap.size X b d k->k.spec.size<=1000->Iv k 1 BX->(∀k' m,GQ k 1 BX k' m->Av k')->Ap X vx BX->Qd Qe 25 #[J (S ⟨b,0,I⟩),O U 1,vx] X fun e w'=> ∃k' m,e=V (Qc #[O U m,Qi])/\GQ k 1 BX k' m/\Es W.heap.size w' b d k'/\BL W w'):=fun X b d k vx hX hk hs hg c hx=>by
  obtain⟨i,z,vi,vf,f,s,o⟩:=hk;exact(aF K T (t.out X hX) f s ⟨by omega,fun j hj=>Ql u (o j hj)⟩ hs 1 hx (by decide) (by decide)).mono fun e w' ho=>Es.op hX.size hX i o ho c hg
 have ad:H (∀X b d k vx,BL W X->Es W.heap.size X b d k->G0 k 2 [2]->(∀k' m,FS k 2 [2] k' m->Av k')->A4 X vx [2]->Qd Qe 27 #[J (S ⟨b,0,I⟩),O U 2,vx] X fun e w'=> ∃k' m,e=V (Qc #[O U m,Qi])/\FS k 2 [2] k' m/\Es W.heap.size w' b d k'/\BL W w'):=fun X b d k vx hX hk hg c hx=>by
  obtain⟨i,z,vi,vf,f,s,o⟩:=hk;exact(VZ K T (t.out X hX) f s ⟨by omega,fun j hj=>Ql u (o j hj)⟩ 2 hx (by decide)).mono fun e w' ho=>Es.op hX.size hX i o ho c hg
 have ae:H (∀X b d k,BL W X->Es W.heap.size X b d k->AR k.st.obs k.now 0 9=([(Eo,1,5)],0,I)->Qd Qe 12 #[J (S ⟨b,0,I⟩),O U 0,O U 9] X fun e w'=> ∃l,e=V (Qc #[l,Qi])/\Ap w' l [(Eo,1,5)]/\BL W w'):=fun X b d k hX hk hr=>by
  obtain⟨i,z,vi,vf,f,s,o⟩:=hk;refine(Wc K T (t.out X hX) f s 0 9).mono ?_;rintro e w' ⟨⟨l,ev,rfl,g1,y,g3⟩,-⟩;rw[hr]at g1 y;have:=y.ok rfl;subst this;exact⟨l,rfl,g1,(Ad hX g3)⟩
 have ax:H (∀X v l,Ap X v [(Eo,1,5)]->Ap X l [(Eo,1,5)]->Qd Qe 17 #[v,l] X fun e w'=>e=V (.bool Qn)/\BL X w'):=fun X v l i f=>(Sd v l _ _ X i f (by decide) (by decide)).mono fun e w' ⟨i,f⟩=>⟨by rw[i];rfl,f⟩;have HK:H (A2 a B EM An):=K;clear K T Y u
 go_enter func6,ntmps6
 go_wp2_with fail
 refine aa.mono ?_;rintro e w1 ⟨d,FP,rfl,p,an,ao⟩;obtain⟨pt,rfl⟩:=HK.out.ptr _ _ _ _ p;have af:=ab.out w1 _ FP ao p an;clear aa p an ao
 go_wp2_with fail
 refine af.mono ?_;rintro e L ⟨b,k,rfl,M,N,g,P,Q⟩;have a2:H (Es W.heap.size L b (J (S pt)) k/\BL W L/\k.spec.size<=1000/\Iv k 1 BX):=⟨M,N,g,P⟩;have ay:H (∀k' m,GQ k 1 BX k' m->m=2/\Av k'/\G0 k' 2 [2]/\(AU k').Perm BX/\k'.now.2.2.2.2.1=1):=Q;have C:BL L (L.alloc (Qg #[Qb ⟨#[97]⟩,O U 1,O U 5,Qb ⟨#[97]⟩,O U 2,O U 6] 62)):=Af _ _;have ag:=ac.out _ b _ k _ (Ad N C) (M.quiet HK.out C) g P (fun k' m c=>(Q k' m c).2.1) (ze2 L);clear af M N g P Q C ab ac
 go_wp2_with fail
 refine ag.mono ?_;rintro e w3 ⟨k3,m3,rfl,c,ap,aq⟩;obtain⟨rfl,D,al,E,F⟩:=ay.out _ _ c;have q:BL w3 (w3.alloc (Qg #[O U 2] 3)):=Af _ _;have ah:=ad.out _ b _ k3 _ (Ad aq q) (ap.quiet HK.out q) al (fun k' m c=>(bG D F E c).2.1) (ze4 w3);have az:H (∀k' m,FS k3 2 [2] k' m->m=1/\Av k'/\AR k'.st.obs k'.now 0 9=([(Eo,1,5)],0,I)):=fun k' m c=>bG D F E c;clear ag c ap aq D al E F q ad
 go_wp2_with fail
 refine ah.mono ?_;rintro e w4 ⟨k4,m4,rfl,c,ar,au⟩;obtain⟨rfl,-,am⟩:=az.out _ _ c;have ai:=ae.out w4 b _ k4 au ar am;clear ah c ar au am ae
 go_wp2_with fail
 refine ai.mono ?_;rintro e w5 ⟨v5,rfl,R,av⟩;have r:BL w5 (w5.alloc (Qg #[Qb ⟨#[97]⟩,O U 1,O U 5] 62)):=Af _ _;have aj:=ax.out _ v5 _ (R.below r) (ze3 w5);have ak:H (BL W (w5.alloc (Qg #[Qb ⟨#[97]⟩,O U 1,O U 5] 62))):=Ad av r;obtain⟨q5,c5,rfl⟩:=R.form;clear ai R av r
 go_wp2_with fail
 refine aj.mono ?_;rintro e w6 ⟨rfl,aw⟩;have HP:H (BL W w6):=ak.out.trans (aw.mono ak.out.size);clear aj aw;go_wp2;go_ret;exact⟨rfl,HP.out⟩
end
end
section
section
variable {a : Nat → Qs} {B : Nat} {EM : Qf → Prop}
theorem ze5 (K:A2 a B EM An) {W:Qf} {kb:Nat} {vs:A} {SP:Nat->Prop} {hd:ByteArray} {vi vf:A} {k:Lk} (h:Al W kb vs SP hd vi vf k) (hi:Av k) :
  Qd Qe 11 #[J (S ⟨kb,0,I⟩)] W fun e w'=> ∃vg,e=V (A8 k.now vg)/\Ai w' vg k.now.2.2.2.2.2.2/\F9 W vg/\BL W w':=by
 obtain⟨pt,rfl⟩:=h.ptr K;have ad:=(JG hi.now.fine).1;obtain⟨q,c,ak⟩:=h.fls.form;subst ak;have ae:H (∀X,BL W X->Qd Qe 39 #[Qa q k.now.2.2.2.2.2.2.length c] X fun e w'=> ∃v',e=V v'/\Ai w' v' k.now.2.2.2.2.2.2/\F9 X v'/\BL X w'):=fun X hb=>(MC _ k.now.2.2.2.2.2.2 X (h.fls.below hb) (by omega)).mono fun e w' ⟨v',e1,e2,e3⟩=>⟨v',e1,(GA e2).1,fun j hj=>(A7 e2 hj).1,e3⟩;obtain⟨c0,-,-,-,c4,d,c6,c7,c8,c9,R,-⟩:=h.blk.cells;generalize k.now=x at *;obtain⟨m,n,o,p,r,t,f⟩:=x;generalize hL:f.length=L at *;clear h hi ad hL;have b:BL W (W.alloc (Qg #[O U 0,O U 0,O U 0,O U 0,O U 0,Qb ⟨#[]⟩,Qa I 0 0] 40)):=Af _ _;have D:Ao (W.alloc (Qg #[O U 0,O U 0,O U 0,O U 0,O U 0,Qb ⟨#[]⟩,Qa I 0 0] 40)) W.heap.size AE (Qa I 0 0):=Ao.new W AE (Qa I 0 0)
 go_enter func11,ntmps11
 go_upto_region 1 with fail
 generalize W.alloc (Qg #[O U 0,O U 0,O U 0,O U 0,O U 0,Qb ⟨#[]⟩,Qa I 0 0] 40)=u at b D ⊢;replace c0:=Aa b c0;replace c4:=Aa b c4;replace d:=Aa b d;replace c6:=Aa b c6;replace c7:=Aa b c7;replace c8:=Aa b c8;replace c9:=Aa b c9;replace R:=Aa b R;have af:=GN c0
 go_wp2_with fail
 refine af.mono ?_;rintro e w1 ⟨rfl,e1⟩;rw[e1];have y:=Ao.new u (m,n,o,p,r,t,f) (Qa q L c);have l:BL u (u.alloc (Qg #[O U m,O U n,O U o,O U p,O U r,Qb t,Qa q L c] 40)):=Af _ _;have T:¬u.heap.size=W.heap.size:=by have:=D.lt;omega
 go_upto_region 4 with fail
 generalize u.alloc (Qg #[O U m,O U n,O U o,O U p,O U r,Qb t,Qa q L c] 40)=WB at y l ⊢;have E:W.heap.size<=u.heap.size:=b.size;have ag:=D.below l;have F:BL W WB:=b.trans (l.mono E);generalize u.heap.size=xb at y T E ⊢;have ah:=ae.out WB F;obtain⟨r0,r1,r2,r3,r4,r5,r6⟩:=y.cells
 go_wp2_with fail
 refine ah.mono ?_;rintro e w5 ⟨v5,rfl,P,al,Q⟩;obtain⟨g,d,rfl⟩:=P.form;have z:=y.below Q;have ai:=ag.below Q;have s6:=z.cells.2.2.2.2.2.2;have sf:=z.fz;have Y:=z.setF6 (Qa g f.length d);have C:Ao (w5.setCell ⟨xb,6,I⟩ (Qa g f.length d)) W.heap.size AE (Qa I 0 0):=TP ai T 6 _;have N:=P.set_off (Jr z P) 6 (Qa g f.length d);have aa:BL W (w5.setCell ⟨xb,6,I⟩ (Qa g f.length d)):=(Ad F Q).setCell E _;have aj:H (F9 W (Qa g f.length d)):=fun j hj=>Ql F.size (al j hj);generalize f.length=M at *
 go_upto_region 5 with fail
 generalize w5.setCell ⟨xb,6,I⟩ (Qa g M d)=W6 at Y C N aa ⊢;obtain⟨p0,p1,p2,p3,p4,p5,p6⟩:=Y.cells;obtain⟨y0,y1,y2,y3,y4,y5,y6,yf⟩:=C.zero;have i:=Jr C N;have ab:H (Ai (Gi W6 W.heap.size (m,n,o,p,r,t,f) (Qa g M d)) (Qa g M d) f):=(((((((N.set_off i 0 _).set_off i 1 _).set_off i 2 _).set_off i 3 _).set_off i 4 _).set_off i 5 _).set_off i 6 _);obtain⟨u0,u1,u2,u3,u4,u5,u6⟩:=(C.set (m,n,o,p,r,t,f) (Qa g M d)).cells;have ac:=Mz (s:=(m,n,o,p,r,t,f)) (vf:=Qa g M d) aa (QL W.heap.size);unfold Gi at u0 u1 u2 u3 u4 u5 u6 ac ab;go_wp2;refine QC (v:=.agg #[O U m,O U n,O U o,O U p,O U r,Qb t,Qa g M d]) (by simp[QD,results11,go_sem,u0,u1,u2,u3,u4,u5,u6]) rfl ?_;exact⟨Qa g M d,rfl,ab.out,aj.out,ac⟩
end
theorem bJ {k b:Lk} (h:CD k b) (hi:Av k):AU b=AU k:=by
 have c:k.now.1∈b.ids:=by
  rw[<-h.now];exact List.mem_of_getLast? h.lki.last
 have d:=(h.snaps _ c k.now hi.now).2;rw[(FV h.lki).2,(FV hi).2,h.now];unfold DO;rw[EV (f:=BI b.st.obs) (g:=BI k.st.obs) fun x hx=>(Ht (d x hx)).2,EV (f:=Ck b.st.obs) (g:=Ck k.st.obs) fun x hx=>(Ht (d x hx)).1]
section
variable {a : Nat → Qs} {B : Nat} {EM : Qf → Prop}
theorem bK (K:A2 a B EM An) (Q:∀X,EM X->AX X a) {W X:Qf} (p:B<=W.heap.size) (R:EM X) (d:BL W X) {f:A} {q:Nat->Prop} (r:An X f q E1) (c:∀j,q j->W.heap.size<=j) (b:ByteArray) (hs:b.size<=30) :
  Qd Qe 8 #[f,Qb b] X fun e w'=>(∃t u,e=V (Qc #[J I,Qq t u])/\BL W w')\/∃kb k,e=V (Qc #[J (S ⟨kb,0,I⟩),Qi])/\Es W.heap.size w' kb f k/\BL W w'/\k.spec=b/\(A5 b.data.toList).1=0/\k.now=Dl (Ag (Bq E1))/\∀m,k.st.head=AJ m->k.now.1<m:=by
 refine(Nn K Q R r bH (fun j hj=>Ql p (c j hj)) b (by omega) (Qh ⟨rfl,by decide⟩)).mono ?_;rintro e w' ⟨n,Y,rfl,⟨hn,rfl,-,z⟩|⟨rfl,g,kb,C,D,k,rfl,E,F,L,⟨M,-⟩,N,l,P,-,o⟩⟩
 ·obtain⟨i,rfl⟩:∃i,n=i+1:=⟨n-1,by omega⟩;exact Qh ⟨_,_,rfl,d.trans (z.below d.size c)⟩
 ·exact Qj ⟨kb,k,rfl,⟨Ql d.size L,g,C,D,M,P,fun j hj=>(F j hj).elim (c j) (Ql d.size)⟩,d.trans (E.below d.size c),N,l,(o rfl).2.1,fun m hm=>by obtain⟨-,s,⟨T,v,y⟩,-⟩:=o rfl;rw[s,JJ (hm.symm.trans v)];exact y⟩
theorem ze6 (K:A2 a B EM An) (j:∀X,EM X->AX X a) {X:Qf} (l:EM X) {d:Nat} {m:A} {n:Nat->Prop} {k:Lk} {o vf:A} (p:Al X d m n k.st.head o vf k) (hi:Av k) :
  Qd Qe 12 #[J (S ⟨d,0,I⟩),O U (-9223372036854775808),O U 9223372036854775807] X fun e w'=> ∃v',e=V (Qc #[v',Qi])/\Ap w' v' (AU k)/\F8 X v'/\BL X w':=by
 refine(Wc K j l p hi (-9223372036854775808) 9223372036854775807).mono ?_;rintro e w' ⟨⟨v',q,rfl,b,c,g⟩,i⟩;have f:=(FV hi).1;rw[f]at b c;have:=c.ok rfl;subst this;exact⟨v',rfl,b,i _ _ rfl,g⟩
theorem ze7 {k:Lk} (hi:Av k):(AU k).length<=20000:=by
 have:=(WR (obs:=k.st.obs) (s:=k.now) (lo:=Be) (hi:=Bf)).2;have:=(Fg hi.now.fine).1;show (AR k.st.obs k.now Be Bf).1.length<=20000;omega
end
def RC (vi vf:A) (k:Lk) (j:Nat):Prop:=vi.ownBlock=S j\/(k.now.2.2.2.2.2.2≠ []/\vf.ownBlock=S j)
structure Cc (W X:Qf) (kb:Nat) (vs:A) (k:Lk) (Z:Nat->Prop):Prop where
 lek:W.heap.size<=kb
 at_:∃SP vi vf,Al X kb vs SP k.st.head vi vf k/\(∀j,SP j->W.heap.size<=j)/\∀j,Z j->j<X.heap.size/\¬SP j/\j≠kb/\¬RC vi vf k j
 lki:Av k
 frame:BL W X
theorem Al.owi {X:Qf} {d:Nat} {l f vf:A} {m:Nat->Prop} {n:ByteArray} {k:Lk} (h:Al X d l m n f vf k) {j:Nat} (p:UN X d k j):RC f vf k j:=by
 obtain⟨o,v,g,b,c⟩:=p;rcases g with rfl | ⟨rfl,i⟩
 ·rw[h.blk.cells.2.2.2.1]at b;injection b with b;exact Qh (by rw[b];exact c)
 ·rw[h.blk.cells.2.2.2.2.2.2.2.2.2.2.1]at b;injection b with b;exact Qj ⟨i,by rw[b];exact c⟩
theorem Al.owi_lt {X:Qf} {f:Nat} {g c vf:A} {i:Nat->Prop} {l:ByteArray} {k:Lk} (h:Al X f g i l c vf k) (hi:Av k) {j:Nat} (b:RC c vf k j):j<X.heap.size:=by
 rcases b with b | ⟨d,b⟩
 ·exact J6 h.ids.1 (fun e=>by have:=hi.last;rw[e]at this;cases this) b
 ·exact J5 h.fls d b
section
variable {a : Nat → Qs} {B : Nat} {EM : Qf → Prop} {W X Y : Qf} {kb : Nat} {vs : A} {k : Lk} {Fz Fz' : Nat → Prop}
theorem Cc.more (K:A2 a B EM An) (h:Cc W X kb vs k Fz) (d:BL X Y) (t:∀j,Fz' j->Fz j\/(X.heap.size<=j/\j<Y.heap.size)):Cc W Y kb vs k Fz':=by
 obtain⟨g,⟨i,l,m,b,n,o⟩,f,p⟩:=h;refine⟨g,⟨i,l,m,b.quiet K d,n,fun j c=>?_⟩,f,(Ad p d)⟩;rcases t j c with c | ⟨u,s⟩
 ·obtain⟨q,r⟩:=o j c;exact⟨QB q d.size,r⟩
 ·refine⟨s,fun e=>?_,fun e=>?_,fun e=>?_⟩
  ·have:=(b.sizes K).2 j e;omega
  ·have:=b.blk.lt;omega
  ·have:=b.owi_lt f e;omega
theorem Cc.quiet (K:A2 a B EM An) (h:Cc W X kb vs k Fz) (b:BL X Y):Cc W Y kb vs k Fz:=h.more K b fun _ hj=>Qh hj
theorem Cc.turn (K:A2 a B EM An) (h:Cc W X kb vs k Fz) (f:Ac Fz X Y) (g:∀j,Fz j->W.heap.size<=j) (u:∀j,Fz' j->Fz j\/(X.heap.size<=j/\j<Y.heap.size)):Cc W Y kb vs k Fz':=by
 obtain⟨m,⟨n,o,p,d,q,c⟩,i,l⟩:=h;refine⟨m,⟨n,o,p,d.but K f (fun j b e=>(c j e).2.1 b) (fun e=>(c kb e).2.2.1 rfl) (fun _ j b e=>(c j e).2.2.2 (Qh b)) (fun hne j b e=>(c j e).2.2.2 (Qj ⟨hne,b⟩)),q,fun j b=>?_⟩,i,l.trans (f.below l.size g)⟩;rcases u j b with b | ⟨v,t⟩
 ·obtain⟨r,s⟩:=c j b;exact⟨QB r f.size,s⟩
 ·refine⟨t,fun e=>?_,fun e=>?_,fun e=>?_⟩
  ·have:=(d.sizes K).2 j e;omega
  ·have:=d.blk.lt;omega
  ·have:=d.owi_lt i e;omega
theorem Cc.ply (K:A2 a B EM An) (R:∀X,EM X->AX X a) (q:B<=W.heap.size) (T:EM X) (h:Cc W X kb vs k Fz) (r:k.spec.size<=30) (s:(A5 k.spec.data.toList).1=0) {v y:A} {x:Ak} (Y:JP X v y x) :
  Qd Qe 10 #[J (S ⟨kb,0,I⟩),Qb k.spec,CF x v y] X fun e w'=> ∃kb' k' ev,e=V (Qc #[J (S ⟨kb',0,I⟩),ev])/\(ev=Qi\/∃t u,ev=Qq t u)/\Cc W w' kb' vs k' Fz/\FU k k' x ev/\∃P:Nat->Prop,Ac P X w'/\∀j,Fz j->¬P j:=by
 obtain⟨h1,⟨SP,vi,vf,f,b,c⟩,C,g⟩:=h;refine(zd0 K R T f C ⟨by omega,fun j hj=>Ql q (b j hj)⟩ r s Y).mono fun e w' hp=>?_;obtain⟨kb',i,l,m,k',ev,rfl,D,d,n,o,⟨E,F⟩,p⟩:=hp;have z:=g.size;refine⟨kb',k',ev,rfl,D,⟨o.elim (fun e=>by omega) (fun h=>by omega),⟨i,l,m,E,fun j hj=>(n j hj).elim (b j) (fun h=>by omega),fun j hj=>?_⟩,p.lki.1,g.trans (d.below z (fun j hj=>hj.elim (b j) (fun e=>by omega)))⟩,p,_,d,fun j hj e=>e.elim (c j hj).2.1 (c j hj).2.2.1⟩;obtain⟨L,M,N,Q⟩:=c j hj;refine⟨QB L d.size,fun e=>(n j e).elim M (fun e=>by omega),fun e=>o.elim (fun e5=>N (e.trans e5)) (fun e5=>by omega),fun e=>?_⟩;exact(F j e).elim (fun e=>by omega) (fun e=>Q (f.owi e))
theorem Cc.rows (K:A2 a B EM An) (c:∀X,EM X->AX X a) (d:EM X) (h:Cc W X kb vs k Fz) :
  Qd Qe 12 #[J (S ⟨kb,0,I⟩),O U (-9223372036854775808),O U 9223372036854775807] X fun e w'=> ∃v',e=V (Qc #[v',Qi])/\Ap w' v' (AU k)/\F8 X v'/\BL X w':=by
 obtain⟨f,g,i,b,-⟩:=h.at_;exact ze6 K c d b h.lki
theorem Cc.nowS (K:A2 a B EM An) (h:Cc W X kb vs k Fz) :
  Qd Qe 11 #[J (S ⟨kb,0,I⟩)] X fun e w'=> ∃vg,e=V (A8 k.now vg)/\Ai w' vg k.now.2.2.2.2.2.2/\BL X w':=by
 obtain⟨c,d,f,b,-⟩:=h.at_;exact(ze5 K b h.lki).mono fun e w' ⟨vg,g1,g2,_,g3⟩=>⟨vg,g1,g2,g3⟩
theorem Cc.store (K:A2 a B EM An) (h:Cc W X kb vs k Fz):Qd Qe 21 #[J (S ⟨kb,0,I⟩)] X fun e w'=>e=V vs/\w'=X:=by
 obtain⟨c,d,f,b,-⟩:=h.at_;exact L7 K b
theorem Cc.snaps (K:A2 a B EM An) (h:Cc W X kb vs k Fz) :
  Qd Qe 15 #[J (S ⟨kb,0,I⟩)] X fun e w'=> ∃v',e=V v'/\A4 w' v' k.ids/\BL X w':=by
 obtain⟨c,d,f,b,-⟩:=h.at_;exact(vM K b (by have:=(DA.1 h.lki.ids).2.1;omega)).mono fun e w' ⟨v',g1,g2,g3⟩=>⟨v',g1,Mw g2,g3⟩
theorem Cc.open (K:A2 a B EM An) (T:∀X,EM X->AX X a) (y:B<=W.heap.size) (Y:EM X) (h:Cc W X kb vs k Fz) (aa:k.spec.size<=30) (z:(A5 k.spec.data.toList).1=0) :
  Qd Qe 8 #[vs,Qb k.spec] X fun e w'=> ∃kb' k',e=V (Qc #[J (S ⟨kb',0,I⟩),Qi])/\Cc W w' kb' vs k' Fz/\Cc W w' kb vs { k with st:=Bq k.st } Fz/\k'.ids=k.ids/\k'.now=k.now/\AU k'=AU k/\∃P:Nat->Prop,Ac P X w'/\∀j,Fz j->¬P j:=by
 obtain⟨F,⟨SP,p,q,b,l,g⟩,c,r⟩:=h;refine(Nn K T Y b.st c.good (fun j hj=>Ql y (l j hj)) k.spec (by omega) (Qj ⟨k,rfl,c⟩)).mono ?_;rintro e w' ⟨n',vk,rfl,⟨-,-,s,-⟩|⟨rfl,f,kb',t,u,k',rfl,d,i,g3,⟨v,Q⟩,R,g6,n⟩⟩
 ·exact absurd ⟨z,fun e=>absurd e (Nl c)⟩ s
 ·obtain⟨L,M,N⟩:=n.2.1 k rfl c;have C:=r.size;have m:=r.trans (d.below C l);have o:∀j,Fz j->¬f j:=fun j hj e=>(i j e).elim (g j hj).2.1 (fun e=>by have:=(g j hj).1;omega);have D:Al w' kb vs f (Bq k.st).head p q { k with st:=Bq k.st } :=by
   refine⟨(d.block kb b.blk.lt b.off).trans b.blk,N▸v.st,⟨Kr b.ids.1 (fun hne j hj=>(b.offi hne j hj).2) d,b.ids.2⟩,Ks b.fls (fun hne j hj=>(b.offf hne j hj).2) d,fun e=>(i kb e).elim b.off (fun e'=>absurd b.blk.lt (by omega)),b.offi.up (fun hne j hj=>J6 b.ids.1 hne hj) i,b.offf.up (fun hne j hj=>J5 b.fls hne hj) i⟩
  refine⟨kb',k',rfl,⟨by omega,⟨f,t,u,v,fun j hj=>(i j hj).elim (l j) (fun e=>by omega),fun j hj=>?_⟩,n.1,m⟩,⟨F,⟨f,p,q,D,fun j hj=>(i j hj).elim (l j) (fun e=>by omega),fun j hj=>⟨QB (g j hj).1 d.size,o j hj,(g j hj).2.2⟩⟩,c.on,m⟩,L,M,?_,_,d,fun j hj=>(g j hj).2.1⟩
  ·have E:=(g j hj).1;exact⟨QB E d.size,o j hj,fun e=>by omega,fun e=>by have:=Q j (e.imp_right And.right);omega⟩
  ·exact bJ (CD.open c R n) c
end
end
end Go.Proofs.YtcllhobffhkafaaGreatDoor
