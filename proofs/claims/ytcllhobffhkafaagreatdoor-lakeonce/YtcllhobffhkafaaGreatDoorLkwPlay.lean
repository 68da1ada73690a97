/- By an AI agent. -/
import Derived.Test.YtcllhobffhkafaaGreatDoorPackBad
set_option maxRecDepth 100000
set_option maxHeartbeats 16000000
open Go.Proofs.Tryz
open Go renaming Value->Qa,Calls->Qb,World->Qh,cell_of_row->Qo,Addr->Qr,heap_alloc_new->Qs
open Go.Ending renaming returned->H
open Go.IntKind renaming i64->U
open Go.Obj renaming cells->Qg
open Go.Proofs.Tryz renaming prog->Qc,func10->Qt,ntmps10->Qu
open Go.RowKit renaming Hid->Z
open Go.RowKit.Below renaming drew->Qj,refl->Qn
open Go.Value renaming int->O,pointer->J,slice->A,tuple->V,string->Qd,nilIface->Qe,iface->Qk
open List renaming length_append->Ql,length_map->Qm,mem_flatMap->Qp,mem_singleton->Qv,flatMap_append->Qw,flatMap_cons->Qx,take_succ_eq_append_getElem->Qy,length_cons->Qz,mem_cons_of_mem->Q0,mem_of_mem_take->Q1,exists_mem_of_ne_nil->Q2,mem_map->Q3
open Nat renaming le_trans->Qq,le_refl->Q4
open Option renaming some->I,none->S
open Or renaming inl->Qf,inr->Qi
namespace Go.Proofs.YtcllhobffhkafaaGreatDoor
open Go.Extern Go.Extern.Stop Go.Lib Go.RowKit Go.Shelf Go.Sort Go.Stop
section
attribute [local go_sem] Oper.semAt_some
def I8 (k:Lk) (k':Lk) (_:Int):Prop:=k'=k\/∃(least:Int) (ws:List Gz),Kf k.now.2.2.2.2.2.2 least ws/\(∀z∈ws,Dx k.st.obs k.now (z.2.map (·.1))= []\/Ed (Dx k.st.obs k.now (z.2.map (·.1))))/\Fw k k' (DW k.st.obs k.now ws) (Eh k.now.2.2.2.2.2.2 ws) k.now.2.2.2.2.1
theorem PW {nm:ByteArray} {xs:List Rw} (b:nm.size<=1000) (h:Ed xs):DU (Db nm xs).1/\Bp (Db nm xs).1/\(Db nm xs).1.size<=100/\(Db nm xs).2.1.size<=1000/\(Db nm xs).2.2.size<=1400 :=
 ⟨Vc,show (47:UInt8)∈(⟨#[100,97,116,97,47]⟩:ByteArray).data.toList by decide,show (⟨#[100,97,116,97,47]⟩:ByteArray).size<=100 by decide,b,Wo h⟩
theorem Wp {obs:List Ob} {x:Sn} {ws:List Gz} (h:∀z∈ws,(Dx obs x (z.2.map (·.1))= []\/Ed (Dx obs x (z.2.map (·.1))))/\z.1.1.size<=1000):(DW obs x ws).length<=ws.length/\∀d∈DW obs x ws,DU d.1/\Bp d.1/\d.1.size<=100/\d.2.1.size<=1000/\d.2.2.size<=1400:=by
 refine⟨?_,fun d b=>?_⟩
 ·clear h;unfold DW
  induction ws with
  | nil=>simp
  | cons z r ih =>
   rw[Qx,Ql,Qz];have:(Ie obs x z.1.1 (z.2.map (·.1))).length<=1:=by unfold Ie;split<;>simp
   omega
 ·obtain⟨z,c,b⟩:=Qp.1 b;unfold Ie at b;split at b
  ·cases b
  ·rename_i f;rw[Qv]at b;subst b;exact PW (h z c).2 ((h z c).1.resolve_left f)
theorem xX {obs:List Ob} {x:Sn} {ws:List Gz} {n:Nat} (h:n<ws.length):DW obs x (ws.take (n+1))=DW obs x (ws.take n)++Ie obs x ws[n].1.1 (ws[n].2.map (·.1)):=by
 unfold DW;rw[Qy h,Qw];simp
theorem xY {b:List Fl} {ws:List Gz} {n:Nat} (h:n<ws.length):Eh b (ws.take (n+1))=Eh b (ws.take n)++ws[n].2.map (·.1):=by
 unfold Eh;rw[Qy h,Qw];simp
theorem xZ {least:Int} {f:Fl} (h:Eg least f=true):Ck f.1=false:=by
 unfold Eg at h;simp only[Bool.and_eq_true,Bool.not_eq_true']at h;exact h.1
theorem Wq {b:List Fl} {least:Int} {ws:List Gz} (K:Kf b least ws) (n:Nat):(Eh b (ws.take n)).length<=2*b.length:=by
 unfold Eh GA;rw[Ql,Qm,Qm];have c:=List.length_filter_le (G9 b) b;have d:((ws.take n).flatMap (·.2)).length<=(ws.flatMap (·.2)).length:=by
  conv=>rhs;rw[<-List.take_append_drop n ws,Qw,Ql]
  omega
 have f:=K.len;omega
theorem yA {c:List Fl} {least:Int} {ws:List Gz} (K:Kf c least ws):ws.length<=c.length/\∀z∈ws,z.2.length<=c.length:=by
 constructor
 ·refine Qq ?_ K.len;have h:∀z∈ws,1<=z.2.length:=fun z b=>by have:=(K.grp z b).2;omega
  clear K
  induction ws with
  | nil=>exact Nat.zero_le _
  | cons z r ih =>
   have d:=h z List.mem_cons_self;have f:=ih (fun y hy=>h y (Q0 _ hy));rw[Qx,Qz,Ql];omega
 ·intro z b;refine Qq ?_ K.len;obtain⟨g,i,rfl⟩:=List.append_of_mem b;rw[Qw,Qx,Ql,Ql];omega
theorem yB {W:Qh} {q:Option Qr} {n c:Nat} {d:List (List ByteArray)} (h:GB W (A q n c) d) (f:d≠ []):∃b,q=I ⟨b,0,S⟩/\∀j (hj:j<d.length),∃u,W.cell? ⟨b,j,S⟩=I u/\BS W u d[j]:=by
 obtain⟨g,o,i,k⟩:=h;rcases i with⟨_,e⟩|⟨b,m,e,l⟩
 ·exact absurd e f
 ·simp only[Value.slice.injEq]at e;exact⟨b,e.1,fun j hj=>⟨g[j]'(by omega),l j (by omega),k j (by omega) hj⟩⟩
section
variable {a : Nat → Qr} {B : Nat} {EM : Qh → Prop}
theorem yC (K:AJ a B EM A0) (HL:∀X,EM X->Bg X a) {W:Qh} {l:Nat} {vs:Qa} {E:Nat->Prop} {vi vf:Qa} {k:Lk} (hE:EM W) (h:An W l vs E k.st.head vi vf k) (hi:Ax k) (hB:B<=l/\∀j,E j->B<=j) (least:Int) :
  Qb Qc 34 #[J (I ⟨l,0,S⟩),O U least] W (AX W l vs E k (I8 k) False):=by
 obtain⟨pt,rfl⟩:=h.ptr K;have ag:=Ju hi.now.fine;have ax:=FY hi.now.fine;have ak:Z (∀X,BL W X->EM X):=fun X hb=>K.below _ _ hE (hb.mono (K.size _ hE));have HQ:Z (∀X,BL W X->An X l (J (I pt)) E k.st.head vi vf k):=fun X hb=>h.quiet K hb;have HG:Z (B3 k.st):=hi.good;have al:(BF k.now.2.2.2.2.2.2).1=0:=GJ.2 ⟨ag.1,ax.2⟩;have ay:Z (0<=least/\least<=41->Qb Qc 72 #[vf,O U least] W fun e w'=> ∃v' gs,e=H (V #[v',Qe])/\GB w' v' (I3 gs)/\gs.Perm (CM k.now.2.2.2.2.2.2 least k.now.2.2.2.2.2.2.length)/\BL W w'):=fun N=>wC vf k.now.2.2.2.2.2.2 least W a (HL W hE).x.list h.fls (by omega) ag.2 al N.1 N.2;have az:Z (¬(0<=least/\least<=41)->Qb Qc 72 #[vf,O U least] W fun e w'=> ∃t u,e=H (V #[A S 0 0,Qk t u])/\BL W w'):=fun N=>xW vf k.now.2.2.2.2.2.2 least W a (HL W hE).x.list h.fls (by omega) ag.2 (by omega);have a0:Z (∀X,BL W X->Qb Qc 73 #[vf] X fun e w'=> ∃v,e=H (V #[v,Qe])/\BL X w'/\w'.ownsRow X.heap.size 9 1 v (GA k.now.2.2.2.2.2.2).length ((GA k.now.2.2.2.2.2.2).map Qd)):=fun X hX=>(uZ vf k.now.2.2.2.2.2.2 X a (HL X (ak.out X hX)).x.list ((HQ.out X hX).fls) (by omega) ag.2).mono fun e w' ⟨v,ev,he,ht,hb,_,ho⟩=>⟨v,by rw[he,ht.ok al],hb,ho al⟩;have bs:Z (∀Y X Q ds rem F nm vp,BL W Y->BL Y X->Y.heap.size<=Q->Kg X Q Y.heap.size ds rem->ds.length<=900->rem.length<=1000->(∀f∈F,f∈k.now.2.2.2.2.2.2/\Ck f.1=false/\f.2.1=nm)->F≠ []->F.length<=1000->BS Y vp (F.map (·.1))->Qb Qc 74 #[J (I ⟨l,0,S⟩),J (I ⟨Q,0,S⟩),vp] X (Lj Y Q k.st.obs k.now nm (F.map (·.1)) ds rem)):=fun Y X Q ds rem F nm vp hY hX ao hc C h2 h3 h4 h5 h6=>wO K HL (ak.out Y hY) (HQ.out Y hY) hi hX ao hc C h2 h3 h4 h5 h6;have bt:Z (∀X D vd vr ds rem,BL W X->W.heap.size<=D->AZ X D vd ds->X.ownsRow D 9 1 vr rem.length (rem.map Qd)->ds.length<=100->rem.length<=1000->(∀d∈ds,Bp d.1/\d.1.size<=100/\d.2.1.size<=1000/\d.2.2.size<=100000)->Qb Qc 60 #[J (I ⟨l,0,S⟩),.agg #[vd,vr],O U k.now.2.2.2.2.1] X (Du a X l (J (I pt)) E vi k ds rem k.now.2.2.2.2.1)):=fun X D vd vr ds rem hb hD hd hr hl hrl hds=>Pn K HL (ak.out X hb) (HQ.out X hb) hi hB hd (Iw hr) (fun j hj e=>by have:=Jb hd hj;have:=(h.sizes K).2 j e;omega) (fun j hj e=>by have:=Jb hr hj;have:=(h.sizes K).2 j e;omega) hl hrl hds k.now.2.2.2.2.1;have r:Z (k.now.2.2.2.2.2.2.length<=60/\Fc 0 k.now.2.2.2.2.2.2):=ax;obtain⟨qf,fc,cl⟩:=h.fls.form;subst cl;obtain⟨c0,-,-,-,-,-,-,-,c8,-,ad,-⟩:=h.blk.cells;have am:Z (W.cell? ⟨l,0,S⟩=I (J (I pt))/\W.cell? ⟨l,8,S⟩=I (O U k.now.2.2.2.2.1)/\W.cell? ⟨l,10,S⟩=I (A qf k.now.2.2.2.2.2.2.length fc)):=⟨c0,c8,ad⟩;have bu:=I2 c0;obtain⟨FN,a8⟩:∃n,k.now.2.2.2.2.2.2.length=n:=⟨_,rfl⟩;have ah:Z (k.now.2.2.2.2.2.2.length=FN):=a8;have aj:Z (∀X t u,BL W X->AX W l (J (I pt)) E k (I8 k) False (H (V #[O U 0,Qk t u])) X):=fun X t u hX=>AX.bad (HQ.out W (Qn _ _)) HG.out K hX (fun h=>h);rw[a8]at ay az a0 HQ am r ad;clear hE h hi hB ag ax al a8
 go_enter func34,ntmps34
 go_wp2_with fail
 refine bu.mono ?_;rintro e w1 ⟨rfl,e1⟩;rw[e1];clear bu e1;by_cases N:0<=least/\least<=41
 case neg =>
  have bv:=az.out N;clear N
  go_wp2_with fail
  refine bv.mono ?_;rintro e o ⟨t,u,rfl,aa⟩;have M:=aj.out o t u aa;have M:Z _:=M;clear bv c0 c8 ad aa;go_wp2;go_ret2;exact M.out
 case pos =>
 have an:=ay.out N;clear N az ay
 go_wp2_with fail
 refine an.mono ?_;rintro e o ⟨v2,gs,rfl,aw,bo,aa⟩;rw[<-ah.out]at bo;obtain⟨ws,a9,ba⟩:=wH r.out.2 bo;have s:Z (Kf k.now.2.2.2.2.2.2 least ws):=a9;rw[ba]at aw;have cf:Z (∀X,BL o X->GB X v2 (ws.map fun z=>z.2.map (·.1))):=fun X hb=>aw.below hb;obtain⟨q2,c2,ca⟩:=aw.form;have a1:=yA a9;obtain⟨R,bb⟩:∃n,ws.length=n:=⟨_,rfl⟩;have ab:Z (ws.length=R/\R<=60/\∀z∈ws,z.2.length<=60):=⟨bb,by have:=ah.out;have:=r.out.1;omega,fun z hz=>by have:=a1.2 z hz;have:=ah.out;have:=r.out.1;omega⟩;rw[Qm,bb]at ca;subst ca;have bw:=a0.out o aa;have ac:Z (BL W o):=aa;have ad:=Aa aa ad;clear an bo a9 ba aw a1 bb a0 c0 c8 aa
 go_wp2_with fail
 refine bw.mono ?_;rintro e w3 ⟨v3,rfl,bp,bq⟩;clear bw ad;have a2:BL w3 (w3.alloc (Qg #[A S 0 0,v3] 100)):=Af _ _;have ao:=Qs w3 (Qg #[A S 0 0,v3] 100);have bx:=AO (P:=fun _=>False) bq (Ac.of_below a2) (fun _ _ h=>h);have bz:Z (BL o (w3.alloc (Qg #[A S 0 0,v3] 100))):=Ad bp a2;obtain⟨q3,n3,c3,cm⟩:∃q n c,v3=A q n c:=by
  rcases bq.2 with⟨e,-⟩|⟨g,ct,cu,e,-⟩
  ·exact⟨_,_,_,e⟩
  ·exact⟨_,_,_,e⟩
 subst cm;have a3:Z (Kg (w3.alloc (Qg #[A S 0 0,A q3 n3 c3] 100)) w3.heap.size o.heap.size (DW k.st.obs k.now (ws.take 0)) (Eh k.now.2.2.2.2.2.2 (ws.take 0))):=by
  refine⟨_,_,ao,AZ.nil _ _,?_⟩;have e:Eh k.now.2.2.2.2.2.2 (ws.take 0)=GA k.now.2.2.2.2.2.2:=by simp[Eh]
  rw[e];exact bx
 obtain⟨Q,bc⟩:∃n,w3.heap.size=n:=⟨_,rfl⟩;have cg:Z (o.heap.size<=Q):=by have:=bp.size;show _<=_;omega
 rw[bc]at a3;clear bp bq a2 ao bx
 go_upto_region 10 with fail
 clear bc;generalize w3.alloc (Qg #[A S 0 0,A q3 n3 c3] 100)=w4 at bz a3 ⊢
 go_wp2_with fail
 have cs:=ab.out.2.1
 go_loopw [11,12,47] (fun _ _ i wr=> ∃n:Nat,n<=R/\i=O U n/\Kg wr Q o.heap.size (DW k.st.obs k.now (ws.take n)) (Eh k.now.2.2.2.2.2.2 (ws.take n))/\(∀z∈ws.take n,Dx k.st.obs k.now (z.2.map (·.1))= []\/Ed (Dx k.st.obs k.now (z.2.map (·.1))))/\BL o wr) (fun _ _ i _=>R-(intOf i).toNat)
 case atStart=>exact ⟨0,by omega,rfl,a3.out,fun z hz=>by simp at hz,bz.out⟩
 case round =>
 obtain⟨n,hn,rfl,au,T,af⟩:=hrel;by_cases b0:n<R
 case pos =>
  have ai:n<ws.length:=by rw[ab.out.1];exact b0
  have g1:(n:Int)<(R:Int):=by omega
  have g2:(0:Int)<=(n:Int):=by omega
  have ap:ws[n]∈ws:=List.getElem_mem _;obtain⟨cc,bd⟩:=s.out.grp _ ap;have b1:∀f∈ws[n].2,f∈k.now.2.2.2.2.2.2/\Ck f.1=false/\f.2.1=ws[n].1.1:=fun f hf=>by
   have:=s.out.mem f (Qp.2 ⟨_,ap,hf⟩);exact⟨this.1,xZ this.2,cc.part f hf⟩
  obtain⟨b6,u6,cn,hU,be⟩:∃b u,q2=I ⟨b,0,S⟩/\wr.cell? ⟨b,n,S⟩=I u/\BS o u (ws[n].2.map (·.1)):=by
   obtain⟨b,hq,hc⟩:=yB (cf.out o (Qn _ _)) (fun e=>by have e2:=congrArg List.length e;rw[Qm]at e2;simp only[List.length_nil]at e2;omega);obtain⟨u,C,h2⟩:=hc n (by rw[Qm];exact ai);rw[List.getElem_map]at h2;exact⟨b,u,hq,Aa af C,h2⟩
  subst cn;have ch:=(Wp (obs:=k.st.obs) (x:=k.now) (ws:=ws.take n) (fun z hz=>⟨T z hz,by
   obtain⟨hg,C⟩:=s.out.grp z (Q1 hz);obtain⟨f,hf⟩:=Q2 z.2 (fun e=>by rw[e]at C;simp at C);rw[<-hg.part f hf];have:=(Kb (r.out.2.1 f (s.out.mem f (Qp.2 ⟨z,Q1 hz,hf⟩)).1).1).2;omega⟩)).1
  have ci:(ws.take n).length<=R:=by rw[List.length_take];omega
  have an:=Wq s.out n;have a4:=bs.out o wr Q _ _ ws[n].2 ws[n].1.1 u6 ac.out af cg.out au (by have:=ab.out.2.1;omega) (by have:=ah.out;have:=r.out.1;omega) b1 (fun e=>by rw[e]at bd;simp at bd) (by have:=ab.out.2.2 _ ap;omega) be;have cj:Z (BL o wr/\∀z∈ws.take n,Dx k.st.obs k.now (z.2.map (·.1))= []\/Ed (Dx k.st.obs k.now (z.2.map (·.1)))):=⟨af,T⟩;have aq:Z (DW k.st.obs k.now (ws.take (n+1))=DW k.st.obs k.now (ws.take n)++Ie k.st.obs k.now ws[n].1.1 (ws[n].2.map (·.1))/\Eh k.now.2.2.2.2.2.2 (ws.take (n+1))=Eh k.now.2.2.2.2.2.2 (ws.take n)++ws[n].2.map (·.1)/\ws.take (n+1)=ws.take n++ [ws[n]]):=⟨xX ai,xY ai,Qy ai⟩;obtain⟨uq,uc,bf⟩:=be.form;clear cc bd ap b1 be;generalize ws[n]=z at a4 aq bf;generalize (z.2.map (·.1)).length=UL at bf;subst bf;clear ch ci an au T af ai
  go_wp2_with fail
  refine a4.mono ?_;rintro e w6 cq;clear a4 hU;obtain⟨av,⟨t,u,rfl⟩|⟨rfl,bg,bh⟩⟩:=cq
  ·have M:Z (AX W l (J (I pt)) E k (I8 k) False (H (V #[O U 0,Qk t u])) w6):=aj.out w6 t u (ac.out.trans (av.mono ac.out.size));clear av;go_wp2;go_ret2;exact M.out
  ·have M:Z (∃m:Nat,m<=R/\(n:Int)+1=m/\R-m<R-n/\Kg w6 Q o.heap.size (DW k.st.obs k.now (ws.take m)) (Eh k.now.2.2.2.2.2.2 (ws.take m))/\(∀z∈ws.take m,Dx k.st.obs k.now (z.2.map (·.1))= []\/Ed (Dx k.st.obs k.now (z.2.map (·.1))))/\BL o w6):=by
    refine⟨n+1,b0,rfl,by omega,?_,fun y hy=>?_,av⟩
    ·rw[aq.out.1,aq.out.2.1];exact bg
    ·rw[aq.out.2.2]at hy;rcases List.mem_append.1 hy with hy | hy
     ·exact cj.out.2 y hy
     ·rw[Qv.1 hy];exact bh
   clear av bg bh;go_wp2;go_roundw
   case rel =>
    refine⟨n+1,by omega,by go_num,?_⟩;obtain⟨m,-,C,-,h2,h3,h4⟩:=M.out;obtain rfl:m=n+1:=by omega
    exact⟨h2,h3,h4⟩
   case measure=>simp [intOf];omega
 case neg =>
 obtain rfl:n=R:=by omega
 have g1:¬(n:Int)<(n:Int):=by omega
 have a5:Z (ws.take n=ws):=by rw[<-ab.out.1];exact List.take_length
 rw[a5.out]at au T;have ae:=Wp (obs:=k.st.obs) (x:=k.now) (ws:=ws) (fun z hz=>⟨T z hz,by
   obtain⟨hg,C⟩:=s.out.grp z hz;obtain⟨f,hf⟩:=Q2 z.2 (fun e=>by rw[e]at C;simp at C);rw[<-hg.part f hf];have:=(Kb (r.out.2.1 f (s.out.mem f (Qp.2 ⟨z,hz,hf⟩)).1).1).2;omega⟩)
 have ae:Z ((DW k.st.obs k.now ws).length<=60/\∀d∈DW k.st.obs k.now ws,Bp d.1/\d.1.size<=100/\d.2.1.size<=1000/\d.2.2.size<=100000):=⟨by have:=ab.out;have:=ae.1;omega,fun d hd=>by obtain⟨-,C,h2,h3,h4⟩:=ae.2 d hd;exact⟨C,h2,h3,by omega⟩⟩;have b2:Z ((Eh k.now.2.2.2.2.2.2 ws).length<=120):=by
  have:=Wq s.out n;rw[a5.out]at this;have:=ah.out;have:=r.out.1;show _<=120;omega
 have b3:Z (∀z∈ws,Dx k.st.obs k.now (z.2.map (·.1))= []\/Ed (Dx k.st.obs k.now (z.2.map (·.1)))):=T;have HW:Z (BL W wr):=ac.out.trans (af.mono ac.out.size);have y0:=Aa HW.out am.out.1;have y8:=Aa HW.out am.out.2.1;have b4:=Aa HW.out am.out.2.2;obtain⟨vd,vr,bi,bj,bk⟩:=au;have k0:wr.cell? ⟨Q,0,S⟩=I vd:=by rw[Qo _ _ _ _ _ _ bi];rfl
 have k1:wr.cell? ⟨Q,1,S⟩=I vr:=by rw[Qo _ _ _ _ _ _ bi];rfl
 obtain⟨qr,cr,co⟩:=(Iw bk).form;obtain⟨qd,cd,cp,-⟩:=bj.at;subst co cp;have ar:BL wr wr.drew:=(Qn _ _).drew;have a6:=bj.below ar;have p:=bt.out wr.drew o.heap.size _ _ _ _ (HW.out.trans (ar.mono HW.out.size)) ac.out.size a6 (AO (P:=fun _=>False) bk (Ac.of_below ar) (fun _ _ h=>h)) (by have:=ae.out.1;omega) (by have:=b2.out;show _<=1000;omega) ae.out.2;obtain⟨RL,ce⟩:∃m,(Eh k.now.2.2.2.2.2.2 ws).length=m:=⟨_,rfl⟩;rw[ce]at k1 p;generalize (DW k.st.obs k.now ws).length=DL at k0 p;clear a6 bj bk bi T af ar bs ce;by_cases ck:RL=0
 case pos =>
  subst ck;have M:Z (AX W l (J (I pt)) E k (I8 k) False (H (V #[O U 0,Qe])) wr):=AX.same (HQ.out W (Qn _ _)) K HW.out (Qf rfl);clear p k0 y0 y8 b4;go_wp2;go_ret2;exact M.out
 case neg =>
 have g3:¬(RL:Int)=0:=by omega
 have a7:Z (BL W wr.drew):=HW.out.drew;have b5:Z (∀e w',Du a wr.drew l (J (I pt)) E vi k (DW k.st.obs k.now ws) (Eh k.now.2.2.2.2.2.2 ws) k.now.2.2.2.2.1 e w'->∃ev,e=H ev/\((∃t u,ev=Qk t u/\AX W l (J (I pt)) E k (I8 k) False (H (V #[O U 0,ev])) w')\/(ev=Qe/\∃q c L,w'.cell? ⟨l,10,S⟩=I (A q L c)/\∀m,AX W l (J (I pt)) E k (I8 k) False (H (V #[O U m,Qe])) w'))):=fun e w' hd=>by
  obtain⟨n,bl,bm,bn,k',rfl,C,h2,⟨-,ho⟩,h3,h4⟩:=hd;have b7:Ft W l k bm bn k':=ho.low a7.out (HQ.out W (Qn _ _)).blk.lt;have b8:Ac (fun j=>E j\/j=l) W w':=(Ac.of_below a7.out).trans C (fun _ h _=>h);have b9:∀j,bl j->E j\/W.heap.size<=j:=fun j hj=>(h2 j hj).imp_right (Qq a7.out.size);rcases h4 with⟨hn,-,s',hg,rfl⟩|⟨rfl,br⟩
  ·obtain⟨i,rfl⟩:∃i,n=i+1:=⟨n-1,by omega⟩;exact⟨_,rfl,Qf ⟨_,_,rfl,bl,bm,bn,_,0,_,rfl,b8,b9,⟨h3,b7⟩,Qf ⟨⟨_,_,rfl⟩,fun h=>h,s',hg,rfl⟩⟩⟩
  ·obtain⟨q,c,hq⟩:=h3.fls.form;exact⟨_,rfl,Qi ⟨rfl,q,c,k'.now.2.2.2.2.2.2.length,by have:=h3.blk.cells.2.2.2.2.2.2.2.2.2.2.1;rw[this,hq],fun m=>⟨bl,bm,bn,k',m,_,rfl,b8,b9,⟨h3,b7⟩,Qi ⟨rfl,Qi ⟨least,ws,s.out,b3.out,br⟩⟩⟩⟩⟩
 have p:=p.mono b5.out;clear b5 bt a5 ae b2 b3 HQ ak HG r aj
 go_upto_region 20 with fail
 generalize cw:AX W l (J (I pt)) E k (I8 k) False=OQ at *
 go_cut [14] from 61 to 75 (fun c14 wx=>(∃t u,c14=Qk t u/\OQ (H (V #[O U 0,c14])) wx)\/(c14=Qe/\∃q c L,wx.cell? ⟨l,10,S⟩=I (A q L c)/\∀m,OQ (H (V #[O U m,Qe])) wx))
 case first =>
  first
   | (go_region_with (go_at_call 60;(with_reducible refine p.mono ?_);rintro e wZ ⟨ev,rfl,hZ⟩))
   | fail
  all_goals
   go_wp2;go_meet
   case rel=>exact hZ
 case rest =>
 clear p k0 k1 y0 y8 b4;rcases hcut with⟨t,u,rfl,hq⟩|⟨rfl,q,c,L,cv,hq⟩
 ·have M:Z _:=hq;clear hq;go_wp2;exact M.out
 ·have M:Z (∀m,OQ (H (V #[O U m,Qe])) wc):=hq;clear hq;go_wp2;exact M.out _
end
end
section
structure Cu (k k':Lk):Prop where
 lki:Ax k'
 now:k'.now=k.now
 spec:k'.spec=k.spec
 ids:∀id∈k'.ids,id∈k.ids
 snaps:∀id∈k'.ids,∀x,D6 k.st id x->D6 k'.st id x/\∀f∈x.2.2.2.2.2.2,Aj k'.st.obs f=Aj k.st.obs f
 head:∀m,k.st.head=AG m->∃n,k'.st.head=AG n/\m<=n
theorem PX {s b:St} {c:Int} {x:Sn} (h:D6 s c x) (d:∀n t,AK s n t->AK b n t):D6 b c x/\∀f∈x.2.2.2.2.2.2,Aj b.obs f=Aj s.obs f:=⟨h.up d,fun f hf=>Jq d (h.files f hf)⟩
theorem Cu.same {k:Lk} (h:Ax k):Cu k k:=⟨h,rfl,rfl,fun _ h=>h,fun _ _ _ h=>⟨h,fun _ _=>rfl⟩,fun m h=>⟨m,h,Int.le_refl m⟩⟩
theorem Cu.gw {k:Lk} (h:Ax k) {s:St} (b:Gw k.st s):Cu k { k with st:=s } :=⟨h.up b,rfl,rfl,fun _ h=>h,fun _ _ _ h=>PX h b.old,fun m h=>⟨m,b.head.trans h,Int.le_refl m⟩⟩
theorem yD {s:St} (h:B3 s) (z:Int):Gw s (Hs s z):=by
 refine MG h (dK h.keeps z) ?_ ?_
 all_goals unfold Hs;split<;>rfl
theorem yE {s:St} (h:B3 s) (z:Int):Gw s (Er s z):=by
 refine MG h (dJ h.keeps z) ?_ ?_
 all_goals unfold Er;split<;>rfl
theorem Wr {s:St} (h:B3 s):Gw s (Br s):=MG h (LV h.keeps) rfl rfl
theorem Cu.few {k b:Lk} {z:Int} (h:Ax k) (o:G8 k b z):Cu k b:=by
 rcases o with rfl | ⟨q,d,f,g,i,j,l⟩
 ·exact Cu.same h
 ·refine⟨j,f,g,fun id hid=>?_,fun _ _ _ hx=>PX hx i,fun m hm=>?_⟩
  ·rw[d]at hid;exact(K9 _ _).subset hid
  ·obtain⟨n,c,p⟩:=l m hm;exact⟨n,c,by omega⟩
theorem Cu.clean {k:Lk} {i:St} (h:Ax k) (n:P5 k i):Cu k { k with st:=i } :=by
 obtain⟨N,b,j,g⟩:=n;refine⟨h.lw b g j,rfl,rfl,fun _ h=>h,fun id hid x hx=>?_,fun m hm=>⟨m,b.head.trans hm,Int.le_refl m⟩⟩;obtain⟨y,l,c⟩:=g id hid;obtain rfl:=Pq hx l;refine⟨hx.lw b c,fun f hf=>?_⟩;have d:=MH (hx.files f hf);exact OU ((b.old _ (c f.1 (Q0 _ (Q3.2 ⟨f,hf,rfl⟩))) _ d).trans d.symm)
theorem Cu.open {k b:Lk} (h:Ax k) (j:b.spec=k.spec) (l:Vy k.st b):Cu k b:=by
 obtain⟨d,f,-⟩:=l;obtain⟨g,i,c⟩:=f k rfl h;refine⟨d,i,j,fun id hid=>by rw[g]at hid;exact hid,fun id hid x hx=>?_,fun m hm=>⟨m,by rw[c];exact hm,Int.le_refl m⟩⟩;rw[c];exact PX hx (Wr h.good).old
abbrev Ak:=ByteArray×Int×Int×List Rw×List Int
def D9:ByteArray:=⟨#[97,112,112,101,110,100]⟩
def DA:ByteArray:=⟨#[100,101,108,101,116,101]⟩
def GD (k k':Lk) (x:Ak) (ev:Qa):Prop :=
 (Cu k k'/\(x.1=D9\/x.1=DA->ev=Qe->x.2.1<=k.now.2.2.2.2.1)) \/
 (x.1=D9/\ev=Qe/\k.now.2.2.2.2.1<x.2.1/\Gg k.spec x.2.2.2.1/\∃ds,I6 k.spec x.2.2.2.1 ds/\Ke k k'/\Fw k k' ds [] x.2.1) \/
 (x.1=DA/\ev=Qe/\k.now.2.2.2.2.1<x.2.1/\(∀z∈x.2.2.2.2,Ao z=true)/\(A4 x.2.2.2.2).length<=40/\Ke k k'/\Fw k k' (DV x.2.2.2.2) [] x.2.1) \/
 (x.1≠D9/\x.1≠DA/\Ke k k'/\∃(least:Int) (ws:List Gz),Kf k.now.2.2.2.2.2.2 least ws/\(∀z∈ws,Dx k.st.obs k.now (z.2.map (·.1))= []\/Ed (Dx k.st.obs k.now (z.2.map (·.1))))/\Fw k k' (DW k.st.obs k.now ws) (Eh k.now.2.2.2.2.2.2 ws) k.now.2.2.2.2.1)
theorem GD.lki {k b:Lk} {x:Ak} {c:Qa} (h:GD k b x c):Ax b/\b.spec=k.spec:=by
 rcases h with⟨h,-⟩|⟨-,-,-,-,d,-,h,-⟩|⟨-,-,-,-,-,h,-⟩|⟨-,-,h,-⟩
 ·exact⟨h.lki,h.spec⟩
 ·exact⟨h.lki,h.spec⟩
 ·exact⟨h.lki,h.spec⟩
 ·exact⟨h.lki,h.spec⟩
theorem yF {k i:Lk} {x:Ak} {m:Int} (hi:Ax k) (l:x.1=D9) (n:∀r∈x.2.2.2.1,r.1.size<=30) (h:GC k x.2.1 x.2.2.2.1 i m):GD k i x Qe:=by
 obtain⟨o,c,⟨b,-,rfl⟩|⟨b,-,j,f,g⟩⟩:=h
 ·exact Qf ⟨Cu.same hi,fun _ _=>b⟩
 ·exact Qi (Qf ⟨l,rfl,b,c,j,f,g.all hi (fun d hd=>((Lm f c n).2 d hd).2.1),g⟩)
theorem Nd {zs:List Int} :∀d∈DV zs,Bp d.1:=fun d hd=>by
 unfold DV at hd;split at hd
 ·cases hd
 ·rw[Qv]at hd;subst hd;exact show (47:UInt8)∈(⟨#[103,111,110,101,47]⟩:ByteArray).data.toList by decide
theorem yG {obs:List Ob} {x:Sn} {ws:List Gz} :∀d∈DW obs x ws,Bp d.1:=fun d b=>by
 obtain⟨z,-,b⟩:=Qp.1 b;unfold Ie at b;split at b
 ·cases b
 ·rw[Qv]at b;subst b;exact show (47:UInt8)∈(⟨#[100,97,116,97,47]⟩:ByteArray).data.toList by decide
theorem yH {k d:Lk} {x:Ak} {m:Int} (hi:Ax k) (i:x.1=DA) (h:Fx k x.2.1 x.2.2.2.2 d m):GD k d x Qe:=by
 obtain⟨j,f,g,⟨b,-,rfl⟩|⟨b,-,c⟩⟩:=h
 ·exact Qf ⟨Cu.same hi,fun _ _=>b⟩
 ·exact Qi (Qi (Qf ⟨i,rfl,b,g,f,c.all hi Nd,c⟩))
theorem yI {k f:Lk} {x:Ak} {m:Int} {l:Qa} (hi:Ax k) (c:x.1≠D9/\x.1≠DA) (h:I8 k f m):GD k f x l:=by
 rcases h with rfl | ⟨b,g,i,j,d⟩
 ·exact Qf ⟨Cu.same hi,fun h _=>absurd h (by simp[c.1,c.2])⟩
 ·exact Qi (Qi (Qi ⟨c.1,c.2,d.all hi yG,b,g,i,j,d⟩))
theorem Ln {k c:Lk} {x:Ak} {d:Qa} (h:Cu k c) (b:(x.1≠D9/\x.1≠DA)\/d≠ Qe):GD k c x d :=
 Qf ⟨h,fun h1 h2=>by
  rcases b with b | b
  ·exact absurd h1 (by simp[b.1,b.2])
  ·exact absurd h2 b⟩
theorem Ws (q:Option Qr) (c:Nat) (zs:List Int) (w:Qh) (z:A3 w (A q zs.length c) zs) (B:q=S->c=0) (C:zs.length<=1000) :
  Qb Qc 28 #[A q zs.length c] w fun e w'=> ∃v',e=H v'/\w'.ownsRow w.heap.size 3 1 v' zs.length (zs.map EO)/\BL w w':=by
 obtain⟨v,j,l,m,b⟩:=Tryz.numInfo;have d:Z _:=UQ z B;obtain⟨L,n⟩:∃L,zs.length=L:=⟨_,rfl⟩;have f:Z _:=n;rw[n]at C ⊢
 go_enter func28,ntmps28
 go_wp2_with (at_builtin;(refine NX rfl _ _ 32 rfl w.heap.size 3 v (O U 0) 1 8 underlying32 j l m b rfl (by decide) (A S 0 0) 0 [] rfl (World.ownsRow_nil _ _ _ _) q L c (zs.map EO) rfl ?qf1 ?qf2 ?qf3 ?qf4 ?qf5 ?qf6 ?_))
 any_goals first
  | (intro u y;obtain⟨x,_,rfl⟩:=Q3.1 y;rfl)
  | (rw[Qm,f.out];simp)
  | (have g:=d.out;rw[f.out]at g;exact g)
  | (unfold maxLen;omega)
  | omega
  | exact Q4 _
 intro o p r s _;have i:=(Qn _ _).grown s (Q4 _) (fun k hk=>by simp[Value.ownBlock]at hk);have t:Z (p.ownsRow w.heap.size 3 1 o L (zs.map EO)):=by
  show p.ownsRow _ _ _ _ _ _;simpa using r
 go_wp2;go_ret;exact⟨o,rfl,t.out,i⟩
attribute [local go_sem] Oper.semAt_some
def Dl (x:Ak) (vr vz:Qa):Qa:=.agg #[Qd x.1,O U x.2.1,O U x.2.2.1,vr,vz]
def BO (W:Qh) (kb:Nat) (vs:Qa) (SP:Nat->Prop) (k:Lk) (x:Ak) (e:Ending) (w':Qh):Prop :=
 ∃kb' SP' vi' vf' k' ev,e=H (V #[J (I ⟨kb',0,S⟩),ev])/\(ev=Qe\/∃t u,ev=Qk t u)/\Ac (fun j=>SP j\/j=kb) W w'/\(∀j,SP' j->SP j\/W.heap.size<=j)/\(kb'=kb\/W.heap.size<=kb')/\(An w' kb' vs SP' k'.st.head vi' vf' k'/\Ft W kb k vi' vf' k')/\GD k k' x ev
section
variable {a : Nat → Qr} {B : Nat} {EM : Qh → Prop}
theorem AX.play {W X w':Qh} {b:Nat} {p:Qa} {f:Nat->Prop} {k:Lk} {Q:Lk->Int->Prop} {G:Prop} {x:Ak} {e:Ending} (h:AX X b p f k Q G e w') (hi:Ax k) (g:BL W X) (q:b<W.heap.size) (B:∀k' m,Q k' m->GD k k' x Qe):∃m ev,e=H (V #[O U m,ev])/\BO W b p f k x (H (V #[J (I ⟨b,0,S⟩),ev])) w':=by
 obtain⟨c,n,o,k',m,ev,rfl,r,s,d,v⟩:=h;have i:Ac (fun j=>f j\/j=b) W w':=(Ac.of_below g).trans r (fun _ h _=>h);have l:∀j,c j->f j\/W.heap.size<=j:=fun j hj=>(s j hj).imp_right (Qq g.size);rcases v with⟨⟨t,u,rfl⟩,-,C,y,rfl⟩|⟨rfl,z⟩
 ·exact⟨m,_,rfl,b,c,n,o,_,_,rfl,Qi ⟨_,_,rfl⟩,i,l,Qf rfl,⟨d.1,d.2.low g q⟩,Ln (Cu.gw hi y) (Qi (by simp))⟩
 ·exact⟨m,_,rfl,b,c,n,o,_,_,rfl,Qf rfl,i,l,Qf rfl,⟨d.1,d.2.low g q⟩,B _ _ z⟩
theorem yJ (K:AJ a B EM A0) (M:∀X,EM X->Bg X a) {W:Qh} {f:Nat} {v:Qa} {p:Nat->Prop} {vi vf:Qa} {k:Lk} (D:EM W) (h:An W f v p k.st.head vi vf k) (hi:Ax k) (N:B<=f/\∀j,p j->B<=j) (P:k.spec.size<=30) (n m:Int) {y s:Qa} {b:List Rw} {zs:List Int} (E:Ar W y b) (Q:b.length<=60) (t:∀r∈b,r.1.size<=30) :
  Qb Qc 10 #[J (I ⟨f,0,S⟩),Qd k.spec,Dl (D9,n,m,b,zs) y s] W (BO W f v p k (D9,n,m,b,zs)):=by
 have g:Z (∀X,BL W X->Qb Qc 26 #[y] X fun e w'=> ∃v',e=H v'/\Ar w' v' b/\BL X w'):=fun X hX=>(Rz y b X (E.below hX) (by omega)).mono fun e w' ⟨v',h1,h2,h3⟩=>⟨v',h1,(II h2).1,h3⟩;have i:Z (∀X v',BL W X->Ar X v' b->Qb Qc 25 #[J (I ⟨f,0,S⟩),O U n,v'] X fun e w'=> ∃z C,e=H (V #[O U z,C])/\BO W f v p k (D9,n,m,b,zs) (H (V #[J (I ⟨f,0,S⟩),C])) w'):=fun X v' hX hv=>(Nc K M (K.below _ _ D (hX.mono (K.size _ D))) (h.quiet K hX) hi N (by omega) n hv (by omega) t).mono fun e w' ho=>ho.play hi hX h.blk.lt (fun k' z hq=>yF hi rfl t hq);obtain⟨q,c,rfl⟩:=E.form;generalize b.length=o at g ⊢;generalize L:BO W f v p k (D9,n,m,b,zs)=PQ at i ⊢;clear K M D h hi N P E Q t L;unfold Dl D9;dsimp only;have d:BL W (W.alloc (Qg #[Qd ⟨#[97,112,112,101,110,100]⟩,O U n,O U m,A q o c,s] 37)):=Af _ _
 go_enter Qt,Qu
 have u:(W.alloc (Qg #[Qd ⟨#[97,112,112,101,110,100]⟩,O U n,O U m,A q o c,s] 37)).cell? ⟨W.heap.size,1,S⟩=I (O U n):=by rw[Qo _ _ _ _ _ _ (Qs _ _)];rfl
 have F:(W.alloc (Qg #[Qd ⟨#[97,112,112,101,110,100]⟩,O U n,O U m,A q o c,s] 37)).cell? ⟨W.heap.size,3,S⟩=I (A q o c):=by rw[Qo _ _ _ _ _ _ (Qs _ _)];rfl
 go_upto_region 3 with fail
 generalize W.alloc (Qg #[Qd ⟨#[97,112,112,101,110,100]⟩,O U n,O U m,A q o c,s] 37)=W1 at d u F ⊢
 go_cut [8,9] from 26 to 35 (fun _ c9 wx=>PQ (H (V #[J (I ⟨f,0,S⟩),c9])) wx)
 case first =>
  first
   | (go_region_with (first
    | (go_at_call 26;(with_reducible refine(g.out _ (by with_reducible first | exact d | exact Qj d | exact Qj (Qj d))).mono ?_);rintro e T ⟨v2,rfl,aa,l⟩;(first | (with_reducible have d:=Ad d l) | (with_reducible have d:=(Qj d).trans (l.mono (Qj d).size)));have u:=Aa l u)
    | (go_at_call 25;with_reducible refine(i.out _ _ (by with_reducible first | exact d | exact Qj d) (by with_reducible assumption)).mono ?_;rintro e T ⟨z,C,rfl,Y⟩)))
   | fail
  all_goals
   go_wp2;go_meet
   case rel=>exact Y
 case rest =>
 have R:Z _:=hcut;clear hcut u F d g i;go_wp2;exact R.out
theorem Wt (a:Nat->Qr) (n:Nat):Ae a n=Qe\/∃t u,Ae a n=Qk t u:=by
 cases n with
 | zero=>exact Qf rfl
 | succ n=>exact Qi ⟨_,_,rfl⟩
theorem Gh {x y:ByteArray} (h:x.data.toList≠y.data.toList):x≠y:=fun e=>h (by rw[e])
theorem yK (K:AJ a B EM A0) (F:∀X,EM X->Bg X a) {W:Qh} {d:Nat} {t:Qa} {p:Nat->Prop} {vi vf:Qa} {k:Lk} (z:EM W) (h:An W d t p k.st.head vi vf k) (hi:Ax k) (L:B<=d/\∀j,p j->B<=j) (n m:Int) {r C:Qa} {f:List Rw} {zs:List Int} (M:A3 W C zs) (N:∃q c,C=A q zs.length c/\(q=S->c=0)) (P:zs.length<=50) :
  Qb Qc 10 #[J (I ⟨d,0,S⟩),Qd k.spec,Dl (DA,n,m,f,zs) r C] W (BO W d t p k (DA,n,m,f,zs)):=by
 obtain⟨q,c,rfl,u⟩:=N;have g:Z (∀X,BL W X->Qb Qc 28 #[A q zs.length c] X fun e w'=> ∃v',e=H v'/\A3 w' v' zs/\BL X w'):=fun X hX=>(Ws q c zs X (M.below hX) u (by omega)).mono fun e w' ⟨v',h1,h2,h3⟩=>⟨v',h1,NT h2,h3⟩;have i:Z (∀X v',BL W X->A3 X v' zs->Qb Qc 27 #[J (I ⟨d,0,S⟩),O U n,v'] X fun e w'=> ∃v y,e=H (V #[O U v,y])/\BO W d t p k (DA,n,m,f,zs) (H (V #[J (I ⟨d,0,S⟩),y])) w'):=fun X v' hX hv=>(Pw K F (K.below _ _ z (hX.mono (K.size _ z))) (h.quiet K hX) hi L n hv (by omega)).mono fun e w' ho=>ho.play hi hX h.blk.lt (fun k' v hq=>yH hi rfl hq);generalize zs.length=o at g ⊢;generalize E:BO W d t p k (DA,n,m,f,zs)=Y at i ⊢;clear K F z h hi L M P E u;unfold Dl DA;dsimp only;have b:BL W (W.alloc (Qg #[Qd ⟨#[100,101,108,101,116,101]⟩,O U n,O U m,r,A q o c] 37)):=Af _ _
 go_enter Qt,Qu
 have s:(W.alloc (Qg #[Qd ⟨#[100,101,108,101,116,101]⟩,O U n,O U m,r,A q o c] 37)).cell? ⟨W.heap.size,1,S⟩=I (O U n):=by rw[Qo _ _ _ _ _ _ (Qs _ _)];rfl
 have D:(W.alloc (Qg #[Qd ⟨#[100,101,108,101,116,101]⟩,O U n,O U m,r,A q o c] 37)).cell? ⟨W.heap.size,4,S⟩=I (A q o c):=by rw[Qo _ _ _ _ _ _ (Qs _ _)];rfl
 go_upto_region 6 with fail
 generalize (W.alloc (Qg #[Qd ⟨#[100,101,108,101,116,101]⟩,O U n,O U m,r,A q o c] 37))=W1 at b s D ⊢
 go_cut [10,11] from 40 to 49 (fun _ c9 wx=>Y (H (V #[J (I ⟨d,0,S⟩),c9])) wx)
 case first =>
  first
   | (go_region_with (first
    | (go_at_call 28;(with_reducible refine(g.out _ (by with_reducible first | exact b | exact Qj b | exact Qj (Qj b))).mono ?_);rintro e R ⟨v2,rfl,aa,l⟩;(first | (with_reducible have b:=Ad b l) | (with_reducible have b:=(Qj b).trans (l.mono (Qj b).size)));have s:=Aa l s)
    | (go_at_call 27;(with_reducible refine(i.out _ _ (by with_reducible first | exact b | exact Qj b) (by with_reducible assumption)).mono ?_);rintro e R ⟨v,y,rfl,T⟩)))
   | fail
  all_goals
   go_wp2;go_meet
   case rel=>exact T
 case rest =>
 have Q:Z _:=hcut;clear hcut s D b g i;go_wp2;exact Q.out
theorem yL (K:AJ a B EM A0) (t:∀X,EM X->Bg X a) {W:Qh} {c:Nat} {g:Qa} {f:Nat->Prop} {C vf:Qa} {k:Lk} (q:EM W) (h:An W c g f k.st.head C vf k) (hi:Ax k) (u:B<=c/\∀j,f j->B<=j) (n m:Int) {v y:Qa} {b:List Rw} {zs:List Int} :
  Qb Qc 10 #[J (I ⟨c,0,S⟩),Qd k.spec,Dl (⟨#[112,97,99,107]⟩,n,m,b,zs) v y] W (BO W c g f k (⟨#[112,97,99,107]⟩,n,m,b,zs)):=by
 have i:(⟨#[112,97,99,107]⟩:ByteArray)≠D9/\(⟨#[112,97,99,107]⟩:ByteArray)≠DA:=⟨Gh (by decide),Gh (by decide)⟩;have d:Z (∀X,BL W X->Qb Qc 34 #[J (I ⟨c,0,S⟩),O U n] X fun e w'=> ∃o p,e=H (V #[O U o,p])/\BO W c g f k (⟨#[112,97,99,107]⟩,n,m,b,zs) (H (V #[J (I ⟨c,0,S⟩),p])) w'):=fun X hX=>(yC K t (K.below _ _ q (hX.mono (K.size _ q))) (h.quiet K hX) hi u n).mono fun e w' ho=>ho.play hi hX h.blk.lt (fun k' o hq=>yI hi i hq);generalize s:BO W c g f k (⟨#[112,97,99,107]⟩,n,m,b,zs)=E at d ⊢;clear K t q h hi u s i;unfold Dl;dsimp only;have l:=d.out (W.alloc (Qg #[Qd ⟨#[112,97,99,107]⟩,O U n,O U m,v,y] 37)) (Af _ _)
 go_enter Qt,Qu
 go_wp2_with fail
 refine l.mono ?_;rintro e D ⟨o,p,rfl,r⟩;have z:Z _:=r;clear r l d;go_wp2;exact z.out
theorem yM (K:AJ a B EM A0) (t:∀X,EM X->Bg X a) {W:Qh} {c:Nat} {g:Qa} {f:Nat->Prop} {C vf:Qa} {k:Lk} (q:EM W) (h:An W c g f k.st.head C vf k) (hi:Ax k) (u:B<=c/\∀j,f j->B<=j) (n m:Int) {v y:Qa} {b:List Rw} {zs:List Int} :
  Qb Qc 10 #[J (I ⟨c,0,S⟩),Qd k.spec,Dl (⟨#[101,120,112,105,114,101]⟩,n,m,b,zs) v y] W (BO W c g f k (⟨#[101,120,112,105,114,101]⟩,n,m,b,zs)):=by
 have i:(⟨#[101,120,112,105,114,101]⟩:ByteArray)≠D9/\(⟨#[101,120,112,105,114,101]⟩:ByteArray)≠DA:=⟨Gh (by decide),Gh (by decide)⟩;have d:Z (∀X,BL W X->Qb Qc 35 #[J (I ⟨c,0,S⟩),O U n,O U m] X fun e w'=> ∃o p,e=H (V #[O U o,p])/\BO W c g f k (⟨#[101,120,112,105,114,101]⟩,n,m,b,zs) (H (V #[J (I ⟨c,0,S⟩),p])) w'):=fun X hX=>(tQ K t (K.below _ _ q (hX.mono (K.size _ q))) (h.quiet K hX) hi u n m).mono fun e w' ho=>ho.play hi hX h.blk.lt (fun k' o hq=>Ln (Cu.few hi hq) (Qf i));generalize s:BO W c g f k (⟨#[101,120,112,105,114,101]⟩,n,m,b,zs)=E at d ⊢;clear K t q h hi u s i;unfold Dl;dsimp only;have l:=d.out (W.alloc (Qg #[Qd ⟨#[101,120,112,105,114,101]⟩,O U n,O U m,v,y] 37)) (Af _ _)
 go_enter Qt,Qu
 go_wp2_with fail
 refine l.mono ?_;rintro e D ⟨o,p,rfl,r⟩;have z:Z _:=r;clear r l d;go_wp2;exact z.out
theorem yN (K:AJ a B EM A0) (t:∀X,EM X->Bg X a) {W:Qh} {b:Nat} {l:Qa} {g:Nat->Prop} {u vf:Qa} {k:Lk} (q:EM W) (h:An W b l g k.st.head u vf k) (hi:Ax k) (v:B<=b/\∀j,g j->B<=j) (n m:Int) {y z:Qa} {c:List Rw} {zs:List Int} :
  Qb Qc 10 #[J (I ⟨b,0,S⟩),Qd k.spec,Dl (⟨#[99,108,101,97,110]⟩,n,m,c,zs) y z] W (BO W b l g k (⟨#[99,108,101,97,110]⟩,n,m,c,zs)):=by
 have o:(⟨#[99,108,101,97,110]⟩:ByteArray)≠D9/\(⟨#[99,108,101,97,110]⟩:ByteArray)≠DA:=⟨Gh (by decide),Gh (by decide)⟩;have f:Z (∀X,BL W X->Qb Qc 14 #[J (I ⟨b,0,S⟩),O U n] X fun e w'=> ∃i d,e=H (V #[O U i,d])/\BO W b l g k (⟨#[99,108,101,97,110]⟩,n,m,c,zs) (H (V #[J (I ⟨b,0,S⟩),d])) w'):=fun X hX=>(uT K t (K.below _ _ q (hX.mono (K.size _ q))) (h.quiet K hX) hi v.2 n).mono fun e w' ⟨SP',s',i,d,he,hev,h1,h2,h3,h4⟩=>⟨i,d,he,b,SP',u,vf, { k with st:=s' },d,rfl,hev,(Ac.of_below hX).trans h1 (fun _ h _=>Qf h),fun j hj=>(h2 j hj).imp_right (Qq hX.size),Qf rfl,⟨by
   have C:s'.head=k.st.head:=by obtain⟨N,E,-⟩:=h4;exact E.head
   rw[C];exact h3,h.owt⟩,Ln (Cu.clean hi h4) (Qf o)⟩
 generalize s:BO W b l g k (⟨#[99,108,101,97,110]⟩,n,m,c,zs)=L at f ⊢;clear K t q h hi v s o;unfold Dl;dsimp only;have p:=f.out (W.alloc (Qg #[Qd ⟨#[99,108,101,97,110]⟩,O U n,O U m,y,z] 37)) (Af _ _)
 go_enter Qt,Qu
 go_wp2_with fail
 refine p.mono ?_;rintro e F ⟨i,d,rfl,r⟩;have D:Z _:=r;clear r p f;go_wp2;exact D.out
end
end
end Go.Proofs.YtcllhobffhkafaaGreatDoor
