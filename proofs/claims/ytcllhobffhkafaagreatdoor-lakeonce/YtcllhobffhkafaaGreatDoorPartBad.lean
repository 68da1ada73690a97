/- By an AI agent. -/
import Derived.Test.YtcllhobffhkafaaGreatDoorLkaChk
set_option maxRecDepth 100000
set_option maxHeartbeats 16000000
open Go.Proofs.Tryz
open Array renaming getElem?_eq_some_iff->Qi,replicate_succ->Qy,replicate_zero->Qz
open Go renaming World->G,Value->Qa,maxLen->Qc,Boxed->Qe,Addr->Qf,callsIn_wide->Qm,lt_of_block->Qn,OwnFrom->Qq,Calls->Qr,callsIn_of_wp_marks->Qs,ownsRow_succ->QF,results_tmp2->QG,run_takeDeferred->QJ,wpList_append_own_at->QT,wpList_mapUpdate_own->QV
open Go.IntKind renaming i64->Z
open Go.Obj renaming cells->H,deferred->Qd
open Go.Proofs.Tryz renaming prog->V,underlying9->Q6,func56->QD,ntmps56->QE,underlying35->QU,underlying163->QW
open Go.RowKit renaming Hid->J,run_makeMap->QR
open Go.Value renaming int->U,slice->I,string->A,pointer->Qg,agg->Qo,tuple->QC,ownBlock->QQ
open Go.World renaming putObj_heap_other->Q7,cell?->QH
open List renaming getElem_mem->Ql,size_toArray->Qt,length_cons->Qu,length_nil->Qv,push_toArray->Q0,append_toArray->Q1,nil_append->Q2,cons_append->Q3,flatMap_append->Q4,length_append->Q5,length_take->Q8,take_append_getElem->Q9,length_map->QA,nodup_cons->QI,flatMap_cons->QL,flatMap_nil->QM,append_nil->QN,map_append->QO,mem_cons->QP,length_filter_le->QS
open Nat renaming le_refl->Qh,le_trans->Qj,lt_of_lt_of_le->Qp,reduceAdd->Qw,reduceSub->Qx,zero_add->QB,zero_le->QK
open Option renaming some->O,none->S
open Or renaming inr->Qb,inl->Qk
namespace Go.Proofs.YtcllhobffhkafaaGreatDoor
open Go.Extern Go.Extern.Stop Go.Lib Go.RowKit Go.Shelf Go.Sort Go.Stop
section
attribute [local go_sem] Oper.semAt_some
def D8 (B:Nat) (W W':G):Prop :=
 W.heap.size<=W'.heap.size/\∀k,k<W.heap.size->(k<B\/∃cs t fz,W.heap[k]? =O (H cs t fz)/\t≠100/\t≠111)->W'.heap[k]? =W.heap[k]?
theorem D8.trans {B:Nat} {b C E:G} (h:D8 B b C) (k:D8 B C E):D8 B b E :=
 ⟨Qj h.1 k.1,fun i hi c=>by
  have e:=h.2 i hi c;rw[<-e];refine k.2 i (Qp hi h.1) ?_;rcases c with c | ⟨d,t,f,g,j⟩
  ·exact Qk c
  ·exact Qb ⟨d,t,f,e.trans g,j⟩⟩
theorem D8.of_below {B:Nat} {W b:G} (h:BL W b):D8 B W b:=⟨h.size,fun k hk _=>h.block k hk⟩
theorem D8.cell {B:Nat} {W d:G} (h:D8 B W d) {b o:Nat} {v:Qa} (g:b<B) (c:W.cell? ⟨b,o,S⟩=O v):d.cell? ⟨b,o,S⟩=O v:=by
 have f:=BD c;simp only[QH]at c ⊢;rw[h.2 b f (Qk g)];exact c
theorem wV {β:Type} {B C:Nat} {b:G} (c:b.heap.size<=C):Qq C (fun (_:β) W=>D8 B b W):=fun _ X Y row hs hg hr=>⟨Qj hs.1 hg.size,fun k hk hc=>(hg.block k (Qp hk hs.1) (fun e=>by have:=(hr k e.symm).1;omega)).trans (hs.2 k hk hc)⟩
theorem Wf {i:Func} {b:Array Qa} {n base:Nat} {R:Ending->G->Prop} {T:G->Prop} (c:∀W,∃v,(results i b).run V W= .ok v W) (j:∀W D o o',T W->base<=D->W.heap[D]? =O o->o.isCells=false->T (W.putObj D o')) (k:∀v W,T W->R (.returned v) W):∀(Ds:List Nat) (W:G),Ds.Nodup->(∀D∈Ds,base<=D/\W.heap[D]? =O (Qd (O [])))->T W->LeavesInM Fence.wide n V i b R (Ds.map fun D=> { target:=.collected D,args:=#[] }) .returning W
 | [],W,_,_,h=>by
  obtain⟨v,l⟩:=c W;exact⟨v,l,k v W h⟩
 | D :: r,W,hn,hD,h=>by
  obtain⟨m,p⟩:=QI.1 hn;obtain⟨q,d⟩:=hD D List.mem_cons_self;refine⟨by simp,Qk ⟨D,_,rfl,QJ d,Wf c j k r _ p (fun D' hD'=>?_) (j _ _ _ _ h q d rfl)⟩⟩;obtain⟨f,g⟩:=hD D' (List.mem_cons_of_mem _ hD');exact⟨f,(Q7 (fun e=>m (by rw[<-e];exact hD'))).trans g⟩
theorem wW {m i l j:Nat} {f:FuncId} {d:Array Qa} {b g:Code} {w:G} {R:Ending->G->Prop} (h:RoundIn Fence.wide m V l f d b g w R):RoundIn (Fence.wide.inRound j) i V l f d b g w R:=⟨h.1,fun c cs _=>h.2 c cs (room_wide _)⟩
theorem xA {w W:G} {v:Qa} {xs:List Rw} (h:Ar w v xs) (m:∀g,v.ownBlock=O g->W.heap[g]? =w.heap[g]?):Ar W v xs:=by
 rcases h with h | ⟨b,o,c,e,l⟩
 ·exact Qk h
 ·refine Qb ⟨b,o,c,e,fun j hj=>?_⟩;have:=m b (by rw[e];rfl);have k:∀o v,w.cell? ⟨b,o,S⟩=O v->W.cell? ⟨b,o,S⟩=O v:=fun o v h=>by
   simp only[QH]at h ⊢;rw[this];exact h
  obtain⟨d,f,i⟩:=l j hj;exact⟨k _ _ d,k _ _ f,k _ _ i⟩
theorem xB {β:Type} {B c:Nat} {b:β->G->Prop} (h:Qq B b) (d:B<=c):Qq c b:=fun s X Y row hs hg hr=>h s X Y row hs hg (fun r e=>⟨Qj d (hr r e).1,(hr r e).2⟩)
abbrev Gk:=ByteArray×Qa×List Rw
structure I5 (w:G) (B:Nat) (gv:Qa) (gs:List Gk):Prop where
 form:∃q c,gv=I q gs.length c
 cells:∀j (h:j<gs.length),∃gb c,gv=I (O ⟨gb,0,S⟩) gs.length c/\gb<B/\w.cell? ⟨gb,j*2,S⟩=O (A gs[j].1)/\w.cell? ⟨gb,j*2+1,S⟩=O gs[j].2.1
 rows:∀g∈gs,Ar w g.2.1 g.2.2/\(g.2.2≠ []->∀k,g.2.1.ownBlock=O k->k<B)/\g.2.2.length<=1000
theorem I5.keep {w W:G} {B:Nat} {k:Qa} {gs:List Gk} (h:I5 w B k gs) (f:D8 B w W):I5 W B k gs :=
 ⟨h.form,fun j hj=>by
  obtain⟨l,c,e,d,m,n⟩:=h.cells j hj;exact⟨l,c,e,d,f.cell d m,f.cell d n⟩,fun g hg=>by
  obtain⟨q,i,r⟩:=h.rows g hg;refine⟨?_,i,r⟩;rcases q with⟨p,c,e,v⟩|⟨b,o,c,e,y⟩
  ·exact Qk ⟨p,c,e,v⟩
  ·refine Qb ⟨b,o,c,e,fun j hj=>?_⟩;have d:b<B:=i (fun e=>by rw[e]at hj;simp at hj) b (by rw[e];rfl);obtain⟨s,t,u⟩:=y j hj;exact⟨f.cell d s,f.cell d t,f.cell d u⟩⟩
def Cn (gs:List Gk):List (ByteArray×List Rw):=gs.flatMap fun g=>(DH ((g.2.2.length+39) / 40)).map fun i=>(g.1,((A5 g.2.2).drop i).take 40)
def PT (gs:List Gk) (pre:List Gk) (x:Gk) (W:G):Prop:=pre.length<(Cn gs).length/\Ar W x.2.1 x.2.2/\(∃g∈gs,x.1=g.1/\∀r∈x.2.2,r∈g.2.2)/\x.2.2.length<=40
theorem xC {W:G} {q:Option Qf} {c L i g:Nat} {xs:List Rw} (h:Ar W (I q L c) xs) (m:xs.length=L) (hi:i<L) (n:q=O ⟨g,0,S⟩):Ar W (Hf q L i) ((xs.drop i).take 40):=by
 subst n m;have d:((xs.drop i).take 40).length=min 40 (xs.length-i):=by rw[Q8,List.length_drop]
 rcases h with⟨p,f,e,k⟩|⟨b,o,f,e,l⟩
 ·rw[k]at hi;simp at hi
 ·injection e with e1 e2 e3;injection e1 with e1;injection e1 with e1 e4;subst e1 e4;refine Qb ⟨g,i*3,_,by unfold Hf;rw[d];rfl,fun j hj=>?_⟩;rw[d]at hj;have:=l (i+j) (by omega);rw[show 0+(i+j)*3=i*3+j*3 by omega]at this;simp only[List.getElem_take,List.getElem_drop];exact this
def EX (w:G) (v:Qa):G:=(w.alloc (H #[v] 35)).alloc (H #[U Z 40] 3)
theorem xD (q:Option Qf) (L c:Nat) (w:G):Qr V 108 #[I q L c,U Z 40] w fun e w'=>e= .returned (.func (.func 190) #[] #[Qg (O ⟨w.heap.size,0,S⟩),Qg (O ⟨w.heap.size+1,0,S⟩)])/\w'=EX w (I q L c):=by
 go_enter func108,ntmps108
 go_wp2;go_ret;exact⟨rfl,rfl⟩
theorem xE (n bx B:Nat) (gv:Qa) (gs:List Gk) (w:G) (a9:Qe w bx 95 gv) (ba:I5 w B gv gs) (hl:gs.length<=1000) :
  PP n 107 #[Qg (O ⟨bx,0,S⟩)] (fun x:Gk=>#[A x.1,x.2.1]) (PT gs) (D8 B) (fun xs=>xs.map (fun x=>(x.1,x.2.2))=Cn gs) w:=by
 intro l d W hW hJ hY h0;have HY:J (∀z x W1,d z W1->PT gs z x W1->YieldAt Fence.wide (n-1) V l #[A x.1,x.2.1] W1 fun e W'=>e= .returned (.bool true)/\d (z++ [x]) W'/\D8 B W1 W'/\KeepsFrom W.heap.size W1 W'):=hY;have au:Qe W bx 95 gv:=(hW.block bx a9.lt).trans a9;have bb:I5 W B gv gs:=ba.keep (.of_below hW);obtain⟨q,c,rfl⟩:=ba.form;have c1:=au.cell;have P:BL W (W.alloc (H #[.func (.yield l) #[] #[]] 168)):=Af _ _;have bc:=Boxed.new W 168 (.func (.yield l) #[] #[]);have bd:d [] (W.alloc (H #[.func (.yield l) #[] #[]] 168)):=hJ.alloc _ h0;clear hY a9 ba h0;refine Qs func107 rfl trivial ?_ rfl;simp only[ntmps107,Qt,Qu,Qv,Qw,Qx,Qy,Qz,Q0,Q1,Q2,Q3];have bw:=Aa P c1
 gi_wp2
 have cb:J (W.heap.size<=(W.alloc (H #[.func (.yield l) #[] #[]] 168)).heap.size):=P.size;have be:J (I5 (W.alloc (H #[.func (.yield l) #[] #[]] 168)) B (I q gs.length c) gs):=bb.keep (.of_below P);have aa:J (Qe (W.alloc (H #[.func (.yield l) #[] #[]] 168)) W.heap.size 168 (.func (.yield l) #[] #[])):=bc;generalize bs:W.heap.size=F at *;generalize W.alloc (H #[.func (.yield l) #[] #[]] 168)=W2 at *;have cc:J (W.heap.size=F):=bs;have av:J (Qq F d):=hJ;clear hW au bb P c1 bw bc bs hJ;refine wpIn_loop (fun a' w'=> ∃(k:Nat) (xs:List Gk) (M:List Nat) (u4 u5 u9 u10 u11 u12 u13 u14 u15 u16 u17 u18 u19 u20 u21 u22 u23:Qa),a'= { tmps:=#[.func (.yield l) #[] #[],Qg (O ⟨bx,0,S⟩),Qg (O ⟨F,0,S⟩),undef,u4,u5,I q gs.length c,U Z gs.length,U Z k,u9,u10,u11,u12,u13,u14,u15,u16,u17,u18,u19,u20,u21,u22,u23],defers:=M.map fun D=> { target:=.collected D,args:=#[] } } /\k<=gs.length/\d xs w'/\xs.map (fun x=>(x.1,x.2.2))=Cn (gs.take k)/\D8 B W2 w'/\M.Nodup/\∀D∈M,F<=D/\w'.heap[D]? =O (Qd (O []))) (fun a' _=>gs.length-(intOf (a'.tmps.getD 8 undef)).toNat) ⟨0, [], [],_,_,_,_,_,_,_,_,_,_,_,_,_,_,_,_,_,rfl,QK _,bd,rfl,⟨Qh _,fun _ _ _=>rfl⟩,List.nodup_nil,fun D h=>by cases h⟩ ?_;clear bd;rintro _ wr ⟨k,xs,M,u4,u5,u9,u10,u11,u12,u13,u14,u15,u16,u17,u18,u19,u20,u21,u22,u23,rfl,hk,bp,ak,ae,a4,a5⟩;by_cases aw:k<gs.length
 case neg =>
  have bf:k=gs.length:=by omega
  have cd:¬(k:Int)<(gs.length:Int):=by omega
  have HE:J (xs.map (fun x=>(x.1,x.2.2))=Cn gs):=by
   rw[bf,List.take_length]at ak;exact ak
  clear ae ak bf hk
  gi_wp2
  refine Wf (base:=F) (T:=d xs) (fun W=>⟨_,results_none rfl _ _ _⟩) (fun W D o o' h hb ho hc=>av.out.putObj _ h hb ho hc) (fun v W h=>⟨⟨_,rfl⟩,_,HE.out,h⟩) M wr a4 a5 bp
 case pos =>
 obtain⟨gb,c',b5,ck,e0,E⟩:=(be.out.keep ae).cells k aw;obtain⟨ai,a2,ar⟩:=(be.out.keep ae).rows gs[k] (Ql _);have bg:J (gs[k]∈gs):=Ql _;have ax:J (gs.take (k+1)=gs.take k++ [gs[k]]):=(Q9 aw).symm;generalize gs[k]=gk at e0 E ai a2 ar bg ax;injection b5 with hq1 hq2 hq3;subst hq1;obtain⟨R,gv,m⟩:=gk;dsimp only at e0 E ai a2 ar;obtain⟨qr,cr,rfl⟩:=ai.form;have ce:(k:Int)<(gs.length:Int):=by omega
 have cf:(0:Int)<=(k:Int):=by omega
 have af:=wT _ m (wr.alloc (H #[A R,I qr m.length cr] 167)) (ai.below (Af _ _)) (by omega);have ag:=heap_alloc_new wr (H #[A R,I qr m.length cr] 167);have P:BL wr (wr.alloc (H #[A R,I qr m.length cr] 167)):=Af _ _;have bh:J _:=ak;have bi:J (M.Nodup/\∀D∈M,F<=D/\wr.heap[D]? =O (Qd (O []))):=⟨a4,a5⟩;clear a4 a5 ak hq3 hq2 ai a2 aw;obtain⟨RL,a3⟩:∃n,m.length=n:=⟨_,rfl⟩;have an:J (m.length=RL):=a3;rw[a3]at af ag P ar E;clear a3
 gi_wp2_with fail
 refine⟨trivial,(fun h=>by cases h),((Qm (n:=n-1)).2 af).mono ?_⟩;rintro e u ⟨vs,rfl,a6,a7,b7⟩;obtain⟨t,j,C,rfl,b6,bn⟩:=b7;have bj:=xD t j C u;clear af
 gi_wp2_with fail
 refine⟨trivial,(fun h=>by cases h),((Qm (n:=n-1)).2 bj).mono ?_⟩;rintro e w4 ⟨rfl,rfl⟩;clear bj
 gi_wp2_with fail
 have bz:j=RL:=by
  obtain⟨q0,c0,e⟩:=a6.form;injection e with _ L _;rw[L,Hi,an.out]
 subst bz;have ab:BL wr u:=Ad P a7;have ac:BL u (EX u (I t j C)):=(Af _ _).alloc (by simp) _;have ao:Qe (EX u (I t j C)) u.heap.size 35 (I t j C):=(Boxed.new u 35 (I t j C)).alloc _;have ap:Qe (EX u (I t j C)) (u.heap.size+1) 3 (U Z 40):=by
  have:=Boxed.new (u.alloc (H #[I t j C] 35)) 3 (U Z 40);simpa [EX] using this
 have ay:(EX u (I t j C)).heap[wr.heap.size]? =O (H #[A R,I qr j cr] 167 (0,0)):=(ac.block _ (Qp (Qn ag) a7.size)).trans ((a7.block _ (Qn ag)).trans ag);have az:Qe (EX u (I t j C)) F 168 (.func (.yield l) #[] #[]):=by
  have E:=(ae.2 F aa.out.lt (Qb ⟨_,_,_,aa.out,by decide,by decide⟩)).trans aa.out;have L:=(ab.block F (Qn E)).trans E;exact(ac.block F (Qn L)).trans L
 have b0:∀g,(I t j C).ownBlock=O g->∃aj fz,(EX u (I t j C)).heap[g]? =O (H aj 62 fz)/\(EX u (I t j C)).heap[g]? =u.heap[g]? :=fun g Q=>by
  cases t with
  | none=>cases Q
  | some ad =>
   obtain⟨g',aj,fz,E,L⟩:=bn ad rfl;subst E;injection Q with Q;have Q:g'=g:=Q;subst Q;have:=ac.block g' (Qi.1 L).1;exact⟨aj,fz,this.trans L,this⟩
 have bt:=ae.trans ((D8.of_below ab).trans (D8.of_below ac));have b2:=av.out xs _ _ S bp (PR (Ad ab ac)) (fun r e=>by cases e);have ah:∀D∈M,F<=D/\D<wr.heap.size/\(EX u (I t j C)).heap[D]? =O (Qd (O [])):=fun D N=>by
  obtain⟨h1,h2⟩:=bi.out.2 D N;have hl:=(Qi.1 h2).1;exact⟨h1,hl,(ac.block D (Qp hl ab.size)).trans ((ab.block D hl).trans h2)⟩
 have b9:wr.heap.size<=u.heap.size/\u.heap.size+2<=(EX u (I t j C)).heap.size:=⟨ab.size,by simp[EX]⟩;have cg:=Nat.le_of_lt (Qn ((ae.2 F aa.out.lt (Qb ⟨_,_,_,aa.out,by decide,by decide⟩)).trans aa.out));have bk:j≠0->∃g,t=O ⟨g,0,S⟩:=fun hn=>by
  rcases a6 with⟨p,c',e,hx⟩|⟨b,o,c',e,hc⟩
  ·injection e with _ L _;exact absurd L hn
  ·injection e with E _ _;obtain⟨g,aj,fz,e3,-⟩:=bn _ E;exact⟨g,by rw[E,e3]⟩
 generalize ca:u.heap.size=b1 at *;have a0:∀(z:List Nat) (f:Nat->Gk),z.length*40<j->(xs++z.map f).length<(Cn gs).length:=fun z f hm=>by
  have E:=congrArg List.length bh.out;rw[QA]at E;have L:Cn gs=Cn (gs.take (k+1))++Cn (gs.drop (k+1)):=by
   unfold Cn;rw[<-Q4,List.take_append_drop]
  rw[L,ax.out,Q5,Q5,QA,E];unfold Cn DH;rw[Q4,Q5];simp only[QL,QM,QN,QA,List.length_range,an.out];omega
 have bu:=wU (n-1) b1 (b1+1) j C t _ ao ap ar b6 bk;refine Wd (n:=n) rfl (enters_of func190 (by kernel_rfl) rfl) (fun _=>rfl) bu (fun h k=>⟨k.1.trans h.1,k.2.trans h.2⟩) (fun W l o o' hl _ _=>⟨Q7 (by omega),Q7 (by omega)⟩) (fun z i _ X Y row hs _ _=>hs)
  (fun z W=>d (xs++z.map fun i=>(R,Hf t j i,((A5 m).drop i).take 40)) W/\D8 B (EX u (I t j C)) W/\∀D∈M,W.heap[D]? =O (Qd (O []))) ?own ⟨by simpa using b2,⟨Qh _,fun _ _ _=>rfl⟩,fun D N=>(ah D N).2.2⟩ ?a1 ?assign ?body ?done
 case assign =>
  intro l x W K hK
  gi_wp2
  exact hK
 case own =>
  refine OwnFrom.and (fun s X Y row hs Q hr=>xB av.out (by omega) _ X Y row hs Q hr) (OwnFrom.and (wV (Qh _)) fun s X Y row hs Q hr D N=>?_);have h2:=hs D N;exact(Q.block D (Qi.1 h2).1 (fun e=>by have:=(hr D e.symm).1;have:=(ah D N).2.1;omega)).trans h2
 case body =>
  rintro l' z i W cl-⟨al,y,am⟩ ⟨-,bv,hi⟩;obtain⟨g,bo⟩:=bk (by omega);have bl:Ar W (Hf t j i) (((A5 m).drop i).take 40):=by
   refine xC (g:=g) (xA a6 fun g' hg'=>?_) (by rw[Hi,an.out]) hi bo;obtain⟨aj,fz,E,L⟩:=b0 g' hg';exact((y.2 g' (Qi.1 E).1 (Qb ⟨_,_,_,E,by decide,by decide⟩))).trans L
  have hx:PT gs (xs++z.map fun i=>(R,Hf t j i,((A5 m).drop i).take 40)) (R,Hf t j i,((A5 m).drop i).take 40) W:=⟨a0 z _ (by omega),bl,⟨_,bg.out,rfl,fun r hr=>(Ej m).mem_iff.1 (List.mem_of_mem_drop (List.mem_of_mem_take hr))⟩,List.length_take_le _ _⟩;obtain⟨fn,tmps,assign,body,hy,hR⟩:=HY.out _ _ W al hx;dsimp only at hy;have ch:W.cell? ⟨wr.heap.size,0,S⟩=O (A R):=by
   have:=(y.2 _ (Qi.1 ay).1 (Qb ⟨_,_,_,ay,by decide,by decide⟩)).trans ay;rw[cell_of_row _ _ _ _ _ _ this];rfl
  have ci:W.cell? ⟨F,0,S⟩=O (.func (.yield l) #[] #[]):=(show Qe W F _ _ from (y.2 _ az.lt (Qb ⟨_,_,_,az,by decide,by decide⟩)).trans az).cell;have aq:J (W.heap[b1]? =O (H #[I t j C] 35 (0,0))/\W.heap[b1+1]? =O (H #[U Z 40] 3 (0,0))):=⟨(y.2 _ ao.lt (Qb ⟨_,_,_,ao,by decide,by decide⟩)).trans ao,(y.2 _ ap.lt (Qb ⟨_,_,_,ap,by decide,by decide⟩)).trans ap⟩;have b3:J (D8 B (EX u (I t j C)) W):=y;have bm:J (∀D∈M,F<=D/\W.heap[D]? =O (Qd (O []))):=fun D N=>⟨(ah D N).1,am D N⟩;clear y am al bl hx bo bv
  gi_wp2
  refine⟨(fun h=>by cases h),(wW hR).mono ?_⟩;rintro e W5 ⟨rfl,b8,a8,bq⟩
  gi_wp2
  refine⟨bq.up (by omega),⟨a8.2 _ (Qi.1 aq.out.1).1 (Qb ⟨_,_,_,aq.out.1,by decide,by decide⟩),a8.2 _ (Qi.1 aq.out.2).1 (Qb ⟨_,_,_,aq.out.2,by decide,by decide⟩)⟩,?_,b3.out.trans a8,fun D N=>bq.same D _ (bm.out D N).1 (bm.out D N).2 rfl⟩;rw[QO,<-List.append_assoc];exact b8
 case done =>
  rintro D br W N hS ⟨al,y,am⟩ hK;have cj:IntKind.i64.wrap ((k:Int)+1)=((k+1:Nat):Int):=by rw[IntWalk.i64_in _ (by omega)];omega
  have b4:J (d (xs++br.map fun i=>(R,Hf t j i,((A5 m).drop i).take 40)) W/\(xs++br.map fun i=>(R,Hf t j i,((A5 m).drop i).take 40)).map (fun x=>(x.1,x.2.2))=Cn (gs.take (k+1))/\D8 B W2 W/\(D :: M).Nodup/\∀D'∈D :: M,F<=D'/\W.heap[D']? =O (Qd (O []))):=by
   refine⟨al,?_,bt.trans y,QI.2 ⟨fun h=>by have:=(ah D h).2.1;omega,bi.out.1⟩,fun D' h=>?_⟩
   ·rw[ax.out];unfold Cn at *;rw[Q4,QO,bh.out,QL,QM,QN,hS];simp only[List.map_map];rw[an.out];rfl
   ·rcases QP.1 h with rfl | h
    ·exact⟨by omega,hK⟩
    ·exact⟨(ah D' h).1,am D' h⟩
  clear al y am hK hS
  gi_wp2
  rw[show (k:Int)+1=((k+1:Nat):Int) by omega];exact⟨⟨k+1,_,D :: M,_,_,_,_,_,_,_,_,_,_,_,_,_,_,_,_,_,rfl,by omega,b4.out⟩,by simp[intOf];omega⟩
end
section
attribute [local go_sem] Oper.semAt_some
theorem xF {W w1:G} {B:Nat} {v v':Qa} {k:Nat} {xs:List Qa} {f:Obj} (z:Qe W B 95 v) (n:W.ownsRow B 167 2 v k xs) (c:(W.alloc f).grownBy w1 v.ownBlock):He B W (w1.setCell ⟨B,0,S⟩ v'):=by
 refine⟨?_,fun i hi l=>?_⟩
 ·have d:=c.size;have j:=(KeepsOthers.setCell w1 ⟨B,0,S⟩ v').size;simp at d;omega
 ·have o:i≠B:=by
   rintro rfl;rcases l with l | ⟨s,t,u,d,j⟩
   ·omega
   ·have b:=(show W.heap[i]? =_ from z).symm.trans d;simp only[Option.some.injEq,Obj.cells.injEq]at b;obtain⟨_,b,_⟩:=b;subst b;revert j;decide
  have p:O i≠v.ownBlock:=by
   intro e;rcases n.2 with⟨m,_⟩|⟨g,C,D,m,E,y,_⟩
   ·rw[m]at e;simp[QQ]at e
   ·rw[m]at e;simp[QQ]at e;subst e;rcases l with l | ⟨s,t,u,d,j⟩
    ·omega
    ·have b:=y.symm.trans d;simp only[Option.some.injEq,Obj.cells.injEq]at b;obtain⟨_,b,_⟩:=b;subst b;revert j;decide
  have q:(w1.setCell ⟨B,0,S⟩ v').heap[i]? =w1.heap[i]? :=Below.heap_setCell _ _ _ i o;have r:w1.heap[i]? =(W.alloc f).heap[i]? :=c.block i (by simp;omega) p;rw[q,r];exact Below.heap_alloc W f i hi
theorem Tryz.groupInfo3:(Tryz.prog.info? 167).map (fun i=>(i.zero,i.size,i.bytes))=O (O (Qo #[A ⟨#[]⟩,I S 0 0]),2,40):=by kernel_rfl
theorem Tryz.groupInfo:∃i0:TypeInfo,Tryz.prog.info? 167=O i0/\i0.zero=O (Qo #[A ⟨#[]⟩,I S 0 0])/\i0.size=2/\i0.bytes=40:=by
 obtain⟨i,b,h⟩:=Option.map_eq_some_iff.1 Tryz.groupInfo3;simp only[Prod.mk.injEq]at h;exact⟨i,b,h.1,h.2.1,h.2.2⟩
theorem xG (w:G) (x y:Qa) (t:TypeId):∀j u, [x,y][j]? =O u->(w.alloc (H #[x,y] t)).cell? ((⟨w.heap.size,0,S⟩:Qf).add j)=O u:=by
 intro j u b;rw[Addr.add_lit,QB]
 match j,b with
 | 0,b=>simp at b;subst b;simp
 | 1,b=>simp at b;subst b;simp
 | j+2,b=>simp at b
theorem xH {v:Qa} {z:DataW Unit×List MemPlace} (h:Ce v=O z):v.oneCell'=true/\∃q n c,v=I q n c:=by
 unfold Ce at h;split at h
 ·exact⟨rfl,_,_,_,rfl⟩
 ·exact⟨rfl,_,_,_,rfl⟩
 ·cases h
theorem xI (s:ByteArray) (q:Option Qf) (a6:Nat) (xs:List Rw) (w:G) (a:Nat->Qf) (h:Bd w a) (hs:s.size<=1000) (hx:Ar w (I q xs.length a6) xs) (hl:xs.length<=1000) (hp:∀x∈xs,x.1.size<=30) (cx:(A8 s.data.toList).1=0)
  (a7:∀x∈xs,Ay x=0) (a8:∀x∈xs,Ay x=0->(Dp (A8 s.data.toList).2.1 (A8 s.data.toList).2.2 x).size<=1000) :
  Qr V 56 #[A s,I q xs.length a6] w fun e w'=> ∃gv ts D hv b1 b2,e= .returned (QC #[gv,.nilIface])/\(∃ss:List (List UInt8),ss.Perm (strKeys D)/\ts=ss.mergeSort (fun x y=>decide (x<=y)))/\w'.ownsRow w.heap.size 167 2 gv ts.length (ts.flatMap fun nm=> [encStr nm,hv nm]) /\
   CX w' b1 b2 (Dp (A8 s.data.toList).2.1 (A8 s.data.toList).2.2) xs D hv/\w.heap.size<=b1/\BL w w':=by
 obtain⟨i0,ck,cl,cm,bv⟩:=Tryz.rowInfo;have hr:=LY s w a h hs;generalize hL:xs.length=L at hx hl ⊢;have HX:J (xs.length=L):=hL;clear hL;rw[cx]at hr;simp only[Ae]at hr;generalize Dp (A8 s.data.toList).2.1 (A8 s.data.toList).2.2=p at hr a8 ⊢;refine(Qm (n:=9)).1 ?_;refine Qs QD rfl trivial ?_ rfl;refine wpIn_wide.2 ?_;simp only[QE,Qt,Qu,Qv,Qw,Qx,Qy,Qz,Q0,Q1,Q2,Q3]
 go_wp2_with fail
 refine hr.mono ?_;rintro e d ⟨fv,rfl,bq,ae⟩;clear hr;obtain⟨g,cb,rfl,eg,cn⟩:=bq trivial;clear bq;have b0:=@QR V;have b3:BL d (d.alloc (.map #[] 0)):=Af _ _;have b4:=CX.made d p;have bc:∀W,BL d W->Bd W a:=fun W hW=>h.below (Ad ae hW);have b5:∀W,BL d W->Ar W (I q L a6) xs:=fun W hW=>hx.below (Ad ae hW);clear hx h;go_wp2;clear b0
 go_loopw [27] (fun k wr=> ∃n:Nat,n<=L/\k=U Z n/\BL d wr/\∃D hv,CX wr (d.heap.size+1) d.heap.size p (xs.take n) D hv) (fun k _=>L-(intOf k).toNat)
 case atStart=>exact ⟨0,by omega,rfl,b3,_,_,b4⟩
 case round =>
  obtain⟨n,hn,rfl,hb,D,hv,P⟩:=hrel;by_cases b6:n<L
  ·have ar:n<xs.length:=by rw[HX.out];exact b6
   have a9:=b5 wr hb;rcases a9 with⟨_,_,e,e'⟩|⟨b,o,cz,e,ah⟩
   ·exfalso;have:=HX.out;rw[e']at this;simp at this;omega
   injection e with e1 e2 e3;subst e1;clear e2 e3;obtain⟨c1,c2,c3⟩:=ah n ar;clear ah;have hi:(n:Int)<(L:Int):=by omega
   have Y:xs[n]∈xs:=Ql _;have aa:=a7 _ Y;have au:=a8 _ Y aa;have b7:=hp _ Y;have av:xs.take (n+1)=xs.take n++ [xs[n]]:=by rw[Q9 ar]
   have R:=fun W (hW:Bd W a)=>J3 xs[n] W a hW (by unfold Qc;omega);rw[aa]at R;simp only[Ae]at R;generalize xs[n]=x at c1 c2 c3 aa au av R;have HT:J (xs.take (n+1)=xs.take n++ [x]):=av;have T:(xs.take n).length=n:=by rw[Q8];omega
   have ac:J ((xs.take n).length=n):=T;clear av Y b7 T;generalize xs.take n=ys at P HT ac;obtain⟨m,r,z⟩:=x;dsimp only at c1 c2 c3 R;have bd:BL wr (wr.alloc (H #[A m,U Z r,U Z z] 62)):=Af _ _;have ai:BL d (wr.alloc (H #[A m,U Z r,U Z z] 62)):=Ad hb bd;have aw:=R _ (bc _ ai);have d0:(wr.alloc (H #[A m,U Z r,U Z z] 62)).cell? ⟨wr.heap.size,0,S⟩=O (A m):=by simp
   have d1:(wr.alloc (H #[A m,U Z r,U Z z] 62)).cell? ⟨wr.heap.size,1,S⟩=O (U Z r):=by simp
   have d2:(wr.alloc (H #[A m,U Z r,U Z z] 62)).cell? ⟨wr.heap.size,2,S⟩=O (U Z z):=by simp
   clear R
   go_wp2_with fail
   refine aw.mono ?_;rintro e w3 ⟨rfl,af⟩;clear aw c1 c2 c3;have aj:BL d w3:=Ad ai af;have f0:=Aa af d0;have f1:=Aa af d1;have f2:=Aa af d2;have ax:=cn (m,r,z) w3 aj (bc _ aj) aa;have ay:=(P.below bd).below af;clear d0 d1 d2 P;dsimp only at ax;obtain⟨M,a0⟩:∃M,p (m,r,z)=M:=⟨_,rfl⟩;have HG:J (p (m,r,z)=M):=a0;rw[a0]at ax au;clear a0;have be:M.size<=Qc:=by unfold Qc;omega
   obtain⟨vo,a2⟩:∃vo,hv M.data.toList=vo:=⟨_,rfl⟩;have ad:J (hv M.data.toList=vo):=a2;have ak:=fun W (hW:CX W (d.heap.size+1) d.heap.size p ys D hv)=>hW.look M be;rw[a2]at ak;clear a2;obtain⟨C,a3⟩:∃C,grp p ys M.data.toList=C:=⟨_,rfl⟩;have bf:J (grp p ys M.data.toList=C):=a3;have az:C.length<=n:=by rw[<-a3,<-ac.out];exact QS _ _
   have bg:J (C.length<=n):=az;clear a3 az
   go_wp2_with (first
    | (go_at_fn g;refine ax.mono ?_;rintro e w4 ⟨rfl,X⟩;have al:=ay.below X;have cy:=ak w4 al;have q0:=Aa X f0;have q1:=Aa X f1;have q2:=Aa X f2)
    | (at_builtin;refine QT _ rfl _ _ 35 rfl (d.heap.size+1) 62 i0 (Qo #[A ⟨#[]⟩,U Z 0,U Z 0]) 3 32 QU ck cl cm bv rfl (by decide) vo C.length (A2 C) rfl ?qc0 ⟨w4.heap.size,0,S⟩ 1 1 (AN (m,r,z)) rfl ?qc1 ?qc2 ?qc3 ?qc4 ?qc5 ?qc6 ?_))
   case qc0 =>
    have ho:=al.own M.data.toList;rw[ad.out,bf.out]at ho;exact ho.alloc _
   case qc1=>rfl
   case qc2 =>
    intro j u hj;rw[Addr.add_lit,QB];exact R6 w4 m r z j u hj
   case qc3=>exact IF _
   case qc4=>have:=bg.out;unfold Qc;omega
   case qc5=>have:=bg.out;omega
   case qc6 =>
    have e1:=aj.size;have e2:=X.size;have e3:=al.map.lt;simp;omega
   have bt:BL w4 (w4.alloc (H #[A m,U Z r,U Z z] 62)):=Af _ _;have am:=al.below bt;have bh:BL d w4:=Ad aj X;have bi:BL d (w4.alloc (H #[A m,U Z r,U Z z] 62)):=bh.alloc bh.size _;intro v' w5 ab E bb a5;obtain⟨g',B,rfl⟩:=QF ab;have bj:BL d w5:=bi.grown E bi.size (fun k hk=>by
    have ho:=am.own M.data.toList;rw[ad.out]at ho;have:=(Iu ho hk).1;omega)
   have bk:w5.ownsMap V 9 Ce d.heap.size ys.length D:=am.map.kept E (fun e=>by
    have ho:=am.own M.data.toList;rw[ad.out]at ho;have:=(Iu ho e.symm).1;omega)
   have b8:J ((I (O ⟨g',0,S⟩) (C.length+1) B).ownBlock=vo.ownBlock\/(I (O ⟨g',0,S⟩) (C.length+1) B).ownBlock=O (w4.alloc (H #[A m,U Z r,U Z z] 62)).heap.size):=by simpa [J] using a5
   have b9:J (w5.ownsRow (d.heap.size+1) 62 3 (I (O ⟨g',0,S⟩) (C.length+1) B) (C.length+1) (A2 C++AN (m,r,z))):=ab;have ca:J ((w4.alloc (H #[A m,U Z r,U Z z] 62)).grownBy w5 vo.ownBlock):=E;have cc:J (w5.ownsMap V 9 Ce d.heap.size ys.length D):=bk;clear a5 ab E bk bb
   go_wp2_with (at_mapUpdate;refine QV _ rfl _ _ _ 163 rfl 9 35 (Maps.string_keyed Q6) QW Ce d.heap.size ys.length D rfl cc.out ?qd1 _ _ (.string M.data.toList) rfl rfl (Go.WideMaps.keyOf_string_mk Q6 be) (.agg [.lit (.int Z g'),.lit (.int Z ((C.length+1:Nat):Int)),.lit (.int Z B)]) [] rfl ?_)
   case qd1=>have:=ac.out;unfold Qc;omega
   intro w6 br Q;have bl:=am.step (W4:=w6) (m,r,z) (I (O ⟨g',0,S⟩) (C.length+1) B) (.agg [.lit (.int Z g'),.lit (.int Z ((C.length:Int)+1)),.lit (.int Z B)]) (by rw[HG.out,bf.out];exact b9.out) (by rw[HG.out,ad.out];exact ca.out) (by rw[HG.out,ad.out];exact b8.out) (by rw[HG.out];exact br) Q (by simp[Ce]);have cd:BL d w6:=bj.grown Q bj.size (fun k hk=>by cases hk;exact Qh _);rw[<-HT.out]at bl;clear br Q;go_wp2;go_roundw
   case rel=>exact ⟨n+1,by omega,by go_num,cd,_,_,bl⟩
   case measure=>simp [intOf];omega
  ·obtain rfl:n=L:=by omega
   rw[List.take_of_length_le (by rw[HX.out];omega)]at P;have c4:=P.map;have bm:BL wr ((wr.alloc (H #[I S 0 0] 95)).alloc (H #[.map (O d.heap.size)] 163)):=(Af _ _).alloc (by simp) _;have bn:=P.below bm;have bu:d.heap.size<wr.heap.size:=P.map.lt;go_wp2;refine(wpIn_wide (n:=9)).1 ?_;refine wpIn_rangeFunc_ownG (F:=Fence.wide) rfl (by decide) (gf:=188) (lb:=#[Qg (O ⟨wr.heap.size+1,0,S⟩)]) rfl trivial (enters_of func188 (by kernel_rfl) rfl)
    (wR d.heap.size (wr.heap.size+1) wr.heap.size xs.length D hv _ bn.map bn.hd ?hkey ?hmax bu ?hbx) (fun h k=>h.trans k) ?hKb (Below.refl _ _) (fun _=>rfl)
    (fun f W=>(∃v,Qe W wr.heap.size 95 v/\W.ownsRow wr.heap.size 167 2 v f.length (f.flatMap fun nm=> [encStr nm,hv nm])/\True)/\BL wr W)
    (fun _ _ _=>False)
    (OwnFrom.and (Own.from (holdsRow_own wr.heap.size wr.heap.size 95 167 2 (fun f:List (List UInt8)=>f.length) (fun f=>f.flatMap fun nm=> [encStr nm,hv nm]) (fun _ _=>True)) _) (ownFrom_below (Qh _) (by simp;omega)))
    (fun _ _ _ _ _ hs _ _=>hs.elim) ?start ?a1 ?assign ?body ?done ?stop
   case assign =>
    intro l x W K hK
    gi_wp2
    exact hK
   case hkey =>
    intro nm hm;obtain⟨x,ao⟩:=List.exists_mem_of_ne_nil _ ((P.key_mem nm).1 hm);simp only[grp,List.mem_filter,decide_eq_true_eq]at ao;have:=a8 x ao.1 (a7 x ao.1);rw[<-ao.2,AA];exact this
   case hmax=>exact Qj P.size (by rw[HX.out];exact hl)
   case hbx =>
    have:=Boxed.new (wr.alloc (H #[I S 0 0] 95)) 163 (.map (O d.heap.size));simpa [Qe] using this
   case hKb =>
    intro W l o o' hl cv cw _;have hg:=grownBy_putObj' W l o';refine⟨hg.size,fun i hi hc=>hg.block i hi ?_⟩;intro e;cases e
    rcases hc with hc | ⟨cs,t,fz,h1,_⟩
    ·simp at hl;omega
    ·rw[cv]at h1;cases h1;cases cw
   case start=>exact ⟨⟨_,(Boxed.new wr 95 (I S 0 0)).alloc _,World.ownsRow_nil _ _ _ _,trivial⟩,bm⟩
   case stop =>
    rintro D' c f W _ _ hf _;exact hf.elim
   case body =>
    rintro l f x W ⟨⟨v,ag,N,_⟩,hB⟩ bz;obtain⟨i1,co,cp,cq,bw⟩:=Tryz.groupInfo;have hc:=ag.cell;have ce:=P.size;obtain⟨bx,q0,n0,c0,a4⟩:=xH (P.hd x);have c5:f.length<=1000:=by rw[HX.out]at ce;omega
    have cf:J (hv x=I q0 n0 c0):=a4;have ba:∀u∈ [encStr x,I q0 n0 c0],u.oneCell'=true:=by
     intro u hu;simp only[QP,List.not_mem_nil,or_false]at hu;rcases hu with rfl | rfl
     ·rfl
     ·rfl
    rw[a4];clear a4 bx bz
    gi_wp2_with (gi_at_builtin;refine wpListIn_append_own _ rfl _ _ 95 rfl wr.heap.size 167 i1 (Qo #[A ⟨#[]⟩,I S 0 0]) 2 40 underlying95 co cp cq bw rfl (by decide) _ _ _ rfl (N.alloc _) ⟨W.heap.size,0,S⟩ 1 1 [encStr x,I q0 n0 c0] rfl rfl (xG _ _ _ _) ba (by unfold Qc;omega) (by omega) (by have:=hB.size;simp;omega) ?_;intro v' w5 ap aq _;obtain⟨g',B,rfl⟩:=QF ap;have cg:=xF (v':=I (O ⟨g',0,S⟩) (f.length+1) B) ag N aq;obtain⟨bp,cr,ct,cu,ai⟩:=ag.appended (by decide) N hB.size (Qh _) ap aq;have c6:=bp.cell;have c7:=bp.frozen)
    refine⟨cu.from _,cg,⟨⟨_,cr,?_,trivial⟩,hB.trans ai⟩⟩;have e1:(f++ [x]).flatMap (fun nm=> [encStr nm,hv nm])=f.flatMap (fun nm=> [encStr nm,hv nm])++ [encStr x,I q0 n0 c0]:=by rw[Q4];simp[cf.out]
    rw[e1,Q5];exact ct
   case done =>
    rintro D' ts W hD ⟨ss,hS,bs⟩ ⟨⟨v,ag,N,_⟩,hB⟩ hK;obtain⟨gq,gc,rfl⟩:=CY N;have hc:=ag.cell;have ch:w.heap.size<=wr.heap.size:=Qj ae.size hb.size;have bo:BL wr (W.putObj D' (Qd S)):=hB.trans (belowK_b (w:=wr) (Qh _) W D' _ _ (by simp at hD;omega) hK rfl rfl);have an:=World.ownsRow.mono (ownsRow_putObj N (Qd S) hK rfl) ch;have ay:=P.below bo;have ci:BL w (W.putObj D' (Qd S)):=by
     have q:=Ad hb bo;exact(Ad ae q)
    have cj:J (ts=ss.mergeSort (fun x y=>decide (x<=y))):=bs;clear bs;obtain⟨tl,T⟩:∃tl,ts.length=tl:=⟨_,rfl⟩;have ac:J (ts.length=tl):=T;rw[T]at hc an;clear T;go_wp2;refine⟨by simp,.inl ⟨_,_,rfl,QJ hK,?_⟩⟩;refine⟨_,QG rfl _ _ _,?_⟩;exact⟨_,ts,D,hv,_,_,rfl,⟨ss,hS,cj.out⟩,by rw[ac.out];exact an,ay,Qj ae.size (Nat.le_succ _),ci⟩
end
theorem xJ (s:ByteArray) (q:Option Qf) (ar:Nat) (xs:List Rw) (w:G) (a:Nat->Qf) (h:Bd w a) (hs:s.size<=1000) (hx:Ar w (I q xs.length ar) xs) (hl:xs.length<=1000) (hp:∀x∈xs,x.1.size<=30) (bs:(A8 s.data.toList).1=0)
  (j:Nat) (hj:j<xs.length) (bu:Ay xs[j]≠0) (av:∀i (h:i<xs.length),i<j->Ay xs[i]=0) (a8:∀x∈xs,Ay x=0->(Dp (A8 s.data.toList).2.1 (A8 s.data.toList).2.2 x).size<=1000) :
  Qr V 56 #[A s,I q xs.length ar] w fun e w'=> ∃fb,e= .returned (QC #[I S 0 0,.iface 140 (Qg (O ⟨fb,0,S⟩))])/\w'.cell? ⟨fb,0,S⟩=O (U Z j)/\w'.cell? ⟨fb,1,S⟩=O (Ae a (Ay xs[j]))/\BL w w':=by
 obtain⟨i0,bn,bo,bp,ba⟩:=Tryz.rowInfo;have hr:=LY s w a h hs;generalize hL:xs.length=L at hx hl ⊢;have HX:J (xs.length=L):=hL;clear hL;rw[bs]at hr;simp only[Ae]at hr;generalize Dp (A8 s.data.toList).2.1 (A8 s.data.toList).2.2=p at hr a8;have bv:j<L:=by rw[<-HX.out];exact hj
 refine(Qm (n:=9)).1 ?_;refine Qs QD rfl trivial ?_ rfl;refine wpIn_wide.2 ?_;simp only[QE,Qt,Qu,Qv,Qw,Qx,Qy,Qz,Q0,Q1,Q2,Q3]
 go_wp2_with fail
 refine hr.mono ?_;rintro e c ⟨fv,rfl,a6,ap⟩;clear hr;obtain⟨g,cb,rfl,eg,bq⟩:=a6 trivial;clear a6;have bc:=@QR V;have bd:BL c (c.alloc (.map #[] 0)):=Af _ _;have be:=CX.made c p;have af:∀W,BL c W->Bd W a:=fun W hW=>h.below (Ad ap hW);have aw:∀W,BL c W->Ar W (I q L ar) xs:=fun W hW=>hx.below (Ad ap hW);clear hx h;go_wp2;clear bc
 go_loopw [27] (fun k wr=> ∃n:Nat,n<=j/\k=U Z n/\BL c wr/\∃D hv,CX wr (c.heap.size+1) c.heap.size p (xs.take n) D hv) (fun k _=>L-(intOf k).toNat)
 case atStart=>exact ⟨0,QK _,rfl,bd,_,_,be⟩
 case round =>
  obtain⟨n,hn,rfl,hb,D,hv,hG⟩:=hrel;have bf:n<L:=by omega
  by_cases bg:n<j
  ·have F:n<xs.length:=by rw[HX.out];exact bf
   have Q:=aw wr hb;rcases Q with⟨_,_,e,e'⟩|⟨b,o,bb,e,t⟩
   ·exfalso;have:=HX.out;rw[e']at this;simp at this;omega
   injection e with e1 e2 e3;subst e1;clear e2 e3;obtain⟨c1,c2,c3⟩:=t n F;clear t;have hi:(n:Int)<(L:Int):=by omega
   have B:xs[n]∈xs:=Ql _;have R:=av n F bg;have ag:=a8 _ B R;have ah:=hp _ B;have ai:xs.take (n+1)=xs.take n++ [xs[n]]:=by rw[Q9 F]
   have r:=fun W (hW:Bd W a)=>J3 xs[n] W a hW (by unfold Qc;omega);rw[R]at r;simp only[Ae]at r;generalize xs[n]=x at c1 c2 c3 R ag ai r;have HT:J (xs.take (n+1)=xs.take n++ [x]):=ai;have ax:(xs.take n).length=n:=by rw[Q8];omega
   have aj:J ((xs.take n).length=n):=ax;clear ai B ah ax;generalize xs.take n=ys at hG HT aj;obtain⟨d,f,l⟩:=x;dsimp only at c1 c2 c3 r;have ab:BL wr (wr.alloc (H #[A d,U Z f,U Z l] 62)):=Af _ _;have Y:BL c (wr.alloc (H #[A d,U Z f,U Z l] 62)):=Ad hb ab;have K:=r _ (af _ Y);have d0:(wr.alloc (H #[A d,U Z f,U Z l] 62)).cell? ⟨wr.heap.size,0,S⟩=O (A d):=by simp
   have d1:(wr.alloc (H #[A d,U Z f,U Z l] 62)).cell? ⟨wr.heap.size,1,S⟩=O (U Z f):=by simp
   have d2:(wr.alloc (H #[A d,U Z f,U Z l] 62)).cell? ⟨wr.heap.size,2,S⟩=O (U Z l):=by simp
   clear r
   go_wp2_with fail
   refine K.mono ?_;rintro e w3 ⟨rfl,M⟩;clear K c1 c2 c3;have P:BL c w3:=Ad Y M;have f0:=Aa M d0;have f1:=Aa M d1;have f2:=Aa M d2;have ak:=bq (d,f,l) w3 P (af _ P) R;have bh:=(hG.below ab).below M;clear d0 d1 d2 hG;dsimp only at ak;obtain⟨C,am⟩:∃C,p (d,f,l)=C:=⟨_,rfl⟩;have HG:J (p (d,f,l)=C):=am;rw[am]at ak ag;clear am;have ay:C.size<=Qc:=by unfold Qc;omega
   obtain⟨vo,an⟩:∃vo,hv C.data.toList=vo:=⟨_,rfl⟩;have aa:J (hv C.data.toList=vo):=an;have ac:=fun W (hW:CX W (c.heap.size+1) c.heap.size p ys D hv)=>hW.look C ay;rw[an]at ac;clear an;obtain⟨v,ao⟩:∃v,grp p ys C.data.toList=v:=⟨_,rfl⟩;have az:J (grp p ys C.data.toList=v):=ao;have al:v.length<=n:=by rw[<-ao,<-aj.out];exact QS _ _
   have a0:J (v.length<=n):=al;clear ao al
   go_wp2_with (first
    | (go_at_fn g;refine ak.mono ?_;rintro e T ⟨rfl,y⟩;have ad:=bh.below y;have bt:=ac T ad;have q0:=Aa y f0;have q1:=Aa y f1;have q2:=Aa y f2)
    | (at_builtin;refine QT _ rfl _ _ 35 rfl (c.heap.size+1) 62 i0 (Qo #[A ⟨#[]⟩,U Z 0,U Z 0]) 3 32 QU bn bo bp ba rfl (by decide) vo v.length (A2 v) rfl ?qc0 ⟨T.heap.size,0,S⟩ 1 1 (AN (d,f,l)) rfl ?qc1 ?qc2 ?qc3 ?qc4 ?qc5 ?qc6 ?_))
   case qc0 =>
    have ho:=ad.own C.data.toList;rw[aa.out,az.out]at ho;exact ho.alloc _
   case qc1=>rfl
   case qc2 =>
    intro j u hj;rw[Addr.add_lit,QB];exact R6 T d f l j u hj
   case qc3=>exact IF _
   case qc4=>have:=a0.out;unfold Qc;omega
   case qc5=>have:=a0.out;omega
   case qc6 =>
    have e1:=P.size;have e2:=y.size;have e3:=ad.map.lt;simp;omega
   have a9:BL T (T.alloc (H #[A d,U Z f,U Z l] 62)):=Af _ _;have ae:=ad.below a9;have a1:BL c T:=Ad P y;have a2:BL c (T.alloc (H #[A d,U Z f,U Z l] 62)):=a1.alloc a1.size _;intro v' w5 X z au aq;obtain⟨g',E,rfl⟩:=QF X;have a3:BL c w5:=a2.grown z a2.size (fun k hk=>by
    have ho:=ae.own C.data.toList;rw[aa.out]at ho;have:=(Iu ho hk).1;omega)
   have a4:w5.ownsMap V 9 Ce c.heap.size ys.length D:=ae.map.kept z (fun e=>by
    have ho:=ae.own C.data.toList;rw[aa.out]at ho;have:=(Iu ho e.symm).1;omega)
   have bi:J ((I (O ⟨g',0,S⟩) (v.length+1) E).ownBlock=vo.ownBlock\/(I (O ⟨g',0,S⟩) (v.length+1) E).ownBlock=O (T.alloc (H #[A d,U Z f,U Z l] 62)).heap.size):=by simpa [J] using aq
   have bj:J (w5.ownsRow (c.heap.size+1) 62 3 (I (O ⟨g',0,S⟩) (v.length+1) E) (v.length+1) (A2 v++AN (d,f,l))):=X;have bk:J ((T.alloc (H #[A d,U Z f,U Z l] 62)).grownBy w5 vo.ownBlock):=z;have bl:J (w5.ownsMap V 9 Ce c.heap.size ys.length D):=a4;clear aq X z a4 au
   go_wp2_with (at_mapUpdate;refine QV _ rfl _ _ _ 163 rfl 9 35 (Maps.string_keyed Q6) QW Ce c.heap.size ys.length D rfl bl.out ?qd1 _ _ (.string C.data.toList) rfl rfl (Go.WideMaps.keyOf_string_mk Q6 ay) (.agg [.lit (.int Z g'),.lit (.int Z ((v.length+1:Nat):Int)),.lit (.int Z E)]) [] rfl ?_)
   case qd1=>have:=aj.out;unfold Qc;omega
   intro w6 a7 N;have a5:=ae.step (W4:=w6) (d,f,l) (I (O ⟨g',0,S⟩) (v.length+1) E) (.agg [.lit (.int Z g'),.lit (.int Z ((v.length:Int)+1)),.lit (.int Z E)]) (by rw[HG.out,az.out];exact bj.out) (by rw[HG.out,aa.out];exact bk.out) (by rw[HG.out,aa.out];exact bi.out) (by rw[HG.out];exact a7) N (by simp[Ce]);have bm:BL c w6:=a3.grown N a3.size (fun k hk=>by cases hk;exact Qh _);rw[<-HT.out]at a5;clear a7 N;go_wp2;go_roundw
   case rel=>exact ⟨n+1,by omega,by go_num,bm,_,_,a5⟩
   case measure=>simp [intOf];omega
  ·obtain rfl:n=j:=by omega
   have F:n<xs.length:=hj;have Q:=aw wr hb;rcases Q with⟨_,_,e,e'⟩|⟨b,o,bb,e,t⟩
   ·exfalso;have:=HX.out;rw[e']at this;simp at this;omega
   injection e with e1 e2 e3;subst e1;clear e2 e3;obtain⟨c1,c2,c3⟩:=t n F;clear t;have hi:(n:Int)<(L:Int):=by omega
   have B:xs[n]∈xs:=Ql _;have ah:=hp _ B;have r:=fun W (hW:Bd W a)=>J3 xs[n] W a hW (by unfold Qc;omega);obtain⟨m,hm⟩:∃m,Ay xs[n]=m+1:=⟨Ay xs[n]-1,by omega⟩;have HM:J (Ae a (Ay xs[n])= .iface 410 (Qg (O (a m)))):=by
    show Ae a (Ay xs[n])=_;rw[hm];rfl
   rw[HM.out]at r;clear hm;generalize br:xs[n]=x at c1 c2 c3 r;clear B ah br hG;obtain⟨d,f,l⟩:=x;dsimp only at c1 c2 c3 r;have ab:BL wr (wr.alloc (H #[A d,U Z f,U Z l] 62)):=Af _ _;have Y:BL c (wr.alloc (H #[A d,U Z f,U Z l] 62)):=Ad hb ab;have K:=r _ (af _ Y);clear r
   go_wp2_with fail
   refine K.mono ?_;rintro e w3 ⟨rfl,M⟩;clear K c1 c2 c3;have P:BL c w3:=Ad Y M;have y:BL w w3:=Ad ap P;go_wp2;refine⟨_,QG rfl _ _ _,?_⟩;refine⟨w3.heap.size,rfl,by simp,by rw[HM.out];simp,y.alloc y.size _⟩
theorem xK (s:ByteArray) (q:Option Qf) (d n:Nat) (w:G) (a:Nat->Qf) (h:Bd w a) (g:s.size<=1000) (j:(A8 s.data.toList).1≠0) :
  Qr V 56 #[A s,I q n d] w fun e w'=>e= .returned (QC #[I S 0 0,Ae a (A8 s.data.toList).1])/\BL w w':=by
 have b:=LY s w a h g;obtain⟨m,f⟩:∃m,(A8 s.data.toList).1=m+1:=⟨(A8 s.data.toList).1-1,by omega⟩;rw[f]at b ⊢;simp only[Ae]at b ⊢;refine(Qm (n:=9)).1 ?_;refine Qs QD rfl trivial ?_ rfl;refine wpIn_wide.2 ?_;simp only[QE,Qt,Qu,Qv,Qw,Qx,Qy,Qz,Q0,Q1,Q2,Q3]
 go_wp2_with fail
 refine b.mono ?_;rintro e k ⟨l,rfl,i,c⟩;go_wp2;refine⟨_,QG rfl _ _ _,?_⟩;exact⟨rfl,c⟩
end Go.Proofs.YtcllhobffhkafaaGreatDoor
