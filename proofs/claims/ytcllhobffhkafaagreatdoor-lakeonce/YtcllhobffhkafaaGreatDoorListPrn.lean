/- By an AI agent. -/
import Derived.Test.YtcllhobffhkafaaGreatDoorStoCopy
import Derived.Laws.IdiomStrings
set_option maxRecDepth 100000
set_option maxHeartbeats 16000000
open Go.Proofs.Tryz
open And renaming intro->Qm
open Go renaming undef->A,World->Qa,wpAnyIn_ready->Qc,Boxed->Qg,Value->Qk,callsIn_wide->Ql,Calls->Qn,maxLen->Qo,wpList_append_own->Qt,wpAnyIn_done->Qw,KeepsOthers->Qz,grownBy_setCell'->Q0,wpAnyIn_take->Q3
open Go.AllReadyIn renaming cons->Qb,nil->Qd
open Go.Builtin renaming append_->Qv,append->Q4
open Go.IntKind renaming i64->I
open Go.Obj renaming cells->J,deferred->Qp
open Go.Proofs.Tryz renaming prog->Qe,underlying38->Qu
open Go.RowKit renaming Hid->S
open Go.RowKit.Below renaming refl->Qs,heap_alloc->Q2
open Go.Value renaming int->Z,slice->H,string->G,pointer->V,ownBlock->Qf,agg->Qh
open List renaming length_append->Qj,length_filter_le->Qr,length_map->Qx,length_cons->Qy
open Nat renaming le_trans->Qi,le_refl->Qq,lt_of_lt_of_le->Q1
open Option renaming some->O,none->U
namespace Go.Proofs.YtcllhobffhkafaaGreatDoor
open Go.Extern Go.Extern.Stop Go.Lib Go.RowKit Go.Shelf Go.Sort Go.Stop
section
open Go.Maps
attribute [local go_sem] Oper.semAt_some
theorem pM (r:Rw) (d f c:Nat) (l:List (Int×Int)) (D:DataW Unit) (q:Int) (W:Qa) (j:W.cell? ⟨d,1,U⟩=O (.map (O c))) (k:W.cell? ⟨f,0,U⟩=O (Z I q)) (g:ES W c l D) (m: -9223372036854775808<=r.2.1) (n:r.2.1<=9223372036854775807) :
  Qn Qe 161 #[Qh #[G r.1,Z I r.2.1,Z I r.2.2],V (O ⟨d,0,U⟩),V (O ⟨f,0,U⟩)] W fun e w'=>e= .returned (.bool (BM l (r,q)))/\BL W w':=by
 have b:BL W (W.alloc (J #[G r.1,Z I r.2.1,Z I r.2.2] 62)):=Af _ _;have o:=Aa b j;have p:=Aa b k;have i:=(g.keep (b.block c g.map.lt)).look m n;unfold BM;dsimp only;obtain⟨s,t,u⟩:=r
 go_enter func161,ntmps161
 go_upto_region 1 with fail
 go_wp2;go_ret;exact⟨rfl,b⟩
def KV (w1:Qa) (c:Ct) (pre:List Int) (W:Qa):Prop :=
 (∃v,Qg W w1.heap.size 35 v/\W.ownsRow w1.heap.size 62 3 v (BN c pre).length (A2 (BN c pre))/\True)/\BL w1 W
theorem OM {w1:Qa} {c:Ct} {B:Nat} (b:w1.heap.size<=B):OwnFrom B (KV w1 c) :=
 OwnFrom.and (Own.from (holdsRow_own w1.heap.size w1.heap.size 35 62 3 (fun pre:List Int=>(BN c pre).length) (fun pre=>A2 (BN c pre)) (fun _ _=>True)) _) (ownFrom_below (Qq _) b)
theorem pO (c:Ct) (b:List Int) (x:Int):BN c (b++ [x])=BN c b++(Bh c.1 x).filter fun r=> !BM c.2 (r,x):=by
 unfold BN;rw[List.flatMap_append];simp
theorem UO (c:Ct):∀pre:List Int,(BN c pre).length<=pre.length*c.1.length
 | []=>by simp[BN]
 | x :: r=>by
  have h:=UO c r;have b:((Bh c.1 x).filter fun y=> !BM c.2 (y,x)).length<=c.1.length:=Qi (Qr _ _) (by unfold Bh;rw[Qx];exact Qr _ _);have e:BN c (x :: r)=((Bh c.1 x).filter fun y=> !BM c.2 (y,x))++BN c r:=by unfold BN;rw[List.flatMap_cons]
  rw[e,Qj,Qy,Nat.add_mul];omega
theorem pP {w1 W T p:Qa} {c:Ct} {i:List Int} {v:Qk} (X:Qg W w1.heap.size 35 v) (E:W.ownsRow w1.heap.size 62 3 v (BN c i).length (A2 (BN c i))) (F:BL w1 W) (x:Int) (hR:BL W T) (hb:BL T p) {q:Option Addr} {n K:Nat} (Y:n=((Bh c.1 x).filter fun r=> !BM c.2 (r,x)).length) (hs:CU p q n K (A2 ((Bh c.1 x).filter fun r=> !BM c.2 (r,x)))) (hl:(BN c i).length+n<=10000000) :
  ∃v' w4,(∃a b c,v'=H a b c)/\(Qv #[35,35] 35 #[v,H q n K]).run Qe p= .ok v' w4 /\
   w4.cell? ⟨w1.heap.size,0,U⟩=O v/\w4.frozen? ⟨w1.heap.size,0,U⟩=false/\Qz W (w4.setCell ⟨w1.heap.size,0,U⟩ v')/\KV w1 c (i++ [x]) (w4.setCell ⟨w1.heap.size,0,U⟩ v')/\Below w1.heap.size W (w4.setCell ⟨w1.heap.size,0,U⟩ v'):=by
 obtain⟨i0,M,N,Q,C⟩:=Tryz.rowInfo;have g:=Ad hR hb;have t:Qg p w1.heap.size 35 v:=(g.block _ X.lt).trans X;have m:=E7 E g;have u:w1.heap.size<=p.heap.size:=Qi F.size g.size;obtain⟨v',w4,D,l,f,aa⟩:=FO (P:=Qe) p w1.heap.size 35 35 62 i0 (Qh #[G ⟨#[]⟩,Z I 0,Z I 0]) 3 32 underlying35 M N Q C rfl (by decide) v (BN c i).length (A2 (BN c i)) m q n K _ (by rw[FA,<-Y]) hs (L3 _) (by unfold Qo;omega) (by omega) u;have j:Qg w4 w1.heap.size 35 v:=t.kept f (t.not_row (by decide) m);have y:=(g.mono F.size).grown f u fun k hk=>(G1 m hk).1;have s:Qz W (w4.setCell ⟨w1.heap.size,0,U⟩ v'):=by
  refine⟨?_,fun k o hk ho=>?_⟩
  ·have:=(Q0 w4 w1.heap.size v').size;exact Qi g.size (Qi f.size this)
  ·have z:=(Array.getElem?_eq_some_iff.1 hk).1;have L:=(g.block k z).trans hk;have B:=(f.block k (Q1 z g.size) (fun e=>by
    obtain⟨_,ab,R⟩:=M3 m e.symm;rw[L]at R;cases R
    cases ho)).trans L
   refine(Below.heap_setCell w4 _ _ k (fun e=>?_)).trans B;have e':=e;subst e';rw[show w4.heap[w1.heap.size]? =_ from j]at B;cases B
   cases ho
 refine⟨v',w4,?_,D,j.cell,j.frozen,s,⟨⟨v',j.set v',?_,trivial⟩,?_⟩,?_⟩
 ·obtain⟨d,hd⟩:=M4 l;exact Jn hd
 ·rw[pO,Qj,Kn,<-Y];exact l.kept (Q0 w4 w1.heap.size v') (.inr (j.not_row (by decide) l).symm)
 ·exact F.trans (y.setCell (Qq _) _)
 ·exact y.setCell (Qq _) _
theorem ON {n:Nat} {P:Program} {b:Array Oper} {o:Oper} {a:Act} {w w':Qa} {K:Act->Qa->Prop} {Q:Exit->Act->Qa->Prop} {E:Prop}
  (j:o.guard=U) (s x:Operand) (t:TypeId) (d:o.op=Op.call { callee:=Callee.builtin Q4,args:=#[s,x],argTypes:=#[t,t] }) (v u v':Qk) (k:a.eval s=v) (l:a.eval x=u)
  (f:(Qv #[t,t] o.type #[v,u]).run P w= .ok v' w') (m:K (a.put o.dst v') w'):if Region.wanted o (yielded b a.tmps)=true then Oper.wpIn Fence.wide n P o a w K Q else E:=by
 have i:Region.wanted o (yielded b a.tmps)=true:=by simp[Region.wanted,j]
 rw[if_pos i];unfold Oper.wpIn;refine⟨fun _ _=>trivial,?_⟩;rw[Oper.semAt_plain Fence.wide _ _ (by rw[d];intro c g;cases g)];simp[execOp,d,resolve,invoke,builtin,k,l,f,Result.andThen];exact m
theorem pQ (w:Qa) (base m t:Nat) (c:Ct) (qs:List Int) (h:B2 w base m t c qs) (N:∀p∈c.1,-9223372036854775808<=p.1.2.1/\p.1.2.1<=9223372036854775807) (hl:c.1.length<=10000) (b0:qs.length<=100) :
  Qn Qe 85 #[G2 m t] w fun e w'=> ∃v' ps,e= .returned v'/\ps.Nodup/\(∀z∈qs,z∈ps)/\Ar w' v' (BN c ps)/\BL w w':=by
 obtain⟨⟨D,hv,hG⟩,⟨D2,hL⟩,bt,bx⟩:=h;have am:BL w (w.alloc (J #[.map (O m),.map (O t)] 136)):=Af _ _;have a0:(w.alloc (J #[.map (O m),.map (O t)] 136)).heap[w.heap.size]? =O (J #[.map (O m),.map (O t)] 136 (0,0)):=heap_alloc_new _ _;have ac:(w.alloc (J #[.map (O m),.map (O t)] 136)).heap.size=w.heap.size+1:=by simp
 have br:=hG.map.lt;have HG:S (∀X,BL w X->E4 X base m c.1 qs D hv/\ES X t c.2 D2):=fun X hX=>⟨hG.below hX,hL.keep (hX.block t hL.map.lt)⟩;have HD:S _:=hG.hd;have a7:S _:=hG.has;have a8:S _:=N;have an:S (BL w (w.alloc (J #[.map (O m),.map (O t)] 136))/\(w.alloc (J #[.map (O m),.map (O t)] 136)).heap[w.heap.size]? =O (J #[.map (O m),.map (O t)] 136 (0,0))):=⟨am,a0⟩;clear hG hL N am a0;refine(Ql (n:=7)).1 ?_;refine callsIn_of_wp_marks func85 rfl trivial ?_ rfl;simp only[ntmps85,List.size_toArray,Qy,List.length_nil,Nat.reduceAdd,Nat.reduceSub,Array.replicate_succ,Array.replicate_zero,List.push_toArray,List.append_toArray,List.nil_append,List.cons_append]
 gi_wp2_with (refine⟨trivial,?_⟩;gi_at_call 160;refine(oH _ _ _).mono ?_;rintro e w' ⟨rfl,rfl⟩)
 have ao:=Boxed.new ((w.alloc (J #[.map (O m),.map (O t)] 136)).alloc (J #[H U 0 0] 35)) 133 (.map (O m));have ap:Qg (((w.alloc (J #[.map (O m),.map (O t)] 136)).alloc (J #[H U 0 0] 35)).alloc (J #[.map (O m)] 133)) (w.heap.size+1) 35 (H U 0 0):=by
  have:=(Boxed.new (w.alloc (J #[.map (O m),.map (O t)] 136)) 35 (H U 0 0)).alloc (J #[.map (O m)] 133);simpa using this
 have ad:Below (w.heap.size+1) (w.alloc (J #[.map (O m),.map (O t)] 136)) (((w.alloc (J #[.map (O m),.map (O t)] 136)).alloc (J #[H U 0 0] 35)).alloc (J #[.map (O m)] 133)):=((Qs _ _).alloc (by simp) _).alloc (by simp) _;have bc:(((w.alloc (J #[.map (O m),.map (O t)] 136)).alloc (J #[H U 0 0] 35)).alloc (J #[.map (O m)] 133)).heap.size=w.heap.size+3:=by simp
 simp only[World.size_alloc]at ao;generalize ((w.alloc (J #[.map (O m),.map (O t)] 136)).alloc (J #[H U 0 0] 35)).alloc (J #[.map (O m)] 133)=W0 at ao ap ad bc ⊢;generalize w.alloc (J #[.map (O m),.map (O t)] 136)=w1 at an ac ad ⊢;have ai:S (∀X,BL w1 X->BL w X):=fun X hX=>an.out.1.trans (hX.mono (by omega));rw[<-ac]at ad ap;have bd:=(HG.out W0 (ai.out W0 ad)).1;refine wpIn_rangeFunc_ownH (F:=Fence.wide) rfl (by decide) (gf:=245) (lb:=#[V (O ⟨w.heap.size+1+1,0,U⟩)]) rfl trivial (enters_of func245 (by kernel_rfl) rfl)
  (oG _ (by decide) w1.heap.size (w.heap.size+1+1) m (by omega) qs.length D hv HD.out _ ao.cell bd.map) (fun h k=>h.trans k) (fun W l o o' hl ho _ hw=>EU.put W l o o' (by omega) ho hw) (Qs _ _) (fun _=>rfl)
  (KV w1 c) (fun _ _ _=>False) (OM (by omega)) (fun _ _ _ _ _ hs _ _=>hs.elim) ?start (fun x a' W=> ∃P,Qg W P 3 (Z I x)/\a'= { tmps:=#[G2 m t,V (O ⟨w.heap.size,0,U⟩),H U 0 0,V (O ⟨w.heap.size+1,0,U⟩),V (O ⟨P,0,U⟩),hv x,A,V (O ⟨w.heap.size,0,U⟩),.map (O m),.func (.func 245) #[] #[V (O ⟨w.heap.size+1+1,0,U⟩)],Z I x,hv x,A,A,A,A,A,A,A,A],defers:= [] }) ?ax ?assign ?body ?done ?stop
 case assign =>
  intro l ag x W K hI f;have be:=Boxed.new W 3 (Z I x);have a1:=(OM (c:=c) (w1:=w1) (B:=W0.heap.size) (by omega)).alloc (J #[Z I x] 3) hI;have a2:KeepsFrom W0.heap.size W (W.alloc (J #[Z I x] 3)):=(KeepsOthers.alloc W _).from _;have a3:EU w1.heap.size W (W.alloc (J #[Z I x] 3)):=⟨by simp,fun k N=>Q2 _ _ _ (Q1 N hI.2.size),fun k p s e cc N=>(Q2 _ _ _ (Array.getElem?_eq_some_iff.1 N).1).trans N⟩;have HK:S _:=fun a' (ha:(∃P,Qg (W.alloc (J #[Z I x] 3)) P 3 (Z I x)/\a'= { tmps:=#[G2 m t,V (O ⟨w.heap.size,0,U⟩),H U 0 0,V (O ⟨w.heap.size+1,0,U⟩),V (O ⟨P,0,U⟩),hv x,A,V (O ⟨w.heap.size,0,U⟩),.map (O m),.func (.func 245) #[] #[V (O ⟨w.heap.size+1+1,0,U⟩)],Z I x,hv x,A,A,A,A,A,A,A,A],defers:= [] }))=>f a' _ a2 a3 a1 ha;clear f hI a1 a2 a3
  gi_wp2
  exact HK.out _ ⟨W.heap.size,be,rfl⟩
 case ax =>
  rintro x a' u X Y bz ⟨P,hb,e⟩ hg hr;exact⟨P,hb.kept hg (fun e'=>by
   obtain⟨_,o,ho,hc⟩:=hr P e'.symm;rw[show X.heap[P]? =_ from hb]at ho;cases ho
   cases hc),e⟩
 case start=>exact ⟨⟨_,ap,by simp[BN,A2];exact World.ownsRow_nil _ _ _ _,trivial⟩,ad⟩
 case stop =>
  rintro D' cc ag W _ _ hf _;exact hf.elim
 case body =>
  rintro l ag x a' W _ _ ⟨⟨v,ab,az,-⟩,hB⟩ ⟨P,bp,rfl⟩ bu;have eg:∀args w,(callFunc 161 args).run Qe w= .ok (.enter 161 args) w:=enters_of func161 (by kernel_rfl) rfl;have a4:BL W W.drew:=(Qs _ _).drew;have bf:BL w W.drew:=(ai.out W hB).trans (a4.mono (ai.out W hB).size);obtain⟨bk,a6⟩:=HG.out W.drew bf;have bg:Ar W.drew (hv x) (Bh c.1 x):=(II (bk.own x)).1;have bh:(Bh c.1 x).length<=10000:=by
   refine Qi ?_ hl;unfold Bh;rw[Qx];exact Qr _ _
  have aq:S (Qn Qe 102 #[hv x] W.drew fun e w'=> ∃v',e= .returned v'/\w'.ownsRow W.drew.heap.size 62 3 v' (Bh c.1 x).length (A2 (Bh c.1 x))/\Below W.drew.heap.size W.drew w'):=L6 (hv x) _ W.drew bg (by omega);have a9:W.drew.heap[w.heap.size]? =O (J #[.map (O m),.map (O t)] 136 (0,0)):=(hB.block w.heap.size (by omega)).trans an.out.2;have kc:W.drew.cell? ⟨w.heap.size,1,U⟩=O (.map (O t)):=by rw[cell_of_row _ _ _ _ _ _ a9];rfl
  have ks:W.drew.cell? ⟨P,0,U⟩=O (Z I x):=bp.cell;have ar:S (∀(j:Qa) (y:Qk),j.ownsRow W.drew.heap.size 62 3 y (Bh c.1 x).length (A2 (Bh c.1 x))->Below W.drew.heap.size W.drew j->Qn Qe 162 #[y,.func (.func 161) #[] #[V (O ⟨w.heap.size,0,U⟩),V (O ⟨P,0,U⟩)]] j (UC y ((Bh c.1 x).filter fun r=> !BM c.2 (r,x)) j)):=fun j y q g=>by
   refine oJ y (Bh c.1 x) W.drew.heap.size _ _ (fun r=>BM c.2 (r,x)) j eg q (by omega) ?_;intro r X hr hX;have au:Below W.drew.heap.size W.drew X:=g.trans (hX.below g.size fun k N=>(G1 q N.symm).1);have a5: -9223372036854775808<=r.2.1/\r.2.1<=9223372036854775807:=by
    unfold Bh at hr;obtain⟨p,hp,rfl⟩:=List.mem_map.1 hr;exact a8.out p (List.mem_filter.1 hp).1
   exact pM r w.heap.size P t c.2 D2 x X (Aa au kc) (Aa au ks) (a6.keep (au.block t a6.map.lt)) a5.1 a5.2
  have bv:=UO c ag;have bs:ag.length*c.1.length<=100*10000:=Nat.mul_le_mul (by omega) hl;have aj:S (∀(j E:Qa) (y:Qk),j.ownsRow W.drew.heap.size 62 3 y (Bh c.1 x).length (A2 (Bh c.1 x))->Below W.drew.heap.size W.drew j->Ac (fun k=>O k=y.ownBlock) j E->E.cell? ⟨w1.heap.size,0,U⟩=O v):=fun j E y q g L=>by
   have h3:Below W.drew.heap.size W.drew E:=g.trans (L.below g.size fun k N=>(G1 q N.symm).1);exact Aa h3 (show W.drew.cell? _=_ from ab.cell)
  have ak:S (∀(j E:Qa) (y:Qk) (q3:Option Addr) (T c3:Nat),j.ownsRow W.drew.heap.size 62 3 y (Bh c.1 x).length (A2 (Bh c.1 x))->Below W.drew.heap.size W.drew j->Ac (fun k=>O k=y.ownBlock) j E->T=((Bh c.1 x).filter fun r=> !BM c.2 (r,x)).length->CU E q3 T c3 (A2 ((Bh c.1 x).filter fun r=> !BM c.2 (r,x))) ->
    ∃vq vn vc R,(Qv #[35,35] 35 #[v,H q3 T c3]).run Qe E= .ok (H vq vn vc) R/\R.cell? ⟨w1.heap.size,0,U⟩=O v/\R.frozen? ⟨w1.heap.size,0,U⟩=false /\
    (KeepsFrom W0.heap.size W (R.setCell ⟨w1.heap.size,0,U⟩ (H vq vn vc))/\EU w1.heap.size W (R.setCell ⟨w1.heap.size,0,U⟩ (H vq vn vc))/\KV w1 c (ag++ [x]) (R.setCell ⟨w1.heap.size,0,U⟩ (H vq vn vc)))):=fun j E y q3 T c3 q g L M aa=>by
   have h3:Below W.drew.heap.size W.drew E:=g.trans (L.below g.size fun k N=>(G1 q N.symm).1);have bw:T<=10000:=by rw[M];exact Qi (Qr _ _) bh
   obtain⟨v',R,⟨vq,vn,vc,rfl⟩,r4,k4,f4,ay,bl,bm⟩:=pP ab az hB x a4 h3 M aa (by omega);refine⟨vq,vn,vc,R,r4,k4,f4,ay.from _,⟨ay.size,fun k N=>bm.block k N,fun k p s e cc hk'=>ay.same k _ hk' rfl⟩,bl⟩
  have k0:=ab.cell;have av:S _:=fun j (g:Below W.drew.heap.size W.drew j)=>Aa g k0;obtain⟨yq,yn,yc,rfl⟩:∃a b c,v=H a b c:=by
   obtain⟨d,hd⟩:=M4 az;exact Jn hd
  obtain⟨xq,xn,xc,bn⟩:=Jn (HD.out x);rw[bn]at aq ⊢;rw[ac]at k0 ak aj av;have ah:S (∀X,EU (w.heap.size+1) W X->EU w1.heap.size W X):=fun X h=>by rw[ac];exact h
  gi_wp2
  refine wpIn_region_any (by kernel_rfl) ?_;refine MC l (by kernel_rfl) _ _ _ _ ?_;change wpAnyIn _ _ _ _ _ _ _ _ _ (World.drew _);refine Q3 (i:=1) (v:=?_) rfl rfl (by kernel_rfl) (by kernel_rfl) (by kernel_rfl) (fun _ _ _ h=>h) ⟨Or.inl ⟨by rfl,?_⟩,fun _=>rfl⟩ ?_
  rotate_left
  focus ((intro w;go_simp)<;>with_reducible rfl)
  refine Q3 (i:=3) (v:=?_) rfl rfl (by kernel_rfl) (by kernel_rfl) (by kernel_rfl) (fun _ _ _ h=>h) ⟨Or.inl ⟨by rfl,?_⟩,fun _=>rfl⟩ ?_
  rotate_left
  focus ((intro w;go_simp)<;>with_reducible rfl)
  refine Qc (rs:= [0,2]) (by kernel_rfl) (by simp) ?_;refine Qb rfl (fun K f=>?_) ?_
  ·go_simp
   refine f _ _ ?_;refine Qc (rs:= [2]) (by kernel_rfl) (by simp) ?_;refine Qb rfl (fun K f=>?_) ?_
   ·go_simp
    gi_wp2_with (refine⟨trivial,?_⟩;gi_at_call 102;refine((Ql).2 aq.out).mono ?_;rintro e j ⟨y,rfl,q,g⟩)
    have k2:=av.out j g;refine Qc (rs:= [4]) (by kernel_rfl) (by simp) ?_;refine Qb rfl (fun K f=>?_) ?_
    ·go_simp
     have ae:=ar.out j y q g
     gi_wp2_with (refine⟨trivial,?_⟩;gi_at_call 162;refine((Ql).2 ae).mono ?_;rintro e E ⟨q3,T,c3,rfl,M,aa,L⟩;have af:S _:=M;clear M)
     obtain⟨vq,vn,vc,R,r4,k4,f4,C⟩:=ak.out j E y q3 T c3 q g L af.out aa;have k3:=aj.out j E y q g L;refine Qc (rs:= [5]) (by kernel_rfl) (by simp) ?_;refine Qb rfl (fun K f=>?_) ?_
     ·refine ON (by rfl) _ _ _ (by rfl) _ _ _ (by rfl) (by rfl) r4 ?_;refine f _ _ ?_;clear f K;refine Qc (rs:= [6]) (by kernel_rfl) (by simp) ?_;refine Qb rfl (fun K f=>?_) ?_
      ·go_simp
       refine f _ _ ?_;clear f K;refine Qw (by kernel_rfl) ?_ _;have Q:=Qm C.1 (Qm (ah.out _ C.2.1) C.2.2);exact Q
      exact Qd
     exact Qd
    exact Qd
   exact Qd
  refine Qb rfl (fun K f=>?_) ?_
  ·go_simp
   gi_wp2_with (refine⟨trivial,?_⟩;gi_at_call 102;refine((Ql).2 aq.out).mono ?_;rintro e j ⟨y,rfl,q,g⟩)
   have k2:=av.out j g;refine Qc (rs:= [0,4]) (by kernel_rfl) (by simp) ?_;refine Qb rfl (fun K f=>?_) ?_
   ·go_simp
    refine f _ _ ?_;clear f K;refine Qc (rs:= [4]) (by kernel_rfl) (by simp) ?_;refine Qb rfl (fun K f=>?_) ?_
    ·go_simp
     have ae:=ar.out j y q g
     gi_wp2_with (refine⟨trivial,?_⟩;gi_at_call 162;refine((Ql).2 ae).mono ?_;rintro e E ⟨q3,T,c3,rfl,M,aa,L⟩;have af:S _:=M;clear M)
     obtain⟨vq,vn,vc,R,r4,k4,f4,C⟩:=ak.out j E y q3 T c3 q g L af.out aa;have k3:=aj.out j E y q g L;refine Qc (rs:= [5]) (by kernel_rfl) (by simp) ?_;refine Qb rfl (fun K f=>?_) ?_
     ·refine ON (by rfl) _ _ _ (by rfl) _ _ _ (by rfl) (by rfl) r4 ?_;refine f _ _ ?_;clear f K;refine Qc (rs:= [6]) (by kernel_rfl) (by simp) ?_;refine Qb rfl (fun K f=>?_) ?_
      ·go_simp
       refine f _ _ ?_;clear f K;refine Qw (by kernel_rfl) ?_ _;have Q:=Qm C.1 (Qm (ah.out _ C.2.1) C.2.2);exact Q
      exact Qd
     exact Qd
    exact Qd
   refine Qb rfl (fun K f=>?_) ?_
   ·go_simp
    have ae:=ar.out j y q g
    gi_wp2_with (refine⟨trivial,?_⟩;gi_at_call 162;refine((Ql).2 ae).mono ?_;rintro e E ⟨q3,T,c3,rfl,M,aa,L⟩;have af:S _:=M;clear M)
    obtain⟨vq,vn,vc,R,r4,k4,f4,C⟩:=ak.out j E y q3 T c3 q g L af.out aa;have k3:=aj.out j E y q g L;refine Qc (rs:= [0]) (by kernel_rfl) (by simp) ?_;refine Qb rfl (fun K f=>?_) ?_
    ·go_simp
     refine f _ _ ?_;clear f K;refine Qc (rs:= [5]) (by kernel_rfl) (by simp) ?_;refine Qb rfl (fun K f=>?_) ?_
     ·refine ON (by rfl) _ _ _ (by rfl) _ _ _ (by rfl) (by rfl) r4 ?_;refine f _ _ ?_;clear f K;refine Qc (rs:= [6]) (by kernel_rfl) (by simp) ?_;refine Qb rfl (fun K f=>?_) ?_
      ·go_simp
       refine f _ _ ?_;clear f K;refine Qw (by kernel_rfl) ?_ _;have Q:=Qm C.1 (Qm (ah.out _ C.2.1) C.2.2);exact Q
      exact Qd
     exact Qd
    exact Qd
   exact Qd
  exact Qd
 case done =>
  rintro D' ps W hD ⟨bq,bb⟩ hI f;have bi:KV w1 c ps (W.putObj D' (Qp U)):=(OM (c:=c) (w1:=w1) (B:=W0.heap.size) (by omega)) ps W _ (O D') hI (grownBy_putObj' W D' _) (fun r e=>by cases e;exact⟨hD,_,f,rfl⟩);obtain⟨⟨v,ab,-,-⟩,-⟩:=hI;obtain⟨⟨v',ba,al,-⟩,bo⟩:=bi;have bj:v'=v:=by
   have e1:(W.putObj D' (Qp U)).heap[w1.heap.size]? =W.heap[w1.heap.size]? :=World.putObj_heap_other (by omega);have:=(show (W.putObj D' (Qp U)).heap[w1.heap.size]? =_ from ba).symm.trans (e1.trans (show W.heap[w1.heap.size]? =_ from ab));injection this with this;injection this with this;simpa using this
  subst bj;have hc:=ab.cell;rw[ac]at hc;have aw:S (Ar (W.putObj D' (Qp U)) v' (BN c ps)/\BL w (W.putObj D' (Qp U))):=⟨(II al).1,ai.out _ bo⟩;obtain⟨yq,yn,yc,rfl⟩:∃a b c,v'=H a b c:=by
   obtain⟨d,hd⟩:=M4 al;exact Jn hd
  gi_wp2
  refine⟨by simp,.inl ⟨_,_,rfl,run_takeDeferred f,?_⟩⟩;exact⟨_,results_tmp rfl _ _ _,H yq yn yc,ps,rfl,bq,fun z hz=>bb z ((a7.out z).2 hz),aw.out.1,aw.out.2⟩
end
theorem UP:∀zs:List Int,∃m,m<=zs.length/\(∀i (h:i<zs.length),i<m->Ao zs[i]=true)/\(∀(h:m<zs.length),Ao zs[m]=false)
 | []=>⟨0,Qq _,fun i h=>by simp at h,fun h=>by simp at h⟩
 | z :: r=>by
  cases b:Ao z with
  | false=>exact ⟨0,Nat.zero_le _,fun i _ h=>absurd h (by omega),fun _=>b⟩
  | true =>
   obtain⟨m,f,c,d⟩:=UP r;refine⟨m+1,by simp;omega,fun i h hi=>?_,fun h=>?_⟩
   ·cases i with
    | zero=>exact b
    | succ i=>exact c i (by simpa using h) (by omega)
   ·exact d (by simpa using h)
theorem UQ {w:Qa} {q:Option Addr} {c:Nat} {zs:List Int} (h:A3 w (H q zs.length c) zs) (i:q=U->c=0):CU w q zs.length c (zs.map (Z I)):=by
 rcases h with⟨_,_,_,rfl⟩|⟨b,o,k,e,g⟩
 ·exact Or.inl ⟨rfl,i⟩
 ·injection e with e1;refine Or.inr ⟨b,o,e1,fun j u hj=>?_⟩;rw[List.getElem?_map,Option.map_eq_some_iff]at hj;obtain⟨y,f,rfl⟩:=hj;obtain⟨d,e⟩:=List.getElem?_eq_some_iff.1 f;rw[<-e];exact g j d
theorem pR (v:Qk) (c:List Fl) (lo hi:Int) (w:Qa) (hx:Ai w v c) (hl:c.length<=20000) :
  Qn Qe 81 #[v,Z I lo,Z I hi] w fun e w'=> ∃v',e= .returned v'/\Ai w' v' (c.filter (Aq lo hi))/\BL w w':=by
 obtain⟨i0,ab,ac,ad,T⟩:=Tryz.fileInfo;obtain⟨q,al,rfl⟩:=hx.form;have ai:S (Ai w (H q c.length al) c):=hx;obtain⟨L,hL⟩:∃L,c.length=L:=⟨_,rfl⟩;have HX:S (c.length=L):=hL;rw[hL]at hl ⊢;clear hL hx
 go_enter func81,ntmps81
 go_wp2
 go_loopw [7,12] (fun out k wr=> ∃n:Nat,n<=L/\k=Z I n/\BL w wr/\wr.ownsRow w.heap.size 77 6 out (kept (Aq lo hi) c n).length (Aw (kept (Aq lo hi) c n))) (fun _ k _=>L-(intOf k).toNat)
 case atStart=>exact ⟨0,by omega,rfl,Qs _ _,by rw[fY];exact World.ownsRow_nil _ _ _ _⟩
 case round =>
  obtain⟨n,hn,rfl,hb,af⟩:=hrel;have OW:S (wr.ownsRow w.heap.size 77 6 u7 (kept (Aq lo hi) c n).length (Aw (kept (Aq lo hi) c n))):=af;clear af;by_cases aj:n<L
  ·have R:n<c.length:=by rw[HX.out];exact aj
   obtain⟨b,o,hq,hc⟩:=(ai.out.below hb).cells (fun e=>by rw[e]at R;simp at R);subst hq;obtain⟨c0,c1,c2,c3,c4,c5⟩:=hc n R;have E:S ((kept (Aq lo hi) c n).length<=L):=by
    show _<=_;have:=SQ (Aq lo hi) c n;omega
   have p:=K6 (Aq lo hi) c n R;generalize c[n]=f at c0 c1 c2 c3 c4 c5 p;have X:=Ja wr f;have Q:=Ir wr f;unfold GR at X Q;obtain⟨z,B,C,d,g,i⟩:=f;dsimp only at c0 c1 c2 c3 c4 c5 X Q;have an:(n:Int)<(L:Int):=by omega
   have am:(0:Int)<=(n:Int):=by omega
   go_upto_region 5 with fail
   generalize wr.alloc (J #[G z,G B,Z I C,Z I d,Z I g,Z I i] 77)=W at X Q ⊢;have y:BL w W:=Ad hb Q;have t:S (W.ownsRow w.heap.size 77 6 u7 (kept (Aq lo hi) c n).length (Aw (kept (Aq lo hi) c n))):=E7 OW.out Q;obtain⟨z0,z1,z2,z3,z4,z5,-⟩:=X.cells;dsimp only at z0 z1 z2 z3 z4 z5;have K:BL W (W.alloc (J #[G z,G B,Z I C,Z I d,Z I g,Z I i] 77)):=Af _ _;have r:BL w (W.alloc (J #[G z,G B,Z I C,Z I d,Z I g,Z I i] 77)):=y.alloc y.size _;clear X Q OW;have ae:((d<lo/\hi<g/\lo<=hi)\/(d<lo/\hi<g/\¬lo<=hi))\/((d<lo/\¬hi<g/\lo<=g)\/(d<lo/\¬hi<g/\¬lo<=g))\/((¬d<lo/\hi<g/\d<=hi)\/(¬d<lo/\hi<g/\¬d<=hi))\/((¬d<lo/\¬hi<g/\d<=g)\/(¬d<lo/\¬hi<g/\¬d<=g)):=by omega
   rcases ae with(F | F) | (F | F) | (F | F) | (F | F)<;>obtain ⟨Y,q2,q3⟩:=F
   ·have s:S ((kept (Aq lo hi) c (n+1))=(kept (Aq lo hi) c n)++ [(z,B,C,d,g,i)]):=by
     show _=_;rw[p,if_pos (by simp[Aq,Y,q2,q3])]
    clear p
    go_wp2_with (at_builtin;refine Qt _ rfl _ _ 38 rfl w.heap.size 77 i0 (Qh #[G ⟨#[]⟩,G ⟨#[]⟩,Z I 0,Z I 0,Z I 0,Z I 0]) 6 64 Qu ab ac ad T rfl (by decide) u7 (kept (Aq lo hi) c n).length (Aw (kept (Aq lo hi) c n)) rfl ?qc0 ⟨W.heap.size,0,U⟩ 1 1 (Bl (z,B,C,d,g,i)) rfl ?qc1 ?qc2 ?qc3 ?qc4 ?qc5 ?qc6 ?_)
    case qc0=>exact E7 t.out K
    case qc1=>rfl
    case qc2=>first | exact JH _ _ | exact fun j u hu=>hu
    case qc3=>exact Hu _
    case qc4=>have:=E.out;unfold Qo;omega
    case qc5=>have:=E.out;omega
    case qc6=>first | exact r.size | (have:=y.size;omega)
    intro v' P l m D;have M:BL w P:=r.grown m r.size (fun k hk=>by
     rcases t.out.2 with⟨e,_⟩|⟨g',aa,ag,e,ah,_⟩
     ·rw[e]at hk;simp[Qf]at hk
     ·rw[e]at hk;simp[Qf]at hk;omega)
    have N:S (P.ownsRow w.heap.size 77 6 v' ((kept (Aq lo hi) c n).length+1) (Aw (kept (Aq lo hi) c n)++Bl (z,B,C,d,g,i))):=l;clear l D m;go_wp2;go_roundw
    case rel=>exact ⟨n+1,by omega,by go_num,M,by rw[s.out,Qj,Hv];simpa [Aw] using N.out⟩
    case measure=>simp [intOf];omega
   ·have s:S ((kept (Aq lo hi) c (n+1))=(kept (Aq lo hi) c n)):=by
     show _=_;rw[p,if_neg (by simp[Aq,Y,q2,q3])]
    clear p K r;go_wp2;go_roundw
    case rel=>exact ⟨n+1,by omega,by go_num,y,by rw[s.out];exact t.out⟩
    case measure=>simp [intOf];omega
   ·have s:S ((kept (Aq lo hi) c (n+1))=(kept (Aq lo hi) c n)++ [(z,B,C,d,g,i)]):=by
     show _=_;rw[p,if_pos (by simp[Aq,Y,q2,q3])]
    clear p
    go_wp2_with (at_builtin;refine Qt _ rfl _ _ 38 rfl w.heap.size 77 i0 (Qh #[G ⟨#[]⟩,G ⟨#[]⟩,Z I 0,Z I 0,Z I 0,Z I 0]) 6 64 Qu ab ac ad T rfl (by decide) u7 (kept (Aq lo hi) c n).length (Aw (kept (Aq lo hi) c n)) rfl ?qc0 ⟨W.heap.size,0,U⟩ 1 1 (Bl (z,B,C,d,g,i)) rfl ?qc1 ?qc2 ?qc3 ?qc4 ?qc5 ?qc6 ?_)
    case qc0=>exact E7 t.out K
    case qc1=>rfl
    case qc2=>first | exact JH _ _ | exact fun j u hu=>hu
    case qc3=>exact Hu _
    case qc4=>have:=E.out;unfold Qo;omega
    case qc5=>have:=E.out;omega
    case qc6=>first | exact r.size | (have:=y.size;omega)
    intro v' P l m D;have M:BL w P:=r.grown m r.size (fun k hk=>by
     rcases t.out.2 with⟨e,_⟩|⟨g',aa,ag,e,ah,_⟩
     ·rw[e]at hk;simp[Qf]at hk
     ·rw[e]at hk;simp[Qf]at hk;omega)
    have N:S (P.ownsRow w.heap.size 77 6 v' ((kept (Aq lo hi) c n).length+1) (Aw (kept (Aq lo hi) c n)++Bl (z,B,C,d,g,i))):=l;clear l D m;go_wp2;go_roundw
    case rel=>exact ⟨n+1,by omega,by go_num,M,by rw[s.out,Qj,Hv];simpa [Aw] using N.out⟩
    case measure=>simp [intOf];omega
   ·have s:S ((kept (Aq lo hi) c (n+1))=(kept (Aq lo hi) c n)):=by
     show _=_;rw[p,if_neg (by simp[Aq,Y,q2,q3])]
    clear p K r;go_wp2;go_roundw
    case rel=>exact ⟨n+1,by omega,by go_num,y,by rw[s.out];exact t.out⟩
    case measure=>simp [intOf];omega
   ·have s:S ((kept (Aq lo hi) c (n+1))=(kept (Aq lo hi) c n)++ [(z,B,C,d,g,i)]):=by
     show _=_;rw[p,if_pos (by simp[Aq,Y,q2,q3])]
    clear p
    go_wp2_with (at_builtin;refine Qt _ rfl _ _ 38 rfl w.heap.size 77 i0 (Qh #[G ⟨#[]⟩,G ⟨#[]⟩,Z I 0,Z I 0,Z I 0,Z I 0]) 6 64 Qu ab ac ad T rfl (by decide) u7 (kept (Aq lo hi) c n).length (Aw (kept (Aq lo hi) c n)) rfl ?qc0 ⟨W.heap.size,0,U⟩ 1 1 (Bl (z,B,C,d,g,i)) rfl ?qc1 ?qc2 ?qc3 ?qc4 ?qc5 ?qc6 ?_)
    case qc0=>exact E7 t.out K
    case qc1=>rfl
    case qc2=>first | exact JH _ _ | exact fun j u hu=>hu
    case qc3=>exact Hu _
    case qc4=>have:=E.out;unfold Qo;omega
    case qc5=>have:=E.out;omega
    case qc6=>first | exact r.size | (have:=y.size;omega)
    intro v' P l m D;have M:BL w P:=r.grown m r.size (fun k hk=>by
     rcases t.out.2 with⟨e,_⟩|⟨g',aa,ag,e,ah,_⟩
     ·rw[e]at hk;simp[Qf]at hk
     ·rw[e]at hk;simp[Qf]at hk;omega)
    have N:S (P.ownsRow w.heap.size 77 6 v' ((kept (Aq lo hi) c n).length+1) (Aw (kept (Aq lo hi) c n)++Bl (z,B,C,d,g,i))):=l;clear l D m;go_wp2;go_roundw
    case rel=>exact ⟨n+1,by omega,by go_num,M,by rw[s.out,Qj,Hv];simpa [Aw] using N.out⟩
    case measure=>simp [intOf];omega
   ·have s:S ((kept (Aq lo hi) c (n+1))=(kept (Aq lo hi) c n)):=by
     show _=_;rw[p,if_neg (by simp[Aq,Y,q2,q3])]
    clear p K r;go_wp2;go_roundw
    case rel=>exact ⟨n+1,by omega,by go_num,y,by rw[s.out];exact t.out⟩
    case measure=>simp [intOf];omega
   ·have s:S ((kept (Aq lo hi) c (n+1))=(kept (Aq lo hi) c n)++ [(z,B,C,d,g,i)]):=by
     show _=_;rw[p,if_pos (by simp[Aq,Y,q2,q3])]
    clear p
    go_wp2_with (at_builtin;refine Qt _ rfl _ _ 38 rfl w.heap.size 77 i0 (Qh #[G ⟨#[]⟩,G ⟨#[]⟩,Z I 0,Z I 0,Z I 0,Z I 0]) 6 64 Qu ab ac ad T rfl (by decide) u7 (kept (Aq lo hi) c n).length (Aw (kept (Aq lo hi) c n)) rfl ?qc0 ⟨W.heap.size,0,U⟩ 1 1 (Bl (z,B,C,d,g,i)) rfl ?qc1 ?qc2 ?qc3 ?qc4 ?qc5 ?qc6 ?_)
    case qc0=>exact E7 t.out K
    case qc1=>rfl
    case qc2=>first | exact JH _ _ | exact fun j u hu=>hu
    case qc3=>exact Hu _
    case qc4=>have:=E.out;unfold Qo;omega
    case qc5=>have:=E.out;omega
    case qc6=>first | exact r.size | (have:=y.size;omega)
    intro v' P l m D;have M:BL w P:=r.grown m r.size (fun k hk=>by
     rcases t.out.2 with⟨e,_⟩|⟨g',aa,ag,e,ah,_⟩
     ·rw[e]at hk;simp[Qf]at hk
     ·rw[e]at hk;simp[Qf]at hk;omega)
    have N:S (P.ownsRow w.heap.size 77 6 v' ((kept (Aq lo hi) c n).length+1) (Aw (kept (Aq lo hi) c n)++Bl (z,B,C,d,g,i))):=l;clear l D m;go_wp2;go_roundw
    case rel=>exact ⟨n+1,by omega,by go_num,M,by rw[s.out,Qj,Hv];simpa [Aw] using N.out⟩
    case measure=>simp [intOf];omega
   ·have s:S ((kept (Aq lo hi) c (n+1))=(kept (Aq lo hi) c n)):=by
     show _=_;rw[p,if_neg (by simp[Aq,Y,q2,q3])]
    go_wp2;go_roundw
    case rel=>exact ⟨n+1,by omega,by go_num,y,by rw[s.out];exact t.out⟩
    case measure=>simp [intOf];omega
  ·obtain rfl:n=L:=by omega
   have ak:S (Ai wr u7 (c.filter (Aq lo hi))):=by
    have h':=(Gt OW.out).1;rw[<-HX.out,SR]at h';exact h'
   go_wp2;go_ret;exact⟨_,rfl,ak.out,hb⟩
end Go.Proofs.YtcllhobffhkafaaGreatDoor
