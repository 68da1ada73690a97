/- By an AI agent. -/
import Derived.Test.YtcllhobffhkafaaGreatDoorDelShelf
import Derived.Shelf.SlIter.Nil
import Derived.Ground.GgzProg
set_option maxRecDepth 100000
set_option maxHeartbeats 16000000
open Go.Proofs.Tryz
open Bool renaming true->Qf,false->Qg,and_eq_true->Xj,eq_iff_iff->Xo,not_eq_true'->X0
open Go renaming World->V,Value->Qd,Calls->Qe,cell_of_row->Qo,Addr->Qq,heap_alloc_new->Qt,callFunc->QH,Ending->QJ,lt_of_block->QP,heap_setCell_same->QQ,callsIn_wide->Xg,frozen_of_row->X5,bodyPost_ret->X7
open Go.Ending renaming returned->Qb
open Go.Fence renaming wide->Qw
open Go.IntKind renaming i64->U
open Go.Lib renaming compact->Qv,holds_of_ownsRow->QI,ownsRow_putRow->Xc,below_putRow->Xm
open Go.Obj renaming cells->Qa
open Go.Proofs renaming intOf->Qm,encStr->Qu,enters_of->Qy,sortWorld->QG,FnGives->QS
open Go.Proofs.AnyM renaming slices_Sort_string_none->Xt,slices_Sort_string->Xu
open Go.Proofs.Tryz renaming prog->A,func237->Q8,underlying82->QA,isAgg82->QB,sizeOf82->QC,zeroValue82->QD,ntmps237->QK,func149->QT,func150->QW,ntmps150->QX,isAgg9->QY,sizeOf9->QZ,zeroValue9->Xa,func92->Xh,underlying116->Xp,zeroValue116->Xq,underlying9->Xr
open Go.RowKit renaming Hid->Z
open Go.RowKit.Below renaming refl->Ql,size->QO,trans->X2,drew->X3,alloc->X4
open Go.Shelf renaming Ren->Qz
open Go.Sort renaming putRow->Q3,ahead->Q5
open Go.Value renaming int->O,pointer->J,string->H,slice->Qc,tuple->Qh,nilIface->Qj,bool->Qn,iface->Qr
open Go.World renaming ownsRow->Q9,ownsRow_nil->QL
open Go.World.ownsRow renaming mono->QM
open List renaming length_map->Qs,length_append->Q0,getElem_mem->Q1,mem_iff_getElem->Q2,replicate->Q4,length_cons->Q6,take_length->Q7,map_map->QE,length_filter_le->QF,flatMap_cons->QN,filter_append->QR,size_toArray->QU,mem_cons_self->QV,length_eq_zero_iff->Xb,flatMap_append->Xd,map_append->Xe,pairwise_iff_getElem->Xf,mem_map->Xi,mem_filter->Xk,getLast?_eq_some_getLast->Xl,mem_cons_of_mem->Xn,map_congr_left->Xs,take_left'->Xv,take_append_getElem->Xw,pairwise_map->Xz,mem_append->X1,take_succ_eq_append_getElem->X6
open Nat renaming le_trans->Qp,le_refl->Qx,zero_le->Xx,not_lt_zero->Xy
open Option renaming some->I,none->S
open Or renaming inl->Qi,inr->Qk
namespace Go.Proofs.YtcllhobffhkafaaGreatDoor
open Go.RowKit Go.Extern.Stop Go.Stop Go.Extern Go.Sort Go.Shelf Go.Lib
theorem Wa (v:Qd) (zs:List Int) (x:Int) (w:V) (h:A4 w v zs) (g:zs.length<=1000) :
  Qe A 46 #[v,O U x] w fun e w'=>e=Qb (Qn (zs.contains x))/\w'=w:=by
 rcases h with⟨p,c,rfl,rfl⟩|⟨b,o,d,rfl,f⟩
 ·exact(slices_Contains_int_empty p c x w).mono fun e w' ⟨he,hw⟩=>⟨he,hw⟩
 ·refine(slices_Contains_int b o zs.length d zs x w (Qx _) (by omega) (fun j hj=>by rw[KH hj];exact f j hj)).mono fun e w' ⟨he,hw⟩=>⟨?_,hw⟩;rw[Q7]at he;exact he
def Hl (now:Int) (ys:List Int) (z:Int):Bool:=(z != now) && !ys.contains z
theorem vK {zs ys:List Int} (h:(AF zs).1=0):(zs.filter fun z=> !Hl (zs.getLastD 0) ys z)=Ca zs ys:=by
 obtain⟨b,-,-,i⟩:=DA.1 h;have d:=List.dropLast_concat_getLast b;have j:zs.getLastD 0=zs.getLast b:=by rw[List.getLastD_eq_getLast?,Xl b,Option.getD_some]
 rw[j];unfold Ca;rw[Xl b];generalize zs.getLast b=c at d ⊢;generalize zs.dropLast=l at d ⊢;rw[<-d]at i ⊢;have g:∀z∈l,z<c:=fun z f=>(List.pairwise_append.1 i).2.2 z f c (by simp);rw[QR];congr 1
 ·apply List.filter_congr;intro z f;have:=g z f;have k:(z != c)=Qf:=by simp;omega
  simp[Hl,k]
 ·simp[Hl]
theorem Wb (z b:Int) (g i:Nat) (u:Qd) (ys:List Int) (W:V) (p:W.cell? ⟨g,0,S⟩=I (O U b)) (r:W.cell? ⟨i,0,S⟩=I u) (k:A4 W u ys) (l:ys.length<=1000) :
  QS A 149 #[J (I ⟨g,0,S⟩),J (I ⟨i,0,S⟩)] #[O U z] (Qn (Hl b ys z)) W:=by
 show Qe A 149 #[O U z,J (I ⟨g,0,S⟩),J (I ⟨i,0,S⟩)] W _;have d:=Wa u ys z W k l;obtain⟨q,m,rfl⟩:=k.shape;by_cases c:z=b
 ·have f:Hl b ys z=Qg:=by simp[Hl,c]
  have j:(z != b)=Qg:=by simp[c]
  rw[f]
  go_enter QT,ntmps149
  go_wp2;go_ret;exact⟨rfl,0,rfl⟩
 ·have f:Hl b ys z= !ys.contains z:=by simp[Hl,c]
  have j:(z != b)=Qf:=by simp[c]
  rw[f];generalize ys.contains z=o at d ⊢
  go_enter QT,ntmps149
  go_wp2_with fail
  refine d.mono ?_;rintro e n ⟨rfl,rfl⟩;go_wp2;go_ret;exact⟨rfl,0,rfl⟩
theorem PU {w:V} {b c n:Nat} {g:Array Int} {os:Array Obj} {B k:Nat} {v:Qd} (d:w.cell? ⟨B,k,S⟩=I v) (f:B≠b):(QG (O U) w b c n g os).cell? ⟨B,k,S⟩=I v:=by
 unfold QG;rw[cell?_grow _ _ _ (by show B<(Q3 _ _ _ _ _).heap.size;rw[size_putRow];exact BF d),cell?_putRow_other _ _ b c _ _ (Qi f)];exact d
theorem vL (v u:Qd) (zs ys:List Int) (w:V) (a:Nat->Qq) (h:Gm w a) (hz:CA w v zs) (hy:A4 w u ys) (hl:zs.length<=100) (ax:ys.length<=100) :
  Qe A 75 #[v,u] w fun e w'=>K7 w a (Kq zs ys) (AF zs) e w':=by
 have m:BL w (w.alloc (Qa #[u] 32)):=Af _ _;have ab:(w.alloc (Qa #[u] 32)).cell? ⟨w.heap.size,0,S⟩=I u:=by
  rw[Qo _ _ _ _ _ _ (Qt _ _)];rfl
 have p:=Lh v zs (w.alloc (Qa #[u] 32)) a (h.below m) (hz.below m) (by omega);obtain⟨qy,cy,rfl⟩:=hy.shape;by_cases i:(AF zs).1=0
 case neg =>
  have HI:Z (Kq zs ys= []):=by show _=_;unfold Kq;rw[if_neg i]
  obtain⟨q,aw,rfl⟩:=hz.1.shape
  go_enter func75,ntmps75
  go_wp2_with fail
  refine p.mono ?_;rintro e w1 ⟨ev,rfl,ht,B⟩;obtain⟨t,u,rfl⟩:=ht.bad i;have al:Z _:=ht;go_wp2;go_ret2;exact Ni HI.out al.out (Ad m B)
 case pos =>
 have aa:=La i;have ac:Z ((zs.filter fun z=> !Hl (zs.getLastD 0) ys z)=Ca zs ys):=vK i;have am:Kq zs ys=Ca zs ys:=by unfold Kq;rw[if_pos i]
 have an:=(DA.1 i).1;rw[aa]at p ⊢;rw[am];have ad:Z _:=fun W (hb:BL w W)=>hz.1.below hb;have D:Z (A4 w (Qc qy ys.length cy) ys):=hy;have ai:=List.length_pos_iff.2 an;obtain⟨q,aw,rfl⟩:=hz.1.shape;have E:=fun W (hb:BL w W)=>OO _ zs W (ad.out W hb) (by omega);have ae:=fun W (hb:BL w W)=>LY _ zs W (ad.out W hb) (by omega);have eg:∀args w,(QH 149 args).run A w= .ok (.enter 149 args) w:=Qy QT (by kernel_rfl) rfl;generalize az:zs.getLastD 0=f at E ac;obtain⟨M,hM⟩:∃M,ys.length=M:=⟨_,rfl⟩;have HM:Z (ys.length=M):=hM;rw[hM]at m p ab D ax ⊢;obtain⟨L,hL⟩:∃L,zs.length=L:=⟨_,rfl⟩;have HL:Z _:=hL;rw[hL]at p E ae hl ai ⊢
 go_enter func75,ntmps75
 go_wp2_with fail
 refine p.mono ?_;rintro e w1 ⟨ev,rfl,ht,B⟩;obtain rfl:ev=Qj:=ht;have af:=Ad m B;have F:=Aa B ab;have ao:=BF F;have aj:=E w1 af
 go_wp2_with fail
 refine aj.mono ?_;rintro e C ⟨rfl,rfl⟩;have K:BL C (C.alloc (Qa #[O U f] 3)):=Af _ _;have s:(C.alloc (Qa #[O U f] 3)).cell? ⟨C.heap.size,0,S⟩=I (O U f):=by
  rw[Qo _ _ _ _ _ _ (Qt _ _)];rfl
 have N:=Aa K F;have P:=Ad af K;have Q:=ae _ P
 go_upto_region 5 with fail
 generalize C.alloc (Qa #[O U f] 3)=W3 at s N P Q ⊢;generalize C.heap.size=nb at s ao ⊢
 go_wp2_with fail
 refine Q.mono ?_;rintro e w4 ⟨v4,rfl,ah,X⟩;have y:=Ad P X;have R:=Aa X s;have T:=Aa X N;have ap:v4≠ Qc S 0 0:=fun e=>by
  rcases ah.2 with⟨_,h0⟩|⟨g,d,a3,e',_⟩
  ·omega
  ·rw[e]at e';cases e'
 obtain⟨g,d,rfl,a1,a2,hn,hm,ak,hH⟩:=QI ah ap;have aq:=BF s;have ay:nb<W3.heap.size:=aq;have ar:∀(n:Nat) (os:Array Obj) (dk:Array Int),A4 (QG (O U) w4 g 0 n dk os) (Qc qy M cy) ys:=fun n os dk=>by
  rcases D.out with h' | ⟨b,o,c,e,hc⟩
  ·exact Qi h'
  ·refine Qk ⟨b,o,c,e,fun j hj=>PU (Aa (y.mono (Qx _)) (hc j hj)) ?_⟩;have:=BF (hc j hj);show b≠g;have:b<w.heap.size:=this;omega
 have r:=AnyE.slices_DeleteFunc delZ (O U) (fun _=>rfl) (Hl f ys) 149 #[J (I ⟨nb,0,S⟩),J (I ⟨w.heap.size,0,S⟩)] eg 0 zeroValue3 g 0 d zs.toArray w4
  (fun W x hb=>Wb x f nb w.heap.size (Qc qy M cy) ys W (Aa hb R) (Aa hb T) ((D.out.below y).below hb) (by rw[HM.out];omega))
  (fun n os dk x _=>Wb x f nb w.heap.size (Qc qy M cy) ys _ (PU R (by omega)) (PU T (by omega)) (ar n os dk) (by rw[HM.out];omega))
  hH (by simp;omega) (by simp;omega)
 change Qe A 148 _ _ _ at r;simp only[QU,ak,ac.out]at r;have a0:(Ca zs ys).length<=L:=by rw[<-HL.out];exact(Lc zs ys).length_le
 have HH:Z _:=hH
 go_wp2_with fail
 refine r.mono ?_;rintro e w5 ⟨rfl,qq,Y⟩;have ag:Z (CA w5 (Qc (I ⟨g,0,S⟩) (Ca zs ys).length d) (Ca zs ys)/\IE w (Qc (I ⟨g,0,S⟩) (Ca zs ys).length d)):=by
  refine⟨⟨Qk ⟨g,0,d,rfl,fun j hj=>?_⟩,fun q l c e=>by injection e with _ e1 e2;omega⟩,fun k hk=>by simp[Value.ownBlock]at hk;omega⟩;rw[Y];have hd:(Ca zs ys++Q4 (L-(Ca zs ys).length) 0).toArray.size=zs.toArray.size:=by
   simp[HL.out];omega
  have au:=holds_putRow (O U) (Q5 w4 qq) g 0 zs.toArray (Ca zs ys++Q4 (L-(Ca zs ys).length) 0).toArray HH.out hd;have:=(au j (by simp;omega)).1;rw[getElem!_pos _ j (by simp;omega)]at this;simp only[List.getElem_toArray,List.getElem_append_left hj]at this;exact this
 have av:BL w w5:=by rw[Y];exact Xm y (by omega)
 clear Y HH y;go_wp2;go_ret2;exact⟨_,Qj,rfl,ag.out.1,ag.out.2,rfl,av⟩
section
variable {a : Nat → Qq} {B : Nat} {EM : V → Prop}
theorem L7 {W:V} {c:Nat} {d:Qd} {i:Nat->Prop} {j:ByteArray} {l vf:Qd} {k:Lk} (K:A2 a B EM An) (h:Al W c d i j l vf k) :
  Qe A 21 #[J (I ⟨c,0,S⟩)] W fun e w'=>e=Qb d/\w'=W:=by
 obtain⟨m,rfl⟩:=h.ptr K;obtain⟨f,-⟩:=h.blk.cells;have b:=GN f
 go_enter func21,ntmps21
 go_wp2_with fail
 refine b.mono ?_;rintro e n ⟨rfl,g⟩;rw[g];go_wp2;go_ret;exact⟨rfl,rfl⟩
theorem vM {W:V} {g:Nat} {m:Qd} {n:Nat->Prop} {o:ByteArray} {p vf:Qd} {k:Lk} (K:A2 a B EM An) (h:Al W g m n o p vf k) (r:k.ids.length<=1000) :
  Qe A 15 #[J (I ⟨g,0,S⟩)] W fun e w'=> ∃v',e=Qb v'/\w'.ownsRow W.heap.size 3 1 v' k.ids.length (k.ids.map (O U))/\BL W w':=by
 obtain⟨s,rfl⟩:=h.ptr K;obtain⟨q,c,rfl⟩:=h.ids.1.form;obtain⟨i,-,-,t,-⟩:=h.blk.cells;have b:=GN i;have d:=LY _ k.ids W h.ids.1 (by omega);clear h r;generalize k.ids.length=L at *
 go_enter func15,ntmps15
 go_wp2_with fail
 refine b.mono ?_;rintro e u ⟨rfl,f⟩;rw[f];clear b f
 go_wp2_with fail
 refine d.mono ?_;rintro e v ⟨v',rfl,j,l⟩;go_wp2;go_ret;exact⟨_,rfl,j,l⟩
theorem vO {W X Y:V} {R:List Rw×Nat×Option Nat} {e:QJ} (c:BL W X) (h:JB a X R e Y/\IG X e):JB a W R e Y/\IG W e:=by
 obtain⟨⟨d,b,f,g,i,j⟩,k⟩:=h;exact⟨⟨d,b,f,g,i,(Ad c j)⟩,fun v b e=>(k v b e).up c.size⟩
theorem PV (K:A2 a B EM An) (b:∀X,EM X->AX X a) {W:V} {d:Qd} {i:Nat->Prop} {s:St} (j:EM W) (k:An W d i s) (m:AY s) {x:Sn} (n:(Am x).1=0) {q:Option Qq} {c:Nat} (lo hi:Int):∀X,BL W X->Ai X (Qc q x.2.2.2.2.2.2.length c) x.2.2.2.2.2.2->Qe A 40 #[d,.agg #[O U x.1,O U x.2.1,O U x.2.2.1,O U x.2.2.2.1,O U x.2.2.2.2.1,H x.2.2.2.2.2.1,Qc q x.2.2.2.2.2.2.length c],O U lo,O U hi] X fun e w'=> ∃v' ev,e=Qb (Qh #[v',ev])/\JB a W (AR s.obs x lo hi) (Qb (Qh #[v',ev])) w'/\IG W (Qb (Qh #[v',ev])):=fun X hb hf=>by
 obtain⟨o,g⟩:=JG n;refine(sB K (fun Y hY=>⟨(b Y hY).f,(b Y hY).x.hand,(b Y hY).x.list⟩) X d i s x (Qc q x.2.2.2.2.2.2.length c) lo hi (K.below _ _ j (hb.mono (K.size _ j))) (K.keep _ _ _ _ (fun _=>False) _ k (Ac.of_below hb) (fun _ _ h=>h)) m hf (by omega) g).mono fun e w' hp=>?_;have l:=vO hb hp;obtain⟨⟨v',ev,rfl,-⟩,-⟩:=hp;exact⟨v',ev,rfl,l⟩
theorem Wc (K:A2 a B EM An) (o:∀X,EM X->AX X a) {W:V} {j:Nat} {p:Qd} {r:Nat->Prop} {s:ByteArray} {t vf:Qd} {k:Lk} (u:EM W) (h:Al W j p r s t vf k) (hi:Av k) (lo b:Int) :
  Qe A 12 #[J (I ⟨j,0,S⟩),O U lo,O U b] W fun e w'=>JB a W (AR k.st.obs k.now lo b) e w'/\IG W e:=by
 obtain⟨y,rfl⟩:=h.ptr K;obtain⟨q,c,rfl⟩:=h.fls.form;have d:=PV K o u h.st hi.good.keeps hi.now.fine (q:=q) (c:=c) lo b;have f:Z (∀X,BL W X->_):=fun X hb=>d X hb (h.fls.below hb);obtain⟨l,-,-,-,z,C,D,E,F,L,v,-⟩:=h.blk.cells;have g:=GN l;have i:BL W W.drew:=(Ql _ _).drew
 go_enter func12,ntmps12
 go_wp2_with fail
 refine g.mono ?_;rintro e M ⟨rfl,m⟩;rw[m]
 go_upto_region 3 with fail
 go_region_with ((go_at_call 40;(with_reducible refine(f.out _ i).mono ?_);rintro e N ⟨P,Q,rfl,n⟩))
 all_goals
  go_wp2;go_ret2;exact n
end
theorem Wd {s:St} :∀ids:List Int,(∀id∈ids,∃x,Cy s id x)->∃ss:List Sn,ss.length=ids.length/\∀i (h1:i<ss.length) (h2:i<ids.length),Cy s ids[i] ss[i]
 | [],_=>⟨[],rfl,fun i h1=>by simp at h1⟩
 | z :: zs,h=>by
  obtain⟨x,b⟩:=h z QV;obtain⟨ss,h1,h2⟩:=Wd zs fun id hi=>h id (Xn _ hi);refine⟨x :: ss,by simp[h1],fun i h3 h4=>?_⟩
  cases i with
  | zero=>exact b
  | succ i=>exact h2 i (by simpa using h3) (by simpa using h4)
theorem JK {zs:List Int} (h:(AF zs).1=0):zs.length<=40/\∀z∈zs,1<=z/\z<=1073741824:=by
 obtain⟨-,b,c,-⟩:=DA.1 h;exact⟨b,fun z hz=>by simpa [CT] using c z hz⟩
section
variable {a : Nat → Qq} {B : Nat} {EM : V → Prop}
theorem PW (K:A2 a B EM An) (f:∀X,EM X->AX X a) {W:V} {b:Nat} {g:Qd} {j:Nat->Prop} {l:ByteArray} {m vf:Qd} {k:Lk} (c:EM W) (h:Al W b g j l m vf k) (hi:Av k):∃ss:List Sn,ss.length=k.ids.length/\(∀i (h1:i<ss.length) (h2:i<k.ids.length),Cy k.st k.ids[i] ss[i]) /\
  ∀X,BL W X->Qe A 41 #[J (I ⟨b,0,S⟩)] X fun e w'=> ∃v',e=Qb (Qh #[v',Qj])/\DD w' X.heap.size v' ss/\BL X w':=by
 obtain⟨ss,h1,h2⟩:=Wd k.ids hi.snaps;obtain⟨n,d⟩:=JK hi.ids;refine⟨ss,h1,h2,fun X hb=>sZ K f (K.below _ _ c (hb.mono (K.size _ c))) (h.quiet K hb) hi.good.keeps ss h1 (fun i h3 h4=>⟨(h2 i h3 h4).has,(h2 i h3 h4).fine⟩) (fun z hz=>?_) (by omega)⟩;have:=d z hz;omega
end
theorem vP (i d b:Int) (c:Nat) (W:V) (f:W.cell? ⟨c,0,S⟩=I (O U b)) :
  Qe A 236 #[O U i,O U d,J (I ⟨c,0,S⟩)] W fun e W'=>e=Qb (Qn (i == b))/\W'=W:=by
 go_enter func236,ntmps236
 go_wp2;go_ret;exact⟨rfl,rfl⟩
theorem vQ (i d b first least:Int) (m c f:Nat) (W:V) (p:W.cell? ⟨m,0,S⟩=I (O U b)) (n:W.cell? ⟨c,0,S⟩=I (O U least)) (o:W.cell? ⟨f,0,S⟩=I (O U first)) :
  Qe A 237 #[O U i,O U d,J (I ⟨m,0,S⟩),J (I ⟨f,0,S⟩),J (I ⟨c,0,S⟩)] W fun e W'=>e=Qb (Qn ((i == b) || (decide (first<=i) || decide (least<=d))))/\W'=W:=by
 by_cases j:i=b
 ·have g:(i == b)=Qf:=by simp[j]
  rw[g]
  go_enter Q8,QK
  go_wp2;go_ret;exact⟨rfl,rfl⟩
 ·have g:(i == b)=Qg:=by simp[j]
  rw[g];by_cases k:first<=i
  ·rw[decide_eq_true k]
   go_enter Q8,QK
   go_wp2;go_ret;exact⟨rfl,rfl⟩
  ·rw[decide_eq_false k];by_cases l:least<=d
   ·rw[decide_eq_true l]
    go_enter Q8,QK
    go_wp2;go_ret;exact⟨rfl,rfl⟩
   ·rw[decide_eq_false l]
    go_enter Q8,QK
    go_wp2;go_ret;exact⟨rfl,rfl⟩
theorem vR (n:Nat) (day age count:Int) (w:V) (k:n<=900) (h:Aq day=Qg\/Aq age=Qg) :
  Qe A 150 #[O U n,O U day,O U age,O U count] w fun e w'=>e=Qb (.func (.func 236) #[] #[J (I ⟨w.heap.size,0,S⟩)])/\w'=w.alloc (Qa #[O U ((n:Int)-1)] 3):=by
 have b:=GS day;have d:=GS age;by_cases c:Aq day=Qg
 ·rw[c]at b
  go_enter QW,QX
  go_wp2_with fail
  refine(b _).mono ?_;rintro e g ⟨rfl,rfl⟩;go_wp2;go_ret;exact⟨rfl,rfl⟩
 ·have i:=h.resolve_left c;rw[i]at d;have f:Aq day=Qf:=by
   cases j:Aq day
   ·exact absurd j c
   ·rfl
  rw[f]at b
  go_enter QW,QX
  go_wp2_with fail
  refine(b _).mono ?_;rintro e g ⟨rfl,rfl⟩
  go_wp2_with fail
  refine(d _).mono ?_;rintro e g ⟨rfl,rfl⟩;go_wp2;go_ret;exact⟨rfl,rfl⟩
def JL (n:Nat) (count:Int):Int:=(n:Int)-min (max count 0) (n:Int)
theorem vS (n:Nat) (day age count:Int) (w:V) (p:n<=900) (d:Aq day=Qf) (f:Aq age=Qf) :
  Qe A 150 #[O U n,O U day,O U age,O U count] w fun e w'=>e=Qb (.func (.func 237) #[] #[J (I ⟨w.heap.size,0,S⟩),J (I ⟨w.heap.size+1+1,0,S⟩),J (I ⟨w.heap.size+1,0,S⟩)])/\w'=((w.alloc (Qa #[O U ((n:Int)-1)] 3)).alloc (Qa #[O U (day-age)] 3)).alloc (Qa #[O U (JL n count)] 3):=by
 have b:=GS day;have c:=GS age;have g: -1073741824<=day/\day<=1073741824:=by simp[Aq]at d;omega
 have i: -1073741824<=age/\age<=1073741824:=by simp[Aq]at f;omega
 obtain⟨k,l⟩:=g;obtain⟨m,o⟩:=i;rw[d]at b;rw[f]at c;unfold JL
 go_enter QW,QX
 go_wp2_with fail
 refine(b _).mono ?_;rintro e j ⟨rfl,rfl⟩
 go_wp2_with fail
 refine(c _).mono ?_;rintro e j ⟨rfl,rfl⟩;go_wp2;go_ret;exact⟨rfl,rfl⟩
def vT (g:Nat) (lb:Array Qd) (day age count:Int) (ss:List Sn) (w:V):Prop:= ∀n (h:n<ss.length) W,BL w W->Qe A g (#[O U (n:Int),O U ss[n].2.2.2.1]++lb) W fun e W'=>e=Qb (Qn (FD day age count (ss.length-1-n) ss[n]))/\W'=W
theorem vU (b:List Sn) (day age count:Int) (w:V) (s:b.length<=900) :
  Qe A 150 #[O U b.length,O U day,O U age,O U count] w fun e w'=> ∃g lb,e=Qb (.func (.func g) #[] lb)/\(∀args w,(QH g args).run A w= .ok (.enter g args) w)/\vT g lb day age count b w'/\BL w w':=by
 by_cases h:Aq day=Qf/\Aq age=Qf
 ·refine(vS b.length day age count w s h.1 h.2).mono ?_;rintro e w' ⟨rfl,rfl⟩;have c:BL w (w.alloc (Qa #[O U ((b.length:Int)-1)] 3)):=Af _ _;have f:BL w ((w.alloc (Qa #[O U ((b.length:Int)-1)] 3)).alloc (Qa #[O U (day-age)] 3)):=c.alloc c.size _;have m:BL w (((w.alloc (Qa #[O U ((b.length:Int)-1)] 3)).alloc (Qa #[O U (day-age)] 3)).alloc (Qa #[O U (JL b.length count)] 3)):=f.alloc f.size _;refine⟨_,_,rfl,Qy Q8 (by kernel_rfl) rfl,fun n hn W hW=>?_,m⟩;have t:(w.alloc (Qa #[O U ((b.length:Int)-1)] 3)).cell? ⟨w.heap.size,0,S⟩=I (O U ((b.length:Int)-1)):=by rw[Qo _ _ _ _ _ _ (Qt _ _)];rfl
  have q:(w.alloc (Qa #[O U ((b.length:Int)-1)] 3)).heap.size=w.heap.size+1:=by simp
  generalize w.alloc (Qa #[O U ((b.length:Int)-1)] 3)=d at *;have u:(d.alloc (Qa #[O U (day-age)] 3)).cell? ⟨d.heap.size,0,S⟩=I (O U (day-age)):=by rw[Qo _ _ _ _ _ _ (Qt _ _)];rfl
  have v:(d.alloc (Qa #[O U (day-age)] 3)).heap.size=w.heap.size+1+1:=by rw[<-q];simp
  have y:BL d (d.alloc (Qa #[O U (day-age)] 3)):=Af _ _;generalize d.alloc (Qa #[O U (day-age)] 3)=j at *;have z:(j.alloc (Qa #[O U (JL b.length count)] 3)).cell? ⟨j.heap.size,0,S⟩=I (O U (JL b.length count)):=by rw[Qo _ _ _ _ _ _ (Qt _ _)];rfl
  have r:BL j (j.alloc (Qa #[O U (JL b.length count)] 3)):=Af _ _;have o:=Aa hW (Aa r (Aa y t));have k:=Aa hW (Aa r u);have l:=Aa hW z;rw[q]at k;rw[v]at l;refine(vQ n b[n].2.2.2.1 _ _ _ _ _ _ W o k l).mono ?_;rintro e w' ⟨rfl,rfl⟩;refine⟨?_,rfl⟩;congr 2;unfold FD M0 JL;rw[h.1,h.2];have p:((n:Int) == (b.length:Int)-1)=decide (b.length-1-n=0):=by
   rw[Xo];simp;omega
  have B:decide ((b.length:Int)-min (max count 0) (b.length:Int)<=(n:Int))=decide (((b.length-1-n:Nat):Int)<count):=by
   rw[decide_eq_decide];omega
  rw[p,B];simp
 ·have i:Aq day=Qg\/Aq age=Qg:=by
   cases C:Aq day
   ·exact Qi rfl
   ·cases D:Aq age
    ·exact Qk rfl
    ·exact absurd ⟨C,D⟩ h
  refine(vR b.length day age count w s i).mono ?_;rintro e w' ⟨rfl,rfl⟩;have c:BL w (w.alloc (Qa #[O U ((b.length:Int)-1)] 3)):=Af _ _;refine⟨_,_,rfl,Qy func236 (by kernel_rfl) rfl,fun n hn W hW=>?_,c⟩;have o:W.cell? ⟨w.heap.size,0,S⟩=I (O U ((b.length:Int)-1)):=Aa hW (by rw[Qo _ _ _ _ _ _ (Qt _ _)];rfl);refine(vP n b[n].2.2.2.1 _ _ W o).mono ?_;rintro e w' ⟨rfl,rfl⟩;refine⟨?_,rfl⟩;congr 2;unfold FD M0;have p:((n:Int) == (b.length:Int)-1)=decide (b.length-1-n=0):=by
   rw[Xo];simp;omega
  rw[p];rcases i with i | i<;>rw [i]<;>simp
theorem vV (v:Qd) (c:List Sn) (day age count:Int) (w:V) (hx:FJ w v c) (hl:c.length<=900) :
  Qe A 76 #[v,O U day,O U age,O U count] w fun e w'=> ∃v',e=Qb v'/\w'.ownsRow w.heap.size 3 1 v' (E7 day age count c).length ((E7 day age count c).map (O U))/\BL w w':=by
 have HX:Z _:=fun W (r:BL w W)=>hx.below r;have u:=vU c day age count w hl;obtain⟨q,ah,rfl⟩:=hx.form;obtain⟨L,t⟩:∃L,c.length=L:=⟨_,rfl⟩;have HL:Z _:=t;have y:Z (DU day age count c L=E7 day age count c):=by
  show _=_;rw[<-t,Uf]
 have aa:Z _:=fun n (hn:n<=L)=>Qp (Ug day age count c n) (by omega);have ab:Z (∀n (h:n<c.length),DU day age count c (n+1)=DU day age count c n++(if FD day age count (L-1-n) c[n]=Qf then [c[n].1] else [])):=fun n h=>by rw[lL h,t]
 generalize E7 day age count c=KL at y ⊢;rw[t]at HX u ⊢
 go_enter func76,ntmps76
 go_wp2_with fail
 refine u.mono ?_;rintro e Y ⟨g,lb,rfl,eg,j,D⟩;have E:Z _:=j
 go_wp2_with fail
 go_loopw [10,11,12,21] (fun o _ _ i wr=> ∃n:Nat,n<=L/\i=O U n/\wr.ownsRow Y.heap.size 3 1 o (DU day age count c n).length ((DU day age count c n).map (O U))/\BL Y wr) (fun _ _ _ i _=>L-(Qm i).toNat)
 case atStart=>exact ⟨0,by omega,rfl,QL _ _ _ _,Ql _ _⟩
 case round =>
 obtain⟨n,hn,rfl,ho,r⟩:=hrel;have HO:Z _:=ho;have z:=Ad D r;by_cases ac:n<L
 case neg =>
  obtain rfl:n=L:=by omega
  have HT:Z (wr.ownsRow w.heap.size 3 1 u10 KL.length (KL.map (O U))):=by
   have h':=HO.out;rw[y.out]at h';exact QM h' D.size
  go_wp2;go_ret;exact⟨_,rfl,HT.out,z⟩
 case pos =>
 have f:n<c.length:=by rw[HL.out];exact ac
 obtain⟨b,o,hq,hc⟩:=(HX.out wr z).cells (fun e=>by rw[e]at f;simp at f);subst hq;obtain⟨c0,c3,vf,c6,C,c1,c2,c4,c5⟩:=hc n f;have d:=E.out n f;rw[HL.out]at d;have F:=ab.out n f;generalize c[n]=sn at c0 c1 c2 c3 c4 c5 c6 C d F;obtain⟨s,M,N,Q,R,T,fs⟩:=sn;obtain⟨fq,fc,rfl⟩:=C.form;generalize fs.length=FL at c6;obtain⟨KB,af⟩:∃x,FD day age count (L-1-n) (s,M,N,Q,R,T,fs)=x:=⟨_,rfl⟩;rw[af]at F d;have B:Z _:=F;have m:BL wr (wr.alloc (Qa #[O U s,O U M,O U N,O U Q,O U R,H T,Qc fq FL fc] 40)):=Af _ _;have j:=d _ (Ad r m);have p:Z _:=AG (P:=fun _=>False) HO.out (Ac.of_below m) (fun _ _ h=>h);have l:=Ad r m;cases KB
 case false =>
  have K:Z (DU day age count c (n+1)=DU day age count c n):=by show _=_;rw[B.out];simp
  go_wp2_with (go_at_fn g;refine j.mono ?_;rintro e w' ⟨rfl,rfl⟩)
  go_roundw
  case rel=>exact ⟨n+1,by omega,by go_num,by rw[K.out];exact p.out,l⟩
  case measure=>simp [Qm];omega
 case true =>
  have ad:Z (DU day age count c (n+1)=DU day age count c n++ [s]):=by show _=_;rw[B.out];simp
  obtain⟨v',W6,hr,ag,X⟩:=nW p.out l.size s rfl (by have:=aa.out n hn;omega);rw[show (wr.alloc (Qa #[O U s,O U M,O U N,O U Q,O U R,H T,Qc fq FL fc] 40)).heap.size=wr.heap.size+1 from by simp]at hr;have ae:=l.trans (X.below l.size (fun k hk=>(A7 p.out hk).1));have K:Z (W6.ownsRow Y.heap.size 3 1 v' (DU day age count c (n+1)).length ((DU day age count c (n+1)).map (O U))):=by
   show Q9 _ _ _ _ _ _ _;rw[ad.out];exact ag
  go_upto_region 7 with(go_at_fn g;refine j.mono ?_;rintro e w' ⟨rfl,rfl⟩)
  go_wp2_with (at_builtin;refine wpList_append_run (by rfl) _ _ _ (by rfl) _ _ _ (by rfl) (by rfl) hr ?_)
  go_roundw
  case rel=>exact ⟨n+1,by omega,by go_num,K.out,ae⟩
  case measure=>simp [Qm];omega
def GO (k k':Lk) (_:Int):Prop:=k'=k\/∃zs,k'.ids=Ca k.ids zs/\k'.now=k.now/\k'.spec=k.spec/\(∀x t,AN k.st x t->AN k'.st x t)/\Av k'/\∀m,k.st.head=AJ m->∃n,k'.st.head=AJ n/\m<n
theorem vW {k:Lk} (hi:Av k) (zs:List Int) {s:St} {m:Int} (i:B7 s) (b:∀x t,AN k.st x t->AN s x t) (c:s.head=AJ m) (j:CP (AJ m).data.toList=Qf) (l:AN s (AJ m) (Ab (BB (Ca k.ids zs)))) (d:m=Ag k.st) (z:Int):GO k { k with st:=s,ids:=Ca k.ids zs } z:=by
 refine Qk ⟨zs,rfl,rfl,rfl,b,⟨i,Up hi.ids,⟨m,c,j,c▸l⟩,fun id hid=>(hi.snaps id ((Lc _ _).mem hid)).imp fun x hx=>hx.up b,hi.now.up b,?_⟩,fun n hn=>⟨m,c,?_⟩⟩
 rotate_left
 ·obtain⟨o,f,-,g⟩:=hi.head;rw[d];refine Lx hi.good.keeps Nc (t:=Ab (BB k.ids)) ?_;show AN k.st (AJ n) _;rw[<-hn,f];exact g
 show (Ca k.ids zs).getLast? =_;unfold Ca;rw[hi.last];simp
theorem vX {k:Lk} (hi:Av k):k.st.head.size<=1000:=by
 obtain⟨m,b,c,-⟩:=hi.head;rw[b];have:=GJ c;omega
section
variable {a : Nat → Qq} {B : Nat} {EM : V → Prop}
theorem vY (K:A2 a B EM An) (HL:∀X,EM X->AX X a) {W:V} {d:Nat} {vs:Qd} {f:Nat->Prop} {vi vf:Qd} {k:Lk} (hE:EM W) (h:Al W d vs f k.st.head vi vf k) (hi:Av k) (hB:B<=d/\∀j,f j->B<=j) (age count:Int) :
  Qe A 35 #[J (I ⟨d,0,S⟩),O U age,O U count] W (Bh W d vs f k (GO k) False):=by
 obtain⟨o,rfl⟩:=h.ptr K;have F:Z (∀X,BL W X->EM X):=fun X hb=>K.below _ _ hE (hb.mono (K.size _ hE));have HQ:Z (∀X,BL W X->Al X d (J (I o)) f k.st.head vi vf k):=fun X hb=>h.quiet K hb;obtain⟨C,hl,-,a7⟩:=PW K HL hE h hi;have au:=(JK hi.ids).1;have aj:=a7 W (Ql _ _);have ak:Z ((E7 k.st.day age count C).length<=100):=by
  have h1:=Ug k.st.day age count C C.length;rw[Uf]at h1;show _<=100;omega
 have ac:Z (∀Y X v,BL Y X->FJ Y v C->Qe A 76 #[v,O U k.st.day,O U age,O U count] X fun e w'=> ∃v',e=Qb v'/\A4 w' v' (E7 k.st.day age count C)/\BL X w'):=fun Y X v hb hv=>(vV v C k.st.day age count X (hv.below hb) (by omega)).mono fun e w' ⟨v',e1,e2,e3⟩=>⟨v',e1,Ow e2,e3⟩;have al:Z (∀X,BL W X->Qe A 77 #[J (I o)] X fun e w'=>e=Qb (O U k.st.day)/\BL X w'):=fun X hb=>K.day X _ f k.st (F.out X hb) (HQ.out X hb).st hi.good.keeps;generalize E7 k.st.day age count C=r at ak ac;generalize k.st.day=dy at ac al;have ad:Z (∀X E,BL W X->A4 X E r->Qe A 75 #[vi,E] X fun e w'=> ∃p,e=Qb (Qh #[p,Qj])/\CA w' p (Ca k.ids r)/\IE X p/\BL X w'):=fun X E hb hk=>(vL vi E k.ids r X a (HL X (F.out X hb)).m (HQ.out X hb).ids hk (by omega) ak.out).mono fun e w' ⟨p,ev,e1,e2,e3,e4,e5⟩=>by
  rw[Kq,if_pos hi.ids]at e2;exact⟨p,by rw[e1,e4.ok hi.ids],e2,e3,e5⟩
 have N:Z (∀X vj,BL W X->CA X vj (Ca k.ids r)->(∀j,vj.ownBlock=I j->W.heap.size<=j)->Qe A 78 #[J (I ⟨d,0,S⟩),A8 k.now vf,vj] X (Dw a X d (J (I o)) f vi vf k vj vf (Ca k.ids r) k.now (fun m s=>m=Ag k.st/\∀n,Rm (n+1) k.st->Rm n s) (Rm 1 k.st))):=fun X vj hb hj hn=>VP K HL (F.out X hb) (HQ.out X hb) hi.good hB (vX hi) vj vf (Ca k.ids r) k.now hj (Up hi.ids) (fun _ j hv=>⟨fun e=>by have:=hn j hv;have:=h.blk.lt;omega,fun e=>by have:=hn j hv;have:=(h.sizes K).2 j e;omega⟩) (HQ.out X hb).fls h.offf;have av:Z (∀X t u,BL W X->Bh W d (J (I o)) f k (GO k) False (Qb (Qh #[O U 0,Qr t u])) X):=fun X t u hb=>Bh.bad h hi.good K hb id;have aw:Z (∀X,BL W X->Bh W d (J (I o)) f k (GO k) False (Qb (Qh #[O U 0,Qj])) X):=fun X hb=>Bh.same h K hb (Qi rfl);have ae:Z (∀X Y e vj z,BL W X->(∀j,vj.ownBlock=I j->W.heap.size<=j)->Dw a X d (J (I o)) f vi vf k vj vf (Ca k.ids r) k.now (fun m s=>m=Ag k.st/\∀n,Rm (n+1) k.st->Rm n s) (Rm 1 k.st) e Y->∃ev,e=Qb ev/\(((∃t u,ev=Qr t u)/\Bh W d (J (I o)) f k (GO k) False (Qb (Qh #[O U 0,ev])) Y)\/(ev=Qj/\Bh W d (J (I o)) f k (GO k) False (Qb (Qh #[O U z,Qj])) Y))):=fun X Y e vj z hX hnj hp=>by
  obtain⟨n,ar,rfl,h1,h2,h3⟩:=hp;have ax:Ac (fun j=>f j\/j=d) W Y:=(Ac.of_below hX).trans h1 (fun _ h _=>h);have ay:∀j,ar j->f j\/W.heap.size<=j:=fun j hj=>(h2 j hj).imp_right (Qp hX.size);rcases h3 with⟨hn,-,s',hg,hq⟩|⟨rfl,s',m,h4,h5,h6,h7,h8,hX,h9⟩
  ·obtain⟨i,rfl⟩:∃i,n=i+1:=⟨n-1,by omega⟩;refine⟨_,rfl,Qi ⟨⟨_,_,rfl⟩,ar,vi,vf, { k with st:=s' },0,_,rfl,ax,ay,⟨?_,h.owt⟩,Qi ⟨⟨_,_,rfl⟩,id,s',hg,rfl⟩⟩⟩;show Al _ _ _ _ s'.head _ _ _;rw[hg.head];exact hq
  ·refine⟨_,rfl,Qk ⟨rfl,ar,vj,vf, { k with st:=s',ids:=Ca k.ids r,now:=k.now },_,_,rfl,ax,ay,⟨?_,fun j hj=>hj.elim (fun e=>Qi (hnj j e)) (fun e=>h.owt j (Qk e))⟩,Qk ⟨rfl,vW hi r h4 h5 h6 h7 h8 hX.1 z⟩⟩⟩;show Al _ _ _ _ s'.head _ _ _;rw[h6];exact h9
 have af:Z ((Ca k.ids r).length<=k.ids.length):=(Lc _ _).length_le;have az:Z (∀X,BL W X->X.cell? ⟨1,0,S⟩=I (Qr 410 (J (I (a 1))))):=fun X hb=>(HL X (F.out X hb)).m.bound;obtain⟨q,c,bd⟩:=h.ids.1.form;subst bd;obtain⟨qf,cf,be⟩:=h.fls.form;subst be;obtain⟨P,-,-,Q,c4,c5,c6,c7,c8,R,y,-⟩:=h.blk.cells;have a0:=GN P;obtain⟨LS,bf⟩:∃L,C.length=L:=⟨_,rfl⟩;obtain⟨L,hL⟩:∃L,k.ids.length=L:=⟨_,rfl⟩;rw[hL]at af au Q ad ae N HQ;unfold A8 at N;generalize Ca k.ids r=KF at ad N ae af;generalize k.now.2.2.2.2.2.2.length=LF at *;clear hE h hi hB hl a7 ak hL F HQ
 go_enter func35,ntmps35
 go_wp2_with fail
 refine a0.mono ?_;rintro e w1 ⟨rfl,e1⟩;rw[e1];clear a0 e1;by_cases l:age<0\/count<0
 case pos =>
  have HP:Z (∀X,BL W X->Bh W d (J (I o)) f k (GO k) False (Qb (Qh #[O U 0,Qr 410 (J (I (a 1)))])) X):=fun X hX=>av.out X _ _ hX;have bk:=az.out W (Ql _ _);clear aj P Q c4 c5 c6 c7 c8 R y au;by_cases h1:age<0
  ·clear l;go_wp2
   go_quiet (fail)
   go_wp2;go_ret2;exact HP.out _ (AK (Ql _ _) nq)
  ·have h2:count<0:=l.resolve_left h1;clear l;go_wp2
   go_quiet (fail)
   go_wp2;go_ret2;exact HP.out _ (AK (Ql _ _) nq)
 case neg =>
 have bl:¬age<0:=fun e=>l (Qi e);have bm:¬count<0:=fun e=>l (Qk e);clear l az
 go_wp2_with fail
 refine aj.mono ?_;rintro e D ⟨v2,rfl,ho,b⟩;have am:=ho.sns;obtain⟨q2,ba,rfl⟩:=am.form;have an:Z (∀X,BL D X->Qe A 76 #[Qc q2 C.length ba,O U dy,O U age,O U count] X fun e w'=> ∃v',e=Qb v'/\A4 w' v' r/\BL X w'):=fun X hb=>ac.out D X _ hb am;have a1:Z (∀X,BL D X->_):=fun X hb=>al.out X (Ad b hb);have a2:Z (∀X E,BL D X->A4 X E r->_):=fun X E hb hk=>ad.out X E (Ad b hb) hk;have ao:Z (BL W D):=b;rw[bf]at an ⊢;replace P:=Aa b P;replace Q:=Aa b Q;replace c4:=Aa b c4;replace c5:=Aa b c5;replace c6:=Aa b c6;replace c7:=Aa b c7;replace c8:=Aa b c8;replace R:=Aa b R;replace y:=Aa b y;have T:BL D D.drew:=(Ql _ _).drew;have bb:=Aa T P;have a3:=Aa T Q;clear aj ho am b al ad ac
 go_upto_region 8 with fail
 go_cut [9,10] from 31 to 47 (fun R y wx=> ∃p,p=y/\R=Qj/\CA wx p KF/\IE D p/\BL D wx)
 case first =>
  go_region_with (first
   | (go_at_call 77;(with_reducible refine(a1.out _ T).mono ?_);rintro e wX ⟨rfl,a8⟩;have ap:=(Ad T a8);have bc:=Aa a8 a3)
   | (go_at_call 76;(with_reducible refine(an.out _ ap).mono ?_);rintro e wY ⟨E,rfl,bi,a9⟩;have ab:=(Ad ap a9);have bn:=Aa a9 bc)
   | (go_at_call 75;(with_reducible refine(a2.out _ _ ab bi).mono ?_);rintro e wZ ⟨p,rfl,aa,ai,bj⟩))
  all_goals
   go_wp2;go_meet
   case rel=>exact ⟨p,rfl,rfl,aa,fun j hj=>Qp ab.size (ai j hj),(Ad ab bj)⟩
 case rest =>
 obtain⟨p,rfl,rfl,aa,ai,g⟩:=hcut;have ag:=ao.out.trans (g.mono ao.out.size);have aq:Z (∀j,p.ownBlock=I j->W.heap.size<=j):=fun j hj=>Qp ao.out.size (ai j hj);obtain⟨q6,bg,rfl⟩:=aa.1.form;have ah:=N.out wc _ ag aa aq.out;obtain⟨M,hM⟩:∃M,KF.length=M:=⟨_,rfl⟩;have bo:M<=L:=hM▸af.out;rw[hM]at ah aq ⊢;have a4:Z (∀Y e z,Dw a wc d (J (I o)) f (Qc q L c) (Qc qf LF cf) k (Qc q6 M bg) (Qc qf LF cf) KF k.now (fun m s=>m=Ag k.st/\∀n,Rm (n+1) k.st->Rm n s) (Rm 1 k.st) e Y->_):=fun Y e z hp=>ae.out wc Y e _ z ag aq.out hp;have a5:Z (Bh W d (J (I o)) f k (GO k) False (Qb (Qh #[O U 0,Qj])) wc):=aw.out wc ag;replace P:=Aa g P;replace Q:=Aa g Q;replace c4:=Aa g c4;replace c5:=Aa g c5;replace c6:=Aa g c6;replace c7:=Aa g c7;replace c8:=Aa g c8;replace R:=Aa g R;replace y:=Aa g y;clear aa ai g ag T bb a3 a1 an a2 N ae aw av af hM;by_cases a6:L=M
 case pos =>
  subst a6;have hd:decide ((L:Int)-(L:Int)=0)=Qf:=decide_eq_true (by omega);clear ah;go_wp2;go_ret2;exact a5.out
 case neg =>
 have hd:¬((L:Int)-(M:Int)=0):=by omega
 clear a6 a5
 go_wp2_with fail
 refine ah.mono ?_;rintro e w7 hp;obtain⟨ev,rfl,bh⟩:=a4.out w7 e ((L:Int)-(M:Int)) hp;clear ah hp a4 P Q c4 c5 c6 c7 c8 R y;rcases bh with⟨⟨t,u,rfl⟩,hP⟩|⟨rfl,hP⟩
 ·have HP:Z (Bh W d (J (I o)) f k (GO k) False (Qb (Qh #[O U 0,Qr t u])) w7):=hP;clear hP;go_wp2;go_ret2;exact HP.out
 ·have HP:Z (Bh W d (J (I o)) f k (GO k) False (Qb (Qh #[O U ((L:Int)-(M:Int)),Qj])) w7):=hP;clear hP;go_wp2;go_ret2;exact HP.out
end
end Go.Proofs.YtcllhobffhkafaaGreatDoor
namespace Go.Proofs
open Go.Shelf
def Tryz.laysNm216_ren:Qz:=⟨fun | 16=>89 | n=>n,fun | 24=>82 | 9=>9 | 4=>4 | n=>n,fun | n=>n⟩
theorem Tryz.laysNm216:Go.Proofs.Lays2.n16 A laysNm216_ren:= { lays172 with
 mixed:=by kernel_rfl
 f16:=Tryz.lq func89 (by kernel_rfl)
 t24:=QA
 a24:=QB
 z24:=QC
 v24:=QD
 i9:=by kernel_rfl }
open Go.RowKit Go.Lib in
theorem Tryz.slices_Clone_string (b d n c:Nat) (zs:List ByteArray) (w:V) (g:n<=zs.length) (f:n*16<=140737488355328) (i:∀j,j<zs.length->w.cell? ⟨b,d+j,S⟩=I (H (zs.getD j ByteArray.empty))) :
 Qe A 89 #[Qc (I ⟨b,d,S⟩) n c] w fun e w'=> ∃v',e=Qb v'/\w'.ownsRow w.heap.size 9 1 v' n ((zs.take n).map (H))/\v'≠ Qc S 0 0/\Below w.heap.size w w':=Any.slices_Clone_string laysNm216 b d n c zs w g f i
open Go.RowKit Go.Lib in
theorem Tryz.slices_Clone_string_nil (n c:Nat) (w:V) :
 Qe A 89 #[Qc S n c] w fun e w'=>e=Qb (Qc S 0 0)/\w'=w:=Any.slices_Clone_string_nil laysNm216 n c w
open Go.RowKit Go.Lib in
theorem Tryz.slices_Clone_string_zero (a:Qq) (c:Nat) (w:V) :
 Qe A 89 #[Qc (I a) 0 c] w fun e w'=> ∃v',e=Qb v'/\w'.ownsRow w.heap.size 9 1 v' 0 []/\v'≠ Qc S 0 0/\Below w.heap.size w w':=Any.slices_Clone_string_zero laysNm216 a c w
def Tryz.lays194_ren:Qz:=⟨fun | 194=>88 | n=>n,fun | 31=>82 | 9=>9 | 3=>3 | 4=>4 | 0=>0 | n=>n,fun | n=>n⟩
theorem Tryz.lays194:Go.Proofs.Lays.n194 A lays194_ren:= { lays146 with
 mixed:=by kernel_rfl
 f194:=Tryz.lq func88 (by kernel_rfl) }
open Go.RowKit Go.Lib Go.Sort in
theorem Tryz.slices_Compact_string (b c d:Nat) (zs:List (List UInt8)) (w:V) (i:Holds Qu w b c zs.toArray) (g:zs.length<=9223372036854775807) (f:zs.length<=d) :
 Qe A 88 #[Qc (I ⟨b,c,S⟩) zs.length d] w fun e w'=>e=Qb (Qc (I ⟨b,c,S⟩) (Qv zs).length d)/\∃q,w'=Q3 Qu (Q5 w q) b c (Qv zs++Q4 (zs.length-(Qv zs).length) []).toArray:=Any.slices_Compact_string lays194 b c d zs w i g f
open Go.RowKit Go.Lib Go.Sort in
theorem Tryz.slices_Compact_string_empty (a:Option Qq) (b:Nat) (w:V) :
 Qe A 88 #[Qc a 0 b] w fun e w'=>e=Qb (Qc a 0 b)/\w'=w:=Any.slices_Compact_string_empty lays194 a b w
def Tryz.laysSlH10_ren:Qz:=⟨fun | 10=>90 | 6=>165 | n=>n,fun | 22=>82 | 23=>9 | 25=>116 | 3=>3 | 4=>4 | 0=>0 | n=>n,fun | n=>n⟩
theorem Tryz.laysSlH10:Go.Proofs.SlLaysH.n10 A laysSlH10_ren:= { lays172 with
 mixed:=by kernel_rfl
 f6:=⟨Tryz.f165.name,by decide,Tryz.lq func165 (by kernel_rfl)⟩
 f10:=⟨Tryz.f90.name,by decide,Tryz.lq func90 (by kernel_rfl)⟩
 t22:=QA
 a22:=QB
 z22:=QC
 v22:=QD
 a23:=QY
 z23:=QZ
 t25:=Xp
 a25:=isAgg116
 z25:=sizeOf116
 v25:=Xq }
open Go.RowKit Go.Lib Go.Sort in
theorem Tryz.slices_DeleteFunc {α:Type} [Inhabited α] (enc:α->Qd) (n:OneCell enc) (p:α->Bool) (g:Nat) (lb:Array Qd) (o:∀args w,(QH g args).run A w= .ok (.enter g args) w) (i:α) (k:∀w,(zeroValue 9).run A w= .ok (enc i) w) (b c f:Nat) (d:Array α) (w:V) (r:PredAt A g lb enc p w) (l:PredOver A g lb enc p b c d.size w) (s:Holds enc w b c d) (m:d.size<=9223372036854775807) (j:d.size<=f) :
 Qe A 90 #[Qc (I ⟨b,c,S⟩) d.size f,.func (.func g) #[] lb] w fun e w'=>e=Qb (Qc (I ⟨b,c,S⟩) (d.toList.filter fun x=> !p x).length f)/\∃q,w'=Q3 enc (Q5 w q) b c ((d.toList.filter fun x=> !p x)++Q4 (d.size-(d.toList.filter fun x=> !p x).length) i).toArray:=AnyE.slices_DeleteFunc laysSlH10 enc n p g lb o i k b c f d w r l s m j
def Tryz.laysSlH6_ren:Qz:=⟨fun | 6=>165 | n=>n,fun | 22=>82 | 23=>9 | 25=>116 | 3=>3 | 0=>0 | 4=>4 | n=>n,fun | n=>n⟩
theorem Tryz.laysSlH6:Go.Proofs.SlLaysH.n6 A laysSlH6_ren:= { laysSlH10 with
 mixed:=by kernel_rfl
 f6:=⟨Tryz.f165.name,by decide,Tryz.lq func165 (by kernel_rfl)⟩ }
open Go.RowKit Go.Lib in
theorem Tryz.slices_IndexFunc_empty {α:Type} [Inhabited α] (a:Option Qq) (c:Nat) (b:Qd) (w:V) :
 Qe A 165 #[Qc a 0 c,b] w fun e w'=>e=Qb (O U (-1))/\w'=w:=AnyE.slices_IndexFunc_empty laysSlH6 a c b w
end Go.Proofs
namespace Go.Proofs
open Go.Shelf
def Tryz.keysO_ren:Qz:=⟨fun | 7=>167 | 10=>257 | n=>n,fun | 23=>68 | 26=>9 | 3=>153 | 28=>224 | 0=>0 | 27=>223 | 33=>116 | 4=>4 | n=>n,fun | n=>n⟩
theorem Tryz.keysO:Go.Proofs.SlLaysZ.n7 A keysO_ren:= { lays172 with
 mixed:=by kernel_rfl
 f7:=⟨Tryz.f167.name,by decide,Tryz.lq func167 (by kernel_rfl)⟩
 f10:=⟨Tryz.f257.name,by decide,Tryz.lq func257 (by kernel_rfl)⟩
 t23:=underlying68
 a23:=isAgg68
 z23:=sizeOf68
 v23:=zeroValue68
 t26:=Xr
 a26:=QY
 z26:=QZ
 v26:=Xa
 t27:=underlying223
 a27:=isAgg223
 z27:=sizeOf223
 v27:=zeroValue223
 t28:=underlying224
 a28:=isAgg224
 z28:=sizeOf224
 v28:=zeroValue224
 t33:=Xp
 a33:=isAgg116
 z33:=sizeOf116
 v33:=Xq }
def Tryz.sortedO_ren:Qz:=⟨fun | 6=>166 | 8=>256 | 9=>87 | 11=>323 | 13=>99 | 12=>164 | 23=>181 | 24=>182 | 14=>248 | 15=>249 | 16=>250 | 17=>251 | 18=>252 | 19=>253 | 20=>168 | 21=>254 | 22=>255 | 25=>320 | 26=>264 | 27=>265 | 28=>321 | 29=>322 | 30=>258 | 31=>360 | n=>n,fun | 26=>9 | 28=>224 | 24=>82 | 0=>0 | 3=>3 | 37=>159 | 48=>229 | 50=>242 | 4=>4 | 40=>235 | 39=>234 | 45=>90 | 5=>5 | 9=>9 | 51=>299 | 55=>303 | 57=>351 | 58=>267 | 33=>116 | n=>n,fun | n=>n⟩
theorem Tryz.sortedO:Go.Proofs.SlLaysZ.n6 A sortedO_ren:= { keysO with
 mixed:=by kernel_rfl
 f6:=⟨Tryz.f166.name,by decide,Tryz.lq func166 (by kernel_rfl)⟩
 f8:=⟨Tryz.f256.name,by decide,Tryz.lq func256 (by kernel_rfl)⟩
 f11:=⟨Tryz.f323.name,by decide,Tryz.lq func323 (by kernel_rfl)⟩
 t24:=QA
 a24:=QB
 z24:=QC
 v24:=QD
 i26:=by kernel_rfl }
def Tryz.sortO_ren:Qz:=⟨fun | 6=>87 | 8=>99 | 9=>164 | 19=>181 | 20=>182 | 21=>248 | 22=>249 | 23=>250 | 24=>251 | 25=>252 | 26=>253 | 27=>168 | 28=>254 | 29=>255 | 36=>320 | 31=>264 | 32=>265 | 37=>321 | 38=>322 | 39=>258 | 41=>360 | n=>n,fun | 27=>82 | 29=>9 | 3=>3 | 32=>159 | 26=>82 | 0=>0 | 44=>229 | 46=>242 | 4=>4 | 36=>235 | 35=>234 | 41=>90 | 5=>5 | 9=>9 | 53=>299 | 57=>303 | 63=>351 | 64=>267 | n=>n,fun | n=>n⟩
theorem Tryz.sortO:Go.Proofs.SlLaysM.n6 A sortO_ren:= { lays172 with
 mixed:=by kernel_rfl
 f6:=⟨Tryz.f87.name,by decide,Tryz.lq func87 (by kernel_rfl)⟩
 f8:=Tryz.lq func99 (by kernel_rfl)
 f9:=⟨Tryz.f164.name,by decide,Tryz.lq func164 (by kernel_rfl)⟩
 f19:=Tryz.lq func181 (by kernel_rfl)
 f20:=Tryz.lq func182 (by kernel_rfl)
 f21:=⟨Tryz.f248.name,by decide,Tryz.lq func248 (by kernel_rfl)⟩
 f22:=⟨Tryz.f249.name,by decide,Tryz.lq func249 (by kernel_rfl)⟩
 f23:=⟨Tryz.f250.name,by decide,Tryz.lq func250 (by kernel_rfl)⟩
 f24:=⟨Tryz.f251.name,by decide,Tryz.lq func251 (by kernel_rfl)⟩
 f25:=⟨Tryz.f252.name,by decide,Tryz.lq func252 (by kernel_rfl)⟩
 f26:=⟨Tryz.f253.name,by decide,Tryz.lq func253 (by kernel_rfl)⟩
 f27:=⟨Tryz.f168.name,by decide,Tryz.lq func168 (by kernel_rfl)⟩
 f28:=⟨Tryz.f254.name,by decide,Tryz.lq func254 (by kernel_rfl)⟩
 f29:=⟨Tryz.f255.name,by decide,Tryz.lq func255 (by kernel_rfl)⟩
 f31:=Tryz.lq func264 (by kernel_rfl)
 f32:=Tryz.lq func265 (by kernel_rfl)
 f36:=⟨Tryz.f320.name,by decide,Tryz.lq func320 (by kernel_rfl)⟩
 f37:=⟨Tryz.f321.name,by decide,Tryz.lq func321 (by kernel_rfl)⟩
 f38:=⟨Tryz.f322.name,by decide,Tryz.lq func322 (by kernel_rfl)⟩
 f39:=⟨Tryz.f258.name,by decide,Tryz.lq func258 (by kernel_rfl)⟩
 f41:=⟨Tryz.f360.name,by decide,Tryz.lq func360 (by kernel_rfl)⟩
 t26:=QA
 a26:=QB
 z26:=QC
 v26:=QD
 t27:=QA
 a27:=QB
 z27:=QC
 v27:=QD
 t29:=Xr
 a29:=QY
 z29:=QZ
 v29:=Xa
 t32:=underlying159
 a32:=isAgg159
 z32:=sizeOf159
 v32:=zeroValue159
 t35:=underlying234
 a35:=isAgg234
 z35:=sizeOf234
 v35:=zeroValue234
 t36:=underlying235
 a36:=isAgg235
 z36:=sizeOf235
 v36:=zeroValue235
 t41:=underlying90
 a41:=isAgg90
 z41:=sizeOf90
 v41:=zeroValue90
 t44:=underlying229
 a44:=isAgg229
 z44:=sizeOf229
 v44:=zeroValue229
 t46:=underlying242
 a46:=isAgg242
 z46:=sizeOf242
 v46:=zeroValue242
 t53:=underlying299
 a53:=isAgg299
 z53:=sizeOf299
 v53:=zeroValue299
 t57:=underlying303
 a57:=isAgg303
 z57:=sizeOf303
 v57:=zeroValue303
 t63:=underlying351
 a63:=isAgg351
 z63:=sizeOf351
 v63:=zeroValue351
 t64:=underlying267
 a64:=isAgg267
 z64:=sizeOf267
 v64:=zeroValue267 }
end Go.Proofs
namespace Go.Proofs.YtcllhobffhkafaaGreatDoor
open Go.RowKit Go.Extern.Stop Go.Stop Go.Extern Go.Sort Go.Shelf Go.Lib
theorem PX (b:List ByteArray):(b.map Bb).map Qu=b.map H:=by
 rw[QE];apply Xs;intro o _;simp[Qu,Bb]
def JM (l:List UInt8):ByteArray:=⟨l.toArray⟩
theorem vZ (l:List UInt8):Bb (JM l)=l:=by simp[Bb,JM]
theorem PY (zs:List (List UInt8)):(zs.map JM).map Bb=zs:=by
 rw[QE,show (Bb ∘ JM)=id from funext vZ,List.map_id]
theorem We (zs:List (List UInt8)):zs.map Qu=(zs.map JM).map H:=by
 rw[<-PX,PY]
theorem PZ {α:Type} [Inhabited α] {enc:α->Qd} {w:V} {g q:Nat} {d:Array α} :Ac (fun k=>k=g) w (Q3 enc (Q5 w q) g 0 d) :=
 ⟨rfl,rfl,rfl,by simp[Q3,mapBlock,Q5],fun k hk hn=>by simp[Q3,mapBlock,Q5,Array.getElem?_modify,show g≠k from fun e=>hn e.symm]⟩
theorem Wf {B:Nat} {w:V} {v:Qd} {b:List ByteArray} (o:w.ownsRow B 9 1 v b.length (b.map H)) (E:b.length<=20000) :
  Qe A 87 #[v] w fun e w'=>e=Qb (Qh #[])/\∃us:List ByteArray,us.map Bb=Du (b.map Bb)/\w'.ownsRow B 9 1 v us.length (us.map H)/\Ac (fun k=>v.ownBlock=I k) w w':=by
 by_cases l:v=Qc S 0 0
 ·have m:b= []:=by
   rcases o.2 with⟨_,m⟩|⟨g,j,z,e,_⟩
   ·exact Xb.1 m
   ·rw[l]at e;cases e
  subst l m;have c:=Xt sortO S 0 w;change Qe A 87 _ _ _ at c;refine c.mono ?_;rintro e w' ⟨rfl,rfl⟩;exact⟨rfl, [],by simp[Du],o,Ac.refl _ _⟩
 ·have i:w.ownsRow B 9 1 v b.length ((b.map Bb).map Qu):=by rw[PX];exact o
  obtain⟨g,j,rfl,y,r,C,D,d,t⟩:=QI i l;have c:=Xu sortO g 0 j (b.map Bb) w t r (by rw[d];omega);change Qe A 87 _ _ _ at c;rw[d]at c;refine c.mono ?_;rintro e w' ⟨rfl,n,s,rfl⟩;have f:(Du (b.map Bb)).length=b.length:=by rw[Pb,d]
  have p:=Xc (q:=n) (k:=b.length) (ys:=Du (b.map Bb)) i f (Qx _);rw[List.take_of_length_le (by rw[f];exact Qx _),We]at p;refine⟨rfl,(Du (b.map Bb)).map JM,PY _,?_,?_⟩
  ·rw[Qs,f];exact AG (P:=fun _=>False) p (Ac.of_below (GR s)) (fun _ _ h=>h)
  ·refine(Ac.mono PZ ?_).trans (Ac.of_below (P:=fun _=>False) (GR s)) (fun _ h _=>h.elim);intro k u;rw[u];rfl
theorem wG {B:Nat} {w:V} {v:Qd} {b:List ByteArray} (m:w.ownsRow B 9 1 v b.length (b.map H)) (D:b.length<=20000) :
  Qe A 88 #[v] w fun e w'=> ∃(v':Qd) (n:List ByteArray),e=Qb v'/\n.map Bb=Qv (b.map Bb)/\w'.ownsRow B 9 1 v' n.length (n.map H)/\Ac (fun k=>v.ownBlock=I k) w w':=by
 by_cases j:v=Qc S 0 0
 ·have l:b= []:=by
   rcases m.2 with⟨_,l⟩|⟨g,i,z,e,_⟩
   ·exact Xb.1 l
   ·rw[j]at e;cases e
  subst j l;refine(slices_Compact_string_empty S 0 w).mono ?_;rintro e w' ⟨rfl,rfl⟩;exact⟨_, [],rfl,rfl,m,Ac.refl _ _⟩
 ·have d:w.ownsRow B 9 1 v b.length ((b.map Bb).map Qu):=by rw[PX];exact m
  obtain⟨g,i,rfl,u,y,r,C,c,s⟩:=QI d j;have f:=slices_Compact_string g 0 i (b.map Bb) w s (by rw[c];omega) (by rw[c];exact r);rw[c]at f;have o:(Qv (b.map Bb)).length<=b.length:=by
   rw[<-c];unfold Qv compactUpTo;rw[Qs];refine Qp (QF _ _) ?_;simp
  refine f.mono ?_;rintro e w' ⟨rfl,q,rfl⟩;have p:=Xc (q:=q) (k:=(Qv (b.map Bb)).length) (ys:=Qv (b.map Bb)++Q4 (b.length-(Qv (b.map Bb)).length) []) d (by simp;omega) o;rw[Xv,We]at p
  ·refine⟨_,(Qv (b.map Bb)).map JM,rfl,PY _,?_,?_⟩
   ·rw[Qs];exact p
   ·refine Ac.mono PZ ?_;intro k t;rw[t];rfl
  ·rfl
def DK (ss:List Sn) (n:Nat):List ByteArray:=(ss.take n).flatMap BE
def EF (ss:List Sn) (n:Nat) (s:Sn) (m:Nat):List ByteArray:=DK ss n++Cg s.1 :: (s.2.2.2.2.2.2.take m).map (·.1)
theorem Wg {b:List Sn} {n:Nat} (h:n<b.length):DK b (n+1)=EF b n b[n] b[n].2.2.2.2.2.2.length:=by
 unfold DK EF;rw[<-Xw h,Xd,Q7];simp only[QN,List.flatMap_nil,List.append_nil];rfl
theorem wH {b:List Sn} {n:Nat} {s:Sn} {m:Nat} (h:m<s.2.2.2.2.2.2.length):EF b n s (m+1)=EF b n s m++ [s.2.2.2.2.2.2[m].1]:=by
 unfold EF;rw[<-Xw h,Xe];simp
theorem Wh (b:List Sn) (n:Nat):(DK b n).length<=(b.flatMap BE).length:=by
 have e:b.flatMap BE=(b.take n).flatMap BE++(b.drop n).flatMap BE:=by rw[<-Xd,List.take_append_drop]
 rw[e,Q0];unfold DK;omega
theorem wI {b:List Sn} {n:Nat} (h:n<b.length) (m:Nat):(EF b n b[n] m).length<=(b.flatMap BE).length:=by
 have c:=Wh b (n+1);rw[Wg h]at c;refine Qp ?_ c;unfold EF;simp only[Q0,Q6,Qs,List.length_take];omega
theorem wJ (b:List Sn):DK b b.length=b.flatMap BE:=by
 unfold DK;rw[Q7]
theorem wK (v : Qd) (c : List Sn) (w : V) (ht : Lib.TabIs A w "internal/strconv.uint64pow10" .u64 Lib.pow10Tab) (hx : FJ w v c) (hl : (c.flatMap BE).length ≤ 5000) (hd : ∀ s ∈ c, -9223372036854775808 ≤ s.1 ∧ s.1 ≤ 9223372036854775807) :
  Qe A 42 #[v] w fun e w'=> ∃v',e=Qb v'/\w'.ownsRow w.heap.size 9 1 v' (C7 c).length ((C7 c).map H)/\BL w w':=by
 have HX:Z _:=fun W (d:BL w W)=>hx.below d;have HD:Z _:=hd;have ao:Z _:=fun W (d:BL w W)=>Hu ht d;obtain⟨q,bx,rfl⟩:=hx.form;have a8:c.length<=5000:=by
  have F:c.length<=(c.flatMap BE).length:=by
   clear hl HD hd hx HX ao ht
   induction c with
   | nil=>simp
   | cons s r ih =>
    rw[QN,Q0,Q6];have:1<=(BE s).length:=by unfold BE;rw[Q6];omega
    omega
  omega
 have ba:Z (∀s∈c,s.2.2.2.2.2.2.length<=5000):=fun s hs=>by
  have F:(BE s).length<=(c.flatMap BE).length:=by
   obtain⟨l1,l2,rfl⟩:=List.append_of_mem hs;rw[Xd,QN,Q0,Q0];omega
  unfold BE at F;rw[Q6,Qs]at F;show s.2.2.2.2.2.2.length<=5000;have h2:s.2.2.2.2.2.2.length+1<=(c.flatMap BE).length:=F;omega
 have ai:Z _:=wJ c;have bb:Z _:=fun n=>Qp (Wh c n) hl;have bc:Z (∀n (h:n<c.length) m,(EF c n c[n] m).length<=5000):=fun n h m=>Qp (wI h m) hl;have bd:Z (∀n (h:n<c.length),DK c (n+1)=EF c n c[n] c[n].2.2.2.2.2.2.length):=fun n h=>Wg h;have K:Z ((c.flatMap BE).length<=5000/\MG ((c.flatMap BE).map Bb)=(C7 c).map Bb):=⟨hl,oC c⟩;obtain⟨L,hL⟩:∃L,c.length=L:=⟨_,rfl⟩;have HL:Z _:=hL;rw[hL]at ai HX a8 ⊢;generalize C7 c=KL at K ⊢;generalize c.flatMap BE=NL at K ai;clear hx hl hL hd ht
 go_enter func42,ntmps42
 go_wp2_with fail
 go_loopw [3,5,7,10] (fun o _ _ i wr=> ∃n:Nat,n<=L/\i=O U n/\wr.ownsRow w.heap.size 9 1 o (DK c n).length ((DK c n).map H)/\BL w wr) (fun _ _ _ i _=>L-(Qm i).toNat)
 case atStart=>exact ⟨0,by omega,rfl,QL _ _ _ _,Ql _ _⟩
 case round =>
 obtain⟨n,hn,rfl,ho,d⟩:=hrel;have HO:Z _:=ho;clear ho;by_cases be:n<L
 case neg =>
  obtain rfl:n=L:=by omega
  have hT:wr.ownsRow w.heap.size 9 1 u3 NL.length (NL.map H):=by
   have h':=HO.out;rw[ai.out]at h';exact h'
  have bq:¬(n:Int)<(n:Int):=by omega
  have ap:=Wf hT (Qp K.out.1 (by decide));have HT:Z _:=hT;clear HO hT
  go_wp2_with fail
  refine ap.mono ?_;rintro e w2 ⟨rfl,us,an,B,ag⟩;have aq:=d.trans (ag.below d.size (fun k hk=>(A7 HT.out hk).1));have ar:us.length<=20000:=by
   have F:(us.map Bb).length=NL.length:=by rw[an,Pb,Qs]
   rw[Qs]at F;have:=K.out.1;omega
  have au:=wG B ar;have z:Z _:=B;have av:Z _:=an;clear ap B ag an ar
  go_wp2_with fail
  refine au.mono ?_;rintro e w3 ⟨v3,ks,rfl,a5,a6,ah⟩;have bf:=aq.trans (ah.below aq.size (fun k hk=>(A7 z.out hk).1));have bg:ks=KL:=by
   have F:ks.map Bb=KL.map Bb:=by
    rw[a5,av.out];exact K.out.2
   exact List.map_inj_right (fun a b e=>OZ e) |>.1 F
  subst bg;have HE:Z _:=a6;clear au a6 ah a5 av z;go_wp2;go_ret;exact⟨_,rfl,HE.out,bf⟩
 case pos =>
 have j:n<c.length:=by rw[HL.out];exact be
 obtain⟨b,o,hq,hc⟩:=(HX.out w (Ql _ _)).cells (fun e=>by rw[e]at j;simp at j);subst hq;have br:(n:Int)<(L:Int):=by omega
 have bs:(0:Int)<=(n:Int):=by omega
 obtain⟨c0,c3,vf,c6,ae,c1,c2,c4,c5⟩:=hc n j;replace c0:=Aa d c0;replace c1:=Aa d c1;replace c2:=Aa d c2;replace c3:=Aa d c3;replace c4:=Aa d c4;replace c5:=Aa d c5;replace c6:=Aa d c6;have N:=HD.out c[n] (Q1 _);have aw:=ba.out c[n] (Q1 _);have ax:Z (∀m,(EF c n c[n] m).length<=5000):=bc.out n j;have aj:Z (DK c (n+1)=EF c n c[n] c[n].2.2.2.2.2.2.length):=bd.out n j;generalize c[n]=g at c0 c1 c2 c3 c4 c5 c6 N ax aj ae aw;have bh:Z (∀m (h:m<g.2.2.2.2.2.2.length),EF c n g (m+1)=EF c n g m++ [g.2.2.2.2.2.2[m].1]):=fun m h=>wH h;have ay:Z (EF c n g 0=DK c n++ [Cg g.1]):=by
  show _=_;unfold EF;simp
 obtain⟨p,Y,g2,g3,g4,g5,R⟩:=g;dsimp only at *;generalize EF c n (p,Y,g2,g3,g4,g5,R)=y at *;obtain⟨T,X,rfl⟩:=ae.form;have az:Z (∀W,BL w W->Ai W (Qc T R.length X) R):=fun W hW=>ae.below hW;obtain⟨M,hM⟩:∃M,R.length=M:=⟨_,rfl⟩;have bi:Z (R.length=M):=hM;rw[hM]at aj az aw c6;obtain⟨D,bn⟩:∃W,W=wr:=⟨_,rfl⟩;subst bn;have aa:Z (∀k,u3.ownBlock=I k->w.heap.size<=k/\k<D.heap.size):=fun k hk=>⟨(A7 HO.out hk).1,(A7 HO.out hk).2.1⟩;have t:BL D (D.alloc (Qa #[O U p,O U Y,O U g2,O U g3,O U g4,H g5,Qc T M X] 40)):=Af _ _;have ab:Ao (D.alloc (Qa #[O U p,O U Y,O U g2,O U g3,O U g4,H g5,Qc T M X] 40)) D.heap.size (p,Y,g2,g3,g4,g5, []) (Qc T M X):=Qt _ _;have l:BL w (D.alloc (Qa #[O U p,O U Y,O U g2,O U g3,O U g4,H g5,Qc T M X] 40)):=Ad d t;have ac:=Ix p _ (ao.out _ l) N.1 N.2;have bj:(Ab (itoa p)).size<=21:=by rw[EK];exact itoa_length_le p N.1 N.2
 have ak:Z (y 0=DK c n++ [⟨#[115,110,97,112,47]⟩++Ab (itoa p)]):=ay.out;have u:Z ((D.alloc (Qa #[O U p,O U Y,O U g2,O U g3,O U g4,H g5,Qc T M X] 40)).ownsRow w.heap.size 9 1 u3 (DK c n).length ((DK c n).map H)):=AG (P:=fun _=>False) HO.out (Ac.of_below t) (fun _ _ h=>h);generalize Ab (itoa p)=TB at ac bj ak;clear hc j ae hM ay HO t
 go_upto_region 5 with fail
 generalize D.alloc (Qa #[O U p,O U Y,O U g2,O U g3,O U g4,H g5,Qc T M X] 40)=WA at ab ac u l ⊢;generalize D.heap.size=sb at ab aa ⊢;clear c0 c1 c2 c3 c4 c5 c6;obtain⟨k0,-,-,-,-,-,k6⟩:=ab.cells;dsimp only at k0 k6;clear ab
 go_wp2_with fail
 refine ac.mono ?_;rintro e w1 ⟨rfl,kk,oo,a7⟩;have ad:BL WA w1:=by rw[a7];exact GT kk oo
 have a0:Z (w1.ownsRow w.heap.size 9 1 u3 (DK c n).length ((DK c n).map H)):=AG (P:=fun _=>False) u.out (Ac.of_below ad) (fun _ _ h=>h);have C:BL w w1:=Ad l ad;obtain⟨v5,W5,bo,a1,E,-⟩:=Lm a0.out C.size (⟨#[115,110,97,112,47]⟩++TB) rfl (by have:=bb.out n;omega);have bk:BL w W5:=C.trans (E.below C.size (fun k hk=>(aa.out k hk).1));have bt:W5.cell? ⟨sb,6,S⟩=I (Qc T M X):=E.keep (fun e=>by have:=(aa.out sb e).2;omega) (Aa ad k6);have bl:Z (W5.ownsRow w.heap.size 9 1 v5 (y 0).length ((y 0).map H)):=by
  show Q9 _ _ _ _ _ _ _;rw[ak.out];exact a1
 clear ac a7 ad a1 E a0 u k0 k6 ak aa l C
 go_wp2_with (at_builtin;refine wpList_append_run (by rfl) _ _ _ (by rfl) _ _ _ (by rfl) (by rfl) bo ?_)
 go_loopw [3,7,24] (fun o _ k wx=> ∃m:Nat,m<=M/\k=O U m/\wx.ownsRow w.heap.size 9 1 o (y m).length ((y m).map H)/\BL w wx) (fun _ _ k _=>M-(Qm k).toNat)
 case atStart=>exact ⟨0,by omega,rfl,bl.out,bk⟩
 case round =>
 obtain⟨m,hm,rfl,B,am⟩:=hrel;have z:Z (wr.ownsRow w.heap.size 9 1 u3 (y m).length ((y m).map H)):=B;clear B;by_cases a9:m<M
 case neg =>
  obtain rfl:m=M:=by omega
  have bu:¬(m:Int)<(m:Int):=by omega
  have HR:Z (wr.ownsRow w.heap.size 9 1 u3 (DK c (n+1)).length ((DK c (n+1)).map H)):=by
   show Q9 _ _ _ _ _ _ _;rw[aj.out];exact z.out
  go_wp2;go_roundw
  case rel=>exact ⟨n+1,by omega,by go_num,HR.out,am⟩
  case measure=>simp [Qm];omega
 case pos =>
 have Q:m<R.length:=by rw[bi.out];exact a9
 obtain⟨fb,fo,bp,a2⟩:=(az.out wr am).cells (fun e=>by rw[e]at Q;simp at Q);subst bp;obtain⟨f0,f1,f2,f3,f4,f5⟩:=a2 m Q;have al:Z (y (m+1)=y m++ [R[m].1]):=bh.out m Q;have bv:(m:Int)<(M:Int):=by omega
 have bw:(0:Int)<=(m:Int):=by omega
 generalize R[m]=f at f0 f1 f2 f3 f4 f5 al;obtain⟨y0,y1,y2,y3,y4,y5⟩:=f;dsimp only at *;have t:BL wr (wr.alloc (Qa #[H y0,H y1,O U y2,O U y3,O U y4,O U y5] 77)):=Af _ _;have l:=Ad am t;have u:Z _:=AG (P:=fun _=>False) z.out (Ac.of_below t) (fun _ _ h=>h);obtain⟨v7,W7,a3,a4,af,-⟩:=Lm u.out l.size y0 rfl (by have:=ax.out m;omega);rw[show (wr.alloc (Qa #[H y0,H y1,O U y2,O U y3,O U y4,O U y5] 77)).heap.size=wr.heap.size+1 from by simp]at a3;have bm:=l.trans (af.below l.size (fun k hk=>(A7 u.out hk).1));have HR:Z (W7.ownsRow w.heap.size 9 1 v7 (y (m+1)).length ((y (m+1)).map H)):=by
  show Q9 _ _ _ _ _ _ _;rw[al.out];exact a4
 clear a2 Q al a4 af u z t
 go_wp2_with (at_builtin;refine wpList_append_run (by rfl) _ _ _ (by rfl) _ _ _ (by rfl) (by rfl) a3 ?_)
 go_roundw
 case rel=>exact ⟨m+1,by omega,by go_num,HR.out,bm⟩
 case measure=>simp [Qm];omega
theorem wL (x:ByteArray) (w:V):Qe A 258 #[H x] w fun e w'=>e=Qb (Qn Qg)/\w'=w:=by
 go_enter func258,ntmps258
 go_wp2;go_ret;exact⟨rfl,rfl⟩
theorem wM (x:ByteArray) (w:V):Qe A 169 #[H x] w fun e w'=>e=Qb (Qn Qg)/\w'=w:=by
 go_enter func169,ntmps169
 go_wp2;go_ret;exact⟨rfl,rfl⟩
theorem wN (x y:ByteArray) (w:V):Qe A 168 #[H x,H y] w fun e w'=>e=Qb (Qn (Bu x y))/\w'=w:=by
 have b:=wL x w
 go_enter func168,ntmps168
 go_wp2_with fail
 refine b.mono ?_;rintro e c ⟨rfl,rfl⟩;go_wp2;go_ret;exact⟨rfl,rfl⟩
def Ra (ts:List ByteArray):Prop:=ts.Pairwise fun a b=>Bu b a=Qg
theorem wO {a b c:ByteArray} (f:Bu b a=Qg) (d:Bu b c=Qf):Bu a c=Qf:=by
 by_cases e:a=b
 ·subst e;exact d
 ·exact Sl (NZ f (fun e'=>e e'.symm)) d
theorem wP (v:Qd) (c:List ByteArray) (s:ByteArray) (w:V) (hx:EA w v c) (hl:c.length<=20000) (hr:Ra c) :
  Qe A 93 #[v,H s] w fun e w'=> ∃n,e=Qb (Qh #[O U n,Qn (AQ c s)])/\w'=w:=by
 obtain⟨q,ae,rfl⟩:=hx.form;have F:Z (EA w (Qc q c.length ae) c):=hx;have aa:∀i j (d:i<c.length) (g:j<c.length),i<=j->Bu c[j] s=Qf->Bu c[i] s=Qf:=fun i j d g hij h=>by
  rcases Nat.lt_or_eq_of_le hij with e | e
  ·exact wO (Xf.1 hr i j d g e) h
  ·subst e;exact h
 have K:Z (∀i j (d:i<c.length) (g:j<c.length),i<=j->Bu c[j] s=Qf->Bu c[i] s=Qf):=aa;have ab:Z (∀i j (d:i<c.length) (g:j<c.length),i<j->Bu c[j] c[i]=Qg):=fun i j d g hij=>Xf.1 hr i j d g hij;obtain⟨L,hL⟩:∃L,c.length=L:=⟨_,rfl⟩;have z:Z (c.length=L):=hL;obtain⟨R,hR⟩:∃R,AQ c s=R:=⟨_,rfl⟩;have Q:Z (AQ c s=R):=hR;rw[hL]at hl ⊢;rw[hR]
 go_enter func93,ntmps93
 go_wp2
 go_loopw [7,8,9] (fun s7 s8 _ wr=> ∃k d:Nat,s7=O U k/\s8=O U d/\k<=d/\d<=L/\(∀j (h:j<c.length),j<k->Bu c[j] s=Qf)/\(∀j (h:j<c.length),d<=j->Bu c[j] s=Qg)/\wr=w) (fun s7 s8 _ _=>(Qm s8).toNat-(Qm s7).toNat)
 case atStart=>exact ⟨0,L,rfl,rfl,Xx _,Qx _,fun j h h'=>absurd h' (Xy _),fun j h h'=>by rw[z.out]at h;omega,rfl⟩
 case round =>
  obtain⟨k,d,rfl,rfl,aj,af,W,B,ag⟩:=hrel;subst ag;have t:Z (∀j (h:j<c.length),j<k->Bu c[j] s=Qf):=W;have u:Z (∀j (h:j<c.length),d<=j->Bu c[j] s=Qg):=B;by_cases ai:k<d
  ·obtain⟨m,C⟩:∃m,(k+d) / 2=m:=⟨_,rfl⟩;have M:((k:Int)+(d:Int)) / 2=(m:Int):=by omega
   have f:m<c.length:=by rw[z.out];omega
   obtain⟨b,o,X,D⟩:=F.out.at (fun e=>by rw[e]at f;simp at f);subst X;have T:=D m f;have l:=wN c[m] s wr;have N:Z (Bu c[m] s=Qf->∀j (h:j<c.length),j<m+1->Bu c[j] s=Qf):=fun e j g hjm=>K.out j m g f (by omega) e;have P:Z (Bu c[m] s=Qg->∀j (h:j<c.length),m<=j->Bu c[j] s=Qg):=fun e j g hjm=>by
    cases ah:Bu c[j] s
    ·rfl
    ·rw[K.out m j f g hjm ah]at e;cases e
   generalize c[m]=x at T l N P;have i0:(m:Int)<(L:Int):=by omega
   have i1:(0:Int)<=(m:Int):=by omega
   have i2:(k:Int)<(d:Int):=by omega
   clear D f;cases E:Bu x s
   case true =>
    have HU:Z (∀j (h:j<c.length),j<m+1->Bu c[j] s=Qf):=N.out E;rw[E]at l
    go_wp2_with fail
    refine l.mono ?_;rintro e w2 ⟨rfl,r⟩;rw[r];go_wp2;go_roundw
    case rel=>exact ⟨m+1,d,by first | go_num | (rw[M];go_num),rfl,by omega,af,HU.out,u.out,by trivial⟩
    case measure=>simp [Qm];omega
   case false =>
    have HD:Z (∀j (h:j<c.length),m<=j->Bu c[j] s=Qg):=P.out E;rw[E]at l
    go_wp2_with fail
    refine l.mono ?_;rintro e w2 ⟨rfl,r⟩;rw[r];go_wp2;go_roundw
    case rel=>exact ⟨k,m,rfl,by first | go_num | rw[M],by omega,by omega,t.out,HD.out,by trivial⟩
    case measure=>simp [Qm];omega
  ·obtain rfl:d=k:=by omega
   by_cases hn:d<L
   ·have f:d<c.length:=by rw[z.out];exact hn
    obtain⟨b,o,X,D⟩:=F.out.at (fun e=>by rw[e]at f;simp at f);subst X;have T:=D d f;have ac:=wM c[d] wr;by_cases y:c[d]=s
    ·have p:R=Qf:=by rw[<-Q.out];exact Ju.2 (y▸Q1 f)
     subst p;rw[y]at T;have d1:(s.toList == s.toList)=Qf:=by simp
     go_wp2;go_ret2
     first | exact⟨(d:Int),rfl,rfl⟩ | exact⟨⟨(d:Int),rfl⟩,by trivial⟩
    ·have p:R=Qg:=by
      rw[<-Q.out];refine Kn.2 fun C=>?_;obtain⟨j,g,e⟩:=Q2.1 C;rcases Nat.lt_or_ge j d with Y | Y
      ·exact Mb (t.out j g Y) e
      ·have h2:=u.out j g Y;by_cases ad:j=d
       ·subst ad;exact y e
       ·have h3:Bu c[d] s=Qf:=NZ (by rw[<-e];exact ab.out d j f g (by omega)) (fun e'=>y e'.symm);rw[u.out d f (Qx _)]at h3;cases h3
     subst p;have d1:(c[d].toList == s.toList)=Qg:=KV (fun e=>y (Iw e))
     go_wp2_with fail
     refine ac.mono ?_;rintro e w2 ⟨rfl,r⟩;rw[r];go_wp2;go_ret2
     first | exact⟨(d:Int),rfl,rfl⟩ | exact⟨⟨(d:Int),rfl⟩,by trivial⟩
   ·obtain rfl:d=L:=by omega
    have p:R=Qg:=by
     rw[<-Q.out];refine Kn.2 fun C=>?_;obtain⟨j,g,e⟩:=Q2.1 C;exact Mb (t.out j g (by rw[z.out]at g;exact g)) e
    subst p;go_wp2;go_ret2
    first | exact⟨(d:Int),rfl,rfl⟩ | exact⟨⟨(d:Int),rfl⟩,by trivial⟩
end Go.Proofs.YtcllhobffhkafaaGreatDoor
namespace Go.Proofs.YtcllhobffhkafaaGreatDoor
open Go.RowKit Go.Maps Go.Sort Go.Shelf
theorem Tryz.sortsItO (m:Nat):AnyZ.SortsIn A sortedO_ren Qw m :=
 ⟨fun blk off cap ss W hH hblk hsz=>Xg.2 (Xu sortO blk off cap ss W hH hblk hsz),
  fun p cap W=>Xg.2 (Xt sortO p cap W)⟩
theorem Tryz.mapsKeysO (b:Option Nat) (W:V):CallsIn Qw 5 A 167 #[.map b] W fun e w'=>e=Qb (.func (.func 257) #[] #[J (I ⟨W.heap.size,0,S⟩)])/\w'=W.alloc (Qa #[.map b] 68) :=
 AnyZ.keys_in keysO Qw 5 trivial rfl b W
def Hm (l:List Ob):List (List UInt8):=l.map fun o=>o.1.data.toList
theorem wQ (q:ByteArray->Nat) (l:List Ob):strKeys (Ci q l)=Hm l:=by simp[strKeys,Ci,Hm,BN,strOf]
theorem wR {l:List Ob} (j:DX l) {d:List (List UInt8)} (k:d.Perm (Hm l)):d.mergeSort (fun x y=>decide (x<=y))=Hm l:=by
 have f:(Hm l).Pairwise fun x y=>x<=y:=by
  unfold Hm;rw[Xz];exact j.imp fun h=>List.le_of_lt h
 have g:=List.pairwise_mergeSort (le:=fun x y:List UInt8=>decide (x<=y)) (fun a b c f g=>by simp only[decide_eq_true_eq]at *;exact List.le_trans f g) (fun a b=>by simp only[Bool.or_eq_true,decide_eq_true_eq];exact List.le_total a b) d;have i:(d.mergeSort (fun x y=>decide (x<=y))).Pairwise fun x y=>x<=y:=g.imp fun h=>by simpa using h
 exact((List.mergeSort_perm _ _).trans k).eq_of_pairwise (fun a b _ _ h h'=>List.le_antisymm h h') i f
theorem wS (l:List Ob):(Hm l).map Qu=(l.map fun o=>o.1).map H:=by
 unfold Hm;rw[QE,QE];apply Xs;intro o _;simp[Qu]
theorem wT (k:Option Nat) (q:ByteArray->Nat) (l:List Ob) (w:V) (h:Hj w k q l) (F:DX l) (K:l.length<=200) :
  CallsIn Qw 5 A 166 #[.func (.func 257) #[] #[.pointer (I ⟨w.heap.size,0,S⟩)]] (w.alloc (Qa #[.map k] 68)) fun e w'=> ∃v,e=Qb v/\w'.ownsRow w.heap.size 9 1 v (l.map fun o=>o.1).length ((l.map fun o=>o.1).map H)/\BL w w':=by
 have n:BL w (w.alloc (Qa #[.map k] 68)):=Af _ _;have d:∃N,N<=200/\SeqGives Qw 2 A 257 #[.pointer (I ⟨w.heap.size,0,S⟩)] Qu (fun i=>i.Perm (Hm l)) N (w.alloc (Qa #[.map k] 68)):=by
  rcases h with⟨rfl,rfl⟩|⟨b,rfl,j⟩
  ·refine⟨0,by decide,?_⟩;have g:SeqGives Qw 2 A 257 #[.pointer (I ⟨w.heap.size,0,S⟩)] Qu (fun i:List (List UInt8)=>i= []) 0 (w.alloc (Qa #[.map S] 68)) :=
    AnyZ.keys_gives_nil (ρ:=keysO_ren) { keysO with } Qw _ trivial rfl w.heap.size _ (by simp) (by simp)
   intro r c W u y z B;refine(g r c W u y z B).mono ?_;rintro e M ⟨C,i,rfl,s⟩;exact⟨C, [],List.Perm.nil,s⟩
  ·refine⟨Maps.size (Ci q l),by rw[M6];exact K,?_⟩;rw[<-wQ q l];exact AnyZ.keys_gives (ρ:=keysO_ren) { keysO with } Qw _ trivial rfl (by omega) w.heap.size b l.length (Ci q l) _ (by simp) (by simp) (j.keep (Below.heap_alloc _ _ b j.lt))
 obtain⟨N,L,d⟩:=d;have p:=AnyZ.sorted_in sortedO Qw 5 trivial trivial trivial trivial rfl (by omega) (Tryz.sortsItO _) (Qy func87 (by kernel_rfl) rfl) 257 #[.pointer (I ⟨w.heap.size,0,S⟩)] trivial (Qy func257 (by kernel_rfl) rfl) _ N (by unfold maxLen;omega) (by omega) _ d;change CallsIn _ _ A 166 _ _ _ at p;refine p.mono ?_;rintro e w' ⟨v,i,rfl,t,f,D,E⟩;refine⟨v,rfl,?_,n.trans (E.mono (by simp))⟩;rw[wR F t,wS]at f;have m:i.length=(l.map fun o=>o.1).length:=by rw[t.length_eq];simp[Hm]
 rw[m]at f;exact QM f (by simp)
theorem Wi {w:V} {b:Nat} {c:Option Nat} {q:ByteArray->Nat} {s:St} (h:Bo w b c q s) (j:AY s):Qe A 91 #[J (I ⟨b,0,S⟩)] w fun e w'=> ∃v,e=Qb v/\w'.ownsRow w.heap.size 9 1 v (s.obs.map fun o=>o.1).length ((s.obs.map fun o=>o.1).map H)/\BL w w':=by
 have m:=h.block.cells.1;have d:=wT c q s.obs w h.map h.rise j.many;have f:=Tryz.mapsKeysO c w;refine(Xg (n:=6)).1 ?_;have k:Fence.wide.fn 167:=trivial;have l:Fence.wide.fn 166:=trivial;refine callsIn_of_wp func91 rfl trivial ?_ rfl;simp only[ntmps91,QU,Q6,List.length_nil,Nat.reduceAdd,Nat.reduceSub,Array.replicate_succ,Array.replicate_zero,List.push_toArray,List.append_toArray,List.nil_append,List.cons_append]
 gi_wp2_with (first
  | (gi_at_call 167;refine f.mono ?_;rintro e w' ⟨rfl,rfl⟩)
  | (gi_at_call 166;refine d.mono ?_;rintro e w' ⟨v,rfl,g,i⟩))
 go_ret;exact⟨v,rfl,g,i⟩
theorem wU {w:V} {b:Nat} {c:Option Nat} {q:ByteArray->Nat} {s:St} (h:Bo w b c q s) (d:AY s):Qe A 91 #[J (I ⟨b,0,S⟩)] w fun e w'=> ∃v,e=Qb v/\EA w' v (s.obs.map fun o=>o.1)/\BL w w' :=
 (Wi h d).mono fun _ _ ⟨v,he,ho,hb⟩=>⟨v,he,Le ho,hb⟩
end Go.Proofs.YtcllhobffhkafaaGreatDoor
namespace Go.Proofs.YtcllhobffhkafaaGreatDoor
open Go.RowKit Go.Extern.Stop Go.Stop Go.Extern Go.Sort Go.Shelf Go.Lib Go.Maps
theorem wV (x:ByteArray) (t:x.size<=maxLen) (f g i j:Nat) (k:Qd) (d:List ByteArray) (age:Int) {W:V} {b:Nat} {u:Option Nat} {q:ByteArray->Nat} {s:St} (v:Bo W b u q s) (K:AY s) (y:Lo s) (N:W.cell? ⟨f,0,S⟩=I k) (p:EA W k d) (z:Ra d) (B:d.length<=20000) (Q:W.cell? ⟨g,0,S⟩=I (O U s.day)) (R:W.cell? ⟨i,0,S⟩=I (J (I ⟨b,0,S⟩))) (T:W.cell? ⟨j,0,S⟩=I (O U age)) :
  QS A 92 #[J (I ⟨f,0,S⟩),J (I ⟨g,0,S⟩),J (I ⟨i,0,S⟩),J (I ⟨j,0,S⟩)] #[H x] (Qn (Lp s d age x)) W:=by
 show Qe A 92 #[H x,J (I ⟨f,0,S⟩),J (I ⟨g,0,S⟩),J (I ⟨i,0,S⟩),J (I ⟨j,0,S⟩)] W _;have c:=wP k d x W p B z;have l:=fun W' (hb:BL W W')=>Vt (v.keep (Ac.of_below (P:=fun _=>False) hb) (fun _ _ h=>h)) x t;obtain⟨D,E⟩:=oE y x;obtain⟨F,L⟩:0<=s.day/\s.day<=100000:=⟨K.day0,K.day1⟩;unfold Lp;obtain⟨M,C,rfl⟩:=p.form;cases o:AQ d x
 case true =>
  rw[o]at c
  go_enter Xh,ntmps92
  go_wp2_with fail
  refine c.mono ?_;rintro e r ⟨n,rfl,rfl⟩;go_wp2
  go_quiet (fail)
  go_wp2;go_ret;exact⟨rfl,nq,rfl⟩
 case false =>
  rw[o]at c;have m:Z _:=l
  go_enter Xh,ntmps92
  go_wp2_with fail
  refine c.mono ?_;rintro e r ⟨n,rfl,rfl⟩;go_wp2
  go_quiet (first | (go_at_call 94;exact Calls.quiet_of_same (m.out _ (AK (Ql _ _) _))))
  go_wp2;go_ret;exact⟨rfl,nq,rfl⟩
theorem wW (g:Nat) (lb:Array Qd) (w:V):Qe A 90 #[Qc S 0 0,.func (.func g) #[] lb] w fun e w'=>e=Qb (Qc S 0 0)/\w'=w:=by
 have b:=slices_IndexFunc_empty (α:=ByteArray) S 0 (.func (.func g) #[] lb) w
 go_enter func90,ntmps90
 go_wp2_with fail
 refine b.mono ?_;rintro e c ⟨rfl,rfl⟩;go_wp2;go_ret;exact⟨rfl,rfl⟩
theorem xA (v:Qd) (d:List ByteArray) (w:V) (h:EA w v d) (i:d.length<=20000) :
  Qe A 89 #[v] w fun e w'=> ∃v',e=Qb v'/\w'.ownsRow w.heap.size 9 1 v' d.length (d.map H)/\BL w w':=by
 rcases h with⟨p,c,rfl,rfl⟩|⟨b,o,f,rfl,g⟩
 ·cases p with
  | none=>exact (slices_Clone_string_nil 0 c w).mono fun e w' ⟨he,hw⟩=>⟨_,he,QL _ _ _ _,by subst hw;exact Ql _ _⟩
  | some a=>exact (slices_Clone_string_zero a c w).mono fun e w' ⟨v',he,ho,_,hb⟩=>⟨v',he,ho,hb⟩
 ·refine(slices_Clone_string b o d.length f d w (Qx _) (by omega) (fun j hj=>by rw[List.getD_eq_getElem?_getD,List.getElem?_eq_getElem hj];exact g j hj)).mono fun e w' ⟨v',he,ho,_,hb⟩=>⟨v',he,?_,hb⟩;rw[Q7]at ho;exact ho
theorem xB {α:Type} [Inhabited α] {enc:α->Qd} {w:V} {g n:Nat} {b:Array α} {os:Array Obj} :Ac (fun k=>k=g) w (QG enc w g 0 n b os) :=
 (PZ (q:=n)).trans (Ac.of_below (P:=fun _=>False) (GR os)) (fun _ h _=>h.elim)
theorem xC {b c:List ByteArray} (h:b.map Bb=Du (c.map Bb)) (x:ByteArray):x∈b↔x∈c:=by
 have d:Bb x∈b.map Bb↔Bb x∈c.map Bb:=by rw[h];exact(Pa _).mem_iff
 have f:∀l:List ByteArray,Bb x∈l.map Bb↔x∈l:=fun l=>by
  rw[Xi];exact⟨fun ⟨y,hy,e⟩=>OZ e▸hy,fun hy=>⟨x,hy,rfl⟩⟩
 rw[f,f]at d;exact d
theorem xD {c d:List ByteArray} (h:c.map Bb=Du (d.map Bb)):Ra c:=by
 have b:=UP (d.map Bb);rw[<-h,Xz]at b;exact b.imp fun hab=>by
  rw[UO];exact decide_eq_false hab
theorem xE {b c:List ByteArray} (h:b.map Bb=Du (c.map Bb)):b.length=c.length:=by
 have:=congrArg List.length h;rw[Qs,Pb,Qs]at this;exact this
abbrev Nm:= { x:ByteArray // x.size<=maxLen }
instance:Inhabited Nm:=⟨⟨⟨#[]⟩,by decide⟩⟩
def Rb (x:Nm):Qd:=H x.1
def Rc (ts:List ByteArray) (h:∀t∈ts,t.size<=maxLen):List Nm:=ts.pmap (fun x hx=>⟨x,hx⟩) h
theorem xF (b:List ByteArray) (h:∀t∈b,t.size<=maxLen):(Rc b h).map (fun x=>x.1)=b:=by
 unfold Rc;rw[List.map_pmap];simp
theorem Wj (zs:List Nm):zs.map Rb=(zs.map fun x=>x.1).map H:=by
 rw[QE];rfl
theorem xG {B:Nat} {w:V} {v:Qd} {b:List ByteArray} (y:w.ownsRow B 9 1 v b.length (b.map H)) (T:B<=w.heap.size) (o:∀t∈b,t.size<=maxLen) (X:b.length<=20000) (g:Nat) (lb:Array Qd) (M:∀args w,(QH g args).run A w= .ok (.enter g args) w) (p:ByteArray->Bool)
  (E:∀W,Ac (fun k=>v.ownBlock=I k) w W->∀x:ByteArray,x.size<=maxLen->QS A g lb #[H x] (Qn (p x)) W) :
  Qe A 90 #[v,.func (.func g) #[] lb] w fun e w'=> ∃v',e=Qb v'/\w'.ownsRow B 9 1 v' (b.filter fun x=> !p x).length ((b.filter fun x=> !p x).map H)/\Below B w w':=by
 by_cases r:v=Qc S 0 0
 ·have s:b= []:=by
   rcases y.2 with⟨_,s⟩|⟨g,m,P,e,_⟩
   ·exact Xb.1 s
   ·rw[r]at e;cases e
  subst r s;refine(wW g lb w).mono ?_;rintro e w' ⟨rfl,rfl⟩;exact⟨_,rfl,y,Ql _ _⟩
 ·have f:=xF b o;obtain⟨c,C⟩:∃c,Rc b o=c:=⟨_,rfl⟩;rw[C]at f;have j:w.ownsRow B 9 1 v b.length (c.map Rb):=by rw[Wj,f];exact y
  obtain⟨K,m,rfl,D,N,Q,R,d,L⟩:=QI j r;have i:=slices_DeleteFunc Rb (fun _=>rfl) (fun x=>p x.1) g lb M ⟨⟨#[]⟩,by decide⟩ Xa K 0 m c.toArray w
   (fun W x hb=>E W (Ac.of_below hb) x.1 x.2)
   (fun n os dk x _=>E _ (xB.mono fun k hk=>by rw[hk];rfl) x.1 x.2)
   L (by simp[d];omega) (by simp[d];omega)
  simp only[QU,d]at i;refine i.mono ?_;rintro e w' ⟨rfl,q,rfl⟩;have l:(c.filter fun x=> !p x.1).map (fun x=>x.1)=b.filter fun x=> !p x:=by
   rw[<-f,List.filter_map];rfl
  have z:(c.filter fun x=> !p x.1).length<=b.length:=by rw[<-d];exact QF _ _
  have u:=Xc (q:=q) (k:=(c.filter fun x=> !p x.1).length) (ys:=(c.filter fun x=> !p x.1)++Q4 (b.length-(c.filter fun x=> !p x.1).length) ⟨⟨#[]⟩,by decide⟩) j (by simp;omega) z;rw[Xv,Wj,l]at u
  ·have F:(c.filter fun x=> !p x.1).length=(b.filter fun x=> !p x).length:=by rw[<-l,Qs]
   rw[F]at u ⊢;exact⟨_,rfl,u,Xm (Ql _ _) D⟩
  ·rfl
theorem xH {s:St} (K:AY s):∀t∈(s.obs.map fun o=>o.1),t.size<=maxLen:=fun t ht=>by
 obtain⟨o,b,rfl⟩:=Xi.1 ht;have:=K.names o b;simp only[CP,Xj,decide_eq_true_eq]at this;rw[<-AC];unfold maxLen;omega
theorem xI {w:V} {b:Nat} {mo:Option Nat} {q:ByteArray->Nat} {s:St} (hs:Bo w b mo q s) (K:AY s) (hA:Lo s) (v:Qd) (c:List ByteArray) (age:Int) (hN:EA w v c) (hl:c.length<=20000) :
  Qe A 43 #[J (I ⟨b,0,S⟩),v,O U age] w fun e w'=> ∃v',e=Qb v'/\w'.ownsRow w.heap.size 9 1 v' (Gj s c age).length ((Gj s c age).map H)/\BL w w':=by
 have L:Z _:=hs;have r:Z _:=K;have HA:Z _:=hA;have Q:Z _:=fun W (hb:BL w W)=>hN.below hb;have eg:=Qy Xh (by kernel_rfl) rfl;obtain⟨NQ,NC,rfl⟩:=hN.form;obtain⟨C,aa⟩:∃n,c.length=n:=⟨_,rfl⟩;rw[aa]at Q hl ⊢;have m:Z _:=aa;have a1:(w.alloc (Qa #[J (I ⟨b,0,S⟩)] 30)).cell? ⟨w.heap.size,0,S⟩=I (J (I ⟨b,0,S⟩)):=by rw[Qo _ _ _ _ _ _ (Qt _ _)];rfl
 have b1:BL w (w.alloc (Qa #[J (I ⟨b,0,S⟩)] 30)):=Af _ _;have s1:(w.alloc (Qa #[J (I ⟨b,0,S⟩)] 30)).heap.size=w.heap.size+1:=by simp
 have a2:((w.alloc (Qa #[J (I ⟨b,0,S⟩)] 30)).alloc (Qa #[O U age] 3)).cell? ⟨w.heap.size+1,0,S⟩=I (O U age):=by rw[<-s1,Qo _ _ _ _ _ _ (Qt _ _)];rfl
 have j:Below (w.alloc (Qa #[J (I ⟨b,0,S⟩)] 30)).heap.size (w.alloc (Qa #[J (I ⟨b,0,S⟩)] 30)) ((w.alloc (Qa #[J (I ⟨b,0,S⟩)] 30)).alloc (Qa #[O U age] 3)):=Af _ _;have c3:=Aa j a1;have t:=Ad b1 j
 go_enter func43,ntmps43
 go_upto_region 1 with fail
 generalize (w.alloc (Qa #[J (I ⟨b,0,S⟩)] 30)).alloc (Qa #[O U age] 3)=N at a2 c3 t ⊢;have bb:=BF a2
 go_wp2_with fail
 refine(xA _ c N (Q.out N t) (by rw[m.out];omega)).mono ?_;rintro e l ⟨v1,rfl,o,p⟩;obtain⟨D,E,ab⟩:=(Le o).form;rw[m.out]at ab;subst ab;have g:Z (∀k,(Qc D C E).ownBlock=I k->N.heap.size<=k/\k<l.heap.size):=fun k hk=>⟨(A7 o hk).1,(A7 o hk).2.1⟩;have ae:=Ad t p;have af:=Aa p c3;have ag:=Aa p a2;have ah:N.heap.size<=l.heap.size:=p.size;have a7:(l.alloc (Qa #[Qc D C E] 82)).cell? ⟨l.heap.size,0,S⟩=I (Qc D C E):=by rw[Qo _ _ _ _ _ _ (Qt _ _)];rfl
 have j:BL l (l.alloc (Qa #[Qc D C E] 82)):=Af _ _;have R:=Ad ae j;have ai:=Aa j af;have aj:=Aa j ag;have ak:Z _:=AG (P:=fun _=>False) o (Ac.of_below j) (fun _ _ h=>h)
 go_upto_region 4 with fail
 have al:=BF a7;generalize l.heap.size=rb at a7 g ah al ⊢;have am:=Wf ak.out (by rw[m.out];omega)
 go_wp2_with fail
 refine am.mono ?_;rintro e F ⟨rfl,us,a4,a5,d⟩;have u:Z _:=a4;have an:Z _:=a5;have T:=R.trans (d.below R.size (fun k hk=>by have:=(g.out k hk).1;omega));have ao:=d.keep (fun e=>by have:=(g.out _ e).1;omega) ai;have ap:=d.keep (fun e=>by have:=(g.out _ e).1;omega) aj;have aq:=d.keep (fun e=>by have:=(g.out _ e).2;omega) a7;have M:=d.size;have ar:Z _:=L.out.keep (Ac.of_below (P:=fun _=>False) T) (fun _ _ h=>h);have ad:=Vq ar.out.block
 go_wp2_with fail
 refine ad.mono ?_;rintro e w4 ⟨rfl,a6⟩;rw[a6];have a8:(F.alloc (Qa #[O U s.day] 3)).cell? ⟨F.heap.size,0,S⟩=I (O U s.day):=by rw[Qo _ _ _ _ _ _ (Qt _ _)];rfl
 have y:BL F (F.alloc (Qa #[O U s.day] 3)):=Af _ _;have z:=Ad T y;have au:=Aa y ao;have av:=Aa y ap;have aw:=Aa y aq;have ax:Z _:=AG (P:=fun _=>False) an.out (Ac.of_below y) (fun _ _ h=>h)
 go_upto_region 6 with fail
 have ay:=BF a8;generalize F.heap.size=db at a8 M ay ⊢;have az:Z _:=L.out.keep (Ac.of_below (P:=fun _=>False) z) (fun _ _ h=>h);have a0:=Wi az.out r.out
 go_wp2_with fail
 refine a0.mono ?_;rintro e w5 ⟨v5,rfl,ac,f⟩;have X:=Ad z f;have i:Z _:=fun k (hk:v5.ownBlock=I k)=>(A7 ac hk).1;have Y:=z.size;have B:=xG ac f.size (xH r.out) (by rw[Qs];have:=r.out.many;omega) 92 #[J (I ⟨rb,0,S⟩),J (I ⟨db,0,S⟩),J (I ⟨w.heap.size,0,S⟩),J (I ⟨w.heap.size+1,0,S⟩)] eg (Lp s us age) (fun W hW x hx =>
  wV x hx rb db w.heap.size (w.heap.size+1) (Qc D C E) us age
   (L.out.keep ((Ac.of_below (P:=fun k=>v5.ownBlock=I k) X).trans hW (fun _ h _=>h)) (fun k hk hown=>by have h1:=L.out.lt hk;have h2:=i.out k hown;omega))
   r.out HA.out
   (hW.keep (fun e=>by have:=i.out _ e;omega) (Aa f aw))
   (Le (AG (AG (P:=fun _=>False) ax.out (Ac.of_below f) (fun _ _ h=>h)) hW (fun k hk e=>by have h1:=(g.out k hk).2;have h2:=i.out k e;omega)))
   (xD u.out) (by rw[xE u.out,m.out];omega)
   (hW.keep (fun e=>by have:=i.out _ e;omega) (Aa f a8))
   (hW.keep (fun e=>by have:=i.out _ e;omega) (Aa f au))
   (hW.keep (fun e=>by have:=i.out _ e;omega) (Aa f av)))
 rw[oG r.out (xC u.out) age]at B
 go_wp2_with fail
 refine B.mono ?_;rintro e w6 ⟨v6,rfl,a9,ba⟩;have HE:Z _:=QM a9 Y;have a3:=X.trans (ba.mono Y);go_wp2;go_ret;exact⟨_,rfl,HE.out,a3⟩
end Go.Proofs.YtcllhobffhkafaaGreatDoor
namespace Go.Proofs.YtcllhobffhkafaaGreatDoor
open Go.RowKit Go.Extern.Stop Go.Stop Go.Extern Go.Sort Go.Shelf Go.Lib
def Rd (k:Lk) (s':St):Prop:= ∃N,Lw N k.st s'/\k.st.head∈N/\∀id∈k.ids,∃x,Cy k.st id x/\∀n∈BE x,n∈N
def Nr (W:V) (kb:Nat) (vs:Qd) (SP:Nat->Prop) (vi vf:Qd) (k:Lk) (e:QJ) (w':V):Prop :=
 ∃SP' s' m ev,e=Qb (Qh #[O U m,ev])/\(ev=Qj\/∃t u,ev=Qr t u)/\Ac SP W w'/\(∀j,SP' j->SP j\/W.heap.size<=j)/\Al w' kb vs SP' k.st.head vi vf { k with st:=s' } /\Rd k s'
theorem Wk:∀ss:List Sn,(∀x∈ss,x.2.2.2.2.2.2.length<=60)->(ss.flatMap BE).length<=ss.length*61
 | [],_=>by simp
 | s :: r,h=>by
  have b:=Wk r fun x hx=>h x (Xn _ hx);have c:=h s QV;simp only[QN,Q0,BE,Q6,Qs]at *;omega
theorem xJ {s:St} {N:List ByteArray} {age:Int} {x:ByteArray} (h:x∈Gj s N age):x∉N/\x.size<=1000\/¬AY s:=by
 by_cases b:AY s
 ·refine Qi ?_;obtain⟨o,d,rfl⟩:=Xi.1 h;obtain⟨f,c⟩:=Xk.1 d;have:=GJ (b.names o f);simp only[Xj,X0,decide_eq_true_eq]at c;refine⟨fun e=>?_,by omega⟩;have:=Ju.2 e;rw[c.1]at this;cases this
 ·exact Qk b
section
variable {a : Nat → Qq} {B : Nat} {EM : V → Prop}
theorem Re {D:Nat} {X:V} {v:Qd} {c:List ByteArray} (f:X.ownsRow D 9 1 v c.length (c.map H)) (g:D<=X.heap.size) (b:Nat) (d:ByteArray) (i:X.cell? ⟨b,0,S⟩=I (H d)) (l:c.length<=10000) :
  ∃v' W2,(Builtin.append_ #[82,82] 82 #[v,Qc (I ⟨b,0,S⟩) 1 1]).run A X= .ok v' W2/\W2.ownsRow D 9 1 v' (c++ [d]).length ((c++ [d]).map H)/\Ac (fun k=>v.ownBlock=I k) X W2 :=
 UK f g (I ⟨b,0,S⟩) 1 1 rfl (Qk ⟨b,0,rfl,fun j u hu=>by
  cases j with
  | zero=>simp only[List.map_cons,List.map_nil,List.getElem?_cons_zero,Option.some.injEq]at hu;subst hu;exact i
  | succ j=>simp at hu⟩) (by simp;omega)
theorem Wl (K:A2 a B EM An) (HL:∀X,EM X->AX X a) {W:V} {E:Nat} {vs:Qd} {f:Nat->Prop} {N vf:Qd} {k:Lk} (hE:EM W) (h:Al W E vs f k.st.head N vf k) (hi:Av k) (hB:∀j,f j->B<=j) (age:Int) :
  Qe A 14 #[J (I ⟨E,0,S⟩),O U age] W (Nr W E vs f N vf k):=by
 obtain⟨y,rfl⟩:=h.ptr K;have bs:Z _:=K.size _ hE;have ah:Z _:=fun X (hb:BL W X)=>K.below _ _ hE (hb.mono (K.size _ hE));have bt:Z _:=fun X (hb:Ac f W X)=>K.below _ _ hE (hb.below bs.out hB);have HQ:Z _:=fun X (hb:BL W X)=>h.quiet K hb;obtain⟨d,hl,au,bh⟩:=PW K HL hE h hi;have bu:=(JK hi.ids).1;have ae:∀x∈d,(Am x).1=0/\ -9223372036854775808<=x.1/\x.1<=9223372036854775807:=fun x hx=>by
  obtain⟨i,h1,rfl⟩:=Q2.1 hx;have hs:=au i h1 (by omega);have:=Ng hs.fine;exact⟨hs.fine,by omega,by omega⟩
 have a2:(d.flatMap BE).length<=5000:=by
  have:=Wk d fun x hx=>(JG (ae x hx).1).1;omega
 have bv:(C7 d).length<=(d.flatMap BE).length:=by rw[<-lP];exact lQ d _
 have ai:Z _:=bh;have a3:Z (∀X,BL W X->Qe A 31 #[J (I y)] X fun e w'=>e=Qb (H k.st.head)/\BL X w'):=fun X hb=>K.head X _ f k.st (ah.out X hb) (HQ.out X hb).st hi.good.keeps;have a4:Z (∀Y X v,BL W Y->BL Y X->FJ Y v d->Qe A 42 #[v] X fun e w'=> ∃v',e=Qb v'/\w'.ownsRow Y.heap.size 9 1 v' (C7 d).length ((C7 d).map H)/\BL X w'):=fun Y X v hY hb hv=>(wK v d X (HL X (ah.out X (Ad hY hb))).s.tab (hv.below hb) a2 fun x hx=>(ae x hx).2).mono fun e w' ⟨v',e1,e2,e3⟩=>⟨v',e1,QM e2 hb.size,e3⟩;have bw:Z (∀X vN,BL W X->EA X vN (C7 d++ [k.st.head])->Qe A 43 #[J (I y),vN,O U age] X fun e w'=> ∃v',e=Qb v'/\w'.ownsRow X.heap.size 9 1 v' (Gj k.st (C7 d++ [k.st.head]) age).length ((Gj k.st (C7 d++ [k.st.head]) age).map H)/\BL X w'):=fun X vN hb hN=>by
  obtain⟨b,mo,q,hv,-,hs⟩:=(HQ.out X hb).st;injection hv with hv;obtain rfl:y=⟨b,0,S⟩:=by first | exact hv | exact Option.some.inj hv
  exact xI hs hi.good.keeps hi.good.aged vN _ age hN (by rw[Q0,List.length_singleton];omega)
 have aj:Z ((C7 d).length<=10000):=by
  show _<=10000;omega
 have bx:Z ((Gj k.st (C7 d++ [k.st.head]) age).length<=1000):=by
  show _<=1000;unfold Gj;rw[Qs];have:=hi.good.keeps.many;exact Qp (QF _ _) (by omega)
 have ak:Z (∀s',Lw (C7 d++ [k.st.head]) k.st s'->Rd k s'):=fun s' hs=>⟨_,hs,X1.2 (Qk QV),fun id hid=>by
  obtain⟨i,h2,rfl⟩:=Q2.1 hid;have h1:i<d.length:=by omega
  exact⟨d[i],au i h1 h2,fun n T=>X1.2 (Qi (OE.2 ⟨_,Q1 h1,T⟩))⟩⟩
 have bz:Z (∀x∈Gj k.st (C7 d++ [k.st.head]) age,x∉C7 d++ [k.st.head]/\x.size<=1000):=fun x hx=>(xJ hx).resolve_right (fun e=>e hi.good.keeps);have b0:Z (∀X C s n,Ac f W X->Al X E (J (I y)) C k.st.head N vf { k with st:=s } ->Lw (C7 d++ [k.st.head]) k.st s->n∈Gj k.st (C7 d++ [k.st.head]) age->Qe A 44 #[J (I y),H n] X fun e w'=>e=Qb (Ae a (Fx s n))/\Lw (C7 d++ [k.st.head]) k.st (E2 s n)/\∃M,Al w' E (J (I y)) M k.st.head N vf { k with st:=E2 s n } /\Ac C X w'/\∀j,M j->C j\/X.heap.size<=j):=fun X C s n hb hQ hw T=>by
  obtain⟨f1,f2⟩:=bz.out n T;refine(K.drop X _ C s n (bt.out X hb) hQ.st hw.good.keeps f2).mono fun e w' ⟨e1,e2⟩=>?_;obtain⟨M,q1,q2,q3⟩:=hQ.post e2;exact⟨e1,hw.trans (vF hw.good f1),M,q1,q2,q3⟩
 have a5:Z (Lw (C7 d++ [k.st.head]) k.st k.st):=Lw.refl hi.good;have b1:Z (∀X m ev,(ev=Qj\/∃t u,ev=Qr t u)->BL W X->Nr W E (J (I y)) f N vf k (Qb (Qh #[O U m,ev])) X):=fun X m ev hev hb=>⟨f,k.st,m,ev,rfl,hev,Ac.of_below hb,fun _ h=>Qi h,HQ.out X hb,ak.out _ a5.out⟩;have a6:Z (∀X,BL W X->X.cell? ⟨1,0,S⟩=I (Qr 410 (J (I (a 1))))):=fun X hb=>(HL X (ah.out X hb)).m.bound;have b2:Z (∀j,f j->j<W.heap.size):=(h.sizes K).2;obtain⟨c0,-,c2,-⟩:=h.blk.cells;have a7:=GN c0;generalize C7 d=RL at *;generalize Gj k.st (RL++ [k.st.head]) age=OL at *;clear hE h hi hB hl au bh ae a2 bv bu
 go_enter func14,ntmps14
 go_wp2_with fail
 refine a7.mono ?_;rintro e w1 ⟨rfl,e1⟩;rw[e1];clear a7 e1;by_cases ce:age<0
 case pos =>
  have cg:=a6.out W (Ql _ _);clear c0 c2;go_wp2
  go_quiet (fail)
  go_wp2;go_ret2;exact b1.out _ _ _ (Qk ⟨_,_,rfl⟩) (AK (Ql _ _) nq)
 case neg =>
 have g:BL W W.drew:=(Ql _ _).drew;have b3:=Aa g c0;have a8:=Aa g c2;clear a6
 go_upto_region 5 with fail
 go_cut [28] from 19 to 28 (fun c wx=>(∃z,z=c/\z=Qn Qg)/\BL W wx)
 case first =>
  go_region_with (go_at_call 31;(with_reducible refine(a3.out _ g).mono ?_);rintro e wX ⟨rfl,bj⟩;have br:=(Ad g bj);have ch:=Aa bj a8)
  all_goals
   go_wp2;go_meet
   case rel=>exact ⟨⟨_,rfl,by simp⟩,br⟩
 case rest =>
 obtain⟨⟨z,rfl,rfl⟩,av⟩:=hcut;obtain⟨W1,ca⟩:∃X,X=wc:=⟨_,rfl⟩;subst ca;have a9:=ai.out W1 av
 go_wp2_with fail
 refine a9.mono ?_;rintro e r ⟨v2,rfl,bk,bl⟩;have aa:=Ad av bl;have al:=bk.sns;obtain⟨q2,cf,rfl⟩:=al.form;have R:Z (∀X,BL r X->_):=fun X hb=>a4.out r X _ aa hb al;have k0:=Aa aa c0;have k2:=Aa aa c2;have ba:Z (BL W r):=aa;clear a9 bk bl al av b3 a8 g c0 c2 aa a4 ai a3;generalize d.length=SL at R ⊢;have g:BL r r.drew:=(Ql _ _).drew;have bb:BL r (r.drew.alloc (Qa #[H k.st.head] 9)):=g.alloc g.size _;have b4:=Aa g k2;have bc:=Qt r.drew (Qa #[H k.st.head] 9);have kA:(r.drew.alloc (Qa #[H k.st.head] 9)).cell? ⟨r.drew.heap.size,0,S⟩=I (H k.st.head):=by rw[Qo _ _ _ _ _ _ bc];rfl
 clear bc
 go_upto_region 10 with fail
 go_cut [8] from 38 to 45 (fun v wx=> ∃u,u=v/\wx.ownsRow r.heap.size 9 1 u (RL++ [k.st.head]).length ((RL++ [k.st.head]).map H)/\BL r wx)
 case first =>
  have ci:BL r r:=Ql _ _
  go_region_held3 (fun w'=>BL r w'/\w'.cell? ⟨E,2,S⟩=I (H k.st.head))
   (first
    | (go_split_ands;with_reducible exact⟨ao,Aa ao k2⟩)
    | (go_split_ands;with_reducible exact⟨X2 (by with_reducible assumption) (l.mono (QO (by with_reducible assumption))),Aa l (by with_reducible assumption)⟩)
    | (go_split_ands;with_reducible refine⟨X3 (by with_reducible assumption),?_⟩;all_goals go_keep)
    | (go_split_ands;with_reducible refine⟨X4 (by with_reducible assumption) (QO (by with_reducible assumption)) _,?_⟩;all_goals go_keep)
    | (go_split_ands;with_reducible refine⟨X3 (X4 (by with_reducible assumption) (QO (by with_reducible assumption)) _),?_⟩;all_goals go_keep)
    | (go_split_ands;with_reducible exact⟨by assumption,by assumption⟩))
   (first
   | (go_at_call 42;(with_reducible refine(R.out _ g).mono ?_);rintro e wX ⟨v5,rfl,Q,l⟩;have b5:=(Ad g l);have cj:=Aa l b4;have am:BL wX (wX.alloc (Qa #[H k.st.head] 9)):=Af _ _;have F:=(Ad b5 am);have an:=Re (AG (P:=fun _=>False) Q (Ac.of_below am) (fun _ _ h=>h)) F.size wX.heap.size k.st.head (by rw[Qo _ _ _ _ _ _ (Qt wX (Qa #[H k.st.head] 9))];rfl) aj.out)
   | (go_at_call 42;(with_reducible refine(R.out _ bb).mono ?_);rintro e wX ⟨v5,rfl,Q,l⟩;have F:=(Ad bb l);have an:=Re Q F.size _ _ (Aa l kA) aj.out)
   | (go_at_call 42;(with_reducible refine(R.out _ (by go_split_ands;with_reducible assumption)).mono ?_);rintro e wX ⟨v5,rfl,Q,l⟩;have F:=X2 (by go_split_ands;with_reducible assumption) (l.mono (QO (by go_split_ands;with_reducible assumption)));have an:=Re Q F.size _ _ (Aa l kA) aj.out)
   | (obtain⟨v8,W8,cb,aw,a1⟩:=an;refine OY (by rfl) _ _ _ (by rfl) _ _ _ (by rfl) (by rfl) cb ?_;have ao:=F.trans (a1.below F.size (fun j hj=>(A7 Q hj).1))))
  all_goals
   go_wp2;go_meet
   case rel=>exact ⟨_,rfl,aw,ao⟩
 case rest =>
 obtain⟨u8,rfl,aw,bi⟩:=hcut;obtain⟨W3,cc⟩:∃X,X=wc:=⟨_,rfl⟩;subst cc;have af:=ba.out.trans (bi.mono ba.out.size);have bd:=bw.out W3 _ af (Le aw);have ck:=Aa bi k0
 go_wp2_with fail
 refine bd.mono ?_;rintro e D ⟨v9,rfl,a0,bm⟩;have ap:=Ad af bm;have hT:=Le a0;have b6:Z (∀j,v9.ownBlock=I j->¬f j):=fun j hj e=>by
  have h1:=(A7 a0 hj).1;have h2:=b2.out j e;have h3:=af.size;omega
 obtain⟨p9,c9,rfl⟩:∃p c,v9=Qc p OL.length c:=by
  rcases hT with⟨p,c,rfl,e⟩|⟨b,o,cd,rfl,-⟩
  ·exact⟨p,c,by rw[e];rfl⟩
  ·exact⟨_,_,rfl⟩
 have b7:Z (∀X,Ac f D X->∀n (T:n<OL.length),∃b o,p9=I ⟨b,o,S⟩/\X.cell? ⟨b,o+n,S⟩=I (H OL[n])):=fun X hb n T=>by
  rcases hT with⟨p,c,-,e⟩|⟨b,o,cd,hv,hc⟩
  ·rw[e]at T;simp at T
  ·injection hv with hq;subst hq;exact⟨b,o,rfl,MH hb (b6.out b rfl) (hc n T)⟩
 have b8:Z (Al D E (J (I y)) f k.st.head N vf k):=HQ.out D ap;have ab:Z (BL W D):=ap;obtain⟨LO,ax⟩:∃L,OL.length=L:=⟨_,rfl⟩;have be:Z (OL.length=LO):=ax;rw[ax];clear bd af bm a0 hT ax ap
 go_wp2_with fail
 go_loopw [11,12,55] (fun _ _ i wr=> ∃(n:Nat) (s:St) (C:Nat->Prop),n<=LO/\i=O U n/\Al wr E (J (I y)) C k.st.head N vf { k with st:=s } /\Lw (RL++ [k.st.head]) k.st s/\Ac f D wr/\∀j,C j->f j\/D.heap.size<=j) (fun _ _ i _=>LO-(Qm i).toNat)
 case atStart=>exact ⟨0,k.st,f,by omega,rfl,b8.out,a5.out,Ac.refl _ _,fun _ h=>Qi h⟩
 case round =>
 obtain⟨n,s,C,T,rfl,ag,ay,ad,az⟩:=hrel;have HP:Z (∀m ev,(ev=Qj\/∃t u,ev=Qr t u)->Nr W E (J (I y)) f N vf k (Qb (Qh #[O U m,ev])) wr):=fun m ev hev=>⟨C,s,m,ev,rfl,hev,(Ac.of_below (P:=f) ab.out).trans ad (fun _ h _=>h),fun j hj=>(az j hj).imp_right (Qp ab.out.size),ag,ak.out _ ay⟩;obtain⟨k0,-⟩:=ag.blk.cells;by_cases b9:n<LO
 case neg =>
  obtain rfl:n=LO:=by omega
  have cl:¬(n:Int)<(n:Int):=by omega
  go_wp2;go_ret2;exact HP.out _ _ (by first | exact Qi rfl | exact Qk ⟨_,_,rfl⟩)
 case pos =>
 have cm:(n:Int)<(LO:Int):=by omega
 have cn:LO<=1000:=by have:=bx.out;rw[be.out]at this;exact this
 have co:(0:Int)<=(n:Int):=by omega
 have aq:n<OL.length:=by rw[be.out];exact b9
 obtain⟨b,o,rfl,e0⟩:=b7.out wr ad n aq;have ar:=b0.out wr C s OL[n] ((Ac.of_below (P:=f) ab.out).trans ad (fun _ h _=>h)) ag ay (Q1 aq);generalize OL[n]=nm at e0 ar;have ac:Z (Ac f D wr/\∀j,C j->f j\/D.heap.size<=j):=⟨ad,az⟩;clear ag ay ad az HP aq
 go_wp2_with fail
 refine ar.mono ?_;rintro e w6 ⟨rfl,bn,M,bo,bp,bq⟩;have bf:Ac f D w6:=ac.out.1.trans bp (fun j hj hjl=>(ac.out.2 j hj).elim id (fun e=>absurd hjl (by omega)));have bg:∀j,M j->f j\/D.heap.size<=j:=fun j hj=>(bq j hj).elim (ac.out.2 j) (fun e=>Qk (Qp ac.out.1.size e));clear ar bp bq ac e0 k0;by_cases hC:Fx s nm=0
 case neg =>
  have HP:Z (∀m ev,(ev=Qj\/∃t u,ev=Qr t u)->Nr W E (J (I y)) f N vf k (Qb (Qh #[O U m,ev])) w6):=fun m ev hev=>⟨M,E2 s nm,m,ev,rfl,hev,(Ac.of_below (P:=f) ab.out).trans bf (fun _ h _=>h),fun j hj=>(bg j hj).imp_right (Qp ab.out.size),bo,ak.out _ bn⟩;obtain⟨m,hm⟩:∃m,Fx s nm=m+1:=⟨Fx s nm-1,by omega⟩;rw[hm];simp only[Ae];go_wp2;go_ret2;exact HP.out _ _ (by first | exact Qi rfl | exact Qk ⟨_,_,rfl⟩)
 case pos =>
 rw[hC];simp only[Ae];have HR:Z (Al w6 E (J (I y)) M k.st.head N vf { k with st:=E2 s nm } /\Lw (RL++ [k.st.head]) k.st (E2 s nm)/\Ac f D w6/\∀j,M j->f j\/D.heap.size<=j):=⟨bo,bn,bf,bg⟩;go_wp2;go_roundw
 case rel=>exact ⟨n+1,E2 s nm,M,by omega,by go_num,HR.out.1,HR.out.2.1,HR.out.2.2.1,HR.out.2.2.2⟩
 case measure=>simp [Qm];omega
end
def CX (nm:ByteArray) (xs:List Rw):Dr:=(⟨#[100,97,116,97,47]⟩,nm,Ab (EY (A3 xs)))
def DM (xs:List Rw):Prop:=xs.length<=40/\∀x∈xs,A0 x=0
def El (W:V) (cb:Nat) (v vr:Qd):Prop:=W.heap[cb]? =I (Qa #[v,vr] 100 (0,0))
theorem Wm {W:V} {D b:Nat} {v d f:Qd} {ds:List Dr} (i:Bg W D v ds) (j:El W b d f):v.ownBlock≠I b:=fun e=>by
 rcases i.2 with⟨h,_⟩|⟨g,k,l,h,_,c,_⟩
 ·rw[h]at e;cases e
 ·rw[h]at e;injection e with e;have e:g=b:=e;rw[e,show W.heap[b]? =_ from j]at c;cases c
theorem Wn:∀xs:List Rw,∃m,m<=xs.length/\(∀i (h:i<xs.length),i<m->A0 xs[i]=0)/\(∀(h:m<xs.length),A0 xs[m]≠0)
 | []=>⟨0,Qx _,fun i h=>by simp at h,fun h=>by simp at h⟩
 | x :: r=>by
  by_cases b:A0 x=0
  ·obtain⟨m,c,d,f⟩:=Wn r;refine⟨m+1,by simpa using c,fun i hi him=>?_,fun h=>?_⟩
   ·cases i with
    | zero=>exact b
    | succ i=>exact d i (by simpa using hi) (by omega)
   ·exact f (by simpa using h)
  ·exact⟨0,Xx _,fun i _ h=>absurd h (Xy _),fun _=>b⟩
def Rf (W:V) (cb D:Nat) (v vr:Qd) (ds:List Dr) (nm:ByteArray) (xs:List Rw) (e:QJ) (w':V):Prop :=
 (DM xs/\e= .returned Qj/\∃v',El w' cb v' vr/\Bg w' D v' (ds++ [CX nm xs])/\Ac (fun j=>j=cb\/v.ownBlock=I j) W w')\/(¬DM xs/\(∃t u,e=Qb (Qr t u))/\BL W w')
theorem Wo {W:V} {a:Nat->Qq} (hE:DI W a) {b D:Nat} {v B:Qd} {ds:List Dr} (hc:El W b v B) (hd:Bg W D v ds) (hD:D<=W.heap.size) (ae:ds.length<=1000) {vx:Qd} {xs:List Rw} (M:Ap W vx xs) (af:xs.length<=10000) (hp:∀x∈xs,x.1.size<=30) (nm:ByteArray) :
  Qe A 59 #[J (I ⟨b,0,S⟩),H nm,vx] W (Rf W b D v B ds nm xs):=by
 obtain⟨q,c,rfl⟩:=M.form;have N:Qe A 109 #[Qc q xs.length c] W fun e w'=>((DM xs/\e=Qb (Qh #[H (Ab (EY (A3 xs))),Qj]))\/(¬DM xs/\∃s t u,e=Qb (Qh #[H s,Qr t u])))/\BL W w':=by
  by_cases aa:40<xs.length
  ·exact(iF q xs.length c W a hE aa (by unfold maxLen;omega)).mono fun e w' ⟨C,E⟩=>⟨Qk ⟨fun h=>absurd h.1 (by omega),_,_,_,C⟩,E⟩
  ·obtain⟨m,hm,C,E⟩:=Wn xs;refine(iG q c xs W a hE M (by omega) hp m hm C E).mono fun e w' r=>?_;rcases r with⟨he,h3,h4⟩|⟨l,fb,h3,-,-,h4⟩
   ·refine⟨Qi ⟨⟨by omega,fun x M=>?_⟩,h3⟩,h4⟩;obtain⟨i,hi,rfl⟩:=Q2.1 M;exact C i hi (by omega)
   ·exact⟨Qk ⟨fun h=>absurd (h.2 _ (Q1 l)) (E l),_,_,_,h3⟩,h4⟩
 obtain⟨f,g,ad,-⟩:=hd.at;subst ad;have HC:Z _:=hc;have HD:Z (Bg W D (Qc f ds.length g) ds/\D<=W.heap.size):=⟨hd,hD⟩;have HL:Z _:=ae;obtain⟨L,hL⟩:∃L,ds.length=L:=⟨_,rfl⟩;have P:Z _:=hL;have R:Z (CX nm xs=(⟨#[100,97,116,97,47]⟩,nm,Ab (EY (A3 xs)))):=rfl;generalize Ab (EY (A3 xs))=z at N R;rw[hL]
 go_enter func59,ntmps59
 go_wp2_with fail
 refine N.mono ?_;rintro e K ⟨r,k⟩;rcases r with⟨hg,rfl⟩|⟨hg,s,t,u,rfl⟩
 case inr =>
  have X:Z (Rf W b D (Qc f L g) B ds nm xs (Qb (Qr t u)) K):=Qk ⟨hg,⟨_,_,rfl⟩,k⟩;go_wp2;go_ret;exact X.out
 case inl =>
 have ab:=QP HC.out;have d:El K b (Qc f L g) B:=by
  have:=(k.block b ab).trans HC.out;rw[P.out]at this;exact this
 have T:Bg K D (Qc f L g) ds:=by
  have:=HD.out.1.below k;rw[P.out]at this;exact this
 have n:=Wm T d;have k0:K.cell? ⟨b,0,S⟩=I (Qc f L g):=by rw[Qo _ _ _ _ _ _ d];rfl
 obtain⟨v',F,hr,ho,p,hv⟩:=VY T (Qp HD.out.2 k.size) (⟨#[100,97,116,97,47]⟩,nm,z) rfl HL.out;have ac:=(Ac.of_below k).trans p (fun _ h _=>h);have o:=(p.block b (QP d) n).trans d;have k6:F.cell? ⟨b,0,S⟩=I (Qc f L g):=by rw[Qo _ _ _ _ _ _ o];rfl
 have kf:F.frozen? ⟨b,0,S⟩=Qg:=X5 _ _ _ _ _ o;obtain⟨Y,c',rfl,-⟩:=ho.at;have l:∀j,(Qc Y (ds++ [((⟨#[100,97,116,97,47]⟩:ByteArray),nm,z)]).length c').ownBlock=I j->j≠b:=fun j hj e=>by
  rcases hv with y | ⟨i,y,e2,-⟩
  ·exact n (by rw[<-y,hj,e])
  ·rw[hj]at y;injection y with y;have:=QP d;omega
 have X:Z (Rf W b D (Qc f L g) B ds nm xs (.returned Qj) (F.setCell ⟨b,0,S⟩ (Qc Y (ds++ [((⟨#[100,97,116,97,47]⟩:ByteArray),nm,z)]).length c'))):=by
  refine Qi ⟨hg,rfl,Qc Y (ds++ [((⟨#[100,97,116,97,47]⟩:ByteArray),nm,z)]).length c',?_,?_,(Ac.mono (Q:=fun j=>j=b\/(Qc f L g).ownBlock=I j) ac (fun _ h=>Qk h)).setCell (Qi (Qi rfl)) _⟩
  ·unfold El at *;rw[QQ _ _ _ _ _ _ o];rfl
  ·rw[R.out];exact ho.but ((Ac.refl (fun j=>j=b) F).setCell (Qi rfl) _) l
 generalize (ds++ [((⟨#[100,97,116,97,47]⟩:ByteArray),nm,z)]).length=L2 at *
 go_wp2_with (at_builtin;refine wpList_append_run (by rfl) _ _ _ (by rfl) _ _ _ (by rfl) (by rfl) hr ?_)
 go_ret;exact X.out
def IM (g f:Fl):Bool:= !AL f.1 && decide (f.2.2.2.2.2<g.2.2.2.2.2)
def EG (fs:List Fl) (g:Fl):Bool:=AL g.1 && !(fs.any (IM g))
def Em (fs:List Fl):List ByteArray:=(fs.filter (EG fs)).map (·.1)
theorem xK {c:List Fl} {x f:Fl} (h:EG c x=Qf) (d:f∈c) (g:AL f.1=Qg):¬f.2.2.2.2.2<x.2.2.2.2.2:=by
 unfold EG at h;rw[Xj,X0]at h;have b:=List.any_eq_false.1 h.2 f d;unfold IM at b;rw[g]at b;simpa using b
def Hn (s:Sn) (fs:List Fl):Sn:=(s.1,s.2.1,s.2.2.1,s.2.2.2.1,s.2.2.2.2.1,s.2.2.2.2.2.1,fs)
theorem Wp {s:Sn} (h:(Am s).1=0) (p:Fl->Bool):(Am (Hn s (s.2.2.2.2.2.2.filter p))).1=0:=by
 obtain⟨c,d,g,i⟩:=K0.1 h;refine K0.2 ⟨c,d,?_,fun f hf=>i f (Xk.1 hf).1⟩;obtain⟨j,b⟩:=GW.1 g;refine GW.2 ⟨Qp (QF _ _) j,fun f hf=>b.1 f (Xk.1 hf).1,b.2.sublist List.filter_sublist⟩
theorem Ns {b:List Fl} (l:Eh 0 b) {f g:Fl} (m:f∈b) (n:g∈b) (e:f.1=g.1):f=g:=by
 have o:fk f=fk g:=by unfold fk;rw[e]
 obtain⟨i,d,rfl⟩:=Q2.1 m;obtain⟨j,k,rfl⟩:=Q2.1 n;have c:=Xf.1 l.2;rcases Nat.lt_trichotomy i j with h | h | h
 ·have:=c i j d k h;omega
 ·subst h;rfl
 ·have:=c j i k d h;omega
end Go.Proofs.YtcllhobffhkafaaGreatDoor
namespace Go.Proofs.YtcllhobffhkafaaGreatDoor
open Go Go.Lib Go.Sort
abbrev Eo:ByteArray:=⟨#[97]⟩
abbrev Rg:ByteArray:=⟨#[45]⟩
abbrev BX:List Rw:= [(Eo,1,5),(Eo,2,6)]
theorem Rh:∀x∈BX,A0 x=0:=by decide
theorem Ri:A3 BX=BX:=UV (by decide)
theorem Nt:A9 [2]= [2]:=SD (by decide) (fun x=>Iff.rfl)
end Go.Proofs.YtcllhobffhkafaaGreatDoor
namespace Go.Proofs.YtcllhobffhkafaaGreatDoor
open Go.RowKit Go.Extern.Stop Go.Stop Go.Extern Go.Sort Go.Shelf Go.Lib
section
variable {a : Nat → Qq} {B : Nat} {EM : V → Prop} {SAt : V → Qd → (Nat → Prop) → St → Prop}
theorem Ao.set6 {W:V} {f:Nat} {g b c day d:Int} {i:ByteArray} {k gs:List Fl} {v j:Qd} (h:Ao W f (g,b,c,day,d,i,k) v):Ao (W.setCell ⟨f,6,S⟩ j) f (g,b,c,day,d,i,gs) j:=by
 unfold Ao at *;rw[QQ _ _ _ _ _ _ h];rfl
end
section
variable {P : Program} (w : V)
end
theorem xL (g f:Fl) (b:Nat) (w:V) (a:Nat->Qq) (h:Df w a) (n:A1 w b g) (o:f.1.size<=100000) :
  Qe A 145 #[A6 f,J (I ⟨b,0,S⟩)] w fun e w'=>e=Qb (Qn (IM g f))/\BL w w':=by
 have c:BL w (w.alloc (Qa #[H f.1,H f.2.1,O U f.2.2.1,O U f.2.2.2.1,O U f.2.2.2.2.1,O U f.2.2.2.2.2] 77)):=Af _ _;have j:=A1.new w f;have d:=IF f (w.alloc (Qa #[H f.1,H f.2.1,O U f.2.2.1,O U f.2.2.2.1,O U f.2.2.2.2.1,O U f.2.2.2.2.2] 77)) a (h.below c) o;have m:=n.below c;unfold A6 at d ⊢;unfold IM;generalize AL f.1=G at d ⊢
 go_enter func145,ntmps145
 go_upto_region 1 with fail
 obtain⟨u,v,y,q,r,l⟩:=f;obtain⟨z,B,C,D,E,F,-⟩:=j.cells
 go_wp2_with fail
 refine d.mono ?_;rintro e K ⟨rfl,i⟩;have s:=(j.below i).cells.2.2.2.2.2.1;have t:=(m.below i).cells.2.2.2.2.2.1;have k:=Ad c i;cases G
 ·by_cases p:l<g.2.2.2.2.2
  ·go_wp2;go_ret;exact⟨by simp,k⟩
  ·go_wp2;go_ret;exact⟨by simp,k⟩
 ·go_wp2;go_ret;exact⟨by simp,k⟩
def Wq (w:V) (a:Nat->Qq) (fs:List Fl) (e:QJ) (w':V):Prop :=
 ∃v ev,e=Qb (Qh #[v,ev])/\AZ w' a ev (BK fs)/\BL w w'/\((BK fs).1≠0->v=Qc S 0 0)/\((BK fs).1=0->w'.ownsRow w.heap.size 9 1 v (Em fs).length ((Em fs).map H))
def Dm (fs:List Fl) (n:Nat):List ByteArray:=((fs.take n).filter (EG fs)).map (·.1)
theorem xM {b:List Fl} {n:Nat} (h:n<b.length) (e:EG b b[n]=Qf):Dm b (n+1)=Dm b n++ [b[n].1]:=by
 unfold Dm;rw[X6 h,QR,Xe];simp[e]
theorem xN {b:List Fl} {n:Nat} (h:n<b.length) (e:EG b b[n]=Qg):Dm b (n+1)=Dm b n:=by
 unfold Dm;rw[X6 h,QR,Xe];simp[e]
theorem xO (b:List Fl) (n:Nat):(Dm b n).length<=b.length:=by
 unfold Dm;rw[Qs];have c:=QF (EG b) (b.take n);have d:=List.length_take_le' n b;omega
theorem xP (v:Qd) (c:List Fl) (w:V) (a:Nat->Qq) (h:DC w a) (hx:Ai w v c) (hl:c.length<=100) (af:Ej c) :
  Qe A 73 #[v] w fun e w'=>Wq w a c e w':=by
 have eg:=Qy func145 (by kernel_rfl) rfl;have D:=Li v c w a h hx (by omega) af;have E:Z _:=fun W (d:BL w W)=>h.file.env.below d;have HX:Z _:=fun W (d:BL w W)=>hx.below d;have F:Z (∀f∈c,f.1.size<=100000):=fun f hf=>by have:=(af f hf).1;omega
 have ai:Z (∀f∈c,∀W,BL w W->Qe A 139 #[A6 f] W fun e w'=>e=Qb (Qn (AL f.1))/\BL W w'):=fun f hf W d=>IF f W a (E.out W d) (F.out f hf);have K:Z _:=fun g b W (d:BL w W) (hg:A1 W b g)=>OT 145 #[J (I ⟨b,0,S⟩)] (IM g) v c W (HX.out W d) (by omega) eg (fun f hf X hX=>xL g f b X a (E.out X (Ad d hX)) (hg.below hX) (F.out f hf));obtain⟨q,ar,rfl⟩:=hx.form;obtain⟨L,hL⟩:∃L,c.length=L:=⟨_,rfl⟩;have HL:Z _:=hL;have aj:Z (Dm c L=Em c):=by
  show _=_;unfold Dm Em;rw[<-hL,Q7]
 rw[hL]at D HX K ⊢
 go_enter func73,ntmps73
 go_wp2_with fail
 refine D.mono ?_;rintro e w1 ⟨ev,rfl,y,ae⟩;by_cases m:(BK c).1=0
 case neg =>
  have HP:Z (Wq w a c (Qb (Qh #[Qc S 0 0,ev])) w1):=⟨_,_,rfl,y,ae,fun _=>rfl,fun e=>absurd e m⟩;obtain⟨tt,uu,rfl⟩:=y.bad m;go_wp2;refine X7 (v:=Qh #[Qc S 0 0,Qr tt uu]) (by simp[results,results73,go_sem]) rfl ?_;exact HP.out
 case pos =>
 have HE:Z _:=m;have HT:Z (∀W,AZ W a Qj (BK c)):=fun W=>by
  cases hc:BK c with
  | mk n o =>
   rw[hc]at y m;obtain rfl:n=0:=m
   cases o with
   | none=>rfl
   | some j=>exact absurd rfl y.1
 obtain rfl:=y.ok m
 go_wp2_with fail
 go_loopw [5,16] (fun u k wr=> ∃n:Nat,n<=L/\k=O U n/\wr.ownsRow w.heap.size 9 1 u (Dm c n).length ((Dm c n).map H)/\BL w wr) (fun _ k _=>L-(Qm k).toNat)
 case atStart=>exact ⟨0,by omega,rfl,QL _ _ _ _,ae⟩
 case round =>
 obtain⟨n,hn,rfl,ho,d⟩:=hrel;have HO:Z _:=ho;by_cases ak:n<L
 case neg =>
  obtain rfl:n=L:=by omega
  have al:Z (wr.ownsRow w.heap.size 9 1 u5 (Em c).length ((Em c).map H)):=by
   have C:=HO.out;rw[aj.out]at C;exact C
  go_wp2;refine X7 (v:=Qh #[u5,Qj]) (by simp[results,results73,go_sem]) rfl ?_;exact⟨_,_,rfl,HT.out _,d,fun e=>absurd HE.out e,fun _=>al.out⟩
 case pos =>
  have i:n<c.length:=by rw[HL.out];exact ak
  obtain⟨b,o,hq,hc⟩:=(HX.out wr d).cells (fun e=>by rw[e]at i;simp at i);subst hq;obtain⟨c0,c1,c2,c3,c4,c5⟩:=hc n i;have M:Z (EG c c[n]=Qf->Dm c (n+1)=Dm c n++ [c[n].1]):=fun e=>xM i e;have p:Z (EG c c[n]=Qg->Dm c (n+1)=Dm c n):=fun e=>xN i e;have am:Z ((Dm c n).length<=100):=by
   have C:=xO c n;rw[HL.out]at C;show _<=_;omega
  have N:=ai.out c[n] (Q1 _);generalize c[n]=g at c0 c1 c2 c3 c4 c5 M p N;have Q:BL wr (wr.alloc (Qa #[H g.1,H g.2.1,O U g.2.2.1,O U g.2.2.2.1,O U g.2.2.2.2.1,O U g.2.2.2.2.2] 77)):=Af _ _;have R:=A1.new wr g;have T:=Ad d Q;have an:Z _:=AG (P:=fun _=>False) HO.out (Ac.of_below Q) (fun _ _ h=>h)
  go_upto_region 8 with fail
  generalize wr.alloc (Qa #[H g.1,H g.2.1,O U g.2.2.1,O U g.2.2.2.1,O U g.2.2.2.2.1,O U g.2.2.2.2.2] 77)=W2 at *;generalize wr.heap.size=gb at *;obtain⟨d0,d1,d2,d3,d4,d5,-⟩:=R.cells;have ag:=N W2 T
  go_upto_region 9 with fail
  go_wp2_with fail
  refine ag.mono ?_;rintro e w3 ⟨rfl,z⟩;have r:=Ad T z;have Y:=R.below z;have aa:Z _:=AG (P:=fun _=>False) an.out (Ac.of_below z) (fun _ _ h=>h);cases hG:AL g.1
  case false =>
   have HS:Z _:=p.out (by unfold EG;rw[hG];rfl);go_wp2;go_roundw
   case rel=>exact ⟨n+1,by omega,by go_num,by rw[HS.out];exact aa.out,r⟩
   case measure=>simp [Qm];omega
  case true =>
   have ab:=K.out g gb w3 r Y;have ac:Z (c.any (IM g)=Qf->Dm c (n+1)=Dm c n):=fun e=>p.out (by unfold EG;rw[hG,e];rfl);have ad:Z (c.any (IM g)=Qg->Dm c (n+1)=Dm c n++ [g.1]):=fun e=>M.out (by unfold EG;rw[hG,e];rfl);generalize c.any (IM g)=OB at ab ac ad
   go_wp2_with fail
   refine ab.mono ?_;rintro e w4 ⟨rfl,B⟩;have l:=Ad r B;have ao:=Y.below B;have s:Z _:=AG (P:=fun _=>False) aa.out (Ac.of_below B) (fun _ _ h=>h);cases OB
   case true =>
    have HS:=ac.out rfl;have t:Z _:=HS;go_wp2;go_roundw
    case rel=>exact ⟨n+1,by omega,by go_num,by rw[t.out];exact s.out,l⟩
    case measure=>simp [Qm];omega
   case false =>
    have t:Z _:=ad.out rfl;have z0:=ao.cells.1;obtain⟨v',W6,hr,aq,ah,-⟩:=Lm s.out l.size g.1 rfl (by have:=am.out;omega);have ap:=l.trans (ah.below l.size (fun k hk=>(A7 s.out hk).1));have HR:Z (W6.ownsRow w.heap.size 9 1 v' (Dm c (n+1)).length ((Dm c (n+1)).map H)):=by
     show Q9 _ _ _ _ _ _ _;rw[t.out];exact aq
    go_wp2_with (at_builtin;refine wpList_append_run (by rfl) _ _ _ (by rfl) _ _ _ (by rfl) (by rfl) hr ?_)
    go_roundw
    case rel=>exact ⟨n+1,by omega,by go_num,HR.out,ap⟩
    case measure=>simp [Qm];omega
abbrev Gp:=ByteArray×Int×List ByteArray
def Cl (f:Fl) (g:Gp):Bool:=decide (g.1=f.2.1) && decide (g.2.1+f.2.2.1<=40)
def CK (f:Fl) (g:Gp):Gp:=(g.1,g.2.1+f.2.2.1,g.2.2++ [f.1])
def Co (f:Fl):List Gp->List Gp
 | []=> [CK f (f.2.1,0, [])]
 | g :: r=>if Cl f g=Qf then CK f g :: r else g :: Co f r
theorem Wr (f:Fl):∀ {gs:List Gp},gs.any (Cl f)=Qg->Co f gs=gs++ [CK f (f.2.1,0, [])]
 | [],_=>rfl
 | g :: r,h=>by
  rw[List.any_cons,Bool.or_eq_false_iff]at h;unfold Co;rw[if_neg (by rw[h.1];simp),Wr f h.2];rfl
theorem Ws (f:Fl):∀ {gs:List Gp} {n:Nat} (h:n<gs.length),Cl f gs[n]=Qf->(∀j (hj:j<gs.length),j<n->Cl f gs[j]=Qg)->Co f gs=gs.set n (CK f gs[n])
 | [],n,h,_,_=>by simp at h
 | g :: r,0,_,h1,_=>by
  unfold Co;rw[if_pos (show Cl f g=Qf from h1)];rfl
 | g :: r,n+1,h,h1,h2=>by
  have b:=h2 0 (by simp) (by omega);unfold Co;rw[if_neg (by rw[show Cl f g=Qg from b];simp),Ws f (n:=n) (by simpa using h) h1 (fun j hj hjn=>h2 (j+1) (by simpa using hj) (by omega))];rfl
def Cp (W:V) (gb:Nat) (g:Gp) (vp:Qd):Prop:=W.heap[gb]? =I (Qa #[H g.1,O U g.2.1,vp] 205 (0,0))
theorem Cp.lt {W:V} {b:Nat} {g:Gp} {c:Qd} (h:Cp W b g c):b<W.heap.size:=QP h
theorem Cp.cells {W:V} {b:Nat} {g:Gp} {c:Qd} (h:Cp W b g c):W.cell? ⟨b,0,S⟩=I (H g.1)/\W.cell? ⟨b,1,S⟩=I (O U g.2.1)/\W.cell? ⟨b,2,S⟩=I c/\∀o,W.frozen? ⟨b,o,S⟩=Qg:=by
 refine⟨?_,?_,?_,fun o=>X5 _ _ _ _ _ h⟩<;>rw [Qo _ _ _ _ _ _ h]<;>rfl
theorem Cp.but {P:Nat->Prop} {W c:V} {b:Nat} {g:Gp} {d:Qd} (h:Cp W b g d) (f:Ac P W c) (i:¬P b):Cp c b g d:=(f.block b h.lt i).trans h
theorem Cp.below {W c:V} {b:Nat} {g:Gp} {d:Qd} (h:Cp W b g d) (f:BL W c):Cp c b g d:=(f.block b h.lt).trans h
theorem Cp.set1 {W:V} {b:Nat} {g:Gp} {c:Qd} (h:Cp W b g c) (n:Int):Cp (W.setCell ⟨b,1,S⟩ (O U n)) b (g.1,n,g.2.2) c:=by
 unfold Cp at *;rw[QQ _ _ _ _ _ _ h];rfl
theorem Cp.set2 {W:V} {b:Nat} {g:Gp} {c:Qd} (h:Cp W b g c) (v:Qd) (ps:List ByteArray):Cp (W.setCell ⟨b,2,S⟩ v) b (g.1,g.2.1,ps) v:=by
 unfold Cp at *;rw[QQ _ _ _ _ _ _ h];rfl
theorem xQ (f:Fl) (g:Gp) (o:Nat) (u:Qd) (w:V) (v:Cp w o g u) (W:0<=g.2.1/\g.2.1<=1000000) (X:0<=f.2.2.1/\f.2.2.1<=1000000) :
  Qe A 227 #[J (I ⟨o,0,S⟩),A6 f] w fun e w'=>e=Qb (Qn (Cl f g))/\BL w w':=by
 have c:BL w (w.alloc (Qa #[H f.1,H f.2.1,O U f.2.2.1,O U f.2.2.2.1,O U f.2.2.2.2.1,O U f.2.2.2.2.2] 77)):=Af _ _;have l:=A1.new w f;have m:=v.below c;have y:IntKind.i64.wrap (g.2.1+f.2.2.1)=g.2.1+f.2.2.1:=IntWalk.i64_in _ (by omega);have d:Z (Cl f g=(decide (g.1=f.2.1) && decide (g.2.1+f.2.2.1<=40))):=rfl;generalize Cl f g=R at d ⊢;unfold A6
 go_enter func227,ntmps227
 go_upto_region 1 with fail
 obtain⟨C,q,r,z,B,s⟩:=f;obtain⟨k,t,D⟩:=g;obtain⟨E,F,K,L,M,N,-⟩:=l.cells;obtain⟨P,Q,T,-⟩:=m.cells;by_cases i:k=q
 ·subst i;have p:(k.toList == k.toList)=Qf:=by simp
  by_cases n:t+r<=40
  ·have j:=decide_eq_true n;have b:Z (R=Qf):=by show _=_;rw[d.out,j];simp
   go_quiet (fail)
   go_wp2;go_ret;exact⟨by rw[b.out];rfl,AK c _⟩
  ·have j:=decide_eq_false n;have b:Z (R=Qg):=by show _=_;rw[d.out,j];simp
   go_quiet (fail)
   go_wp2;go_ret;exact⟨by rw[b.out];rfl,AK c _⟩
 ·have p:=KV (fun e=>i (Iw e));have b:Z (R=Qg):=by show _=_;rw[d.out,decide_eq_false i];rfl
  go_quiet (fail)
  go_wp2;go_ret;exact⟨by rw[b.out];rfl,AK c _⟩
end Go.Proofs.YtcllhobffhkafaaGreatDoor
