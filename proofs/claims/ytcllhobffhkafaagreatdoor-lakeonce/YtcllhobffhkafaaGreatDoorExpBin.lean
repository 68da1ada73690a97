/- By an AI agent. -/
import Derived.Test.YtcllhobffhkafaaGreatDoorExpKeep
import Derived.Shelf.Slices.CompactS
import Derived.Shelf.SlIter.Nil
import Derived.Ground.GgzProg
set_option maxRecDepth 100000
set_option maxHeartbeats 16000000
open Go.Proofs.Tryz
open Bool renaming true->Qa,false->Qd
open Go renaming Calls->G,World->Qb,Value->Qe
open Go.Ending renaming returned->A
open Go.IntKind renaming i64->Z
open Go.Lib renaming compact->Qg,holds_of_ownsRow->QB,ownsRow_putRow->QC
open Go.Proofs renaming intOf->Qi,encStr->Qm
open Go.Proofs.Tryz renaming prog->I,underlying82->Qp,isAgg82->Qq,sizeOf82->Qr,zeroValue82->Qs,isAgg9->Q0,sizeOf9->Q1,underlying116->Q5,zeroValue116->Q6,underlying9->Q7,zeroValue9->Q8
open Go.RowKit renaming Hid->O
open Go.RowKit.Below renaming refl->Qj
open Go.Shelf renaming Ren->Ql
open Go.Sort renaming putRow->Qt,ahead->Qu
open Go.Value renaming int->U,string->J,slice->H,pointer->Qc,tuple->Qf,nilIface->Qk,iface->Qo,bool->Qy
open List renaming length_map->Qn,length_append->Qv,length_cons->Qx,replicate->Qz,flatMap_append->Q2,flatMap_cons->Q3,getElem_mem->Q4,map_map->Q9,length_eq_zero_iff->QA,take_append_getElem->QD,take_length->QE,pairwise_iff_getElem->QF,mem_iff_getElem->QG
open Nat renaming le_trans->Qh,le_refl->Qw
open Option renaming some->S,none->V
namespace Go.Proofs.YtcllhobffhkafaaGreatDoor
open Go.RowKit Go.Extern.Stop Go.Stop Go.Extern Go.Sort Go.Shelf Go.Lib
def G8 (k k':Lk) (_:Int):Prop:=k'=k\/∃zs,k'.ids=BW k.ids zs/\k'.now=k.now/\k'.spec=k.spec/\(∀x t,AK k.st x t->AK k'.st x t)/\Ax k'/\∀m,k.st.head=AG m->∃n,k'.st.head=AG n/\m<n
theorem tO {k:Lk} (hi:Ax k) (zs:List Int) {s:St} {m:Int} (i:B3 s) (b:∀x t,AK k.st x t->AK s x t) (c:s.head=AG m) (j:CF (AG m).data.toList=Qa) (l:AK s (AG m) (Ab (B6 (BW k.ids zs)))) (d:m=Ag k.st) (z:Int):G8 k { k with st:=s,ids:=BW k.ids zs } z:=by
 refine Or.inr ⟨zs,rfl,rfl,rfl,b,⟨i,TD hi.ids,⟨m,c,j,c▸l⟩,fun id hid=>(hi.snaps id ((K9 _ _).mem hid)).imp fun x hx=>hx.up b,hi.now.up b,?_⟩,fun n hn=>⟨m,c,?_⟩⟩
 rotate_left
 ·obtain⟨o,f,-,g⟩:=hi.head;rw[d];refine KZ hi.good.keeps MM (t:=Ab (B6 k.ids)) ?_;show AK k.st (AG n) _;rw[<-hn,f];exact g
 show (BW k.ids zs).getLast? =_;unfold BW;rw[hi.last];simp
theorem tP {k:Lk} (hi:Ax k):k.st.head.size<=1000:=by
 obtain⟨m,b,c,-⟩:=hi.head;rw[b];have:=G5 c;omega
section
variable {a : Nat → Addr} {B : Nat} {EM : Qb → Prop}
theorem tQ (K:AJ a B EM A0) (HL:∀X,EM X->Bg X a) {W:Qb} {d:Nat} {vs:Qe} {f:Nat->Prop} {vi vf:Qe} {k:Lk} (hE:EM W) (h:An W d vs f k.st.head vi vf k) (hi:Ax k) (hB:B<=d/\∀j,f j->B<=j) (age count:Int) :
  G I 35 #[Qc (S ⟨d,0,V⟩),U Z age,U Z count] W (AX W d vs f k (G8 k) False):=by
 obtain⟨o,rfl⟩:=h.ptr K;have F:O (∀X,BL W X->EM X):=fun X hb=>K.below _ _ hE (hb.mono (K.size _ hE));have HQ:O (∀X,BL W X->An X d (Qc (S o)) f k.st.head vi vf k):=fun X hb=>h.quiet K hb;obtain⟨C,hl,-,a7⟩:=V5 K HL hE h hi;have au:=(Py hi.ids).1;have aj:=a7 W (Qj _ _);have ak:O ((Ev k.st.day age count C).length<=100):=by
  have h1:=Ts k.st.day age count C C.length;rw[Tr]at h1;show _<=100;omega
 have ac:O (∀Y X v,BL Y X->FX Y v C->G I 76 #[v,U Z k.st.day,U Z age,U Z count] X fun e w'=> ∃v',e=A v'/\A3 w' v' (Ev k.st.day age count C)/\BL X w'):=fun Y X v hb hv=>(tN v C k.st.day age count X (hv.below hb) (by omega)).mono fun e w' ⟨v',e1,e2,e3⟩=>⟨v',e1,NK e2,e3⟩;have al:O (∀X,BL W X->G I 77 #[Qc (S o)] X fun e w'=>e=A (U Z k.st.day)/\BL X w'):=fun X hb=>K.day X _ f k.st (F.out X hb) (HQ.out X hb).st hi.good.keeps;generalize Ev k.st.day age count C=r at ak ac;generalize k.st.day=dy at ac al;have ad:O (∀X E,BL W X->A3 X E r->G I 75 #[vi,E] X fun e w'=> ∃p,e=A (Qf #[p,Qk])/\C4 w' p (BW k.ids r)/\Iy X p/\BL X w'):=fun X E hb hk=>(tF vi E k.ids r X a (HL X (F.out X hb)).m (HQ.out X hb).ids hk (by omega) ak.out).mono fun e w' ⟨p,ev,e1,e2,e3,e4,e5⟩=>by
  rw[JO,if_pos hi.ids]at e2;exact⟨p,by rw[e1,e4.ok hi.ids],e2,e3,e5⟩
 have N:O (∀X vj,BL W X->C4 X vj (BW k.ids r)->(∀j,vj.ownBlock=S j->W.heap.size<=j)->G I 78 #[Qc (S ⟨d,0,V⟩),A9 k.now vf,vj] X (Dk a X d (Qc (S o)) f vi vf k vj vf (BW k.ids r) k.now (fun m s=>m=Ag k.st/\∀n,Rm (n+1) k.st->Rm n s) (Rm 1 k.st))):=fun X vj hb hj hn=>Vr K HL (F.out X hb) (HQ.out X hb) hi.good hB (tP hi) vj vf (BW k.ids r) k.now hj (TD hi.ids) (fun _ j hv=>⟨fun e=>by have:=hn j hv;have:=h.blk.lt;omega,fun e=>by have:=hn j hv;have:=(h.sizes K).2 j e;omega⟩) (HQ.out X hb).fls h.offf;have av:O (∀X t u,BL W X->AX W d (Qc (S o)) f k (G8 k) False (A (Qf #[U Z 0,Qo t u])) X):=fun X t u hb=>AX.bad h hi.good K hb id;have aw:O (∀X,BL W X->AX W d (Qc (S o)) f k (G8 k) False (A (Qf #[U Z 0,Qk])) X):=fun X hb=>AX.same h K hb (Or.inl rfl);have ae:O (∀X Y e vj z,BL W X->(∀j,vj.ownBlock=S j->W.heap.size<=j)->Dk a X d (Qc (S o)) f vi vf k vj vf (BW k.ids r) k.now (fun m s=>m=Ag k.st/\∀n,Rm (n+1) k.st->Rm n s) (Rm 1 k.st) e Y->∃ev,e=A ev/\(((∃t u,ev=Qo t u)/\AX W d (Qc (S o)) f k (G8 k) False (A (Qf #[U Z 0,ev])) Y)\/(ev=Qk/\AX W d (Qc (S o)) f k (G8 k) False (A (Qf #[U Z z,Qk])) Y))):=fun X Y e vj z hX hnj hp=>by
  obtain⟨n,ar,rfl,h1,h2,h3⟩:=hp;have ax:Ac (fun j=>f j\/j=d) W Y:=(Ac.of_below hX).trans h1 (fun _ h _=>h);have ay:∀j,ar j->f j\/W.heap.size<=j:=fun j hj=>(h2 j hj).imp_right (Qh hX.size);rcases h3 with⟨hn,-,s',hg,hq⟩|⟨rfl,s',m,h4,h5,h6,h7,h8,hX,h9⟩
  ·obtain⟨i,rfl⟩:∃i,n=i+1:=⟨n-1,by omega⟩;refine⟨_,rfl,Or.inl ⟨⟨_,_,rfl⟩,ar,vi,vf, { k with st:=s' },0,_,rfl,ax,ay,⟨?_,h.owt⟩,Or.inl ⟨⟨_,_,rfl⟩,id,s',hg,rfl⟩⟩⟩;show An _ _ _ _ s'.head _ _ _;rw[hg.head];exact hq
  ·refine⟨_,rfl,Or.inr ⟨rfl,ar,vj,vf, { k with st:=s',ids:=BW k.ids r,now:=k.now },_,_,rfl,ax,ay,⟨?_,fun j hj=>hj.elim (fun e=>Or.inl (hnj j e)) (fun e=>h.owt j (Or.inr e))⟩,Or.inr ⟨rfl,tO hi r h4 h5 h6 h7 h8 hX.1 z⟩⟩⟩;show An _ _ _ _ s'.head _ _ _;rw[h6];exact h9
 have af:O ((BW k.ids r).length<=k.ids.length):=(K9 _ _).length_le;have az:O (∀X,BL W X->X.cell? ⟨1,0,V⟩=S (Qo 410 (Qc (S (a 1))))):=fun X hb=>(HL X (F.out X hb)).m.bound;obtain⟨q,c,bd⟩:=h.ids.1.form;subst bd;obtain⟨qf,cf,be⟩:=h.fls.form;subst be;obtain⟨P,-,-,Q,c4,c5,c6,c7,c8,R,y,-⟩:=h.blk.cells;have a0:=I2 P;obtain⟨LS,bf⟩:∃L,C.length=L:=⟨_,rfl⟩;obtain⟨L,hL⟩:∃L,k.ids.length=L:=⟨_,rfl⟩;rw[hL]at af au Q ad ae N HQ;unfold A9 at N;generalize BW k.ids r=KF at ad N ae af;generalize k.now.2.2.2.2.2.2.length=LF at *;clear hE h hi hB hl a7 ak hL F HQ
 go_enter func35,ntmps35
 go_wp2_with fail
 refine a0.mono ?_;rintro e w1 ⟨rfl,e1⟩;rw[e1];clear a0 e1;by_cases l:age<0\/count<0
 case pos =>
  have HP:O (∀X,BL W X->AX W d (Qc (S o)) f k (G8 k) False (A (Qf #[U Z 0,Qo 410 (Qc (S (a 1)))])) X):=fun X hX=>av.out X _ _ hX;have bk:=az.out W (Qj _ _);clear aj P Q c4 c5 c6 c7 c8 R y au;by_cases h1:age<0
  ·clear l;go_wp2
   go_quiet (fail)
   go_wp2;go_ret2;exact HP.out _ (AH (Qj _ _) nq)
  ·have h2:count<0:=l.resolve_left h1;clear l;go_wp2
   go_quiet (fail)
   go_wp2;go_ret2;exact HP.out _ (AH (Qj _ _) nq)
 case neg =>
 have bl:¬age<0:=fun e=>l (Or.inl e);have bm:¬count<0:=fun e=>l (Or.inr e);clear l az
 go_wp2_with fail
 refine aj.mono ?_;rintro e D ⟨v2,rfl,ho,b⟩;have am:=ho.sns;obtain⟨q2,ba,rfl⟩:=am.form;have an:O (∀X,BL D X->G I 76 #[H q2 C.length ba,U Z dy,U Z age,U Z count] X fun e w'=> ∃v',e=A v'/\A3 w' v' r/\BL X w'):=fun X hb=>ac.out D X _ hb am;have a1:O (∀X,BL D X->_):=fun X hb=>al.out X (Ad b hb);have a2:O (∀X E,BL D X->A3 X E r->_):=fun X E hb hk=>ad.out X E (Ad b hb) hk;have ao:O (BL W D):=b;rw[bf]at an ⊢;replace P:=Aa b P;replace Q:=Aa b Q;replace c4:=Aa b c4;replace c5:=Aa b c5;replace c6:=Aa b c6;replace c7:=Aa b c7;replace c8:=Aa b c8;replace R:=Aa b R;replace y:=Aa b y;have T:BL D D.drew:=(Qj _ _).drew;have bb:=Aa T P;have a3:=Aa T Q;clear aj ho am b al ad ac
 go_upto_region 8 with fail
 go_cut [9,10] from 31 to 47 (fun R y wx=> ∃p,p=y/\R=Qk/\C4 wx p KF/\Iy D p/\BL D wx)
 case first =>
  go_region_with (first
   | (go_at_call 77;(with_reducible refine(a1.out _ T).mono ?_);rintro e wX ⟨rfl,a8⟩;have ap:=(Ad T a8);have bc:=Aa a8 a3)
   | (go_at_call 76;(with_reducible refine(an.out _ ap).mono ?_);rintro e wY ⟨E,rfl,bi,a9⟩;have ab:=(Ad ap a9);have bn:=Aa a9 bc)
   | (go_at_call 75;(with_reducible refine(a2.out _ _ ab bi).mono ?_);rintro e wZ ⟨p,rfl,aa,ai,bj⟩))
  all_goals
   go_wp2;go_meet
   case rel=>exact ⟨p,rfl,rfl,aa,fun j hj=>Qh ab.size (ai j hj),(Ad ab bj)⟩
 case rest =>
 obtain⟨p,rfl,rfl,aa,ai,g⟩:=hcut;have ag:=ao.out.trans (g.mono ao.out.size);have aq:O (∀j,p.ownBlock=S j->W.heap.size<=j):=fun j hj=>Qh ao.out.size (ai j hj);obtain⟨q6,bg,rfl⟩:=aa.1.form;have ah:=N.out wc _ ag aa aq.out;obtain⟨M,hM⟩:∃M,KF.length=M:=⟨_,rfl⟩;have bo:M<=L:=hM▸af.out;rw[hM]at ah aq ⊢;have a4:O (∀Y e z,Dk a wc d (Qc (S o)) f (H q L c) (H qf LF cf) k (H q6 M bg) (H qf LF cf) KF k.now (fun m s=>m=Ag k.st/\∀n,Rm (n+1) k.st->Rm n s) (Rm 1 k.st) e Y->_):=fun Y e z hp=>ae.out wc Y e _ z ag aq.out hp;have a5:O (AX W d (Qc (S o)) f k (G8 k) False (A (Qf #[U Z 0,Qk])) wc):=aw.out wc ag;replace P:=Aa g P;replace Q:=Aa g Q;replace c4:=Aa g c4;replace c5:=Aa g c5;replace c6:=Aa g c6;replace c7:=Aa g c7;replace c8:=Aa g c8;replace R:=Aa g R;replace y:=Aa g y;clear aa ai g ag T bb a3 a1 an a2 N ae aw av af hM;by_cases a6:L=M
 case pos =>
  subst a6;have hd:decide ((L:Int)-(L:Int)=0)=Qa:=decide_eq_true (by omega);clear ah;go_wp2;go_ret2;exact a5.out
 case neg =>
 have hd:¬((L:Int)-(M:Int)=0):=by omega
 clear a6 a5
 go_wp2_with fail
 refine ah.mono ?_;rintro e w7 hp;obtain⟨ev,rfl,bh⟩:=a4.out w7 e ((L:Int)-(M:Int)) hp;clear ah hp a4 P Q c4 c5 c6 c7 c8 R y;rcases bh with⟨⟨t,u,rfl⟩,hP⟩|⟨rfl,hP⟩
 ·have HP:O (AX W d (Qc (S o)) f k (G8 k) False (A (Qf #[U Z 0,Qo t u])) w7):=hP;clear hP;go_wp2;go_ret2;exact HP.out
 ·have HP:O (AX W d (Qc (S o)) f k (G8 k) False (A (Qf #[U Z ((L:Int)-(M:Int)),Qk])) w7):=hP;clear hP;go_wp2;go_ret2;exact HP.out
end
end Go.Proofs.YtcllhobffhkafaaGreatDoor
namespace Go.Proofs
open Go.Shelf
def Tryz.laysNm216_ren:Ql:=⟨fun | 16=>89 | n=>n,fun | 24=>82 | 9=>9 | 4=>4 | n=>n,fun | n=>n⟩
theorem Tryz.laysNm216:Go.Proofs.Lays2.n16 I laysNm216_ren:= { lays172 with
 mixed:=by kernel_rfl
 f16:=Tryz.lq func89 (by kernel_rfl)
 t24:=Qp
 a24:=Qq
 z24:=Qr
 v24:=Qs
 i9:=by kernel_rfl }
open Go.RowKit Go.Lib in
theorem Tryz.slices_Clone_string (b d n c:Nat) (zs:List ByteArray) (w:Qb) (g:n<=zs.length) (f:n*16<=140737488355328) (i:∀j,j<zs.length->w.cell? ⟨b,d+j,V⟩=S (J (zs.getD j ByteArray.empty))) :
 G I 89 #[H (S ⟨b,d,V⟩) n c] w fun e w'=> ∃v',e=A v'/\w'.ownsRow w.heap.size 9 1 v' n ((zs.take n).map (J))/\v'≠ H V 0 0/\Below w.heap.size w w':=Any.slices_Clone_string laysNm216 b d n c zs w g f i
open Go.RowKit Go.Lib in
theorem Tryz.slices_Clone_string_nil (n c:Nat) (w:Qb) :
 G I 89 #[H V n c] w fun e w'=>e=A (H V 0 0)/\w'=w:=Any.slices_Clone_string_nil laysNm216 n c w
open Go.RowKit Go.Lib in
theorem Tryz.slices_Clone_string_zero (a:Addr) (c:Nat) (w:Qb) :
 G I 89 #[H (S a) 0 c] w fun e w'=> ∃v',e=A v'/\w'.ownsRow w.heap.size 9 1 v' 0 []/\v'≠ H V 0 0/\Below w.heap.size w w':=Any.slices_Clone_string_zero laysNm216 a c w
def Tryz.lays194_ren:Ql:=⟨fun | 194=>88 | n=>n,fun | 31=>82 | 9=>9 | 3=>3 | 4=>4 | 0=>0 | n=>n,fun | n=>n⟩
theorem Tryz.lays194:Go.Proofs.Lays.n194 I lays194_ren:= { lays146 with
 mixed:=by kernel_rfl
 f194:=Tryz.lq func88 (by kernel_rfl) }
open Go.RowKit Go.Lib Go.Sort in
theorem Tryz.slices_Compact_string (b c d:Nat) (zs:List (List UInt8)) (w:Qb) (i:Holds Qm w b c zs.toArray) (g:zs.length<=9223372036854775807) (f:zs.length<=d) :
 G I 88 #[H (S ⟨b,c,V⟩) zs.length d] w fun e w'=>e=A (H (S ⟨b,c,V⟩) (Qg zs).length d)/\∃q,w'=Qt Qm (Qu w q) b c (Qg zs++Qz (zs.length-(Qg zs).length) []).toArray:=Any.slices_Compact_string lays194 b c d zs w i g f
open Go.RowKit Go.Lib Go.Sort in
theorem Tryz.slices_Compact_string_empty (a:Option Addr) (b:Nat) (w:Qb) :
 G I 88 #[H a 0 b] w fun e w'=>e=A (H a 0 b)/\w'=w:=Any.slices_Compact_string_empty lays194 a b w
def Tryz.laysSlH10_f90_ren:Ql:=⟨fun | 10=>90 | 6=>165 | n=>n,fun | 22=>82 | 23=>9 | 25=>116 | 3=>3 | 4=>4 | 0=>0 | n=>n,fun | n=>n⟩
theorem Tryz.laysSlH10:Go.Proofs.SlLaysH.n10 I laysSlH10_f90_ren:= { lays172 with
 mixed:=by kernel_rfl
 f6:=⟨Tryz.f165.name,by decide,Tryz.lq func165 (by kernel_rfl)⟩
 f10:=⟨Tryz.f90.name,by decide,Tryz.lq func90 (by kernel_rfl)⟩
 t22:=Qp
 a22:=Qq
 z22:=Qr
 v22:=Qs
 a23:=Q0
 z23:=Q1
 t25:=Q5
 a25:=isAgg116
 z25:=sizeOf116
 v25:=Q6 }
open Go.RowKit Go.Lib Go.Sort in
theorem Tryz.slices_DeleteFunc {α:Type} [Inhabited α] (enc:α->Qe) (n:OneCell enc) (p:α->Bool) (g:Nat) (lb:Array Qe) (o:∀args w,(callFunc g args).run I w= .ok (.enter g args) w) (i:α) (k:∀w,(zeroValue 9).run I w= .ok (enc i) w) (b c f:Nat) (d:Array α) (w:Qb) (r:PredAt I g lb enc p w) (l:PredOver I g lb enc p b c d.size w) (s:Holds enc w b c d) (m:d.size<=9223372036854775807) (j:d.size<=f) :
 G I 90 #[H (S ⟨b,c,V⟩) d.size f,.func (.func g) #[] lb] w fun e w'=>e=A (H (S ⟨b,c,V⟩) (d.toList.filter fun x=> !p x).length f)/\∃q,w'=Qt enc (Qu w q) b c ((d.toList.filter fun x=> !p x)++Qz (d.size-(d.toList.filter fun x=> !p x).length) i).toArray:=AnyE.slices_DeleteFunc laysSlH10 enc n p g lb o i k b c f d w r l s m j
def Tryz.laysSlH6_f165_ren:Ql:=⟨fun | 6=>165 | n=>n,fun | 22=>82 | 23=>9 | 25=>116 | 3=>3 | 0=>0 | 4=>4 | n=>n,fun | n=>n⟩
theorem Tryz.laysSlH6:Go.Proofs.SlLaysH.n6 I laysSlH6_f165_ren:= { laysSlH10 with
 mixed:=by kernel_rfl
 f6:=⟨Tryz.f165.name,by decide,Tryz.lq func165 (by kernel_rfl)⟩ }
open Go.RowKit Go.Lib in
theorem Tryz.slices_IndexFunc_empty {α:Type} [Inhabited α] (a:Option Addr) (c:Nat) (b:Qe) (w:Qb) :
 G I 165 #[H a 0 c,b] w fun e w'=>e=A (U Z (-1))/\w'=w:=AnyE.slices_IndexFunc_empty laysSlH6 a c b w
end Go.Proofs
namespace Go.Proofs
open Go.Shelf
def Tryz.keysO_ren:Ql:=⟨fun | 7=>167 | 10=>257 | n=>n,fun | 23=>68 | 26=>9 | 3=>153 | 28=>224 | 0=>0 | 27=>223 | 33=>116 | 4=>4 | n=>n,fun | n=>n⟩
theorem Tryz.keysO:Go.Proofs.SlLaysZ.n7 I keysO_ren:= { lays172 with
 mixed:=by kernel_rfl
 f7:=⟨Tryz.f167.name,by decide,Tryz.lq func167 (by kernel_rfl)⟩
 f10:=⟨Tryz.f257.name,by decide,Tryz.lq func257 (by kernel_rfl)⟩
 t23:=underlying68
 a23:=isAgg68
 z23:=sizeOf68
 v23:=zeroValue68
 t26:=Q7
 a26:=Q0
 z26:=Q1
 v26:=Q8
 t27:=underlying223
 a27:=isAgg223
 z27:=sizeOf223
 v27:=zeroValue223
 t28:=underlying224
 a28:=isAgg224
 z28:=sizeOf224
 v28:=zeroValue224
 t33:=Q5
 a33:=isAgg116
 z33:=sizeOf116
 v33:=Q6 }
def Tryz.sortedO_ren:Ql:=⟨fun | 6=>166 | 8=>256 | 9=>87 | 11=>323 | 13=>99 | 12=>164 | 23=>181 | 24=>182 | 14=>248 | 15=>249 | 16=>250 | 17=>251 | 18=>252 | 19=>253 | 20=>168 | 21=>254 | 22=>255 | 25=>320 | 26=>264 | 27=>265 | 28=>321 | 29=>322 | 30=>258 | 31=>360 | n=>n,fun | 26=>9 | 28=>224 | 24=>82 | 0=>0 | 3=>3 | 37=>159 | 48=>229 | 50=>242 | 4=>4 | 40=>235 | 39=>234 | 45=>90 | 5=>5 | 9=>9 | 51=>299 | 55=>303 | 57=>351 | 58=>267 | 33=>116 | n=>n,fun | n=>n⟩
theorem Tryz.sortedO:Go.Proofs.SlLaysZ.n6 I sortedO_ren:= { keysO with
 mixed:=by kernel_rfl
 f6:=⟨Tryz.f166.name,by decide,Tryz.lq func166 (by kernel_rfl)⟩
 f8:=⟨Tryz.f256.name,by decide,Tryz.lq func256 (by kernel_rfl)⟩
 f11:=⟨Tryz.f323.name,by decide,Tryz.lq func323 (by kernel_rfl)⟩
 t24:=Qp
 a24:=Qq
 z24:=Qr
 v24:=Qs
 i26:=by kernel_rfl }
def Tryz.sortO_ren:Ql:=⟨fun | 6=>87 | 8=>99 | 9=>164 | 19=>181 | 20=>182 | 21=>248 | 22=>249 | 23=>250 | 24=>251 | 25=>252 | 26=>253 | 27=>168 | 28=>254 | 29=>255 | 36=>320 | 31=>264 | 32=>265 | 37=>321 | 38=>322 | 39=>258 | 41=>360 | n=>n,fun | 27=>82 | 29=>9 | 3=>3 | 32=>159 | 26=>82 | 0=>0 | 44=>229 | 46=>242 | 4=>4 | 36=>235 | 35=>234 | 41=>90 | 5=>5 | 9=>9 | 53=>299 | 57=>303 | 63=>351 | 64=>267 | n=>n,fun | n=>n⟩
theorem Tryz.sortO:Go.Proofs.SlLaysM.n6 I sortO_ren:= { lays172 with
 mixed:=by kernel_rfl
 f6:=⟨Tryz.f87.name,by decide,Tryz.lq func87 (by kernel_rfl)⟩
 f8:=Tryz.lq func99 (by kernel_rfl)
 f9:=⟨Tryz.f164.name,by decide,Tryz.lq func164 (by kernel_rfl)⟩
 f19:=Tryz.lq func181 (by kernel_rfl)
 f20:=Tryz.lq func182 (by kernel_rfl)
 f21:=⟨Tryz.f248.name,by decide,Tryz.lq func248 (by kernel_rfl)⟩
 f22:=⟨Tryz.f249.name,by decide,Tryz.lq func249 (by kernel_rfl)⟩
 f23:=⟨Tryz.f250.name,by decide,Tryz.lq func250 (by kernel_rfl)⟩
 f24:=⟨Tryz.f251.name,by decide,Tryz.lq func251 (by kernel_rfl)⟩
 f25:=⟨Tryz.f252.name,by decide,Tryz.lq func252 (by kernel_rfl)⟩
 f26:=⟨Tryz.f253.name,by decide,Tryz.lq func253 (by kernel_rfl)⟩
 f27:=⟨Tryz.f168.name,by decide,Tryz.lq func168 (by kernel_rfl)⟩
 f28:=⟨Tryz.f254.name,by decide,Tryz.lq func254 (by kernel_rfl)⟩
 f29:=⟨Tryz.f255.name,by decide,Tryz.lq func255 (by kernel_rfl)⟩
 f31:=Tryz.lq func264 (by kernel_rfl)
 f32:=Tryz.lq func265 (by kernel_rfl)
 f36:=⟨Tryz.f320.name,by decide,Tryz.lq func320 (by kernel_rfl)⟩
 f37:=⟨Tryz.f321.name,by decide,Tryz.lq func321 (by kernel_rfl)⟩
 f38:=⟨Tryz.f322.name,by decide,Tryz.lq func322 (by kernel_rfl)⟩
 f39:=⟨Tryz.f258.name,by decide,Tryz.lq func258 (by kernel_rfl)⟩
 f41:=⟨Tryz.f360.name,by decide,Tryz.lq func360 (by kernel_rfl)⟩
 t26:=Qp
 a26:=Qq
 z26:=Qr
 v26:=Qs
 t27:=Qp
 a27:=Qq
 z27:=Qr
 v27:=Qs
 t29:=Q7
 a29:=Q0
 z29:=Q1
 v29:=Q8
 t32:=underlying159
 a32:=isAgg159
 z32:=sizeOf159
 v32:=zeroValue159
 t35:=underlying234
 a35:=isAgg234
 z35:=sizeOf234
 v35:=zeroValue234
 t36:=underlying235
 a36:=isAgg235
 z36:=sizeOf235
 v36:=zeroValue235
 t41:=underlying90
 a41:=isAgg90
 z41:=sizeOf90
 v41:=zeroValue90
 t44:=underlying229
 a44:=isAgg229
 z44:=sizeOf229
 v44:=zeroValue229
 t46:=underlying242
 a46:=isAgg242
 z46:=sizeOf242
 v46:=zeroValue242
 t53:=underlying299
 a53:=isAgg299
 z53:=sizeOf299
 v53:=zeroValue299
 t57:=underlying303
 a57:=isAgg303
 z57:=sizeOf303
 v57:=zeroValue303
 t63:=underlying351
 a63:=isAgg351
 z63:=sizeOf351
 v63:=zeroValue351
 t64:=underlying267
 a64:=isAgg267
 z64:=sizeOf267
 v64:=zeroValue267 }
end Go.Proofs
namespace Go.Proofs.YtcllhobffhkafaaGreatDoor
open Go.RowKit Go.Extern.Stop Go.Stop Go.Extern Go.Sort Go.Shelf Go.Lib
theorem Pz (b:List ByteArray):(b.map AW).map Qm=b.map J:=by
 rw[Q9];apply List.map_congr_left;intro o _;simp[Qm,AW]
def Jz (l:List UInt8):ByteArray:=⟨l.toArray⟩
theorem tR (l:List UInt8):AW (Jz l)=l:=by simp[AW,Jz]
theorem P0 (zs:List (List UInt8)):(zs.map Jz).map AW=zs:=by
 rw[Q9,show (AW ∘ Jz)=id from funext tR,List.map_id]
theorem V6 (zs:List (List UInt8)):zs.map Qm=(zs.map Jz).map J:=by
 rw[<-Pz,P0]
theorem P1 {α:Type} [Inhabited α] {enc:α->Qe} {w:Qb} {g q:Nat} {d:Array α} :Ac (fun k=>k=g) w (Qt enc (Qu w q) g 0 d) :=
 ⟨rfl,rfl,rfl,by simp[Qt,mapBlock,Qu],fun k hk hn=>by simp[Qt,mapBlock,Qu,Array.getElem?_modify,show g≠k from fun e=>hn e.symm]⟩
theorem V7 {B:Nat} {w:Qb} {v:Qe} {b:List ByteArray} (o:w.ownsRow B 9 1 v b.length (b.map J)) (E:b.length<=20000) :
  G I 87 #[v] w fun e w'=>e=A (Qf #[])/\∃us:List ByteArray,us.map AW=Di (b.map AW)/\w'.ownsRow B 9 1 v us.length (us.map J)/\Ac (fun k=>v.ownBlock=S k) w w':=by
 by_cases l:v=H V 0 0
 ·have m:b= []:=by
   rcases o.2 with⟨_,m⟩|⟨g,j,z,e,_⟩
   ·exact QA.1 m
   ·rw[l]at e;cases e
  subst l m;have c:=AnyM.slices_Sort_string_none sortO V 0 w;change G I 87 _ _ _ at c;refine c.mono ?_;rintro e w' ⟨rfl,rfl⟩;exact⟨rfl, [],by simp[Di],o,Ac.refl _ _⟩
 ·have i:w.ownsRow B 9 1 v b.length ((b.map AW).map Qm):=by rw[Pz];exact o
  obtain⟨g,j,rfl,y,r,C,D,d,t⟩:=QB i l;have c:=AnyM.slices_Sort_string sortO g 0 j (b.map AW) w t r (by rw[d];omega);change G I 87 _ _ _ at c;rw[d]at c;refine c.mono ?_;rintro e w' ⟨rfl,n,s,rfl⟩;have f:(Di (b.map AW)).length=b.length:=by rw[O2,d]
  have p:=QC (q:=n) (k:=b.length) (ys:=Di (b.map AW)) i f (Qw _);rw[List.take_of_length_le (by rw[f];exact Qw _),V6]at p;refine⟨rfl,(Di (b.map AW)).map Jz,P0 _,?_,?_⟩
  ·rw[Qn,f];exact AO (P:=fun _=>False) p (Ac.of_below (Hg s)) (fun _ _ h=>h)
  ·refine(Ac.mono P1 ?_).trans (Ac.of_below (P:=fun _=>False) (Hg s)) (fun _ h _=>h.elim);intro k u;rw[u];rfl
theorem tS {B:Nat} {w:Qb} {v:Qe} {b:List ByteArray} (m:w.ownsRow B 9 1 v b.length (b.map J)) (D:b.length<=20000) :
  G I 88 #[v] w fun e w'=> ∃(v':Qe) (n:List ByteArray),e=A v'/\n.map AW=Qg (b.map AW)/\w'.ownsRow B 9 1 v' n.length (n.map J)/\Ac (fun k=>v.ownBlock=S k) w w':=by
 by_cases j:v=H V 0 0
 ·have l:b= []:=by
   rcases m.2 with⟨_,l⟩|⟨g,i,z,e,_⟩
   ·exact QA.1 l
   ·rw[j]at e;cases e
  subst j l;refine(slices_Compact_string_empty V 0 w).mono ?_;rintro e w' ⟨rfl,rfl⟩;exact⟨_, [],rfl,rfl,m,Ac.refl _ _⟩
 ·have d:w.ownsRow B 9 1 v b.length ((b.map AW).map Qm):=by rw[Pz];exact m
  obtain⟨g,i,rfl,u,y,r,C,c,s⟩:=QB d j;have f:=slices_Compact_string g 0 i (b.map AW) w s (by rw[c];omega) (by rw[c];exact r);rw[c]at f;have o:(Qg (b.map AW)).length<=b.length:=by
   rw[<-c];unfold Qg compactUpTo;rw[Qn];refine Qh (List.length_filter_le _ _) ?_;simp
  refine f.mono ?_;rintro e w' ⟨rfl,q,rfl⟩;have p:=QC (q:=q) (k:=(Qg (b.map AW)).length) (ys:=Qg (b.map AW)++Qz (b.length-(Qg (b.map AW)).length) []) d (by simp;omega) o;rw[List.take_left',V6]at p
  ·refine⟨_,(Qg (b.map AW)).map Jz,rfl,P0 _,?_,?_⟩
   ·rw[Qn];exact p
   ·refine Ac.mono P1 ?_;intro k t;rw[t];rfl
  ·rfl
def DG (ss:List Sn) (n:Nat):List ByteArray:=(ss.take n).flatMap B9
def E5 (ss:List Sn) (n:Nat) (s:Sn) (m:Nat):List ByteArray:=DG ss n++Cd s.1 :: (s.2.2.2.2.2.2.take m).map (·.1)
theorem V8 {b:List Sn} {n:Nat} (h:n<b.length):DG b (n+1)=E5 b n b[n] b[n].2.2.2.2.2.2.length:=by
 unfold DG E5;rw[<-QD h,Q2,QE];simp only[Q3,List.flatMap_nil,List.append_nil];rfl
theorem tT {b:List Sn} {n:Nat} {s:Sn} {m:Nat} (h:m<s.2.2.2.2.2.2.length):E5 b n s (m+1)=E5 b n s m++ [s.2.2.2.2.2.2[m].1]:=by
 unfold E5;rw[<-QD h,List.map_append];simp
theorem V9 (b:List Sn) (n:Nat):(DG b n).length<=(b.flatMap B9).length:=by
 have e:b.flatMap B9=(b.take n).flatMap B9++(b.drop n).flatMap B9:=by rw[<-Q2,List.take_append_drop]
 rw[e,Qv];unfold DG;omega
theorem tU {b:List Sn} {n:Nat} (h:n<b.length) (m:Nat):(E5 b n b[n] m).length<=(b.flatMap B9).length:=by
 have c:=V9 b (n+1);rw[V8 h]at c;refine Qh ?_ c;unfold E5;simp only[Qv,Qx,Qn,List.length_take];omega
theorem tV (b:List Sn):DG b b.length=b.flatMap B9:=by
 unfold DG;rw[QE]
theorem tW (v : Qe) (c : List Sn) (w : Qb) (ht : Lib.TabIs I w "internal/strconv.uint64pow10" .u64 Lib.pow10Tab) (hx : FX w v c) (hl : (c.flatMap B9).length ≤ 5000) (hd : ∀ s ∈ c, -9223372036854775808 ≤ s.1 ∧ s.1 ≤ 9223372036854775807) :
  G I 42 #[v] w fun e w'=> ∃v',e=A v'/\w'.ownsRow w.heap.size 9 1 v' (Cy c).length ((Cy c).map J)/\BL w w':=by
 have HX:O _:=fun W (d:BL w W)=>hx.below d;have HD:O _:=hd;have ao:O _:=fun W (d:BL w W)=>Hh ht d;obtain⟨q,bx,rfl⟩:=hx.form;have a8:c.length<=5000:=by
  have F:c.length<=(c.flatMap B9).length:=by
   clear hl HD hd hx HX ao ht
   induction c with
   | nil=>simp
   | cons s r ih =>
    rw[Q3,Qv,Qx];have:1<=(B9 s).length:=by unfold B9;rw[Qx];omega
    omega
  omega
 have ba:O (∀s∈c,s.2.2.2.2.2.2.length<=5000):=fun s hs=>by
  have F:(B9 s).length<=(c.flatMap B9).length:=by
   obtain⟨l1,l2,rfl⟩:=List.append_of_mem hs;rw[Q2,Q3,Qv,Qv];omega
  unfold B9 at F;rw[Qx,Qn]at F;show s.2.2.2.2.2.2.length<=5000;have h2:s.2.2.2.2.2.2.length+1<=(c.flatMap B9).length:=F;omega
 have ai:O _:=tV c;have bb:O _:=fun n=>Qh (V9 c n) hl;have bc:O (∀n (h:n<c.length) m,(E5 c n c[n] m).length<=5000):=fun n h m=>Qh (tU h m) hl;have bd:O (∀n (h:n<c.length),DG c (n+1)=E5 c n c[n] c[n].2.2.2.2.2.2.length):=fun n h=>V8 h;have K:O ((c.flatMap B9).length<=5000/\My ((c.flatMap B9).map AW)=(Cy c).map AW):=⟨hl,lR c⟩;obtain⟨L,hL⟩:∃L,c.length=L:=⟨_,rfl⟩;have HL:O _:=hL;rw[hL]at ai HX a8 ⊢;generalize Cy c=KL at K ⊢;generalize c.flatMap B9=NL at K ai;clear hx hl hL hd ht
 go_enter func42,ntmps42
 go_wp2_with fail
 go_loopw [3,5,7,10] (fun o _ _ i wr=> ∃n:Nat,n<=L/\i=U Z n/\wr.ownsRow w.heap.size 9 1 o (DG c n).length ((DG c n).map J)/\BL w wr) (fun _ _ _ i _=>L-(Qi i).toNat)
 case atStart=>exact ⟨0,by omega,rfl,World.ownsRow_nil _ _ _ _,Qj _ _⟩
 case round =>
 obtain⟨n,hn,rfl,ho,d⟩:=hrel;have HO:O _:=ho;clear ho;by_cases be:n<L
 case neg =>
  obtain rfl:n=L:=by omega
  have hT:wr.ownsRow w.heap.size 9 1 u3 NL.length (NL.map J):=by
   have h':=HO.out;rw[ai.out]at h';exact h'
  have bq:¬(n:Int)<(n:Int):=by omega
  have ap:=V7 hT (Qh K.out.1 (by decide));have HT:O _:=hT;clear HO hT
  go_wp2_with fail
  refine ap.mono ?_;rintro e w2 ⟨rfl,us,an,B,ag⟩;have aq:=d.trans (ag.below d.size (fun k hk=>(AF HT.out hk).1));have ar:us.length<=20000:=by
   have F:(us.map AW).length=NL.length:=by rw[an,O2,Qn]
   rw[Qn]at F;have:=K.out.1;omega
  have au:=tS B ar;have z:O _:=B;have av:O _:=an;clear ap B ag an ar
  go_wp2_with fail
  refine au.mono ?_;rintro e w3 ⟨v3,ks,rfl,a5,a6,ah⟩;have bf:=aq.trans (ah.below aq.size (fun k hk=>(AF z.out hk).1));have bg:ks=KL:=by
   have F:ks.map AW=KL.map AW:=by
    rw[a5,av.out];exact K.out.2
   exact List.map_inj_right (fun a b e=>O0 e) |>.1 F
  subst bg;have HE:O _:=a6;clear au a6 ah a5 av z;go_wp2;go_ret;exact⟨_,rfl,HE.out,bf⟩
 case pos =>
 have j:n<c.length:=by rw[HL.out];exact be
 obtain⟨b,o,hq,hc⟩:=(HX.out w (Qj _ _)).cells (fun e=>by rw[e]at j;simp at j);subst hq;have br:(n:Int)<(L:Int):=by omega
 have bs:(0:Int)<=(n:Int):=by omega
 obtain⟨c0,c3,vf,c6,ae,c1,c2,c4,c5⟩:=hc n j;replace c0:=Aa d c0;replace c1:=Aa d c1;replace c2:=Aa d c2;replace c3:=Aa d c3;replace c4:=Aa d c4;replace c5:=Aa d c5;replace c6:=Aa d c6;have N:=HD.out c[n] (Q4 _);have aw:=ba.out c[n] (Q4 _);have ax:O (∀m,(E5 c n c[n] m).length<=5000):=bc.out n j;have aj:O (DG c (n+1)=E5 c n c[n] c[n].2.2.2.2.2.2.length):=bd.out n j;generalize c[n]=g at c0 c1 c2 c3 c4 c5 c6 N ax aj ae aw;have bh:O (∀m (h:m<g.2.2.2.2.2.2.length),E5 c n g (m+1)=E5 c n g m++ [g.2.2.2.2.2.2[m].1]):=fun m h=>tT h;have ay:O (E5 c n g 0=DG c n++ [Cd g.1]):=by
  show _=_;unfold E5;simp
 obtain⟨p,Y,g2,g3,g4,g5,R⟩:=g;dsimp only at *;generalize E5 c n (p,Y,g2,g3,g4,g5,R)=y at *;obtain⟨T,X,rfl⟩:=ae.form;have az:O (∀W,BL w W->Ai W (H T R.length X) R):=fun W hW=>ae.below hW;obtain⟨M,hM⟩:∃M,R.length=M:=⟨_,rfl⟩;have bi:O (R.length=M):=hM;rw[hM]at aj az aw c6;obtain⟨D,bn⟩:∃W,W=wr:=⟨_,rfl⟩;subst bn;have aa:O (∀k,u3.ownBlock=S k->w.heap.size<=k/\k<D.heap.size):=fun k hk=>⟨(AF HO.out hk).1,(AF HO.out hk).2.1⟩;have t:BL D (D.alloc (.cells #[U Z p,U Z Y,U Z g2,U Z g3,U Z g4,J g5,H T M X] 40)):=Af _ _;have ab:Al (D.alloc (.cells #[U Z p,U Z Y,U Z g2,U Z g3,U Z g4,J g5,H T M X] 40)) D.heap.size (p,Y,g2,g3,g4,g5, []) (H T M X):=heap_alloc_new _ _;have l:BL w (D.alloc (.cells #[U Z p,U Z Y,U Z g2,U Z g3,U Z g4,J g5,H T M X] 40)):=Ad d t;have ac:=Ij p _ (ao.out _ l) N.1 N.2;have bj:(Ab (itoa p)).size<=21:=by rw[E9];exact itoa_length_le p N.1 N.2
 have ak:O (y 0=DG c n++ [⟨#[115,110,97,112,47]⟩++Ab (itoa p)]):=ay.out;have u:O ((D.alloc (.cells #[U Z p,U Z Y,U Z g2,U Z g3,U Z g4,J g5,H T M X] 40)).ownsRow w.heap.size 9 1 u3 (DG c n).length ((DG c n).map J)):=AO (P:=fun _=>False) HO.out (Ac.of_below t) (fun _ _ h=>h);generalize Ab (itoa p)=TB at ac bj ak;clear hc j ae hM ay HO t
 go_upto_region 5 with fail
 generalize D.alloc (.cells #[U Z p,U Z Y,U Z g2,U Z g3,U Z g4,J g5,H T M X] 40)=WA at ab ac u l ⊢;generalize D.heap.size=sb at ab aa ⊢;clear c0 c1 c2 c3 c4 c5 c6;obtain⟨k0,-,-,-,-,-,k6⟩:=ab.cells;dsimp only at k0 k6;clear ab
 go_wp2_with fail
 refine ac.mono ?_;rintro e w1 ⟨rfl,kk,oo,a7⟩;have ad:BL WA w1:=by rw[a7];exact GG kk oo
 have a0:O (w1.ownsRow w.heap.size 9 1 u3 (DG c n).length ((DG c n).map J)):=AO (P:=fun _=>False) u.out (Ac.of_below ad) (fun _ _ h=>h);have C:BL w w1:=Ad l ad;obtain⟨v5,W5,bo,a1,E,-⟩:=KM a0.out C.size (⟨#[115,110,97,112,47]⟩++TB) rfl (by have:=bb.out n;omega);have bk:BL w W5:=C.trans (E.below C.size (fun k hk=>(aa.out k hk).1));have bt:W5.cell? ⟨sb,6,V⟩=S (H T M X):=E.keep (fun e=>by have:=(aa.out sb e).2;omega) (Aa ad k6);have bl:O (W5.ownsRow w.heap.size 9 1 v5 (y 0).length ((y 0).map J)):=by
  show World.ownsRow _ _ _ _ _ _ _;rw[ak.out];exact a1
 clear ac a7 ad a1 E a0 u k0 k6 ak aa l C
 go_wp2_with (at_builtin;refine wpList_append_run (by rfl) _ _ _ (by rfl) _ _ _ (by rfl) (by rfl) bo ?_)
 go_loopw [3,7,24] (fun o _ k wx=> ∃m:Nat,m<=M/\k=U Z m/\wx.ownsRow w.heap.size 9 1 o (y m).length ((y m).map J)/\BL w wx) (fun _ _ k _=>M-(Qi k).toNat)
 case atStart=>exact ⟨0,by omega,rfl,bl.out,bk⟩
 case round =>
 obtain⟨m,hm,rfl,B,am⟩:=hrel;have z:O (wr.ownsRow w.heap.size 9 1 u3 (y m).length ((y m).map J)):=B;clear B;by_cases a9:m<M
 case neg =>
  obtain rfl:m=M:=by omega
  have bu:¬(m:Int)<(m:Int):=by omega
  have HR:O (wr.ownsRow w.heap.size 9 1 u3 (DG c (n+1)).length ((DG c (n+1)).map J)):=by
   show World.ownsRow _ _ _ _ _ _ _;rw[aj.out];exact z.out
  go_wp2;go_roundw
  case rel=>exact ⟨n+1,by omega,by go_num,HR.out,am⟩
  case measure=>simp [Qi];omega
 case pos =>
 have Q:m<R.length:=by rw[bi.out];exact a9
 obtain⟨fb,fo,bp,a2⟩:=(az.out wr am).cells (fun e=>by rw[e]at Q;simp at Q);subst bp;obtain⟨f0,f1,f2,f3,f4,f5⟩:=a2 m Q;have al:O (y (m+1)=y m++ [R[m].1]):=bh.out m Q;have bv:(m:Int)<(M:Int):=by omega
 have bw:(0:Int)<=(m:Int):=by omega
 generalize R[m]=f at f0 f1 f2 f3 f4 f5 al;obtain⟨y0,y1,y2,y3,y4,y5⟩:=f;dsimp only at *;have t:BL wr (wr.alloc (.cells #[J y0,J y1,U Z y2,U Z y3,U Z y4,U Z y5] 77)):=Af _ _;have l:=Ad am t;have u:O _:=AO (P:=fun _=>False) z.out (Ac.of_below t) (fun _ _ h=>h);obtain⟨v7,W7,a3,a4,af,-⟩:=KM u.out l.size y0 rfl (by have:=ax.out m;omega);rw[show (wr.alloc (.cells #[J y0,J y1,U Z y2,U Z y3,U Z y4,U Z y5] 77)).heap.size=wr.heap.size+1 from by simp]at a3;have bm:=l.trans (af.below l.size (fun k hk=>(AF u.out hk).1));have HR:O (W7.ownsRow w.heap.size 9 1 v7 (y (m+1)).length ((y (m+1)).map J)):=by
  show World.ownsRow _ _ _ _ _ _ _;rw[al.out];exact a4
 clear a2 Q al a4 af u z t
 go_wp2_with (at_builtin;refine wpList_append_run (by rfl) _ _ _ (by rfl) _ _ _ (by rfl) (by rfl) a3 ?_)
 go_roundw
 case rel=>exact ⟨m+1,by omega,by go_num,HR.out,bm⟩
 case measure=>simp [Qi];omega
theorem tX (x:ByteArray) (w:Qb):G I 258 #[J x] w fun e w'=>e=A (Qy Qd)/\w'=w:=by
 go_enter func258,ntmps258
 go_wp2;go_ret;exact⟨rfl,rfl⟩
theorem tY (x:ByteArray) (w:Qb):G I 169 #[J x] w fun e w'=>e=A (Qy Qd)/\w'=w:=by
 go_enter func169,ntmps169
 go_wp2;go_ret;exact⟨rfl,rfl⟩
theorem tZ (x y:ByteArray) (w:Qb):G I 168 #[J x,J y] w fun e w'=>e=A (Qy (Bk x y))/\w'=w:=by
 have b:=tX x w
 go_enter func168,ntmps168
 go_wp2_with fail
 refine b.mono ?_;rintro e c ⟨rfl,rfl⟩;go_wp2;go_ret;exact⟨rfl,rfl⟩
def P2 (ts:List ByteArray):Prop:=ts.Pairwise fun a b=>Bk b a=Qd
theorem uA {a b c:ByteArray} (f:Bk b a=Qd) (d:Bk b c=Qa):Bk a c=Qa:=by
 by_cases e:a=b
 ·subst e;exact d
 ·exact R9 (Nw f (fun e'=>e e'.symm)) d
theorem uB (v:Qe) (c:List ByteArray) (s:ByteArray) (w:Qb) (hx:Ez w v c) (hl:c.length<=20000) (hr:P2 c) :
  G I 93 #[v,J s] w fun e w'=> ∃n,e=A (Qf #[U Z n,Qy (BI c s)])/\w'=w:=by
 obtain⟨q,ae,rfl⟩:=hx.form;have F:O (Ez w (H q c.length ae) c):=hx;have aa:∀i j (d:i<c.length) (g:j<c.length),i<=j->Bk c[j] s=Qa->Bk c[i] s=Qa:=fun i j d g hij h=>by
  rcases Nat.lt_or_eq_of_le hij with e | e
  ·exact uA (QF.1 hr i j d g e) h
  ·subst e;exact h
 have K:O (∀i j (d:i<c.length) (g:j<c.length),i<=j->Bk c[j] s=Qa->Bk c[i] s=Qa):=aa;have ab:O (∀i j (d:i<c.length) (g:j<c.length),i<j->Bk c[j] c[i]=Qd):=fun i j d g hij=>QF.1 hr i j d g hij;obtain⟨L,hL⟩:∃L,c.length=L:=⟨_,rfl⟩;have z:O (c.length=L):=hL;obtain⟨R,hR⟩:∃R,BI c s=R:=⟨_,rfl⟩;have Q:O (BI c s=R):=hR;rw[hL]at hl ⊢;rw[hR]
 go_enter func93,ntmps93
 go_wp2
 go_loopw [7,8,9] (fun s7 s8 _ wr=> ∃k d:Nat,s7=U Z k/\s8=U Z d/\k<=d/\d<=L/\(∀j (h:j<c.length),j<k->Bk c[j] s=Qa)/\(∀j (h:j<c.length),d<=j->Bk c[j] s=Qd)/\wr=w) (fun s7 s8 _ _=>(Qi s8).toNat-(Qi s7).toNat)
 case atStart=>exact ⟨0,L,rfl,rfl,Nat.zero_le _,Qw _,fun j h h'=>absurd h' (Nat.not_lt_zero _),fun j h h'=>by rw[z.out]at h;omega,rfl⟩
 case round =>
  obtain⟨k,d,rfl,rfl,aj,af,W,B,ag⟩:=hrel;subst ag;have t:O (∀j (h:j<c.length),j<k->Bk c[j] s=Qa):=W;have u:O (∀j (h:j<c.length),d<=j->Bk c[j] s=Qd):=B;by_cases ai:k<d
  ·obtain⟨m,C⟩:∃m,(k+d) / 2=m:=⟨_,rfl⟩;have M:((k:Int)+(d:Int)) / 2=(m:Int):=by omega
   have f:m<c.length:=by rw[z.out];omega
   obtain⟨b,o,X,D⟩:=F.out.at (fun e=>by rw[e]at f;simp at f);subst X;have T:=D m f;have l:=tZ c[m] s wr;have N:O (Bk c[m] s=Qa->∀j (h:j<c.length),j<m+1->Bk c[j] s=Qa):=fun e j g hjm=>K.out j m g f (by omega) e;have P:O (Bk c[m] s=Qd->∀j (h:j<c.length),m<=j->Bk c[j] s=Qd):=fun e j g hjm=>by
    cases ah:Bk c[j] s
    ·rfl
    ·rw[K.out m j f g hjm ah]at e;cases e
   generalize c[m]=x at T l N P;have i0:(m:Int)<(L:Int):=by omega
   have i1:(0:Int)<=(m:Int):=by omega
   have i2:(k:Int)<(d:Int):=by omega
   clear D f;cases E:Bk x s
   case true =>
    have HU:O (∀j (h:j<c.length),j<m+1->Bk c[j] s=Qa):=N.out E;rw[E]at l
    go_wp2_with fail
    refine l.mono ?_;rintro e w2 ⟨rfl,r⟩;rw[r];go_wp2;go_roundw
    case rel=>exact ⟨m+1,d,by first | go_num | (rw[M];go_num),rfl,by omega,af,HU.out,u.out,by trivial⟩
    case measure=>simp [Qi];omega
   case false =>
    have HD:O (∀j (h:j<c.length),m<=j->Bk c[j] s=Qd):=P.out E;rw[E]at l
    go_wp2_with fail
    refine l.mono ?_;rintro e w2 ⟨rfl,r⟩;rw[r];go_wp2;go_roundw
    case rel=>exact ⟨k,m,rfl,by first | go_num | rw[M],by omega,by omega,t.out,HD.out,by trivial⟩
    case measure=>simp [Qi];omega
  ·obtain rfl:d=k:=by omega
   by_cases hn:d<L
   ·have f:d<c.length:=by rw[z.out];exact hn
    obtain⟨b,o,X,D⟩:=F.out.at (fun e=>by rw[e]at f;simp at f);subst X;have T:=D d f;have ac:=tY c[d] wr;by_cases y:c[d]=s
    ·have p:R=Qa:=by rw[<-Q.out];exact Jc.2 (y▸Q4 f)
     subst p;rw[y]at T;have d1:(s.toList == s.toList)=Qa:=by simp
     go_wp2;go_ret2
     first | exact⟨(d:Int),rfl,rfl⟩ | exact⟨⟨(d:Int),rfl⟩,by trivial⟩
    ·have p:R=Qd:=by
      rw[<-Q.out];refine Mi.2 fun C=>?_;obtain⟨j,g,e⟩:=QG.1 C;rcases Nat.lt_or_ge j d with Y | Y
      ·exact LD (t.out j g Y) e
      ·have h2:=u.out j g Y;by_cases ad:j=d
       ·subst ad;exact y e
       ·have h3:Bk c[d] s=Qa:=Nw (by rw[<-e];exact ab.out d j f g (by omega)) (fun e'=>y e'.symm);rw[u.out d f (Qw _)]at h3;cases h3
     subst p;have d1:(c[d].toList == s.toList)=Qd:=K2 (fun e=>y (Ii e))
     go_wp2_with fail
     refine ac.mono ?_;rintro e w2 ⟨rfl,r⟩;rw[r];go_wp2;go_ret2
     first | exact⟨(d:Int),rfl,rfl⟩ | exact⟨⟨(d:Int),rfl⟩,by trivial⟩
   ·obtain rfl:d=L:=by omega
    have p:R=Qd:=by
     rw[<-Q.out];refine Mi.2 fun C=>?_;obtain⟨j,g,e⟩:=QG.1 C;exact LD (t.out j g (by rw[z.out]at g;exact g)) e
    subst p;go_wp2;go_ret2
    first | exact⟨(d:Int),rfl,rfl⟩ | exact⟨⟨(d:Int),rfl⟩,by trivial⟩
end Go.Proofs.YtcllhobffhkafaaGreatDoor
