/- By an AI agent. -/
import Derived.Laws.EntriesVeiled
import Derived.Test.YtcllhobffhkafaaGreatDoorLkp4
set_option maxRecDepth 100000
set_option maxHeartbeats 16000000
open Go.Proofs.Tryz
open Bool renaming true->Qf,false->Ql,not_eq_true'->QN,false_eq_true->QW
open Go renaming World->V,Value->Qc,Addr->Qe,heap_alloc_new->Qj,cell_of_row->Qx,maxLen->Q3,TypeId->Q8,bodyPost_ret->QG,results->QH,callFunc->QL,Ending->QP,lt_of_block->Xb
open Go.Builtin renaming append_->QC
open Go.Ending renaming returned->Qd
open Go.IntKind renaming i64->U
open Go.Lib renaming itoa->Qp,IsBuilder->Qz,cut->Q4,byteCells->Q7,compareInt->Q9,byteCells_append->QR,bytesWorld->QT,bytesWorld_below->QU,below_putRow->Xe,byteCells_length->Xk
open Go.Obj renaming cells->A
open Go.Proofs renaming ltOf->Qn,intOf->Qv,enters_of->Qw
open Go.Proofs.Tryz renaming prog->Qb,results112->QI,func278->QK,underlying38->QM
open Go.RowKit renaming Hid->I
open Go.RowKit.Below renaming refl->Qi,size->Qr,drew->Q2,trans->QB,alloc->QJ
open Go.Value renaming int->O,string->S,slice->H,pointer->Qa,tuple->Qg,bool->Qt,agg->Qu,nilIface->Q0,iface->QF
open Go.World renaming cell?->Xc,ownsRow->Xh,cell?_setCell_other->Xi,alloc->Xj
open List renaming length_append->Qo,getElem?_eq_getElem->Q1,take_of_length_le->Q5,length_map->QA,length_take->QD,getElem_mem->QE,mem_singleton->QO,take_append_getElem->QQ,mem_iff_getElem->QY,pairwise_iff_getElem->QZ,size_toArray->Xa,mergeSort_perm->Xd,length_attach->Xf,length_filter_le->Xg
open Nat renaming le_trans->Qh,lt_of_lt_of_le->Qk,le_refl->Qm,ne_of_lt->Qy,le_of_lt->Q6,le_add_right->QS,le_succ->QV
open Option renaming none->Z,some->J,ne_none_iff_exists'->QX
open Or renaming inl->Qq,inr->Qs
namespace Go.Proofs.YtcllhobffhkafaaGreatDoor
open Go.RowKit Go.Extern.Stop Go.Stop Go.Extern Go.Sort Go.Shelf Go.Lib
theorem VC (i:Nat) (v:Qc) (b:List Fl) (p:ByteArray) (w:V) (m:w.cell? ⟨i,0,Z⟩=J v) (j:Ai w v b) (k:b.length<=20000) :
  Calls Qb 278 #[S p,Qa (J ⟨i,0,Z⟩)] w fun e w'=>e=Qd (Qt (BU b p))/\BL w w':=by
 have d:=Kx v b p w j k;have f:I (decide (0<=Dp b p)=BU b p):=O8 _ _;obtain⟨q,c,rfl⟩:=j.form
 go_enter QK,ntmps278
 go_wp2_with fail
 refine d.mono ?_;rintro e l ⟨rfl,g⟩;go_wp2;go_ret;exact⟨by rw[<-f.out];rfl,g⟩
def Lz (w:V) (hb pb:Nat):Prop:=w.cell? ⟨hb,0,Z⟩=J (.func (.func 278) #[] #[Qa (J ⟨pb,0,Z⟩)])
theorem tF (f c:Nat) (v:Qc) (b:List Fl) (p:ByteArray) (w:V) (i:Lz w f c) (j:w.cell? ⟨c,0,Z⟩=J v) (k:Ai w v b) (l:b.length<=20000) :
  Calls Qb 280 #[S p,Qa (J ⟨f,0,Z⟩)] w fun e w'=>e=Qd (Qt (!BU b p))/\BL w w':=by
 have m:∀args w,(QL 278 args).run Qb w= .ok (.enter 278 args) w:=Qw QK (by kernel_rfl) rfl;have g:=VC c v b p w j k l;unfold Lz at i
 go_enter func280,ntmps280
 go_wp2_with (go_at_fn 278;refine g.mono ?_;rintro e n ⟨rfl,d⟩)
 go_ret;exact⟨rfl,d⟩
theorem tG (i d:Nat) (v:Qc) (c:List Fl) (f:Fl) (w:V) (l:Lz w i d) (m:w.cell? ⟨d,0,Z⟩=J v) (n:Ai w v c) (o:c.length<=20000) :
  Calls Qb 281 #[A6 f,Qa (J ⟨i,0,Z⟩)] w fun e w'=>e=Qd (Qt (BU c f.1))/\BL w w':=by
 have s:∀args w,(QL 278 args).run Qb w= .ok (.enter 278 args) w:=Qw QK (by kernel_rfl) rfl;have b:BL w (w.alloc (A #[S f.1,S f.2.1,O U f.2.2.1,O U f.2.2.2.1,O U f.2.2.2.2.1,O U f.2.2.2.2.2] 77)):=Af _ _;have j:=VC d v c f.1 (w.alloc (A #[S f.1,S f.2.1,O U f.2.2.1,O U f.2.2.2.1,O U f.2.2.2.2.1,O U f.2.2.2.2.2] 77)) (Aa b m) (n.below b) o;have p:=Aa b l;unfold A6;obtain⟨t,u,y,q,r,k⟩:=f
 go_enter func281,ntmps281
 go_upto_region 1 with fail
 go_wp2_with (go_at_fn 278;refine j.mono ?_;rintro e z ⟨rfl,g⟩)
 go_ret;exact⟨rfl,(Ad b g)⟩
def Gv (t:Tx) (fs:List Fl):Nat:=if (t.2.2.any fun p=> !BU fs p)=Qf then 11 else if (t.2.1.any fun f=>BU fs f.1)=Qf then 7 else 0
theorem tH (B tb:Nat) (vb va vr v:Qc) (t:Tx) (i:List Fl) (w:V) (a:Nat->Qe) (h:GE w a) (j:CI 312 B w tb vb va vr t) (hx:Ai w v i) (hl:i.length<=20000) (ad:t.2.1.length<=1000) (ae:t.2.2.length<=1000) :
  Calls Qb 197 #[Qa (J ⟨tb,0,Z⟩),v] w fun e w'=>e=Qd (Ae a (Gv t i))/\BL w w':=by
 have e2:=Qw func280 (by kernel_rfl) rfl;have e3:=Qw func281 (by kernel_rfl) rfl;have K:BL w (w.alloc (A #[v] 38)):=Af _ _;have b:(w.alloc (A #[v] 38)).heap[w.heap.size]? =J (A #[v] 38 (0,0)):=Qj _ _;have L:(w.alloc (A #[v] 38)).cell? ⟨w.heap.size,0,Z⟩=J v:=by rw[Qx _ _ _ _ _ _ b];rfl
 have M:I _:=fun W (hb:BL w W)=>hx.below hb;have N:I _:=fun W (hb:BL w W)=>(IC j.rems).below hb;have P:I _:=fun W (hb:BL w W)=>(GA j.adds).1.below hb;have s:I _:=fun W (hb:BL w W)=>(j.below hb).cells;have l:I _:=fun W (hb:BL w W)=>h.below hb;obtain⟨qa,ca,aa⟩:=Dj j.adds;obtain⟨qr,cr,ab⟩:=Dj j.rems;obtain⟨q,c,hv⟩:=hx.form;unfold Gv;obtain⟨R1,C⟩:∃R,(t.2.2.any fun p=> !BU i p)=R:=⟨_,rfl⟩;obtain⟨R2,D⟩:∃R,(t.2.1.any fun f=>BU i f.1)=R:=⟨_,rfl⟩;rw[C,D];have Q:I _:=C;have T:I _:=D
 go_enter func197,ntmps197
 subst aa ab hv
 go_upto_region 1 with fail
 generalize w.alloc (A #[H q i.length c] 38)=g at *;have m:BL g (g.alloc (A #[.func (.func 278) #[] #[Qa (J ⟨w.heap.size,0,Z⟩)]] 116)):=Af _ _;have b:(g.alloc (A #[.func (.func 278) #[] #[Qa (J ⟨w.heap.size,0,Z⟩)]] 116)).heap[g.heap.size]? =J (A #[.func (.func 278) #[] #[Qa (J ⟨w.heap.size,0,Z⟩)]] 116 (0,0)):=Qj _ _;have n:Lz (g.alloc (A #[.func (.func 278) #[] #[Qa (J ⟨w.heap.size,0,Z⟩)]] 116)) g.heap.size w.heap.size:=by
  unfold Lz;rw[Qx _ _ _ _ _ _ b];rfl
 have d:=Ad K m;have u:=Aa m L;clear b
 go_upto_region 2 with fail
 generalize g.alloc (A #[.func (.func 278) #[] #[Qa (J ⟨w.heap.size,0,Z⟩)]] 116)=r at *;generalize g.heap.size=b at *;have y:=mX 280 #[Qa (J ⟨b,0,Z⟩)] (fun p=> !BU i p) (H qr t.2.2.length cr) t.2.2 r (N.out r d) (by omega) e2 (fun p _ W hW=>tF (b) w.heap.size _ i p W (Aa hW n) (Aa hW u) (M.out W (Ad d hW)) hl);have z:I (∀W,BL r W->Calls Qb 146 #[H qa t.2.1.length ca,.func (.func 281) #[] #[Qa (J ⟨b,0,Z⟩)]] W fun e w'=>e=Qd (Qt (t.2.1.any fun f=>BU i f.1))/\BL W w'):=fun g hW0=>OT 281 #[Qa (J ⟨b,0,Z⟩)] (fun f=>BU i f.1) _ t.2.1 g (P.out g (Ad d hW0)) (by omega) e3 (fun f _ W hW=>tG (b) w.heap.size _ i f W (Aa hW (Aa hW0 n)) (Aa hW (Aa hW0 u)) (M.out W (d.trans ((Ad hW0 hW).mono d.size))) hl);have X:=(s.out r d).cells.2.2.2;rw[Q.out]at y;rw[T.out]at z
 go_wp2_with fail
 refine y.mono ?_;rintro e F ⟨rfl,E⟩;have k:=Ad d E
 cases R1 with
 | true =>
  have et:=(l.out F k).stale;go_wp2;go_ret;exact⟨rfl,k⟩
 | false =>
 have Y:=z.out F E;have X:=(s.out F k).cells.2.2.1
 go_wp2_with fail
 refine Y.mono ?_;rintro e w4 ⟨rfl,ac⟩;have o:=Ad k ac
 cases R2 with
 | true =>
  have et:=(l.out w4 o).list.exist;go_wp2;go_ret;exact⟨rfl,o⟩
 | false =>
  go_wp2;go_ret;exact⟨rfl,o⟩
def Gr (w w':V):Prop:=BL w w'/\w.drawn<=w'.drawn
theorem Gr.trans {a b c:V} (h:Gr a b) (k:Gr b c):Gr a c:=⟨h.1.trans (k.1.mono h.1.size),Qh h.2 k.2⟩
theorem Gr.alloc (w:V) (o:Obj):Gr w (w.alloc o):=⟨Af _ _,Qm _⟩
theorem Gr.grow (w:V) (k:Nat) (os:Array Obj):Gr w (Sort.grow (w.drewN k) os):=⟨GT k os,QS _ _⟩
theorem Gr.drewN (w:V) (k:Nat):Gr w (w.drewN k):=⟨AK (Qi _ _) k,QS _ _⟩
theorem Gr.bytes (w:V) (e:Q8) (s:ByteArray):Gr w (QT w e s):=⟨QU w e s,by
 unfold QT World.freeze;rw[if_neg (by decide)];exact QV _⟩
theorem Gr.form {w w':V} (h:Gr w w'):∃q os,w'=Sort.grow (w.drewN q) os:=by
 refine⟨w'.drawn-w.drawn,w'.heap.extract w.heap.size w'.heap.size,?_⟩;have b:w'.heap=w.heap++w'.heap.extract w.heap.size w'.heap.size:=by
  apply Array.ext_getElem?;intro k;by_cases c:k<w.heap.size
  ·rw[Array.getElem?_append_left c];exact h.1.block k c
  ·rw[Array.getElem?_append_right (by omega),Array.getElem?_extract];by_cases l:k<w'.heap.size
   ·rw[if_pos (by omega),show w.heap.size+(k-w.heap.size)=k by omega]
   ·rw[if_neg (by omega),Array.getElem?_eq_none (by omega)]
 obtain⟨⟨d,f,g,_,_⟩,i⟩:=h;generalize w'.heap.extract w.heap.size w'.heap.size=X at b;obtain⟨s,t,u,os,m⟩:=w;obtain⟨n,o,p,r,j⟩:=w';dsimp only at d f g b i;subst d f g b;unfold Sort.grow World.drewN;dsimp only;rw[Nat.add_sub_cancel' i]
theorem tI (s:ByteArray) (n:Int) (w:V) (h:DR w) (i:At s.data.toList=J n) :
  Calls Qb 129 #[S s] w fun e w'=>e=Qd (Qg #[O U n,Qt Qf])/\Gr w w':=by
 have j:=AC s;obtain⟨d,m⟩:=Fu i;have b:atoi s.data.toList=J n:=by rw[<-d];exact Ja n
 have f:=strconv_Atoi s n (by omega) b w;have l:=atoi_bound b (by omega);have c:Ab (Qp n)=s:=by rw[d];exact D7 s
 go_enter func129,ntmps129
 go_wp2_with (first
  | (go_at_call 213;refine f.mono ?_;rintro e o ⟨rfl,t,rfl⟩)
  | (go_at_call 86;refine(Ix n _ (Hu h.tab (QU w _ t)) (by omega) (by omega)).mono ?_;rintro e p ⟨rfl,k,g,rfl⟩;rw[c]))
 go_ret2;exact⟨rfl,(Gr.bytes w _ t).trans (Gr.grow _ k g)⟩
theorem VD (p:ByteArray) (g:Bool) (n:Int) (w:V) (a:Nat->Qe) (h:Df w a) (E:AB p.data.toList=J (g,n)) :
  Calls Qb 224 #[S p] w fun e w'=>e=Qd (Qg #[S (Ab (AH g)),O U n,Q0])/\Gr w w':=by
 obtain⟨k,o,B⟩:=Ew E;obtain⟨m,C⟩:=h.base.maxl;have t:p.size<=100:=by
  rw[<-AC,k];have:=(Fu o).2;cases g<;>simp [AH,Ee,Ef]<;>omega
 have hcut:=strings_Cut p ⟨#[47]⟩ m w (by omega) C;have u:(⟨(Q4 p.data.toList [47]).1.toArray⟩:ByteArray)=Ab (Q4 p.data.toList [47]).1:=rfl;have v:(⟨(Q4 p.data.toList [47]).2.1.toArray⟩:ByteArray)=Ab (Q4 p.data.toList [47]).2.1:=rfl;have y:Q4 p.data.toList [47]=(AH g,Qp n,Qf):=by rw[k];exact KI 47 _ _ (by cases g<;>decide)
 rw[u,v,y]at hcut;have d:=fun W (hW:DR W)=>tI (Ab (Qp n)) n W hW (by rw[BT];exact o);have c:=fun W=>O0 n W;rw[B]at c;have b:(Ab (AH g)).data.toList=AH g:=BT _;generalize Ab (AH g)=D at hcut b ⊢
 go_enter func224,ntmps224
 go_wp2_with fail
 refine hcut.mono ?_;rintro e F ⟨rfl,q,rfl⟩;have f:=d _ (h.below (Gr.drewN w q).1).base
 go_wp2_with fail
 refine f.mono ?_;rintro e K ⟨rfl,r⟩;have i:I _:=(Gr.drewN w q).trans r;cases g
 ·have j:=CQ b;simp only[AH,QW,if_false,Ee]at j
  go_wp2_with (go_at_call 310;refine(c _).mono ?_;rintro e w' ⟨rfl,rfl⟩)
  go_ret3
  exact⟨rfl,i.out⟩
 ·have j:=BD (s:=D) (l:= [100,97,116,97]) (by rw[b];decide);have z:=CQ b;simp only[AH,if_true,Ef]at z
  go_wp2_with (go_at_call 310;refine(c _).mono ?_;rintro e w' ⟨rfl,rfl⟩)
  go_ret3
  exact⟨rfl,i.out⟩
theorem tJ (p q:ByteArray) (w:V) (a:Nat->Qe) (h:Df w a) (s:AB p.data.toList≠Z) (t:AB q.data.toList≠Z) :
  Calls Qb 287 #[S p,S q] w fun e w'=>e=Qd (O U (Q9 (pk p.data.toList) (pk q.data.toList)))/\Gr w w':=by
 obtain⟨⟨g,n⟩,c⟩:=QX.1 s;obtain⟨⟨k,m⟩,b⟩:=QX.1 t;have u:=VD p g n w a h c;have v:=fun W (hW:Df W a)=>VD q k m W a hW b;rw[<-U6 c b];have f:=fun W=>strings_Compare (Ab (AH g)) (Ab (AH k)) W;rw[BT,BT]at f;have i:=fun W=>cmp_Compare_int n m W;generalize Lib.compareBytes (AH g) (AH k)=X at f ⊢;generalize Q9 n m=Y at i ⊢
 go_enter func287,ntmps287
 go_wp2_with fail
 refine u.mono ?_;rintro e y ⟨rfl,d⟩;have b:=v y (h.below d.1)
 go_wp2_with fail
 refine b.mono ?_;rintro e z ⟨rfl,o⟩;have j:I (Gr w z):=d.trans o
 go_wp2_with fail
 refine(f _).mono ?_;rintro e B ⟨rfl,rfl⟩
 go_wp2_with fail
 refine(i _).mono ?_;rintro e r ⟨rfl,rfl⟩;have l:=U5 X Y r.heap.size (r.alloc (A #[O U X,O U Y] 3)) (by simp) (by simp)
 go_wp2_with fail
 refine l.mono ?_;rintro e C ⟨rfl,rfl⟩;go_wp2;go_ret;exact⟨rfl,j.out.trans (Gr.alloc _ _)⟩
theorem tK (x y:Fl) (w:V) (a:Nat->Qe) (h:Df w a) (n:AB x.1.data.toList≠Z) (o:AB y.1.data.toList≠Z) :
  Calls Qb 286 #[A6 x,A6 y] w fun e w'=>e=Qd (O U (Q9 (fk x) (fk y)))/\Gr w w':=by
 have t:=A1.new w x;have f:=A1.new (w.alloc (A #[S x.1,S x.2.1,O U x.2.2.1,O U x.2.2.2.1,O U x.2.2.2.2.1,O U x.2.2.2.2.2] 77)) y;have g:=Gr.alloc w (A #[S x.1,S x.2.1,O U x.2.2.1,O U x.2.2.2.1,O U x.2.2.2.2.1,O U x.2.2.2.2.2] 77);have i:=Gr.alloc (w.alloc (A #[S x.1,S x.2.1,O U x.2.2.1,O U x.2.2.2.1,O U x.2.2.2.2.1,O U x.2.2.2.2.2] 77)) (A #[S y.1,S y.2.1,O U y.2.2.1,O U y.2.2.2.1,O U y.2.2.2.2.1,O U y.2.2.2.2.2] 77);have j:=f.cells.1;have b:(w.alloc (A #[S x.1,S x.2.1,O U x.2.2.1,O U x.2.2.2.1,O U x.2.2.2.2.1,O U x.2.2.2.2.2] 77)).heap.size=w.heap.size+1:=by simp
 rw[b]at j;have c:I (Gr w ((w.alloc (A #[S x.1,S x.2.1,O U x.2.2.1,O U x.2.2.2.1,O U x.2.2.2.2.1,O U x.2.2.2.2.2] 77)).alloc (A #[S y.1,S y.2.1,O U y.2.2.1,O U y.2.2.2.1,O U y.2.2.2.2.1,O U y.2.2.2.2.2] 77))):=g.trans i;have d:=tJ x.1 y.1 ((w.alloc (A #[S x.1,S x.2.1,O U x.2.2.1,O U x.2.2.2.1,O U x.2.2.2.2.1,O U x.2.2.2.2.2] 77)).alloc (A #[S y.1,S y.2.1,O U y.2.2.1,O U y.2.2.2.1,O U y.2.2.2.2.1,O U y.2.2.2.2.2] 77)) a (h.below c.out.1) n o;unfold A6;unfold fk;obtain⟨u,v,z,p,q,k⟩:=x;obtain⟨B,C,D,r,s,l⟩:=y
 go_enter func286,ntmps286
 go_upto_region 1 with fail
 go_wp2_with fail
 refine d.mono ?_;rintro e E ⟨rfl,m⟩;go_wp2;go_ret;exact⟨rfl,c.out.trans m⟩
end Go.Proofs.YtcllhobffhkafaaGreatDoor
namespace Go.Proofs
open Go.Shelf
def Tryz.sortFile_ren:Go.Shelf.Ren:=⟨fun | 6=>285 | 15=>99 | 14=>330 | 28=>181 | 29=>182 | 20=>362 | 21=>363 | 22=>364 | 23=>365 | 24=>366 | 25=>367 | 26=>368 | 27=>369 | 46=>382 | 47=>264 | 48=>265 | 49=>383 | 50=>384 | 57=>389 | n=>n,fun | 22=>38 | 24=>77 | 25=>316 | 3=>3 | 39=>159 | 0=>0 | 53=>229 | 55=>242 | 4=>4 | 46=>235 | 45=>234 | 50=>90 | 5=>5 | 9=>9 | 66=>299 | 70=>303 | 76=>351 | 77=>267 | n=>n,fun | n=>n⟩
theorem Tryz.sortFile:Go.Proofs.SlLaysF0.n6 Qb sortFile_ren:= { lays172 with
 mixed:=by kernel_rfl
 f6:=⟨Tryz.f285.name,by decide,Tryz.lq func285 (by kernel_rfl)⟩
 f14:=⟨Tryz.f330.name,by decide,Tryz.lq func330 (by kernel_rfl)⟩
 f15:=Tryz.lq func99 (by kernel_rfl)
 f20:=⟨Tryz.f362.name,by decide,Tryz.lq func362 (by kernel_rfl)⟩
 f21:=⟨Tryz.f363.name,by decide,Tryz.lq func363 (by kernel_rfl)⟩
 f22:=⟨Tryz.f364.name,by decide,Tryz.lq func364 (by kernel_rfl)⟩
 f23:=⟨Tryz.f365.name,by decide,Tryz.lq func365 (by kernel_rfl)⟩
 f24:=⟨Tryz.f366.name,by decide,Tryz.lq func366 (by kernel_rfl)⟩
 f25:=⟨Tryz.f367.name,by decide,Tryz.lq func367 (by kernel_rfl)⟩
 f26:=⟨Tryz.f368.name,by decide,Tryz.lq func368 (by kernel_rfl)⟩
 f27:=⟨Tryz.f369.name,by decide,Tryz.lq func369 (by kernel_rfl)⟩
 f28:=Tryz.lq func181 (by kernel_rfl)
 f29:=Tryz.lq func182 (by kernel_rfl)
 f46:=⟨Tryz.f382.name,by decide,Tryz.lq func382 (by kernel_rfl)⟩
 f47:=Tryz.lq func264 (by kernel_rfl)
 f48:=Tryz.lq func265 (by kernel_rfl)
 f49:=⟨Tryz.f383.name,by decide,Tryz.lq func383 (by kernel_rfl)⟩
 f50:=⟨Tryz.f384.name,by decide,Tryz.lq func384 (by kernel_rfl)⟩
 f57:=⟨Tryz.f389.name,by decide,Tryz.lq func389 (by kernel_rfl)⟩
 t22:=QM
 a22:=isAgg38
 z22:=sizeOf38
 v22:=zeroValue38
 t25:=underlying316
 a25:=isAgg316
 z25:=sizeOf316
 v25:=zeroValue316
 t39:=underlying159
 a39:=isAgg159
 z39:=sizeOf159
 v39:=zeroValue159
 t45:=underlying234
 a45:=isAgg234
 z45:=sizeOf234
 v45:=zeroValue234
 t46:=underlying235
 a46:=isAgg235
 z46:=sizeOf235
 v46:=zeroValue235
 t50:=underlying90
 a50:=isAgg90
 z50:=sizeOf90
 v50:=zeroValue90
 t53:=underlying229
 a53:=isAgg229
 z53:=sizeOf229
 v53:=zeroValue229
 t55:=underlying242
 a55:=isAgg242
 z55:=sizeOf242
 v55:=zeroValue242
 t66:=underlying299
 a66:=isAgg299
 z66:=sizeOf299
 v66:=zeroValue299
 t70:=underlying303
 a70:=isAgg303
 z70:=sizeOf303
 v70:=zeroValue303
 t76:=underlying351
 a76:=isAgg351
 z76:=sizeOf351
 v76:=zeroValue351
 t77:=underlying267
 a77:=isAgg267
 z77:=sizeOf267
 v77:=zeroValue267 }
end Go.Proofs
namespace Go.Proofs.YtcllhobffhkafaaGreatDoor
open Go.RowKit Go.Extern.Stop Go.Stop Go.Extern Go.Sort Go.Shelf Go.Lib
abbrev DJ (zs:List Fl):= {f:Fl // f∈zs}
def GK {zs:List Fl} (x:DJ zs):List Qc:=Bv x.1
def ES {zs:List Fl} (x y:DJ zs):Int:=Q9 (fk x.1) (fk y.1)
theorem JF {zs:List Fl} (x y:DJ zs):Qn ES x y=decide (fk x.1<fk y.1):=by
 unfold Qn ES;rw[decide_eq_decide];exact mK _ _
theorem tL (zs:List Fl):SWO (Qn (ES (zs:=zs))) where
 irrefl x:=by rw[JF];simp
 trans x y z h1 h2:=by
  rw[JF,decide_eq_true_eq]at *;omega
 ntrans x y z h1 h2:=by
  rw[JF,decide_eq_false_iff_not]at *;omega
theorem tM {zs:List Fl} (m:zs.Pairwise fun f g=>fk f≠fk g) (x y:DJ zs) (n:Qn ES x y=Ql) (o:Qn ES y x=Ql):x=y:=by
 rw[JF,decide_eq_false_iff_not]at n o;have e:fk x.1=fk y.1:=by omega
 obtain⟨i,k,b⟩:=QY.1 x.2;obtain⟨j,l,c⟩:=QY.1 y.2;have d:i=j:=by
  rcases Nat.lt_trichotomy i j with h | h | h
  ·exact absurd (by rw[b,c];exact e) (QZ.1 m i j k l h)
  ·exact h
  ·exact absurd (by rw[b,c];exact e.symm) (QZ.1 m j i l k h)
 subst d;exact Subtype.ext (b.symm.trans c)
theorem tN {zs:List Fl} (x:DJ zs):(GK x).length=6:=rfl
theorem tO {zs:List Fl} (x:DJ zs):∀u∈GK x,u.oneCell'=Qf:=Ic x.1
theorem VE {zs:List Fl} [Inhabited (DJ zs)] (ds:List (DJ zs)):flatK GK 6 ds.toArray=(Ay (ds.map (·.1))).toArray:=by
 refine ext_get! (by simp[E5]) fun t ht=>?_;simp only[size_flatK,Xa]at ht;rw[get_flatK _ _ _ _ (by simpa using ht)];have b:t / 6<ds.length:=by omega
 have c:t / 6<(ds.map (·.1)).length:=by simpa using b
 have:=KY (ds.map (·.1)) (t / 6) (t % 6) c (by omega);rw[show t / 6*6+t % 6=t by omega]at this;simp only[List.getElem!_toArray,List.getElem!_eq_getElem?_getD,this];rw[Q1 b];simp only[List.getElem_map,Option.getD_some];rfl
theorem tP {zs:List Fl} [Inhabited (DJ zs)] {w:V} {base:Nat} {v:Qc} {n:Nat} {ds:List (DJ zs)} (h:w.ownsRow base 77 6 v n (Ay (ds.map (·.1)))) (r:v≠ H Z 0 0) :
  ∃g cap,v=H (J ⟨g,0,Z⟩) ds.length cap/\ds.length<=cap/\base<=g/\g<w.heap.size/\HoldsK GK 6 w g 0 ds.toArray:=by
 obtain⟨m,h⟩:=h;have l:n=ds.length:=by rw[E5,QA]at m;omega
 subst l;rcases h with⟨e,_⟩|⟨g,cap,i,rfl,p,c,k,_,_,q⟩
 ·exact absurd e r
 ·refine⟨g,cap,rfl,k,p,Xb c,?_⟩;unfold HoldsK;rw[VE];intro j o;have b:j<ds.length*6:=by simpa [E5] using o
  refine⟨?_,by simp[World.frozen?,c]⟩;have d:(i.toList.take (ds.length*6))[j]? =(Ay (ds.map (·.1)))[j]? :=by rw[q]
  rw[List.getElem?_take,if_pos b,Array.getElem?_toList]at d;simp only[Xc,c,Nat.zero_add];rw[d];have f:j<(Ay (ds.map (·.1))).length:=by rw[E5,QA];exact b
  simp[Q1 f]
theorem tQ {zs:List Fl} [Inhabited (DJ zs)] {w:V} {g:Nat} {ds:List (DJ zs)} (h:HoldsK GK 6 w g 0 ds.toArray):F6 w g 0 (ds.map (·.1)):=by
 refine T8 fun t u hu=>?_;have b:t<(Ay (ds.map (·.1))).length:=by
  rcases Nat.lt_or_ge t (Ay (ds.map (·.1))).length with c | c
  ·exact c
  ·rw[List.getElem?_eq_none c]at hu;cases hu
 unfold HoldsK at h;rw[VE]at h;have:=(h t (by simpa using b)).1;rw[this];rw[Q1 b]at hu;simpa [Q1 b] using hu
theorem tR {zs:List Fl} {ds:List (DJ zs)} (m:(ds.map (·.1)).Pairwise fun f g=>fk f≠fk g):E6 ((ds.mergeSort fun x y=> !(Qn ES) y x).map (·.1))/\((ds.mergeSort fun x y=> !(Qn ES) y x).map (·.1)).Perm (ds.map (·.1)):=by
 have k:(ds.mergeSort fun x y=> !(Qn ES) y x).Perm ds:=Xd _ _;have l:=List.pairwise_mergeSort (le:=fun x y:DJ zs=> !(Qn ES) y x) (fun a b c h1 h2=>by
  simp only[JF,QN,decide_eq_false_iff_not]at *;omega) (fun a b=>by
  simp only[JF,Bool.or_eq_true,QN,decide_eq_false_iff_not];omega) ds
 have d:=k.map (·.1);refine⟨?_,d⟩;have i:((ds.mergeSort fun x y=> !(Qn ES) y x).map (·.1)).Pairwise fun f g=>fk f≠fk g:=(d.pairwise_iff (fun {a b} h=>fun e=>h e.symm)).2 m;have j:((ds.mergeSort fun x y=> !(Qn ES) y x).map (·.1)).Pairwise fun f g=> ¬fk g<fk f:=List.pairwise_map.2 (l.imp fun {a b} h=>by
  simpa only[JF,QN,decide_eq_false_iff_not] using h)
 exact(j.and i).imp fun {a b} h=>by
  omega
theorem tS {zs:List Fl} [Inhabited (DJ zs)] {w0 w:V} {a:Nat->Qe} (h:Df w0 a) (d:BL w0 w) {g:Nat} (f:w0.heap.size<=g) (m:Nat) (os:Array Obj) (c:Array (DJ zs)):Df (sortWorldK GK 6 w g 0 m c os) a:=by
 have b:BL w0 (putRowK GK 6 (Sort.ahead w m) g 0 c):=Xe d f;exact h.below (b.trans ((GR os).mono b.size))
theorem VF (zs:List Fl) (t:DJ zs) (q:∀f∈zs,AB f.1.data.toList≠Z) (u:zs.Pairwise fun f g=>fk f≠fk g) (ds:List (DJ zs)) (z:(ds.map (·.1)).Pairwise fun f g=>fk f≠fk g) (v:Qc) (w0 w:V) (a:Nat->Qe) (B:Df w0 a) (r:BL w0 w)
  (h:w.ownsRow w0.heap.size 77 6 v ds.length (Ay (ds.map (·.1)))) (C:v≠ H Z 0 0) (D:ds.length<=20000) :
  Calls Qb 285 #[v,.func (.func 286) #[] #[]] w fun e w'=>e=Qd (Qg #[])/\∃ys,ys.Perm (ds.map (·.1))/\E6 ys/\Ai w' v ys/\BL w0 w':=by
 letI:Inhabited (DJ zs):=⟨t⟩
 obtain⟨g,d,rfl,o,i,j,p⟩:=tP h C;have s:=Qw func286 (by kernel_rfl) rfl;have k:CmpLays Qb 286 #[] (GK (zs:=zs)) 6 ES g 0 ds.toArray.size w:=fun m os dk _ x y=>(tK x.1 y.1 _ a (tS B r i m os dk) (q x.1 x.2) (q y.1 y.2)).mono fun e w' ⟨he,hg⟩=>⟨he,hg.form⟩;have b:=AnyQ.slices_SortFunc_total sortFile 6 isAgg77 sizeOf77 GK tN tO ES (tL zs) 286 #[] g 0 d ds.toArray w s k p j (by simp;omega) (tM u);change Calls Qb 285 _ _ _ at b;rw[Xa]at b;obtain⟨u1,u2⟩:=tR z;have c:(ds.mergeSort fun x y=> !(Qn ES) y x).length=ds.length:=(Xd _ _).length_eq;refine b.mono fun e w' ⟨he,n,os,hw⟩=>⟨he,_,u2,u1,?_,?_⟩
 ·subst hw;refine Qs ⟨g,0,d,by rw[QA,c],by rw[QA,c];exact o,tQ ?_⟩;exact holdsK_sortWorldK GK 6 w g 0 n ds.toArray _ os j p (by simp[c])
 ·subst hw;have l:BL w0 (putRowK GK 6 (Sort.ahead w n) g 0 (ds.toArray.toList.mergeSort fun x y=> !(Qn ES) y x).toArray):=Xe r i;exact l.trans ((GR os).mono l.size)
theorem tT (v:Qc) (xs:List Fl) (w0 w:V) (a:Nat->Qe) (j:Df w0 a) (i:BL w0 w) (h:w.ownsRow w0.heap.size 77 6 v xs.length (Ay xs)) (p:xs.length<=20000)
  (q:∀f∈xs,AB f.1.data.toList≠Z) (k:xs.Pairwise fun f g=>fk f≠fk g) :
  Calls Qb 285 #[v,.func (.func 286) #[] #[]] w fun e w'=>e=Qd (Qg #[])/\∃ys,ys.Perm xs/\E6 ys/\Ai w' v ys/\BL w0 w':=by
 by_cases c:v=H Z 0 0
 ·subst c;have l:xs= []:=by
   rcases h.2 with⟨_,d⟩|⟨g,s,t,e,_⟩
   ·exact List.length_eq_zero_iff.1 d
   ·cases e
  subst l;have b:=AnyF.slices_SortFunc_none sortFile Z 0 (.func (.func 286) #[] #[]) w;change Calls Qb 285 _ _ _ at b;refine b.mono fun e w' ⟨he,hw⟩=>⟨he, [],List.Perm.refl _,List.Pairwise.nil,Qq ⟨Z,0,rfl,fun _=>rfl,rfl⟩,?_⟩;subst hw;exact i
 ·cases xs with
  | nil =>
   have m:AB (⟨#[100,97,116,97,47,49]⟩:ByteArray).data.toList≠Z:=by
    have d:At [49]=J 1:=by
     have n:Qp 1= [49]:=by
      have h:decDigits 1= [49]:=by rw[decDigits,dif_pos (by decide)];rfl
      simp[Qp,h]
     rw[<-n];exact FZ 1 (by decide)
    have o:Ev [49]=J 1:=by unfold Ev;rw[d];rfl
    have h:=Mg Ql [49];rw[o]at h;have e:(⟨#[100,97,116,97,47,49]⟩:ByteArray).data.toList=AH Ql++47 :: [49]:=rfl;rw[e,h];simp
   exact VF [(⟨#[100,97,116,97,47,49]⟩,⟨#[]⟩,0,0,0,0)] ⟨_,QO.2 rfl⟩ (fun f hf=>by rw[QO]at hf;subst hf;exact m) (by simp) [] (by simp) v w0 w a j i h c (by simp)
  | cons x r =>
   have e:((x :: r).attach).map (·.1)=x :: r:=List.attach_map_subtype_val _;have b:=VF (x :: r) ⟨x,List.mem_cons_self⟩ q k (x :: r).attach (by rw[e];exact k) v w0 w a j i (by rw[e,Xf];exact h) c (by rw[Xf];exact p);rw[e]at b;exact b
theorem VG (T:Q8) (b:Nat) (g i d:Qc) (s:Sn) (rs:List ByteArray) (w:V) (j:C8 T w b s g i d) (k:∃q c,d=H q rs.length c) :
  Calls Qb 282 #[Qa (J ⟨b,0,Z⟩)] w fun e w'=>e=Qd (Qt (decide (0<rs.length)))/\w'=w:=by
 obtain⟨q,c,rfl⟩:=k;have l:=j.cells.2.2.2;have f:decide (((rs.length:Nat):Int) > 0)=decide (0<rs.length):=by rw[decide_eq_decide];omega
 go_enter func282,ntmps282
 go_wp2;go_ret;exact⟨by rw[<-f];simp,rfl⟩
theorem tU (B l:Nat) (u m v:Qc) (t:Tx) (w:V) (a:Nat->Qe) (h:Df w a) (b:CI 312 B w l u m v t) (j:∀f∈t.2.1,Au f=0) (z:t.2.1.length<=1000) :
  Calls Qb 198 #[Qa (J ⟨l,0,Z⟩)] w fun e w'=>e=Qd (S (I8 t))/\BL w w':=by
 have y:=Qw func139 (by kernel_rfl) rfl;have g:=VG 312 l u m v t.1 t.2.2 w b.cells (Dj b.rems);have c:=OT 139 #[] (fun f=>decide (f.2.1.data.toList= [45])) m t.2.1 w (GA b.adds).1 (by omega) y (fun f hf W hW=>by
  have C:=TK (j f hf);have n:=IF f W a (h.below hW) (by omega);rw[Ky (j f hf)]at n;exact n)
 have o:(t.2.1.any fun f=>decide (f.2.1.data.toList= [45]))=O9 t:=rfl;rw[o]at c;have D:=b.cells.cells.2.2.1;obtain⟨E,F,p⟩:=Dj b.adds;unfold I8;generalize O9 t=r at c ⊢;generalize t.2.2.length=s at g ⊢;subst p;obtain⟨R,q⟩:∃R,(if 0<s then Ab Jk else if r=Qf then Ab Jj else Ab Ji)=R:=⟨_,rfl⟩;rw[q];have k:I _:=q
 go_enter func198,ntmps198
 go_wp2_with fail
 refine g.mono ?_;rintro e K ⟨rfl,rfl⟩;by_cases d:0<s
 ·rw[decide_eq_true d];go_wp2;go_ret;exact⟨by rw[<-k.out,if_pos d];rfl,Qi _ _⟩
 ·rw[decide_eq_false d]
  go_wp2_with fail
  refine c.mono ?_;rintro e L ⟨rfl,i⟩
  cases r with
  | true =>
   go_wp2;go_ret;exact⟨by rw[<-k.out,if_neg d];rfl,i⟩
  | false =>
   go_wp2;go_ret;exact⟨by rw[<-k.out,if_neg d];rfl,i⟩
theorem tV (B p:Nat) (C D E:Qc) (t:Tx) (i:Sn) (f:Fl) (w:V) (a:Nat->Qe) (h:Df w a) (j:CI 312 B w p C D E t) (n:Au f=0) :
  Calls Qb 284 #[Qa (J ⟨p,0,Z⟩),A6 f,O U (i.2.2.1+1)] w fun e w'=>e=Qd (O U (I7 t i f))/\BL w w':=by
 have d:BL w (w.alloc (A #[S f.1,S f.2.1,O U f.2.2.1,O U f.2.2.2.1,O U f.2.2.2.2.1,O U f.2.2.2.2.2] 77)):=Af _ _;have q:=A1.new w f;have b:=VG 312 p C D E t.1 t.2.2 (w.alloc (A #[S f.1,S f.2.1,O U f.2.2.1,O U f.2.2.2.1,O U f.2.2.2.2.1,O U f.2.2.2.2.2] 77)) (j.below d).cells (Dj j.rems);have N:=TK n;have c:=IF f (w.alloc (A #[S f.1,S f.2.1,O U f.2.2.1,O U f.2.2.2.1,O U f.2.2.2.2.1,O U f.2.2.2.2.2] 77)) a (h.below d) (by omega);rw[Ky n]at c;have r:I _:=fun W (hb:BL w W)=>(j.below hb).cells;unfold I7;unfold A6 at c ⊢;generalize i.2.2.1+1=K;generalize t.2.2.length=z at b ⊢;obtain⟨Q,s,T,L,M,F⟩:=f;obtain⟨X,Y,r2,r3,r4,r5,-⟩:=q.cells;obtain⟨R,u⟩:∃R,(if 0<z/\s.data.toList≠ [45] then t.1.2.2.1 else K)=R:=⟨_,rfl⟩;rw[u];have o:I _:=u
 go_enter func284,ntmps284
 go_upto_region 1 with fail
 by_cases k:0<z
 ·rw[decide_eq_true k]at b;by_cases l:s.data.toList= [45]
  ·rw[decide_eq_true l]at c
   go_wp2_with (first
    | (go_at_call 282;with_reducible refine b.mono ?_;rintro e v ⟨rfl,rfl⟩)
    | (go_at_call 139;with_reducible refine c.mono ?_;rintro e y ⟨rfl,g⟩))
   go_ret;exact⟨by rw[<-o.out,if_neg (fun e=>e.2 l)];rfl,(Ad d g)⟩
  ·rw[decide_eq_false l]at c
   go_upto_region 2 with(first
    | (go_at_call 282;with_reducible refine b.mono ?_;rintro e v ⟨rfl,rfl⟩)
    | (go_at_call 139;with_reducible refine c.mono ?_;rintro e y ⟨rfl,g⟩))
   have m:=Ad d g;have P:=(r.out y m).cells.1;go_wp2;go_ret;exact⟨by rw[<-o.out,if_pos ⟨k,l⟩];rfl,m⟩
 ·rw[decide_eq_false k]at b
  go_wp2_with (go_at_call 282;with_reducible refine b.mono ?_;rintro e v ⟨rfl,rfl⟩)
  go_ret;exact⟨by rw[<-o.out,if_neg (fun e=>k e.1)];rfl,d⟩
theorem tW (B i m:Nat) (E F r:Qc) (t:Tx) (f:Fl) (w:V) (d:CI 312 B w i E F r t) (M:t.2.2.length<=1000) (s:w.cell? ⟨m,0,Z⟩=J (Qa (J ⟨i,0,Z⟩))) :
  Calls Qb 283 #[A6 f,Qa (J ⟨m,0,Z⟩)] w fun e w'=>e=Qd (Qt (AQ t.2.2 f.1))/\BL w w':=by
 have b:BL w (w.alloc (A #[S f.1,S f.2.1,O U f.2.2.1,O U f.2.2.2.1,O U f.2.2.2.2.1,O U f.2.2.2.2.2] 77)):=Af _ _;have N:=(A1.new w f).cells.1;have n:=fun W (hb:BL w W)=>(OU r t.2.2 f.1 W ((IC d.rems).below hb) (by omega)).mono (R':=fun e w'=>e=Qd (Qt (AQ t.2.2 f.1))/\BL W w') fun e w' ⟨he,hw⟩=>⟨he,by subst hw;exact Qi _ _⟩;have P:=(d.below b).cells.cells.2.2.2;have K:=Aa b s;obtain⟨u,v,j⟩:=Dj d.rems;generalize t.2.2.length=D at j;subst j;unfold A6;obtain⟨o,y,z,p,q,l⟩:=f
 go_enter func283,ntmps283
 go_upto_region 1 with fail
 generalize w.alloc (A #[S o,S y,O U z,O U p,O U q,O U l] 77)=g at *;have L:BL g g:=Qi _ _
 go_region_held3 (fun w'=>w'.cell? ⟨m,0,Z⟩=J (Qa (J ⟨i,0,Z⟩))/\w'.cell? ⟨i,8,Z⟩=J (H u D v)/\w'.cell? ⟨w.heap.size,0,Z⟩=J (S o)/\BL g w')
  (first
   | (go_split_ands;with_reducible exact⟨Aa c (by assumption),Aa c (by assumption),Aa c (by assumption),QB (by assumption) (c.mono (Qr (by assumption)))⟩)
   | (go_split_ands;exact⟨by go_keep,by go_keep,by go_keep,by assumption⟩)
   | (go_split_ands;exact⟨by go_keep,by go_keep,by go_keep,Q2 (by assumption)⟩))
  (first
   | (go_at_call 234;with_reducible refine(n _ (by go_split_ands;exact b.trans (Below.mono (by assumption) b.size))).mono ?_;rintro e C ⟨rfl,c⟩))
 go_split_ands;have k:BL g C:=by assumption
 go_wp2;go_ret;exact⟨rfl,(Ad b k)⟩
theorem A1.toSeq {W:V} {b:Nat} {p q:ByteArray} {n lo hi s x:Int} (h:A1 W b (p,q,n,lo,hi,s)):A1 (W.setCell ⟨b,5,Z⟩ (O U x)) b (p,q,n,lo,hi,x):=by
 unfold A1 at *;rw[heap_setCell_same _ _ _ _ _ _ h];rfl
theorem tX {T:Q8} {B:Nat} {d W g:V} {i:Nat} {r j s:Qc} {t:Tx} {l:Nat->Prop} (D:T≠77) (E:T≠9) (F:CI T B d i r j s t) (K:∀k,EL i j s k->l k) (o:∀k,r.ownBlock=J k->(l k\/k<B)/\k<d.heap.size) (L:∀k,l k->B<=k/\k<d.heap.size) (hB:B<=d.heap.size)
  (m:BL d g) (f:Fl) (M:g=W.alloc (A #[S f.1,S f.2.1,O U f.2.2.1,O U f.2.2.2.1,O U f.2.2.2.2.1,O U f.2.2.2.2.2] 77)) (aa:t.2.1.length<=1000) :
  ∃va' W2,(QC #[38,38] 38 #[j,H (J ⟨W.heap.size,0,Z⟩) 1 1]).run Qb g= .ok va' W2/\(∃q n c,va'=H q n c)/\C8 T W2 i t.1 r j s/\Ik T B d (Qa (J ⟨i,0,Z⟩)) l (t.1,t.2.1++ [f],t.2.2) (W2.setCell ⟨i,7,Z⟩ va'):=by
 obtain⟨N,Q,R,X,y⟩:=Tryz.fileInfo;have b:=F.below m;have u:B<=g.heap.size:=Qh hB m.size;have p:CR g (J ⟨W.heap.size,0,Z⟩) 1 1 (Bv f):=by
  rw[M];exact Ih W (Bv f) 77 1 1
 obtain⟨va',W2,Y,z,C,hv⟩:=Fc (P:=Qb) g B 38 38 77 N (Qu #[S ⟨#[]⟩,S ⟨#[]⟩,O U 0,O U 0,O U 0,O U 0]) 6 64 QM Q R X y rfl (by decide) j t.2.1.length (Ay t.2.1) b.adds (J ⟨W.heap.size,0,Z⟩) 1 1 (Bv f) rfl p (Ic f) (by unfold Q3;omega) (by omega) u;have v:W2.ownsRow B 77 6 va' (t.2.1++ [f]).length (Ay (t.2.1++ [f])):=by
  rw[Qo,Id];simpa [Ay] using z
 obtain⟨a1,a2,a3⟩:=b.added D E v C hv (fun k hk=>Qk (o k hk).2 m.size);refine⟨va',W2,Y,?_,b.cells.but (Ac.grown C) (b.apart D E).1,Uv K o L m a1 a2 a3⟩;obtain⟨q,c,e⟩:=Dj z;exact⟨q,_,c,e⟩
theorem tY {T:Q8} {B:Nat} {d W f:V} {g:Nat} {r s i:Qc} {t:Tx} {j:Nat->Prop} (F:T≠77) (K:T≠9) (L:CI T B d g r s i t) (M:∀k,EL g s i k->j k) (m:∀k,r.ownBlock=J k->(j k\/k<B)/\k<d.heap.size) (N:∀k,j k->B<=k/\k<d.heap.size) (hB:B<=d.heap.size)
  (l:BL d f) (p:ByteArray) (Q:f=W.alloc (A #[S p] 9)) (aa:t.2.2.length<=1000) :
  ∃vr' W2,(QC #[82,82] 82 #[i,H (J ⟨W.heap.size,0,Z⟩) 1 1]).run Qb f= .ok vr' W2/\(∃q n c,vr'=H q n c)/\C8 T W2 g t.1 r s i/\Ik T B d (Qa (J ⟨g,0,Z⟩)) j (t.1,t.2.1,t.2.2++ [p]) (W2.setCell ⟨g,8,Z⟩ vr'):=by
 obtain⟨R,X,Y,hs,z⟩:=Tryz.strInfo;have b:=L.below l;have v:B<=f.heap.size:=Qh hB l.size;have o:CR f (J ⟨W.heap.size,0,Z⟩) 1 1 [S p]:=by
  rw[Q];exact Ih W [S p] 9 1 1
 obtain⟨vr',W2,hr,C,D,hv⟩:=Fc (P:=Qb) f B 82 82 9 R (S ⟨#[]⟩) 1 16 underlying82 X Y hs z rfl (by decide) i t.2.2.length (t.2.2.map S) b.rems (J ⟨W.heap.size,0,Z⟩) 1 1 [S p] rfl o (by intro u E;rw[QO]at E;subst E;rfl) (by unfold Q3;omega) (by omega) v;have y:W2.ownsRow B 9 1 vr' (t.2.2++ [p]).length ((t.2.2++ [p]).map S):=by
  rw[Qo,List.map_append];simpa using C
 obtain⟨a1,a2,a3⟩:=b.removed F K y D hv (fun k hk=>Qk (m k hk).2 l.size);refine⟨vr',W2,hr,?_,b.cells.but (Ac.grown D) (b.apart F K).2.1,Uv M m N l a1 a2 a3⟩;obtain⟨q,c,e⟩:=Dj C;exact⟨q,_,c,e⟩
theorem tZ (B:Nat) (v:Qc) (FP:Nat->Prop) (t:Tx) (f:Fl) (w:V) (a:Nat->Qe) (h:GE w a) (ht:CU 312 B w v FP t) (hB:B<=w.heap.size) (ak:t.2.1.length<=1000) (h1:f.1.size<=100000) (h2:f.2.1.size<=100000) :
  Calls Qb 196 #[v,A6 f] w fun e w'=>e=Qd (Ae a (FA t f))/\Ik 312 B w v FP (Hf t f) w':=by
 have u:I _:=fun w' (hb:BL w w')=>Uw ht hb;obtain⟨E,vb,va,vr,rfl,C,aq,ar,au⟩:=ht;have al:BL w (w.alloc (A #[S f.1,S f.2.1,O U f.2.2.1,O U f.2.2.2.1,O U f.2.2.2.2.1,O U f.2.2.2.2.2] 77)):=Af _ _;have F:=A1.new w f;have y:=fun W (hb:BL w W)=>Mv (Bk f 1) W a (h.list.file.below hb) h1 h2;have aa:=fun W (hb:BL w W)=>Kx va t.2.1 f.1 W ((GA C.adds).1.below hb) (by omega);have K:I (∀(W W9:V),BL w W9->W9=W.alloc (A #[S (Bk f 1).1,S (Bk f 1).2.1,O U (Bk f 1).2.2.1,O U (Bk f 1).2.2.2.1,O U (Bk f 1).2.2.2.2.1,O U (Bk f 1).2.2.2.2.2] 77)->∃D P,(QC #[38,38] 38 #[va,H (J ⟨W.heap.size,0,Z⟩) 1 1]).run Qb W9= .ok D P/\(∃q n c,D=H q n c)/\C8 312 P E t.1 vb va vr/\Ik 312 B w (Qa (J ⟨E,0,Z⟩)) FP (t.1,t.2.1++ [Bk f 1],t.2.2) (P.setCell ⟨E,7,Z⟩ D)) :=
  fun W W9 hW9 e=>tX (by decide) (by decide) C aq ar au hB hW9 (Bk f 1) e ak
 have ab:I _:=fun W (hb:BL w W)=>(C.below hb).cells;obtain⟨qa,ca,af⟩:=Dj C.adds;have ah:I _:=fun W (hb:BL w W)=>h.below hb;have z:I (decide (0<=Dp t.2.1 f.1)=BU t.2.1 f.1):=O8 _ _;have j:I (FA t f=if Au (Bk f 1)≠0 then Au (Bk f 1) else if BU t.2.1 f.1=Qf then 7 else 0):=rfl;have k:I (Hf t f=if FA t f=0 then (t.1,t.2.1++ [Bk f 1],t.2.2) else t):=rfl;generalize Hf t f=TA at k ⊢;generalize FA t f=TE at j k ⊢;unfold A6 at y ⊢;unfold Bk at y K j k;obtain⟨i,r,s,d,g,N⟩:=f;generalize ay:Au (i,r,s,d,g,1)=FE at y j;generalize az:Dp t.2.1 i=FI at aa z;generalize a0:BU t.2.1 i=HP at z j;generalize t.2.1.length=LA at af;subst af
 go_enter func196,ntmps196
 have fz:=(F.cells).2.2.2.2.2.2;have q5:=(F.cells).2.2.2.2.2.1;have ac:=F.toSeq (x:=1);have ad:BL w ((w.alloc (A #[S i,S r,O U s,O U d,O U g,O U N] 77)).setCell ⟨w.heap.size,5,Z⟩ (O U 1)):=al.setCell (Qm _) _
 go_upto_region 3 with fail
 generalize w.alloc (A #[S i,S r,O U s,O U d,O U g,O U N] 77)=WA at *
 go_upto_region 4 with fail
 generalize WA.setCell ⟨w.heap.size,5,Z⟩ (O U 1)=W1 at *;have ai:=y W1 ad;obtain⟨r0,r1,r2,r3,r4,r5,-⟩:=ac.cells
 go_wp2_with fail
 refine ai.mono ?_;rintro e R ⟨rfl,ag⟩;have m:=Ad ad ag;have ae:=ac.below ag;by_cases hE:FE=0
 case neg =>
  have b:I (TE=FE):=by show _=_;rw[j.out,if_pos hE]
  obtain⟨n,rfl⟩:∃n,FE=n+1:=⟨FE-1,by omega⟩;have o:I (TA=t):=by show _=_;rw[k.out,b.out,if_neg (by omega)]
  simp only[Ae];go_wp2;go_ret;refine⟨by rw[b.out];rfl,?_⟩;rw[o.out];exact u.out _ m
 case pos =>
 subst hE;have L:I (TE=if HP=Qf then 7 else 0):=by show _=_;rw[j.out,if_neg (by simp)]
 simp only[Ae];have av:=(ab.out R m).cells.2.2.1;have r0:=ae.cells.1;have aw:BL R R:=Qi _ _
 go_upto_region 7 with fail
 go_region_held3 (fun w'=>w'.cell? ⟨E,7,Z⟩=J (H qa LA ca)/\w'.cell? ⟨w.heap.size,0,Z⟩=J (S i)/\BL R w')
  (first
   | (go_split_ands;with_reducible exact⟨Aa T (by assumption),Aa T (by assumption),QB (by assumption) (T.mono (Qr (by assumption)))⟩)
   | (go_split_ands;exact⟨by go_keep,by go_keep,by assumption⟩)
   | (go_split_ands;exact⟨by go_keep,by go_keep,Q2 (by assumption)⟩))
  (first
   | (go_at_call 83;with_reducible refine(aa _ (by go_split_ands;exact m.trans (Below.mono (by assumption) m.size))).mono ?_;rintro e l ⟨rfl,T⟩))
 go_split_ands;have M:BL R l:=by assumption
 have p:=Ad m M;have am:=ae.below M
 cases HP with
 | true =>
  have b:I (TE=7):=by show _=_;rw[L.out,if_pos rfl]
  have o:I (TA=t):=by show _=_;rw[k.out,b.out,if_neg (by omega)]
  have an:=of_decide_eq_true z.out;have et:=(ah.out l p).list.exist;go_wp2;go_ret;refine⟨by rw[b.out];rfl,?_⟩;rw[o.out];exact u.out _ p
 | false =>
  have b:I (TE=0):=by show _=_;rw[L.out,if_neg (by simp)]
  have o:I (TA=(t.1,t.2.1++ [(i,r,s,d,g,1)],t.2.2)):=by show _=_;rw[k.out,b.out,if_pos rfl]
  have an:¬(0:Int)<=FI:=of_decide_eq_false z.out
  go_upto_region 9 with fail
  obtain⟨D,P,hr,⟨q',n',c',rfl⟩,Q,Y⟩:=K.out l.drew (l.drew.alloc (A #[S i,S r,O U s,O U d,O U g,O U 1] 77)) (p.drew.alloc p.drew.size _) rfl;have X:I (Ik 312 B w (Qa (J ⟨E,0,Z⟩)) FP (t.1,t.2.1++ [(i,r,s,d,g,1)],t.2.2) (P.setCell ⟨E,7,Z⟩ (H q' n' c'))):=Y;have ax:BL l l.drew:=(Qi _ _).drew;have ao:BL l (l.alloc (A #[S i,S r,O U s,O U d,O U g,O U 1] 77)):=Af _ _;have ap:=hr;have aj:=(ab.out l p).cells.2.2.1;have k2:=Aa ao aj;obtain⟨r0,r1,r2,r3,r4,r5,-⟩:=am.cells;have y0:=Q.cells.2.2.1;have y1:=Q.fz
  go_region_law (refine OY (by rfl) _ _ _ (by rfl) _ _ _ (by rfl) (by rfl) ap ?_)
  all_goals go_wp2
  all_goals go_ret
  all_goals
   refine⟨by rw[b.out];rfl,?_⟩;rw[o.out];exact X.out
theorem uA (t:Tx) (b:Sn) (n:Nat) (h:n<t.2.1.length):(Bd t b).take (n+1)=(Bd t b).take n++ [Bk t.2.1[n] (I7 t b t.2.1[n])]:=by
 have c:n<(Bd t b).length:=by simpa [Bd] using h
 rw[List.take_succ_eq_append_getElem c];simp[Bd]
theorem uB (B r:Nat) (vb va vr v:Qc) (t:Tx) (d:Sn) (w:V) (a:Nat->Qe) (h:GE w a) (ac:CI 312 B w r vb va vr t) (hx:Ai w v d.2.2.2.2.2.2) (ad:Cn t) (hn:(Am d).1=0) (ar:FC t d=Ql) (b0:t.2.1.length<=1000) (b1:t.2.2.length<=1000) :
  Calls Qb 199 #[Qa (J ⟨r,0,Z⟩),v,O U (d.2.2.1+1)] w fun e w'=> ∃v',e=Qd v'/\Ai w' v' (CH t d)/\DV w v'/\BL w w':=by
 obtain⟨i0,bt,bu,bv,ba⟩:=Tryz.fileInfo;have eg:∀args w,(QL 283 args).run Qb w= .ok (.enter 283 args) w:=Qw func283 (by kernel_rfl) rfl;have z:BL w (w.alloc (A #[Qa (J ⟨r,0,Z⟩)] 174)):=Af _ _;have R:(w.alloc (A #[Qa (J ⟨r,0,Z⟩)] 174)).cell? ⟨w.heap.size,0,Z⟩=J (Qa (J ⟨r,0,Z⟩)):=by
  rw[Qx _ _ _ _ _ _ (Qj _ _)];rfl
 have bd:d.2.2.2.2.2.2.length<=60:=(Jy hn).1;have au:=MC v d.2.2.2.2.2.2 (w.alloc (A #[Qa (J ⟨r,0,Z⟩)] 174)) (hx.below z) (by omega);obtain⟨a3,a4,-⟩:=Ua ad hn ar;have av:I ((∀f∈BA t d++Bd t d,AB f.1.data.toList≠Z)/\(BA t d++Bd t d).Pairwise (fun f g=>fk f≠fk g)):=⟨a3,a4⟩;have ae:I (∀ys:List Fl,ys.Perm (BA t d++Bd t d)->E6 ys->ys=CH t d):=fun ys h1 h2=>lG ad hn ar h1 h2;have aw:I ((BA t d).length<=60):=Qh (Xg _ _) bd;have af:I ((Bd t d).length=t.2.1.length):=by show _=_;simp[Bd]
 have be:I (∀W,BL w W->Ai W va t.2.1):=fun W l=>(GA ac.adds).1.below l;have ag:I (∀W,BL w W->CI 312 B W r vb va vr t):=fun W l=>ac.below l;have ah:I (∀W,BL w W->Df W a):=fun W l=>(h.below l).list.file.env;have bf:I (∀f∈t.2.1,Au f=0):=ad.adds;have bg:I (∀n (hh:n<t.2.1.length),(Bd t d).take (n+1)=(Bd t d).take n++ [Bk t.2.1[n] (I7 t d t.2.1[n])]):=fun n hh=>uA t d n hh;have bh:I ((d.2.2.2.2.2.2.filter fun f=> !AQ t.2.2 f.1)=BA t d):=rfl;obtain⟨q,c,hv⟩:=hx.form;obtain⟨qa,ca,a5⟩:=Dj ac.adds;obtain⟨LA,an⟩:∃L,t.2.1.length=L:=⟨_,rfl⟩;have ai:I (t.2.1.length=LA):=an;rw[an]at a5 b0;have aj:I (∀W,BL w W->∀f,Au f=0->Calls Qb 284 #[Qa (J ⟨r,0,Z⟩),A6 f,O U (d.2.2.1+1)] W fun e w'=>e=Qd (O U (I7 t d f))/\BL W w'):=fun W l f hf=>tV B r vb va vr t d f W a (ah.out W l) (ag.out W l) hf;generalize bx:CH t d=TF at ae ⊢;generalize bz:d.2.2.1+1=NS at aj ⊢;subst hv a5;clear ac hx ad hn ar h a3 a4 an bx bz
 go_enter func199,ntmps199
 go_upto_region 1 with fail
 generalize w.alloc (A #[Qa (J ⟨r,0,Z⟩)] 174)=i at *;have ak:=fun (v1:Qc) (W:V) (l:BL i W) (ho:W.ownsRow i.heap.size 77 6 v1 d.2.2.2.2.2.2.length (Ay d.2.2.2.2.2.2))=>UG 283 #[Qa (J ⟨w.heap.size,0,Z⟩)] (fun f=>AQ t.2.2 f.1) v1 d.2.2.2.2.2.2 i W l ho (by omega) eg (fun f _ W' hW'=>tW B r w.heap.size vb _ vr t f W' (ag.out W' (z.trans (hW'.mono z.size))) b1 (Aa hW' R))
 go_wp2_with fail
 refine au.mono ?_;rintro e w1 ⟨v1,rfl,a6,a7⟩;have ax:=ak v1 w1 a7 a6;clear ak au a6
 go_wp2_with fail
 refine ax.mono ?_;rintro e w2 ⟨v2,rfl,ap,Y⟩;clear ax a7;rw[bh.out]at ap;have bi:I (w2.ownsRow i.heap.size 77 6 v2 (BA t d++(Bd t d).take 0).length (Ay (BA t d++(Bd t d).take 0))):=by
  show Xh _ _ _ _ _ _ _;simpa using ap
 have bj:BL w w2:=Ad z Y;have kx:=Aa Y R;have ka:=(ag.out w2 bj).cells.cells.2.2.1;have bk:I (BL i w2):=Y;have C:I (BL w i):=z;have bl:I (∀W,BL i W->W.cell? ⟨w.heap.size,0,Z⟩=J (Qa (J ⟨r,0,Z⟩))):=fun W l=>Aa l R;clear ap Y z R eg
 go_wp2_with fail
 clear kx ka
 go_loopw [7,9,19] (fun s7 _ k wr=> ∃n:Nat,n<=LA/\k=O U n/\BL i wr/\wr.ownsRow i.heap.size 77 6 s7 (BA t d++(Bd t d).take n).length (Ay (BA t d++(Bd t d).take n))) (fun _ _ k _=>LA-(Qv k).toNat)
 case atStart=>exact ⟨0,by omega,rfl,bk.out,bi.out⟩
 case round =>
  obtain⟨n,hn,rfl,l,ao⟩:=hrel;have OW:I (wr.ownsRow i.heap.size 77 6 u7 (BA t d++(Bd t d).take n).length (Ay (BA t d++(Bd t d).take n))):=ao;have D:I (BL i wr):=l;have al:I (BL w wr):=C.out.trans (l.mono C.out.size);clear ao;by_cases bm:n<LA
  ·have s:n<t.2.1.length:=by rw[ai.out];exact bm
   obtain⟨b,o,hq,hc⟩:=(be.out wr al.out).cells (fun e=>by rw[e]at s;simp at s);subst hq;obtain⟨c0,c1,c2,c3,c4,c5⟩:=hc n s;have ay:I ((BA t d++(Bd t d).take n).length<=1100):=by
    show _<=_;have h1:=aw.out;have h2:=af.out;rw[Qo,QD];omega
   have E:=bg.out n s;have az:=bf.out t.2.1[n] (QE _);have F:=Js wr t.2.1[n];have u:=I6 wr t.2.1[n];unfold He at F u;have K:=aj.out _ (al.out.trans (u.mono al.out.size)) t.2.1[n] az;generalize t.2.1[n]=f at c0 c1 c2 c3 c4 c5 E F u K;generalize I7 t d f=y at E K;unfold Bk at E;unfold A6 at K;obtain⟨M,N,P,m,p,bb⟩:=f;dsimp only at c0 c1 c2 c3 c4 c5 E F u K;have b4:(n:Int)<(LA:Int):=by omega
   have b2:(0:Int)<=(n:Int):=by omega
   clear hc s az;have bn:I ((Bd t d).take (n+1)=(Bd t d).take n++ [(M,N,P,m,p,y)]):=E;clear E
   go_upto_region 5 with fail
   clear c0 c1 c2 c3 c4 c5;generalize wr.alloc (A #[S M,S N,O U P,O U m,O U p,O U bb] 77)=W5 at *;have kx:=bl.out W5 (D.out.trans (u.mono D.out.size));obtain⟨r0,r1,r2,r3,r4,Q,-⟩:=F.cells;dsimp only at r0 r1 r2 r3 r4 Q
   go_wp2_with fail
   refine K.mono ?_;rintro e w6 ⟨rfl,aq⟩;clear K kx r0 r1 r2 r3 r4 Q;have T:=F.below aq;have Q:=T.cells.2.2.2.2.2.1;have r6:=T.cells.2.2.2.2.2.2;dsimp only at Q;have a0:BL wr w6:=Ad u aq;have bo:=T.toSeq (x:=y);have X:BL wr (w6.setCell ⟨wr.heap.size,5,Z⟩ (O U y)):=a0.setCell (Qm _) _;clear F aq T a0 u
   go_upto_region 6 with fail
   clear Q r6;generalize w6.setCell ⟨wr.heap.size,5,Z⟩ (O U y)=W7 at *;obtain⟨r0,r1,r2,r3,r4,Q,-⟩:=bo.cells;dsimp only at r0 r1 r2 r3 r4 Q;have b3:BL W7 (W7.alloc (A #[S M,S N,O U P,O U m,O U p,O U y] 77)):=Af _ _;have am:BL i (W7.alloc (A #[S M,S N,O U P,O U m,O U p,O U y] 77)):=(D.out.trans (X.mono D.out.size)).alloc (Qh D.out.size X.size) _;have a9:BL wr (W7.alloc (A #[S M,S N,O U P,O U m,O U p,O U y] 77)):=X.alloc X.size _
   go_wp2_with (at_builtin;refine wpList_append_own _ rfl _ _ 38 rfl i.heap.size 77 i0 (Qu #[S ⟨#[]⟩,S ⟨#[]⟩,O U 0,O U 0,O U 0,O U 0]) 6 64 QM bt bu bv ba rfl (by decide) u7 (BA t d++(Bd t d).take n).length (Ay (BA t d++(Bd t d).take n)) rfl ?qc0 ⟨W7.heap.size,0,Z⟩ 1 1 (Bv (M,N,P,m,p,y)) rfl ?qc1 ?qc2 ?qc3 ?qc4 ?qc5 ?qc6 ?_)
   case qc0=>exact Eu OW.out a9
   case qc1=>rfl
   case qc2=>exact Kj W7 (M,N,P,m,p,y)
   case qc3=>exact Ic _
   case qc4=>have:=ay.out;unfold Q3;omega
   case qc5=>have:=ay.out;omega
   case qc6=>exact am.size
   intro v' w8 aa ab bc;have bp:BL i w8:=am.grown ab am.size (fun k hk=>(A7 OW.out hk).1);have bq:I (w8.ownsRow i.heap.size 77 6 v' ((BA t d++(Bd t d).take n).length+1) (Ay (BA t d++(Bd t d).take n)++Bv (M,N,P,m,p,y))):=by
    show Xh _ _ _ _ _ _ _;rw[Qo,QD];exact aa
   clear aa bc ab;go_wp2;go_roundw
   case rel=>exact ⟨n+1,by omega,by go_num,bp,by rw[bn.out,<-List.append_assoc,Qo,Id];simpa [Ay] using bq.out⟩
   case measure=>simp [Qv];omega
  ·obtain rfl:n=LA:=by omega
   have a1:I (wr.ownsRow i.heap.size 77 6 u7 (BA t d++Bd t d).length (Ay (BA t d++Bd t d))):=by
    have h':=OW.out;have e:(Bd t d).take n=Bd t d:=Q5 (by rw[af.out,ai.out];exact Qm _);rw[e]at h';exact h'
   have br:I (DV w u7):=fun j hj=>Qh C.out.size (A7 a1.out hj).1;have a2:=tT u7 (BA t d++Bd t d) i wr a (ah.out i C.out) D.out a1.out (by
    have h1:=aw.out;have h2:=af.out;have h3:=ai.out;rw[Qo];omega) av.out.1 av.out.2
   go_wp2_with fail
   refine a2.mono ?_;rintro e w9 ⟨rfl,ys,hp,hu,a8,bw⟩;clear a2;have bs:I (Ai w9 u7 TF):=by
    show Ai _ _ _;rw[<-ae.out ys hp hu];exact a8
   clear hp hu a8;go_wp2;go_ret;exact⟨_,rfl,bs.out,br.out,C.out.trans (bw.mono C.out.size)⟩
theorem Ao.zeros {W:V} {b:Nat} (h:Ao W b AE (H Z 0 0)):W.cell? ⟨b,0,Z⟩=J (O U 0)/\W.cell? ⟨b,1,Z⟩=J (O U 0)/\W.cell? ⟨b,2,Z⟩=J (O U 0)/\W.cell? ⟨b,3,Z⟩=J (O U 0)/\W.cell? ⟨b,4,Z⟩=J (O U 0)/\W.cell? ⟨b,5,Z⟩=J (S ⟨#[]⟩)/\W.cell? ⟨b,6,Z⟩=J (H Z 0 0)/\∀o,W.frozen? ⟨b,o,Z⟩=Ql:=by
 obtain⟨c,d,f,g,i,j,k⟩:=h.cells;exact⟨c,d,f,g,i,j,k,h.fz⟩
theorem FQ {X:V} {b p o:Nat} {v d f g i l m n:Qc} (q:X.cell? ⟨b,o,Z⟩=J v) (c:b≠p):(((((((X.setCell ⟨p,0,Z⟩ d).setCell ⟨p,1,Z⟩ f).setCell ⟨p,2,Z⟩ g).setCell ⟨p,3,Z⟩ i).setCell ⟨p,4,Z⟩ l).setCell ⟨p,5,Z⟩ m).setCell ⟨p,6,Z⟩ n).cell? ⟨b,o,Z⟩=J v:=by
 have k:∀(Y:V) (j:Nat) (u:Qc),Y.cell? ⟨b,o,Z⟩=J v->(Y.setCell ⟨p,j,Z⟩ u).cell? ⟨b,o,Z⟩=J v:=fun Y j u h=>by
  rw[Xi _ _ _ _ (by intro e;injection e with e;exact c e.symm)];exact h
 exact k _ _ _ (k _ _ _ (k _ _ _ (k _ _ _ (k _ _ _ (k _ _ _ (k _ _ _ q))))))
theorem PC {c X:V} {B p:Nat} {d f g i j k l:Qc} (h:Below B c X) (b:B<=p):Below B c (((((((X.setCell ⟨p,0,Z⟩ d).setCell ⟨p,1,Z⟩ f).setCell ⟨p,2,Z⟩ g).setCell ⟨p,3,Z⟩ i).setCell ⟨p,4,Z⟩ j).setCell ⟨p,5,Z⟩ k).setCell ⟨p,6,Z⟩ l):=((((((h.setCell b _).setCell b _).setCell b _).setCell b _).setCell b _).setCell b _).setCell b _
theorem L0 {B:Nat} {a w:V} {o b:Obj} (h:Below B a (w.alloc o)) (c:B<=w.heap.size) (d:a.heap.size<=w.heap.size):Below B a (w.alloc b):=by
 refine⟨h.os,h.tape,h.output,by simp;omega,fun k hk=>?_⟩;rw[<-h.block k hk];simp only[Xj,Array.getElem?_push];rw[if_neg (by omega),if_neg (by omega)]
theorem Dv {w:V} {o c:Obj} {b p:Nat} {v:Qc} (h:(w.alloc o).cell? ⟨b,p,Z⟩=J v) (d:b<w.heap.size):(w.alloc c).cell? ⟨b,p,Z⟩=J v:=by
 rw[<-h];simp only[Xc,Xj,Array.getElem?_push,Qy d,if_false]
theorem VH {X:V} {p:Nat} {g:Sn} {q:Option Qe} {n c:Nat} {v:Qc} {d:List Fl} (h:Ao X p g (H q n c)) (f:Ai X v d) (s:Sn) (vf:Qc):Ai (Gi X p s vf) v d:=by
 have b:=Jr h f;exact(((((((f.set_off b 0 _).set_off b 1 _).set_off b 2 _).set_off b 3 _).set_off b 4 _).set_off b 5 _).set_off b 6 _)
theorem K3 (w:V):Ao (w.alloc (A #[O U 0,O U 0,O U 0,O U 0,O U 0,S ⟨#[]⟩,H Z 0 0] 40)) w.heap.size AE (H Z 0 0):=Qj _ _
theorem L1 (w:V):Ao (w.alloc (A #[O U 0,O U 0,O U 0,O U 0,O U 0,S ⟨#[]⟩,H Z 0 0] 40)).drew w.heap.size AE (H Z 0 0):=Qj w _
theorem PD (w:V) (b c d f g:Int) (o:ByteArray) (v:Qc) (i:List Fl):Ao (w.alloc (A #[O U b,O U c,O U d,O U f,O U g,S o,v] 40)) w.heap.size (b,c,d,f,g,o,i) v:=Qj _ _
theorem PF {X:V} {p:Nat} {s:Sn} {vf:Qc} (h:Ao X p s vf) (b c d f g:Int) (o:ByteArray) (v:Qc) (i:List Fl):Ao (((((((X.setCell ⟨p,0,Z⟩ (O U b)).setCell ⟨p,1,Z⟩ (O U c)).setCell ⟨p,2,Z⟩ (O U d)).setCell ⟨p,3,Z⟩ (O U f)).setCell ⟨p,4,Z⟩ (O U g)).setCell ⟨p,5,Z⟩ (S o)).setCell ⟨p,6,Z⟩ v) p (b,c,d,f,g,o,i) v:=h.set (b,c,d,f,g,o,i) v
theorem PG {X:V} {p:Nat} {s:Sn} {q:Option Qe} {n c:Nat} (h:Ao X p s (H q n c)) (d f g i j:Int) (o:ByteArray) (v:Qc) {k:Qc} {b:List Fl} (l:Ai X k b):Ai (((((((X.setCell ⟨p,0,Z⟩ (O U d)).setCell ⟨p,1,Z⟩ (O U f)).setCell ⟨p,2,Z⟩ (O U g)).setCell ⟨p,3,Z⟩ (O U i)).setCell ⟨p,4,Z⟩ (O U j)).setCell ⟨p,5,Z⟩ (S o)).setCell ⟨p,6,Z⟩ v) k b:=VH h l (d,f,g,i,j,o,b) v
def K4 (w:V) (a:Nat->Qe) (E:Nat×Option Nat) (b:Sn) (e:QP) (w':V):Prop :=
 ∃vf ev,e=Qd (Qg #[A8 b vf,ev])/\Ai w' vf b.2.2.2.2.2.2/\DV w vf/\AZ w' a ev E/\BL w w'
theorem PH {w w':V} {a:Nat->Qe} {E:Nat×Option Nat} {b:Sn} {c:Qc} (d:b=AE) (f:AZ w' a c E) (g:BL w w'):K4 w a E b (Qd (Qg #[Qu #[O U 0,O U 0,O U 0,O U 0,O U 0,S ⟨#[]⟩,H Z 0 0],c])) w':=by
 subst d;exact⟨H Z 0 0,c,rfl,Qq ⟨Z,0,rfl,fun _=>rfl,rfl⟩,(fun _ h=>by cases h),f,g⟩
theorem uC (t:Tx) (b:Sn) (d day c:Int) (h:(Am b).1=0):Dg t b d day c=if Gv t b.2.2.2.2.2.2≠0 then (Gv t b.2.2.2.2.2.2,Z) else ((Am (FB t b d day c)).1,Z):=by
 unfold Dg Gv Jv FC;rw[if_neg (by simpa using h)];split
 ·simp
 ·split
  ·simp
  ·simp
theorem uD {t:Tx} {b:Sn} (h:Gv t b.2.2.2.2.2.2=0):FC t b=Ql:=by
 unfold Gv at h;split at h
 ·cases h
 ·split at h
  ·cases h
  ·rename_i c;unfold FC;simpa using c
theorem K5 {f:Fl} (h:Au f=0):f.1.size<=30/\f.2.1.size<=30:=by
 obtain⟨g,n,c,b,j⟩:=D0 h;have d:f.1.data.toList.length<=16:=by
  rw[(Ew c).1];have:=(Fu (Ew c).2.1).2;cases g<;>simp [AH,Ee,Ef]<;>omega
 have i:f.2.1.data.toList.length<=12:=by
  unfold Dz at b;cases g
  ·simp only[QW,if_false,DG,Bool.and_eq_true,decide_eq_true_eq]at b;omega
  ·simp only[if_true,decide_eq_true_eq]at b;rw[b];decide
 rw[AC]at d i;omega
theorem VI {t:Tx} {b:Sn} (i:Cn t) (j:(Am b).1=0) (l:t.2.1.length<=100):(CH t b).length<=200/\Ej (CH t b):=by
 obtain⟨k,c,_⟩:=Jy j;refine⟨?_,fun g hg=>?_⟩
 ·unfold CH;rw[(Jw _ _).length_eq,Qo];have m:(BA t b).length<=b.2.2.2.2.2.2.length:=Xg _ _;have n:(Bd t b).length=t.2.1.length:=by simp[Bd]
  omega
 ·rcases OC.1 hg with⟨h,_⟩ | h
  ·exact K5 (c g h).1
  ·obtain⟨f,d,rfl⟩:=List.mem_map.1 h;exact K5 (f:=f) (i.adds f d)
theorem uE (B:Nat) (v:Qc) (FP:Nat->Prop) (t:Tx) (b:Sn) (vf:Qc) (f day c:Int) (w:V) (a:Nat->Qe) (h:GE w a) (u:CU 312 B w v FP t) (ai:Cn t) (hx:Ai w vf b.2.2.2.2.2.2) (hl:b.2.2.2.2.2.2.length<=100) (bx:Ej b.2.2.2.2.2.2) (bf:t.2.1.length<=100) (bg:t.2.2.length<=1000) :
  Calls Qb 112 #[v,A8 b vf,O U f,O U day,O U c] w fun e w'=>K4 w a (Dg t b f day c) (Dq t b f day c) e w':=by
 obtain⟨tb,vb,va,vr,rfl,bt,-,-,-⟩:=u;have y:I (∀W,BL w W->GE W a):=fun W hb=>h.below hb;have al:I (∀W,BL w W->CI 312 B W tb vb va vr t):=fun W hb=>bt.below hb;have HX:I (∀W,BL w W->Ai W vf b.2.2.2.2.2.2):=fun W hb=>hx.below hb;have ax:I (∀W,BL w W->Calls Qb 79 #[A8 b vf] W fun e w'=> ∃ev,e=Qd ev/\AZ w' a ev (Am b)/\BL W w'):=fun W hb=>J2 b vf W a (y.out W hb).list (HX.out W hb) (by omega) bx;have bh:I (∀W,BL w W->Calls Qb 197 #[Qa (J ⟨tb,0,Z⟩),vf] W fun e w'=>e=Qd (Ae a (Gv t b.2.2.2.2.2.2))/\BL W w'):=fun W hb=>tH B tb vb va vr vf t b.2.2.2.2.2.2 W a (y.out W hb) (al.out W hb) (HX.out W hb) (by omega) (by omega) bg;have bi:I (∀W,BL w W->Calls Qb 198 #[Qa (J ⟨tb,0,Z⟩)] W fun e w'=>e=Qd (S (I8 t))/\BL W w'):=fun W hb=>tU B tb vb va vr t W a (y.out W hb).list.file.env (al.out W hb) ai.adds (by omega);have bj:I ((Am b).1=0->Gv t b.2.2.2.2.2.2=0->∀W,BL w W->Calls Qb 199 #[Qa (J ⟨tb,0,Z⟩),vf,O U (b.2.2.1+1)] W fun e w'=> ∃v',e=Qd v'/\Ai w' v' (CH t b)/\DV W v'/\BL W w'):=fun h0 hf W hb=>uB B tb vb va vr vf t b W a (y.out W hb) (al.out W hb) (HX.out W hb) ai h0 (uD hf) (by omega) bg;have ac:I ((Am b).1=0->∀(W:V) (C:Qc),BL w W->Ai W C (CH t b)->Calls Qb 79 #[A8 (FB t b f day c) C] W fun e w'=> ∃ev,e=Qd ev/\AZ w' a ev (Am (FB t b f day c))/\BL W w'):=fun h0 W C hb h2=>J2 (FB t b f day c) C W a (y.out W hb).list h2 (VI ai h0 bf).1 (VI ai h0 bf).2;have bk:I ((Am b).1=0-> -1<=b.2.2.1/\b.2.2.1<=1073741824):=fun h0=>by
  have:=(I1.1 (GX h0).1).2.1.1;exact⟨by omega,this.2⟩
 have bl:I ((Am b).1≠0->Dg t b f day c=Am b):=fun h=>by unfold Dg;rw[if_pos h]
 have ay:I ((Am b).1=0->Dg t b f day c=if Gv t b.2.2.2.2.2.2≠0 then (Gv t b.2.2.2.2.2.2,Z) else ((Am (FB t b f day c)).1,Z)):=fun h=>uC t b f day c h;have T:I ((Dg t b f day c).1≠0->Dq t b f day c=AE):=fun h=>lH h;have am:I ((Dg t b f day c).1=0->Dq t b f day c=(f,b.1,b.2.2.1+1,day,c,I8 t,CH t b)):=fun h=>(Jz h).2.2.2.2;have bm:BL w (w.alloc (A #[O U b.1,O U b.2.1,O U b.2.2.1,O U b.2.2.2.1,O U b.2.2.2.2.1,S b.2.2.2.2.2.1,vf] 40)):=Af _ _;have bn:=Ao.new w b vf;obtain⟨qf,cf,bu⟩:=hx.form;have bo:I (FB t b f day c=(f,b.1,b.2.2.1+1,day,c,I8 t,CH t b)):=rfl;rw[bo.out]at ac ay;generalize r:Dg t b f day c=CE at *;generalize b5:Dq t b f day c=CS at *;generalize b6:Am b=SE at *;generalize b7:Gv t b.2.2.2.2.2.2=TF at *;generalize I8 t=OP at *;clear h bt hx ai hl bx bf bg r b5 b6 b7 bo;have bz:I (b.2.2.2.2.2.2.length<=b.2.2.2.2.2.2.length):=Qm _;generalize b.2.2.2.2.2.2.length=L at bu;subst bu;unfold A8 at ax ac ⊢;clear HX al bz;generalize CH t b=R at *;generalize Am (f,b.1,b.2.2.1+1,day,c,OP,R)=NE at *;obtain⟨g,l,d,m,p,D,cb⟩:=b;dsimp only at *
 go_enter func112,ntmps112
 go_upto_region 1 with fail
 have az:=Qj (w.alloc (A #[O U g,O U l,O U d,O U m,O U p,S D,H qf L cf] 40)) (A #[O U 0,O U 0,O U 0,O U 0,O U 0,S ⟨#[]⟩,H Z 0 0] 40);have aj:Below (w.alloc (A #[O U g,O U l,O U d,O U m,O U p,S D,H qf L cf] 40)).heap.size (w.alloc (A #[O U g,O U l,O U d,O U m,O U p,S D,H qf L cf] 40)) ((w.alloc (A #[O U g,O U l,O U d,O U m,O U p,S D,H qf L cf] 40)).alloc (A #[O U 0,O U 0,O U 0,O U 0,O U 0,S ⟨#[]⟩,H Z 0 0] 40)):=Af _ _;have a0:(w.alloc (A #[O U g,O U l,O U d,O U m,O U p,S D,H qf L cf] 40)).heap.size=w.heap.size+1:=by simp
 have ak:=bn.below aj;have a1:=Ad bm aj;rw[a0]at az;have bp:Ao ((w.alloc (A #[O U g,O U l,O U d,O U m,O U p,S D,H qf L cf] 40)).alloc (A #[O U 0,O U 0,O U 0,O U 0,O U 0,S ⟨#[]⟩,H Z 0 0] 40)) (w.heap.size+1) AE (H Z 0 0):=az;have b0:w.heap.size<=w.heap.size+1:=QV _;clear bm aj bn az a0;generalize (w.alloc (A #[O U g,O U l,O U d,O U m,O U p,S D,H qf L cf] 40)).alloc (A #[O U 0,O U 0,O U 0,O U 0,O U 0,S ⟨#[]⟩,H Z 0 0] 40)=W2 at *;have b8:I (w.heap.size≠w.heap.size+1):=by show _≠_;omega
 generalize w.heap.size+1=zb at *;obtain⟨x0,x1,x2,x3,x4,x5,x6⟩:=ak.cells;dsimp only at x0 x1 x2 x3 x4 x5
 go_wp2_with fail
 refine(ax.out W2 a1).mono ?_;rintro e w3 ⟨ev,rfl,u,av⟩;clear x0 x1 x2 x3 x4 x5 x6 ax;have an:BL w w3:=Ad a1 av;have Y:=ak.below av;have ao:=bp.below av;clear av a1 ak bp;by_cases hE:SE.1=0
 case neg =>
  obtain rfl:=bl.out hE;have HZ:I (CS=AE):=T.out hE;obtain⟨tt,uu,rfl⟩:=u.bad hE;have HT:I (AZ w3 a (QF tt uu) CE):=u;obtain⟨E,F,K,M,N,P,Q,yf⟩:=ao.zeros;have s0:=Ah E;have s1:=Ah F;have s2:=Ah K;have s3:=Ah M;have s4:=Ah N;have s5:=Ah P;have s6:=Ah Q;clear u Y ao;go_wp2;exact QG (v:=Qg #[(Qu #[O U 0,O U 0,O U 0,O U 0,O U 0,S ⟨#[]⟩,H Z 0 0]),QF tt uu]) (by simp[QH,QI,go_sem,E,F,K,M,N,P,Q]) rfl (PH HZ.out HT.out an)
 case pos =>
 obtain rfl:=u.ok hE;have a2:I (SE.1=0):=hE;have b9:=bk.out hE;have a3:I (CE=if TF≠0 then (TF,Z) else (NE.fst,Z)):=ay.out hE;clear u hE bl ay bk;have x6:=Y.cells.2.2.2.2.2.2
 go_wp2_with fail
 refine(bh.out w3 an).mono ?_;rintro e w4 ⟨rfl,aw⟩;clear x6 bh;have q:BL w w4:=Ad an aw;have z:=Y.below aw;have ad:=ao.below aw;clear aw an Y ao;by_cases ap:TF=0
 case neg =>
  have r:CE=(TF,Z):=by rw[a3.out,if_pos ap]
  subst r;have HZ:I (CS=AE):=T.out ap;obtain⟨n,rfl⟩:∃n,TF=n+1:=⟨TF-1,by omega⟩;have HT:I (AZ w4 a (Ae a (n+1)) (n+1,Z)):=rfl;simp only[Ae]at HT ⊢;obtain⟨E,F,K,M,N,P,Q,yf⟩:=ad.zeros;have s0:=Ah E;have s1:=Ah F;have s2:=Ah K;have s3:=Ah M;have s4:=Ah N;have s5:=Ah P;have s6:=Ah Q;clear z ad ap;go_wp2;exact QG (v:=Qg #[(Qu #[O U 0,O U 0,O U 0,O U 0,O U 0,S ⟨#[]⟩,H Z 0 0]),QF 410 (Qa (J (a n)))]) (by simp[QH,QI,go_sem,E,F,K,M,N,P,Q]) rfl (PH HZ.out HT.out q)
 case pos =>
 subst ap;have ae:I (CE=(NE.1,Z)):=by show _=_;rw[a3.out,if_neg (by simp)]
 simp only[Ae];have x2:=z.cells.2.2.1;dsimp only at x2;have b1:IntKind.i64.wrap (d+1)=d+1:=IntWalk.i64_in _ (by omega);clear a3
 go_upto_region 10 with fail
 clear x2 b1;have x0:=z.cells.1;have x6:=z.cells.2.2.2.2.2.2;dsimp only at x0;have a4:I (∀W,BL w W->Calls Qb 199 #[Qa (J ⟨tb,0,Z⟩),H qf L cf,O U (d+1)] W fun e w'=> ∃v',e=Qd v'/\Ai w' v' R/\DV W v'/\BL W w'):=bj.out a2.out rfl;clear bj
 go_cut [15] from 38 to 51 (fun s15 wx=> ∃sb C,s15=Qa (J ⟨sb,0,Z⟩)/\Ao wx sb (f,g,d+1,day,c,OP,R) C/\Ai wx C R/\DV w C/\BL w4 wx)
 case first =>
  have ca:BL w4 w4:=Qi _ _;clear z ad T am ac ae a2;have aa:w.heap.size<w4.heap.size:=BF x0
  go_region_held3 (fun w'=>BL w4 w'/\w'.cell? ⟨w.heap.size,0,Z⟩=J (O U g)/\w'.cell? ⟨w.heap.size,6,Z⟩=J (H qf L cf))
   (first
    | (go_split_ands;with_reducible exact⟨QB (by with_reducible assumption) (i.mono (Qr (by with_reducible assumption))),Aa i (by with_reducible assumption),Aa i (by with_reducible assumption)⟩)
    | (go_split_ands;with_reducible exact⟨L0 (by with_reducible assumption) ab ab,Dv (by with_reducible assumption) (Qk aa ab),Dv (by with_reducible assumption) (Qk aa ab)⟩)
    | (go_split_ands;with_reducible refine⟨PC (by with_reducible assumption) ?_,FQ (by with_reducible assumption) ?_,FQ (by with_reducible assumption) ?_⟩;all_goals first | exact a5 | exact Qm _ | exact Qy aa | exact Qy (Qk aa a5))
    | (go_split_ands;with_reducible refine⟨Q2 (by with_reducible assumption),?_,?_⟩;all_goals go_keep)
    | (go_split_ands;with_reducible refine⟨QJ (by with_reducible assumption) (Qr (by with_reducible assumption)) _,?_,?_⟩;all_goals go_keep)
    | (go_split_ands;with_reducible refine⟨Q2 (QJ (by with_reducible assumption) (Qr (by with_reducible assumption)) _),?_,?_⟩;all_goals go_keep)
    | (go_split_ands;with_reducible exact⟨by assumption,by assumption,by assumption⟩))
   (first
    | (go_at_call 198;with_reducible refine(bi.out _ (by go_split_ands;exact q.trans (Below.mono (by with_reducible assumption) q.size))).mono ?_;rintro e wX ⟨rfl,i⟩;have a5:w4.heap.size<=wX.heap.size:=(by go_split_ands;exact Qh (Qr (by with_reducible assumption)) i.size);first | (with_reducible have bq:=Ao.below (L1 _) i) | (with_reducible have bq:=Ao.below (K3 _) i) | skip)
    | (go_at_call 199;with_reducible refine(a4.out _ (by go_split_ands;exact q.trans (Below.mono (by with_reducible assumption) q.size))).mono ?_;rintro e wY ⟨C,rfl,bd,aq,i⟩;have aq:DV w C:=DV.low aq (by go_split_ands;exact(q.trans (Below.mono (by with_reducible assumption) q.size)).size);have ab:w4.heap.size<=wY.heap.size:=(by go_split_ands;exact Qh (Qr (by with_reducible assumption)) i.size);obtain⟨q2,c2,rfl⟩:=bd.form;first | (with_reducible have af:=Ao.below (K3 _) i;obtain⟨E,F,K,M,N,P,Q,yf⟩:=af.zeros) | (with_reducible have af:=Ao.below bq i;obtain⟨E,F,K,M,N,P,Q,yf⟩:=af.zeros) | skip))
  all_goals go_split_ands
  all_goals go_wp2
  all_goals go_meet
  all_goals first
   | (with_reducible exact⟨_,_,rfl,PD _ _ _ _ _ _ _ _ _,Ai.below bd (Af _ _),aq,by assumption⟩)
   | (with_reducible exact⟨_,_,rfl,PF af _ _ _ _ _ _ _ _,PG af _ _ _ _ _ _ _ bd,aq,by assumption⟩)
 case rest =>
  obtain⟨sb,C,rfl,au,ag,bv,bc⟩:=hcut;have br:I (DV w C):=bv;clear bv;have a6:BL w wc:=Ad q bc;have bs:=ad.below bc;clear ad z x0 x6 a4 bi bc q;obtain⟨q2,c2,b4⟩:=ag.form;subst b4;have a7:=ac.out a2.out wc _ a6 ag;obtain⟨LT,bw⟩:∃n,R.length=n:=⟨_,rfl⟩;rw[bw]at au ag a7 br;clear bw ac;obtain⟨p0,p1,p2,p3,p4,p5,p6⟩:=au.cells;dsimp only at p0 p1 p2 p3 p4 p5
  go_wp2_with fail
  refine a7.mono ?_;rintro e w6 ⟨ev,rfl,u,ah⟩;clear a7 p0 p1 p2 p3 p4 p5 p6;have ar:BL w w6:=Ad a6 ah;have X:=bs.below ah;have a8:=au.below ah;have a9:=ag.below ah;clear au ag bs ah a6;by_cases hN:NE.1=0
  case neg =>
   obtain⟨n,hn⟩:∃n,NE.1=n+1:=⟨NE.1-1,by omega⟩;have r:CE=(n+1,Z):=by rw[ae.out,hn]
   have HZ:I (CS=AE):=T.out (by rw[r];simp);subst r;have ba:=OX n ev w6 a (y.out w6 ar).hand (by
    obtain⟨k,o⟩:=NE;dsimp only at hn;subst hn
    cases o with
    | none=>exact Qq u
    | some j =>
     obtain⟨_,fb,h1,_,h2⟩:=u;exact Qs ⟨fb,h1,h2⟩)
   obtain⟨tt,uu,rfl⟩:=u.bad hN;have HT:I (∀W,AZ W a (Ae a (n+1)) (n+1,Z)):=fun W=>rfl;simp only[Ae]at ba HT;clear u hN hn a8 a9 ae T am
   go_wp2_with fail
   refine ba.mono ?_;rintro e w7 ⟨rfl,be⟩;clear ba;have b2:BL w w7:=Ad ar be;obtain⟨E,F,K,M,N,P,Q,yf⟩:=(X.below be).zeros;have s0:=Ah E;have s1:=Ah F;have s2:=Ah K;have s3:=Ah M;have s4:=Ah N;have s5:=Ah P;have s6:=Ah Q;clear X be ar;go_wp2;exact QG (v:=Qg #[(Qu #[O U 0,O U 0,O U 0,O U 0,O U 0,S ⟨#[]⟩,H Z 0 0]),QF 410 (Qa (J (a n)))]) (by simp[QH,QI,go_sem,E,F,K,M,N,P,Q]) rfl (PH HZ.out (HT.out _) b2)
  case pos =>
   obtain rfl:=u.ok hN;have r:CE=(0,Z):=by rw[ae.out,hN]
   have b3:I (CS=(f,g,d+1,day,c,OP,R)):=am.out (by rw[r]);subst r;clear u hN ae T am;obtain⟨p0,p1,p2,p3,p4,p5,p6⟩:=a8.cells;dsimp only at p0 p1 p2 p3 p4 p5;obtain⟨E,F,K,M,N,P,Q,yf⟩:=X.zeros;have HF:I (Ai (Gi w6 zb (f,g,d+1,day,c,OP,R) (H q2 LT c2)) (H q2 LT c2) R):=VH X a9 (f,g,d+1,day,c,OP,R) (H q2 LT c2);obtain⟨u0,u1,u2,u3,u4,u5,u6⟩:=(X.set (f,g,d+1,day,c,OP,R) (H q2 LT c2)).cells;have bb:=Mz (s:=(f,g,d+1,day,c,OP,R)) (vf:=H q2 LT c2) ar b0;unfold Gi at u0 u1 u2 u3 u4 u5 u6 bb HF;dsimp only at u0 u1 u2 u3 u4 u5 bb HF;clear X a8 a9;go_wp2;refine QG (v:=Qg #[Qu #[O U f,O U g,O U (d+1),O U day,O U c,S OP,H q2 LT c2],Q0]) (by simp[QH,QI,go_sem,u0,u1,u2,u3,u4,u5,u6]) rfl ?_;show K4 _ _ _ CS _ _;rw[b3.out];exact⟨H q2 LT c2,Q0,rfl,HF.out,br.out,rfl,bb⟩
def Cz (p:ByteArray) (d:Dr):Fl×Nat:=B1 p d.2.1 d.2.2.data.toList 1
inductive Fils:List Dr->List ByteArray->List Fl->Prop
 | nil:Fils [] [] []
 | step {ds:List Dr} {ps:List ByteArray} {fs:List Fl} (d:Dr) (p:ByteArray):Fils ds ps fs->(Cz p d).2=0->Fils (ds++ [d]) (ps++ [p]) (fs++ [(Cz p d).1])
theorem L3 {p q:ByteArray} {s:List UInt8} {n:Int} (h:(B1 p q s n).2=0):∃g m,AB p.data.toList=J (g,m)/\(Bp g s).2=0/\(B1 p q s n).1=(p,q,((Bp g s).1.length:Int),(Ar (Bp g s).1).1,(Ar (Bp g s).1).2,n)/\Au (B1 p q s n).1=0:=by
 unfold B1 at h ⊢
 cases e:AB p.data.toList with
 | none=>rw [e]at h;cases h
 | some x =>
  obtain⟨g,m⟩:=x;rw[e]at h;dsimp only at h ⊢;by_cases b:(Bp g s).2=0
  ·rw[if_pos b]at h ⊢;unfold Eg at h ⊢;by_cases c:Au (p,q,((Bp g s).1.length:Int),(Ar (Bp g s).1).1,(Ar (Bp g s).1).2,n)=0
   ·rw[if_pos c];exact⟨g,m,rfl,b,rfl,c⟩
   ·rw[if_neg c]at h;exact absurd h c
  ·rw[if_neg b]at h;exact absurd h b
theorem uF {p q:ByteArray} {s:List UInt8} {n k:Int} (h:(B1 p q s n).2=0) (b:Au (Bk (B1 p q s n).1 k)=0):B1 p q s k=(Bk (B1 p q s n).1 k,0):=by
 obtain⟨g,m,c,d,f,-⟩:=L3 h;rw[f]at b ⊢;unfold Bk at b ⊢;unfold B1;rw[c];dsimp only;rw[if_pos d];unfold Eg;rw[if_pos b]
theorem uG (B:Nat) (v:Qc) (X:Nat->Prop) (t:Tx) (p:ByteArray) (w:V) (a:Nat->Qe) (h:GE w a) (ht:CU 312 B w v X t) (hB:B<=w.heap.size) (Y:t.2.2.length<=1000) (ak:t.1.2.2.2.2.2.2.length<=1000) :
  Calls Qb 195 #[v,S p] w fun e w'=>e=Qd (Ae a (Hg t p))/\Ik 312 B w v X (Hh t p) w':=by
 have k:I _:=fun w' (hb:BL w w')=>Uw ht hb;obtain⟨N,vb,va,P,rfl,f,ac,ad,ae⟩:=ht;have E:=Kx vb t.1.2.2.2.2.2.2 p w f.base (by omega);have F:=fun W (hb:BL w W)=>OU P t.2.2 p W ((IC f.rems).below hb) (by omega);have L:I (∀(W W9:V),BL w W9->W9=W.alloc (A #[S p] 9)->∃m z,(QC #[82,82] 82 #[P,H (J ⟨W.heap.size,0,Z⟩) 1 1]).run Qb W9= .ok m z/\(∃q n c,m=H q n c)/\C8 312 z N t.1 vb va P/\Ik 312 B w (Qa (J ⟨N,0,Z⟩)) X (t.1,t.2.1,t.2.2++ [p]) (z.setCell ⟨N,8,Z⟩ m)) :=
  fun W W9 hW9 e=>tY (by decide) (by decide) f ac ad ae hB hW9 p e Y
 have K:I _:=fun W (hb:BL w W)=>(f.below hb).cells;obtain⟨qr,cr,af⟩:=Dj f.rems;obtain⟨qb,cb,Q⟩:=f.base.form;have o:I _:=fun W (hb:BL w W)=>h.below hb;have l:I (decide (0<=Dp t.1.2.2.2.2.2.2 p)=BU t.1.2.2.2.2.2.2 p):=O8 _ _;have g:I (Hg t p=if BU t.1.2.2.2.2.2.2 p=Ql then 6 else if AQ t.2.2 p=Qf then 7 else 0):=rfl;have i:I (Hh t p=if Hg t p=0 then (t.1,t.2.1,t.2.2++ [p]) else t):=rfl;generalize Hh t p=T at i ⊢;generalize Hg t p=D at g i ⊢;generalize ah:Dp t.1.2.2.2.2.2.2 p=FI at E l;generalize ai:BU t.1.2.2.2.2.2.2 p=HP at l g;generalize aj:AQ t.2.2 p=IT at F g;subst af Q;have aa:=(K.out w (Qi _ _)).cells.2.1
 go_enter func195,ntmps195
 go_wp2_with fail
 refine E.mono ?_;rintro e R ⟨rfl,d⟩
 cases HP with
 | false =>
  have b:I (D=6):=by show _=_;rw[g.out,if_pos rfl]
  have j:I (T=t):=by show _=_;rw[i.out,b.out,if_neg (by omega)]
  have ab:FI<0:=by have:=of_decide_eq_false l.out;omega
  have et:=(o.out R d).list.miss;go_wp2;go_ret;refine⟨by rw[b.out];rfl,?_⟩;rw[j.out];exact k.out _ d
 | true =>
 have r:I (D=if IT=Qf then 7 else 0):=by show _=_;rw[g.out,if_neg (by simp)]
 have ab:¬FI<0:=by have:=of_decide_eq_true l.out;omega
 have aa:=(K.out R d).cells.2.2.2;have M:=F R d
 go_wp2_with fail
 refine M.mono ?_;rintro e u ⟨rfl,rfl⟩
 cases IT with
 | true =>
  have b:I (D=7):=by show _=_;rw[r.out,if_pos rfl]
  have j:I (T=t):=by show _=_;rw[i.out,b.out,if_neg (by omega)]
  have et:=(o.out u d).list.exist;go_wp2;go_ret;refine⟨by rw[b.out];rfl,?_⟩;rw[j.out];exact k.out _ d
 | false =>
  have b:I (D=0):=by show _=_;rw[r.out,if_neg (by simp)]
  have j:I (T=(t.1,t.2.1,t.2.2++ [p])):=by show _=_;rw[i.out,b.out,if_pos rfl]
  obtain⟨m,z,hr,⟨q',n',c',rfl⟩,s,C⟩:=L.out u (u.alloc (A #[S p] 9)) (d.alloc d.size _) rfl;have y:I _:=C;have ag:BL u (u.alloc (A #[S p] 9)):=Af _ _;have y0:=s.cells.2.2.2;have y1:=s.fz
  go_wp2_with (at_builtin;refine nT (by rfl) _ _ _ (by rfl) _ _ _ (by rfl) (by rfl) hr ?_)
  all_goals go_ret
  all_goals
   refine⟨by rw[b.out];rfl,?_⟩;rw[j.out];exact y.out
theorem VJ (w:V):A1 (w.alloc (A #[S ⟨#[]⟩,S ⟨#[]⟩,O U 0,O U 0,O U 0,O U 0] 77)).drew w.heap.size (⟨#[]⟩,⟨#[]⟩,0,0,0,0):=Qj w _
theorem VK (w:V):A1 (w.alloc (A #[S ⟨#[]⟩,S ⟨#[]⟩,O U 0,O U 0,O U 0,O U 0] 77)) w.heap.size (⟨#[]⟩,⟨#[]⟩,0,0,0,0):=Qj w _
theorem VL {X:V} {b:Nat} {f:Fl} (h:A1 X b f) (c d:ByteArray) (g i j k:Int):A1 ((((((X.setCell ⟨b,0,Z⟩ (S c)).setCell ⟨b,1,Z⟩ (S d)).setCell ⟨b,2,Z⟩ (O U g)).setCell ⟨b,3,Z⟩ (O U i)).setCell ⟨b,4,Z⟩ (O U j)).setCell ⟨b,5,Z⟩ (O U k)) b (c,d,g,i,j,k):=h.set (c,d,g,i,j,k)
theorem VM (w:V) (b c:ByteArray) (d f g i:Int):A1 (w.alloc (A #[S b,S c,O U d,O U f,O U g,O U i] 77)) w.heap.size (b,c,d,f,g,i):=Qj _ _
theorem GM {X:V} {b p o:Nat} {v d f g i l m:Qc} (n:X.cell? ⟨b,o,Z⟩=J v) (c:b≠p):((((((X.setCell ⟨p,0,Z⟩ d).setCell ⟨p,1,Z⟩ f).setCell ⟨p,2,Z⟩ g).setCell ⟨p,3,Z⟩ i).setCell ⟨p,4,Z⟩ l).setCell ⟨p,5,Z⟩ m).cell? ⟨b,o,Z⟩=J v:=by
 have k:∀(Y:V) (j:Nat) (u:Qc),Y.cell? ⟨b,o,Z⟩=J v->(Y.setCell ⟨p,j,Z⟩ u).cell? ⟨b,o,Z⟩=J v:=fun Y j u h=>by
  rw[Xi _ _ _ _ (by intro e;injection e with e;exact c e.symm)];exact h
 exact k _ _ _ (k _ _ _ (k _ _ _ (k _ _ _ (k _ _ _ (k _ _ _ n)))))
theorem VN {c X:V} {B p:Nat} {d f g i j k:Qc} (h:Below B c X) (b:B<=p):Below B c ((((((X.setCell ⟨p,0,Z⟩ d).setCell ⟨p,1,Z⟩ f).setCell ⟨p,2,Z⟩ g).setCell ⟨p,3,Z⟩ i).setCell ⟨p,4,Z⟩ j).setCell ⟨p,5,Z⟩ k):=(((((h.setCell b _).setCell b _).setCell b _).setCell b _).setCell b _).setCell b _
section
variable {a : Nat → Qe} {B : Nat} {EM : V → Prop}
def Nf (now:Sn) (ds:List Dr) (ps rem:List ByteArray):Prop:=rem= []/\∀i fs d p,ds[i]? =J d->ps[i]? =J p->Fils (ds.take i) (ps.take i) fs->(Cz p d).2=0/\FA (now,fs, []) (Cz p d).1=0
def K6 (a:Nat->Qe) (W:V) (now:Sn) (ds:List Dr) (ps rem:List ByteArray) (e:QP) (w':V):Prop :=
 ∃v n,e=Qd (Qg #[v,Ae a n])/\BL W w'/\(n≠0->¬Nf now ds ps rem)/\(n=0->∃fs FP D,Fils ds ps fs/\CU 312 D w' v FP (now,fs,rem)/\W.heap.size<=D/\Cn (now,fs,rem)/\fs.length=ds.length)
theorem uH {t:Tx} {p:ByteArray} (h:Hg t p=0):Hh t p=(t.1,t.2.1,t.2.2++ [p]):=by unfold Hh;rw[if_pos h]
theorem uI {t:Tx} {f:Fl} (h:FA t f=0) (b:f.2.2.2.2.2=1):Hf t f=(t.1,t.2.1++ [f],t.2.2):=by
 unfold Hf;rw[if_pos h];obtain⟨c,d,g,i,j,k⟩:=f;subst b;rfl
theorem uJ (K:A2 a B EM An) (HL:∀X,EM X->AX X a) {W:V} {kb:Nat} {vs:Qc} {SP:Nat->Prop} {hd:ByteArray} {vi vf:Qc} {k:Lk} (hE:EM W) (h:Al W kb vs SP hd vi vf k) (hf:(Am k.now).1=0) {D:Nat} {vd vr vp:Qc} {ds:List Dr} {ps b:List ByteArray} (cx:Bg W D vd ds) (hr:BV W vr b) (hp:BV W vp ps) (hl:ds.length=ps.length) (de:ds.length<=1000) (dg:b.length<=1000) (cy:∀d∈ds,d.2.1.size<=1000/\d.2.2.size<=Q3) (cz:∀p∈ps,p.size<=1000) :
  Calls Qb 111 #[Qa (J ⟨kb,0,Z⟩),Qu #[vd,vr],vp] W (K6 a W k.now ds ps b):=by
 have ak:I _:=fun X (E:BL W X)=>K.below _ _ hE (E.mono (K.size _ hE));obtain⟨da,cn,_⟩:=Jy hf;have a9:I _:=fun X (E:BL W X)=>nU k.now vf X a (HL X (ak.out X E)).x (h.fls.below E) (by omega) (fun g hg=>K5 (cn g hg).1);have bp:I _:=fun X v Q t p D (E:BL W X) (ht:CU 312 D X v Q t) (hD:D<=X.heap.size) (hl:t.2.2.length<=1000) (hn:t.1=k.now)=>uG D v Q t p X a (HL X (ak.out X E)).x ht hD hl (by rw[hn];omega);have c0:I _:=fun X v Q t f D (E:BL W X) (ht:CU 312 D X v Q t) (hD:D<=X.heap.size) (hl:t.2.1.length<=1000) (h1:f.1.size<=100000) (h2:f.2.1.size<=100000)=>tZ D v Q t f X a (HL X (ak.out X E)).x ht hD hl h1 h2;have bq:I (∀X p q s,BL W X->p.size<=1000->q.size<=1000->s.size<=Q3->Calls Qb 155 #[S p,S q,S s,O U 1] X fun e w'=>e=Qd (Qg #[A6 (B1 p q s.data.toList 1).1,Ae a (B1 p q s.data.toList 1).2])/\BL X w'):=fun X p q s E h1 h2 h3=>by
  have hx:=(HL X (ak.out X E)).x;exact UI p q s 1 X a (HL X (ak.out X E)).f (fun _ _ _ _=>hx.hand) (by omega) (by omega) h3
 obtain⟨qf,cf,rfl⟩:=h.fls.form;obtain⟨qd,cd,rfl,co⟩:=cx.at;obtain⟨qr,cr,rfl⟩:=hr.form;obtain⟨qp,cp,rfl⟩:=hp.form;have M:BL W (W.alloc (A #[H qd ds.length cd,H qr b.length cr] 100)):=Af _ _;have ae:=Qj W (A #[H qd ds.length cd,H qr b.length cr] 100);have c1:I (∀X,BL W X->∀j (hj:j<ds.length),∃g,qd=J ⟨g,0,Z⟩/\X.cell? ⟨g,j*3,Z⟩=J (S ds[j].1)/\X.cell? ⟨g,j*3+1,Z⟩=J (S ds[j].2.1)/\X.cell? ⟨g,j*3+2,Z⟩=J (S ds[j].2.2)):=fun X E j hj=>by
  obtain⟨g,e,h0,h1,h2⟩:=co j hj;exact⟨g,e,Aa E h0,Aa E h1,Aa E h2⟩
 have br:I (∀X,BL W X->∀j (hj:j<b.length),∃g,qr=J ⟨g,0,Z⟩/\X.cell? ⟨g,j,Z⟩=J (S b[j])):=fun X E j hj=>by
  obtain⟨g,e,hc⟩:=hr.cells (fun e=>by rw[e]at hj;simp at hj);exact⟨g,e,Aa E (hc j hj)⟩
 have c2:I (∀X,BL W X->∀j (hj:j<ps.length),∃g,qp=J ⟨g,0,Z⟩/\X.cell? ⟨g,j,Z⟩=J (S ps[j])):=fun X E j hj=>by
  obtain⟨g,e,hc⟩:=hp.cells (fun e=>by rw[e]at hj;simp at hj);exact⟨g,e,Aa E (hc j hj)⟩
 have HZ:I ((∀d∈ds,d.2.1.size<=1000/\d.2.2.size<=Q3)/\∀p∈ps,p.size<=1000):=⟨cy,cz⟩;have ba:I _:=hf;obtain⟨-,-,-,-,b4,b5,b6,b7,b8,b9,cq,-⟩:=h.blk.cells;clear hE h hf cx hr hp cy cz co cn da;obtain⟨dr,du,dv,l,o,r,u,y,z,c⟩:=k;dsimp only at *;unfold A8 at a9;obtain⟨L,hL⟩:∃L,ds.length=L:=⟨_,rfl⟩;obtain⟨R,hR⟩:∃R,b.length=R:=⟨_,rfl⟩;have ac:I (ds.length=L/\ps.length=L/\b.length=R):=⟨hL,hl.symm.trans hL,hR⟩;have bs:=hl.symm.trans hL;rw[hL]at de;rw[hR]at dg;rw[hL,hR]at M ae;rw[hL,hR,bs];clear hl hL hR bs;have bt:=Aa M b4;have bu:=Aa M b5;have bv:=Aa M b6;have bw:=Aa M b7;have bx:=Aa M b8;have bz:=Aa M b9;have bb:=Aa M cq;have bc:=a9.out _ M;clear b4 b5 b6 b7 b8 b9 cq a9
 go_enter func111,ntmps111
 go_upto_region 1 with fail
 generalize W.alloc (A #[H qd L cd,H qr R cr] 100)=WA at M ae bc bt bu bv bw bx bz bb ⊢;have bd:=Xb ae;have aw:I (W.heap.size<=WA.heap.size):=Q6 bd;generalize W.heap.size=cb at ae bd ⊢
 go_wp2_with fail
 refine bc.mono ?_;rintro e w1 ⟨v,ev,rfl,ht,ar,cw⟩;obtain rfl:=ht.ok ba.out;have b0:I (CU 312 WA.heap.size w1 v (fun k=>WA.heap.size<=k/\k<w1.heap.size) ((l,o,r,u,y,z,c), [], [])):=by
  rcases cw with⟨h0,-⟩|⟨-,h1⟩
  ·exact absurd ba.out h0
  ·exact h1 WA.heap.size (Qm _)
 have c3:=Ad M ar;have b1:WA.heap.size<=w1.heap.size:=ar.size;have r1:w1.cell? ⟨cb,1,Z⟩=J (H qr R cr):=Aa ar (by rw[Qx _ _ _ _ _ _ ae];rfl);have r0:w1.cell? ⟨cb,0,Z⟩=J (H qd L cd):=Aa ar (by rw[Qx _ _ _ _ _ _ ae];rfl);clear bc ht cw bt bu bv bw bx bz bb M ar ae;generalize WA.heap.size=NB at b0 bd b1 aw
 go_wp2_with fail
 go_loopw [11,12,32] (fun _ _ i wr=> ∃(n:Nat) (Q:Nat->Prop),n<=R/\i=O U n/\CU 312 NB wr v Q ((l,o,r,u,y,z,c), [],b.take n)/\Cn ((l,o,r,u,y,z,c), [],b.take n)/\BL W wr/\NB<=wr.heap.size/\wr.cell? ⟨cb,0,Z⟩=J (H qd L cd)) (fun _ _ i _=>R-(Qv i).toNat)
 case atStart=>exact ⟨0,_,by omega,rfl,b0.out,lC ba.out,c3,b1,r0⟩
 case round =>
 obtain⟨n,Q,hn,rfl,hT,ab,E,hN,k0⟩:=hrel;by_cases ax:n<R
 case pos =>
  have be:n<b.length:=by rw[ac.out.2.2];exact ax
  obtain⟨g,rfl,e0⟩:=br.out wr E n be;have bf:I (b.take (n+1)=b.take n++ [b[n]]):=(QQ be).symm;have al:=bp.out wr v Q _ b[n] NB E hT hN (by show (b.take n).length<=1000;rw[QD];omega) rfl;have am:I (Cn (Hh ((l,o,r,u,y,z,c), [],b.take n) b[n])):=ab.rem _;have ad:I (Hg ((l,o,r,u,y,z,c), [],b.take n) b[n]=0->Hh ((l,o,r,u,y,z,c), [],b.take n) b[n]=((l,o,r,u,y,z,c), [],b.take (n+1))):=fun h=>by rw[uH h,bf.out]
  have ay:I (∀j,Q j->NB<=j):=fun j hj=>by
   obtain⟨tb,vb,va,vr,-,-,-,-,h3⟩:=hT;exact(h3 j hj).1
  generalize Hh ((l,o,r,u,y,z,c), [],b.take n) b[n]=t1 at al am ad;generalize Hg ((l,o,r,u,y,z,c), [],b.take n) b[n]=C at al ad;generalize b[n]=p at e0 al bf;have dh:(n:Int)<(R:Int):=by omega
  have di:(0:Int)<=(n:Int):=by omega
  clear hT ab be bf
  go_wp2_with fail
  refine al.mono ?_;rintro e w2 ⟨rfl,au,af,aa,dd⟩;have b2:=E.trans (aa.below E.size (fun j hj=>Qh aw.out (ay.out j hj)));have c4:=Qh hN aa.size;clear al e0;by_cases hC:C=0
  case neg =>
   have HP:I (K6 a W (l,o,r,u,y,z,c) ds ps b (Qd (Qg #[Qa Z,Ae a C])) w2):=⟨_,C,rfl,b2,fun _ hG=>by have:=ac.out.2.2;rw[hG.1]at this;simp at this;omega,fun e=>absurd e hC⟩;obtain⟨m,rfl⟩:∃m,C=m+1:=⟨C-1,by omega⟩;simp only[Ae]at HP ⊢;clear af hC;go_wp2;go_ret2;exact HP.out
  case pos =>
  subst hC;simp only[Ae];have c5:w2.cell? ⟨cb,0,Z⟩=J (H qd L cd):=aa.keep (fun e=>by have:=ay.out _ e;omega) k0;have b3:I (CU 312 NB w2 v au ((l,o,r,u,y,z,c), [],b.take (n+1))/\Cn ((l,o,r,u,y,z,c), [],b.take (n+1))):=by
   show _/\_;rw[<-ad.out rfl];exact⟨af,am.out⟩
  clear af;go_wp2;go_roundw
  case rel=>exact ⟨n+1,au,by omega,by go_num,b3.out.1,b3.out.2,b2,c4,c5⟩
  case measure=>simp [Qv];omega
 case neg =>
 obtain rfl:n=R:=by omega
 have dj:¬(n:Int)<(n:Int):=by omega
 have bg:I (CU 312 NB wr v Q ((l,o,r,u,y,z,c), [],b)/\Cn ((l,o,r,u,y,z,c), [],b)):=by
  rw[Q5 (by rw[ac.out.2.2];exact Qm _)]at hT ab;exact⟨hT,ab⟩
 obtain⟨W3,dc⟩:∃X,X=wr:=⟨_,rfl⟩;subst dc;clear hT ab bp br
 go_wp2_with fail
 go_loopw [13,14,15,16,17,46] (fun _ _ _ _ _ i wx=> ∃(m:Nat) (N:List Fl) (Q:Nat->Prop),m<=L/\i=O U m/\Fils (ds.take m) (ps.take m) N/\N.length=m/\CU 312 NB wx v Q ((l,o,r,u,y,z,c),N,b)/\Cn ((l,o,r,u,y,z,c),N,b)/\BL W wx/\NB<=wx.heap.size) (fun _ _ _ _ _ i _=>L-(Qv i).toNat)
 case atStart=>exact ⟨0, [],Q,by omega,rfl,Fils.nil,rfl,bg.out.1,bg.out.2,E,hN⟩
 case round =>
 clear E hN k0 bg;obtain⟨m,N,Q,hm,rfl,aq,a6,hT,ab,E,hN⟩:=hrel;by_cases ax:m<L
 case neg =>
  obtain rfl:m=L:=by omega
  have dk:¬(m:Int)<(m:Int):=by omega
  have HP:I (K6 a W (l,o,r,u,y,z,c) ds ps b (Qd (Qg #[v,Ae a 0])) wr):=by
   rw[Q5 (by rw[ac.out.1];exact Qm _),Q5 (by rw[ac.out.2.1];exact Qm _)]at aq;exact⟨_,0,rfl,E,fun e=>absurd rfl e,fun _=>⟨N,Q,NB,aq,hT,aw.out,ab,a6.trans ac.out.1.symm⟩⟩
  simp only[Ae]at HP;clear aq hT ab a6 E;go_wp2;go_ret2;exact HP.out
 case pos =>
 have az:m<ds.length:=by rw[ac.out.1];exact ax
 have a0:m<ps.length:=by rw[ac.out.2.1];exact ax
 obtain⟨g,rfl,e0,e1,e2⟩:=c1.out wr E m az;have ca:I (ds.take (m+1)=ds.take m++ [ds[m]]):=(QQ az).symm;have cc:I (ps.take (m+1)=ps.take m++ [ps[m]]):=(QQ a0).symm;have an:=HZ.out.1 ds[m] (QE _);have bh:=HZ.out.2 ps[m] (QE _);have bi:I (∀X,BL W X->∃g,qp=J ⟨g,0,Z⟩/\X.cell? ⟨g,m,Z⟩=J (S ps[m])):=fun X hX=>c2.out X hX m a0;have a1:I (ds[m]? =J ds[m]/\ps[m]? =J ps[m]):=⟨Q1 az,Q1 a0⟩;generalize ds[m]=d at e0 e1 e2 ca an a1;generalize ps[m]=p at cc bh bi a1;obtain⟨df,Y,dt⟩:=d;dsimp only at e0 e1 e2 an;have dl:(m:Int)<(L:Int):=by omega
 have dm:(0:Int)<=(m:Int):=by omega
 have M:BL wr (wr.alloc (A #[S df,S Y,S dt] 111)):=Af _ _;have ao:=Qj wr (A #[S df,S Y,S dt] 111);have HT:I (CU 312 NB wr v Q ((l,o,r,u,y,z,c),N,b)/\Cn ((l,o,r,u,y,z,c),N,b)/\Fils (ds.take m) (ps.take m) N/\N.length=m):=⟨hT,ab,aq,a6⟩;clear hT ab aq a6 az a0
 go_upto_region 14 with fail
 generalize wr.alloc (A #[S df,S Y,S dt] 111)=P at M ao ⊢;have a2:=Ad E M;generalize wr.heap.size=db at ao ⊢;have q1:P.cell? ⟨db,1,Z⟩=J (S Y):=by rw[Qx _ _ _ _ _ _ ao];rfl
 have q2:P.cell? ⟨db,2,Z⟩=J (S dt):=by rw[Qx _ _ _ _ _ _ ao];rfl
 obtain⟨gp,rfl,q3⟩:=bi.out P a2;have a3:BL P P.drew:=(Qi _ _).drew;have ah:I (∀X,BL P X->Calls Qb 155 #[S p,S Y,S dt,O U 1] X fun e w'=>e=Qd (Qg #[A6 (Cz p (df,Y,dt)).1,Ae a (Cz p (df,Y,dt)).2])/\BL X w'):=fun X hX=>bq.out X p Y dt (Ad a2 hX) bh an.1 an.2;have ce:I (∀F C,Cz p (df,Y,dt)=(F,C)->C=0->Fils (ds.take (m+1)) (ps.take (m+1)) (N++ [F])/\F.2.2.2.2.2=1/\F.1.size<=100000/\F.2.1.size<=100000):=fun F C hF hC=>by
  have h0:(Cz p (df,Y,dt)).2=0:=by rw[hF];exact hC
  obtain⟨g,mm,-,-,h3,-⟩:=L3 h0;have h4:F=(B1 p Y dt.data.toList 1).1:=by
   show F=(Cz p (df,Y,dt)).1;rw[hF]
  rw[h3]at h4;rw[ca.out,cc.out];refine⟨?_,by rw[h4],by rw[h4];show p.size<=_;omega,by rw[h4];show Y.size<=_;omega⟩;have:=Fils.step (df,Y,dt) p HT.out.2.2.1 h0;rw[hF]at this;exact this
 obtain⟨⟨F,C⟩,a7⟩:∃x,Cz p (df,Y,dt)=x:=⟨_,rfl⟩;have cg:=ce.out F C a7;have bj:I (Nf (l,o,r,u,y,z,c) ds ps b->C=0/\FA ((l,o,r,u,y,z,c),N,b) F=0):=fun hG=>by
  have:=hG.2 m N (df,Y,dt) p a1.out.1 a1.out.2 HT.out.2.2.1;rw[a7]at this;rw[hG.1];exact this
 rw[a7]at ah;dsimp only at ah;unfold A6 at ah;have bk:BL P (P.alloc (A #[S ⟨#[]⟩,S ⟨#[]⟩,O U 0,O U 0,O U 0,O U 0] 77)):=Af _ _;have ap:BL P (P.alloc (A #[S ⟨#[]⟩,S ⟨#[]⟩,O U 0,O U 0,O U 0,O U 0] 77)).drew:=bk.drew;have zn:A1 (P.alloc (A #[S ⟨#[]⟩,S ⟨#[]⟩,O U 0,O U 0,O U 0,O U 0] 77)) P.heap.size (⟨#[]⟩,⟨#[]⟩,0,0,0,0):=Qj _ _;have zd:A1 (P.alloc (A #[S ⟨#[]⟩,S ⟨#[]⟩,O U 0,O U 0,O U 0,O U 0] 77)).drew P.heap.size (⟨#[]⟩,⟨#[]⟩,0,0,0,0):=Qj P _;have c6:=Aa a3 q1;have c7:=Aa a3 q2;have c8:=Aa a3 q3;have ch:=Aa ap q1;have ci:=Aa ap q2;have cj:=Aa ap q3;have dn:(0:Int)<=(m:Int):=by omega
 clear a7 ce bi bq an bh
 go_cut [15,16] from 51 to 62 (fun s15 s16 wx=> ∃xb,s15=Qa (J ⟨xb,0,Z⟩)/\A1 wx xb F/\s16=Ae a C/\BL P wx)
 case first =>
  obtain⟨F0,F1,F2,F3,F4,F5⟩:=F;dsimp only at ah ⊢;have dq:BL P P:=Qi _ _;have aj:db<P.heap.size:=BF q1;have av:gp<P.heap.size:=BF q3;clear zn zd bk ap ch ci cj
  go_region_held3 (fun w'=>BL P w'/\w'.cell? ⟨db,1,Z⟩=J (S Y)/\w'.cell? ⟨db,2,Z⟩=J (S dt)/\w'.cell? ⟨gp,m,Z⟩=J (S p))
   (first
    | (go_split_ands;with_reducible exact⟨QB (by with_reducible assumption) (ag.mono (Qr (by with_reducible assumption))),Aa ag (by with_reducible assumption),Aa ag (by with_reducible assumption),Aa ag (by with_reducible assumption)⟩)
    | (go_split_ands;with_reducible exact⟨L0 (by with_reducible assumption) T T,Dv (by with_reducible assumption) (Qk aj T),Dv (by with_reducible assumption) (Qk aj T),Dv (by with_reducible assumption) (Qk av T)⟩)
    | (go_split_ands;with_reducible refine⟨VN (by with_reducible assumption) ?_,GM (by with_reducible assumption) ?_,GM (by with_reducible assumption) ?_,GM (by with_reducible assumption) ?_⟩;all_goals first | exact T | exact Qm _ | exact Qy aj | exact Qy av | exact Qy (Qk aj T) | exact Qy (Qk av T))
    | (go_split_ands;with_reducible refine⟨Q2 (by with_reducible assumption),?_,?_,?_⟩;all_goals go_keep)
    | (go_split_ands;with_reducible refine⟨QJ (by with_reducible assumption) (Qr (by with_reducible assumption)) _,?_,?_,?_⟩;all_goals go_keep)
    | (go_split_ands;with_reducible refine⟨Q2 (QJ (by with_reducible assumption) (Qr (by with_reducible assumption)) _),?_,?_,?_⟩;all_goals go_keep)
    | (go_split_ands;with_reducible exact⟨by assumption,by assumption,by assumption,by assumption⟩))
   (first | (go_at_call 155;with_reducible refine(ah.out _ (by go_split_ands;with_reducible assumption)).mono ?_;rintro e wX ⟨rfl,ag⟩;have T:P.heap.size<=wX.heap.size:=(by go_split_ands;exact Qh (Qr (by with_reducible assumption)) ag.size);first | (with_reducible have a4:=A1.below (VK _) ag;obtain⟨y0,y1,y2,y3,y4,y5,yf⟩:=a4.cells) | (with_reducible have a4:=A1.below (VJ _) ag;obtain⟨y0,y1,y2,y3,y4,y5,yf⟩:=a4.cells) | skip))
  all_goals go_split_ands
  all_goals go_wp2
  all_goals go_meet
  all_goals first
   | (with_reducible exact⟨_,rfl,VM _ _ _ _ _ _ _,rfl,by assumption⟩)
   | (with_reducible exact⟨_,rfl,VL a4 _ _ _ _ _ _,rfl,by assumption⟩)
 case rest =>
 obtain⟨xb,rfl,bn,rfl,a8⟩:=hcut;have a5:=Ad a2 a8;have ck:NB<=wc.heap.size:=Qh hN (Qh M.size a8.size);have bl:I (CU 312 NB wc v Q ((l,o,r,u,y,z,c),N,b)):=(HT.out.1.below M).below a8;clear q1 q2 q3 c6 c7 c8 ch ci cj bk ap zn zd a3 ah a8 M a2 ao E hN;by_cases hC:C=0
 case neg =>
  have HP:I (K6 a W (l,o,r,u,y,z,c) ds ps b (Qd (Qg #[Qa Z,Ae a C])) wc):=⟨_,C,rfl,a5,fun _ hG=>hC (bj.out hG).1,fun e=>absurd e hC⟩;obtain⟨i,rfl⟩:∃i,C=i+1:=⟨C-1,by omega⟩;simp only[Ae]at HP ⊢;clear bn hC;go_wp2;go_ret2;exact HP.out
 case pos =>
 subst hC;simp only[Ae];obtain⟨cs,ct,cu,cv⟩:=cg rfl;have ai:=c0.out wc v Q ((l,o,r,u,y,z,c),N,b) F NB a5 bl.out ck (by show N.length<=1000;have:=HT.out.2.2.2;omega) cu cv;have am:I (Cn (Hf ((l,o,r,u,y,z,c),N,b) F)):=HT.out.2.1.add F;have ad:I (FA ((l,o,r,u,y,z,c),N,b) F=0->Hf ((l,o,r,u,y,z,c),N,b) F=((l,o,r,u,y,z,c),N++ [F],b)):=fun h=>uI h ct;have ay:I (∀j,Q j->NB<=j):=fun j hj=>by
  obtain⟨tb,vb,va,vr,-,-,-,-,h3⟩:=bl.out;exact(h3 j hj).1
 have bm:I (Fils (ds.take (m+1)) (ps.take (m+1)) (N++ [F])/\(N++ [F]).length=m+1):=⟨cs,by rw[Qo,HT.out.2.2.2];rfl⟩;generalize Hf ((l,o,r,u,y,z,c),N,b) F=t1 at ai am ad;generalize FA ((l,o,r,u,y,z,c),N,b) F=C at ai ad bj;generalize N++ [F]=bo at ad bm;obtain⟨F0,F1,F2,F3,F4,F5⟩:=F;obtain⟨y0,y1,y2,y3,y4,y5,-⟩:=bn.cells;dsimp only at y0 y1 y2 y3 y4 y5;unfold A6 at ai;dsimp only at ai;clear bn cu cv ct cs cg HT
 go_wp2_with fail
 refine ai.mono ?_;rintro e w6 ⟨rfl,au,af,aa,dd⟩;have cl:=a5.trans (aa.below a5.size (fun j hj=>Qh aw.out (ay.out j hj)));have c9:=Qh ck aa.size;clear ai y0 y1 y2 y3 y4 y5 bl;by_cases hC:C=0
 case neg =>
  have HP:I (K6 a W (l,o,r,u,y,z,c) ds ps b (Qd (Qg #[Qa Z,Ae a C])) w6):=⟨_,C,rfl,cl,fun _ hG=>hC (bj.out hG).2,fun e=>absurd e hC⟩;obtain⟨i,rfl⟩:∃i,C=i+1:=⟨C-1,by omega⟩;simp only[Ae]at HP ⊢;clear af hC;go_wp2;go_ret2;exact HP.out
 case pos =>
 subst hC;simp only[Ae];have cm:I (CU 312 NB w6 v au ((l,o,r,u,y,z,c),bo,b)/\Cn ((l,o,r,u,y,z,c),bo,b)):=by
  show _/\_;rw[<-ad.out rfl];exact⟨af,am.out⟩
 clear af;go_wp2;go_roundw
 case rel=>exact ⟨m+1,bo,au,by omega,by go_num,bm.out.1,bm.out.2,cm.out.1,cm.out.2,cl,c9⟩
 case measure=>simp [Qv];omega
end
theorem uK {z:Int} (h:CT z=Qf):(Qp z).length<=12:=by
 have b:=Lb [z] (fun x hx=>by simp at hx;subst hx;exact h);simp[Dh]at b;omega
theorem uL (v:Qc) (zs:List Int) (w:V) (a:Nat->Qe) (h:Gm w a) (P:CA w v zs) (hl:zs.length<=100) :
  Calls Qb 151 #[v] w fun e w'=> ∃ev,e=Qd (Qg #[S (if (AF zs).1=0 then Ab (BB zs) else ⟨#[]⟩),ev])/\AZ w' a ev (AF zs)/\BL w w':=by
 have p:=Lh v zs w a h P (by omega);by_cases i:(AF zs).1=0
 case neg =>
  rw[if_neg i]
  go_enter func151,ntmps151
  go_wp2_with fail
  refine p.mono ?_;rintro e d ⟨ev,rfl,R,s⟩;obtain⟨t,u,rfl⟩:=R.bad i;have y:I _:=R;go_wp2;go_ret2;exact⟨_,rfl,y.out,s⟩
 case pos =>
 rw[if_pos i];have Q:=La i;rw[Q]at p ⊢;obtain⟨a0,-,an,-⟩:=DA.1 i;obtain⟨q,a6,rfl⟩:=P.1.shape;obtain⟨b,o,rfl,hc⟩:=P.1.at a0;have HC:I (∀W,BL w W->∀j (h:j<zs.length),W.cell? ⟨b,o+j,Z⟩=J (O U zs[j])):=fun W m j hj=>Aa m (hc j hj);have C:I _:=an;have ao:I _:=fun W (m:BL w W)=>(h.below m).weak;obtain⟨L,hL⟩:∃L,zs.length=L:=⟨_,rfl⟩;have HX:I _:=hL;rw[hL]at hl p ⊢;obtain⟨TT,ae⟩:∃TT,Ab (BB zs)=TT:=⟨_,rfl⟩;have y:I _:=ae;rw[ae]
 go_enter func151,ntmps151
 go_wp2_with fail
 refine p.mono ?_;rintro e d ⟨ev,rfl,R,s⟩;obtain rfl:ev=Q0:=R;have T:BL d (d.alloc (A #[Qa Z,H Z 0 0] 260)):=Af _ _;have ap:=Ad s T;have ah:Qz 260 5 d.heap.size d.heap.size [] (d.alloc (A #[Qa Z,H Z 0 0] 260)) :=
  Qq ⟨Qm _,H Z 0 0,Qj _ _,World.ownsRow_nil _ _ _ _,by simp[Value.ownBlock]⟩
 have f:=s.size;have c:=Ha d.heap.size d.heap.size _ ⟨#[109,101,116,97]⟩ _ ah (by have:(⟨#[109,101,116,97]⟩:ByteArray).size=4:=rfl;simp;omega) T.size;have X:d.heap.size<(d.alloc (A #[Qa Z,H Z 0 0] 260)).heap.size:=by simp
 go_upto_region 5 with fail
 generalize d.heap.size=B at c f X ⊢
 go_wp2_with fail
 refine c.mono ?_;rintro e w3 ⟨rfl,a1,af⟩;have ai:=ap.trans (af.mono f);have aq:=Qk X af.size;have ar:I (Qz 260 5 B B (Q7 (Ek++Dh (zs.take 0))) w3):=by
  show Qz _ _ _ _ _ _;exact Qs a1
 go_wp2
 go_loopw [16] (fun k wr=> ∃n:Nat,n<=L/\k=O U n/\BL w wr/\B<wr.heap.size/\Qz 260 5 B B (Q7 (Ek++Dh (zs.take n))) wr) (fun k _=>L-(Qv k).toNat)
 case atStart=>exact ⟨0,by omega,rfl,ai,aq,ar.out⟩
 case round =>
  obtain⟨n,hn,rfl,m,r,hB⟩:=hrel;by_cases au:n<L
  ·have D:n<zs.length:=by rw[HX.out];exact au
   have c0:=HC.out wr m n D;have Y:=C.out zs[n] (QE _);have a5:=Ko.1 Y;have av:=uK Y;have E:=Lb (zs.take n) (fun z P=>C.out z (List.mem_of_mem_take P));rw[QD]at E;have a4:(Q7 (Ek++Dh (zs.take n))).length<=30000:=by
    rw[Xk,Qo];have:Ek.length=4:=rfl;omega
   have HT:I (Ek++Dh (zs.take (n+1))=Ek++Dh (zs.take n)++ [32]++Qp zs[n]):=by
    show _=_;rw[lX D];simp
   have aj:(Ab (Qp zs[n])).size<=12:=by rw[De];exact av
   have aa:I ((Ab (Qp zs[n])).data.toList=Qp zs[n]):=by show _=_;simp[Ab]
   have ab:=fun W (hW:Cd W a)=>Jm zs[n] W a hW (by omega) (by omega);generalize Ab (Qp zs[n])=tb at ab aa aj;have c:=Ha B B _ ⟨#[32]⟩ wr hB (by have:(⟨#[32]⟩:ByteArray).size=1:=rfl;omega) (Q6 r)
   go_wp2_with fail
   refine c.mono ?_;rintro e K ⟨rfl,M,l⟩;have g:=m.trans (l.mono f);have F:=Qk r l.size;have ak:=ab K (ao.out K g)
   go_wp2_with fail
   refine ak.mono ?_;rintro e w6 ⟨rfl,N⟩;have al:=Ad g N;have ac:=Qk F N.size;have c:=Ha B B _ tb w6 (KU (Qs M) N) (by rw[Qo,Lib.strCells_length];have:(⟨#[32]⟩:ByteArray).size=1:=rfl;omega) (Q6 ac)
   go_wp2_with fail
   refine c.mono ?_;rintro e w7 ⟨rfl,a2,ag⟩;have am:=al.trans (ag.mono f);have aw:=Qk ac ag.size;have ax:I (Qz 260 5 B B (Q7 (Ek++Dh (zs.take (n+1)))) w7):=by
    show Qz _ _ _ _ _ _;rw[HT.out,QR,QR,<-aa.out];exact Qs a2
   go_wp2;go_roundw
   case rel=>exact ⟨n+1,by omega,by go_num,am,aw,ax.out⟩
   case measure=>simp [Qv];omega
  ·obtain rfl:n=L:=by omega
   have ay:=Q5 (by rw[HX.out];exact Qm _);rw[ay]at hB;have E:=Lb zs C.out;rw[HX.out]at E;have c:=Ha B B _ ⟨#[10]⟩ wr hB (by
    have:(⟨#[10]⟩:ByteArray).size=1:=rfl;rw[Xk,Qo];have:Ek.length=4:=rfl;omega) (Q6 r)
   go_wp2_with fail
   refine c.mono ?_;rintro e K ⟨rfl,M,l⟩;have g:=m.trans (l.mono f);have F:=Qk r l.size;have az:Qz 260 5 B B (Q7 (BB zs)) K:=by
    unfold BB;rw[QR];exact Qs M
   have ad:=Builder_String_any B B (BB zs) K az (Q6 F);have eS:(⟨(BB zs).toArray⟩:ByteArray)=Ab (BB zs):=rfl;rw[eS,y.out]at ad
   go_wp2_with fail
   refine ad.mono ?_;rintro e w2 ⟨rfl,a3⟩;go_wp2;go_ret2;exact⟨_,rfl,rfl,g.trans (a3.mono f)⟩
def Dw (a:Nat->Qe) (W:V) (kb:Nat) (vs:Qc) (SP:Nat->Prop) (vi vf:Qc) (k:Lk) (vj vg:Qc) (ids:List Int) (now:Sn) (X:Int->St->Prop) (G:Prop) (e:QP) (w':V):Prop :=
 ∃n SP',e=Qd (Ae a n)/\Ac (fun j=>SP j\/j=kb) W w'/\(∀j,SP' j->SP j\/W.heap.size<=j) /\
  ((n≠0/\¬G/\∃s',Gw k.st s'/\Al w' kb vs SP' k.st.head vi vf { k with st:=s' }) \/
   (n=0/\∃s' m,B7 s'/\(∀x t,AN k.st x t->AN s' x t)/\s'.head=AJ m/\CP (AJ m).data.toList=Qf/\AN s' (AJ m) (Ab (BB ids))/\X m s'/\Al w' kb vs SP' (AJ m) vj vg { k with st:=s',ids:=ids,now:=now }))
section
variable {a : Nat → Qe} {B : Nat} {EM : V → Prop}
theorem VO {zs:List Int} (h:(AF zs).1=0):(Ab (BB zs)).size<=10000:=by
 obtain⟨-,c,b,-⟩:=DA.1 h;have:=Lb zs b;rw[EK];unfold BB Ek;simp only[Qo,List.length_cons,List.length_nil];omega
theorem VP (K:A2 a B EM An) (HL:∀X,EM X->AX X a) {W:V} {f:Nat} {vs:Qc} {p:Nat->Prop} {vi vf:Qc} {k:Lk} (hE:EM W) (h:Al W f vs p k.st.head vi vf k) (hg:B7 k.st) (hB:B<=f/\∀j,p j->B<=j) (b7:k.st.head.size<=1000) (vj vg:Qc) (d:List Int) (b:Sn) (g:CA W vj d) (al:(AF d).1=0) (b8:DY vj d f p) (hv:Ai W vg b.2.2.2.2.2.2) (b9:DY vg b.2.2.2.2.2.2 f p) :
  Calls Qb 78 #[.pointer (J ⟨f,0,Z⟩),A8 b vg,vj] W (Dw a W f vs p vi vf k vj vg d b (fun m s=>m=Ag k.st/\∀n,Rm (n+1) k.st->Rm n s) (Rm 1 k.st)):=by
 obtain⟨T,rfl⟩:=h.ptr K;obtain⟨F,L,rfl⟩:=g.1.form;obtain⟨r,u,rfl⟩:=hv.form;obtain⟨cc,cd⟩:=It k.st;have am:BL W (W.alloc (A #[.int .i64 b.1,.int .i64 b.2.1,.int .i64 b.2.2.1,.int .i64 b.2.2.2.1,.int .i64 b.2.2.2.2.1,.string b.2.2.2.2.2.1,.slice r b.2.2.2.2.2.2.length u] 40)):=Af _ _;have ac:=Ao.new W b (.slice r b.2.2.2.2.2.2.length u);have Q:I _:=fun X (hb:BL W X)=>K.below _ _ hE (hb.mono (K.size _ hE));have HQ:I _:=fun X (hb:BL W X)=>h.quiet K hb;have bd:I (∀X,BL W X->Calls Qb 151 #[.slice F d.length L] X fun e w'=>e=Qd (Qg #[.string (Ab (BB d)),Q0])/\BL X w'):=fun X hb=>by
  have:=uL _ d X a (HL X (Q.out X hb)).m ⟨g.1.below hb,g.2⟩ (by have:=(DA.1 al).2.1;omega);rw[if_pos al]at this;refine this.mono fun e w' ⟨ev,h1,h2,h3⟩=>?_;obtain rfl:=h2.ok al;exact⟨h1,h3⟩
 have be:I _:=fun X (hb:BL W X)=>MY K (fun Y hY=>(HL Y hY).s) X _ p k.st (Q.out X hb) (HQ.out X hb).st hg.keeps (fun o ho=>by have:=GJ (hg.keeps.names o ho);omega) hg.slb;have bf:I (∀X,BL W X->Calls Qb 96 #[.string ⟨#[109,101,116,97,47]⟩,.int .i64 (Ag k.st)] X fun e w'=>e=Qd (.string (AJ (Ag k.st)))/\BL X w'):=fun X hb=>MZ ⟨#[109,101,116,97,47]⟩ _ X (HL X (Q.out X hb)).s (by decide) (by omega);have ca:(AJ (Ag k.st)).size<=100:=by
  unfold AJ;rw[ByteArray.size_append,EK];have:=itoa_length_le (Ag k.st) (by omega) (by omega);have h5:(⟨#[109,101,116,97,47]⟩:ByteArray).size=5:=rfl;omega
 have cb:=VO al;have bg:I (∀X,BL W X->Calls Qb 137 #[.pointer (J T),.string (AJ (Ag k.st)),.string (Ab (BB d))] X fun e w'=>e=Qd (Ae a (BM k.st (AJ (Ag k.st)) (Ab (BB d))))/\Dt An X (.pointer (J T)) p (B3 k.st (AJ (Ag k.st)) (Ab (BB d))) w'):=fun X hb=>K.put X _ p k.st _ _ (Q.out X hb) (HQ.out X hb).st hg.keeps (by omega) (by omega);have v:I (Gw k.st (B3 k.st (AJ (Ag k.st)) (Ab (BB d)))):=JC hg _ (sI _);have bh:I (BM k.st (AJ (Ag k.st)) (Ab (BB d))=0->AN (B3 k.st (AJ (Ag k.st)) (Ab (BB d))) (AJ (Ag k.st)) (Ab (BB d))/\CP (AJ (Ag k.st)).data.toList=Qf):=fun h0=>⟨(K2 hg h0).1,(K2 hg h0).2.2⟩;have HJ:I (CA W (.slice F d.length L) d/\Ai W (.slice r b.2.2.2.2.2.2.length u) b.2.2.2.2.2.2):=⟨g,hv⟩;have HO:I (DY (.slice F d.length L) d f p/\DY (.slice r b.2.2.2.2.2.2.length u) b.2.2.2.2.2.2 f p):=⟨b8,b9⟩;have bi:I (k.st.head.size<=1000):=b7;have an:I (∀n,Rm (n+1) k.st->BM k.st (AJ (Ag k.st)) (Ab (BB d))=0/\Rm n (B3 k.st (AJ (Ag k.st)) (Ab (BB d)))):=fun n h=>Ly h Nc (by omega);generalize B3 k.st (AJ (Ag k.st)) (Ab (BB d))=l at *;generalize BM k.st (AJ (Ag k.st)) (Ab (BB d))=C1 at *;generalize b5:Ab (BB d)=TX at *;have bj:I _:=b5;generalize b6:AJ (Ag k.st)=i at *;have bk:I _:=b6;generalize Ag k.st=NN at *;unfold A8
 go_enter func78,ntmps78
 go_upto_region 1 with fail
 generalize W.alloc (A #[.int .i64 b.1,.int .i64 b.2.1,.int .i64 b.2.2.1,.int .i64 b.2.2.2.1,.int .i64 b.2.2.2.2.1,.string b.2.2.2.2.2.1,.slice r b.2.2.2.2.2.2.length u] 40)=WA at am ac ⊢;have ax:I _:=(HQ.out W (Qi _ _)).blk.lt;have ao:I (¬p W.heap.size/\W.heap.size<WA.heap.size/\f<W.heap.size):=⟨fun e=>absurd (((HQ.out W (Qi _ _)).sizes K).2 _ e) (by omega),ac.lt,(HQ.out W (Qi _ _)).blk.lt⟩;generalize W.heap.size=nb at ac ao ax ⊢;have bl:=bd.out WA am
 go_wp2_with fail
 refine bl.mono ?_;rintro e w1 ⟨rfl,ba⟩;have ap:=Ad am ba;have bm:=ac.below ba;have bn:=HQ.out w1 ap;obtain⟨c0,-⟩:=bn.blk.cells;have bo:=be.out w1 ap
 go_wp2_with fail
 refine bo.mono ?_;rintro e w2 ⟨rfl,bb⟩;have ay:=Ad ap bb;have bp:=bm.below bb;have bq:=bf.out w2 ay
 go_wp2_with fail
 refine bq.mono ?_;rintro e w3 ⟨rfl,bc⟩;have ad:=Ad ay bc;have az:=bp.below bc;have a0:=HQ.out w3 ad;obtain⟨c0,-⟩:=a0.blk.cells;have br:=bg.out w3 ad
 go_wp2_with fail
 refine br.mono ?_;rintro e N ⟨rfl,b1⟩;obtain⟨z,ab,ak,a7⟩:=a0.post b1;have bs:nb<w3.heap.size:=az.lt;have ae:Ao N nb b (.slice r b.2.2.2.2.2.2.length u):=(ak.block nb bs ao.out.1).trans az;have aq:I (¬z nb/\nb<N.heap.size):=⟨fun e=>(a7 nb e).elim ao.out.1 (fun e'=>by omega),ae.lt⟩;have af:I _:=(Ac.of_below ad).trans ak (fun _ h _=>h);have ar:I _:=fun j (g:z j)=>(a7 j g).imp_right (Qh ad.size);have a1:=K.below _ _ (Q.out W (Qi _ _)) (af.out.below (K.size _ (Q.out W (Qi _ _))) hB.2);by_cases C:C1=0
 case neg =>
  have R:I (Dw a W f (.pointer (J T)) p vi vf k (.slice F d.length L) (.slice r b.2.2.2.2.2.2.length u) d b (fun m s=>m=NN/\∀n,Rm (n+1) k.st->Rm n s) (Rm 1 k.st) (Qd (Ae a C1)) N):=⟨C1,z,rfl,af.out.mono (fun _ h=>Qq h),ar.out,Qq ⟨C,fun h=>C (an.out 0 h).1,l,v.out,ab⟩⟩;obtain⟨n,rfl⟩:∃n,C1=n+1:=⟨C1-1,by omega⟩;simp only[Ae]at R ⊢;clear ab ae C;go_wp2;go_ret;exact R.out
 case pos =>
 subst C;simp only[Ae];obtain⟨bw,bx⟩:=bh.out rfl;have ag:I (∀X,BL N X->Calls Qb 152 #[.pointer (J T),.string k.st.head,.string i] X fun e w'=>e=Qd (Ae a (CG l k.st.head i))/\∃y,Al w' f (.pointer (J T)) y k.st.head vi vf { k with st:=B9 l k.st.head i } /\Ac z N w'/\∀j,y j->z j\/N.heap.size<=j):=fun X hb=>by
  have a2:=ab.quiet K hb;refine(K.swap X _ z l k.st.head i (K.below _ _ a1 (hb.mono (K.size _ a1))) a2.st v.out.good.keeps (by have:=bi.out;omega) (by omega)).mono fun e w' ⟨h1,h2⟩=>?_;obtain⟨y,h3,h4,h5⟩:=a2.post h2;exact⟨h1,y,h3,(Ac.of_below hb).trans h4 (fun _ h _=>h),fun j g=>(h5 j g).imp_right (Qh hb.size)⟩
 have au:I (B7 (B9 l k.st.head i)):=by
  by_cases hc:CG l k.st.head i=0
  ·exact MU v.out.good (SV v.out.good.keeps _ _) (V5 hc).1
  ·exact MU v.out.good (SV v.out.good.keeps _ _) (V6 hc).1
 have av:I (CG l k.st.head i=0->(B9 l k.st.head i).obs=l.obs/\(B9 l k.st.head i).head=i):=fun h=>V5 h;have ah:I (CG l k.st.head i≠0->(B9 l k.st.head i).obs=l.obs/\(B9 l k.st.head i).head=l.head):=fun h=>V6 h;have ai:I (∀n,Rm n l->CG l k.st.head i=0/\Rm n (B9 l k.st.head i)):=fun n h=>by
  have:=tD h (t:=i) (by omega);rw[v.out.head]at this;exact this
 generalize B9 l k.st.head i=S2 at ag au av ah ai;generalize CG l k.st.head i=C2 at ag av ah ai;have D:BL N N.drew:=(Qi _ _).drew;obtain⟨c0,-,c2,-⟩:=ab.blk.cells;have bt:=Aa D c0;have bu:=Aa D c2
 go_upto_region 8 with fail
 go_cut [11] from 37 to 46 (fun c wx=> ∃y,c=Ae a C2/\Al wx f (.pointer (J T)) y k.st.head vi vf { k with st:=S2 } /\Ac z N wx/\∀j,y j->z j\/N.heap.size<=j)
 case first =>
  first
   | (go_region_with (go_at_call 152;(with_reducible refine(ag.out _ D).mono ?_);rintro e wZ ⟨rfl,y,b2,b3,b4⟩))
   | fail
  all_goals
   go_wp2;go_meet
   case rel=>exact ⟨y,rfl,b2,b3,b4⟩
 case rest =>
 obtain⟨y,rfl,M,aa,a8⟩:=hcut;have a3:Ao wc nb b (.slice r b.2.2.2.2.2.2.length u):=(aa.block nb aq.out.2 aq.out.1).trans ae;have a4:I (Ac p W wc):=af.out.trans aa (fun j g hjl=>(ar.out j g).elim id (fun e=>absurd hjl (by omega)));have aj:I (∀j,y j->p j\/W.heap.size<=j):=fun j g=>(a8 j g).elim (ar.out j) (fun e=>Qs (Qh af.out.size e));clear ab ae c0 c2 bt bu D ag aa a8 aq;by_cases C:C2=0
 case neg =>
  have R:I (Dw a W f (.pointer (J T)) p vi vf k (.slice F d.length L) (.slice r b.2.2.2.2.2.2.length u) d b (fun m s=>m=NN/\∀n,Rm (n+1) k.st->Rm n s) (Rm 1 k.st) (Qd (Ae a C2)) wc):=⟨C2,y,rfl,a4.out.mono (fun _ h=>Qq h),aj.out,Qq ⟨C,fun h=>C (ai.out 0 (an.out 0 h).2).1,S2,v.out.trans ⟨au.out,fun x t h=>MV (ah.out C).1 h,(ah.out C).2⟩,M⟩⟩;obtain⟨n,rfl⟩:∃n,C2=n+1:=⟨C2-1,by omega⟩;simp only[Ae]at R ⊢;clear M a3 C;go_wp2;go_ret;exact R.out
 case pos =>
 subst C;simp only[Ae];obtain⟨a9,bz⟩:=av.out rfl;have q:¬nb=f:=by have:=ax.out;omega
 have R:I (Dw a W f (.pointer (J T)) p vi vf k (.slice F d.length L) (.slice r b.2.2.2.2.2.2.length u) d b (fun m s=>m=NN/\∀n,Rm (n+1) k.st->Rm n s) (Rm 1 k.st) (.returned Q0) (EO ((wc.setCell ⟨f,2,Z⟩ (.string i)).setCell ⟨f,3,Z⟩ (.slice F d.length L)) f b (.slice r b.2.2.2.2.2.2.length u)).drew):=by
  have E:CB (EO ((wc.setCell ⟨f,2,Z⟩ (.string i)).setCell ⟨f,3,Z⟩ (.slice F d.length L)) f b (.slice r b.2.2.2.2.2.2.length u)) f (.pointer (J T)) k.spec i (.slice F d.length L) b (.slice r b.2.2.2.2.2.2.length u):=CB.setNow ((M.blk.setHd i).setIds _);have a5:Ac (fun j=>j=f) wc (EO ((wc.setCell ⟨f,2,Z⟩ (.string i)).setCell ⟨f,3,Z⟩ (.slice F d.length L)) f b (.slice r b.2.2.2.2.2.2.length u)):=(((Ac.refl (fun j=>j=f) wc).setCell (Qq rfl) _).setCell (Qq rfl) _).trans (U4 _ f b _) (fun _ h _=>h);generalize EO ((wc.setCell ⟨f,2,Z⟩ (.string i)).setCell ⟨f,3,Z⟩ (.slice F d.length L)) f b (.slice r b.2.2.2.2.2.2.length u)=W8 at E a5 ⊢;have D:BL W8 W8.drew:=(Qi _ _).drew;have a6:Ac (fun j=>j=f) wc W8.drew:=a5.trans (Ac.of_below (P:=fun _=>False) D) (fun _ h _=>h.elim);replace E:=E.keep (D.block f E.lt);have bv:=K.keep _ _ _ _ _ _ M.st a6 (fun j g e=>M.off (e▸g));have aw:=(a4.out.mono (fun _ h=>Qq h)).trans a6 (fun j g _=>(Qs g:p j\/j=f));obtain rfl:=bk.out;refine⟨0,y,rfl,aw,aj.out,Qs ⟨rfl,S2,NN,au.out,fun x t hx=>MV a9 (v.out.old x t hx),bz,bx,MV a9 (bj.out▸bw),⟨rfl,fun n h=>(ai.out n (an.out n h).2).2⟩,?_⟩⟩;exact⟨E,bv,⟨Kr HJ.out.1.1 (fun q j g e=>e.elim (HO.out.1 q j g).2 (HO.out.1 q j g).1) aw,HJ.out.1.2⟩,Ks HJ.out.2 (fun q j g e=>e.elim (HO.out.2 q j g).2 (HO.out.2 q j g).1) aw,M.off,HO.out.1.up (fun q j g=>J6 HJ.out.1.1 q g) aj.out,HO.out.2.up (fun q j g=>J5 HJ.out.2 q g) aj.out⟩
 unfold EO at R;obtain⟨d0,d1,d2,d3,d4,d5,d6,d7,d8,d9,b0,dz⟩:=M.blk.cells;obtain⟨n1,n2,n3,n4,n5,n6,ce⟩:=b;obtain⟨x0,x1,x2,x3,x4,x5,x6⟩:=a3.cells;dsimp only at x0 x1 x2 x3 x4 x5 x6 d2 d3 d4 d5 d6 d7 d8 d9 b0 R ⊢
 go_upto_region 11 with fail
 go_region
 go_wp2;go_ret;exact R.out
end
end Go.Proofs.YtcllhobffhkafaaGreatDoor
