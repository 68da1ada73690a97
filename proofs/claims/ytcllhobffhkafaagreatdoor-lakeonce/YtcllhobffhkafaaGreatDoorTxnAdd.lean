/- By an AI agent. -/
import Derived.Test.YtcllhobffhkafaaGreatDoorExpTxt
import Derived.Laws.EntriesVeiled
set_option maxRecDepth 100000
set_option maxHeartbeats 16000000
open Go.Proofs.Tryz
open Bool renaming true->Qd,false->Qg,not_eq_true'->Qs
open Go renaming World->H,Value->Qb,Addr->Qe,TypeId->Ql,heap_alloc_new->Qu,cell_of_row->Qv
open Go.Ending renaming returned->V
open Go.IntKind renaming i64->U
open Go.Lib renaming itoa->Qj,cut->Qk,compareInt->Qn,bytesWorld->Qy,bytesWorld_below->Qz,below_putRow->Q6
open Go.Obj renaming cells->J
open Go.Proofs renaming ltOf->Qc,enters_of->Qh
open Go.Proofs.Tryz renaming prog->A,func278->Qq,underlying38->Q1
open Go.RowKit.Below renaming refl->Qi,trans->Q8,size->Q9,drew->QA
open Go.Value renaming int->O,string->Z,pointer->G,slice->Qa,bool->Qf,tuple->Qm
open List renaming getElem?_eq_getElem->Qo,length_map->Qp,mem_singleton->Qt,mem_iff_getElem->Q2,pairwise_iff_getElem->Q3,size_toArray->Q4,mergeSort_perm->Q5,length_attach->Q7,length_append->QB
open Nat renaming le_trans->Qr,le_refl->Qw,le_add_right->Qx,lt_of_lt_of_le->QC
open Option renaming none->I,some->S,ne_none_iff_exists'->Q0
namespace Go.Proofs.YtcllhobffhkafaaGreatDoor
open Go.RowKit Go.Extern.Stop Go.Stop Go.Extern Go.Sort Go.Shelf Go.Lib
theorem Ve (i:Nat) (v:Qb) (b:List Fl) (p:ByteArray) (w:H) (m:w.cell? ⟨i,0,I⟩=S v) (j:Ai w v b) (k:b.length<=20000) :
  Calls A 278 #[Z p,G (S ⟨i,0,I⟩)] w fun e w'=>e=V (Qf (BR b p))/\BL w w':=by
 have d:=JT v b p w j k;have f:Hid (decide (0<=Df b p)=BR b p):=Oc _ _;obtain⟨q,c,rfl⟩:=j.form
 go_enter Qq,ntmps278
 go_wp2_with fail
 refine d.mono ?_;rintro e l ⟨rfl,g⟩;go_wp2;go_ret;exact⟨by rw[<-f.out];rfl,g⟩
def Lb (w:H) (hb pb:Nat):Prop:=w.cell? ⟨hb,0,I⟩=S (.func (.func 278) #[] #[G (S ⟨pb,0,I⟩)])
theorem qX (f c:Nat) (v:Qb) (b:List Fl) (p:ByteArray) (w:H) (i:Lb w f c) (j:w.cell? ⟨c,0,I⟩=S v) (k:Ai w v b) (l:b.length<=20000) :
  Calls A 280 #[Z p,G (S ⟨f,0,I⟩)] w fun e w'=>e=V (Qf (!BR b p))/\BL w w':=by
 have m:∀args w,(callFunc 278 args).run A w= .ok (.enter 278 args) w:=Qh Qq (by kernel_rfl) rfl;have g:=Ve c v b p w j k l;unfold Lb at i
 go_enter func280,ntmps280
 go_wp2_with (go_at_fn 278;refine g.mono ?_;rintro e n ⟨rfl,d⟩)
 go_ret;exact⟨rfl,d⟩
theorem qY (i d:Nat) (v:Qb) (c:List Fl) (f:Fl) (w:H) (l:Lb w i d) (m:w.cell? ⟨d,0,I⟩=S v) (n:Ai w v c) (o:c.length<=20000) :
  Calls A 281 #[A1 f,G (S ⟨i,0,I⟩)] w fun e w'=>e=V (Qf (BR c f.1))/\BL w w':=by
 have s:∀args w,(callFunc 278 args).run A w= .ok (.enter 278 args) w:=Qh Qq (by kernel_rfl) rfl;have b:BL w (w.alloc (J #[Z f.1,Z f.2.1,O U f.2.2.1,O U f.2.2.2.1,O U f.2.2.2.2.1,O U f.2.2.2.2.2] 77)):=Af _ _;have j:=Ve d v c f.1 (w.alloc (J #[Z f.1,Z f.2.1,O U f.2.2.1,O U f.2.2.2.1,O U f.2.2.2.2.1,O U f.2.2.2.2.2] 77)) (Aa b m) (n.below b) o;have p:=Aa b l;unfold A1;obtain⟨t,u,y,q,r,k⟩:=f
 go_enter func281,ntmps281
 go_upto_region 1 with fail
 go_wp2_with (go_at_fn 278;refine j.mono ?_;rintro e z ⟨rfl,g⟩)
 go_ret;exact⟨rfl,(Ad b g)⟩
def Gd (t:Tx) (fs:List Fl):Nat:=if (t.2.2.any fun p=> !BR fs p)=Qd then 11 else if (t.2.1.any fun f=>BR fs f.1)=Qd then 7 else 0
theorem qZ (B tb:Nat) (vb va vr v:Qb) (t:Tx) (i:List Fl) (w:H) (a:Nat->Qe) (h:G0 w a) (j:C8 312 B w tb vb va vr t) (hx:Ai w v i) (hl:i.length<=20000) (ad:t.2.1.length<=1000) (ae:t.2.2.length<=1000) :
  Calls A 197 #[G (S ⟨tb,0,I⟩),v] w fun e w'=>e=V (Ae a (Gd t i))/\BL w w':=by
 have e2:=Qh func280 (by kernel_rfl) rfl;have e3:=Qh func281 (by kernel_rfl) rfl;have K:BL w (w.alloc (J #[v] 38)):=Af _ _;have b:(w.alloc (J #[v] 38)).heap[w.heap.size]? =S (J #[v] 38 (0,0)):=Qu _ _;have L:(w.alloc (J #[v] 38)).cell? ⟨w.heap.size,0,I⟩=S v:=by rw[Qv _ _ _ _ _ _ b];rfl
 have M:Hid _:=fun W (hb:BL w W)=>hx.below hb;have N:Hid _:=fun W (hb:BL w W)=>(Iw j.rems).below hb;have P:Hid _:=fun W (hb:BL w W)=>(Gt j.adds).1.below hb;have s:Hid _:=fun W (hb:BL w W)=>(j.below hb).cells;have l:Hid _:=fun W (hb:BL w W)=>h.below hb;obtain⟨qa,ca,aa⟩:=CY j.adds;obtain⟨qr,cr,ab⟩:=CY j.rems;obtain⟨q,c,hv⟩:=hx.form;unfold Gd;obtain⟨R1,C⟩:∃R,(t.2.2.any fun p=> !BR i p)=R:=⟨_,rfl⟩;obtain⟨R2,D⟩:∃R,(t.2.1.any fun f=>BR i f.1)=R:=⟨_,rfl⟩;rw[C,D];have Q:Hid _:=C;have T:Hid _:=D
 go_enter func197,ntmps197
 subst aa ab hv
 go_upto_region 1 with fail
 generalize w.alloc (J #[Qa q i.length c] 38)=g at *;have m:BL g (g.alloc (J #[.func (.func 278) #[] #[G (S ⟨w.heap.size,0,I⟩)]] 116)):=Af _ _;have b:(g.alloc (J #[.func (.func 278) #[] #[G (S ⟨w.heap.size,0,I⟩)]] 116)).heap[g.heap.size]? =S (J #[.func (.func 278) #[] #[G (S ⟨w.heap.size,0,I⟩)]] 116 (0,0)):=Qu _ _;have n:Lb (g.alloc (J #[.func (.func 278) #[] #[G (S ⟨w.heap.size,0,I⟩)]] 116)) g.heap.size w.heap.size:=by
  unfold Lb;rw[Qv _ _ _ _ _ _ b];rfl
 have d:=Ad K m;have u:=Aa m L;clear b
 go_upto_region 2 with fail
 generalize g.alloc (J #[.func (.func 278) #[] #[G (S ⟨w.heap.size,0,I⟩)]] 116)=r at *;generalize g.heap.size=b at *;have y:=kJ 280 #[G (S ⟨b,0,I⟩)] (fun p=> !BR i p) (Qa qr t.2.2.length cr) t.2.2 r (N.out r d) (by omega) e2 (fun p _ W hW=>qX (b) w.heap.size _ i p W (Aa hW n) (Aa hW u) (M.out W (Ad d hW)) hl);have z:Hid (∀W,BL r W->Calls A 146 #[Qa qa t.2.1.length ca,.func (.func 281) #[] #[G (S ⟨b,0,I⟩)]] W fun e w'=>e=V (Qf (t.2.1.any fun f=>BR i f.1))/\BL W w'):=fun g hW0=>Ov 281 #[G (S ⟨b,0,I⟩)] (fun f=>BR i f.1) _ t.2.1 g (P.out g (Ad d hW0)) (by omega) e3 (fun f _ W hW=>qY (b) w.heap.size _ i f W (Aa hW (Aa hW0 n)) (Aa hW (Aa hW0 u)) (M.out W (d.trans ((Ad hW0 hW).mono d.size))) hl);have X:=(s.out r d).cells.2.2.2;rw[Q.out]at y;rw[T.out]at z
 go_wp2_with fail
 refine y.mono ?_;rintro e F ⟨rfl,E⟩;have k:=Ad d E
 cases R1 with
 | true =>
  have et:=(l.out F k).stale;go_wp2;go_ret;exact⟨rfl,k⟩
 | false =>
 have Y:=z.out F E;have X:=(s.out F k).cells.2.2.1
 go_wp2_with fail
 refine Y.mono ?_;rintro e w4 ⟨rfl,ac⟩;have o:=Ad k ac
 cases R2 with
 | true =>
  have et:=(l.out w4 o).list.exist;go_wp2;go_ret;exact⟨rfl,o⟩
 | false =>
  go_wp2;go_ret;exact⟨rfl,o⟩
def Gr (w w':H):Prop:=BL w w'/\w.drawn<=w'.drawn
theorem Gr.trans {a b c:H} (h:Gr a b) (k:Gr b c):Gr a c:=⟨h.1.trans (k.1.mono h.1.size),Qr h.2 k.2⟩
theorem Gr.alloc (w:H) (o:Obj):Gr w (w.alloc o):=⟨Af _ _,Qw _⟩
theorem Gr.grow (w:H) (k:Nat) (os:Array Obj):Gr w (Sort.grow (w.drewN k) os):=⟨GG k os,Qx _ _⟩
theorem Gr.drewN (w:H) (k:Nat):Gr w (w.drewN k):=⟨AH (Qi _ _) k,Qx _ _⟩
theorem Gr.bytes (w:H) (e:Ql) (s:ByteArray):Gr w (Qy w e s):=⟨Qz w e s,by
 unfold Qy World.freeze;rw[if_neg (by decide)];exact Nat.le_succ _⟩
theorem Gr.form {w w':H} (h:Gr w w'):∃q os,w'=Sort.grow (w.drewN q) os:=by
 refine⟨w'.drawn-w.drawn,w'.heap.extract w.heap.size w'.heap.size,?_⟩;have b:w'.heap=w.heap++w'.heap.extract w.heap.size w'.heap.size:=by
  apply Array.ext_getElem?;intro k;by_cases c:k<w.heap.size
  ·rw[Array.getElem?_append_left c];exact h.1.block k c
  ·rw[Array.getElem?_append_right (by omega),Array.getElem?_extract];by_cases l:k<w'.heap.size
   ·rw[if_pos (by omega),show w.heap.size+(k-w.heap.size)=k by omega]
   ·rw[if_neg (by omega),Array.getElem?_eq_none (by omega)]
 obtain⟨⟨d,f,g,_,_⟩,i⟩:=h;generalize w'.heap.extract w.heap.size w'.heap.size=X at b;obtain⟨s,t,u,os,m⟩:=w;obtain⟨n,o,p,r,j⟩:=w';dsimp only at d f g b i;subst d f g b;unfold Sort.grow World.drewN;dsimp only;rw[Nat.add_sub_cancel' i]
theorem rA (s:ByteArray) (n:Int) (w:H) (h:DJ w) (i:As s.data.toList=S n) :
  Calls A 129 #[Z s] w fun e w'=>e=V (Qm #[O U n,Qf Qd])/\Gr w w':=by
 have j:=AA s;obtain⟨d,m⟩:=Fb i;have b:atoi s.data.toList=S n:=by rw[<-d];exact IE n
 have f:=strconv_Atoi s n (by omega) b w;have l:=atoi_bound b (by omega);have c:Ab (Qj n)=s:=by rw[d];exact Dy s
 go_enter func129,ntmps129
 go_wp2_with (first
  | (go_at_call 213;refine f.mono ?_;rintro e o ⟨rfl,t,rfl⟩)
  | (go_at_call 86;refine(Ij n _ (Hh h.tab (Qz w _ t)) (by omega) (by omega)).mono ?_;rintro e p ⟨rfl,k,g,rfl⟩;rw[c]))
 go_ret2;exact⟨rfl,(Gr.bytes w _ t).trans (Gr.grow _ k g)⟩
theorem Vf (p:ByteArray) (g:Bool) (n:Int) (w:H) (a:Nat->Qe) (h:CT w a) (E:A7 p.data.toList=S (g,n)) :
  Calls A 224 #[Z p] w fun e w'=>e=V (Qm #[Z (Ab (AE g)),O U n,.nilIface])/\Gr w w':=by
 obtain⟨k,o,B⟩:=El E;obtain⟨m,C⟩:=h.base.maxl;have t:p.size<=100:=by
  rw[<-AA,k];have:=(Fb o).2;cases g<;>simp [AE,DX,DY]<;>omega
 have hcut:=strings_Cut p ⟨#[47]⟩ m w (by omega) C;have u:(⟨(Qk p.data.toList [47]).1.toArray⟩:ByteArray)=Ab (Qk p.data.toList [47]).1:=rfl;have v:(⟨(Qk p.data.toList [47]).2.1.toArray⟩:ByteArray)=Ab (Qk p.data.toList [47]).2.1:=rfl;have y:Qk p.data.toList [47]=(AE g,Qj n,Qd):=by rw[k];exact Ko 47 _ _ (by cases g<;>decide)
 rw[u,v,y]at hcut;have d:=fun W (hW:DJ W)=>rA (Ab (Qj n)) n W hW (by rw[BQ];exact o);have c:=fun W=>NR n W;rw[B]at c;have b:(Ab (AE g)).data.toList=AE g:=BQ _;generalize Ab (AE g)=D at hcut b ⊢
 go_enter func224,ntmps224
 go_wp2_with fail
 refine hcut.mono ?_;rintro e F ⟨rfl,q,rfl⟩;have f:=d _ (h.below (Gr.drewN w q).1).base
 go_wp2_with fail
 refine f.mono ?_;rintro e K ⟨rfl,r⟩;have i:Hid _:=(Gr.drewN w q).trans r;cases g
 ·have j:=CG b;simp only[AE,Bool.false_eq_true,if_false,DX]at j
  go_wp2_with (go_at_call 310;refine(c _).mono ?_;rintro e w' ⟨rfl,rfl⟩)
  go_ret3
  exact⟨rfl,i.out⟩
 ·have j:=BH (s:=D) (l:= [100,97,116,97]) (by rw[b];decide);have z:=CG b;simp only[AE,if_true,DY]at z
  go_wp2_with (go_at_call 310;refine(c _).mono ?_;rintro e w' ⟨rfl,rfl⟩)
  go_ret3
  exact⟨rfl,i.out⟩
theorem rB (p q:ByteArray) (w:H) (a:Nat->Qe) (h:CT w a) (s:A7 p.data.toList≠I) (t:A7 q.data.toList≠I) :
  Calls A 287 #[Z p,Z q] w fun e w'=>e=V (O U (Qn (pk p.data.toList) (pk q.data.toList)))/\Gr w w':=by
 obtain⟨⟨g,n⟩,c⟩:=Q0.1 s;obtain⟨⟨k,m⟩,b⟩:=Q0.1 t;have u:=Vf p g n w a h c;have v:=fun W (hW:CT W a)=>Vf q k m W a hW b;rw[<-TZ c b];have f:=fun W=>strings_Compare (Ab (AE g)) (Ab (AE k)) W;rw[BQ,BQ]at f;have i:=fun W=>cmp_Compare_int n m W;generalize Lib.compareBytes (AE g) (AE k)=X at f ⊢;generalize Qn n m=Y at i ⊢
 go_enter func287,ntmps287
 go_wp2_with fail
 refine u.mono ?_;rintro e y ⟨rfl,d⟩;have b:=v y (h.below d.1)
 go_wp2_with fail
 refine b.mono ?_;rintro e z ⟨rfl,o⟩;have j:Hid (Gr w z):=d.trans o
 go_wp2_with fail
 refine(f _).mono ?_;rintro e B ⟨rfl,rfl⟩
 go_wp2_with fail
 refine(i _).mono ?_;rintro e r ⟨rfl,rfl⟩;have l:=TY X Y r.heap.size (r.alloc (J #[O U X,O U Y] 3)) (by simp) (by simp)
 go_wp2_with fail
 refine l.mono ?_;rintro e C ⟨rfl,rfl⟩;go_wp2;go_ret;exact⟨rfl,j.out.trans (Gr.alloc _ _)⟩
theorem rC (x y:Fl) (w:H) (a:Nat->Qe) (h:CT w a) (n:A7 x.1.data.toList≠I) (o:A7 y.1.data.toList≠I) :
  Calls A 286 #[A1 x,A1 y] w fun e w'=>e=V (O U (Qn (fk x) (fk y)))/\Gr w w':=by
 have t:=Az.new w x;have f:=Az.new (w.alloc (J #[Z x.1,Z x.2.1,O U x.2.2.1,O U x.2.2.2.1,O U x.2.2.2.2.1,O U x.2.2.2.2.2] 77)) y;have g:=Gr.alloc w (J #[Z x.1,Z x.2.1,O U x.2.2.1,O U x.2.2.2.1,O U x.2.2.2.2.1,O U x.2.2.2.2.2] 77);have i:=Gr.alloc (w.alloc (J #[Z x.1,Z x.2.1,O U x.2.2.1,O U x.2.2.2.1,O U x.2.2.2.2.1,O U x.2.2.2.2.2] 77)) (J #[Z y.1,Z y.2.1,O U y.2.2.1,O U y.2.2.2.1,O U y.2.2.2.2.1,O U y.2.2.2.2.2] 77);have j:=f.cells.1;have b:(w.alloc (J #[Z x.1,Z x.2.1,O U x.2.2.1,O U x.2.2.2.1,O U x.2.2.2.2.1,O U x.2.2.2.2.2] 77)).heap.size=w.heap.size+1:=by simp
 rw[b]at j;have c:Hid (Gr w ((w.alloc (J #[Z x.1,Z x.2.1,O U x.2.2.1,O U x.2.2.2.1,O U x.2.2.2.2.1,O U x.2.2.2.2.2] 77)).alloc (J #[Z y.1,Z y.2.1,O U y.2.2.1,O U y.2.2.2.1,O U y.2.2.2.2.1,O U y.2.2.2.2.2] 77))):=g.trans i;have d:=rB x.1 y.1 ((w.alloc (J #[Z x.1,Z x.2.1,O U x.2.2.1,O U x.2.2.2.1,O U x.2.2.2.2.1,O U x.2.2.2.2.2] 77)).alloc (J #[Z y.1,Z y.2.1,O U y.2.2.1,O U y.2.2.2.1,O U y.2.2.2.2.1,O U y.2.2.2.2.2] 77)) a (h.below c.out.1) n o;unfold A1;unfold fk;obtain⟨u,v,z,p,q,k⟩:=x;obtain⟨B,C,D,r,s,l⟩:=y
 go_enter func286,ntmps286
 go_upto_region 1 with fail
 go_wp2_with fail
 refine d.mono ?_;rintro e E ⟨rfl,m⟩;go_wp2;go_ret;exact⟨rfl,c.out.trans m⟩
end Go.Proofs.YtcllhobffhkafaaGreatDoor
namespace Go.Proofs
open Go.Shelf
def Tryz.sortFile_ren:Go.Shelf.Ren:=⟨fun | 6=>285 | 15=>99 | 14=>330 | 28=>181 | 29=>182 | 20=>362 | 21=>363 | 22=>364 | 23=>365 | 24=>366 | 25=>367 | 26=>368 | 27=>369 | 46=>382 | 47=>264 | 48=>265 | 49=>383 | 50=>384 | 57=>389 | n=>n,fun | 22=>38 | 24=>77 | 25=>316 | 3=>3 | 39=>159 | 0=>0 | 53=>229 | 55=>242 | 4=>4 | 46=>235 | 45=>234 | 50=>90 | 5=>5 | 9=>9 | 66=>299 | 70=>303 | 76=>351 | 77=>267 | n=>n,fun | n=>n⟩
theorem Tryz.sortFile:Go.Proofs.SlLaysF0.n6 A sortFile_ren:= { lays172 with
 mixed:=by kernel_rfl
 f6:=⟨Tryz.f285.name,by decide,Tryz.lq func285 (by kernel_rfl)⟩
 f14:=⟨Tryz.f330.name,by decide,Tryz.lq func330 (by kernel_rfl)⟩
 f15:=Tryz.lq func99 (by kernel_rfl)
 f20:=⟨Tryz.f362.name,by decide,Tryz.lq func362 (by kernel_rfl)⟩
 f21:=⟨Tryz.f363.name,by decide,Tryz.lq func363 (by kernel_rfl)⟩
 f22:=⟨Tryz.f364.name,by decide,Tryz.lq func364 (by kernel_rfl)⟩
 f23:=⟨Tryz.f365.name,by decide,Tryz.lq func365 (by kernel_rfl)⟩
 f24:=⟨Tryz.f366.name,by decide,Tryz.lq func366 (by kernel_rfl)⟩
 f25:=⟨Tryz.f367.name,by decide,Tryz.lq func367 (by kernel_rfl)⟩
 f26:=⟨Tryz.f368.name,by decide,Tryz.lq func368 (by kernel_rfl)⟩
 f27:=⟨Tryz.f369.name,by decide,Tryz.lq func369 (by kernel_rfl)⟩
 f28:=Tryz.lq func181 (by kernel_rfl)
 f29:=Tryz.lq func182 (by kernel_rfl)
 f46:=⟨Tryz.f382.name,by decide,Tryz.lq func382 (by kernel_rfl)⟩
 f47:=Tryz.lq func264 (by kernel_rfl)
 f48:=Tryz.lq func265 (by kernel_rfl)
 f49:=⟨Tryz.f383.name,by decide,Tryz.lq func383 (by kernel_rfl)⟩
 f50:=⟨Tryz.f384.name,by decide,Tryz.lq func384 (by kernel_rfl)⟩
 f57:=⟨Tryz.f389.name,by decide,Tryz.lq func389 (by kernel_rfl)⟩
 t22:=Q1
 a22:=isAgg38
 z22:=sizeOf38
 v22:=zeroValue38
 t25:=underlying316
 a25:=isAgg316
 z25:=sizeOf316
 v25:=zeroValue316
 t39:=underlying159
 a39:=isAgg159
 z39:=sizeOf159
 v39:=zeroValue159
 t45:=underlying234
 a45:=isAgg234
 z45:=sizeOf234
 v45:=zeroValue234
 t46:=underlying235
 a46:=isAgg235
 z46:=sizeOf235
 v46:=zeroValue235
 t50:=underlying90
 a50:=isAgg90
 z50:=sizeOf90
 v50:=zeroValue90
 t53:=underlying229
 a53:=isAgg229
 z53:=sizeOf229
 v53:=zeroValue229
 t55:=underlying242
 a55:=isAgg242
 z55:=sizeOf242
 v55:=zeroValue242
 t66:=underlying299
 a66:=isAgg299
 z66:=sizeOf299
 v66:=zeroValue299
 t70:=underlying303
 a70:=isAgg303
 z70:=sizeOf303
 v70:=zeroValue303
 t76:=underlying351
 a76:=isAgg351
 z76:=sizeOf351
 v76:=zeroValue351
 t77:=underlying267
 a77:=isAgg267
 z77:=sizeOf267
 v77:=zeroValue267 }
end Go.Proofs
namespace Go.Proofs.YtcllhobffhkafaaGreatDoor
open Go.RowKit Go.Extern.Stop Go.Stop Go.Extern Go.Sort Go.Shelf Go.Lib
abbrev DF (zs:List Fl):= {f:Fl // f∈zs}
def G6 {zs:List Fl} (x:DF zs):List Qb:=Bl x.1
def EG {zs:List Fl} (x y:DF zs):Int:=Qn (fk x.1) (fk y.1)
theorem Jt {zs:List Fl} (x y:DF zs):Qc EG x y=decide (fk x.1<fk y.1):=by
 unfold Qc EG;rw[decide_eq_decide];exact jU _ _
theorem rD (zs:List Fl):SWO (Qc (EG (zs:=zs))) where
 irrefl x:=by rw[Jt];simp
 trans x y z h1 h2:=by
  rw[Jt,decide_eq_true_eq]at *;omega
 ntrans x y z h1 h2:=by
  rw[Jt,decide_eq_false_iff_not]at *;omega
theorem rF {zs:List Fl} (m:zs.Pairwise fun f g=>fk f≠fk g) (x y:DF zs) (n:Qc EG x y=Qg) (o:Qc EG y x=Qg):x=y:=by
 rw[Jt,decide_eq_false_iff_not]at n o;have e:fk x.1=fk y.1:=by omega
 obtain⟨i,k,b⟩:=Q2.1 x.2;obtain⟨j,l,c⟩:=Q2.1 y.2;have d:i=j:=by
  rcases Nat.lt_trichotomy i j with h | h | h
  ·exact absurd (by rw[b,c];exact e) (Q3.1 m i j k l h)
  ·exact h
  ·exact absurd (by rw[b,c];exact e.symm) (Q3.1 m j i l k h)
 subst d;exact Subtype.ext (b.symm.trans c)
theorem rG {zs:List Fl} (x:DF zs):(G6 x).length=6:=rfl
theorem rH {zs:List Fl} (x:DF zs):∀u∈G6 x,u.oneCell'=Qd:=Hu x.1
theorem Vg {zs:List Fl} [Inhabited (DF zs)] (ds:List (DF zs)):flatK G6 6 ds.toArray=(Aw (ds.map (·.1))).toArray:=by
 refine ext_get! (by simp[Et]) fun t ht=>?_;simp only[size_flatK,Q4]at ht;rw[get_flatK _ _ _ _ (by simpa using ht)];have b:t / 6<ds.length:=by omega
 have c:t / 6<(ds.map (·.1)).length:=by simpa using b
 have:=K5 (ds.map (·.1)) (t / 6) (t % 6) c (by omega);rw[show t / 6*6+t % 6=t by omega]at this;simp only[List.getElem!_toArray,List.getElem!_eq_getElem?_getD,this];rw[Qo b];simp only[List.getElem_map,Option.getD_some];rfl
theorem rI {zs:List Fl} [Inhabited (DF zs)] {w:H} {base:Nat} {v:Qb} {n:Nat} {ds:List (DF zs)} (h:w.ownsRow base 77 6 v n (Aw (ds.map (·.1)))) (r:v≠ Qa I 0 0) :
  ∃g cap,v=Qa (S ⟨g,0,I⟩) ds.length cap/\ds.length<=cap/\base<=g/\g<w.heap.size/\HoldsK G6 6 w g 0 ds.toArray:=by
 obtain⟨m,h⟩:=h;have l:n=ds.length:=by rw[Et,Qp]at m;omega
 subst l;rcases h with⟨e,_⟩|⟨g,cap,i,rfl,p,c,k,_,_,q⟩
 ·exact absurd e r
 ·refine⟨g,cap,rfl,k,p,lt_of_block c,?_⟩;unfold HoldsK;rw[Vg];intro j o;have b:j<ds.length*6:=by simpa [Et] using o
  refine⟨?_,by simp[World.frozen?,c]⟩;have d:(i.toList.take (ds.length*6))[j]? =(Aw (ds.map (·.1)))[j]? :=by rw[q]
  rw[List.getElem?_take,if_pos b,Array.getElem?_toList]at d;simp only[World.cell?,c,Nat.zero_add];rw[d];have f:j<(Aw (ds.map (·.1))).length:=by rw[Et,Qp];exact b
  simp[Qo f]
theorem rJ {zs:List Fl} [Inhabited (DF zs)] {w:H} {g:Nat} {ds:List (DF zs)} (h:HoldsK G6 6 w g 0 ds.toArray):Fi w g 0 (ds.map (·.1)):=by
 refine SK fun t u hu=>?_;have b:t<(Aw (ds.map (·.1))).length:=by
  rcases Nat.lt_or_ge t (Aw (ds.map (·.1))).length with c | c
  ·exact c
  ·rw[List.getElem?_eq_none c]at hu;cases hu
 unfold HoldsK at h;rw[Vg]at h;have:=(h t (by simpa using b)).1;rw[this];rw[Qo b]at hu;simpa [Qo b] using hu
theorem rK {zs:List Fl} {ds:List (DF zs)} (m:(ds.map (·.1)).Pairwise fun f g=>fk f≠fk g):Eu ((ds.mergeSort fun x y=> !(Qc EG) y x).map (·.1))/\((ds.mergeSort fun x y=> !(Qc EG) y x).map (·.1)).Perm (ds.map (·.1)):=by
 have k:(ds.mergeSort fun x y=> !(Qc EG) y x).Perm ds:=Q5 _ _;have l:=List.pairwise_mergeSort (le:=fun x y:DF zs=> !(Qc EG) y x) (fun a b c h1 h2=>by
  simp only[Jt,Qs,decide_eq_false_iff_not]at *;omega) (fun a b=>by
  simp only[Jt,Bool.or_eq_true,Qs,decide_eq_false_iff_not];omega) ds
 have d:=k.map (·.1);refine⟨?_,d⟩;have i:((ds.mergeSort fun x y=> !(Qc EG) y x).map (·.1)).Pairwise fun f g=>fk f≠fk g:=(d.pairwise_iff (fun {a b} h=>fun e=>h e.symm)).2 m;have j:((ds.mergeSort fun x y=> !(Qc EG) y x).map (·.1)).Pairwise fun f g=> ¬fk g<fk f:=List.pairwise_map.2 (l.imp fun {a b} h=>by
  simpa only[Jt,Qs,decide_eq_false_iff_not] using h)
 exact(j.and i).imp fun {a b} h=>by
  omega
theorem rL {zs:List Fl} [Inhabited (DF zs)] {w0 w:H} {a:Nat->Qe} (h:CT w0 a) (d:BL w0 w) {g:Nat} (f:w0.heap.size<=g) (m:Nat) (os:Array Obj) (c:Array (DF zs)):CT (sortWorldK G6 6 w g 0 m c os) a:=by
 have b:BL w0 (putRowK G6 6 (Sort.ahead w m) g 0 c):=Q6 d f;exact h.below (b.trans ((Hg os).mono b.size))
theorem Vh (zs:List Fl) (t:DF zs) (q:∀f∈zs,A7 f.1.data.toList≠I) (u:zs.Pairwise fun f g=>fk f≠fk g) (ds:List (DF zs)) (z:(ds.map (·.1)).Pairwise fun f g=>fk f≠fk g) (v:Qb) (w0 w:H) (a:Nat->Qe) (B:CT w0 a) (r:BL w0 w)
  (h:w.ownsRow w0.heap.size 77 6 v ds.length (Aw (ds.map (·.1)))) (C:v≠ Qa I 0 0) (D:ds.length<=20000) :
  Calls A 285 #[v,.func (.func 286) #[] #[]] w fun e w'=>e=V (Qm #[])/\∃ys,ys.Perm (ds.map (·.1))/\Eu ys/\Ai w' v ys/\BL w0 w':=by
 letI:Inhabited (DF zs):=⟨t⟩
 obtain⟨g,d,rfl,o,i,j,p⟩:=rI h C;have s:=Qh func286 (by kernel_rfl) rfl;have k:CmpLays A 286 #[] (G6 (zs:=zs)) 6 EG g 0 ds.toArray.size w:=fun m os dk _ x y=>(rC x.1 y.1 _ a (rL B r i m os dk) (q x.1 x.2) (q y.1 y.2)).mono fun e w' ⟨he,hg⟩=>⟨he,hg.form⟩;have b:=AnyQ.slices_SortFunc_total sortFile 6 isAgg77 sizeOf77 G6 rG rH EG (rD zs) 286 #[] g 0 d ds.toArray w s k p j (by simp;omega) (rF u);change Calls A 285 _ _ _ at b;rw[Q4]at b;obtain⟨u1,u2⟩:=rK z;have c:(ds.mergeSort fun x y=> !(Qc EG) y x).length=ds.length:=(Q5 _ _).length_eq;refine b.mono fun e w' ⟨he,n,os,hw⟩=>⟨he,_,u2,u1,?_,?_⟩
 ·subst hw;refine Or.inr ⟨g,0,d,by rw[Qp,c],by rw[Qp,c];exact o,rJ ?_⟩;exact holdsK_sortWorldK G6 6 w g 0 n ds.toArray _ os j p (by simp[c])
 ·subst hw;have l:BL w0 (putRowK G6 6 (Sort.ahead w n) g 0 (ds.toArray.toList.mergeSort fun x y=> !(Qc EG) y x).toArray):=Q6 r i;exact l.trans ((Hg os).mono l.size)
theorem rM (v:Qb) (xs:List Fl) (w0 w:H) (a:Nat->Qe) (j:CT w0 a) (i:BL w0 w) (h:w.ownsRow w0.heap.size 77 6 v xs.length (Aw xs)) (p:xs.length<=20000)
  (q:∀f∈xs,A7 f.1.data.toList≠I) (k:xs.Pairwise fun f g=>fk f≠fk g) :
  Calls A 285 #[v,.func (.func 286) #[] #[]] w fun e w'=>e=V (Qm #[])/\∃ys,ys.Perm xs/\Eu ys/\Ai w' v ys/\BL w0 w':=by
 by_cases c:v=Qa I 0 0
 ·subst c;have l:xs= []:=by
   rcases h.2 with⟨_,d⟩|⟨g,s,t,e,_⟩
   ·exact List.length_eq_zero_iff.1 d
   ·cases e
  subst l;have b:=AnyF.slices_SortFunc_none sortFile I 0 (.func (.func 286) #[] #[]) w;change Calls A 285 _ _ _ at b;refine b.mono fun e w' ⟨he,hw⟩=>⟨he, [],List.Perm.refl _,List.Pairwise.nil,Or.inl ⟨I,0,rfl,fun _=>rfl,rfl⟩,?_⟩;subst hw;exact i
 ·cases xs with
  | nil =>
   have m:A7 (⟨#[100,97,116,97,47,49]⟩:ByteArray).data.toList≠I:=by
    have d:As [49]=S 1:=by
     have n:Qj 1= [49]:=by
      have h:decDigits 1= [49]:=by rw[decDigits,dif_pos (by decide)];rfl
      simp[Qj,h]
     rw[<-n];exact F9 1 (by decide)
    have o:Ek [49]=S 1:=by unfold Ek;rw[d];rfl
    have h:=LM Qg [49];rw[o]at h;have e:(⟨#[100,97,116,97,47,49]⟩:ByteArray).data.toList=AE Qg++47 :: [49]:=rfl;rw[e,h];simp
   exact Vh [(⟨#[100,97,116,97,47,49]⟩,⟨#[]⟩,0,0,0,0)] ⟨_,Qt.2 rfl⟩ (fun f hf=>by rw[Qt]at hf;subst hf;exact m) (by simp) [] (by simp) v w0 w a j i h c (by simp)
  | cons x r =>
   have e:((x :: r).attach).map (·.1)=x :: r:=List.attach_map_subtype_val _;have b:=Vh (x :: r) ⟨x,List.mem_cons_self⟩ q k (x :: r).attach (by rw[e];exact k) v w0 w a j i (by rw[e,Q7];exact h) c (by rw[Q7];exact p);rw[e]at b;exact b
theorem Vi (T:Ql) (b:Nat) (g i d:Qb) (s:Sn) (rs:List ByteArray) (w:H) (j:Cz T w b s g i d) (k:∃q c,d=Qa q rs.length c) :
  Calls A 282 #[G (S ⟨b,0,I⟩)] w fun e w'=>e=V (Qf (decide (0<rs.length)))/\w'=w:=by
 obtain⟨q,c,rfl⟩:=k;have l:=j.cells.2.2.2;have f:decide (((rs.length:Nat):Int) > 0)=decide (0<rs.length):=by rw[decide_eq_decide];omega
 go_enter func282,ntmps282
 go_wp2;go_ret;exact⟨by rw[<-f];simp,rfl⟩
theorem rN (B l:Nat) (u m v:Qb) (t:Tx) (w:H) (a:Nat->Qe) (h:CT w a) (b:C8 312 B w l u m v t) (j:∀f∈t.2.1,At f=0) (z:t.2.1.length<=1000) :
  Calls A 198 #[G (S ⟨l,0,I⟩)] w fun e w'=>e=V (Z (Is t))/\BL w w':=by
 have y:=Qh func139 (by kernel_rfl) rfl;have g:=Vi 312 l u m v t.1 t.2.2 w b.cells (CY b.rems);have c:=Ov 139 #[] (fun f=>decide (f.2.1.data.toList= [45])) m t.2.1 w (Gt b.adds).1 (by omega) y (fun f hf W hW=>by
  have C:=SU (j f hf);have n:=Iz f W a (h.below hW) (by omega);rw[Mw (j f hf)]at n;exact n)
 have o:(t.2.1.any fun f=>decide (f.2.1.data.toList= [45]))=Od t:=rfl;rw[o]at c;have D:=b.cells.cells.2.2.1;obtain⟨E,F,p⟩:=CY b.adds;unfold Is;generalize Od t=r at c ⊢;generalize t.2.2.length=s at g ⊢;subst p;obtain⟨R,q⟩:∃R,(if 0<s then Ab IP else if r=Qd then Ab Oi0 else Ab IM)=R:=⟨_,rfl⟩;rw[q];have k:Hid _:=q
 go_enter func198,ntmps198
 go_wp2_with fail
 refine g.mono ?_;rintro e K ⟨rfl,rfl⟩;by_cases d:0<s
 ·rw[decide_eq_true d];go_wp2;go_ret;exact⟨by rw[<-k.out,if_pos d];rfl,Qi _ _⟩
 ·rw[decide_eq_false d]
  go_wp2_with fail
  refine c.mono ?_;rintro e L ⟨rfl,i⟩
  cases r with
  | true =>
   go_wp2;go_ret;exact⟨by rw[<-k.out,if_neg d];rfl,i⟩
  | false =>
   go_wp2;go_ret;exact⟨by rw[<-k.out,if_neg d];rfl,i⟩
theorem rO (B p:Nat) (C D E:Qb) (t:Tx) (i:Sn) (f:Fl) (w:H) (a:Nat->Qe) (h:CT w a) (j:C8 312 B w p C D E t) (n:At f=0) :
  Calls A 284 #[G (S ⟨p,0,I⟩),A1 f,O U (i.2.2.1+1)] w fun e w'=>e=V (O U (Jd t i f))/\BL w w':=by
 have d:BL w (w.alloc (J #[Z f.1,Z f.2.1,O U f.2.2.1,O U f.2.2.2.1,O U f.2.2.2.2.1,O U f.2.2.2.2.2] 77)):=Af _ _;have q:=Az.new w f;have b:=Vi 312 p C D E t.1 t.2.2 (w.alloc (J #[Z f.1,Z f.2.1,O U f.2.2.1,O U f.2.2.2.1,O U f.2.2.2.2.1,O U f.2.2.2.2.2] 77)) (j.below d).cells (CY j.rems);have N:=SU n;have c:=Iz f (w.alloc (J #[Z f.1,Z f.2.1,O U f.2.2.1,O U f.2.2.2.1,O U f.2.2.2.2.1,O U f.2.2.2.2.2] 77)) a (h.below d) (by omega);rw[Mw n]at c;have r:Hid _:=fun W (hb:BL w W)=>(j.below hb).cells;unfold Jd;unfold A1 at c ⊢;generalize i.2.2.1+1=K;generalize t.2.2.length=z at b ⊢;obtain⟨Q,s,T,L,M,F⟩:=f;obtain⟨X,Y,r2,r3,r4,r5,-⟩:=q.cells;obtain⟨R,u⟩:∃R,(if 0<z/\s.data.toList≠ [45] then t.1.2.2.1 else K)=R:=⟨_,rfl⟩;rw[u];have o:Hid _:=u
 go_enter func284,ntmps284
 go_upto_region 1 with fail
 by_cases k:0<z
 ·rw[decide_eq_true k]at b;by_cases l:s.data.toList= [45]
  ·rw[decide_eq_true l]at c
   go_wp2_with (first
    | (go_at_call 282;with_reducible refine b.mono ?_;rintro e v ⟨rfl,rfl⟩)
    | (go_at_call 139;with_reducible refine c.mono ?_;rintro e y ⟨rfl,g⟩))
   go_ret;exact⟨by rw[<-o.out,if_neg (fun e=>e.2 l)];rfl,(Ad d g)⟩
  ·rw[decide_eq_false l]at c
   go_upto_region 2 with(first
    | (go_at_call 282;with_reducible refine b.mono ?_;rintro e v ⟨rfl,rfl⟩)
    | (go_at_call 139;with_reducible refine c.mono ?_;rintro e y ⟨rfl,g⟩))
   have m:=Ad d g;have P:=(r.out y m).cells.1;go_wp2;go_ret;exact⟨by rw[<-o.out,if_pos ⟨k,l⟩];rfl,m⟩
 ·rw[decide_eq_false k]at b
  go_wp2_with (go_at_call 282;with_reducible refine b.mono ?_;rintro e v ⟨rfl,rfl⟩)
  go_ret;exact⟨by rw[<-o.out,if_neg (fun e=>k e.1)];rfl,d⟩
theorem rP (B i m:Nat) (E F r:Qb) (t:Tx) (f:Fl) (w:H) (d:C8 312 B w i E F r t) (M:t.2.2.length<=1000) (s:w.cell? ⟨m,0,I⟩=S (G (S ⟨i,0,I⟩))) :
  Calls A 283 #[A1 f,G (S ⟨m,0,I⟩)] w fun e w'=>e=V (Qf (BI t.2.2 f.1))/\BL w w':=by
 have b:BL w (w.alloc (J #[Z f.1,Z f.2.1,O U f.2.2.1,O U f.2.2.2.1,O U f.2.2.2.2.1,O U f.2.2.2.2.2] 77)):=Af _ _;have N:=(Az.new w f).cells.1;have n:=fun W (hb:BL w W)=>(Ow r t.2.2 f.1 W ((Iw d.rems).below hb) (by omega)).mono (R':=fun e w'=>e=V (Qf (BI t.2.2 f.1))/\BL W w') fun e w' ⟨he,hw⟩=>⟨he,by subst hw;exact Qi _ _⟩;have P:=(d.below b).cells.cells.2.2.2;have K:=Aa b s;obtain⟨u,v,j⟩:=CY d.rems;generalize t.2.2.length=D at j;subst j;unfold A1;obtain⟨o,y,z,p,q,l⟩:=f
 go_enter func283,ntmps283
 go_upto_region 1 with fail
 generalize w.alloc (J #[Z o,Z y,O U z,O U p,O U q,O U l] 77)=g at *;have L:BL g g:=Qi _ _
 go_region_held3 (fun w'=>w'.cell? ⟨m,0,I⟩=S (G (S ⟨i,0,I⟩))/\w'.cell? ⟨i,8,I⟩=S (Qa u D v)/\w'.cell? ⟨w.heap.size,0,I⟩=S (Z o)/\BL g w')
  (first
   | (go_split_ands;with_reducible exact⟨Aa c (by assumption),Aa c (by assumption),Aa c (by assumption),Q8 (by assumption) (c.mono (Q9 (by assumption)))⟩)
   | (go_split_ands;exact⟨by go_keep,by go_keep,by go_keep,by assumption⟩)
   | (go_split_ands;exact⟨by go_keep,by go_keep,by go_keep,QA (by assumption)⟩))
  (first
   | (go_at_call 234;with_reducible refine(n _ (by go_split_ands;exact b.trans (Below.mono (by assumption) b.size))).mono ?_;rintro e C ⟨rfl,c⟩))
 go_split_ands;have k:BL g C:=by assumption
 go_wp2;go_ret;exact⟨rfl,(Ad b k)⟩
theorem Az.toSeq {W:H} {b:Nat} {p q:ByteArray} {n lo hi s x:Int} (h:Az W b (p,q,n,lo,hi,s)):Az (W.setCell ⟨b,5,I⟩ (O U x)) b (p,q,n,lo,hi,x):=by
 unfold Az at *;rw[heap_setCell_same _ _ _ _ _ _ h];rfl
theorem rQ {T:Ql} {B:Nat} {d W g:H} {i:Nat} {r j s:Qb} {t:Tx} {l:Nat->Prop} (D:T≠77) (E:T≠9) (F:C8 T B d i r j s t) (K:∀k,EA i j s k->l k) (o:∀k,r.ownBlock=S k->(l k\/k<B)/\k<d.heap.size) (L:∀k,l k->B<=k/\k<d.heap.size) (hB:B<=d.heap.size)
  (m:BL d g) (f:Fl) (M:g=W.alloc (J #[Z f.1,Z f.2.1,O U f.2.2.1,O U f.2.2.2.1,O U f.2.2.2.2.1,O U f.2.2.2.2.2] 77)) (aa:t.2.1.length<=1000) :
  ∃va' W2,(Builtin.append_ #[38,38] 38 #[j,Qa (S ⟨W.heap.size,0,I⟩) 1 1]).run A g= .ok va' W2/\(∃q n c,va'=Qa q n c)/\Cz T W2 i t.1 r j s/\H1 T B d (G (S ⟨i,0,I⟩)) l (t.1,t.2.1++ [f],t.2.2) (W2.setCell ⟨i,7,I⟩ va'):=by
 obtain⟨N,Q,R,X,y⟩:=Tryz.fileInfo;have b:=F.below m;have u:B<=g.heap.size:=Qr hB m.size;have p:CU g (S ⟨W.heap.size,0,I⟩) 1 1 (Bl f):=by
  rw[M];exact Iq W (Bl f) 77 1 1
 obtain⟨va',W2,Y,z,C,hv⟩:=FO (P:=A) g B 38 38 77 N (.agg #[Z ⟨#[]⟩,Z ⟨#[]⟩,O U 0,O U 0,O U 0,O U 0]) 6 64 Q1 Q R X y rfl (by decide) j t.2.1.length (Aw t.2.1) b.adds (S ⟨W.heap.size,0,I⟩) 1 1 (Bl f) rfl p (Hu f) (by unfold maxLen;omega) (by omega) u;have v:W2.ownsRow B 77 6 va' (t.2.1++ [f]).length (Aw (t.2.1++ [f])):=by
  rw[QB,Hv];simpa [Aw] using z
 obtain⟨a1,a2,a3⟩:=b.added D E v C hv (fun k hk=>QC (o k hk).2 m.size);refine⟨va',W2,Y,?_,b.cells.but (Ac.grown C) (b.apart D E).1,TM K o L m a1 a2 a3⟩;obtain⟨q,c,e⟩:=CY z;exact⟨q,_,c,e⟩
theorem rR {T:Ql} {B:Nat} {d W f:H} {g:Nat} {r s i:Qb} {t:Tx} {j:Nat->Prop} (F:T≠77) (K:T≠9) (L:C8 T B d g r s i t) (M:∀k,EA g s i k->j k) (m:∀k,r.ownBlock=S k->(j k\/k<B)/\k<d.heap.size) (N:∀k,j k->B<=k/\k<d.heap.size) (hB:B<=d.heap.size)
  (l:BL d f) (p:ByteArray) (Q:f=W.alloc (J #[Z p] 9)) (aa:t.2.2.length<=1000) :
  ∃vr' W2,(Builtin.append_ #[82,82] 82 #[i,Qa (S ⟨W.heap.size,0,I⟩) 1 1]).run A f= .ok vr' W2/\(∃q n c,vr'=Qa q n c)/\Cz T W2 g t.1 r s i/\H1 T B d (G (S ⟨g,0,I⟩)) j (t.1,t.2.1,t.2.2++ [p]) (W2.setCell ⟨g,8,I⟩ vr'):=by
 obtain⟨R,X,Y,hs,z⟩:=Tryz.strInfo;have b:=L.below l;have v:B<=f.heap.size:=Qr hB l.size;have o:CU f (S ⟨W.heap.size,0,I⟩) 1 1 [Z p]:=by
  rw[Q];exact Iq W [Z p] 9 1 1
 obtain⟨vr',W2,hr,C,D,hv⟩:=FO (P:=A) f B 82 82 9 R (Z ⟨#[]⟩) 1 16 underlying82 X Y hs z rfl (by decide) i t.2.2.length (t.2.2.map Z) b.rems (S ⟨W.heap.size,0,I⟩) 1 1 [Z p] rfl o (by intro u E;rw[Qt]at E;subst E;rfl) (by unfold maxLen;omega) (by omega) v;have y:W2.ownsRow B 9 1 vr' (t.2.2++ [p]).length ((t.2.2++ [p]).map Z):=by
  rw[QB,List.map_append];simpa using C
 obtain⟨a1,a2,a3⟩:=b.removed F K y D hv (fun k hk=>QC (m k hk).2 l.size);refine⟨vr',W2,hr,?_,b.cells.but (Ac.grown D) (b.apart F K).2.1,TM M m N l a1 a2 a3⟩;obtain⟨q,c,e⟩:=CY C;exact⟨q,_,c,e⟩
theorem rS (B:Nat) (v:Qb) (FP:Nat->Prop) (t:Tx) (f:Fl) (w:H) (a:Nat->Qe) (h:G0 w a) (ht:CJ 312 B w v FP t) (hB:B<=w.heap.size) (ak:t.2.1.length<=1000) (h1:f.1.size<=100000) (h2:f.2.1.size<=100000) :
  Calls A 196 #[v,A1 f] w fun e w'=>e=V (Ae a (Fk t f))/\H1 312 B w v FP (GS t f) w':=by
 have u:Hid _:=fun w' (hb:BL w w')=>TN ht hb;obtain⟨E,vb,va,vr,rfl,C,aq,ar,au⟩:=ht;have al:BL w (w.alloc (J #[Z f.1,Z f.2.1,O U f.2.2.1,O U f.2.2.2.1,O U f.2.2.2.2.1,O U f.2.2.2.2.2] 77)):=Af _ _;have F:=Az.new w f;have y:=fun W (hb:BL w W)=>Me (Bn f 1) W a (h.list.file.below hb) h1 h2;have aa:=fun W (hb:BL w W)=>JT va t.2.1 f.1 W ((Gt C.adds).1.below hb) (by omega);have K:Hid (∀(W W9:H),BL w W9->W9=W.alloc (J #[Z (Bn f 1).1,Z (Bn f 1).2.1,O U (Bn f 1).2.2.1,O U (Bn f 1).2.2.2.1,O U (Bn f 1).2.2.2.2.1,O U (Bn f 1).2.2.2.2.2] 77)->∃D P,(Builtin.append_ #[38,38] 38 #[va,Qa (S ⟨W.heap.size,0,I⟩) 1 1]).run A W9= .ok D P/\(∃q n c,D=Qa q n c)/\Cz 312 P E t.1 vb va vr/\H1 312 B w (G (S ⟨E,0,I⟩)) FP (t.1,t.2.1++ [Bn f 1],t.2.2) (P.setCell ⟨E,7,I⟩ D)) :=
  fun W W9 hW9 e=>rQ (by decide) (by decide) C aq ar au hB hW9 (Bn f 1) e ak
 have ab:Hid _:=fun W (hb:BL w W)=>(C.below hb).cells;obtain⟨qa,ca,af⟩:=CY C.adds;have ah:Hid _:=fun W (hb:BL w W)=>h.below hb;have z:Hid (decide (0<=Df t.2.1 f.1)=BR t.2.1 f.1):=Oc _ _;have j:Hid (Fk t f=if At (Bn f 1)≠0 then At (Bn f 1) else if BR t.2.1 f.1=Qd then 7 else 0):=rfl;have k:Hid (GS t f=if Fk t f=0 then (t.1,t.2.1++ [Bn f 1],t.2.2) else t):=rfl;generalize GS t f=TA at k ⊢;generalize Fk t f=TE at j k ⊢;unfold A1 at y ⊢;unfold Bn at y K j k;obtain⟨i,r,s,d,g,N⟩:=f;generalize ay:At (i,r,s,d,g,1)=FE at y j;generalize az:Df t.2.1 i=FI at aa z;generalize a0:BR t.2.1 i=HP at z j;generalize t.2.1.length=LA at af;subst af
 go_enter func196,ntmps196
 have fz:=(F.cells).2.2.2.2.2.2;have q5:=(F.cells).2.2.2.2.2.1;have ac:=F.toSeq (x:=1);have ad:BL w ((w.alloc (J #[Z i,Z r,O U s,O U d,O U g,O U N] 77)).setCell ⟨w.heap.size,5,I⟩ (O U 1)):=al.setCell (Qw _) _
 go_upto_region 3 with fail
 generalize w.alloc (J #[Z i,Z r,O U s,O U d,O U g,O U N] 77)=WA at *
 go_upto_region 4 with fail
 generalize WA.setCell ⟨w.heap.size,5,I⟩ (O U 1)=W1 at *;have ai:=y W1 ad;obtain⟨r0,r1,r2,r3,r4,r5,-⟩:=ac.cells
 go_wp2_with fail
 refine ai.mono ?_;rintro e R ⟨rfl,ag⟩;have m:=Ad ad ag;have ae:=ac.below ag;by_cases hE:FE=0
 case neg =>
  have b:Hid (TE=FE):=by show _=_;rw[j.out,if_pos hE]
  obtain⟨n,rfl⟩:∃n,FE=n+1:=⟨FE-1,by omega⟩;have o:Hid (TA=t):=by show _=_;rw[k.out,b.out,if_neg (by omega)]
  simp only[Ae];go_wp2;go_ret;refine⟨by rw[b.out];rfl,?_⟩;rw[o.out];exact u.out _ m
 case pos =>
 subst hE;have L:Hid (TE=if HP=Qd then 7 else 0):=by show _=_;rw[j.out,if_neg (by simp)]
 simp only[Ae];have av:=(ab.out R m).cells.2.2.1;have r0:=ae.cells.1;have aw:BL R R:=Qi _ _
 go_upto_region 7 with fail
 go_region_held3 (fun w'=>w'.cell? ⟨E,7,I⟩=S (Qa qa LA ca)/\w'.cell? ⟨w.heap.size,0,I⟩=S (Z i)/\BL R w')
  (first
   | (go_split_ands;with_reducible exact⟨Aa T (by assumption),Aa T (by assumption),Q8 (by assumption) (T.mono (Q9 (by assumption)))⟩)
   | (go_split_ands;exact⟨by go_keep,by go_keep,by assumption⟩)
   | (go_split_ands;exact⟨by go_keep,by go_keep,QA (by assumption)⟩))
  (first
   | (go_at_call 83;with_reducible refine(aa _ (by go_split_ands;exact m.trans (Below.mono (by assumption) m.size))).mono ?_;rintro e l ⟨rfl,T⟩))
 go_split_ands;have M:BL R l:=by assumption
 have p:=Ad m M;have am:=ae.below M
 cases HP with
 | true =>
  have b:Hid (TE=7):=by show _=_;rw[L.out,if_pos rfl]
  have o:Hid (TA=t):=by show _=_;rw[k.out,b.out,if_neg (by omega)]
  have an:=of_decide_eq_true z.out;have et:=(ah.out l p).list.exist;go_wp2;go_ret;refine⟨by rw[b.out];rfl,?_⟩;rw[o.out];exact u.out _ p
 | false =>
  have b:Hid (TE=0):=by show _=_;rw[L.out,if_neg (by simp)]
  have o:Hid (TA=(t.1,t.2.1++ [(i,r,s,d,g,1)],t.2.2)):=by show _=_;rw[k.out,b.out,if_pos rfl]
  have an:¬(0:Int)<=FI:=of_decide_eq_false z.out
  go_upto_region 9 with fail
  obtain⟨D,P,hr,⟨q',n',c',rfl⟩,Q,Y⟩:=K.out l.drew (l.drew.alloc (J #[Z i,Z r,O U s,O U d,O U g,O U 1] 77)) (p.drew.alloc p.drew.size _) rfl;have X:Hid (H1 312 B w (G (S ⟨E,0,I⟩)) FP (t.1,t.2.1++ [(i,r,s,d,g,1)],t.2.2) (P.setCell ⟨E,7,I⟩ (Qa q' n' c'))):=Y;have ax:BL l l.drew:=(Qi _ _).drew;have ao:BL l (l.alloc (J #[Z i,Z r,O U s,O U d,O U g,O U 1] 77)):=Af _ _;have ap:=hr;have aj:=(ab.out l p).cells.2.2.1;have k2:=Aa ao aj;obtain⟨r0,r1,r2,r3,r4,r5,-⟩:=am.cells;have y0:=Q.cells.2.2.1;have y1:=Q.fz
  go_region_law (refine Oz (by rfl) _ _ _ (by rfl) _ _ _ (by rfl) (by rfl) ap ?_)
  all_goals go_wp2
  all_goals go_ret
  all_goals
   refine⟨by rw[b.out];rfl,?_⟩;rw[o.out];exact X.out
end Go.Proofs.YtcllhobffhkafaaGreatDoor
