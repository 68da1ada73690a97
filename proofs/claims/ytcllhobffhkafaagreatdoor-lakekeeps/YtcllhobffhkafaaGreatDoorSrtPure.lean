/- By an AI agent. -/
import Derived.Test.YtcllhobffhkafaaGreatDoorRowMem
import Derived.Test.YtcllhobffhkafaaGreatDoorTextPure
import Derived.Shelf.SlSortCmp.QuietGrown
import Derived.Lib.AtoiErrMem
import Derived.Lib.LaidTab
import Derived.Laws.Rows
import Derived.Deep.OwnRows
import Derived.OneCell
import Derived.BigRegion
import Derived.Shelf.GgSortFunc.RowK
import Derived.Shelf.SlSortCmp.NoneTotal
import Derived.Ground.SlsfProg
import Derived.Lib.OwnBridge
import Derived.Shelf.Abstract
set_option maxRecDepth 100000
set_option maxHeartbeats 16000000
open Go.Proofs.Tryz
open Array renaming getElem?_eq_none->Q9,getElem?_setIfInBounds->Xe,ext_getElem?->Xx,getElem?_modify->Xy
open Bool renaming true->V,false->Qb,and_eq_true->Q8,false_eq_true->Xb,true_and->Xv,not_eq_true'->XY
open ByteArray renaming size->QD,data_append->Ya
open Go renaming World->S,Value->Qa,maxLen->Qf,Addr->Qi,madeCells->QA,bodyPost_ret->QN,results->QO,wpList_append_own->QR,wp_loop_rounds->QT,rounds_succ->QU,cell_grown->Xc,cell_of_row->Xg,Ending->Xh,heap_alloc_new->X0
open Go.ByteArray renaming toList_eq->QK
open Go.Ending renaming returned->G
open Go.IntKind renaming i64->O
open Go.Lib renaming itoa->Qo,TabIs->Qx,compareBytes->Q0,bytesWorld_below->Q2,allEq->QC,pow10Tab->QF,countB->Xf,below_putRow->XW
open Go.Obj renaming cells->Qc
open Go.Op renaming bytesLess->Q5
open Go.Proofs renaming ltOf->Qr,intOf->Qs
open Go.Proofs.Tryz renaming prog->H,func329->Q6,ntmps329->Q7,underlying35->QB,func105->QG,ntmps105->QH,func129->QI,ntmps129->QJ,results354->QP,func159->QV,func115->QX,ntmps115->QY,func276->QZ,ntmps276->Xa,sizeOf62->Xm,func17->Xp,ntmps17->Xq,func26->Xr,ntmps26->Xs,ntmps159->Xt,underlying32->X1,underlying159->X8,zeroValue159->X9,underlying234->XA,zeroValue234->XB,underlying235->XC,zeroValue235->XD,underlying90->XE,zeroValue90->XF,underlying229->XG,zeroValue229->XH,underlying242->XI,zeroValue242->XJ,underlying299->XK,zeroValue299->XL,underlying303->XM,zeroValue303->XN,underlying351->XO,zeroValue351->XP,underlying267->XQ,zeroValue267->XR
open Go.RowKit renaming Hid->A
open Go.RowKit.Below renaming refl->Qh
open Go.Sort renaming grow->Q1,ahead->Q4,HoldsK->QQ,putRow->QS,mapBlock->Xn
open Go.Value renaming int->U,string->J,slice->Qd,bool->Qe,agg->Qg,tuple->Qn,iface->Qp,pointer->Qq,ownBlock->Q3,nilIface->Xu
open Go.World renaming ownsRow_nil->Qz,cell?->Xd,setCell->Xw
open List renaming mem_cons->Qt,getElem?_eq_none->Qu,getElem?_eq_getElem->Qv,length_append->QM,pairwise_cons->QW,flatMap_cons->Xi,getElem?_cons_zero->Xj,length_eq_zero_iff->Xl,take_length->Xo,length_map->Xz,getElem_mem->X3,getElem?_append_left->X4,getElem?_append_right->X5,length_cons->X6,not_mem_nil->X7,getElem?_cons_succ->XS,getElem?_take->XT,size_toArray->XU,mergeSort_perm->XV,pairwise_mergeSort->XX,contains_iff_mem->XZ
open Nat renaming le_refl->Ql,lt_or_ge->Qm,le_trans->Qw,zero_add->Qy,add_assoc->Xk,not_lt_zero->X2
open Option renaming some->Z,none->I
open Option.some renaming inj->QE,injEq->QL
open Or renaming inr->Qj,inl->Qk
namespace Go.Proofs.YtcllhobffhkafaaGreatDoor
open Go.RowKit Go.Extern.Stop Go.Stop Go.Extern Go.Sort Go.Shelf Go.Lib
theorem cX (n:Int) (w:S):Calls H 329 #[.int .u8 n] w fun e w'=>e=G (Qe (C5 n))/\w'=w:=by
 by_cases f:97<=n
 ·by_cases g:n<=122
  ·have b:C5 n=V:=by simp[C5,f,g]
   rw[b]
   go_enter Q6,Q7
   go_wp2;go_ret;exact⟨rfl,rfl⟩
  ·have b:C5 n=Qb:=by simp[C5];omega
   rw[b];have c:(48:Int)<=n:=by omega
   have d:¬n<=57:=by omega
   go_enter Q6,Q7
   go_wp2;go_ret;exact⟨rfl,rfl⟩
 ·by_cases c:48<=n
  ·by_cases d:n<=57
   ·have b:C5 n=V:=by simp[C5,c,d]
    rw[b]
    go_enter Q6,Q7
    go_wp2;go_ret;exact⟨rfl,rfl⟩
   ·have b:C5 n=Qb:=by simp[C5];omega
    rw[b]
    go_enter Q6,Q7
    go_wp2;go_ret;exact⟨rfl,rfl⟩
  ·have b:C5 n=Qb:=by simp[C5];omega
   rw[b]
   go_enter Q6,Q7
   go_wp2;go_ret;exact⟨rfl,rfl⟩
theorem GS (n:Int) (w:S):Calls H 115 #[U O n] w fun e w'=>e=G (Qe (Aq n))/\w'=w:=by
 by_cases c: -1073741824<=n
 ·by_cases d:n<=1073741824
  ·have b:Aq n=V:=by simp[Aq,c,d]
   rw[b]
   go_enter QX,QY
   go_wp2;go_ret;exact⟨rfl,rfl⟩
  ·have b:Aq n=Qb:=by simp[Aq,d]
   rw[b]
   go_enter QX,QY
   go_wp2;go_ret;exact⟨rfl,rfl⟩
 ·have b:Aq n=Qb:=by simp[Aq,c]
  rw[b]
  go_enter QX,QY
  go_wp2;go_ret;exact⟨rfl,rfl⟩
theorem AC (s:ByteArray):s.data.toList.length=s.size:=by cases s;simp[QD]
theorem NK (s:ByteArray) (k:Nat) (h:k<s.size):s.data.toList[k]? =Z s[k]:=by
 cases s with | mk d=>simp [QD]at h;simp[h];rfl
theorem cY {s:ByteArray} {n:Nat} (h:∀j c,j<n->s.data.toList[j]? =Z c->C5 c.toNat=V) (d:n<s.size) (e:C5 s[n].toNat=V):∀j c,j<n+1->s.data.toList[j]? =Z c->C5 c.toNat=V:=fun j c hj hc=>by
 rcases Qm j n with b | b
 ·exact h j c b hc
 ·obtain rfl:j=n:=by omega
  rw[NK s j d]at hc;rw[<-QE hc];exact e
theorem NM (s:ByteArray) (m:Nat) (w:S) (y:s.size<=Qf) (F:m<=1000):Calls H 276 #[J s,U O m] w fun e w'=>e=G (Qe (DG m s.data.toList))/\w'=w:=by
 unfold Qf at y;have d:=AC s;by_cases B:s.size<1
 ·have b:DG m s.data.toList=Qb:=by simp only[DG,d];simp;omega
  rw[b]
  go_enter QZ,Xa
  go_wp2;go_ret;exact⟨rfl,rfl⟩
 ·by_cases C:m<s.size
  ·have b:DG m s.data.toList=Qb:=by simp only[DG,d];simp;omega
   rw[b]
   go_enter QZ,Xa
   go_wp2;go_ret;exact⟨rfl,rfl⟩
  ·generalize b:DG m s.data.toList=r;have o:A _:=b;have t:A _:=d
   go_enter QZ,Xa
   go_wp2
   go_loop [5] (fun k=> ∃n:Nat,n<=s.size/\(∀j c,j<n->s.data.toList[j]? =Z c->C5 c.toNat=V)/\k=U O n) (fun k=>s.size-(Qs k).toNat)
   case atStart=>exact ⟨0,by omega,by omega,rfl⟩
   case round =>
    obtain⟨n,E,v,rfl⟩:=hrel;have p:A _:=v;by_cases i:n<s.size
    ·have D:(n:Int)<(s.size:Int):=by omega
     have f:=cX (s[n].toNat:Int) w;cases g:C5 (s[n].toNat:Int)
     ·rw[g]at f;have b:r=Qb:=by
       rw[<-o.out];simp only[DG,Bool.and_eq_false_iff];right;rw[List.all_eq_false];exact⟨s[n],List.mem_of_getElem? (NK s n i),by rw[g];simp⟩
      subst b
      go_wp2_with (go_at_call 329;refine f.mono ?_;rintro e w' ⟨rfl,rfl⟩)
      go_ret;exact⟨rfl,rfl⟩
     ·rw[g]at f;have u:A _:=g
      go_wp2_with (go_at_call 329;refine f.mono ?_;rintro e w' ⟨rfl,rfl⟩)
      go_round
      case rel=>exact ⟨n+1,by omega,cY p.out i u.out,by go_num⟩
      case measure=>simp [Qs];omega
    ·have b:r=V:=by
      rw[<-o.out];simp only[DG,Q8,decide_eq_true_eq,List.all_eq_true];have:=t.out;refine⟨⟨by omega,by omega⟩,fun c hc=>?_⟩;obtain⟨k,l⟩:=List.mem_iff_getElem?.1 hc;have z:k<s.data.toList.length:=by
       rcases Qm k s.data.toList.length with h | h
       ·exact h
       ·rw[Qu h]at l;cases l
      exact p.out k c (by omega) l
     subst b;have q:n=s.size:=by omega
     subst q;go_wp2;go_ret;exact⟨rfl,rfl⟩
theorem cZ (s:ByteArray) (w:S) (c:s.size<=Qf):Calls H 187 #[J s] w fun e w'=>e=G (Qe (Fs s.data.toList))/\w'=w:=by
 have b:=NM s 8 w c (by omega)
 go_enter func187,ntmps187
 go_wp2_with (go_at_call 276;refine b.mono ?_;rintro e w' ⟨rfl,rfl⟩)
 go_ret;exact⟨rfl,rfl⟩
structure Bl (w:S) (a:Nat->Qi):Prop where
 text:w.cell? ⟨4,0,I⟩=Z (Qp 410 (Qq (Z (a 0))))
 bound:w.cell? ⟨1,0,I⟩=Z (Qp 410 (Qq (Z (a 1))))
 name:w.cell? ⟨10,0,I⟩=Z (Qp 410 (Qq (Z (a 4))))
 maxl:∃m,w.cell? ⟨13,0,I⟩=Z (U O m)
 syn:∃te pe,w.cell? ⟨15,0,I⟩=Z (Qp te pe)
 tab : Qx H w "internal/strconv.uint64pow10" .u64 QF
theorem Hu {w w':S} {n:String} {k:IntKind} {zs:List Int} (h:Qx H w n k zs) (f:BL w w'):Qx H w' n k zs:=by
 unfold Qx World.var? at *
 cases d:Tryz.prog.globalNamed n with
 | none=>rw [d]at h;simp at h
 | some g =>
  rw[d]at h;simp only[Option.bind_some]at h ⊢;have c:g<w.heap.size:=by
   rcases Qm g w.heap.size with b | b
   ·exact b
   ·simp[Q9 b]at h
  rw[f.block g c];exact h
theorem Bl.below {w w':S} {a:Nat->Qi} (h:Bl w a) (b:BL w w'):Bl w' a where
 text:=Aa b h.text
 bound:=Aa b h.bound
 name:=Aa b h.name
 maxl:=let ⟨m,hm⟩:=h.maxl;⟨m,Aa b hm⟩
 syn:=let ⟨t,p,hm⟩:=h.syn;⟨t,p,Aa b hm⟩
 tab:=Hu h.tab b
structure Cd (w:S) (a:Nat->Qi):Prop where
 text:w.cell? ⟨4,0,I⟩=Z (Qp 410 (Qq (Z (a 0))))
 bound:w.cell? ⟨1,0,I⟩=Z (Qp 410 (Qq (Z (a 1))))
 maxl:∃m,w.cell? ⟨13,0,I⟩=Z (U O m)
 syn:∃te pe,w.cell? ⟨15,0,I⟩=Z (Qp te pe)
 tab : Qx H w "internal/strconv.uint64pow10" .u64 QF
theorem Cd.below {w w':S} {a:Nat->Qi} (h:Cd w a) (b:BL w w'):Cd w' a where
 text:=Aa b h.text
 bound:=Aa b h.bound
 maxl:=let ⟨m,hm⟩:=h.maxl;⟨m,Aa b hm⟩
 syn:=let ⟨t,p,hm⟩:=h.syn;⟨t,p,Aa b hm⟩
 tab:=Hu h.tab b
theorem Bl.weak {w:S} {a:Nat->Qi} (h:Bl w a):Cd w a:=⟨h.text,h.bound,h.maxl,h.syn,h.tab⟩
structure DR (w:S):Prop where
 maxl:∃m,w.cell? ⟨13,0,I⟩=Z (U O m)
 syn:∃te pe,w.cell? ⟨15,0,I⟩=Z (Qp te pe)
 tab : Qx H w "internal/strconv.uint64pow10" .u64 QF
theorem DR.below {w w':S} (h:DR w) (b:BL w w'):DR w' where
 maxl:=let ⟨m,hm⟩:=h.maxl;⟨m,Aa b hm⟩
 syn:=let ⟨t,p,hm⟩:=h.syn;⟨t,p,Aa b hm⟩
 tab:=Hu h.tab b
theorem Cd.s {w:S} {a:Nat->Qi} (h:Cd w a):DR w:=⟨h.maxl,h.syn,h.tab⟩
theorem Bl.s {w:S} {a:Nat->Qi} (h:Bl w a):DR w:=⟨h.maxl,h.syn,h.tab⟩
def Ae (a:Nat->Qi):Nat->Qa
 | 0=>Xu
 | n+1=>Qp 410 (Qq (Z (a n)))
theorem JV (x:Rw) (w:S) (a:Nat->Qi) (h:Bl w a) (g:x.1.size<=Qf) :
  Calls H 105 #[Qg #[J x.1,U O x.2.1,U O x.2.2]] w fun e w'=>e=G (Ae a (A0 x))/\BL w w':=by
 obtain⟨p,k,v⟩:=x;have b:BL w (w.alloc (Qc #[J p,U O k,U O v] 62)):=Af _ _;have c:=cZ p (w.alloc (Qc #[J p,U O k,U O v] 62)) g;have i:=(h.below b).name;have j:=(h.below b).bound;unfold A0;dsimp only;cases f:Fs p.data.toList
 ·rw[f]at c
  go_enter QG,QH
  go_wp2_with (go_at_call 187;refine c.mono ?_;rintro e w' ⟨rfl,rfl⟩)
  go_ret;exact⟨rfl,b⟩
 ·rw[f]at c;have d:=fun n W=>GS n W;cases l:Aq k
  ·simp only[if_true,Bool.false_and,Xb,if_false]
   go_enter QG,QH
   go_wp2_with (first | (go_at_call 187;refine c.mono ?_;rintro e w' ⟨rfl,rfl⟩) | (go_at_call 115;refine(d _ _).mono ?_;rintro e w' ⟨rfl,rfl⟩))
   go_ret;exact⟨rfl,b⟩
  ·cases m:Aq v
   ·simp only[if_true,Xv,Xb,if_false]
    go_enter QG,QH
    go_wp2_with (first | (go_at_call 187;refine c.mono ?_;rintro e w' ⟨rfl,rfl⟩) | (go_at_call 115;refine(d _ _).mono ?_;rintro e w' ⟨rfl,rfl⟩))
    go_ret;exact⟨rfl,b⟩
   ·simp only[if_true,Xv]
    go_enter QG,QH
    go_wp2_with (first | (go_at_call 187;refine c.mono ?_;rintro e w' ⟨rfl,rfl⟩) | (go_at_call 115;refine(d _ _).mono ?_;rintro e w' ⟨rfl,rfl⟩))
    go_ret;exact⟨rfl,b⟩
theorem GT {w:S} (k:Nat) (os:Array Obj):BL w (Q1 (w.drewN k) os) :=
 (AK (Qh _ _) k).trans (show Below w.heap.size (w.drewN k) _ from GR (w:=w.drewN k) os)
theorem Ix (n : Int) (w : S) (b : Qx H w "internal/strconv.uint64pow10" .u64 QF) (c : -9223372036854775808 ≤ n) (d : n ≤ 9223372036854775807) :
  Calls H 86 #[U O n] w fun e w'=>e=G (J (Ab (Qo n)))/\∃k os,w'=Q1 (w.drewN k) os :=
 strconv_Itoa n c d w b
def Dn (s:List UInt8):Qa×Bool:=match At s with
 | some n=>(U O n,V)
 | none=>(U O 0,Qb)
theorem LQ (s:ByteArray) (w:S) (h:DR w) (r:s.size<=Qf) :
  Calls H 129 #[J s] w fun e w'=>e=G (Qn #[(Dn s.data.toList).1,Qe (Dn s.data.toList).2])/\BL w w':=by
 unfold Qf at r;have u:=AC s;by_cases z:11<s.size
 ·have b:Dn s.data.toList=(U O 0,Qb):=by
   unfold Dn At;rw[if_neg (by omega)]
  rw[b]
  go_enter QI,QJ
  go_wp2;go_ret2;exact⟨rfl,Qh _ _⟩
 ·cases c:atoi s.data.toList with
  | none =>
   have b:Dn s.data.toList=(U O 0,Qb):=by
    unfold Dn At;rw[if_pos (by omega),c]
   rw[b];obtain⟨j,l,m⟩:=h.syn;have d:=strconv_Atoi_err s (by omega) c (Qp j l) w m (Qj ⟨j,l,rfl⟩)
   go_enter QI,QJ
   go_wp2_with (go_at_call 213;refine d.mono ?_;rintro e w' ⟨N,rfl,_,_,o⟩)
   go_ret2;exact⟨rfl,o⟩
  | some n =>
   have d:=strconv_Atoi s n (by omega) c w;have v:=atoi_bound c (by omega);by_cases f:Qo n=s.data.toList
   ·have b:Dn s.data.toList=(U O n,V):=by
     unfold Dn At;rw[if_pos (by omega),c];simp[f]
    rw[b];have i:Ab (Qo n)=s:=by rw[f];exact D7 s
    go_enter QI,QJ
    go_wp2_with (first
     | (go_at_call 213;refine d.mono ?_;rintro e p ⟨rfl,t,rfl⟩)
     | (go_at_call 86;refine(Ix n _ (Hu h.tab (Q2 w _ t)) (by omega) (by omega)).mono ?_;rintro e q ⟨rfl,k,g,rfl⟩;rw[i]))
    go_ret2;exact⟨rfl,(Q2 w _ t).trans ((GT k g).mono (Q2 w _ t).size)⟩
   ·have b:Dn s.data.toList=(U O 0,Qb):=by
     unfold Dn At;rw[if_pos (by omega),c];simp[f]
    rw[b];have y:((Ab (Qo n)).toList == s.toList)=Qb:=by
     rw[QK,QK];simpa [Ab] using f
    go_enter QI,QJ
    go_wp2_with (first
     | (go_at_call 213;refine d.mono ?_;rintro e p ⟨rfl,t,rfl⟩)
     | (go_at_call 86;refine(Ix n _ (Hu h.tab (Q2 w _ t)) (by omega) (by omega)).mono ?_;rintro e q ⟨rfl,k,g,rfl⟩))
    go_ret2;exact⟨rfl,(Q2 w _ t).trans ((GT k g).mono (Q2 w _ t).size)⟩
theorem dA (n:Int) (w:S) (h:DR w) (b: -9223372036854775808<=n) (c:n<=9223372036854775807) :
  Calls H 86 #[U O n] w fun e w'=>e=G (J (Ab (Qo n)))/\BL w w' :=
 (Ix n w h.tab b c).mono fun e w' ⟨he,k,os,hw⟩=>⟨he,by subst hw;exact GT k os⟩
theorem LR (s:ByteArray) (w:S) (a:Nat->Qi) (h:Cd w a) (b:s.size<=Qf) :
  Calls H 129 #[J s] w fun e w'=>e=G (Qn #[(Dn s.data.toList).1,Qe (Dn s.data.toList).2])/\BL w w' :=
 LQ s w h.s b
def Iy (x:Rw):ByteArray:=if A0 x=0 then x.1++sp++Ab (Qo x.2.1)++sp++Ab (Qo x.2.2) else Ab []
theorem dB (x:Rw) (w:S) (a:Nat->Qi) (h:Bl w a) (z:x.1.size<=Qf) :
  Calls H 193 #[Qg #[J x.1,U O x.2.1,U O x.2.2]] w fun e w'=>e=G (J (Iy x))/\BL w w':=by
 have l:BL w (w.alloc (Qc #[J x.1,U O x.2.1,U O x.2.2] 62)):=Af _ _;have f:=JV x _ a (h.below l) z;unfold Iy;by_cases c:A0 x=0
 ·rw[if_pos c];rw[c]at f;have d:Aq x.2.1=V/\Aq x.2.2=V:=by
   unfold A0 at c;split at c
   ·split at c
    ·rename_i i;simpa using i
    ·omega
   ·omega
  obtain⟨p,k,v⟩:=x;simp only[Ae]at f;have B:p.size<=8:=by
   unfold A0 at c;split at c
   ·rename_i i;simp only[Fs,Q8,decide_eq_true_eq]at i;rw[AC]at i;exact i.1.2
   ·omega
  have E:(Ab (Qo k)).size<=11:=by
   have:=d.1;simp only[Aq,Q8,decide_eq_true_eq]at this;simpa [Ab,QD] using EI k this.1 this.2
  have F:(Ab (Qo v)).size<=11:=by
   have:=d.2;simp only[Aq,Q8,decide_eq_true_eq]at this;simpa [Ab,QD] using EI v this.1 this.2
  unfold sp;have C:=d.1;have D:=d.2;have j:Tryz.prog.follows .mixedOrders=V:=by kernel_rfl
  go_enter func193,ntmps193
  go_wp2_with (go_at_call 105;refine f.mono ?_;rintro e g ⟨rfl,b⟩)
  have s:g.cell? ⟨w.heap.size,0,I⟩=Z (J p):=Aa b (by simp);have t:g.cell? ⟨w.heap.size,1,I⟩=Z (U O k):=Aa b (by simp);have u:g.cell? ⟨w.heap.size,2,I⟩=Z (U O v):=Aa b (by simp);have K:=fun n os=>Xc (BF s) s n os;have L:=fun n os=>Xc (BF t) t n os;have M:=fun n os=>Xc (BF u) u n os;have o:=Ad l b;have r:=Hu h.tab o;have y:∀m:Int,Aq m=V->∀n os,Calls H 86 #[U O m] (Q1 (g.drewN n) os) fun e w'=>e=G (J (Ab (Qo m)))/\∃q os',w'=Q1 ((Q1 (g.drewN n) os).drewN q) os':=fun m j n os=>by
   simp only[Aq,Q8,decide_eq_true_eq]at j;exact Ix m _ (Hu r (GT n os)) (by omega) (by omega)
  have N:¬9223372036854775807<p.size+1:=by omega
  have P:¬9223372036854775807<p.size+1+(Ab (Qo k)).size:=by omega
  have Q:¬9223372036854775807<p.size+1+(Ab (Qo k)).size+1:=by omega
  have R:¬9223372036854775807<p.size+1+(Ab (Qo k)).size+1+(Ab (Qo v)).size:=by omega
  go_quiet_grown ((go_at_call 86;exact Calls.grown_of (y _ (by assumption) _ _)))
  go_wp2;go_ret;exact⟨rfl,o.trans ((GT nq osq).mono o.size)⟩
 ·rw[if_neg c];obtain⟨m,j⟩:∃m,A0 x=m+1:=⟨A0 x-1,by omega⟩;rw[j]at f;simp only[Ae]at f;obtain⟨p,k,v⟩:=x
  go_enter func193,ntmps193
  go_wp2_with (go_at_call 105;refine f.mono ?_;rintro e g ⟨rfl,b⟩)
  go_ret;exact⟨rfl,(Ad l b)⟩
theorem JW:∀(l:List UInt8),∀x∈Bc l,x.length<=l.length
 | [],x,h=>by simp[Bc]at h;simp[h]
 | c :: r,x,h=>by
  have b:=JW r;unfold Bc at h;split at h
  ·rw[Qt]at h;rcases h with rfl | h
   ·simp
   ·have:=b x h;simp;omega
  ·split at h
   ·simp at h;simp[h]
   ·rename_i w f d;rw[d]at b;rw[Qt]at h;rcases h with rfl | h
    ·have:=b w List.mem_cons_self;simp;omega
    ·have:=b x (List.mem_cons_of_mem _ h);simp;omega
theorem Ah {w:S} {b o:Nat} {v:Qa} (h:w.cell? ⟨b,o,I⟩=Z v):w.setCell ⟨b,o,I⟩ v=w:=by
 have d:(w.setCell ⟨b,o,I⟩ v).heap=w.heap:=by
  unfold Xw;apply Xx;intro i;dsimp only;rw[Xy];split
  ·rename_i e;subst e;unfold Xd at h
   cases g:w.heap[b]? with
   | none=>rfl
   | some ob =>
    rw[g]at h
    cases ob with
    | cells c t f =>
     simp only[Option.map_some,Option.isSome_none,Xb,if_false,QL,Obj.cells.injEq,and_true];apply Xx;intro k;rw[Xe];split
     ·rename_i e;subst e;split
      ·exact h.symm
      ·rename_i j;rw[Q9 (by omega)]
     ·rfl
    | _=>simp at h
  ·rfl
 cases w
 simp only[Xw]at d ⊢;rw[d]
def dC (w:S) (v:Qa) (ts:List ByteArray):Prop :=
 ∃b,v=Qd (Z ⟨b,0,I⟩) ts.length ts.length/\∀j (h:j<ts.length),w.cell? ⟨b,j,I⟩=Z (J ts[j])
theorem JX (s:ByteArray) (w:S) (a:Nat->Qi) (h:Cd w a) (g:s.size<4294967281) :
  Calls H 131 #[J s,J ⟨#[32]⟩] w fun e w'=> ∃v ts,e=G v/\dC w' v ts/\ts.map (·.data.toList)=Bc s.data.toList/\BL w w':=by
 obtain⟨m,f⟩:=h.maxl;have c:=strings_Split s sp m _ g f (by decide);obtain⟨b,i⟩:=cS s.size s (Ql _);have d:(splitB sp 0 (Xf s sp) s).length=Xf s sp+1:=by
  have:=congrArg List.length b;simp only[Xz]at this;omega
 refine c.mono fun e w' ⟨he,hw⟩=>⟨_,splitB sp 0 (Xf s sp) s,he,⟨w.heap.size,by rw[d],fun j hj=>?_⟩,b,?_⟩
 ·rw[hw,Xg _ _ _ _ _ _ (X0 _ _)];simp[hj]
 ·rw[hw];exact Af _ _
theorem Tryz.numsInfo:(Tryz.prog.info? 3).map (fun i=>(i.zero,i.size,i.bytes))=Z (Z (U O 0),1,8):=by kernel_rfl
def RV (w:S) (e:Xh) (ts:List ByteArray):Prop :=
 (∃(zs:List Int) (g:Nat),zs.length=ts.length/\(∀(j:Nat) (t:ByteArray),ts[j]? =Z t->At t.data.toList=zs[j]?)/\e=G (Qn #[Qd (Z ⟨g,0,I⟩) ts.length ts.length,Qe V])/\∀j (h:j<zs.length),w.cell? ⟨g,j,I⟩=Z (U O zs[j])) \/
 (∃(j:Nat) (t:ByteArray),ts[j]? =Z t/\At t.data.toList=I/\e=G (Qn #[Qd I 0 0,Qe Qb]))
def KC (B:Nat) (w:S) (e:Xh) (ts:List ByteArray):Prop :=
 (∃(zs:List Int) (g:Nat),zs.length=ts.length/\(∀(j:Nat) (t:ByteArray),ts[j]? =Z t->At t.data.toList=zs[j]?)/\e=G (Qn #[Qd (Z ⟨g,0,I⟩) ts.length ts.length,Qe V])/\(∀j (h:j<zs.length),w.cell? ⟨g,j,I⟩=Z (U O zs[j]))/\B<=g) \/
 (∃(j:Nat) (t:ByteArray),ts[j]? =Z t/\At t.data.toList=I/\e=G (Qn #[Qd I 0 0,Qe Qb]))
theorem KC.weak {B:Nat} {w:S} {e:Xh} {b:List ByteArray} (h:KC B w e b):RV w e b:=by
 rcases h with⟨c,g,d,f,i,j,_⟩ | h
 ·exact Qk ⟨c,g,d,f,i,j⟩
 ·exact Qj h
theorem RW (z:Qa) (n j:Nat) (h:j<n):(QA #[z] n)[j]? =Z z:=by
 unfold QA;simp[h,Nat.mod_one]
theorem LU (b o ah:Nat) (f:List ByteArray) (w:S) (a:Nat->Qi) (h:Cd w a) (hc:∀j (h:j<f.length),w.cell? ⟨b,o+j,I⟩=Z (J f[j])) (hs:∀t∈f,t.size<=Qf) (hl:f.length<=20000) :
  Calls H 132 #[Qd (Z ⟨b,o,I⟩) f.length ah] w fun e w'=>KC w.heap.size w' e f/\BL w w':=by
 have HC:A _:=hc;have HS:A _:=hs;obtain⟨L,hL⟩:∃L,f.length=L:=⟨_,rfl⟩;have y:A _:=hL;rw[hL]at hl ⊢;have ai:=fun W=>run_make_row' (P:=H) 32 3 (U O 0) 8 X1 Tryz.numsInfo rfl O O L (by omega) (by omega) W;have Y:BL w (w.alloc (Qc (QA #[U O 0] L) 3)):=Af _ _;have K:=X0 w (Qc (QA #[U O 0] L) 3);have aa:∀j,j<L->(QA #[U O 0] L)[j]? =Z (U O 0):=fun j hj=>RW _ _ _ hj;have MD:A _:=aa
 go_enter func132,ntmps132
 go_wp2
 go_loopw [14] (fun k wr=> ∃(n:Nat) (i:List Int) (c:Array Qa),n<=L/\k=U O n/\BL w wr/\i.length=n/\(∀j t,j<n->f[j]? =Z t->At t.data.toList=i[j]?)/\wr.heap[w.heap.size]? =Z (Qc c 3 (0,0))/\(∀j,j<L->∃u,c[j]? =Z u)/\∀j (h:j<i.length),c[j]? =Z (U O i[j])) (fun k _=>L-(Qs k).toNat)
 case atStart=>exact ⟨0, [],_,by omega,rfl,Y,rfl,fun j t h=>absurd h (X2 _),K,fun j hj=>⟨_,MD.out j hj⟩,fun j h=>absurd h (X2 _)⟩
 case round =>
  obtain⟨n,i,c,hn,rfl,v,ac,ad,ae,af,ag⟩:=hrel;have M:A _:=ae;have g:A _:=ac;have B:A _:=ad;have C:A _:=af;have D:A _:=ag;by_cases E:n<L
  ·have r:n<f.length:=by rw[y.out];exact E
   have c1:=Aa v (HC.out n r);have N:A _:=Qv r;have d:=LR f[n] wr a (h.below v) (HS.out _ (X3 _));generalize f[n]=t at c1 N d;unfold Dn at d
   cases z:At t.data.toList with
   | none =>
    rw[z]at d;have Q:A _:=z
    go_wp2_with fail
    refine d.mono ?_;rintro e q ⟨rfl,p⟩;have s:=Ad v p;go_wp2;go_ret2;exact⟨Qj ⟨n,t,N.out,Q.out,rfl⟩,s⟩
   | some x =>
    rw[z]at d;have Q:A _:=z
    go_wp2_with fail
    refine d.mono ?_;rintro e q ⟨rfl,p⟩;have s:=Ad v p;have l:=(p.block _ (lt_of_block M.out)).trans M.out;obtain⟨u,X⟩:=C.out n E;have aj:q.cell? ⟨w.heap.size,n,I⟩=Z u:=by rw[Xg _ _ _ _ _ _ l];exact X
    have ak:q.frozen? ⟨w.heap.size,n,I⟩=Qb:=frozen_of_row _ _ _ _ _ l;have R:=heap_setCell_same q w.heap.size n c 3 (U O x) l;have T:A ((q.setCell ⟨w.heap.size,n,I⟩ (U O x)).heap[w.heap.size]? =Z (Qc (c.setIfInBounds n (U O x)) 3 (0,0))):=R;have HN:A (n<c.size):=by
     show n<c.size;rcases Qm n c.size with m | m
     ·exact m
     ·rw[Q9 m]at X;cases X
    have ab:BL w (q.setCell ⟨w.heap.size,n,I⟩ (U O x)):=s.setCell (Ql _) _;go_wp2;go_roundw
    case rel =>
     refine⟨n+1,i++ [x],_,by omega,by go_num,ab,by rw[QM,g.out];rfl,fun j t' hj ht'=>?_,T.out,fun j hj=>?_,fun j hj=>?_⟩
     ·rcases Qm j n with m | m
      ·rw[B.out j t' m ht',X4 (by rw[g.out];exact m)]
      ·obtain rfl:j=n:=by omega
       rw[N.out]at ht';rw[<-QE ht',Q.out,X5 (by rw[g.out];exact Ql _),g.out,Nat.sub_self];rfl
     ·rw[Xe];split
      ·rw[if_pos HN.out];exact⟨_,rfl⟩
      ·exact C.out j hj
     ·rw[Xe];split
      ·rename_i e;subst e;rw[if_pos HN.out,List.getElem_append_right (by rw[g.out];exact Ql _)];simp
      ·rename_i e;have F:j<i.length:=by rw[QM]at hj;simp at hj;have:=g.out;omega
       rw[List.getElem_append_left F];exact D.out j F
    case measure=>simp [Qs];omega
  ·obtain rfl:n=L:=by omega
   go_wp2;go_ret2;refine⟨Qk ⟨i,w.heap.size,by rw[g.out,y.out],fun j t ht=>B.out j t (by
    rw[<-y.out];rcases Qm j f.length with h | h
    ·exact h
    ·rw[Qu h]at ht;cases ht) ht,by rw[y.out];rfl,fun j hj=>?_,Ql _⟩,v⟩
   rw[Xg _ _ _ _ _ _ M.out];exact D.out j hj
theorem NO (b o d:Nat) (c:List ByteArray) (w:S) (a:Nat->Qi) (h:Cd w a) (f:∀j (h:j<c.length),w.cell? ⟨b,o+j,I⟩=Z (J c[j])) (g:∀t∈c,t.size<=Qf) (i:c.length<=20000) :
  Calls H 132 #[Qd (Z ⟨b,o,I⟩) c.length d] w fun e w'=>RV w' e c/\BL w w' :=
 (LU b o d c w a h f g i).mono fun _ _ ⟨h1,h2⟩=>⟨h1.weak,h2⟩
def LV (x:Rw):Qa:=Qg #[J x.1,U O x.2.1,U O x.2.2]
theorem dD {l:List UInt8} (h:(Bc l).length≠3):Bx l=((Ab [],0,0),1):=by
 unfold Bx;split
 ·rename_i p k v e;rw[e]at h;simp at h
 ·rfl
theorem dE {l p k v:List UInt8} (h:Bc l= [p,k,v]):Bx l=(match At k,At v with
  | some a,Z b=>if A0 (Ab p,a,b)=0 then ((Ab p,a,b),0) else ((Ab [],0,0),A0 (Ab p,a,b))
  | _,_=>((Ab [],0,0),1)):=by
 unfold Bx;rw[h];rfl
theorem NP (s:ByteArray) (w:S) (a:Nat->Qi) (h:Bl w a) (hs:s.size<4294967281) :
  Calls H 354 #[J s] w fun e w'=>e=G (Qn #[LV (Bx s.data.toList).1,Ae a (Bx s.data.toList).2])/\BL w w':=by
 generalize hR:Bx s.data.toList=R;have HR:A _:=hR;clear hR;have ab:BL w (w.alloc (Qc #[J ⟨#[]⟩,U O 0,U O 0] 62)):=Af _ _
 go_enter func354,ntmps354
 go_wp2_with fail
 refine(JX s _ a (h.below ab).weak hs).mono ?_;rintro e X ⟨v,Y,rfl,hT,i,B⟩;obtain⟨b,rfl,n⟩:=hT;have z0:X.cell? ⟨w.heap.size,0,I⟩=Z (J ⟨#[]⟩):=Aa B (by simp);have z1:X.cell? ⟨w.heap.size,1,I⟩=Z (U O 0):=Aa B (by simp);have z2:X.cell? ⟨w.heap.size,2,I⟩=Z (U O 0):=Aa B (by simp);have fz:∀o,X.frozen? ⟨w.heap.size,o,I⟩=Qb:=fun o=>by rw[B.frozen (p:=⟨w.heap.size,o,I⟩) (by simp)];simp
 have E:=Ad ab B;have al:Y.length=(Bc s.data.toList).length:=by rw[<-i,Xz]
 have z:=JW s.data.toList;by_cases h3:Y.length=3
 ·obtain⟨P,K,c,rfl⟩:∃P K c,Y= [P,K,c]:=by
   match Y,h3 with
   | [P,K,c],_=>exact ⟨P,K,c,rfl⟩
  simp only[List.map_cons,List.map_nil]at i;have c0:=n 0 (by simp);have c1:=n 1 (by simp);have c2:=n 2 (by simp);have ad:K.size<=Qf:=by
   have:=z K.data.toList (by rw[<-i];simp);rw[AC,AC]at this;unfold Qf;omega
  have ae:c.size<=Qf:=by
   have:=z c.data.toList (by rw[<-i];simp);rw[AC,AC]at this;unfold Qf;omega
  have af:P.size<=Qf:=by
   have:=z P.data.toList (by rw[<-i];simp);rw[AC,AC]at this;unfold Qf;omega
  have hr:=dE i.symm;rw[D7]at hr;have ag:=HR.out.symm.trans hr;simp only[X6,List.length_nil,Qy,Nat.reduceAdd]at ⊢;have HE:A (R=match At K.data.toList,At c.data.toList with
   | some a,Z b=>if A0 (P,a,b)=0 then ((P,a,b),0) else ((Ab [],0,0),A0 (P,a,b))
   | _,_=>((Ab [],0,0),1)):=ag
  go_wp2_with fail
  refine(NO b 1 2 [K,c] X a (h.below E).weak (fun j hj=>by
   match j,hj with
   | 0,_=>exact c1
   | 1,_=>exact c2) (fun t C=>by
   simp only[Qt,X7,or_false]at C;rcases C with rfl | rfl
   ·exact ad
   ·exact ae) (by simp)).mono ?_
  rintro e f ⟨aj,u⟩;have hN:(∃x y g,At K.data.toList=Z x/\At c.data.toList=Z y/\e=G (Qn #[Qd (Z ⟨g,0,I⟩) 2 2,Qe V])/\f.cell? ⟨g,0,I⟩=Z (U O x)/\f.cell? ⟨g,1,I⟩=Z (U O y))\/((At K.data.toList=I\/At c.data.toList=I)/\e=G (Qn #[Qd I 0 0,Qe Qb])):=by
   rcases aj with⟨zs,g,ak,F,D,M⟩|⟨j,t,C,N,D⟩
   ·match zs,ak,F,M with
    | [x,y],_,F,M=>exact Qk ⟨x,y,g,F 0 K rfl,F 1 c rfl,D,M 0 (by simp),M 1 (by simp)⟩
   ·refine Qj ⟨?_,D⟩
    match j,C with
    | 0,C=>left;rw[QE C];exact N
    | 1,C=>right;rw[QE C];exact N
  have Q:=Ad E u;have y0:=Aa u z0;have y1:=Aa u z1;have y2:=Aa u z2;have d0:=Aa u c0;have ah:=BF z0;have fy:∀o,f.frozen? ⟨w.heap.size,o,I⟩=Qb:=fun o=>by rw[u.frozen (p:=⟨w.heap.size,o,I⟩) ah];exact fz o
  have ac:=BF y0;have k:=HE.out;clear HE;rcases hN with⟨x,y,g,hx,hy,rfl,k0,k1⟩|⟨N,rfl⟩
  ·rw[hx,hy]at k;dsimp only at k;have q:BL f (f.alloc (Qc #[J P,U O x,U O y] 62)).drew:=(Af _ _).drew;have T:BL w (f.alloc (Qc #[J P,U O x,U O y] 62)).drew:=Ad Q q;have m:=JV (P,x,y) ((f.alloc (Qc #[J P,U O x,U O y] 62)).drew) a (h.below T) af;dsimp only at m;have q0:=Aa q y0;have q1:=Aa q y1;have q2:=Aa q y2;have r0:(f.alloc (Qc #[J P,U O x,U O y] 62)).drew.cell? ⟨f.heap.size,0,I⟩=Z (J P):=by simp
   have r1:(f.alloc (Qc #[J P,U O x,U O y] 62)).drew.cell? ⟨f.heap.size,1,I⟩=Z (U O x):=by simp
   have r2:(f.alloc (Qc #[J P,U O x,U O y] 62)).drew.cell? ⟨f.heap.size,2,I⟩=Z (U O y):=by simp
   have r:BL f (f.alloc (Qc #[J ⟨#[]⟩,U O 0,U O 0] 62)):=Af _ _;have j0:=Aa r k0;have j1:=Aa r k1;have j2:=Aa r d0;have l0:=Aa r.drew k0;have l1:=Aa r.drew k1;have l2:=Aa r.drew d0;have m0:=Aa (Qh f.heap.size f).drew k0;have m1:=Aa (Qh f.heap.size f).drew k1;have m2:=Aa (Qh f.heap.size f).drew d0;by_cases D:A0 (P,x,y)=0
   ·rw[if_pos D]at k;subst k;rw[D]at m;simp only[Ae]at m ⊢;go_wp2
    go_region
    all_goals go_wp2_with fail
    refine m.mono ?_;rintro e w5 ⟨rfl,d⟩;have g0:=Aa d q0;have g1:=Aa d q1;have g2:=Aa d q2;have u0:=Aa d r0;have u1:=Aa d r1;have u2:=Aa d r2;have W:=Ad T d;have f5:∀o,w5.frozen? ⟨w.heap.size,o,I⟩=Qb:=fun o=>by
     rw[d.frozen (p:=⟨w.heap.size,o,I⟩) (by simp;omega),q.frozen (p:=⟨w.heap.size,o,I⟩) ac];exact fy o
    go_wp2;refine QN (v:=Qn #[Qg #[J P,U O x,U O y],Xu]) (by simp[QO,QP,go_sem,g0,g1,g2]) rfl ⟨rfl,?_⟩;exact((W.setCell (by simp) _).setCell (by simp) _).setCell (by simp) _
   ·rw[if_neg D]at k;obtain⟨j,hj⟩:∃j,A0 (P,x,y)=j+1:=⟨A0 (P,x,y)-1,by omega⟩;rw[hj]at m k;subst k;simp only[Ae]at m ⊢;go_wp2
    go_region
    all_goals go_wp2_with fail
    refine m.mono ?_;rintro e w5 ⟨rfl,d⟩;have g0:=Aa d q0;have g1:=Aa d q1;have g2:=Aa d q2;have W:=Ad T d;have f5:∀o,w5.frozen? ⟨w.heap.size,o,I⟩=Qb:=fun o=>by
     rw[d.frozen (p:=⟨w.heap.size,o,I⟩) (by simp;omega),q.frozen (p:=⟨w.heap.size,o,I⟩) ac];exact fy o
    have s0:=Ah g0;have s1:=Ah g1;have s2:=Ah g2;go_wp2;exact QN (v:=Qn #[Qg #[J ⟨#[]⟩,U O 0,U O 0],Qp 410 (Qq (Z (a j)))]) (by simp[QO,QP,go_sem,g0,g1,g2]) rfl ⟨rfl,W⟩
  ·have aa:R=((Ab [],0,0),1):=by
    rw[k];rcases N with e | e
    ·rw[e]
    ·rw[e];split<;>simp_all
   subst aa;have et:=(h.below Q).text;simp only;have s0:=Ah y0;have s1:=Ah y1;have s2:=Ah y2;go_wp2
   go_region
   all_goals go_wp2
   all_goals exact QN (v:=Qn #[Qg #[J ⟨#[]⟩,U O 0,U O 0],Qp 410 (Qq (Z (a 0)))]) (by simp[QO,QP,go_sem,y0,y1,y2]) rfl ⟨rfl,Q.drew⟩
 ·have hr:=dD (l:=s.data.toList) (by omega);have ai:=HR.out.symm.trans hr;subst ai;generalize Y.length=L at h3 ⊢;have am:¬(L:Int)=3:=by omega
  have s0:=Ah z0;have s1:=Ah z1;have s2:=Ah z2;have et:=(h.below E).text;simp only;go_wp2
  go_region
  all_goals go_wp2
  all_goals exact QN (v:=Qn #[Qg #[J ⟨#[]⟩,U O 0,U O 0],Qp 410 (Qq (Z (a 0)))]) (by simp[QO,QP,go_sem,z0,z1,z2]) rfl ⟨rfl,E.drew⟩
end Go.Proofs.YtcllhobffhkafaaGreatDoor
namespace Go.Proofs
open Go.Shelf
def Tryz.sortInt_ren:Go.Shelf.Ren:=⟨fun | 5=>48 | 8=>99 | 7=>98 | 19=>181 | 20=>182 | 10=>173 | 11=>174 | 12=>175 | 13=>176 | 14=>177 | 15=>178 | 16=>100 | 17=>179 | 18=>180 | 30=>263 | 31=>264 | 32=>265 | 33=>266 | 34=>267 | 35=>183 | 40=>325 | n=>n,fun | 23=>32 | 25=>3 | 3=>3 | 32=>159 | 22=>32 | 0=>0 | 44=>229 | 46=>242 | 4=>4 | 36=>235 | 35=>234 | 41=>90 | 5=>5 | 9=>9 | 53=>299 | 57=>303 | 63=>351 | 64=>267 | n=>n,fun | n=>n⟩
theorem Tryz.sortInt:Go.Proofs.SlLaysM.n5 H sortInt_ren:= { lays172,laysNm215 with
 mixed:=by kernel_rfl
 f5:=⟨Tryz.f48.name,by decide,Tryz.lq func48 (by kernel_rfl)⟩
 f7:=⟨Tryz.f98.name,by decide,Tryz.lq func98 (by kernel_rfl)⟩
 f8:=Tryz.lq func99 (by kernel_rfl)
 f10:=⟨Tryz.f173.name,by decide,Tryz.lq func173 (by kernel_rfl)⟩
 f11:=⟨Tryz.f174.name,by decide,Tryz.lq func174 (by kernel_rfl)⟩
 f12:=⟨Tryz.f175.name,by decide,Tryz.lq func175 (by kernel_rfl)⟩
 f13:=⟨Tryz.f176.name,by decide,Tryz.lq func176 (by kernel_rfl)⟩
 f14:=⟨Tryz.f177.name,by decide,Tryz.lq func177 (by kernel_rfl)⟩
 f15:=⟨Tryz.f178.name,by decide,Tryz.lq func178 (by kernel_rfl)⟩
 f16:=⟨Tryz.f100.name,by decide,Tryz.lq func100 (by kernel_rfl)⟩
 f17:=⟨Tryz.f179.name,by decide,Tryz.lq func179 (by kernel_rfl)⟩
 f18:=⟨Tryz.f180.name,by decide,Tryz.lq func180 (by kernel_rfl)⟩
 f19:=Tryz.lq func181 (by kernel_rfl)
 f20:=Tryz.lq func182 (by kernel_rfl)
 f30:=⟨Tryz.f263.name,by decide,Tryz.lq func263 (by kernel_rfl)⟩
 f31:=Tryz.lq func264 (by kernel_rfl)
 f32:=Tryz.lq func265 (by kernel_rfl)
 f33:=⟨Tryz.f266.name,by decide,Tryz.lq func266 (by kernel_rfl)⟩
 f34:=⟨Tryz.f267.name,by decide,Tryz.lq func267 (by kernel_rfl)⟩
 f35:=⟨Tryz.f183.name,by decide,Tryz.lq func183 (by kernel_rfl)⟩
 f40:=⟨Tryz.f325.name,by decide,Tryz.lq func325 (by kernel_rfl)⟩
 t23:=X1
 a23:=isAgg32
 z23:=sizeOf32
 v23:=zeroValue32
 t25:=underlying3
 a25:=isAgg3
 z25:=sizeOf3
 v25:=zeroValue3
 t32:=X8
 a32:=isAgg159
 z32:=sizeOf159
 v32:=X9
 t35:=XA
 a35:=isAgg234
 z35:=sizeOf234
 v35:=XB
 t36:=XC
 a36:=isAgg235
 z36:=sizeOf235
 v36:=XD
 t41:=XE
 a41:=isAgg90
 z41:=sizeOf90
 v41:=XF
 t44:=XG
 a44:=isAgg229
 z44:=sizeOf229
 v44:=XH
 t46:=XI
 a46:=isAgg242
 z46:=sizeOf242
 v46:=XJ
 t53:=XK
 a53:=isAgg299
 z53:=sizeOf299
 v53:=XL
 t57:=XM
 a57:=isAgg303
 z57:=sizeOf303
 v57:=XN
 t63:=XO
 a63:=isAgg351
 z63:=sizeOf351
 v63:=XP
 t64:=XQ
 a64:=isAgg267
 z64:=sizeOf267
 v64:=XR }
end Go.Proofs
namespace Go.Proofs.YtcllhobffhkafaaGreatDoor
open Go.RowKit Go.Extern.Stop Go.Stop Go.Extern Go.Sort Go.Shelf Go.Lib
def Az (xs:List Rw):List Qa:=xs.flatMap AM
theorem Jb (x:Rw):(AM x).length=3:=rfl
theorem Jc (x:Rw):∀u∈AM x,u.oneCell'=V:=by
 intro u b;simp only[AM,Qt,X7,or_false]at b;rcases b with rfl | rfl | rfl<;>rfl
theorem Ft:∀xs:List Rw,(Az xs).length=xs.length*3
 | []=>rfl
 | x :: xs=>by
  have:=Ft xs;simp only[Az,Xi,QM,X6]at *;rw[this,Jb];omega
theorem KD (xs:List Rw):∀u∈Az xs,u.oneCell'=V:=by
 intro u b;simp only[Az,List.mem_flatMap]at b;obtain⟨x,_,c⟩:=b;exact Jc x u c
theorem KE (xs ys:List Rw):Az (xs++ys)=Az xs++Az ys:=by simp[Az]
theorem Iz:∀(xs:List Rw) (j c:Nat) (h:j<xs.length),c<3->(Az xs)[j*3+c]? =(AM xs[j])[c]?
 | [],j,_,h,_=>by simp at h
 | x :: xs,0,c,_,hc=>by
  simp only[Az,Xi,Nat.zero_mul,Qy,List.getElem_cons_zero];rw[X4 (by rw[Jb];exact hc)]
 | x :: xs,j+1,c,h,hc=>by
  have b:j<xs.length:=by simp at h;omega
  have:=Iz xs j c b hc;simp only[Az,Xi,List.getElem_cons_succ]at *;rw[X5 (by rw[Jb];omega),Jb,show (j+1)*3+c-3=j*3+c by omega];exact this
theorem KG {w:S} {b o:Nat} {xs:List Rw} (h:Ed w b o xs):∀t u,(Az xs)[t]? =Z u->w.cell? ⟨b,o+t,I⟩=Z u:=by
 intro t u c;have i:t<(Az xs).length:=by
  rcases Qm t (Az xs).length with f | f
  ·exact f
  ·rw[Qu f]at c;cases c
 rw[Ft]at i;have g:t / 3<xs.length:=by omega
 have e:t=t / 3*3+t % 3:=by omega
 rw[e,Iz xs (t / 3) (t % 3) g (by omega)]at c;obtain⟨j,k,l⟩:=h (t / 3) g;have d:t % 3=0\/t % 3=1\/t % 3=2:=by omega
 rcases d with d | d | d
 ·rw[d]at c;simp only[AM,Xj,QL]at c;rw[<-c,<-j];congr 2;omega
 ·rw[d]at c;simp only[AM,XS,Xj,QL]at c;rw[<-c,<-k];congr 2;omega
 ·rw[d]at c;simp only[AM,XS,Xj,QL]at c;rw[<-c,<-l];congr 2;omega
theorem RX {w:S} {b o:Nat} {xs:List Rw} (h:∀t u,(Az xs)[t]? =Z u->w.cell? ⟨b,o+t,I⟩=Z u):Ed w b o xs:=fun j hj =>
 ⟨h (j*3) _ (by have:=Iz xs j 0 hj (by omega);simpa [AM] using this),
  by have:=h (j*3+1) _ (by have:=Iz xs j 1 hj (by omega);simpa [AM] using this);rw[<-Xk]at this;exact this,
  by have:=h (j*3+2) _ (by have:=Iz xs j 2 hj (by omega);simpa [AM] using this);rw[<-Xk]at this;exact this⟩
theorem RY {w:S} {base:Nat} {v:Qa} {n:Nat} {xs:List Rw} (h:w.ownsRow base 62 3 v n (Az xs)):n=xs.length/\((v=Qd I 0 0/\xs= [])\/∃g cap,v=Qd (Z ⟨g,0,I⟩) xs.length cap/\Ed w g 0 xs):=by
 obtain⟨f,h⟩:=h;have b:n=xs.length:=by rw[Ft]at f;omega
 refine⟨b,?_⟩;subst b;rcases h with⟨i,b⟩|⟨g,cap,l,rfl,_,j,_,_,_,k⟩
 ·exact Qk ⟨i,Xl.1 b⟩
 ·refine Qj ⟨g,cap,rfl,RX fun t u hu=>?_⟩;have d:t<xs.length*3:=by
   rw[<-Ft];rcases Qm t (Az xs).length with c | c
   ·exact c
   ·rw[Qu c]at hu;cases hu
  rw[<-k,XT,if_pos d]at hu;simp only[Xd,j,Qy];simpa using hu
theorem I0 {w:S} {base:Nat} {v:Qa} {n:Nat} {xs:List Rw} (h:w.ownsRow base 62 3 v n (Az xs)):Ap w v xs/\n=xs.length:=by
 obtain⟨d,h⟩:=RY h;refine⟨?_,d⟩;rcases h with⟨b,f⟩|⟨g,c,b,i⟩
 ·exact Qk ⟨I,0,b,f⟩
 ·exact Qj ⟨g,0,c,b,i⟩
theorem RZ (xs:List Rw):flatK AM 3 xs.toArray=(Az xs).toArray:=by
 refine ext_get! (by simp[Ft]) fun t ht=>?_;simp only[size_flatK,XU]at ht;rw[get_flatK _ _ _ _ (by simpa using ht)];have b:t / 3<xs.length:=by omega
 have:=Iz xs (t / 3) (t % 3) b (by omega);rw[show t / 3*3+t % 3=t by omega]at this;simp only[List.getElem!_toArray,List.getElem!_eq_getElem?_getD,this];rw[Qv b];rfl
end Go.Proofs.YtcllhobffhkafaaGreatDoor
namespace Go.Proofs
open Go.Shelf
def Tryz.sortRow_ren:Go.Shelf.Ren:=⟨fun | 6=>103 | 15=>99 | 14=>184 | 28=>181 | 29=>182 | 20=>268 | 21=>269 | 22=>270 | 23=>271 | 24=>272 | 25=>273 | 26=>274 | 27=>275 | 46=>326 | 47=>264 | 48=>265 | 49=>327 | 50=>328 | 57=>361 | n=>n,fun | 22=>35 | 24=>62 | 25=>162 | 3=>3 | 39=>159 | 0=>0 | 53=>229 | 55=>242 | 4=>4 | 46=>235 | 45=>234 | 50=>90 | 5=>5 | 9=>9 | 66=>299 | 70=>303 | 76=>351 | 77=>267 | n=>n,fun | n=>n⟩
theorem Tryz.sortRow:Go.Proofs.SlLaysF0.n6 H sortRow_ren:= { lays172,cloneRow with
 mixed:=by kernel_rfl
 f6:=⟨Tryz.f103.name,by decide,Tryz.lq func103 (by kernel_rfl)⟩
 f14:=⟨Tryz.f184.name,by decide,Tryz.lq func184 (by kernel_rfl)⟩
 f15:=Tryz.lq func99 (by kernel_rfl)
 f20:=⟨Tryz.f268.name,by decide,Tryz.lq func268 (by kernel_rfl)⟩
 f21:=⟨Tryz.f269.name,by decide,Tryz.lq func269 (by kernel_rfl)⟩
 f22:=⟨Tryz.f270.name,by decide,Tryz.lq func270 (by kernel_rfl)⟩
 f23:=⟨Tryz.f271.name,by decide,Tryz.lq func271 (by kernel_rfl)⟩
 f24:=⟨Tryz.f272.name,by decide,Tryz.lq func272 (by kernel_rfl)⟩
 f25:=⟨Tryz.f273.name,by decide,Tryz.lq func273 (by kernel_rfl)⟩
 f26:=⟨Tryz.f274.name,by decide,Tryz.lq func274 (by kernel_rfl)⟩
 f27:=⟨Tryz.f275.name,by decide,Tryz.lq func275 (by kernel_rfl)⟩
 f28:=Tryz.lq func181 (by kernel_rfl)
 f29:=Tryz.lq func182 (by kernel_rfl)
 f46:=⟨Tryz.f326.name,by decide,Tryz.lq func326 (by kernel_rfl)⟩
 f47:=Tryz.lq func264 (by kernel_rfl)
 f48:=Tryz.lq func265 (by kernel_rfl)
 f49:=⟨Tryz.f327.name,by decide,Tryz.lq func327 (by kernel_rfl)⟩
 f50:=⟨Tryz.f328.name,by decide,Tryz.lq func328 (by kernel_rfl)⟩
 f57:=⟨Tryz.f361.name,by decide,Tryz.lq func361 (by kernel_rfl)⟩
 t25:=underlying162
 a25:=isAgg162
 z25:=sizeOf162
 v25:=zeroValue162
 t39:=X8
 a39:=isAgg159
 z39:=sizeOf159
 v39:=X9
 t45:=XA
 a45:=isAgg234
 z45:=sizeOf234
 v45:=XB
 t46:=XC
 a46:=isAgg235
 z46:=sizeOf235
 v46:=XD
 t50:=XE
 a50:=isAgg90
 z50:=sizeOf90
 v50:=XF
 t53:=XG
 a53:=isAgg229
 z53:=sizeOf229
 v53:=XH
 t55:=XI
 a55:=isAgg242
 z55:=sizeOf242
 v55:=XJ
 t66:=XK
 a66:=isAgg299
 z66:=sizeOf299
 v66:=XL
 t70:=XM
 a70:=isAgg303
 z70:=sizeOf303
 v70:=XN
 t76:=XO
 a76:=isAgg351
 z76:=sizeOf351
 v76:=XP
 t77:=XQ
 a77:=isAgg267
 z77:=sizeOf267
 v77:=XR }
end Go.Proofs
namespace Go.Proofs.YtcllhobffhkafaaGreatDoor
open Go.RowKit Go.Extern.Stop Go.Stop Go.Extern Go.Sort Go.Shelf Go.Lib
def A3 (xs:List Rw):List Rw:=xs.mergeSort fun x y=> !(Qr AP) y x
theorem G3 (xs:List Rw):(A3 xs).length=xs.length:=by simp[A3]
theorem Dy (xs:List Rw):(A3 xs).Perm xs:=XV _ _
theorem dF (c d b:Nat) (w:S):CmpLays H 104 #[] AM 3 AP c d b w :=
 fun _ _ _ _ x y=>RO x y _
theorem dG {w:S} {base:Nat} {v:Qa} {n:Nat} {xs:List Rw} (h:w.ownsRow base 62 3 v n (Az xs)) (s:v≠ Qd I 0 0) :
  ∃g cap,v=Qd (Z ⟨g,0,I⟩) xs.length cap/\base<=g/\g<w.heap.size/\QQ AM 3 w g 0 xs.toArray:=by
 obtain⟨o,h⟩:=h;have m:n=xs.length:=by rw[Ft]at o;omega
 subst m;rcases h with⟨e,_⟩|⟨g,cap,l,rfl,q,b,_,_,_,r⟩
 ·exact absurd e s
 ·have f:g<w.heap.size:=by
   rcases Qm g w.heap.size with d | d
   ·exact d
   ·rw[Q9 d]at b;cases b
  refine⟨g,cap,rfl,q,f,?_⟩;unfold QQ;rw[RZ];intro j p;have c:j<xs.length*3:=by simpa [Ft] using p
  refine⟨?_,by simp[World.frozen?,b]⟩;have i:(l.toList.take (xs.length*3))[j]? =(Az xs)[j]? :=by rw[r]
  rw[XT,if_pos c,Array.getElem?_toList]at i;simp only[Xd,b,Qy];rw[i];have k:j<(Az xs).length:=by rw[Ft];exact c
  simp[Qv k]
theorem dH {w:S} {g:Nat} {xs:List Rw} (h:QQ AM 3 w g 0 xs.toArray):Ed w g 0 xs:=by
 refine RX fun t u hu=>?_;have b:t<(Az xs).length:=by
  rcases Qm t (Az xs).length with c | c
  ·exact c
  ·rw[Qu c]at hu;cases hu
 unfold QQ at h;rw[RZ]at h;have:=(h t (by simpa using b)).1;rw[this];rw[Qv b]at hu;simpa [Qv b] using hu
theorem Tryz.rowInfo3:(Tryz.prog.info? 62).map (fun i=>(i.zero,i.size,i.bytes))=Z (Z (Qg #[J ⟨#[]⟩,U O 0,U O 0]),3,32):=by kernel_rfl
theorem Tryz.rowInfo:∃i0:TypeInfo,Tryz.prog.info? 62=Z i0/\i0.zero=Z (Qg #[J ⟨#[]⟩,U O 0,U O 0])/\i0.size=3/\i0.bytes=32:=by
 obtain⟨i,b,h⟩:=Option.map_eq_some_iff.1 Tryz.rowInfo3;simp only[Prod.mk.injEq]at h;exact⟨i,b,h.1,h.2.1,h.2.2⟩
theorem dI (g:Qi) (c:Nat) (w:S) :
  Calls H 102 #[Qd (Z g) 0 c] w fun e w'=> ∃v',e=G v'/\w'.ownsRow w.heap.size 62 3 v' ([]:List Rw).length (Az [])/\BL w w':=by
 obtain⟨i,l,m,o,f⟩:=Tryz.rowInfo;have t:=fun w a n c n' c'=>Lib.run_eql_slice_nil w _ _ a n c n' c' QB
 go_enter func102,ntmps102
 go_wp2_with (at_builtin;refine QR _ rfl _ _ 35 rfl w.heap.size 62 i (Qg #[J ⟨#[]⟩,U O 0,U O 0]) 3 32 QB l m o f rfl (by decide) _ _ _ rfl (World.ownsRow_made w #[] 0 (Ql _) (Nat.zero_le _) (by simp)) g 0 c [] rfl ?qc1 ?qc2 ?qc3 ?qc4 ?qc5 ?qc6 ?_)
 case qc1=>rfl
 case qc2=>intro j u p;simp at p
 case qc3=>intro u q;cases q
 case qc4=>decide
 case qc5=>decide
 case qc6=>simp
 intro v' v d b r;go_wp2;go_ret;refine⟨v',rfl,by simpa [Az] using d,?_⟩;exact((Qh _ w).alloc (Ql _) _).grown b (by simp) (by intro k s;simp[Q3]at s;omega)
theorem LW (v:Qa) (xs:List Rw) (w:S) (h:Ap w v xs) (n:xs.length<=20000) :
  Calls H 102 #[v] w fun e w'=> ∃v',e=G v'/\w'.ownsRow w.heap.size 62 3 v' xs.length (Az xs)/\BL w w':=by
 rcases h with⟨p,c,rfl,rfl⟩|⟨b,o,g,rfl,m⟩
 ·cases p with
  | none =>
   have d:=AnyE.slices_Clone_nil cloneRow 0 c w;change Calls H 102 _ _ _ at d;refine d.mono fun e w' ⟨he,hw⟩=>⟨_,he,?_,?_⟩
   ·exact Qz _ _ _ _
   ·subst hw;exact Qh _ _
  | some ad=>exact dI ad c w
 ·obtain⟨i,j,k,l,f⟩:=Tryz.rowInfo;have d:=AnyE.slices_Clone cloneRow i _ 3 32 j k l f rfl (by decide) Xm b o xs.length g (Az xs) w (Ft xs) (by unfold Qf;omega) (by omega) (KG m) (KD xs);change Calls H 102 _ _ _ at d;exact d.mono fun e w' ⟨v',he,ho,_,hb⟩=>⟨v',he,ho,hb⟩
theorem NR (v:Qa) (xs:List Rw) (B:Nat) (w0 w:S) (r:Below B w0 w) (C:B<=w0.heap.size) (h:w.ownsRow B 62 3 v xs.length (Az xs)) (E:xs.length<=20000) :
  Calls H 103 #[v,.func (.func 104) #[] #[]] w fun e w'=>e=G (Qn #[])/\Ap w' v (A3 xs)/\Below B w0 w'/\∀(k:Nat) (d:Array Qa) (t:TypeId) (f:Nat×Nat),w.heap[k]? =Z (Qc d t f)->∃cs',w'.heap[k]? =Z (Qc cs' t f):=by
 by_cases l:v=Qd I 0 0
 ·subst l;have s:xs= []:=by
   rcases h.2 with⟨_,z⟩|⟨g,c,D,e,_⟩
   ·exact Xl.1 z
   ·cases e
  subst s;have b:=AnyF.slices_SortFunc_none sortRow I 0 (.func (.func 104) #[] #[]) w;change Calls H 103 _ _ _ at b;refine b.mono fun e w' ⟨he,hw⟩=>⟨he,Qk ⟨I,0,rfl,by simp[A3]⟩,?_⟩;subst hw;exact⟨r,fun k d t f h=>⟨d,h⟩⟩
 ·obtain⟨g,c,rfl,p,i,q⟩:=dG h l;have u:=enters_of func104 (by kernel_rfl) rfl;have b:=AnyQ.slices_SortFunc_total sortRow 3 isAgg62 Xm AM Jb Jc AP LP 104 #[] g 0 c xs.toArray w u (dF _ _ _ _) q i (by simp;omega) RN;change Calls H 103 _ _ _ at b;rw[XU]at b;refine b.mono fun e w' ⟨he,n,os,hw⟩=>⟨he,?_,?_,?_⟩
  ·subst hw;refine Qj ⟨g,0,c,by rw[G3],dH ?_⟩;exact holdsK_sortWorldK AM 3 w g 0 n xs.toArray (A3 xs).toArray os i q (by simp[G3])
  ·subst hw;have m:Below B w0 (putRowK AM 3 (Q4 w n) g 0 (xs.toArray.toList.mergeSort fun x y=> !(Qr AP) y x).toArray):=XW r p;exact m.trans ((GR os).mono (Qw C m.size))
  ·subst hw;intro k d t f j;have o:=(Array.getElem?_eq_some_iff.1 j).1;simp only[sortWorldK,Q1,putRowK,QS,Xn,Q4];rw[Array.getElem?_append_left (by simpa using o),Xy];split
   ·exact⟨_,by rw[j];rfl⟩
   ·exact⟨d,j⟩
theorem NT (v:Qa) (xs:List Rw) (w:S) (h:Ap w v xs) (d:xs.length<=20000) :
  Calls H 53 #[v] w fun e w'=> ∃v',e=G v'/\Ap w' v' (A3 xs)/\BL w w':=by
 have f:=LW v xs w h d
 go_enter func53,ntmps53
 go_wp2_with (first
  | (go_at_call 102;refine f.mono ?_;rintro e i ⟨j,rfl,b,k⟩;have g:=NR j xs w.heap.size w i k (Ql _) b d;clear b)
  | (go_at_call 103;refine g.mono ?_;rintro e m ⟨rfl,l,c,-⟩))
 go_ret;exact⟨_,rfl,l,c⟩
theorem Sa:∀xs ys:List Rw,QC (fun x y=>decide (x=y)) xs ys=decide (xs=ys)
 | [], []=>by simp[QC]
 | [],_ :: _=>by simp[QC]
 | _ :: _, []=>by simp[QC]
 | x :: xs,y :: ys=>by
  have:=Sa xs ys;simp only[QC,this];by_cases h:x=y<;>by_cases b:xs=ys<;>simp [h,b]
theorem NU (p q:Option Qi) (n m c d:Nat) (w:S) (f:n=0\/m=0) (g:n<=20000) (i:m<=20000) :
  Calls H 52 #[Qd p n c,Qd q m d] w fun e w'=>e=G (Qe (decide (n=m)))/\w'=w:=by
 by_cases e:n=m
 ·obtain rfl:n=0:=by omega
  subst e
  go_enter func52,ntmps52
  go_wp2;refine QT 1 ?_;rw[QU];go_wp2;go_ret;exact⟨rfl,rfl⟩
 ·have b:((n:Int) == (m:Int))=Qb:=by simp;omega
  go_enter func52,ntmps52
  go_wp2;go_ret;exact⟨by simp[e],rfl⟩
theorem NV (w:S) (q:Nat):BL w (w.drewN q):=⟨rfl,rfl,rfl,Ql _,fun _ _=>rfl⟩
theorem Sb {w:S} {b o:Nat} {xs:List Rw} (h:Ed w b o xs):∀j,j<xs.length->∀i v,(AM xs[j]!)[i]? =Z v->w.cell? ⟨b,o+j*3+i,I⟩=Z v:=by
 intro j f i v c;rw[getElem!_pos xs j f]at c;have g:i<3:=by
  rcases Qm i (AM xs[j]).length with d | d
  ·rwa [Jb]at d
  ·rw[Qu d]at c;cases c
 have:=KG h (j*3+i) v (by rw[Iz xs j i f g];exact c);rw[<-Xk]at this;exact this
theorem dJ (v v':Qa) (xs ys:List Rw) (w:S) (h:Ap w v xs) (s:Ap w v' ys) (z:xs.length<=20000) (t:ys.length<=20000) :
  Calls H 52 #[v,v'] w fun e w'=>e=G (Qe (decide (xs=ys)))/\BL w w':=by
 have j:∀zs:List Rw,decide (0=zs.length)=decide (([]:List Rw)=zs):=fun zs=>by cases zs<;>simp
 have k:∀zs:List Rw,decide (zs.length=0)=decide (zs=([]:List Rw)):=fun zs=>by cases zs<;>simp
 rcases h with⟨p,c,rfl,rfl⟩|⟨b,o,g,rfl,u⟩
 ·rcases s with⟨l,m,rfl,rfl⟩|⟨n,r,f,rfl,i⟩
  ·refine(NU p l 0 0 c m w (Qk rfl) (by omega) (by omega)).mono fun e w' ⟨he,hw⟩=>⟨he,?_⟩;subst hw;exact Qh _ _
  ·refine(NU p _ 0 ys.length c f w (Qk rfl) (by omega) t).mono fun e w' ⟨he,hw⟩=>⟨by rw[he,j],?_⟩;subst hw;exact Qh _ _
 ·rcases s with⟨l,m,rfl,rfl⟩|⟨n,r,f,rfl,i⟩
  ·refine(NU _ l xs.length 0 g m w (Qj rfl) z (by omega)).mono fun e w' ⟨he,hw⟩=>⟨by rw[he,k],?_⟩;subst hw;exact Qh _ _
  ·have d:=AnyQ.slices_Equal equalRow 3 isAgg62 Xm AM Jb (fun x y=>decide (x=y)) NF b o xs.length g n r ys.length f xs ys w (Ql _) (Ql _) (by omega) (by omega) (Sb u) (Sb i);change Calls H 52 _ _ _ at d;rw[Xo,Xo,Sa]at d;refine d.mono fun e w' ⟨he,q,hw⟩=>⟨he,?_⟩;subst hw;exact NV w q
theorem Sc (v v':Qa) (xs ys:List Rw) (w:S) (h:Ap w v xs) (z:Ap w v' ys) (n:xs.length<=20000) (f:ys.length<=20000) :
  Calls H 20 #[v,v'] w fun e w'=>e=G (Qe (decide (A3 xs=A3 ys)))/\BL w w':=by
 have i:=NT v xs w h n;generalize m:decide (A3 xs=A3 ys)=r;have o:A (decide (A3 xs=A3 ys)=r):=m;clear m
 go_enter func20,ntmps20
 go_wp2_with fail
 refine i.mono ?_;rintro e q ⟨s,rfl,j,b⟩;have d:=NT v' ys q (z.below b) f;clear i
 go_wp2_with fail
 refine d.mono ?_;rintro e t ⟨u,rfl,k,c⟩;have g:=dJ s u (A3 xs) (A3 ys) t (j.below c) k (by rw[G3];exact n) (by rw[G3];exact f);rw[o.out]at g;clear d
 go_wp2_with fail
 refine g.mono ?_;rintro e y ⟨rfl,l⟩;have p:BL w y:=(Ad b c).trans (l.mono (Qw b.size c.size));clear g;go_wp2;go_ret;exact⟨rfl,p⟩
theorem dK (x y:Rw) (w:S) :
  Calls H 355 #[Qg #[J x.1,U O x.2.1,U O x.2.2],Qg #[J y.1,U O y.2.1,U O y.2.2]] w fun e w'=>e=G (Qe (Qr AP x y))/\BL w w':=by
 have c:=RO x y;unfold Qr;obtain⟨d,f,g⟩:=x;obtain⟨i,j,k⟩:=y;have b:BL w ((w.alloc (Qc #[J d,U O f,U O g] 62)).alloc (Qc #[J i,U O j,U O k] 62)):=(Af _ _).alloc (by simp) _
 go_enter func355,ntmps355
 go_wp2_with (go_at_call 104;refine(c _).mono ?_;rintro e m ⟨rfl,q,l,n⟩)
 go_ret;refine⟨rfl,?_⟩;exact(AK b q).trans ((GR l).mono (AK b q).size)
theorem dL {xs ys:List Rw} {n:Nat} (h:∀i,i<n->xs[i]? =ys[i]?) (e:xs[n]? =ys[n]?):∀i,i<n+1->xs[i]? =ys[i]? :=fun i hi=>by
 rcases Qm i n with b | b
 ·exact h i b
 ·obtain rfl:i=n:=by omega
  exact e
theorem dM (b o W X Y z:Nat) (xs ys:List Rw) (w:S) (hx:Ed w b o xs) (hy:Ed w W X ys) (hl:xs.length<=20000) (he:xs.length=ys.length) :
  Calls H 17 #[Qd (Z ⟨b,o,I⟩) xs.length Y,Qd (Z ⟨W,X,I⟩) ys.length z] w fun e w'=>e=G (Qe (decide (xs=ys)))/\∃n,w'=w.drewN n:=by
 rw[<-he];generalize Q:xs.length=L at hl ⊢;have B:A _:=Q;have C:A _:=he▸Q;generalize g:decide (xs=ys)=r;have D:A _:=g
 go_enter Xp,Xq
 go_wp2
 go_loopw [5] (fun k wr=> ∃n:Nat,n<=L/\(∀i,i<n->xs[i]? =ys[i]?)/\k=U O n/\∃m,wr=w.drewN m) (fun k _=>L-(Qs k).toNat)
 case atStart=>exact ⟨0,by omega,by omega,rfl,0,rfl⟩
 case round =>
  obtain⟨n,hn,ht,rfl,m,rfl⟩:=hrel;have E:A _:=ht;by_cases j:n<L
  ·have d:n<xs.length:=by rw[B.out];exact j
   have f:n<ys.length:=by rw[C.out];exact j
   obtain⟨h1,h2,h3⟩:=hx n d;obtain⟨k1,k2,k3⟩:=hy n f;have c:=NF.1 xs[n] ys[n];have aa:=NF.2;generalize R:xs[n]=x at h1 h2 h3 c;generalize T:ys[n]=y at k1 k2 k3 c;have F:A _:=R;have K:A _:=T;obtain⟨p,q,s⟩:=x;obtain⟨t,u,v⟩:=y;simp only[AM]at c;by_cases e:((p,q,s):Rw)=(t,u,v)
   ·have M:∀w,Sem.run H (binOp .neq 62 (Qg #[J p,U O q,U O s]) (Qg #[J t,U O u,U O v])) w= .ok (Qe Qb) w:=fun w=>by rw[c w,decide_eq_true e];rfl
    have l:A _:=e;go_wp2
    go_quiet (fail)
    go_wp2;go_roundw
    case rel=>exact ⟨n+1,by omega,dL E.out (by rw[Qv d,Qv f,F.out,K.out,l.out]),by go_num,_,rfl⟩
    case measure=>simp [Qs];omega
   ·have M:∀w,Sem.run H (binOp .neq 62 (Qg #[J p,U O q,U O s]) (Qg #[J t,U O u,U O v])) w= .ok (Qe V) w:=fun w=>by rw[c w,decide_eq_false e];rfl
    have l:A _:=e;have g:r=Qb:=by
     rw[<-D.out,decide_eq_false_iff_not];intro e';subst e';exact l.out (F.out.symm.trans K.out)
    subst g;go_wp2
    go_quiet (fail)
    go_wp2;go_ret;exact⟨rfl,_,World.drewN_drewN _ _ _⟩
  ·have g:r=V:=by
    rw[<-D.out,decide_eq_true_eq];refine List.ext_getElem? fun i=>?_;rcases Qm i n with P | P
    ·exact E.out i P
    ·rw[Qu (by rw[B.out];omega),Qu (by rw[C.out];omega)]
   subst g;have N:n=L:=by omega
   subst N;go_wp2;go_ret;exact⟨rfl,m,rfl⟩
theorem LX (p q:Option Qi) (n m c d:Nat) (w:S) (f:n≠m\/n=0) (g:n<=20000) (i:m<=20000) :
  Calls H 17 #[Qd p n c,Qd q m d] w fun e w'=>e=G (Qe (decide (n=m)))/\w'=w:=by
 by_cases e:n=m
 ·obtain rfl:n=0:=by omega
  subst e
  go_enter Xp,Xq
  go_wp2;refine QT 1 ?_;rw[QU];go_wp2;go_ret;exact⟨rfl,rfl⟩
 ·have b:((n:Int) == (m:Int))=Qb:=by simp;omega
  go_enter Xp,Xq
  go_wp2;go_ret;exact⟨by simp[e],rfl⟩
theorem Sd (v v':Qa) (xs ys:List Rw) (w:S) (h:Ap w v xs) (t:Ap w v' ys) (n:xs.length<=20000) (j:ys.length<=20000) :
  Calls H 17 #[v,v'] w fun e w'=>e=G (Qe (decide (xs=ys)))/\BL w w':=by
 have k:∀zs:List Rw,decide (0=zs.length)=decide (([]:List Rw)=zs):=fun zs=>by cases zs<;>simp
 rcases h with⟨p,c,rfl,rfl⟩|⟨b,o,g,rfl,u⟩
 ·rcases t with⟨l,m,rfl,rfl⟩|⟨r,s,f,rfl,i⟩
  ·refine(LX p l 0 0 c m w (Qj rfl) (by omega) (by omega)).mono fun e w' ⟨he,hw⟩=>⟨he,?_⟩;subst hw;exact Qh _ _
  ·refine(LX p _ 0 ys.length c f w (Qj rfl) (by omega) j).mono fun e w' ⟨he,hw⟩=>⟨by rw[he,k],?_⟩;subst hw;exact Qh _ _
 ·rcases t with⟨l,m,rfl,rfl⟩|⟨r,s,f,rfl,i⟩
  ·refine(LX _ l xs.length 0 g m w (by omega) n (by omega)).mono fun e w' ⟨he,hw⟩=>⟨?_,?_⟩
   ·rw[he];cases xs<;>simp
   ·subst hw;exact Qh _ _
  ·by_cases d:xs.length=ys.length
   ·refine(dM b o r s g f xs ys w u i n d).mono fun e w' ⟨he,q,hw⟩=>⟨he,?_⟩;subst hw;exact NV w q
   ·refine(LX _ _ xs.length ys.length g f w (Qk d) n j).mono fun e w' ⟨he,hw⟩=>⟨?_,?_⟩
    ·rw[he];have:¬xs=ys:=fun e=>d (e▸rfl);simp[this,d]
    ·subst hw;exact Qh _ _
theorem dN (v:Qa) (xs:List Rw) (w:S) (h:Ap w v xs) (F:xs.length<=20000) :
  Calls H 26 #[v] w fun e w'=> ∃v',e=G v'/\w'.ownsRow w.heap.size 62 3 v' xs.length (Az xs)/\BL w w':=by
 rcases h with⟨p,c,rfl,rfl⟩|⟨b,o,y,rfl,D⟩
 ·cases p with
  | none =>
   go_enter Xr,Xs
   go_wp2;go_ret;exact⟨_,rfl,Qz _ _ _ _,Qh _ _⟩
  | some ad =>
   obtain⟨l,m,n,q,i⟩:=Tryz.rowInfo
   go_enter Xr,Xs
   go_wp2_with (at_builtin;refine QR _ rfl _ _ 35 rfl w.heap.size 62 l (Qg #[J ⟨#[]⟩,U O 0,U O 0]) 3 32 QB m n q i rfl (by decide) _ _ _ rfl (Qz w w.heap.size 62 3) ad 0 c [] rfl ?qc1 ?qc2 ?qc3 ?qc4 ?qc5 ?qc6 ?_)
   case qc1=>rfl
   case qc2=>intro j u r;simp at r
   case qc3=>intro u B;cases B
   case qc4=>decide
   case qc5=>decide
   case qc6=>exact Ql _
   intro v' C g f s;go_wp2;go_ret;refine⟨v',rfl,by simpa [Az] using g,?_⟩;exact(Qh _ w).grown f (Ql _) (by intro k t;simp[Q3]at t)
 ·obtain⟨l,m,n,q,i⟩:=Tryz.rowInfo;have d:A (Ed w b o xs):=D;generalize E:xs.length=L at F ⊢;have z:A (xs.length=L):=E
  go_enter Xr,Xs
  go_wp2_with (at_builtin;refine QR _ rfl _ _ 35 rfl w.heap.size 62 l (Qg #[J ⟨#[]⟩,U O 0,U O 0]) 3 32 QB m n q i rfl (by decide) _ _ _ rfl (Qz w w.heap.size 62 3) ⟨b,o,I⟩ L y (Az xs) rfl ?qc1 ?qc2 ?qc3 ?qc4 ?qc5 ?qc6 ?_)
  case qc1=>rw [Ft,z.out]
  case qc2 =>
   intro j u r;rw[Addr.add_lit];exact KG d.out j u r
  case qc3=>exact KD xs
  case qc4=>rw [Qy];unfold Qf;omega
  case qc5=>rw [Qy];omega
  case qc6=>exact Ql _
  intro v' C g f s;go_wp2;go_ret;refine⟨v',rfl,by simpa using g,?_⟩;exact(Qh _ w).grown f (Ql _) (by intro k t;simp[Q3]at t)
theorem Eu {w w':S} {base:Nat} {e:TypeId} {b:Nat} {v:Qa} {n:Nat} {xs:List Qa} (h:w.ownsRow base e b v n xs) (p:BL w w'):w'.ownsRow base e b v n xs:=by
 obtain⟨l,c⟩:=h;refine⟨l,?_⟩;rcases c with c | ⟨g,j,k,m,o,d,r⟩
 ·exact Qk c
 ·refine Qj ⟨g,j,k,m,o,?_,r⟩;have i:g<w.heap.size:=by
   rcases Qm g w.heap.size with f | f
   ·exact f
   ·rw[Q9 f]at d;cases d
  rw[p.block g i];exact d
theorem NW (x:Rw):Az [x]=AM x:=by simp[Az]
theorem NX (p:Rw->Bool) (xs:List Rw) (n:Nat) (h:n<xs.length):(xs.take (n+1)).filter p=(xs.take n).filter p++if p xs[n] then [xs[n]] else []:=by
 rw[List.take_succ_eq_append_getElem h,List.filter_append];cases b:p xs[n]<;>simp [b]
def Se (g:Nat) (cb:Array Qa) (p:Rw->Bool) (w:S):Prop :=
 ∀(x:Rw) (W:S),BL w W->Calls H g (#[Qg #[J x.1,U O x.2.1,U O x.2.2]]++cb) W fun e w'=>e=G (Qe (p x))/\BL W w'
theorem dO (b o af:Nat) (xs:List Rw) (g:Nat) (cb:Array Qa) (p:Rw->Bool) (w:S) (eg:∀args w,(callFunc g args).run H w= .ok (.enter g args) w) (hx:Ed w b o xs) (hl:xs.length<=20000) (hp:Se g cb p w) :
  Calls H 49 #[Qd (Z ⟨b,o,I⟩) xs.length af,.func (.func g) #[] cb] w fun e w'=> ∃v',e=G v'/\w'.ownsRow w.heap.size 62 3 v' (xs.filter p).length (Az (xs.filter p))/\BL w w':=by
 obtain⟨i0,ac,ad,ae,N⟩:=Tryz.rowInfo;generalize hL:xs.length=L at hl ⊢;have Q:A _:=hL
 go_enter func49,ntmps49
 go_wp2
 go_loopw [5,10] (fun kept k wr=> ∃n:Nat,n<=L/\k=U O n/\BL w wr/\wr.ownsRow w.heap.size 62 3 kept ((xs.take n).filter p).length (Az ((xs.take n).filter p))) (fun _ k _=>L-(Qs k).toNat)
 case atStart=>exact ⟨0,by omega,rfl,Qh _ _,by simp[Az];exact Qz _ _ _ _⟩
 case round =>
  obtain⟨n,hn,rfl,D,q⟩:=hrel;by_cases R:n<L
  ·have z:n<xs.length:=by rw[Q.out];exact R
   obtain⟨h1,h2,h3⟩:=hx.below D n z;have T:=NX p xs n z;generalize ak:xs[n]=x at h1 h2 h3 T;have W:A _:=T;obtain⟨f,i,l⟩:=x;have m:BL w (wr.alloc (Qc #[J f,U O i,U O l] 62)):=D.alloc D.size _;have r:=hp (f,i,l) _ m;have y:A _:=q;have M:((xs.take n).filter p).length<=n:=Qw (List.length_filter_le _ _) (List.length_take_le _ _);have B:A _:=M;have c0:(wr.alloc (Qc #[J f,U O i,U O l] 62)).cell? ⟨wr.heap.size,0,I⟩=Z (J f):=by simp
   have c1:(wr.alloc (Qc #[J f,U O i,U O l] 62)).cell? ⟨wr.heap.size,1,I⟩=Z (U O i):=by simp
   have c2:(wr.alloc (Qc #[J f,U O i,U O l] 62)).cell? ⟨wr.heap.size,2,I⟩=Z (U O l):=by simp
   have C:BL wr (wr.alloc (Qc #[J f,U O i,U O l] 62)):=Af _ _;cases v:p (f,i,l)
   ·rw[v]at r;have s:A ((xs.take (n+1)).filter p=(xs.take n).filter p):=by
     have:=W.out;rw[v]at this;simpa [A] using this
    go_wp2_with (go_at_fn g;refine r.mono ?_;rintro e P ⟨rfl,c⟩)
    have t:=Ad m c;have X:=Ad C c;go_roundw
    case rel=>exact ⟨n+1,by omega,by go_num,t,by rw[s.out];exact Eu y.out X⟩
    case measure=>simp [Qs];omega
   ·rw[v]at r;have s:A ((xs.take (n+1)).filter p=(xs.take n).filter p++ [(f,i,l)]):=by
     have:=W.out;rw[v]at this;simpa [A] using this
    generalize hK:(xs.take n).filter p=K at y B s
    go_wp2_with (first
     | (go_at_fn g;refine r.mono ?_;rintro e P ⟨rfl,c⟩;have d0:=Aa c c0;have d1:=Aa c c1;have d2:=Aa c c2)
     | (at_builtin;refine QR _ rfl _ _ 35 rfl w.heap.size 62 i0 (Qg #[J ⟨#[]⟩,U O 0,U O 0]) 3 32 QB ac ad ae N rfl (by decide) u5 K.length (Az K) rfl ?qc0 ⟨P.heap.size,0,I⟩ 1 1 (AM (f,i,l)) rfl ?qc1 ?qc2 ?qc3 ?qc4 ?qc5 ?qc6 ?_))
    case qc0=>exact Eu y.out ((Ad C c).alloc (Qw C.size c.size) _)
    case qc1=>rfl
    case qc2 =>
     intro j u d;rw[Addr.add_lit,Qy]
     match j,d with
     | 0,d=>simp [AM]at d;subst d;simp
     | 1,d=>simp [AM]at d;subst d;simp
     | 2,d=>simp [AM]at d;subst d;simp
     | j+3,d=>simp [AM]at d
    case qc3=>exact Jc _
    case qc4=>have:=B.out;unfold Qf;omega
    case qc5=>have:=B.out;omega
    case qc6=>exact Qw m.size (Qw c.size (by simp))
    intro v' w4 E F ag;have t:BL w (P.alloc (Qc #[J f,U O i,U O l] 62)):=(Ad m c).alloc (Qw m.size c.size) _;have Y:=t.grown F t.size (fun k hk=>by
     rcases y.out.2 with⟨e,_⟩|⟨g',ah,ai,e,aj,_⟩
     ·rw[e]at hk;simp[Q3]at hk
     ·rw[e]at hk;simp[Q3]at hk;omega)
    have aa:A _:=E;go_wp2;go_roundw
    case rel=>exact ⟨n+1,by omega,by go_num,Y,by rw[s.out,QM,KE,NW];exact aa.out⟩
    case measure=>simp [Qs];omega
  ·have ab:n=L:=by omega
   subst ab;have ht:=List.take_of_length_le (by rw[Q.out];omega);rw[ht]at q;have y:A _:=q;go_wp2;go_ret;exact⟨u5,rfl,y.out,D⟩
theorem Sf (v:Qa) (xs:List Rw) (g:Nat) (c:Array Qa) (p:Rw->Bool) (w:S) (k:∀args w,(callFunc g args).run H w= .ok (.enter g args) w) (l:Ap w v xs) (f:xs.length<=20000) (i:Se g c p w) :
  Calls H 49 #[v,.func (.func g) #[] c] w fun e w'=> ∃v',e=G v'/\w'.ownsRow w.heap.size 62 3 v' (xs.filter p).length (Az (xs.filter p))/\BL w w':=by
 rcases l with⟨m,n,rfl,rfl⟩|⟨b,o,d,rfl,j⟩
 ·clear i f
  go_enter func49,ntmps49
  go_wp2;refine QT 1 ?_;rw[QU];go_wp2;go_ret;exact⟨_,rfl,Qz _ _ _ _,Qh _ _⟩
 ·exact dO b o d xs g c p w k j f i
def Bs (lo hi:Int) (x:Rw):Bool:=decide (lo<=x.2.1) && decide (x.2.1<=hi)
theorem dP (x:Rw) (lo hi:Int) (a c:Qi) (w:S) (k:w.cell? a=Z (U O lo)) (l:w.cell? c=Z (U O hi)) :
  Calls H 159 #[Qg #[J x.1,U O x.2.1,U O x.2.2],Qq (Z a),Qq (Z c)] w fun e w'=>e=G (Qe (Bs lo hi x))/\BL w w':=by
 obtain⟨f,b,g⟩:=x;dsimp only;have m:(w.alloc (Qc #[J f,U O b,U O g] 62)).cell? a=Z (U O lo):=Aa (Af _ _) k;have n:(w.alloc (Qc #[J f,U O b,U O g] 62)).cell? c=Z (U O hi):=Aa (Af _ _) l;by_cases i:lo<=b
 ·by_cases j:b<=hi
  ·have d:Bs lo hi (f,b,g)=V:=by simp[Bs,i,j]
   rw[d]
   go_enter QV,Xt
   go_wp2;go_ret;exact⟨rfl,Af _ _⟩
  ·have d:Bs lo hi (f,b,g)=Qb:=by simp[Bs,j]
   rw[d]
   go_enter QV,Xt
   go_wp2;go_ret;exact⟨rfl,Af _ _⟩
 ·have d:Bs lo hi (f,b,g)=Qb:=by simp[Bs,i]
  rw[d]
  go_enter QV,Xt
  go_wp2;go_ret;exact⟨rfl,Af _ _⟩
theorem dQ (v:Qa) (xs:List Rw) (lo hi:Int) (w:S) (g:Ap w v xs) (i:xs.length<=20000) :
  Calls H 84 #[v,U O lo,U O hi] w fun e w'=> ∃v',e=G v'/\(∃B,B>=w.heap.size/\w'.ownsRow B 62 3 v' (xs.filter (Bs lo hi)).length (Az (xs.filter (Bs lo hi))))/\BL w w':=by
 have b:BL w ((w.alloc (Qc #[U O lo] 3)).alloc (Qc #[U O hi] 3)):=(Af _ _).alloc (by simp) _;have d:=enters_of QV (by kernel_rfl) rfl;have hcut:=Sf v xs 159 #[Qq (Z ⟨w.heap.size,0,I⟩),Qq (Z ⟨w.heap.size+1,0,I⟩)] (Bs lo hi) _ d (g.below b) i
  (fun x W hW=>dP x lo hi ⟨w.heap.size,0,I⟩ ⟨w.heap.size+1,0,I⟩ W (Aa hW (by simp)) (Aa hW (by simp)))
 go_enter func84,ntmps84
 go_wp2_with (go_at_call 49;refine hcut.mono ?_;rintro e j ⟨k,rfl,f,c⟩)
 go_ret;exact⟨_,rfl,⟨_,b.size,f⟩,(Ad b c)⟩
theorem dR (v:Qa) (xs:List Rw) (lo hi:Int) (w:S) (b:Ap w v xs) (c:xs.length<=20000) :
  Calls H 84 #[v,U O lo,U O hi] w fun e w'=> ∃v',e=G v'/\Ap w' v' (xs.filter (Bs lo hi))/\BL w w' :=
 (dQ v xs lo hi w b c).mono fun _ _ ⟨v',he,⟨_,_,ho⟩,hb⟩=>⟨v',he,(I0 ho).1,hb⟩
def A4 (w:S) (v:Qa) (zs:List Int):Prop :=
 (∃p c,v=Qd p 0 c/\zs= [])\/∃b o cap,v=Qd (Z ⟨b,o,I⟩) zs.length cap/\∀j (h:j<zs.length),w.cell? ⟨b,o+j,I⟩=Z (U O zs[j])
theorem A4.below {w w':S} {v:Qa} {zs:List Int} (h:A4 w v zs) (g:BL w w'):A4 w' v zs:=by
 rcases h with h | ⟨b,o,c,d,f⟩
 ·exact Qk h
 ·exact Qj ⟨b,o,c,d,fun j hj=>Aa g (f j hj)⟩
theorem KH {zs:List Int} {j:Nat} (h:j<zs.length):zs.getD j 0=zs[j]:=by simp[List.getD,Qv h]
theorem LY (v:Qa) (zs:List Int) (w:S) (h:A4 w v zs) (g:zs.length<=20000) :
  Calls H 45 #[v] w fun e w'=> ∃v',e=G v'/\w'.ownsRow w.heap.size 3 1 v' zs.length (zs.map (U O))/\BL w w':=by
 rcases h with⟨p,c,rfl,rfl⟩|⟨b,o,d,rfl,f⟩
 ·cases p with
  | none =>
   refine(slices_Clone_int_nil 0 c w).mono fun e w' ⟨he,hw⟩=>⟨_,he,Qz _ _ _ _,?_⟩;subst hw;exact Qh _ _
  | some ad=>exact (slices_Clone_int_zero ad c w).mono fun e w' ⟨v',he,ho,_,hb⟩=>⟨v',he,ho,hb⟩
 ·refine(slices_Clone_int b o zs.length d zs w (Ql _) (by omega) (fun j hj=>by rw[KH hj];exact f j hj)).mono fun e w' ⟨v',he,ho,_,hb⟩=>⟨v',he,?_,hb⟩;rw[Xo]at ho;exact ho
def Bt (zs:List Int):List Int:=zs.mergeSort fun x y=>decide (x<=y)
theorem Jd (zs:List Int):(Bt zs).length=zs.length:=by simp[Bt]
theorem Sg (zs:List Int) (x:Int):x∈Bt zs↔x∈zs:=(XV _ _).mem_iff
theorem Sh (zs:List Int):(Bt zs).Pairwise (· <= ·):=by
 have h:=XX (le:=fun x y:Int=>decide (x<=y)) (fun a b c h1 h2=>by simp at *;omega) (fun a b=>by simp;omega) zs;exact h.imp fun h=>by simpa using h
theorem dS (v:Qa) (zs:List Int) (B:Nat) (w0 w:S) (t:Below B w0 w) (E:B<=w0.heap.size) (h:w.ownsRow B 3 1 v zs.length (zs.map (U O))) (L:zs.length<=20000) (c:Nat) (u:Qa) (i:w.cell? ⟨c,0,I⟩=Z u) (z:v.ownBlock≠Z c) :
  Calls H 48 #[v] w fun e w'=>e=G (Qn #[])/\A4 w' v (Bt zs)/\Below B w0 w'/\w'.cell? ⟨c,0,I⟩=Z u:=by
 by_cases k:v=Qd I 0 0
 ·subst k;have C:zs= []:=by
   rcases h.2 with⟨_,r⟩|⟨g,d,F,e,_⟩
   ·exact Xl.1 r
   ·cases e
  subst C;have b:=AnyM.slices_Sort_int_none Tryz.sortInt I 0 w;change Calls H 48 _ _ _ at b;refine b.mono fun e w' ⟨he,hw⟩=>⟨he,Qk ⟨I,0,rfl,by simp[Bt]⟩,?_,?_⟩
  ·subst hw;exact t
  ·subst hw;exact i
 ·obtain⟨g,d,rfl,q,f,r,K,D,s⟩:=holds_of_ownsRow h k;have b:=AnyM.slices_Sort_int Tryz.sortInt g 0 d zs w s f (by omega);change Calls H 48 _ _ _ at b;have l:c≠g:=fun e=>z (by simp[Q3,e]);refine b.mono fun e w' ⟨he,n,os,hw⟩=>⟨he,?_,?_,?_⟩
  ·subst hw;refine Qj ⟨g,0,d,by rw[Jd],fun j hj=>?_⟩;have m:=holds_grow (U O) _ os g 0 (Bt zs).toArray (by simpa [QS,Xn,Q4] using f) (holds_putRow (U O) (Q4 w n) g 0 zs.toArray (Bt zs).toArray s (by simp[Jd]));have:=(m j (by simpa using hj)).1;rw[show ((Bt zs).toArray)[j]! =(Bt zs)[j] by simp[getElem!_pos,hj]]at this;exact this
  ·subst hw;have o:Below B w0 (QS (U O) (Q4 w n) g 0 (zs.mergeSort fun x y=>decide (x<=y)).toArray):=XW t q;exact o.trans ((GR os).mono (Qw E o.size))
  ·subst hw;have p:c<w.heap.size:=BF i;rw[cell?_grow _ _ _ (by simpa [QS,Xn,Q4] using p),cell?_putRow_other _ _ _ _ _ _ (Qk l)];exact i
def Ga (zs:List Int) (x:Rw):Bool:= !zs.contains x.2.1
theorem dT (x y z:Rw) (b:(!(Qr AP) y x)=V) (c:(!(Qr AP) z y)=V):(!(Qr AP) z x)=V:=by
 simp only[XY]at *;exact LP.ntrans z y x c b
theorem dU (x y:Rw):((!(Qr AP) y x) || (!(Qr AP) x y))=V:=by
 cases h:Qr AP y x
 ·rfl
 ·cases b:Qr AP x y
  ·rfl
  ·have:=LP.trans x y x b h;rw[LP.irrefl]at this;cases this
theorem LZ (xs:List Rw):(A3 xs).Pairwise fun x y=>(!(Qr AP) y x)=V :=
 XX dT dU xs
theorem Je {xs ys:List Rw} (h:xs.Perm ys):A3 xs=A3 ys:=by
 refine List.Perm.eq_of_pairwise (le:=fun x y=>(!(Qr AP) y x)=V) (fun a b _ _ h1 h2=>?_) (LZ xs) (LZ ys) (((Dy xs).trans h).trans (Dy ys).symm);simp only[XY]at h1 h2;exact RN a b h2 h1
def NY (x:Rw):Prop:= -9223372036854775808<=x.2.1/\x.2.1<=9223372036854775807
theorem dV (x:Rw) (h:A0 x=0):(Iy x).data.toList=FY x:=by
 unfold Iy;rw[if_pos h];simp[FY,sp,Ab,Ya]
theorem dW {zs:List Int} {n:Nat} {x:Int} (h:∀j (h:j<zs.length),j<n->zs[j]≠x) (c:n<zs.length) (e:zs[n]≠x):∀j (h:j<zs.length),j<n+1->zs[j]≠x:=fun j hj hjn=>by
 rcases Qm j n with b | b
 ·exact h j hj b
 ·obtain rfl:j=n:=by omega
  exact e
theorem Si (v:Qa) (zs:List Int) (x:Int) (w:S) (h:A4 w v zs) (g:zs.length<=Qf) :
  Calls H 13 #[U O x,v] w fun e w'=>e=G (Qe (zs.contains x))/\w'=w:=by
 unfold Qf at g;rcases h with⟨p,c,rfl,rfl⟩|⟨b,o,M,rfl,C⟩
 ·clear g
  go_enter func13,ntmps13
  go_wp2;refine QT 1 ?_;rw[QU];go_wp2;go_ret;exact⟨rfl,rfl⟩
 ·generalize D:zs.length=L at g ⊢;have i:A (zs.length=L):=D;clear D;generalize d:zs.contains x=r;have l:A (zs.contains x=r):=d;clear d
  go_enter func13,ntmps13
  go_wp2
  go_loop [5] (fun k=> ∃n:Nat,n<=L/\(∀j (h:j<zs.length),j<n->zs[j]≠x)/\k=U O n) (fun k=>L-(Qs k).toNat)
  case atStart=>exact ⟨0,by omega,by omega,rfl⟩
  case round =>
   obtain⟨n,Q,u,rfl⟩:=hrel;have m:A (∀j (h:j<zs.length),j<n->zs[j]≠x):=u;clear u;by_cases q:n<L
   ·have f:n<zs.length:=by rw[i.out];exact q
    have K:=C n f;generalize F:zs[n]=y at K;have s:A (zs[n]=y):=F;clear F C;have N:(n:Int)<(L:Int):=by omega
    by_cases e:y=x
    ·have d:r=V:=by
      rw[<-l.out];simp only[XZ];rw[<-e,<-s.out];exact X3 _
     subst d e;go_wp2;go_ret;exact⟨rfl,rfl⟩
    ·have P:(y == x)=Qb:=by simpa using e
     have E:A (¬y=x):=e;clear e;go_wp2;go_round
     case rel=>exact ⟨n+1,by omega,dW m.out f (by rw[s.out];exact E.out),by go_num⟩
     case measure=>simp [Qs];omega
   ·have d:r=Qb:=by
     rw[<-l.out];rw[Bool.eq_false_iff];intro B;rw[XZ]at B;obtain⟨j,z,e⟩:=List.mem_iff_getElem.1 B;exact m.out j z (by rw[i.out]at z;omega) e
    subst d;have t:n=L:=by omega
    subst t;go_wp2;go_ret;exact⟨rfl,rfl⟩
theorem Sj (wr:S) (c:ByteArray) (d f:Int) (j:Nat) (u:Qa) (b:(AM (c,d,f))[j]? =Z u):(wr.alloc (Qc #[J c,U O d,U O f] 62)).cell? ⟨wr.heap.size,j,I⟩=Z u:=by
 match j,b with
 | 0,b=>simp [AM]at b;subst b;simp
 | 1,b=>simp [AM]at b;subst b;simp
 | 2,b=>simp [AM]at b;subst b;simp
 | j+3,b=>simp [AM]at b
theorem Sk:∀a b:List UInt8,Q5 a b=decide (Q0 a b<0)
 | [], []=>by simp[Q5,Q0]
 | [],_ :: _=>by simp[Q5,Q0]
 | _ :: _, []=>by simp[Q5,Q0]
 | a :: us,b :: vs=>by
  have g:=Sk us vs;unfold Q5 Q0;by_cases c:a<b
  ·simp[c]
  ·by_cases d:b<a
   ·have f:¬a=b:=fun e=>by subst e;exact UInt8.lt_irrefl _ d
    simp[c,d,f]
   ·have f:a=b:=by
     rw[UInt8.lt_iff_toNat_lt]at c d;exact UInt8.toNat_inj.1 (by omega)
    subst f;simp[g]
def Bu (a b:ByteArray):Bool:=Q5 a.toList b.toList
theorem Ma (a b:ByteArray):Bu a b=decide (Q0 a.data.toList b.data.toList<0):=by
 unfold Bu;rw[QK,QK,Sk]
theorem Sl {a b c:ByteArray} (d:Bu a b=V) (f:Bu b c=V):Bu a c=V:=by
 rw[Ma,decide_eq_true_eq]at *;exact(ND _ _ _ (Int.le_of_lt d) (Int.le_of_lt f)).2 (Qk d)
theorem Mb {a b:ByteArray} (h:Bu a b=V):a≠b:=fun e=>by
 subst e;rw[Ma,N9]at h;simp at h
theorem NZ {a b:ByteArray} (h:Bu a b=Qb) (c:a≠b):Bu b a=V:=by
 rw[Ma,decide_eq_true_eq];rw[Ma,decide_eq_false_iff_not]at h;have d:=NA a.data.toList b.data.toList;have f:Q0 a.data.toList b.data.toList≠0:=fun e=>c (Iw (LM _ _ e));omega
def G4 (p:ByteArray):List ByteArray->Nat
 | []=>0
 | q :: r=>if Bu q p=V then G4 p r+1 else 0
def Hv (p:ByteArray):List ByteArray->List ByteArray
 | []=> [p]
 | q :: r=>if Bu q p=V then q :: Hv p r else p :: q :: r
theorem Sm (p:ByteArray):∀l:List ByteArray,Hv p l=l.take (G4 p l)++ [p]++l.drop (G4 p l)
 | []=>rfl
 | q :: r=>by
  unfold Hv G4;by_cases h:Bu q p=V
  ·rw[if_pos h,if_pos h,Sm p r];rfl
  ·rw[if_neg h,if_neg h];rfl
theorem Oa {p x:ByteArray} :∀ {l:List ByteArray},x∈Hv p l↔x=p\/x∈l
 | []=>by simp[Hv]
 | q :: r=>by
  unfold Hv;split
  ·rw[Qt,Oa,Qt];constructor
   ·rintro(h | h | h)
    ·exact Qj (Qk h)
    ·exact Qk h
    ·exact Qj (Qj h)
   ·rintro(h | h | h)
    ·exact Qj (Qk h)
    ·exact Qk h
    ·exact Qj (Qj h)
  ·rw[Qt,Qt]
def GU (l:List ByteArray):Prop:=l.Pairwise fun a b=>Bu a b=V
theorem So {p:ByteArray} :∀ {l:List ByteArray},GU l->p∉l->GU (Hv p l)
 | [],_,_=>List.pairwise_singleton _ _
 | q :: r,h,hn=>by
  unfold GU at h;rw[QW]at h;rw[Qt,not_or]at hn;unfold Hv;by_cases e:Bu q p=V
  ·rw[if_pos e];refine QW.2 ⟨fun x b=>?_,So h.2 hn.2⟩;rcases Oa.1 b with rfl | b
   ·exact e
   ·exact h.1 x b
  ·rw[if_neg e];have c:Bu p q=V:=NZ (by simpa using e) (fun e=>hn.1 e.symm);refine QW.2 ⟨fun x b=>?_,QW.2 h⟩;rcases Qt.1 b with rfl | b
   ·exact c
   ·exact Sl c (h.1 x b)
end Go.Proofs.YtcllhobffhkafaaGreatDoor
