/- By an AI agent. -/
import Derived.Test.YtcllhobffhkafaaGreatDoorRowMem
import Derived.Test.YtcllhobffhkafaaGreatDoorTextPure
import Derived.Shelf.SlSortCmp.QuietGrown
import Derived.Lib.AtoiErrMem
import Derived.Lib.LaidTab
import Derived.Laws.Rows
import Derived.Deep.OwnRows
import Derived.OneCell
import Derived.BigRegion
import Derived.Shelf.GgSortFunc.RowK
import Derived.Shelf.SlSortCmp.NoneTotal
import Derived.Ground.SlsfProg
set_option maxRecDepth 100000
set_option maxHeartbeats 16000000
open Go.Proofs.Tryz
open Array renaming getElem?_eq_none->QB,getElem?_setIfInBounds->QE,ext_getElem?->QO
open Bool renaming false->A,true->V,and_eq_true->Qr,false_eq_true->QC,true_and->QN
open ByteArray renaming size->Qu
open Go renaming World->J,maxLen->Qa,Calls->Qb,Addr->Qc,Value->Qj,madeCells->Qt,bodyPost_ret->Q4,results->Q5,cell_grown->QD,cell_of_row->QG,Ending->QH,heap_alloc_new->QQ
open Go.Ending renaming returned->G
open Go.IntKind renaming i64->U
open Go.Lib renaming itoa->Qe,TabIs->Qm,bytesWorld_below->Qo,pow10Tab->Qx,countB->QF
open Go.Obj renaming cells->Qd
open Go.Proofs.Tryz renaming prog->H,func329->Qp,ntmps329->Qq,func105->Qy,ntmps105->Qz,func129->Q0,ntmps129->Q1,results354->Q6,func115->Q7,ntmps115->Q8,func276->Q9,ntmps276->QA,underlying32->QR,underlying159->QY,zeroValue159->QZ,underlying234->Xa,zeroValue234->Xb,underlying235->Xc,zeroValue235->Xd,underlying90->Xe,zeroValue90->Xf,underlying229->Xg,zeroValue229->Xh,underlying242->Xi,zeroValue242->Xj,underlying299->Xk,zeroValue299->Xl,underlying303->Xm,zeroValue303->Xn,underlying351->Xo,zeroValue351->Xp,underlying267->Xq,zeroValue267->Xr
open Go.Value renaming int->Z,string->S,iface->Qf,tuple->Qg,bool->Qh,slice->Qi,pointer->Qk,agg->Qn,nilIface->QM
open List renaming getElem?_eq_none->Qw,mem_cons->Q2,length_append->QI,flatMap_cons->QK,getElem?_cons_zero->QL,length_map->QP,getElem?_eq_getElem->QT,getElem?_append_left->QU,getElem?_append_right->QV,length_cons->QW,not_mem_nil->QX,getElem?_cons_succ->Xs
open Nat renaming lt_or_ge->Ql,le_refl->Qs,zero_add->QJ,not_lt_zero->QS,add_assoc->Xt
open Option renaming some->O,none->I
open Option.some renaming inj->Qv,injEq->Q3
namespace Go.Proofs.YtcllhobffhkafaaGreatDoor
open Go.RowKit Go.Extern.Stop Go.Stop Go.Extern Go.Sort Go.Shelf Go.Lib
theorem aL (n:Int) (w:J):Qb H 329 #[.int .u8 n] w fun e w'=>e=G (Qh (Cw n))/\w'=w:=by
 by_cases f:97<=n
 ·by_cases g:n<=122
  ·have b:Cw n=V:=by simp[Cw,f,g]
   rw[b]
   go_enter Qp,Qq
   go_wp2;go_ret;exact⟨rfl,rfl⟩
  ·have b:Cw n=A:=by simp[Cw];omega
   rw[b];have c:(48:Int)<=n:=by omega
   have d:¬n<=57:=by omega
   go_enter Qp,Qq
   go_wp2;go_ret;exact⟨rfl,rfl⟩
 ·by_cases c:48<=n
  ·by_cases d:n<=57
   ·have b:Cw n=V:=by simp[Cw,c,d]
    rw[b]
    go_enter Qp,Qq
    go_wp2;go_ret;exact⟨rfl,rfl⟩
   ·have b:Cw n=A:=by simp[Cw];omega
    rw[b]
    go_enter Qp,Qq
    go_wp2;go_ret;exact⟨rfl,rfl⟩
  ·have b:Cw n=A:=by simp[Cw];omega
   rw[b]
   go_enter Qp,Qq
   go_wp2;go_ret;exact⟨rfl,rfl⟩
theorem GF (n:Int) (w:J):Qb H 115 #[Z U n] w fun e w'=>e=G (Qh (Ao n))/\w'=w:=by
 by_cases c: -1073741824<=n
 ·by_cases d:n<=1073741824
  ·have b:Ao n=V:=by simp[Ao,c,d]
   rw[b]
   go_enter Q7,Q8
   go_wp2;go_ret;exact⟨rfl,rfl⟩
  ·have b:Ao n=A:=by simp[Ao,d]
   rw[b]
   go_enter Q7,Q8
   go_wp2;go_ret;exact⟨rfl,rfl⟩
 ·have b:Ao n=A:=by simp[Ao,c]
  rw[b]
  go_enter Q7,Q8
  go_wp2;go_ret;exact⟨rfl,rfl⟩
theorem AA (s:ByteArray):s.data.toList.length=s.size:=by cases s;simp[Qu]
theorem Nl (s:ByteArray) (k:Nat) (h:k<s.size):s.data.toList[k]? =O s[k]:=by
 cases s with | mk d=>simp [Qu]at h;simp[h];rfl
theorem aM {s:ByteArray} {n:Nat} (h:∀j c,j<n->s.data.toList[j]? =O c->Cw c.toNat=V) (d:n<s.size) (e:Cw s[n].toNat=V):∀j c,j<n+1->s.data.toList[j]? =O c->Cw c.toNat=V:=fun j c hj hc=>by
 rcases Ql j n with b | b
 ·exact h j c b hc
 ·obtain rfl:j=n:=by omega
  rw[Nl s j d]at hc;rw[<-Qv hc];exact e
theorem Nn (s:ByteArray) (m:Nat) (w:J) (y:s.size<=Qa) (F:m<=1000):Qb H 276 #[S s,Z U m] w fun e w'=>e=G (Qh (DC m s.data.toList))/\w'=w:=by
 unfold Qa at y;have d:=AA s;by_cases B:s.size<1
 ·have b:DC m s.data.toList=A:=by simp only[DC,d];simp;omega
  rw[b]
  go_enter Q9,QA
  go_wp2;go_ret;exact⟨rfl,rfl⟩
 ·by_cases C:m<s.size
  ·have b:DC m s.data.toList=A:=by simp only[DC,d];simp;omega
   rw[b]
   go_enter Q9,QA
   go_wp2;go_ret;exact⟨rfl,rfl⟩
  ·generalize b:DC m s.data.toList=r;have o:Hid _:=b;have t:Hid _:=d
   go_enter Q9,QA
   go_wp2
   go_loop [5] (fun k=> ∃n:Nat,n<=s.size/\(∀j c,j<n->s.data.toList[j]? =O c->Cw c.toNat=V)/\k=Z U n) (fun k=>s.size-(intOf k).toNat)
   case atStart=>exact ⟨0,by omega,by omega,rfl⟩
   case round =>
    obtain⟨n,E,v,rfl⟩:=hrel;have p:Hid _:=v;by_cases i:n<s.size
    ·have D:(n:Int)<(s.size:Int):=by omega
     have f:=aL (s[n].toNat:Int) w;cases g:Cw (s[n].toNat:Int)
     ·rw[g]at f;have b:r=A:=by
       rw[<-o.out];simp only[DC,Bool.and_eq_false_iff];right;rw[List.all_eq_false];exact⟨s[n],List.mem_of_getElem? (Nl s n i),by rw[g];simp⟩
      subst b
      go_wp2_with (go_at_call 329;refine f.mono ?_;rintro e w' ⟨rfl,rfl⟩)
      go_ret;exact⟨rfl,rfl⟩
     ·rw[g]at f;have u:Hid _:=g
      go_wp2_with (go_at_call 329;refine f.mono ?_;rintro e w' ⟨rfl,rfl⟩)
      go_round
      case rel=>exact ⟨n+1,by omega,aM p.out i u.out,by go_num⟩
      case measure=>simp [intOf];omega
    ·have b:r=V:=by
      rw[<-o.out];simp only[DC,Qr,decide_eq_true_eq,List.all_eq_true];have:=t.out;refine⟨⟨by omega,by omega⟩,fun c hc=>?_⟩;obtain⟨k,l⟩:=List.mem_iff_getElem?.1 hc;have z:k<s.data.toList.length:=by
       rcases Ql k s.data.toList.length with h | h
       ·exact h
       ·rw[Qw h]at l;cases l
      exact p.out k c (by omega) l
     subst b;have q:n=s.size:=by omega
     subst q;go_wp2;go_ret;exact⟨rfl,rfl⟩
theorem aN (s:ByteArray) (w:J) (c:s.size<=Qa):Qb H 187 #[S s] w fun e w'=>e=G (Qh (Fa s.data.toList))/\w'=w:=by
 have b:=Nn s 8 w c (by omega)
 go_enter func187,ntmps187
 go_wp2_with (go_at_call 276;refine b.mono ?_;rintro e w' ⟨rfl,rfl⟩)
 go_ret;exact⟨rfl,rfl⟩
structure Bd (w:J) (a:Nat->Qc):Prop where
 text:w.cell? ⟨4,0,I⟩=O (Qf 410 (Qk (O (a 0))))
 bound:w.cell? ⟨1,0,I⟩=O (Qf 410 (Qk (O (a 1))))
 name:w.cell? ⟨10,0,I⟩=O (Qf 410 (Qk (O (a 4))))
 maxl:∃m,w.cell? ⟨13,0,I⟩=O (Z U m)
 syn:∃te pe,w.cell? ⟨15,0,I⟩=O (Qf te pe)
 tab : Qm H w "internal/strconv.uint64pow10" .u64 Qx
theorem Hh {w w':J} {n:String} {k:IntKind} {zs:List Int} (h:Qm H w n k zs) (f:BL w w'):Qm H w' n k zs:=by
 unfold Qm World.var? at *
 cases d:Tryz.prog.globalNamed n with
 | none=>rw [d]at h;simp at h
 | some g =>
  rw[d]at h;simp only[Option.bind_some]at h ⊢;have c:g<w.heap.size:=by
   rcases Ql g w.heap.size with b | b
   ·exact b
   ·simp[QB b]at h
  rw[f.block g c];exact h
theorem Bd.below {w w':J} {a:Nat->Qc} (h:Bd w a) (b:BL w w'):Bd w' a where
 text:=Aa b h.text
 bound:=Aa b h.bound
 name:=Aa b h.name
 maxl:=let ⟨m,hm⟩:=h.maxl;⟨m,Aa b hm⟩
 syn:=let ⟨t,p,hm⟩:=h.syn;⟨t,p,Aa b hm⟩
 tab:=Hh h.tab b
structure BZ (w:J) (a:Nat->Qc):Prop where
 text:w.cell? ⟨4,0,I⟩=O (Qf 410 (Qk (O (a 0))))
 bound:w.cell? ⟨1,0,I⟩=O (Qf 410 (Qk (O (a 1))))
 maxl:∃m,w.cell? ⟨13,0,I⟩=O (Z U m)
 syn:∃te pe,w.cell? ⟨15,0,I⟩=O (Qf te pe)
 tab : Qm H w "internal/strconv.uint64pow10" .u64 Qx
theorem BZ.below {w w':J} {a:Nat->Qc} (h:BZ w a) (b:BL w w'):BZ w' a where
 text:=Aa b h.text
 bound:=Aa b h.bound
 maxl:=let ⟨m,hm⟩:=h.maxl;⟨m,Aa b hm⟩
 syn:=let ⟨t,p,hm⟩:=h.syn;⟨t,p,Aa b hm⟩
 tab:=Hh h.tab b
theorem Bd.weak {w:J} {a:Nat->Qc} (h:Bd w a):BZ w a:=⟨h.text,h.bound,h.maxl,h.syn,h.tab⟩
structure DJ (w:J):Prop where
 maxl:∃m,w.cell? ⟨13,0,I⟩=O (Z U m)
 syn:∃te pe,w.cell? ⟨15,0,I⟩=O (Qf te pe)
 tab : Qm H w "internal/strconv.uint64pow10" .u64 Qx
theorem DJ.below {w w':J} (h:DJ w) (b:BL w w'):DJ w' where
 maxl:=let ⟨m,hm⟩:=h.maxl;⟨m,Aa b hm⟩
 syn:=let ⟨t,p,hm⟩:=h.syn;⟨t,p,Aa b hm⟩
 tab:=Hh h.tab b
theorem BZ.s {w:J} {a:Nat->Qc} (h:BZ w a):DJ w:=⟨h.maxl,h.syn,h.tab⟩
theorem Bd.s {w:J} {a:Nat->Qc} (h:Bd w a):DJ w:=⟨h.maxl,h.syn,h.tab⟩
def Ae (a:Nat->Qc):Nat->Qj
 | 0=>QM
 | n+1=>Qf 410 (Qk (O (a n)))
theorem J3 (x:Rw) (w:J) (a:Nat->Qc) (h:Bd w a) (g:x.1.size<=Qa) :
  Qb H 105 #[Qn #[S x.1,Z U x.2.1,Z U x.2.2]] w fun e w'=>e=G (Ae a (Ay x))/\BL w w':=by
 obtain⟨p,k,v⟩:=x;have b:BL w (w.alloc (Qd #[S p,Z U k,Z U v] 62)):=Af _ _;have c:=aN p (w.alloc (Qd #[S p,Z U k,Z U v] 62)) g;have i:=(h.below b).name;have j:=(h.below b).bound;unfold Ay;dsimp only;cases f:Fa p.data.toList
 ·rw[f]at c
  go_enter Qy,Qz
  go_wp2_with (go_at_call 187;refine c.mono ?_;rintro e w' ⟨rfl,rfl⟩)
  go_ret;exact⟨rfl,b⟩
 ·rw[f]at c;have d:=fun n W=>GF n W;cases l:Ao k
  ·simp only[if_true,Bool.false_and,QC,if_false]
   go_enter Qy,Qz
   go_wp2_with (first | (go_at_call 187;refine c.mono ?_;rintro e w' ⟨rfl,rfl⟩) | (go_at_call 115;refine(d _ _).mono ?_;rintro e w' ⟨rfl,rfl⟩))
   go_ret;exact⟨rfl,b⟩
  ·cases m:Ao v
   ·simp only[if_true,QN,QC,if_false]
    go_enter Qy,Qz
    go_wp2_with (first | (go_at_call 187;refine c.mono ?_;rintro e w' ⟨rfl,rfl⟩) | (go_at_call 115;refine(d _ _).mono ?_;rintro e w' ⟨rfl,rfl⟩))
    go_ret;exact⟨rfl,b⟩
   ·simp only[if_true,QN]
    go_enter Qy,Qz
    go_wp2_with (first | (go_at_call 187;refine c.mono ?_;rintro e w' ⟨rfl,rfl⟩) | (go_at_call 115;refine(d _ _).mono ?_;rintro e w' ⟨rfl,rfl⟩))
    go_ret;exact⟨rfl,b⟩
theorem GG {w:J} (k:Nat) (os:Array Obj):BL w (grow (w.drewN k) os) :=
 (AH (Below.refl _ _) k).trans (show Below w.heap.size (w.drewN k) _ from Hg (w:=w.drewN k) os)
theorem Ij (n : Int) (w : J) (b : Qm H w "internal/strconv.uint64pow10" .u64 Qx) (c : -9223372036854775808 ≤ n) (d : n ≤ 9223372036854775807) :
  Qb H 86 #[Z U n] w fun e w'=>e=G (S (Ab (Qe n)))/\∃k os,w'=grow (w.drewN k) os :=
 strconv_Itoa n c d w b
def Dd (s:List UInt8):Qj×Bool:=match As s with
 | some n=>(Z U n,V)
 | none=>(Z U 0,A)
theorem Lx (s:ByteArray) (w:J) (h:DJ w) (r:s.size<=Qa) :
  Qb H 129 #[S s] w fun e w'=>e=G (Qg #[(Dd s.data.toList).1,Qh (Dd s.data.toList).2])/\BL w w':=by
 unfold Qa at r;have u:=AA s;by_cases z:11<s.size
 ·have b:Dd s.data.toList=(Z U 0,A):=by
   unfold Dd As;rw[if_neg (by omega)]
  rw[b]
  go_enter Q0,Q1
  go_wp2;go_ret2;exact⟨rfl,Below.refl _ _⟩
 ·cases c:atoi s.data.toList with
  | none =>
   have b:Dd s.data.toList=(Z U 0,A):=by
    unfold Dd As;rw[if_pos (by omega),c]
   rw[b];obtain⟨j,l,m⟩:=h.syn;have d:=strconv_Atoi_err s (by omega) c (Qf j l) w m (Or.inr ⟨j,l,rfl⟩)
   go_enter Q0,Q1
   go_wp2_with (go_at_call 213;refine d.mono ?_;rintro e w' ⟨N,rfl,_,_,o⟩)
   go_ret2;exact⟨rfl,o⟩
  | some n =>
   have d:=strconv_Atoi s n (by omega) c w;have v:=atoi_bound c (by omega);by_cases f:Qe n=s.data.toList
   ·have b:Dd s.data.toList=(Z U n,V):=by
     unfold Dd As;rw[if_pos (by omega),c];simp[f]
    rw[b];have i:Ab (Qe n)=s:=by rw[f];exact Dy s
    go_enter Q0,Q1
    go_wp2_with (first
     | (go_at_call 213;refine d.mono ?_;rintro e p ⟨rfl,t,rfl⟩)
     | (go_at_call 86;refine(Ij n _ (Hh h.tab (Qo w _ t)) (by omega) (by omega)).mono ?_;rintro e q ⟨rfl,k,g,rfl⟩;rw[i]))
    go_ret2;exact⟨rfl,(Qo w _ t).trans ((GG k g).mono (Qo w _ t).size)⟩
   ·have b:Dd s.data.toList=(Z U 0,A):=by
     unfold Dd As;rw[if_pos (by omega),c];simp[f]
    rw[b];have y:((Ab (Qe n)).toList == s.toList)=A:=by
     rw[ByteArray.toList_eq,ByteArray.toList_eq];simpa [Ab] using f
    go_enter Q0,Q1
    go_wp2_with (first
     | (go_at_call 213;refine d.mono ?_;rintro e p ⟨rfl,t,rfl⟩)
     | (go_at_call 86;refine(Ij n _ (Hh h.tab (Qo w _ t)) (by omega) (by omega)).mono ?_;rintro e q ⟨rfl,k,g,rfl⟩))
    go_ret2;exact⟨rfl,(Qo w _ t).trans ((GG k g).mono (Qo w _ t).size)⟩
theorem aO (n:Int) (w:J) (h:DJ w) (b: -9223372036854775808<=n) (c:n<=9223372036854775807) :
  Qb H 86 #[Z U n] w fun e w'=>e=G (S (Ab (Qe n)))/\BL w w' :=
 (Ij n w h.tab b c).mono fun e w' ⟨he,k,os,hw⟩=>⟨he,by subst hw;exact GG k os⟩
theorem Lz (s:ByteArray) (w:J) (a:Nat->Qc) (h:BZ w a) (b:s.size<=Qa) :
  Qb H 129 #[S s] w fun e w'=>e=G (Qg #[(Dd s.data.toList).1,Qh (Dd s.data.toList).2])/\BL w w' :=
 Lx s w h.s b
def Ik (x:Rw):ByteArray:=if Ay x=0 then x.1++sp++Ab (Qe x.2.1)++sp++Ab (Qe x.2.2) else Ab []
theorem aP (x:Rw) (w:J) (a:Nat->Qc) (h:Bd w a) (z:x.1.size<=Qa) :
  Qb H 193 #[Qn #[S x.1,Z U x.2.1,Z U x.2.2]] w fun e w'=>e=G (S (Ik x))/\BL w w':=by
 have l:BL w (w.alloc (Qd #[S x.1,Z U x.2.1,Z U x.2.2] 62)):=Af _ _;have f:=J3 x _ a (h.below l) z;unfold Ik;by_cases c:Ay x=0
 ·rw[if_pos c];rw[c]at f;have d:Ao x.2.1=V/\Ao x.2.2=V:=by
   unfold Ay at c;split at c
   ·split at c
    ·rename_i i;simpa using i
    ·omega
   ·omega
  obtain⟨p,k,v⟩:=x;simp only[Ae]at f;have B:p.size<=8:=by
   unfold Ay at c;split at c
   ·rename_i i;simp only[Fa,Qr,decide_eq_true_eq]at i;rw[AA]at i;exact i.1.2
   ·omega
  have E:(Ab (Qe k)).size<=11:=by
   have:=d.1;simp only[Ao,Qr,decide_eq_true_eq]at this;simpa [Ab,Qu] using E6 k this.1 this.2
  have F:(Ab (Qe v)).size<=11:=by
   have:=d.2;simp only[Ao,Qr,decide_eq_true_eq]at this;simpa [Ab,Qu] using E6 v this.1 this.2
  unfold sp;have C:=d.1;have D:=d.2;have j:Tryz.prog.follows .mixedOrders=V:=by kernel_rfl
  go_enter func193,ntmps193
  go_wp2_with (go_at_call 105;refine f.mono ?_;rintro e g ⟨rfl,b⟩)
  have s:g.cell? ⟨w.heap.size,0,I⟩=O (S p):=Aa b (by simp);have t:g.cell? ⟨w.heap.size,1,I⟩=O (Z U k):=Aa b (by simp);have u:g.cell? ⟨w.heap.size,2,I⟩=O (Z U v):=Aa b (by simp);have K:=fun n os=>QD (BD s) s n os;have L:=fun n os=>QD (BD t) t n os;have M:=fun n os=>QD (BD u) u n os;have o:=Ad l b;have r:=Hh h.tab o;have y:∀m:Int,Ao m=V->∀n os,Qb H 86 #[Z U m] (grow (g.drewN n) os) fun e w'=>e=G (S (Ab (Qe m)))/\∃q os',w'=grow ((grow (g.drewN n) os).drewN q) os':=fun m j n os=>by
   simp only[Ao,Qr,decide_eq_true_eq]at j;exact Ij m _ (Hh r (GG n os)) (by omega) (by omega)
  have N:¬9223372036854775807<p.size+1:=by omega
  have P:¬9223372036854775807<p.size+1+(Ab (Qe k)).size:=by omega
  have Q:¬9223372036854775807<p.size+1+(Ab (Qe k)).size+1:=by omega
  have R:¬9223372036854775807<p.size+1+(Ab (Qe k)).size+1+(Ab (Qe v)).size:=by omega
  go_quiet_grown ((go_at_call 86;exact Calls.grown_of (y _ (by assumption) _ _)))
  go_wp2;go_ret;exact⟨rfl,o.trans ((GG nq osq).mono o.size)⟩
 ·rw[if_neg c];obtain⟨m,j⟩:∃m,Ay x=m+1:=⟨Ay x-1,by omega⟩;rw[j]at f;simp only[Ae]at f;obtain⟨p,k,v⟩:=x
  go_enter func193,ntmps193
  go_wp2_with (go_at_call 105;refine f.mono ?_;rintro e g ⟨rfl,b⟩)
  go_ret;exact⟨rfl,(Ad l b)⟩
theorem J4:∀(l:List UInt8),∀x∈AY l,x.length<=l.length
 | [],x,h=>by simp[AY]at h;simp[h]
 | c :: r,x,h=>by
  have b:=J4 r;unfold AY at h;split at h
  ·rw[Q2]at h;rcases h with rfl | h
   ·simp
   ·have:=b x h;simp;omega
  ·split at h
   ·simp at h;simp[h]
   ·rename_i w f d;rw[d]at b;rw[Q2]at h;rcases h with rfl | h
    ·have:=b w List.mem_cons_self;simp;omega
    ·have:=b x (List.mem_cons_of_mem _ h);simp;omega
theorem Ah {w:J} {b o:Nat} {v:Qj} (h:w.cell? ⟨b,o,I⟩=O v):w.setCell ⟨b,o,I⟩ v=w:=by
 have d:(w.setCell ⟨b,o,I⟩ v).heap=w.heap:=by
  unfold World.setCell;apply QO;intro i;dsimp only;rw[Array.getElem?_modify];split
  ·rename_i e;subst e;unfold World.cell? at h
   cases g:w.heap[b]? with
   | none=>rfl
   | some ob =>
    rw[g]at h
    cases ob with
    | cells c t f =>
     simp only[Option.map_some,Option.isSome_none,QC,if_false,Q3,Obj.cells.injEq,and_true];apply QO;intro k;rw[QE];split
     ·rename_i e;subst e;split
      ·exact h.symm
      ·rename_i j;rw[QB (by omega)]
     ·rfl
    | _=>simp at h
  ·rfl
 cases w
 simp only[World.setCell]at d ⊢;rw[d]
def aQ (w:J) (v:Qj) (ts:List ByteArray):Prop :=
 ∃b,v=Qi (O ⟨b,0,I⟩) ts.length ts.length/\∀j (h:j<ts.length),w.cell? ⟨b,j,I⟩=O (S ts[j])
theorem J5 (s:ByteArray) (w:J) (a:Nat->Qc) (h:BZ w a) (g:s.size<4294967281) :
  Qb H 131 #[S s,S ⟨#[32]⟩] w fun e w'=> ∃v ts,e=G v/\aQ w' v ts/\ts.map (·.data.toList)=AY s.data.toList/\BL w w':=by
 obtain⟨m,f⟩:=h.maxl;have c:=strings_Split s sp m _ g f (by decide);obtain⟨b,i⟩:=aG s.size s (Qs _);have d:(splitB sp 0 (QF s sp) s).length=QF s sp+1:=by
  have:=congrArg List.length b;simp only[QP]at this;omega
 refine c.mono fun e w' ⟨he,hw⟩=>⟨_,splitB sp 0 (QF s sp) s,he,⟨w.heap.size,by rw[d],fun j hj=>?_⟩,b,?_⟩
 ·rw[hw,QG _ _ _ _ _ _ (QQ _ _)];simp[hj]
 ·rw[hw];exact Af _ _
theorem Tryz.numsInfo:(Tryz.prog.info? 3).map (fun i=>(i.zero,i.size,i.bytes))=O (O (Z U 0),1,8):=by kernel_rfl
def Rr (w:J) (e:QH) (ts:List ByteArray):Prop :=
 (∃(zs:List Int) (g:Nat),zs.length=ts.length/\(∀(j:Nat) (t:ByteArray),ts[j]? =O t->As t.data.toList=zs[j]?)/\e=G (Qg #[Qi (O ⟨g,0,I⟩) ts.length ts.length,Qh V])/\∀j (h:j<zs.length),w.cell? ⟨g,j,I⟩=O (Z U zs[j])) \/
 (∃(j:Nat) (t:ByteArray),ts[j]? =O t/\As t.data.toList=I/\e=G (Qg #[Qi I 0 0,Qh A]))
def Kl (B:Nat) (w:J) (e:QH) (ts:List ByteArray):Prop :=
 (∃(zs:List Int) (g:Nat),zs.length=ts.length/\(∀(j:Nat) (t:ByteArray),ts[j]? =O t->As t.data.toList=zs[j]?)/\e=G (Qg #[Qi (O ⟨g,0,I⟩) ts.length ts.length,Qh V])/\(∀j (h:j<zs.length),w.cell? ⟨g,j,I⟩=O (Z U zs[j]))/\B<=g) \/
 (∃(j:Nat) (t:ByteArray),ts[j]? =O t/\As t.data.toList=I/\e=G (Qg #[Qi I 0 0,Qh A]))
theorem Kl.weak {B:Nat} {w:J} {e:QH} {b:List ByteArray} (h:Kl B w e b):Rr w e b:=by
 rcases h with⟨c,g,d,f,i,j,_⟩ | h
 ·exact Or.inl ⟨c,g,d,f,i,j⟩
 ·exact Or.inr h
theorem Rs (z:Qj) (n j:Nat) (h:j<n):(Qt #[z] n)[j]? =O z:=by
 unfold Qt;simp[h,Nat.mod_one]
theorem L0 (b o ah:Nat) (f:List ByteArray) (w:J) (a:Nat->Qc) (h:BZ w a) (hc:∀j (h:j<f.length),w.cell? ⟨b,o+j,I⟩=O (S f[j])) (hs:∀t∈f,t.size<=Qa) (hl:f.length<=20000) :
  Qb H 132 #[Qi (O ⟨b,o,I⟩) f.length ah] w fun e w'=>Kl w.heap.size w' e f/\BL w w':=by
 have HC:Hid _:=hc;have HS:Hid _:=hs;obtain⟨L,hL⟩:∃L,f.length=L:=⟨_,rfl⟩;have y:Hid _:=hL;rw[hL]at hl ⊢;have ai:=fun W=>run_make_row' (P:=H) 32 3 (Z U 0) 8 QR Tryz.numsInfo rfl U U L (by omega) (by omega) W;have Y:BL w (w.alloc (Qd (Qt #[Z U 0] L) 3)):=Af _ _;have K:=QQ w (Qd (Qt #[Z U 0] L) 3);have aa:∀j,j<L->(Qt #[Z U 0] L)[j]? =O (Z U 0):=fun j hj=>Rs _ _ _ hj;have MD:Hid _:=aa
 go_enter func132,ntmps132
 go_wp2
 go_loopw [14] (fun k wr=> ∃(n:Nat) (i:List Int) (c:Array Qj),n<=L/\k=Z U n/\BL w wr/\i.length=n/\(∀j t,j<n->f[j]? =O t->As t.data.toList=i[j]?)/\wr.heap[w.heap.size]? =O (Qd c 3 (0,0))/\(∀j,j<L->∃u,c[j]? =O u)/\∀j (h:j<i.length),c[j]? =O (Z U i[j])) (fun k _=>L-(intOf k).toNat)
 case atStart=>exact ⟨0, [],_,by omega,rfl,Y,rfl,fun j t h=>absurd h (QS _),K,fun j hj=>⟨_,MD.out j hj⟩,fun j h=>absurd h (QS _)⟩
 case round =>
  obtain⟨n,i,c,hn,rfl,v,ac,ad,ae,af,ag⟩:=hrel;have M:Hid _:=ae;have g:Hid _:=ac;have B:Hid _:=ad;have C:Hid _:=af;have D:Hid _:=ag;by_cases E:n<L
  ·have r:n<f.length:=by rw[y.out];exact E
   have c1:=Aa v (HC.out n r);have N:Hid _:=QT r;have d:=Lz f[n] wr a (h.below v) (HS.out _ (List.getElem_mem _));generalize f[n]=t at c1 N d;unfold Dd at d
   cases z:As t.data.toList with
   | none =>
    rw[z]at d;have Q:Hid _:=z
    go_wp2_with fail
    refine d.mono ?_;rintro e q ⟨rfl,p⟩;have s:=Ad v p;go_wp2;go_ret2;exact⟨Or.inr ⟨n,t,N.out,Q.out,rfl⟩,s⟩
   | some x =>
    rw[z]at d;have Q:Hid _:=z
    go_wp2_with fail
    refine d.mono ?_;rintro e q ⟨rfl,p⟩;have s:=Ad v p;have l:=(p.block _ (lt_of_block M.out)).trans M.out;obtain⟨u,X⟩:=C.out n E;have aj:q.cell? ⟨w.heap.size,n,I⟩=O u:=by rw[QG _ _ _ _ _ _ l];exact X
    have ak:q.frozen? ⟨w.heap.size,n,I⟩=A:=frozen_of_row _ _ _ _ _ l;have R:=heap_setCell_same q w.heap.size n c 3 (Z U x) l;have T:Hid ((q.setCell ⟨w.heap.size,n,I⟩ (Z U x)).heap[w.heap.size]? =O (Qd (c.setIfInBounds n (Z U x)) 3 (0,0))):=R;have HN:Hid (n<c.size):=by
     show n<c.size;rcases Ql n c.size with m | m
     ·exact m
     ·rw[QB m]at X;cases X
    have ab:BL w (q.setCell ⟨w.heap.size,n,I⟩ (Z U x)):=s.setCell (Qs _) _;go_wp2;go_roundw
    case rel =>
     refine⟨n+1,i++ [x],_,by omega,by go_num,ab,by rw[QI,g.out];rfl,fun j t' hj ht'=>?_,T.out,fun j hj=>?_,fun j hj=>?_⟩
     ·rcases Ql j n with m | m
      ·rw[B.out j t' m ht',QU (by rw[g.out];exact m)]
      ·obtain rfl:j=n:=by omega
       rw[N.out]at ht';rw[<-Qv ht',Q.out,QV (by rw[g.out];exact Qs _),g.out,Nat.sub_self];rfl
     ·rw[QE];split
      ·rw[if_pos HN.out];exact⟨_,rfl⟩
      ·exact C.out j hj
     ·rw[QE];split
      ·rename_i e;subst e;rw[if_pos HN.out,List.getElem_append_right (by rw[g.out];exact Qs _)];simp
      ·rename_i e;have F:j<i.length:=by rw[QI]at hj;simp at hj;have:=g.out;omega
       rw[List.getElem_append_left F];exact D.out j F
    case measure=>simp [intOf];omega
  ·obtain rfl:n=L:=by omega
   go_wp2;go_ret2;refine⟨Or.inl ⟨i,w.heap.size,by rw[g.out,y.out],fun j t ht=>B.out j t (by
    rw[<-y.out];rcases Ql j f.length with h | h
    ·exact h
    ·rw[Qw h]at ht;cases ht) ht,by rw[y.out];rfl,fun j hj=>?_,Qs _⟩,v⟩
   rw[QG _ _ _ _ _ _ M.out];exact D.out j hj
theorem Np (b o d:Nat) (c:List ByteArray) (w:J) (a:Nat->Qc) (h:BZ w a) (f:∀j (h:j<c.length),w.cell? ⟨b,o+j,I⟩=O (S c[j])) (g:∀t∈c,t.size<=Qa) (i:c.length<=20000) :
  Qb H 132 #[Qi (O ⟨b,o,I⟩) c.length d] w fun e w'=>Rr w' e c/\BL w w' :=
 (L0 b o d c w a h f g i).mono fun _ _ ⟨h1,h2⟩=>⟨h1.weak,h2⟩
def L1 (x:Rw):Qj:=Qn #[S x.1,Z U x.2.1,Z U x.2.2]
theorem aR {l:List UInt8} (h:(AY l).length≠3):Bq l=((Ab [],0,0),1):=by
 unfold Bq;split
 ·rename_i p k v e;rw[e]at h;simp at h
 ·rfl
theorem aS {l p k v:List UInt8} (h:AY l= [p,k,v]):Bq l=(match As k,As v with
  | some a,O b=>if Ay (Ab p,a,b)=0 then ((Ab p,a,b),0) else ((Ab [],0,0),Ay (Ab p,a,b))
  | _,_=>((Ab [],0,0),1)):=by
 unfold Bq;rw[h];rfl
theorem Nq (s:ByteArray) (w:J) (a:Nat->Qc) (h:Bd w a) (hs:s.size<4294967281) :
  Qb H 354 #[S s] w fun e w'=>e=G (Qg #[L1 (Bq s.data.toList).1,Ae a (Bq s.data.toList).2])/\BL w w':=by
 generalize hR:Bq s.data.toList=R;have HR:Hid _:=hR;clear hR;have ab:BL w (w.alloc (Qd #[S ⟨#[]⟩,Z U 0,Z U 0] 62)):=Af _ _
 go_enter func354,ntmps354
 go_wp2_with fail
 refine(J5 s _ a (h.below ab).weak hs).mono ?_;rintro e X ⟨v,Y,rfl,hT,i,B⟩;obtain⟨b,rfl,n⟩:=hT;have z0:X.cell? ⟨w.heap.size,0,I⟩=O (S ⟨#[]⟩):=Aa B (by simp);have z1:X.cell? ⟨w.heap.size,1,I⟩=O (Z U 0):=Aa B (by simp);have z2:X.cell? ⟨w.heap.size,2,I⟩=O (Z U 0):=Aa B (by simp);have fz:∀o,X.frozen? ⟨w.heap.size,o,I⟩=A:=fun o=>by rw[B.frozen (p:=⟨w.heap.size,o,I⟩) (by simp)];simp
 have E:=Ad ab B;have al:Y.length=(AY s.data.toList).length:=by rw[<-i,QP]
 have z:=J4 s.data.toList;by_cases h3:Y.length=3
 ·obtain⟨P,K,c,rfl⟩:∃P K c,Y= [P,K,c]:=by
   match Y,h3 with
   | [P,K,c],_=>exact ⟨P,K,c,rfl⟩
  simp only[List.map_cons,List.map_nil]at i;have c0:=n 0 (by simp);have c1:=n 1 (by simp);have c2:=n 2 (by simp);have ad:K.size<=Qa:=by
   have:=z K.data.toList (by rw[<-i];simp);rw[AA,AA]at this;unfold Qa;omega
  have ae:c.size<=Qa:=by
   have:=z c.data.toList (by rw[<-i];simp);rw[AA,AA]at this;unfold Qa;omega
  have af:P.size<=Qa:=by
   have:=z P.data.toList (by rw[<-i];simp);rw[AA,AA]at this;unfold Qa;omega
  have hr:=aS i.symm;rw[Dy]at hr;have ag:=HR.out.symm.trans hr;simp only[QW,List.length_nil,QJ,Nat.reduceAdd]at ⊢;have HE:Hid (R=match As K.data.toList,As c.data.toList with
   | some a,O b=>if Ay (P,a,b)=0 then ((P,a,b),0) else ((Ab [],0,0),Ay (P,a,b))
   | _,_=>((Ab [],0,0),1)):=ag
  go_wp2_with fail
  refine(Np b 1 2 [K,c] X a (h.below E).weak (fun j hj=>by
   match j,hj with
   | 0,_=>exact c1
   | 1,_=>exact c2) (fun t C=>by
   simp only[Q2,QX,or_false]at C;rcases C with rfl | rfl
   ·exact ad
   ·exact ae) (by simp)).mono ?_
  rintro e f ⟨aj,u⟩;have hN:(∃x y g,As K.data.toList=O x/\As c.data.toList=O y/\e=G (Qg #[Qi (O ⟨g,0,I⟩) 2 2,Qh V])/\f.cell? ⟨g,0,I⟩=O (Z U x)/\f.cell? ⟨g,1,I⟩=O (Z U y))\/((As K.data.toList=I\/As c.data.toList=I)/\e=G (Qg #[Qi I 0 0,Qh A])):=by
   rcases aj with⟨zs,g,ak,F,D,M⟩|⟨j,t,C,N,D⟩
   ·match zs,ak,F,M with
    | [x,y],_,F,M=>exact Or.inl ⟨x,y,g,F 0 K rfl,F 1 c rfl,D,M 0 (by simp),M 1 (by simp)⟩
   ·refine Or.inr ⟨?_,D⟩
    match j,C with
    | 0,C=>left;rw[Qv C];exact N
    | 1,C=>right;rw[Qv C];exact N
  have Q:=Ad E u;have y0:=Aa u z0;have y1:=Aa u z1;have y2:=Aa u z2;have d0:=Aa u c0;have ah:=BD z0;have fy:∀o,f.frozen? ⟨w.heap.size,o,I⟩=A:=fun o=>by rw[u.frozen (p:=⟨w.heap.size,o,I⟩) ah];exact fz o
  have ac:=BD y0;have k:=HE.out;clear HE;rcases hN with⟨x,y,g,hx,hy,rfl,k0,k1⟩|⟨N,rfl⟩
  ·rw[hx,hy]at k;dsimp only at k;have q:BL f (f.alloc (Qd #[S P,Z U x,Z U y] 62)).drew:=(Af _ _).drew;have T:BL w (f.alloc (Qd #[S P,Z U x,Z U y] 62)).drew:=Ad Q q;have m:=J3 (P,x,y) ((f.alloc (Qd #[S P,Z U x,Z U y] 62)).drew) a (h.below T) af;dsimp only at m;have q0:=Aa q y0;have q1:=Aa q y1;have q2:=Aa q y2;have r0:(f.alloc (Qd #[S P,Z U x,Z U y] 62)).drew.cell? ⟨f.heap.size,0,I⟩=O (S P):=by simp
   have r1:(f.alloc (Qd #[S P,Z U x,Z U y] 62)).drew.cell? ⟨f.heap.size,1,I⟩=O (Z U x):=by simp
   have r2:(f.alloc (Qd #[S P,Z U x,Z U y] 62)).drew.cell? ⟨f.heap.size,2,I⟩=O (Z U y):=by simp
   have r:BL f (f.alloc (Qd #[S ⟨#[]⟩,Z U 0,Z U 0] 62)):=Af _ _;have j0:=Aa r k0;have j1:=Aa r k1;have j2:=Aa r d0;have l0:=Aa r.drew k0;have l1:=Aa r.drew k1;have l2:=Aa r.drew d0;have m0:=Aa (Below.refl f.heap.size f).drew k0;have m1:=Aa (Below.refl f.heap.size f).drew k1;have m2:=Aa (Below.refl f.heap.size f).drew d0;by_cases D:Ay (P,x,y)=0
   ·rw[if_pos D]at k;subst k;rw[D]at m;simp only[Ae]at m ⊢;go_wp2
    go_region
    all_goals go_wp2_with fail
    refine m.mono ?_;rintro e w5 ⟨rfl,d⟩;have g0:=Aa d q0;have g1:=Aa d q1;have g2:=Aa d q2;have u0:=Aa d r0;have u1:=Aa d r1;have u2:=Aa d r2;have W:=Ad T d;have f5:∀o,w5.frozen? ⟨w.heap.size,o,I⟩=A:=fun o=>by
     rw[d.frozen (p:=⟨w.heap.size,o,I⟩) (by simp;omega),q.frozen (p:=⟨w.heap.size,o,I⟩) ac];exact fy o
    go_wp2;refine Q4 (v:=Qg #[Qn #[S P,Z U x,Z U y],QM]) (by simp[Q5,Q6,go_sem,g0,g1,g2]) rfl ⟨rfl,?_⟩;exact((W.setCell (by simp) _).setCell (by simp) _).setCell (by simp) _
   ·rw[if_neg D]at k;obtain⟨j,hj⟩:∃j,Ay (P,x,y)=j+1:=⟨Ay (P,x,y)-1,by omega⟩;rw[hj]at m k;subst k;simp only[Ae]at m ⊢;go_wp2
    go_region
    all_goals go_wp2_with fail
    refine m.mono ?_;rintro e w5 ⟨rfl,d⟩;have g0:=Aa d q0;have g1:=Aa d q1;have g2:=Aa d q2;have W:=Ad T d;have f5:∀o,w5.frozen? ⟨w.heap.size,o,I⟩=A:=fun o=>by
     rw[d.frozen (p:=⟨w.heap.size,o,I⟩) (by simp;omega),q.frozen (p:=⟨w.heap.size,o,I⟩) ac];exact fy o
    have s0:=Ah g0;have s1:=Ah g1;have s2:=Ah g2;go_wp2;exact Q4 (v:=Qg #[Qn #[S ⟨#[]⟩,Z U 0,Z U 0],Qf 410 (Qk (O (a j)))]) (by simp[Q5,Q6,go_sem,g0,g1,g2]) rfl ⟨rfl,W⟩
  ·have aa:R=((Ab [],0,0),1):=by
    rw[k];rcases N with e | e
    ·rw[e]
    ·rw[e];split<;>simp_all
   subst aa;have et:=(h.below Q).text;simp only;have s0:=Ah y0;have s1:=Ah y1;have s2:=Ah y2;go_wp2
   go_region
   all_goals go_wp2
   all_goals exact Q4 (v:=Qg #[Qn #[S ⟨#[]⟩,Z U 0,Z U 0],Qf 410 (Qk (O (a 0)))]) (by simp[Q5,Q6,go_sem,y0,y1,y2]) rfl ⟨rfl,Q.drew⟩
 ·have hr:=aR (l:=s.data.toList) (by omega);have ai:=HR.out.symm.trans hr;subst ai;generalize Y.length=L at h3 ⊢;have am:¬(L:Int)=3:=by omega
  have s0:=Ah z0;have s1:=Ah z1;have s2:=Ah z2;have et:=(h.below E).text;simp only;go_wp2
  go_region
  all_goals go_wp2
  all_goals exact Q4 (v:=Qg #[Qn #[S ⟨#[]⟩,Z U 0,Z U 0],Qf 410 (Qk (O (a 0)))]) (by simp[Q5,Q6,go_sem,z0,z1,z2]) rfl ⟨rfl,E.drew⟩
end Go.Proofs.YtcllhobffhkafaaGreatDoor
namespace Go.Proofs
open Go.Shelf
def Tryz.sortInt_ren:Go.Shelf.Ren:=⟨fun | 5=>48 | 8=>99 | 7=>98 | 19=>181 | 20=>182 | 10=>173 | 11=>174 | 12=>175 | 13=>176 | 14=>177 | 15=>178 | 16=>100 | 17=>179 | 18=>180 | 30=>263 | 31=>264 | 32=>265 | 33=>266 | 34=>267 | 35=>183 | 40=>325 | n=>n,fun | 23=>32 | 25=>3 | 3=>3 | 32=>159 | 22=>32 | 0=>0 | 44=>229 | 46=>242 | 4=>4 | 36=>235 | 35=>234 | 41=>90 | 5=>5 | 9=>9 | 53=>299 | 57=>303 | 63=>351 | 64=>267 | n=>n,fun | n=>n⟩
theorem Tryz.sortInt:Go.Proofs.SlLaysM.n5 H sortInt_ren:= { lays172,laysNm215 with
 mixed:=by kernel_rfl
 f5:=⟨Tryz.f48.name,by decide,Tryz.lq func48 (by kernel_rfl)⟩
 f7:=⟨Tryz.f98.name,by decide,Tryz.lq func98 (by kernel_rfl)⟩
 f8:=Tryz.lq func99 (by kernel_rfl)
 f10:=⟨Tryz.f173.name,by decide,Tryz.lq func173 (by kernel_rfl)⟩
 f11:=⟨Tryz.f174.name,by decide,Tryz.lq func174 (by kernel_rfl)⟩
 f12:=⟨Tryz.f175.name,by decide,Tryz.lq func175 (by kernel_rfl)⟩
 f13:=⟨Tryz.f176.name,by decide,Tryz.lq func176 (by kernel_rfl)⟩
 f14:=⟨Tryz.f177.name,by decide,Tryz.lq func177 (by kernel_rfl)⟩
 f15:=⟨Tryz.f178.name,by decide,Tryz.lq func178 (by kernel_rfl)⟩
 f16:=⟨Tryz.f100.name,by decide,Tryz.lq func100 (by kernel_rfl)⟩
 f17:=⟨Tryz.f179.name,by decide,Tryz.lq func179 (by kernel_rfl)⟩
 f18:=⟨Tryz.f180.name,by decide,Tryz.lq func180 (by kernel_rfl)⟩
 f19:=Tryz.lq func181 (by kernel_rfl)
 f20:=Tryz.lq func182 (by kernel_rfl)
 f30:=⟨Tryz.f263.name,by decide,Tryz.lq func263 (by kernel_rfl)⟩
 f31:=Tryz.lq func264 (by kernel_rfl)
 f32:=Tryz.lq func265 (by kernel_rfl)
 f33:=⟨Tryz.f266.name,by decide,Tryz.lq func266 (by kernel_rfl)⟩
 f34:=⟨Tryz.f267.name,by decide,Tryz.lq func267 (by kernel_rfl)⟩
 f35:=⟨Tryz.f183.name,by decide,Tryz.lq func183 (by kernel_rfl)⟩
 f40:=⟨Tryz.f325.name,by decide,Tryz.lq func325 (by kernel_rfl)⟩
 t23:=QR
 a23:=isAgg32
 z23:=sizeOf32
 v23:=zeroValue32
 t25:=underlying3
 a25:=isAgg3
 z25:=sizeOf3
 v25:=zeroValue3
 t32:=QY
 a32:=isAgg159
 z32:=sizeOf159
 v32:=QZ
 t35:=Xa
 a35:=isAgg234
 z35:=sizeOf234
 v35:=Xb
 t36:=Xc
 a36:=isAgg235
 z36:=sizeOf235
 v36:=Xd
 t41:=Xe
 a41:=isAgg90
 z41:=sizeOf90
 v41:=Xf
 t44:=Xg
 a44:=isAgg229
 z44:=sizeOf229
 v44:=Xh
 t46:=Xi
 a46:=isAgg242
 z46:=sizeOf242
 v46:=Xj
 t53:=Xk
 a53:=isAgg299
 z53:=sizeOf299
 v53:=Xl
 t57:=Xm
 a57:=isAgg303
 z57:=sizeOf303
 v57:=Xn
 t63:=Xo
 a63:=isAgg351
 z63:=sizeOf351
 v63:=Xp
 t64:=Xq
 a64:=isAgg267
 z64:=sizeOf267
 v64:=Xr }
end Go.Proofs
namespace Go.Proofs.YtcllhobffhkafaaGreatDoor
open Go.RowKit Go.Extern.Stop Go.Stop Go.Extern Go.Sort Go.Shelf Go.Lib
def A2 (xs:List Rw):List Qj:=xs.flatMap AN
theorem Km (x:Rw):(AN x).length=3:=rfl
theorem IF (x:Rw):∀u∈AN x,u.oneCell'=V:=by
 intro u b;simp only[AN,Q2,QX,or_false]at b;rcases b with rfl | rfl | rfl<;>rfl
theorem FA:∀xs:List Rw,(A2 xs).length=xs.length*3
 | []=>rfl
 | x :: xs=>by
  have:=FA xs;simp only[A2,QK,QI,QW]at *;rw[this,Km];omega
theorem L3 (xs:List Rw):∀u∈A2 xs,u.oneCell'=V:=by
 intro u b;simp only[A2,List.mem_flatMap]at b;obtain⟨x,_,c⟩:=b;exact IF x u c
theorem Kn (xs ys:List Rw):A2 (xs++ys)=A2 xs++A2 ys:=by simp[A2]
theorem IG:∀(xs:List Rw) (j c:Nat) (h:j<xs.length),c<3->(A2 xs)[j*3+c]? =(AN xs[j])[c]?
 | [],j,_,h,_=>by simp at h
 | x :: xs,0,c,_,hc=>by
  simp only[A2,QK,Nat.zero_mul,QJ,List.getElem_cons_zero];rw[QU (by rw[Km];exact hc)]
 | x :: xs,j+1,c,h,hc=>by
  have b:j<xs.length:=by simp at h;omega
  have:=IG xs j c b hc;simp only[A2,QK,List.getElem_cons_succ]at *;rw[QV (by rw[Km];omega),Km,show (j+1)*3+c-3=j*3+c by omega];exact this
theorem L4 {w:J} {b o:Nat} {xs:List Rw} (h:Ei w b o xs):∀t u,(A2 xs)[t]? =O u->w.cell? ⟨b,o+t,I⟩=O u:=by
 intro t u c;have i:t<(A2 xs).length:=by
  rcases Ql t (A2 xs).length with f | f
  ·exact f
  ·rw[Qw f]at c;cases c
 rw[FA]at i;have g:t / 3<xs.length:=by omega
 have e:t=t / 3*3+t % 3:=by omega
 rw[e,IG xs (t / 3) (t % 3) g (by omega)]at c;obtain⟨j,k,l⟩:=h (t / 3) g;have d:t % 3=0\/t % 3=1\/t % 3=2:=by omega
 rcases d with d | d | d
 ·rw[d]at c;simp only[AN,QL,Q3]at c;rw[<-c,<-j];congr 2;omega
 ·rw[d]at c;simp only[AN,Xs,QL,Q3]at c;rw[<-c,<-k];congr 2;omega
 ·rw[d]at c;simp only[AN,Xs,QL,Q3]at c;rw[<-c,<-l];congr 2;omega
theorem Rt {w:J} {b o:Nat} {xs:List Rw} (h:∀t u,(A2 xs)[t]? =O u->w.cell? ⟨b,o+t,I⟩=O u):Ei w b o xs:=fun j hj =>
 ⟨h (j*3) _ (by have:=IG xs j 0 hj (by omega);simpa [AN] using this),
  by have:=h (j*3+1) _ (by have:=IG xs j 1 hj (by omega);simpa [AN] using this);rw[<-Xt]at this;exact this,
  by have:=h (j*3+2) _ (by have:=IG xs j 2 hj (by omega);simpa [AN] using this);rw[<-Xt]at this;exact this⟩
theorem Ru {w:J} {base:Nat} {v:Qj} {n:Nat} {xs:List Rw} (h:w.ownsRow base 62 3 v n (A2 xs)):n=xs.length/\((v=Qi I 0 0/\xs= [])\/∃g cap,v=Qi (O ⟨g,0,I⟩) xs.length cap/\Ei w g 0 xs):=by
 obtain⟨f,h⟩:=h;have b:n=xs.length:=by rw[FA]at f;omega
 refine⟨b,?_⟩;subst b;rcases h with⟨i,b⟩|⟨g,cap,l,rfl,_,j,_,_,_,k⟩
 ·exact Or.inl ⟨i,List.length_eq_zero_iff.1 b⟩
 ·refine Or.inr ⟨g,cap,rfl,Rt fun t u hu=>?_⟩;have d:t<xs.length*3:=by
   rw[<-FA];rcases Ql t (A2 xs).length with c | c
   ·exact c
   ·rw[Qw c]at hu;cases hu
  rw[<-k,List.getElem?_take,if_pos d]at hu;simp only[World.cell?,j,QJ];simpa using hu
theorem II {w:J} {base:Nat} {v:Qj} {n:Nat} {xs:List Rw} (h:w.ownsRow base 62 3 v n (A2 xs)):Ar w v xs/\n=xs.length:=by
 obtain⟨d,h⟩:=Ru h;refine⟨?_,d⟩;rcases h with⟨b,f⟩|⟨g,c,b,i⟩
 ·exact Or.inl ⟨I,0,b,f⟩
 ·exact Or.inr ⟨g,0,c,b,i⟩
theorem Rv (xs:List Rw):flatK AN 3 xs.toArray=(A2 xs).toArray:=by
 refine ext_get! (by simp[FA]) fun t ht=>?_;simp only[size_flatK,List.size_toArray]at ht;rw[get_flatK _ _ _ _ (by simpa using ht)];have b:t / 3<xs.length:=by omega
 have:=IG xs (t / 3) (t % 3) b (by omega);rw[show t / 3*3+t % 3=t by omega]at this;simp only[List.getElem!_toArray,List.getElem!_eq_getElem?_getD,this];rw[QT b];rfl
end Go.Proofs.YtcllhobffhkafaaGreatDoor
namespace Go.Proofs
open Go.Shelf
def Tryz.sortRow_ren:Go.Shelf.Ren:=⟨fun | 6=>103 | 15=>99 | 14=>184 | 28=>181 | 29=>182 | 20=>268 | 21=>269 | 22=>270 | 23=>271 | 24=>272 | 25=>273 | 26=>274 | 27=>275 | 46=>326 | 47=>264 | 48=>265 | 49=>327 | 50=>328 | 57=>361 | n=>n,fun | 22=>35 | 24=>62 | 25=>162 | 3=>3 | 39=>159 | 0=>0 | 53=>229 | 55=>242 | 4=>4 | 46=>235 | 45=>234 | 50=>90 | 5=>5 | 9=>9 | 66=>299 | 70=>303 | 76=>351 | 77=>267 | n=>n,fun | n=>n⟩
theorem Tryz.sortRow:Go.Proofs.SlLaysF0.n6 H sortRow_ren:= { lays172,cloneRow with
 mixed:=by kernel_rfl
 f6:=⟨Tryz.f103.name,by decide,Tryz.lq func103 (by kernel_rfl)⟩
 f14:=⟨Tryz.f184.name,by decide,Tryz.lq func184 (by kernel_rfl)⟩
 f15:=Tryz.lq func99 (by kernel_rfl)
 f20:=⟨Tryz.f268.name,by decide,Tryz.lq func268 (by kernel_rfl)⟩
 f21:=⟨Tryz.f269.name,by decide,Tryz.lq func269 (by kernel_rfl)⟩
 f22:=⟨Tryz.f270.name,by decide,Tryz.lq func270 (by kernel_rfl)⟩
 f23:=⟨Tryz.f271.name,by decide,Tryz.lq func271 (by kernel_rfl)⟩
 f24:=⟨Tryz.f272.name,by decide,Tryz.lq func272 (by kernel_rfl)⟩
 f25:=⟨Tryz.f273.name,by decide,Tryz.lq func273 (by kernel_rfl)⟩
 f26:=⟨Tryz.f274.name,by decide,Tryz.lq func274 (by kernel_rfl)⟩
 f27:=⟨Tryz.f275.name,by decide,Tryz.lq func275 (by kernel_rfl)⟩
 f28:=Tryz.lq func181 (by kernel_rfl)
 f29:=Tryz.lq func182 (by kernel_rfl)
 f46:=⟨Tryz.f326.name,by decide,Tryz.lq func326 (by kernel_rfl)⟩
 f47:=Tryz.lq func264 (by kernel_rfl)
 f48:=Tryz.lq func265 (by kernel_rfl)
 f49:=⟨Tryz.f327.name,by decide,Tryz.lq func327 (by kernel_rfl)⟩
 f50:=⟨Tryz.f328.name,by decide,Tryz.lq func328 (by kernel_rfl)⟩
 f57:=⟨Tryz.f361.name,by decide,Tryz.lq func361 (by kernel_rfl)⟩
 t25:=underlying162
 a25:=isAgg162
 z25:=sizeOf162
 v25:=zeroValue162
 t39:=QY
 a39:=isAgg159
 z39:=sizeOf159
 v39:=QZ
 t45:=Xa
 a45:=isAgg234
 z45:=sizeOf234
 v45:=Xb
 t46:=Xc
 a46:=isAgg235
 z46:=sizeOf235
 v46:=Xd
 t50:=Xe
 a50:=isAgg90
 z50:=sizeOf90
 v50:=Xf
 t53:=Xg
 a53:=isAgg229
 z53:=sizeOf229
 v53:=Xh
 t55:=Xi
 a55:=isAgg242
 z55:=sizeOf242
 v55:=Xj
 t66:=Xk
 a66:=isAgg299
 z66:=sizeOf299
 v66:=Xl
 t70:=Xm
 a70:=isAgg303
 z70:=sizeOf303
 v70:=Xn
 t76:=Xo
 a76:=isAgg351
 z76:=sizeOf351
 v76:=Xp
 t77:=Xq
 a77:=isAgg267
 z77:=sizeOf267
 v77:=Xr }
end Go.Proofs
