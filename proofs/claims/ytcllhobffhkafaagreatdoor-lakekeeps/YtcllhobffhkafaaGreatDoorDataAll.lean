/- By an AI agent. -/
import Derived.Test.YtcllhobffhkafaaGreatDoorSrtPure
import Derived.Laws.BitsAll
import Derived.Laws.BitsAllLaws
import Derived.Laws.CopyRow
import Derived.Laws.Tables
import Derived.Lib.QuietBelow
import Derived.Test.YtcllhobffhkafaaGreatDoorDataPure
import Derived.Deep.RegionHeld3
import Derived.Lib.JoinLaws
import Derived.Maps.AppendAt
import Derived.Deep.Onto
set_option maxRecDepth 100000
set_option maxHeartbeats 16000000
open Go.Proofs.Tryz
open Array renaming size_replicate->QN,getElem?_eq_none->QS,replicate->QT,ext_getElem?->Xd
open Bool renaming false->Qk,true->Qr,and_eq_true->QW
open Go renaming World->A,Calls->Qc,Addr->Qd,Value->Qm,maxLen->Qo,cell_of_row->Qp,lt_of_block->Qt,bits->Qx,callFunc->Qz,heap_setCell_same->Q2,heap_setCell_other->Q3,heap_alloc_new->Q4,bodyPost_ret->QC,TypeId->QM,results->QO,frozen_of_row->QU,u32_xor_nat->QV,heap_alloc2_old->Xe,heap_alloc2_new->Xf,wpList_store_row->Xh,setRow_heap->Xi,ownsRow_setCell_other->Xw,run_eql_struct->X0
open Go.ByteArray renaming toList_eq->Q7
open Go.Ending renaming returned->Qb
open Go.IntKind renaming i64->U,wrap_u64->X1
open Go.Lib renaming itoa->Qe,IsBuilder->Qq,nDigits->Qw,cut->Qy,zeros24->Q0,byteCells->QA,join->QJ,decDigits->QX,TabIs->Xo,pow10Tab->Xp,itoa_nonneg->Xq,decDigits_length->Xs,byteCells_append->Xy
open Go.Obj renaming cells->J
open Go.Proofs renaming intOf->Qs,enters_of->QD
open Go.Proofs.Tryz renaming prog->V,func123->Q5,ntmps123->Q6,func63->Q8,ntmps63->Q9,func203->QE,ntmps203->QF,results207->QP,func118->QQ,ntmps118->QR,func209->Xc,underlying296->Xg,underlying344->Xr
open Go.RowKit renaming Hid->S
open Go.RowKit.Below renaming refl->Qj,size->QG,trans->QY,drew->QZ,alloc->Xv
open Go.Value renaming int->O,string->G,pointer->Qa,slice->Qf,tuple->Qg,iface->Qh,agg->Qn,nilIface->Q1,bool->QI
open Int renaming emod_nonneg->QK,emod_lt_of_pos->QL,lt_or_le->Xk,mul_nonneg->Xl,sub_mul->Xm,one_mul->Xn
open List renaming length_append->QH,take_of_length_le->Xj,foldl_append->Xt,length_eq_zero_iff->Xu,getElem_mem->Xx
open Nat renaming le_trans->Qu,le_refl->Qv,le_succ->Xa,lt_succ_self->Xb,succ_ne_zero->Xz
open Option renaming none->Z,some->I
open Option.some renaming inj->QB
open Or renaming inr->Qi,inl->Ql
namespace Go.Proofs
open Go.Shelf
def Tryz.lays169_ren:Go.Shelf.Ren:=⟨fun | 169=>205 | n=>n,fun | 70=>257 | 9=>9 | 0=>0 | 72=>260 | 37=>258 | 127=>320 | 3=>3 | 5=>5 | n=>n,fun | n=>n⟩
theorem Tryz.lays169:Go.Proofs.Lays.n169 V lays169_ren:= { lays172 with
 mixed:=by kernel_rfl
 f169:=Tryz.lq func205 (by kernel_rfl)
 t70:=underlying257
 a70:=isAgg257
 z70:=sizeOf257
 v70:=zeroValue257
 t72:=underlying260
 a72:=isAgg260
 z72:=sizeOf260
 v72:=zeroValue260 }
theorem Tryz.Builder_Extra_169:Builder.Extra V lays169_ren:= { lays172 with
 sizeBuilder:=by kernel_rfl
 liesBuilder:=by kernel_rfl
 infoByte:=by kernel_rfl
 cellsByte:=by kernel_rfl
 sizeByte:=by kernel_rfl
 neB5:=by decide }
open Go.RowKit in
theorem Tryz.Builder_String_any (B b:Nat) (l:List UInt8) (w:A) (h:Qq 260 5 B b (QA l) w) (c:B<=w.heap.size) :
 Qc V 205 #[Qa (I ⟨b,0,Z⟩)] w fun e w'=>e=Qb (G ⟨l.toArray⟩)/\Below B w w':=Any.Builder_String_any lays169 Builder_Extra_169 B b l w h c
def Tryz.lays156_ren:Go.Shelf.Ren:=⟨fun | 156=>291 | 165=>333 | 166=>204 | 169=>205 | 240=>289 | 241=>370 | 276=>331 | 277=>385 | n=>n,fun | 31=>82 | 9=>9 | 3=>3 | 4=>4 | 0=>0 | 20=>20 | 72=>260 | 76=>45 | 70=>257 | 37=>258 | 75=>27 | 127=>320 | 164=>325 | 5=>5 | 80=>64 | n=>n,fun | n=>n⟩
theorem Tryz.lays156:Go.Proofs.Lays.n156 V lays156_ren:= { lays172,lays169 with
 mixed:=by kernel_rfl
 f156:=Tryz.lq func291 (by kernel_rfl)
 f165:=Tryz.lq func333 (by kernel_rfl)
 f166:=Tryz.lq func204 (by kernel_rfl)
 f169:=Tryz.lq func205 (by kernel_rfl)
 f240:=Tryz.lq func289 (by kernel_rfl)
 f241:=Tryz.lq func370 (by kernel_rfl)
 f276:=Tryz.lq func331 (by kernel_rfl)
 f277:=Tryz.lq func385 (by kernel_rfl)
 t31:=underlying82
 a31:=isAgg82
 z31:=sizeOf82
 v31:=zeroValue82
 t164:=underlying325
 a164:=isAgg325
 z164:=sizeOf325
 v164:=zeroValue325 }
theorem Tryz.Builder_Extra_156:Builder.Extra V lays156_ren:= { lays172 with
 sizeBuilder:=by kernel_rfl
 liesBuilder:=by kernel_rfl
 infoByte:=by kernel_rfl
 cellsByte:=by kernel_rfl
 sizeByte:=by kernel_rfl
 neB5:=by decide }
open Go.RowKit in
theorem Tryz.strings_Join (f o c:Nat) (xs:List ByteArray) (b:ByteArray) (w:A) (d:∀(j:Nat) x,xs[j]? =I x->w.cell? ⟨f,o+j,Z⟩=I (G x)) (k:f<w.heap.size) (l:xs.length<=140737488355328) (g:xs.length<=c) (i:(QJ (xs.map (·.data.toList)) b.data.toList).length<=140737488355328) :
 Qc V 291 #[Qf (I ⟨f,o,Z⟩) xs.length c,G b] w fun e w'=>e=Qb (G ⟨(QJ (xs.map (·.data.toList)) b.data.toList).toArray⟩)/\Below w.heap.size w w':=Any.strings_Join lays156 Builder_Extra_156 f o c xs b w d k l g i
end Go.Proofs
namespace Go.Proofs.YtcllhobffhkafaaGreatDoor
open Go.RowKit Go.Extern.Stop Go.Stop Go.Extern Go.Sort Go.Shelf Go.Lib
def Bz (n:Nat):Array Qm:=(Array.range 256).map fun i=>.int .u32 (if i<n then (Da i:Int) else 0)
theorem Fy (n:Nat):(Bz n).size=256:=by simp[Bz]
theorem Kf (n i:Nat) (h:i<256):(Bz n)[i]? =I (.int .u32 (if i<n then (Da i:Int) else 0)):=by
 simp[Bz,h]
theorem gI (n:Nat) (h:n<256):(Bz n).setIfInBounds n (.int .u32 (Da n:Int))=Bz (n+1):=by
 apply Xd;intro i;rw[Array.getElem?_setIfInBounds];by_cases b:i<256
 ·rw[Kf _ _ b,Kf _ _ b,Fy];by_cases e:n=i
  ·subst e;simp[h]
  ·rw[if_neg e];by_cases c:i<n
   ·rw[if_pos c,if_pos (by omega)]
   ·rw[if_neg c,if_neg (by omega)]
 ·have d:∀k,(Bz k)[i]? =Z:=fun k=>QS (by rw[Fy];omega);rw[d,d,Fy];by_cases e:n=i
  ·subst e;omega
  ·rw[if_neg e]
theorem gJ:Bz 0=QT 256 (.int .u32 0):=by
 apply Xd;intro i;by_cases b:i<256
 ·rw[Kf _ _ b];simp[b]
 ·rw[QS (by rw[Fy];omega),QS (by simp;omega)]
def Kg (j:Nat) (x:Nat):Nat:=Nat.repeat D8 j x
theorem SW (j x:Nat):Kg (j+1) x=D8 (Kg j x):=rfl
theorem gK (j:Nat) {x:Nat} (h:x<4294967296):Kg j x<4294967296:=by
 induction j with
 | zero=>exact h
 | succ j ih=>rw [SW];exact Hy ih
theorem gL (x:Nat):Kg 8 x=Da x:=rfl
theorem Tryz.zeroTab:zeroCells296=Bz 0:=by rw[gJ];kernel_rfl
theorem Tryz.sizeTab:(Tryz.prog.info? 296).map (·.size)=I 256:=by kernel_rfl
theorem Ta (n:Nat):(Bz n).all (·.oneCell')=Qr:=by
 rw[Array.all_eq_true];intro i b;have h:=Kf n i (by rw[Fy]at b;exact b);rw[Array.getElem?_eq_getElem b]at h;rw[QB h];rfl
theorem Tb {B:Nat} {a w:A} (h:Below B a w) (g:Nat) (c:B<=g) (b:Array Qm):Below B a (w.setRow g b):=by
 refine⟨h.os,h.tape,h.output,by rw[size_setRow];exact h.size,fun k hk=>?_⟩;have e:(w.setRow g b).heap[k]? =w.heap[k]? :=by
  unfold World.setRow;simp only[Array.getElem?_modify];rw[if_neg (by omega)]
 rw[e];exact h.block k hk
theorem gM (w:A):Qc V 259 #[] w fun e w'=>e=Qb (Qn (Bz 256))/\BL w w':=by
 have P:=Tryz.zeroTab;have v:BL w ((w.alloc (J (Bz 0) 296)).alloc (J (Bz 0) 296)):=(Af _ _).alloc (by simp) _;have D:=Xe w (J (Bz 0) 296) (J (Bz 0) 296);have E:=Xf w (J (Bz 0) 296) (J (Bz 0) 296)
 go_enter func259,ntmps259
 go_wp2
 go_loopw [5] (fun k wr=> ∃n:Nat,n<=256/\k=O U n/\BL w wr/\wr.heap[w.heap.size]? =I (J (Bz 0) 296 (0,0))/\wr.heap[w.heap.size+1]? =I (J (Bz n) 296 (0,0))) (fun k _=>256-(Qs k).toNat)
 case atStart=>exact ⟨0,by omega,rfl,v,D,E⟩
 case round =>
  obtain⟨n,T,rfl,B,K,L⟩:=hrel;have q:S _:=K;have f:S _:=L;by_cases l:n<256
  ·have Q:(n:Int)<256:=by omega
   have C:wr.cell? ⟨w.heap.size+1,n,Z⟩=I (.int .u32 0):=by rw[Qp _ _ _ _ _ _ f.out,Kf _ _ l,if_neg (by omega)]
   have M:wr.frozen? ⟨w.heap.size+1,n,Z⟩=Qk:=QU _ _ _ _ _ f.out;go_wp2
   go_loop [3,10] (fun s j=> ∃m:Nat,m<=8/\j=O U m/\s= .int .u32 (Kg m n:Nat)) (fun _ j=>8-(Qs j).toNat)
   case atStart=>exact ⟨0,by omega,rfl,rfl⟩
   case round =>
    obtain⟨m,W,rfl,rfl⟩:=hrel;by_cases F:m<8
    ·have N:(m:Int)<8:=by omega
     have o:=gK m (x:=n) (by omega);have y:=SW m n;generalize Kg m n=c at o y ⊢;have p:S _:=y;have d:Qx .and .u32 (c:Int) 1=((c % 2:Nat):Int):=by
      have:=u32_and_nat c 1 o (by decide);rw[nat_mask1]at this;exact this
     by_cases b:c % 2=1
     ·have r:(Qx .and .u32 (c:Int) 1 == 1)=Qr:=by rw[d,b];rfl
      have R:Qx .xor .u32 ((c:Int) / 2) 3988292384=((c / 2 ^^^ 3988292384:Nat):Int):=by
       have:=QV (c / 2) 3988292384 (by omega) (by decide);simpa using this
      go_wp2;go_round
      case rel=>exact ⟨m+1,by omega,by go_num,by rw[p.out];unfold D8;rw[if_pos b]⟩
      case measure=>simp [Qs];omega
     ·have r:(Qx .and .u32 (c:Int) 1 == 1)=Qk:=by rw[d,show c % 2=0 by omega];rfl
      go_wp2;go_round
      case rel=>exact ⟨m+1,by omega,by go_num,by rw[p.out];unfold D8;rw[if_neg b];simp⟩
      case measure=>simp [Qs];omega
    ·obtain rfl:m=8:=by omega
     rw[gL];have t:=Q2 wr (w.heap.size+1) n (Bz n) 296 (.int .u32 (Da n:Nat)) f.out;have g:=Q3 wr ⟨w.heap.size+1,n,Z⟩ w.heap.size (.int .u32 (Da n:Nat)) (by simp);have u:S ((wr.setCell ⟨w.heap.size+1,n,Z⟩ (.int .u32 (Da n:Nat))).heap[w.heap.size+1]? =I (J (Bz (n+1)) 296 (0,0))):=by
      show _=_;rw[t,gI n l]
     have i:S ((wr.setCell ⟨w.heap.size+1,n,Z⟩ (.int .u32 (Da n:Nat))).heap[w.heap.size]? =I (J (Bz 0) 296 (0,0))):=by
      show _=_;rw[g];exact q.out
     have z:BL w (wr.setCell ⟨w.heap.size+1,n,Z⟩ (.int .u32 (Da n:Nat))):=B.setCell (by simp) _;go_wp2;go_roundw
     case rel=>exact ⟨n+1,by omega,by go_num,z,i.out,u.out⟩
     case measure=>simp [Qs];omega
  ·obtain rfl:n=256:=by omega
   go_wp2_with (first
    | (refine wpList_load_row rfl 296 _ rfl (w.heap.size+1) rfl 296 (Bz 256) (0,0) _ f.out Xg rfl (by rw[Fy];exact Tryz.sizeTab) ?_)
    | (refine Xh rfl 296 _ _ rfl w.heap.size (Bz 256) rfl rfl 296 (Bz 0) q.out (by rw[Fy];exact Tryz.sizeTab) (by rw[Fy,Fy]) (Ta _) ?_))
   refine QC (results_cell_row rfl _ _ w.heap.size 296 (Bz 256) (0,0) _ rfl (Xi wr w.heap.size (Bz 0) _ _ _ q.out) Xg rfl (by rw[Fy];exact Tryz.sizeTab)) rfl ⟨rfl,?_⟩;exact Tb B _ (Qv _) _
theorem KR (s:ByteArray) (w:A) (X:s.size<=Qo):Qc V 171 #[G s] w fun e w'=>e=Qb (.int .u32 (Bi s.data.toList:Nat))/\BL w w':=by
 unfold Qo at X;have Y:=Tryz.zeroTab;have t:=gM w
 go_enter func171,ntmps171
 go_wp2_with fail
 refine t.mono ?_;rintro e f ⟨rfl,m⟩;have u:=Q4 f (J (Bz 0) 296);have v:BL w (f.alloc (J (Bz 0) 296)):=m.alloc m.size _
 go_wp2_with (refine Xh rfl 296 _ _ rfl f.heap.size (Bz 256) rfl rfl 296 (Bz 0) u (by rw[Fy];exact Tryz.sizeTab) (by rw[Fy,Fy]) (Ta _) ?_)
 have p:=Xi (f.alloc (J (Bz 0) 296)) f.heap.size (Bz 0) (Bz 256) _ _ u;have l:BL w ((f.alloc (J (Bz 0) 296)).setRow f.heap.size (Bz 256)):=Tb v _ m.size _;generalize f.heap.size=g at p l ⊢;generalize (f.alloc (J (Bz 0) 296)).setRow g (Bz 256)=W at p l ⊢;have Q:S (∀i,i<256->W.cell? ⟨g,i,Z⟩=I (.int .u32 (Da i:Nat))):=fun i q=>by
  rw[Qp _ _ _ _ _ _ p,Kf _ _ q,if_pos q]
 go_loop [4,5] (fun c k=> ∃n:Nat,n<=s.size/\k=O U n/\c= .int .u32 (Gb (s.data.toList.take n):Nat)) (fun _ k=>s.size-(Qs k).toNat)
 case atStart=>exact ⟨0,Nat.zero_le _,rfl,rfl⟩
 case round =>
  obtain⟨n,hn,rfl,rfl⟩:=hrel;have j:=Ss (s.data.toList.take n);by_cases y:n<s.size
  ·have q:(n:Int)<(s.size:Int):=by omega
   have z:s.data.toList.take (n+1)=s.data.toList.take n++ [s[n]]:=by
    rw[List.take_succ_eq_append_getElem (by simpa using y)];rfl
   have B:S (Gb (s.data.toList.take (n+1))=Jf (Gb (s.data.toList.take n)) s[n]):=by
    show _=_;rw[z,eM]
   have r:=eJ (Gb (s.data.toList.take n)) s[n];generalize Gb (s.data.toList.take n)=C at j B r ⊢;have N:=s[n].toNat_lt;obtain⟨d,M⟩:∃d,(C ^^^ s[n].toNat) % 256=d:=⟨_,rfl⟩;have o:d<256:=by omega
   have R:Qx .xor .u8 ((C:Int) % 256) (s[n].toNat:Int)=(d:Int):=by
    have D:=u8_xor_nat (C % 256) s[n].toNat (by omega) (by omega);have E:=Nat.xor_mod_two_pow (a:=C) (b:=s[n].toNat) (n:=8);rw[show (2:Nat) ^ 8=256 from rfl,Nat.mod_eq_of_lt (a:=s[n].toNat) (by omega)]at E;rw[<-E,M]at D;simpa using D
   have P:=Q.out d o;have F:=Sq (x:=d) (by omega);have T:Qx .xor .u32 (Da d:Int) ((C:Int) / 256)=((Da d ^^^ C / 256:Nat):Int):=by
    have:=QV (Da d) (C / 256) F (by omega);simpa using this
   rw[M]at r;have K:S _:=r;go_wp2;go_round
   case rel=>exact ⟨n+1,by omega,by go_num,by rw[B.out,K.out]⟩
   case measure=>simp [Qs];omega
  ·obtain rfl:n=s.size:=by omega
   have L:s.data.toList.take s.size=s.data.toList:=Xj (by rw[AC];exact Qv _);rw[L]at j ⊢;have T:Qx .xor .u32 IntKind.u32.max (Gb s.data.toList:Int)=((Bi s.data.toList:Nat):Int):=by
    have e:IntKind.u32.max=4294967295:=by decide
    rw[e];have:=QV 4294967295 (Gb s.data.toList) (by decide) j;unfold Bi;rw[Nat.xor_comm];exact this
   go_wp2;go_ret;exact⟨rfl,l⟩
theorem Ap.form {w:A} {v:Qm} {xs:List Rw} (h:Ap w v xs):∃p c,v=Qf p xs.length c:=by
 rcases h with⟨p,c,rfl,rfl⟩|⟨b,o,d,rfl,_⟩
 ·exact⟨_,_,rfl⟩
 ·exact⟨_,_,rfl⟩
theorem A4.form {w:A} {v:Qm} {zs:List Int} (h:A4 w v zs):∃p c,v=Qf p zs.length c:=by
 rcases h with⟨p,c,rfl,rfl⟩|⟨b,o,d,rfl,_⟩
 ·exact⟨_,_,rfl⟩
 ·exact⟨_,_,rfl⟩
theorem Tc (k n:Int) (j:1<=n):(k.tmod n<0/\k / n=k.tdiv n-1/\k % n=k.tmod n+n)\/(¬k.tmod n<0/\k / n=k.tdiv n/\k % n=k.tmod n):=by
 have f:=QK k (show n≠0 by omega);have g:=QL k (show 0<n by omega);have b:=@Int.tdiv_eq_ediv k n;have d:=@Int.tmod_eq_emod k n;have i:n.sign=1:=Int.sign_eq_one_of_pos (by omega);by_cases c:0<=k\/n ∣ k
 ·rw[if_pos c]at b d;exact Qi ⟨by omega,by omega,by omega⟩
 ·rw[if_neg c]at b d;exact Ql ⟨by omega,by omega,by omega⟩
theorem gN (k n:Int) (b: -4611686018427387904<=k) (c:k<=4611686018427387904): -4611686018427387904<=k.tdiv n/\k.tdiv n<=4611686018427387904:=by
 have h:(k.tdiv n).natAbs<=k.natAbs:=by rw[Int.natAbs_tdiv];exact Nat.div_le_self _ _
 omega
theorem gO (k n:Int) (b:1<=n): -n<=k.tmod n/\k.tmod n<n:=by
 have h:=Tc k n b;have c:=QK k (show n≠0 by omega);have d:=QL k (show 0<n by omega);omega
theorem Td (k n:Int) (w:A) (b:1<=n) (j:n<=1000) (f: -4611686018427387904<=k) (g:k<=4611686018427387904) :
  Qc V 211 #[O U k,O U n] w fun e w'=>e=Qb (Qg #[O U (k / n),O U (k % n)])/\BL w w':=by
 have l:=gN k n f g;have m:=gO k n b;rcases Tc k n b with⟨i,c,d⟩|⟨i,c,d⟩
 ·rw[c,d]
  go_enter func211,ntmps211
  go_wp2
  go_quiet (fail)
  go_wp2;go_ret2;exact⟨rfl,AK (Qj _ _) nq⟩
 ·rw[c,d]
  go_enter func211,ntmps211
  go_wp2
  go_quiet (fail)
  go_wp2;go_ret2;exact⟨rfl,AK (Qj _ _) nq⟩
def Gf (c:UInt8) (n:Int):ByteArray:=⟨#[c]⟩++Ab (Qe n)
theorem Jm (n:Int) (w:A) (a:Nat->Qd) (h:Cd w a) (b: -9223372036854775808<=n) (c:n<=9223372036854775807) :
  Qc V 86 #[O U n] w fun e w'=>e=Qb (G (Ab (Qe n)))/\BL w w' :=
 (Ix n w h.tab b c).mono fun e w' ⟨he,k,os,hw⟩=>⟨he,by subst hw;exact GT k os⟩
theorem gP (k n:Int) (w:A) (a:Nat->Qd) (h:Bl w a) (g:1<=n) (i:n<=1000) (p: -1073741824<=k) (q:k<=1073741824) :
  Qc V 125 #[O U k,O U n] w fun e w'=>e=Qb (G (Gf 98 (k % n)))/\BL w w':=by
 have j:=Td k n w g i (by omega) (by omega);have s:=QK k (show n≠0 by omega);have t:=QL k (show 0<n by omega);generalize k % n=r at *;have c:=fun W (hW:Bl W a)=>Jm r W a hW.weak (by omega) (by omega);have l:=EI r (by omega) (by omega);have o:(Ab (Qe r)).size<=20:=by rw[<-AC];simpa [Ab] using (by omega:(Qe r).length<=20)
 unfold Gf
 go_enter func125,ntmps125
 go_wp2_with fail
 refine j.mono ?_;rintro e m ⟨rfl,b⟩;have d:=c m (h.below b)
 go_wp2_with fail
 refine d.mono ?_;rintro e u ⟨rfl,f⟩;go_wp2;go_ret;exact⟨rfl,(Ad b f)⟩
theorem Te (k n:Int) (g:1<=n) (i: -1073741824<=k) (j:k<=1073741824): -1073741824<=k / n/\k / n<=1073741824:=by
 have e:=Int.mul_ediv_add_emod k n;have d:=QK k (show n≠0 by omega);have f:=QL k (show 0<n by omega);generalize k / n=q at *;refine⟨?_,?_⟩
 ·rcases Xk q (-1073741824) with b | b
  ·exfalso;have c:=Xl (show 0<=n-1 by omega) (show 0<= -(q+1) by omega);rw[Xm,Xn,Int.mul_neg,Int.mul_add,Int.mul_one]at c;omega
  ·exact b
 ·rcases Xk 1073741824 q with b | b
  ·exfalso;have c:=Xl (show 0<=n-1 by omega) (show 0<=q by omega);rw[Xm,Xn]at c;omega
  ·exact b
def I5 (q:Int):ByteArray:=if q<0 then Gf 110 (-q) else Gf 116 q
theorem gQ (k n:Int) (w:A) (a:Nat->Qd) (h:Bl w a) (g:1<=n) (r:n<=1000) (s: -1073741824<=k) (u:k<=1073741824) :
  Qc V 127 #[O U k,O U n] w fun e w'=>e=Qb (G (I5 (k / n)))/\BL w w':=by
 have m:=Td k n w g r (by omega) (by omega);have y:=Te k n g s u;generalize k / n=q at *;by_cases o:q<0
 ·have i:I5 q=Gf 110 (-q):=by unfold I5;rw[if_pos o]
  rw[i];have c:=fun W (hW:Bl W a)=>Jm (-q) W a hW.weak (by omega) (by omega);have j:=EI (-q) (by omega) (by omega);have p:(Ab (Qe (-q))).size<=20:=by rw[<-AC];simpa [Ab] using (by omega:(Qe (-q)).length<=20)
  unfold Gf;generalize Ab (Qe (-q))=t at *
  go_enter func127,ntmps127
  go_wp2_with fail
  refine m.mono ?_;rintro e l ⟨rfl,b⟩;have d:=c l (h.below b);have z:¬9223372036854775807<1+t.size:=by omega
  go_wp2_with fail
  refine d.mono ?_;rintro e v ⟨rfl,f⟩;go_wp2;go_ret;exact⟨rfl,(Ad b f)⟩
 ·have i:I5 q=Gf 116 q:=by unfold I5;rw[if_neg o]
  rw[i];have c:=fun W (hW:Bl W a)=>Jm q W a hW.weak (by omega) (by omega);have j:=EI q (by omega) (by omega);have p:(Ab (Qe q)).size<=20:=by rw[<-AC];simpa [Ab] using (by omega:(Qe q).length<=20)
  unfold Gf
  go_enter func127,ntmps127
  go_wp2_with fail
  refine m.mono ?_;rintro e l ⟨rfl,b⟩;have d:=c l (h.below b)
  go_wp2_with fail
  refine d.mono ?_;rintro e v ⟨rfl,f⟩;go_wp2;go_ret;exact⟨rfl,(Ad b f)⟩
def nO (l:List UInt8):Nat×Int:=match At l with
 | none=>(1,0)
 | some n=>if n<0\/9<l.length then (1,0) else if n<1\/1000<n then (2,0) else (0,n)
theorem gR (s:ByteArray) (w:A) (a:Nat->Qd) (h:Bl w a) (l:s.size<=Qo) :
  Qc V 123 #[G s] w fun e w'=>e=Qb (Qg #[O U (nO s.data.toList).2,Ae a (nO s.data.toList).1])/\BL w w':=by
 have c:=LR s w a h.weak l;have m:=AC s;unfold Dn at c;unfold nO
 cases j:At s.data.toList with
 | none =>
  rw[j]at c
  go_enter Q5,Q6
  go_wp2_with fail
  refine c.mono ?_;rintro e f ⟨rfl,b⟩;have g:=(h.below b).text;go_wp2
  go_quiet (fail)
  go_wp2;go_ret2;exact⟨rfl,AK b nq⟩
 | some n =>
  rw[j]at c;dsimp only at c ⊢;by_cases k:n<0
  ·rw[if_pos (Ql k)];dsimp only
   go_enter Q5,Q6
   go_wp2_with fail
   refine c.mono ?_;rintro e f ⟨rfl,b⟩;have g:=(h.below b).text;go_wp2
   go_quiet (fail)
   go_wp2;go_ret2;exact⟨rfl,AK b nq⟩
  ·by_cases p:9<s.size
   ·rw[if_pos (Qi (by omega))];dsimp only;have o:(9:Int)<(s.size:Int):=by omega
    go_enter Q5,Q6
    go_wp2_with fail
    refine c.mono ?_;rintro e f ⟨rfl,b⟩;have g:=(h.below b).text;go_wp2
    go_quiet (fail)
    go_wp2;go_ret2;exact⟨rfl,AK b nq⟩
   ·have i:¬(n<0\/9<s.data.toList.length):=by omega
    rw[if_neg i];by_cases d:n<1\/1000<n
    ·rw[if_pos d];dsimp only;rcases d with d | d
     ·go_enter Q5,Q6
      go_wp2_with fail
      refine c.mono ?_;rintro e f ⟨rfl,b⟩;have g:=(h.below b).bound;go_wp2
      go_quiet (fail)
      go_wp2;go_ret2;exact⟨rfl,AK b nq⟩
     ·go_enter Q5,Q6
      go_wp2_with fail
      refine c.mono ?_;rintro e f ⟨rfl,b⟩;have g:=(h.below b).bound;go_wp2
      go_quiet (fail)
      go_wp2;go_ret2;exact⟨rfl,AK b nq⟩
    ·rw[if_neg d];dsimp only
     go_enter Q5,Q6
     go_wp2_with fail
     refine c.mono ?_;rintro e f ⟨rfl,b⟩;go_wp2;go_ret2;exact⟨rfl,b⟩
def Mn:List UInt8:= [112,97,114,116]
def KS:List UInt8:= [98,117,99,107,101,116]
def KT:List UInt8:= [116,114,117,110,99]
def G5 (s:List UInt8):List UInt8:=(Qy s [32]).1
def Dd (s:List UInt8):List UInt8:=(Qy s [32]).2.1
def A5 (s:List UInt8):Nat×Nat×Int :=
 if s=Mn then (0,0,0)
 else if G5 s=KS then (if (nO (Dd s)).1=0 then (0,1,(nO (Dd s)).2) else ((nO (Dd s)).1,0,0))
 else if G5 s=KT then (if (nO (Dd s)).1=0 then (0,2,(nO (Dd s)).2) else ((nO (Dd s)).1,0,0))
 else (1,0,0)
def D1 (k:Nat) (n:Int) (x:Rw):ByteArray:=if k=0 then x.1 else if k=1 then Gf 98 (x.2.1 % n) else I5 (x.2.1 / n)
def gS (w:A) (fv:Qm) (p:Rw->ByteArray) (a:Nat->Qd):Prop :=
 ∃g cb,fv= .func (.func g) #[] cb/\(∀args w,(Qz g args).run V w= .ok (.enter g args) w) /\
  ∀(x:Rw) (W:A),BL w W->Bl W a->A0 x=0->Qc V g (#[Qn #[G x.1,O U x.2.1,O U x.2.2]]++cb) W fun e w'=>e=Qb (G (p x))/\BL W w'
theorem Mo {x:Rw} (h:A0 x=0): -1073741824<=x.2.1/\x.2.1<=1073741824:=by
 unfold A0 at h;split at h
 ·split at h
  ·rename_i b;simp only[QW,Aq,decide_eq_true_eq]at b;exact b.1
  ·omega
 ·omega
theorem gT (x:Rw) (w:A):Qc V 121 #[Qn #[G x.1,O U x.2.1,O U x.2.2]] w fun e w'=>e=Qb (G x.1)/\BL w w':=by
 obtain⟨c,d,f⟩:=x;have b:BL w (w.alloc (J #[G c,O U d,O U f] 62)):=Af _ _
 go_enter func121,ntmps121
 go_wp2;go_ret;exact⟨rfl,b⟩
theorem gU (x:Rw) (n:Int) (g:Qd) (w:A) (a:Nat->Qd) (h:Bl w a) (o:w.cell? g=I (O U n)) (p:A0 x=0) (i:1<=n) (j:n<=1000) :
  Qc V 124 #[Qn #[G x.1,O U x.2.1,O U x.2.2],Qa (I g)] w fun e w'=>e=Qb (G (Gf 98 (x.2.1 % n)))/\BL w w':=by
 have c:=Mo p;obtain⟨l,d,m⟩:=x;have b:BL w (w.alloc (J #[G l,O U d,O U m] 62)):=Af _ _;have k:=fun W (hW:BL w W)=>gP d n W a (h.below hW) i j c.1 c.2;have q:=Aa b o
 go_enter func124,ntmps124
 go_wp2_with fail
 refine(k _ b).mono ?_;rintro e r ⟨rfl,f⟩;go_wp2;go_ret;exact⟨rfl,(Ad b f)⟩
theorem gV (x:Rw) (n:Int) (g:Qd) (w:A) (a:Nat->Qd) (h:Bl w a) (o:w.cell? g=I (O U n)) (p:A0 x=0) (i:1<=n) (j:n<=1000) :
  Qc V 126 #[Qn #[G x.1,O U x.2.1,O U x.2.2],Qa (I g)] w fun e w'=>e=Qb (G (I5 (x.2.1 / n)))/\BL w w':=by
 have c:=Mo p;obtain⟨l,d,m⟩:=x;have b:BL w (w.alloc (J #[G l,O U d,O U m] 62)):=Af _ _;have k:=fun W (hW:BL w W)=>gQ d n W a (h.below hW) i j c.1 c.2;have q:=Aa b o
 go_enter func126,ntmps126
 go_wp2_with fail
 refine(k _ b).mono ?_;rintro e r ⟨rfl,f⟩;go_wp2;go_ret;exact⟨rfl,(Ad b f)⟩
theorem CQ {s:ByteArray} {l:List UInt8} (h:s.data.toList=l):(s.toList == l)=Qr:=by
 rw[Q7];simpa using h
theorem BD {s:ByteArray} {l:List UInt8} (h:s.data.toList≠l):(s.toList == l)=Qk:=by
 rw[Q7];simpa using h
theorem Mp (s:ByteArray) (w:A) (a:Nat->Qd) (h:Bl w a) (hs:s.size<=1000) :
  Qc V 63 #[G s] w fun e w'=> ∃fv,e=Qb (Qg #[fv,Ae a (A5 s.data.toList).1])/\((A5 s.data.toList).1=0->gS w' fv (D1 (A5 s.data.toList).2.1 (A5 s.data.toList).2.2) a)/\BL w w':=by
 by_cases u:s.data.toList=Mn
 ·have L:A5 s.data.toList=(0,0,0):=by unfold A5;rw[if_pos u]
  rw[L];dsimp only;have y:=CQ u;unfold Mn at y;have M:∀args w,(Qz 121 args).run V w= .ok (.enter 121 args) w:=QD func121 (by kernel_rfl) rfl;clear L u hs
  go_enter Q8,Q9
  go_wp2;go_ret2;refine⟨_,rfl,fun _=>⟨_,_,rfl,M,fun x W _ _ _=>?_⟩,Qj _ _⟩;exact(gT x W).mono fun e w' ⟨l,o⟩=>⟨by rw[l];simp[D1],o⟩
 ·have y:=BD u;unfold Mn at y;obtain⟨m,hm⟩:=h.maxl;have hcut:=strings_Cut s ⟨#[32]⟩ m w (by omega) hm;have N:(G5 s.data.toList).length<=s.size:=by
   rw[<-AC];unfold G5 Qy;split
   ·simp;omega
   ·exact Qv _
  have P:(Dd s.data.toList).length<=s.size:=by
   rw[<-AC];unfold Dd Qy;split
   ·simp
   ·simp
  have Q:(⟨(Qy s.data.toList [32]).1.toArray⟩:ByteArray)=Ab (G5 s.data.toList):=rfl;have T:(⟨(Qy s.data.toList [32]).2.1.toArray⟩:ByteArray)=Ab (Dd s.data.toList):=rfl;dsimp only at hcut;rw[Q,T]at hcut;clear Q T;generalize (Qy s.data.toList [32]).2.2=ad at hcut;have b:=fun W (hW:Bl W a)=>gR (Ab (Dd s.data.toList)) W a hW (by rw[<-AC];simp[Ab];unfold Qo;omega);have X:(Ab (Dd s.data.toList)).data.toList=Dd s.data.toList:=by simp[Ab]
  rw[X]at b;have i:(Ab (G5 s.data.toList)).data.toList=G5 s.data.toList:=by simp[Ab]
  have d:(nO (Dd s.data.toList)).1=0->1<=(nO (Dd s.data.toList)).2/\(nO (Dd s.data.toList)).2<=1000:=by
   unfold nO;split
   ·intro h;cases h
   ·split
    ·intro h;cases h
    ·split
     ·intro h;cases h
     ·intro _;dsimp only;omega
  have F:A5 s.data.toList=if G5 s.data.toList=KS then (if (nO (Dd s.data.toList)).1=0 then (0,1,(nO (Dd s.data.toList)).2) else ((nO (Dd s.data.toList)).1,0,0))
   else if G5 s.data.toList=KT then (if (nO (Dd s.data.toList)).1=0 then (0,2,(nO (Dd s.data.toList)).2) else ((nO (Dd s.data.toList)).1,0,0)) else (1,0,0):=by
   unfold A5;rw[if_neg u]
  rw[F];clear F N P X u;generalize ac:Ab (G5 s.data.toList)=kB at hcut i;generalize Ab (Dd s.data.toList)=wB at hcut b;generalize G5 s.data.toList=kL at i ⊢;generalize nO (Dd s.data.toList)=R at b d ⊢;obtain⟨v,n⟩:=R;dsimp only at b d ⊢;clear ac;have Y:∀args w,(Qz 124 args).run V w= .ok (.enter 124 args) w:=QD func124 (by kernel_rfl) rfl;have aa:∀args w,(Qz 126 args).run V w= .ok (.enter 126 args) w:=QD func126 (by kernel_rfl) rfl;by_cases o:kL=KS
  ·rw[if_pos o];have z:=CQ (i.trans o);unfold KS at z;clear i;by_cases l:v=0
   ·subst l;rw[if_pos rfl];have B:=d rfl;clear d o;simp only[Ae]at b ⊢
    go_enter Q8,Q9
    go_wp2_with fail
    refine hcut.mono ?_;rintro e E ⟨rfl,q,rfl⟩;have c:BL w (w.drewN q):=AK (Qj _ _) q;have g:=b _ (h.below c);clear hcut b
    go_wp2_with fail
    refine g.mono ?_;rintro e k ⟨rfl,r⟩;clear g;have f:BL w k:=Ad c r;have p:BL w (k.alloc (J #[O U n] 3)):=f.alloc f.size _;go_wp2;go_ret2;refine⟨_,rfl,fun _=>⟨_,_,rfl,Y,fun x W hW hWE hx=>?_⟩,p⟩;have t:W.cell? ⟨k.heap.size,0,Z⟩=I (O U n):=Aa hW (by simp);exact(gU x n ⟨k.heap.size,0,Z⟩ W a hWE t hx B.1 B.2).mono fun e w' ⟨l,o⟩=>⟨by rw[l];simp[D1],o⟩
   ·obtain⟨j,rfl⟩:∃j,v=j+1:=⟨v-1,by omega⟩;rw[if_neg l];clear d l;dsimp only;simp only[Ae]at b ⊢
    go_enter Q8,Q9
    go_wp2_with fail
    refine hcut.mono ?_;rintro e E ⟨rfl,q,rfl⟩;have c:BL w (w.drewN q):=AK (Qj _ _) q;have g:=b _ (h.below c);clear hcut b
    go_wp2_with fail
    refine g.mono ?_;rintro e k ⟨rfl,r⟩;clear g;have f:BL w k:=Ad c r;have p:BL w (k.alloc (J #[O U n] 3)):=f.alloc f.size _;go_wp2;go_ret2;exact⟨_,rfl,fun h=>(by cases h),p⟩
  ·rw[if_neg o];have z:=BD (fun e=>o (i.symm.trans e));unfold KS at z;by_cases D:kL=KT
   ·rw[if_pos D];have C:=CQ (i.trans D);unfold KT at C;clear i;by_cases l:v=0
    ·subst l;rw[if_pos rfl];have B:=d rfl;clear d;simp only[Ae]at b ⊢
     go_enter Q8,Q9
     go_wp2_with fail
     refine hcut.mono ?_;rintro e E ⟨rfl,q,rfl⟩;have c:BL w (w.drewN q):=AK (Qj _ _) q;have g:=b _ (h.below c);clear hcut b
     go_wp2_with fail
     refine g.mono ?_;rintro e k ⟨rfl,r⟩;clear g;have f:BL w k:=Ad c r;have p:BL w (k.alloc (J #[O U n] 3)):=f.alloc f.size _;go_wp2;go_ret2;refine⟨_,rfl,fun _=>⟨_,_,rfl,aa,fun x W hW hWE hx=>?_⟩,p⟩;have t:W.cell? ⟨k.heap.size,0,Z⟩=I (O U n):=Aa hW (by simp);exact(gV x n ⟨k.heap.size,0,Z⟩ W a hWE t hx B.1 B.2).mono fun e w' ⟨l,o⟩=>⟨by rw[l];simp[D1],o⟩
    ·obtain⟨j,rfl⟩:∃j,v=j+1:=⟨v-1,by omega⟩;rw[if_neg l];clear d l;dsimp only;simp only[Ae]at b ⊢
     go_enter Q8,Q9
     go_wp2_with fail
     refine hcut.mono ?_;rintro e E ⟨rfl,q,rfl⟩;have c:BL w (w.drewN q):=AK (Qj _ _) q;have g:=b _ (h.below c)
     go_wp2_with fail
     refine g.mono ?_;rintro e k ⟨rfl,r⟩;have f:=Ad c r;have p:BL w (k.alloc (J #[O U n] 3)):=f.alloc f.size _;go_wp2;go_ret2;exact⟨_,rfl,fun h=>(by cases h),p⟩
   ·rw[if_neg D];have C:=BD (fun e=>D (i.symm.trans e));unfold KT at C;clear i d b;have K:=fun W (hW:BL w W)=>(h.below hW).text;dsimp only
    go_enter Q8,Q9
    go_wp2_with fail
    refine hcut.mono ?_;rintro e E ⟨rfl,q,rfl⟩;have c:BL w (w.drewN q):=AK (Qj _ _) q;have ab:=K _ c;clear hcut K;generalize w.drewN q=wq at c ab ⊢;go_wp2
    go_quiet (fail)
    go_wp2;go_ret2;exact⟨_,rfl,fun h=>(by cases h),AK c nq⟩
theorem gW (w:A) (T:QM) (c:Nat) (f:c<=24):Holds (fun (b:UInt8)=>O .u8 (b.toNat:Int)) (w.alloc (J Q0 T)) w.heap.size 0 (QT c (0:UInt8)):=fun j hj=>by
 have d:j<c:=by simpa using hj
 refine⟨?_,World.frozen?_alloc_new _ _ _ _⟩;rw[World.cell?_alloc_new,Lib.zeros24_at _ (by omega),getElem!_pos _ j hj];simp
theorem gX (w:A) (o:Obj) (d:Array UInt8) (k:Nat):∃os,(putRow (fun (b:UInt8)=>O .u8 (b.toNat:Int)) (w.alloc o) w.heap.size 0 d).drewN k=grow (w.drewN k) os:=by
 rw[alloc_eq_grow];obtain⟨c,_,e⟩:=putRow_grow_new (fun (b:UInt8)=>O .u8 (b.toNat:Int)) w #[o] w.heap.size 0 d (Qv _);exact⟨c,by rw[e];rfl⟩
theorem gY (i:Nat) (hi:i<100) (w:A):Qc V 316 #[O U i] w fun e w'=>e=Qb (G ⟨(QX i).toArray⟩)/\w'=w :=
 Any.internal_strconv_small { laysM171 with } i hi w
theorem gZ (u : Nat) (c : 1 ≤ u) (d : u < 18446744073709551616) (w : A) (b : Xo V w "internal/strconv.uint64pow10" .u64 Xp) :
  Qc V 317 #[.int .u64 u] w fun e w'=>e=Qb (O U (Qw u))/\w'=w :=
 Any.internal_strconv_numDigits { laysM171 with } u c d w b
theorem hO (c f g:Nat) (u:Nat) (d:Array UInt8) (w:A) (k:Holds (fun (b:UInt8)=>O .u8 (b.toNat:Int)) w c f d) (l:u<10 ^ d.size) (i:u<18446744073709551616) (m:d.size<4611686018427387904) :
  Qc V 318 #[Qf (I ⟨c,f,Z⟩) d.size g,.int .u64 u] w fun e w' =>
   e=Qb (Qg #[])/\∃(n v':Nat) (j:Array UInt8),w'=(putRow (fun (b:UInt8)=>O .u8 (b.toNat:Int)) w c f j).drewN n/\FmtInv d.size u 0 v' j :=
 Any.internal_strconv_formatBase10 { laysM171 with } c f g u d w k l i (by omega)
theorem iA (u : Nat) (c : u < 18446744073709551616) (w : A) (m : Xo V w "internal/strconv.uint64pow10" .u64 Xp) :
  Qc V 332 #[.int .u64 u,O U 10] w fun e w'=>e=Qb (G ⟨(Qe u).toArray⟩)/\∃k os,w'=grow (w.drewN k) os:=by
 by_cases s:u<100
 ·have n:=gY u s w;have z:(u:Int)<100:=by omega
  go_enter func332,ntmps332
  go_wp2_with fail
  refine n.mono ?_;rintro e w' ⟨rfl,rfl⟩;go_wp2;go_ret;refine⟨?_,0,#[],by simp[World.drewN_zero]⟩;rw[Xq];rfl
 ·have g:1<=u:=by omega
  have r:Qw u<=20:=by have:=Lib.numDigits_eq u g c;split at this<;>omega
  have o:Tryz.prog.arrayLen 344=24:=by simp[Program.arrayLen,Xr]
  have t:∀W,(Instr.sliceAt 344 (Qa (I ⟨w.heap.size,0,Z⟩)) Z (I (O U (Qw u:Int))) Z).run V W= .ok (Qf (I ⟨w.heap.size,0,Z⟩) (Qw u) 24) W:=fun W=>by
   rw[run_sliceAt_array_h W 344 ⟨w.heap.size,0,Z⟩ (by simp[Program.arrayLen,Program.elem,Xr]) U (Qw u:Int) (by omega) (by rw[o];omega)]
   go_simp
  have i:=gW w 344 (Qw u) (by omega);have d:=hO w.heap.size 0 24 u (QT (Qw u) 0) (w.alloc (J Q0 344)) i (by rw[QN];exact Lib.lt_pow_nDigits u) c (by rw[QN];omega);rw[QN]at d;have p:=gZ u g c _ (Lib.tabIs_alloc m (J Q0 344));have q:=Lib.hid i
  go_enter func332,ntmps332
  go_wp2_with fail
  refine p.mono ?_;rintro e w' ⟨rfl,rfl⟩
  go_wp2_with fail
  refine d.mono ?_;rintro e w' ⟨rfl,k,B,f,rfl,l⟩;have y:(convert 258 9 (Qf (I ⟨w.heap.size,0,Z⟩) (Qw u) 24)).run V ((putRow (fun (b:UInt8)=>O .u8 (b.toNat:Int)) (w.alloc (J Q0 344)) w.heap.size 0 f).drewN k)= .ok (G ⟨(QX u).toArray⟩) ((putRow (fun (b:UInt8)=>O .u8 (b.toNat:Int)) (w.alloc (J Q0 344)) w.heap.size 0 f).drewN k):=by
   have h:=run_convert_bytes_back (P:=V) ((putRow (fun (b:UInt8)=>O .u8 (b.toNat:Int)) (w.alloc (J Q0 344)) w.heap.size 0 f).drewN k) 258 9 5 ⟨w.heap.size,0,Z⟩ 24 (QX u) underlying258 underlying5 underlying9 (fun j hj=>by
    rw[Lib.row_is_numeral l j hj,Lib.add_plain,World.cell?_drewN];exact cell?_putRow (fun (b:UInt8)=>O .u8 (b.toNat:Int)) _ w.heap.size 0 _ f q.out (by rw[l.size,QN]) j (by rw[l.size];rw[Xs]at hj;exact hj))
   rw[Xs]at h;exact h
  go_wp2;go_ret;obtain⟨os,v⟩:=gX w (J Q0 344) f k;refine⟨?_,k,os,v⟩;rw[Xq];rfl
theorem Tg (u:Nat) (b:u<18446744073709551616) (w:A) (a:Nat->Qd) (h:Cd w a) :
  Qc V 290 #[.int .u64 u,O U 10] w fun e w'=>e=Qb (G (Ab (Qe u)))/\BL w w':=by
 have c:=iA u b w h.tab
 go_enter func290,ntmps290
 go_wp2_with fail
 refine c.mono ?_;rintro e w' ⟨rfl,k,d,rfl⟩;go_wp2;go_ret;exact⟨rfl,GT k d⟩
theorem De (l:List UInt8):(Ab l).size=l.length:=by rw[<-AC];simp[Ab]
theorem iB (zs:List Int) (k:Int) (h:zs≠ []):Ar (zs++ [k])=(if k<(Ar zs).1 then k else (Ar zs).1,if (Ar zs).2<k then k else (Ar zs).2):=by
 cases zs with
 | nil=>exact absurd rfl h
 | cons z r =>
  show ((r++ [k]).foldl _ z,(r++ [k]).foldl _ z)=_;rw[Xt,Xt];rfl
def Bj (W:A) (g:Nat) (n:Nat) (E:Int×Int):Prop:=W.heap[g]? =I (J #[O U n,O U E.1,O U E.2] 256 (0,0))
def D9 (W:A) (g:Nat) (n:Nat) (E:Int×Int):A:=((W.setCell ⟨g,1,Z⟩ (O U E.1)).setCell ⟨g,2,Z⟩ (O U E.2)).setCell ⟨g,0,Z⟩ (O U n)
def Cf (n:Nat) (E:Int×Int) (key:Int):Int×Int:=if n=0 then (key,key) else (if key<E.1 then key else E.1,if E.2<key then key else E.2)
theorem Ol (zs:List Int) (b:Int):Ar (zs++ [b])=Cf zs.length (Ar zs) b:=by
 unfold Cf;by_cases h:zs= []
 ·subst h;rfl
 ·rw[iB _ _ h,if_neg (fun e=>h (Xu.1 e))]
theorem Om {W:A} {g n m:Nat} {E b:Int×Int} (h:Bj W g n E):Bj (D9 W g m b) g m b:=by
 unfold Bj D9 at *;rw[Q2 _ _ _ _ _ _ (Q2 _ _ _ _ _ _ (Q2 _ _ _ _ _ _ h))];rfl
theorem Th (W:A) (g m j:Nat) (c:Int×Int) (b:j≠g):(D9 W g m c).heap[j]? =W.heap[j]? :=by
 unfold D9;rw[Q3 _ _ _ _ b,Q3 _ _ _ _ b,Q3 _ _ _ _ b]
theorem Ti (W:A) (g m:Nat) (b:Int×Int):(D9 W g m b).heap.size=W.heap.size:=by
 unfold D9;simp[World.setCell]
theorem On {W c:A} {B g m:Nat} {d:Int×Int} (h:Below B c W) (b:B<=g):Below B c (D9 W g m d):=((h.setCell b _).setCell b _).setCell b _
theorem Bj.cells {W:A} {g n:Nat} {E:Int×Int} (h:Bj W g n E):W.cell? ⟨g,0,Z⟩=I (O U n)/\W.cell? ⟨g,1,Z⟩=I (O U E.1)/\W.cell? ⟨g,2,Z⟩=I (O U E.2)/\∀o,W.frozen? ⟨g,o,Z⟩=Qk:=by
 exact⟨by rw[Qp _ _ _ _ _ _ h];rfl,by rw[Qp _ _ _ _ _ _ h];rfl,by rw[Qp _ _ _ _ _ _ h];rfl,fun o=>QU _ _ _ _ _ h⟩
theorem Bj.below {W b:A} {g n:Nat} {E:Int×Int} (h:Bj W g n E) (c:BL W b):Bj b g n E:=by
 exact(c.block g (Qt h)).trans h
theorem Oo (g n:Nat) (E:Int×Int) (c:Int) (W:A) (h:Bj W g n E) (Q:n<=100000) :
  Qc V 203 #[Qa (I ⟨g,0,Z⟩),O U c] W fun e w'=>e=Qb (Qg #[])/\w'=D9 W g (n+1) (Cf n E c):=by
 obtain⟨j,d⟩:=E;have D:S _:=h;obtain⟨N,K,L,P⟩:=h.cells;have f:∀lo' hi',S (Bj (W.setCell ⟨g,1,Z⟩ (O U lo')) g n (lo',d)/\Bj ((W.setCell ⟨g,1,Z⟩ (O U lo')).setCell ⟨g,2,Z⟩ (O U hi')) g n (lo',hi')):=fun lo' hi'=>by
  have C:Bj (W.setCell ⟨g,1,Z⟩ (O U lo')) g n (lo',d):=by
   have:=D.out;unfold Bj at *;rw[Q2 _ _ _ _ _ _ this];rfl
  refine⟨C,?_⟩;unfold Bj at *;rw[Q2 _ _ _ _ _ _ C];rfl
 by_cases k:n=0
 ·subst k;have i:S (Cf 0 (j,d) c=(c,c)):=rfl;obtain⟨p,m⟩:=(f c c).out;obtain⟨r,s,q,t⟩:=p.cells;obtain⟨u,v,y,z⟩:=m.cells
  go_enter QE,QF
  go_wp2;go_end0;refine⟨rfl,?_⟩;rw[i.out];rfl
 ·have M:((n:Int) == 0)=Qk:=by rw[beq_eq_false_iff_ne];omega
  by_cases o:c<j
  ·by_cases l:d<c
   ·have i:S (Cf n (j,d) c=(c,c)):=by show _=_;unfold Cf;rw[if_neg k];simp[o,l]
    obtain⟨p,m⟩:=(f c c).out;obtain⟨r,s,q,t⟩:=p.cells;obtain⟨u,v,y,z⟩:=m.cells
    go_enter QE,QF
    go_wp2;go_end0;refine⟨rfl,?_⟩;rw[i.out];rfl
   ·have i:S (Cf n (j,d) c=(c,d)):=by show _=_;unfold Cf;rw[if_neg k];simp[o,l]
    obtain⟨p,m⟩:=(f c d).out;obtain⟨r,s,q,t⟩:=p.cells;have b:S _:=Ah q
    go_enter QE,QF
    go_wp2;go_end0;refine⟨rfl,?_⟩;rw[i.out];unfold D9;dsimp only;rw[b.out];rfl
  ·have B:S _:=Ah K;have F:S _:=Ah L;by_cases l:d<c
   ·have i:S (Cf n (j,d) c=(j,c)):=by show _=_;unfold Cf;rw[if_neg k];simp[o,l]
    obtain⟨p,m⟩:=(f j c).out;rw[B.out]at m;obtain⟨u,v,y,z⟩:=m.cells
    go_enter QE,QF
    go_wp2;go_end0;refine⟨rfl,?_⟩;rw[i.out];unfold D9;dsimp only;rw[B.out];rfl
   ·have i:S (Cf n (j,d) c=(j,d)):=by show _=_;unfold Cf;rw[if_neg k];simp[o,l]
    go_enter QE,QF
    go_wp2;go_end0;refine⟨rfl,?_⟩;rw[i.out];unfold D9;dsimp only;rw[B.out,F.out];rfl
theorem Tj (d:ByteArray) (B:d.data.toList.length<=4) (n:Nat) (lo hi:Int) (b:Nat) (w:A) (a:Nat->Qd) (h:Cd w a) (K:n<=1000) (o:Aq lo=Qr) (p:Aq hi=Qr) (L:b<4294967296) :
  Qc V 206 #[Qn #[O U n,O U lo,O U hi],G d,.int .u32 b] w fun e w'=>e=Qb (G (Ab (CN d.data.toList n lo hi b)))/\BL w w':=by
 have z:=Me B n lo hi b (by omega) o p (by omega);simp only[Aq,QW,decide_eq_true_eq]at o p;have C:IntKind.u64.wrap (b:Int)=(b:Int):=by rw[X1];omega
 have f:BL w (w.alloc (J #[O U n,O U lo,O U hi] 256)):=Af _ _;have i:=h.below f;have q:(w.alloc (J #[O U n,O U lo,O U hi] 256)).cell? ⟨w.heap.size,0,Z⟩=I (O U n):=by simp
 have r:(w.alloc (J #[O U n,O U lo,O U hi] 256)).cell? ⟨w.heap.size,1,Z⟩=I (O U lo):=by simp
 have s:(w.alloc (J #[O U n,O U lo,O U hi] 256)).cell? ⟨w.heap.size,2,Z⟩=I (O U hi):=by simp
 go_enter func206,ntmps206
 go_wp2_with fail
 generalize E:w.alloc (J #[O U n,O U lo,O U hi] 256)=l at f i q r s ⊢;generalize w.heap.size=g at q r s;have D:BL l l:=Qj _ _
 go_region_held3 (fun w'=>w'.cell? ⟨g,0,Z⟩=I (O U n)/\w'.cell? ⟨g,1,Z⟩=I (O U lo)/\w'.cell? ⟨g,2,Z⟩=I (O U hi)/\BL l w')
  (first
   | (go_split_ands;exact⟨Aa c (by assumption),Aa c (by assumption),Aa c (by assumption),QY (by assumption) (c.mono (QG (by assumption)))⟩)
   | (go_split_ands;exact⟨by go_keep,by go_keep,by go_keep,by assumption⟩)
   | (go_split_ands;exact⟨by go_keep,by go_keep,by go_keep,QZ (by assumption)⟩)
   | (go_split_ands;exact⟨by go_keep,by go_keep,by go_keep,Xv (by assumption) (QG (by assumption)) _⟩))
  (first
   | (go_at_call 86;refine(Jm _ _ a (i.below (by go_split_ands;assumption)) (by omega) (by omega)).mono ?_;rintro e k ⟨rfl,c⟩)
   | (go_at_call 290;refine(Tg b (by omega) _ a (i.below (by go_split_ands;assumption))).mono ?_;rintro e k ⟨rfl,c⟩))
 go_split_ands;have t:BL l (k.alloc (J #[G d,G (Ab (Qe n)),G (Ab (Qe lo)),G (Ab (Qe hi)),G (Ab (Qe b))] 9)):=by assumption
 have u:=Ad f t;have m:(QJ ([d,Ab (Qe n),Ab (Qe lo),Ab (Qe hi),Ab (Qe b)].map (·.data.toList)) (⟨#[32]⟩:ByteArray).data.toList)=CN d.data.toList n lo hi b:=by
  simp[QJ,CN,Ab]
 have v:=strings_Join k.heap.size 0 5 [d,Ab (Qe n),Ab (Qe lo),Ab (Qe hi),Ab (Qe b)] ⟨#[32]⟩ (k.alloc (J #[G d,G (Ab (Qe n)),G (Ab (Qe lo)),G (Ab (Qe hi)),G (Ab (Qe b))] 9)) (fun j x hx=>by
   rw[Nat.zero_add,Qp _ _ _ _ _ _ (Q4 _ _)]
   match j,hx with
   | 0,hx=>simp at hx;subst hx;rfl
   | 1,hx=>simp at hx;subst hx;rfl
   | 2,hx=>simp at hx;subst hx;rfl
   | 3,hx=>simp at hx;subst hx;rfl
   | 4,hx=>simp at hx;subst hx;rfl
   | j+5,hx=>simp at hx) (by simp) (by simp) (by simp) (by rw[m];omega)
 rw[m]at v
 go_wp2_with fail
 refine v.mono ?_;rintro e F ⟨rfl,y⟩;go_wp2;go_ret;exact⟨rfl,(Ad u y)⟩
theorem Ha (B b:Nat) (c:List Qm) (s:ByteArray) (w:A) (h:Qq 260 5 B b c w) (d:c.length+s.size<=140737488355328) (f:B<=w.heap.size) :
  Qc V 204 #[Qa (I ⟨b,0,Z⟩),G s] w fun e w'=>e=Qb (Qg #[O U s.size,Q1])/\(Lib.BuilderAt 260 5 B b (Qa (I ⟨b,0,Z⟩)) (c++Lib.strCells s) w'/\Below B w w'):=by
 first
 | exact Any.Builder_WriteString { lays156 with } Builder_Extra_156 B b c s w h d f
 | exact Tryz.Builder_WriteString B b c s w h d f
theorem KU {T e:QM} {B b:Nat} {k:List Qm} {w w':A} (h:Qq T e B b k w) (i:BL w w'):Qq T e B b k w':=by
 rcases h with h | h
 ·have d:=h.lt;obtain⟨j,v,f,c,g⟩:=h;exact Ql ⟨j,v,(i.block b d).trans f,Eu c i,g⟩
 ·have d:=h.lt;obtain⟨j,v,f,c,g⟩:=h;exact Qi ⟨j,v,(i.block b d).trans f,Eu c i,g⟩
theorem Oq {T e:QM} {B b:Nat} {j:List Qm} {w:A} (h:Qq T e B b j w) (g o:Nat) (u:Qm) (k:g<B):Qq T e B b j (w.setCell ⟨g,o,Z⟩ u):=by
 rcases h with h | h
 ·obtain⟨i,v,d,c,f⟩:=h;exact Ql ⟨i,v,(Q3 _ _ _ _ (by show b≠g;omega)).trans d,Xw c (fun e=>by have:=(c.lt g e).1;omega) u,f⟩
 ·obtain⟨i,v,d,c,f⟩:=h;exact Qi ⟨i,v,(Q3 _ _ _ _ (by show b≠g;omega)).trans d,Xw c (fun e=>by have:=(c.lt g e).1;omega) u,f⟩
theorem Tk {T e:QM} {B b:Nat} {d:List Qm} {w:A} (h:Qq T e B b d w) (g m:Nat) (E:Int×Int) (c:g<B):Qq T e B b d (D9 w g m E) :=
 Oq (Oq (Oq h g 1 _ c) g 2 _ c) g 0 _ c
theorem iC (x:Rw) (w:A) (a:Nat->Qd) (h:Bl w a) (s:x.1.size<=100) :
  Qc V 192 #[Qn #[G x.1,O U x.2.1,O U x.2.2]] w fun e w'=>e=Qb (Qg #[G (Iy x),O U x.2.1])/\BL w w':=by
 have l:=fun W (hW:Bl W a)=>dB x W a hW (by unfold Qo;omega);obtain⟨b,c,d⟩:=x;have i:BL w (w.alloc (J #[G b,O U c,O U d] 62)):=Af _ _;have m:(w.alloc (J #[G b,O U c,O U d] 62)).cell? ⟨w.heap.size,1,Z⟩=I (O U c):=by simp
 have n:(w.alloc (J #[G b,O U c,O U d] 62)).cell? ⟨w.heap.size,0,Z⟩=I (G b):=by simp
 have o:(w.alloc (J #[G b,O U c,O U d] 62)).cell? ⟨w.heap.size,2,Z⟩=I (O U d):=by simp
 have k:=h.below i
 go_enter func192,ntmps192
 go_wp2_with fail
 generalize w.alloc (J #[G b,O U c,O U d] 62)=j at i k n m o ⊢;generalize w.heap.size=g at n m o ⊢;have r:BL j j:=Qj _ _
 go_region_held3 (fun w'=>w'.cell? ⟨g,0,Z⟩=I (G b)/\w'.cell? ⟨g,1,Z⟩=I (O U c)/\w'.cell? ⟨g,2,Z⟩=I (O U d)/\BL j w')
  (first
   | (go_split_ands;exact⟨Aa f (by assumption),Aa f (by assumption),Aa f (by assumption),QY (by assumption) (f.mono (QG (by assumption)))⟩)
   | (go_split_ands;exact⟨by go_keep,by go_keep,by go_keep,by assumption⟩)
   | (go_split_ands;exact⟨by go_keep,by go_keep,by go_keep,QZ (by assumption)⟩)
   | (go_split_ands;exact⟨by go_keep,by go_keep,by go_keep,Xv (by assumption) (QG (by assumption)) _⟩))
  ((go_at_call 193;refine(l _ (k.below (by go_split_ands;assumption))).mono ?_;rintro e q ⟨rfl,f⟩))
 go_split_ands;have p:BL j q:=by assumption
 go_wp2;go_ret2;exact⟨rfl,(Ad i p)⟩
theorem iD (C:ByteArray) (hK:C.data.toList.length<=4) (v:Qm) (xs:List Rw) (w:A) (a:Nat->Qd) (h:Bl w a) (hx:Ap w v xs) (hl:xs.length<=1000) (m:∀x∈xs,A0 x=0) :
  Qc V 191 #[G C,v,.func (.func 192) #[] #[]] w fun e w'=>e=Qb (G (Ab (CN C.data.toList xs.length (Ar (BG xs)).1 (Ar (BG xs)).2 (Bi (Cm xs))++10 :: Cm xs)))/\BL w w':=by
 have eg:∀args w,(Qz 192 args).run V w= .ok (.enter 192 args) w:=QD func192 (by kernel_rfl) rfl;obtain⟨q,ax,rfl⟩:=hx.form;obtain⟨L,hL⟩:∃L,xs.length=L:=⟨_,rfl⟩;have T:S (xs.length=L):=hL;have aa:(Qf q xs.length ax)=Qf q L ax:=by rw[hL]
 rw[aa]at hx ⊢;rw[hL]at hl;clear hL aa;have hA:=Xe w (J #[O U 0,O U 0,O U 0] 256) (J #[Qa Z,Qf Z 0 0] 260);have d:=Xf w (J #[O U 0,O U 0,O U 0] 256) (J #[Qa Z,Qf Z 0 0] 260);have g:BL w ((w.alloc (J #[O U 0,O U 0,O U 0] 256)).alloc (J #[Qa Z,Qf Z 0 0] 260)):=(Af _ _).alloc (by simp) _;have ab:Qq 260 5 (w.heap.size+1) (w.heap.size+1) (QA (Cm [])) ((w.alloc (J #[O U 0,O U 0,O U 0] 256)).alloc (J #[Qa Z,Qf Z 0 0] 260)) :=
  Ql ⟨Qv _,Qf Z 0 0,d,World.ownsRow_nil _ _ _ _,by simp[Value.ownBlock]⟩
 go_enter func191,ntmps191
 go_wp2
 go_loopw [16] (fun k wr=> ∃n:Nat,n<=L/\k=O U n/\BL w wr/\Bj wr w.heap.size n (Ar (BG (xs.take n)))/\Qq 260 5 (w.heap.size+1) (w.heap.size+1) (QA (Cm (xs.take n))) wr) (fun k _=>L-(Qs k).toNat)
 case atStart=>exact ⟨0,by omega,rfl,g,hA,by simpa using ab⟩
 case round =>
  clear g ab hA d;obtain⟨n,hn,rfl,hb,F,d⟩:=hrel;have bi:w.heap.size<=wr.heap.size:=hb.size;have bg:w.heap.size+1<wr.heap.size:=by
   rcases d with d | d
   ·exact d.lt
   ·exact d.lt
  by_cases a3:n<L
  ·have ac:n<xs.length:=by rw[T.out];exact a3
   have al:=hx.below hb;rcases al with⟨_,_,e,e'⟩|⟨b,o,bh,e,B⟩
   ·exfalso;have:=T.out;rw[e']at this;simp at this;omega
   injection e with e1 e2 e3;subst e1;clear e2 e3;obtain⟨c1,c2,c3⟩:=B n ac;clear B;have hi:(n:Int)<(L:Int):=by omega
   have ad:xs[n]∈xs:=Xx _;have j:=m _ ad;have ae:xs.take (n+1)=xs.take n++ [xs[n]]:=by rw[List.take_append_getElem ac]
   have a4:xs[n].1.size<=8:=by
    have:=KJ j;simp only[Fs,QW,decide_eq_true_eq]at this;rw[<-AC];exact this.1.2
   have p:=fun W (hW:Bl W a)=>iC xs[n] W a hW (by omega);have M:S ((Iy xs[n]).data.toList=FY xs[n]):=dV _ j;have am:=S4 xs[n] j;have an:(Iy xs[n]).size<=32:=by rw[<-AC,M.out];exact am
   have HT:S (Cm (xs.take (n+1))=Cm (xs.take n)++(FY xs[n]++ [10])):=by
    show _=_;rw[ae];exact Sw CO _ _
   have N:S (Ar (BG (xs.take (n+1)))=Cf n (Ar (BG (xs.take n))) xs[n].2.1):=by
    show _=_;have a5:(BG (xs.take n)).length=n:=by simp[AA];omega
    have:=Ol (BG (xs.take n)) xs[n].2.1;rw[a5]at this;rw[<-this,ae,eQ]
   have a6:=Kc KM (xs.take n) (fun x hx2=>m x (List.mem_of_mem_take hx2));have a2:(QA (Cm (xs.take n))).length<=40000:=by
    rw[Lib.byteCells_length];have:(xs.take n).length<=n:=List.length_take_le _ _;show (AW CO (xs.take n)).length<=40000;omega
   clear ae ad j a4 am a6;generalize xs[n]=x at c1 c2 c3 p M an HT N;generalize Cm (xs.take n)=bl at d HT a2;generalize Ar (BG (xs.take n))=E at F N;obtain⟨xp,i,xv⟩:=x;generalize Iy (xp,i,xv)=tb at p M an;dsimp only at c1 c2 c3 p N;have g:BL wr (wr.alloc (J #[G xp,O U i,O U xv] 62)):=Af _ _;have r:BL w (wr.alloc (J #[G xp,O U i,O U xv] 62)):=Ad hb g;have af:=p _ (h.below r);have s:=KU d g;have t:=F.below g;clear p d F
   go_wp2_with (go_at_fn 192;refine af.mono ?_;rintro e K ⟨rfl,aj⟩)
   clear af c1 c2 c3;have ao:BL w K:=Ad r aj;have P:=t.below aj;have ap:=KU s aj;have aq:=Oo w.heap.size n E i K P (by omega);clear s t g
   go_wp2_with fail
   refine aq.mono ?_;rintro e w4 ⟨rfl,rfl⟩;clear aq;have ag:Bj (D9 K w.heap.size (n+1) (Cf n E i)) w.heap.size (n+1) (Cf n E i):=Om P;have ah:=Tk ap w.heap.size (n+1) (Cf n E i) (by omega);have ar:BL w (D9 K w.heap.size (n+1) (Cf n E i)):=On ao (Qv _);have D:w.heap.size+1<=(D9 K w.heap.size (n+1) (Cf n E i)).heap.size:=by rw[Ti];exact Qt P
   clear ap P ao;generalize D9 K w.heap.size (n+1) (Cf n E i)=W4 at ag ah ar D ⊢;have u:=Ha (w.heap.size+1) (w.heap.size+1) _ tb W4 ah (by omega) D;clear ah
   go_wp2_with fail
   refine u.mono ?_;rintro e w5 ⟨rfl,az,ak⟩;clear u;have a7:BL w w5:=ar.trans (ak.mono (Xa _));have au:Bj w5 w.heap.size (n+1) (Cf n E i):=by
    unfold Bj at *;exact(ak.block _ (Xb _)).trans ag
   have u:=Ha (w.heap.size+1) (w.heap.size+1) _ ⟨#[10]⟩ w5 (Qi az) (by rw[QH,Lib.strCells_length];have:(⟨#[10]⟩:ByteArray).size=1:=rfl;omega) (Qu D ak.size);clear ag
   go_wp2_with fail
   refine u.mono ?_;rintro e w7 ⟨rfl,a0,a1⟩;clear u az;have a8:BL w w7:=a7.trans (a1.mono (Xa _));have a9:S (Bj w7 w.heap.size (n+1) (Ar (BG (xs.take (n+1))))):=by
    show Bj _ _ _ _;rw[N.out];unfold Bj at *;exact(a1.block _ (Xb _)).trans au
   have ba:S (Qq 260 5 (w.heap.size+1) (w.heap.size+1) (QA (Cm (xs.take (n+1)))) w7):=by
    show Qq _ _ _ _ _ _;rw[HT.out,Xy,Xy,<-M.out,<-List.append_assoc];exact Qi a0
   clear a0 au;go_wp2;go_roundw
   case rel=>exact ⟨n+1,by omega,by go_num,a8,a9.out,ba.out⟩
   case measure=>simp [Qs];omega
  ·obtain rfl:n=L:=by omega
   have bb:xs.take n=xs:=Xj (by rw[T.out];exact Qv _);rw[bb]at d F;have Q:=Builder_String_any (w.heap.size+1) (w.heap.size+1) (Cm xs) wr d (by omega);have av:=Kc KM xs m;have f:=Mc KM m;have l:=fun W=>KR (Ab (Cm xs)) W (by rw[De];unfold Qo;show (AW CO xs).length<=_;rw[T.out]at av;omega);have eL:(Ab (Cm xs)).data.toList=Cm xs:=by simp[Ab]
   rw[eL]at l;have aw:=Hz (Cm xs);have y:=fun W (hW:Bl W a)=>Tj C hK n (Ar (BG xs)).1 (Ar (BG xs)).2 (Bi (Cm xs)) W a hW.weak (by omega) f.1 f.2 aw;have bj:=Me hK n (Ar (BG xs)).1 (Ar (BG xs)).2 (Bi (Cm xs)) (by omega) f.1 f.2 (by omega);obtain⟨T0,ay⟩:∃T0,Ab (CN C.data.toList xs.length (Ar (BG xs)).1 (Ar (BG xs)).2 (Bi (Cm xs))++10 :: Cm xs)=T0:=⟨_,rfl⟩;have bc:S _:=ay;have X:S (T0=Ab (CN C.data.toList n (Ar (BG xs)).1 (Ar (BG xs)).2 (Bi (Cm xs)))++⟨#[10]⟩++Ab (Cm xs)):=by
    show _=_;rw[<-ay,T.out];apply ByteArray.ext;apply Array.ext';simp[Ab]
   have R:(Ab (CN C.data.toList n (Ar (BG xs)).1 (Ar (BG xs)).2 (Bi (Cm xs)))).size<=2000:=by rw[De];omega
   have bd:(Ab (Cm xs)).size<=40000:=by rw[De];show (AW CO xs).length<=_;rw[T.out]at av;omega
   generalize Bi (Cm xs)=c at y l X R aw;generalize Ar (BG xs)=E at y X R F;obtain⟨lo,ai⟩:=E;dsimp only at y X R;generalize Ab (CN C.data.toList n lo ai (c:Int))=d at y X R;have eS:(⟨(Cm xs).toArray⟩:ByteArray)=Ab (Cm xs):=rfl;rw[eS]at Q;generalize Ab (Cm xs)=lB at Q l X bd
   go_wp2_with fail
   refine Q.mono ?_;rintro e Y ⟨rfl,r⟩;clear Q;have t:Bj Y w.heap.size n (lo,ai):=by
    unfold Bj at *;exact(r.block _ (Xb _)).trans F
   obtain⟨g0,g1,g2,_⟩:=t.cells;dsimp only at g1 g2;clear F t;have s:BL w Y:=hb.trans (r.mono (Xa _));have be:=h.below s;have bk:BL Y Y:=Qj _ _;have n1:¬9223372036854775807<d.size+1:=by omega
   have n2:¬9223372036854775807<d.size+1+lB.size:=by omega
   go_wp2_with fail
   go_region_held3 (fun w'=>w'.cell? ⟨w.heap.size,0,Z⟩=I (O U n)/\w'.cell? ⟨w.heap.size,1,Z⟩=I (O U lo)/\w'.cell? ⟨w.heap.size,2,Z⟩=I (O U ai)/\BL Y w')
    (first
     | (go_split_ands;exact⟨Aa z (by assumption),Aa z (by assumption),Aa z (by assumption),QY (by assumption) (z.mono (QG (by assumption)))⟩)
     | (go_split_ands;exact⟨by go_keep,by go_keep,by go_keep,by assumption⟩)
     | (go_split_ands;exact⟨by go_keep,by go_keep,by go_keep,QZ (by assumption)⟩))
    (first
     | (go_at_call 171;refine(l _).mono ?_;rintro e K ⟨rfl,z⟩)
     | (go_at_call 206;refine(y _ (be.below (by go_split_ands;assumption))).mono ?_;rintro e w4 ⟨rfl,z⟩))
   go_split_ands;have bf:BL Y w4:=by assumption
   go_wp2;go_ret;exact⟨by rw[bc.out,X.out];rfl,(Ad s bf)⟩
structure DI (w:A) (a:Nat->Qd):Prop where
 env:Bl w a
 shape:w.cell? ⟨0,0,Z⟩=I (Qh 410 (Qa (I (a 2))))
 full:w.cell? ⟨6,0,Z⟩=I (Qh 410 (Qa (I (a 7))))
 order:w.cell? ⟨7,0,Z⟩=I (Qh 410 (Qa (I (a 8))))
 sum:w.cell? ⟨9,0,Z⟩=I (Qh 410 (Qa (I (a 9))))
theorem DI.below {w w':A} {a:Nat->Qd} (h:DI w a) (b:BL w w'):DI w' a :=
 ⟨h.env.below b,Aa b h.shape,Aa b h.full,Aa b h.order,Aa b h.sum⟩
structure DT (w:A) (a:Nat->Qd):Prop where
 env:Cd w a
 shape:w.cell? ⟨0,0,Z⟩=I (Qh 410 (Qa (I (a 2))))
 full:w.cell? ⟨6,0,Z⟩=I (Qh 410 (Qa (I (a 7))))
 order:w.cell? ⟨7,0,Z⟩=I (Qh 410 (Qa (I (a 8))))
 sum:w.cell? ⟨9,0,Z⟩=I (Qh 410 (Qa (I (a 9))))
theorem DT.below {w w':A} {a:Nat->Qd} (h:DT w a) (b:BL w w'):DT w' a :=
 ⟨h.env.below b,Aa b h.shape,Aa b h.full,Aa b h.order,Aa b h.sum⟩
theorem DI.weak {w:A} {a:Nat->Qd} (h:DI w a):DT w a:=⟨h.env.weak,h.shape,h.full,h.order,h.sum⟩
theorem iE {xs:List Rw} (h:∀x∈xs,A0 x=0):∀x∈A3 xs,A0 x=0:=fun x hx=>h x ((Dy xs).mem_iff.1 hx)
theorem Tl (xs:List Rw):(A3 xs).Pairwise (fun x y=>ltOf AP y x=Qk):=(LZ xs).imp fun {a b} h=>by simpa using h
theorem iF (q:Option Qd) (n b:Nat) (w:A) (a:Nat->Qd) (h:DI w a) (f:40<n) (c:n<=Qo) :
  Qc V 109 #[Qf q n b] w fun e w'=>e=Qb (Qg #[G ⟨#[]⟩,Ae a 8])/\BL w w':=by
 unfold Qo at c;have d:=h.full
 go_enter func109,ntmps109
 go_wp2
 go_quiet (fail)
 go_wp2;go_ret2;exact⟨rfl,AK (Qj _ _) nq⟩
theorem iG (q:Option Qd) (g:Nat) (xs:List Rw) (w:A) (a:Nat->Qd) (h:DI w a) (hx:Ap w (Qf q xs.length g) xs) (hl:xs.length<=40) (hp:∀x∈xs,x.1.size<=30)
  (m:Nat) (hm:m<=xs.length) (r:∀i (h:i<xs.length),i<m->A0 xs[i]=0) (D:∀(h:m<xs.length),A0 xs[m]≠0) :
  Qc V 109 #[Qf q xs.length g] w fun e w'=>(m=xs.length/\e=Qb (Qg #[G (Ab (EY (A3 xs))),Q1])/\BL w w') \/
   (∃h:m<xs.length,∃fb,e=Qb (Qg #[G ⟨#[]⟩,Qh 140 (Qa (I ⟨fb,0,Z⟩))])/\w'.cell? ⟨fb,0,Z⟩=I (O U m)/\w'.cell? ⟨fb,1,Z⟩=I (Ae a (A0 xs[m]))/\BL w w'):=by
 obtain⟨L,K⟩:∃L,xs.length=L:=⟨_,rfl⟩;have s:S _:=K;have l:S _:=r;have ab:S _:=D;rw[K]at hx hl hm;have t:(Qf q xs.length g)=Qf q L g:=by rw[K]
 rw[t];clear K r D t
 go_enter func109,ntmps109
 go_wp2
 go_loopw [13] (fun k wr=> ∃n:Nat,n<=m/\k=O U n/\BL w wr) (fun k _=>L-(Qs k).toNat)
 case atStart=>exact ⟨0,by omega,rfl,Qj _ _⟩
 case round =>
  obtain⟨n,hn,rfl,z⟩:=hrel;by_cases af:n<L
  ·have d:n<xs.length:=by rw[s.out];exact af
   have F:=hx.below z;rcases F with⟨_,_,e,e'⟩|⟨b,o,am,e,C⟩
   ·exfalso;have:=s.out;rw[e']at this;simp at this;omega
   injection e with e1 e2 e3;subst e1;clear e2 e3;obtain⟨c1,c2,c3⟩:=C n d;have hi:(n:Int)<(L:Int):=by omega
   have an:=hp _ (Xx d);have c:=fun W (hW:Bl W a)=>JV xs[n] W a hW (by unfold Qo;omega);by_cases u:n<m
   ·have ac:=l.out n d u;rw[ac]at c;simp only[Ae]at c;generalize xs[n]=x at c1 c2 c3 c;obtain⟨M,N,P⟩:=x;have v:BL wr (wr.alloc (J #[G M,O U N,O U P] 62)):=Af _ _;have f:BL w (wr.alloc (J #[G M,O U N,O U P] 62)):=Ad z v;have j:=c _ (h.env.below f)
    go_wp2_with fail
    refine j.mono ?_;rintro e Q ⟨rfl,B⟩;have p:BL w Q:=Ad f B;go_wp2;go_roundw
    case rel=>exact ⟨n+1,by omega,by go_num,p⟩
    case measure=>simp [Qs];omega
   ·obtain rfl:n=m:=by omega
    have hE:=ab.out d;obtain⟨E,X⟩:∃E,A0 xs[n]=E+1:=⟨A0 xs[n]-1,by omega⟩;have ag:S _:=X;rw[X]at c;simp only[Ae]at c;generalize xs[n].1=M at c1 c;generalize xs[n].2.1=N at c2 c;generalize xs[n].2.2=P at c3 c;have v:BL wr (wr.alloc (J #[G M,O U N,O U P] 62)):=Af _ _;have f:=Ad z v;have j:=c _ (h.env.below f)
    go_wp2_with fail
    refine j.mono ?_;rintro e Q ⟨rfl,B⟩;have p:=Ad f B;have ah:BL w (Q.alloc (J #[O U n,Qh 410 (Qa (I (a E)))] 143)):=p.alloc p.size _;go_wp2;go_ret2;exact Qi ⟨d,Q.heap.size,rfl,by simp,by rw[ag.out];simp[Ae],ah⟩
  ·have u:n=m:=by omega
   have R:m=L:=by omega
   subst u;have ad:∀x∈xs,A0 x=0:=fun x hxm=>by
    obtain⟨i,hi,e⟩:=List.mem_iff_getElem.1 hxm;rw[<-e];exact l.out i hi (by rw[R,<-s.out];exact hi)
   have ai:=NT (Qf q L g) xs wr (hx.below z) (by rw[s.out];omega)
   go_wp2_with fail
   refine ai.mono ?_;rintro e w1 ⟨v1,rfl,aa,ak⟩;have T:=Ad z ak;have ae:=iE ad;have y:=iD ⟨#[100,97,116,97]⟩ (by decide) v1 (A3 xs) w1 a (h.env.below T) aa (by rw[G3,s.out];omega) ae;have HF:S (Ab (CN (⟨#[100,97,116,97]⟩:ByteArray).data.toList (A3 xs).length (Ar (BG (A3 xs))).1 (Ar (BG (A3 xs))).2 (Bi (Cm (A3 xs)))++10 :: Cm (A3 xs))=Ab (EY (A3 xs))):=rfl;rw[HF.out]at y;obtain⟨q1,al,rfl⟩:=aa.form;obtain⟨fB,Y⟩:∃fB,Ab (EY (A3 xs))=fB:=⟨_,rfl⟩;have aj:S _:=Y;rw[Y]at y
   go_wp2_with fail
   refine y.mono ?_;rintro e w2 ⟨rfl,f⟩;go_wp2;go_ret2;exact Ql ⟨R.trans s.out.symm,by rw[aj.out];rfl,(Ad T f)⟩
theorem iH {Kw l k f B C D:List UInt8} (h:Bc l= [k,f,B,C,D]):EW Kw l=if k=Kw then (match At f,At B,At C,At D with
  | some a,I b,I c,I d=>I (a,b,c,d)
  | _,_,_,_=>Z) else Z:=by
 unfold EW;rw[h];rfl
theorem iI {Kw l:List UInt8} (h:(Bc l).length≠5):EW Kw l=Z:=by
 unfold EW;split
 ·rename_i e;rw[e]at h;simp at h
 ·rfl
theorem iJ {α:Type} {f:List α} (h:f.length=5):∃a b c d e,f= [a,b,c,d,e]:=by
 match f,h with
 | [a,b,c,d,e],_=>exact ⟨a,b,c,d,e,rfl⟩
theorem iK {s t:ByteArray} (h:s.data.toList=t.data.toList):(s.toList == t.toList)=Qr:=by
 rw[Q7,Q7];simpa using h
theorem KV {s t:ByteArray} (h:s.data.toList≠t.data.toList):(s.toList == t.toList)=Qk:=by
 rw[Q7,Q7];simpa using h
def G6 (K l:List UInt8):(Int×Int×Int)×Int×Bool:=match EW K l with
 | some (n,lo,hi,sum)=>((n,lo,hi),sum,Qr)
 | none=>((0,0,0),0,Qk)
theorem Tm (k s:ByteArray) (w:A) (a:Nat->Qd) (h:Cd w a) (hs:s.size<=100000) :
  Qc V 207 #[G k,G s] w fun e w'=>e=Qb (Qg #[Qn #[O U (G6 k.data.toList s.data.toList).1.1,O U (G6 k.data.toList s.data.toList).1.2.1,O U (G6 k.data.toList s.data.toList).1.2.2],O U (G6 k.data.toList s.data.toList).2.1,QI (G6 k.data.toList s.data.toList).2.2])/\BL w w':=by
 have ac:BL w (w.alloc (J #[O U 0,O U 0,O U 0] 256)):=Af _ _;have ah:=JX s _ a (h.below ac) (by omega);have M:=Q4 w (J #[O U 0,O U 0,O U 0] 256);have ai:=JW s.data.toList
 go_enter func207,ntmps207
 go_wp2_with fail
 refine ah.mono ?_;rintro e w1 ⟨v1,ts,rfl,ad,R,ae⟩;have p:=Ad ac ae;have X:=(ae.block _ (Qt M)).trans M;have aj:∀W:A,BL w W->W.heap[w.heap.size]? =I (J #[O U 0,O U 0,O U 0] 256 (0,0))->(W.cell? ⟨w.heap.size,0,Z⟩=I (O U 0)/\W.cell? ⟨w.heap.size,1,Z⟩=I (O U 0)/\W.cell? ⟨w.heap.size,2,Z⟩=I (O U 0)/\∀o,W.frozen? ⟨w.heap.size,o,Z⟩=Qk):=fun W _ hW =>
  ⟨by rw[Qp _ _ _ _ _ _ hW];rfl,by rw[Qp _ _ _ _ _ _ hW];rfl,by rw[Qp _ _ _ _ _ _ hW];rfl,fun o=>QU _ _ _ _ _ hW⟩
 have N:S _:=aj;have l:S _:=X;by_cases h5:ts.length=5
 ·obtain⟨K,f,B,C,D,rfl⟩:=iJ h5;have hw:Bc s.data.toList= [K.data.toList,f.data.toList,B.data.toList,C.data.toList,D.data.toList]:=by rw[<-R];rfl
  have hf:=iH (Kw:=k.data.toList) hw;have ak:∀t∈ [K,f,B,C,D],t.size<=Qo:=fun t m=>by
   have:=ai t.data.toList (by rw[<-R];exact List.mem_map.2 ⟨t,m,rfl⟩);rw[AC,AC]at this;unfold Qo;omega
  have HF:S (EW k.data.toList s.data.toList=if K.data.toList=k.data.toList then (match At f.data.toList,At B.data.toList,At C.data.toList,At D.data.toList with
   | some a,I b,I c,I d=>I (a,b,c,d)
   | _,_,_,_=>Z) else Z):=hf
  obtain⟨b,rfl,ab⟩:=ad;have Y:S _:=ab;by_cases P:K.data.toList=k.data.toList
  ·have al:=iK P;have am:=NO b 1 4 [f,B,C,D] w1 a (h.below p) (fun j hj=>by
    have an:j+1 < [K,f,B,C,D].length:=by simp at hj ⊢;omega
    have:=Y.out (j+1) an;rw[Nat.add_comm 1 j];simpa using this) (fun t m=>ak t (List.mem_cons_of_mem _ m)) (by simp)
   go_wp2_with fail
   refine am.mono ?_;rintro e w3 ⟨ag,T⟩;have Q:=Ad p T;obtain⟨n,q,r,fz⟩:=N.out w3 Q ((T.block _ (Qt l.out)).trans l.out);have s0:=Ah n;have s1:=Ah q;have s2:=Ah r;rcases ag with⟨zs,g,ap,u,rfl,af⟩|⟨j,t,m,y,rfl⟩
   ·obtain⟨z,E,F,L,ao⟩:∃z E F L,zs= [z,E,F,L]:=by
     match zs,ap with
     | [z,E,F,L],_=>exact ⟨z,E,F,L,rfl⟩
    subst ao;have aa:S (EW k.data.toList s.data.toList=I (z,E,F,L)):=by
     show _=_;have q0:=u 0 f rfl;have q1:=u 1 B rfl;have q2:=u 2 C rfl;have q3:=u 3 D rfl;rw[HF.out,if_pos P,q0,q1,q2,q3];rfl
    have k0:=af 0 (by simp);have k3:=af 3 (by simp);have aq:g≠w.heap.size:=by
     intro e;subst e;have:=n.symm.trans k0;have e1:=k3;rw[Qp _ _ _ _ _ _ ((T.block _ (Qt l.out)).trans l.out)]at e1;simp at e1
    go_wp2
    go_region
    go_wp2;refine QC (v:=Qg #[Qn #[O U z,O U E,O U F],O U L,QI Qr]) (by simp[QO,QP,go_sem,n,q,r]) rfl ⟨by unfold G6;rw[aa.out],?_⟩;exact(((Q.setCell (by simp) _).setCell (by simp) _).setCell (by simp) _).drew
   ·have i:S (EW k.data.toList s.data.toList=Z):=by
     show _=_;rw[HF.out,if_pos P]
     match j,m with
     | 0,m=>rw [QB m,y]
     | 1,m=>rw [QB m,y];split<;>simp_all
     | 2,m=>rw [QB m,y];split<;>simp_all
     | 3,m=>rw [QB m,y];split<;>simp_all
    go_wp2;exact QC (v:=Qg #[Qn #[O U 0,O U 0,O U 0],O U 0,QI Qk]) (by simp[QO,QP,go_sem,n,q,r]) rfl ⟨by unfold G6;rw[i.out],Q⟩
  ·have al:=KV P;have i:S (EW k.data.toList s.data.toList=Z):=by
    show _=_;rw[HF.out,if_neg P]
   obtain⟨n,q,r,fz⟩:=N.out w1 p l.out;have s0:=Ah n;have s1:=Ah q;have s2:=Ah r;go_wp2;exact QC (v:=Qg #[Qn #[O U 0,O U 0,O U 0],O U 0,QI Qk]) (by simp[QO,QP,go_sem,n,q,r]) rfl ⟨by unfold G6;rw[i.out],p⟩
 ·have i:S (EW k.data.toList s.data.toList=Z):=iI (fun e=>h5 (by rw[<-e,<-R,List.length_map]));obtain⟨b,rfl,_⟩:=ad;obtain⟨n,q,r,fz⟩:=N.out w1 p l.out;have s0:=Ah n;have s1:=Ah q;have s2:=Ah r;go_wp2;exact QC (v:=Qg #[Qn #[O U 0,O U 0,O U 0],O U 0,QI Qk]) (by simp[QO,QP,go_sem,n,q,r]) rfl ⟨by unfold G6;rw[i.out],p⟩
def Mq:Qm->Nat
 | .string s=>s.size
 | _=>0
def C6 {β:Type} (k:FK β) (acc:List β) (l:List UInt8):Nat:=if (k.rd l).2≠0 then (k.rd l).2 else if acc≠ []/\k.bad (k.rd l).1 (acc.getLastD k.d)=Qr then 9 else 0
theorem Tn {β:Type} (k:FK β) (l:List UInt8) (r:List (List UInt8)) (i:r≠ []) (c:Nat) (b:List β):AV k (l :: r) c b=if C6 k b l≠0 then ([],C6 k b l,c) else AV k r (c+1) (b++ [(k.rd l).1]):=by
 obtain⟨j,m,rfl⟩:=List.exists_cons_of_ne_nil i;rw[Kb];unfold C6;by_cases f:(k.rd l).2≠0
 ·simp only[if_pos f]
 ·simp only[if_neg f];by_cases g:b≠ []/\k.bad (k.rd l).1 (b.getLastD k.d)=Qr
  ·simp only[if_pos g];rfl
  ·simp only[if_neg g];rfl
structure Jn {β:Type} (k:FK β) (a:Nat->Qd) (En:A->Prop) (F bl B P Q:Nat) (Inv:A->List β->Prop):Prop where
 env:∀ {W:A},En W->DT W a
 ent:∀args w,(Qz F args).run V w= .ok (.enter F args) w
 low:B<=P
 keep:∀ {W W':A} {acc:List β},Inv W acc->BL W W'->Inv W' acc
 set:∀ {W:A} {acc:List β} (j o:Nat) (u:Qm),P<=j->j<Q->Inv W acc->Inv (W.setCell ⟨j,o,Z⟩ u) acc
 take:∀(W:A) (line:ByteArray) (acc:List β),En W->Inv W acc->Q<=W.heap.size->line.size<=100000->acc.length<=100000 ->
  Qc V F #[G line,Qa (I ⟨bl,0,Z⟩)] W fun e w'=>Below B W w'/\(∀j,P<=j->j<Q->w'.heap[j]? =W.heap[j]?) /\
   ((C6 k acc line.data.toList≠0/\e=Qb (Qg #[O U 0,Ae a (C6 k acc line.data.toList)])/\Inv w' acc) \/
    (C6 k acc line.data.toList=0/\e=Qb (Qg #[O U (k.key (k.rd line.data.toList).1),Q1])/\Inv w' (acc++ [(k.rd line.data.toList).1])))
def E4 (W:A) (t F bl:Nat):Prop:=W.heap[t]? =I (J #[.func (.func F) #[] #[Qa (I ⟨bl,0,Z⟩)]] 182 (0,0))
theorem E4.cell {W:A} {t F b:Nat} (h:E4 W t F b):W.cell? ⟨t,0,Z⟩=I (.func (.func F) #[] #[Qa (I ⟨b,0,Z⟩)]):=cell_of_one h
theorem E4.below {W b:A} {t F c:Nat} (h:E4 W t F c) (d:BL W b):E4 b t F c:=by
 exact(d.block t (Qt h)).trans h
theorem iL {β:Type} {k:FK β} {a:Nat->Qd} {En:A->Prop} {F m B P Q:Nat} {o:A->List β->Prop} (T:Jn k a En F m B P Q o) (t g:Nat) (c:ByteArray) (b:List β) (W:A) (hE:En W) (hI:o W b) (hQ:Q<=W.heap.size) (hF:E4 W t F m) (hH:Bj W g b.length (Ar (AA k b))) (v:P<=t/\t<Q) (i:P<=g/\g<Q) (ad:t≠g) (hs:c.size<=100000) (hl:b.length<=100000) :
  Qc V 209 #[G c,Qa (I ⟨t,0,Z⟩),Qa (I ⟨g,0,Z⟩)] W fun e w'=>Below B W w'/\E4 w' t F m/\(∀j,P<=j->j<Q->j≠g->w'.heap[j]? =W.heap[j]?) /\
   ((C6 k b c.data.toList≠0/\e=Qb (Ae a (C6 k b c.data.toList))) \/
    (C6 k b c.data.toList=0/\e= .returned Q1/\o w' (b++ [(k.rd c.data.toList).1])/\Bj w' g (b.length+1) (Ar (AA k (b++ [(k.rd c.data.toList).1]))))):=by
 have eg:=T.ent;have n:=T.take W c b hE hI hQ hs hl;have hc:=hF.cell;have K:=Qu T.low i.1;have y:S _:=hF;have L:S _:=hH;have p:S (Ar (AA k (b++ [(k.rd c.data.toList).1]))=Cf b.length (Ar (AA k b)) (k.key (k.rd c.data.toList).1)):=by
  show _=_;have:=Ol (AA k b) (k.key (k.rd c.data.toList).1);rw[show (AA k b).length=b.length by simp[AA]]at this;rw[<-this];simp[AA]
 have C:S _:=T;obtain⟨E,z⟩:∃E,C6 k b c.data.toList=E:=⟨_,rfl⟩;rw[z]at n;simp only[z];obtain⟨x,hx⟩:∃x,(k.rd c.data.toList).1=x:=⟨_,rfl⟩;rw[hx]at n p;simp only[hx];by_cases q:E=0
 ·subst q;have f:Qc V F #[G c,Qa (I ⟨m,0,Z⟩)] W fun e w'=>e=Qb (Qg #[O U (k.key x),Q1])/\Below B W w'/\(∀j,P<=j->j<Q->w'.heap[j]? =W.heap[j]?)/\o w' (b++ [x]):=n.mono fun e w' ⟨h1,h2,h3⟩=>by
   rcases h3 with⟨h,_⟩|⟨_,h,h'⟩
   · exact absurd rfl h
   · exact⟨h,h1,h2,h'⟩
  generalize k.key x=ac at f p
  go_enter Xc,ntmps209
  go_wp2_with (go_at_fn F;refine f.mono ?_;rintro e s ⟨rfl,u,d,ab⟩)
  have l:E4 s t F m:=by have:=y.out;unfold E4 at *;rw[d t v.1 v.2];exact this
  have r:Bj s g b.length (Ar (AA k b)):=by have:=L.out;unfold Bj at *;rw[d g i.1 i.2];exact this
  have M:S _:=d;have N:S _:=l;have R:=Oo g b.length (Ar (AA k b)) ac s r hl;have X:S _:=ab;have Y:S _:=r;refine R.mono ?_;rintro e w2 ⟨rfl,rfl⟩;go_wp2;go_ret;refine⟨On u K,?_,fun j h1 h2 h3=>?_,Qi ⟨by first | rfl | trivial,rfl,?_,?_⟩⟩
  ·have:=N.out;unfold E4 at *;rw[Th _ _ _ _ _ ad];exact this
  ·rw[Th _ _ _ _ _ h3];exact M.out j h1 h2
  ·exact C.out.set g 0 _ i.1 i.2 (C.out.set g 2 _ i.1 i.2 (C.out.set g 1 _ i.1 i.2 X.out))
  ·rw[p.out];exact Om Y.out
 ·obtain⟨D,aa⟩:∃D,E=D+1:=⟨E-1,by omega⟩;subst aa;have f:Qc V F #[G c,Qa (I ⟨m,0,Z⟩)] W fun e w'=>e=Qb (Qg #[O U 0,Qh 410 (Qa (I (a D)))])/\Below B W w'/\(∀j,P<=j->j<Q->w'.heap[j]? =W.heap[j]?):=n.mono fun e w' ⟨h1,h2,h3⟩=>by
   rcases h3 with⟨_,h,_⟩|⟨h,_⟩
   · exact⟨h,h1,h2⟩
   · exact absurd h q
  go_enter Xc,ntmps209
  go_wp2_with (go_at_fn F;refine f.mono ?_;rintro e s ⟨rfl,u,d⟩)
  have l:E4 s t F m:=by have:=y.out;unfold E4 at *;rw[d t v.1 v.2];exact this
  go_ret;exact⟨u,l,fun j h1 h2 _=>d j h1 h2,Ql ⟨q,rfl⟩⟩
def iM {β:Type} (k:FK β) (W:A) (a:Nat->Qd) (B P Q g:Nat) (Inv:A->List β->Prop) (R:List β×Nat×Nat) (e:Ending) (w':A):Prop :=
 Below B W w'/\(∀j,P<=j->j<Q->j≠g->w'.heap[j]? =W.heap[j]?)/\((R.2.1=0/\e= .returned Q1/\Inv w' R.1/\Bj w' g R.1.length (Ar (AA k R.1))) \/
  (R.2.1≠0/\∃fb,e=Qb (Qh 140 (Qa (I ⟨fb,0,Z⟩)))/\w'.cell? ⟨fb,0,Z⟩=I (O U R.2.2)/\w'.cell? ⟨fb,1,Z⟩=I (Ae a R.2.1)))
theorem Mr {B W w w' P Q g} (_:Below B W w) (h:∀j,P<=j->j<Q->j≠g->w.heap[j]? =W.heap[j]?) (b:Q<=w.heap.size) (c:BL w w'):∀j,P<=j->j<Q->j≠g->w'.heap[j]? =W.heap[j]? :=
 fun j h1 h2 h3=>(c.block j (Nat.lt_of_lt_of_le h2 b)).trans (h j h1 h2 h3)
theorem iN {β:Type} {k:FK β} {a:Nat->Qd} {En:A->Prop} {F bl B P Q:Nat} {u:A->List β->Prop} (T:Jn k a En F bl B P Q u) (t g:Nat) (p:ByteArray) (W:A) (C:∀W',Below B W W'->En W') (hI:u W []) (hQ:Q<=W.heap.size) (aq:B<=W.heap.size) (hF:E4 W t F bl) (hH:Bj W g 0 (0,0)) (ht:P<=t/\t<Q) (hg:P<=g/\g<Q) (be:t≠g) (hs:p.size<=20000) :
  Qc V 208 #[G p,.func (.func 209) #[] #[Qa (I ⟨t,0,Z⟩),Qa (I ⟨g,0,Z⟩)]] W fun e w'=>iM k W a B P Q g u (AV k (Ax 10 p.data.toList) 0 []) e w':=by
 have eg:∀args w,(Qz 209 args).run V w= .ok (.enter 209 args) w:=QD Xc (by kernel_rfl) rfl;obtain⟨R,hR⟩:∃R,AV k (Ax 10 p.data.toList) 0 []=R:=⟨_,rfl⟩;rw[hR];have HR:S (AV k (Ax 10 p.data.toList) 0 []=R):=hR;clear hR;have HT:S (Jn k a En F bl B P Q u):=T;have ar:Bj W g ([]:List β).length (Ar (AA k [])):=hH;clear T hH
 go_enter func208,ntmps208
 go_wp2
 go_loopw [0,5] (fun sv n wr=> ∃(rest:ByteArray) (b:List β),sv=G rest/\n=O U b.length/\rest.size+b.length<=20000/\Below B W wr/\(∀j,P<=j->j<Q->j≠g->wr.heap[j]? =W.heap[j]?)/\u wr b/\E4 wr t F bl/\Bj wr g b.length (Ar (AA k b))/\AV k (Ax 10 rest.data.toList) b.length b=R) (fun sv _ _=>Mq sv)
 case atStart=>exact ⟨p, [],rfl,rfl,by simpa using hs,Qj _ _,fun _ _ _ _=>rfl,hI,hF,ar,HR.out⟩
 case round =>
  clear hI hF ar;obtain⟨rest,b,rfl,rfl,bc,M,a1,N,ae,X,ao⟩:=hrel;have aa:S (AV k (Ax 10 rest.data.toList) b.length b=R):=ao;have ag:S (∀j,P<=j->j<Q->j≠g->wr.heap[j]? =W.heap[j]?):=a1;clear ao HR a1;have ah:=C wr M;have au:Q<=wr.heap.size:=Qu hQ M.size;have av:=Qu aq M.size;obtain⟨n,hn⟩:∃n,b.length=n:=⟨_,rfl⟩;have HN:S _:=hn;rw[hn]at bc;simp only[hn];by_cases he:rest.size=0
  ·have ai:=Xu.1 (by rw[AC];exact he);have a6:=CQ ai;have c:S (R=(b,0,0)):=by
    show _=_;rw[<-aa.out,ai];rfl
   have aw:S (u wr b/\Bj wr g b.length (Ar (AA k b))):=⟨N,X⟩;clear ai N X ae;go_wp2;go_ret;refine⟨M,ag.out,Ql ⟨by rw[c.out],rfl,?_,?_⟩⟩
   ·rw[c.out];exact aw.out.1
   ·rw[c.out];exact aw.out.2
  ·have ad:rest.data.toList≠ []:=fun e=>he (by rw[<-AC,e];rfl);have a6:(rest.toList == [])=Qk:=BD ad;obtain⟨mx,ap⟩:=(HT.out.env ah).env.maxl;have hcut:=strings_Cut rest ⟨#[10]⟩ mx wr (by omega) ap;dsimp only at hcut;rcases Hx 10 rest.data.toList with⟨Y,hc⟩|⟨i,m,hl,Y,hc⟩
   ·rw[hc]at hcut;dsimp only at hcut;have c:S (R=([],1,n)):=by
     show _=_;rw[<-aa.out,JY 10 _ Y,KK,if_neg ad,HN.out]
    clear hc Y ad N X ae;generalize (⟨rest.data.toList.toArray⟩:ByteArray)=fB at hcut
    go_wp2_with fail
    refine hcut.mono ?_;rintro e w1 ⟨rfl,q,rfl⟩;clear hcut;have l:BL wr (wr.drewN q):=AK (Qj _ _) q;have d:Below B W (wr.drewN q):=M.trans (l.mono av);have v:S (∀j,P<=j->j<Q->j≠g->(wr.drewN q).heap[j]? =W.heap[j]?):=Mr M ag.out au l;have ht:=(HT.out.env (C _ d)).env.text;have D:Q<=(wr.drewN q).heap.size:=Qu hQ d.size;clear ah ap l;generalize wr.drewN q=W1 at d ht v D ⊢;have K:BL W1 (W1.alloc (J #[O U n,Qh 410 (Qa (I (a 0)))] 143)):=Af _ _;have L:Below B W (W1.alloc (J #[O U n,Qh 410 (Qa (I (a 0)))] 143)):=d.trans (K.mono (Qu aq d.size));have a7:S (∀j,P<=j->j<Q->j≠g->(W1.alloc (J #[O U n,Qh 410 (Qa (I (a 0)))] 143)).heap[j]? =W.heap[j]?):=Mr d v.out D K;go_wp2;go_ret;exact⟨L,a7.out,Qi ⟨by rw[c.out];exact Nat.one_ne_zero,W1.heap.size,rfl,by rw[c.out];simp,by rw[c.out];simp[Ae]⟩⟩
   ·rw[hc]at hcut;dsimp only at hcut;have a5:i.length+m.length+1=rest.size:=by rw[<-AC,hl];simp;omega
    have r:R=if C6 k b i≠0 then ([],C6 k b i,n) else AV k (Ax 10 m) (n+1) (b++ [(k.rd i).1]):=by
     rw[<-aa.out,hl,Hw 10 i m Y,Tn k i _ (JZ 10 m),HN.out]
    have eA:(⟨i.toArray⟩:ByteArray)=Ab i:=rfl;have eB:(⟨m.toArray⟩:ByteArray)=Ab m:=rfl;rw[eA,eB]at hcut;have ax:(Ab i).data.toList=i:=by simp[Ab]
    have ay:(Ab m).data.toList=m:=by simp[Ab]
    have aj:(Ab i).size<=100000:=by rw[De];omega
    have ab:(Ab m).size+n+1<=20000/\(Ab m).size<rest.size:=by rw[De];omega
    have ak:b.length<=100000:=by rw[HN.out];omega
    clear hc Y ad hl eA eB a5
    go_wp2_with fail
    refine hcut.mono ?_;rintro e w1 ⟨rfl,q,rfl⟩;clear hcut;have l:BL wr (wr.drewN q):=AK (Qj _ _) q;have d:Below B W (wr.drewN q):=M.trans (l.mono av);have v:S (∀j,P<=j->j<Q->j≠g->(wr.drewN q).heap[j]? =W.heap[j]?):=Mr M ag.out au l;have az:=C _ d;have D:Q<=(wr.drewN q).heap.size:=Qu hQ d.size;have al:=HT.out.keep N l;have ac:=ae.below l;have am:=X.below l;clear N ae X ah ap l;generalize wr.drewN q=W1 at d v az D al ac am ⊢;have f:=iL HT.out t g (Ab i) b W1 az al D ac am ht hg be aj ak;rw[ax]at f;have an:S ((Ab m).data.toList=m):=ay;clear al ac am ax ay ak;obtain⟨E,a2⟩:∃E,C6 k b i=E:=⟨_,rfl⟩;rw[a2]at f r;clear a2;by_cases a0:E=0
    ·subst a0;rw[if_neg (by simp)]at r;have c:S (AV k (Ax 10 m) (n+1) (b++ [(k.rd i).1])=R):=r.symm;clear r;simp only[ne_eq,not_true_eq_false,false_and,false_or,true_and]at f;generalize (k.rd i).1=x at f c;generalize Ab i=lA at f aj ⊢;generalize Ab m=lB at ab an ⊢
     go_wp2_with (go_at_fn 209;refine f.mono ?_;rintro e o ⟨L,af,s,rfl,a3,a4⟩)
     have y:Below B W o:=d.trans L;have z:S ((∀j,P<=j->j<Q->j≠g->o.heap[j]? =W.heap[j]?)/\u o (b++ [x])/\E4 o t F bl/\Bj o g (b++ [x]).length (Ar (AA k (b++ [x])))) :=
      ⟨fun j h1 h2 h3=>(s j h1 h2 h3).trans (v.out j h1 h2 h3),a3,af,by rw[QH];exact a4⟩
     clear s a3 af a4 f;go_roundw
     case rel=>exact ⟨lB,b++ [x],rfl,by rw[QH,HN.out];go_num,by rw[QH,HN.out];simp;omega,y,z.out.1,z.out.2.1,z.out.2.2.1,z.out.2.2.2,by rw[an.out,QH,HN.out];exact c.out⟩
     case measure=>simp only[Mq];exact ab.2
    ·rw[if_pos a0]at r;obtain⟨E',bd⟩:∃E',E=E'+1:=⟨E-1,by omega⟩;subst bd;have c:S (R=([],E'+1,n)):=r;clear r;simp only[Ae,ne_eq,Xz,not_false_eq_true,false_and,or_false,true_and]at f;generalize Ab i=lA at f aj ⊢;generalize Ab m=lB at ab an ⊢
     go_wp2_with (go_at_fn 209;refine f.mono ?_;rintro e o ⟨L,af,s,rfl⟩)
     have y:Below B W o:=d.trans L;have a8:S (∀j,P<=j->j<Q->j≠g->o.heap[j]? =W.heap[j]?):=fun j h1 h2 h3=>(s j h1 h2 h3).trans (v.out j h1 h2 h3);have a9:Q<=o.heap.size:=Qu hQ y.size;have K:BL o (o.alloc (J #[O U n,Qh 410 (Qa (I (a E')))] 143)):=Af _ _;have ba:Below B W (o.alloc (J #[O U n,Qh 410 (Qa (I (a E')))] 143)):=y.trans (K.mono (Qu aq y.size));have bb:S (∀j,P<=j->j<Q->j≠g->(o.alloc (J #[O U n,Qh 410 (Qa (I (a E')))] 143)).heap[j]? =W.heap[j]?):=Mr y a8.out a9 K;clear s af f;go_wp2;go_ret;exact⟨ba,bb.out,Qi ⟨by rw[c.out];exact Xz _,o.heap.size,rfl,by rw[c.out];simp,by rw[c.out];simp[Ae]⟩⟩
abbrev Hd:=Int×Int×Int
def Ms (x:Hd):List Qm:= [O U x.1,O U x.2.1,O U x.2.2]
theorem To:EqlAt V 256 (fun x:Hd=>Qn (Ms x).toArray) (fun x y=>decide (x=y)):=by
 refine⟨fun x y w=>?_,GuardAt.agg _ (by kernel_rfl)⟩;have b:Tryz.prog.underlying 256=I (.struct (Tryz.prog.fieldsOf 256)):=by kernel_rfl
 have c:Tryz.prog.stoodInHeld 256=Qk:=by kernel_rfl
 obtain⟨i,j,k⟩:=x;obtain⟨l,m,n⟩:=y;simp only[Ms];rw[X0,show (10000:Nat)=9999+1 from rfl,run_equalIn_agg w 9999 256 _ _ b c];simp only[Program.fieldsOf,underlying256]
 go_simp
 by_cases d:i=l<;>by_cases f:j=m<;>by_cases g:k=n<;>simp [d,f,g]
theorem Tp:NeqAt V 256 (fun x:Hd=>Qn (Ms x).toArray) (fun x y=>decide (x=y)):=by
 refine⟨fun x y w=>?_,To.2⟩;have h:=To.1 x y w;rw[X0]at h;rw[run_neq_struct];generalize Sem.run V (Op.equalIn 10000 256 _ _) w=r at h ⊢
 cases r with
 | ok b w' =>
  simp only[Result.andThen,Result.ok.injEq,Value.bool.injEq]at h ⊢;exact⟨by rw[h.1],h.2⟩
 | halt z w'=>simp [Result.andThen]at h
def iO {β:Type} (B:Nat) (w:A) (a:Nat->Qd) (Inv:Nat->A->List β->Prop) (D:List β×Nat×Option Nat) (e:Ending) (w':A):Prop :=
 Below B w w'/\((D.2.1=0/\e= .returned Q1/\∃Q,Inv Q w' D.1) \/
  (D.2.1≠0/\D.1= []/\D.2.2=Z/\e=Qb (Ae a D.2.1)) \/
  (D.2.1≠0/\D.1= []/\∃at_,D.2.2=I at_/\∃fb,e=Qb (Qh 140 (Qa (I ⟨fb,0,Z⟩)))/\w'.cell? ⟨fb,0,Z⟩=I (O U at_)/\w'.cell? ⟨fb,1,Z⟩=I (Ae a D.2.1)))
theorem Tq {β:Type} (k:FK β) (kb s:ByteArray) (bz:kb.data.toList=k.word) (w:A) (a:Nat->Qd) (En:A->Prop) (F bl B:Nat) (aa:Nat->A->List β->Prop) (v:B<=w.heap.size) (az:∀W',Below B w W'->En W')
  (T:∀Q,Jn k a En F bl B w.heap.size Q (aa Q)) (hI:∀Q W',BL w W'->Q<=W'.heap.size->aa Q W' []) (hs:s.size<=Qo) :
  Qc V 118 #[G kb,G s,.func (.func F) #[] #[Qa (I ⟨bl,0,Z⟩)]] w fun e w'=>iO B w a aa (BS k s.data.toList) e w':=by
 have m:∀W',Below B w W'->DT W' a:=fun W' hW=>(T 0).env (az W' hW);unfold Qo at hs;have ab:=AC s;have n:BL w (w.alloc (J #[.func (.func F) #[] #[Qa (I ⟨bl,0,Z⟩)]] 182)):=Af _ _;have u:E4 (w.alloc (J #[.func (.func F) #[] #[Qa (I ⟨bl,0,Z⟩)]] 182)) w.heap.size F bl:=Q4 _ _;by_cases b0:20000<s.size
 ·have L:S (BS k s.data.toList=([],2,Z)):=by show _=_;unfold BS;rw[if_pos (by omega)]
  have bi:(20000:Int)<(s.size:Int):=by omega
  have b1:=(m _ (n.mono v)).env.bound;clear ab
  go_enter QQ,QR
  go_wp2;go_ret;refine⟨n.mono v,?_⟩;rw[L.out];exact Qi (Ql ⟨by simp,rfl,rfl,rfl⟩)
 ·have bi:¬(20000:Int)<(s.size:Int):=by omega
  have X:¬20000<s.data.toList.length:=by omega
  have aq:=m _ (n.mono v);obtain⟨mx,M⟩:=aq.env.maxl;have hcut:=strings_Cut s ⟨#[10]⟩ mx _ (by omega) M;dsimp only at hcut;rcases Hx 10 s.data.toList with⟨ay,hc⟩|⟨la,p,hl,ay,hc⟩
  ·have L:S (BS k s.data.toList=([],1,Z)):=by show _=_;unfold BS;rw[if_neg X,hc];rfl
   rw[hc]at hcut;dsimp only at hcut;have eA:(⟨s.data.toList.toArray⟩:ByteArray)=Ab s.data.toList:=rfl;rw[eA]at hcut;have d:=fun W (hW:Cd W a)=>Tm kb (Ab s.data.toList) W a hW (by rw[De];omega);generalize Ab s.data.toList=lA at hcut d;generalize G6 kb.data.toList lA.data.toList=H at d;obtain⟨⟨i,j,l⟩,z3,b8⟩:=H;dsimp only at d;clear hc ay eA X ab aq
   go_enter QQ,QR
   go_wp2_with fail
   generalize w.alloc (J #[.func (.func F) #[] #[Qa (I ⟨bl,0,Z⟩)]] 182)=P at n u M hcut ⊢;refine hcut.mono ?_;rintro e w1 ⟨rfl,q,rfl⟩;clear hcut;have o:BL w (P.drewN q):=AK n q;have f:=d _ (m _ (o.mono v)).env;clear d M u n;generalize P.drewN q=W1 at o f ⊢
   go_wp2_with fail
   refine f.mono ?_;rintro e r ⟨rfl,N⟩;clear f;have t:BL w r:=Ad o N;have y:BL w (r.alloc (J #[O U i,O U j,O U l] 256)):=t.alloc t.size _;have ht:=(m _ (y.mono v)).env.text;go_wp2;go_ret;refine⟨y.mono v,?_⟩;rw[L.out];exact Qi (Ql ⟨by simp,rfl,rfl,rfl⟩)
  ·have a0:la.length+p.length+1=s.size:=by rw[<-AC,hl];simp;omega
   rw[hc]at hcut;dsimp only at hcut;have eA:(⟨la.toArray⟩:ByteArray)=Ab la:=rfl;have eB:(⟨p.toArray⟩:ByteArray)=Ab p:=rfl;rw[eA,eB]at hcut;have a1:(Ab la).data.toList=la:=by simp[Ab]
   have ar:(Ab p).data.toList=p:=by simp[Ab]
   have d:=fun W (hW:Cd W a)=>Tm kb (Ab la) W a hW (by rw[De];omega);rw[a1,bz]at d;have C:=fun W=>KR (Ab p) W (by rw[De];unfold Qo;omega);rw[ar]at C;unfold G6 at d
   cases Y:EW k.word la with
   | none =>
    have L:S (BS k s.data.toList=([],1,Z)):=by show _=_;unfold BS;rw[if_neg X,hc];simp only[Y];rfl
    rw[Y]at d;dsimp only at d;clear hc ay eA eB a1 ar X ab C Y a0 hl aq;generalize Ab la=lA at hcut d;generalize Ab p=lB at hcut
    go_enter QQ,QR
    go_wp2_with fail
    generalize w.alloc (J #[.func (.func F) #[] #[Qa (I ⟨bl,0,Z⟩)]] 182)=P at n u M hcut ⊢;refine hcut.mono ?_;rintro e w1 ⟨rfl,q,rfl⟩;clear hcut;have o:BL w (P.drewN q):=AK n q;have f:=d _ (m _ (o.mono v)).env;clear d M u n;generalize P.drewN q=W1 at o f ⊢
    go_wp2_with fail
    refine f.mono ?_;rintro e r ⟨rfl,N⟩;clear f;have t:BL w r:=Ad o N;have y:BL w (r.alloc (J #[O U 0,O U 0,O U 0] 256)):=t.alloc t.size _;have ht:=(m _ (y.mono v)).env.text;go_wp2;go_ret;refine⟨y.mono v,?_⟩;rw[L.out];exact Qi (Ql ⟨by simp,rfl,rfl,rfl⟩)
   | some hd =>
    obtain⟨i,j,l,z3⟩:=hd;rw[Y]at d;dsimp only at d;have hD:BS k s.data.toList=if z3≠Bi p then ([],10,Z) else GV k i j l (AV k (Ax 10 p) 0 []):=by
     unfold BS;rw[if_neg X,hc];simp only[Y];rfl
    have L:S (BS k s.data.toList=if z3≠Bi p then ([],10,Z) else GV k i j l (AV k (Ax 10 p) 0 [])):=hD;have bj:=Hz p;have a2:(Ab p).size<=20000:=by rw[De];omega
    have a3:S (AV k (Ax 10 (Ab p).data.toList) 0 []=AV k (Ax 10 p) 0 []):=by show _=_;rw[ar]
    generalize Bi p=c at C L bj;generalize AV k (Ax 10 p) 0 []=R at L a3;clear hD hc ay eA eB a1 ar X ab Y a0 hl aq;generalize Ab la=lA at hcut d;generalize Ab p=lB at hcut C a2 a3;have bk:S (∀Q,Jn k a En F bl B w.heap.size Q (aa Q)):=T;have bm:S (∀Q W',BL w W'->Q<=W'.heap.size->aa Q W' []):=hI;clear T hI
    go_enter QQ,QR
    go_wp2_with fail
    generalize w.alloc (J #[.func (.func F) #[] #[Qa (I ⟨bl,0,Z⟩)]] 182)=P at n u M hcut ⊢;refine hcut.mono ?_;rintro e w1 ⟨rfl,q,rfl⟩;clear hcut;have ag:BL P (P.drewN q):=AK (Qj _ _) q;have o:BL w (P.drewN q):=AK n q;have ac:=u.below ag;have f:=d _ (m _ (o.mono v)).env;clear d M u n ag;generalize P.drewN q=W1 at o f ac ⊢
    go_wp2_with fail
    refine f.mono ?_;rintro e r ⟨rfl,N⟩;clear f;have t:BL w r:=Ad o N;have ad:=ac.below N;have a4:BL r (r.alloc (J #[O U i,O U j,O U l] 256)):=Af _ _;have y:BL w (r.alloc (J #[O U i,O U j,O U l] 256)):=t.alloc t.size _;have ae:=ad.below a4;have ah:(r.alloc (J #[O U i,O U j,O U l] 256)).heap[r.heap.size]? =I (J #[O U i,O U j,O U l] 256 (0,0)):=Q4 _ _;have af:=C (r.alloc (J #[O U i,O U j,O U l] 256));have a5:w.heap.size<=r.heap.size:=t.size;have bf:w.heap.size≠r.heap.size:=by have:=Qt ad;omega
    clear C ac ad a4
    go_wp2_with fail
    generalize bw:r.heap.size=sd at ah a5 bf ⊢;generalize r.alloc (J #[O U i,O U j,O U l] 256)=W3 at y af ae ah ⊢;clear bw t N o;refine af.mono ?_;rintro e z ⟨rfl,ax⟩;clear af;have au:BL w z:=Ad y ax;have av:=ae.below ax;have al:z.heap[sd]? =I (J #[O U i,O U j,O U l] 256 (0,0)):=(ax.block _ (Qt ah)).trans ah;have b2:IntKind.i64.wrap (c:Int)=(c:Int):=IntWalk.i64_in _ (by omega);have bg:sd<z.heap.size:=Qt al;clear ae ah y ax;by_cases a6:z3=(c:Int)
    ·have a7:S (BS k s.data.toList=GV k i j l R):=by show _=_;rw[L.out,if_neg (by simpa using a6)]
     clear L;subst a6;have a8:BL z (z.alloc (J #[O U 0,O U 0,O U 0] 256)):=Af _ _;have ai:BL w (z.alloc (J #[O U 0,O U 0,O U 0] 256)):=au.alloc au.size _;have bn:Bj (z.alloc (J #[O U 0,O U 0,O U 0] 256)) z.heap.size 0 (0,0):=Q4 _ _;have ba:=av.below a8;have a9:(z.alloc (J #[O U 0,O U 0,O U 0] 256)).heap[sd]? =I (J #[O U i,O U j,O U l] 256 (0,0)):=(a8.block _ (Qt al)).trans al;have bo:=Qt av;have aw:=iN (bk.out (z.heap.size+1)) w.heap.size z.heap.size lB _ (fun W' hW=>az W' ((ai.mono v).trans hW)) (bm.out (z.heap.size+1) _ ai (by simp)) (by simp) (Qu v ai.size) ba bn ⟨Qv _,by omega⟩ ⟨by omega,by omega⟩ (by omega) a2;rw[a3.out]at aw
     go_wp2_with fail
     generalize b9:z.heap.size=g at aw bg bo ⊢;generalize z.alloc (J #[O U 0,O U 0,O U 0] 256)=W5 at ai a9 aw ⊢;refine aw.mono ?_;rintro e w6 ⟨bs,bt,bh⟩;have aj:=(ai.mono v).trans bs;have am:=(bt sd a5 (by omega) (by omega)).trans a9;rcases bh with⟨h0,rfl,bu,bv⟩|⟨h0,fb,rfl,c0,c1⟩
     ·have ak:S _:=h0;have bp:S (∃Q,aa Q w6 R.1):=⟨_,bu⟩;have x0:w6.cell? ⟨sd,0,Z⟩=I (O U i):=by rw[Qp _ _ _ _ _ _ am];rfl
      have x1:w6.cell? ⟨sd,1,Z⟩=I (O U j):=by rw[Qp _ _ _ _ _ _ am];rfl
      have x2:w6.cell? ⟨sd,2,Z⟩=I (O U l):=by rw[Qp _ _ _ _ _ _ am];rfl
      obtain⟨y0,y1,y2,_⟩:=bv.cells;have bb:=m _ aj;by_cases bc:40<R.1.length
      ·have an:(40:Int)<(R.1.length:Int):=by omega
       have K:S (BS k s.data.toList=([],8,Z)):=by
        show _=_;rw[a7.out];unfold GV;rw[if_neg (by simpa using ak.out),if_pos bc]
       have b3:=bb.full;generalize R.1.length=LL at an y0;go_wp2;go_ret;refine⟨aj,?_⟩;rw[K.out];exact Qi (Ql ⟨by simp,rfl,rfl,rfl⟩)
      ·have an:¬(40:Int)<(R.1.length:Int):=by omega
       have K:S (BS k s.data.toList=if i=(R.1.length:Int)/\j=(Ar (AA k R.1)).1/\l=(Ar (AA k R.1)).2 then (R.1,0,Z) else ([],3,Z)):=by
        show _=_;rw[a7.out];unfold GV;rw[if_neg (by simpa using ak.out),if_neg bc]
       have D:=Tp.1 ((R.1.length:Int),(Ar (AA k R.1)).1,(Ar (AA k R.1)).2) (i,j,l);simp only[Ms]at D;have ao:=fun op a b w=>Tp.2 op a b ((R.1.length:Int),(Ar (AA k R.1)).1,(Ar (AA k R.1)).2) (i,j,l) w;have br:decide ((((R.1.length:Int),(Ar (AA k R.1)).1,(Ar (AA k R.1)).2):Hd)=(i,j,l))=decide (i=(R.1.length:Int)/\j=(Ar (AA k R.1)).1/\l=(Ar (AA k R.1)).2):=by
        rw[decide_eq_decide];simp only[Prod.mk.injEq];exact⟨fun ⟨h1,h2,h3⟩=>⟨h1.symm,h2.symm,h3.symm⟩,fun ⟨h1,h2,h3⟩=>⟨h1.symm,h2.symm,h3.symm⟩⟩
       rw[br]at D;obtain⟨bq,ag⟩:∃bq,decide (i=(R.1.length:Int)/\j=(Ar (AA k R.1)).1/\l=(Ar (AA k R.1)).2)=bq:=⟨_,rfl⟩;have bd:S _:=ag;rw[ag]at D;generalize bx:Ar (AA k R.1)=E at D ao y1 y2;have b4:S _:=bx;obtain⟨e1,e2⟩:=E;dsimp only at D ao y1 y2;obtain⟨LL,be⟩:∃LL,R.1.length=LL:=⟨_,rfl⟩;have b5:S _:=be;rw[be]at D ao an y0;have b6:=bb.shape
       cases bq with
       | true =>
        have ap:S (BS k s.data.toList=(R.1,0,Z)):=by
         show _=_;rw[K.out,if_pos (of_decide_eq_true bd.out)]
        go_wp2;go_ret;refine⟨aj,?_⟩;rw[ap.out];exact Ql ⟨rfl,rfl,bp.out⟩
       | false =>
        have ap:S (BS k s.data.toList=([],3,Z)):=by
         show _=_;rw[K.out,if_neg (of_decide_eq_false bd.out)]
        go_wp2;go_ret;refine⟨aj,?_⟩;rw[ap.out];exact Qi (Ql ⟨by simp,rfl,rfl,rfl⟩)
     ·have ak:S _:=h0;have C0:S _:=c0;have C1:S _:=c1;have K:S (BS k s.data.toList=([],R.2.1,I R.2.2)):=by
       show _=_;rw[a7.out];unfold GV;rw[if_pos ak.out]
      go_wp2;go_ret;refine⟨aj,?_⟩;rw[K.out];exact Qi (Qi ⟨ak.out,rfl,R.2.2,rfl,fb,rfl,C0.out,C1.out⟩)
    ·have K:S (BS k s.data.toList=([],10,Z)):=by
      show _=_;rw[L.out,if_pos a6]
     have b7:=(m _ (au.mono v)).sum;go_wp2;go_ret;refine⟨au.mono v,?_⟩;rw[K.out];exact Qi (Ql ⟨by simp,rfl,rfl,rfl⟩)
end Go.Proofs.YtcllhobffhkafaaGreatDoor
