/- By an AI agent. -/
import Derived.Test.YtcllhobffhkafaaGreatDoorCrcPure
import Derived.Laws.BitsAll
import Derived.Laws.BitsAllLaws
import Derived.Laws.CopyRow
import Derived.Laws.Tables
import Derived.Test.YtcllhobffhkafaaGreatDoorSrtPure
import Derived.Lib.QuietBelow
set_option maxRecDepth 100000
set_option maxHeartbeats 16000000
open Go.Proofs.Tryz
open Array renaming size_replicate->Qu,getElem?_eq_none->Qv,replicate->Qw,ext_getElem?->Q0
open Go renaming World->S,Calls->G,Addr->Qb,bits->Qe,Value->Qm,maxLen->Qp,callFunc->Qt,u32_xor_nat->Qx,cell_of_row->Q1,wpList_store_row->Q3,setRow_heap->Q4
open Go.Ending renaming returned->V
open Go.IntKind renaming i64->U
open Go.Lib renaming itoa->Qa,nDigits->Qd,cut->Qf,zeros24->Qg,decDigits->Qy,join->Qz,TabIs->Q9,pow10Tab->QA,itoa_nonneg->QB,decDigits_length->QD
open Go.Obj renaming cells->I
open Go.Proofs.Tryz renaming prog->Z,func123->Qi,ntmps123->Qj,func63->Qk,ntmps63->Ql,underlying296->Q2,underlying344->QC
open Go.RowKit.Below renaming refl->Qc
open Go.Value renaming int->O,string->A,slice->Qh,agg->Qn,pointer->Qo,tuple->Qs
open Int renaming emod_nonneg->Qq,emod_lt_of_pos->Qr,lt_or_le->Q5,mul_nonneg->Q6,sub_mul->Q7,one_mul->Q8
open Option renaming some->J,none->H
namespace Go.Proofs
open Go.Shelf
def Tryz.lays169_ren:Go.Shelf.Ren:=⟨fun | 169=>205 | n=>n,fun | 70=>257 | 9=>9 | 0=>0 | 72=>260 | 37=>258 | 127=>320 | 3=>3 | 5=>5 | n=>n,fun | n=>n⟩
theorem Tryz.lays169:Go.Proofs.Lays.n169 Z lays169_ren:= { lays172 with
 mixed:=by kernel_rfl
 f169:=Tryz.lq func205 (by kernel_rfl)
 t70:=underlying257
 a70:=isAgg257
 z70:=sizeOf257
 v70:=zeroValue257
 t72:=underlying260
 a72:=isAgg260
 z72:=sizeOf260
 v72:=zeroValue260 }
theorem Tryz.Builder_Extra_169:Builder.Extra Z lays169_ren:= { lays172 with
 sizeBuilder:=by kernel_rfl
 liesBuilder:=by kernel_rfl
 infoByte:=by kernel_rfl
 cellsByte:=by kernel_rfl
 sizeByte:=by kernel_rfl
 neB5:=by decide }
open Go.RowKit in
theorem Tryz.Builder_String_any (B b:Nat) (l:List UInt8) (w:S) (h:Lib.IsBuilder 260 5 B b (Lib.byteCells l) w) (c:B<=w.heap.size) :
 G Z 205 #[Qo (J ⟨b,0,H⟩)] w fun e w'=>e=V (A ⟨l.toArray⟩)/\Below B w w':=Any.Builder_String_any lays169 Builder_Extra_169 B b l w h c
def Tryz.lays156_ren:Go.Shelf.Ren:=⟨fun | 156=>291 | 165=>333 | 166=>204 | 169=>205 | 240=>289 | 241=>370 | 276=>331 | 277=>385 | n=>n,fun | 31=>82 | 9=>9 | 3=>3 | 4=>4 | 0=>0 | 20=>20 | 72=>260 | 76=>45 | 70=>257 | 37=>258 | 75=>27 | 127=>320 | 164=>325 | 5=>5 | 80=>64 | n=>n,fun | n=>n⟩
theorem Tryz.lays156:Go.Proofs.Lays.n156 Z lays156_ren:= { lays172,lays169 with
 mixed:=by kernel_rfl
 f156:=Tryz.lq func291 (by kernel_rfl)
 f165:=Tryz.lq func333 (by kernel_rfl)
 f166:=Tryz.lq func204 (by kernel_rfl)
 f169:=Tryz.lq func205 (by kernel_rfl)
 f240:=Tryz.lq func289 (by kernel_rfl)
 f241:=Tryz.lq func370 (by kernel_rfl)
 f276:=Tryz.lq func331 (by kernel_rfl)
 f277:=Tryz.lq func385 (by kernel_rfl)
 t31:=underlying82
 a31:=isAgg82
 z31:=sizeOf82
 v31:=zeroValue82
 t164:=underlying325
 a164:=isAgg325
 z164:=sizeOf325
 v164:=zeroValue325 }
theorem Tryz.Builder_Extra_156:Builder.Extra Z lays156_ren:= { lays172 with
 sizeBuilder:=by kernel_rfl
 liesBuilder:=by kernel_rfl
 infoByte:=by kernel_rfl
 cellsByte:=by kernel_rfl
 sizeByte:=by kernel_rfl
 neB5:=by decide }
open Go.RowKit in
theorem Tryz.strings_Join (f o c:Nat) (xs:List ByteArray) (b:ByteArray) (w:S) (d:∀(j:Nat) x,xs[j]? =J x->w.cell? ⟨f,o+j,H⟩=J (A x)) (k:f<w.heap.size) (l:xs.length<=140737488355328) (g:xs.length<=c) (i:(Qz (xs.map (·.data.toList)) b.data.toList).length<=140737488355328) :
 G Z 291 #[Qh (J ⟨f,o,H⟩) xs.length c,A b] w fun e w'=>e=V (A ⟨(Qz (xs.map (·.data.toList)) b.data.toList).toArray⟩)/\Below w.heap.size w w':=Any.strings_Join lays156 Builder_Extra_156 f o c xs b w d k l g i
end Go.Proofs
namespace Go.Proofs.YtcllhobffhkafaaGreatDoor
open Go.RowKit Go.Extern.Stop Go.Stop Go.Extern Go.Sort Go.Shelf Go.Lib
def Bs (n:Nat):Array Qm:=(Array.range 256).map fun i=>.int .u32 (if i<n then (CO i:Int) else 0)
theorem Fh (n:Nat):(Bs n).size=256:=by simp[Bs]
theorem JD (n i:Nat) (h:i<256):(Bs n)[i]? =J (.int .u32 (if i<n then (CO i:Int) else 0)):=by
 simp[Bs,h]
theorem dL (n:Nat) (h:n<256):(Bs n).setIfInBounds n (.int .u32 (CO n:Int))=Bs (n+1):=by
 apply Q0;intro i;rw[Array.getElem?_setIfInBounds];by_cases b:i<256
 ·rw[JD _ _ b,JD _ _ b,Fh];by_cases e:n=i
  ·subst e;simp[h]
  ·rw[if_neg e];by_cases c:i<n
   ·rw[if_pos c,if_pos (by omega)]
   ·rw[if_neg c,if_neg (by omega)]
 ·have d:∀k,(Bs k)[i]? =H:=fun k=>Qv (by rw[Fh];omega);rw[d,d,Fh];by_cases e:n=i
  ·subst e;omega
  ·rw[if_neg e]
theorem dM:Bs 0=Qw 256 (.int .u32 0):=by
 apply Q0;intro i;by_cases b:i<256
 ·rw[JD _ _ b];simp[b]
 ·rw[Qv (by rw[Fh];omega),Qv (by simp;omega)]
def JE (j:Nat) (x:Nat):Nat:=Nat.repeat Dz j x
theorem Sp (j x:Nat):JE (j+1) x=Dz (JE j x):=rfl
theorem dN (j:Nat) {x:Nat} (h:x<4294967296):JE j x<4294967296:=by
 induction j with
 | zero=>exact h
 | succ j ih=>rw [Sp];exact Hm ih
theorem dO (x:Nat):JE 8 x=CO x:=rfl
theorem Tryz.zeroTab:zeroCells296=Bs 0:=by rw[dM];kernel_rfl
theorem Tryz.sizeTab:(Tryz.prog.info? 296).map (·.size)=J 256:=by kernel_rfl
theorem Sq (n:Nat):(Bs n).all (·.oneCell')=true:=by
 rw[Array.all_eq_true];intro i b;have h:=JD n i (by rw[Fh]at b;exact b);rw[Array.getElem?_eq_getElem b]at h;rw[Option.some.inj h];rfl
theorem Sr {B:Nat} {a w:S} (h:Below B a w) (g:Nat) (c:B<=g) (b:Array Qm):Below B a (w.setRow g b):=by
 refine⟨h.os,h.tape,h.output,by rw[size_setRow];exact h.size,fun k hk=>?_⟩;have e:(w.setRow g b).heap[k]? =w.heap[k]? :=by
  unfold World.setRow;simp only[Array.getElem?_modify];rw[if_neg (by omega)]
 rw[e];exact h.block k hk
theorem dP (w:S):G Z 259 #[] w fun e w'=>e=V (Qn (Bs 256))/\BL w w':=by
 have P:=Tryz.zeroTab;have v:BL w ((w.alloc (I (Bs 0) 296)).alloc (I (Bs 0) 296)):=(Af _ _).alloc (by simp) _;have D:=heap_alloc2_old w (I (Bs 0) 296) (I (Bs 0) 296);have E:=heap_alloc2_new w (I (Bs 0) 296) (I (Bs 0) 296)
 go_enter func259,ntmps259
 go_wp2
 go_loopw [5] (fun k wr=> ∃n:Nat,n<=256/\k=O U n/\BL w wr/\wr.heap[w.heap.size]? =J (I (Bs 0) 296 (0,0))/\wr.heap[w.heap.size+1]? =J (I (Bs n) 296 (0,0))) (fun k _=>256-(intOf k).toNat)
 case atStart=>exact ⟨0,by omega,rfl,v,D,E⟩
 case round =>
  obtain⟨n,T,rfl,B,K,L⟩:=hrel;have q:Hid _:=K;have f:Hid _:=L;by_cases l:n<256
  ·have Q:(n:Int)<256:=by omega
   have C:wr.cell? ⟨w.heap.size+1,n,H⟩=J (.int .u32 0):=by rw[Q1 _ _ _ _ _ _ f.out,JD _ _ l,if_neg (by omega)]
   have M:wr.frozen? ⟨w.heap.size+1,n,H⟩=false:=frozen_of_row _ _ _ _ _ f.out;go_wp2
   go_loop [3,10] (fun s j=> ∃m:Nat,m<=8/\j=O U m/\s= .int .u32 (JE m n:Nat)) (fun _ j=>8-(intOf j).toNat)
   case atStart=>exact ⟨0,by omega,rfl,rfl⟩
   case round =>
    obtain⟨m,W,rfl,rfl⟩:=hrel;by_cases F:m<8
    ·have N:(m:Int)<8:=by omega
     have o:=dN m (x:=n) (by omega);have y:=Sp m n;generalize JE m n=c at o y ⊢;have p:Hid _:=y;have d:Qe .and .u32 (c:Int) 1=((c % 2:Nat):Int):=by
      have:=u32_and_nat c 1 o (by decide);rw[nat_mask1]at this;exact this
     by_cases b:c % 2=1
     ·have r:(Qe .and .u32 (c:Int) 1 == 1)=true:=by rw[d,b];rfl
      have R:Qe .xor .u32 ((c:Int) / 2) 3988292384=((c / 2 ^^^ 3988292384:Nat):Int):=by
       have:=Qx (c / 2) 3988292384 (by omega) (by decide);simpa using this
      go_wp2;go_round
      case rel=>exact ⟨m+1,by omega,by go_num,by rw[p.out];unfold Dz;rw[if_pos b]⟩
      case measure=>simp [intOf];omega
     ·have r:(Qe .and .u32 (c:Int) 1 == 1)=false:=by rw[d,show c % 2=0 by omega];rfl
      go_wp2;go_round
      case rel=>exact ⟨m+1,by omega,by go_num,by rw[p.out];unfold Dz;rw[if_neg b];simp⟩
      case measure=>simp [intOf];omega
    ·obtain rfl:m=8:=by omega
     rw[dO];have t:=heap_setCell_same wr (w.heap.size+1) n (Bs n) 296 (.int .u32 (CO n:Nat)) f.out;have g:=heap_setCell_other wr ⟨w.heap.size+1,n,H⟩ w.heap.size (.int .u32 (CO n:Nat)) (by simp);have u:Hid ((wr.setCell ⟨w.heap.size+1,n,H⟩ (.int .u32 (CO n:Nat))).heap[w.heap.size+1]? =J (I (Bs (n+1)) 296 (0,0))):=by
      show _=_;rw[t,dL n l]
     have i:Hid ((wr.setCell ⟨w.heap.size+1,n,H⟩ (.int .u32 (CO n:Nat))).heap[w.heap.size]? =J (I (Bs 0) 296 (0,0))):=by
      show _=_;rw[g];exact q.out
     have z:BL w (wr.setCell ⟨w.heap.size+1,n,H⟩ (.int .u32 (CO n:Nat))):=B.setCell (by simp) _;go_wp2;go_roundw
     case rel=>exact ⟨n+1,by omega,by go_num,z,i.out,u.out⟩
     case measure=>simp [intOf];omega
  ·obtain rfl:n=256:=by omega
   go_wp2_with (first
    | (refine wpList_load_row rfl 296 _ rfl (w.heap.size+1) rfl 296 (Bs 256) (0,0) _ f.out Q2 rfl (by rw[Fh];exact Tryz.sizeTab) ?_)
    | (refine Q3 rfl 296 _ _ rfl w.heap.size (Bs 256) rfl rfl 296 (Bs 0) q.out (by rw[Fh];exact Tryz.sizeTab) (by rw[Fh,Fh]) (Sq _) ?_))
   refine bodyPost_ret (results_cell_row rfl _ _ w.heap.size 296 (Bs 256) (0,0) _ rfl (Q4 wr w.heap.size (Bs 0) _ _ _ q.out) Q2 rfl (by rw[Fh];exact Tryz.sizeTab)) rfl ⟨rfl,?_⟩;exact Sr B _ (Nat.le_refl _) _
theorem Ky (s:ByteArray) (w:S) (X:s.size<=Qp):G Z 171 #[A s] w fun e w'=>e=V (.int .u32 (Ba s.data.toList:Nat))/\BL w w':=by
 unfold Qp at X;have Y:=Tryz.zeroTab;have t:=dP w
 go_enter func171,ntmps171
 go_wp2_with fail
 refine t.mono ?_;rintro e f ⟨rfl,m⟩;have u:=heap_alloc_new f (I (Bs 0) 296);have v:BL w (f.alloc (I (Bs 0) 296)):=m.alloc m.size _
 go_wp2_with (refine Q3 rfl 296 _ _ rfl f.heap.size (Bs 256) rfl rfl 296 (Bs 0) u (by rw[Fh];exact Tryz.sizeTab) (by rw[Fh,Fh]) (Sq _) ?_)
 have p:=Q4 (f.alloc (I (Bs 0) 296)) f.heap.size (Bs 0) (Bs 256) _ _ u;have l:BL w ((f.alloc (I (Bs 0) 296)).setRow f.heap.size (Bs 256)):=Sr v _ m.size _;generalize f.heap.size=g at p l ⊢;generalize (f.alloc (I (Bs 0) 296)).setRow g (Bs 256)=W at p l ⊢;have Q:Hid (∀i,i<256->W.cell? ⟨g,i,H⟩=J (.int .u32 (CO i:Nat))):=fun i q=>by
  rw[Q1 _ _ _ _ _ _ p,JD _ _ q,if_pos q]
 go_loop [4,5] (fun c k=> ∃n:Nat,n<=s.size/\k=O U n/\c= .int .u32 (FB (s.data.toList.take n):Nat)) (fun _ k=>s.size-(intOf k).toNat)
 case atStart=>exact ⟨0,Nat.zero_le _,rfl,rfl⟩
 case round =>
  obtain⟨n,hn,rfl,rfl⟩:=hrel;have j:=RH (s.data.toList.take n);by_cases y:n<s.size
  ·have q:(n:Int)<(s.size:Int):=by omega
   have z:s.data.toList.take (n+1)=s.data.toList.take n++ [s[n]]:=by
    rw[List.take_succ_eq_append_getElem (by simpa using y)];rfl
   have B:Hid (FB (s.data.toList.take (n+1))=IJ (FB (s.data.toList.take n)) s[n]):=by
    show _=_;rw[z,bY]
   have r:=bX (FB (s.data.toList.take n)) s[n];generalize FB (s.data.toList.take n)=C at j B r ⊢;have N:=s[n].toNat_lt;obtain⟨d,M⟩:∃d,(C ^^^ s[n].toNat) % 256=d:=⟨_,rfl⟩;have o:d<256:=by omega
   have R:Qe .xor .u8 ((C:Int) % 256) (s[n].toNat:Int)=(d:Int):=by
    have D:=u8_xor_nat (C % 256) s[n].toNat (by omega) (by omega);have E:=Nat.xor_mod_two_pow (a:=C) (b:=s[n].toNat) (n:=8);rw[show (2:Nat) ^ 8=256 from rfl,Nat.mod_eq_of_lt (a:=s[n].toNat) (by omega)]at E;rw[<-E,M]at D;simpa using D
   have P:=Q.out d o;have F:=RD (x:=d) (by omega);have T:Qe .xor .u32 (CO d:Int) ((C:Int) / 256)=((CO d ^^^ C / 256:Nat):Int):=by
    have:=Qx (CO d) (C / 256) F (by omega);simpa using this
   rw[M]at r;have K:Hid _:=r;go_wp2;go_round
   case rel=>exact ⟨n+1,by omega,by go_num,by rw[B.out,K.out]⟩
   case measure=>simp [intOf];omega
  ·obtain rfl:n=s.size:=by omega
   have L:s.data.toList.take s.size=s.data.toList:=List.take_of_length_le (by rw[AA];exact Nat.le_refl _);rw[L]at j ⊢;have T:Qe .xor .u32 IntKind.u32.max (FB s.data.toList:Int)=((Ba s.data.toList:Nat):Int):=by
    have e:IntKind.u32.max=4294967295:=by decide
    rw[e];have:=Qx 4294967295 (FB s.data.toList) (by decide) j;unfold Ba;rw[Nat.xor_comm];exact this
   go_wp2;go_ret;exact⟨rfl,l⟩
theorem Ar.form {w:S} {v:Qm} {xs:List Rw} (h:Ar w v xs):∃p c,v=Qh p xs.length c:=by
 rcases h with⟨p,c,rfl,rfl⟩|⟨b,o,d,rfl,_⟩
 ·exact⟨_,_,rfl⟩
 ·exact⟨_,_,rfl⟩
theorem A3.form {w:S} {v:Qm} {zs:List Int} (h:A3 w v zs):∃p c,v=Qh p zs.length c:=by
 rcases h with⟨p,c,rfl,rfl⟩|⟨b,o,d,rfl,_⟩
 ·exact⟨_,_,rfl⟩
 ·exact⟨_,_,rfl⟩
theorem Ss (k n:Int) (j:1<=n):(k.tmod n<0/\k / n=k.tdiv n-1/\k % n=k.tmod n+n)\/(¬k.tmod n<0/\k / n=k.tdiv n/\k % n=k.tmod n):=by
 have f:=Qq k (show n≠0 by omega);have g:=Qr k (show 0<n by omega);have b:=@Int.tdiv_eq_ediv k n;have d:=@Int.tmod_eq_emod k n;have i:n.sign=1:=Int.sign_eq_one_of_pos (by omega);by_cases c:0<=k\/n ∣ k
 ·rw[if_pos c]at b d;exact Or.inr ⟨by omega,by omega,by omega⟩
 ·rw[if_neg c]at b d;exact Or.inl ⟨by omega,by omega,by omega⟩
theorem dQ (k n:Int) (b: -4611686018427387904<=k) (c:k<=4611686018427387904): -4611686018427387904<=k.tdiv n/\k.tdiv n<=4611686018427387904:=by
 have h:(k.tdiv n).natAbs<=k.natAbs:=by rw[Int.natAbs_tdiv];exact Nat.div_le_self _ _
 omega
theorem dR (k n:Int) (b:1<=n): -n<=k.tmod n/\k.tmod n<n:=by
 have h:=Ss k n b;have c:=Qq k (show n≠0 by omega);have d:=Qr k (show 0<n by omega);omega
theorem Su (k n:Int) (w:S) (b:1<=n) (j:n<=1000) (f: -4611686018427387904<=k) (g:k<=4611686018427387904) :
  G Z 211 #[O U k,O U n] w fun e w'=>e=V (Qs #[O U (k / n),O U (k % n)])/\BL w w':=by
 have l:=dQ k n f g;have m:=dR k n b;rcases Ss k n b with⟨i,c,d⟩|⟨i,c,d⟩
 ·rw[c,d]
  go_enter func211,ntmps211
  go_wp2
  go_quiet (fail)
  go_wp2;go_ret2;exact⟨rfl,AH (Qc _ _) nq⟩
 ·rw[c,d]
  go_enter func211,ntmps211
  go_wp2
  go_quiet (fail)
  go_wp2;go_ret2;exact⟨rfl,AH (Qc _ _) nq⟩
def FH (c:UInt8) (n:Int):ByteArray:=⟨#[c]⟩++Ab (Qa n)
theorem IU (n:Int) (w:S) (a:Nat->Qb) (h:BZ w a) (b: -9223372036854775808<=n) (c:n<=9223372036854775807) :
  G Z 86 #[O U n] w fun e w'=>e=V (A (Ab (Qa n)))/\BL w w' :=
 (Ij n w h.tab b c).mono fun e w' ⟨he,k,os,hw⟩=>⟨he,by subst hw;exact GG k os⟩
theorem dS (k n:Int) (w:S) (a:Nat->Qb) (h:Bd w a) (g:1<=n) (i:n<=1000) (p: -1073741824<=k) (q:k<=1073741824) :
  G Z 125 #[O U k,O U n] w fun e w'=>e=V (A (FH 98 (k % n)))/\BL w w':=by
 have j:=Su k n w g i (by omega) (by omega);have s:=Qq k (show n≠0 by omega);have t:=Qr k (show 0<n by omega);generalize k % n=r at *;have c:=fun W (hW:Bd W a)=>IU r W a hW.weak (by omega) (by omega);have l:=E6 r (by omega) (by omega);have o:(Ab (Qa r)).size<=20:=by rw[<-AA];simpa [Ab] using (by omega:(Qa r).length<=20)
 unfold FH
 go_enter func125,ntmps125
 go_wp2_with fail
 refine j.mono ?_;rintro e m ⟨rfl,b⟩;have d:=c m (h.below b)
 go_wp2_with fail
 refine d.mono ?_;rintro e u ⟨rfl,f⟩;go_wp2;go_ret;exact⟨rfl,(Ad b f)⟩
theorem Sv (k n:Int) (g:1<=n) (i: -1073741824<=k) (j:k<=1073741824): -1073741824<=k / n/\k / n<=1073741824:=by
 have e:=Int.mul_ediv_add_emod k n;have d:=Qq k (show n≠0 by omega);have f:=Qr k (show 0<n by omega);generalize k / n=q at *;refine⟨?_,?_⟩
 ·rcases Q5 q (-1073741824) with b | b
  ·exfalso;have c:=Q6 (show 0<=n-1 by omega) (show 0<= -(q+1) by omega);rw[Q7,Q8,Int.mul_neg,Int.mul_add,Int.mul_one]at c;omega
  ·exact b
 ·rcases Q5 1073741824 q with b | b
  ·exfalso;have c:=Q6 (show 0<=n-1 by omega) (show 0<=q by omega);rw[Q7,Q8]at c;omega
  ·exact b
def Ip (q:Int):ByteArray:=if q<0 then FH 110 (-q) else FH 116 q
theorem dT (k n:Int) (w:S) (a:Nat->Qb) (h:Bd w a) (g:1<=n) (r:n<=1000) (s: -1073741824<=k) (u:k<=1073741824) :
  G Z 127 #[O U k,O U n] w fun e w'=>e=V (A (Ip (k / n)))/\BL w w':=by
 have m:=Su k n w g r (by omega) (by omega);have y:=Sv k n g s u;generalize k / n=q at *;by_cases o:q<0
 ·have i:Ip q=FH 110 (-q):=by unfold Ip;rw[if_pos o]
  rw[i];have c:=fun W (hW:Bd W a)=>IU (-q) W a hW.weak (by omega) (by omega);have j:=E6 (-q) (by omega) (by omega);have p:(Ab (Qa (-q))).size<=20:=by rw[<-AA];simpa [Ab] using (by omega:(Qa (-q)).length<=20)
  unfold FH;generalize Ab (Qa (-q))=t at *
  go_enter func127,ntmps127
  go_wp2_with fail
  refine m.mono ?_;rintro e l ⟨rfl,b⟩;have d:=c l (h.below b);have z:¬9223372036854775807<1+t.size:=by omega
  go_wp2_with fail
  refine d.mono ?_;rintro e v ⟨rfl,f⟩;go_wp2;go_ret;exact⟨rfl,(Ad b f)⟩
 ·have i:Ip q=FH 116 q:=by unfold Ip;rw[if_neg o]
  rw[i];have c:=fun W (hW:Bd W a)=>IU q W a hW.weak (by omega) (by omega);have j:=E6 q (by omega) (by omega);have p:(Ab (Qa q)).size<=20:=by rw[<-AA];simpa [Ab] using (by omega:(Qa q).length<=20)
  unfold FH
  go_enter func127,ntmps127
  go_wp2_with fail
  refine m.mono ?_;rintro e l ⟨rfl,b⟩;have d:=c l (h.below b)
  go_wp2_with fail
  refine d.mono ?_;rintro e v ⟨rfl,f⟩;go_wp2;go_ret;exact⟨rfl,(Ad b f)⟩
def nO (l:List UInt8):Nat×Int:=match As l with
 | none=>(1,0)
 | some n=>if n<0\/9<l.length then (1,0) else if n<1\/1000<n then (2,0) else (0,n)
theorem dU (s:ByteArray) (w:S) (a:Nat->Qb) (h:Bd w a) (l:s.size<=Qp) :
  G Z 123 #[A s] w fun e w'=>e=V (Qs #[O U (nO s.data.toList).2,Ae a (nO s.data.toList).1])/\BL w w':=by
 have c:=Lz s w a h.weak l;have m:=AA s;unfold Dd at c;unfold nO
 cases j:As s.data.toList with
 | none =>
  rw[j]at c
  go_enter Qi,Qj
  go_wp2_with fail
  refine c.mono ?_;rintro e f ⟨rfl,b⟩;have g:=(h.below b).text;go_wp2
  go_quiet (fail)
  go_wp2;go_ret2;exact⟨rfl,AH b nq⟩
 | some n =>
  rw[j]at c;dsimp only at c ⊢;by_cases k:n<0
  ·rw[if_pos (Or.inl k)];dsimp only
   go_enter Qi,Qj
   go_wp2_with fail
   refine c.mono ?_;rintro e f ⟨rfl,b⟩;have g:=(h.below b).text;go_wp2
   go_quiet (fail)
   go_wp2;go_ret2;exact⟨rfl,AH b nq⟩
  ·by_cases p:9<s.size
   ·rw[if_pos (Or.inr (by omega))];dsimp only;have o:(9:Int)<(s.size:Int):=by omega
    go_enter Qi,Qj
    go_wp2_with fail
    refine c.mono ?_;rintro e f ⟨rfl,b⟩;have g:=(h.below b).text;go_wp2
    go_quiet (fail)
    go_wp2;go_ret2;exact⟨rfl,AH b nq⟩
   ·have i:¬(n<0\/9<s.data.toList.length):=by omega
    rw[if_neg i];by_cases d:n<1\/1000<n
    ·rw[if_pos d];dsimp only;rcases d with d | d
     ·go_enter Qi,Qj
      go_wp2_with fail
      refine c.mono ?_;rintro e f ⟨rfl,b⟩;have g:=(h.below b).bound;go_wp2
      go_quiet (fail)
      go_wp2;go_ret2;exact⟨rfl,AH b nq⟩
     ·go_enter Qi,Qj
      go_wp2_with fail
      refine c.mono ?_;rintro e f ⟨rfl,b⟩;have g:=(h.below b).bound;go_wp2
      go_quiet (fail)
      go_wp2;go_ret2;exact⟨rfl,AH b nq⟩
    ·rw[if_neg d];dsimp only
     go_enter Qi,Qj
     go_wp2_with fail
     refine c.mono ?_;rintro e f ⟨rfl,b⟩;go_wp2;go_ret2;exact⟨rfl,b⟩
def LW:List UInt8:= [112,97,114,116]
def Kz:List UInt8:= [98,117,99,107,101,116]
def K0:List UInt8:= [116,114,117,110,99]
def Gl (s:List UInt8):List UInt8:=(Qf s [32]).1
def CQ (s:List UInt8):List UInt8:=(Qf s [32]).2.1
def A8 (s:List UInt8):Nat×Nat×Int :=
 if s=LW then (0,0,0)
 else if Gl s=Kz then (if (nO (CQ s)).1=0 then (0,1,(nO (CQ s)).2) else ((nO (CQ s)).1,0,0))
 else if Gl s=K0 then (if (nO (CQ s)).1=0 then (0,2,(nO (CQ s)).2) else ((nO (CQ s)).1,0,0))
 else (1,0,0)
def Dp (k:Nat) (n:Int) (x:Rw):ByteArray:=if k=0 then x.1 else if k=1 then FH 98 (x.2.1 % n) else Ip (x.2.1 / n)
def dV (w:S) (fv:Qm) (p:Rw->ByteArray) (a:Nat->Qb):Prop :=
 ∃g cb,fv= .func (.func g) #[] cb/\(∀args w,(Qt g args).run Z w= .ok (.enter g args) w) /\
  ∀(x:Rw) (W:S),BL w W->Bd W a->Ay x=0->G Z g (#[Qn #[A x.1,O U x.2.1,O U x.2.2]]++cb) W fun e w'=>e=V (A (p x))/\BL W w'
theorem LX {x:Rw} (h:Ay x=0): -1073741824<=x.2.1/\x.2.1<=1073741824:=by
 unfold Ay at h;split at h
 ·split at h
  ·rename_i b;simp only[Bool.and_eq_true,Ao,decide_eq_true_eq]at b;exact b.1
  ·omega
 ·omega
theorem dW (x:Rw) (w:S):G Z 121 #[Qn #[A x.1,O U x.2.1,O U x.2.2]] w fun e w'=>e=V (A x.1)/\BL w w':=by
 obtain⟨c,d,f⟩:=x;have b:BL w (w.alloc (I #[A c,O U d,O U f] 62)):=Af _ _
 go_enter func121,ntmps121
 go_wp2;go_ret;exact⟨rfl,b⟩
theorem dX (x:Rw) (n:Int) (g:Qb) (w:S) (a:Nat->Qb) (h:Bd w a) (o:w.cell? g=J (O U n)) (p:Ay x=0) (i:1<=n) (j:n<=1000) :
  G Z 124 #[Qn #[A x.1,O U x.2.1,O U x.2.2],Qo (J g)] w fun e w'=>e=V (A (FH 98 (x.2.1 % n)))/\BL w w':=by
 have c:=LX p;obtain⟨l,d,m⟩:=x;have b:BL w (w.alloc (I #[A l,O U d,O U m] 62)):=Af _ _;have k:=fun W (hW:BL w W)=>dS d n W a (h.below hW) i j c.1 c.2;have q:=Aa b o
 go_enter func124,ntmps124
 go_wp2_with fail
 refine(k _ b).mono ?_;rintro e r ⟨rfl,f⟩;go_wp2;go_ret;exact⟨rfl,(Ad b f)⟩
theorem dY (x:Rw) (n:Int) (g:Qb) (w:S) (a:Nat->Qb) (h:Bd w a) (o:w.cell? g=J (O U n)) (p:Ay x=0) (i:1<=n) (j:n<=1000) :
  G Z 126 #[Qn #[A x.1,O U x.2.1,O U x.2.2],Qo (J g)] w fun e w'=>e=V (A (Ip (x.2.1 / n)))/\BL w w':=by
 have c:=LX p;obtain⟨l,d,m⟩:=x;have b:BL w (w.alloc (I #[A l,O U d,O U m] 62)):=Af _ _;have k:=fun W (hW:BL w W)=>dT d n W a (h.below hW) i j c.1 c.2;have q:=Aa b o
 go_enter func126,ntmps126
 go_wp2_with fail
 refine(k _ b).mono ?_;rintro e r ⟨rfl,f⟩;go_wp2;go_ret;exact⟨rfl,(Ad b f)⟩
theorem CG {s:ByteArray} {l:List UInt8} (h:s.data.toList=l):(s.toList == l)=true:=by
 rw[ByteArray.toList_eq];simpa using h
theorem BH {s:ByteArray} {l:List UInt8} (h:s.data.toList≠l):(s.toList == l)=false:=by
 rw[ByteArray.toList_eq];simpa using h
theorem LY (s:ByteArray) (w:S) (a:Nat->Qb) (h:Bd w a) (hs:s.size<=1000) :
  G Z 63 #[A s] w fun e w'=> ∃fv,e=V (Qs #[fv,Ae a (A8 s.data.toList).1])/\((A8 s.data.toList).1=0->dV w' fv (Dp (A8 s.data.toList).2.1 (A8 s.data.toList).2.2) a)/\BL w w':=by
 by_cases u:s.data.toList=LW
 ·have L:A8 s.data.toList=(0,0,0):=by unfold A8;rw[if_pos u]
  rw[L];dsimp only;have y:=CG u;unfold LW at y;have M:∀args w,(Qt 121 args).run Z w= .ok (.enter 121 args) w:=enters_of func121 (by kernel_rfl) rfl;clear L u hs
  go_enter Qk,Ql
  go_wp2;go_ret2;refine⟨_,rfl,fun _=>⟨_,_,rfl,M,fun x W _ _ _=>?_⟩,Qc _ _⟩;exact(dW x W).mono fun e w' ⟨l,o⟩=>⟨by rw[l];simp[Dp],o⟩
 ·have y:=BH u;unfold LW at y;obtain⟨m,hm⟩:=h.maxl;have hcut:=strings_Cut s ⟨#[32]⟩ m w (by omega) hm;have N:(Gl s.data.toList).length<=s.size:=by
   rw[<-AA];unfold Gl Qf;split
   ·simp;omega
   ·exact Nat.le_refl _
  have P:(CQ s.data.toList).length<=s.size:=by
   rw[<-AA];unfold CQ Qf;split
   ·simp
   ·simp
  have Q:(⟨(Qf s.data.toList [32]).1.toArray⟩:ByteArray)=Ab (Gl s.data.toList):=rfl;have T:(⟨(Qf s.data.toList [32]).2.1.toArray⟩:ByteArray)=Ab (CQ s.data.toList):=rfl;dsimp only at hcut;rw[Q,T]at hcut;clear Q T;generalize (Qf s.data.toList [32]).2.2=ad at hcut;have b:=fun W (hW:Bd W a)=>dU (Ab (CQ s.data.toList)) W a hW (by rw[<-AA];simp[Ab];unfold Qp;omega);have X:(Ab (CQ s.data.toList)).data.toList=CQ s.data.toList:=by simp[Ab]
  rw[X]at b;have i:(Ab (Gl s.data.toList)).data.toList=Gl s.data.toList:=by simp[Ab]
  have d:(nO (CQ s.data.toList)).1=0->1<=(nO (CQ s.data.toList)).2/\(nO (CQ s.data.toList)).2<=1000:=by
   unfold nO;split
   ·intro h;cases h
   ·split
    ·intro h;cases h
    ·split
     ·intro h;cases h
     ·intro _;dsimp only;omega
  have F:A8 s.data.toList=if Gl s.data.toList=Kz then (if (nO (CQ s.data.toList)).1=0 then (0,1,(nO (CQ s.data.toList)).2) else ((nO (CQ s.data.toList)).1,0,0))
   else if Gl s.data.toList=K0 then (if (nO (CQ s.data.toList)).1=0 then (0,2,(nO (CQ s.data.toList)).2) else ((nO (CQ s.data.toList)).1,0,0)) else (1,0,0):=by
   unfold A8;rw[if_neg u]
  rw[F];clear F N P X u;generalize ac:Ab (Gl s.data.toList)=kB at hcut i;generalize Ab (CQ s.data.toList)=wB at hcut b;generalize Gl s.data.toList=kL at i ⊢;generalize nO (CQ s.data.toList)=R at b d ⊢;obtain⟨v,n⟩:=R;dsimp only at b d ⊢;clear ac;have Y:∀args w,(Qt 124 args).run Z w= .ok (.enter 124 args) w:=enters_of func124 (by kernel_rfl) rfl;have aa:∀args w,(Qt 126 args).run Z w= .ok (.enter 126 args) w:=enters_of func126 (by kernel_rfl) rfl;by_cases o:kL=Kz
  ·rw[if_pos o];have z:=CG (i.trans o);unfold Kz at z;clear i;by_cases l:v=0
   ·subst l;rw[if_pos rfl];have B:=d rfl;clear d o;simp only[Ae]at b ⊢
    go_enter Qk,Ql
    go_wp2_with fail
    refine hcut.mono ?_;rintro e E ⟨rfl,q,rfl⟩;have c:BL w (w.drewN q):=AH (Qc _ _) q;have g:=b _ (h.below c);clear hcut b
    go_wp2_with fail
    refine g.mono ?_;rintro e k ⟨rfl,r⟩;clear g;have f:BL w k:=Ad c r;have p:BL w (k.alloc (I #[O U n] 3)):=f.alloc f.size _;go_wp2;go_ret2;refine⟨_,rfl,fun _=>⟨_,_,rfl,Y,fun x W hW hWE hx=>?_⟩,p⟩;have t:W.cell? ⟨k.heap.size,0,H⟩=J (O U n):=Aa hW (by simp);exact(dX x n ⟨k.heap.size,0,H⟩ W a hWE t hx B.1 B.2).mono fun e w' ⟨l,o⟩=>⟨by rw[l];simp[Dp],o⟩
   ·obtain⟨j,rfl⟩:∃j,v=j+1:=⟨v-1,by omega⟩;rw[if_neg l];clear d l;dsimp only;simp only[Ae]at b ⊢
    go_enter Qk,Ql
    go_wp2_with fail
    refine hcut.mono ?_;rintro e E ⟨rfl,q,rfl⟩;have c:BL w (w.drewN q):=AH (Qc _ _) q;have g:=b _ (h.below c);clear hcut b
    go_wp2_with fail
    refine g.mono ?_;rintro e k ⟨rfl,r⟩;clear g;have f:BL w k:=Ad c r;have p:BL w (k.alloc (I #[O U n] 3)):=f.alloc f.size _;go_wp2;go_ret2;exact⟨_,rfl,fun h=>(by cases h),p⟩
  ·rw[if_neg o];have z:=BH (fun e=>o (i.symm.trans e));unfold Kz at z;by_cases D:kL=K0
   ·rw[if_pos D];have C:=CG (i.trans D);unfold K0 at C;clear i;by_cases l:v=0
    ·subst l;rw[if_pos rfl];have B:=d rfl;clear d;simp only[Ae]at b ⊢
     go_enter Qk,Ql
     go_wp2_with fail
     refine hcut.mono ?_;rintro e E ⟨rfl,q,rfl⟩;have c:BL w (w.drewN q):=AH (Qc _ _) q;have g:=b _ (h.below c);clear hcut b
     go_wp2_with fail
     refine g.mono ?_;rintro e k ⟨rfl,r⟩;clear g;have f:BL w k:=Ad c r;have p:BL w (k.alloc (I #[O U n] 3)):=f.alloc f.size _;go_wp2;go_ret2;refine⟨_,rfl,fun _=>⟨_,_,rfl,aa,fun x W hW hWE hx=>?_⟩,p⟩;have t:W.cell? ⟨k.heap.size,0,H⟩=J (O U n):=Aa hW (by simp);exact(dY x n ⟨k.heap.size,0,H⟩ W a hWE t hx B.1 B.2).mono fun e w' ⟨l,o⟩=>⟨by rw[l];simp[Dp],o⟩
    ·obtain⟨j,rfl⟩:∃j,v=j+1:=⟨v-1,by omega⟩;rw[if_neg l];clear d l;dsimp only;simp only[Ae]at b ⊢
     go_enter Qk,Ql
     go_wp2_with fail
     refine hcut.mono ?_;rintro e E ⟨rfl,q,rfl⟩;have c:BL w (w.drewN q):=AH (Qc _ _) q;have g:=b _ (h.below c)
     go_wp2_with fail
     refine g.mono ?_;rintro e k ⟨rfl,r⟩;have f:=Ad c r;have p:BL w (k.alloc (I #[O U n] 3)):=f.alloc f.size _;go_wp2;go_ret2;exact⟨_,rfl,fun h=>(by cases h),p⟩
   ·rw[if_neg D];have C:=BH (fun e=>D (i.symm.trans e));unfold K0 at C;clear i d b;have K:=fun W (hW:BL w W)=>(h.below hW).text;dsimp only
    go_enter Qk,Ql
    go_wp2_with fail
    refine hcut.mono ?_;rintro e E ⟨rfl,q,rfl⟩;have c:BL w (w.drewN q):=AH (Qc _ _) q;have ab:=K _ c;clear hcut K;generalize w.drewN q=wq at c ab ⊢;go_wp2
    go_quiet (fail)
    go_wp2;go_ret2;exact⟨_,rfl,fun h=>(by cases h),AH c nq⟩
theorem dZ (w:S) (T:TypeId) (c:Nat) (f:c<=24):Holds (fun (b:UInt8)=>O .u8 (b.toNat:Int)) (w.alloc (I Qg T)) w.heap.size 0 (Qw c (0:UInt8)):=fun j hj=>by
 have d:j<c:=by simpa using hj
 refine⟨?_,World.frozen?_alloc_new _ _ _ _⟩;rw[World.cell?_alloc_new,Lib.zeros24_at _ (by omega),getElem!_pos _ j hj];simp
theorem eC (w:S) (o:Obj) (d:Array UInt8) (k:Nat):∃os,(putRow (fun (b:UInt8)=>O .u8 (b.toNat:Int)) (w.alloc o) w.heap.size 0 d).drewN k=grow (w.drewN k) os:=by
 rw[alloc_eq_grow];obtain⟨c,_,e⟩:=putRow_grow_new (fun (b:UInt8)=>O .u8 (b.toNat:Int)) w #[o] w.heap.size 0 d (Nat.le_refl _);exact⟨c,by rw[e];rfl⟩
theorem eE (i:Nat) (hi:i<100) (w:S):G Z 316 #[O U i] w fun e w'=>e=V (A ⟨(Qy i).toArray⟩)/\w'=w :=
 Any.internal_strconv_small { laysM171 with } i hi w
theorem eF (u : Nat) (c : 1 ≤ u) (d : u < 18446744073709551616) (w : S) (b : Q9 Z w "internal/strconv.uint64pow10" .u64 QA) :
  G Z 317 #[.int .u64 u] w fun e w'=>e=V (O U (Qd u))/\w'=w :=
 Any.internal_strconv_numDigits { laysM171 with } u c d w b
theorem eG (c f g:Nat) (u:Nat) (d:Array UInt8) (w:S) (k:Holds (fun (b:UInt8)=>O .u8 (b.toNat:Int)) w c f d) (l:u<10 ^ d.size) (i:u<18446744073709551616) (m:d.size<4611686018427387904) :
  G Z 318 #[Qh (J ⟨c,f,H⟩) d.size g,.int .u64 u] w fun e w' =>
   e=V (Qs #[])/\∃(n v':Nat) (j:Array UInt8),w'=(putRow (fun (b:UInt8)=>O .u8 (b.toNat:Int)) w c f j).drewN n/\FmtInv d.size u 0 v' j :=
 Any.internal_strconv_formatBase10 { laysM171 with } c f g u d w k l i (by omega)
theorem eH (u : Nat) (c : u < 18446744073709551616) (w : S) (m : Q9 Z w "internal/strconv.uint64pow10" .u64 QA) :
  G Z 332 #[.int .u64 u,O U 10] w fun e w'=>e=V (A ⟨(Qa u).toArray⟩)/\∃k os,w'=grow (w.drewN k) os:=by
 by_cases s:u<100
 ·have n:=eE u s w;have z:(u:Int)<100:=by omega
  go_enter func332,ntmps332
  go_wp2_with fail
  refine n.mono ?_;rintro e w' ⟨rfl,rfl⟩;go_wp2;go_ret;refine⟨?_,0,#[],by simp[World.drewN_zero]⟩;rw[QB];rfl
 ·have g:1<=u:=by omega
  have r:Qd u<=20:=by have:=Lib.numDigits_eq u g c;split at this<;>omega
  have o:Tryz.prog.arrayLen 344=24:=by simp[Program.arrayLen,QC]
  have t:∀W,(Instr.sliceAt 344 (Qo (J ⟨w.heap.size,0,H⟩)) H (J (O U (Qd u:Int))) H).run Z W= .ok (Qh (J ⟨w.heap.size,0,H⟩) (Qd u) 24) W:=fun W=>by
   rw[run_sliceAt_array_h W 344 ⟨w.heap.size,0,H⟩ (by simp[Program.arrayLen,Program.elem,QC]) U (Qd u:Int) (by omega) (by rw[o];omega)]
   go_simp
  have i:=dZ w 344 (Qd u) (by omega);have d:=eG w.heap.size 0 24 u (Qw (Qd u) 0) (w.alloc (I Qg 344)) i (by rw[Qu];exact Lib.lt_pow_nDigits u) c (by rw[Qu];omega);rw[Qu]at d;have p:=eF u g c _ (Lib.tabIs_alloc m (I Qg 344));have q:=Lib.hid i
  go_enter func332,ntmps332
  go_wp2_with fail
  refine p.mono ?_;rintro e w' ⟨rfl,rfl⟩
  go_wp2_with fail
  refine d.mono ?_;rintro e w' ⟨rfl,k,B,f,rfl,l⟩;have y:(convert 258 9 (Qh (J ⟨w.heap.size,0,H⟩) (Qd u) 24)).run Z ((putRow (fun (b:UInt8)=>O .u8 (b.toNat:Int)) (w.alloc (I Qg 344)) w.heap.size 0 f).drewN k)= .ok (A ⟨(Qy u).toArray⟩) ((putRow (fun (b:UInt8)=>O .u8 (b.toNat:Int)) (w.alloc (I Qg 344)) w.heap.size 0 f).drewN k):=by
   have h:=run_convert_bytes_back (P:=Z) ((putRow (fun (b:UInt8)=>O .u8 (b.toNat:Int)) (w.alloc (I Qg 344)) w.heap.size 0 f).drewN k) 258 9 5 ⟨w.heap.size,0,H⟩ 24 (Qy u) underlying258 underlying5 underlying9 (fun j hj=>by
    rw[Lib.row_is_numeral l j hj,Lib.add_plain,World.cell?_drewN];exact cell?_putRow (fun (b:UInt8)=>O .u8 (b.toNat:Int)) _ w.heap.size 0 _ f q.out (by rw[l.size,Qu]) j (by rw[l.size];rw[QD]at hj;exact hj))
   rw[QD]at h;exact h
  go_wp2;go_ret;obtain⟨os,v⟩:=eC w (I Qg 344) f k;refine⟨?_,k,os,v⟩;rw[QB];rfl
theorem Sw (u:Nat) (b:u<18446744073709551616) (w:S) (a:Nat->Qb) (h:BZ w a) :
  G Z 290 #[.int .u64 u,O U 10] w fun e w'=>e=V (A (Ab (Qa u)))/\BL w w':=by
 have c:=eH u b w h.tab
 go_enter func290,ntmps290
 go_wp2_with fail
 refine c.mono ?_;rintro e w' ⟨rfl,k,d,rfl⟩;go_wp2;go_ret;exact⟨rfl,GG k d⟩
end Go.Proofs.YtcllhobffhkafaaGreatDoor
