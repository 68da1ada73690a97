/- By an AI agent. -/
import Derived.Test.YtdhkdjlgmbejnaaGreatDoorRefRow
namespace Go.Proofs.YtdhkdjlgmbejnaaGreatDoor
open Go.RowKit Go.Extern.Stop Go.Stop Go.Extern Go.Sort Go.Shelf Go.Lib
theorem cells_three (wr:World) (xp:ByteArray) (xk xv:Int) (j:Nat) (u:Value) (hj:(encR (xp,xk,xv))[j]? =some u):(wr.alloc (.cells #[.string xp,.int .i64 xk,.int .i64 xv] 54)).cell? ⟨wr.heap.size,j,none⟩=some u:=by
 match j,hj with
 | 0,hj=>simp [encR]at hj;subst hj;simp
 | 1,hj=>simp [encR]at hj;subst hj;simp
 | 2,hj=>simp [encR]at hj;subst hj;simp
 | j+3,hj=>simp [encR]at hj
theorem bytesLess_cb:∀a b:List UInt8,Op.bytesLess a b=decide (Lib.compareBytes a b<0)
 | [], []=>by simp[Op.bytesLess,Lib.compareBytes]
 | [],_ :: _=>by simp[Op.bytesLess,Lib.compareBytes]
 | _ :: _, []=>by simp[Op.bytesLess,Lib.compareBytes]
 | a :: us,b :: vs=>by
   have ih:=bytesLess_cb us vs
   unfold Op.bytesLess Lib.compareBytes
   by_cases h1:a<b
   · simp[h1]
   · by_cases h2:b<a
     · have h3:¬a=b:=fun e=>by subst e;exact UInt8.lt_irrefl _ h2
       simp[h1,h2,h3]
     · have h3:a=b:=by
         rw[UInt8.lt_iff_toNat_lt]at h1 h2
         exact UInt8.toNat_inj.1 (by omega)
       subst h3
       simp[ih]
set_option maxHeartbeats 1000000 in
theorem isLess_any (x y:Rw) (w:World) :
   Calls Tryz.prog 105 #[.agg #[.string x.1,.int .i64 x.2.1,.int .i64 x.2.2],.agg #[.string y.1,.int .i64 y.2.1,.int .i64 y.2.2]] w fun e w'=>e= .returned (.bool (ltOf cfR x y))∧Below w.heap.size w w':=by
 obtain⟨xp,xk,xv⟩:=x
 obtain⟨yp,yk,yv⟩:=y
 dsimp only
 have hb0:Below w.heap.size w ((w.alloc (.cells #[.string xp,.int .i64 xk,.int .i64 xv] 54)).alloc (.cells #[.string yp,.int .i64 yk,.int .i64 yv] 54)):=((Below.refl _ _).alloc (Nat.le_refl _) _).alloc (by simp) _
 by_cases hp:xp=yp
 · subst hp
   have hc0:Lib.compareBytes xp.data.toList xp.data.toList=0:=cb_self _
   by_cases hk:xk=yk
   · subst hk
     have hr:ltOf cfR (xp,xk,xv) (xp,xk,yv)=decide (xv<yv):=by
       have hci:Lib.compareInt xk xk=0:=by rcases ci_cases xk xk with⟨h,_⟩|⟨_,h⟩|⟨h,_⟩<;>omega
       unfold ltOf cfR orOf
       dsimp only
       rw[if_pos hc0,if_pos hci]
       rcases ci_cases xv yv with⟨h,e⟩|⟨h,e⟩|⟨h,e⟩<;>rw [e]<;>simp<;>omega
     rw[hr]
     clear hr hc0
     go_enter Tryz.func105,Tryz.ntmps105
     go_wp2
     go_ret
     exact⟨rfl,hb0⟩
   · have hr:ltOf cfR (xp,xk,xv) (xp,yk,yv)=decide (xk<yk):=by
       unfold ltOf cfR orOf
       dsimp only
       rw[if_pos hc0]
       rcases ci_cases xk yk with⟨h,e⟩|⟨h,e⟩|⟨h,e⟩
       · rw[e];simp;omega
       · exact absurd h hk
       · rw[e];simp;omega
     rw[hr]
     have hk':(xk == yk)=false:=by simpa using hk
     clear hr hc0 hk
     go_enter Tryz.func105,Tryz.ntmps105
     go_wp2
     go_ret
     exact⟨rfl,hb0⟩
 · have hne:¬Lib.compareBytes xp.data.toList yp.data.toList=0:=fun e=>hp (part_ext (cb_eq _ _ e))
   have hr:ltOf cfR (xp,xk,xv) (yp,yk,yv)=decide (Lib.compareBytes xp.data.toList yp.data.toList<0):=by
     unfold ltOf cfR orOf
     dsimp only
     rw[if_neg hne]
   rw[hr]
   have hp':(xp.toList == yp.toList)=false:=by
     rw[ByteArray.toList_eq,ByteArray.toList_eq]
     simpa using fun e=>hp (part_ext e)
   have hl:Op.bytesLess xp.toList yp.toList=decide (Lib.compareBytes xp.data.toList yp.data.toList<0):=by
     rw[ByteArray.toList_eq,ByteArray.toList_eq];exact bytesLess_cb _ _
   have HLS:Hid (Op.bytesLess xp.toList yp.toList=decide (Lib.compareBytes xp.data.toList yp.data.toList<0)):=hl
   clear hl
   clear hr hne hp
   go_enter Tryz.func105,Tryz.ntmps105
   go_wp2
   go_ret
   exact⟨congrArg (fun b=>Ending.returned (Value.bool b)) HLS.out,hb0⟩
def Grew (w w':World):Prop:= ∃q os,w'=grow (w.drewN q) os
theorem Grew.alloc (w:World) (o:Obj):Grew w (w.alloc o):=⟨0,#[o],by rw[alloc_eq_grow];rfl⟩
theorem Grew.trans {a b c:World} (h:Grew a b) (k:Grew b c):Grew a c:=by
 obtain⟨q,os,rfl⟩:=h
 obtain⟨q',os',rfl⟩:=k
 refine⟨q+q',os++os',?_⟩
 show grow (grow ((a.drewN q).drewN q') os) os'=_
 rw[grow_grow,World.drewN_drewN]
theorem Grew.below {w w':World} (h:Grew w w'):Below w.heap.size w w':=by
 obtain⟨q,os,rfl⟩:=h
 exact grow_below q os
set_option maxRecDepth 100000 in
set_option maxHeartbeats 1000000 in
theorem byte_any (n:Int) (w:World) (h0:0≤n) (h1:n≤255) :
   Calls Tryz.prog 178 #[.int .i64 n] w fun e w'=>e= .returned (.string ⟨#[UInt8.ofNat n.toNat]⟩)∧Grew w w':=by
 have hcv:∀dst,Tryz.prog.underlying dst=some .string→(convert 176 dst (.slice (some ⟨w.heap.size,0,none⟩) 1 1)).run Tryz.prog (w.alloc (.cells #[.int .u8 n] 5))= .ok (.string (strOfNums [n])) (w.alloc (.cells #[.int .u8 n] 5)) :=
   run_convert_bytes_arg (P:=Tryz.prog) (w.alloc (.cells #[.int .u8 n] 5)) 176 5 Tryz.underlying176 Tryz.underlying5 w.heap.size 0 1 1 [n] rfl (fun i hi=>by
     obtain rfl:i=0:=by omega
     simp)
 have hcv9:=hcv 9 Tryz.underlying9
 have hst:strOfNums [n]=⟨#[UInt8.ofNat n.toNat]⟩:=rfl
 rw[hst]at hcv9
 clear hcv hst
 go_enter Tryz.func178,Tryz.ntmps178
 go_wp2
 go_ret
 exact⟨rfl,Grew.alloc _ _⟩
theorem digits_small {u:Nat} (h:u<10):decDigits u= [UInt8.ofNat (48+u)]:=by rw[decDigits,dif_pos h]
theorem digits_great {u:Nat} (h:¬u<10):decDigits u=decDigits (u / 10)++ [UInt8.ofNat (48+u % 10)]:=by rw[decDigits,dif_neg h]
theorem bytesOf_append (a b:List UInt8):bytesOf a++bytesOf b=bytesOf (a++b):=by
 apply part_ext
 simp[bytesOf,ByteArray.data_append]
theorem bytesOf_size (l:List UInt8):(bytesOf l).size=l.length:=by simp[bytesOf,ByteArray.size]
theorem tdiv_ten (n:Int) (h:n≤0):n.tdiv 10= -((n.natAbs / 10:Nat):Int):=by
 obtain⟨m,rfl⟩:∃m:Nat,n= -(m:Int):=⟨n.natAbs,by omega⟩
 rw[Int.neg_tdiv,Int.natAbs_neg,Int.natAbs_natCast]
 rfl
theorem tmod_ten (n:Int) (h:n≤0):n.tmod 10= -((n.natAbs % 10:Nat):Int):=by
 obtain⟨m,rfl⟩:∃m:Nat,n= -(m:Int):=⟨n.natAbs,by omega⟩
 rw[Int.neg_tmod,Int.natAbs_neg,Int.natAbs_natCast]
 rfl
set_option maxRecDepth 100000 in
set_option maxHeartbeats 1000000 in
theorem below_any:∀(m:Nat) (n:Int) (w:World),n.natAbs<m→n≤0→ -9223372036854775808≤n →
   Calls Tryz.prog 133 #[.int .i64 n] w fun e w'=>e= .returned (.string (bytesOf (decDigits n.natAbs)))∧Grew w w':=by
 intro m
 induction m with
 | zero=>intro n w h _ _;omega
 | succ m ih =>
   intro n w hm h0 h1
   by_cases hs: -10<n
   · rw[digits_small (by omega)]
     have hb:=byte_any (48-n) w (by omega) (by omega)
     have e:(48-n).toNat=48+n.natAbs:=by omega
     rw[e]at hb
     have hE:bytesOf [UInt8.ofNat (48+n.natAbs)]=⟨#[UInt8.ofNat (48+n.natAbs)]⟩:=rfl
     rw[hE]
     clear ih e hE
     generalize (⟨#[UInt8.ofNat (48+n.natAbs)]⟩:ByteArray)=E at hb ⊢
     go_enter Tryz.func133,Tryz.ntmps133
     go_wp2_with (go_at_call 178;refine hb.mono ?_;rintro e w1 ⟨rfl,hg⟩)
     go_ret
     exact⟨rfl,hg⟩
   · have hq:=tdiv_ten n h0
     have hr:=tmod_ten n h0
     have hrec:=ih (-((n.natAbs / 10:Nat):Int)) w (by omega) (by omega) (by omega)
     have hab:(-((n.natAbs / 10:Nat):Int)).natAbs=n.natAbs / 10:=by omega
     rw[hab]at hrec
     have hby:=fun W=>byte_any (48 - -((n.natAbs % 10:Nat):Int)) W (by omega) (by omega)
     have e:(48 - -((n.natAbs % 10:Nat):Int)).toNat=48+n.natAbs % 10:=by omega
     rw[e]at hby
     rw[digits_great (by omega),←bytesOf_append]
     have hlen:(bytesOf (decDigits (n.natAbs / 10))).size≤20:=by
       rw[bytesOf_size]
       exact digits_len 19 _ (by omega)
     have hbq: -9223372036854775808≤ -((n.natAbs / 10:Nat):Int):=by omega
     have hbq': -((n.natAbs / 10:Nat):Int)≤0:=by omega
     have hbr: -9≤ -((n.natAbs % 10:Nat):Int):=by omega
     have hbr': -((n.natAbs % 10:Nat):Int)≤0:=by omega
     rw[←hq]at hrec hbq hbq'
     rw[←hr]at hby hbr hbr'
     clear hab e hq hr ih
     have hD1:bytesOf [UInt8.ofNat (48+n.natAbs % 10)]=⟨#[UInt8.ofNat (48+n.natAbs % 10)]⟩:=rfl
     rw[hD1]
     clear hD1
     have hsE:(⟨#[UInt8.ofNat (48+n.natAbs % 10)]⟩:ByteArray).size=1:=rfl
     generalize hE:(⟨#[UInt8.ofNat (48+n.natAbs % 10)]⟩:ByteArray)=E at hby hsE ⊢
     generalize hD:bytesOf (decDigits (n.natAbs / 10))=D at hrec hlen ⊢
     clear hE hD
     have nn:¬9223372036854775807<D.size+E.size:=by omega
     have hwq:IntKind.i64.wrap (n.tdiv 10)=n.tdiv 10:=IntWalk.i64_in _ (by omega)
     have hwr:IntKind.i64.wrap (n.tmod 10)=n.tmod 10:=IntWalk.i64_in _ (by omega)
     have hws:IntKind.i64.wrap (48-n.tmod 10)=48-n.tmod 10:=IntWalk.i64_in _ (by omega)
     generalize hq:n.tdiv 10=q at *
     generalize hr:n.tmod 10=r at *
     go_enter Tryz.func133,Tryz.ntmps133
     go_wp2_with (go_at_call 133;refine hrec.mono ?_;rintro e w1 ⟨rfl,hg⟩)
     refine(hby w1).mono ?_
     rintro e w2 ⟨rfl,hg2⟩
     go_wp2
     go_ret
     exact⟨rfl,hg.trans hg2⟩
set_option maxRecDepth 100000 in
set_option maxHeartbeats 1000000 in
theorem decimal_any (n:Int) (w:World) (h0: -9223372036854775808≤n) (h1:n≤9223372036854775807) :
   Calls Tryz.prog 81 #[.int .i64 n] w fun e w'=>e= .returned (.string (bytesOf (itoa n)))∧Grew w w':=by
 unfold itoa
 by_cases hs:n<0
 · rw[if_pos hs]
   have hb:=below_any (n.natAbs+1) n w (by omega) (by omega) (by omega)
   have hE:bytesOf (45 :: decDigits n.natAbs)=⟨#[45]⟩++bytesOf (decDigits n.natAbs):=by
     have:=bytesOf_append [45] (decDigits n.natAbs)
     exact this.symm
   rw[hE]
   have hlen:(bytesOf (decDigits n.natAbs)).size≤20:=by
     rw[bytesOf_size]
     exact digits_len 19 _ (by omega)
   clear hE
   generalize bytesOf (decDigits n.natAbs)=D at hb hlen ⊢
   have nn:¬9223372036854775807<1+D.size:=by omega
   have nn2:¬9223372036854775806<D.size:=by omega
   go_enter Tryz.func81,Tryz.ntmps81
   go_wp2_with (go_at_call 133;refine hb.mono ?_;rintro e w1 ⟨rfl,hg⟩)
   go_ret
   exact⟨rfl,hg⟩
 · rw[if_neg hs]
   have hb:=below_any (n.natAbs+1) (-n) w (by omega) (by omega) (by omega)
   have e:(-n).natAbs=n.toNat:=by omega
   rw[e]at hb
   clear e
   generalize bytesOf (decDigits n.toNat)=D at hb ⊢
   have hw:IntKind.i64.wrap (-n)= -n:=IntWalk.i64_in _ (by omega)
   go_enter Tryz.func81,Tryz.ntmps81
   go_wp2_with (go_at_call 133;refine hb.mono ?_;rintro e w1 ⟨rfl,hg⟩)
   go_ret
   exact⟨rfl,hg⟩
set_option maxHeartbeats 1000000 in
theorem rowText_any (x:Rw) (w:World) (hs:x.1.size≤maxLen) :
   Calls Tryz.prog 76 #[.agg #[.string x.1,.int .i64 x.2.1,.int .i64 x.2.2]] w fun e w'=>e= .returned (.string (textB x))∧Below w.heap.size w w':=by
 have hb:Below w.heap.size w (w.alloc (.cells #[.string x.1,.int .i64 x.2.1,.int .i64 x.2.2] 54)):=(Below.refl _ _).alloc (Nat.le_refl _) _
 have hc:=rowError_any x (w.alloc (.cells #[.string x.1,.int .i64 x.2.1,.int .i64 x.2.2] 54)) hs
 unfold textB
 by_cases he:rowE x=0
 · rw [if_pos he]
   rw[he]at hc
   have hbd:inNum x.2.1=true∧inNum x.2.2=true:=by
     unfold rowE at he
     split at he
     · split at he
       · rename_i h';simpa using h'
       · omega
     · omega
   obtain⟨p,k,v⟩:=x
   dsimp only at *
   have hp8:p.size≤8:=by
     unfold rowE at he
     split at he
     · rename_i h'
       simp only[nameB,Bool.and_eq_true,decide_eq_true_eq]at h'
       rw[size_list]at h'
       exact h'.1.2
     · omega
   clear he hs
   have sk:(bytesOf (itoa k)).size≤11:=by
     have:=hbd.1
     simp only[inNum,Bool.and_eq_true,decide_eq_true_eq]at this
     simpa [bytesOf,ByteArray.size] using itoa_len k this.1 this.2
   have sv:(bytesOf (itoa v)).size≤11:=by
     have:=hbd.2
     simp only[inNum,Bool.and_eq_true,decide_eq_true_eq]at this
     simpa [bytesOf,ByteArray.size] using itoa_len v this.1 this.2
   unfold sp
   have hk1:inNum k=true:=hbd.1
   have hv1:inNum v=true:=hbd.2
   have hm:Tryz.prog.follows .mixedOrders=true:=by kernel_rfl
   clear hbd
   go_enter Tryz.func76,Tryz.ntmps76
   go_wp2_with (go_at_call 75;refine hc.mono ?_;rintro e w1 ⟨rfl,hb1⟩)
   have c0:w1.cell? ⟨w.heap.size,0,none⟩=some (.string p):=below_keep hb1 (by simp)
   have c1:w1.cell? ⟨w.heap.size,1,none⟩=some (.int .i64 k):=below_keep hb1 (by simp)
   have c2:w1.cell? ⟨w.heap.size,2,none⟩=some (.int .i64 v):=below_keep hb1 (by simp)
   have d0:=fun n os=>cell_grown (cell_lt c0) c0 n os
   have d1:=fun n os=>cell_grown (cell_lt c1) c1 n os
   have d2:=fun n os=>cell_grown (cell_lt c2) c2 n os
   have hB:Below w.heap.size w w1:=hb.trans (hb1.mono hb.size)
   have hI:∀m:Int,inNum m=true→∀n os,Calls Tryz.prog 81 #[.int .i64 m] (grow (w1.drewN n) os) fun e w'=>e= .returned (.string (bytesOf (itoa m)))∧∃q os',w'=grow ((grow (w1.drewN n) os).drewN q) os':=fun m hm n os=>by
     simp only[inNum,Bool.and_eq_true,decide_eq_true_eq]at hm
     exact decimal_any m _ (by omega) (by omega)
   clear c0 c1 c2 hc
   have n1:¬9223372036854775807<p.size+1:=by omega
   have n2:¬9223372036854775807<p.size+1+(bytesOf (itoa k)).size:=by omega
   have n3:¬9223372036854775807<p.size+1+(bytesOf (itoa k)).size+1:=by omega
   have n4:¬9223372036854775807<p.size+1+(bytesOf (itoa k)).size+1+(bytesOf (itoa v)).size:=by omega
   have m1:¬9223372036854775806<p.size:=by omega
   have m3:¬9223372036854775806<p.size+1+(bytesOf (itoa k)).size:=by omega
   go_quiet_grown ((go_at_call 81;exact Calls.grown_of (hI _ (by assumption) _ _)))
   go_wp2
   go_ret
   exact⟨rfl,hB.trans ((grow_below nq osq).mono hB.size)⟩
 · rw[if_neg he]
   obtain⟨p,k,v⟩:=x
   dsimp only at *
   generalize rowE (p,k,v)=E at he hc
   have hE:(0:Int)<(E:Int):=by omega
   clear he hs
   go_enter Tryz.func76,Tryz.ntmps76
   go_wp2_with (go_at_call 75;refine hc.mono ?_;rintro e w1 ⟨rfl,hb1⟩)
   go_ret
   exact⟨rfl,hb.trans (hb1.mono hb.size)⟩
theorem numR_bad {s:List UInt8} (h:numP s=none):numR s=(.int .i64 0,false):=by
 rw[numP_is]at h
 unfold numR
 rw[h]
theorem numR_good {s:List UInt8} {n:Int} (h:numP s=some n):numR s=(.int .i64 n,true):=by
 rw[numP_is]at h
 unfold numR
 rw[h]
theorem decFrom_lt:∀(l:List UInt8) (acc m:Nat),decFrom acc l=some m→m<(acc+1)*10 ^ l.length
 | [],acc,m,h=>by simp[decFrom]at h;subst h;simp
 | b :: r,acc,m,h=>by
   unfold decFrom at h
   split at h
   · rename_i d hd
     have h1:=(digitVal_is hd).1
     have:=decFrom_lt r (acc*10+d) m h
     refine Nat.lt_of_lt_of_le this ?_
     rw[List.length_cons,Nat.pow_succ,Nat.mul_comm (10 ^ r.length) 10,←Nat.mul_assoc]
     exact Nat.mul_le_mul_right _ (by omega)
   · cases h
theorem decFrom_small {l:List UInt8} {m:Nat} (hl:l.length≤11) (h:decFrom 0 l=some m):m<100000000000:=by
 have h1:=decFrom_lt l 0 m h
 have h2:10 ^ l.length≤10 ^ 11:=Nat.pow_le_pow_right (by omega) hl
 omega
def NumOk (s D:List UInt8) (b:Bool):Prop :=
 digsOf s=D∧¬(D.length<1∨11<s.length)∧¬(D.head? =some 48∧1<s.length)∧(b=true↔D.length<s.length)
theorem num_some {s D:List UInt8} {b:Bool} (h:NumOk s D b) {m:Nat} (hm:decFrom 0 D=some m):numP s=some (if b=true then -(m:Int) else (m:Int)):=by
 obtain⟨rfl,h1,h2,h3⟩:=h
 unfold numP
 rw[if_neg h1,if_neg h2,hm]
 simp only[Option.map_some,h3]
theorem num_none {s D:List UInt8} {b:Bool} (h:NumOk s D b) {k:Nat} {c:UInt8} (hc:D[k]? =some c) (hd:digitVal c=none):numP s=none:=by
 obtain⟨rfl,h1,h2,h3⟩:=h
 unfold numP
 rw[if_neg h1,if_neg h2]
 cases hm:decFrom 0 (digsOf s) with
 | none=>rfl
 | some m =>
   obtain⟨d,e⟩:=digit_of_decFrom _ _ _ hm k c hc
   rw[e]at hd
   cases hd
theorem head_is {s:ByteArray} (h:0<s.size):s.data.toList.head? =some s[0]:=by
 rw[List.head?_eq_getElem?]
 exact byte_list s 0 h
set_option maxRecDepth 100000 in
set_option maxHeartbeats 2000000 in
theorem numberOf_any (s:ByteArray) (w:World) (hs:s.size≤maxLen) :
   Calls Tryz.prog 107 #[.string s] w fun e w'=>e= .returned (.tuple #[(numR s.data.toList).1,.bool (numR s.data.toList).2])∧w'=w:=by
 unfold maxLen at hs
 by_cases h1:0<s.size
 · have hi : (0:Int)<(s.size:Int):=by omega
   by_cases hb:s[0].toNat=45
   · have hb' : (s[0].toNat:Int)=45:=by omega
     have hdg:digsOf s.data.toList=(s.extract 1 s.size).data.toList:=by
       unfold digsOf
       rw[head_is h1,if_pos (by rw[show s[0]=45 from UInt8.toNat_inj.1 hb]),extract_to_end,List.drop_one]
     have hez:(s.extract 1 s.size).size=s.size-1:=by rw[ByteArray.size_extract];omega
     by_cases hA:s.size-1<1∨11<s.size
     · have hbad:=numR_bad (s:=s.data.toList) (by
         unfold numP
         rw[if_pos]
         rw[hdg,size_list,hez,size_list]
         exact hA)
       rw[hbad]
       clear hbad hdg hez hb
       by_cases hA1:s.size-1<1
       · have hA1':((s.size-1:Nat):Int)<1:=by omega
         go_enter Tryz.func107,Tryz.ntmps107
         go_wp2
         go_ret2
         exact⟨rfl,rfl⟩
       · have hA1':¬((s.size-1:Nat):Int)<1:=by omega
         have hA2':(11:Int)<(s.size:Int):=by omega
         go_enter Tryz.func107,Tryz.ntmps107
         go_wp2
         go_ret2
         exact⟨rfl,rfl⟩
     · have hA1' :¬((s.size-1:Nat):Int)<1:=by omega
       have hA2':¬(11:Int)<(s.size:Int):=by omega
       have hA3':(1:Int)<(s.size:Int):=by omega
       have hez0:0<s.size-1:=by omega
       have hez1:0<(s.extract 1 s.size).size:=by omega
       by_cases hz:(s.extract 1 s.size)[0].toNat=48
       · have hz':((s.extract 1 s.size)[0].toNat:Int)=48:=by omega
         have hbad:=numR_bad (s:=s.data.toList) (by
           unfold numP
           rw[if_neg (by rw[hdg,size_list,hez,size_list];exact hA),if_pos]
           rw[hdg,head_is hez1,size_list]
           exact⟨by rw[show (s.extract 1 s.size)[0]=48 from UInt8.toNat_inj.1 hz],by omega⟩)
         rw[hbad]
         clear hbad hdg hez hb hA hz
         go_enter Tryz.func107,Tryz.ntmps107
         go_wp2
         go_ret2
         exact⟨rfl,rfl⟩
       · have hz':¬((s.extract 1 s.size)[0].toNat:Int)=48:=by omega
         have HP:Hid (NumOk s.data.toList (s.extract 1 s.size).data.toList true):=by
           refine⟨hdg,by rw[size_list,hez,size_list];exact hA,fun h=>?_,by rw[size_list,hez,size_list];simp;omega⟩
           rw[head_is hez1]at h
           exact hz (by rw[Option.some.inj h.1];rfl)
         have hD11:(s.extract 1 s.size).size≤11:=by omega
         have hneg:(((s.extract 1 s.size).size:Nat):Int)<(s.size:Int):=by omega
         clear hdg hb hA hz
         generalize hr:numR s.data.toList=R
         have HR:Hid (numR s.data.toList=R):=hr
         clear hr
         go_enter Tryz.func107,Tryz.ntmps107
         go_wp2
         generalize (s.extract 1 s.size)[0].toNat=d0 at hz' ⊢
         clear hz' hez1 hez0 hA1'
         clear hez
         generalize s.extract 1 s.size=D at *
         go_loop [5,6] (fun n i=> ∃k m:Nat,k≤D.size∧decFrom 0 (D.data.toList.take k)=some m∧n= .int .i64 m∧i= .int .i64 k) (fun _ i=>D.size-(intOf i).toNat)
         case atStart=>exact ⟨0,0,by omega,by simp[decFrom],rfl,rfl⟩
         case round =>
           obtain⟨k,m,hk,hm,rfl,rfl⟩:=hrel
           have hmb:=decFrom_small (Nat.le_trans (List.length_take_le _ _) (Nat.le_trans hk hD11)) hm
           have HM:Hid (decFrom 0 (D.data.toList.take k)=some m):=hm
           clear hm
           by_cases hlt:k<D.size
           · have hi:(k:Int)<(D.size:Int):=by omega
             have hby:=byte_list D k hlt
             have h256:D[k].toNat<256:=D[k].toNat_lt
             cases hdv:digitVal D[k] with
             | none =>
               have hbad:=numR_bad (num_none HP.out hby hdv)
               have hR:R=(.int .i64 0,false):=by rw[←HR.out];exact hbad
               subst hR
               have hcc:¬(48≤D[k].toNat∧D[k].toNat≤57):=fun h=>by unfold digitVal at hdv;rw[if_pos h]at hdv;cases hdv
               clear hby hdv hbad HR
               by_cases g1:D[k].toNat<48
               · have g1':(D[k].toNat:Int)<48:=by omega
                 go_wp2
                 go_ret2
                 exact⟨rfl,rfl⟩
               · have g1':¬(D[k].toNat:Int)<48:=by omega
                 have g2':(57:Int)<(D[k].toNat:Int):=by omega
                 go_wp2
                 go_ret2
                 exact⟨rfl,rfl⟩
             | some d =>
               have hst:=decFrom_take D.data.toList k 0 m D[k] d HM.out hby hdv
               have hdd:48≤D[k].toNat∧D[k].toNat≤57∧d=D[k].toNat-48:=by
                 unfold digitVal at hdv
                 split at hdv
                 · rename_i h;exact⟨h.1,h.2,(Option.some.inj hdv).symm⟩
                 · cases hdv
               have HST:Hid (decFrom 0 (D.data.toList.take (k+1))=some (m*10+d)):=hst
               clear hst hby hdv
               obtain⟨g1,g2,g3⟩:=hdd
               have g1':¬(D[k].toNat:Int)<48:=by omega
               have g2':¬(57:Int)<(D[k].toNat:Int):=by omega
               go_wp2
               go_round
               case rel=>exact ⟨k+1,m*10+d,by omega,HST.out,by go_num,by go_num⟩
               case measure=>simp [intOf];omega
           · have hkD:k=D.size:=by omega
             subst hkD
             have hm':=HM.out
             rw[List.take_of_length_le (by rw[size_list];omega)]at hm'
             have hgood:=numR_good (num_some HP.out hm')
             have hR:R=_:=HR.out.symm.trans hgood
             subst hR
             clear hm' hgood HR
             have hng:¬((D.size:Int)<(D.size:Int)):=by omega
             go_wp2
             go_ret2
             exact⟨by simp,rfl⟩
   · have hb' : ¬ (s[0].toNat:Int)=45:=by omega
     have hdg:digsOf s.data.toList=s.data.toList:=by
       unfold digsOf
       rw[head_is h1,if_neg]
       intro e
       exact hb (by rw[Option.some.inj e];rfl)
     by_cases hA:11<s.size
     · have hbad:=numR_bad (s:=s.data.toList) (by
         unfold numP
         rw[if_pos]
         rw[hdg,size_list]
         exact Or.inr hA)
       rw[hbad]
       clear hbad hdg hb
       have hA1':¬(s.size:Int)<1:=by omega
       have hA2':(11:Int)<(s.size:Int):=by omega
       go_enter Tryz.func107,Tryz.ntmps107
       go_wp2
       go_ret2
       exact⟨rfl,rfl⟩
     · have hA1' : ¬(s.size:Int)<1:=by omega
       have hA2':¬(11:Int)<(s.size:Int):=by omega
       by_cases hz:s[0].toNat=48∧1<s.size
       · have hz':(s[0].toNat:Int)=48:=by omega
         have hA3':(1:Int)<(s.size:Int):=by omega
         have hbad:=numR_bad (s:=s.data.toList) (by
           unfold numP
           rw[if_neg (by rw[hdg,size_list];omega),if_pos]
           rw[hdg,head_is h1,size_list]
           exact⟨by rw[show s[0]=48 from UInt8.toNat_inj.1 hz.1],hz.2⟩)
         rw[hbad]
         clear hbad hdg hb hA hz
         go_enter Tryz.func107,Tryz.ntmps107
         go_wp2
         go_ret2
         exact⟨rfl,rfl⟩
       · have HP : Hid (NumOk s.data.toList s.data.toList false):=by
           refine⟨hdg,by rw[size_list];omega,fun h=>?_,by simp⟩
           rw[head_is h1,size_list]at h
           exact hz ⟨by rw[Option.some.inj h.1];rfl,h.2⟩
         have hD11:s.size≤11:=by omega
         have hzz:¬((s[0].toNat:Int)=48∧(1:Int)<(s.size:Int)):=by omega
         clear hdg hb hA hz
         generalize hr:numR s.data.toList=R
         have HR:Hid (numR s.data.toList=R):=hr
         clear hr
         by_cases hz0:(s[0].toNat:Int)=48
         · have hz1:¬(1:Int)<(s.size:Int):=by omega
           clear hzz
           go_enter Tryz.func107,Tryz.ntmps107
           go_wp2
           go_loop [5,6] (fun n i=> ∃k m:Nat,k≤s.size∧decFrom 0 (s.data.toList.take k)=some m∧n= .int .i64 m∧i= .int .i64 k) (fun _ i=>s.size-(intOf i).toNat)
           case atStart=>exact ⟨0,0,by omega,by simp[decFrom],rfl,rfl⟩
           case round =>
             obtain⟨k,m,hk,hm,rfl,rfl⟩:=hrel
             have hmb:=decFrom_small (Nat.le_trans (List.length_take_le _ _) (Nat.le_trans hk hD11)) hm
             have HM:Hid (decFrom 0 (s.data.toList.take k)=some m):=hm
             clear hm
             by_cases hlt:k<s.size
             · have hi:(k:Int)<(s.size:Int):=by omega
               have hby:=byte_list s k hlt
               have h256:s[k].toNat<256:=s[k].toNat_lt
               cases hdv:digitVal s[k] with
               | none =>
                 have hbad:=numR_bad (num_none HP.out hby hdv)
                 have hR:R=(.int .i64 0,false):=by rw[←HR.out];exact hbad
                 subst hR
                 have hcc:¬(48≤s[k].toNat∧s[k].toNat≤57):=fun h=>by unfold digitVal at hdv;rw[if_pos h]at hdv;cases hdv
                 clear hby hdv hbad HR
                 by_cases g1:s[k].toNat<48
                 · have g1':(s[k].toNat:Int)<48:=by omega
                   go_wp2
                   go_ret2
                   exact⟨rfl,rfl⟩
                 · have g1':¬(s[k].toNat:Int)<48:=by omega
                   have g2':(57:Int)<(s[k].toNat:Int):=by omega
                   go_wp2
                   go_ret2
                   exact⟨rfl,rfl⟩
               | some d =>
                 have hst:=decFrom_take s.data.toList k 0 m s[k] d HM.out hby hdv
                 have hdd:48≤s[k].toNat∧s[k].toNat≤57∧d=s[k].toNat-48:=by
                   unfold digitVal at hdv
                   split at hdv
                   · rename_i h;exact⟨h.1,h.2,(Option.some.inj hdv).symm⟩
                   · cases hdv
                 have HST:Hid (decFrom 0 (s.data.toList.take (k+1))=some (m*10+d)):=hst
                 clear hst hby hdv
                 obtain⟨g1,g2,g3⟩:=hdd
                 have g1':¬(s[k].toNat:Int)<48:=by omega
                 have g2':¬(57:Int)<(s[k].toNat:Int):=by omega
                 go_wp2
                 go_round
                 case rel=>exact ⟨k+1,m*10+d,by omega,HST.out,by go_num,by go_num⟩
                 case measure=>simp [intOf];omega
             · have hkD:k=s.size:=by omega
               subst hkD
               have hm':=HM.out
               rw[List.take_of_length_le (by rw[size_list];omega)]at hm'
               have hgood:=numR_good (num_some HP.out hm')
               have hR:R=_:=HR.out.symm.trans hgood
               subst hR
               clear hm' hgood HR
               have hng:¬((s.size:Int)<(s.size:Int)):=by omega
               go_wp2
               go_ret2
               exact⟨by simp,rfl⟩
         · clear hzz
           go_enter Tryz.func107,Tryz.ntmps107
           go_wp2
           go_loop [5,6] (fun n i=> ∃k m:Nat,k≤s.size∧decFrom 0 (s.data.toList.take k)=some m∧n= .int .i64 m∧i= .int .i64 k) (fun _ i=>s.size-(intOf i).toNat)
           case atStart=>exact ⟨0,0,by omega,by simp[decFrom],rfl,rfl⟩
           case round =>
             obtain⟨k,m,hk,hm,rfl,rfl⟩:=hrel
             have hmb:=decFrom_small (Nat.le_trans (List.length_take_le _ _) (Nat.le_trans hk hD11)) hm
             have HM:Hid (decFrom 0 (s.data.toList.take k)=some m):=hm
             clear hm
             by_cases hlt:k<s.size
             · have hi:(k:Int)<(s.size:Int):=by omega
               have hby:=byte_list s k hlt
               have h256:s[k].toNat<256:=s[k].toNat_lt
               cases hdv:digitVal s[k] with
               | none =>
                 have hbad:=numR_bad (num_none HP.out hby hdv)
                 have hR:R=(.int .i64 0,false):=by rw[←HR.out];exact hbad
                 subst hR
                 have hcc:¬(48≤s[k].toNat∧s[k].toNat≤57):=fun h=>by unfold digitVal at hdv;rw[if_pos h]at hdv;cases hdv
                 clear hby hdv hbad HR
                 by_cases g1:s[k].toNat<48
                 · have g1':(s[k].toNat:Int)<48:=by omega
                   go_wp2
                   go_ret2
                   exact⟨rfl,rfl⟩
                 · have g1':¬(s[k].toNat:Int)<48:=by omega
                   have g2':(57:Int)<(s[k].toNat:Int):=by omega
                   go_wp2
                   go_ret2
                   exact⟨rfl,rfl⟩
               | some d =>
                 have hst:=decFrom_take s.data.toList k 0 m s[k] d HM.out hby hdv
                 have hdd:48≤s[k].toNat∧s[k].toNat≤57∧d=s[k].toNat-48:=by
                   unfold digitVal at hdv
                   split at hdv
                   · rename_i h;exact⟨h.1,h.2,(Option.some.inj hdv).symm⟩
                   · cases hdv
                 have HST:Hid (decFrom 0 (s.data.toList.take (k+1))=some (m*10+d)):=hst
                 clear hst hby hdv
                 obtain⟨g1,g2,g3⟩:=hdd
                 have g1':¬(s[k].toNat:Int)<48:=by omega
                 have g2':¬(57:Int)<(s[k].toNat:Int):=by omega
                 go_wp2
                 go_round
                 case rel=>exact ⟨k+1,m*10+d,by omega,HST.out,by go_num,by go_num⟩
                 case measure=>simp [intOf];omega
             · have hkD:k=s.size:=by omega
               subst hkD
               have hm':=HM.out
               rw[List.take_of_length_le (by rw[size_list];omega)]at hm'
               have hgood:=numR_good (num_some HP.out hm')
               have hR:R=_:=HR.out.symm.trans hgood
               subst hR
               clear hm' hgood HR
               have hng:¬((s.size:Int)<(s.size:Int)):=by omega
               go_wp2
               go_ret2
               exact⟨by simp,rfl⟩
 · have hbad:=numR_bad (s:=s.data.toList) (by
     have hn:s.data.toList= []:=List.length_eq_zero_iff.1 (by rw[size_list];omega)
     rw[hn]
     simp[numP,digsOf])
   rw[hbad]
   clear hbad
   have hi:¬(0:Int)<(s.size:Int):=by omega
   have hi1:(s.size:Int)<1:=by omega
   go_enter Tryz.func107,Tryz.ntmps107
   go_wp2
   go_ret2
   exact⟨rfl,rfl⟩
end Go.Proofs.YtdhkdjlgmbejnaaGreatDoor
