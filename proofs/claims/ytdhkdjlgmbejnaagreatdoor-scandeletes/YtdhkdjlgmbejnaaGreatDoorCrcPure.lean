/- By an AI agent. -/
import Derived.Lib.Bytealg
namespace Go.Proofs.YtdhkdjlgmbejnaaGreatDoor
def crcF (x:Nat):Nat:=if x % 2=1 then (x / 2) ^^^ 3988292384 else x / 2
def crcF8 (x:Nat):Nat:=crcF (crcF (crcF (crcF (crcF (crcF (crcF (crcF x)))))))
def crcB (c:Nat) (b:UInt8):Nat:=crcF8 (c ^^^ b.toNat)
def crcL (l:List UInt8):Nat:=l.foldl crcB 4294967295
def sumL (l:List UInt8):Nat:=crcL l ^^^ 4294967295
theorem crcF_lt {x:Nat} (h:x<4294967296):crcF x<4294967296:=by
 unfold crcF
 split
 · exact Nat.xor_lt_two_pow (n:=32) (by omega) (by omega)
 · omega
theorem crcF8_lt {x:Nat} (h:x<4294967296):crcF8 x<4294967296:=by
 unfold crcF8
 exact crcF_lt (crcF_lt (crcF_lt (crcF_lt (crcF_lt (crcF_lt (crcF_lt (crcF_lt h)))))))
theorem crcB_lt {c:Nat} (b:UInt8) (h:c<4294967296):crcB c b<4294967296 :=
 crcF8_lt (Nat.xor_lt_two_pow (n:=32) h (by have:=b.toNat_lt;omega))
theorem foldB_lt:∀(l:List UInt8) (c:Nat),c<4294967296→l.foldl crcB c<4294967296
 | [],_,h=>h
 | b :: l,_,h=>foldB_lt l _ (crcB_lt b h)
theorem crcL_lt (l:List UInt8):crcL l<4294967296:=foldB_lt l _ (by decide)
theorem sumL_lt (l:List UInt8):sumL l<4294967296:=Nat.xor_lt_two_pow (n:=32) (crcL_lt l) (by decide)
theorem crcF_even (k:Nat):crcF (2*k)=k:=by
 unfold crcF
 rw[if_neg (by omega)]
 omega
theorem crcF8_high (k:Nat):crcF8 (256*k)=k:=by
 unfold crcF8
 rw[show 256*k=2*(2*(2*(2*(2*(2*(2*(2*k))))))) by omega]
 simp only[crcF_even]
theorem crcF_xor (x y:Nat):crcF (x ^^^ y)=crcF x ^^^ crcF y:=by
 have hd:(x ^^^ y) / 2=x / 2 ^^^ y / 2:=by simpa using Nat.xor_div_two_pow (a:=x) (b:=y) (n:=1)
 have hm:(x ^^^ y) % 2=(x % 2) ^^^ (y % 2):=by simpa using Nat.xor_mod_two_pow (a:=x) (b:=y) (n:=1)
 unfold crcF
 rcases Nat.mod_two_eq_zero_or_one x with hx | hx<;>rcases Nat.mod_two_eq_zero_or_one y with hy | hy<;>rw [hx,hy]at hm
 · rw[if_neg (by simp[hm]),if_neg (by omega),if_neg (by omega),hd]
 · rw[if_pos (by simp[hm]),if_neg (by omega),if_pos hy,hd,Nat.xor_assoc]
 · rw[if_pos (by simp[hm]),if_pos hx,if_neg (by omega),hd,Nat.xor_assoc,Nat.xor_assoc,Nat.xor_comm 3988292384]
 · rw[if_neg (by simp[hm]),if_pos hx,if_pos hy,hd,Nat.xor_assoc,Nat.xor_comm 3988292384,Nat.xor_assoc,Nat.xor_self,Nat.xor_zero]
theorem crcF8_xor (x y:Nat):crcF8 (x ^^^ y)=crcF8 x ^^^ crcF8 y:=by
 unfold crcF8;simp only[crcF_xor]
theorem low_high (x:Nat):x=(x % 256) ^^^ (256*(x / 256)):=by
 have e:=Nat.two_pow_add_eq_or_of_lt (i:=8) (b:=x % 256) (by omega) (x / 256)
 have e2:x=2 ^ 8*(x / 256)+x % 256:=by omega
 have e3:(2 ^ 8*(x / 256)) ^^^ (x % 256)=2 ^ 8*(x / 256) ||| x % 256:=by
   apply Nat.eq_of_testBit_eq
   intro i
   rw[Nat.testBit_xor,Nat.testBit_or,Nat.testBit_two_pow_mul,show x % 256=x % 2 ^ 8 from rfl,Nat.testBit_mod_two_pow]
   by_cases h:8≤i
   · simp[h,show ¬i<8 by omega]
   · simp[h,show i<8 by omega]
 rw[Nat.xor_comm,show (256:Nat)=2 ^ 8 from rfl,show x % 2 ^ 8=x % 256 from rfl,show x / 2 ^ 8=x / 256 from rfl,e3,←e]
 exact e2
theorem crcB_table (c:Nat) (b:UInt8):crcB c b=crcF8 ((c ^^^ b.toNat) % 256) ^^^ (c / 256):=by
 unfold crcB
 have hb:=b.toNat_lt
 have hd:(c ^^^ b.toNat) / 256=c / 256:=by
   have:=Nat.xor_div_two_pow (a:=c) (b:=b.toNat) (n:=8)
   rw[show (2:Nat) ^ 8=256 from rfl]at this
   rw[this,Nat.div_eq_of_lt (a:=b.toNat) (by omega),Nat.xor_zero]
 conv=>lhs;rw[low_high (c ^^^ b.toNat)]
 rw[crcF8_xor,crcF8_high,hd]
theorem crcL_snoc (l:List UInt8) (b:UInt8):crcL (l++ [b])=crcB (crcL l) b:=by
 unfold crcL;rw[List.foldl_append];rfl
end Go.Proofs.YtdhkdjlgmbejnaaGreatDoor
