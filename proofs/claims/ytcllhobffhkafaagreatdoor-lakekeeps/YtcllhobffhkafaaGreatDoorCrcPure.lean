/- By an AI agent. -/
import Derived.Lib.Bytealg
set_option maxRecDepth 100000
set_option maxHeartbeats 16000000
open Nat renaming xor_assoc->Qa,xor_lt_two_pow->Qb,xor_comm->Qc,xor_div_two_pow->Qd,mod_two_eq_zero_or_one->Qe,xor_zero->Qf
namespace Go.Proofs.YtcllhobffhkafaaGreatDoor
def D8 (x:Nat):Nat:=if x % 2=1 then (x / 2) ^^^ 3988292384 else x / 2
def Da (x:Nat):Nat:=D8 (D8 (D8 (D8 (D8 (D8 (D8 (D8 x)))))))
def Jf (c:Nat) (b:UInt8):Nat:=Da (c ^^^ b.toNat)
def Gb (l:List UInt8):Nat:=l.foldl Jf 4294967295
def Bi (l:List UInt8):Nat:=Gb l ^^^ 4294967295
theorem Hy {x:Nat} (h:x<4294967296):D8 x<4294967296:=by
 unfold D8;split
 ·exact Qb (n:=32) (by omega) (by omega)
 ·omega
theorem Sq {x:Nat} (h:x<4294967296):Da x<4294967296:=by
 unfold Da;exact Hy (Hy (Hy (Hy (Hy (Hy (Hy (Hy h)))))))
theorem eC {c:Nat} (b:UInt8) (h:c<4294967296):Jf c b<4294967296 :=
 Sq (Qb (n:=32) h (by have:=b.toNat_lt;omega))
theorem Sr:∀(l:List UInt8) (c:Nat),c<4294967296->l.foldl Jf c<4294967296
 | [],_,h=>h
 | b :: l,_,h=>Sr l _ (eC b h)
theorem Ss (l:List UInt8):Gb l<4294967296:=Sr l _ (by decide)
theorem Hz (l:List UInt8):Bi l<4294967296:=Qb (n:=32) (Ss l) (by decide)
theorem eE (k:Nat):D8 (2*k)=k:=by
 unfold D8;rw[if_neg (by omega)];omega
theorem eF (k:Nat):Da (256*k)=k:=by
 unfold Da;rw[show 256*k=2*(2*(2*(2*(2*(2*(2*(2*k))))))) by omega];simp only[eE]
theorem eG (x y:Nat):D8 (x ^^^ y)=D8 x ^^^ D8 y:=by
 have d:(x ^^^ y) / 2=x / 2 ^^^ y / 2:=by simpa using Qd (a:=x) (b:=y) (n:=1)
 have c:(x ^^^ y) % 2=(x % 2) ^^^ (y % 2):=by simpa using Nat.xor_mod_two_pow (a:=x) (b:=y) (n:=1)
 unfold D8;rcases Qe x with f | f<;>rcases Qe y with g | g<;>rw [f,g]at c
 ·rw[if_neg (by simp[c]),if_neg (by omega),if_neg (by omega),d]
 ·rw[if_pos (by simp[c]),if_neg (by omega),if_pos g,d,Qa]
 ·rw[if_pos (by simp[c]),if_pos f,if_neg (by omega),d,Qa,Qa,Qc 3988292384]
 ·rw[if_neg (by simp[c]),if_pos f,if_pos g,d,Qa,Qc 3988292384,Qa,Nat.xor_self,Qf]
theorem eH (x y:Nat):Da (x ^^^ y)=Da x ^^^ Da y:=by
 unfold Da;simp only[eG]
theorem eI (x:Nat):x=(x % 256) ^^^ (256*(x / 256)):=by
 have e:=Nat.two_pow_add_eq_or_of_lt (i:=8) (b:=x % 256) (by omega) (x / 256);have c:x=2 ^ 8*(x / 256)+x % 256:=by omega
 have d:(2 ^ 8*(x / 256)) ^^^ (x % 256)=2 ^ 8*(x / 256) ||| x % 256:=by
  apply Nat.eq_of_testBit_eq;intro i;rw[Nat.testBit_xor,Nat.testBit_or,Nat.testBit_two_pow_mul,show x % 256=x % 2 ^ 8 from rfl,Nat.testBit_mod_two_pow];by_cases h:8<=i
  ·simp[h,show ¬i<8 by omega]
  ·simp[h,show i<8 by omega]
 rw[Qc,show (256:Nat)=2 ^ 8 from rfl,show x % 2 ^ 8=x % 256 from rfl,show x / 2 ^ 8=x / 256 from rfl,d,<-e];exact c
theorem eJ (c:Nat) (b:UInt8):Jf c b=Da ((c ^^^ b.toNat) % 256) ^^^ (c / 256):=by
 unfold Jf;have f:=b.toNat_lt;have d:(c ^^^ b.toNat) / 256=c / 256:=by
  have:=Qd (a:=c) (b:=b.toNat) (n:=8);rw[show (2:Nat) ^ 8=256 from rfl]at this;rw[this,Nat.div_eq_of_lt (a:=b.toNat) (by omega),Qf]
 conv=>lhs;rw[eI (c ^^^ b.toNat)]
 rw[eH,eF,d]
theorem eM (l:List UInt8) (b:UInt8):Gb (l++ [b])=Jf (Gb l) b:=by
 unfold Gb;rw[List.foldl_append];rfl
end Go.Proofs.YtcllhobffhkafaaGreatDoor
