/- By an AI agent. -/
import Derived.Lib.Bytealg
set_option maxRecDepth 100000
set_option maxHeartbeats 16000000
open Nat renaming xor_assoc->Qa,xor_lt_two_pow->Qb,xor_comm->Qc,xor_div_two_pow->Qd,mod_two_eq_zero_or_one->Qe,xor_zero->Qf
namespace Go.Proofs.YtcllhobffhkafaaGreatDoor
def Dz (x:Nat):Nat:=if x % 2=1 then (x / 2) ^^^ 3988292384 else x / 2
def CO (x:Nat):Nat:=Dz (Dz (Dz (Dz (Dz (Dz (Dz (Dz x)))))))
def IJ (c:Nat) (b:UInt8):Nat:=CO (c ^^^ b.toNat)
def FB (l:List UInt8):Nat:=l.foldl IJ 4294967295
def Ba (l:List UInt8):Nat:=FB l ^^^ 4294967295
theorem Hm {x:Nat} (h:x<4294967296):Dz x<4294967296:=by
 unfold Dz;split
 ·exact Qb (n:=32) (by omega) (by omega)
 ·omega
theorem RD {x:Nat} (h:x<4294967296):CO x<4294967296:=by
 unfold CO;exact Hm (Hm (Hm (Hm (Hm (Hm (Hm (Hm h)))))))
theorem bR {c:Nat} (b:UInt8) (h:c<4294967296):IJ c b<4294967296 :=
 RD (Qb (n:=32) h (by have:=b.toNat_lt;omega))
theorem RG:∀(l:List UInt8) (c:Nat),c<4294967296->l.foldl IJ c<4294967296
 | [],_,h=>h
 | b :: l,_,h=>RG l _ (bR b h)
theorem RH (l:List UInt8):FB l<4294967296:=RG l _ (by decide)
theorem Hn (l:List UInt8):Ba l<4294967296:=Qb (n:=32) (RH l) (by decide)
theorem bS (k:Nat):Dz (2*k)=k:=by
 unfold Dz;rw[if_neg (by omega)];omega
theorem bT (k:Nat):CO (256*k)=k:=by
 unfold CO;rw[show 256*k=2*(2*(2*(2*(2*(2*(2*(2*k))))))) by omega];simp only[bS]
theorem bU (x y:Nat):Dz (x ^^^ y)=Dz x ^^^ Dz y:=by
 have d:(x ^^^ y) / 2=x / 2 ^^^ y / 2:=by simpa using Qd (a:=x) (b:=y) (n:=1)
 have c:(x ^^^ y) % 2=(x % 2) ^^^ (y % 2):=by simpa using Nat.xor_mod_two_pow (a:=x) (b:=y) (n:=1)
 unfold Dz;rcases Qe x with f | f<;>rcases Qe y with g | g<;>rw [f,g]at c
 ·rw[if_neg (by simp[c]),if_neg (by omega),if_neg (by omega),d]
 ·rw[if_pos (by simp[c]),if_neg (by omega),if_pos g,d,Qa]
 ·rw[if_pos (by simp[c]),if_pos f,if_neg (by omega),d,Qa,Qa,Qc 3988292384]
 ·rw[if_neg (by simp[c]),if_pos f,if_pos g,d,Qa,Qc 3988292384,Qa,Nat.xor_self,Qf]
theorem bV (x y:Nat):CO (x ^^^ y)=CO x ^^^ CO y:=by
 unfold CO;simp only[bU]
theorem bW (x:Nat):x=(x % 256) ^^^ (256*(x / 256)):=by
 have e:=Nat.two_pow_add_eq_or_of_lt (i:=8) (b:=x % 256) (by omega) (x / 256);have c:x=2 ^ 8*(x / 256)+x % 256:=by omega
 have d:(2 ^ 8*(x / 256)) ^^^ (x % 256)=2 ^ 8*(x / 256) ||| x % 256:=by
  apply Nat.eq_of_testBit_eq;intro i;rw[Nat.testBit_xor,Nat.testBit_or,Nat.testBit_two_pow_mul,show x % 256=x % 2 ^ 8 from rfl,Nat.testBit_mod_two_pow];by_cases h:8<=i
  ·simp[h,show ¬i<8 by omega]
  ·simp[h,show i<8 by omega]
 rw[Qc,show (256:Nat)=2 ^ 8 from rfl,show x % 2 ^ 8=x % 256 from rfl,show x / 2 ^ 8=x / 256 from rfl,d,<-e];exact c
theorem bX (c:Nat) (b:UInt8):IJ c b=CO ((c ^^^ b.toNat) % 256) ^^^ (c / 256):=by
 unfold IJ;have f:=b.toNat_lt;have d:(c ^^^ b.toNat) / 256=c / 256:=by
  have:=Qd (a:=c) (b:=b.toNat) (n:=8);rw[show (2:Nat) ^ 8=256 from rfl]at this;rw[this,Nat.div_eq_of_lt (a:=b.toNat) (by omega),Qf]
 conv=>lhs;rw[bW (c ^^^ b.toNat)]
 rw[bV,bT,d]
theorem bY (l:List UInt8) (b:UInt8):FB (l++ [b])=IJ (FB l) b:=by
 unfold FB;rw[List.foldl_append];rfl
end Go.Proofs.YtcllhobffhkafaaGreatDoor
