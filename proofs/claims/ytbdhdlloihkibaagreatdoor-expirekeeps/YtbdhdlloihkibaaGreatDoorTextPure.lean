/-
  Plain mathematics of a row's text: words, numerals, and that a row is read as it was written.
-/
import Derived.Test.YtbdhdlloihkibaaGreatDoorPure
import Derived.Lib.Split
import Derived.Lib.SplitLaws
import Derived.Lib.IndexLaws
import Derived.Lib.IndexBytes
import Derived.Lib.Atoi
import Derived.Lib.AtoiBound
import Derived.Lib.ItoaNum
import Derived.Lib.ItoaMem
namespace Go.Proofs.YtbdhdlloihkibaaGreatDoor
open Go Go.Lib

def words : List UInt8 → List (List UInt8)
  | [] => [[]]
  | c :: r => if c = 32 then [] :: words r else match words r with
    | [] => [[c]]
    | w :: ws => (c :: w) :: ws

def nbI (n : Int) : Bool := (decide (97 ≤ n) && decide (n ≤ 122)) || (decide (48 ≤ n) && decide (n ≤ 57))

def wordB (m : Nat) (s : List UInt8) : Bool := decide (1 ≤ s.length) && decide (s.length ≤ m) && s.all fun c => nbI c.toNat

def inNum (n : Int) : Bool := decide (-1073741824 ≤ n) && decide (n ≤ 1073741824)

def numO (s : List UInt8) : Option Int :=
  if s.length ≤ 11 then (match atoi s with
    | some n => if itoa n = s then some n else none
    | none => none) else none

def bytesOf (l : List UInt8) : ByteArray := ⟨l.toArray⟩

theorem bytesOf_data (s : ByteArray) : bytesOf s.data.toList = s := by
  cases s; simp [bytesOf]

end Go.Proofs.YtbdhdlloihkibaaGreatDoor
