/-
  Plain mathematics of snaps: their bounds, their text, what a text is.
-/
import Derived.Test.YtbdhdlloihkibaaGreatDoorDataPure
import Derived.Test.YtbdhdlloihkibaaGreatDoorSrtPure
import Derived.Lib.SlicesCompact
import Derived.Lib.Slices
namespace Go.Proofs.YtbdhdlloihkibaaGreatDoor
open Go Go.Lib

abbrev Fl := ByteArray × ByteArray × Int × Int × Int × Int

def cntB (n : Int) : Bool := decide (1 ≤ n) && decide (n ≤ 1073741824)

def pathN (s : List UInt8) : Option Int := match numO s with
  | some n => if cntB n then some n else none
  | none => none

def pathO (s : List UInt8) : Option (Bool × Int) :=
  if s.take 5 = kData ++ [47] then (pathN (s.drop 5)).map fun n => (false, n) else
  if s.take 5 = kGone ++ [47] then (pathN (s.drop 5)).map fun n => (true, n) else none

end Go.Proofs.YtbdhdlloihkibaaGreatDoor
namespace Go.Proofs.YtbdhdlloihkibaaGreatDoor
open Go Go.Lib

def pk (s : List UInt8) : Int := match pathO s with
  | some (g, n) => if g then 1073741824 + n else n
  | none => 0

def fk (f : Fl) : Int := pk f.1.data.toList

end Go.Proofs.YtbdhdlloihkibaaGreatDoor
namespace Go.Proofs.YtbdhdlloihkibaaGreatDoor
open Go Go.Lib

abbrev Sn := Int × Int × Int × Int × Int × ByteArray × List Fl

end Go.Proofs.YtbdhdlloihkibaaGreatDoor
