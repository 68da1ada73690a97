/-
  Plain mathematics of a file of lines (rows, or keys): its text, what a text is, that a file is read as it was written, and that with one byte another one it is none.
-/
import Derived.Test.YtcpplldfmmpaoaaGreatDoorLinePure
namespace Go.Proofs.YtcpplldfmmpaoaaGreatDoor
open Go Go.Lib Go.Sort

structure FK (β : Type) where
  word : List UInt8
  rd : List UInt8 → β × Nat
  bad : β → β → Bool
  key : β → Int
  text : β → List UInt8
  ok : β → Prop
  d : β

def kData : List UInt8 := [100, 97, 116, 97]

def kGone : List UInt8 := [103, 111, 110, 101]

end Go.Proofs.YtcpplldfmmpaoaaGreatDoor
