/-
  Plain mathematics of a file of lines (rows, or keys): its text, what a text is, that a file is read as it was written, and that with one byte another one it is none.
-/
import Derived.Test.YtpkoefpdpoikkaaDoorLinePure
namespace Go.Proofs.YtpkoefpdpoikkaaDoor
open Go Go.Lib Go.Sort

def kData : List UInt8 := [100, 97, 116, 97]

def kGone : List UInt8 := [103, 111, 110, 101]

end Go.Proofs.YtpkoefpdpoikkaaDoor
