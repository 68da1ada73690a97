/-
  All that the statements ask of the program's functions on snaps.
-/
import Derived.Test.YtpiagofhgalklacGreatDoorSnapLaw
import Derived.Test.YtpiagofhgalklacGreatDoorSnapRd
import Derived.Test.YtpiagofhgalklacGreatDoorSnapRows
namespace Go.Proofs.YtpiagofhgalklacGreatDoor
open Go.RowKit Go.Extern.Stop Go.Stop Go.Extern Go.Sort Go.Shelf Go.Lib

theorem snapK (a : Nat → Addr) : SnapK a (fun W => EnvP W a) where
  below := fun _ _ h hb => h.below hb
  check := fun W s vf h hx hl hs => scheck_any s vf W a h.text.list hx hl hs
  text := fun W s vf h hx hl hs => stext_any s vf W a h.text hx hl hs
  read := fun W s h hs => sread_any s W a h hs
  first := fun W => first_any W

theorem snapR (a : Nat → Addr) : SnapR a (fun W => EnvP W a) where
  core := snapK a
  rows := fun W s vf h hx hl hs => srows_any s vf W a h.text.list hx hl hs
end Go.Proofs.YtpiagofhgalklacGreatDoor
