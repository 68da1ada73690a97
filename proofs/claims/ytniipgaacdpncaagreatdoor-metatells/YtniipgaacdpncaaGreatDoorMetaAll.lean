/-
  What the statements on numbers of snaps ask of the program is so.
-/
import Derived.Test.YtniipgaacdpncaaGreatDoorMetaTxt
import Derived.Test.YtniipgaacdpncaaGreatDoorMetaRd
import Derived.Test.YtniipgaacdpncaaGreatDoorMetaPush
import Derived.Test.YtniipgaacdpncaaGreatDoorMetaLaw
namespace Go.Proofs.YtniipgaacdpncaaGreatDoor
open Go.RowKit Go.Extern.Stop Go.Stop Go.Extern Go.Sort Go.Shelf Go.Lib

theorem metaK (a : Nat → Addr) : MetaK a (fun W => EnvM W a) where
  below := fun _ _ h hb => h.below hb
  check := fun W v zs h hz hl => mcheck_any v zs W a h hz (by omega)
  text := fun W v zs h hz hl => mtext_any v zs W a h hz hl
  read := fun W s h hs => mread_any s W a h hs
  now := fun W v zs _ hz hl => (mnow_any v zs W hz (by omega)).mono fun e w' ⟨he, hw⟩ => ⟨he, by subst hw; exact Below.refl _ _⟩
  push := fun W v zs z h hz hl => mpush_any v zs z W a h hz hl
  keep := fun W v u zs ys h hz hy hl hly => mkeep_any v u zs ys W a h hz hy hl hly
end Go.Proofs.YtniipgaacdpncaaGreatDoor
