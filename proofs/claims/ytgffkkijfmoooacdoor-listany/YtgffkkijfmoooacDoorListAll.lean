/-
  All that the statements ask of the program's functions on lists.
-/
import Derived.Test.YtgffkkijfmoooacDoorListLaw
import Derived.Test.YtgffkkijfmoooacDoorListTxt
import Derived.Test.YtgffkkijfmoooacDoorListTold
import Derived.Test.YtgffkkijfmoooacDoorListOrd
import Derived.Test.YtgffkkijfmoooacDoorRefList6
import Derived.Test.YtgffkkijfmoooacDoorRefReadData
import Derived.Test.YtgffkkijfmoooacDoorFileChk
import Derived.Test.YtgffkkijfmoooacDoorCrcPure
import Derived.Test.YtgffkkijfmoooacDoorRowRead
import Derived.Laws.BitsAll
import Derived.Laws.BitsAllLaws
import Derived.Laws.Rows
import Derived.Laws.CopyRow
import Derived.Laws.Tables
import Derived.Laws.Bits128
import Derived.Test.YtgffkkijfmoooacDoorRefWords
import Derived.Test.YtgffkkijfmoooacDoorDataHead
import Derived.Test.YtgffkkijfmoooacDoorLinePure
import Derived.Test.YtgffkkijfmoooacDoorRefText
import Derived.Test.YtgffkkijfmoooacDoorFileText
import Derived.Test.YtgffkkijfmoooacDoorDataRead
import Derived.Maps.AppendAt
import Derived.Deep.Onto
import Derived.Test.YtgffkkijfmoooacDoorListAdd
import Derived.Test.YtgffkkijfmoooacDoorRefList1
namespace Go.Proofs.YtgffkkijfmoooacDoor
open Go.RowKit Go.Extern.Stop Go.Stop Go.Extern Go.Sort Go.Shelf Go.Lib

theorem listK (a : Nat → Addr) : ListK a (fun W => EnvL W a) where
  below := fun _ _ h hb => h.below hb
  check := fun W v fs h hx hl hs => lcheck_any v fs W a h hx hl hs
  text := fun W v fs h hx hl hs => ltext_any v fs W a h hx hl hs
  add := fun W v fs f h hx hl hs h1 h2 => ladd_any v fs f W a h hx hl hs h1 h2
  remove := fun W v fs p h hx hl hs _ => lremove_any v fs p W a h hx hl hs
  find := fun W v fs p _ hx hl => find_any v fs p W hx (by omega)

end Go.Proofs.YtgffkkijfmoooacDoor
