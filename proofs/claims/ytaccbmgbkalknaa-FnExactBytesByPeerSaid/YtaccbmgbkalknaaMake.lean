/-
  How the program was made, read by the kernel once for all laws of the seat. Conditions: none.
-/
import Derived.Test.YtaccbmgbkalknaaBase
namespace Go.Proofs.Ytaccbmgbkalknaa
open Go.RowKit

theorem makeIs : Try.pinned.checked.prog.make = some Rows.fnCountDecisionsRow.make := by kernel_rfl
end Go.Proofs.Ytaccbmgbkalknaa
