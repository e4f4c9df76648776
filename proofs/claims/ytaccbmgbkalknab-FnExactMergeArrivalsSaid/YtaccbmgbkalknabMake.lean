/-
  How the program was made, read by the kernel once for all laws of the seat. Conditions: none.
-/
import Derived.Test.YtaccbmgbkalknabBase
namespace Go.Proofs.Ytaccbmgbkalknab
open Go.RowKit

theorem makeIs : Try.pinned.checked.prog.make = some Rows.fnExactMergeArrivalsRow.make := by kernel_rfl
end Go.Proofs.Ytaccbmgbkalknab
