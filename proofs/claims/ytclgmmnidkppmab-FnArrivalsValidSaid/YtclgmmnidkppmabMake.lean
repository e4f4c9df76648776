/-
  How the program was made, read by the kernel once for all laws of the seat. Conditions: none.
-/
import Derived.Test.YtclgmmnidkppmabBase
namespace Go.Proofs.Ytclgmmnidkppmab
open Go.RowKit

theorem makeIs : Try.pinned.checked.prog.make = some Rows.fnArrivalsValidRow.make := by kernel_rfl
end Go.Proofs.Ytclgmmnidkppmab
