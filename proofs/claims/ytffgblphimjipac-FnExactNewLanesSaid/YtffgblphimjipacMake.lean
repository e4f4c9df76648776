/-
  How the program was made, read by the kernel once for all laws of the seat. Conditions: none.
-/
import Derived.Test.YtffgblphimjipacKa
namespace Go.Proofs.Ytffgblphimjipac
open Go.RowKit

theorem makeIs : Try.pinned.checked.prog.make = some Rows.fnCountLanesRow.make := by kernel_rfl
end Go.Proofs.Ytffgblphimjipac
