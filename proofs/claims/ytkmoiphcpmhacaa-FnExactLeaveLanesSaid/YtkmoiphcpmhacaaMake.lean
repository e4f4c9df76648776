/-
  How the program was made, read by the kernel once for all laws of the seat. Conditions: none.
-/
import Derived.Test.YtkmoiphcpmhacaaKa
namespace Go.Proofs.Ytkmoiphcpmhacaa
open Go.RowKit

theorem makeIs : Try.pinned.checked.prog.make = some Rows.fnNextOfLanesRow.make := by kernel_rfl
end Go.Proofs.Ytkmoiphcpmhacaa
