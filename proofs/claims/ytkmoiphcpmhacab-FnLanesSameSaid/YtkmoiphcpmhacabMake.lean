/-
  How the program was made, read by the kernel once for all laws of the seat. Conditions: none.
-/
import Derived.Test.YtkmoiphcpmhacabKa
namespace Go.Proofs.Ytkmoiphcpmhacab
open Go.RowKit

theorem makeIs : Try.pinned.checked.prog.make = some Rows.fnLanesSameRow.make := by kernel_rfl
end Go.Proofs.Ytkmoiphcpmhacab
