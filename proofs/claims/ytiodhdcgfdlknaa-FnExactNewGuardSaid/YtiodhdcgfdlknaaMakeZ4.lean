/-
  How the program was made, read by the kernel once for all laws of the seat. Conditions: none.
-/
import Derived.Test.YtiodhdcgfdlknaaKaZ4
namespace Go.Proofs.Ytiodhdcgfdlknaa
open Go.RowKit
theorem makeIs : Try.pinned.checked.prog.make = some Rows.fnExactSettingsValidRow.make := by kernel_rfl
end Go.Proofs.Ytiodhdcgfdlknaa
