/-
  How the program was made, read by the kernel once for all laws of the seat. Conditions: none.
-/
import Derived.Test.YtanaeebjcbbagaaKaZ1
namespace Go.Proofs.Ytanaeebjcbbagaa
open Go.RowKit
theorem makeIs : Try.pinned.checked.prog.make = some Rows.fnSettingsGuardRow.make := by kernel_rfl
end Go.Proofs.Ytanaeebjcbbagaa
