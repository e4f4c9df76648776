/-
  The program's list of first initializers, read by the kernel once for all laws of the seat. Conditions: none.
-/
import Derived.Test.YtanaeebjcbbagaaKaZ1
namespace Go.Proofs.Ytanaeebjcbbagaa
open Go.RowKit
theorem mayEnter : Try.pinned.checked.prog.mayEnter = true := by kernel_rfl
end Go.Proofs.Ytanaeebjcbbagaa
