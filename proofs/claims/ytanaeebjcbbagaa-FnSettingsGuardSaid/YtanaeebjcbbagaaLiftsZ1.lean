/-
  The program's list of first initializers, read by the kernel once for all laws of the seat (the other word). Conditions: none.
-/
import Derived.Test.YtanaeebjcbbagaaKaZ1
namespace Go.Proofs.Ytanaeebjcbbagaa
open Go.RowKit
theorem liftsFinal : Try.pinned.checked.prog.liftsFinal = false := by kernel_rfl
end Go.Proofs.Ytanaeebjcbbagaa
