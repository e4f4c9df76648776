/-
  The program's list of first initializers, read by the kernel once for all laws of the seat. Conditions: none.
-/
import Derived.Test.YtclgmmnidkppmaaBase
namespace Go.Proofs.Ytclgmmnidkppmaa
open Go.RowKit

theorem mayEnter : Try.pinned.checked.prog.mayEnter = true := by kernel_rfl
end Go.Proofs.Ytclgmmnidkppmaa
