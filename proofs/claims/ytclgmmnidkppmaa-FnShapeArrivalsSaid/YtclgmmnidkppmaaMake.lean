/-
  How the program was made, read by the kernel once for all laws of the seat. Conditions: none.
-/
import Derived.Test.YtclgmmnidkppmaaBase
namespace Go.Proofs.Ytclgmmnidkppmaa
open Go.RowKit

theorem makeIs : Try.pinned.checked.prog.make = some Rows.fnConformsRow.make := by kernel_rfl
end Go.Proofs.Ytclgmmnidkppmaa
