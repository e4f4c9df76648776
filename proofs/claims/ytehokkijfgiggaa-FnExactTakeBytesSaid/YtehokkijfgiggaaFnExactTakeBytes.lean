/-
  The law FnExactTakeBytes returns true at every argument: the program's TakeBytes answers as the model's, writes into no argument, and its answer owns its memory. Conditions: none.
-/
import Derived.Test.YtehokkijfgiggaaFnExactTakeBytesW
import Derived.Test.YtehokkijfgiggaaLift
import Derived.Test.YtehokkijfgiggaaLiftFlws
import Derived.Test.YtehokkijfgiggaaMay
import Derived.Test.YtehokkijfgiggaaLifts
namespace Go.Proofs.Ytehokkijfgiggaa.fnExactTakeBytes
open Go.ChangeShapes Go.WideShapes Go.ChangeAt Go.RowKit

theorem over : Rows.fnExactTakeBytesRow.holds Try.pinned (OpenSpec.ofChange Rows.fnExactTakeBytesSpec) :=
  OpenClaim.holds_of_wide 14 Try.f14 rfl rfl rfl rfl rfl rfl rfl ⟨rfl, rfl, rfl, rfl, rfl⟩ rfl rfl rfl rfl rfl (by kernel_rfl) Try.func14 (by unfold joinedFacts; rw [mayEnter, liftsFinal]; kernel_rfl)
    (of_decide_eq_true (by kernel_rfl)) (by unfold Func.isWrapper; first | (rw [if_pos (by decide +kernel)]; kernel_rfl) | (rw [if_neg (by decide +kernel)]; exact ⟨rfl, rfl⟩))
    (fun os started H enc _ => lifted os started H enc)
/-- the given statement -/
theorem proved : Rows.FnExactTakeBytesSaid := over
end Go.Proofs.Ytehokkijfgiggaa.fnExactTakeBytes
