/-
  The law FnExactRobinSame returns true at every argument: the program's RobinSame answers as the model's and writes into no argument. Conditions: none.
-/
import Derived.Test.YtehokkijfgiggaaFnExactRobinSameW
import Derived.Test.YtehokkijfgiggaaLift
import Derived.Test.YtehokkijfgiggaaLiftFlws
namespace Go.Proofs.Ytehokkijfgiggaa.fnExactRobinSame
open Go.ChangeShapes Go.WideShapes Go.ChangeAt Go.RowKit

theorem over : Rows.fnExactRobinSameRow.holds Try.pinned (OpenSpec.ofChange Rows.fnExactRobinSameSpec) :=
  OpenClaim.holds_of_wide 10 Try.f10 rfl rfl rfl rfl rfl rfl rfl ⟨rfl, rfl, rfl, rfl, rfl⟩ rfl rfl rfl rfl rfl (by kernel_rfl) Try.func10 (by kernel_rfl)
    (of_decide_eq_true (by kernel_rfl)) (by unfold Func.isWrapper; first | (rw [if_pos (by decide +kernel)]; kernel_rfl) | (rw [if_neg (by decide +kernel)]; exact ⟨rfl, rfl⟩))
    (fun os started H enc _ => lifted os started H enc)
/-- the given statement -/
theorem proved : Rows.FnExactRobinSameSaid := over
end Go.Proofs.Ytehokkijfgiggaa.fnExactRobinSame
