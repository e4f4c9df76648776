/-
  The law FnExactWaitingOf returns true at every argument: the program's WaitingOf answers as the model's, writes into no argument, and its answer owns its memory. Conditions: none.
-/
import Derived.Test.YtehokkijfgiggaaFnExactWaitingOfW
import Derived.Test.YtehokkijfgiggaaLift
import Derived.Test.YtehokkijfgiggaaLiftFlws
namespace Go.Proofs.Ytehokkijfgiggaa.fnExactWaitingOf
open Go.ChangeShapes Go.WideShapes Go.ChangeAt Go.RowKit

theorem over : Rows.fnExactWaitingOfRow.holds Try.pinned (OpenSpec.ofChange Rows.fnExactWaitingOfSpec) :=
  OpenClaim.holds_of_wide 15 Try.f15 rfl rfl rfl rfl rfl rfl rfl ⟨rfl, rfl, rfl, rfl, rfl⟩ rfl rfl rfl rfl rfl (by kernel_rfl) Try.func15 (by kernel_rfl)
    (of_decide_eq_true (by kernel_rfl)) (by unfold Func.isWrapper; first | (rw [if_pos (by decide +kernel)]; kernel_rfl) | (rw [if_neg (by decide +kernel)]; exact ⟨rfl, rfl⟩))
    (fun os started H enc _ => lifted os started H enc)
/-- the given statement -/
theorem proved : Rows.FnExactWaitingOfSaid := over
end Go.Proofs.Ytehokkijfgiggaa.fnExactWaitingOf
