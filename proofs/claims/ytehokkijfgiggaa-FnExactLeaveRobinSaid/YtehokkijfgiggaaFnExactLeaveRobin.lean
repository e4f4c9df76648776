/-
  The law FnExactLeaveRobin returns true at every argument: the program's LeaveRobin answers as the model's, writes into no argument, and its answer owns its memory. Conditions: none.
-/
import Derived.Test.YtehokkijfgiggaaFnExactLeaveRobinW
import Derived.Test.YtehokkijfgiggaaLift
import Derived.Test.YtehokkijfgiggaaLiftFlws
namespace Go.Proofs.Ytehokkijfgiggaa.fnExactLeaveRobin
open Go.ChangeShapes Go.WideShapes Go.ChangeAt Go.RowKit

theorem over : Rows.fnExactLeaveRobinRow.holds Try.pinned (OpenSpec.ofChange Rows.fnExactLeaveRobinSpec) :=
  OpenClaim.holds_of_wide 16 Try.f16 rfl rfl rfl rfl rfl rfl rfl ⟨rfl, rfl, rfl, rfl, rfl⟩ rfl rfl rfl rfl rfl (by kernel_rfl) Try.func16 (by kernel_rfl)
    (of_decide_eq_true (by kernel_rfl)) (by unfold Func.isWrapper; first | (rw [if_pos (by decide +kernel)]; kernel_rfl) | (rw [if_neg (by decide +kernel)]; exact ⟨rfl, rfl⟩))
    (fun os started H enc _ => lifted os started H enc)
/-- the given statement -/
theorem proved : Rows.FnExactLeaveRobinSaid := over
end Go.Proofs.Ytehokkijfgiggaa.fnExactLeaveRobin
