/-
  The law FnExactJoinRobin returns true at every argument: the program's JoinRobin answers as the model's, writes into no argument, and its answer owns its memory. Conditions: none.
-/
import Derived.Test.YtehokkijfgiggaaFnExactJoinRobinW
import Derived.Test.YtehokkijfgiggaaLift
import Derived.Test.YtehokkijfgiggaaLiftFlws
namespace Go.Proofs.Ytehokkijfgiggaa.fnExactJoinRobin
open Go.ChangeShapes Go.WideShapes Go.ChangeAt Go.RowKit

theorem over : Rows.fnExactJoinRobinRow.holds Try.pinned (OpenSpec.ofChange Rows.fnExactJoinRobinSpec) :=
  OpenClaim.holds_of_wide 11 Try.f11 rfl rfl rfl rfl rfl rfl rfl ⟨rfl, rfl, rfl, rfl, rfl⟩ rfl rfl rfl rfl rfl (by kernel_rfl) Try.func11 (by kernel_rfl)
    (of_decide_eq_true (by kernel_rfl)) (by unfold Func.isWrapper; first | (rw [if_pos (by decide +kernel)]; kernel_rfl) | (rw [if_neg (by decide +kernel)]; exact ⟨rfl, rfl⟩))
    (fun os started H enc _ => lifted os started H enc)
/-- the given statement -/
theorem proved : Rows.FnExactJoinRobinSaid := over
end Go.Proofs.Ytehokkijfgiggaa.fnExactJoinRobin
