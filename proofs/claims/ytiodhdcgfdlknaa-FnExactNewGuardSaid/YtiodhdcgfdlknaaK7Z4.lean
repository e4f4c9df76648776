/-
  Chapter 7: scores: what the program's functions and the model's return. Conditions: none; a contract says which case it speaks of. Chapter 7: points, bans and blame: what the program's functions and the model's return. Conditions: none; a contract says which case it speaks of.
  Conditions: each lemma says them.
-/
import Derived.Test.YtiodhdcgfdlknaaKbZ4
import Derived.WalkLawsBesides
import Derived.Deep.DeepCutAuto
namespace Go.Proofs.Ytiodhdcgfdlknaa
open Go.RowKit
theorem scTimeS_any (n : Int) (w : World) :
    Calls Try.prog 44 #[.int .i64 n] w fun e w' => e = .returned (.bool (inB n 0 1000000)) ∧ w = w' := by
  go_enter Try.func44, Try.ntmps44
  go_wp2
  all_goals go_ret
  all_goals refine ⟨ret_bool ?_, rfl⟩
  · rw [inB, decide_eq_decide]; omega
  · rw [inB, eq_comm, decide_eq_false_iff_not]; omega
end Go.Proofs.Ytiodhdcgfdlknaa
namespace Go.Proofs.Ytiodhdcgfdlknaa
open Go.RowKit
end Go.Proofs.Ytiodhdcgfdlknaa
