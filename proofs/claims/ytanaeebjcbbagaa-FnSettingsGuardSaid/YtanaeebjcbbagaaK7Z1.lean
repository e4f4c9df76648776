/-
  Chapter 7: scores: what the program's functions and the model's return. Conditions: none; a contract says which case it speaks of. Chapter 7: points, bans and blame: what the program's functions and the model's return. Conditions: none; a contract says which case it speaks of.
  Conditions: each lemma says them.
-/
import Derived.Test.YtanaeebjcbbagaaKbZ1
import Derived.WalkLawsBesides
import Derived.Deep.DeepCutAuto
namespace Go.Proofs.Ytanaeebjcbbagaa
open Go.RowKit
def scB (p a u b : Int) : Bool := decide (0 ≤ p ∧ p ≤ 99 ∧ 0 ≤ a ∧ a ≤ 1000000 ∧ 0 ≤ u ∧ u ≤ 2000000 ∧ 0 ≤ b ∧ b ≤ 10)
def stB (p a u b n : Int) : Bool := decide (0 ≤ p ∧ p ≤ 99 ∧ 0 ≤ a ∧ a ≤ n ∧ n ≤ 1000000 ∧ 0 ≤ u ∧ u ≤ 2000000 ∧ 0 ≤ b ∧ b ≤ 10)
def nb (b : Int) : Int := if b + 1 ≤ 10 then b + 1 else 10
theorem st_eq2 (p a u b n : Int) : stB p a u b n = (scB p a u b && inB n 0 1000000 && decide (a ≤ n)) := by
  rw [Bool.eq_iff_iff]
  simp only [stB, scB, inB, Bool.and_eq_true, decide_eq_true_eq]
  omega
theorem sc_eq (p a u b : Int) : scB p a u b = (inB p 0 99 && inB a 0 1000000 && inB u 0 2000000 && inB b 0 10) := by
  rw [Bool.eq_iff_iff]
  simp only [scB, inB, Bool.and_eq_true, decide_eq_true_eq]
  omega
set_option maxHeartbeats 1000000 in
theorem scI_any (p a u b : Int) (w : World) :
    Calls Try.prog 73 #[.agg #[.int .i64 p, .int .i64 a, .int .i64 u, .int .i64 b]] w fun e w' => e = .returned (.bool (scB p a u b)) ∧ Below w.heap.size w w' := by
  have hb := below_alloc (Below.refl w.heap.size w) (.cells #[.int .i64 p, .int .i64 a, .int .i64 u, .int .i64 b] 70)
  rcases h1 : inB p 0 99 with _ | _
  · go_enter Try.func73, Try.ntmps73
    go_wp2_with (go_at_call 43; refine (within_any _ _ _ _).mono ?_; rintro e w' ⟨rfl, rfl⟩)
    go_ret
    exact ⟨ret_bool (by rw [sc_eq, h1]; rfl), hb⟩
  · rcases h2 : inB a 0 1000000 with _ | _
    · go_enter Try.func73, Try.ntmps73
      go_wp2_with (go_at_call 43; refine (within_any _ _ _ _).mono ?_; rintro e w' ⟨rfl, rfl⟩)
      go_ret
      exact ⟨ret_bool (by rw [sc_eq, h1, h2]; rfl), hb⟩
    · rcases h3 : inB u 0 2000000 with _ | _
      · go_enter Try.func73, Try.ntmps73
        go_wp2_with (go_at_call 43; refine (within_any _ _ _ _).mono ?_; rintro e w' ⟨rfl, rfl⟩)
        go_ret
        exact ⟨ret_bool (by rw [sc_eq, h1, h2, h3]; rfl), hb⟩
      · rcases h4 : inB b 0 10 with _ | _
        all_goals
          go_enter Try.func73, Try.ntmps73
          go_wp2_with (go_at_call 43; refine (within_any _ _ _ _).mono ?_; rintro e w' ⟨rfl, rfl⟩)
          go_ret
          exact ⟨ret_bool (by rw [sc_eq, h1, h2, h3, h4]; rfl), hb⟩
end Go.Proofs.Ytanaeebjcbbagaa
namespace Go.Proofs.Ytanaeebjcbbagaa
open Go.RowKit
end Go.Proofs.Ytanaeebjcbbagaa
