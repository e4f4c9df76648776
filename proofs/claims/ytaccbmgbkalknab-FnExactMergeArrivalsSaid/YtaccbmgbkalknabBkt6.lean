/-
  Chapter 2: waiting: what the program's functions and the model's return. Conditions: none; a contract says which case it speaks of.
-/
import Derived.Test.YtaccbmgbkalknabBkt2
import Derived.Deep.DeepCutAuto
namespace Go.Proofs.Ytaccbmgbkalknab
open Go.RowKit

theorem wt_of {r s l t n c : Int} (h : wtB r s l t n c = true) : rtB r s l t n = true ∧ 0 ≤ c ∧ c ≤ s ∧ (c ≤ lv r s l t n ∨ 0 < r) := by
  simpa [wtB] using h
theorem wt_no {r s l t n c : Int} (h : wtB r s l t n c = false) : rtB r s l t n = false ∨ (rtB r s l t n = true ∧ (c < 0 ∨ s < c)) ∨ (rtB r s l t n = true ∧ 0 ≤ c ∧ c ≤ s ∧ lv r s l t n < c ∧ r = 0) := by
  rcases h1 : rtB r s l t n with _ | _
  · exact .inl rfl
  · have h2 := rt_of h1
    rw [wtB, h1, Bool.true_and, decide_eq_false_iff_not] at h
    by_cases hc : 0 ≤ c ∧ c ≤ s
    · exact .inr (.inr ⟨rfl, hc.1, hc.2, by omega, by omega⟩)
    · exact .inr (.inl ⟨rfl, by omega⟩)
theorem in_no {c s : Int} (h : c < 0 ∨ s < c) : inB c 0 s = false := by
  rw [inB, decide_eq_false_iff_not]; omega
theorem in_yes {c s : Int} (h : 0 ≤ c ∧ c ≤ s) : inB c 0 s = true := by
  rw [inB, decide_eq_true_eq]; exact h
end Go.Proofs.Ytaccbmgbkalknab
