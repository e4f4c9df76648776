/-
  Chapter 2: tokens: what the program's functions and the model's return. Conditions: none; a contract says which case it speaks of.
-/
import Derived.Test.YtaccbmgbkalknabBkt
namespace Go.Proofs.Ytaccbmgbkalknab
open Go.RowKit

/-! refilled, l2Level -/
def levN (r s l t n : Int) : Int := if rtB r s l t n = true then lv r s l t n else 0
theorem levN_yes {r s l t n : Int} (h : rtB r s l t n = true) : levN r s l t n = lv r s l t n := if_pos h
theorem levN_no {r s l t n : Int} (h : rtB r s l t n = false) : levN r s l t n = 0 := if_neg (by rw [h]; exact Bool.false_ne_true)
def tkB (r s l t n c : Int) : Bool := rtB r s l t n && decide (0 ≤ c)
theorem tk_of {r s l t n c : Int} (h : tkB r s l t n c = true) : rtB r s l t n = true ∧ 0 ≤ c := by simpa [tkB] using h
theorem tk_no {r s l t n c : Int} (h : tkB r s l t n c = false) : rtB r s l t n = false ∨ (rtB r s l t n = true ∧ c < 0) := by
  rcases h1 : rtB r s l t n with _ | _
  · exact .inl rfl
  · rw [tkB, h1, Bool.true_and, decide_eq_false_iff_not] at h
    exact .inr ⟨rfl, by omega⟩
end Go.Proofs.Ytaccbmgbkalknab
