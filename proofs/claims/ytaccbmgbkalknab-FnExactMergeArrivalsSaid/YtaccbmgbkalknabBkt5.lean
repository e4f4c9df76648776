/-
  Chapter 2: making and changing: what the program's functions and the model's return. Conditions: none; a contract says which case it speaks of.
-/
import Derived.Test.YtaccbmgbkalknabBkt2
import Derived.Deep.DeepCutAuto
namespace Go.Proofs.Ytaccbmgbkalknab
open Go.RowKit

theorem bv_new (r s n : Int) : bvB r s s n = (rbB r s && inB n 0 1000000) := by
  rw [Bool.eq_iff_iff]
  simp only [bvB, rbB, inB, Bool.and_eq_true, decide_eq_true_eq]
  omega
def cgB (r s l t n r2 s2 : Int) : Bool := rtB r s l t n && rbB r2 s2
theorem cg_of {r s l t n r2 s2 : Int} (h : cgB r s l t n r2 s2 = true) : rtB r s l t n = true ∧ rbB r2 s2 = true := by simpa [cgB] using h
theorem cg_no {r s l t n r2 s2 : Int} (h : cgB r s l t n r2 s2 = false) : rtB r s l t n = false ∨ (rtB r s l t n = true ∧ rbB r2 s2 = false) := by
  rcases h1 : rtB r s l t n with _ | _
  · exact .inl rfl
  · rw [cgB, h1, Bool.true_and] at h
    exact .inr ⟨rfl, h⟩
theorem cv_valid {r s l t n s2 : Int} (r2 : Int) (h : rtB r s l t n = true) : bvB r2 s2 (cv r s l t n s2) n = rbB r2 s2 := by
  have h1 := rt_of h
  have h2 := lv_bd h
  have h3 : (cv r s l t n s2 = lv r s l t n ∧ lv r s l t n ≤ s2) ∨ (cv r s l t n s2 = s2 ∧ s2 < lv r s l t n) := by
    unfold cv
    split <;> omega
  rw [Bool.eq_iff_iff]
  simp only [bvB, rbB, decide_eq_true_eq]
  omega
end Go.Proofs.Ytaccbmgbkalknab
