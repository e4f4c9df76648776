/-
  Chapter 2: buckets: what the program's functions and the model's return. Conditions: none; a contract says which case it speaks of.
-/
import Derived.Test.YtaccbmgbkalknabC1
import Derived.WalkLawsBesides
namespace Go.Proofs.Ytaccbmgbkalknab
open Go.RowKit

/-! The plain numbers -/
def rbB (r s : Int) : Bool := decide (0 ≤ r ∧ r ≤ 1000 ∧ 1 ≤ s ∧ s ≤ 10000)
def bvB (r s l t : Int) : Bool := decide (0 ≤ r ∧ r ≤ 1000 ∧ 1 ≤ s ∧ s ≤ 10000 ∧ 0 ≤ l ∧ l ≤ s ∧ 0 ≤ t ∧ t ≤ 1000000)
def rtB (r s l t n : Int) : Bool := decide (0 ≤ r ∧ r ≤ 1000 ∧ 1 ≤ s ∧ s ≤ 10000 ∧ 0 ≤ l ∧ l ≤ s ∧ 0 ≤ t ∧ t ≤ n ∧ n ≤ 1000000)
def lv (r s l t n : Int) : Int := if l + r * (n - t) ≤ s then l + r * (n - t) else s
def gv (r s l t n c : Int) : Int := if c ≤ s - lv r s l t n then lv r s l t n + c else s
def wt (r s l t n c : Int) : Int := if c ≤ lv r s l t n then 0 else (c - lv r s l t n + r - 1) / r
def wtB (r s l t n c : Int) : Bool := rtB r s l t n && decide (0 ≤ c ∧ c ≤ s ∧ (c ≤ lv r s l t n ∨ 0 < r))
def cv (r s l t n s2 : Int) : Int := if lv r s l t n ≤ s2 then lv r s l t n else s2
theorem rb_of {r s : Int} (h : rbB r s = true) : 0 ≤ r ∧ r ≤ 1000 ∧ 1 ≤ s ∧ s ≤ 10000 := by simpa [rbB] using h
theorem bv_of {r s l t : Int} (h : bvB r s l t = true) : 0 ≤ r ∧ r ≤ 1000 ∧ 1 ≤ s ∧ s ≤ 10000 ∧ 0 ≤ l ∧ l ≤ s ∧ 0 ≤ t ∧ t ≤ 1000000 := by simpa [bvB] using h
theorem bv_mk {r s l t : Int} (h : 0 ≤ r ∧ r ≤ 1000 ∧ 1 ≤ s ∧ s ≤ 10000 ∧ 0 ≤ l ∧ l ≤ s ∧ 0 ≤ t ∧ t ≤ 1000000) : bvB r s l t = true := by simpa [bvB] using h
theorem bv_no {r s l t : Int} (h : ¬(0 ≤ r ∧ r ≤ 1000 ∧ 1 ≤ s ∧ s ≤ 10000 ∧ 0 ≤ l ∧ l ≤ s ∧ 0 ≤ t ∧ t ≤ 1000000)) : bvB r s l t = false := by
  rw [bvB, decide_eq_false_iff_not]; exact h
theorem rt_of {r s l t n : Int} (h : rtB r s l t n = true) : 0 ≤ r ∧ r ≤ 1000 ∧ 1 ≤ s ∧ s ≤ 10000 ∧ 0 ≤ l ∧ l ≤ s ∧ 0 ≤ t ∧ t ≤ n ∧ n ≤ 1000000 := by simpa [rtB] using h
theorem rt_mk {r s l t n : Int} (h : 0 ≤ r ∧ r ≤ 1000 ∧ 1 ≤ s ∧ s ≤ 10000 ∧ 0 ≤ l ∧ l ≤ s ∧ 0 ≤ t ∧ t ≤ n ∧ n ≤ 1000000) : rtB r s l t n = true := by simpa [rtB] using h
theorem rt_no {r s l t n : Int} (h : ¬(0 ≤ r ∧ r ≤ 1000 ∧ 1 ≤ s ∧ s ≤ 10000 ∧ 0 ≤ l ∧ l ≤ s ∧ 0 ≤ t ∧ t ≤ n ∧ n ≤ 1000000)) : rtB r s l t n = false := by
  rw [rtB, decide_eq_false_iff_not]; exact h
theorem rt_eq (r s l t n : Int) : rtB r s l t n = (bvB r s l t && inB n t 1000000) := by
  rw [Bool.eq_iff_iff]
  simp only [rtB, bvB, inB, Bool.and_eq_true, decide_eq_true_eq]
  omega
theorem rt_eq2 (r s l t n : Int) : rtB r s l t n = (bvB r s l t && inB n 0 1000000 && decide (t ≤ n)) := by
  rw [Bool.eq_iff_iff]
  simp only [rtB, bvB, inB, Bool.and_eq_true, decide_eq_true_eq]
  omega
theorem bv_eq (r s l t : Int) : bvB r s l t = (inB r 0 1000 && inB s 1 10000 && inB l 0 s && inB t 0 1000000) := by
  rw [Bool.eq_iff_iff]
  simp only [bvB, inB, Bool.and_eq_true, decide_eq_true_eq]
  omega
theorem bv_eq2 (r s l t : Int) : bvB r s l t = (rbB r s && decide (0 ≤ l) && decide (l ≤ s) && inB t 0 1000000) := by
  rw [Bool.eq_iff_iff]
  simp only [bvB, rbB, inB, Bool.and_eq_true, decide_eq_true_eq]
  omega
/-- what comes in is bounded -/
theorem gain {r t n : Int} (h : 0 ≤ r ∧ r ≤ 1000) (ht : 0 ≤ t ∧ t ≤ n ∧ n ≤ 1000000) : 0 ≤ r * (n - t) ∧ r * (n - t) ≤ 1000000000 := by
  refine ⟨Int.mul_nonneg h.1 (by omega), ?_⟩
  have := Int.mul_le_mul h.2 (show n - t ≤ 1000000 by omega) (by omega) (by omega)
  omega
theorem gain_rt {r s l t n : Int} (h : rtB r s l t n = true) : 0 ≤ r * (n - t) ∧ r * (n - t) ≤ 1000000000 := by
  have := rt_of h
  exact gain (by omega) (by omega)
theorem lv_bd {r s l t n : Int} (h : rtB r s l t n = true) : l ≤ lv r s l t n ∧ 0 ≤ lv r s l t n ∧ lv r s l t n ≤ s := by
  have h1 := rt_of h
  have h2 := gain_rt h
  unfold lv
  split <;> omega
theorem ret_bk {a b c d a2 b2 c2 d2 : Int} {o o2 : Bool} (h0 : a = a2) (h1 : b = b2) (h2 : c = c2) (h3 : d = d2) (h4 : o = o2) :
    Ending.returned (.tuple #[.agg #[.int .i64 a, .int .i64 b, .int .i64 c, .int .i64 d], .bool o]) = .returned (.tuple #[.agg #[.int .i64 a2, .int .i64 b2, .int .i64 c2, .int .i64 d2], .bool o2]) := by rw [h0, h1, h2, h3, h4]

/-! validity -/
end Go.Proofs.Ytaccbmgbkalknab
