/-
  Chapter 2: buckets: what the program's functions and the model's return. Conditions: none; a contract says which case it speaks of.
-/
import Derived.Test.YtclgmmnidkppmabC1
import Derived.WalkLawsBesides
namespace Go.Proofs.Ytclgmmnidkppmab
open Go.RowKit

/-! The plain numbers -/
def rbB (r s : Int) : Bool := decide (0 ≤ r ∧ r ≤ 1000 ∧ 1 ≤ s ∧ s ≤ 10000)
def bvB (r s l t : Int) : Bool := decide (0 ≤ r ∧ r ≤ 1000 ∧ 1 ≤ s ∧ s ≤ 10000 ∧ 0 ≤ l ∧ l ≤ s ∧ 0 ≤ t ∧ t ≤ 1000000)
def rtB (r s l t n : Int) : Bool := decide (0 ≤ r ∧ r ≤ 1000 ∧ 1 ≤ s ∧ s ≤ 10000 ∧ 0 ≤ l ∧ l ≤ s ∧ 0 ≤ t ∧ t ≤ n ∧ n ≤ 1000000)
def lv (r s l t n : Int) : Int := if l + r * (n - t) ≤ s then l + r * (n - t) else s
def gv (r s l t n c : Int) : Int := if c ≤ s - lv r s l t n then lv r s l t n + c else s
def wt (r s l t n c : Int) : Int := if c ≤ lv r s l t n then 0 else (c - lv r s l t n + r - 1) / r
def wtB (r s l t n c : Int) : Bool := rtB r s l t n && decide (0 ≤ c ∧ c ≤ s ∧ (c ≤ lv r s l t n ∨ 0 < r))
def cv (r s l t n s2 : Int) : Int := if lv r s l t n ≤ s2 then lv r s l t n else s2
theorem rb_of {r s : Int} (h : rbB r s = true) : 0 ≤ r ∧ r ≤ 1000 ∧ 1 ≤ s ∧ s ≤ 10000 := by simpa [rbB] using h
theorem bv_of {r s l t : Int} (h : bvB r s l t = true) : 0 ≤ r ∧ r ≤ 1000 ∧ 1 ≤ s ∧ s ≤ 10000 ∧ 0 ≤ l ∧ l ≤ s ∧ 0 ≤ t ∧ t ≤ 1000000 := by simpa [bvB] using h
theorem bv_mk {r s l t : Int} (h : 0 ≤ r ∧ r ≤ 1000 ∧ 1 ≤ s ∧ s ≤ 10000 ∧ 0 ≤ l ∧ l ≤ s ∧ 0 ≤ t ∧ t ≤ 1000000) : bvB r s l t = true := by simpa [bvB] using h
theorem bv_no {r s l t : Int} (h : ¬(0 ≤ r ∧ r ≤ 1000 ∧ 1 ≤ s ∧ s ≤ 10000 ∧ 0 ≤ l ∧ l ≤ s ∧ 0 ≤ t ∧ t ≤ 1000000)) : bvB r s l t = false := by
  rw [bvB, decide_eq_false_iff_not]; exact h
theorem rt_of {r s l t n : Int} (h : rtB r s l t n = true) : 0 ≤ r ∧ r ≤ 1000 ∧ 1 ≤ s ∧ s ≤ 10000 ∧ 0 ≤ l ∧ l ≤ s ∧ 0 ≤ t ∧ t ≤ n ∧ n ≤ 1000000 := by simpa [rtB] using h
theorem rt_mk {r s l t n : Int} (h : 0 ≤ r ∧ r ≤ 1000 ∧ 1 ≤ s ∧ s ≤ 10000 ∧ 0 ≤ l ∧ l ≤ s ∧ 0 ≤ t ∧ t ≤ n ∧ n ≤ 1000000) : rtB r s l t n = true := by simpa [rtB] using h
theorem rt_no {r s l t n : Int} (h : ¬(0 ≤ r ∧ r ≤ 1000 ∧ 1 ≤ s ∧ s ≤ 10000 ∧ 0 ≤ l ∧ l ≤ s ∧ 0 ≤ t ∧ t ≤ n ∧ n ≤ 1000000)) : rtB r s l t n = false := by
  rw [rtB, decide_eq_false_iff_not]; exact h
theorem rt_eq (r s l t n : Int) : rtB r s l t n = (bvB r s l t && inB n t 1000000) := by
  rw [Bool.eq_iff_iff]
  simp only [rtB, bvB, inB, Bool.and_eq_true, decide_eq_true_eq]
  omega
theorem rt_eq2 (r s l t n : Int) : rtB r s l t n = (bvB r s l t && inB n 0 1000000 && decide (t ≤ n)) := by
  rw [Bool.eq_iff_iff]
  simp only [rtB, bvB, inB, Bool.and_eq_true, decide_eq_true_eq]
  omega
theorem bv_eq (r s l t : Int) : bvB r s l t = (inB r 0 1000 && inB s 1 10000 && inB l 0 s && inB t 0 1000000) := by
  rw [Bool.eq_iff_iff]
  simp only [bvB, inB, Bool.and_eq_true, decide_eq_true_eq]
  omega
theorem bv_eq2 (r s l t : Int) : bvB r s l t = (rbB r s && decide (0 ≤ l) && decide (l ≤ s) && inB t 0 1000000) := by
  rw [Bool.eq_iff_iff]
  simp only [bvB, rbB, inB, Bool.and_eq_true, decide_eq_true_eq]
  omega
/-- what comes in is bounded -/
theorem gain {r t n : Int} (h : 0 ≤ r ∧ r ≤ 1000) (ht : 0 ≤ t ∧ t ≤ n ∧ n ≤ 1000000) : 0 ≤ r * (n - t) ∧ r * (n - t) ≤ 1000000000 := by
  refine ⟨Int.mul_nonneg h.1 (by omega), ?_⟩
  have := Int.mul_le_mul h.2 (show n - t ≤ 1000000 by omega) (by omega) (by omega)
  omega
theorem gain_rt {r s l t n : Int} (h : rtB r s l t n = true) : 0 ≤ r * (n - t) ∧ r * (n - t) ≤ 1000000000 := by
  have := rt_of h
  exact gain (by omega) (by omega)
theorem lv_bd {r s l t n : Int} (h : rtB r s l t n = true) : l ≤ lv r s l t n ∧ 0 ≤ lv r s l t n ∧ lv r s l t n ≤ s := by
  have h1 := rt_of h
  have h2 := gain_rt h
  unfold lv
  split <;> omega
theorem ret_bk {a b c d a2 b2 c2 d2 : Int} {o o2 : Bool} (h0 : a = a2) (h1 : b = b2) (h2 : c = c2) (h3 : d = d2) (h4 : o = o2) :
    Ending.returned (.tuple #[.agg #[.int .i64 a, .int .i64 b, .int .i64 c, .int .i64 d], .bool o]) = .returned (.tuple #[.agg #[.int .i64 a2, .int .i64 b2, .int .i64 c2, .int .i64 d2], .bool o2]) := by rw [h0, h1, h2, h3, h4]

/-! validity -/
set_option maxHeartbeats 1000000 in
theorem bvI_any (r s l t : Int) (w : World) :
    Calls Try.prog 71 #[.agg #[.int .i64 r, .int .i64 s, .int .i64 l, .int .i64 t]] w fun e w' => e = .returned (.bool (bvB r s l t)) ∧ Below w.heap.size w w' := by
  have hb := below_alloc (Below.refl w.heap.size w) (.cells #[.int .i64 r, .int .i64 s, .int .i64 l, .int .i64 t] 62)
  rcases h1 : inB r 0 1000 with _ | _
  · go_enter Try.func71, Try.ntmps71
    go_wp2_with (go_at_call 41; refine (within_any _ _ _ _).mono ?_; rintro e w' ⟨rfl, rfl⟩)
    go_ret
    exact ⟨ret_bool (by rw [bv_eq, h1]; rfl), hb⟩
  · rcases h2 : inB s 1 10000 with _ | _
    · go_enter Try.func71, Try.ntmps71
      go_wp2_with (go_at_call 41; refine (within_any _ _ _ _).mono ?_; rintro e w' ⟨rfl, rfl⟩)
      go_ret
      exact ⟨ret_bool (by rw [bv_eq, h1, h2]; rfl), hb⟩
    · rcases h3 : inB l 0 s with _ | _
      · go_enter Try.func71, Try.ntmps71
        go_wp2_with (go_at_call 41; refine (within_any _ _ _ _).mono ?_; rintro e w' ⟨rfl, rfl⟩)
        go_ret
        exact ⟨ret_bool (by rw [bv_eq, h1, h2, h3]; rfl), hb⟩
      · rcases h4 : inB t 0 1000000 with _ | _
        all_goals
          go_enter Try.func71, Try.ntmps71
          go_wp2_with (go_at_call 41; refine (within_any _ _ _ _).mono ?_; rintro e w' ⟨rfl, rfl⟩)
          go_ret
          exact ⟨ret_bool (by rw [bv_eq, h1, h2, h3, h4]; rfl), hb⟩
theorem ratesS_any (r s : Int) (w : World) :
    Calls Try.prog 50 #[.int .i64 r, .int .i64 s] w fun e w' => e = .returned (.bool (rbB r s)) ∧ w = w' := by
  go_enter Try.func50, Try.ntmps50
  go_wp2
  all_goals go_ret
  all_goals refine ⟨ret_bool ?_, rfl⟩
  · rw [rbB, decide_eq_decide]; omega
  all_goals
    rw [rbB, eq_comm, decide_eq_false_iff_not]; omega
theorem timeS_any (n : Int) (w : World) :
    Calls Try.prog 73 #[.int .i64 n] w fun e w' => e = .returned (.bool (inB n 0 1000000)) ∧ w = w' := by
  go_enter Try.func73, Try.ntmps73
  go_wp2
  all_goals go_ret
  all_goals refine ⟨ret_bool ?_, rfl⟩
  · rw [inB, decide_eq_decide]; omega
  · rw [inB, eq_comm, decide_eq_false_iff_not]; omega
set_option maxHeartbeats 1000000 in
theorem bvS_any (r s l t : Int) (w : World) :
    Calls Try.prog 72 #[.agg #[.int .i64 r, .int .i64 s, .int .i64 l, .int .i64 t]] w fun e w' => e = .returned (.bool (bvB r s l t)) ∧ Below w.heap.size w w' := by
  have hb := below_alloc (Below.refl w.heap.size w) (.cells #[.int .i64 r, .int .i64 s, .int .i64 l, .int .i64 t] 62)
  rcases h1 : rbB r s with _ | _
  · go_enter Try.func72, Try.ntmps72
    go_wp2_with (go_at_call 50; refine (ratesS_any _ _ _).mono ?_; rintro e w' ⟨rfl, rfl⟩)
    go_ret
    exact ⟨ret_bool (by rw [bv_eq2, h1]; rfl), hb⟩
  · by_cases h2 : 0 ≤ l
    · by_cases h3 : l ≤ s
      · go_enter Try.func72, Try.ntmps72
        go_wp2_with (first | (go_at_call 50; refine (ratesS_any _ _ _).mono ?_; rintro e w' ⟨rfl, rfl⟩) | (go_at_call 73; refine (timeS_any _ _).mono ?_; rintro e w' ⟨rfl, rfl⟩))
        go_ret
        exact ⟨ret_bool (by rw [bv_eq2, h1, decide_eq_true h2, decide_eq_true h3]; rfl), hb⟩
      · have D := Lib.hid (decide_eq_false h3)
        go_enter Try.func72, Try.ntmps72
        go_wp2_with (go_at_call 50; refine (ratesS_any _ _ _).mono ?_; rintro e w' ⟨rfl, rfl⟩)
        go_ret
        exact ⟨ret_bool (by rw [bv_eq2, h1, D.out, Bool.and_false]; rfl), hb⟩
    · have D := Lib.hid (decide_eq_false h2)
      have D0 : decide (0 ≤ l) = false := D.out
      clear h2
      go_enter Try.func72, Try.ntmps72
      go_wp2_with (go_at_call 50; refine (ratesS_any _ _ _).mono ?_; rintro e w' ⟨rfl, rfl⟩)
      go_ret
      exact ⟨ret_bool (by rw [bv_eq2, h1, D.out, Bool.and_false]; rfl), hb⟩
set_option maxHeartbeats 1000000 in
theorem rightS_any (r s l t n : Int) (w : World) :
    Calls Try.prog 66 #[.agg #[.int .i64 r, .int .i64 s, .int .i64 l, .int .i64 t], .int .i64 n] w fun e w' => e = .returned (.bool (rtB r s l t n)) ∧ Below w.heap.size w w' := by
  rcases h1 : bvB r s l t with _ | _
  · go_enter Try.func66, Try.ntmps66
    go_wp2_with fail
    refine (bvS_any r s l t _).mono ?_
    rintro e w1 ⟨rfl, hb⟩
    have hb1 := below_from (below_alloc (Below.refl w.heap.size w) (.cells #[.int .i64 r, .int .i64 s, .int .i64 l, .int .i64 t] 62)) hb (by simp)
    rw [h1]
    go_wp2
    go_ret
    exact ⟨ret_bool (by rw [rt_eq2, h1]; rfl), hb1⟩
  · rcases h2 : inB n 0 1000000 with _ | _
    all_goals
      go_enter Try.func66, Try.ntmps66
      go_wp2_with fail
      refine (bvS_any r s l t _).mono ?_
      rintro e w1 ⟨rfl, hb⟩
      have hb1 := below_from (below_alloc (Below.refl w.heap.size w) (.cells #[.int .i64 r, .int .i64 s, .int .i64 l, .int .i64 t] 62)) hb (by simp)
      have c3 : w1.cell? ⟨w.heap.size, 3, none⟩ = some (.int .i64 t) := ((bcell hb).1 _ 3 (by simp)).trans (blk_cell (blk_new w 62 #[.int .i64 r, .int .i64 s, .int .i64 l, .int .i64 t]) 3)
      rw [h1]
      have H := Lib.hid hb1
      have H1 := Lib.hid h1
      clear hb hb1 h1
      go_wp2_with (go_at_call 73; refine (timeS_any _ _).mono ?_; rintro e w' ⟨rfl, rfl⟩)
      go_ret
      exact ⟨ret_bool (by rw [rt_eq2, H1.out, h2]; first | rfl | simp), H.out⟩
end Go.Proofs.Ytclgmmnidkppmab
