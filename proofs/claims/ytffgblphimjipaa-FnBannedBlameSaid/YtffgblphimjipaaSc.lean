/-
  Chapter 7: scores: what the program's functions and the model's return. Conditions: none; a contract says which case it speaks of.
-/
import Derived.Test.YtffgblphimjipaaC1
import Derived.WalkLawsBesides
namespace Go.Proofs.Ytffgblphimjipaa
open Go.RowKit

/-! The plain numbers -/
def scB (p a u b : Int) : Bool := decide (0 ≤ p ∧ p ≤ 99 ∧ 0 ≤ a ∧ a ≤ 1000000 ∧ 0 ≤ u ∧ u ≤ 2000000 ∧ 0 ≤ b ∧ b ≤ 10)
def stB (p a u b n : Int) : Bool := decide (0 ≤ p ∧ p ≤ 99 ∧ 0 ≤ a ∧ a ≤ n ∧ n ≤ 1000000 ∧ 0 ≤ u ∧ u ≤ 2000000 ∧ 0 ≤ b ∧ b ≤ 10)
def pt (p a n : Int) : Int := if 0 ≤ p - (n - a) then p - (n - a) else 0
def bl (b : Int) : Int := if b = 0 then 50 else if b = 1 then 100 else if b = 2 then 200 else if b = 3 then 400 else if b = 4 then 800 else if b = 5 then 1600
  else if b = 6 then 3200 else if b = 7 then 6400 else if b = 8 then 12800 else if b = 9 then 25600 else 51200
def mx (x y : Int) : Int := if y ≤ x then x else y
def nb (b : Int) : Int := if b + 1 ≤ 10 then b + 1 else 10
theorem sc_of {p a u b : Int} (h : scB p a u b = true) : 0 ≤ p ∧ p ≤ 99 ∧ 0 ≤ a ∧ a ≤ 1000000 ∧ 0 ≤ u ∧ u ≤ 2000000 ∧ 0 ≤ b ∧ b ≤ 10 := by simpa [scB] using h
theorem sc_mk {p a u b : Int} (h : 0 ≤ p ∧ p ≤ 99 ∧ 0 ≤ a ∧ a ≤ 1000000 ∧ 0 ≤ u ∧ u ≤ 2000000 ∧ 0 ≤ b ∧ b ≤ 10) : scB p a u b = true := by simpa [scB] using h
theorem st_of {p a u b n : Int} (h : stB p a u b n = true) : 0 ≤ p ∧ p ≤ 99 ∧ 0 ≤ a ∧ a ≤ n ∧ n ≤ 1000000 ∧ 0 ≤ u ∧ u ≤ 2000000 ∧ 0 ≤ b ∧ b ≤ 10 := by simpa [stB] using h
theorem st_mk {p a u b n : Int} (h : 0 ≤ p ∧ p ≤ 99 ∧ 0 ≤ a ∧ a ≤ n ∧ n ≤ 1000000 ∧ 0 ≤ u ∧ u ≤ 2000000 ∧ 0 ≤ b ∧ b ≤ 10) : stB p a u b n = true := by simpa [stB] using h
theorem st_no {p a u b n : Int} (h : ¬(0 ≤ p ∧ p ≤ 99 ∧ 0 ≤ a ∧ a ≤ n ∧ n ≤ 1000000 ∧ 0 ≤ u ∧ u ≤ 2000000 ∧ 0 ≤ b ∧ b ≤ 10)) : stB p a u b n = false := by
  rw [stB, decide_eq_false_iff_not]; exact h
theorem st_eq (p a u b n : Int) : stB p a u b n = (scB p a u b && inB n a 1000000) := by
  rw [Bool.eq_iff_iff]
  simp only [stB, scB, inB, Bool.and_eq_true, decide_eq_true_eq]
  omega
theorem st_eq2 (p a u b n : Int) : stB p a u b n = (scB p a u b && inB n 0 1000000 && decide (a ≤ n)) := by
  rw [Bool.eq_iff_iff]
  simp only [stB, scB, inB, Bool.and_eq_true, decide_eq_true_eq]
  omega
theorem st_at (p a u b : Int) : stB p a u b a = scB p a u b := by
  rw [Bool.eq_iff_iff]
  simp only [stB, scB, decide_eq_true_eq]
  omega
theorem sc_eq (p a u b : Int) : scB p a u b = (inB p 0 99 && inB a 0 1000000 && inB u 0 2000000 && inB b 0 10) := by
  rw [Bool.eq_iff_iff]
  simp only [scB, inB, Bool.and_eq_true, decide_eq_true_eq]
  omega
theorem sc_eq2 (p a u b : Int) : scB p a u b = (decide (0 ≤ p) && decide (p < 100) && inB a 0 1000000 && decide (0 ≤ u) && decide (u ≤ 2000000) && decide (0 ≤ b) && decide (b ≤ 10)) := by
  rw [Bool.eq_iff_iff]
  simp only [scB, inB, Bool.and_eq_true, decide_eq_true_eq]
  omega
theorem pt_bd {p a u b n : Int} (h : stB p a u b n = true) : 0 ≤ pt p a n ∧ pt p a n ≤ p := by
  have := st_of h
  unfold pt
  split <;> omega
theorem bl_bd (b : Int) : 50 ≤ bl b ∧ bl b ≤ 51200 := by
  unfold bl
  repeat' split
  all_goals omega
theorem bl_next {b : Int} (h : 0 ≤ b) (h2 : b < 10) : bl (b + 1) = 2 * bl b := by
  have : b = 0 ∨ b = 1 ∨ b = 2 ∨ b = 3 ∨ b = 4 ∨ b = 5 ∨ b = 6 ∨ b = 7 ∨ b = 8 ∨ b = 9 := by omega
  rcases this with rfl | rfl | rfl | rfl | rfl | rfl | rfl | rfl | rfl | rfl <;> rfl
theorem ret_sc {a b c d a2 b2 c2 d2 : Int} {o o2 : Bool} (h0 : a = a2) (h1 : b = b2) (h2 : c = c2) (h3 : d = d2) (h4 : o = o2) :
    Ending.returned (.tuple #[.agg #[.int .i64 a, .int .i64 b, .int .i64 c, .int .i64 d], .bool o]) = .returned (.tuple #[.agg #[.int .i64 a2, .int .i64 b2, .int .i64 c2, .int .i64 d2], .bool o2]) := by rw [h0, h1, h2, h3, h4]
theorem ret_sc3 {a b c d a2 b2 c2 d2 : Int} {o p : Bool} (h0 : a = a2) (h1 : b = b2) (h2 : c = c2) (h3 : d = d2) :
    Ending.returned (.tuple #[.agg #[.int .i64 a, .int .i64 b, .int .i64 c, .int .i64 d], .bool o, .bool p]) = .returned (.tuple #[.agg #[.int .i64 a2, .int .i64 b2, .int .i64 c2, .int .i64 d2], .bool o, .bool p]) := by rw [h0, h1, h2, h3]

/-! validity -/
set_option maxHeartbeats 1000000 in
theorem scI_any (p a u b : Int) (w : World) :
    Calls Try.prog 20 #[.agg #[.int .i64 p, .int .i64 a, .int .i64 u, .int .i64 b]] w fun e w' => e = .returned (.bool (scB p a u b)) ∧ Below w.heap.size w w' := by
  have hb := below_alloc (Below.refl w.heap.size w) (.cells #[.int .i64 p, .int .i64 a, .int .i64 u, .int .i64 b] 24)
  rcases h1 : inB p 0 99 with _ | _
  · go_enter Try.func20, Try.ntmps20
    go_wp2_with (go_at_call 39; refine (within_any _ _ _ _).mono ?_; rintro e w' ⟨rfl, rfl⟩)
    go_ret
    exact ⟨ret_bool (by rw [sc_eq, h1]; rfl), hb⟩
  · rcases h2 : inB a 0 1000000 with _ | _
    · go_enter Try.func20, Try.ntmps20
      go_wp2_with (go_at_call 39; refine (within_any _ _ _ _).mono ?_; rintro e w' ⟨rfl, rfl⟩)
      go_ret
      exact ⟨ret_bool (by rw [sc_eq, h1, h2]; rfl), hb⟩
    · rcases h3 : inB u 0 2000000 with _ | _
      · go_enter Try.func20, Try.ntmps20
        go_wp2_with (go_at_call 39; refine (within_any _ _ _ _).mono ?_; rintro e w' ⟨rfl, rfl⟩)
        go_ret
        exact ⟨ret_bool (by rw [sc_eq, h1, h2, h3]; rfl), hb⟩
      · rcases h4 : inB b 0 10 with _ | _
        all_goals
          go_enter Try.func20, Try.ntmps20
          go_wp2_with (go_at_call 39; refine (within_any _ _ _ _).mono ?_; rintro e w' ⟨rfl, rfl⟩)
          go_ret
          exact ⟨ret_bool (by rw [sc_eq, h1, h2, h3, h4]; rfl), hb⟩
theorem timeS_any (n : Int) (w : World) :
    Calls Try.prog 44 #[.int .i64 n] w fun e w' => e = .returned (.bool (inB n 0 1000000)) ∧ w = w' := by
  go_enter Try.func44, Try.ntmps44
  go_wp2
  all_goals go_ret
  all_goals refine ⟨ret_bool ?_, rfl⟩
  · rw [inB, decide_eq_decide]; omega
  · rw [inB, eq_comm, decide_eq_false_iff_not]; omega
set_option maxHeartbeats 2000000 in
theorem scS_any (p a u b : Int) (w : World) :
    Calls Try.prog 28 #[.agg #[.int .i64 p, .int .i64 a, .int .i64 u, .int .i64 b]] w fun e w' => e = .returned (.bool (scB p a u b)) ∧ Below w.heap.size w w' := by
  have hb := below_alloc (Below.refl w.heap.size w) (.cells #[.int .i64 p, .int .i64 a, .int .i64 u, .int .i64 b] 24)
  by_cases h1 : 0 ≤ p ∧ p < 100
  · obtain ⟨h1, h2⟩ := h1
    rcases h3 : inB a 0 1000000 with _ | _
    · have X : Hid (scB p a u b = false) := Lib.hid (by rw [sc_eq, h3]; simp)
      go_enter Try.func28, Try.ntmps28
      go_wp2_with (go_at_call 44; refine (timeS_any _ _).mono ?_; rintro e w' ⟨rfl, rfl⟩)
      go_ret
      exact ⟨ret_bool X.out.symm, hb⟩
    · have ha : 0 ≤ a ∧ a ≤ 1000000 := by simpa [inB] using h3
      have HA := Lib.hid ha
      clear ha
      go_enter Try.func28, Try.ntmps28
      go_wp2_with (go_at_call 44; refine (timeS_any _ _).mono ?_; rintro e w' ⟨rfl, rfl⟩)
      all_goals go_ret
      all_goals refine ⟨ret_bool ?_, hb⟩
      · have := HA.out; rw [scB, decide_eq_decide]; omega
      all_goals
        have := HA.out; rw [scB, eq_comm, decide_eq_false_iff_not]; omega
  · have X : Hid (scB p a u b = false) := Lib.hid (by rw [scB, decide_eq_false_iff_not]; omega)
    go_enter Try.func28, Try.ntmps28
    go_wp2
    all_goals go_ret
    all_goals exact ⟨ret_bool X.out.symm, hb⟩
set_option maxHeartbeats 1000000 in
theorem rightS_any (p a u b n : Int) (w : World) :
    Calls Try.prog 41 #[.agg #[.int .i64 p, .int .i64 a, .int .i64 u, .int .i64 b], .int .i64 n] w fun e w' => e = .returned (.bool (stB p a u b n)) ∧ Below w.heap.size w w' := by
  rcases h1 : scB p a u b with _ | _
  · go_enter Try.func41, Try.ntmps41
    go_wp2_with fail
    refine (scS_any p a u b _).mono ?_
    rintro e w1 ⟨rfl, hb⟩
    have hb1 := below_from (below_alloc (Below.refl w.heap.size w) (.cells #[.int .i64 p, .int .i64 a, .int .i64 u, .int .i64 b] 24)) hb (by simp)
    rw [h1]
    go_wp2
    go_ret
    exact ⟨ret_bool (by rw [st_eq2, h1]; rfl), hb1⟩
  · rcases h2 : inB n 0 1000000 with _ | _
    all_goals
      go_enter Try.func41, Try.ntmps41
      go_wp2_with fail
      refine (scS_any p a u b _).mono ?_
      rintro e w1 ⟨rfl, hb⟩
      have hb1 := below_from (below_alloc (Below.refl w.heap.size w) (.cells #[.int .i64 p, .int .i64 a, .int .i64 u, .int .i64 b] 24)) hb (by simp)
      have c1 : w1.cell? ⟨w.heap.size, 1, none⟩ = some (.int .i64 a) := ((bcell hb).1 _ 1 (by simp)).trans (blk_cell (blk_new w 24 #[.int .i64 p, .int .i64 a, .int .i64 u, .int .i64 b]) 1)
      rw [h1]
      have H := Lib.hid hb1
      have H1 := Lib.hid h1
      clear hb hb1 h1
      go_wp2_with (go_at_call 44; refine (timeS_any _ _).mono ?_; rintro e w' ⟨rfl, rfl⟩)
      go_ret
      exact ⟨ret_bool (by rw [st_eq2, H1.out, h2]; first | rfl | simp), H.out⟩
end Go.Proofs.Ytffgblphimjipaa
