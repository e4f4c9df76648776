/-
  Chapter 2: buckets: what the program's functions and the model's return. Conditions: none; a contract says which case it speaks of. Chapter 2: tokens: what the program's functions and the model's return. Conditions: none; a contract says which case it speaks of. Chapter 2: taking, giving, waiting, changing: what the program's functions and the model's return. Conditions: none; a contract says which case it speaks of. Chapter 2: making and changing: what the program's functions and the model's return. Conditions: none; a contract says which case it speaks of.
  Conditions: each lemma says them.
-/
import Derived.Test.YtiodhdcgfdlknaaKbZ2
import Derived.WalkLawsBesides
import Derived.Deep.DeepCutAuto
namespace Go.Proofs.Ytiodhdcgfdlknaa
open Go.RowKit
def rbB (r s : Int) : Bool := decide (0 ≤ r ∧ r ≤ 1000 ∧ 1 ≤ s ∧ s ≤ 10000)
def bvB (r s l t : Int) : Bool := decide (0 ≤ r ∧ r ≤ 1000 ∧ 1 ≤ s ∧ s ≤ 10000 ∧ 0 ≤ l ∧ l ≤ s ∧ 0 ≤ t ∧ t ≤ 1000000)
def rtB (r s l t n : Int) : Bool := decide (0 ≤ r ∧ r ≤ 1000 ∧ 1 ≤ s ∧ s ≤ 10000 ∧ 0 ≤ l ∧ l ≤ s ∧ 0 ≤ t ∧ t ≤ n ∧ n ≤ 1000000)
def lv (r s l t n : Int) : Int := if l + r * (n - t) ≤ s then l + r * (n - t) else s
def wt (r s l t n c : Int) : Int := if c ≤ lv r s l t n then 0 else (c - lv r s l t n + r - 1) / r
theorem rt_eq2 (r s l t n : Int) : rtB r s l t n = (bvB r s l t && inB n 0 1000000 && decide (t ≤ n)) := by
  rw [Bool.eq_iff_iff]
  simp only [rtB, bvB, inB, Bool.and_eq_true, decide_eq_true_eq]
  omega
theorem bv_eq (r s l t : Int) : bvB r s l t = (inB r 0 1000 && inB s 1 10000 && inB l 0 s && inB t 0 1000000) := by
  rw [Bool.eq_iff_iff]
  simp only [bvB, inB, Bool.and_eq_true, decide_eq_true_eq]
  omega
theorem bv_eq2 (r s l t : Int) : bvB r s l t = (rbB r s && decide (0 ≤ l) && decide (l ≤ s) && inB t 0 1000000) := by
  rw [Bool.eq_iff_iff]
  simp only [bvB, rbB, inB, Bool.and_eq_true, decide_eq_true_eq]
  omega
set_option maxHeartbeats 1000000 in
theorem bvI_any (r s l t : Int) (w : World) :
    Calls Try.prog 114 #[.agg #[.int .i64 r, .int .i64 s, .int .i64 l, .int .i64 t]] w fun e w' => e = .returned (.bool (bvB r s l t)) ∧ Below w.heap.size w w' := by
  have hb := below_alloc (Below.refl w.heap.size w) (.cells #[.int .i64 r, .int .i64 s, .int .i64 l, .int .i64 t] 32)
  rcases h1 : inB r 0 1000 with _ | _
  · go_enter Try.func114, Try.ntmps114
    go_wp2_with (go_at_call 76; refine (within_any _ _ _ _).mono ?_; rintro e w' ⟨rfl, rfl⟩)
    go_ret
    exact ⟨ret_bool (by rw [bv_eq, h1]; rfl), hb⟩
  · rcases h2 : inB s 1 10000 with _ | _
    · go_enter Try.func114, Try.ntmps114
      go_wp2_with (go_at_call 76; refine (within_any _ _ _ _).mono ?_; rintro e w' ⟨rfl, rfl⟩)
      go_ret
      exact ⟨ret_bool (by rw [bv_eq, h1, h2]; rfl), hb⟩
    · rcases h3 : inB l 0 s with _ | _
      · go_enter Try.func114, Try.ntmps114
        go_wp2_with (go_at_call 76; refine (within_any _ _ _ _).mono ?_; rintro e w' ⟨rfl, rfl⟩)
        go_ret
        exact ⟨ret_bool (by rw [bv_eq, h1, h2, h3]; rfl), hb⟩
      · rcases h4 : inB t 0 1000000 with _ | _
        all_goals
          go_enter Try.func114, Try.ntmps114
          go_wp2_with (go_at_call 76; refine (within_any _ _ _ _).mono ?_; rintro e w' ⟨rfl, rfl⟩)
          go_ret
          exact ⟨ret_bool (by rw [bv_eq, h1, h2, h3, h4]; rfl), hb⟩
theorem ratesS_any (r s : Int) (w : World) :
    Calls Try.prog 41 #[.int .i64 r, .int .i64 s] w fun e w' => e = .returned (.bool (rbB r s)) ∧ w = w' := by
  go_enter Try.func41, Try.ntmps41
  go_wp2
  all_goals go_ret
  all_goals refine ⟨ret_bool ?_, rfl⟩
  · rw [rbB, decide_eq_decide]; omega
  all_goals
    rw [rbB, eq_comm, decide_eq_false_iff_not]; omega
theorem bkTimeS_any (n : Int) (w : World) :
    Calls Try.prog 44 #[.int .i64 n] w fun e w' => e = .returned (.bool (inB n 0 1000000)) ∧ w = w' := by
  go_enter Try.func44, Try.ntmps44
  go_wp2
  all_goals go_ret
  all_goals refine ⟨ret_bool ?_, rfl⟩
  · rw [inB, decide_eq_decide]; omega
  · rw [inB, eq_comm, decide_eq_false_iff_not]; omega
set_option maxHeartbeats 1000000 in
theorem bvS_any (r s l t : Int) (w : World) :
    Calls Try.prog 106 #[.agg #[.int .i64 r, .int .i64 s, .int .i64 l, .int .i64 t]] w fun e w' => e = .returned (.bool (bvB r s l t)) ∧ Below w.heap.size w w' := by
  have hb := below_alloc (Below.refl w.heap.size w) (.cells #[.int .i64 r, .int .i64 s, .int .i64 l, .int .i64 t] 32)
  rcases h1 : rbB r s with _ | _
  · go_enter Try.func106, Try.ntmps106
    go_wp2_with (go_at_call 41; refine (ratesS_any _ _ _).mono ?_; rintro e w' ⟨rfl, rfl⟩)
    go_ret
    exact ⟨ret_bool (by rw [bv_eq2, h1]; rfl), hb⟩
  · by_cases h2 : 0 ≤ l
    · by_cases h3 : l ≤ s
      · go_enter Try.func106, Try.ntmps106
        go_wp2_with (first | (go_at_call 41; refine (ratesS_any _ _ _).mono ?_; rintro e w' ⟨rfl, rfl⟩) | (go_at_call 44; refine (bkTimeS_any _ _).mono ?_; rintro e w' ⟨rfl, rfl⟩))
        go_ret
        exact ⟨ret_bool (by rw [bv_eq2, h1, decide_eq_true h2, decide_eq_true h3]; rfl), hb⟩
      · have D := Lib.hid (decide_eq_false h3)
        go_enter Try.func106, Try.ntmps106
        go_wp2_with (go_at_call 41; refine (ratesS_any _ _ _).mono ?_; rintro e w' ⟨rfl, rfl⟩)
        go_ret
        exact ⟨ret_bool (by rw [bv_eq2, h1, D.out, Bool.and_false]; rfl), hb⟩
    · have D := Lib.hid (decide_eq_false h2)
      have D0 : decide (0 ≤ l) = false := D.out
      clear h2
      go_enter Try.func106, Try.ntmps106
      go_wp2_with (go_at_call 41; refine (ratesS_any _ _ _).mono ?_; rintro e w' ⟨rfl, rfl⟩)
      go_ret
      exact ⟨ret_bool (by rw [bv_eq2, h1, D.out, Bool.and_false]; rfl), hb⟩
set_option maxHeartbeats 1000000 in
theorem bkRightS_any (r s l t n : Int) (w : World) :
    Calls Try.prog 67 #[.agg #[.int .i64 r, .int .i64 s, .int .i64 l, .int .i64 t], .int .i64 n] w fun e w' => e = .returned (.bool (rtB r s l t n)) ∧ Below w.heap.size w w' := by
  rcases h1 : bvB r s l t with _ | _
  · go_enter Try.func67, Try.ntmps67
    go_wp2_with fail
    refine (bvS_any r s l t _).mono ?_
    rintro e w1 ⟨rfl, hb⟩
    have hb1 := below_from (below_alloc (Below.refl w.heap.size w) (.cells #[.int .i64 r, .int .i64 s, .int .i64 l, .int .i64 t] 32)) hb (by simp)
    rw [h1]
    go_wp2
    go_ret
    exact ⟨ret_bool (by rw [rt_eq2, h1]; rfl), hb1⟩
  · rcases h2 : inB n 0 1000000 with _ | _
    all_goals
      go_enter Try.func67, Try.ntmps67
      go_wp2_with fail
      refine (bvS_any r s l t _).mono ?_
      rintro e w1 ⟨rfl, hb⟩
      have hb1 := below_from (below_alloc (Below.refl w.heap.size w) (.cells #[.int .i64 r, .int .i64 s, .int .i64 l, .int .i64 t] 32)) hb (by simp)
      have c3 : w1.cell? ⟨w.heap.size, 3, none⟩ = some (.int .i64 t) := ((bcell hb).1 _ 3 (by simp)).trans (blk_cell (blk_new w 32 #[.int .i64 r, .int .i64 s, .int .i64 l, .int .i64 t]) 3)
      rw [h1]
      have H := Lib.hid hb1
      have H1 := Lib.hid h1
      clear hb hb1 h1
      go_wp2_with (go_at_call 44; refine (bkTimeS_any _ _).mono ?_; rintro e w' ⟨rfl, rfl⟩)
      go_ret
      exact ⟨ret_bool (by rw [rt_eq2, H1.out, h2]; first | rfl | simp), H.out⟩
end Go.Proofs.Ytiodhdcgfdlknaa
namespace Go.Proofs.Ytiodhdcgfdlknaa
open Go.RowKit
end Go.Proofs.Ytiodhdcgfdlknaa
namespace Go.Proofs.Ytiodhdcgfdlknaa
open Go.RowKit
end Go.Proofs.Ytiodhdcgfdlknaa
namespace Go.Proofs.Ytiodhdcgfdlknaa
open Go.RowKit
end Go.Proofs.Ytiodhdcgfdlknaa
