/-
  Chapter 7: scores: what the program's functions and the model's return. Conditions: none; a contract says which case it speaks of. Chapter 7: points, bans and blame: what the program's functions and the model's return. Conditions: none; a contract says which case it speaks of.
  Conditions: each lemma says them.
-/
import Derived.Test.YtiodhdcgfdlknaaKbZ2
import Derived.WalkLawsBesides
import Derived.Deep.DeepCutAuto
namespace Go.Proofs.Ytiodhdcgfdlknaa
open Go.RowKit
def scB (p a u b : Int) : Bool := decide (0 ≤ p ∧ p ≤ 99 ∧ 0 ≤ a ∧ a ≤ 1000000 ∧ 0 ≤ u ∧ u ≤ 2000000 ∧ 0 ≤ b ∧ b ≤ 10)
def stB (p a u b n : Int) : Bool := decide (0 ≤ p ∧ p ≤ 99 ∧ 0 ≤ a ∧ a ≤ n ∧ n ≤ 1000000 ∧ 0 ≤ u ∧ u ≤ 2000000 ∧ 0 ≤ b ∧ b ≤ 10)
def bl (b : Int) : Int := if b = 0 then 50 else if b = 1 then 100 else if b = 2 then 200 else if b = 3 then 400 else if b = 4 then 800 else if b = 5 then 1600
  else if b = 6 then 3200 else if b = 7 then 6400 else if b = 8 then 12800 else if b = 9 then 25600 else 51200
def nb (b : Int) : Int := if b + 1 ≤ 10 then b + 1 else 10
theorem st_eq2 (p a u b n : Int) : stB p a u b n = (scB p a u b && inB n 0 1000000 && decide (a ≤ n)) := by
  rw [Bool.eq_iff_iff]
  simp only [stB, scB, inB, Bool.and_eq_true, decide_eq_true_eq]
  omega
theorem sc_eq (p a u b : Int) : scB p a u b = (inB p 0 99 && inB a 0 1000000 && inB u 0 2000000 && inB b 0 10) := by
  rw [Bool.eq_iff_iff]
  simp only [scB, inB, Bool.and_eq_true, decide_eq_true_eq]
  omega
set_option maxHeartbeats 1000000 in
theorem scI_any (p a u b : Int) (w : World) :
    Calls Try.prog 115 #[.agg #[.int .i64 p, .int .i64 a, .int .i64 u, .int .i64 b]] w fun e w' => e = .returned (.bool (scB p a u b)) ∧ Below w.heap.size w w' := by
  have hb := below_alloc (Below.refl w.heap.size w) (.cells #[.int .i64 p, .int .i64 a, .int .i64 u, .int .i64 b] 84)
  rcases h1 : inB p 0 99 with _ | _
  · go_enter Try.func115, Try.ntmps115
    go_wp2_with (go_at_call 76; refine (within_any _ _ _ _).mono ?_; rintro e w' ⟨rfl, rfl⟩)
    go_ret
    exact ⟨ret_bool (by rw [sc_eq, h1]; rfl), hb⟩
  · rcases h2 : inB a 0 1000000 with _ | _
    · go_enter Try.func115, Try.ntmps115
      go_wp2_with (go_at_call 76; refine (within_any _ _ _ _).mono ?_; rintro e w' ⟨rfl, rfl⟩)
      go_ret
      exact ⟨ret_bool (by rw [sc_eq, h1, h2]; rfl), hb⟩
    · rcases h3 : inB u 0 2000000 with _ | _
      · go_enter Try.func115, Try.ntmps115
        go_wp2_with (go_at_call 76; refine (within_any _ _ _ _).mono ?_; rintro e w' ⟨rfl, rfl⟩)
        go_ret
        exact ⟨ret_bool (by rw [sc_eq, h1, h2, h3]; rfl), hb⟩
      · rcases h4 : inB b 0 10 with _ | _
        all_goals
          go_enter Try.func115, Try.ntmps115
          go_wp2_with (go_at_call 76; refine (within_any _ _ _ _).mono ?_; rintro e w' ⟨rfl, rfl⟩)
          go_ret
          exact ⟨ret_bool (by rw [sc_eq, h1, h2, h3, h4]; rfl), hb⟩
theorem scTimeS_any (n : Int) (w : World) :
    Calls Try.prog 44 #[.int .i64 n] w fun e w' => e = .returned (.bool (inB n 0 1000000)) ∧ w = w' := by
  go_enter Try.func44, Try.ntmps44
  go_wp2
  all_goals go_ret
  all_goals refine ⟨ret_bool ?_, rfl⟩
  · rw [inB, decide_eq_decide]; omega
  · rw [inB, eq_comm, decide_eq_false_iff_not]; omega
set_option maxHeartbeats 2000000 in
theorem scS_any (p a u b : Int) (w : World) :
    Calls Try.prog 109 #[.agg #[.int .i64 p, .int .i64 a, .int .i64 u, .int .i64 b]] w fun e w' => e = .returned (.bool (scB p a u b)) ∧ Below w.heap.size w w' := by
  have hb := below_alloc (Below.refl w.heap.size w) (.cells #[.int .i64 p, .int .i64 a, .int .i64 u, .int .i64 b] 84)
  by_cases h1 : 0 ≤ p ∧ p < 100
  · obtain ⟨h1, h2⟩ := h1
    rcases h3 : inB a 0 1000000 with _ | _
    · have X : Hid (scB p a u b = false) := Lib.hid (by rw [sc_eq, h3]; simp)
      go_enter Try.func109, Try.ntmps109
      go_wp2_with (go_at_call 44; refine (scTimeS_any _ _).mono ?_; rintro e w' ⟨rfl, rfl⟩)
      go_ret
      exact ⟨ret_bool X.out.symm, hb⟩
    · have ha : 0 ≤ a ∧ a ≤ 1000000 := by simpa [inB] using h3
      have HA := Lib.hid ha
      clear ha
      go_enter Try.func109, Try.ntmps109
      go_wp2_with (go_at_call 44; refine (scTimeS_any _ _).mono ?_; rintro e w' ⟨rfl, rfl⟩)
      all_goals go_ret
      all_goals refine ⟨ret_bool ?_, hb⟩
      · have := HA.out; rw [scB, decide_eq_decide]; omega
      all_goals
        have := HA.out; rw [scB, eq_comm, decide_eq_false_iff_not]; omega
  · have X : Hid (scB p a u b = false) := Lib.hid (by rw [scB, decide_eq_false_iff_not]; omega)
    go_enter Try.func109, Try.ntmps109
    go_wp2
    all_goals go_ret
    all_goals exact ⟨ret_bool X.out.symm, hb⟩
set_option maxHeartbeats 1000000 in
theorem scRightS_any (p a u b n : Int) (w : World) :
    Calls Try.prog 69 #[.agg #[.int .i64 p, .int .i64 a, .int .i64 u, .int .i64 b], .int .i64 n] w fun e w' => e = .returned (.bool (stB p a u b n)) ∧ Below w.heap.size w w' := by
  rcases h1 : scB p a u b with _ | _
  · go_enter Try.func69, Try.ntmps69
    go_wp2_with fail
    refine (scS_any p a u b _).mono ?_
    rintro e w1 ⟨rfl, hb⟩
    have hb1 := below_from (below_alloc (Below.refl w.heap.size w) (.cells #[.int .i64 p, .int .i64 a, .int .i64 u, .int .i64 b] 84)) hb (by simp)
    rw [h1]
    go_wp2
    go_ret
    exact ⟨ret_bool (by rw [st_eq2, h1]; rfl), hb1⟩
  · rcases h2 : inB n 0 1000000 with _ | _
    all_goals
      go_enter Try.func69, Try.ntmps69
      go_wp2_with fail
      refine (scS_any p a u b _).mono ?_
      rintro e w1 ⟨rfl, hb⟩
      have hb1 := below_from (below_alloc (Below.refl w.heap.size w) (.cells #[.int .i64 p, .int .i64 a, .int .i64 u, .int .i64 b] 84)) hb (by simp)
      have c1 : w1.cell? ⟨w.heap.size, 1, none⟩ = some (.int .i64 a) := ((bcell hb).1 _ 1 (by simp)).trans (blk_cell (blk_new w 84 #[.int .i64 p, .int .i64 a, .int .i64 u, .int .i64 b]) 1)
      rw [h1]
      have H := Lib.hid hb1
      have H1 := Lib.hid h1
      clear hb hb1 h1
      go_wp2_with (go_at_call 44; refine (scTimeS_any _ _).mono ?_; rintro e w' ⟨rfl, rfl⟩)
      go_ret
      exact ⟨ret_bool (by rw [st_eq2, H1.out, h2]; first | rfl | simp), H.out⟩
end Go.Proofs.Ytiodhdcgfdlknaa
namespace Go.Proofs.Ytiodhdcgfdlknaa
open Go.RowKit
end Go.Proofs.Ytiodhdcgfdlknaa
