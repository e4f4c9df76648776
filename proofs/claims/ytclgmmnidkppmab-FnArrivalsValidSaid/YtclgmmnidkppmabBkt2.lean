/-
  Chapter 2: tokens: what the program's functions and the model's return. Conditions: none; a contract says which case it speaks of.
-/
import Derived.Test.YtclgmmnidkppmabBkt
namespace Go.Proofs.Ytclgmmnidkppmab
open Go.RowKit

/-! refilled, l2Level -/
set_option maxHeartbeats 1000000 in
theorem refNo (r s l t n : Int) (w : World) (h : rtB r s l t n = false) :
    Calls Try.prog 65 #[.agg #[.int .i64 r, .int .i64 s, .int .i64 l, .int .i64 t], .int .i64 n] w fun e w' => e = .returned (.tuple #[.agg #[.int .i64 0, .int .i64 0, .int .i64 0, .int .i64 0], .bool false]) ∧ Below w.heap.size w w' := by
  rw [rt_eq] at h
  rcases h1 : bvB r s l t with _ | _
  · clear h
    go_enter Try.func65, Try.ntmps65
    go_wp2_with fail
    refine (bvI_any r s l t _).mono ?_
    rintro e w1 ⟨rfl, hb⟩
    obtain ⟨hc1, hf1⟩ := bcell hb
    have B1 := Lib.hid (show Below w.heap.size w w1 from (by first | exact below_seq (Below.refl w.heap.size w) hb | exact below_seq1 (Below.refl w.heap.size w) hb | exact below_seq2 (Below.refl w.heap.size w) hb | exact below_seq3 (Below.refl w.heap.size w) hb | exact below_seq4 (Below.refl w.heap.size w) hb))
    have R1 := Lib.hid hb
    have hz1 := hb.size
    try simp at hz1
    clear hb
    rw [h1]
    go_wp2
    refine bodyPost_ret (v := .tuple #[.agg #[.int .i64 0, .int .i64 0, .int .i64 0, .int .i64 0], .bool false]) (by simp [results, Try.results65, go_sem, hc1]) rfl ⟨rfl, ?_⟩
    exact Below.setCell (Below.setCell (Below.setCell (Below.setCell B1.out (by simp) _) (by simp) _) (by simp) _) (by simp) _
  · have h2 : inB n t 1000000 = false := by rw [h1] at h; simpa using h
    clear h
    go_enter Try.func65, Try.ntmps65
    go_wp2_with fail
    refine (bvI_any r s l t _).mono ?_
    rintro e w1 ⟨rfl, hb⟩
    obtain ⟨hc1, hf1⟩ := bcell hb
    have B1 := Lib.hid (show Below w.heap.size w w1 from (by first | exact below_seq (Below.refl w.heap.size w) hb | exact below_seq1 (Below.refl w.heap.size w) hb | exact below_seq2 (Below.refl w.heap.size w) hb | exact below_seq3 (Below.refl w.heap.size w) hb | exact below_seq4 (Below.refl w.heap.size w) hb))
    have R1 := Lib.hid hb
    have hz1 := hb.size
    try simp at hz1
    clear hb
    rw [h1]
    go_wp2_with (go_at_call 41; refine (within_any _ _ _ _).mono ?_; rintro e w' ⟨rfl, rfl⟩)
    refine bodyPost_ret (v := .tuple #[.agg #[.int .i64 0, .int .i64 0, .int .i64 0, .int .i64 0], .bool false]) (by simp [results, Try.results65, go_sem, hc1]) rfl ⟨rfl, ?_⟩
    exact Below.setCell (Below.setCell (Below.setCell (Below.setCell B1.out (by simp) _) (by simp) _) (by simp) _) (by simp) _
set_option maxHeartbeats 2000000 in
theorem refYes (r s l t n : Int) (w : World) (h : rtB r s l t n = true) :
    Calls Try.prog 65 #[.agg #[.int .i64 r, .int .i64 s, .int .i64 l, .int .i64 t], .int .i64 n] w fun e w' => e = .returned (.tuple #[.agg #[.int .i64 r, .int .i64 s, .int .i64 (lv r s l t n), .int .i64 n], .bool true]) ∧ Below w.heap.size w w' := by
  have h0 := rt_of h
  have g0 := gain_rt h
  have h1 : bvB r s l t = true := bv_mk (by omega)
  have h2 : inB n t 1000000 = true := by rw [inB, decide_eq_true_eq]; omega
  clear h
  obtain ⟨a0, a1, a2, a3, a4, a5, a6, a7, a8⟩ := h0
  obtain ⟨g1, g2⟩ := g0
  by_cases hc : l + r * (n - t) ≤ s
  · have hl : Hid (lv r s l t n = l + r * (n - t)) := Lib.hid (if_pos hc)
    go_enter Try.func65, Try.ntmps65
    go_wp2_with fail
    refine (bvI_any r s l t _).mono ?_
    rintro e w1 ⟨rfl, hb⟩
    obtain ⟨hc1, hf1⟩ := bcell hb
    have B1 := Lib.hid (show Below w.heap.size w w1 from (by first | exact below_seq (Below.refl w.heap.size w) hb | exact below_seq1 (Below.refl w.heap.size w) hb | exact below_seq2 (Below.refl w.heap.size w) hb | exact below_seq3 (Below.refl w.heap.size w) hb | exact below_seq4 (Below.refl w.heap.size w) hb))
    have R1 := Lib.hid hb
    have hz1 := hb.size
    try simp at hz1
    clear hb
    rw [h1]
    have d2 : w1.cell? ⟨w.heap.size, 2, none⟩ = some (.int .i64 l) := (hc1 _ 2 (by simp <;> omega)).trans (blk_cell (blk_alloc (blk_new w 62 #[.int .i64 r, .int .i64 s, .int .i64 l, .int .i64 t]) _) 2)
    have d3 : w1.cell? ⟨w.heap.size, 3, none⟩ = some (.int .i64 t) := (hc1 _ 3 (by simp <;> omega)).trans (blk_cell (blk_alloc (blk_new w 62 #[.int .i64 r, .int .i64 s, .int .i64 l, .int .i64 t]) _) 3)
    go_wp2_with (go_at_call 41; refine (within_any _ _ _ _).mono ?_; rintro e w' ⟨rfl, rfl⟩)
    refine bodyPost_ret (v := .tuple #[.agg #[.int .i64 r, .int .i64 s, .int .i64 (l + r * (n - t)), .int .i64 n], .bool true]) (by simp [results, Try.results65, go_sem, hc1]) rfl ⟨ret_bk rfl rfl hl.out.symm rfl rfl, ?_⟩
    repeat refine Below.setCell ?_ (by simp) _
    exact B1.out
  · have hl : Hid (lv r s l t n = s) := Lib.hid (if_neg hc)
    go_enter Try.func65, Try.ntmps65
    go_wp2_with fail
    refine (bvI_any r s l t _).mono ?_
    rintro e w1 ⟨rfl, hb⟩
    obtain ⟨hc1, hf1⟩ := bcell hb
    have B1 := Lib.hid (show Below w.heap.size w w1 from (by first | exact below_seq (Below.refl w.heap.size w) hb | exact below_seq1 (Below.refl w.heap.size w) hb | exact below_seq2 (Below.refl w.heap.size w) hb | exact below_seq3 (Below.refl w.heap.size w) hb | exact below_seq4 (Below.refl w.heap.size w) hb))
    have R1 := Lib.hid hb
    have hz1 := hb.size
    try simp at hz1
    clear hb
    rw [h1]
    have d2 : w1.cell? ⟨w.heap.size, 2, none⟩ = some (.int .i64 l) := (hc1 _ 2 (by simp <;> omega)).trans (blk_cell (blk_alloc (blk_new w 62 #[.int .i64 r, .int .i64 s, .int .i64 l, .int .i64 t]) _) 2)
    have d3 : w1.cell? ⟨w.heap.size, 3, none⟩ = some (.int .i64 t) := (hc1 _ 3 (by simp <;> omega)).trans (blk_cell (blk_alloc (blk_new w 62 #[.int .i64 r, .int .i64 s, .int .i64 l, .int .i64 t]) _) 3)
    go_wp2_with (go_at_call 41; refine (within_any _ _ _ _).mono ?_; rintro e w' ⟨rfl, rfl⟩)
    refine bodyPost_ret (v := .tuple #[.agg #[.int .i64 r, .int .i64 s, .int .i64 s, .int .i64 n], .bool true]) (by simp [results, Try.results65, go_sem, hc1]) rfl ⟨ret_bk rfl rfl hl.out.symm rfl rfl, ?_⟩
    repeat refine Below.setCell ?_ (by simp) _
    exact B1.out
set_option maxHeartbeats 1000000 in
theorem levelS_any (r s l t n : Int) (w : World) (h : rtB r s l t n = true) :
    Calls Try.prog 67 #[.agg #[.int .i64 r, .int .i64 s, .int .i64 l, .int .i64 t], .int .i64 n] w fun e w' => e = .returned (.int .i64 (lv r s l t n)) ∧ Below w.heap.size w w' := by
  have h0 := rt_of h
  have g0 := gain_rt h
  clear h
  obtain ⟨a0, a1, a2, a3, a4, a5, a6, a7, a8⟩ := h0
  obtain ⟨g1, g2⟩ := g0
  have hb := below_alloc (Below.refl w.heap.size w) (.cells #[.int .i64 r, .int .i64 s, .int .i64 l, .int .i64 t] 62)
  by_cases hc : l + r * (n - t) ≤ s
  · have hl : Hid (lv r s l t n = l + r * (n - t)) := Lib.hid (if_pos hc)
    go_enter Try.func67, Try.ntmps67
    go_wp2
    go_ret
    exact ⟨ret_int hl.out.symm, hb⟩
  · have hl : Hid (lv r s l t n = s) := Lib.hid (if_neg hc)
    have hc' : s < l + r * (n - t) := by omega
    clear hc
    go_enter Try.func67, Try.ntmps67
    go_wp2
    go_ret
    exact ⟨ret_int hl.out.symm, hb⟩
/-! LevelAt -/
def levN (r s l t n : Int) : Int := if rtB r s l t n = true then lv r s l t n else 0
theorem levN_yes {r s l t n : Int} (h : rtB r s l t n = true) : levN r s l t n = lv r s l t n := if_pos h
theorem levN_no {r s l t n : Int} (h : rtB r s l t n = false) : levN r s l t n = 0 := if_neg (by rw [h]; exact Bool.false_ne_true)
def tkB (r s l t n c : Int) : Bool := rtB r s l t n && decide (0 ≤ c)
theorem tk_of {r s l t n c : Int} (h : tkB r s l t n c = true) : rtB r s l t n = true ∧ 0 ≤ c := by simpa [tkB] using h
theorem tk_no {r s l t n c : Int} (h : tkB r s l t n c = false) : rtB r s l t n = false ∨ (rtB r s l t n = true ∧ c < 0) := by
  rcases h1 : rtB r s l t n with _ | _
  · exact .inl rfl
  · rw [tkB, h1, Bool.true_and, decide_eq_false_iff_not] at h
    exact .inr ⟨rfl, by omega⟩
set_option maxHeartbeats 1000000 in
theorem takeI_no (r s l t n c : Int) (w : World) (h : tkB r s l t n c = false) :
    Calls Try.prog 53 #[.agg #[.int .i64 r, .int .i64 s, .int .i64 l, .int .i64 t], .int .i64 n, .int .i64 c] w fun e w' => e = .returned (.tuple #[.agg #[.int .i64 0, .int .i64 0, .int .i64 0, .int .i64 0], .bool false, .bool false]) ∧ Below w.heap.size w w' := by
  rcases tk_no h with h | ⟨h, hc⟩
  · go_enter Try.func53, Try.ntmps53
    go_wp2_with fail
    refine (refNo r s l t n _ h).mono ?_
    rintro e w1 ⟨rfl, hb⟩
    obtain ⟨hc1, hf1⟩ := bcell hb
    have B1 := Lib.hid (show Below w.heap.size w w1 from (by first | exact below_seq (Below.refl w.heap.size w) hb | exact below_seq1 (Below.refl w.heap.size w) hb | exact below_seq2 (Below.refl w.heap.size w) hb | exact below_seq3 (Below.refl w.heap.size w) hb | exact below_seq4 (Below.refl w.heap.size w) hb))
    have R1 := Lib.hid hb
    have hz1 := hb.size
    try simp at hz1
    clear hb
    have d0 : w1.cell? ⟨w.heap.size, 0, none⟩ = some (.int .i64 r) := (hc1 _ 0 (by simp <;> omega)).trans (blk_cell (blk_alloc (blk_new w 62 #[.int .i64 r, .int .i64 s, .int .i64 l, .int .i64 t]) _) 0)
    have d1 : w1.cell? ⟨w.heap.size, 1, none⟩ = some (.int .i64 s) := (hc1 _ 1 (by simp <;> omega)).trans (blk_cell (blk_alloc (blk_new w 62 #[.int .i64 r, .int .i64 s, .int .i64 l, .int .i64 t]) _) 1)
    have d2 : w1.cell? ⟨w.heap.size, 2, none⟩ = some (.int .i64 l) := (hc1 _ 2 (by simp <;> omega)).trans (blk_cell (blk_alloc (blk_new w 62 #[.int .i64 r, .int .i64 s, .int .i64 l, .int .i64 t]) _) 2)
    have d3 : w1.cell? ⟨w.heap.size, 3, none⟩ = some (.int .i64 t) := (hc1 _ 3 (by simp <;> omega)).trans (blk_cell (blk_alloc (blk_new w 62 #[.int .i64 r, .int .i64 s, .int .i64 l, .int .i64 t]) _) 3)
    go_wp2
    refine bodyPost_ret (v := .tuple #[.agg #[.int .i64 0, .int .i64 0, .int .i64 0, .int .i64 0], .bool false, .bool false]) (by simp [results, Try.results53, go_sem, hc1]) rfl ⟨rfl, ?_⟩
    repeat refine Below.setCell ?_ (by simp) _
    exact B1.out
  · have hc' : decide (0 ≤ c) = false := by rw [decide_eq_false_iff_not]; omega
    go_enter Try.func53, Try.ntmps53
    go_wp2_with fail
    refine (refYes r s l t n _ h).mono ?_
    rintro e w1 ⟨rfl, hb⟩
    obtain ⟨hc1, hf1⟩ := bcell hb
    have B1 := Lib.hid (show Below w.heap.size w w1 from (by first | exact below_seq (Below.refl w.heap.size w) hb | exact below_seq1 (Below.refl w.heap.size w) hb | exact below_seq2 (Below.refl w.heap.size w) hb | exact below_seq3 (Below.refl w.heap.size w) hb | exact below_seq4 (Below.refl w.heap.size w) hb))
    have R1 := Lib.hid hb
    have hz1 := hb.size
    try simp at hz1
    clear hb
    have d0 : w1.cell? ⟨w.heap.size, 0, none⟩ = some (.int .i64 r) := (hc1 _ 0 (by simp <;> omega)).trans (blk_cell (blk_alloc (blk_new w 62 #[.int .i64 r, .int .i64 s, .int .i64 l, .int .i64 t]) _) 0)
    have d1 : w1.cell? ⟨w.heap.size, 1, none⟩ = some (.int .i64 s) := (hc1 _ 1 (by simp <;> omega)).trans (blk_cell (blk_alloc (blk_new w 62 #[.int .i64 r, .int .i64 s, .int .i64 l, .int .i64 t]) _) 1)
    have d2 : w1.cell? ⟨w.heap.size, 2, none⟩ = some (.int .i64 l) := (hc1 _ 2 (by simp <;> omega)).trans (blk_cell (blk_alloc (blk_new w 62 #[.int .i64 r, .int .i64 s, .int .i64 l, .int .i64 t]) _) 2)
    have d3 : w1.cell? ⟨w.heap.size, 3, none⟩ = some (.int .i64 t) := (hc1 _ 3 (by simp <;> omega)).trans (blk_cell (blk_alloc (blk_new w 62 #[.int .i64 r, .int .i64 s, .int .i64 l, .int .i64 t]) _) 3)
    go_wp2
    refine bodyPost_ret (v := .tuple #[.agg #[.int .i64 0, .int .i64 0, .int .i64 0, .int .i64 0], .bool false, .bool false]) (by simp [results, Try.results53, go_sem, hc1]) rfl ⟨rfl, ?_⟩
    repeat refine Below.setCell ?_ (by simp) _
    exact B1.out
end Go.Proofs.Ytclgmmnidkppmab
