/-
  Chapter 7: points, bans and blame: what the program's functions and the model's return. Conditions: none; a contract says which case it speaks of.
-/
import Derived.Test.YtffgblphimjipaaSc
import Derived.Deep.DeepCutAuto
namespace Go.Proofs.Ytffgblphimjipaa
open Go.RowKit

theorem ret_bb {a a2 b : Bool} (h : a = a2) : Ending.returned (.tuple #[.bool a, .bool b]) = .returned (.tuple #[.bool a2, .bool b]) := by rw [h]
/-! faded, l7Points, banAfter, l7Length -/
set_option maxHeartbeats 1000000 in
theorem fadNo (p a u b n : Int) (w : World) (h : stB p a u b n = false) :
    Calls Try.prog 38 #[.agg #[.int .i64 p, .int .i64 a, .int .i64 u, .int .i64 b], .int .i64 n] w fun e w' => e = .returned (.tuple #[.agg #[.int .i64 0, .int .i64 0, .int .i64 0, .int .i64 0], .bool false]) ∧ Below w.heap.size w w' := by
  rw [st_eq] at h
  rcases h1 : scB p a u b with _ | _
  · clear h
    go_enter Try.func38, Try.ntmps38
    go_wp2_with fail
    refine (scI_any p a u b _).mono ?_
    rintro e w1 ⟨rfl, hb⟩
    obtain ⟨hc1, hf1⟩ := bcell hb
    have B1 := Lib.hid (show Below w.heap.size w w1 from (by first | exact below_seq (Below.refl w.heap.size w) hb | exact below_seq1 (Below.refl w.heap.size w) hb | exact below_seq2 (Below.refl w.heap.size w) hb | exact below_seq3 (Below.refl w.heap.size w) hb | exact below_seq4 (Below.refl w.heap.size w) hb))
    have R1 := Lib.hid hb
    have hz1 := hb.size
    try simp at hz1
    clear hb
    rw [h1]
    go_wp2
    refine bodyPost_ret (v := .tuple #[.agg #[.int .i64 0, .int .i64 0, .int .i64 0, .int .i64 0], .bool false]) (by simp [results, Try.results38, go_sem, hc1]) rfl ⟨rfl, ?_⟩
    repeat refine Below.setCell ?_ (by simp) _
    exact B1.out
  · have h2 : inB n a 1000000 = false := by rw [h1] at h; simpa using h
    clear h
    go_enter Try.func38, Try.ntmps38
    go_wp2_with fail
    refine (scI_any p a u b _).mono ?_
    rintro e w1 ⟨rfl, hb⟩
    obtain ⟨hc1, hf1⟩ := bcell hb
    have B1 := Lib.hid (show Below w.heap.size w w1 from (by first | exact below_seq (Below.refl w.heap.size w) hb | exact below_seq1 (Below.refl w.heap.size w) hb | exact below_seq2 (Below.refl w.heap.size w) hb | exact below_seq3 (Below.refl w.heap.size w) hb | exact below_seq4 (Below.refl w.heap.size w) hb))
    have R1 := Lib.hid hb
    have hz1 := hb.size
    try simp at hz1
    clear hb
    rw [h1]
    go_wp2_with (go_at_call 39; refine (within_any _ _ _ _).mono ?_; rintro e w' ⟨rfl, rfl⟩)
    refine bodyPost_ret (v := .tuple #[.agg #[.int .i64 0, .int .i64 0, .int .i64 0, .int .i64 0], .bool false]) (by simp [results, Try.results38, go_sem, hc1]) rfl ⟨rfl, ?_⟩
    repeat refine Below.setCell ?_ (by simp) _
    exact B1.out
set_option maxHeartbeats 2000000 in
theorem fadYes (p a u b n : Int) (w : World) (h : stB p a u b n = true) :
    Calls Try.prog 38 #[.agg #[.int .i64 p, .int .i64 a, .int .i64 u, .int .i64 b], .int .i64 n] w fun e w' => e = .returned (.tuple #[.agg #[.int .i64 (pt p a n), .int .i64 n, .int .i64 u, .int .i64 b], .bool true]) ∧ Below w.heap.size w w' := by
  have h0 := st_of h
  have h1 : scB p a u b = true := sc_mk (by omega)
  have h2 : inB n a 1000000 = true := by rw [inB, decide_eq_true_eq]; omega
  clear h
  obtain ⟨a0, a1, a2, a3, a4, a5, a6, a7, a8⟩ := h0
  by_cases hc : 0 ≤ p - (n - a)
  · have hl : Hid (pt p a n = (p - (n - a))) := Lib.hid (if_pos hc)
    go_enter Try.func38, Try.ntmps38
    go_wp2_with fail
    refine (scI_any p a u b _).mono ?_
    rintro e w1 ⟨rfl, hb⟩
    obtain ⟨hc1, hf1⟩ := bcell hb
    have B1 := Lib.hid (show Below w.heap.size w w1 from (by first | exact below_seq (Below.refl w.heap.size w) hb | exact below_seq1 (Below.refl w.heap.size w) hb | exact below_seq2 (Below.refl w.heap.size w) hb | exact below_seq3 (Below.refl w.heap.size w) hb | exact below_seq4 (Below.refl w.heap.size w) hb))
    have R1 := Lib.hid hb
    have hz1 := hb.size
    try simp at hz1
    clear hb
    rw [h1]
    have d0 : w1.cell? ⟨w.heap.size, 0, none⟩ = some (.int .i64 p) := (hc1 _ 0 (by simp <;> omega)).trans (blk_cell (blk_alloc (blk_new w 24 #[.int .i64 p, .int .i64 a, .int .i64 u, .int .i64 b]) _) 0)
    have d1 : w1.cell? ⟨w.heap.size, 1, none⟩ = some (.int .i64 a) := (hc1 _ 1 (by simp <;> omega)).trans (blk_cell (blk_alloc (blk_new w 24 #[.int .i64 p, .int .i64 a, .int .i64 u, .int .i64 b]) _) 1)
    go_wp2_with (go_at_call 39; refine (within_any _ _ _ _).mono ?_; rintro e w' ⟨rfl, rfl⟩)
    refine bodyPost_ret (v := .tuple #[.agg #[.int .i64 (p - (n - a)), .int .i64 n, .int .i64 u, .int .i64 b], .bool true]) (by simp [results, Try.results38, go_sem, hc1]) rfl ⟨ret_sc hl.out.symm rfl rfl rfl rfl, ?_⟩
    repeat refine Below.setCell ?_ (by simp) _
    exact B1.out
  · have hl : Hid (pt p a n = 0) := Lib.hid (if_neg hc)
    have hc' : p - (n - a) < 0 := by omega
    clear hc
    go_enter Try.func38, Try.ntmps38
    go_wp2_with fail
    refine (scI_any p a u b _).mono ?_
    rintro e w1 ⟨rfl, hb⟩
    obtain ⟨hc1, hf1⟩ := bcell hb
    have B1 := Lib.hid (show Below w.heap.size w w1 from (by first | exact below_seq (Below.refl w.heap.size w) hb | exact below_seq1 (Below.refl w.heap.size w) hb | exact below_seq2 (Below.refl w.heap.size w) hb | exact below_seq3 (Below.refl w.heap.size w) hb | exact below_seq4 (Below.refl w.heap.size w) hb))
    have R1 := Lib.hid hb
    have hz1 := hb.size
    try simp at hz1
    clear hb
    rw [h1]
    have d0 : w1.cell? ⟨w.heap.size, 0, none⟩ = some (.int .i64 p) := (hc1 _ 0 (by simp <;> omega)).trans (blk_cell (blk_alloc (blk_new w 24 #[.int .i64 p, .int .i64 a, .int .i64 u, .int .i64 b]) _) 0)
    have d1 : w1.cell? ⟨w.heap.size, 1, none⟩ = some (.int .i64 a) := (hc1 _ 1 (by simp <;> omega)).trans (blk_cell (blk_alloc (blk_new w 24 #[.int .i64 p, .int .i64 a, .int .i64 u, .int .i64 b]) _) 1)
    go_wp2_with (go_at_call 39; refine (within_any _ _ _ _).mono ?_; rintro e w' ⟨rfl, rfl⟩)
    refine bodyPost_ret (v := .tuple #[.agg #[.int .i64 0, .int .i64 n, .int .i64 u, .int .i64 b], .bool true]) (by simp [results, Try.results38, go_sem, hc1]) rfl ⟨ret_sc hl.out.symm rfl rfl rfl rfl, ?_⟩
    repeat refine Below.setCell ?_ (by simp) _
    exact B1.out
set_option maxHeartbeats 1000000 in
theorem ptS_any (p a u b n : Int) (w : World) (h : stB p a u b n = true) :
    Calls Try.prog 42 #[.agg #[.int .i64 p, .int .i64 a, .int .i64 u, .int .i64 b], .int .i64 n] w fun e w' => e = .returned (.int .i64 (pt p a n)) ∧ Below w.heap.size w w' := by
  have h0 := st_of h
  clear h
  obtain ⟨a0, a1, a2, a3, a4, a5, a6, a7, a8⟩ := h0
  have hb := below_alloc (Below.refl w.heap.size w) (.cells #[.int .i64 p, .int .i64 a, .int .i64 u, .int .i64 b] 24)
  by_cases hc : 0 ≤ p - (n - a)
  · have hl : Hid (pt p a n = p - (n - a)) := Lib.hid (if_pos hc)
    go_enter Try.func42, Try.ntmps42
    go_wp2
    go_ret
    exact ⟨ret_int hl.out.symm, hb⟩
  · have hl : Hid (pt p a n = 0) := Lib.hid (if_neg hc)
    have hc' : p - (n - a) < 0 := by omega
    clear hc
    go_enter Try.func42, Try.ntmps42
    go_wp2
    go_ret
    exact ⟨ret_int hl.out.symm, hb⟩
set_option maxHeartbeats 1000000 in
theorem baI_any (b : Int) (w : World) (h0 : 0 ≤ b) (h1 : b ≤ 10) :
    Calls Try.prog 40 #[.int .i64 b] w fun e w' => e = .returned (.int .i64 (bl b)) ∧ w = w' := by
  have : b = 0 ∨ b = 1 ∨ b = 2 ∨ b = 3 ∨ b = 4 ∨ b = 5 ∨ b = 6 ∨ b = 7 ∨ b = 8 ∨ b = 9 ∨ b = 10 := by omega
  rcases this with rfl | rfl | rfl | rfl | rfl | rfl | rfl | rfl | rfl | rfl | rfl
  all_goals
    clear h0 h1
    go_enter Try.func40, Try.ntmps40
    go_wp2
    go_ret
    exact ⟨rfl, rfl⟩
def blN (i : Nat) : Int := 50 * 2 ^ i
set_option maxHeartbeats 2000000 in
theorem lenS_any (p a u b : Int) (w : World) (h0 : 0 ≤ b) (h1 : b ≤ 10) :
    Calls Try.prog 43 #[.agg #[.int .i64 p, .int .i64 a, .int .i64 u, .int .i64 b]] w fun e w' => e = .returned (.int .i64 (bl b)) ∧ Below w.heap.size w w' := by
  obtain ⟨bn, rfl⟩ : ∃ bn : Nat, b = (bn : Int) := ⟨b.toNat, by omega⟩
  have hb := Lib.hid (below_alloc (Below.refl w.heap.size w) (.cells #[.int .i64 p, .int .i64 a, .int .i64 u, .int .i64 (bn : Int)] 24))
  go_enter Try.func43, Try.ntmps43
  go_wp2
  go_loop [3, 4] (fun n i => ∃ k : Nat, k ≤ bn ∧ i = .int .i64 (k : Int) ∧ n = .int .i64 (bl (k : Int))) (fun _ i => bn - (intOf i).toNat)
  case atStart => exact ⟨0, Nat.zero_le _, rfl, rfl⟩
  case round =>
    obtain ⟨k, hk, rfl, rfl⟩ := hrel
    by_cases hlt : k < bn
    · have e := Lib.hid (bl_next (b := (k : Int)) (by omega) (by omega))
      obtain ⟨l0, l1⟩ := bl_bd (k : Int)
      have k0 : (0 : Int) ≤ (k : Int) := by omega
      have k1 : (k : Int) < (bn : Int) := by omega
      go_wp2
      go_round
      case rel => exact ⟨k + 1, by omega, by go_num, by rw [show ((k + 1 : Nat) : Int) = (k : Int) + 1 from by omega, e.out]⟩
      case measure => simp [intOf]; omega
    · obtain rfl : k = bn := by omega
      go_wp2
      go_ret
      exact ⟨rfl, hb.out⟩
/-! PointsAt, IsBanned -/
def ptN (p a u b n : Int) : Int := if stB p a u b n = true then pt p a n else 0
def bnB (p a u b n : Int) : Bool := stB p a u b n && decide (n < u)
theorem ptN_yes {p a u b n : Int} (h : stB p a u b n = true) : ptN p a u b n = pt p a n := if_pos h
theorem ptN_no {p a u b n : Int} (h : stB p a u b n = false) : ptN p a u b n = 0 := if_neg (by rw [h]; exact Bool.false_ne_true)
set_option maxHeartbeats 1000000 in
theorem paI_any (p a u b n : Int) (w : World) :
    Calls Try.prog 18 #[.agg #[.int .i64 p, .int .i64 a, .int .i64 u, .int .i64 b], .int .i64 n] w fun e w' => e = .returned (.tuple #[.int .i64 (ptN p a u b n), .bool (stB p a u b n)]) ∧ Below w.heap.size w w' := by
  rcases h : stB p a u b n with _ | _
  · go_enter Try.func18, Try.ntmps18
    go_wp2_with fail
    refine (fadNo p a u b n _ h).mono ?_
    rintro e w1 ⟨rfl, hb⟩
    obtain ⟨hc1, hf1⟩ := bcell hb
    have B1 := Lib.hid (show Below w.heap.size w w1 from (by first | exact below_seq (Below.refl w.heap.size w) hb | exact below_seq1 (Below.refl w.heap.size w) hb | exact below_seq2 (Below.refl w.heap.size w) hb | exact below_seq3 (Below.refl w.heap.size w) hb | exact below_seq4 (Below.refl w.heap.size w) hb))
    have R1 := Lib.hid hb
    have hz1 := hb.size
    try simp at hz1
    clear hb
    have H := Lib.hid h
    clear h
    go_wp2
    go_ret2
    refine ⟨ret_two (ptN_no H.out).symm rfl, ?_⟩
    repeat refine Below.setCell ?_ (by simp) _
    exact B1.out
  · go_enter Try.func18, Try.ntmps18
    go_wp2_with fail
    refine (fadYes p a u b n _ h).mono ?_
    rintro e w1 ⟨rfl, hb⟩
    obtain ⟨hc1, hf1⟩ := bcell hb
    have B1 := Lib.hid (show Below w.heap.size w w1 from (by first | exact below_seq (Below.refl w.heap.size w) hb | exact below_seq1 (Below.refl w.heap.size w) hb | exact below_seq2 (Below.refl w.heap.size w) hb | exact below_seq3 (Below.refl w.heap.size w) hb | exact below_seq4 (Below.refl w.heap.size w) hb))
    have R1 := Lib.hid hb
    have hz1 := hb.size
    try simp at hz1
    clear hb
    have H := Lib.hid h
    clear h
    go_wp2
    go_ret2
    refine ⟨ret_two (ptN_yes H.out).symm rfl, ?_⟩
    repeat refine Below.setCell ?_ (by simp) _
    exact B1.out
set_option maxHeartbeats 1000000 in
theorem paS_any (p a u b n : Int) (w : World) :
    Calls Try.prog 22 #[.agg #[.int .i64 p, .int .i64 a, .int .i64 u, .int .i64 b], .int .i64 n] w fun e w' => e = .returned (.tuple #[.int .i64 (ptN p a u b n), .bool (stB p a u b n)]) ∧ Below w.heap.size w w' := by
  rcases h : stB p a u b n with _ | _
  all_goals
    go_enter Try.func22, Try.ntmps22
    go_wp2_with fail
    refine (rightS_any p a u b n _).mono ?_
    rintro e w1 ⟨rfl, hb⟩
    obtain ⟨hc1, hf1⟩ := bcell hb
    have B1 := Lib.hid (show Below w.heap.size w w1 from (by first | exact below_seq (Below.refl w.heap.size w) hb | exact below_seq1 (Below.refl w.heap.size w) hb | exact below_seq2 (Below.refl w.heap.size w) hb | exact below_seq3 (Below.refl w.heap.size w) hb | exact below_seq4 (Below.refl w.heap.size w) hb))
    have R1 := Lib.hid hb
    have hz1 := hb.size
    try simp at hz1
    clear hb
    rw [h]
    have d0 : w1.cell? ⟨w.heap.size, 0, none⟩ = some (.int .i64 p) := (hc1 _ 0 (by simp <;> omega)).trans (blk_cell (blk_new w 24 #[.int .i64 p, .int .i64 a, .int .i64 u, .int .i64 b]) 0)
    have d1 : w1.cell? ⟨w.heap.size, 1, none⟩ = some (.int .i64 a) := (hc1 _ 1 (by simp <;> omega)).trans (blk_cell (blk_new w 24 #[.int .i64 p, .int .i64 a, .int .i64 u, .int .i64 b]) 1)
    have d2 : w1.cell? ⟨w.heap.size, 2, none⟩ = some (.int .i64 u) := (hc1 _ 2 (by simp <;> omega)).trans (blk_cell (blk_new w 24 #[.int .i64 p, .int .i64 a, .int .i64 u, .int .i64 b]) 2)
    have d3 : w1.cell? ⟨w.heap.size, 3, none⟩ = some (.int .i64 b) := (hc1 _ 3 (by simp <;> omega)).trans (blk_cell (blk_new w 24 #[.int .i64 p, .int .i64 a, .int .i64 u, .int .i64 b]) 3)
    have H := Lib.hid h
    clear h
  · go_wp2
    go_ret2
    exact ⟨ret_two (ptN_no H.out).symm rfl, B1.out⟩
  · go_wp2_with fail
    refine (ptS_any p a u b n _ H.out).mono ?_
    rintro e w2 ⟨rfl, hb⟩
    obtain ⟨hc2, hf2⟩ := bcell hb
    have B2 := Lib.hid (show Below w.heap.size w w2 from (by first | exact below_seq B1.out hb | exact below_seq1 B1.out hb | exact below_seq2 B1.out hb | exact below_seq3 B1.out hb | exact below_seq4 B1.out hb))
    have R2 := Lib.hid hb
    have hz2 := hb.size
    try simp at hz2
    clear hb
    go_wp2
    go_ret2
    exact ⟨ret_two (ptN_yes H.out).symm rfl, B2.out⟩
set_option maxHeartbeats 1000000 in
theorem ibI_any (p a u b n : Int) (w : World) :
    Calls Try.prog 19 #[.agg #[.int .i64 p, .int .i64 a, .int .i64 u, .int .i64 b], .int .i64 n] w fun e w' => e = .returned (.tuple #[.bool (bnB p a u b n), .bool (stB p a u b n)]) ∧ Below w.heap.size w w' := by
  rcases h : stB p a u b n with _ | _
  · have X : Hid (bnB p a u b n = false) := Lib.hid (by rw [bnB, h]; rfl)
    go_enter Try.func19, Try.ntmps19
    go_wp2_with fail
    refine (fadNo p a u b n _ h).mono ?_
    rintro e w1 ⟨rfl, hb⟩
    obtain ⟨hc1, hf1⟩ := bcell hb
    have B1 := Lib.hid (show Below w.heap.size w w1 from (by first | exact below_seq (Below.refl w.heap.size w) hb | exact below_seq1 (Below.refl w.heap.size w) hb | exact below_seq2 (Below.refl w.heap.size w) hb | exact below_seq3 (Below.refl w.heap.size w) hb | exact below_seq4 (Below.refl w.heap.size w) hb))
    have R1 := Lib.hid hb
    have hz1 := hb.size
    try simp at hz1
    clear hb
    clear h
    go_wp2
    go_ret2
    refine ⟨ret_bb X.out.symm, ?_⟩
    repeat refine Below.setCell ?_ (by simp) _
    exact B1.out
  · have X : Hid (bnB p a u b n = decide (n < u)) := Lib.hid (by rw [bnB, h]; rfl)
    go_enter Try.func19, Try.ntmps19
    go_wp2_with fail
    refine (fadYes p a u b n _ h).mono ?_
    rintro e w1 ⟨rfl, hb⟩
    obtain ⟨hc1, hf1⟩ := bcell hb
    have B1 := Lib.hid (show Below w.heap.size w w1 from (by first | exact below_seq (Below.refl w.heap.size w) hb | exact below_seq1 (Below.refl w.heap.size w) hb | exact below_seq2 (Below.refl w.heap.size w) hb | exact below_seq3 (Below.refl w.heap.size w) hb | exact below_seq4 (Below.refl w.heap.size w) hb))
    have R1 := Lib.hid hb
    have hz1 := hb.size
    try simp at hz1
    clear hb
    clear h
    go_wp2
    go_ret2
    refine ⟨ret_bb X.out.symm, ?_⟩
    repeat refine Below.setCell ?_ (by simp) _
    exact B1.out
set_option maxHeartbeats 1000000 in
theorem ibS_any (p a u b n : Int) (w : World) :
    Calls Try.prog 24 #[.agg #[.int .i64 p, .int .i64 a, .int .i64 u, .int .i64 b], .int .i64 n] w fun e w' => e = .returned (.tuple #[.bool (bnB p a u b n), .bool (stB p a u b n)]) ∧ Below w.heap.size w w' := by
  rcases h : stB p a u b n with _ | _
  · have X : Hid (bnB p a u b n = false) := Lib.hid (by rw [bnB, h]; rfl)
    go_enter Try.func24, Try.ntmps24
    go_wp2_with fail
    refine (rightS_any p a u b n _).mono ?_
    rintro e w1 ⟨rfl, hb⟩
    obtain ⟨hc1, hf1⟩ := bcell hb
    have B1 := Lib.hid (show Below w.heap.size w w1 from (by first | exact below_seq (Below.refl w.heap.size w) hb | exact below_seq1 (Below.refl w.heap.size w) hb | exact below_seq2 (Below.refl w.heap.size w) hb | exact below_seq3 (Below.refl w.heap.size w) hb | exact below_seq4 (Below.refl w.heap.size w) hb))
    have R1 := Lib.hid hb
    have hz1 := hb.size
    try simp at hz1
    clear hb
    rw [h]
    clear h
    go_wp2
    go_ret2
    exact ⟨ret_bb X.out.symm, B1.out⟩
  · have X : Hid (bnB p a u b n = decide (n < u)) := Lib.hid (by rw [bnB, h]; rfl)
    go_enter Try.func24, Try.ntmps24
    go_wp2_with fail
    refine (rightS_any p a u b n _).mono ?_
    rintro e w1 ⟨rfl, hb⟩
    obtain ⟨hc1, hf1⟩ := bcell hb
    have B1 := Lib.hid (show Below w.heap.size w w1 from (by first | exact below_seq (Below.refl w.heap.size w) hb | exact below_seq1 (Below.refl w.heap.size w) hb | exact below_seq2 (Below.refl w.heap.size w) hb | exact below_seq3 (Below.refl w.heap.size w) hb | exact below_seq4 (Below.refl w.heap.size w) hb))
    have R1 := Lib.hid hb
    have hz1 := hb.size
    try simp at hz1
    clear hb
    rw [h]
    have d2 : w1.cell? ⟨w.heap.size, 2, none⟩ = some (.int .i64 u) := (hc1 _ 2 (by simp <;> omega)).trans (blk_cell (blk_new w 24 #[.int .i64 p, .int .i64 a, .int .i64 u, .int .i64 b]) 2)
    clear h
    go_wp2
    go_ret2
    exact ⟨ret_bb X.out.symm, B1.out⟩
end Go.Proofs.Ytffgblphimjipaa
