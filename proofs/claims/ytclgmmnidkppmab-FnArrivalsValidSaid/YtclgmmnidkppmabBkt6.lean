/-
  Chapter 2: waiting: what the program's functions and the model's return. Conditions: none; a contract says which case it speaks of.
-/
import Derived.Test.YtclgmmnidkppmabBkt2
import Derived.Deep.DeepCutAuto
namespace Go.Proofs.Ytclgmmnidkppmab
open Go.RowKit

theorem wt_of {r s l t n c : Int} (h : wtB r s l t n c = true) : rtB r s l t n = true ∧ 0 ≤ c ∧ c ≤ s ∧ (c ≤ lv r s l t n ∨ 0 < r) := by
  simpa [wtB] using h
theorem wt_no {r s l t n c : Int} (h : wtB r s l t n c = false) : rtB r s l t n = false ∨ (rtB r s l t n = true ∧ (c < 0 ∨ s < c)) ∨ (rtB r s l t n = true ∧ 0 ≤ c ∧ c ≤ s ∧ lv r s l t n < c ∧ r = 0) := by
  rcases h1 : rtB r s l t n with _ | _
  · exact .inl rfl
  · have h2 := rt_of h1
    rw [wtB, h1, Bool.true_and, decide_eq_false_iff_not] at h
    by_cases hc : 0 ≤ c ∧ c ≤ s
    · exact .inr (.inr ⟨rfl, hc.1, hc.2, by omega, by omega⟩)
    · exact .inr (.inl ⟨rfl, by omega⟩)
theorem in_no {c s : Int} (h : c < 0 ∨ s < c) : inB c 0 s = false := by
  rw [inB, decide_eq_false_iff_not]; omega
theorem in_yes {c s : Int} (h : 0 ≤ c ∧ c ≤ s) : inB c 0 s = true := by
  rw [inB, decide_eq_true_eq]; exact h
set_option maxHeartbeats 800000 in
theorem waitI_no (r s l t n c : Int) (w : World) (h : wtB r s l t n c = false) :
    Calls Try.prog 58 #[.agg #[.int .i64 r, .int .i64 s, .int .i64 l, .int .i64 t], .int .i64 n, .int .i64 c] w fun e w' => e = .returned (.tuple #[.int .i64 0, .bool false]) ∧ Below w.heap.size w w' := by
  rcases wt_no h with h | ⟨h, hc⟩ | ⟨h, c0, c1, hc, hr⟩
  · go_enter Try.func58, Try.ntmps58
    go_wp2_with fail
    refine (refNo r s l t n _ h).mono ?_
    rintro e w1 ⟨rfl, hb⟩
    obtain ⟨hc1, hf1⟩ := bcell hb
    have B1 := Lib.hid (show Below w.heap.size w w1 from (by first | exact below_seq (Below.refl w.heap.size w) hb | exact below_seq1 (Below.refl w.heap.size w) hb | exact below_seq2 (Below.refl w.heap.size w) hb | exact below_seq3 (Below.refl w.heap.size w) hb | exact below_seq4 (Below.refl w.heap.size w) hb))
    have R1 := Lib.hid hb
    have hz1 := hb.size
    try simp at hz1
    clear hb
    have D := Lib.hid (show Blk w1 (w.heap.size) 62 #[.int .i64 r, .int .i64 s, .int .i64 l, .int .i64 t] from (blk_below (blk_new w 62 #[.int .i64 r, .int .i64 s, .int .i64 l, .int .i64 t]) R1.out (by simp <;> omega)))
    have Dc0 : World.cell? w1 ⟨w.heap.size, 0, none⟩ = some (.int .i64 r) := blk_cell D.out 0
    have Df0 : World.frozen? w1 ⟨w.heap.size, 0, none⟩ = false := blk_free D.out 0
    have Dc1 : World.cell? w1 ⟨w.heap.size, 1, none⟩ = some (.int .i64 s) := blk_cell D.out 1
    have Df1 : World.frozen? w1 ⟨w.heap.size, 1, none⟩ = false := blk_free D.out 1
    have Dc2 : World.cell? w1 ⟨w.heap.size, 2, none⟩ = some (.int .i64 l) := blk_cell D.out 2
    have Df2 : World.frozen? w1 ⟨w.heap.size, 2, none⟩ = false := blk_free D.out 2
    have Dc3 : World.cell? w1 ⟨w.heap.size, 3, none⟩ = some (.int .i64 t) := blk_cell D.out 3
    have Df3 : World.frozen? w1 ⟨w.heap.size, 3, none⟩ = false := blk_free D.out 3
    clear hc1 hf1
    go_wp2
    go_ret2
    refine ⟨rfl, ?_⟩
    repeat refine Below.setCell ?_ (by simp) _
    exact B1.out
  · have IN := in_no hc
    clear hc
    go_enter Try.func58, Try.ntmps58
    go_wp2_with fail
    refine (refYes r s l t n _ h).mono ?_
    rintro e w1 ⟨rfl, hb⟩
    obtain ⟨hc1, hf1⟩ := bcell hb
    have B1 := Lib.hid (show Below w.heap.size w w1 from (by first | exact below_seq (Below.refl w.heap.size w) hb | exact below_seq1 (Below.refl w.heap.size w) hb | exact below_seq2 (Below.refl w.heap.size w) hb | exact below_seq3 (Below.refl w.heap.size w) hb | exact below_seq4 (Below.refl w.heap.size w) hb))
    have R1 := Lib.hid hb
    have hz1 := hb.size
    try simp at hz1
    clear hb
    have D := Lib.hid (show Blk w1 (w.heap.size) 62 #[.int .i64 r, .int .i64 s, .int .i64 l, .int .i64 t] from (blk_below (blk_new w 62 #[.int .i64 r, .int .i64 s, .int .i64 l, .int .i64 t]) R1.out (by simp <;> omega)))
    have Dc0 : World.cell? w1 ⟨w.heap.size, 0, none⟩ = some (.int .i64 r) := blk_cell D.out 0
    have Df0 : World.frozen? w1 ⟨w.heap.size, 0, none⟩ = false := blk_free D.out 0
    have Dc1 : World.cell? w1 ⟨w.heap.size, 1, none⟩ = some (.int .i64 s) := blk_cell D.out 1
    have Df1 : World.frozen? w1 ⟨w.heap.size, 1, none⟩ = false := blk_free D.out 1
    have Dc2 : World.cell? w1 ⟨w.heap.size, 2, none⟩ = some (.int .i64 l) := blk_cell D.out 2
    have Df2 : World.frozen? w1 ⟨w.heap.size, 2, none⟩ = false := blk_free D.out 2
    have Dc3 : World.cell? w1 ⟨w.heap.size, 3, none⟩ = some (.int .i64 t) := blk_cell D.out 3
    have Df3 : World.frozen? w1 ⟨w.heap.size, 3, none⟩ = false := blk_free D.out 3
    clear hc1 hf1
    go_wp2_with (go_at_call 41; refine (within_any _ _ _ _).mono ?_; rintro e w' ⟨rfl, rfl⟩)
    go_ret2
    refine ⟨rfl, ?_⟩
    repeat refine Below.setCell ?_ (by simp) _
    exact B1.out
  · have l1 := lv_bd h
    have a0 := rt_of h
    have WT : Hid (wt r s l t n c = if c ≤ lv r s l t n then 0 else (c - lv r s l t n + r - 1) / r) := Lib.hid rfl
    have H := Lib.hid h
    obtain ⟨V, hV⟩ : ∃ V, V = lv r s l t n := ⟨_, rfl⟩
    rw [← hV] at WT l1 hc
    have HV := Lib.hid hV
    have x2 : V ≤ 10000 := by omega
    have x3 : 0 ≤ V := by omega
    have x4 : c ≤ 10000 := by omega
    clear l1 hV h
    have IN := in_yes ⟨c0, c1⟩
    have y1 : decide (c - V ≤ 0) = false := by rw [decide_eq_false_iff_not]; omega
    have y2 : decide (c ≤ V) = false := by rw [decide_eq_false_iff_not]; omega
    have y3 : 0 < c - V := by omega
    have HR := Lib.hid hr
    have y5 : (r == 0) = true := by simpa using hr
    clear a0 hc hr
    go_enter Try.func58, Try.ntmps58
    go_wp2_with fail
    refine (refYes r s l t n _ H.out).mono ?_
    rintro e w1 ⟨rfl, hb⟩
    obtain ⟨hc1, hf1⟩ := bcell hb
    have B1 := Lib.hid (show Below w.heap.size w w1 from (by first | exact below_seq (Below.refl w.heap.size w) hb | exact below_seq1 (Below.refl w.heap.size w) hb | exact below_seq2 (Below.refl w.heap.size w) hb | exact below_seq3 (Below.refl w.heap.size w) hb | exact below_seq4 (Below.refl w.heap.size w) hb))
    have R1 := Lib.hid hb
    have hz1 := hb.size
    try simp at hz1
    clear hb
    rw [← HV.out]
    have D := Lib.hid (show Blk w1 (w.heap.size) 62 #[.int .i64 r, .int .i64 s, .int .i64 l, .int .i64 t] from (blk_below (blk_new w 62 #[.int .i64 r, .int .i64 s, .int .i64 l, .int .i64 t]) R1.out (by simp <;> omega)))
    have Dc0 : World.cell? w1 ⟨w.heap.size, 0, none⟩ = some (.int .i64 r) := blk_cell D.out 0
    have Df0 : World.frozen? w1 ⟨w.heap.size, 0, none⟩ = false := blk_free D.out 0
    have Dc1 : World.cell? w1 ⟨w.heap.size, 1, none⟩ = some (.int .i64 s) := blk_cell D.out 1
    have Df1 : World.frozen? w1 ⟨w.heap.size, 1, none⟩ = false := blk_free D.out 1
    have Dc2 : World.cell? w1 ⟨w.heap.size, 2, none⟩ = some (.int .i64 l) := blk_cell D.out 2
    have Df2 : World.frozen? w1 ⟨w.heap.size, 2, none⟩ = false := blk_free D.out 2
    have Dc3 : World.cell? w1 ⟨w.heap.size, 3, none⟩ = some (.int .i64 t) := blk_cell D.out 3
    have Df3 : World.frozen? w1 ⟨w.heap.size, 3, none⟩ = false := blk_free D.out 3
    clear hc1 hf1
    go_wp2_with (go_at_call 41; refine (within_any _ _ _ _).mono ?_; rintro e w' ⟨rfl, rfl⟩)
    go_ret2
    refine ⟨rfl, ?_⟩
    repeat refine Below.setCell ?_ (by simp) _
    exact B1.out
set_option maxHeartbeats 800000 in
theorem waitI_yes (r s l t n c : Int) (w : World) (h : wtB r s l t n c = true) :
    Calls Try.prog 58 #[.agg #[.int .i64 r, .int .i64 s, .int .i64 l, .int .i64 t], .int .i64 n, .int .i64 c] w fun e w' => e = .returned (.tuple #[.int .i64 (wt r s l t n c), .bool true]) ∧ Below w.heap.size w w' := by
    obtain ⟨h, c0, c1, hc⟩ := wt_of h
    have l1 := lv_bd h
    have a0 := rt_of h
    have WT : Hid (wt r s l t n c = if c ≤ lv r s l t n then 0 else (c - lv r s l t n + r - 1) / r) := Lib.hid rfl
    have H := Lib.hid h
    obtain ⟨V, hV⟩ : ∃ V, V = lv r s l t n := ⟨_, rfl⟩
    rw [← hV] at WT l1 hc
    have HV := Lib.hid hV
    have x2 : V ≤ 10000 := by omega
    have x3 : 0 ≤ V := by omega
    have x4 : c ≤ 10000 := by omega
    clear l1 hV h
    have IN := in_yes ⟨c0, c1⟩
    by_cases hd : c ≤ V
    · have HD := Lib.hid hd
      have y1 : c - V ≤ 0 := by omega
      clear a0 hc
      go_enter Try.func58, Try.ntmps58
      go_wp2_with fail
      refine (refYes r s l t n _ H.out).mono ?_
      rintro e w1 ⟨rfl, hb⟩
      obtain ⟨hc1, hf1⟩ := bcell hb
      have B1 := Lib.hid (show Below w.heap.size w w1 from (by first | exact below_seq (Below.refl w.heap.size w) hb | exact below_seq1 (Below.refl w.heap.size w) hb | exact below_seq2 (Below.refl w.heap.size w) hb | exact below_seq3 (Below.refl w.heap.size w) hb | exact below_seq4 (Below.refl w.heap.size w) hb))
      have R1 := Lib.hid hb
      have hz1 := hb.size
      try simp at hz1
      clear hb
      rw [← HV.out]
      have D := Lib.hid (show Blk w1 (w.heap.size) 62 #[.int .i64 r, .int .i64 s, .int .i64 l, .int .i64 t] from (blk_below (blk_new w 62 #[.int .i64 r, .int .i64 s, .int .i64 l, .int .i64 t]) R1.out (by simp <;> omega)))
      have Dc0 : World.cell? w1 ⟨w.heap.size, 0, none⟩ = some (.int .i64 r) := blk_cell D.out 0
      have Df0 : World.frozen? w1 ⟨w.heap.size, 0, none⟩ = false := blk_free D.out 0
      have Dc1 : World.cell? w1 ⟨w.heap.size, 1, none⟩ = some (.int .i64 s) := blk_cell D.out 1
      have Df1 : World.frozen? w1 ⟨w.heap.size, 1, none⟩ = false := blk_free D.out 1
      have Dc2 : World.cell? w1 ⟨w.heap.size, 2, none⟩ = some (.int .i64 l) := blk_cell D.out 2
      have Df2 : World.frozen? w1 ⟨w.heap.size, 2, none⟩ = false := blk_free D.out 2
      have Dc3 : World.cell? w1 ⟨w.heap.size, 3, none⟩ = some (.int .i64 t) := blk_cell D.out 3
      have Df3 : World.frozen? w1 ⟨w.heap.size, 3, none⟩ = false := blk_free D.out 3
      clear hc1 hf1
      go_wp2_with (go_at_call 41; refine (within_any _ _ _ _).mono ?_; rintro e w' ⟨rfl, rfl⟩)
      go_ret2
      refine ⟨ret_two (by rw [WT.out, if_pos HD.out]) rfl, ?_⟩
      repeat refine Below.setCell ?_ (by simp) _
      exact B1.out
    · have hr : 0 < r := by omega
      have HD := Lib.hid hd
      clear hd
      have hd := HD.out
      have y1 : decide (c - V ≤ 0) = false := by rw [decide_eq_false_iff_not]; omega
      have y2 : decide (c ≤ V) = false := by rw [decide_eq_false_iff_not]; omega
      have y3 : 0 < c - V := by omega
      have y4 : (r == 0) = false := by simp; omega
      have y5 : 0 ≤ c - V + r - 1 := by omega
      have y6 : r ≤ 1000 := by omega
      clear a0 hc hd
      go_enter Try.func58, Try.ntmps58
      go_wp2_with fail
      refine (refYes r s l t n _ H.out).mono ?_
      rintro e w1 ⟨rfl, hb⟩
      obtain ⟨hc1, hf1⟩ := bcell hb
      have B1 := Lib.hid (show Below w.heap.size w w1 from (by first | exact below_seq (Below.refl w.heap.size w) hb | exact below_seq1 (Below.refl w.heap.size w) hb | exact below_seq2 (Below.refl w.heap.size w) hb | exact below_seq3 (Below.refl w.heap.size w) hb | exact below_seq4 (Below.refl w.heap.size w) hb))
      have R1 := Lib.hid hb
      have hz1 := hb.size
      try simp at hz1
      clear hb
      rw [← HV.out]
      have D := Lib.hid (show Blk w1 (w.heap.size) 62 #[.int .i64 r, .int .i64 s, .int .i64 l, .int .i64 t] from (blk_below (blk_new w 62 #[.int .i64 r, .int .i64 s, .int .i64 l, .int .i64 t]) R1.out (by simp <;> omega)))
      have Dc0 : World.cell? w1 ⟨w.heap.size, 0, none⟩ = some (.int .i64 r) := blk_cell D.out 0
      have Df0 : World.frozen? w1 ⟨w.heap.size, 0, none⟩ = false := blk_free D.out 0
      have Dc1 : World.cell? w1 ⟨w.heap.size, 1, none⟩ = some (.int .i64 s) := blk_cell D.out 1
      have Df1 : World.frozen? w1 ⟨w.heap.size, 1, none⟩ = false := blk_free D.out 1
      have Dc2 : World.cell? w1 ⟨w.heap.size, 2, none⟩ = some (.int .i64 l) := blk_cell D.out 2
      have Df2 : World.frozen? w1 ⟨w.heap.size, 2, none⟩ = false := blk_free D.out 2
      have Dc3 : World.cell? w1 ⟨w.heap.size, 3, none⟩ = some (.int .i64 t) := blk_cell D.out 3
      have Df3 : World.frozen? w1 ⟨w.heap.size, 3, none⟩ = false := blk_free D.out 3
      clear hc1 hf1
      go_wp2_with (go_at_call 41; refine (within_any _ _ _ _).mono ?_; rintro e w' ⟨rfl, rfl⟩)
      go_ret2
      refine ⟨ret_two (by rw [WT.out, if_neg (by have := HD.out; omega)]) rfl, ?_⟩
      repeat refine Below.setCell ?_ (by simp) _
      exact B1.out
set_option maxHeartbeats 800000 in
theorem waitS_no (r s l t n c : Int) (w : World) (h : wtB r s l t n c = false) :
    Calls Try.prog 56 #[.agg #[.int .i64 r, .int .i64 s, .int .i64 l, .int .i64 t], .int .i64 n, .int .i64 c] w fun e w' => e = .returned (.tuple #[.int .i64 0, .bool false]) ∧ Below w.heap.size w w' := by
  rcases wt_no h with h | ⟨h, hc⟩ | ⟨h, c0, c1, hc, hr⟩
  · go_enter Try.func56, Try.ntmps56
    go_wp2_with fail
    refine (rightS_any r s l t n _).mono ?_
    rintro e w1 ⟨rfl, hb⟩
    obtain ⟨hc1, hf1⟩ := bcell hb
    have B1 := Lib.hid (show Below w.heap.size w w1 from (by first | exact below_seq (Below.refl w.heap.size w) hb | exact below_seq1 (Below.refl w.heap.size w) hb | exact below_seq2 (Below.refl w.heap.size w) hb | exact below_seq3 (Below.refl w.heap.size w) hb | exact below_seq4 (Below.refl w.heap.size w) hb))
    have R1 := Lib.hid hb
    have hz1 := hb.size
    try simp at hz1
    clear hb
    rw [h]
    have D := Lib.hid (show Blk w1 (w.heap.size) 62 #[.int .i64 r, .int .i64 s, .int .i64 l, .int .i64 t] from (blk_below (blk_new w 62 #[.int .i64 r, .int .i64 s, .int .i64 l, .int .i64 t]) R1.out (by simp <;> omega)))
    have Dc0 : World.cell? w1 ⟨w.heap.size, 0, none⟩ = some (.int .i64 r) := blk_cell D.out 0
    have Df0 : World.frozen? w1 ⟨w.heap.size, 0, none⟩ = false := blk_free D.out 0
    have Dc1 : World.cell? w1 ⟨w.heap.size, 1, none⟩ = some (.int .i64 s) := blk_cell D.out 1
    have Df1 : World.frozen? w1 ⟨w.heap.size, 1, none⟩ = false := blk_free D.out 1
    have Dc2 : World.cell? w1 ⟨w.heap.size, 2, none⟩ = some (.int .i64 l) := blk_cell D.out 2
    have Df2 : World.frozen? w1 ⟨w.heap.size, 2, none⟩ = false := blk_free D.out 2
    have Dc3 : World.cell? w1 ⟨w.heap.size, 3, none⟩ = some (.int .i64 t) := blk_cell D.out 3
    have Df3 : World.frozen? w1 ⟨w.heap.size, 3, none⟩ = false := blk_free D.out 3
    clear hc1 hf1
    go_wp2
    go_ret2
    refine ⟨rfl, ?_⟩
    repeat refine Below.setCell ?_ (by simp) _
    exact B1.out
  · rcases hc with hc | hc
    all_goals
    go_enter Try.func56, Try.ntmps56
    go_wp2_with fail
    refine (rightS_any r s l t n _).mono ?_
    rintro e w1 ⟨rfl, hb⟩
    obtain ⟨hc1, hf1⟩ := bcell hb
    have B1 := Lib.hid (show Below w.heap.size w w1 from (by first | exact below_seq (Below.refl w.heap.size w) hb | exact below_seq1 (Below.refl w.heap.size w) hb | exact below_seq2 (Below.refl w.heap.size w) hb | exact below_seq3 (Below.refl w.heap.size w) hb | exact below_seq4 (Below.refl w.heap.size w) hb))
    have R1 := Lib.hid hb
    have hz1 := hb.size
    try simp at hz1
    clear hb
    rw [h]
    have D := Lib.hid (show Blk w1 (w.heap.size) 62 #[.int .i64 r, .int .i64 s, .int .i64 l, .int .i64 t] from (blk_below (blk_new w 62 #[.int .i64 r, .int .i64 s, .int .i64 l, .int .i64 t]) R1.out (by simp <;> omega)))
    have Dc0 : World.cell? w1 ⟨w.heap.size, 0, none⟩ = some (.int .i64 r) := blk_cell D.out 0
    have Df0 : World.frozen? w1 ⟨w.heap.size, 0, none⟩ = false := blk_free D.out 0
    have Dc1 : World.cell? w1 ⟨w.heap.size, 1, none⟩ = some (.int .i64 s) := blk_cell D.out 1
    have Df1 : World.frozen? w1 ⟨w.heap.size, 1, none⟩ = false := blk_free D.out 1
    have Dc2 : World.cell? w1 ⟨w.heap.size, 2, none⟩ = some (.int .i64 l) := blk_cell D.out 2
    have Df2 : World.frozen? w1 ⟨w.heap.size, 2, none⟩ = false := blk_free D.out 2
    have Dc3 : World.cell? w1 ⟨w.heap.size, 3, none⟩ = some (.int .i64 t) := blk_cell D.out 3
    have Df3 : World.frozen? w1 ⟨w.heap.size, 3, none⟩ = false := blk_free D.out 3
    clear hc1 hf1
    go_wp2
    all_goals
    go_ret2
    refine ⟨rfl, ?_⟩
    repeat refine Below.setCell ?_ (by simp) _
    exact B1.out
  · have l1 := lv_bd h
    have a0 := rt_of h
    have WT : Hid (wt r s l t n c = if c ≤ lv r s l t n then 0 else (c - lv r s l t n + r - 1) / r) := Lib.hid rfl
    have H := Lib.hid h
    obtain ⟨V, hV⟩ : ∃ V, V = lv r s l t n := ⟨_, rfl⟩
    rw [← hV] at WT l1 hc
    have HV := Lib.hid hV
    have x2 : V ≤ 10000 := by omega
    have x3 : 0 ≤ V := by omega
    have x4 : c ≤ 10000 := by omega
    clear l1 hV h
    have IN := in_yes ⟨c0, c1⟩
    have y1 : decide (c - V ≤ 0) = false := by rw [decide_eq_false_iff_not]; omega
    have y2 : decide (c ≤ V) = false := by rw [decide_eq_false_iff_not]; omega
    have y3 : 0 < c - V := by omega
    have HR := Lib.hid hr
    have y5 : (r == 0) = true := by simpa using hr
    clear a0 hc hr
    go_enter Try.func56, Try.ntmps56
    go_wp2_with fail
    refine (rightS_any r s l t n _).mono ?_
    rintro e w1 ⟨rfl, hb⟩
    obtain ⟨hc1, hf1⟩ := bcell hb
    have B1 := Lib.hid (show Below w.heap.size w w1 from (by first | exact below_seq (Below.refl w.heap.size w) hb | exact below_seq1 (Below.refl w.heap.size w) hb | exact below_seq2 (Below.refl w.heap.size w) hb | exact below_seq3 (Below.refl w.heap.size w) hb | exact below_seq4 (Below.refl w.heap.size w) hb))
    have R1 := Lib.hid hb
    have hz1 := hb.size
    try simp at hz1
    clear hb
    rw [H.out]
    have D := Lib.hid (show Blk w1 (w.heap.size) 62 #[.int .i64 r, .int .i64 s, .int .i64 l, .int .i64 t] from (blk_below (blk_new w 62 #[.int .i64 r, .int .i64 s, .int .i64 l, .int .i64 t]) R1.out (by simp <;> omega)))
    have Dc0 : World.cell? w1 ⟨w.heap.size, 0, none⟩ = some (.int .i64 r) := blk_cell D.out 0
    have Df0 : World.frozen? w1 ⟨w.heap.size, 0, none⟩ = false := blk_free D.out 0
    have Dc1 : World.cell? w1 ⟨w.heap.size, 1, none⟩ = some (.int .i64 s) := blk_cell D.out 1
    have Df1 : World.frozen? w1 ⟨w.heap.size, 1, none⟩ = false := blk_free D.out 1
    have Dc2 : World.cell? w1 ⟨w.heap.size, 2, none⟩ = some (.int .i64 l) := blk_cell D.out 2
    have Df2 : World.frozen? w1 ⟨w.heap.size, 2, none⟩ = false := blk_free D.out 2
    have Dc3 : World.cell? w1 ⟨w.heap.size, 3, none⟩ = some (.int .i64 t) := blk_cell D.out 3
    have Df3 : World.frozen? w1 ⟨w.heap.size, 3, none⟩ = false := blk_free D.out 3
    clear hc1 hf1
    go_wp2_with fail
    refine (levelS_any r s l t n _ H.out).mono ?_
    rintro e w2 ⟨rfl, hb⟩
    obtain ⟨hc2, hf2⟩ := bcell hb
    have B2 := Lib.hid (show Below w.heap.size w w2 from (by first | exact below_seq B1.out hb | exact below_seq1 B1.out hb | exact below_seq2 B1.out hb | exact below_seq3 B1.out hb | exact below_seq4 B1.out hb))
    have R2 := Lib.hid hb
    have hz2 := hb.size
    try simp at hz2
    clear hb
    rw [← HV.out]
    have D2 := Lib.hid (show Blk w2 (w.heap.size) 62 #[.int .i64 r, .int .i64 s, .int .i64 l, .int .i64 t] from (blk_below D.out R2.out (by omega)))
    have D2c0 : World.cell? w2 ⟨w.heap.size, 0, none⟩ = some (.int .i64 r) := blk_cell D2.out 0
    have D2f0 : World.frozen? w2 ⟨w.heap.size, 0, none⟩ = false := blk_free D2.out 0
    have D2c1 : World.cell? w2 ⟨w.heap.size, 1, none⟩ = some (.int .i64 s) := blk_cell D2.out 1
    have D2f1 : World.frozen? w2 ⟨w.heap.size, 1, none⟩ = false := blk_free D2.out 1
    have D2c2 : World.cell? w2 ⟨w.heap.size, 2, none⟩ = some (.int .i64 l) := blk_cell D2.out 2
    have D2f2 : World.frozen? w2 ⟨w.heap.size, 2, none⟩ = false := blk_free D2.out 2
    have D2c3 : World.cell? w2 ⟨w.heap.size, 3, none⟩ = some (.int .i64 t) := blk_cell D2.out 3
    have D2f3 : World.frozen? w2 ⟨w.heap.size, 3, none⟩ = false := blk_free D2.out 3
    clear hc2 hf2
    go_wp2
    go_ret2
    refine ⟨rfl, ?_⟩
    repeat refine Below.setCell ?_ (by simp) _
    exact B2.out
set_option maxHeartbeats 800000 in
theorem waitS_yes (r s l t n c : Int) (w : World) (h : wtB r s l t n c = true) :
    Calls Try.prog 56 #[.agg #[.int .i64 r, .int .i64 s, .int .i64 l, .int .i64 t], .int .i64 n, .int .i64 c] w fun e w' => e = .returned (.tuple #[.int .i64 (wt r s l t n c), .bool true]) ∧ Below w.heap.size w w' := by
    obtain ⟨h, c0, c1, hc⟩ := wt_of h
    have l1 := lv_bd h
    have a0 := rt_of h
    have WT : Hid (wt r s l t n c = if c ≤ lv r s l t n then 0 else (c - lv r s l t n + r - 1) / r) := Lib.hid rfl
    have H := Lib.hid h
    obtain ⟨V, hV⟩ : ∃ V, V = lv r s l t n := ⟨_, rfl⟩
    rw [← hV] at WT l1 hc
    have HV := Lib.hid hV
    have x2 : V ≤ 10000 := by omega
    have x3 : 0 ≤ V := by omega
    have x4 : c ≤ 10000 := by omega
    clear l1 hV h
    have IN := in_yes ⟨c0, c1⟩
    by_cases hd : c ≤ V
    · have HD := Lib.hid hd
      have y1 : c - V ≤ 0 := by omega
      clear a0 hc
      go_enter Try.func56, Try.ntmps56
      go_wp2_with fail
      refine (rightS_any r s l t n _).mono ?_
      rintro e w1 ⟨rfl, hb⟩
      obtain ⟨hc1, hf1⟩ := bcell hb
      have B1 := Lib.hid (show Below w.heap.size w w1 from (by first | exact below_seq (Below.refl w.heap.size w) hb | exact below_seq1 (Below.refl w.heap.size w) hb | exact below_seq2 (Below.refl w.heap.size w) hb | exact below_seq3 (Below.refl w.heap.size w) hb | exact below_seq4 (Below.refl w.heap.size w) hb))
      have R1 := Lib.hid hb
      have hz1 := hb.size
      try simp at hz1
      clear hb
      rw [H.out]
      have D := Lib.hid (show Blk w1 (w.heap.size) 62 #[.int .i64 r, .int .i64 s, .int .i64 l, .int .i64 t] from (blk_below (blk_new w 62 #[.int .i64 r, .int .i64 s, .int .i64 l, .int .i64 t]) R1.out (by simp <;> omega)))
      have Dc0 : World.cell? w1 ⟨w.heap.size, 0, none⟩ = some (.int .i64 r) := blk_cell D.out 0
      have Df0 : World.frozen? w1 ⟨w.heap.size, 0, none⟩ = false := blk_free D.out 0
      have Dc1 : World.cell? w1 ⟨w.heap.size, 1, none⟩ = some (.int .i64 s) := blk_cell D.out 1
      have Df1 : World.frozen? w1 ⟨w.heap.size, 1, none⟩ = false := blk_free D.out 1
      have Dc2 : World.cell? w1 ⟨w.heap.size, 2, none⟩ = some (.int .i64 l) := blk_cell D.out 2
      have Df2 : World.frozen? w1 ⟨w.heap.size, 2, none⟩ = false := blk_free D.out 2
      have Dc3 : World.cell? w1 ⟨w.heap.size, 3, none⟩ = some (.int .i64 t) := blk_cell D.out 3
      have Df3 : World.frozen? w1 ⟨w.heap.size, 3, none⟩ = false := blk_free D.out 3
      clear hc1 hf1
      go_wp2_with fail
      refine (levelS_any r s l t n _ H.out).mono ?_
      rintro e w2 ⟨rfl, hb⟩
      obtain ⟨hc2, hf2⟩ := bcell hb
      have B2 := Lib.hid (show Below w.heap.size w w2 from (by first | exact below_seq B1.out hb | exact below_seq1 B1.out hb | exact below_seq2 B1.out hb | exact below_seq3 B1.out hb | exact below_seq4 B1.out hb))
      have R2 := Lib.hid hb
      have hz2 := hb.size
      try simp at hz2
      clear hb
      rw [← HV.out]
      have D2 := Lib.hid (show Blk w2 (w.heap.size) 62 #[.int .i64 r, .int .i64 s, .int .i64 l, .int .i64 t] from (blk_below D.out R2.out (by omega)))
      have D2c0 : World.cell? w2 ⟨w.heap.size, 0, none⟩ = some (.int .i64 r) := blk_cell D2.out 0
      have D2f0 : World.frozen? w2 ⟨w.heap.size, 0, none⟩ = false := blk_free D2.out 0
      have D2c1 : World.cell? w2 ⟨w.heap.size, 1, none⟩ = some (.int .i64 s) := blk_cell D2.out 1
      have D2f1 : World.frozen? w2 ⟨w.heap.size, 1, none⟩ = false := blk_free D2.out 1
      have D2c2 : World.cell? w2 ⟨w.heap.size, 2, none⟩ = some (.int .i64 l) := blk_cell D2.out 2
      have D2f2 : World.frozen? w2 ⟨w.heap.size, 2, none⟩ = false := blk_free D2.out 2
      have D2c3 : World.cell? w2 ⟨w.heap.size, 3, none⟩ = some (.int .i64 t) := blk_cell D2.out 3
      have D2f3 : World.frozen? w2 ⟨w.heap.size, 3, none⟩ = false := blk_free D2.out 3
      clear hc2 hf2
      go_wp2
      go_ret2
      refine ⟨ret_two (by rw [WT.out, if_pos HD.out]) rfl, ?_⟩
      repeat refine Below.setCell ?_ (by simp) _
      exact B2.out
    · have hr : 0 < r := by omega
      have HD := Lib.hid hd
      clear hd
      have hd := HD.out
      have y1 : decide (c - V ≤ 0) = false := by rw [decide_eq_false_iff_not]; omega
      have y2 : decide (c ≤ V) = false := by rw [decide_eq_false_iff_not]; omega
      have y3 : 0 < c - V := by omega
      have y4 : (r == 0) = false := by simp; omega
      have y5 : 0 ≤ c - V + r - 1 := by omega
      have y6 : r ≤ 1000 := by omega
      clear a0 hc hd
      go_enter Try.func56, Try.ntmps56
      go_wp2_with fail
      refine (rightS_any r s l t n _).mono ?_
      rintro e w1 ⟨rfl, hb⟩
      obtain ⟨hc1, hf1⟩ := bcell hb
      have B1 := Lib.hid (show Below w.heap.size w w1 from (by first | exact below_seq (Below.refl w.heap.size w) hb | exact below_seq1 (Below.refl w.heap.size w) hb | exact below_seq2 (Below.refl w.heap.size w) hb | exact below_seq3 (Below.refl w.heap.size w) hb | exact below_seq4 (Below.refl w.heap.size w) hb))
      have R1 := Lib.hid hb
      have hz1 := hb.size
      try simp at hz1
      clear hb
      rw [H.out]
      have D := Lib.hid (show Blk w1 (w.heap.size) 62 #[.int .i64 r, .int .i64 s, .int .i64 l, .int .i64 t] from (blk_below (blk_new w 62 #[.int .i64 r, .int .i64 s, .int .i64 l, .int .i64 t]) R1.out (by simp <;> omega)))
      have Dc0 : World.cell? w1 ⟨w.heap.size, 0, none⟩ = some (.int .i64 r) := blk_cell D.out 0
      have Df0 : World.frozen? w1 ⟨w.heap.size, 0, none⟩ = false := blk_free D.out 0
      have Dc1 : World.cell? w1 ⟨w.heap.size, 1, none⟩ = some (.int .i64 s) := blk_cell D.out 1
      have Df1 : World.frozen? w1 ⟨w.heap.size, 1, none⟩ = false := blk_free D.out 1
      have Dc2 : World.cell? w1 ⟨w.heap.size, 2, none⟩ = some (.int .i64 l) := blk_cell D.out 2
      have Df2 : World.frozen? w1 ⟨w.heap.size, 2, none⟩ = false := blk_free D.out 2
      have Dc3 : World.cell? w1 ⟨w.heap.size, 3, none⟩ = some (.int .i64 t) := blk_cell D.out 3
      have Df3 : World.frozen? w1 ⟨w.heap.size, 3, none⟩ = false := blk_free D.out 3
      clear hc1 hf1
      go_wp2_with fail
      refine (levelS_any r s l t n _ H.out).mono ?_
      rintro e w2 ⟨rfl, hb⟩
      obtain ⟨hc2, hf2⟩ := bcell hb
      have B2 := Lib.hid (show Below w.heap.size w w2 from (by first | exact below_seq B1.out hb | exact below_seq1 B1.out hb | exact below_seq2 B1.out hb | exact below_seq3 B1.out hb | exact below_seq4 B1.out hb))
      have R2 := Lib.hid hb
      have hz2 := hb.size
      try simp at hz2
      clear hb
      rw [← HV.out]
      have D2 := Lib.hid (show Blk w2 (w.heap.size) 62 #[.int .i64 r, .int .i64 s, .int .i64 l, .int .i64 t] from (blk_below D.out R2.out (by omega)))
      have D2c0 : World.cell? w2 ⟨w.heap.size, 0, none⟩ = some (.int .i64 r) := blk_cell D2.out 0
      have D2f0 : World.frozen? w2 ⟨w.heap.size, 0, none⟩ = false := blk_free D2.out 0
      have D2c1 : World.cell? w2 ⟨w.heap.size, 1, none⟩ = some (.int .i64 s) := blk_cell D2.out 1
      have D2f1 : World.frozen? w2 ⟨w.heap.size, 1, none⟩ = false := blk_free D2.out 1
      have D2c2 : World.cell? w2 ⟨w.heap.size, 2, none⟩ = some (.int .i64 l) := blk_cell D2.out 2
      have D2f2 : World.frozen? w2 ⟨w.heap.size, 2, none⟩ = false := blk_free D2.out 2
      have D2c3 : World.cell? w2 ⟨w.heap.size, 3, none⟩ = some (.int .i64 t) := blk_cell D2.out 3
      have D2f3 : World.frozen? w2 ⟨w.heap.size, 3, none⟩ = false := blk_free D2.out 3
      clear hc2 hf2
      go_wp2
      go_ret2
      refine ⟨ret_two (by rw [WT.out, if_neg (by have := HD.out; omega)]) rfl, ?_⟩
      repeat refine Below.setCell ?_ (by simp) _
      exact B2.out
end Go.Proofs.Ytclgmmnidkppmab
