/-
  Chapter 2: making and changing: what the program's functions and the model's return. Conditions: none; a contract says which case it speaks of.
-/
import Derived.Test.YtfnloakbkiiicabBkt2
import Derived.Deep.DeepCutAuto
namespace Go.Proofs.Ytfnloakbkiiicab
open Go.RowKit

theorem bv_new (r s n : Int) : bvB r s s n = (rbB r s && inB n 0 1000000) := by
  rw [Bool.eq_iff_iff]
  simp only [bvB, rbB, inB, Bool.and_eq_true, decide_eq_true_eq]
  omega
def cgB (r s l t n r2 s2 : Int) : Bool := rtB r s l t n && rbB r2 s2
theorem cg_of {r s l t n r2 s2 : Int} (h : cgB r s l t n r2 s2 = true) : rtB r s l t n = true ∧ rbB r2 s2 = true := by simpa [cgB] using h
theorem cg_no {r s l t n r2 s2 : Int} (h : cgB r s l t n r2 s2 = false) : rtB r s l t n = false ∨ (rtB r s l t n = true ∧ rbB r2 s2 = false) := by
  rcases h1 : rtB r s l t n with _ | _
  · exact .inl rfl
  · rw [cgB, h1, Bool.true_and] at h
    exact .inr ⟨rfl, h⟩
theorem cv_valid {r s l t n s2 : Int} (r2 : Int) (h : rtB r s l t n = true) : bvB r2 s2 (cv r s l t n s2) n = rbB r2 s2 := by
  have h1 := rt_of h
  have h2 := lv_bd h
  have h3 : (cv r s l t n s2 = lv r s l t n ∧ lv r s l t n ≤ s2) ∨ (cv r s l t n s2 = s2 ∧ s2 < lv r s l t n) := by
    unfold cv
    split <;> omega
  rw [Bool.eq_iff_iff]
  simp only [bvB, rbB, decide_eq_true_eq]
  omega
set_option maxHeartbeats 400000 in
theorem ifv_no (r s l t : Int) (w : World) (h : bvB r s l t = false) :
    Calls Try.prog 40 #[.agg #[.int .i64 r, .int .i64 s, .int .i64 l, .int .i64 t]] w fun e w' => e = .returned (.tuple #[.agg #[.int .i64 0, .int .i64 0, .int .i64 0, .int .i64 0], .bool false]) ∧ Below w.heap.size w w' := by
    go_enter Try.func40, Try.ntmps40
    go_wp2_with fail
    refine (bvI_any r s l t _).mono ?_
    rintro e w1 ⟨rfl, hb⟩
    obtain ⟨hc1, hf1⟩ := bcell hb
    have B1 := Lib.hid (show Below w.heap.size w w1 from (by first | exact below_seq (Below.refl w.heap.size w) hb | exact below_seq1 (Below.refl w.heap.size w) hb | exact below_seq2 (Below.refl w.heap.size w) hb | exact below_seq3 (Below.refl w.heap.size w) hb | exact below_seq4 (Below.refl w.heap.size w) hb))
    have R1 := Lib.hid hb
    have hz1 := hb.size
    try simp at hz1
    clear hb
    rw [h]
    have D := Lib.hid (show Blk w1 (w.heap.size) 24 #[.int .i64 r, .int .i64 s, .int .i64 l, .int .i64 t] from (blk_below (blk_alloc (blk_new w 24 #[.int .i64 r, .int .i64 s, .int .i64 l, .int .i64 t]) _) R1.out (by simp <;> omega)))
    have Dc0 : World.cell? w1 ⟨w.heap.size, 0, none⟩ = some (.int .i64 r) := blk_cell D.out 0
    have Df0 : World.frozen? w1 ⟨w.heap.size, 0, none⟩ = false := blk_free D.out 0
    have Dc1 : World.cell? w1 ⟨w.heap.size, 1, none⟩ = some (.int .i64 s) := blk_cell D.out 1
    have Df1 : World.frozen? w1 ⟨w.heap.size, 1, none⟩ = false := blk_free D.out 1
    have Dc2 : World.cell? w1 ⟨w.heap.size, 2, none⟩ = some (.int .i64 l) := blk_cell D.out 2
    have Df2 : World.frozen? w1 ⟨w.heap.size, 2, none⟩ = false := blk_free D.out 2
    have Dc3 : World.cell? w1 ⟨w.heap.size, 3, none⟩ = some (.int .i64 t) := blk_cell D.out 3
    have Df3 : World.frozen? w1 ⟨w.heap.size, 3, none⟩ = false := blk_free D.out 3
    have E := Lib.hid (show Blk w1 ((w.heap.size + 1)) 24 #[.int .i64 0, .int .i64 0, .int .i64 0, .int .i64 0] from (blk_below (blk_new2 w _ 24 #[.int .i64 0, .int .i64 0, .int .i64 0, .int .i64 0]) R1.out (by simp <;> omega)))
    have Ec0 : World.cell? w1 ⟨(w.heap.size + 1), 0, none⟩ = some (.int .i64 0) := blk_cell E.out 0
    have Ef0 : World.frozen? w1 ⟨(w.heap.size + 1), 0, none⟩ = false := blk_free E.out 0
    have Ec1 : World.cell? w1 ⟨(w.heap.size + 1), 1, none⟩ = some (.int .i64 0) := blk_cell E.out 1
    have Ef1 : World.frozen? w1 ⟨(w.heap.size + 1), 1, none⟩ = false := blk_free E.out 1
    have Ec2 : World.cell? w1 ⟨(w.heap.size + 1), 2, none⟩ = some (.int .i64 0) := blk_cell E.out 2
    have Ef2 : World.frozen? w1 ⟨(w.heap.size + 1), 2, none⟩ = false := blk_free E.out 2
    have Ec3 : World.cell? w1 ⟨(w.heap.size + 1), 3, none⟩ = some (.int .i64 0) := blk_cell E.out 3
    have Ef3 : World.frozen? w1 ⟨(w.heap.size + 1), 3, none⟩ = false := blk_free E.out 3
    clear hc1 hf1
    go_wp2
    refine bodyPost_ret (v := .tuple #[.agg #[.int .i64 0, .int .i64 0, .int .i64 0, .int .i64 0], .bool false]) (by simp [results, Try.results40, go_sem, Ec0, Ec1, Ec2, Ec3]) rfl ⟨rfl, ?_⟩
    repeat refine Below.setCell ?_ (by simp) _
    exact B1.out
set_option maxHeartbeats 400000 in
theorem ifv_yes (r s l t : Int) (w : World) (h : bvB r s l t = true) :
    Calls Try.prog 40 #[.agg #[.int .i64 r, .int .i64 s, .int .i64 l, .int .i64 t]] w fun e w' => e = .returned (.tuple #[.agg #[.int .i64 r, .int .i64 s, .int .i64 l, .int .i64 t], .bool true]) ∧ Below w.heap.size w w' := by
    go_enter Try.func40, Try.ntmps40
    go_wp2_with fail
    refine (bvI_any r s l t _).mono ?_
    rintro e w1 ⟨rfl, hb⟩
    obtain ⟨hc1, hf1⟩ := bcell hb
    have B1 := Lib.hid (show Below w.heap.size w w1 from (by first | exact below_seq (Below.refl w.heap.size w) hb | exact below_seq1 (Below.refl w.heap.size w) hb | exact below_seq2 (Below.refl w.heap.size w) hb | exact below_seq3 (Below.refl w.heap.size w) hb | exact below_seq4 (Below.refl w.heap.size w) hb))
    have R1 := Lib.hid hb
    have hz1 := hb.size
    try simp at hz1
    clear hb
    rw [h]
    have D := Lib.hid (show Blk w1 (w.heap.size) 24 #[.int .i64 r, .int .i64 s, .int .i64 l, .int .i64 t] from (blk_below (blk_alloc (blk_new w 24 #[.int .i64 r, .int .i64 s, .int .i64 l, .int .i64 t]) _) R1.out (by simp <;> omega)))
    have Dc0 : World.cell? w1 ⟨w.heap.size, 0, none⟩ = some (.int .i64 r) := blk_cell D.out 0
    have Df0 : World.frozen? w1 ⟨w.heap.size, 0, none⟩ = false := blk_free D.out 0
    have Dc1 : World.cell? w1 ⟨w.heap.size, 1, none⟩ = some (.int .i64 s) := blk_cell D.out 1
    have Df1 : World.frozen? w1 ⟨w.heap.size, 1, none⟩ = false := blk_free D.out 1
    have Dc2 : World.cell? w1 ⟨w.heap.size, 2, none⟩ = some (.int .i64 l) := blk_cell D.out 2
    have Df2 : World.frozen? w1 ⟨w.heap.size, 2, none⟩ = false := blk_free D.out 2
    have Dc3 : World.cell? w1 ⟨w.heap.size, 3, none⟩ = some (.int .i64 t) := blk_cell D.out 3
    have Df3 : World.frozen? w1 ⟨w.heap.size, 3, none⟩ = false := blk_free D.out 3
    have E := Lib.hid (show Blk w1 ((w.heap.size + 1)) 24 #[.int .i64 0, .int .i64 0, .int .i64 0, .int .i64 0] from (blk_below (blk_new2 w _ 24 #[.int .i64 0, .int .i64 0, .int .i64 0, .int .i64 0]) R1.out (by simp <;> omega)))
    have Ec0 : World.cell? w1 ⟨(w.heap.size + 1), 0, none⟩ = some (.int .i64 0) := blk_cell E.out 0
    have Ef0 : World.frozen? w1 ⟨(w.heap.size + 1), 0, none⟩ = false := blk_free E.out 0
    have Ec1 : World.cell? w1 ⟨(w.heap.size + 1), 1, none⟩ = some (.int .i64 0) := blk_cell E.out 1
    have Ef1 : World.frozen? w1 ⟨(w.heap.size + 1), 1, none⟩ = false := blk_free E.out 1
    have Ec2 : World.cell? w1 ⟨(w.heap.size + 1), 2, none⟩ = some (.int .i64 0) := blk_cell E.out 2
    have Ef2 : World.frozen? w1 ⟨(w.heap.size + 1), 2, none⟩ = false := blk_free E.out 2
    have Ec3 : World.cell? w1 ⟨(w.heap.size + 1), 3, none⟩ = some (.int .i64 0) := blk_cell E.out 3
    have Ef3 : World.frozen? w1 ⟨(w.heap.size + 1), 3, none⟩ = false := blk_free E.out 3
    clear hc1 hf1
    go_wp2
    refine bodyPost_ret (v := .tuple #[.agg #[.int .i64 r, .int .i64 s, .int .i64 l, .int .i64 t], .bool true]) (by simp [results, Try.results40, go_sem, Ec0, Ec1, Ec2, Ec3]) rfl ⟨rfl, ?_⟩
    repeat refine Below.setCell ?_ (by simp) _
    exact B1.out
set_option maxHeartbeats 400000 in
theorem newI_no (r s n : Int) (w : World) (h : bvB r s s n = false) :
    Calls Try.prog 26 #[.int .i64 r, .int .i64 s, .int .i64 n] w fun e w' => e = .returned (.tuple #[.agg #[.int .i64 0, .int .i64 0, .int .i64 0, .int .i64 0], .bool false]) ∧ Below w.heap.size w w' := by
    go_enter Try.func26, Try.ntmps26
    go_wp2_with fail
    refine (ifv_no r s s n _ h).mono ?_
    rintro e w1 ⟨rfl, hb⟩
    obtain ⟨hc1, hf1⟩ := bcell hb
    have B1 := Lib.hid (show Below w.heap.size w w1 from (by first | exact below_seq (Below.refl w.heap.size w) hb | exact below_seq1 (Below.refl w.heap.size w) hb | exact below_seq2 (Below.refl w.heap.size w) hb | exact below_seq3 (Below.refl w.heap.size w) hb | exact below_seq4 (Below.refl w.heap.size w) hb))
    have R1 := Lib.hid hb
    have hz1 := hb.size
    try simp at hz1
    clear hb
    have E := Lib.hid (show Blk w1 (w.heap.size) 24 #[.int .i64 0, .int .i64 0, .int .i64 0, .int .i64 0] from (blk_below (blk_new w 24 #[.int .i64 0, .int .i64 0, .int .i64 0, .int .i64 0]) R1.out (by simp <;> omega)))
    have Ec0 : World.cell? w1 ⟨w.heap.size, 0, none⟩ = some (.int .i64 0) := blk_cell E.out 0
    have Ef0 : World.frozen? w1 ⟨w.heap.size, 0, none⟩ = false := blk_free E.out 0
    have Ec1 : World.cell? w1 ⟨w.heap.size, 1, none⟩ = some (.int .i64 0) := blk_cell E.out 1
    have Ef1 : World.frozen? w1 ⟨w.heap.size, 1, none⟩ = false := blk_free E.out 1
    have Ec2 : World.cell? w1 ⟨w.heap.size, 2, none⟩ = some (.int .i64 0) := blk_cell E.out 2
    have Ef2 : World.frozen? w1 ⟨w.heap.size, 2, none⟩ = false := blk_free E.out 2
    have Ec3 : World.cell? w1 ⟨w.heap.size, 3, none⟩ = some (.int .i64 0) := blk_cell E.out 3
    have Ef3 : World.frozen? w1 ⟨w.heap.size, 3, none⟩ = false := blk_free E.out 3
    clear hc1 hf1
    go_wp2
    refine bodyPost_ret (v := .tuple #[.agg #[.int .i64 0, .int .i64 0, .int .i64 0, .int .i64 0], .bool false]) (by simp [results, Try.results26, go_sem, Ec0, Ec1, Ec2, Ec3]) rfl ⟨rfl, ?_⟩
    repeat refine Below.setCell ?_ (by simp) _
    exact B1.out
set_option maxHeartbeats 400000 in
theorem newI_yes (r s n : Int) (w : World) (h : bvB r s s n = true) :
    Calls Try.prog 26 #[.int .i64 r, .int .i64 s, .int .i64 n] w fun e w' => e = .returned (.tuple #[.agg #[.int .i64 r, .int .i64 s, .int .i64 s, .int .i64 n], .bool true]) ∧ Below w.heap.size w w' := by
    go_enter Try.func26, Try.ntmps26
    go_wp2_with fail
    refine (ifv_yes r s s n _ h).mono ?_
    rintro e w1 ⟨rfl, hb⟩
    obtain ⟨hc1, hf1⟩ := bcell hb
    have B1 := Lib.hid (show Below w.heap.size w w1 from (by first | exact below_seq (Below.refl w.heap.size w) hb | exact below_seq1 (Below.refl w.heap.size w) hb | exact below_seq2 (Below.refl w.heap.size w) hb | exact below_seq3 (Below.refl w.heap.size w) hb | exact below_seq4 (Below.refl w.heap.size w) hb))
    have R1 := Lib.hid hb
    have hz1 := hb.size
    try simp at hz1
    clear hb
    have E := Lib.hid (show Blk w1 (w.heap.size) 24 #[.int .i64 0, .int .i64 0, .int .i64 0, .int .i64 0] from (blk_below (blk_new w 24 #[.int .i64 0, .int .i64 0, .int .i64 0, .int .i64 0]) R1.out (by simp <;> omega)))
    have Ec0 : World.cell? w1 ⟨w.heap.size, 0, none⟩ = some (.int .i64 0) := blk_cell E.out 0
    have Ef0 : World.frozen? w1 ⟨w.heap.size, 0, none⟩ = false := blk_free E.out 0
    have Ec1 : World.cell? w1 ⟨w.heap.size, 1, none⟩ = some (.int .i64 0) := blk_cell E.out 1
    have Ef1 : World.frozen? w1 ⟨w.heap.size, 1, none⟩ = false := blk_free E.out 1
    have Ec2 : World.cell? w1 ⟨w.heap.size, 2, none⟩ = some (.int .i64 0) := blk_cell E.out 2
    have Ef2 : World.frozen? w1 ⟨w.heap.size, 2, none⟩ = false := blk_free E.out 2
    have Ec3 : World.cell? w1 ⟨w.heap.size, 3, none⟩ = some (.int .i64 0) := blk_cell E.out 3
    have Ef3 : World.frozen? w1 ⟨w.heap.size, 3, none⟩ = false := blk_free E.out 3
    clear hc1 hf1
    go_wp2
    refine bodyPost_ret (v := .tuple #[.agg #[.int .i64 r, .int .i64 s, .int .i64 s, .int .i64 n], .bool true]) (by simp [results, Try.results26, go_sem, Ec0, Ec1, Ec2, Ec3]) rfl ⟨rfl, ?_⟩
    repeat refine Below.setCell ?_ (by simp) _
    exact B1.out
set_option maxHeartbeats 400000 in
theorem newS_no (r s n : Int) (w : World) (h : bvB r s s n = false) :
    Calls Try.prog 25 #[.int .i64 r, .int .i64 s, .int .i64 n] w fun e w' => e = .returned (.tuple #[.agg #[.int .i64 0, .int .i64 0, .int .i64 0, .int .i64 0], .bool false]) ∧ Below w.heap.size w w' := by
    rw [bv_new] at h
    rcases h1 : rbB r s with _ | _
    · go_enter Try.func25, Try.ntmps25
      go_wp2_with (go_at_call 41; refine (ratesS_any _ _ _).mono ?_; rintro e w' ⟨rfl, rfl⟩)
      exact bodyPost_ret (v := .tuple #[.agg #[.int .i64 0, .int .i64 0, .int .i64 0, .int .i64 0], .bool false]) (by simp [results, Try.results25, go_sem]) rfl ⟨rfl, below_alloc (Below.refl _ _) _⟩
    · have h2 : inB n 0 1000000 = false := by rw [h1] at h; simpa using h
      clear h
      go_enter Try.func25, Try.ntmps25
      go_wp2_with (first | (go_at_call 41; refine (ratesS_any _ _ _).mono ?_; rintro e w' ⟨rfl, rfl⟩) | (go_at_call 43; refine (timeS_any _ _).mono ?_; rintro e w' ⟨rfl, rfl⟩))
      exact bodyPost_ret (v := .tuple #[.agg #[.int .i64 0, .int .i64 0, .int .i64 0, .int .i64 0], .bool false]) (by simp [results, Try.results25, go_sem]) rfl ⟨rfl, below_alloc (Below.refl _ _) _⟩
set_option maxHeartbeats 400000 in
theorem newS_yes (r s n : Int) (w : World) (h : bvB r s s n = true) :
    Calls Try.prog 25 #[.int .i64 r, .int .i64 s, .int .i64 n] w fun e w' => e = .returned (.tuple #[.agg #[.int .i64 r, .int .i64 s, .int .i64 s, .int .i64 n], .bool true]) ∧ Below w.heap.size w w' := by
    rw [bv_new, Bool.and_eq_true] at h
    obtain ⟨h1, h2⟩ := h
    go_enter Try.func25, Try.ntmps25
    go_wp2_with (first | (go_at_call 41; refine (ratesS_any _ _ _).mono ?_; rintro e w' ⟨rfl, rfl⟩) | (go_at_call 43; refine (timeS_any _ _).mono ?_; rintro e w' ⟨rfl, rfl⟩))
    refine bodyPost_ret (v := .tuple #[.agg #[.int .i64 r, .int .i64 s, .int .i64 s, .int .i64 n], .bool true]) (by simp [results, Try.results25, go_sem]) rfl ⟨rfl, ?_⟩
    repeat refine below_alloc ?_ _
    exact Below.refl _ _
set_option maxHeartbeats 800000 in
theorem chgI_no (r s l t n r2 s2 : Int) (w : World) (h : cgB r s l t n r2 s2 = false) :
    Calls Try.prog 20 #[.agg #[.int .i64 r, .int .i64 s, .int .i64 l, .int .i64 t], .int .i64 n, .int .i64 r2, .int .i64 s2] w fun e w' => e = .returned (.tuple #[.agg #[.int .i64 0, .int .i64 0, .int .i64 0, .int .i64 0], .bool false]) ∧ Below w.heap.size w w' := by
  rcases cg_no h with h | ⟨h, hr⟩
  · go_enter Try.func20, Try.ntmps20
    go_wp2_with fail
    refine (refNo r s l t n _ h).mono ?_
    rintro e w1 ⟨rfl, hb⟩
    obtain ⟨hc1, hf1⟩ := bcell hb
    have B1 := Lib.hid (show Below w.heap.size w w1 from (by first | exact below_seq (Below.refl w.heap.size w) hb | exact below_seq1 (Below.refl w.heap.size w) hb | exact below_seq2 (Below.refl w.heap.size w) hb | exact below_seq3 (Below.refl w.heap.size w) hb | exact below_seq4 (Below.refl w.heap.size w) hb))
    have R1 := Lib.hid hb
    have hz1 := hb.size
    try simp at hz1
    clear hb
    have D := Lib.hid (show Blk w1 (w.heap.size) 24 #[.int .i64 r, .int .i64 s, .int .i64 l, .int .i64 t] from (blk_below (blk_alloc (blk_new w 24 #[.int .i64 r, .int .i64 s, .int .i64 l, .int .i64 t]) _) R1.out (by simp <;> omega)))
    have Dc0 : World.cell? w1 ⟨w.heap.size, 0, none⟩ = some (.int .i64 r) := blk_cell D.out 0
    have Df0 : World.frozen? w1 ⟨w.heap.size, 0, none⟩ = false := blk_free D.out 0
    have Dc1 : World.cell? w1 ⟨w.heap.size, 1, none⟩ = some (.int .i64 s) := blk_cell D.out 1
    have Df1 : World.frozen? w1 ⟨w.heap.size, 1, none⟩ = false := blk_free D.out 1
    have Dc2 : World.cell? w1 ⟨w.heap.size, 2, none⟩ = some (.int .i64 l) := blk_cell D.out 2
    have Df2 : World.frozen? w1 ⟨w.heap.size, 2, none⟩ = false := blk_free D.out 2
    have Dc3 : World.cell? w1 ⟨w.heap.size, 3, none⟩ = some (.int .i64 t) := blk_cell D.out 3
    have Df3 : World.frozen? w1 ⟨w.heap.size, 3, none⟩ = false := blk_free D.out 3
    have E := Lib.hid (show Blk w1 ((w.heap.size + 1)) 24 #[.int .i64 0, .int .i64 0, .int .i64 0, .int .i64 0] from (blk_below (blk_new2 w _ 24 #[.int .i64 0, .int .i64 0, .int .i64 0, .int .i64 0]) R1.out (by simp <;> omega)))
    have Ec0 : World.cell? w1 ⟨(w.heap.size + 1), 0, none⟩ = some (.int .i64 0) := blk_cell E.out 0
    have Ef0 : World.frozen? w1 ⟨(w.heap.size + 1), 0, none⟩ = false := blk_free E.out 0
    have Ec1 : World.cell? w1 ⟨(w.heap.size + 1), 1, none⟩ = some (.int .i64 0) := blk_cell E.out 1
    have Ef1 : World.frozen? w1 ⟨(w.heap.size + 1), 1, none⟩ = false := blk_free E.out 1
    have Ec2 : World.cell? w1 ⟨(w.heap.size + 1), 2, none⟩ = some (.int .i64 0) := blk_cell E.out 2
    have Ef2 : World.frozen? w1 ⟨(w.heap.size + 1), 2, none⟩ = false := blk_free E.out 2
    have Ec3 : World.cell? w1 ⟨(w.heap.size + 1), 3, none⟩ = some (.int .i64 0) := blk_cell E.out 3
    have Ef3 : World.frozen? w1 ⟨(w.heap.size + 1), 3, none⟩ = false := blk_free E.out 3
    clear hc1 hf1
    go_wp2
    refine bodyPost_ret (v := .tuple #[.agg #[.int .i64 0, .int .i64 0, .int .i64 0, .int .i64 0], .bool false]) (by simp [results, Try.results20, go_sem, Ec0, Ec1, Ec2, Ec3]) rfl ⟨rfl, ?_⟩
    repeat refine Below.setCell ?_ (by simp) _
    exact B1.out
  · have H := Lib.hid h
    have l1 := lv_bd h
    have a0 := rt_of h
    have CV : Hid (bvB r2 s2 (cv r s l t n s2) n = rbB r2 s2) := Lib.hid (cv_valid r2 h)
    have CW : Hid (cv r s l t n s2 = if lv r s l t n ≤ s2 then lv r s l t n else s2) := Lib.hid rfl
    obtain ⟨V, hV⟩ : ∃ V, V = lv r s l t n := ⟨_, rfl⟩
    rw [← hV] at CW l1
    have HV := Lib.hid hV
    have x2 : V ≤ 10000 := by omega
    have x3 : 0 ≤ V := by omega
    clear l1 a0 hV h
    have HR := Lib.hid hr
    clear hr
    by_cases hc : V ≤ s2
    · have HC := Lib.hid (show cv r s l t n s2 = V by rw [CW.out, if_pos hc])
      have HI := Lib.hid (show bvB r2 s2 V n = false by rw [← HR.out, ← CV.out, HC.out])
      go_enter Try.func20, Try.ntmps20
      go_wp2_with fail
      refine (refYes r s l t n _ H.out).mono ?_
      rintro e w1 ⟨rfl, hb⟩
      obtain ⟨hc1, hf1⟩ := bcell hb
      have B1 := Lib.hid (show Below w.heap.size w w1 from (by first | exact below_seq (Below.refl w.heap.size w) hb | exact below_seq1 (Below.refl w.heap.size w) hb | exact below_seq2 (Below.refl w.heap.size w) hb | exact below_seq3 (Below.refl w.heap.size w) hb | exact below_seq4 (Below.refl w.heap.size w) hb))
      have R1 := Lib.hid hb
      have hz1 := hb.size
      try simp at hz1
      clear hb
      rw [← HV.out]
      have D := Lib.hid (show Blk w1 (w.heap.size) 24 #[.int .i64 r, .int .i64 s, .int .i64 l, .int .i64 t] from (blk_below (blk_alloc (blk_new w 24 #[.int .i64 r, .int .i64 s, .int .i64 l, .int .i64 t]) _) R1.out (by simp <;> omega)))
      have Dc0 : World.cell? w1 ⟨w.heap.size, 0, none⟩ = some (.int .i64 r) := blk_cell D.out 0
      have Df0 : World.frozen? w1 ⟨w.heap.size, 0, none⟩ = false := blk_free D.out 0
      have Dc1 : World.cell? w1 ⟨w.heap.size, 1, none⟩ = some (.int .i64 s) := blk_cell D.out 1
      have Df1 : World.frozen? w1 ⟨w.heap.size, 1, none⟩ = false := blk_free D.out 1
      have Dc2 : World.cell? w1 ⟨w.heap.size, 2, none⟩ = some (.int .i64 l) := blk_cell D.out 2
      have Df2 : World.frozen? w1 ⟨w.heap.size, 2, none⟩ = false := blk_free D.out 2
      have Dc3 : World.cell? w1 ⟨w.heap.size, 3, none⟩ = some (.int .i64 t) := blk_cell D.out 3
      have Df3 : World.frozen? w1 ⟨w.heap.size, 3, none⟩ = false := blk_free D.out 3
      have E := Lib.hid (show Blk w1 ((w.heap.size + 1)) 24 #[.int .i64 0, .int .i64 0, .int .i64 0, .int .i64 0] from (blk_below (blk_new2 w _ 24 #[.int .i64 0, .int .i64 0, .int .i64 0, .int .i64 0]) R1.out (by simp <;> omega)))
      have Ec0 : World.cell? w1 ⟨(w.heap.size + 1), 0, none⟩ = some (.int .i64 0) := blk_cell E.out 0
      have Ef0 : World.frozen? w1 ⟨(w.heap.size + 1), 0, none⟩ = false := blk_free E.out 0
      have Ec1 : World.cell? w1 ⟨(w.heap.size + 1), 1, none⟩ = some (.int .i64 0) := blk_cell E.out 1
      have Ef1 : World.frozen? w1 ⟨(w.heap.size + 1), 1, none⟩ = false := blk_free E.out 1
      have Ec2 : World.cell? w1 ⟨(w.heap.size + 1), 2, none⟩ = some (.int .i64 0) := blk_cell E.out 2
      have Ef2 : World.frozen? w1 ⟨(w.heap.size + 1), 2, none⟩ = false := blk_free E.out 2
      have Ec3 : World.cell? w1 ⟨(w.heap.size + 1), 3, none⟩ = some (.int .i64 0) := blk_cell E.out 3
      have Ef3 : World.frozen? w1 ⟨(w.heap.size + 1), 3, none⟩ = false := blk_free E.out 3
      clear hc1 hf1
      go_upto_region 2 with (fail)
      have B2 := Lib.hid (show Below w.heap.size w (World.setCell (World.setCell (World.setCell (World.setCell w1 ⟨w.heap.size, 0, none⟩ (.int .i64 r)) ⟨w.heap.size, 1, none⟩ (.int .i64 s)) ⟨w.heap.size, 2, none⟩ (.int .i64 V)) ⟨w.heap.size, 3, none⟩ (.int .i64 n)) from Below.setCell (Below.setCell (Below.setCell (Below.setCell (B1.out) (by simp) _) (by simp) _) (by simp) _) (by simp) _)
      have D' := Lib.hid (show Blk (World.setCell (World.setCell (World.setCell (World.setCell w1 ⟨w.heap.size, 0, none⟩ (.int .i64 r)) ⟨w.heap.size, 1, none⟩ (.int .i64 s)) ⟨w.heap.size, 2, none⟩ (.int .i64 V)) ⟨w.heap.size, 3, none⟩ (.int .i64 n)) w.heap.size 24 #[.int .i64 r, .int .i64 s, .int .i64 V, .int .i64 n] from blk_set (blk_set (blk_set (blk_set (D.out) 0 _) 1 _) 2 _) 3 _)
      have E' := Lib.hid (show Blk (World.setCell (World.setCell (World.setCell (World.setCell w1 ⟨w.heap.size, 0, none⟩ (.int .i64 r)) ⟨w.heap.size, 1, none⟩ (.int .i64 s)) ⟨w.heap.size, 2, none⟩ (.int .i64 V)) ⟨w.heap.size, 3, none⟩ (.int .i64 n)) (w.heap.size + 1) 24 #[.int .i64 0, .int .i64 0, .int .i64 0, .int .i64 0] from blk_far (blk_far (blk_far (blk_far (E.out) (by simp <;> omega) _) (by simp <;> omega) _) (by simp <;> omega) _) (by simp <;> omega) _)
      have z2 : (World.heap (World.setCell (World.setCell (World.setCell (World.setCell w1 ⟨w.heap.size, 0, none⟩ (.int .i64 r)) ⟨w.heap.size, 1, none⟩ (.int .i64 s)) ⟨w.heap.size, 2, none⟩ (.int .i64 V)) ⟨w.heap.size, 3, none⟩ (.int .i64 n))).size = (World.heap w1).size := by simp
      generalize (World.setCell (World.setCell (World.setCell (World.setCell w1 ⟨w.heap.size, 0, none⟩ (.int .i64 r)) ⟨w.heap.size, 1, none⟩ (.int .i64 s)) ⟨w.heap.size, 2, none⟩ (.int .i64 V)) ⟨w.heap.size, 3, none⟩ (.int .i64 n)) = w2 at B2 z2 D' E' ⊢
      clear Dc0 Df0 Dc1 Df1 Dc2 Df2 Dc3 Df3
      have Dc0 : World.cell? w2 ⟨w.heap.size, 0, none⟩ = some (.int .i64 r) := blk_cell D'.out 0
      have Df0 : World.frozen? w2 ⟨w.heap.size, 0, none⟩ = false := blk_free D'.out 0
      have Dc1 : World.cell? w2 ⟨w.heap.size, 1, none⟩ = some (.int .i64 s) := blk_cell D'.out 1
      have Df1 : World.frozen? w2 ⟨w.heap.size, 1, none⟩ = false := blk_free D'.out 1
      have Dc2 : World.cell? w2 ⟨w.heap.size, 2, none⟩ = some (.int .i64 V) := blk_cell D'.out 2
      have Df2 : World.frozen? w2 ⟨w.heap.size, 2, none⟩ = false := blk_free D'.out 2
      have Dc3 : World.cell? w2 ⟨w.heap.size, 3, none⟩ = some (.int .i64 n) := blk_cell D'.out 3
      have Df3 : World.frozen? w2 ⟨w.heap.size, 3, none⟩ = false := blk_free D'.out 3
      clear Ec0 Ef0 Ec1 Ef1 Ec2 Ef2 Ec3 Ef3
      have Ec0 : World.cell? w2 ⟨(w.heap.size + 1), 0, none⟩ = some (.int .i64 0) := blk_cell E'.out 0
      have Ef0 : World.frozen? w2 ⟨(w.heap.size + 1), 0, none⟩ = false := blk_free E'.out 0
      have Ec1 : World.cell? w2 ⟨(w.heap.size + 1), 1, none⟩ = some (.int .i64 0) := blk_cell E'.out 1
      have Ef1 : World.frozen? w2 ⟨(w.heap.size + 1), 1, none⟩ = false := blk_free E'.out 1
      have Ec2 : World.cell? w2 ⟨(w.heap.size + 1), 2, none⟩ = some (.int .i64 0) := blk_cell E'.out 2
      have Ef2 : World.frozen? w2 ⟨(w.heap.size + 1), 2, none⟩ = false := blk_free E'.out 2
      have Ec3 : World.cell? w2 ⟨(w.heap.size + 1), 3, none⟩ = some (.int .i64 0) := blk_cell E'.out 3
      have Ef3 : World.frozen? w2 ⟨(w.heap.size + 1), 3, none⟩ = false := blk_free E'.out 3
      have hz2 : w1.heap.size ≤ w2.heap.size := Nat.le_of_eq z2.symm
      clear z2
      go_wp2_with fail
      refine (ifv_no r2 s2 V n _ HI.out).mono ?_
      rintro e w3 ⟨rfl, hb⟩
      obtain ⟨hc3, hf3⟩ := bcell hb
      have B3 := Lib.hid (show Below w.heap.size w w3 from (by first | exact below_seq B2.out hb | exact below_seq1 B2.out hb | exact below_seq2 B2.out hb | exact below_seq3 B2.out hb | exact below_seq4 B2.out hb))
      have R3 := Lib.hid hb
      have hz3 := hb.size
      try simp at hz3
      clear hb
      have E3 := Lib.hid (show Blk w3 ((w.heap.size + 1)) 24 #[.int .i64 0, .int .i64 0, .int .i64 0, .int .i64 0] from (blk_below E'.out R3.out (by first | omega | (simp <;> omega))))
      have E3c0 : World.cell? w3 ⟨(w.heap.size + 1), 0, none⟩ = some (.int .i64 0) := blk_cell E3.out 0
      have E3f0 : World.frozen? w3 ⟨(w.heap.size + 1), 0, none⟩ = false := blk_free E3.out 0
      have E3c1 : World.cell? w3 ⟨(w.heap.size + 1), 1, none⟩ = some (.int .i64 0) := blk_cell E3.out 1
      have E3f1 : World.frozen? w3 ⟨(w.heap.size + 1), 1, none⟩ = false := blk_free E3.out 1
      have E3c2 : World.cell? w3 ⟨(w.heap.size + 1), 2, none⟩ = some (.int .i64 0) := blk_cell E3.out 2
      have E3f2 : World.frozen? w3 ⟨(w.heap.size + 1), 2, none⟩ = false := blk_free E3.out 2
      have E3c3 : World.cell? w3 ⟨(w.heap.size + 1), 3, none⟩ = some (.int .i64 0) := blk_cell E3.out 3
      have E3f3 : World.frozen? w3 ⟨(w.heap.size + 1), 3, none⟩ = false := blk_free E3.out 3
      clear hc3 hf3
      go_wp2
      refine bodyPost_ret (v := .tuple #[.agg #[.int .i64 0, .int .i64 0, .int .i64 0, .int .i64 0], .bool false]) (by simp [results, Try.results20, go_sem, E3c0, E3c1, E3c2, E3c3]) rfl ⟨rfl, ?_⟩
      repeat refine Below.setCell ?_ (by simp) _
      exact B3.out
    · have HC := Lib.hid (show cv r s l t n s2 = s2 by rw [CW.out, if_neg hc])
      have HI := Lib.hid (show bvB r2 s2 s2 n = false by rw [← HR.out, ← CV.out, HC.out])
      go_enter Try.func20, Try.ntmps20
      go_wp2_with fail
      refine (refYes r s l t n _ H.out).mono ?_
      rintro e w1 ⟨rfl, hb⟩
      obtain ⟨hc1, hf1⟩ := bcell hb
      have B1 := Lib.hid (show Below w.heap.size w w1 from (by first | exact below_seq (Below.refl w.heap.size w) hb | exact below_seq1 (Below.refl w.heap.size w) hb | exact below_seq2 (Below.refl w.heap.size w) hb | exact below_seq3 (Below.refl w.heap.size w) hb | exact below_seq4 (Below.refl w.heap.size w) hb))
      have R1 := Lib.hid hb
      have hz1 := hb.size
      try simp at hz1
      clear hb
      rw [← HV.out]
      have D := Lib.hid (show Blk w1 (w.heap.size) 24 #[.int .i64 r, .int .i64 s, .int .i64 l, .int .i64 t] from (blk_below (blk_alloc (blk_new w 24 #[.int .i64 r, .int .i64 s, .int .i64 l, .int .i64 t]) _) R1.out (by simp <;> omega)))
      have Dc0 : World.cell? w1 ⟨w.heap.size, 0, none⟩ = some (.int .i64 r) := blk_cell D.out 0
      have Df0 : World.frozen? w1 ⟨w.heap.size, 0, none⟩ = false := blk_free D.out 0
      have Dc1 : World.cell? w1 ⟨w.heap.size, 1, none⟩ = some (.int .i64 s) := blk_cell D.out 1
      have Df1 : World.frozen? w1 ⟨w.heap.size, 1, none⟩ = false := blk_free D.out 1
      have Dc2 : World.cell? w1 ⟨w.heap.size, 2, none⟩ = some (.int .i64 l) := blk_cell D.out 2
      have Df2 : World.frozen? w1 ⟨w.heap.size, 2, none⟩ = false := blk_free D.out 2
      have Dc3 : World.cell? w1 ⟨w.heap.size, 3, none⟩ = some (.int .i64 t) := blk_cell D.out 3
      have Df3 : World.frozen? w1 ⟨w.heap.size, 3, none⟩ = false := blk_free D.out 3
      have E := Lib.hid (show Blk w1 ((w.heap.size + 1)) 24 #[.int .i64 0, .int .i64 0, .int .i64 0, .int .i64 0] from (blk_below (blk_new2 w _ 24 #[.int .i64 0, .int .i64 0, .int .i64 0, .int .i64 0]) R1.out (by simp <;> omega)))
      have Ec0 : World.cell? w1 ⟨(w.heap.size + 1), 0, none⟩ = some (.int .i64 0) := blk_cell E.out 0
      have Ef0 : World.frozen? w1 ⟨(w.heap.size + 1), 0, none⟩ = false := blk_free E.out 0
      have Ec1 : World.cell? w1 ⟨(w.heap.size + 1), 1, none⟩ = some (.int .i64 0) := blk_cell E.out 1
      have Ef1 : World.frozen? w1 ⟨(w.heap.size + 1), 1, none⟩ = false := blk_free E.out 1
      have Ec2 : World.cell? w1 ⟨(w.heap.size + 1), 2, none⟩ = some (.int .i64 0) := blk_cell E.out 2
      have Ef2 : World.frozen? w1 ⟨(w.heap.size + 1), 2, none⟩ = false := blk_free E.out 2
      have Ec3 : World.cell? w1 ⟨(w.heap.size + 1), 3, none⟩ = some (.int .i64 0) := blk_cell E.out 3
      have Ef3 : World.frozen? w1 ⟨(w.heap.size + 1), 3, none⟩ = false := blk_free E.out 3
      clear hc1 hf1
      go_upto_region 2 with (fail)
      have B2 := Lib.hid (show Below w.heap.size w (World.setCell (World.setCell (World.setCell (World.setCell w1 ⟨w.heap.size, 0, none⟩ (.int .i64 r)) ⟨w.heap.size, 1, none⟩ (.int .i64 s)) ⟨w.heap.size, 2, none⟩ (.int .i64 V)) ⟨w.heap.size, 3, none⟩ (.int .i64 n)) from Below.setCell (Below.setCell (Below.setCell (Below.setCell (B1.out) (by simp) _) (by simp) _) (by simp) _) (by simp) _)
      have D' := Lib.hid (show Blk (World.setCell (World.setCell (World.setCell (World.setCell w1 ⟨w.heap.size, 0, none⟩ (.int .i64 r)) ⟨w.heap.size, 1, none⟩ (.int .i64 s)) ⟨w.heap.size, 2, none⟩ (.int .i64 V)) ⟨w.heap.size, 3, none⟩ (.int .i64 n)) w.heap.size 24 #[.int .i64 r, .int .i64 s, .int .i64 V, .int .i64 n] from blk_set (blk_set (blk_set (blk_set (D.out) 0 _) 1 _) 2 _) 3 _)
      have E' := Lib.hid (show Blk (World.setCell (World.setCell (World.setCell (World.setCell w1 ⟨w.heap.size, 0, none⟩ (.int .i64 r)) ⟨w.heap.size, 1, none⟩ (.int .i64 s)) ⟨w.heap.size, 2, none⟩ (.int .i64 V)) ⟨w.heap.size, 3, none⟩ (.int .i64 n)) (w.heap.size + 1) 24 #[.int .i64 0, .int .i64 0, .int .i64 0, .int .i64 0] from blk_far (blk_far (blk_far (blk_far (E.out) (by simp <;> omega) _) (by simp <;> omega) _) (by simp <;> omega) _) (by simp <;> omega) _)
      have z2 : (World.heap (World.setCell (World.setCell (World.setCell (World.setCell w1 ⟨w.heap.size, 0, none⟩ (.int .i64 r)) ⟨w.heap.size, 1, none⟩ (.int .i64 s)) ⟨w.heap.size, 2, none⟩ (.int .i64 V)) ⟨w.heap.size, 3, none⟩ (.int .i64 n))).size = (World.heap w1).size := by simp
      generalize (World.setCell (World.setCell (World.setCell (World.setCell w1 ⟨w.heap.size, 0, none⟩ (.int .i64 r)) ⟨w.heap.size, 1, none⟩ (.int .i64 s)) ⟨w.heap.size, 2, none⟩ (.int .i64 V)) ⟨w.heap.size, 3, none⟩ (.int .i64 n)) = w2 at B2 z2 D' E' ⊢
      clear Dc0 Df0 Dc1 Df1 Dc2 Df2 Dc3 Df3
      have Dc0 : World.cell? w2 ⟨w.heap.size, 0, none⟩ = some (.int .i64 r) := blk_cell D'.out 0
      have Df0 : World.frozen? w2 ⟨w.heap.size, 0, none⟩ = false := blk_free D'.out 0
      have Dc1 : World.cell? w2 ⟨w.heap.size, 1, none⟩ = some (.int .i64 s) := blk_cell D'.out 1
      have Df1 : World.frozen? w2 ⟨w.heap.size, 1, none⟩ = false := blk_free D'.out 1
      have Dc2 : World.cell? w2 ⟨w.heap.size, 2, none⟩ = some (.int .i64 V) := blk_cell D'.out 2
      have Df2 : World.frozen? w2 ⟨w.heap.size, 2, none⟩ = false := blk_free D'.out 2
      have Dc3 : World.cell? w2 ⟨w.heap.size, 3, none⟩ = some (.int .i64 n) := blk_cell D'.out 3
      have Df3 : World.frozen? w2 ⟨w.heap.size, 3, none⟩ = false := blk_free D'.out 3
      clear Ec0 Ef0 Ec1 Ef1 Ec2 Ef2 Ec3 Ef3
      have Ec0 : World.cell? w2 ⟨(w.heap.size + 1), 0, none⟩ = some (.int .i64 0) := blk_cell E'.out 0
      have Ef0 : World.frozen? w2 ⟨(w.heap.size + 1), 0, none⟩ = false := blk_free E'.out 0
      have Ec1 : World.cell? w2 ⟨(w.heap.size + 1), 1, none⟩ = some (.int .i64 0) := blk_cell E'.out 1
      have Ef1 : World.frozen? w2 ⟨(w.heap.size + 1), 1, none⟩ = false := blk_free E'.out 1
      have Ec2 : World.cell? w2 ⟨(w.heap.size + 1), 2, none⟩ = some (.int .i64 0) := blk_cell E'.out 2
      have Ef2 : World.frozen? w2 ⟨(w.heap.size + 1), 2, none⟩ = false := blk_free E'.out 2
      have Ec3 : World.cell? w2 ⟨(w.heap.size + 1), 3, none⟩ = some (.int .i64 0) := blk_cell E'.out 3
      have Ef3 : World.frozen? w2 ⟨(w.heap.size + 1), 3, none⟩ = false := blk_free E'.out 3
      have hz2 : w1.heap.size ≤ w2.heap.size := Nat.le_of_eq z2.symm
      clear z2
      go_wp2_with fail
      refine (ifv_no r2 s2 s2 n _ HI.out).mono ?_
      rintro e w3 ⟨rfl, hb⟩
      obtain ⟨hc3, hf3⟩ := bcell hb
      have B3 := Lib.hid (show Below w.heap.size w w3 from (by first | exact below_seq B2.out hb | exact below_seq1 B2.out hb | exact below_seq2 B2.out hb | exact below_seq3 B2.out hb | exact below_seq4 B2.out hb))
      have R3 := Lib.hid hb
      have hz3 := hb.size
      try simp at hz3
      clear hb
      have E3 := Lib.hid (show Blk w3 ((w.heap.size + 1)) 24 #[.int .i64 0, .int .i64 0, .int .i64 0, .int .i64 0] from (blk_below E'.out R3.out (by first | omega | (simp <;> omega))))
      have E3c0 : World.cell? w3 ⟨(w.heap.size + 1), 0, none⟩ = some (.int .i64 0) := blk_cell E3.out 0
      have E3f0 : World.frozen? w3 ⟨(w.heap.size + 1), 0, none⟩ = false := blk_free E3.out 0
      have E3c1 : World.cell? w3 ⟨(w.heap.size + 1), 1, none⟩ = some (.int .i64 0) := blk_cell E3.out 1
      have E3f1 : World.frozen? w3 ⟨(w.heap.size + 1), 1, none⟩ = false := blk_free E3.out 1
      have E3c2 : World.cell? w3 ⟨(w.heap.size + 1), 2, none⟩ = some (.int .i64 0) := blk_cell E3.out 2
      have E3f2 : World.frozen? w3 ⟨(w.heap.size + 1), 2, none⟩ = false := blk_free E3.out 2
      have E3c3 : World.cell? w3 ⟨(w.heap.size + 1), 3, none⟩ = some (.int .i64 0) := blk_cell E3.out 3
      have E3f3 : World.frozen? w3 ⟨(w.heap.size + 1), 3, none⟩ = false := blk_free E3.out 3
      clear hc3 hf3
      go_wp2
      refine bodyPost_ret (v := .tuple #[.agg #[.int .i64 0, .int .i64 0, .int .i64 0, .int .i64 0], .bool false]) (by simp [results, Try.results20, go_sem, E3c0, E3c1, E3c2, E3c3]) rfl ⟨rfl, ?_⟩
      repeat refine Below.setCell ?_ (by simp) _
      exact B3.out
set_option maxHeartbeats 800000 in
theorem chgI_yes (r s l t n r2 s2 : Int) (w : World) (h : cgB r s l t n r2 s2 = true) :
    Calls Try.prog 20 #[.agg #[.int .i64 r, .int .i64 s, .int .i64 l, .int .i64 t], .int .i64 n, .int .i64 r2, .int .i64 s2] w fun e w' => e = .returned (.tuple #[.agg #[.int .i64 r2, .int .i64 s2, .int .i64 (cv r s l t n s2), .int .i64 n], .bool true]) ∧ Below w.heap.size w w' := by
    obtain ⟨h, hr⟩ := cg_of h
    have H := Lib.hid h
    have l1 := lv_bd h
    have a0 := rt_of h
    have CV : Hid (bvB r2 s2 (cv r s l t n s2) n = rbB r2 s2) := Lib.hid (cv_valid r2 h)
    have CW : Hid (cv r s l t n s2 = if lv r s l t n ≤ s2 then lv r s l t n else s2) := Lib.hid rfl
    obtain ⟨V, hV⟩ : ∃ V, V = lv r s l t n := ⟨_, rfl⟩
    rw [← hV] at CW l1
    have HV := Lib.hid hV
    have x2 : V ≤ 10000 := by omega
    have x3 : 0 ≤ V := by omega
    clear l1 a0 hV h
    have HR := Lib.hid hr
    clear hr
    by_cases hc : V ≤ s2
    · have HC := Lib.hid (show cv r s l t n s2 = V by rw [CW.out, if_pos hc])
      have HI := Lib.hid (show bvB r2 s2 V n = true by rw [← HR.out, ← CV.out, HC.out])
      go_enter Try.func20, Try.ntmps20
      go_wp2_with fail
      refine (refYes r s l t n _ H.out).mono ?_
      rintro e w1 ⟨rfl, hb⟩
      obtain ⟨hc1, hf1⟩ := bcell hb
      have B1 := Lib.hid (show Below w.heap.size w w1 from (by first | exact below_seq (Below.refl w.heap.size w) hb | exact below_seq1 (Below.refl w.heap.size w) hb | exact below_seq2 (Below.refl w.heap.size w) hb | exact below_seq3 (Below.refl w.heap.size w) hb | exact below_seq4 (Below.refl w.heap.size w) hb))
      have R1 := Lib.hid hb
      have hz1 := hb.size
      try simp at hz1
      clear hb
      rw [← HV.out]
      have D := Lib.hid (show Blk w1 (w.heap.size) 24 #[.int .i64 r, .int .i64 s, .int .i64 l, .int .i64 t] from (blk_below (blk_alloc (blk_new w 24 #[.int .i64 r, .int .i64 s, .int .i64 l, .int .i64 t]) _) R1.out (by simp <;> omega)))
      have Dc0 : World.cell? w1 ⟨w.heap.size, 0, none⟩ = some (.int .i64 r) := blk_cell D.out 0
      have Df0 : World.frozen? w1 ⟨w.heap.size, 0, none⟩ = false := blk_free D.out 0
      have Dc1 : World.cell? w1 ⟨w.heap.size, 1, none⟩ = some (.int .i64 s) := blk_cell D.out 1
      have Df1 : World.frozen? w1 ⟨w.heap.size, 1, none⟩ = false := blk_free D.out 1
      have Dc2 : World.cell? w1 ⟨w.heap.size, 2, none⟩ = some (.int .i64 l) := blk_cell D.out 2
      have Df2 : World.frozen? w1 ⟨w.heap.size, 2, none⟩ = false := blk_free D.out 2
      have Dc3 : World.cell? w1 ⟨w.heap.size, 3, none⟩ = some (.int .i64 t) := blk_cell D.out 3
      have Df3 : World.frozen? w1 ⟨w.heap.size, 3, none⟩ = false := blk_free D.out 3
      have E := Lib.hid (show Blk w1 ((w.heap.size + 1)) 24 #[.int .i64 0, .int .i64 0, .int .i64 0, .int .i64 0] from (blk_below (blk_new2 w _ 24 #[.int .i64 0, .int .i64 0, .int .i64 0, .int .i64 0]) R1.out (by simp <;> omega)))
      have Ec0 : World.cell? w1 ⟨(w.heap.size + 1), 0, none⟩ = some (.int .i64 0) := blk_cell E.out 0
      have Ef0 : World.frozen? w1 ⟨(w.heap.size + 1), 0, none⟩ = false := blk_free E.out 0
      have Ec1 : World.cell? w1 ⟨(w.heap.size + 1), 1, none⟩ = some (.int .i64 0) := blk_cell E.out 1
      have Ef1 : World.frozen? w1 ⟨(w.heap.size + 1), 1, none⟩ = false := blk_free E.out 1
      have Ec2 : World.cell? w1 ⟨(w.heap.size + 1), 2, none⟩ = some (.int .i64 0) := blk_cell E.out 2
      have Ef2 : World.frozen? w1 ⟨(w.heap.size + 1), 2, none⟩ = false := blk_free E.out 2
      have Ec3 : World.cell? w1 ⟨(w.heap.size + 1), 3, none⟩ = some (.int .i64 0) := blk_cell E.out 3
      have Ef3 : World.frozen? w1 ⟨(w.heap.size + 1), 3, none⟩ = false := blk_free E.out 3
      clear hc1 hf1
      go_upto_region 2 with (fail)
      have B2 := Lib.hid (show Below w.heap.size w (World.setCell (World.setCell (World.setCell (World.setCell w1 ⟨w.heap.size, 0, none⟩ (.int .i64 r)) ⟨w.heap.size, 1, none⟩ (.int .i64 s)) ⟨w.heap.size, 2, none⟩ (.int .i64 V)) ⟨w.heap.size, 3, none⟩ (.int .i64 n)) from Below.setCell (Below.setCell (Below.setCell (Below.setCell (B1.out) (by simp) _) (by simp) _) (by simp) _) (by simp) _)
      have D' := Lib.hid (show Blk (World.setCell (World.setCell (World.setCell (World.setCell w1 ⟨w.heap.size, 0, none⟩ (.int .i64 r)) ⟨w.heap.size, 1, none⟩ (.int .i64 s)) ⟨w.heap.size, 2, none⟩ (.int .i64 V)) ⟨w.heap.size, 3, none⟩ (.int .i64 n)) w.heap.size 24 #[.int .i64 r, .int .i64 s, .int .i64 V, .int .i64 n] from blk_set (blk_set (blk_set (blk_set (D.out) 0 _) 1 _) 2 _) 3 _)
      have E' := Lib.hid (show Blk (World.setCell (World.setCell (World.setCell (World.setCell w1 ⟨w.heap.size, 0, none⟩ (.int .i64 r)) ⟨w.heap.size, 1, none⟩ (.int .i64 s)) ⟨w.heap.size, 2, none⟩ (.int .i64 V)) ⟨w.heap.size, 3, none⟩ (.int .i64 n)) (w.heap.size + 1) 24 #[.int .i64 0, .int .i64 0, .int .i64 0, .int .i64 0] from blk_far (blk_far (blk_far (blk_far (E.out) (by simp <;> omega) _) (by simp <;> omega) _) (by simp <;> omega) _) (by simp <;> omega) _)
      have z2 : (World.heap (World.setCell (World.setCell (World.setCell (World.setCell w1 ⟨w.heap.size, 0, none⟩ (.int .i64 r)) ⟨w.heap.size, 1, none⟩ (.int .i64 s)) ⟨w.heap.size, 2, none⟩ (.int .i64 V)) ⟨w.heap.size, 3, none⟩ (.int .i64 n))).size = (World.heap w1).size := by simp
      generalize (World.setCell (World.setCell (World.setCell (World.setCell w1 ⟨w.heap.size, 0, none⟩ (.int .i64 r)) ⟨w.heap.size, 1, none⟩ (.int .i64 s)) ⟨w.heap.size, 2, none⟩ (.int .i64 V)) ⟨w.heap.size, 3, none⟩ (.int .i64 n)) = w2 at B2 z2 D' E' ⊢
      clear Dc0 Df0 Dc1 Df1 Dc2 Df2 Dc3 Df3
      have Dc0 : World.cell? w2 ⟨w.heap.size, 0, none⟩ = some (.int .i64 r) := blk_cell D'.out 0
      have Df0 : World.frozen? w2 ⟨w.heap.size, 0, none⟩ = false := blk_free D'.out 0
      have Dc1 : World.cell? w2 ⟨w.heap.size, 1, none⟩ = some (.int .i64 s) := blk_cell D'.out 1
      have Df1 : World.frozen? w2 ⟨w.heap.size, 1, none⟩ = false := blk_free D'.out 1
      have Dc2 : World.cell? w2 ⟨w.heap.size, 2, none⟩ = some (.int .i64 V) := blk_cell D'.out 2
      have Df2 : World.frozen? w2 ⟨w.heap.size, 2, none⟩ = false := blk_free D'.out 2
      have Dc3 : World.cell? w2 ⟨w.heap.size, 3, none⟩ = some (.int .i64 n) := blk_cell D'.out 3
      have Df3 : World.frozen? w2 ⟨w.heap.size, 3, none⟩ = false := blk_free D'.out 3
      clear Ec0 Ef0 Ec1 Ef1 Ec2 Ef2 Ec3 Ef3
      have Ec0 : World.cell? w2 ⟨(w.heap.size + 1), 0, none⟩ = some (.int .i64 0) := blk_cell E'.out 0
      have Ef0 : World.frozen? w2 ⟨(w.heap.size + 1), 0, none⟩ = false := blk_free E'.out 0
      have Ec1 : World.cell? w2 ⟨(w.heap.size + 1), 1, none⟩ = some (.int .i64 0) := blk_cell E'.out 1
      have Ef1 : World.frozen? w2 ⟨(w.heap.size + 1), 1, none⟩ = false := blk_free E'.out 1
      have Ec2 : World.cell? w2 ⟨(w.heap.size + 1), 2, none⟩ = some (.int .i64 0) := blk_cell E'.out 2
      have Ef2 : World.frozen? w2 ⟨(w.heap.size + 1), 2, none⟩ = false := blk_free E'.out 2
      have Ec3 : World.cell? w2 ⟨(w.heap.size + 1), 3, none⟩ = some (.int .i64 0) := blk_cell E'.out 3
      have Ef3 : World.frozen? w2 ⟨(w.heap.size + 1), 3, none⟩ = false := blk_free E'.out 3
      have hz2 : w1.heap.size ≤ w2.heap.size := Nat.le_of_eq z2.symm
      clear z2
      go_wp2_with fail
      refine (ifv_yes r2 s2 V n _ HI.out).mono ?_
      rintro e w3 ⟨rfl, hb⟩
      obtain ⟨hc3, hf3⟩ := bcell hb
      have B3 := Lib.hid (show Below w.heap.size w w3 from (by first | exact below_seq B2.out hb | exact below_seq1 B2.out hb | exact below_seq2 B2.out hb | exact below_seq3 B2.out hb | exact below_seq4 B2.out hb))
      have R3 := Lib.hid hb
      have hz3 := hb.size
      try simp at hz3
      clear hb
      have E3 := Lib.hid (show Blk w3 ((w.heap.size + 1)) 24 #[.int .i64 0, .int .i64 0, .int .i64 0, .int .i64 0] from (blk_below E'.out R3.out (by first | omega | (simp <;> omega))))
      have E3c0 : World.cell? w3 ⟨(w.heap.size + 1), 0, none⟩ = some (.int .i64 0) := blk_cell E3.out 0
      have E3f0 : World.frozen? w3 ⟨(w.heap.size + 1), 0, none⟩ = false := blk_free E3.out 0
      have E3c1 : World.cell? w3 ⟨(w.heap.size + 1), 1, none⟩ = some (.int .i64 0) := blk_cell E3.out 1
      have E3f1 : World.frozen? w3 ⟨(w.heap.size + 1), 1, none⟩ = false := blk_free E3.out 1
      have E3c2 : World.cell? w3 ⟨(w.heap.size + 1), 2, none⟩ = some (.int .i64 0) := blk_cell E3.out 2
      have E3f2 : World.frozen? w3 ⟨(w.heap.size + 1), 2, none⟩ = false := blk_free E3.out 2
      have E3c3 : World.cell? w3 ⟨(w.heap.size + 1), 3, none⟩ = some (.int .i64 0) := blk_cell E3.out 3
      have E3f3 : World.frozen? w3 ⟨(w.heap.size + 1), 3, none⟩ = false := blk_free E3.out 3
      clear hc3 hf3
      go_wp2
      refine bodyPost_ret (v := .tuple #[.agg #[.int .i64 r2, .int .i64 s2, .int .i64 V, .int .i64 n], .bool true]) (by simp [results, Try.results20, go_sem, E3c0, E3c1, E3c2, E3c3]) rfl ⟨ret_bk rfl rfl HC.out.symm rfl rfl, ?_⟩
      repeat refine Below.setCell ?_ (by simp) _
      exact B3.out
    · have HC := Lib.hid (show cv r s l t n s2 = s2 by rw [CW.out, if_neg hc])
      have HI := Lib.hid (show bvB r2 s2 s2 n = true by rw [← HR.out, ← CV.out, HC.out])
      go_enter Try.func20, Try.ntmps20
      go_wp2_with fail
      refine (refYes r s l t n _ H.out).mono ?_
      rintro e w1 ⟨rfl, hb⟩
      obtain ⟨hc1, hf1⟩ := bcell hb
      have B1 := Lib.hid (show Below w.heap.size w w1 from (by first | exact below_seq (Below.refl w.heap.size w) hb | exact below_seq1 (Below.refl w.heap.size w) hb | exact below_seq2 (Below.refl w.heap.size w) hb | exact below_seq3 (Below.refl w.heap.size w) hb | exact below_seq4 (Below.refl w.heap.size w) hb))
      have R1 := Lib.hid hb
      have hz1 := hb.size
      try simp at hz1
      clear hb
      rw [← HV.out]
      have D := Lib.hid (show Blk w1 (w.heap.size) 24 #[.int .i64 r, .int .i64 s, .int .i64 l, .int .i64 t] from (blk_below (blk_alloc (blk_new w 24 #[.int .i64 r, .int .i64 s, .int .i64 l, .int .i64 t]) _) R1.out (by simp <;> omega)))
      have Dc0 : World.cell? w1 ⟨w.heap.size, 0, none⟩ = some (.int .i64 r) := blk_cell D.out 0
      have Df0 : World.frozen? w1 ⟨w.heap.size, 0, none⟩ = false := blk_free D.out 0
      have Dc1 : World.cell? w1 ⟨w.heap.size, 1, none⟩ = some (.int .i64 s) := blk_cell D.out 1
      have Df1 : World.frozen? w1 ⟨w.heap.size, 1, none⟩ = false := blk_free D.out 1
      have Dc2 : World.cell? w1 ⟨w.heap.size, 2, none⟩ = some (.int .i64 l) := blk_cell D.out 2
      have Df2 : World.frozen? w1 ⟨w.heap.size, 2, none⟩ = false := blk_free D.out 2
      have Dc3 : World.cell? w1 ⟨w.heap.size, 3, none⟩ = some (.int .i64 t) := blk_cell D.out 3
      have Df3 : World.frozen? w1 ⟨w.heap.size, 3, none⟩ = false := blk_free D.out 3
      have E := Lib.hid (show Blk w1 ((w.heap.size + 1)) 24 #[.int .i64 0, .int .i64 0, .int .i64 0, .int .i64 0] from (blk_below (blk_new2 w _ 24 #[.int .i64 0, .int .i64 0, .int .i64 0, .int .i64 0]) R1.out (by simp <;> omega)))
      have Ec0 : World.cell? w1 ⟨(w.heap.size + 1), 0, none⟩ = some (.int .i64 0) := blk_cell E.out 0
      have Ef0 : World.frozen? w1 ⟨(w.heap.size + 1), 0, none⟩ = false := blk_free E.out 0
      have Ec1 : World.cell? w1 ⟨(w.heap.size + 1), 1, none⟩ = some (.int .i64 0) := blk_cell E.out 1
      have Ef1 : World.frozen? w1 ⟨(w.heap.size + 1), 1, none⟩ = false := blk_free E.out 1
      have Ec2 : World.cell? w1 ⟨(w.heap.size + 1), 2, none⟩ = some (.int .i64 0) := blk_cell E.out 2
      have Ef2 : World.frozen? w1 ⟨(w.heap.size + 1), 2, none⟩ = false := blk_free E.out 2
      have Ec3 : World.cell? w1 ⟨(w.heap.size + 1), 3, none⟩ = some (.int .i64 0) := blk_cell E.out 3
      have Ef3 : World.frozen? w1 ⟨(w.heap.size + 1), 3, none⟩ = false := blk_free E.out 3
      clear hc1 hf1
      go_upto_region 2 with (fail)
      have B2 := Lib.hid (show Below w.heap.size w (World.setCell (World.setCell (World.setCell (World.setCell w1 ⟨w.heap.size, 0, none⟩ (.int .i64 r)) ⟨w.heap.size, 1, none⟩ (.int .i64 s)) ⟨w.heap.size, 2, none⟩ (.int .i64 V)) ⟨w.heap.size, 3, none⟩ (.int .i64 n)) from Below.setCell (Below.setCell (Below.setCell (Below.setCell (B1.out) (by simp) _) (by simp) _) (by simp) _) (by simp) _)
      have D' := Lib.hid (show Blk (World.setCell (World.setCell (World.setCell (World.setCell w1 ⟨w.heap.size, 0, none⟩ (.int .i64 r)) ⟨w.heap.size, 1, none⟩ (.int .i64 s)) ⟨w.heap.size, 2, none⟩ (.int .i64 V)) ⟨w.heap.size, 3, none⟩ (.int .i64 n)) w.heap.size 24 #[.int .i64 r, .int .i64 s, .int .i64 V, .int .i64 n] from blk_set (blk_set (blk_set (blk_set (D.out) 0 _) 1 _) 2 _) 3 _)
      have E' := Lib.hid (show Blk (World.setCell (World.setCell (World.setCell (World.setCell w1 ⟨w.heap.size, 0, none⟩ (.int .i64 r)) ⟨w.heap.size, 1, none⟩ (.int .i64 s)) ⟨w.heap.size, 2, none⟩ (.int .i64 V)) ⟨w.heap.size, 3, none⟩ (.int .i64 n)) (w.heap.size + 1) 24 #[.int .i64 0, .int .i64 0, .int .i64 0, .int .i64 0] from blk_far (blk_far (blk_far (blk_far (E.out) (by simp <;> omega) _) (by simp <;> omega) _) (by simp <;> omega) _) (by simp <;> omega) _)
      have z2 : (World.heap (World.setCell (World.setCell (World.setCell (World.setCell w1 ⟨w.heap.size, 0, none⟩ (.int .i64 r)) ⟨w.heap.size, 1, none⟩ (.int .i64 s)) ⟨w.heap.size, 2, none⟩ (.int .i64 V)) ⟨w.heap.size, 3, none⟩ (.int .i64 n))).size = (World.heap w1).size := by simp
      generalize (World.setCell (World.setCell (World.setCell (World.setCell w1 ⟨w.heap.size, 0, none⟩ (.int .i64 r)) ⟨w.heap.size, 1, none⟩ (.int .i64 s)) ⟨w.heap.size, 2, none⟩ (.int .i64 V)) ⟨w.heap.size, 3, none⟩ (.int .i64 n)) = w2 at B2 z2 D' E' ⊢
      clear Dc0 Df0 Dc1 Df1 Dc2 Df2 Dc3 Df3
      have Dc0 : World.cell? w2 ⟨w.heap.size, 0, none⟩ = some (.int .i64 r) := blk_cell D'.out 0
      have Df0 : World.frozen? w2 ⟨w.heap.size, 0, none⟩ = false := blk_free D'.out 0
      have Dc1 : World.cell? w2 ⟨w.heap.size, 1, none⟩ = some (.int .i64 s) := blk_cell D'.out 1
      have Df1 : World.frozen? w2 ⟨w.heap.size, 1, none⟩ = false := blk_free D'.out 1
      have Dc2 : World.cell? w2 ⟨w.heap.size, 2, none⟩ = some (.int .i64 V) := blk_cell D'.out 2
      have Df2 : World.frozen? w2 ⟨w.heap.size, 2, none⟩ = false := blk_free D'.out 2
      have Dc3 : World.cell? w2 ⟨w.heap.size, 3, none⟩ = some (.int .i64 n) := blk_cell D'.out 3
      have Df3 : World.frozen? w2 ⟨w.heap.size, 3, none⟩ = false := blk_free D'.out 3
      clear Ec0 Ef0 Ec1 Ef1 Ec2 Ef2 Ec3 Ef3
      have Ec0 : World.cell? w2 ⟨(w.heap.size + 1), 0, none⟩ = some (.int .i64 0) := blk_cell E'.out 0
      have Ef0 : World.frozen? w2 ⟨(w.heap.size + 1), 0, none⟩ = false := blk_free E'.out 0
      have Ec1 : World.cell? w2 ⟨(w.heap.size + 1), 1, none⟩ = some (.int .i64 0) := blk_cell E'.out 1
      have Ef1 : World.frozen? w2 ⟨(w.heap.size + 1), 1, none⟩ = false := blk_free E'.out 1
      have Ec2 : World.cell? w2 ⟨(w.heap.size + 1), 2, none⟩ = some (.int .i64 0) := blk_cell E'.out 2
      have Ef2 : World.frozen? w2 ⟨(w.heap.size + 1), 2, none⟩ = false := blk_free E'.out 2
      have Ec3 : World.cell? w2 ⟨(w.heap.size + 1), 3, none⟩ = some (.int .i64 0) := blk_cell E'.out 3
      have Ef3 : World.frozen? w2 ⟨(w.heap.size + 1), 3, none⟩ = false := blk_free E'.out 3
      have hz2 : w1.heap.size ≤ w2.heap.size := Nat.le_of_eq z2.symm
      clear z2
      go_wp2_with fail
      refine (ifv_yes r2 s2 s2 n _ HI.out).mono ?_
      rintro e w3 ⟨rfl, hb⟩
      obtain ⟨hc3, hf3⟩ := bcell hb
      have B3 := Lib.hid (show Below w.heap.size w w3 from (by first | exact below_seq B2.out hb | exact below_seq1 B2.out hb | exact below_seq2 B2.out hb | exact below_seq3 B2.out hb | exact below_seq4 B2.out hb))
      have R3 := Lib.hid hb
      have hz3 := hb.size
      try simp at hz3
      clear hb
      have E3 := Lib.hid (show Blk w3 ((w.heap.size + 1)) 24 #[.int .i64 0, .int .i64 0, .int .i64 0, .int .i64 0] from (blk_below E'.out R3.out (by first | omega | (simp <;> omega))))
      have E3c0 : World.cell? w3 ⟨(w.heap.size + 1), 0, none⟩ = some (.int .i64 0) := blk_cell E3.out 0
      have E3f0 : World.frozen? w3 ⟨(w.heap.size + 1), 0, none⟩ = false := blk_free E3.out 0
      have E3c1 : World.cell? w3 ⟨(w.heap.size + 1), 1, none⟩ = some (.int .i64 0) := blk_cell E3.out 1
      have E3f1 : World.frozen? w3 ⟨(w.heap.size + 1), 1, none⟩ = false := blk_free E3.out 1
      have E3c2 : World.cell? w3 ⟨(w.heap.size + 1), 2, none⟩ = some (.int .i64 0) := blk_cell E3.out 2
      have E3f2 : World.frozen? w3 ⟨(w.heap.size + 1), 2, none⟩ = false := blk_free E3.out 2
      have E3c3 : World.cell? w3 ⟨(w.heap.size + 1), 3, none⟩ = some (.int .i64 0) := blk_cell E3.out 3
      have E3f3 : World.frozen? w3 ⟨(w.heap.size + 1), 3, none⟩ = false := blk_free E3.out 3
      clear hc3 hf3
      go_wp2
      refine bodyPost_ret (v := .tuple #[.agg #[.int .i64 r2, .int .i64 s2, .int .i64 s2, .int .i64 n], .bool true]) (by simp [results, Try.results20, go_sem, E3c0, E3c1, E3c2, E3c3]) rfl ⟨ret_bk rfl rfl HC.out.symm rfl rfl, ?_⟩
      repeat refine Below.setCell ?_ (by simp) _
      exact B3.out
set_option maxHeartbeats 400000 in
theorem chgS_no (r s l t n r2 s2 : Int) (w : World) (h : cgB r s l t n r2 s2 = false) :
    Calls Try.prog 21 #[.agg #[.int .i64 r, .int .i64 s, .int .i64 l, .int .i64 t], .int .i64 n, .int .i64 r2, .int .i64 s2] w fun e w' => e = .returned (.tuple #[.agg #[.int .i64 0, .int .i64 0, .int .i64 0, .int .i64 0], .bool false]) ∧ Below w.heap.size w w' := by
  rcases cg_no h with h | ⟨h, hr⟩
  all_goals
    go_enter Try.func21, Try.ntmps21
    go_wp2_with fail
    refine (rightS_any r s l t n _).mono ?_
    rintro e w1 ⟨rfl, hb⟩
    obtain ⟨hc1, hf1⟩ := bcell hb
    have B1 := Lib.hid (show Below w.heap.size w w1 from (by first | exact below_seq (Below.refl w.heap.size w) hb | exact below_seq1 (Below.refl w.heap.size w) hb | exact below_seq2 (Below.refl w.heap.size w) hb | exact below_seq3 (Below.refl w.heap.size w) hb | exact below_seq4 (Below.refl w.heap.size w) hb))
    have R1 := Lib.hid hb
    have hz1 := hb.size
    try simp at hz1
    clear hb
    rw [h]
    have D := Lib.hid (show Blk w1 (w.heap.size) 24 #[.int .i64 r, .int .i64 s, .int .i64 l, .int .i64 t] from (blk_below (blk_alloc (blk_new w 24 #[.int .i64 r, .int .i64 s, .int .i64 l, .int .i64 t]) _) R1.out (by simp <;> omega)))
    have Dc0 : World.cell? w1 ⟨w.heap.size, 0, none⟩ = some (.int .i64 r) := blk_cell D.out 0
    have Df0 : World.frozen? w1 ⟨w.heap.size, 0, none⟩ = false := blk_free D.out 0
    have Dc1 : World.cell? w1 ⟨w.heap.size, 1, none⟩ = some (.int .i64 s) := blk_cell D.out 1
    have Df1 : World.frozen? w1 ⟨w.heap.size, 1, none⟩ = false := blk_free D.out 1
    have Dc2 : World.cell? w1 ⟨w.heap.size, 2, none⟩ = some (.int .i64 l) := blk_cell D.out 2
    have Df2 : World.frozen? w1 ⟨w.heap.size, 2, none⟩ = false := blk_free D.out 2
    have Dc3 : World.cell? w1 ⟨w.heap.size, 3, none⟩ = some (.int .i64 t) := blk_cell D.out 3
    have Df3 : World.frozen? w1 ⟨w.heap.size, 3, none⟩ = false := blk_free D.out 3
    have E := Lib.hid (show Blk w1 ((w.heap.size + 1)) 24 #[.int .i64 0, .int .i64 0, .int .i64 0, .int .i64 0] from (blk_below (blk_new2 w _ 24 #[.int .i64 0, .int .i64 0, .int .i64 0, .int .i64 0]) R1.out (by simp <;> omega)))
    have Ec0 : World.cell? w1 ⟨(w.heap.size + 1), 0, none⟩ = some (.int .i64 0) := blk_cell E.out 0
    have Ef0 : World.frozen? w1 ⟨(w.heap.size + 1), 0, none⟩ = false := blk_free E.out 0
    have Ec1 : World.cell? w1 ⟨(w.heap.size + 1), 1, none⟩ = some (.int .i64 0) := blk_cell E.out 1
    have Ef1 : World.frozen? w1 ⟨(w.heap.size + 1), 1, none⟩ = false := blk_free E.out 1
    have Ec2 : World.cell? w1 ⟨(w.heap.size + 1), 2, none⟩ = some (.int .i64 0) := blk_cell E.out 2
    have Ef2 : World.frozen? w1 ⟨(w.heap.size + 1), 2, none⟩ = false := blk_free E.out 2
    have Ec3 : World.cell? w1 ⟨(w.heap.size + 1), 3, none⟩ = some (.int .i64 0) := blk_cell E.out 3
    have Ef3 : World.frozen? w1 ⟨(w.heap.size + 1), 3, none⟩ = false := blk_free E.out 3
    clear hc1 hf1
    go_wp2_with (go_at_call 41; refine (ratesS_any _ _ _).mono ?_; rintro e w' ⟨rfl, rfl⟩)
    refine bodyPost_ret (v := .tuple #[.agg #[.int .i64 0, .int .i64 0, .int .i64 0, .int .i64 0], .bool false]) (by simp [results, Try.results21, go_sem, Ec0, Ec1, Ec2, Ec3]) rfl ⟨rfl, ?_⟩
    repeat refine Below.setCell ?_ (by simp) _
    exact B1.out
set_option maxHeartbeats 800000 in
theorem chgS_yes (r s l t n r2 s2 : Int) (w : World) (h : cgB r s l t n r2 s2 = true) :
    Calls Try.prog 21 #[.agg #[.int .i64 r, .int .i64 s, .int .i64 l, .int .i64 t], .int .i64 n, .int .i64 r2, .int .i64 s2] w fun e w' => e = .returned (.tuple #[.agg #[.int .i64 r2, .int .i64 s2, .int .i64 (cv r s l t n s2), .int .i64 n], .bool true]) ∧ Below w.heap.size w w' := by
    obtain ⟨h, hr⟩ := cg_of h
    have H := Lib.hid h
    have l1 := lv_bd h
    have a0 := rt_of h
    have CV : Hid (bvB r2 s2 (cv r s l t n s2) n = rbB r2 s2) := Lib.hid (cv_valid r2 h)
    have CW : Hid (cv r s l t n s2 = if lv r s l t n ≤ s2 then lv r s l t n else s2) := Lib.hid rfl
    obtain ⟨V, hV⟩ : ∃ V, V = lv r s l t n := ⟨_, rfl⟩
    rw [← hV] at CW l1
    have HV := Lib.hid hV
    have x2 : V ≤ 10000 := by omega
    have x3 : 0 ≤ V := by omega
    clear l1 a0 hV h
    have HR := Lib.hid hr
    by_cases hc : V ≤ s2
    · have HC := Lib.hid (show cv r s l t n s2 = V by rw [CW.out, if_pos hc])
      go_enter Try.func21, Try.ntmps21
      go_wp2_with fail
      refine (rightS_any r s l t n _).mono ?_
      rintro e w1 ⟨rfl, hb⟩
      obtain ⟨hc1, hf1⟩ := bcell hb
      have B1 := Lib.hid (show Below w.heap.size w w1 from (by first | exact below_seq (Below.refl w.heap.size w) hb | exact below_seq1 (Below.refl w.heap.size w) hb | exact below_seq2 (Below.refl w.heap.size w) hb | exact below_seq3 (Below.refl w.heap.size w) hb | exact below_seq4 (Below.refl w.heap.size w) hb))
      have R1 := Lib.hid hb
      have hz1 := hb.size
      try simp at hz1
      clear hb
      rw [H.out]
      have D := Lib.hid (show Blk w1 (w.heap.size) 24 #[.int .i64 r, .int .i64 s, .int .i64 l, .int .i64 t] from (blk_below (blk_alloc (blk_new w 24 #[.int .i64 r, .int .i64 s, .int .i64 l, .int .i64 t]) _) R1.out (by simp <;> omega)))
      have Dc0 : World.cell? w1 ⟨w.heap.size, 0, none⟩ = some (.int .i64 r) := blk_cell D.out 0
      have Df0 : World.frozen? w1 ⟨w.heap.size, 0, none⟩ = false := blk_free D.out 0
      have Dc1 : World.cell? w1 ⟨w.heap.size, 1, none⟩ = some (.int .i64 s) := blk_cell D.out 1
      have Df1 : World.frozen? w1 ⟨w.heap.size, 1, none⟩ = false := blk_free D.out 1
      have Dc2 : World.cell? w1 ⟨w.heap.size, 2, none⟩ = some (.int .i64 l) := blk_cell D.out 2
      have Df2 : World.frozen? w1 ⟨w.heap.size, 2, none⟩ = false := blk_free D.out 2
      have Dc3 : World.cell? w1 ⟨w.heap.size, 3, none⟩ = some (.int .i64 t) := blk_cell D.out 3
      have Df3 : World.frozen? w1 ⟨w.heap.size, 3, none⟩ = false := blk_free D.out 3
      have E := Lib.hid (show Blk w1 ((w.heap.size + 1)) 24 #[.int .i64 0, .int .i64 0, .int .i64 0, .int .i64 0] from (blk_below (blk_new2 w _ 24 #[.int .i64 0, .int .i64 0, .int .i64 0, .int .i64 0]) R1.out (by simp <;> omega)))
      have Ec0 : World.cell? w1 ⟨(w.heap.size + 1), 0, none⟩ = some (.int .i64 0) := blk_cell E.out 0
      have Ef0 : World.frozen? w1 ⟨(w.heap.size + 1), 0, none⟩ = false := blk_free E.out 0
      have Ec1 : World.cell? w1 ⟨(w.heap.size + 1), 1, none⟩ = some (.int .i64 0) := blk_cell E.out 1
      have Ef1 : World.frozen? w1 ⟨(w.heap.size + 1), 1, none⟩ = false := blk_free E.out 1
      have Ec2 : World.cell? w1 ⟨(w.heap.size + 1), 2, none⟩ = some (.int .i64 0) := blk_cell E.out 2
      have Ef2 : World.frozen? w1 ⟨(w.heap.size + 1), 2, none⟩ = false := blk_free E.out 2
      have Ec3 : World.cell? w1 ⟨(w.heap.size + 1), 3, none⟩ = some (.int .i64 0) := blk_cell E.out 3
      have Ef3 : World.frozen? w1 ⟨(w.heap.size + 1), 3, none⟩ = false := blk_free E.out 3
      clear hc1 hf1
      go_wp2_with (go_at_call 41; refine (ratesS_any _ _ _).mono ?_; rintro e w' ⟨rfl, rfl⟩)
      refine (levelS_any r s l t n _ H.out).mono ?_
      rintro e w2 ⟨rfl, hb⟩
      have B2 := Lib.hid (below_seq B1.out hb)
      have R2 := Lib.hid hb
      clear hb
      rw [← HV.out]
      have E2 := Lib.hid (show Blk w2 ((w.heap.size + 1)) 24 #[.int .i64 0, .int .i64 0, .int .i64 0, .int .i64 0] from (blk_below E.out R2.out (by first | omega | (simp <;> omega))))
      have E2c0 : World.cell? w2 ⟨(w.heap.size + 1), 0, none⟩ = some (.int .i64 0) := blk_cell E2.out 0
      have E2f0 : World.frozen? w2 ⟨(w.heap.size + 1), 0, none⟩ = false := blk_free E2.out 0
      have E2c1 : World.cell? w2 ⟨(w.heap.size + 1), 1, none⟩ = some (.int .i64 0) := blk_cell E2.out 1
      have E2f1 : World.frozen? w2 ⟨(w.heap.size + 1), 1, none⟩ = false := blk_free E2.out 1
      have E2c2 : World.cell? w2 ⟨(w.heap.size + 1), 2, none⟩ = some (.int .i64 0) := blk_cell E2.out 2
      have E2f2 : World.frozen? w2 ⟨(w.heap.size + 1), 2, none⟩ = false := blk_free E2.out 2
      have E2c3 : World.cell? w2 ⟨(w.heap.size + 1), 3, none⟩ = some (.int .i64 0) := blk_cell E2.out 3
      have E2f3 : World.frozen? w2 ⟨(w.heap.size + 1), 3, none⟩ = false := blk_free E2.out 3
      go_wp2
      refine bodyPost_ret (v := .tuple #[.agg #[.int .i64 r2, .int .i64 s2, .int .i64 V, .int .i64 n], .bool true]) (by simp [results, Try.results21, go_sem, E2c0, E2c1, E2c2, E2c3]) rfl ⟨ret_bk rfl rfl HC.out.symm rfl rfl, ?_⟩
      repeat refine Below.setCell ?_ (by simp) _
      exact B2.out
    · have HC := Lib.hid (show cv r s l t n s2 = s2 by rw [CW.out, if_neg hc])
      go_enter Try.func21, Try.ntmps21
      go_wp2_with fail
      refine (rightS_any r s l t n _).mono ?_
      rintro e w1 ⟨rfl, hb⟩
      obtain ⟨hc1, hf1⟩ := bcell hb
      have B1 := Lib.hid (show Below w.heap.size w w1 from (by first | exact below_seq (Below.refl w.heap.size w) hb | exact below_seq1 (Below.refl w.heap.size w) hb | exact below_seq2 (Below.refl w.heap.size w) hb | exact below_seq3 (Below.refl w.heap.size w) hb | exact below_seq4 (Below.refl w.heap.size w) hb))
      have R1 := Lib.hid hb
      have hz1 := hb.size
      try simp at hz1
      clear hb
      rw [H.out]
      have D := Lib.hid (show Blk w1 (w.heap.size) 24 #[.int .i64 r, .int .i64 s, .int .i64 l, .int .i64 t] from (blk_below (blk_alloc (blk_new w 24 #[.int .i64 r, .int .i64 s, .int .i64 l, .int .i64 t]) _) R1.out (by simp <;> omega)))
      have Dc0 : World.cell? w1 ⟨w.heap.size, 0, none⟩ = some (.int .i64 r) := blk_cell D.out 0
      have Df0 : World.frozen? w1 ⟨w.heap.size, 0, none⟩ = false := blk_free D.out 0
      have Dc1 : World.cell? w1 ⟨w.heap.size, 1, none⟩ = some (.int .i64 s) := blk_cell D.out 1
      have Df1 : World.frozen? w1 ⟨w.heap.size, 1, none⟩ = false := blk_free D.out 1
      have Dc2 : World.cell? w1 ⟨w.heap.size, 2, none⟩ = some (.int .i64 l) := blk_cell D.out 2
      have Df2 : World.frozen? w1 ⟨w.heap.size, 2, none⟩ = false := blk_free D.out 2
      have Dc3 : World.cell? w1 ⟨w.heap.size, 3, none⟩ = some (.int .i64 t) := blk_cell D.out 3
      have Df3 : World.frozen? w1 ⟨w.heap.size, 3, none⟩ = false := blk_free D.out 3
      have E := Lib.hid (show Blk w1 ((w.heap.size + 1)) 24 #[.int .i64 0, .int .i64 0, .int .i64 0, .int .i64 0] from (blk_below (blk_new2 w _ 24 #[.int .i64 0, .int .i64 0, .int .i64 0, .int .i64 0]) R1.out (by simp <;> omega)))
      have Ec0 : World.cell? w1 ⟨(w.heap.size + 1), 0, none⟩ = some (.int .i64 0) := blk_cell E.out 0
      have Ef0 : World.frozen? w1 ⟨(w.heap.size + 1), 0, none⟩ = false := blk_free E.out 0
      have Ec1 : World.cell? w1 ⟨(w.heap.size + 1), 1, none⟩ = some (.int .i64 0) := blk_cell E.out 1
      have Ef1 : World.frozen? w1 ⟨(w.heap.size + 1), 1, none⟩ = false := blk_free E.out 1
      have Ec2 : World.cell? w1 ⟨(w.heap.size + 1), 2, none⟩ = some (.int .i64 0) := blk_cell E.out 2
      have Ef2 : World.frozen? w1 ⟨(w.heap.size + 1), 2, none⟩ = false := blk_free E.out 2
      have Ec3 : World.cell? w1 ⟨(w.heap.size + 1), 3, none⟩ = some (.int .i64 0) := blk_cell E.out 3
      have Ef3 : World.frozen? w1 ⟨(w.heap.size + 1), 3, none⟩ = false := blk_free E.out 3
      clear hc1 hf1
      go_wp2_with (go_at_call 41; refine (ratesS_any _ _ _).mono ?_; rintro e w' ⟨rfl, rfl⟩)
      refine (levelS_any r s l t n _ H.out).mono ?_
      rintro e w2 ⟨rfl, hb⟩
      have B2 := Lib.hid (below_seq B1.out hb)
      have R2 := Lib.hid hb
      clear hb
      rw [← HV.out]
      have E2 := Lib.hid (show Blk w2 ((w.heap.size + 1)) 24 #[.int .i64 0, .int .i64 0, .int .i64 0, .int .i64 0] from (blk_below E.out R2.out (by first | omega | (simp <;> omega))))
      have E2c0 : World.cell? w2 ⟨(w.heap.size + 1), 0, none⟩ = some (.int .i64 0) := blk_cell E2.out 0
      have E2f0 : World.frozen? w2 ⟨(w.heap.size + 1), 0, none⟩ = false := blk_free E2.out 0
      have E2c1 : World.cell? w2 ⟨(w.heap.size + 1), 1, none⟩ = some (.int .i64 0) := blk_cell E2.out 1
      have E2f1 : World.frozen? w2 ⟨(w.heap.size + 1), 1, none⟩ = false := blk_free E2.out 1
      have E2c2 : World.cell? w2 ⟨(w.heap.size + 1), 2, none⟩ = some (.int .i64 0) := blk_cell E2.out 2
      have E2f2 : World.frozen? w2 ⟨(w.heap.size + 1), 2, none⟩ = false := blk_free E2.out 2
      have E2c3 : World.cell? w2 ⟨(w.heap.size + 1), 3, none⟩ = some (.int .i64 0) := blk_cell E2.out 3
      have E2f3 : World.frozen? w2 ⟨(w.heap.size + 1), 3, none⟩ = false := blk_free E2.out 3
      go_wp2
      refine bodyPost_ret (v := .tuple #[.agg #[.int .i64 r2, .int .i64 s2, .int .i64 s2, .int .i64 n], .bool true]) (by simp [results, Try.results21, go_sem, E2c0, E2c1, E2c2, E2c3]) rfl ⟨ret_bk rfl rfl HC.out.symm rfl rfl, ?_⟩
      repeat refine Below.setCell ?_ (by simp) _
      exact B2.out
end Go.Proofs.Ytfnloakbkiiicab
