/-
  Chapter 7: blame, pardons, lengths, freedom: what the program's functions and the model's return. Conditions: none; a contract says which case it speaks of.
-/
import Derived.Test.YtffgblphimjipaaSc2
import Derived.Deep.DeepCutAuto
import Derived.Deep.RegionHeld3
import Derived.Deep.RegionWith
namespace Go.Proofs.Ytffgblphimjipaa
open Go.RowKit

theorem mx_bd (x y : Int) : x ≤ mx x y ∧ y ≤ mx x y ∧ (mx x y = x ∨ mx x y = y) := by
  unfold mx
  split <;> omega
theorem nb_bd {b : Int} (h : 0 ≤ b) (h2 : b ≤ 10) : b ≤ nb b ∧ 1 ≤ nb b ∧ nb b ≤ 10 := by
  unfold nb
  split <;> omega
def blB (p a u b n k : Int) : Bool := stB p a u b n && decide (0 ≤ k ∧ k ≤ 1000)
theorem bm_of {p a u b n k : Int} (h : blB p a u b n k = true) : stB p a u b n = true ∧ 0 ≤ k ∧ k ≤ 1000 := by simpa [blB] using h
theorem bm_mk {p a u b n k : Int} (h : stB p a u b n = true) (h0 : 0 ≤ k) (h1 : k ≤ 1000) : blB p a u b n k = true := by rw [blB, h, Bool.true_and, decide_eq_true_eq]; exact ⟨h0, h1⟩
theorem bm_no {p a u b n k : Int} (h : blB p a u b n k = false) : stB p a u b n = false ∨ (stB p a u b n = true ∧ ¬ (0 ≤ k ∧ k ≤ 1000)) := by
  rcases h1 : stB p a u b n with _ | _
  · exact .inl rfl
  · rw [blB, h1, Bool.true_and, decide_eq_false_iff_not] at h
    exact .inr ⟨rfl, h⟩
/-! Blame -/
theorem baI_is (b L : Int) (w : World) (h0 : 0 ≤ b) (h1 : b ≤ 10) (hL : bl b = L) :
    Calls Try.prog 40 #[.int .i64 b] w fun e w' => e = .returned (.int .i64 L) ∧ w' = w := by
  subst hL
  exact (baI_any b w h0 h1).mono fun e w' h => ⟨h.1, h.2.symm⟩
set_option maxHeartbeats 1000000 in
theorem bmI_no (p a u b n k : Int) (w : World) (h : blB p a u b n k = false) :
    Calls Try.prog 16 #[.agg #[.int .i64 p, .int .i64 a, .int .i64 u, .int .i64 b], .int .i64 n, .int .i64 k] w fun e w' => e = .returned (.tuple #[.agg #[.int .i64 0, .int .i64 0, .int .i64 0, .int .i64 0], .bool false, .bool false]) ∧ Below w.heap.size w w' := by
  rcases bm_no h with h | ⟨h, hc⟩
  ·
    go_enter Try.func16, Try.ntmps16
    go_wp2_with fail
    refine (fadNo p a u b n _ h).mono ?_
    rintro e w1 ⟨rfl, hb⟩
    obtain ⟨hc1, hf1⟩ := bcell hb
    have B1 := Lib.hid (show Below w.heap.size w w1 from (by first | exact below_seq (Below.refl w.heap.size w) hb | exact below_seq1 (Below.refl w.heap.size w) hb | exact below_seq2 (Below.refl w.heap.size w) hb | exact below_seq3 (Below.refl w.heap.size w) hb | exact below_seq4 (Below.refl w.heap.size w) hb))
    have R1 := Lib.hid hb
    have hz1 := hb.size
    try simp at hz1
    clear hb
    have D := Lib.hid (show Blk w1 (w.heap.size) 24 #[.int .i64 p, .int .i64 a, .int .i64 u, .int .i64 b] from (blk_below (blk_alloc (blk_new w 24 #[.int .i64 p, .int .i64 a, .int .i64 u, .int .i64 b]) _) R1.out (by simp <;> omega)))
    have Dc0 : World.cell? w1 ⟨w.heap.size, 0, none⟩ = some (.int .i64 p) := blk_cell D.out 0
    have Df0 : World.frozen? w1 ⟨w.heap.size, 0, none⟩ = false := blk_free D.out 0
    have Dc1 : World.cell? w1 ⟨w.heap.size, 1, none⟩ = some (.int .i64 a) := blk_cell D.out 1
    have Df1 : World.frozen? w1 ⟨w.heap.size, 1, none⟩ = false := blk_free D.out 1
    have Dc2 : World.cell? w1 ⟨w.heap.size, 2, none⟩ = some (.int .i64 u) := blk_cell D.out 2
    have Df2 : World.frozen? w1 ⟨w.heap.size, 2, none⟩ = false := blk_free D.out 2
    have Dc3 : World.cell? w1 ⟨w.heap.size, 3, none⟩ = some (.int .i64 b) := blk_cell D.out 3
    have Df3 : World.frozen? w1 ⟨w.heap.size, 3, none⟩ = false := blk_free D.out 3
    have E := Lib.hid (show Blk w1 ((w.heap.size + 1)) 24 #[.int .i64 0, .int .i64 0, .int .i64 0, .int .i64 0] from (blk_below (blk_new2 w _ 24 #[.int .i64 0, .int .i64 0, .int .i64 0, .int .i64 0]) R1.out (by simp <;> omega)))
    have Ec0 : World.cell? w1 ⟨(w.heap.size + 1), 0, none⟩ = some (.int .i64 0) := blk_cell E.out 0
    have Ef0 : World.frozen? w1 ⟨(w.heap.size + 1), 0, none⟩ = false := blk_free E.out 0
    have Ec1 : World.cell? w1 ⟨(w.heap.size + 1), 1, none⟩ = some (.int .i64 0) := blk_cell E.out 1
    have Ef1 : World.frozen? w1 ⟨(w.heap.size + 1), 1, none⟩ = false := blk_free E.out 1
    have Ec2 : World.cell? w1 ⟨(w.heap.size + 1), 2, none⟩ = some (.int .i64 0) := blk_cell E.out 2
    have Ef2 : World.frozen? w1 ⟨(w.heap.size + 1), 2, none⟩ = false := blk_free E.out 2
    have Ec3 : World.cell? w1 ⟨(w.heap.size + 1), 3, none⟩ = some (.int .i64 0) := blk_cell E.out 3
    have Ef3 : World.frozen? w1 ⟨(w.heap.size + 1), 3, none⟩ = false := blk_free E.out 3
    clear hc1 hf1
    go_wp2
    refine bodyPost_ret (v := .tuple #[.agg #[.int .i64 0, .int .i64 0, .int .i64 0, .int .i64 0], .bool false, .bool false]) (by simp [results, Try.results16, go_sem, Ec0, Ec1, Ec2, Ec3]) rfl ⟨rfl, ?_⟩
    repeat refine Below.setCell ?_ (by simp) _
    exact B1.out
  · have hc2 : inB k 0 1000 = false := by rw [inB, decide_eq_false_iff_not]; exact hc
    go_enter Try.func16, Try.ntmps16
    go_wp2_with fail
    refine (fadYes p a u b n _ h).mono ?_
    rintro e w1 ⟨rfl, hb⟩
    obtain ⟨hc1, hf1⟩ := bcell hb
    have B1 := Lib.hid (show Below w.heap.size w w1 from (by first | exact below_seq (Below.refl w.heap.size w) hb | exact below_seq1 (Below.refl w.heap.size w) hb | exact below_seq2 (Below.refl w.heap.size w) hb | exact below_seq3 (Below.refl w.heap.size w) hb | exact below_seq4 (Below.refl w.heap.size w) hb))
    have R1 := Lib.hid hb
    have hz1 := hb.size
    try simp at hz1
    clear hb
    have D := Lib.hid (show Blk w1 (w.heap.size) 24 #[.int .i64 p, .int .i64 a, .int .i64 u, .int .i64 b] from (blk_below (blk_alloc (blk_new w 24 #[.int .i64 p, .int .i64 a, .int .i64 u, .int .i64 b]) _) R1.out (by simp <;> omega)))
    have Dc0 : World.cell? w1 ⟨w.heap.size, 0, none⟩ = some (.int .i64 p) := blk_cell D.out 0
    have Df0 : World.frozen? w1 ⟨w.heap.size, 0, none⟩ = false := blk_free D.out 0
    have Dc1 : World.cell? w1 ⟨w.heap.size, 1, none⟩ = some (.int .i64 a) := blk_cell D.out 1
    have Df1 : World.frozen? w1 ⟨w.heap.size, 1, none⟩ = false := blk_free D.out 1
    have Dc2 : World.cell? w1 ⟨w.heap.size, 2, none⟩ = some (.int .i64 u) := blk_cell D.out 2
    have Df2 : World.frozen? w1 ⟨w.heap.size, 2, none⟩ = false := blk_free D.out 2
    have Dc3 : World.cell? w1 ⟨w.heap.size, 3, none⟩ = some (.int .i64 b) := blk_cell D.out 3
    have Df3 : World.frozen? w1 ⟨w.heap.size, 3, none⟩ = false := blk_free D.out 3
    have E := Lib.hid (show Blk w1 ((w.heap.size + 1)) 24 #[.int .i64 0, .int .i64 0, .int .i64 0, .int .i64 0] from (blk_below (blk_new2 w _ 24 #[.int .i64 0, .int .i64 0, .int .i64 0, .int .i64 0]) R1.out (by simp <;> omega)))
    have Ec0 : World.cell? w1 ⟨(w.heap.size + 1), 0, none⟩ = some (.int .i64 0) := blk_cell E.out 0
    have Ef0 : World.frozen? w1 ⟨(w.heap.size + 1), 0, none⟩ = false := blk_free E.out 0
    have Ec1 : World.cell? w1 ⟨(w.heap.size + 1), 1, none⟩ = some (.int .i64 0) := blk_cell E.out 1
    have Ef1 : World.frozen? w1 ⟨(w.heap.size + 1), 1, none⟩ = false := blk_free E.out 1
    have Ec2 : World.cell? w1 ⟨(w.heap.size + 1), 2, none⟩ = some (.int .i64 0) := blk_cell E.out 2
    have Ef2 : World.frozen? w1 ⟨(w.heap.size + 1), 2, none⟩ = false := blk_free E.out 2
    have Ec3 : World.cell? w1 ⟨(w.heap.size + 1), 3, none⟩ = some (.int .i64 0) := blk_cell E.out 3
    have Ef3 : World.frozen? w1 ⟨(w.heap.size + 1), 3, none⟩ = false := blk_free E.out 3
    clear hc1 hf1
    clear hc
    go_wp2_with (go_at_call 39; refine (within_any _ _ _ _).mono ?_; rintro e w' ⟨rfl, rfl⟩)
    refine bodyPost_ret (v := .tuple #[.agg #[.int .i64 0, .int .i64 0, .int .i64 0, .int .i64 0], .bool false, .bool false]) (by simp [results, Try.results16, go_sem, Ec0, Ec1, Ec2, Ec3]) rfl ⟨rfl, ?_⟩
    repeat refine Below.setCell ?_ (by simp) _
    exact B1.out
set_option maxHeartbeats 2000000 in
theorem bmI_lo (p a u b n k V X : Int) (w : World) (h : blB p a u b n k = true) (hV : pt p a n = V) (hX : V + k = X) (hc : X < 100) :
    Calls Try.prog 16 #[.agg #[.int .i64 p, .int .i64 a, .int .i64 u, .int .i64 b], .int .i64 n, .int .i64 k] w fun e w' => e = .returned (.tuple #[.agg #[.int .i64 X, .int .i64 n, .int .i64 u, .int .i64 b], .bool false, .bool true]) ∧ Below w.heap.size w w' := by
    subst hX
    obtain ⟨h, k0, k1⟩ := bm_of h
    have H := Lib.hid h
    have hk : inB k 0 1000 = true := by rw [inB, decide_eq_true_eq]; exact ⟨k0, k1⟩
    have l1 := pt_bd h
    obtain ⟨q0, q1, q2, q3, q4, q5, q6, q7, q8⟩ := st_of h
    rw [hV] at l1
    obtain ⟨V0, V1⟩ := l1
    have HV := Lib.hid hV
    have kd0 : decide (k < 0) = false := decide_eq_false (by omega)
    have kd1 : decide (1000 < k) = false := decide_eq_false (by omega)
    clear hV h
    go_enter Try.func16, Try.ntmps16
    go_wp2_with fail
    refine (fadYes p a u b n _ H.out).mono ?_
    rintro e w1 ⟨rfl, hb⟩
    obtain ⟨hc1, hf1⟩ := bcell hb
    have B1 := Lib.hid (show Below w.heap.size w w1 from (by first | exact below_seq (Below.refl w.heap.size w) hb | exact below_seq1 (Below.refl w.heap.size w) hb | exact below_seq2 (Below.refl w.heap.size w) hb | exact below_seq3 (Below.refl w.heap.size w) hb | exact below_seq4 (Below.refl w.heap.size w) hb))
    have R1 := Lib.hid hb
    have hz1 := hb.size
    try simp at hz1
    clear hb
    rw [HV.out]
    have D := Lib.hid (show Blk w1 (w.heap.size) 24 #[.int .i64 p, .int .i64 a, .int .i64 u, .int .i64 b] from (blk_below (blk_alloc (blk_new w 24 #[.int .i64 p, .int .i64 a, .int .i64 u, .int .i64 b]) _) R1.out (by simp <;> omega)))
    have Dc0 : World.cell? w1 ⟨w.heap.size, 0, none⟩ = some (.int .i64 p) := blk_cell D.out 0
    have Df0 : World.frozen? w1 ⟨w.heap.size, 0, none⟩ = false := blk_free D.out 0
    have Dc1 : World.cell? w1 ⟨w.heap.size, 1, none⟩ = some (.int .i64 a) := blk_cell D.out 1
    have Df1 : World.frozen? w1 ⟨w.heap.size, 1, none⟩ = false := blk_free D.out 1
    have Dc2 : World.cell? w1 ⟨w.heap.size, 2, none⟩ = some (.int .i64 u) := blk_cell D.out 2
    have Df2 : World.frozen? w1 ⟨w.heap.size, 2, none⟩ = false := blk_free D.out 2
    have Dc3 : World.cell? w1 ⟨w.heap.size, 3, none⟩ = some (.int .i64 b) := blk_cell D.out 3
    have Df3 : World.frozen? w1 ⟨w.heap.size, 3, none⟩ = false := blk_free D.out 3
    have E := Lib.hid (show Blk w1 ((w.heap.size + 1)) 24 #[.int .i64 0, .int .i64 0, .int .i64 0, .int .i64 0] from (blk_below (blk_new2 w _ 24 #[.int .i64 0, .int .i64 0, .int .i64 0, .int .i64 0]) R1.out (by simp <;> omega)))
    have Ec0 : World.cell? w1 ⟨(w.heap.size + 1), 0, none⟩ = some (.int .i64 0) := blk_cell E.out 0
    have Ef0 : World.frozen? w1 ⟨(w.heap.size + 1), 0, none⟩ = false := blk_free E.out 0
    have Ec1 : World.cell? w1 ⟨(w.heap.size + 1), 1, none⟩ = some (.int .i64 0) := blk_cell E.out 1
    have Ef1 : World.frozen? w1 ⟨(w.heap.size + 1), 1, none⟩ = false := blk_free E.out 1
    have Ec2 : World.cell? w1 ⟨(w.heap.size + 1), 2, none⟩ = some (.int .i64 0) := blk_cell E.out 2
    have Ef2 : World.frozen? w1 ⟨(w.heap.size + 1), 2, none⟩ = false := blk_free E.out 2
    have Ec3 : World.cell? w1 ⟨(w.heap.size + 1), 3, none⟩ = some (.int .i64 0) := blk_cell E.out 3
    have Ef3 : World.frozen? w1 ⟨(w.heap.size + 1), 3, none⟩ = false := blk_free E.out 3
    clear hc1 hf1
    go_wp2_with (go_at_call 39; refine (within_any _ _ _ _).mono ?_; rintro e w' ⟨rfl, rfl⟩)
    refine bodyPost_ret (v := .tuple #[.agg #[.int .i64 (V + k), .int .i64 n, .int .i64 u, .int .i64 b], .bool false, .bool true]) (by simp [results, Try.results16, go_sem, Ec0, Ec1, Ec2, Ec3]) rfl ⟨rfl, ?_⟩
    repeat refine Below.setCell ?_ (by simp) _
    exact B1.out
set_option maxHeartbeats 4000000 in
theorem bmI_hi (p a u b n k V L U T : Int) (w : World) (h : blB p a u b n k = true) (hV : pt p a n = V) (hc : 100 ≤ V + k) (hL : bl b = L) (hU : mx u (n + L) = U) (hT : nb b = T) :
    Calls Try.prog 16 #[.agg #[.int .i64 p, .int .i64 a, .int .i64 u, .int .i64 b], .int .i64 n, .int .i64 k] w fun e w' => e = .returned (.tuple #[.agg #[.int .i64 0, .int .i64 n, .int .i64 U, .int .i64 T], .bool true, .bool true]) ∧ Below w.heap.size w w' := by
    obtain ⟨h, k0, k1⟩ := bm_of h
    have H := Lib.hid h
    have hk : inB k 0 1000 = true := by rw [inB, decide_eq_true_eq]; exact ⟨k0, k1⟩
    have l1 := pt_bd h
    obtain ⟨q0, q1, q2, q3, q4, q5, q6, q7, q8⟩ := st_of h
    rw [hV] at l1
    obtain ⟨V0, V1⟩ := l1
    have HV := Lib.hid hV
    have kd0 : decide (k < 0) = false := decide_eq_false (by omega)
    have kd1 : decide (1000 < k) = false := decide_eq_false (by omega)
    clear hV h
    obtain ⟨L0, L1⟩ := bl_bd b
    rw [hL] at L0 L1
    have HL := Lib.hid hL
    have HU := Lib.hid hU
    have HT := Lib.hid hT
    clear hL hU hT
    by_cases c1 : n + L ≤ u
    all_goals by_cases c2 : b + 1 ≤ 10
    all_goals
      have RU := Lib.hid HU.out
      have RT := Lib.hid HT.out
      first | (have e1 := Lib.hid (show mx u (n + L) = u from if_pos c1)) | (have e1 := Lib.hid (show mx u (n + L) = n + L from if_neg c1))
      first | (have e2 := Lib.hid (show nb b = b + 1 from if_pos c2)) | (have e2 := Lib.hid (show nb b = 10 from if_neg c2))
      go_enter Try.func16, Try.ntmps16
      go_wp2_with fail
      refine (fadYes p a u b n _ H.out).mono ?_
      rintro e w1 ⟨rfl, hb⟩
      obtain ⟨hc1, hf1⟩ := bcell hb
      have B1 := Lib.hid (show Below w.heap.size w w1 from (by first | exact below_seq (Below.refl w.heap.size w) hb | exact below_seq1 (Below.refl w.heap.size w) hb | exact below_seq2 (Below.refl w.heap.size w) hb | exact below_seq3 (Below.refl w.heap.size w) hb | exact below_seq4 (Below.refl w.heap.size w) hb))
      have R1 := Lib.hid hb
      have hz1 := hb.size
      try simp at hz1
      clear hb
      rw [HV.out]
      have D := Lib.hid (show Blk w1 (w.heap.size) 24 #[.int .i64 p, .int .i64 a, .int .i64 u, .int .i64 b] from (blk_below (blk_alloc (blk_new w 24 #[.int .i64 p, .int .i64 a, .int .i64 u, .int .i64 b]) _) R1.out (by simp <;> omega)))
      have Dc0 : World.cell? w1 ⟨w.heap.size, 0, none⟩ = some (.int .i64 p) := blk_cell D.out 0
      have Df0 : World.frozen? w1 ⟨w.heap.size, 0, none⟩ = false := blk_free D.out 0
      have Dc1 : World.cell? w1 ⟨w.heap.size, 1, none⟩ = some (.int .i64 a) := blk_cell D.out 1
      have Df1 : World.frozen? w1 ⟨w.heap.size, 1, none⟩ = false := blk_free D.out 1
      have Dc2 : World.cell? w1 ⟨w.heap.size, 2, none⟩ = some (.int .i64 u) := blk_cell D.out 2
      have Df2 : World.frozen? w1 ⟨w.heap.size, 2, none⟩ = false := blk_free D.out 2
      have Dc3 : World.cell? w1 ⟨w.heap.size, 3, none⟩ = some (.int .i64 b) := blk_cell D.out 3
      have Df3 : World.frozen? w1 ⟨w.heap.size, 3, none⟩ = false := blk_free D.out 3
      have E := Lib.hid (show Blk w1 ((w.heap.size + 1)) 24 #[.int .i64 0, .int .i64 0, .int .i64 0, .int .i64 0] from (blk_below (blk_new2 w _ 24 #[.int .i64 0, .int .i64 0, .int .i64 0, .int .i64 0]) R1.out (by simp <;> omega)))
      have Ec0 : World.cell? w1 ⟨(w.heap.size + 1), 0, none⟩ = some (.int .i64 0) := blk_cell E.out 0
      have Ef0 : World.frozen? w1 ⟨(w.heap.size + 1), 0, none⟩ = false := blk_free E.out 0
      have Ec1 : World.cell? w1 ⟨(w.heap.size + 1), 1, none⟩ = some (.int .i64 0) := blk_cell E.out 1
      have Ef1 : World.frozen? w1 ⟨(w.heap.size + 1), 1, none⟩ = false := blk_free E.out 1
      have Ec2 : World.cell? w1 ⟨(w.heap.size + 1), 2, none⟩ = some (.int .i64 0) := blk_cell E.out 2
      have Ef2 : World.frozen? w1 ⟨(w.heap.size + 1), 2, none⟩ = false := blk_free E.out 2
      have Ec3 : World.cell? w1 ⟨(w.heap.size + 1), 3, none⟩ = some (.int .i64 0) := blk_cell E.out 3
      have Ef3 : World.frozen? w1 ⟨(w.heap.size + 1), 3, none⟩ = false := blk_free E.out 3
      clear hc1 hf1
      go_wp2_with (go_at_call 39; refine (within_any _ _ _ _).mono ?_; rintro e w' ⟨rfl, rfl⟩)
      go_quiet ((go_at_call 40; exact Calls.quiet_of_same (baI_is b L _ (by omega) (by omega) HL.out)))
      go_wp2
      first
        | (refine bodyPost_ret (v := .tuple #[.agg #[.int .i64 0, .int .i64 n, .int .i64 u, .int .i64 (b + 1)], .bool true, .bool true]) (by simp [results, Try.results16, go_sem, Ec0, Ec1, Ec2, Ec3]) rfl ⟨ret_sc3 rfl rfl (e1.out.symm.trans HU.out) (e2.out.symm.trans HT.out), ?_⟩)
        | (refine bodyPost_ret (v := .tuple #[.agg #[.int .i64 0, .int .i64 n, .int .i64 u, .int .i64 10], .bool true, .bool true]) (by simp [results, Try.results16, go_sem, Ec0, Ec1, Ec2, Ec3]) rfl ⟨ret_sc3 rfl rfl (e1.out.symm.trans HU.out) (e2.out.symm.trans HT.out), ?_⟩)
        | (refine bodyPost_ret (v := .tuple #[.agg #[.int .i64 0, .int .i64 n, .int .i64 (n + L), .int .i64 (b + 1)], .bool true, .bool true]) (by simp [results, Try.results16, go_sem, Ec0, Ec1, Ec2, Ec3]) rfl ⟨ret_sc3 rfl rfl (e1.out.symm.trans HU.out) (e2.out.symm.trans HT.out), ?_⟩)
        | (refine bodyPost_ret (v := .tuple #[.agg #[.int .i64 0, .int .i64 n, .int .i64 (n + L), .int .i64 10], .bool true, .bool true]) (by simp [results, Try.results16, go_sem, Ec0, Ec1, Ec2, Ec3]) rfl ⟨ret_sc3 rfl rfl (e1.out.symm.trans HU.out) (e2.out.symm.trans HT.out), ?_⟩)
      repeat (first | refine Below.setCell ?_ (by simp) _ | refine below_drewN ?_ _)
      exact B1.out
/-- the argument's box, the result's, and all older memory as it was -/
structure KS (w : World) (p a u b : Int) (w' : World) : Prop where
  it : Blk w' w.heap.size 24 #[.int .i64 p, .int .i64 a, .int .i64 u, .int .i64 b]
  out : Blk w' (w.heap.size + 1) 24 #[.int .i64 0, .int .i64 0, .int .i64 0, .int .i64 0]
  below : Below w.heap.size w w'
section
variable {w w1 w2 : World} {p a u b : Int}
theorem ks_below (h : KS w p a u b w1) (hb : Below w1.heap.size w1 w2) : KS w p a u b w2 :=
  ⟨blk_below h.it hb (blk_lt h.it), blk_below h.out hb (blk_lt h.out), h.below.trans (hb.mono h.below.size)⟩
theorem ks_alloc (h : KS w p a u b w1) (o : Obj) : KS w p a u b (w1.alloc o) := ks_below h (below_alloc (Below.refl _ _) o)
theorem ks_drew (h : KS w p a u b w1) : KS w p a u b w1.drew := ⟨h.it, h.out, h.below.drew⟩
theorem ks_set (h : KS w p a u b w1) {c : Nat} (hc : w.heap.size + 2 ≤ c) (k : Nat) (v : Value) : KS w p a u b (w1.setCell ⟨c, k, none⟩ v) :=
  ⟨blk_far h.it (by simp; omega) v, blk_far h.out (by simp; omega) v, h.below.setCell (by simp; omega) v⟩
theorem ks_cells (h : KS w p a u b w1) : w1.cell? ⟨w.heap.size, 0, none⟩ = some (.int .i64 p) ∧ w1.cell? ⟨w.heap.size, 1, none⟩ = some (.int .i64 a) ∧ w1.cell? ⟨w.heap.size, 2, none⟩ = some (.int .i64 u) ∧ w1.cell? ⟨w.heap.size, 3, none⟩ = some (.int .i64 b) ∧ KS w p a u b w1 :=
  ⟨blk_cell h.it 0, blk_cell h.it 1, blk_cell h.it 2, blk_cell h.it 3, h⟩
theorem ks_of (h : w1.cell? ⟨w.heap.size, 0, none⟩ = some (.int .i64 p) ∧ w1.cell? ⟨w.heap.size, 1, none⟩ = some (.int .i64 a) ∧ w1.cell? ⟨w.heap.size, 2, none⟩ = some (.int .i64 u) ∧ w1.cell? ⟨w.heap.size, 3, none⟩ = some (.int .i64 b) ∧ KS w p a u b w1) : KS w p a u b w1 := h.2.2.2.2
theorem ks_put {Q : Nat} (K : KS w p a u b w1) (Y : Blk w1 Q 24 #[.int .i64 0, .int .i64 0, .int .i64 0, .int .i64 0]) (hQ : w.heap.size + 2 ≤ Q) (x y z : Int) :
    Blk ((((w1.setCell ⟨Q, 0, none⟩ (.int .i64 0)).setCell ⟨Q, 1, none⟩ (.int .i64 x)).setCell ⟨Q, 2, none⟩ (.int .i64 y)).setCell ⟨Q, 3, none⟩ (.int .i64 z)) Q 24 #[.int .i64 0, .int .i64 x, .int .i64 y, .int .i64 z] ∧
    KS w p a u b ((((w1.setCell ⟨Q, 0, none⟩ (.int .i64 0)).setCell ⟨Q, 1, none⟩ (.int .i64 x)).setCell ⟨Q, 2, none⟩ (.int .i64 y)).setCell ⟨Q, 3, none⟩ (.int .i64 z)) :=
  ⟨blk_set (blk_set (blk_set (blk_set Y 0 _) 1 _) 2 _) 3 _, ks_set (ks_set (ks_set (ks_set K hQ _ _) hQ _ _) hQ _ _) hQ _ _⟩
theorem ks_start (w : World) (p a u b : Int) : KS w p a u b ((w.alloc (.cells #[.int .i64 p, .int .i64 a, .int .i64 u, .int .i64 b] 24)).alloc (.cells #[.int .i64 0, .int .i64 0, .int .i64 0, .int .i64 0] 24)) :=
  ⟨blk_alloc (blk_new w _ _) _, blk_new2 w _ _ _, below_alloc (below_alloc (Below.refl _ _) _) _⟩
end
set_option maxHeartbeats 1000000 in
theorem bmS_no (p a u b n k : Int) (w : World) (h : blB p a u b n k = false) :
    Calls Try.prog 17 #[.agg #[.int .i64 p, .int .i64 a, .int .i64 u, .int .i64 b], .int .i64 n, .int .i64 k] w fun e w' => e = .returned (.tuple #[.agg #[.int .i64 0, .int .i64 0, .int .i64 0, .int .i64 0], .bool false, .bool false]) ∧ Below w.heap.size w w' := by
  rcases bm_no h with h | ⟨h, hc⟩
  ·
    go_enter Try.func17, Try.ntmps17
    go_wp2_with fail
    refine (rightS_any p a u b n _).mono ?_
    rintro e w1 ⟨rfl, hb⟩
    obtain ⟨hc1, hf1⟩ := bcell hb
    have B1 := Lib.hid (show Below w.heap.size w w1 from (by first | exact below_seq (Below.refl w.heap.size w) hb | exact below_seq1 (Below.refl w.heap.size w) hb | exact below_seq2 (Below.refl w.heap.size w) hb | exact below_seq3 (Below.refl w.heap.size w) hb | exact below_seq4 (Below.refl w.heap.size w) hb))
    have R1 := Lib.hid hb
    have hz1 := hb.size
    try simp at hz1
    clear hb
    rw [h]
    have D := Lib.hid (show Blk w1 (w.heap.size) 24 #[.int .i64 p, .int .i64 a, .int .i64 u, .int .i64 b] from (blk_below (blk_alloc (blk_new w 24 #[.int .i64 p, .int .i64 a, .int .i64 u, .int .i64 b]) _) R1.out (by simp <;> omega)))
    have Dc0 : World.cell? w1 ⟨w.heap.size, 0, none⟩ = some (.int .i64 p) := blk_cell D.out 0
    have Df0 : World.frozen? w1 ⟨w.heap.size, 0, none⟩ = false := blk_free D.out 0
    have Dc1 : World.cell? w1 ⟨w.heap.size, 1, none⟩ = some (.int .i64 a) := blk_cell D.out 1
    have Df1 : World.frozen? w1 ⟨w.heap.size, 1, none⟩ = false := blk_free D.out 1
    have Dc2 : World.cell? w1 ⟨w.heap.size, 2, none⟩ = some (.int .i64 u) := blk_cell D.out 2
    have Df2 : World.frozen? w1 ⟨w.heap.size, 2, none⟩ = false := blk_free D.out 2
    have Dc3 : World.cell? w1 ⟨w.heap.size, 3, none⟩ = some (.int .i64 b) := blk_cell D.out 3
    have Df3 : World.frozen? w1 ⟨w.heap.size, 3, none⟩ = false := blk_free D.out 3
    have E := Lib.hid (show Blk w1 ((w.heap.size + 1)) 24 #[.int .i64 0, .int .i64 0, .int .i64 0, .int .i64 0] from (blk_below (blk_new2 w _ 24 #[.int .i64 0, .int .i64 0, .int .i64 0, .int .i64 0]) R1.out (by simp <;> omega)))
    have Ec0 : World.cell? w1 ⟨(w.heap.size + 1), 0, none⟩ = some (.int .i64 0) := blk_cell E.out 0
    have Ef0 : World.frozen? w1 ⟨(w.heap.size + 1), 0, none⟩ = false := blk_free E.out 0
    have Ec1 : World.cell? w1 ⟨(w.heap.size + 1), 1, none⟩ = some (.int .i64 0) := blk_cell E.out 1
    have Ef1 : World.frozen? w1 ⟨(w.heap.size + 1), 1, none⟩ = false := blk_free E.out 1
    have Ec2 : World.cell? w1 ⟨(w.heap.size + 1), 2, none⟩ = some (.int .i64 0) := blk_cell E.out 2
    have Ef2 : World.frozen? w1 ⟨(w.heap.size + 1), 2, none⟩ = false := blk_free E.out 2
    have Ec3 : World.cell? w1 ⟨(w.heap.size + 1), 3, none⟩ = some (.int .i64 0) := blk_cell E.out 3
    have Ef3 : World.frozen? w1 ⟨(w.heap.size + 1), 3, none⟩ = false := blk_free E.out 3
    clear hc1 hf1
    go_wp2
    refine bodyPost_ret (v := .tuple #[.agg #[.int .i64 0, .int .i64 0, .int .i64 0, .int .i64 0], .bool false, .bool false]) (by simp [results, Try.results17, go_sem, Ec0, Ec1, Ec2, Ec3]) rfl ⟨rfl, ?_⟩
    repeat refine Below.setCell ?_ (by simp) _
    exact B1.out
  · have hc' : k < 0 ∨ (0 ≤ k ∧ 1000 < k) := by omega
    clear hc
    rcases hc' with hc | ⟨hc, hc2⟩
    all_goals
      go_enter Try.func17, Try.ntmps17
      go_wp2_with fail
      refine (rightS_any p a u b n _).mono ?_
      rintro e w1 ⟨rfl, hb⟩
      obtain ⟨hc1, hf1⟩ := bcell hb
      have B1 := Lib.hid (show Below w.heap.size w w1 from (by first | exact below_seq (Below.refl w.heap.size w) hb | exact below_seq1 (Below.refl w.heap.size w) hb | exact below_seq2 (Below.refl w.heap.size w) hb | exact below_seq3 (Below.refl w.heap.size w) hb | exact below_seq4 (Below.refl w.heap.size w) hb))
      have R1 := Lib.hid hb
      have hz1 := hb.size
      try simp at hz1
      clear hb
      rw [h]
      have D := Lib.hid (show Blk w1 (w.heap.size) 24 #[.int .i64 p, .int .i64 a, .int .i64 u, .int .i64 b] from (blk_below (blk_alloc (blk_new w 24 #[.int .i64 p, .int .i64 a, .int .i64 u, .int .i64 b]) _) R1.out (by simp <;> omega)))
      have Dc0 : World.cell? w1 ⟨w.heap.size, 0, none⟩ = some (.int .i64 p) := blk_cell D.out 0
      have Df0 : World.frozen? w1 ⟨w.heap.size, 0, none⟩ = false := blk_free D.out 0
      have Dc1 : World.cell? w1 ⟨w.heap.size, 1, none⟩ = some (.int .i64 a) := blk_cell D.out 1
      have Df1 : World.frozen? w1 ⟨w.heap.size, 1, none⟩ = false := blk_free D.out 1
      have Dc2 : World.cell? w1 ⟨w.heap.size, 2, none⟩ = some (.int .i64 u) := blk_cell D.out 2
      have Df2 : World.frozen? w1 ⟨w.heap.size, 2, none⟩ = false := blk_free D.out 2
      have Dc3 : World.cell? w1 ⟨w.heap.size, 3, none⟩ = some (.int .i64 b) := blk_cell D.out 3
      have Df3 : World.frozen? w1 ⟨w.heap.size, 3, none⟩ = false := blk_free D.out 3
      have E := Lib.hid (show Blk w1 ((w.heap.size + 1)) 24 #[.int .i64 0, .int .i64 0, .int .i64 0, .int .i64 0] from (blk_below (blk_new2 w _ 24 #[.int .i64 0, .int .i64 0, .int .i64 0, .int .i64 0]) R1.out (by simp <;> omega)))
      have Ec0 : World.cell? w1 ⟨(w.heap.size + 1), 0, none⟩ = some (.int .i64 0) := blk_cell E.out 0
      have Ef0 : World.frozen? w1 ⟨(w.heap.size + 1), 0, none⟩ = false := blk_free E.out 0
      have Ec1 : World.cell? w1 ⟨(w.heap.size + 1), 1, none⟩ = some (.int .i64 0) := blk_cell E.out 1
      have Ef1 : World.frozen? w1 ⟨(w.heap.size + 1), 1, none⟩ = false := blk_free E.out 1
      have Ec2 : World.cell? w1 ⟨(w.heap.size + 1), 2, none⟩ = some (.int .i64 0) := blk_cell E.out 2
      have Ef2 : World.frozen? w1 ⟨(w.heap.size + 1), 2, none⟩ = false := blk_free E.out 2
      have Ec3 : World.cell? w1 ⟨(w.heap.size + 1), 3, none⟩ = some (.int .i64 0) := blk_cell E.out 3
      have Ef3 : World.frozen? w1 ⟨(w.heap.size + 1), 3, none⟩ = false := blk_free E.out 3
      clear hc1 hf1
      go_wp2
      refine bodyPost_ret (v := .tuple #[.agg #[.int .i64 0, .int .i64 0, .int .i64 0, .int .i64 0], .bool false, .bool false]) (by simp [results, Try.results17, go_sem, Ec0, Ec1, Ec2, Ec3]) rfl ⟨rfl, ?_⟩
      repeat refine Below.setCell ?_ (by simp) _
      exact B1.out
set_option maxHeartbeats 2000000 in
theorem bmS_lo (p a u b n k V X : Int) (w : World) (h : blB p a u b n k = true) (hV : pt p a n = V) (hX : V + k = X) (hc : X < 100) :
    Calls Try.prog 17 #[.agg #[.int .i64 p, .int .i64 a, .int .i64 u, .int .i64 b], .int .i64 n, .int .i64 k] w fun e w' => e = .returned (.tuple #[.agg #[.int .i64 X, .int .i64 n, .int .i64 u, .int .i64 b], .bool false, .bool true]) ∧ Below w.heap.size w w' := by
    subst hX
    obtain ⟨h, k0, k1⟩ := bm_of h
    have H := Lib.hid h
    have hk : inB k 0 1000 = true := by rw [inB, decide_eq_true_eq]; exact ⟨k0, k1⟩
    have l1 := pt_bd h
    obtain ⟨q0, q1, q2, q3, q4, q5, q6, q7, q8⟩ := st_of h
    rw [hV] at l1
    obtain ⟨V0, V1⟩ := l1
    have HV := Lib.hid hV
    have kd0 : decide (k < 0) = false := decide_eq_false (by omega)
    have kd1 : decide (1000 < k) = false := decide_eq_false (by omega)
    clear hV h
    go_enter Try.func17, Try.ntmps17
    go_wp2_with fail
    refine (rightS_any p a u b n _).mono ?_
    rintro e w1 ⟨rfl, hb⟩
    obtain ⟨hc1, hf1⟩ := bcell hb
    have B1 := Lib.hid (show Below w.heap.size w w1 from (by first | exact below_seq (Below.refl w.heap.size w) hb | exact below_seq1 (Below.refl w.heap.size w) hb | exact below_seq2 (Below.refl w.heap.size w) hb | exact below_seq3 (Below.refl w.heap.size w) hb | exact below_seq4 (Below.refl w.heap.size w) hb))
    have R1 := Lib.hid hb
    have hz1 := hb.size
    try simp at hz1
    clear hb
    rw [H.out]
    have K1 := Lib.hid (ks_below (ks_start w p a u b) R1.out)
    obtain ⟨d0, d1, d2, d3, -⟩ := ks_cells K1.out
    clear hc1 hf1
    go_wp2_with fail
    refine (ptS_any p a u b n _ H.out).mono ?_
    rintro e w2 ⟨rfl, hb⟩
    rw [HV.out]
    have K2 := Lib.hid (ks_below K1.out hb)
    clear hb d0 d1 d2 d3
    have D := Lib.hid (show Blk w2 (w.heap.size) 24 #[.int .i64 p, .int .i64 a, .int .i64 u, .int .i64 b] from (K2.out.it))
    have Dc0 : World.cell? w2 ⟨w.heap.size, 0, none⟩ = some (.int .i64 p) := blk_cell D.out 0
    have Df0 : World.frozen? w2 ⟨w.heap.size, 0, none⟩ = false := blk_free D.out 0
    have Dc1 : World.cell? w2 ⟨w.heap.size, 1, none⟩ = some (.int .i64 a) := blk_cell D.out 1
    have Df1 : World.frozen? w2 ⟨w.heap.size, 1, none⟩ = false := blk_free D.out 1
    have Dc2 : World.cell? w2 ⟨w.heap.size, 2, none⟩ = some (.int .i64 u) := blk_cell D.out 2
    have Df2 : World.frozen? w2 ⟨w.heap.size, 2, none⟩ = false := blk_free D.out 2
    have Dc3 : World.cell? w2 ⟨w.heap.size, 3, none⟩ = some (.int .i64 b) := blk_cell D.out 3
    have Df3 : World.frozen? w2 ⟨w.heap.size, 3, none⟩ = false := blk_free D.out 3
    have E := Lib.hid (show Blk w2 ((w.heap.size + 1)) 24 #[.int .i64 0, .int .i64 0, .int .i64 0, .int .i64 0] from (K2.out.out))
    have Ec0 : World.cell? w2 ⟨(w.heap.size + 1), 0, none⟩ = some (.int .i64 0) := blk_cell E.out 0
    have Ef0 : World.frozen? w2 ⟨(w.heap.size + 1), 0, none⟩ = false := blk_free E.out 0
    have Ec1 : World.cell? w2 ⟨(w.heap.size + 1), 1, none⟩ = some (.int .i64 0) := blk_cell E.out 1
    have Ef1 : World.frozen? w2 ⟨(w.heap.size + 1), 1, none⟩ = false := blk_free E.out 1
    have Ec2 : World.cell? w2 ⟨(w.heap.size + 1), 2, none⟩ = some (.int .i64 0) := blk_cell E.out 2
    have Ef2 : World.frozen? w2 ⟨(w.heap.size + 1), 2, none⟩ = false := blk_free E.out 2
    have Ec3 : World.cell? w2 ⟨(w.heap.size + 1), 3, none⟩ = some (.int .i64 0) := blk_cell E.out 3
    have Ef3 : World.frozen? w2 ⟨(w.heap.size + 1), 3, none⟩ = false := blk_free E.out 3
    go_wp2
    refine bodyPost_ret (v := .tuple #[.agg #[.int .i64 (V + k), .int .i64 n, .int .i64 u, .int .i64 b], .bool false, .bool true]) (by simp [results, Try.results17, go_sem, Ec0, Ec1, Ec2, Ec3]) rfl ⟨rfl, ?_⟩
    repeat refine Below.setCell ?_ (by simp) _
    exact K2.out.below
set_option maxHeartbeats 2000000 in
theorem bmS_hi (p a u b n k V L U T : Int) (w : World) (h : blB p a u b n k = true) (hV : pt p a n = V) (hc : 100 ≤ V + k) (hL : bl b = L) (hU : mx u (n + L) = U) (hT : nb b = T) :
    Calls Try.prog 17 #[.agg #[.int .i64 p, .int .i64 a, .int .i64 u, .int .i64 b], .int .i64 n, .int .i64 k] w fun e w' => e = .returned (.tuple #[.agg #[.int .i64 0, .int .i64 n, .int .i64 U, .int .i64 T], .bool true, .bool true]) ∧ Below w.heap.size w w' := by
    obtain ⟨h, k0, k1⟩ := bm_of h
    have H := Lib.hid h
    have hk : inB k 0 1000 = true := by rw [inB, decide_eq_true_eq]; exact ⟨k0, k1⟩
    have l1 := pt_bd h
    obtain ⟨q0, q1, q2, q3, q4, q5, q6, q7, q8⟩ := st_of h
    rw [hV] at l1
    obtain ⟨V0, V1⟩ := l1
    have HV := Lib.hid hV
    have kd0 : decide (k < 0) = false := decide_eq_false (by omega)
    have kd1 : decide (1000 < k) = false := decide_eq_false (by omega)
    clear hV h
    obtain ⟨L0, L1⟩ := bl_bd b
    rw [hL] at L0 L1
    have HL := Lib.hid hL
    have HU := Lib.hid hU
    have HT := Lib.hid hT
    clear hL hU hT
    have kd2 : decide (V + k < 100) = false := decide_eq_false (by omega)
    go_enter Try.func17, Try.ntmps17
    go_wp2_with fail
    refine (rightS_any p a u b n _).mono ?_
    rintro e w1 ⟨rfl, hb⟩
    obtain ⟨hc1, hf1⟩ := bcell hb
    have B1 := Lib.hid (show Below w.heap.size w w1 from (by first | exact below_seq (Below.refl w.heap.size w) hb | exact below_seq1 (Below.refl w.heap.size w) hb | exact below_seq2 (Below.refl w.heap.size w) hb | exact below_seq3 (Below.refl w.heap.size w) hb | exact below_seq4 (Below.refl w.heap.size w) hb))
    have R1 := Lib.hid hb
    have hz1 := hb.size
    try simp at hz1
    clear hb
    rw [H.out]
    have K1 := Lib.hid (ks_below (ks_start w p a u b) R1.out)
    obtain ⟨d0, d1, d2, d3, -⟩ := ks_cells K1.out
    clear hc1 hf1
    go_wp2_with fail
    refine (ptS_any p a u b n _ H.out).mono ?_
    rintro e w2 ⟨rfl, hb⟩
    rw [HV.out]
    have K2 := Lib.hid (ks_below K1.out hb)
    have hz2 : w.heap.size + 2 ≤ w2.heap.size := by have := blk_lt K2.out.out; omega
    have hS := ks_cells (ks_drew K2.out)
    have yw1 := Lib.hid (show IntKind.i64.wrap (n + L) = n + L from IntWalk.i64_in _ (by omega))
    have yw2 := Lib.hid (show IntKind.i64.wrap (b + 1) = b + 1 from IntWalk.i64_in _ (by omega))
    clear hb d0 d1 d2 d3
    go_upto_region 6 with fail
    go_cut [10] from 38 to 46 (fun s10 wx => ∃ Q, s10 = .pointer (some ⟨Q, 0, none⟩) ∧ w.heap.size + 2 ≤ Q ∧ Blk wx Q 24 #[.int .i64 0, .int .i64 n, .int .i64 (n + L), .int .i64 (b + 1)] ∧ KS w p a u b wx)
    case first =>
      go_region_held3 (fun w' => w'.cell? ⟨w.heap.size, 0, none⟩ = some (.int .i64 p) ∧ w'.cell? ⟨w.heap.size, 1, none⟩ = some (.int .i64 a) ∧ w'.cell? ⟨w.heap.size, 2, none⟩ = some (.int .i64 u) ∧ w'.cell? ⟨w.heap.size, 3, none⟩ = some (.int .i64 b) ∧ KS w p a u b w')
        (first | assumption | (exact ks_cells (ks_alloc (ks_of (by assumption)) _)) | (exact ks_cells (ks_set (ks_set (ks_set (ks_set (ks_of (by assumption)) (by omega) _ _) (by omega) _ _) (by omega) _ _) (by omega) _ _)) | (exact ks_cells (ks_set (ks_set (ks_set (ks_set (ks_alloc (ks_of (by assumption)) _) (by omega) _ _) (by omega) _ _) (by omega) _ _) (by omega) _ _)))
        (first
          | (go_at_call 43
             refine (lenS_any p a u b _ (by omega) (by omega)).mono ?_
             rintro e w3 ⟨rfl, hb3⟩
             rw [HL.out]
             have hS3 := ks_cells (ks_below (by first | exact ks_drew K2.out | exact ks_drew (ks_alloc K2.out _)) hb3)
             have hz3 : w2.heap.size ≤ w3.heap.size := (by have := hb3.size; simp at this; omega)
             (first
              | (have Y3 : Blk w3 w2.heap.size 24 #[.int .i64 0, .int .i64 0, .int .i64 0, .int .i64 0] := blk_below (show Blk (w2.alloc (.cells #[.int .i64 0, .int .i64 0, .int .i64 0, .int .i64 0] 24)).drew w2.heap.size 24 #[.int .i64 0, .int .i64 0, .int .i64 0, .int .i64 0] from blk_new w2 _ _) hb3 (by simp)
                 have HY := Lib.hid Y3
                 have y0 : w3.cell? ⟨w2.heap.size, 0, none⟩ = some (.int .i64 0) := blk_cell Y3 0
                 have y1 : w3.cell? ⟨w2.heap.size, 1, none⟩ = some (.int .i64 0) := blk_cell Y3 1
                 have y2 : w3.cell? ⟨w2.heap.size, 2, none⟩ = some (.int .i64 0) := blk_cell Y3 2
                 have y3 : w3.cell? ⟨w2.heap.size, 3, none⟩ = some (.int .i64 0) := blk_cell Y3 3
                 have yf0 := blk_free Y3 0
                 have yf1 := blk_free Y3 1
                 have yf2 := blk_free Y3 2
                 have yf3 := blk_free Y3 3
                 clear Y3)
              | (have HY := Lib.hid (show Blk (w3.alloc (.cells #[.int .i64 0, .int .i64 0, .int .i64 0, .int .i64 0] 24)) w3.heap.size 24 #[.int .i64 0, .int .i64 0, .int .i64 0, .int .i64 0] from blk_new w3 _ _)))
             have K3 := Lib.hid (ks_of hS3)
             clear hb3))
      all_goals
        go_wp2_with fail
        go_meet
        rw [yw1.out, yw2.out]
        first
          | exact ⟨_, rfl, by omega, blk_new w3 _ _, ks_alloc K3.out _⟩
          | exact ⟨_, rfl, by omega, ks_put K3.out HY.out (by omega) _ _ _⟩
    case rest =>
    obtain ⟨Q, rfl, hQ, hB, hK⟩ := hcut
    have K3 := Lib.hid hK
    have Y := Lib.hid (show Blk wc (Q) 24 #[.int .i64 0, .int .i64 n, .int .i64 (n + L), .int .i64 (b + 1)] from (hB))
    have Yc0 : World.cell? wc ⟨Q, 0, none⟩ = some (.int .i64 0) := blk_cell Y.out 0
    have Yf0 : World.frozen? wc ⟨Q, 0, none⟩ = false := blk_free Y.out 0
    have Yc1 : World.cell? wc ⟨Q, 1, none⟩ = some (.int .i64 n) := blk_cell Y.out 1
    have Yf1 : World.frozen? wc ⟨Q, 1, none⟩ = false := blk_free Y.out 1
    have Yc2 : World.cell? wc ⟨Q, 2, none⟩ = some (.int .i64 (n + L)) := blk_cell Y.out 2
    have Yf2 : World.frozen? wc ⟨Q, 2, none⟩ = false := blk_free Y.out 2
    have Yc3 : World.cell? wc ⟨Q, 3, none⟩ = some (.int .i64 (b + 1)) := blk_cell Y.out 3
    have Yf3 : World.frozen? wc ⟨Q, 3, none⟩ = false := blk_free Y.out 3
    have D := Lib.hid (show Blk wc (w.heap.size) 24 #[.int .i64 p, .int .i64 a, .int .i64 u, .int .i64 b] from (hK.it))
    have Dc0 : World.cell? wc ⟨w.heap.size, 0, none⟩ = some (.int .i64 p) := blk_cell D.out 0
    have Df0 : World.frozen? wc ⟨w.heap.size, 0, none⟩ = false := blk_free D.out 0
    have Dc1 : World.cell? wc ⟨w.heap.size, 1, none⟩ = some (.int .i64 a) := blk_cell D.out 1
    have Df1 : World.frozen? wc ⟨w.heap.size, 1, none⟩ = false := blk_free D.out 1
    have Dc2 : World.cell? wc ⟨w.heap.size, 2, none⟩ = some (.int .i64 u) := blk_cell D.out 2
    have Df2 : World.frozen? wc ⟨w.heap.size, 2, none⟩ = false := blk_free D.out 2
    have Dc3 : World.cell? wc ⟨w.heap.size, 3, none⟩ = some (.int .i64 b) := blk_cell D.out 3
    have Df3 : World.frozen? wc ⟨w.heap.size, 3, none⟩ = false := blk_free D.out 3
    have E := Lib.hid (show Blk wc ((w.heap.size + 1)) 24 #[.int .i64 0, .int .i64 0, .int .i64 0, .int .i64 0] from (hK.out))
    have Ec0 : World.cell? wc ⟨(w.heap.size + 1), 0, none⟩ = some (.int .i64 0) := blk_cell E.out 0
    have Ef0 : World.frozen? wc ⟨(w.heap.size + 1), 0, none⟩ = false := blk_free E.out 0
    have Ec1 : World.cell? wc ⟨(w.heap.size + 1), 1, none⟩ = some (.int .i64 0) := blk_cell E.out 1
    have Ef1 : World.frozen? wc ⟨(w.heap.size + 1), 1, none⟩ = false := blk_free E.out 1
    have Ec2 : World.cell? wc ⟨(w.heap.size + 1), 2, none⟩ = some (.int .i64 0) := blk_cell E.out 2
    have Ef2 : World.frozen? wc ⟨(w.heap.size + 1), 2, none⟩ = false := blk_free E.out 2
    have Ec3 : World.cell? wc ⟨(w.heap.size + 1), 3, none⟩ = some (.int .i64 0) := blk_cell E.out 3
    have Ef3 : World.frozen? wc ⟨(w.heap.size + 1), 3, none⟩ = false := blk_free E.out 3
    have hq1 : Q ≠ w.heap.size := by omega
    have hq2 : Q ≠ w.heap.size + 1 := by omega
    clear hB hK D E Y hS
    have hcc : (n + L < u ∧ mx u (n + L) = u) ∨ (u ≤ n + L ∧ mx u (n + L) = n + L) := by unfold mx; split <;> omega
    have hcb : (10 < b + 1 ∧ nb b = 10) ∨ (b + 1 ≤ 10 ∧ nb b = b + 1) := by unfold nb; split <;> omega
    rcases hcc with ⟨c1, e1⟩ | ⟨c1, e1⟩
    all_goals rcases hcb with ⟨c2, e2⟩ | ⟨c2, e2⟩
    all_goals
      have E1 := Lib.hid (e1.symm.trans HU.out)
      have E2 := Lib.hid (e2.symm.trans HT.out)
      clear e1 e2
      first | (have hd1 : decide (n + L < u) = true := decide_eq_true (by omega)) | (have hd1 : decide (n + L < u) = false := decide_eq_false (by omega))
      first | (have hd2 : decide (10 < b + 1) = true := decide_eq_true (by omega)) | (have hd2 : decide (10 < b + 1) = false := decide_eq_false (by omega))
    · go_wp2
      refine bodyPost_ret (v := .tuple #[.agg #[.int .i64 0, .int .i64 n, .int .i64 u, .int .i64 10], .bool true, .bool true]) (by simp [results, Try.results17, go_sem, Ec0, Ec1, Ec2, Ec3]) rfl ⟨ret_sc3 rfl rfl E1.out E2.out, ?_⟩
      repeat refine Below.setCell ?_ (by simp <;> omega) _
      exact K3.out.below
    · go_wp2
      refine bodyPost_ret (v := .tuple #[.agg #[.int .i64 0, .int .i64 n, .int .i64 u, .int .i64 (b + 1)], .bool true, .bool true]) (by simp [results, Try.results17, go_sem, Ec0, Ec1, Ec2, Ec3]) rfl ⟨ret_sc3 rfl rfl E1.out E2.out, ?_⟩
      repeat refine Below.setCell ?_ (by simp <;> omega) _
      exact K3.out.below
    · go_wp2
      refine bodyPost_ret (v := .tuple #[.agg #[.int .i64 0, .int .i64 n, .int .i64 (n + L), .int .i64 10], .bool true, .bool true]) (by simp [results, Try.results17, go_sem, Ec0, Ec1, Ec2, Ec3]) rfl ⟨ret_sc3 rfl rfl E1.out E2.out, ?_⟩
      repeat refine Below.setCell ?_ (by simp <;> omega) _
      exact K3.out.below
    · go_wp2
      refine bodyPost_ret (v := .tuple #[.agg #[.int .i64 0, .int .i64 n, .int .i64 (n + L), .int .i64 (b + 1)], .bool true, .bool true]) (by simp [results, Try.results17, go_sem, Ec0, Ec1, Ec2, Ec3]) rfl ⟨ret_sc3 rfl rfl E1.out E2.out, ?_⟩
      repeat refine Below.setCell ?_ (by simp <;> omega) _
      exact K3.out.below
/-! Pardon -/
set_option maxHeartbeats 1000000 in
theorem pdI_no (p a u b n : Int) (w : World) (h : stB p a u b n = false) :
    Calls Try.prog 30 #[.agg #[.int .i64 p, .int .i64 a, .int .i64 u, .int .i64 b], .int .i64 n] w fun e w' => e = .returned (.tuple #[.agg #[.int .i64 0, .int .i64 0, .int .i64 0, .int .i64 0], .bool false]) ∧ Below w.heap.size w w' := by
    go_enter Try.func30, Try.ntmps30
    go_wp2_with fail
    refine (fadNo p a u b n _ h).mono ?_
    rintro e w1 ⟨rfl, hb⟩
    obtain ⟨hc1, hf1⟩ := bcell hb
    have B1 := Lib.hid (show Below w.heap.size w w1 from (by first | exact below_seq (Below.refl w.heap.size w) hb | exact below_seq1 (Below.refl w.heap.size w) hb | exact below_seq2 (Below.refl w.heap.size w) hb | exact below_seq3 (Below.refl w.heap.size w) hb | exact below_seq4 (Below.refl w.heap.size w) hb))
    have R1 := Lib.hid hb
    have hz1 := hb.size
    try simp at hz1
    clear hb
    have D := Lib.hid (show Blk w1 (w.heap.size) 24 #[.int .i64 p, .int .i64 a, .int .i64 u, .int .i64 b] from (blk_below (blk_alloc (blk_new w 24 #[.int .i64 p, .int .i64 a, .int .i64 u, .int .i64 b]) _) R1.out (by simp <;> omega)))
    have Dc0 : World.cell? w1 ⟨w.heap.size, 0, none⟩ = some (.int .i64 p) := blk_cell D.out 0
    have Df0 : World.frozen? w1 ⟨w.heap.size, 0, none⟩ = false := blk_free D.out 0
    have Dc1 : World.cell? w1 ⟨w.heap.size, 1, none⟩ = some (.int .i64 a) := blk_cell D.out 1
    have Df1 : World.frozen? w1 ⟨w.heap.size, 1, none⟩ = false := blk_free D.out 1
    have Dc2 : World.cell? w1 ⟨w.heap.size, 2, none⟩ = some (.int .i64 u) := blk_cell D.out 2
    have Df2 : World.frozen? w1 ⟨w.heap.size, 2, none⟩ = false := blk_free D.out 2
    have Dc3 : World.cell? w1 ⟨w.heap.size, 3, none⟩ = some (.int .i64 b) := blk_cell D.out 3
    have Df3 : World.frozen? w1 ⟨w.heap.size, 3, none⟩ = false := blk_free D.out 3
    have E := Lib.hid (show Blk w1 ((w.heap.size + 1)) 24 #[.int .i64 0, .int .i64 0, .int .i64 0, .int .i64 0] from (blk_below (blk_new2 w _ 24 #[.int .i64 0, .int .i64 0, .int .i64 0, .int .i64 0]) R1.out (by simp <;> omega)))
    have Ec0 : World.cell? w1 ⟨(w.heap.size + 1), 0, none⟩ = some (.int .i64 0) := blk_cell E.out 0
    have Ef0 : World.frozen? w1 ⟨(w.heap.size + 1), 0, none⟩ = false := blk_free E.out 0
    have Ec1 : World.cell? w1 ⟨(w.heap.size + 1), 1, none⟩ = some (.int .i64 0) := blk_cell E.out 1
    have Ef1 : World.frozen? w1 ⟨(w.heap.size + 1), 1, none⟩ = false := blk_free E.out 1
    have Ec2 : World.cell? w1 ⟨(w.heap.size + 1), 2, none⟩ = some (.int .i64 0) := blk_cell E.out 2
    have Ef2 : World.frozen? w1 ⟨(w.heap.size + 1), 2, none⟩ = false := blk_free E.out 2
    have Ec3 : World.cell? w1 ⟨(w.heap.size + 1), 3, none⟩ = some (.int .i64 0) := blk_cell E.out 3
    have Ef3 : World.frozen? w1 ⟨(w.heap.size + 1), 3, none⟩ = false := blk_free E.out 3
    clear hc1 hf1
    go_wp2
    refine bodyPost_ret (v := .tuple #[.agg #[.int .i64 0, .int .i64 0, .int .i64 0, .int .i64 0], .bool false]) (by simp [results, Try.results30, go_sem, Ec0, Ec1, Ec2, Ec3]) rfl ⟨rfl, ?_⟩
    repeat refine Below.setCell ?_ (by simp) _
    exact B1.out
set_option maxHeartbeats 1000000 in
theorem pdI_yes (p a u b n : Int) (w : World) (h : stB p a u b n = true) :
    Calls Try.prog 30 #[.agg #[.int .i64 p, .int .i64 a, .int .i64 u, .int .i64 b], .int .i64 n] w fun e w' => e = .returned (.tuple #[.agg #[.int .i64 0, .int .i64 n, .int .i64 0, .int .i64 b], .bool true]) ∧ Below w.heap.size w w' := by
    go_enter Try.func30, Try.ntmps30
    go_wp2_with fail
    refine (fadYes p a u b n _ h).mono ?_
    rintro e w1 ⟨rfl, hb⟩
    obtain ⟨hc1, hf1⟩ := bcell hb
    have B1 := Lib.hid (show Below w.heap.size w w1 from (by first | exact below_seq (Below.refl w.heap.size w) hb | exact below_seq1 (Below.refl w.heap.size w) hb | exact below_seq2 (Below.refl w.heap.size w) hb | exact below_seq3 (Below.refl w.heap.size w) hb | exact below_seq4 (Below.refl w.heap.size w) hb))
    have R1 := Lib.hid hb
    have hz1 := hb.size
    try simp at hz1
    clear hb
    have D := Lib.hid (show Blk w1 (w.heap.size) 24 #[.int .i64 p, .int .i64 a, .int .i64 u, .int .i64 b] from (blk_below (blk_alloc (blk_new w 24 #[.int .i64 p, .int .i64 a, .int .i64 u, .int .i64 b]) _) R1.out (by simp <;> omega)))
    have Dc0 : World.cell? w1 ⟨w.heap.size, 0, none⟩ = some (.int .i64 p) := blk_cell D.out 0
    have Df0 : World.frozen? w1 ⟨w.heap.size, 0, none⟩ = false := blk_free D.out 0
    have Dc1 : World.cell? w1 ⟨w.heap.size, 1, none⟩ = some (.int .i64 a) := blk_cell D.out 1
    have Df1 : World.frozen? w1 ⟨w.heap.size, 1, none⟩ = false := blk_free D.out 1
    have Dc2 : World.cell? w1 ⟨w.heap.size, 2, none⟩ = some (.int .i64 u) := blk_cell D.out 2
    have Df2 : World.frozen? w1 ⟨w.heap.size, 2, none⟩ = false := blk_free D.out 2
    have Dc3 : World.cell? w1 ⟨w.heap.size, 3, none⟩ = some (.int .i64 b) := blk_cell D.out 3
    have Df3 : World.frozen? w1 ⟨w.heap.size, 3, none⟩ = false := blk_free D.out 3
    have E := Lib.hid (show Blk w1 ((w.heap.size + 1)) 24 #[.int .i64 0, .int .i64 0, .int .i64 0, .int .i64 0] from (blk_below (blk_new2 w _ 24 #[.int .i64 0, .int .i64 0, .int .i64 0, .int .i64 0]) R1.out (by simp <;> omega)))
    have Ec0 : World.cell? w1 ⟨(w.heap.size + 1), 0, none⟩ = some (.int .i64 0) := blk_cell E.out 0
    have Ef0 : World.frozen? w1 ⟨(w.heap.size + 1), 0, none⟩ = false := blk_free E.out 0
    have Ec1 : World.cell? w1 ⟨(w.heap.size + 1), 1, none⟩ = some (.int .i64 0) := blk_cell E.out 1
    have Ef1 : World.frozen? w1 ⟨(w.heap.size + 1), 1, none⟩ = false := blk_free E.out 1
    have Ec2 : World.cell? w1 ⟨(w.heap.size + 1), 2, none⟩ = some (.int .i64 0) := blk_cell E.out 2
    have Ef2 : World.frozen? w1 ⟨(w.heap.size + 1), 2, none⟩ = false := blk_free E.out 2
    have Ec3 : World.cell? w1 ⟨(w.heap.size + 1), 3, none⟩ = some (.int .i64 0) := blk_cell E.out 3
    have Ef3 : World.frozen? w1 ⟨(w.heap.size + 1), 3, none⟩ = false := blk_free E.out 3
    clear hc1 hf1
    go_wp2
    refine bodyPost_ret (v := .tuple #[.agg #[.int .i64 0, .int .i64 n, .int .i64 0, .int .i64 b], .bool true]) (by simp [results, Try.results30, go_sem, Ec0, Ec1, Ec2, Ec3]) rfl ⟨rfl, ?_⟩
    repeat refine Below.setCell ?_ (by simp) _
    exact B1.out
set_option maxHeartbeats 1000000 in
theorem pdS_no (p a u b n : Int) (w : World) (h : stB p a u b n = false) :
    Calls Try.prog 31 #[.agg #[.int .i64 p, .int .i64 a, .int .i64 u, .int .i64 b], .int .i64 n] w fun e w' => e = .returned (.tuple #[.agg #[.int .i64 0, .int .i64 0, .int .i64 0, .int .i64 0], .bool false]) ∧ Below w.heap.size w w' := by
    go_enter Try.func31, Try.ntmps31
    go_wp2_with fail
    refine (rightS_any p a u b n _).mono ?_
    rintro e w1 ⟨rfl, hb⟩
    obtain ⟨hc1, hf1⟩ := bcell hb
    have B1 := Lib.hid (show Below w.heap.size w w1 from (by first | exact below_seq (Below.refl w.heap.size w) hb | exact below_seq1 (Below.refl w.heap.size w) hb | exact below_seq2 (Below.refl w.heap.size w) hb | exact below_seq3 (Below.refl w.heap.size w) hb | exact below_seq4 (Below.refl w.heap.size w) hb))
    have R1 := Lib.hid hb
    have hz1 := hb.size
    try simp at hz1
    clear hb
    rw [h]
    have D := Lib.hid (show Blk w1 (w.heap.size) 24 #[.int .i64 p, .int .i64 a, .int .i64 u, .int .i64 b] from (blk_below (blk_alloc (blk_new w 24 #[.int .i64 p, .int .i64 a, .int .i64 u, .int .i64 b]) _) R1.out (by simp <;> omega)))
    have Dc0 : World.cell? w1 ⟨w.heap.size, 0, none⟩ = some (.int .i64 p) := blk_cell D.out 0
    have Df0 : World.frozen? w1 ⟨w.heap.size, 0, none⟩ = false := blk_free D.out 0
    have Dc1 : World.cell? w1 ⟨w.heap.size, 1, none⟩ = some (.int .i64 a) := blk_cell D.out 1
    have Df1 : World.frozen? w1 ⟨w.heap.size, 1, none⟩ = false := blk_free D.out 1
    have Dc2 : World.cell? w1 ⟨w.heap.size, 2, none⟩ = some (.int .i64 u) := blk_cell D.out 2
    have Df2 : World.frozen? w1 ⟨w.heap.size, 2, none⟩ = false := blk_free D.out 2
    have Dc3 : World.cell? w1 ⟨w.heap.size, 3, none⟩ = some (.int .i64 b) := blk_cell D.out 3
    have Df3 : World.frozen? w1 ⟨w.heap.size, 3, none⟩ = false := blk_free D.out 3
    have E := Lib.hid (show Blk w1 ((w.heap.size + 1)) 24 #[.int .i64 0, .int .i64 0, .int .i64 0, .int .i64 0] from (blk_below (blk_new2 w _ 24 #[.int .i64 0, .int .i64 0, .int .i64 0, .int .i64 0]) R1.out (by simp <;> omega)))
    have Ec0 : World.cell? w1 ⟨(w.heap.size + 1), 0, none⟩ = some (.int .i64 0) := blk_cell E.out 0
    have Ef0 : World.frozen? w1 ⟨(w.heap.size + 1), 0, none⟩ = false := blk_free E.out 0
    have Ec1 : World.cell? w1 ⟨(w.heap.size + 1), 1, none⟩ = some (.int .i64 0) := blk_cell E.out 1
    have Ef1 : World.frozen? w1 ⟨(w.heap.size + 1), 1, none⟩ = false := blk_free E.out 1
    have Ec2 : World.cell? w1 ⟨(w.heap.size + 1), 2, none⟩ = some (.int .i64 0) := blk_cell E.out 2
    have Ef2 : World.frozen? w1 ⟨(w.heap.size + 1), 2, none⟩ = false := blk_free E.out 2
    have Ec3 : World.cell? w1 ⟨(w.heap.size + 1), 3, none⟩ = some (.int .i64 0) := blk_cell E.out 3
    have Ef3 : World.frozen? w1 ⟨(w.heap.size + 1), 3, none⟩ = false := blk_free E.out 3
    clear hc1 hf1
    go_wp2
    refine bodyPost_ret (v := .tuple #[.agg #[.int .i64 0, .int .i64 0, .int .i64 0, .int .i64 0], .bool false]) (by simp [results, Try.results31, go_sem, Ec0, Ec1, Ec2, Ec3]) rfl ⟨rfl, ?_⟩
    repeat refine Below.setCell ?_ (by simp) _
    exact B1.out
set_option maxHeartbeats 1000000 in
theorem pdS_yes (p a u b n : Int) (w : World) (h : stB p a u b n = true) :
    Calls Try.prog 31 #[.agg #[.int .i64 p, .int .i64 a, .int .i64 u, .int .i64 b], .int .i64 n] w fun e w' => e = .returned (.tuple #[.agg #[.int .i64 0, .int .i64 n, .int .i64 0, .int .i64 b], .bool true]) ∧ Below w.heap.size w w' := by
    go_enter Try.func31, Try.ntmps31
    go_wp2_with fail
    refine (rightS_any p a u b n _).mono ?_
    rintro e w1 ⟨rfl, hb⟩
    obtain ⟨hc1, hf1⟩ := bcell hb
    have B1 := Lib.hid (show Below w.heap.size w w1 from (by first | exact below_seq (Below.refl w.heap.size w) hb | exact below_seq1 (Below.refl w.heap.size w) hb | exact below_seq2 (Below.refl w.heap.size w) hb | exact below_seq3 (Below.refl w.heap.size w) hb | exact below_seq4 (Below.refl w.heap.size w) hb))
    have R1 := Lib.hid hb
    have hz1 := hb.size
    try simp at hz1
    clear hb
    rw [h]
    have D := Lib.hid (show Blk w1 (w.heap.size) 24 #[.int .i64 p, .int .i64 a, .int .i64 u, .int .i64 b] from (blk_below (blk_alloc (blk_new w 24 #[.int .i64 p, .int .i64 a, .int .i64 u, .int .i64 b]) _) R1.out (by simp <;> omega)))
    have Dc0 : World.cell? w1 ⟨w.heap.size, 0, none⟩ = some (.int .i64 p) := blk_cell D.out 0
    have Df0 : World.frozen? w1 ⟨w.heap.size, 0, none⟩ = false := blk_free D.out 0
    have Dc1 : World.cell? w1 ⟨w.heap.size, 1, none⟩ = some (.int .i64 a) := blk_cell D.out 1
    have Df1 : World.frozen? w1 ⟨w.heap.size, 1, none⟩ = false := blk_free D.out 1
    have Dc2 : World.cell? w1 ⟨w.heap.size, 2, none⟩ = some (.int .i64 u) := blk_cell D.out 2
    have Df2 : World.frozen? w1 ⟨w.heap.size, 2, none⟩ = false := blk_free D.out 2
    have Dc3 : World.cell? w1 ⟨w.heap.size, 3, none⟩ = some (.int .i64 b) := blk_cell D.out 3
    have Df3 : World.frozen? w1 ⟨w.heap.size, 3, none⟩ = false := blk_free D.out 3
    have E := Lib.hid (show Blk w1 ((w.heap.size + 1)) 24 #[.int .i64 0, .int .i64 0, .int .i64 0, .int .i64 0] from (blk_below (blk_new2 w _ 24 #[.int .i64 0, .int .i64 0, .int .i64 0, .int .i64 0]) R1.out (by simp <;> omega)))
    have Ec0 : World.cell? w1 ⟨(w.heap.size + 1), 0, none⟩ = some (.int .i64 0) := blk_cell E.out 0
    have Ef0 : World.frozen? w1 ⟨(w.heap.size + 1), 0, none⟩ = false := blk_free E.out 0
    have Ec1 : World.cell? w1 ⟨(w.heap.size + 1), 1, none⟩ = some (.int .i64 0) := blk_cell E.out 1
    have Ef1 : World.frozen? w1 ⟨(w.heap.size + 1), 1, none⟩ = false := blk_free E.out 1
    have Ec2 : World.cell? w1 ⟨(w.heap.size + 1), 2, none⟩ = some (.int .i64 0) := blk_cell E.out 2
    have Ef2 : World.frozen? w1 ⟨(w.heap.size + 1), 2, none⟩ = false := blk_free E.out 2
    have Ec3 : World.cell? w1 ⟨(w.heap.size + 1), 3, none⟩ = some (.int .i64 0) := blk_cell E.out 3
    have Ef3 : World.frozen? w1 ⟨(w.heap.size + 1), 3, none⟩ = false := blk_free E.out 3
    clear hc1 hf1
    go_wp2
    refine bodyPost_ret (v := .tuple #[.agg #[.int .i64 0, .int .i64 n, .int .i64 0, .int .i64 b], .bool true]) (by simp [results, Try.results31, go_sem, Ec0, Ec1, Ec2, Ec3]) rfl ⟨rfl, ?_⟩
    repeat refine Below.setCell ?_ (by simp) _
    exact B1.out
/-! BanLength, FreeAt -/
set_option maxHeartbeats 1000000 in
theorem lnI_no (p a u b : Int) (w : World) (h : scB p a u b = false) :
    Calls Try.prog 26 #[.agg #[.int .i64 p, .int .i64 a, .int .i64 u, .int .i64 b]] w fun e w' => e = .returned (.tuple #[.int .i64 0, .bool false]) ∧ Below w.heap.size w w' := by
    go_enter Try.func26, Try.ntmps26
    go_wp2_with fail
    refine (scI_any p a u b _).mono ?_
    rintro e w1 ⟨rfl, hb⟩
    obtain ⟨hc1, hf1⟩ := bcell hb
    have B1 := Lib.hid (show Below w.heap.size w w1 from (by first | exact below_seq (Below.refl w.heap.size w) hb | exact below_seq1 (Below.refl w.heap.size w) hb | exact below_seq2 (Below.refl w.heap.size w) hb | exact below_seq3 (Below.refl w.heap.size w) hb | exact below_seq4 (Below.refl w.heap.size w) hb))
    have R1 := Lib.hid hb
    have hz1 := hb.size
    try simp at hz1
    clear hb
    rw [h]
    go_wp2
    go_ret2
    exact ⟨rfl, B1.out⟩
set_option maxHeartbeats 1000000 in
theorem lnI_yes (p a u b L : Int) (w : World) (h : scB p a u b = true) (hL : bl b = L) :
    Calls Try.prog 26 #[.agg #[.int .i64 p, .int .i64 a, .int .i64 u, .int .i64 b]] w fun e w' => e = .returned (.tuple #[.int .i64 L, .bool true]) ∧ Below w.heap.size w w' := by
    have HL := Lib.hid hL
    obtain ⟨q0, q1, q2, q3, q4, q5, q6, q7⟩ := sc_of h
    clear hL
    go_enter Try.func26, Try.ntmps26
    go_wp2_with fail
    refine (scI_any p a u b _).mono ?_
    rintro e w1 ⟨rfl, hb⟩
    obtain ⟨hc1, hf1⟩ := bcell hb
    have B1 := Lib.hid (show Below w.heap.size w w1 from (by first | exact below_seq (Below.refl w.heap.size w) hb | exact below_seq1 (Below.refl w.heap.size w) hb | exact below_seq2 (Below.refl w.heap.size w) hb | exact below_seq3 (Below.refl w.heap.size w) hb | exact below_seq4 (Below.refl w.heap.size w) hb))
    have R1 := Lib.hid hb
    have hz1 := hb.size
    try simp at hz1
    clear hb
    rw [h]
    have D := Lib.hid (show Blk w1 (w.heap.size) 24 #[.int .i64 p, .int .i64 a, .int .i64 u, .int .i64 b] from (blk_below (blk_new w 24 #[.int .i64 p, .int .i64 a, .int .i64 u, .int .i64 b]) R1.out (by simp <;> omega)))
    have Dc0 : World.cell? w1 ⟨w.heap.size, 0, none⟩ = some (.int .i64 p) := blk_cell D.out 0
    have Df0 : World.frozen? w1 ⟨w.heap.size, 0, none⟩ = false := blk_free D.out 0
    have Dc1 : World.cell? w1 ⟨w.heap.size, 1, none⟩ = some (.int .i64 a) := blk_cell D.out 1
    have Df1 : World.frozen? w1 ⟨w.heap.size, 1, none⟩ = false := blk_free D.out 1
    have Dc2 : World.cell? w1 ⟨w.heap.size, 2, none⟩ = some (.int .i64 u) := blk_cell D.out 2
    have Df2 : World.frozen? w1 ⟨w.heap.size, 2, none⟩ = false := blk_free D.out 2
    have Dc3 : World.cell? w1 ⟨w.heap.size, 3, none⟩ = some (.int .i64 b) := blk_cell D.out 3
    have Df3 : World.frozen? w1 ⟨w.heap.size, 3, none⟩ = false := blk_free D.out 3
    clear hc1 hf1
    go_wp2_with (go_at_call 40; refine (baI_any b _ (by omega) (by omega)).mono ?_; rintro e w' ⟨rfl, rfl⟩; rw [HL.out])
    go_ret2
    exact ⟨rfl, B1.out⟩
set_option maxHeartbeats 1000000 in
theorem lnS_no (p a u b : Int) (w : World) (h : scB p a u b = false) :
    Calls Try.prog 27 #[.agg #[.int .i64 p, .int .i64 a, .int .i64 u, .int .i64 b]] w fun e w' => e = .returned (.tuple #[.int .i64 0, .bool false]) ∧ Below w.heap.size w w' := by
    go_enter Try.func27, Try.ntmps27
    go_wp2_with fail
    refine (scS_any p a u b _).mono ?_
    rintro e w1 ⟨rfl, hb⟩
    obtain ⟨hc1, hf1⟩ := bcell hb
    have B1 := Lib.hid (show Below w.heap.size w w1 from (by first | exact below_seq (Below.refl w.heap.size w) hb | exact below_seq1 (Below.refl w.heap.size w) hb | exact below_seq2 (Below.refl w.heap.size w) hb | exact below_seq3 (Below.refl w.heap.size w) hb | exact below_seq4 (Below.refl w.heap.size w) hb))
    have R1 := Lib.hid hb
    have hz1 := hb.size
    try simp at hz1
    clear hb
    rw [h]
    go_wp2
    go_ret2
    exact ⟨rfl, B1.out⟩
set_option maxHeartbeats 1000000 in
theorem lnS_yes (p a u b L : Int) (w : World) (h : scB p a u b = true) (hL : bl b = L) :
    Calls Try.prog 27 #[.agg #[.int .i64 p, .int .i64 a, .int .i64 u, .int .i64 b]] w fun e w' => e = .returned (.tuple #[.int .i64 L, .bool true]) ∧ Below w.heap.size w w' := by
    have HL := Lib.hid hL
    obtain ⟨q0, q1, q2, q3, q4, q5, q6, q7⟩ := sc_of h
    clear hL
    go_enter Try.func27, Try.ntmps27
    go_wp2_with fail
    refine (scS_any p a u b _).mono ?_
    rintro e w1 ⟨rfl, hb⟩
    obtain ⟨hc1, hf1⟩ := bcell hb
    have B1 := Lib.hid (show Below w.heap.size w w1 from (by first | exact below_seq (Below.refl w.heap.size w) hb | exact below_seq1 (Below.refl w.heap.size w) hb | exact below_seq2 (Below.refl w.heap.size w) hb | exact below_seq3 (Below.refl w.heap.size w) hb | exact below_seq4 (Below.refl w.heap.size w) hb))
    have R1 := Lib.hid hb
    have hz1 := hb.size
    try simp at hz1
    clear hb
    rw [h]
    have D := Lib.hid (show Blk w1 (w.heap.size) 24 #[.int .i64 p, .int .i64 a, .int .i64 u, .int .i64 b] from (blk_below (blk_new w 24 #[.int .i64 p, .int .i64 a, .int .i64 u, .int .i64 b]) R1.out (by simp <;> omega)))
    have Dc0 : World.cell? w1 ⟨w.heap.size, 0, none⟩ = some (.int .i64 p) := blk_cell D.out 0
    have Df0 : World.frozen? w1 ⟨w.heap.size, 0, none⟩ = false := blk_free D.out 0
    have Dc1 : World.cell? w1 ⟨w.heap.size, 1, none⟩ = some (.int .i64 a) := blk_cell D.out 1
    have Df1 : World.frozen? w1 ⟨w.heap.size, 1, none⟩ = false := blk_free D.out 1
    have Dc2 : World.cell? w1 ⟨w.heap.size, 2, none⟩ = some (.int .i64 u) := blk_cell D.out 2
    have Df2 : World.frozen? w1 ⟨w.heap.size, 2, none⟩ = false := blk_free D.out 2
    have Dc3 : World.cell? w1 ⟨w.heap.size, 3, none⟩ = some (.int .i64 b) := blk_cell D.out 3
    have Df3 : World.frozen? w1 ⟨w.heap.size, 3, none⟩ = false := blk_free D.out 3
    clear hc1 hf1
    go_wp2_with fail
    refine (lenS_any p a u b _ (by omega) (by omega)).mono ?_
    rintro e w2 ⟨rfl, hb⟩
    obtain ⟨hc2, hf2⟩ := bcell hb
    have B2 := Lib.hid (show Below w.heap.size w w2 from (by first | exact below_seq B1.out hb | exact below_seq1 B1.out hb | exact below_seq2 B1.out hb | exact below_seq3 B1.out hb | exact below_seq4 B1.out hb))
    have R2 := Lib.hid hb
    have hz2 := hb.size
    try simp at hz2
    clear hb
    rw [HL.out]
    go_wp2
    go_ret2
    exact ⟨rfl, B2.out⟩
set_option maxHeartbeats 1000000 in
theorem frI_no (p a u b : Int) (w : World) (h : scB p a u b = false) :
    Calls Try.prog 32 #[.agg #[.int .i64 p, .int .i64 a, .int .i64 u, .int .i64 b]] w fun e w' => e = .returned (.tuple #[.int .i64 0, .bool false]) ∧ Below w.heap.size w w' := by
    go_enter Try.func32, Try.ntmps32
    go_wp2_with fail
    refine (scI_any p a u b _).mono ?_
    rintro e w1 ⟨rfl, hb⟩
    obtain ⟨hc1, hf1⟩ := bcell hb
    have B1 := Lib.hid (show Below w.heap.size w w1 from (by first | exact below_seq (Below.refl w.heap.size w) hb | exact below_seq1 (Below.refl w.heap.size w) hb | exact below_seq2 (Below.refl w.heap.size w) hb | exact below_seq3 (Below.refl w.heap.size w) hb | exact below_seq4 (Below.refl w.heap.size w) hb))
    have R1 := Lib.hid hb
    have hz1 := hb.size
    try simp at hz1
    clear hb
    rw [h]
    go_wp2
    go_ret2
    exact ⟨rfl, B1.out⟩
set_option maxHeartbeats 1000000 in
theorem frI_yes (p a u b F : Int) (w : World) (h : scB p a u b = true) (hF : mx u (a + p) = F) :
    Calls Try.prog 32 #[.agg #[.int .i64 p, .int .i64 a, .int .i64 u, .int .i64 b]] w fun e w' => e = .returned (.tuple #[.int .i64 F, .bool true]) ∧ Below w.heap.size w w' := by
    have HF := Lib.hid hF
    obtain ⟨q0, q1, q2, q3, q4, q5, q6, q7⟩ := sc_of h
    clear hF
    by_cases c1 : a + p ≤ u
    all_goals
      first | (have e1 := Lib.hid (show mx u (a + p) = u from if_pos c1)) | (have e1 := Lib.hid (show mx u (a + p) = a + p from if_neg c1))
      
      go_enter Try.func32, Try.ntmps32
      go_wp2_with fail
      refine (scI_any p a u b _).mono ?_
      rintro e w1 ⟨rfl, hb⟩
      obtain ⟨hc1, hf1⟩ := bcell hb
      have B1 := Lib.hid (show Below w.heap.size w w1 from (by first | exact below_seq (Below.refl w.heap.size w) hb | exact below_seq1 (Below.refl w.heap.size w) hb | exact below_seq2 (Below.refl w.heap.size w) hb | exact below_seq3 (Below.refl w.heap.size w) hb | exact below_seq4 (Below.refl w.heap.size w) hb))
      have R1 := Lib.hid hb
      have hz1 := hb.size
      try simp at hz1
      clear hb
      rw [h]
      have D := Lib.hid (show Blk w1 (w.heap.size) 24 #[.int .i64 p, .int .i64 a, .int .i64 u, .int .i64 b] from (blk_below (blk_new w 24 #[.int .i64 p, .int .i64 a, .int .i64 u, .int .i64 b]) R1.out (by simp <;> omega)))
      have Dc0 : World.cell? w1 ⟨w.heap.size, 0, none⟩ = some (.int .i64 p) := blk_cell D.out 0
      have Df0 : World.frozen? w1 ⟨w.heap.size, 0, none⟩ = false := blk_free D.out 0
      have Dc1 : World.cell? w1 ⟨w.heap.size, 1, none⟩ = some (.int .i64 a) := blk_cell D.out 1
      have Df1 : World.frozen? w1 ⟨w.heap.size, 1, none⟩ = false := blk_free D.out 1
      have Dc2 : World.cell? w1 ⟨w.heap.size, 2, none⟩ = some (.int .i64 u) := blk_cell D.out 2
      have Df2 : World.frozen? w1 ⟨w.heap.size, 2, none⟩ = false := blk_free D.out 2
      have Dc3 : World.cell? w1 ⟨w.heap.size, 3, none⟩ = some (.int .i64 b) := blk_cell D.out 3
      have Df3 : World.frozen? w1 ⟨w.heap.size, 3, none⟩ = false := blk_free D.out 3
      clear hc1 hf1
      go_wp2
      go_ret2
      exact ⟨ret_two (e1.out.symm.trans HF.out) rfl, B1.out⟩
set_option maxHeartbeats 1000000 in
theorem frS_no (p a u b : Int) (w : World) (h : scB p a u b = false) :
    Calls Try.prog 34 #[.agg #[.int .i64 p, .int .i64 a, .int .i64 u, .int .i64 b]] w fun e w' => e = .returned (.tuple #[.int .i64 0, .bool false]) ∧ Below w.heap.size w w' := by
    go_enter Try.func34, Try.ntmps34
    go_wp2_with fail
    refine (scS_any p a u b _).mono ?_
    rintro e w1 ⟨rfl, hb⟩
    obtain ⟨hc1, hf1⟩ := bcell hb
    have B1 := Lib.hid (show Below w.heap.size w w1 from (by first | exact below_seq (Below.refl w.heap.size w) hb | exact below_seq1 (Below.refl w.heap.size w) hb | exact below_seq2 (Below.refl w.heap.size w) hb | exact below_seq3 (Below.refl w.heap.size w) hb | exact below_seq4 (Below.refl w.heap.size w) hb))
    have R1 := Lib.hid hb
    have hz1 := hb.size
    try simp at hz1
    clear hb
    rw [h]
    go_wp2
    go_ret2
    exact ⟨rfl, B1.out⟩
set_option maxHeartbeats 1000000 in
theorem frS_yes (p a u b F : Int) (w : World) (h : scB p a u b = true) (hF : mx u (a + p) = F) :
    Calls Try.prog 34 #[.agg #[.int .i64 p, .int .i64 a, .int .i64 u, .int .i64 b]] w fun e w' => e = .returned (.tuple #[.int .i64 F, .bool true]) ∧ Below w.heap.size w w' := by
    have HF := Lib.hid hF
    obtain ⟨q0, q1, q2, q3, q4, q5, q6, q7⟩ := sc_of h
    clear hF
    by_cases c1 : a + p ≤ u
    all_goals
      first | (have e1 := Lib.hid (show mx u (a + p) = u from if_pos c1)) | (have e1 := Lib.hid (show mx u (a + p) = a + p from if_neg c1))
      have c2 : a + p = u ∨ a + p < u ∨ u < a + p := by omega
      go_enter Try.func34, Try.ntmps34
      go_wp2_with fail
      refine (scS_any p a u b _).mono ?_
      rintro e w1 ⟨rfl, hb⟩
      obtain ⟨hc1, hf1⟩ := bcell hb
      have B1 := Lib.hid (show Below w.heap.size w w1 from (by first | exact below_seq (Below.refl w.heap.size w) hb | exact below_seq1 (Below.refl w.heap.size w) hb | exact below_seq2 (Below.refl w.heap.size w) hb | exact below_seq3 (Below.refl w.heap.size w) hb | exact below_seq4 (Below.refl w.heap.size w) hb))
      have R1 := Lib.hid hb
      have hz1 := hb.size
      try simp at hz1
      clear hb
      rw [h]
      have D := Lib.hid (show Blk w1 (w.heap.size) 24 #[.int .i64 p, .int .i64 a, .int .i64 u, .int .i64 b] from (blk_below (blk_new w 24 #[.int .i64 p, .int .i64 a, .int .i64 u, .int .i64 b]) R1.out (by simp <;> omega)))
      have Dc0 : World.cell? w1 ⟨w.heap.size, 0, none⟩ = some (.int .i64 p) := blk_cell D.out 0
      have Df0 : World.frozen? w1 ⟨w.heap.size, 0, none⟩ = false := blk_free D.out 0
      have Dc1 : World.cell? w1 ⟨w.heap.size, 1, none⟩ = some (.int .i64 a) := blk_cell D.out 1
      have Df1 : World.frozen? w1 ⟨w.heap.size, 1, none⟩ = false := blk_free D.out 1
      have Dc2 : World.cell? w1 ⟨w.heap.size, 2, none⟩ = some (.int .i64 u) := blk_cell D.out 2
      have Df2 : World.frozen? w1 ⟨w.heap.size, 2, none⟩ = false := blk_free D.out 2
      have Dc3 : World.cell? w1 ⟨w.heap.size, 3, none⟩ = some (.int .i64 b) := blk_cell D.out 3
      have Df3 : World.frozen? w1 ⟨w.heap.size, 3, none⟩ = false := blk_free D.out 3
      clear hc1 hf1
      go_wp2
      all_goals go_ret2
      all_goals first | exact ⟨ret_two (e1.out.symm.trans HF.out) rfl, B1.out⟩ | exact ⟨ret_two (by have := e1.out; have := HF.out; omega) rfl, B1.out⟩
end Go.Proofs.Ytffgblphimjipaa
