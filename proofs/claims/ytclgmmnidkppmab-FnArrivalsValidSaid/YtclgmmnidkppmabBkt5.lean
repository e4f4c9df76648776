/-
  Chapter 2: making and changing: what the program's functions and the model's return. Conditions: none; a contract says which case it speaks of.
-/
import Derived.Test.YtclgmmnidkppmabBkt2
import Derived.Deep.DeepCutAuto
namespace Go.Proofs.Ytclgmmnidkppmab
open Go.RowKit

theorem bv_new (r s n : Int) : bvB r s s n = (rbB r s && inB n 0 1000000) := by
  rw [Bool.eq_iff_iff]
  simp only [bvB, rbB, inB, Bool.and_eq_true, decide_eq_true_eq]
  omega
def cgB (r s l t n r2 s2 : Int) : Bool := rtB r s l t n && rbB r2 s2
theorem cg_of {r s l t n r2 s2 : Int} (h : cgB r s l t n r2 s2 = true) : rtB r s l t n = true ∧ rbB r2 s2 = true := by simpa [cgB] using h
theorem cg_no {r s l t n r2 s2 : Int} (h : cgB r s l t n r2 s2 = false) : rtB r s l t n = false ∨ (rtB r s l t n = true ∧ rbB r2 s2 = false) := by
  rcases h1 : rtB r s l t n with _ | _
  · exact .inl rfl
  · rw [cgB, h1, Bool.true_and] at h
    exact .inr ⟨rfl, h⟩
theorem cv_valid {r s l t n s2 : Int} (r2 : Int) (h : rtB r s l t n = true) : bvB r2 s2 (cv r s l t n s2) n = rbB r2 s2 := by
  have h1 := rt_of h
  have h2 := lv_bd h
  have h3 : (cv r s l t n s2 = lv r s l t n ∧ lv r s l t n ≤ s2) ∨ (cv r s l t n s2 = s2 ∧ s2 < lv r s l t n) := by
    unfold cv
    split <;> omega
  rw [Bool.eq_iff_iff]
  simp only [bvB, rbB, decide_eq_true_eq]
  omega
set_option maxHeartbeats 400000 in
theorem ifv_no (r s l t : Int) (w : World) (h : bvB r s l t = false) :
    Calls Try.prog 70 #[.agg #[.int .i64 r, .int .i64 s, .int .i64 l, .int .i64 t]] w fun e w' => e = .returned (.tuple #[.agg #[.int .i64 0, .int .i64 0, .int .i64 0, .int .i64 0], .bool false]) ∧ Below w.heap.size w w' := by
    go_enter Try.func70, Try.ntmps70
    go_wp2_with fail
    refine (bvI_any r s l t _).mono ?_
    rintro e w1 ⟨rfl, hb⟩
    obtain ⟨hc1, hf1⟩ := bcell hb
    have B1 := Lib.hid (show Below w.heap.size w w1 from (by first | exact below_seq (Below.refl w.heap.size w) hb | exact below_seq1 (Below.refl w.heap.size w) hb | exact below_seq2 (Below.refl w.heap.size w) hb | exact below_seq3 (Below.refl w.heap.size w) hb | exact below_seq4 (Below.refl w.heap.size w) hb))
    have R1 := Lib.hid hb
    have hz1 := hb.size
    try simp at hz1
    clear hb
    rw [h]
    have D := Lib.hid (show Blk w1 (w.heap.size) 62 #[.int .i64 r, .int .i64 s, .int .i64 l, .int .i64 t] from (blk_below (blk_alloc (blk_new w 62 #[.int .i64 r, .int .i64 s, .int .i64 l, .int .i64 t]) _) R1.out (by simp <;> omega)))
    have Dc0 : World.cell? w1 ⟨w.heap.size, 0, none⟩ = some (.int .i64 r) := blk_cell D.out 0
    have Df0 : World.frozen? w1 ⟨w.heap.size, 0, none⟩ = false := blk_free D.out 0
    have Dc1 : World.cell? w1 ⟨w.heap.size, 1, none⟩ = some (.int .i64 s) := blk_cell D.out 1
    have Df1 : World.frozen? w1 ⟨w.heap.size, 1, none⟩ = false := blk_free D.out 1
    have Dc2 : World.cell? w1 ⟨w.heap.size, 2, none⟩ = some (.int .i64 l) := blk_cell D.out 2
    have Df2 : World.frozen? w1 ⟨w.heap.size, 2, none⟩ = false := blk_free D.out 2
    have Dc3 : World.cell? w1 ⟨w.heap.size, 3, none⟩ = some (.int .i64 t) := blk_cell D.out 3
    have Df3 : World.frozen? w1 ⟨w.heap.size, 3, none⟩ = false := blk_free D.out 3
    have E := Lib.hid (show Blk w1 ((w.heap.size + 1)) 62 #[.int .i64 0, .int .i64 0, .int .i64 0, .int .i64 0] from (blk_below (blk_new2 w _ 62 #[.int .i64 0, .int .i64 0, .int .i64 0, .int .i64 0]) R1.out (by simp <;> omega)))
    have Ec0 : World.cell? w1 ⟨(w.heap.size + 1), 0, none⟩ = some (.int .i64 0) := blk_cell E.out 0
    have Ef0 : World.frozen? w1 ⟨(w.heap.size + 1), 0, none⟩ = false := blk_free E.out 0
    have Ec1 : World.cell? w1 ⟨(w.heap.size + 1), 1, none⟩ = some (.int .i64 0) := blk_cell E.out 1
    have Ef1 : World.frozen? w1 ⟨(w.heap.size + 1), 1, none⟩ = false := blk_free E.out 1
    have Ec2 : World.cell? w1 ⟨(w.heap.size + 1), 2, none⟩ = some (.int .i64 0) := blk_cell E.out 2
    have Ef2 : World.frozen? w1 ⟨(w.heap.size + 1), 2, none⟩ = false := blk_free E.out 2
    have Ec3 : World.cell? w1 ⟨(w.heap.size + 1), 3, none⟩ = some (.int .i64 0) := blk_cell E.out 3
    have Ef3 : World.frozen? w1 ⟨(w.heap.size + 1), 3, none⟩ = false := blk_free E.out 3
    clear hc1 hf1
    go_wp2
    refine bodyPost_ret (v := .tuple #[.agg #[.int .i64 0, .int .i64 0, .int .i64 0, .int .i64 0], .bool false]) (by simp [results, Try.results70, go_sem, Ec0, Ec1, Ec2, Ec3]) rfl ⟨rfl, ?_⟩
    repeat refine Below.setCell ?_ (by simp) _
    exact B1.out
set_option maxHeartbeats 400000 in
theorem ifv_yes (r s l t : Int) (w : World) (h : bvB r s l t = true) :
    Calls Try.prog 70 #[.agg #[.int .i64 r, .int .i64 s, .int .i64 l, .int .i64 t]] w fun e w' => e = .returned (.tuple #[.agg #[.int .i64 r, .int .i64 s, .int .i64 l, .int .i64 t], .bool true]) ∧ Below w.heap.size w w' := by
    go_enter Try.func70, Try.ntmps70
    go_wp2_with fail
    refine (bvI_any r s l t _).mono ?_
    rintro e w1 ⟨rfl, hb⟩
    obtain ⟨hc1, hf1⟩ := bcell hb
    have B1 := Lib.hid (show Below w.heap.size w w1 from (by first | exact below_seq (Below.refl w.heap.size w) hb | exact below_seq1 (Below.refl w.heap.size w) hb | exact below_seq2 (Below.refl w.heap.size w) hb | exact below_seq3 (Below.refl w.heap.size w) hb | exact below_seq4 (Below.refl w.heap.size w) hb))
    have R1 := Lib.hid hb
    have hz1 := hb.size
    try simp at hz1
    clear hb
    rw [h]
    have D := Lib.hid (show Blk w1 (w.heap.size) 62 #[.int .i64 r, .int .i64 s, .int .i64 l, .int .i64 t] from (blk_below (blk_alloc (blk_new w 62 #[.int .i64 r, .int .i64 s, .int .i64 l, .int .i64 t]) _) R1.out (by simp <;> omega)))
    have Dc0 : World.cell? w1 ⟨w.heap.size, 0, none⟩ = some (.int .i64 r) := blk_cell D.out 0
    have Df0 : World.frozen? w1 ⟨w.heap.size, 0, none⟩ = false := blk_free D.out 0
    have Dc1 : World.cell? w1 ⟨w.heap.size, 1, none⟩ = some (.int .i64 s) := blk_cell D.out 1
    have Df1 : World.frozen? w1 ⟨w.heap.size, 1, none⟩ = false := blk_free D.out 1
    have Dc2 : World.cell? w1 ⟨w.heap.size, 2, none⟩ = some (.int .i64 l) := blk_cell D.out 2
    have Df2 : World.frozen? w1 ⟨w.heap.size, 2, none⟩ = false := blk_free D.out 2
    have Dc3 : World.cell? w1 ⟨w.heap.size, 3, none⟩ = some (.int .i64 t) := blk_cell D.out 3
    have Df3 : World.frozen? w1 ⟨w.heap.size, 3, none⟩ = false := blk_free D.out 3
    have E := Lib.hid (show Blk w1 ((w.heap.size + 1)) 62 #[.int .i64 0, .int .i64 0, .int .i64 0, .int .i64 0] from (blk_below (blk_new2 w _ 62 #[.int .i64 0, .int .i64 0, .int .i64 0, .int .i64 0]) R1.out (by simp <;> omega)))
    have Ec0 : World.cell? w1 ⟨(w.heap.size + 1), 0, none⟩ = some (.int .i64 0) := blk_cell E.out 0
    have Ef0 : World.frozen? w1 ⟨(w.heap.size + 1), 0, none⟩ = false := blk_free E.out 0
    have Ec1 : World.cell? w1 ⟨(w.heap.size + 1), 1, none⟩ = some (.int .i64 0) := blk_cell E.out 1
    have Ef1 : World.frozen? w1 ⟨(w.heap.size + 1), 1, none⟩ = false := blk_free E.out 1
    have Ec2 : World.cell? w1 ⟨(w.heap.size + 1), 2, none⟩ = some (.int .i64 0) := blk_cell E.out 2
    have Ef2 : World.frozen? w1 ⟨(w.heap.size + 1), 2, none⟩ = false := blk_free E.out 2
    have Ec3 : World.cell? w1 ⟨(w.heap.size + 1), 3, none⟩ = some (.int .i64 0) := blk_cell E.out 3
    have Ef3 : World.frozen? w1 ⟨(w.heap.size + 1), 3, none⟩ = false := blk_free E.out 3
    clear hc1 hf1
    go_wp2
    refine bodyPost_ret (v := .tuple #[.agg #[.int .i64 r, .int .i64 s, .int .i64 l, .int .i64 t], .bool true]) (by simp [results, Try.results70, go_sem, Ec0, Ec1, Ec2, Ec3]) rfl ⟨rfl, ?_⟩
    repeat refine Below.setCell ?_ (by simp) _
    exact B1.out
set_option maxHeartbeats 400000 in
theorem newI_no (r s n : Int) (w : World) (h : bvB r s s n = false) :
    Calls Try.prog 64 #[.int .i64 r, .int .i64 s, .int .i64 n] w fun e w' => e = .returned (.tuple #[.agg #[.int .i64 0, .int .i64 0, .int .i64 0, .int .i64 0], .bool false]) ∧ Below w.heap.size w w' := by
    go_enter Try.func64, Try.ntmps64
    go_wp2_with fail
    refine (ifv_no r s s n _ h).mono ?_
    rintro e w1 ⟨rfl, hb⟩
    obtain ⟨hc1, hf1⟩ := bcell hb
    have B1 := Lib.hid (show Below w.heap.size w w1 from (by first | exact below_seq (Below.refl w.heap.size w) hb | exact below_seq1 (Below.refl w.heap.size w) hb | exact below_seq2 (Below.refl w.heap.size w) hb | exact below_seq3 (Below.refl w.heap.size w) hb | exact below_seq4 (Below.refl w.heap.size w) hb))
    have R1 := Lib.hid hb
    have hz1 := hb.size
    try simp at hz1
    clear hb
    have E := Lib.hid (show Blk w1 (w.heap.size) 62 #[.int .i64 0, .int .i64 0, .int .i64 0, .int .i64 0] from (blk_below (blk_new w 62 #[.int .i64 0, .int .i64 0, .int .i64 0, .int .i64 0]) R1.out (by simp <;> omega)))
    have Ec0 : World.cell? w1 ⟨w.heap.size, 0, none⟩ = some (.int .i64 0) := blk_cell E.out 0
    have Ef0 : World.frozen? w1 ⟨w.heap.size, 0, none⟩ = false := blk_free E.out 0
    have Ec1 : World.cell? w1 ⟨w.heap.size, 1, none⟩ = some (.int .i64 0) := blk_cell E.out 1
    have Ef1 : World.frozen? w1 ⟨w.heap.size, 1, none⟩ = false := blk_free E.out 1
    have Ec2 : World.cell? w1 ⟨w.heap.size, 2, none⟩ = some (.int .i64 0) := blk_cell E.out 2
    have Ef2 : World.frozen? w1 ⟨w.heap.size, 2, none⟩ = false := blk_free E.out 2
    have Ec3 : World.cell? w1 ⟨w.heap.size, 3, none⟩ = some (.int .i64 0) := blk_cell E.out 3
    have Ef3 : World.frozen? w1 ⟨w.heap.size, 3, none⟩ = false := blk_free E.out 3
    clear hc1 hf1
    go_wp2
    refine bodyPost_ret (v := .tuple #[.agg #[.int .i64 0, .int .i64 0, .int .i64 0, .int .i64 0], .bool false]) (by simp [results, Try.results64, go_sem, Ec0, Ec1, Ec2, Ec3]) rfl ⟨rfl, ?_⟩
    repeat refine Below.setCell ?_ (by simp) _
    exact B1.out
set_option maxHeartbeats 400000 in
theorem newI_yes (r s n : Int) (w : World) (h : bvB r s s n = true) :
    Calls Try.prog 64 #[.int .i64 r, .int .i64 s, .int .i64 n] w fun e w' => e = .returned (.tuple #[.agg #[.int .i64 r, .int .i64 s, .int .i64 s, .int .i64 n], .bool true]) ∧ Below w.heap.size w w' := by
    go_enter Try.func64, Try.ntmps64
    go_wp2_with fail
    refine (ifv_yes r s s n _ h).mono ?_
    rintro e w1 ⟨rfl, hb⟩
    obtain ⟨hc1, hf1⟩ := bcell hb
    have B1 := Lib.hid (show Below w.heap.size w w1 from (by first | exact below_seq (Below.refl w.heap.size w) hb | exact below_seq1 (Below.refl w.heap.size w) hb | exact below_seq2 (Below.refl w.heap.size w) hb | exact below_seq3 (Below.refl w.heap.size w) hb | exact below_seq4 (Below.refl w.heap.size w) hb))
    have R1 := Lib.hid hb
    have hz1 := hb.size
    try simp at hz1
    clear hb
    have E := Lib.hid (show Blk w1 (w.heap.size) 62 #[.int .i64 0, .int .i64 0, .int .i64 0, .int .i64 0] from (blk_below (blk_new w 62 #[.int .i64 0, .int .i64 0, .int .i64 0, .int .i64 0]) R1.out (by simp <;> omega)))
    have Ec0 : World.cell? w1 ⟨w.heap.size, 0, none⟩ = some (.int .i64 0) := blk_cell E.out 0
    have Ef0 : World.frozen? w1 ⟨w.heap.size, 0, none⟩ = false := blk_free E.out 0
    have Ec1 : World.cell? w1 ⟨w.heap.size, 1, none⟩ = some (.int .i64 0) := blk_cell E.out 1
    have Ef1 : World.frozen? w1 ⟨w.heap.size, 1, none⟩ = false := blk_free E.out 1
    have Ec2 : World.cell? w1 ⟨w.heap.size, 2, none⟩ = some (.int .i64 0) := blk_cell E.out 2
    have Ef2 : World.frozen? w1 ⟨w.heap.size, 2, none⟩ = false := blk_free E.out 2
    have Ec3 : World.cell? w1 ⟨w.heap.size, 3, none⟩ = some (.int .i64 0) := blk_cell E.out 3
    have Ef3 : World.frozen? w1 ⟨w.heap.size, 3, none⟩ = false := blk_free E.out 3
    clear hc1 hf1
    go_wp2
    refine bodyPost_ret (v := .tuple #[.agg #[.int .i64 r, .int .i64 s, .int .i64 s, .int .i64 n], .bool true]) (by simp [results, Try.results64, go_sem, Ec0, Ec1, Ec2, Ec3]) rfl ⟨rfl, ?_⟩
    repeat refine Below.setCell ?_ (by simp) _
    exact B1.out
end Go.Proofs.Ytclgmmnidkppmab
