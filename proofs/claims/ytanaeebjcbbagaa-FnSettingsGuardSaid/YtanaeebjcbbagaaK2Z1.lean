/-
  Chapter 2: buckets: what the program's functions and the model's return. Conditions: none; a contract says which case it speaks of. Chapter 2: tokens: what the program's functions and the model's return. Conditions: none; a contract says which case it speaks of. Chapter 2: taking, giving, waiting, changing: what the program's functions and the model's return. Conditions: none; a contract says which case it speaks of. Chapter 2: making and changing: what the program's functions and the model's return. Conditions: none; a contract says which case it speaks of.
  Conditions: each lemma says them.
-/
import Derived.Test.YtanaeebjcbbagaaKbZ1
import Derived.WalkLawsBesides
import Derived.Deep.DeepCutAuto
namespace Go.Proofs.Ytanaeebjcbbagaa
open Go.RowKit
def rbB (r s : Int) : Bool := decide (0 ≤ r ∧ r ≤ 1000 ∧ 1 ≤ s ∧ s ≤ 10000)
def bvB (r s l t : Int) : Bool := decide (0 ≤ r ∧ r ≤ 1000 ∧ 1 ≤ s ∧ s ≤ 10000 ∧ 0 ≤ l ∧ l ≤ s ∧ 0 ≤ t ∧ t ≤ 1000000)
def rtB (r s l t n : Int) : Bool := decide (0 ≤ r ∧ r ≤ 1000 ∧ 1 ≤ s ∧ s ≤ 10000 ∧ 0 ≤ l ∧ l ≤ s ∧ 0 ≤ t ∧ t ≤ n ∧ n ≤ 1000000)
def lv (r s l t n : Int) : Int := if l + r * (n - t) ≤ s then l + r * (n - t) else s
def wt (r s l t n c : Int) : Int := if c ≤ lv r s l t n then 0 else (c - lv r s l t n + r - 1) / r
theorem rt_mk {r s l t n : Int} (h : 0 ≤ r ∧ r ≤ 1000 ∧ 1 ≤ s ∧ s ≤ 10000 ∧ 0 ≤ l ∧ l ≤ s ∧ 0 ≤ t ∧ t ≤ n ∧ n ≤ 1000000) : rtB r s l t n = true := by simpa [rtB] using h
theorem rt_eq2 (r s l t n : Int) : rtB r s l t n = (bvB r s l t && inB n 0 1000000 && decide (t ≤ n)) := by
  rw [Bool.eq_iff_iff]
  simp only [rtB, bvB, inB, Bool.and_eq_true, decide_eq_true_eq]
  omega
theorem bv_eq (r s l t : Int) : bvB r s l t = (inB r 0 1000 && inB s 1 10000 && inB l 0 s && inB t 0 1000000) := by
  rw [Bool.eq_iff_iff]
  simp only [bvB, inB, Bool.and_eq_true, decide_eq_true_eq]
  omega
set_option maxHeartbeats 1000000 in
theorem bvI_any (r s l t : Int) (w : World) :
    Calls Try.prog 72 #[.agg #[.int .i64 r, .int .i64 s, .int .i64 l, .int .i64 t]] w fun e w' => e = .returned (.bool (bvB r s l t)) ∧ Below w.heap.size w w' := by
  have hb := below_alloc (Below.refl w.heap.size w) (.cells #[.int .i64 r, .int .i64 s, .int .i64 l, .int .i64 t] 29)
  rcases h1 : inB r 0 1000 with _ | _
  · go_enter Try.func72, Try.ntmps72
    go_wp2_with (go_at_call 43; refine (within_any _ _ _ _).mono ?_; rintro e w' ⟨rfl, rfl⟩)
    go_ret
    exact ⟨ret_bool (by rw [bv_eq, h1]; rfl), hb⟩
  · rcases h2 : inB s 1 10000 with _ | _
    · go_enter Try.func72, Try.ntmps72
      go_wp2_with (go_at_call 43; refine (within_any _ _ _ _).mono ?_; rintro e w' ⟨rfl, rfl⟩)
      go_ret
      exact ⟨ret_bool (by rw [bv_eq, h1, h2]; rfl), hb⟩
    · rcases h3 : inB l 0 s with _ | _
      · go_enter Try.func72, Try.ntmps72
        go_wp2_with (go_at_call 43; refine (within_any _ _ _ _).mono ?_; rintro e w' ⟨rfl, rfl⟩)
        go_ret
        exact ⟨ret_bool (by rw [bv_eq, h1, h2, h3]; rfl), hb⟩
      · rcases h4 : inB t 0 1000000 with _ | _
        all_goals
          go_enter Try.func72, Try.ntmps72
          go_wp2_with (go_at_call 43; refine (within_any _ _ _ _).mono ?_; rintro e w' ⟨rfl, rfl⟩)
          go_ret
          exact ⟨ret_bool (by rw [bv_eq, h1, h2, h3, h4]; rfl), hb⟩
theorem ratesS_any (r s : Int) (w : World) :
    Calls Try.prog 33 #[.int .i64 r, .int .i64 s] w fun e w' => e = .returned (.bool (rbB r s)) ∧ w = w' := by
  go_enter Try.func33, Try.ntmps33
  go_wp2
  all_goals go_ret
  all_goals refine ⟨ret_bool ?_, rfl⟩
  · rw [rbB, decide_eq_decide]; omega
  all_goals
    rw [rbB, eq_comm, decide_eq_false_iff_not]; omega
end Go.Proofs.Ytanaeebjcbbagaa
namespace Go.Proofs.Ytanaeebjcbbagaa
open Go.RowKit
end Go.Proofs.Ytanaeebjcbbagaa
namespace Go.Proofs.Ytanaeebjcbbagaa
open Go.RowKit
end Go.Proofs.Ytanaeebjcbbagaa
namespace Go.Proofs.Ytanaeebjcbbagaa
open Go.RowKit
theorem bv_new (r s n : Int) : bvB r s s n = (rbB r s && inB n 0 1000000) := by
  rw [Bool.eq_iff_iff]
  simp only [bvB, rbB, inB, Bool.and_eq_true, decide_eq_true_eq]
  omega
set_option maxHeartbeats 400000 in
theorem ifv_no (r s l t : Int) (w : World) (h : bvB r s l t = false) :
    Calls Try.prog 60 #[.agg #[.int .i64 r, .int .i64 s, .int .i64 l, .int .i64 t]] w fun e w' => e = .returned (.tuple #[.agg #[.int .i64 0, .int .i64 0, .int .i64 0, .int .i64 0], .bool false]) ∧ Below w.heap.size w w' := by
    go_enter Try.func60, Try.ntmps60
    go_wp2_with fail
    refine (bvI_any r s l t _).mono ?_
    rintro e w1 ⟨rfl, hb⟩
    obtain ⟨hc1, hf1⟩ := bcell hb
    have B1 := Lib.hid (show Below w.heap.size w w1 from (by first | exact below_seq (Below.refl w.heap.size w) hb | exact below_seq1 (Below.refl w.heap.size w) hb | exact below_seq2 (Below.refl w.heap.size w) hb | exact below_seq3 (Below.refl w.heap.size w) hb | exact below_seq4 (Below.refl w.heap.size w) hb))
    have R1 := Lib.hid hb
    have hz1 := hb.size
    try simp at hz1
    clear hb
    rw [h]
    have D := Lib.hid (show Blk w1 (w.heap.size) 29 #[.int .i64 r, .int .i64 s, .int .i64 l, .int .i64 t] from (blk_below (blk_alloc (blk_new w 29 #[.int .i64 r, .int .i64 s, .int .i64 l, .int .i64 t]) _) R1.out (by simp <;> omega)))
    have Dc0 : World.cell? w1 ⟨w.heap.size, 0, none⟩ = some (.int .i64 r) := blk_cell D.out 0
    have Df0 : World.frozen? w1 ⟨w.heap.size, 0, none⟩ = false := blk_free D.out 0
    have Dc1 : World.cell? w1 ⟨w.heap.size, 1, none⟩ = some (.int .i64 s) := blk_cell D.out 1
    have Df1 : World.frozen? w1 ⟨w.heap.size, 1, none⟩ = false := blk_free D.out 1
    have Dc2 : World.cell? w1 ⟨w.heap.size, 2, none⟩ = some (.int .i64 l) := blk_cell D.out 2
    have Df2 : World.frozen? w1 ⟨w.heap.size, 2, none⟩ = false := blk_free D.out 2
    have Dc3 : World.cell? w1 ⟨w.heap.size, 3, none⟩ = some (.int .i64 t) := blk_cell D.out 3
    have Df3 : World.frozen? w1 ⟨w.heap.size, 3, none⟩ = false := blk_free D.out 3
    have E := Lib.hid (show Blk w1 ((w.heap.size + 1)) 29 #[.int .i64 0, .int .i64 0, .int .i64 0, .int .i64 0] from (blk_below (blk_new2 w _ 29 #[.int .i64 0, .int .i64 0, .int .i64 0, .int .i64 0]) R1.out (by simp <;> omega)))
    have Ec0 : World.cell? w1 ⟨(w.heap.size + 1), 0, none⟩ = some (.int .i64 0) := blk_cell E.out 0
    have Ef0 : World.frozen? w1 ⟨(w.heap.size + 1), 0, none⟩ = false := blk_free E.out 0
    have Ec1 : World.cell? w1 ⟨(w.heap.size + 1), 1, none⟩ = some (.int .i64 0) := blk_cell E.out 1
    have Ef1 : World.frozen? w1 ⟨(w.heap.size + 1), 1, none⟩ = false := blk_free E.out 1
    have Ec2 : World.cell? w1 ⟨(w.heap.size + 1), 2, none⟩ = some (.int .i64 0) := blk_cell E.out 2
    have Ef2 : World.frozen? w1 ⟨(w.heap.size + 1), 2, none⟩ = false := blk_free E.out 2
    have Ec3 : World.cell? w1 ⟨(w.heap.size + 1), 3, none⟩ = some (.int .i64 0) := blk_cell E.out 3
    have Ef3 : World.frozen? w1 ⟨(w.heap.size + 1), 3, none⟩ = false := blk_free E.out 3
    clear hc1 hf1
    go_wp2
    refine bodyPost_ret (v := .tuple #[.agg #[.int .i64 0, .int .i64 0, .int .i64 0, .int .i64 0], .bool false]) (by simp [results, Try.results60, go_sem, Ec0, Ec1, Ec2, Ec3]) rfl ⟨rfl, ?_⟩
    repeat refine Below.setCell ?_ (by simp) _
    exact B1.out
set_option maxHeartbeats 400000 in
theorem ifv_yes (r s l t : Int) (w : World) (h : bvB r s l t = true) :
    Calls Try.prog 60 #[.agg #[.int .i64 r, .int .i64 s, .int .i64 l, .int .i64 t]] w fun e w' => e = .returned (.tuple #[.agg #[.int .i64 r, .int .i64 s, .int .i64 l, .int .i64 t], .bool true]) ∧ Below w.heap.size w w' := by
    go_enter Try.func60, Try.ntmps60
    go_wp2_with fail
    refine (bvI_any r s l t _).mono ?_
    rintro e w1 ⟨rfl, hb⟩
    obtain ⟨hc1, hf1⟩ := bcell hb
    have B1 := Lib.hid (show Below w.heap.size w w1 from (by first | exact below_seq (Below.refl w.heap.size w) hb | exact below_seq1 (Below.refl w.heap.size w) hb | exact below_seq2 (Below.refl w.heap.size w) hb | exact below_seq3 (Below.refl w.heap.size w) hb | exact below_seq4 (Below.refl w.heap.size w) hb))
    have R1 := Lib.hid hb
    have hz1 := hb.size
    try simp at hz1
    clear hb
    rw [h]
    have D := Lib.hid (show Blk w1 (w.heap.size) 29 #[.int .i64 r, .int .i64 s, .int .i64 l, .int .i64 t] from (blk_below (blk_alloc (blk_new w 29 #[.int .i64 r, .int .i64 s, .int .i64 l, .int .i64 t]) _) R1.out (by simp <;> omega)))
    have Dc0 : World.cell? w1 ⟨w.heap.size, 0, none⟩ = some (.int .i64 r) := blk_cell D.out 0
    have Df0 : World.frozen? w1 ⟨w.heap.size, 0, none⟩ = false := blk_free D.out 0
    have Dc1 : World.cell? w1 ⟨w.heap.size, 1, none⟩ = some (.int .i64 s) := blk_cell D.out 1
    have Df1 : World.frozen? w1 ⟨w.heap.size, 1, none⟩ = false := blk_free D.out 1
    have Dc2 : World.cell? w1 ⟨w.heap.size, 2, none⟩ = some (.int .i64 l) := blk_cell D.out 2
    have Df2 : World.frozen? w1 ⟨w.heap.size, 2, none⟩ = false := blk_free D.out 2
    have Dc3 : World.cell? w1 ⟨w.heap.size, 3, none⟩ = some (.int .i64 t) := blk_cell D.out 3
    have Df3 : World.frozen? w1 ⟨w.heap.size, 3, none⟩ = false := blk_free D.out 3
    have E := Lib.hid (show Blk w1 ((w.heap.size + 1)) 29 #[.int .i64 0, .int .i64 0, .int .i64 0, .int .i64 0] from (blk_below (blk_new2 w _ 29 #[.int .i64 0, .int .i64 0, .int .i64 0, .int .i64 0]) R1.out (by simp <;> omega)))
    have Ec0 : World.cell? w1 ⟨(w.heap.size + 1), 0, none⟩ = some (.int .i64 0) := blk_cell E.out 0
    have Ef0 : World.frozen? w1 ⟨(w.heap.size + 1), 0, none⟩ = false := blk_free E.out 0
    have Ec1 : World.cell? w1 ⟨(w.heap.size + 1), 1, none⟩ = some (.int .i64 0) := blk_cell E.out 1
    have Ef1 : World.frozen? w1 ⟨(w.heap.size + 1), 1, none⟩ = false := blk_free E.out 1
    have Ec2 : World.cell? w1 ⟨(w.heap.size + 1), 2, none⟩ = some (.int .i64 0) := blk_cell E.out 2
    have Ef2 : World.frozen? w1 ⟨(w.heap.size + 1), 2, none⟩ = false := blk_free E.out 2
    have Ec3 : World.cell? w1 ⟨(w.heap.size + 1), 3, none⟩ = some (.int .i64 0) := blk_cell E.out 3
    have Ef3 : World.frozen? w1 ⟨(w.heap.size + 1), 3, none⟩ = false := blk_free E.out 3
    clear hc1 hf1
    go_wp2
    refine bodyPost_ret (v := .tuple #[.agg #[.int .i64 r, .int .i64 s, .int .i64 l, .int .i64 t], .bool true]) (by simp [results, Try.results60, go_sem, Ec0, Ec1, Ec2, Ec3]) rfl ⟨rfl, ?_⟩
    repeat refine Below.setCell ?_ (by simp) _
    exact B1.out
set_option maxHeartbeats 400000 in
theorem bnI_no (r s n : Int) (w : World) (h : bvB r s s n = false) :
    Calls Try.prog 27 #[.int .i64 r, .int .i64 s, .int .i64 n] w fun e w' => e = .returned (.tuple #[.agg #[.int .i64 0, .int .i64 0, .int .i64 0, .int .i64 0], .bool false]) ∧ Below w.heap.size w w' := by
    go_enter Try.func27, Try.ntmps27
    go_wp2_with fail
    refine (ifv_no r s s n _ h).mono ?_
    rintro e w1 ⟨rfl, hb⟩
    obtain ⟨hc1, hf1⟩ := bcell hb
    have B1 := Lib.hid (show Below w.heap.size w w1 from (by first | exact below_seq (Below.refl w.heap.size w) hb | exact below_seq1 (Below.refl w.heap.size w) hb | exact below_seq2 (Below.refl w.heap.size w) hb | exact below_seq3 (Below.refl w.heap.size w) hb | exact below_seq4 (Below.refl w.heap.size w) hb))
    have R1 := Lib.hid hb
    have hz1 := hb.size
    try simp at hz1
    clear hb
    have E := Lib.hid (show Blk w1 (w.heap.size) 29 #[.int .i64 0, .int .i64 0, .int .i64 0, .int .i64 0] from (blk_below (blk_new w 29 #[.int .i64 0, .int .i64 0, .int .i64 0, .int .i64 0]) R1.out (by simp <;> omega)))
    have Ec0 : World.cell? w1 ⟨w.heap.size, 0, none⟩ = some (.int .i64 0) := blk_cell E.out 0
    have Ef0 : World.frozen? w1 ⟨w.heap.size, 0, none⟩ = false := blk_free E.out 0
    have Ec1 : World.cell? w1 ⟨w.heap.size, 1, none⟩ = some (.int .i64 0) := blk_cell E.out 1
    have Ef1 : World.frozen? w1 ⟨w.heap.size, 1, none⟩ = false := blk_free E.out 1
    have Ec2 : World.cell? w1 ⟨w.heap.size, 2, none⟩ = some (.int .i64 0) := blk_cell E.out 2
    have Ef2 : World.frozen? w1 ⟨w.heap.size, 2, none⟩ = false := blk_free E.out 2
    have Ec3 : World.cell? w1 ⟨w.heap.size, 3, none⟩ = some (.int .i64 0) := blk_cell E.out 3
    have Ef3 : World.frozen? w1 ⟨w.heap.size, 3, none⟩ = false := blk_free E.out 3
    clear hc1 hf1
    go_wp2
    refine bodyPost_ret (v := .tuple #[.agg #[.int .i64 0, .int .i64 0, .int .i64 0, .int .i64 0], .bool false]) (by simp [results, Try.results27, go_sem, Ec0, Ec1, Ec2, Ec3]) rfl ⟨rfl, ?_⟩
    repeat refine Below.setCell ?_ (by simp) _
    exact B1.out
set_option maxHeartbeats 400000 in
theorem bnI_yes (r s n : Int) (w : World) (h : bvB r s s n = true) :
    Calls Try.prog 27 #[.int .i64 r, .int .i64 s, .int .i64 n] w fun e w' => e = .returned (.tuple #[.agg #[.int .i64 r, .int .i64 s, .int .i64 s, .int .i64 n], .bool true]) ∧ Below w.heap.size w w' := by
    go_enter Try.func27, Try.ntmps27
    go_wp2_with fail
    refine (ifv_yes r s s n _ h).mono ?_
    rintro e w1 ⟨rfl, hb⟩
    obtain ⟨hc1, hf1⟩ := bcell hb
    have B1 := Lib.hid (show Below w.heap.size w w1 from (by first | exact below_seq (Below.refl w.heap.size w) hb | exact below_seq1 (Below.refl w.heap.size w) hb | exact below_seq2 (Below.refl w.heap.size w) hb | exact below_seq3 (Below.refl w.heap.size w) hb | exact below_seq4 (Below.refl w.heap.size w) hb))
    have R1 := Lib.hid hb
    have hz1 := hb.size
    try simp at hz1
    clear hb
    have E := Lib.hid (show Blk w1 (w.heap.size) 29 #[.int .i64 0, .int .i64 0, .int .i64 0, .int .i64 0] from (blk_below (blk_new w 29 #[.int .i64 0, .int .i64 0, .int .i64 0, .int .i64 0]) R1.out (by simp <;> omega)))
    have Ec0 : World.cell? w1 ⟨w.heap.size, 0, none⟩ = some (.int .i64 0) := blk_cell E.out 0
    have Ef0 : World.frozen? w1 ⟨w.heap.size, 0, none⟩ = false := blk_free E.out 0
    have Ec1 : World.cell? w1 ⟨w.heap.size, 1, none⟩ = some (.int .i64 0) := blk_cell E.out 1
    have Ef1 : World.frozen? w1 ⟨w.heap.size, 1, none⟩ = false := blk_free E.out 1
    have Ec2 : World.cell? w1 ⟨w.heap.size, 2, none⟩ = some (.int .i64 0) := blk_cell E.out 2
    have Ef2 : World.frozen? w1 ⟨w.heap.size, 2, none⟩ = false := blk_free E.out 2
    have Ec3 : World.cell? w1 ⟨w.heap.size, 3, none⟩ = some (.int .i64 0) := blk_cell E.out 3
    have Ef3 : World.frozen? w1 ⟨w.heap.size, 3, none⟩ = false := blk_free E.out 3
    clear hc1 hf1
    go_wp2
    refine bodyPost_ret (v := .tuple #[.agg #[.int .i64 r, .int .i64 s, .int .i64 s, .int .i64 n], .bool true]) (by simp [results, Try.results27, go_sem, Ec0, Ec1, Ec2, Ec3]) rfl ⟨rfl, ?_⟩
    repeat refine Below.setCell ?_ (by simp) _
    exact B1.out
end Go.Proofs.Ytanaeebjcbbagaa
