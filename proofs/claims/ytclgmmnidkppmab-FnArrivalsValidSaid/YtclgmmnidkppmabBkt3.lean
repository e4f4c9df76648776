/-
  Chapter 2: taking, giving, waiting, changing: what the program's functions and the model's return. Conditions: none; a contract says which case it speaks of.
-/
import Derived.Test.YtclgmmnidkppmabBkt2
import Derived.Deep.DeepCutAuto
namespace Go.Proofs.Ytclgmmnidkppmab
open Go.RowKit

theorem ret_bk2 {a b c d a2 b2 c2 d2 : Int} {o p : Bool} (h0 : a = a2) (h1 : b = b2) (h2 : c = c2) (h3 : d = d2) :
    Ending.returned (.tuple #[.agg #[.int .i64 a, .int .i64 b, .int .i64 c, .int .i64 d], .bool o, .bool p]) = .returned (.tuple #[.agg #[.int .i64 a2, .int .i64 b2, .int .i64 c2, .int .i64 d2], .bool o, .bool p]) := by rw [h0, h1, h2, h3]
set_option maxHeartbeats 400000 in
theorem takeI_over (r s l t n c : Int) (w : World) (h : tkB r s l t n c = true) (hc : lv r s l t n < c) :
    Calls Try.prog 53 #[.agg #[.int .i64 r, .int .i64 s, .int .i64 l, .int .i64 t], .int .i64 n, .int .i64 c] w fun e w' => e = .returned (.tuple #[.agg #[.int .i64 r, .int .i64 s, .int .i64 (lv r s l t n), .int .i64 n], .bool false, .bool true]) ∧ Below w.heap.size w w' := by
    obtain ⟨h, h0⟩ := tk_of h
    have lb := lv_bd h
    go_enter Try.func53, Try.ntmps53
    go_wp2_with fail
    refine (refYes r s l t n _ h).mono ?_
    rintro e w1 ⟨rfl, hb⟩
    obtain ⟨hc1, hf1⟩ := bcell hb
    have B1 := Lib.hid (show Below w.heap.size w w1 from (by first | exact below_seq (Below.refl w.heap.size w) hb | exact below_seq1 (Below.refl w.heap.size w) hb | exact below_seq2 (Below.refl w.heap.size w) hb | exact below_seq3 (Below.refl w.heap.size w) hb | exact below_seq4 (Below.refl w.heap.size w) hb))
    have R1 := Lib.hid hb
    have hz1 := hb.size
    try simp at hz1
    clear hb
    have D := Lib.hid (show Blk w1 (w.heap.size) 62 #[.int .i64 r, .int .i64 s, .int .i64 l, .int .i64 t] from (blk_below (blk_alloc (blk_new w 62 #[.int .i64 r, .int .i64 s, .int .i64 l, .int .i64 t]) _) R1.out (by simp <;> omega)))
    have Dc0 : World.cell? w1 ⟨w.heap.size, 0, none⟩ = some (.int .i64 r) := blk_cell D.out 0
    have Df0 : World.frozen? w1 ⟨w.heap.size, 0, none⟩ = false := blk_free D.out 0
    have Dc1 : World.cell? w1 ⟨w.heap.size, 1, none⟩ = some (.int .i64 s) := blk_cell D.out 1
    have Df1 : World.frozen? w1 ⟨w.heap.size, 1, none⟩ = false := blk_free D.out 1
    have Dc2 : World.cell? w1 ⟨w.heap.size, 2, none⟩ = some (.int .i64 l) := blk_cell D.out 2
    have Df2 : World.frozen? w1 ⟨w.heap.size, 2, none⟩ = false := blk_free D.out 2
    have Dc3 : World.cell? w1 ⟨w.heap.size, 3, none⟩ = some (.int .i64 t) := blk_cell D.out 3
    have Df3 : World.frozen? w1 ⟨w.heap.size, 3, none⟩ = false := blk_free D.out 3
    have E := Lib.hid (show Blk w1 ((w.heap.size + 1)) 62 #[.int .i64 0, .int .i64 0, .int .i64 0, .int .i64 0] from (blk_below (blk_new2 w _ 62 #[.int .i64 0, .int .i64 0, .int .i64 0, .int .i64 0]) R1.out (by simp <;> omega)))
    have Ec0 : World.cell? w1 ⟨(w.heap.size + 1), 0, none⟩ = some (.int .i64 0) := blk_cell E.out 0
    have Ef0 : World.frozen? w1 ⟨(w.heap.size + 1), 0, none⟩ = false := blk_free E.out 0
    have Ec1 : World.cell? w1 ⟨(w.heap.size + 1), 1, none⟩ = some (.int .i64 0) := blk_cell E.out 1
    have Ef1 : World.frozen? w1 ⟨(w.heap.size + 1), 1, none⟩ = false := blk_free E.out 1
    have Ec2 : World.cell? w1 ⟨(w.heap.size + 1), 2, none⟩ = some (.int .i64 0) := blk_cell E.out 2
    have Ef2 : World.frozen? w1 ⟨(w.heap.size + 1), 2, none⟩ = false := blk_free E.out 2
    have Ec3 : World.cell? w1 ⟨(w.heap.size + 1), 3, none⟩ = some (.int .i64 0) := blk_cell E.out 3
    have Ef3 : World.frozen? w1 ⟨(w.heap.size + 1), 3, none⟩ = false := blk_free E.out 3
    clear hc1 hf1
    go_wp2
    refine bodyPost_ret (v := .tuple #[.agg #[.int .i64 r, .int .i64 s, .int .i64 (lv r s l t n), .int .i64 n], .bool false, .bool true]) (by simp [results, Try.results53, go_sem, Ec0, Ec1, Ec2, Ec3]) rfl ⟨rfl, ?_⟩
    repeat refine Below.setCell ?_ (by simp) _
    exact B1.out
set_option maxHeartbeats 400000 in
theorem takeI_yes (r s l t n c : Int) (w : World) (h : tkB r s l t n c = true) (hc : c ≤ lv r s l t n) :
    Calls Try.prog 53 #[.agg #[.int .i64 r, .int .i64 s, .int .i64 l, .int .i64 t], .int .i64 n, .int .i64 c] w fun e w' => e = .returned (.tuple #[.agg #[.int .i64 r, .int .i64 s, .int .i64 (lv r s l t n - c), .int .i64 n], .bool true, .bool true]) ∧ Below w.heap.size w w' := by
    obtain ⟨h, h0⟩ := tk_of h
    have H := Lib.hid h
    have l1 := lv_bd h
    have a0 := rt_of h
    obtain ⟨V, hV⟩ : ∃ V, V = lv r s l t n := ⟨_, rfl⟩
    rw [← hV] at hc l1 ⊢
    have HV := Lib.hid hV
    have x0 : 0 ≤ V - c := by omega
    have x1 : V - c ≤ 10000 := by omega
    have x2 : V ≤ 10000 := by omega
    clear l1 a0 hV h
    go_enter Try.func53, Try.ntmps53
    go_wp2_with fail
    refine (refYes r s l t n _ H.out).mono ?_
    rintro e w1 ⟨rfl, hb⟩
    obtain ⟨hc1, hf1⟩ := bcell hb
    have B1 := Lib.hid (show Below w.heap.size w w1 from (by first | exact below_seq (Below.refl w.heap.size w) hb | exact below_seq1 (Below.refl w.heap.size w) hb | exact below_seq2 (Below.refl w.heap.size w) hb | exact below_seq3 (Below.refl w.heap.size w) hb | exact below_seq4 (Below.refl w.heap.size w) hb))
    have R1 := Lib.hid hb
    have hz1 := hb.size
    try simp at hz1
    clear hb
    rw [← HV.out]
    have D := Lib.hid (show Blk w1 (w.heap.size) 62 #[.int .i64 r, .int .i64 s, .int .i64 l, .int .i64 t] from (blk_below (blk_alloc (blk_new w 62 #[.int .i64 r, .int .i64 s, .int .i64 l, .int .i64 t]) _) R1.out (by simp <;> omega)))
    have Dc0 : World.cell? w1 ⟨w.heap.size, 0, none⟩ = some (.int .i64 r) := blk_cell D.out 0
    have Df0 : World.frozen? w1 ⟨w.heap.size, 0, none⟩ = false := blk_free D.out 0
    have Dc1 : World.cell? w1 ⟨w.heap.size, 1, none⟩ = some (.int .i64 s) := blk_cell D.out 1
    have Df1 : World.frozen? w1 ⟨w.heap.size, 1, none⟩ = false := blk_free D.out 1
    have Dc2 : World.cell? w1 ⟨w.heap.size, 2, none⟩ = some (.int .i64 l) := blk_cell D.out 2
    have Df2 : World.frozen? w1 ⟨w.heap.size, 2, none⟩ = false := blk_free D.out 2
    have Dc3 : World.cell? w1 ⟨w.heap.size, 3, none⟩ = some (.int .i64 t) := blk_cell D.out 3
    have Df3 : World.frozen? w1 ⟨w.heap.size, 3, none⟩ = false := blk_free D.out 3
    have E := Lib.hid (show Blk w1 ((w.heap.size + 1)) 62 #[.int .i64 0, .int .i64 0, .int .i64 0, .int .i64 0] from (blk_below (blk_new2 w _ 62 #[.int .i64 0, .int .i64 0, .int .i64 0, .int .i64 0]) R1.out (by simp <;> omega)))
    have Ec0 : World.cell? w1 ⟨(w.heap.size + 1), 0, none⟩ = some (.int .i64 0) := blk_cell E.out 0
    have Ef0 : World.frozen? w1 ⟨(w.heap.size + 1), 0, none⟩ = false := blk_free E.out 0
    have Ec1 : World.cell? w1 ⟨(w.heap.size + 1), 1, none⟩ = some (.int .i64 0) := blk_cell E.out 1
    have Ef1 : World.frozen? w1 ⟨(w.heap.size + 1), 1, none⟩ = false := blk_free E.out 1
    have Ec2 : World.cell? w1 ⟨(w.heap.size + 1), 2, none⟩ = some (.int .i64 0) := blk_cell E.out 2
    have Ef2 : World.frozen? w1 ⟨(w.heap.size + 1), 2, none⟩ = false := blk_free E.out 2
    have Ec3 : World.cell? w1 ⟨(w.heap.size + 1), 3, none⟩ = some (.int .i64 0) := blk_cell E.out 3
    have Ef3 : World.frozen? w1 ⟨(w.heap.size + 1), 3, none⟩ = false := blk_free E.out 3
    clear hc1 hf1
    go_upto_region 2 with (fail)
    have B2 := Lib.hid (show Below w.heap.size w (World.setCell (World.setCell (World.setCell (World.setCell w1 ⟨w.heap.size, 0, none⟩ (.int .i64 r)) ⟨w.heap.size, 1, none⟩ (.int .i64 s)) ⟨w.heap.size, 2, none⟩ (.int .i64 V)) ⟨w.heap.size, 3, none⟩ (.int .i64 n)) from Below.setCell (Below.setCell (Below.setCell (Below.setCell (B1.out) (by simp) _) (by simp) _) (by simp) _) (by simp) _)
    have D' := Lib.hid (show Blk (World.setCell (World.setCell (World.setCell (World.setCell w1 ⟨w.heap.size, 0, none⟩ (.int .i64 r)) ⟨w.heap.size, 1, none⟩ (.int .i64 s)) ⟨w.heap.size, 2, none⟩ (.int .i64 V)) ⟨w.heap.size, 3, none⟩ (.int .i64 n)) w.heap.size 62 #[.int .i64 r, .int .i64 s, .int .i64 V, .int .i64 n] from blk_set (blk_set (blk_set (blk_set (D.out) 0 _) 1 _) 2 _) 3 _)
    have E' := Lib.hid (show Blk (World.setCell (World.setCell (World.setCell (World.setCell w1 ⟨w.heap.size, 0, none⟩ (.int .i64 r)) ⟨w.heap.size, 1, none⟩ (.int .i64 s)) ⟨w.heap.size, 2, none⟩ (.int .i64 V)) ⟨w.heap.size, 3, none⟩ (.int .i64 n)) (w.heap.size + 1) 62 #[.int .i64 0, .int .i64 0, .int .i64 0, .int .i64 0] from blk_far (blk_far (blk_far (blk_far (E.out) (by simp <;> omega) _) (by simp <;> omega) _) (by simp <;> omega) _) (by simp <;> omega) _)
    have z2 : (World.heap (World.setCell (World.setCell (World.setCell (World.setCell w1 ⟨w.heap.size, 0, none⟩ (.int .i64 r)) ⟨w.heap.size, 1, none⟩ (.int .i64 s)) ⟨w.heap.size, 2, none⟩ (.int .i64 V)) ⟨w.heap.size, 3, none⟩ (.int .i64 n))).size = (World.heap w1).size := by simp
    generalize (World.setCell (World.setCell (World.setCell (World.setCell w1 ⟨w.heap.size, 0, none⟩ (.int .i64 r)) ⟨w.heap.size, 1, none⟩ (.int .i64 s)) ⟨w.heap.size, 2, none⟩ (.int .i64 V)) ⟨w.heap.size, 3, none⟩ (.int .i64 n)) = w2 at B2 z2 D' E' ⊢
    clear Dc0 Df0 Dc1 Df1 Dc2 Df2 Dc3 Df3
    have Dc0 : World.cell? w2 ⟨w.heap.size, 0, none⟩ = some (.int .i64 r) := blk_cell D'.out 0
    have Df0 : World.frozen? w2 ⟨w.heap.size, 0, none⟩ = false := blk_free D'.out 0
    have Dc1 : World.cell? w2 ⟨w.heap.size, 1, none⟩ = some (.int .i64 s) := blk_cell D'.out 1
    have Df1 : World.frozen? w2 ⟨w.heap.size, 1, none⟩ = false := blk_free D'.out 1
    have Dc2 : World.cell? w2 ⟨w.heap.size, 2, none⟩ = some (.int .i64 V) := blk_cell D'.out 2
    have Df2 : World.frozen? w2 ⟨w.heap.size, 2, none⟩ = false := blk_free D'.out 2
    have Dc3 : World.cell? w2 ⟨w.heap.size, 3, none⟩ = some (.int .i64 n) := blk_cell D'.out 3
    have Df3 : World.frozen? w2 ⟨w.heap.size, 3, none⟩ = false := blk_free D'.out 3
    clear Ec0 Ef0 Ec1 Ef1 Ec2 Ef2 Ec3 Ef3
    have Ec0 : World.cell? w2 ⟨(w.heap.size + 1), 0, none⟩ = some (.int .i64 0) := blk_cell E'.out 0
    have Ef0 : World.frozen? w2 ⟨(w.heap.size + 1), 0, none⟩ = false := blk_free E'.out 0
    have Ec1 : World.cell? w2 ⟨(w.heap.size + 1), 1, none⟩ = some (.int .i64 0) := blk_cell E'.out 1
    have Ef1 : World.frozen? w2 ⟨(w.heap.size + 1), 1, none⟩ = false := blk_free E'.out 1
    have Ec2 : World.cell? w2 ⟨(w.heap.size + 1), 2, none⟩ = some (.int .i64 0) := blk_cell E'.out 2
    have Ef2 : World.frozen? w2 ⟨(w.heap.size + 1), 2, none⟩ = false := blk_free E'.out 2
    have Ec3 : World.cell? w2 ⟨(w.heap.size + 1), 3, none⟩ = some (.int .i64 0) := blk_cell E'.out 3
    have Ef3 : World.frozen? w2 ⟨(w.heap.size + 1), 3, none⟩ = false := blk_free E'.out 3
    have hz2 : w1.heap.size ≤ w2.heap.size := Nat.le_of_eq z2.symm
    clear z2
    go_wp2
    refine bodyPost_ret (v := .tuple #[.agg #[.int .i64 r, .int .i64 s, .int .i64 (V - c), .int .i64 n], .bool true, .bool true]) (by simp [results, Try.results53, go_sem, Ec0, Ec1, Ec2, Ec3]) rfl ⟨rfl, ?_⟩
    repeat refine Below.setCell ?_ (by simp) _
    exact B2.out
set_option maxHeartbeats 400000 in
theorem takeS_no (r s l t n c : Int) (w : World) (h : tkB r s l t n c = false) :
    Calls Try.prog 57 #[.agg #[.int .i64 r, .int .i64 s, .int .i64 l, .int .i64 t], .int .i64 n, .int .i64 c] w fun e w' => e = .returned (.tuple #[.agg #[.int .i64 0, .int .i64 0, .int .i64 0, .int .i64 0], .bool false, .bool false]) ∧ Below w.heap.size w w' := by
  rcases tk_no h with h | ⟨h, hc⟩
  all_goals
    go_enter Try.func57, Try.ntmps57
    go_wp2_with fail
    refine (rightS_any r s l t n _).mono ?_
    rintro e w1 ⟨rfl, hb⟩
    obtain ⟨hc1, hf1⟩ := bcell hb
    have B1 := Lib.hid (show Below w.heap.size w w1 from (by first | exact below_seq (Below.refl w.heap.size w) hb | exact below_seq1 (Below.refl w.heap.size w) hb | exact below_seq2 (Below.refl w.heap.size w) hb | exact below_seq3 (Below.refl w.heap.size w) hb | exact below_seq4 (Below.refl w.heap.size w) hb))
    have R1 := Lib.hid hb
    have hz1 := hb.size
    try simp at hz1
    clear hb
    rw [h]
    have D := Lib.hid (show Blk w1 (w.heap.size) 62 #[.int .i64 r, .int .i64 s, .int .i64 l, .int .i64 t] from (blk_below (blk_alloc (blk_new w 62 #[.int .i64 r, .int .i64 s, .int .i64 l, .int .i64 t]) _) R1.out (by simp <;> omega)))
    have Dc0 : World.cell? w1 ⟨w.heap.size, 0, none⟩ = some (.int .i64 r) := blk_cell D.out 0
    have Df0 : World.frozen? w1 ⟨w.heap.size, 0, none⟩ = false := blk_free D.out 0
    have Dc1 : World.cell? w1 ⟨w.heap.size, 1, none⟩ = some (.int .i64 s) := blk_cell D.out 1
    have Df1 : World.frozen? w1 ⟨w.heap.size, 1, none⟩ = false := blk_free D.out 1
    have Dc2 : World.cell? w1 ⟨w.heap.size, 2, none⟩ = some (.int .i64 l) := blk_cell D.out 2
    have Df2 : World.frozen? w1 ⟨w.heap.size, 2, none⟩ = false := blk_free D.out 2
    have Dc3 : World.cell? w1 ⟨w.heap.size, 3, none⟩ = some (.int .i64 t) := blk_cell D.out 3
    have Df3 : World.frozen? w1 ⟨w.heap.size, 3, none⟩ = false := blk_free D.out 3
    have E := Lib.hid (show Blk w1 ((w.heap.size + 1)) 62 #[.int .i64 0, .int .i64 0, .int .i64 0, .int .i64 0] from (blk_below (blk_new2 w _ 62 #[.int .i64 0, .int .i64 0, .int .i64 0, .int .i64 0]) R1.out (by simp <;> omega)))
    have Ec0 : World.cell? w1 ⟨(w.heap.size + 1), 0, none⟩ = some (.int .i64 0) := blk_cell E.out 0
    have Ef0 : World.frozen? w1 ⟨(w.heap.size + 1), 0, none⟩ = false := blk_free E.out 0
    have Ec1 : World.cell? w1 ⟨(w.heap.size + 1), 1, none⟩ = some (.int .i64 0) := blk_cell E.out 1
    have Ef1 : World.frozen? w1 ⟨(w.heap.size + 1), 1, none⟩ = false := blk_free E.out 1
    have Ec2 : World.cell? w1 ⟨(w.heap.size + 1), 2, none⟩ = some (.int .i64 0) := blk_cell E.out 2
    have Ef2 : World.frozen? w1 ⟨(w.heap.size + 1), 2, none⟩ = false := blk_free E.out 2
    have Ec3 : World.cell? w1 ⟨(w.heap.size + 1), 3, none⟩ = some (.int .i64 0) := blk_cell E.out 3
    have Ef3 : World.frozen? w1 ⟨(w.heap.size + 1), 3, none⟩ = false := blk_free E.out 3
    clear hc1 hf1
    go_wp2
    refine bodyPost_ret (v := .tuple #[.agg #[.int .i64 0, .int .i64 0, .int .i64 0, .int .i64 0], .bool false, .bool false]) (by simp [results, Try.results57, go_sem, Ec0, Ec1, Ec2, Ec3]) rfl ⟨rfl, ?_⟩
    repeat refine Below.setCell ?_ (by simp) _
    exact B1.out
set_option maxHeartbeats 400000 in
theorem takeS_over (r s l t n c : Int) (w : World) (h : tkB r s l t n c = true) (hc : lv r s l t n < c) :
    Calls Try.prog 57 #[.agg #[.int .i64 r, .int .i64 s, .int .i64 l, .int .i64 t], .int .i64 n, .int .i64 c] w fun e w' => e = .returned (.tuple #[.agg #[.int .i64 r, .int .i64 s, .int .i64 (lv r s l t n), .int .i64 n], .bool false, .bool true]) ∧ Below w.heap.size w w' := by
    obtain ⟨h, h0⟩ := tk_of h
    have lb := lv_bd h
    go_enter Try.func57, Try.ntmps57
    go_wp2_with fail
    refine (rightS_any r s l t n _).mono ?_
    rintro e w1 ⟨rfl, hb⟩
    obtain ⟨hc1, hf1⟩ := bcell hb
    have B1 := Lib.hid (show Below w.heap.size w w1 from (by first | exact below_seq (Below.refl w.heap.size w) hb | exact below_seq1 (Below.refl w.heap.size w) hb | exact below_seq2 (Below.refl w.heap.size w) hb | exact below_seq3 (Below.refl w.heap.size w) hb | exact below_seq4 (Below.refl w.heap.size w) hb))
    have R1 := Lib.hid hb
    have hz1 := hb.size
    try simp at hz1
    clear hb
    rw [h]
    have D := Lib.hid (show Blk w1 (w.heap.size) 62 #[.int .i64 r, .int .i64 s, .int .i64 l, .int .i64 t] from (blk_below (blk_alloc (blk_new w 62 #[.int .i64 r, .int .i64 s, .int .i64 l, .int .i64 t]) _) R1.out (by simp <;> omega)))
    have Dc0 : World.cell? w1 ⟨w.heap.size, 0, none⟩ = some (.int .i64 r) := blk_cell D.out 0
    have Df0 : World.frozen? w1 ⟨w.heap.size, 0, none⟩ = false := blk_free D.out 0
    have Dc1 : World.cell? w1 ⟨w.heap.size, 1, none⟩ = some (.int .i64 s) := blk_cell D.out 1
    have Df1 : World.frozen? w1 ⟨w.heap.size, 1, none⟩ = false := blk_free D.out 1
    have Dc2 : World.cell? w1 ⟨w.heap.size, 2, none⟩ = some (.int .i64 l) := blk_cell D.out 2
    have Df2 : World.frozen? w1 ⟨w.heap.size, 2, none⟩ = false := blk_free D.out 2
    have Dc3 : World.cell? w1 ⟨w.heap.size, 3, none⟩ = some (.int .i64 t) := blk_cell D.out 3
    have Df3 : World.frozen? w1 ⟨w.heap.size, 3, none⟩ = false := blk_free D.out 3
    have E := Lib.hid (show Blk w1 ((w.heap.size + 1)) 62 #[.int .i64 0, .int .i64 0, .int .i64 0, .int .i64 0] from (blk_below (blk_new2 w _ 62 #[.int .i64 0, .int .i64 0, .int .i64 0, .int .i64 0]) R1.out (by simp <;> omega)))
    have Ec0 : World.cell? w1 ⟨(w.heap.size + 1), 0, none⟩ = some (.int .i64 0) := blk_cell E.out 0
    have Ef0 : World.frozen? w1 ⟨(w.heap.size + 1), 0, none⟩ = false := blk_free E.out 0
    have Ec1 : World.cell? w1 ⟨(w.heap.size + 1), 1, none⟩ = some (.int .i64 0) := blk_cell E.out 1
    have Ef1 : World.frozen? w1 ⟨(w.heap.size + 1), 1, none⟩ = false := blk_free E.out 1
    have Ec2 : World.cell? w1 ⟨(w.heap.size + 1), 2, none⟩ = some (.int .i64 0) := blk_cell E.out 2
    have Ef2 : World.frozen? w1 ⟨(w.heap.size + 1), 2, none⟩ = false := blk_free E.out 2
    have Ec3 : World.cell? w1 ⟨(w.heap.size + 1), 3, none⟩ = some (.int .i64 0) := blk_cell E.out 3
    have Ef3 : World.frozen? w1 ⟨(w.heap.size + 1), 3, none⟩ = false := blk_free E.out 3
    clear hc1 hf1
    go_wp2_with fail
    refine (levelS_any r s l t n _ h).mono ?_
    rintro e w2 ⟨rfl, hb⟩
    obtain ⟨hc2, hf2⟩ := bcell hb
    have B2 := Lib.hid (show Below w.heap.size w w2 from (by first | exact below_seq B1.out hb | exact below_seq1 B1.out hb | exact below_seq2 B1.out hb | exact below_seq3 B1.out hb | exact below_seq4 B1.out hb))
    have R2 := Lib.hid hb
    have hz2 := hb.size
    try simp at hz2
    clear hb
    have D2 := Lib.hid (show Blk w2 (w.heap.size) 62 #[.int .i64 r, .int .i64 s, .int .i64 l, .int .i64 t] from (blk_below D.out R2.out (by omega)))
    have D2c0 : World.cell? w2 ⟨w.heap.size, 0, none⟩ = some (.int .i64 r) := blk_cell D2.out 0
    have D2f0 : World.frozen? w2 ⟨w.heap.size, 0, none⟩ = false := blk_free D2.out 0
    have D2c1 : World.cell? w2 ⟨w.heap.size, 1, none⟩ = some (.int .i64 s) := blk_cell D2.out 1
    have D2f1 : World.frozen? w2 ⟨w.heap.size, 1, none⟩ = false := blk_free D2.out 1
    have D2c2 : World.cell? w2 ⟨w.heap.size, 2, none⟩ = some (.int .i64 l) := blk_cell D2.out 2
    have D2f2 : World.frozen? w2 ⟨w.heap.size, 2, none⟩ = false := blk_free D2.out 2
    have D2c3 : World.cell? w2 ⟨w.heap.size, 3, none⟩ = some (.int .i64 t) := blk_cell D2.out 3
    have D2f3 : World.frozen? w2 ⟨w.heap.size, 3, none⟩ = false := blk_free D2.out 3
    have E2 := Lib.hid (show Blk w2 ((w.heap.size + 1)) 62 #[.int .i64 0, .int .i64 0, .int .i64 0, .int .i64 0] from (blk_below E.out R2.out (by omega)))
    have E2c0 : World.cell? w2 ⟨(w.heap.size + 1), 0, none⟩ = some (.int .i64 0) := blk_cell E2.out 0
    have E2f0 : World.frozen? w2 ⟨(w.heap.size + 1), 0, none⟩ = false := blk_free E2.out 0
    have E2c1 : World.cell? w2 ⟨(w.heap.size + 1), 1, none⟩ = some (.int .i64 0) := blk_cell E2.out 1
    have E2f1 : World.frozen? w2 ⟨(w.heap.size + 1), 1, none⟩ = false := blk_free E2.out 1
    have E2c2 : World.cell? w2 ⟨(w.heap.size + 1), 2, none⟩ = some (.int .i64 0) := blk_cell E2.out 2
    have E2f2 : World.frozen? w2 ⟨(w.heap.size + 1), 2, none⟩ = false := blk_free E2.out 2
    have E2c3 : World.cell? w2 ⟨(w.heap.size + 1), 3, none⟩ = some (.int .i64 0) := blk_cell E2.out 3
    have E2f3 : World.frozen? w2 ⟨(w.heap.size + 1), 3, none⟩ = false := blk_free E2.out 3
    clear hc2 hf2
    go_wp2
    refine bodyPost_ret (v := .tuple #[.agg #[.int .i64 r, .int .i64 s, .int .i64 (lv r s l t n), .int .i64 n], .bool false, .bool true]) (by simp [results, Try.results57, go_sem, E2c0, E2c1, E2c2, E2c3]) rfl ⟨rfl, ?_⟩
    repeat refine Below.setCell ?_ (by simp) _
    exact B2.out
set_option maxHeartbeats 400000 in
theorem takeS_yes (r s l t n c : Int) (w : World) (h : tkB r s l t n c = true) (hc : c ≤ lv r s l t n) :
    Calls Try.prog 57 #[.agg #[.int .i64 r, .int .i64 s, .int .i64 l, .int .i64 t], .int .i64 n, .int .i64 c] w fun e w' => e = .returned (.tuple #[.agg #[.int .i64 r, .int .i64 s, .int .i64 (lv r s l t n - c), .int .i64 n], .bool true, .bool true]) ∧ Below w.heap.size w w' := by
    obtain ⟨h, h0⟩ := tk_of h
    have H := Lib.hid h
    have l1 := lv_bd h
    have a0 := rt_of h
    obtain ⟨V, hV⟩ : ∃ V, V = lv r s l t n := ⟨_, rfl⟩
    rw [← hV] at hc l1 ⊢
    have HV := Lib.hid hV
    have x0 : 0 ≤ V - c := by omega
    have x1 : V - c ≤ 10000 := by omega
    have x2 : V ≤ 10000 := by omega
    clear l1 a0 hV h
    go_enter Try.func57, Try.ntmps57
    go_wp2_with fail
    refine (rightS_any r s l t n _).mono ?_
    rintro e w1 ⟨rfl, hb⟩
    obtain ⟨hc1, hf1⟩ := bcell hb
    have B1 := Lib.hid (show Below w.heap.size w w1 from (by first | exact below_seq (Below.refl w.heap.size w) hb | exact below_seq1 (Below.refl w.heap.size w) hb | exact below_seq2 (Below.refl w.heap.size w) hb | exact below_seq3 (Below.refl w.heap.size w) hb | exact below_seq4 (Below.refl w.heap.size w) hb))
    have R1 := Lib.hid hb
    have hz1 := hb.size
    try simp at hz1
    clear hb
    rw [H.out]
    have D := Lib.hid (show Blk w1 (w.heap.size) 62 #[.int .i64 r, .int .i64 s, .int .i64 l, .int .i64 t] from (blk_below (blk_alloc (blk_new w 62 #[.int .i64 r, .int .i64 s, .int .i64 l, .int .i64 t]) _) R1.out (by simp <;> omega)))
    have Dc0 : World.cell? w1 ⟨w.heap.size, 0, none⟩ = some (.int .i64 r) := blk_cell D.out 0
    have Df0 : World.frozen? w1 ⟨w.heap.size, 0, none⟩ = false := blk_free D.out 0
    have Dc1 : World.cell? w1 ⟨w.heap.size, 1, none⟩ = some (.int .i64 s) := blk_cell D.out 1
    have Df1 : World.frozen? w1 ⟨w.heap.size, 1, none⟩ = false := blk_free D.out 1
    have Dc2 : World.cell? w1 ⟨w.heap.size, 2, none⟩ = some (.int .i64 l) := blk_cell D.out 2
    have Df2 : World.frozen? w1 ⟨w.heap.size, 2, none⟩ = false := blk_free D.out 2
    have Dc3 : World.cell? w1 ⟨w.heap.size, 3, none⟩ = some (.int .i64 t) := blk_cell D.out 3
    have Df3 : World.frozen? w1 ⟨w.heap.size, 3, none⟩ = false := blk_free D.out 3
    have E := Lib.hid (show Blk w1 ((w.heap.size + 1)) 62 #[.int .i64 0, .int .i64 0, .int .i64 0, .int .i64 0] from (blk_below (blk_new2 w _ 62 #[.int .i64 0, .int .i64 0, .int .i64 0, .int .i64 0]) R1.out (by simp <;> omega)))
    have Ec0 : World.cell? w1 ⟨(w.heap.size + 1), 0, none⟩ = some (.int .i64 0) := blk_cell E.out 0
    have Ef0 : World.frozen? w1 ⟨(w.heap.size + 1), 0, none⟩ = false := blk_free E.out 0
    have Ec1 : World.cell? w1 ⟨(w.heap.size + 1), 1, none⟩ = some (.int .i64 0) := blk_cell E.out 1
    have Ef1 : World.frozen? w1 ⟨(w.heap.size + 1), 1, none⟩ = false := blk_free E.out 1
    have Ec2 : World.cell? w1 ⟨(w.heap.size + 1), 2, none⟩ = some (.int .i64 0) := blk_cell E.out 2
    have Ef2 : World.frozen? w1 ⟨(w.heap.size + 1), 2, none⟩ = false := blk_free E.out 2
    have Ec3 : World.cell? w1 ⟨(w.heap.size + 1), 3, none⟩ = some (.int .i64 0) := blk_cell E.out 3
    have Ef3 : World.frozen? w1 ⟨(w.heap.size + 1), 3, none⟩ = false := blk_free E.out 3
    clear hc1 hf1
    go_wp2_with fail
    refine (levelS_any r s l t n _ H.out).mono ?_
    rintro e w2 ⟨rfl, hb⟩
    obtain ⟨hc2, hf2⟩ := bcell hb
    have B2 := Lib.hid (show Below w.heap.size w w2 from (by first | exact below_seq B1.out hb | exact below_seq1 B1.out hb | exact below_seq2 B1.out hb | exact below_seq3 B1.out hb | exact below_seq4 B1.out hb))
    have R2 := Lib.hid hb
    have hz2 := hb.size
    try simp at hz2
    clear hb
    rw [← HV.out]
    have D2 := Lib.hid (show Blk w2 (w.heap.size) 62 #[.int .i64 r, .int .i64 s, .int .i64 l, .int .i64 t] from (blk_below D.out R2.out (by omega)))
    have D2c0 : World.cell? w2 ⟨w.heap.size, 0, none⟩ = some (.int .i64 r) := blk_cell D2.out 0
    have D2f0 : World.frozen? w2 ⟨w.heap.size, 0, none⟩ = false := blk_free D2.out 0
    have D2c1 : World.cell? w2 ⟨w.heap.size, 1, none⟩ = some (.int .i64 s) := blk_cell D2.out 1
    have D2f1 : World.frozen? w2 ⟨w.heap.size, 1, none⟩ = false := blk_free D2.out 1
    have D2c2 : World.cell? w2 ⟨w.heap.size, 2, none⟩ = some (.int .i64 l) := blk_cell D2.out 2
    have D2f2 : World.frozen? w2 ⟨w.heap.size, 2, none⟩ = false := blk_free D2.out 2
    have D2c3 : World.cell? w2 ⟨w.heap.size, 3, none⟩ = some (.int .i64 t) := blk_cell D2.out 3
    have D2f3 : World.frozen? w2 ⟨w.heap.size, 3, none⟩ = false := blk_free D2.out 3
    have E2 := Lib.hid (show Blk w2 ((w.heap.size + 1)) 62 #[.int .i64 0, .int .i64 0, .int .i64 0, .int .i64 0] from (blk_below E.out R2.out (by omega)))
    have E2c0 : World.cell? w2 ⟨(w.heap.size + 1), 0, none⟩ = some (.int .i64 0) := blk_cell E2.out 0
    have E2f0 : World.frozen? w2 ⟨(w.heap.size + 1), 0, none⟩ = false := blk_free E2.out 0
    have E2c1 : World.cell? w2 ⟨(w.heap.size + 1), 1, none⟩ = some (.int .i64 0) := blk_cell E2.out 1
    have E2f1 : World.frozen? w2 ⟨(w.heap.size + 1), 1, none⟩ = false := blk_free E2.out 1
    have E2c2 : World.cell? w2 ⟨(w.heap.size + 1), 2, none⟩ = some (.int .i64 0) := blk_cell E2.out 2
    have E2f2 : World.frozen? w2 ⟨(w.heap.size + 1), 2, none⟩ = false := blk_free E2.out 2
    have E2c3 : World.cell? w2 ⟨(w.heap.size + 1), 3, none⟩ = some (.int .i64 0) := blk_cell E2.out 3
    have E2f3 : World.frozen? w2 ⟨(w.heap.size + 1), 3, none⟩ = false := blk_free E2.out 3
    clear hc2 hf2
    go_upto_region 5 with (fail)
    have B3 := Lib.hid (show Below w.heap.size w (World.setCell (World.setCell w2 ⟨w.heap.size, 2, none⟩ (.int .i64 V)) ⟨w.heap.size, 3, none⟩ (.int .i64 n)) from Below.setCell (Below.setCell (B2.out) (by simp) _) (by simp) _)
    have D2' := Lib.hid (show Blk (World.setCell (World.setCell w2 ⟨w.heap.size, 2, none⟩ (.int .i64 V)) ⟨w.heap.size, 3, none⟩ (.int .i64 n)) w.heap.size 62 #[.int .i64 r, .int .i64 s, .int .i64 V, .int .i64 n] from blk_set (blk_set (D2.out) 2 _) 3 _)
    have E2' := Lib.hid (show Blk (World.setCell (World.setCell w2 ⟨w.heap.size, 2, none⟩ (.int .i64 V)) ⟨w.heap.size, 3, none⟩ (.int .i64 n)) (w.heap.size + 1) 62 #[.int .i64 0, .int .i64 0, .int .i64 0, .int .i64 0] from blk_far (blk_far (E2.out) (by simp <;> omega) _) (by simp <;> omega) _)
    have z3 : (World.heap (World.setCell (World.setCell w2 ⟨w.heap.size, 2, none⟩ (.int .i64 V)) ⟨w.heap.size, 3, none⟩ (.int .i64 n))).size = (World.heap w2).size := by simp
    generalize (World.setCell (World.setCell w2 ⟨w.heap.size, 2, none⟩ (.int .i64 V)) ⟨w.heap.size, 3, none⟩ (.int .i64 n)) = w3 at B3 z3 D2' E2' ⊢
    clear D2c0 D2f0 D2c1 D2f1 D2c2 D2f2 D2c3 D2f3
    have D2c0 : World.cell? w3 ⟨w.heap.size, 0, none⟩ = some (.int .i64 r) := blk_cell D2'.out 0
    have D2f0 : World.frozen? w3 ⟨w.heap.size, 0, none⟩ = false := blk_free D2'.out 0
    have D2c1 : World.cell? w3 ⟨w.heap.size, 1, none⟩ = some (.int .i64 s) := blk_cell D2'.out 1
    have D2f1 : World.frozen? w3 ⟨w.heap.size, 1, none⟩ = false := blk_free D2'.out 1
    have D2c2 : World.cell? w3 ⟨w.heap.size, 2, none⟩ = some (.int .i64 V) := blk_cell D2'.out 2
    have D2f2 : World.frozen? w3 ⟨w.heap.size, 2, none⟩ = false := blk_free D2'.out 2
    have D2c3 : World.cell? w3 ⟨w.heap.size, 3, none⟩ = some (.int .i64 n) := blk_cell D2'.out 3
    have D2f3 : World.frozen? w3 ⟨w.heap.size, 3, none⟩ = false := blk_free D2'.out 3
    clear E2c0 E2f0 E2c1 E2f1 E2c2 E2f2 E2c3 E2f3
    have E2c0 : World.cell? w3 ⟨(w.heap.size + 1), 0, none⟩ = some (.int .i64 0) := blk_cell E2'.out 0
    have E2f0 : World.frozen? w3 ⟨(w.heap.size + 1), 0, none⟩ = false := blk_free E2'.out 0
    have E2c1 : World.cell? w3 ⟨(w.heap.size + 1), 1, none⟩ = some (.int .i64 0) := blk_cell E2'.out 1
    have E2f1 : World.frozen? w3 ⟨(w.heap.size + 1), 1, none⟩ = false := blk_free E2'.out 1
    have E2c2 : World.cell? w3 ⟨(w.heap.size + 1), 2, none⟩ = some (.int .i64 0) := blk_cell E2'.out 2
    have E2f2 : World.frozen? w3 ⟨(w.heap.size + 1), 2, none⟩ = false := blk_free E2'.out 2
    have E2c3 : World.cell? w3 ⟨(w.heap.size + 1), 3, none⟩ = some (.int .i64 0) := blk_cell E2'.out 3
    have E2f3 : World.frozen? w3 ⟨(w.heap.size + 1), 3, none⟩ = false := blk_free E2'.out 3
    have hz3 : w2.heap.size ≤ w3.heap.size := Nat.le_of_eq z3.symm
    clear z3
    go_wp2
    refine bodyPost_ret (v := .tuple #[.agg #[.int .i64 r, .int .i64 s, .int .i64 (V - c), .int .i64 n], .bool true, .bool true]) (by simp [results, Try.results57, go_sem, E2c0, E2c1, E2c2, E2c3]) rfl ⟨rfl, ?_⟩
    repeat refine Below.setCell ?_ (by simp) _
    exact B3.out
end Go.Proofs.Ytclgmmnidkppmab
