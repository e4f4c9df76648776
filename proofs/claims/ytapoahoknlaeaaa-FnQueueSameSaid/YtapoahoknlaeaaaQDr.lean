/-
  The draws of queues: the laws' own draws. Conditions: none.
-/
import Derived.Test.YtapoahoknlaeaaaQD
namespace Go.Proofs.Ytapoahoknlaeaaa
open Go.RowKit

def DrawnQ (w : World) (e : Ending) (w' : World) : Prop :=
  ∃ lim A n c ps, e = .returned (.agg #[.int .i64 lim, (.slice A n c)]) ∧ n ≤ 67 ∧ w'.ownsRow w.heap.size 27 4 (.slice A n c) n (pcells ps) ∧ Below w.heap.size w w'
def DrawnQi (w : World) (e : Ending) (w' : World) : Prop :=
  ∃ lim A n c ps, ∃ x : Int, e = .returned (.tuple #[.agg #[.int .i64 lim, (.slice A n c)], .int .i64 x]) ∧ n ≤ 67 ∧ (-1 ≤ x ∧ x ≤ 1000) ∧ w'.ownsRow w.heap.size 27 4 (.slice A n c) n (pcells ps) ∧ Below w.heap.size w w'
def DrawnQp (w : World) (e : Ending) (w' : World) : Prop :=
  ∃ lim A n c ps, ∃ p : Pkt, e = .returned (.tuple #[.agg #[.int .i64 lim, (.slice A n c)], .agg #[.int .i64 p.peer, .int .i64 p.lane, .int .i64 p.size, .int .i64 p.id]]) ∧ n ≤ 67 ∧ w'.ownsRow w.heap.size 27 4 (.slice A n c) n (pcells ps) ∧ Below w.heap.size w w'
theorem blk_fourD {w : World} {b : Nat} {t : TypeId} {x y z u : Value} (h : Blk w b t #[x, y, z, u]) : (w.cell? ⟨b, 0, none⟩ = some x ∧ w.cell? ⟨b, 1, none⟩ = some y ∧ w.cell? ⟨b, 2, none⟩ = some z ∧ w.cell? ⟨b, 3, none⟩ = some u) ∧ w.frozen? ⟨b, 0, none⟩ = false ∧ w.frozen? ⟨b, 1, none⟩ = false ∧ w.frozen? ⟨b, 2, none⟩ = false ∧ w.frozen? ⟨b, 3, none⟩ = false :=
  ⟨⟨blk_cell h 0, blk_cell h 1, blk_cell h 2, blk_cell h 3⟩, blk_free h 0, blk_free h 1, blk_free h 2, blk_free h 3⟩
set_option maxHeartbeats 1000000 in
theorem l3Case_any (A : Option Addr) (n c : Nat) (w : World) (h : Bytes w A n c) :
    Calls Try.prog 54 #[.slice A n c] w (DrawnQ w) := by
  go_enter Try.func54, Try.ntmps54
  go_wp2_with fail
  refine (open_any A n c _ (bytes_below h (below_alloc (Below.refl _ _) _))).mono ?_
  rintro e w1 ⟨g, rfl, hg, hb, hr⟩
  have O1 := Lib.hid (blk_below (blk_new w 25 #[.int .i64 0, (.slice none 0 0)]) hb (by simp))
  have B1 := Lib.hid (below_from (below_alloc (Below.refl w.heap.size w) (.cells #[.int .i64 0, (.slice none 0 0)] 25)) hb (by simp))
  have hz1 := hb.size
  simp at hz1 hg
  have HR := Lib.hid hr
  clear hb hr h
  go_wp2_with fail
  refine (l3Draw_any g 0 _ HR.out (by omega)).mono ?_
  rintro e w2 ⟨lim, A2, n2, c2, ps, rfl, -, hn2, ho2, hg2, hr2⟩
  have O2 := Lib.hid (blk_grown O1.out hg2 (by omega))
  have B2 := Lib.hid (below_grown B1.out (by omega) hg2 (by omega))
  have hz2 := hg2.size
  have HR2 := Lib.hid hr2
  have HP2 := Lib.hid (pr_own ho2)
  clear ho2 hg2 hr2 HR O1 B1
  go_wp2_with fail
  refine (l3Wrong_any g _ lim A2 n2 c2 ps _ HR2.out (by omega) HP2.out (by omega)).mono ?_
  rintro e w3 ⟨lim3, A3, n3, c3, ps3, rfl, hn3, ho3, hg3, -⟩
  obtain ⟨o0, o1, f0, f1⟩ := blk_two (blk_grown O2.out hg3 (by omega))
  have B3 := Lib.hid (below_grown B2.out (by omega) hg3 (by omega))
  have HO3 := Lib.hid ho3
  clear ho3 hg3 O2 B2
  go_wp2
  refine bodyPost_ret (v := .agg #[.int .i64 lim3, (.slice A3 n3 c3)]) (by simp [results, Try.results54, go_sem, o0, o1]) rfl ⟨lim3, A3, n3, c3, ps3, rfl, by omega, ?_, ?_⟩
  · exact own_mono (own_set_far (own_set_far HO3.out (by simp; omega) _) (by simp; omega) _) (by omega)
  · exact Below.setCell (Below.setCell B3.out (by simp) _) (by simp) _
set_option maxHeartbeats 400000 in
theorem drawPopFront_any (A : Option Addr) (n c : Nat) (w : World) (h : Bytes w A n c) :
    Calls Try.prog 22 #[.slice A n c] w (DrawnQ w) := by
  go_enter Try.func22, Try.ntmps22
  go_wp2_with fail
  refine (l3Case_any A n c _ (bytes_below h (below_alloc (Below.refl _ _) _))).mono ?_
  rintro e w1 ⟨lim, A1, n1, c1, ps, rfl, hn1, ho, hb⟩
  obtain ⟨o0, o1, f0, f1⟩ := blk_two (blk_below (blk_new w 25 #[.int .i64 0, (.slice none 0 0)]) hb (by simp))
  have HO := Lib.hid ho
  have BW := Lib.hid (below_from (below_alloc (Below.refl w.heap.size w) _) hb (by simp))
  clear ho hb
  go_wp2
  refine bodyPost_ret (v := .agg #[.int .i64 lim, (.slice A1 n1 c1)]) (by simp [results, Try.results22, go_sem, o0, o1]) rfl ⟨lim, A1, n1, c1, ps, rfl, hn1, ?_, ?_⟩
  · exact own_mono (own_set_far (own_set_far HO.out (by simp) _) (by simp) _) (by simp)
  · exact Below.setCell (Below.setCell BW.out (by simp) _) (by simp) _
set_option maxHeartbeats 400000 in
theorem drawRoomOf_any (A : Option Addr) (n c : Nat) (w : World) (h : Bytes w A n c) :
    Calls Try.prog 25 #[.slice A n c] w (DrawnQ w) := by
  go_enter Try.func25, Try.ntmps25
  go_wp2_with fail
  refine (l3Case_any A n c _ (bytes_below h (below_alloc (Below.refl _ _) _))).mono ?_
  rintro e w1 ⟨lim, A1, n1, c1, ps, rfl, hn1, ho, hb⟩
  obtain ⟨o0, o1, f0, f1⟩ := blk_two (blk_below (blk_new w 25 #[.int .i64 0, (.slice none 0 0)]) hb (by simp))
  have HO := Lib.hid ho
  have BW := Lib.hid (below_from (below_alloc (Below.refl w.heap.size w) _) hb (by simp))
  clear ho hb
  go_wp2
  refine bodyPost_ret (v := .agg #[.int .i64 lim, (.slice A1 n1 c1)]) (by simp [results, Try.results25, go_sem, o0, o1]) rfl ⟨lim, A1, n1, c1, ps, rfl, hn1, ?_, ?_⟩
  · exact own_mono (own_set_far (own_set_far HO.out (by simp) _) (by simp) _) (by simp)
  · exact Below.setCell (Below.setCell BW.out (by simp) _) (by simp) _
set_option maxHeartbeats 400000 in
theorem drawHeaviestPeer_any (A : Option Addr) (n c : Nat) (w : World) (h : Bytes w A n c) :
    Calls Try.prog 30 #[.slice A n c] w (DrawnQ w) := by
  go_enter Try.func30, Try.ntmps30
  go_wp2_with fail
  refine (l3Case_any A n c _ (bytes_below h (below_alloc (Below.refl _ _) _))).mono ?_
  rintro e w1 ⟨lim, A1, n1, c1, ps, rfl, hn1, ho, hb⟩
  obtain ⟨o0, o1, f0, f1⟩ := blk_two (blk_below (blk_new w 25 #[.int .i64 0, (.slice none 0 0)]) hb (by simp))
  have HO := Lib.hid ho
  have BW := Lib.hid (below_from (below_alloc (Below.refl w.heap.size w) _) hb (by simp))
  clear ho hb
  go_wp2
  refine bodyPost_ret (v := .agg #[.int .i64 lim, (.slice A1 n1 c1)]) (by simp [results, Try.results30, go_sem, o0, o1]) rfl ⟨lim, A1, n1, c1, ps, rfl, hn1, ?_, ?_⟩
  · exact own_mono (own_set_far (own_set_far HO.out (by simp) _) (by simp) _) (by simp)
  · exact Below.setCell (Below.setCell BW.out (by simp) _) (by simp) _
set_option maxHeartbeats 1000000 in
theorem drawShedFor_any (A : Option Addr) (n c : Nat) (w : World) (h : Bytes w A n c) :
    Calls Try.prog 27 #[.slice A n c] w (DrawnQi w) := by
  go_enter Try.func27, Try.ntmps27
  go_wp2_with fail
  have hy := bytes_below h (below_alloc (Below.refl _ _) (.cells #[.int .i64 0, (.slice none 0 0)] 25))
  refine (l3Case_any A n c _ hy).mono ?_
  rintro e w1 ⟨lim, A1, n1, c1, ps, rfl, hn1, ho, hb⟩
  have O1 := Lib.hid (blk_below (blk_new w 25 #[.int .i64 0, (.slice none 0 0)]) hb (by simp))
  have hz1 := hb.size
  simp at hz1
  have HO := Lib.hid ho
  have BW := Lib.hid (below_from (below_alloc (Below.refl w.heap.size w) _) hb (by simp))
  have hy1 := Lib.hid (bytes_below hy hb)
  clear ho hb hy h
  go_wp2_with fail
  refine (open_any A n c _ hy1.out).mono ?_
  rintro e w2 ⟨g, rfl, hg, hb2, hr2⟩
  have O2 := Lib.hid (blk_below O1.out hb2 (by omega))
  have HO2 := Lib.hid (own_below HO.out hb2)
  have B2 := Lib.hid (below_seq BW.out hb2)
  have hz2 := hb2.size
  have hne := Lib.hid (show Value.ownBlock (.slice A1 n1 c1) ≠ some g from fun e => by have := (HO.out.lt _ e).2; omega)
  have hr2' := Lib.hid hr2
  clear hb2 O1 HO BW hy1 hr2
  go_wp2_with fail
  refine (num_lit g 0 _ 8 _ _ [30, 60, 100, 10, 0, 1, 1000, -1] _ hr2'.out (by omega) (by simp) (by decide) rfl).mono ?_
  rintro e w3 ⟨x, hx, rfl, hg3, hr3⟩
  obtain ⟨o0, o1, f0, f1⟩ := blk_two (blk_grown O2.out hg3 (by omega))
  have HO3 := Lib.hid (HO2.out.kept hg3 (.inr (fun e => hne.out e)))
  have B3 := Lib.hid (below_grown B2.out B2.out.size hg3 (by omega))
  have HX := Lib.hid hx
  clear hg3 hr3 hx hr2'
  go_wp2
  refine bodyPost_ret (v := .tuple #[.agg #[.int .i64 lim, (.slice A1 n1 c1)], .int .i64 x]) (by simp [results, Try.results27, go_sem, o0, o1]) rfl ⟨lim, A1, n1, c1, ps, x, rfl, hn1, (by have := HX.out; simp only [List.mem_cons, List.not_mem_nil, or_false] at this; omega), ?_, ?_⟩
  · exact own_mono (own_set_far (own_set_far HO3.out (by simp) _) (by simp) _) (by simp)
  · exact Below.setCell (Below.setCell B3.out (by simp) _) (by simp) _
set_option maxHeartbeats 1000000 in
theorem drawDropPeer_any (A : Option Addr) (n c : Nat) (w : World) (h : Bytes w A n c) :
    Calls Try.prog 35 #[.slice A n c] w (DrawnQi w) := by
  go_enter Try.func35, Try.ntmps35
  go_wp2_with fail
  have hy := bytes_below h (below_alloc (Below.refl _ _) (.cells #[.int .i64 0, (.slice none 0 0)] 25))
  refine (l3Case_any A n c _ hy).mono ?_
  rintro e w1 ⟨lim, A1, n1, c1, ps, rfl, hn1, ho, hb⟩
  have O1 := Lib.hid (blk_below (blk_new w 25 #[.int .i64 0, (.slice none 0 0)]) hb (by simp))
  have hz1 := hb.size
  simp at hz1
  have HO := Lib.hid ho
  have BW := Lib.hid (below_from (below_alloc (Below.refl w.heap.size w) _) hb (by simp))
  have hy1 := Lib.hid (bytes_below hy hb)
  clear ho hb hy h
  go_wp2_with fail
  refine (open_any A n c _ hy1.out).mono ?_
  rintro e w2 ⟨g, rfl, hg, hb2, hr2⟩
  have O2 := Lib.hid (blk_below O1.out hb2 (by omega))
  have HO2 := Lib.hid (own_below HO.out hb2)
  have B2 := Lib.hid (below_seq BW.out hb2)
  have hz2 := hb2.size
  have hne := Lib.hid (show Value.ownBlock (.slice A1 n1 c1) ≠ some g from fun e => by have := (HO.out.lt _ e).2; omega)
  have hr2' := Lib.hid hr2
  clear hb2 O1 HO BW hy1 hr2
  go_wp2_with fail
  refine (num_lit g 0 _ 6 _ _ [0, 1, 2, 3, 7, 8] _ hr2'.out (by omega) (by simp) (by decide) rfl).mono ?_
  rintro e w3 ⟨x, hx, rfl, hg3, hr3⟩
  obtain ⟨o0, o1, f0, f1⟩ := blk_two (blk_grown O2.out hg3 (by omega))
  have HO3 := Lib.hid (HO2.out.kept hg3 (.inr (fun e => hne.out e)))
  have B3 := Lib.hid (below_grown B2.out B2.out.size hg3 (by omega))
  have HX := Lib.hid hx
  clear hg3 hr3 hx hr2'
  go_wp2
  refine bodyPost_ret (v := .tuple #[.agg #[.int .i64 lim, (.slice A1 n1 c1)], .int .i64 x]) (by simp [results, Try.results35, go_sem, o0, o1]) rfl ⟨lim, A1, n1, c1, ps, x, rfl, hn1, (by have := HX.out; simp only [List.mem_cons, List.not_mem_nil, or_false] at this; omega), ?_, ?_⟩
  · exact own_mono (own_set_far (own_set_far HO3.out (by simp) _) (by simp) _) (by simp)
  · exact Below.setCell (Below.setCell B3.out (by simp) _) (by simp) _
set_option maxHeartbeats 1000000 in
theorem drawQueueValid_any (A : Option Addr) (n c : Nat) (w : World) (h : Bytes w A n c) :
    Calls Try.prog 40 #[.slice A n c] w (DrawnQ w) := by
  go_enter Try.func40, Try.ntmps40
  go_wp2_with fail
  refine (open_any A n c _ (bytes_below h (below_alloc (Below.refl _ _) _))).mono ?_
  rintro e w1 ⟨g, rfl, hg, hb, hr⟩
  have O1 := Lib.hid (blk_below (blk_new w 25 #[.int .i64 0, (.slice none 0 0)]) hb (by simp))
  have B1 := Lib.hid (below_from (below_alloc (Below.refl w.heap.size w) (.cells #[.int .i64 0, (.slice none 0 0)] 25)) hb (by simp))
  have hz1 := hb.size
  simp at hz1 hg
  have HR := Lib.hid hr
  clear hb hr h
  go_wp2_with fail
  refine (l3Draw_any g 0 _ HR.out (by omega)).mono ?_
  rintro e w2 ⟨lim, A2, n2, c2, ps, rfl, -, hn2, ho2, hg2, hr2⟩
  have O2 := Lib.hid (blk_grown O1.out hg2 (by omega))
  have B2 := Lib.hid (below_grown B1.out (by omega) hg2 (by omega))
  have hz2 := hg2.size
  have HR2 := Lib.hid hr2
  have HP2 := Lib.hid (pr_own ho2)
  clear ho2 hg2 hr2 HR O1 B1
  go_wp2_with fail
  refine (l3Wrong_any g _ lim A2 n2 c2 ps _ HR2.out (by omega) HP2.out (by omega)).mono ?_
  rintro e w3 ⟨lim3, A3, n3, c3, ps3, rfl, hn3, ho3, hg3, hr3⟩
  have O3 := Lib.hid (blk_grown O2.out hg3 (by omega))
  have B3 := Lib.hid (below_grown B2.out (by omega) hg3 (by omega))
  have hz3 := hg3.size
  have HR3 := Lib.hid hr3
  have HP3 := Lib.hid (pr_own ho3)
  clear ho3 hg3 hr3 HR2 O2 B2 HP2
  go_wp2_with fail
  refine (l3Wrong_any g _ lim3 A3 n3 c3 ps3 _ HR3.out (by omega) HP3.out (by omega)).mono ?_
  rintro e w4 ⟨lim4, A4, n4, c4, ps4, rfl, hn4, ho4, hg4, hr4⟩
  have O4 := Lib.hid (blk_grown O3.out hg4 (by omega))
  have B4 := Lib.hid (below_grown B3.out (by omega) hg4 (by omega))
  have hz4 := hg4.size
  have HR4 := Lib.hid hr4
  have HP4 := Lib.hid (pr_own ho4)
  clear ho4 hg4 hr4 HR3 O3 B3 HP3
  go_wp2_with fail
  refine (l3Wrong_any g _ lim4 A4 n4 c4 ps4 _ HR4.out (by omega) HP4.out (by omega)).mono ?_
  rintro e w5 ⟨lim5, A5, n5, c5, ps5, rfl, hn5, ho5, hg5, -⟩
  obtain ⟨o0, o1, f0, f1⟩ := blk_two (blk_grown O4.out hg5 (by omega))
  have B5 := Lib.hid (below_grown B4.out (by omega) hg5 (by omega))
  have HO5 := Lib.hid ho5
  clear ho5 hg5 O4 B4
  go_wp2
  refine bodyPost_ret (v := .agg #[.int .i64 lim5, (.slice A5 n5 c5)]) (by simp [results, Try.results40, go_sem, o0, o1]) rfl ⟨lim5, A5, n5, c5, ps5, rfl, by omega, ?_, ?_⟩
  · exact own_mono (own_set_far (own_set_far HO5.out (by simp; omega) _) (by simp; omega) _) (by omega)
  · exact Below.setCell (Below.setCell B5.out (by simp) _) (by simp) _
set_option maxHeartbeats 1000000 in
theorem drawPushBack_any (A : Option Addr) (n c : Nat) (w : World) (h : Bytes w A n c) :
    Calls Try.prog 15 #[.slice A n c] w (DrawnQp w) := by
  go_enter Try.func15, Try.ntmps15
  go_wp2_with fail
  refine (open_any A n c _ (bytes_below (bytes_below h (below_alloc (Below.refl _ _) _)) (below_alloc (Below.refl _ _) _))).mono ?_
  rintro e w1 ⟨g, rfl, hg, hb, hr⟩
  have O1 := Lib.hid (blk_below (blk_alloc (blk_new w 25 #[.int .i64 0, (.slice none 0 0)]) _) hb (by simp <;> omega))
  have P1 := Lib.hid (blk_below (blk_new2 w _ 27 #[.int .i64 0, .int .i64 0, .int .i64 0, .int .i64 0]) hb (by simp))
  have B1 := Lib.hid (below_from (below_alloc (below_alloc (Below.refl w.heap.size w) (.cells #[.int .i64 0, (.slice none 0 0)] 25)) (.cells #[.int .i64 0, .int .i64 0, .int .i64 0, .int .i64 0] 27)) hb (by simp <;> omega))
  have hz1 := hb.size
  simp at hz1 hg
  have HR := Lib.hid hr
  clear hb hr h
  go_wp2_with fail
  refine (l3Draw_any g 0 _ HR.out (by omega)).mono ?_
  rintro e w2 ⟨lim, A2, n2, c2, ps, rfl, -, hn2, ho2, hg2, hr2⟩
  have O2 := Lib.hid (blk_grown O1.out hg2 (by omega))
  have P2 := Lib.hid (blk_grown P1.out hg2 (by omega))
  have B2 := Lib.hid (below_grown B1.out (by omega) hg2 (by omega))
  have hz2 := hg2.size
  have HR2 := Lib.hid hr2
  have HP2 := Lib.hid (pr_own ho2)
  clear ho2 hg2 hr2 HR O1 B1 P1
  go_wp2_with fail
  refine (l3Wrong_any g _ lim A2 n2 c2 ps _ HR2.out (by omega) HP2.out (by omega)).mono ?_
  rintro e w3 ⟨lim3, A3, n3, c3, ps3, rfl, hn3, ho3, hg3, hr3⟩
  have O3 := Lib.hid (blk_grown O2.out hg3 (by omega))
  have P3 := Lib.hid (blk_grown P2.out hg3 (by omega))
  have B3 := Lib.hid (below_grown B2.out (by omega) hg3 (by omega))
  have hz3 := hg3.size
  have HR3 := Lib.hid hr3
  have HO3 := Lib.hid ho3
  have hg2' := rd_lt HR2.out
  clear ho3 hg3 hr3 HR2 O2 B2 HP2 P2
  go_wp2_with fail
  refine (l1Draw_any g _ _ HR3.out (by omega)).mono ?_
  rintro e w4 ⟨p, rfl, -, hg4, hr4⟩
  have O4 := Lib.hid (blk_grown O3.out hg4 (by omega))
  have P4 := Lib.hid (blk_grown P3.out hg4 (by omega))
  have B4 := Lib.hid (below_grown B3.out (by omega) hg4 (by omega))
  have HO4 := Lib.hid (own_far' HO3.out hg4 (by omega))
  have HR4 := Lib.hid hr4
  have hz4 := hg4.size
  clear hg4 hr4 HR3 O3 B3 P3 HO3
  go_wp2_with fail
  refine (l1Wrong_any g _ p _ HR4.out (by omega)).mono ?_
  rintro e w5 ⟨p5, rfl, -, hg5, -⟩
  obtain ⟨o0, o1, f0, f1⟩ := blk_two (blk_grown O4.out hg5 (by omega))
  obtain ⟨⟨k0, k1, k2, k3⟩, e0, e1, e2, e3⟩ := blk_fourD (blk_grown P4.out hg5 (by omega))
  have B5 := Lib.hid (below_grown B4.out (by omega) hg5 (by omega))
  have HO5 := Lib.hid (own_far' HO4.out hg5 (by omega))
  clear hg5 O4 B4 P4 HO4
  go_wp2
  refine bodyPost_ret (v := .tuple #[.agg #[.int .i64 lim3, (.slice A3 n3 c3)], .agg #[.int .i64 p5.peer, .int .i64 p5.lane, .int .i64 p5.size, .int .i64 p5.id]]) (by simp [results, Try.results15, go_sem, o0, o1, k0, k1, k2, k3]) rfl ⟨lim3, A3, n3, c3, ps3, p5, rfl, by omega, ?_, ?_⟩
  · refine own_mono (base := w2.heap.size) ?_ (by omega)
    iterate 6 (with_reducible refine own_set_far ?_ (by simp <;> omega) _)
    exact HO5.out
  · iterate 6 (with_reducible refine Below.setCell ?_ (by simp <;> omega) _)
    exact B5.out
end Go.Proofs.Ytapoahoknlaeaaa
