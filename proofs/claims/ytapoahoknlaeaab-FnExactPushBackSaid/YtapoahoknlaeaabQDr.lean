/-
  The draws of queues: the laws' own draws. Conditions: none.
-/
import Derived.Test.YtapoahoknlaeaabQD
namespace Go.Proofs.Ytapoahoknlaeaab
open Go.RowKit

def DrawnQ (w : World) (e : Ending) (w' : World) : Prop :=
  ∃ lim A n c ps, e = .returned (.agg #[.int .i64 lim, (.slice A n c)]) ∧ n ≤ 67 ∧ w'.ownsRow w.heap.size 51 4 (.slice A n c) n (pcells ps) ∧ Below w.heap.size w w'
def DrawnQi (w : World) (e : Ending) (w' : World) : Prop :=
  ∃ lim A n c ps, ∃ x : Int, e = .returned (.tuple #[.agg #[.int .i64 lim, (.slice A n c)], .int .i64 x]) ∧ n ≤ 67 ∧ (-1 ≤ x ∧ x ≤ 1000) ∧ w'.ownsRow w.heap.size 51 4 (.slice A n c) n (pcells ps) ∧ Below w.heap.size w w'
def DrawnQp (w : World) (e : Ending) (w' : World) : Prop :=
  ∃ lim A n c ps, ∃ p : Pkt, e = .returned (.tuple #[.agg #[.int .i64 lim, (.slice A n c)], .agg #[.int .i64 p.peer, .int .i64 p.lane, .int .i64 p.size, .int .i64 p.id]]) ∧ n ≤ 67 ∧ w'.ownsRow w.heap.size 51 4 (.slice A n c) n (pcells ps) ∧ Below w.heap.size w w'
theorem blk_fourD {w : World} {b : Nat} {t : TypeId} {x y z u : Value} (h : Blk w b t #[x, y, z, u]) : (w.cell? ⟨b, 0, none⟩ = some x ∧ w.cell? ⟨b, 1, none⟩ = some y ∧ w.cell? ⟨b, 2, none⟩ = some z ∧ w.cell? ⟨b, 3, none⟩ = some u) ∧ w.frozen? ⟨b, 0, none⟩ = false ∧ w.frozen? ⟨b, 1, none⟩ = false ∧ w.frozen? ⟨b, 2, none⟩ = false ∧ w.frozen? ⟨b, 3, none⟩ = false :=
  ⟨⟨blk_cell h 0, blk_cell h 1, blk_cell h 2, blk_cell h 3⟩, blk_free h 0, blk_free h 1, blk_free h 2, blk_free h 3⟩
set_option maxHeartbeats 1000000 in
theorem l3Case_any (A : Option Addr) (n c : Nat) (w : World) (h : Bytes w A n c) :
    Calls Try.prog 45 #[.slice A n c] w (DrawnQ w) := by
  go_enter Try.func45, Try.ntmps45
  go_wp2_with fail
  refine (open_any A n c _ (bytes_below h (below_alloc (Below.refl _ _) _))).mono ?_
  rintro e w1 ⟨g, rfl, hg, hb, hr⟩
  have O1 := Lib.hid (blk_below (blk_new w 25 #[.int .i64 0, (.slice none 0 0)]) hb (by simp))
  have B1 := Lib.hid (below_from (below_alloc (Below.refl w.heap.size w) (.cells #[.int .i64 0, (.slice none 0 0)] 25)) hb (by simp))
  have hz1 := hb.size
  simp at hz1 hg
  have HR := Lib.hid hr
  clear hb hr h
  go_wp2_with fail
  refine (l3Draw_any g 0 _ HR.out (by omega)).mono ?_
  rintro e w2 ⟨lim, A2, n2, c2, ps, rfl, -, hn2, ho2, hg2, hr2⟩
  have O2 := Lib.hid (blk_grown O1.out hg2 (by omega))
  have B2 := Lib.hid (below_grown B1.out (by omega) hg2 (by omega))
  have hz2 := hg2.size
  have HR2 := Lib.hid hr2
  have HP2 := Lib.hid (pr_own ho2)
  clear ho2 hg2 hr2 HR O1 B1
  go_wp2_with fail
  refine (l3Wrong_any g _ lim A2 n2 c2 ps _ HR2.out (by omega) HP2.out (by omega)).mono ?_
  rintro e w3 ⟨lim3, A3, n3, c3, ps3, rfl, hn3, ho3, hg3, -⟩
  obtain ⟨o0, o1, f0, f1⟩ := blk_two (blk_grown O2.out hg3 (by omega))
  have B3 := Lib.hid (below_grown B2.out (by omega) hg3 (by omega))
  have HO3 := Lib.hid ho3
  clear ho3 hg3 O2 B2
  go_wp2
  refine bodyPost_ret (v := .agg #[.int .i64 lim3, (.slice A3 n3 c3)]) (by simp [results, Try.results45, go_sem, o0, o1]) rfl ⟨lim3, A3, n3, c3, ps3, rfl, by omega, ?_, ?_⟩
  · exact own_mono (own_set_far (own_set_far HO3.out (by simp; omega) _) (by simp; omega) _) (by omega)
  · exact Below.setCell (Below.setCell B3.out (by simp) _) (by simp) _
set_option maxHeartbeats 400000 in
theorem drawRoomOf_any (A : Option Addr) (n c : Nat) (w : World) (h : Bytes w A n c) :
    Calls Try.prog 24 #[.slice A n c] w (DrawnQ w) := by
  go_enter Try.func24, Try.ntmps24
  go_wp2_with fail
  refine (l3Case_any A n c _ (bytes_below h (below_alloc (Below.refl _ _) _))).mono ?_
  rintro e w1 ⟨lim, A1, n1, c1, ps, rfl, hn1, ho, hb⟩
  obtain ⟨o0, o1, f0, f1⟩ := blk_two (blk_below (blk_new w 25 #[.int .i64 0, (.slice none 0 0)]) hb (by simp))
  have HO := Lib.hid ho
  have BW := Lib.hid (below_from (below_alloc (Below.refl w.heap.size w) _) hb (by simp))
  clear ho hb
  go_wp2
  refine bodyPost_ret (v := .agg #[.int .i64 lim, (.slice A1 n1 c1)]) (by simp [results, Try.results24, go_sem, o0, o1]) rfl ⟨lim, A1, n1, c1, ps, rfl, hn1, ?_, ?_⟩
  · exact own_mono (own_set_far (own_set_far HO.out (by simp) _) (by simp) _) (by simp)
  · exact Below.setCell (Below.setCell BW.out (by simp) _) (by simp) _
set_option maxHeartbeats 400000 in
theorem drawHeaviestPeer_any (A : Option Addr) (n c : Nat) (w : World) (h : Bytes w A n c) :
    Calls Try.prog 21 #[.slice A n c] w (DrawnQ w) := by
  go_enter Try.func21, Try.ntmps21
  go_wp2_with fail
  refine (l3Case_any A n c _ (bytes_below h (below_alloc (Below.refl _ _) _))).mono ?_
  rintro e w1 ⟨lim, A1, n1, c1, ps, rfl, hn1, ho, hb⟩
  obtain ⟨o0, o1, f0, f1⟩ := blk_two (blk_below (blk_new w 25 #[.int .i64 0, (.slice none 0 0)]) hb (by simp))
  have HO := Lib.hid ho
  have BW := Lib.hid (below_from (below_alloc (Below.refl w.heap.size w) _) hb (by simp))
  clear ho hb
  go_wp2
  refine bodyPost_ret (v := .agg #[.int .i64 lim, (.slice A1 n1 c1)]) (by simp [results, Try.results21, go_sem, o0, o1]) rfl ⟨lim, A1, n1, c1, ps, rfl, hn1, ?_, ?_⟩
  · exact own_mono (own_set_far (own_set_far HO.out (by simp) _) (by simp) _) (by simp)
  · exact Below.setCell (Below.setCell BW.out (by simp) _) (by simp) _
set_option maxHeartbeats 1000000 in
theorem drawDropPeer_any (A : Option Addr) (n c : Nat) (w : World) (h : Bytes w A n c) :
    Calls Try.prog 14 #[.slice A n c] w (DrawnQi w) := by
  go_enter Try.func14, Try.ntmps14
  go_wp2_with fail
  have hy := bytes_below h (below_alloc (Below.refl _ _) (.cells #[.int .i64 0, (.slice none 0 0)] 25))
  refine (l3Case_any A n c _ hy).mono ?_
  rintro e w1 ⟨lim, A1, n1, c1, ps, rfl, hn1, ho, hb⟩
  have O1 := Lib.hid (blk_below (blk_new w 25 #[.int .i64 0, (.slice none 0 0)]) hb (by simp))
  have hz1 := hb.size
  simp at hz1
  have HO := Lib.hid ho
  have BW := Lib.hid (below_from (below_alloc (Below.refl w.heap.size w) _) hb (by simp))
  have hy1 := Lib.hid (bytes_below hy hb)
  clear ho hb hy h
  go_wp2_with fail
  refine (open_any A n c _ hy1.out).mono ?_
  rintro e w2 ⟨g, rfl, hg, hb2, hr2⟩
  have O2 := Lib.hid (blk_below O1.out hb2 (by omega))
  have HO2 := Lib.hid (own_below HO.out hb2)
  have B2 := Lib.hid (below_seq BW.out hb2)
  have hz2 := hb2.size
  have hne := Lib.hid (show Value.ownBlock (.slice A1 n1 c1) ≠ some g from fun e => by have := (HO.out.lt _ e).2; omega)
  have hr2' := Lib.hid hr2
  clear hb2 O1 HO BW hy1 hr2
  go_wp2_with fail
  refine (num_lit g 0 _ 6 _ _ [0, 1, 2, 3, 7, 8] _ hr2'.out (by omega) (by simp) (by decide) rfl).mono ?_
  rintro e w3 ⟨x, hx, rfl, hg3, hr3⟩
  obtain ⟨o0, o1, f0, f1⟩ := blk_two (blk_grown O2.out hg3 (by omega))
  have HO3 := Lib.hid (HO2.out.kept hg3 (.inr (fun e => hne.out e)))
  have B3 := Lib.hid (below_grown B2.out B2.out.size hg3 (by omega))
  have HX := Lib.hid hx
  clear hg3 hr3 hx hr2'
  go_wp2
  refine bodyPost_ret (v := .tuple #[.agg #[.int .i64 lim, (.slice A1 n1 c1)], .int .i64 x]) (by simp [results, Try.results14, go_sem, o0, o1]) rfl ⟨lim, A1, n1, c1, ps, x, rfl, hn1, (by have := HX.out; simp only [List.mem_cons, List.not_mem_nil, or_false] at this; omega), ?_, ?_⟩
  · exact own_mono (own_set_far (own_set_far HO3.out (by simp) _) (by simp) _) (by simp)
  · exact Below.setCell (Below.setCell B3.out (by simp) _) (by simp) _
end Go.Proofs.Ytapoahoknlaeaab
