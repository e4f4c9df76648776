/-
  The draw of a packet that may not be valid. Conditions: none.
-/
import Derived.Test.YtlnbhbjibkgjgaaDoorDrawPkt
namespace Go.Proofs.YtlnbhbjibkgjgaaDoor
open Go.RowKit
def DrawnPkt (w : World) (e : Ending) (w' : World) : Prop := ∃ p : Pkt, e = .returned (.agg #[.int .i64 p.peer, .int .i64 p.lane, .int .i64 p.size, .int .i64 p.id]) ∧ Below w.heap.size w w'
set_option maxRecDepth 100000 in
set_option maxHeartbeats 1000000 in
theorem drawPacketValid_any (A : Option Addr) (n c : Nat) (w : World) (h : Bytes w A n c) :
    Calls Tryd.prog 34 #[.slice A n c] w (DrawnPkt w) := by
  go_enter Tryd.func34, Tryd.ntmps34
  go_wp2_with fail
  refine (open_any A n c _ (bytes_below h (below_alloc (Below.refl _ _) _))).mono ?_
  rintro e w1 ⟨g, rfl, hg, hb, hr⟩
  have hg1 := rd_lt hr
  have HB := Lib.hid hb
  clear hb
  go_wp2_with fail
  refine (l1Draw_any g 0 _ hr (by omega)).mono ?_
  rintro e w2 ⟨p, rfl, hp, hgr2, hr2⟩
  have G2 := Lib.hid hgr2
  clear hp hgr2 hr
  go_wp2_with fail
  refine (l1Wrong_any g _ p _ hr2 (by omega)).mono ?_
  rintro e w3 ⟨p3, rfl, hp3, hgr3, hr3⟩
  have G3 := Lib.hid (G2.out.trans hgr3)
  clear hp3 hgr3 hr2
  go_wp2_with fail
  refine (l1Wrong_any g _ p3 _ hr3 (by omega)).mono ?_
  rintro e w4 ⟨p4, rfl, hp4, hgr4, hr4⟩
  have G4 := Lib.hid (G3.out.trans hgr4)
  clear hp4 hgr4 hr3
  have hne : w.heap.size < g := by simp at hg; omega
  have HK := Lib.hid (blk_grown (blk_below (blk_new w 24 #[.int .i64 0, .int .i64 0, .int .i64 0, .int .i64 0]) HB.out (by simp)) G4.out (by omega))
  have BW := Lib.hid (below_grown (below_from (below_alloc (Below.refl w.heap.size w) (.cells #[.int .i64 0, .int .i64 0, .int .i64 0, .int .i64 0] 24)) HB.out (by simp)) (by have := HB.out.size; simp at this; omega) G4.out (by omega))
  have r0 : w4.cell? ⟨w.heap.size, 0, none⟩ = some (.int .i64 0) := blk_cell HK.out 0
  have r1 : w4.cell? ⟨w.heap.size, 1, none⟩ = some (.int .i64 0) := blk_cell HK.out 1
  have r2 : w4.cell? ⟨w.heap.size, 2, none⟩ = some (.int .i64 0) := blk_cell HK.out 2
  have r3 : w4.cell? ⟨w.heap.size, 3, none⟩ = some (.int .i64 0) := blk_cell HK.out 3
  have g0 := blk_free HK.out 0
  have g1 := blk_free HK.out 1
  have g2 := blk_free HK.out 2
  have g3 := blk_free HK.out 3
  clear hr4 hg1 hne hg
  go_wp2
  refine bodyPost_ret (v := .agg #[.int .i64 p4.peer, .int .i64 p4.lane, .int .i64 p4.size, .int .i64 p4.id]) (by simp [results, Tryd.results34, go_sem, r0, r1, r2, r3]) rfl ⟨p4, rfl, ?_⟩
  exact (((BW.out.setCell (Nat.le_refl _) _).setCell (Nat.le_refl _) _).setCell (Nat.le_refl _) _).setCell (Nat.le_refl _) _
end Go.Proofs.YtlnbhbjibkgjgaaDoor
