/-
  The draw of a packet to be formatted. Conditions: none.
-/
import Derived.Test.YtlnbhbjibkgjgaaDoorDrawValid
namespace Go.Proofs.YtlnbhbjibkgjgaaDoor
open Go.RowKit
set_option maxRecDepth 100000 in
set_option maxHeartbeats 1000000 in
theorem drawFormatPacket_any (A : Option Addr) (n c : Nat) (w : World) (h : Bytes w A n c) :
    Calls Tryd.prog 10 #[.slice A n c] w (DrawnPkt w) := by
  go_enter Tryd.func10, Tryd.ntmps10
  go_wp2_with fail
  refine (drawPacketValid_any A n c _ (bytes_below h (below_alloc (Below.refl _ _) _))).mono ?_
  rintro e w1 ⟨p, rfl, hb⟩
  have E := Lib.hid (show Blk w1 (w.heap.size) 24 #[.int .i64 0, .int .i64 0, .int .i64 0, .int .i64 0] from (blk_below (blk_new w _ #[.int .i64 0, .int .i64 0, .int .i64 0, .int .i64 0]) hb (by simp)))
  have Ec0 : World.cell? w1 ⟨w.heap.size, 0, none⟩ = some (.int .i64 0) := blk_cell E.out 0
  have Ef0 : World.frozen? w1 ⟨w.heap.size, 0, none⟩ = false := blk_free E.out 0
  have Ec1 : World.cell? w1 ⟨w.heap.size, 1, none⟩ = some (.int .i64 0) := blk_cell E.out 1
  have Ef1 : World.frozen? w1 ⟨w.heap.size, 1, none⟩ = false := blk_free E.out 1
  have Ec2 : World.cell? w1 ⟨w.heap.size, 2, none⟩ = some (.int .i64 0) := blk_cell E.out 2
  have Ef2 : World.frozen? w1 ⟨w.heap.size, 2, none⟩ = false := blk_free E.out 2
  have Ec3 : World.cell? w1 ⟨w.heap.size, 3, none⟩ = some (.int .i64 0) := blk_cell E.out 3
  have Ef3 : World.frozen? w1 ⟨w.heap.size, 3, none⟩ = false := blk_free E.out 3
  have BW := Lib.hid (below_from (below_alloc (Below.refl _ _) _) hb (by simp))
  clear hb
  go_wp2
  refine bodyPost_ret (v := .agg #[.int .i64 p.peer, .int .i64 p.lane, .int .i64 p.size, .int .i64 p.id]) (by simp [results, Tryd.results10, go_sem, Ec0, Ec1, Ec2, Ec3]) rfl ⟨p, rfl, ?_⟩
  repeat refine Below.setCell ?_ (by simp) _
  exact BW.out
end Go.Proofs.YtlnbhbjibkgjgaaDoor
