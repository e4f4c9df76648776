/-
  The law FnExactGuardValid returns true at every argument: the program's GuardValid answers as the model's and writes into no argument. Conditions: none.
-/
import Derived.Test.YtiodhdcgfdlknaaKb6v
import Derived.Test.YtiodhdcgfdlknaaKbvv
namespace Go.Proofs.Ytiodhdcgfdlknaa.fnExactGuardValid
open Go.ChangeShapes Go.WideShapes Go.ChangeAt Go.RowKit
theorem gcj {w : World} {b : Nat} {t : TypeId} {g : Gd} {h : Gh} (B : Blk w b t (gcs g h)) : (w.cell? ⟨b, 0, none⟩ = some (.int .i64 g.tm) ∧ w.cell? ⟨b, 1, none⟩ = some (.int .i64 g.all.peer) ∧ w.cell? ⟨b, 2, none⟩ = some (.int .i64 g.all.lane) ∧ w.cell? ⟨b, 3, none⟩ = some (.int .i64 g.all.size) ∧ w.cell? ⟨b, 4, none⟩ = some (.int .i64 g.all.id) ∧ w.cell? ⟨b, 5, none⟩ = some (.slice h.E h.ne h.ce) ∧ w.cell? ⟨b, 6, none⟩ = some (.int .i64 g.lim) ∧ w.cell? ⟨b, 7, none⟩ = some (.int .i64 g.ea) ∧ w.cell? ⟨b, 8, none⟩ = some (.slice h.U h.nu h.cu) ∧ w.cell? ⟨b, 9, none⟩ = some (.slice h.A h.n h.c) ∧ w.cell? ⟨b, 10, none⟩ = some (.slice h.B h.m h.d) ∧ w.cell? ⟨b, 11, none⟩ = some (.slice h.C h.o h.f) ∧ w.cell? ⟨b, 12, none⟩ = some (.slice h.S h.ns h.cs)) :=
  ⟨blk_cell B 0, blk_cell B 1, blk_cell B 2, blk_cell B 3, blk_cell B 4, blk_cell B 5, blk_cell B 6, blk_cell B 7, blk_cell B 8, blk_cell B 9, blk_cell B 10, blk_cell B 11, blk_cell B 12⟩
set_option maxRecDepth 100000 in
set_option maxHeartbeats 8000000 in
theorem walk (g : Gd) (h : Gh) (w : World) (G : GA w h g) :
    Calls Try.prog 5 #[.agg (gcs g h)] w fun e w' => e = .returned (.bool true) ∧ Below w.heap.size w w' := by
  have H := Lib.hid G
  have B0 := Lib.hid (below_alloc (Below.refl w.heap.size w) (.cells (gcs g h) 56))
  have A0 := Lib.hid (blk_new w 56 (gcs g h))
  clear G
  obtain ⟨q0, q1, q2, q3, q4, q5, q6, q7, q8, q9, q10, q11, q12⟩ := gc_blk (A0.out)
  by_cases hbig : gsz g ≤ 1048576
  · have hle : ¬ (1048576 : Int) < (gsz g : Int) := by omega
    have hd : decide ((1048576 : Int) - (gsz g : Int) < 0) = false := by simp; omega
    go_enter Try.func5, Try.ntmps5
    go_wp2_with fail
    refine (szGuard_any g h 1048576 _ (ga_below H.out B0.out) (by omega)).mono ?_
    rintro e w1 ⟨rfl, hb⟩
    rw [if_neg (by omega)]
    have B1 := Lib.hid (below_seq B0.out hb)
    have A1 := Lib.hid (blk_below A0.out hb (by simp))
    clear hb hle
    clear q0 q1 q2 q3 q4 q5 q6 q7 q8 q9 q10 q11 q12
    obtain ⟨q0, q1, q2, q3, q4, q5, q6, q7, q8, q9, q10, q11, q12⟩ := gc_blk (A1.out)
    go_wp2_with fail
    refine (toGuard_any g h _ (ga_below H.out B1.out) hbig).mono ?_
    rintro e w2 ⟨k2, i2, rfl, hD, hb⟩
    have X2 := Lib.hid (go_gr hD)
    have B2 := Lib.hid (below_seq B1.out hb)
    have A2 := Lib.hid (blk_below A1.out hb (blk_lt A1.out))
    clear hb hD
    clear q0 q1 q2 q3 q4 q5 q6 q7 q8 q9 q10 q11 q12
    go_wp2_with fail
    refine (gvS_any g k2 _ X2.out).mono ?_
    rintro e w3 ⟨rfl, hb⟩
    have B3 := Lib.hid (below_seq B2.out hb)
    have A3 := Lib.hid (blk_below A2.out hb (blk_lt A2.out))
    clear hb X2 A2
    obtain ⟨q0, q1, q2, q3, q4, q5, q6, q7, q8, q9, q10, q11, q12⟩ := gc_blk (A3.out)
    go_wp2_with fail
    refine (toGuard_any g h _ (ga_below H.out B3.out) hbig).mono ?_
    rintro e w4 ⟨k4, i4, rfl, hD, hb⟩
    unfold gcs
    have X4 := Lib.hid (gr_alloc (go_gr hD) (.cells (gcs g k4) 41))
    have B4 := Lib.hid (below_alloc (below_seq B3.out hb) (.cells (gcs g k4) 41))
    have A4 := Lib.hid (blk_alloc (blk_below A3.out hb (blk_lt A3.out)) (.cells (gcs g k4) 41))
    have Y4 := Lib.hid (blk_new w4 41 (gcs g k4))
    clear hb hD
    clear q0 q1 q2 q3 q4 q5 q6 q7 q8 q9 q10 q11 q12
    go_wp2_with fail
    refine (gvI_any g k4 _ X4.out).mono ?_
    rintro e w5 ⟨rfl, hb⟩
    have X5 := Lib.hid (gr_below X4.out hb)
    have B5 := Lib.hid (below_seq B4.out hb)
    have A5 := Lib.hid (blk_below A4.out hb (blk_lt A4.out))
    have Y5 := Lib.hid (blk_below Y4.out hb (blk_lt Y4.out))
    clear hb
    have hS : (w5.drew.cell? ⟨w.heap.size, 0, none⟩ = some (.int .i64 g.tm) ∧ w5.drew.cell? ⟨w.heap.size, 1, none⟩ = some (.int .i64 g.all.peer) ∧ w5.drew.cell? ⟨w.heap.size, 2, none⟩ = some (.int .i64 g.all.lane) ∧ w5.drew.cell? ⟨w.heap.size, 3, none⟩ = some (.int .i64 g.all.size) ∧ w5.drew.cell? ⟨w.heap.size, 4, none⟩ = some (.int .i64 g.all.id) ∧ w5.drew.cell? ⟨w.heap.size, 5, none⟩ = some (.slice h.E h.ne h.ce) ∧ w5.drew.cell? ⟨w.heap.size, 6, none⟩ = some (.int .i64 g.lim) ∧ w5.drew.cell? ⟨w.heap.size, 7, none⟩ = some (.int .i64 g.ea) ∧ w5.drew.cell? ⟨w.heap.size, 8, none⟩ = some (.slice h.U h.nu h.cu) ∧ w5.drew.cell? ⟨w.heap.size, 9, none⟩ = some (.slice h.A h.n h.c) ∧ w5.drew.cell? ⟨w.heap.size, 10, none⟩ = some (.slice h.B h.m h.d) ∧ w5.drew.cell? ⟨w.heap.size, 11, none⟩ = some (.slice h.C h.o h.f) ∧ w5.drew.cell? ⟨w.heap.size, 12, none⟩ = some (.slice h.S h.ns h.cs)) ∧ (w5.drew.cell? ⟨w4.heap.size, 0, none⟩ = some (.int .i64 g.tm) ∧ w5.drew.cell? ⟨w4.heap.size, 1, none⟩ = some (.int .i64 g.all.peer) ∧ w5.drew.cell? ⟨w4.heap.size, 2, none⟩ = some (.int .i64 g.all.lane) ∧ w5.drew.cell? ⟨w4.heap.size, 3, none⟩ = some (.int .i64 g.all.size) ∧ w5.drew.cell? ⟨w4.heap.size, 4, none⟩ = some (.int .i64 g.all.id) ∧ w5.drew.cell? ⟨w4.heap.size, 5, none⟩ = some (.slice k4.E k4.ne k4.ce) ∧ w5.drew.cell? ⟨w4.heap.size, 6, none⟩ = some (.int .i64 g.lim) ∧ w5.drew.cell? ⟨w4.heap.size, 7, none⟩ = some (.int .i64 g.ea) ∧ w5.drew.cell? ⟨w4.heap.size, 8, none⟩ = some (.slice k4.U k4.nu k4.cu) ∧ w5.drew.cell? ⟨w4.heap.size, 9, none⟩ = some (.slice k4.A k4.n k4.c) ∧ w5.drew.cell? ⟨w4.heap.size, 10, none⟩ = some (.slice k4.B k4.m k4.d) ∧ w5.drew.cell? ⟨w4.heap.size, 11, none⟩ = some (.slice k4.C k4.o k4.f) ∧ w5.drew.cell? ⟨w4.heap.size, 12, none⟩ = some (.slice k4.S k4.ns k4.cs)) ∧ Below w5.heap.size w5 w5.drew := ⟨gcj (blk_below A5.out (Below.refl _ _).drew (blk_lt A5.out)), gcj (blk_below Y5.out (Below.refl _ _).drew (blk_lt Y5.out)), (Below.refl _ _).drew⟩
    go_wp2_with fail
    go_region_held3 (fun w' => (w'.cell? ⟨w.heap.size, 0, none⟩ = some (.int .i64 g.tm) ∧ w'.cell? ⟨w.heap.size, 1, none⟩ = some (.int .i64 g.all.peer) ∧ w'.cell? ⟨w.heap.size, 2, none⟩ = some (.int .i64 g.all.lane) ∧ w'.cell? ⟨w.heap.size, 3, none⟩ = some (.int .i64 g.all.size) ∧ w'.cell? ⟨w.heap.size, 4, none⟩ = some (.int .i64 g.all.id) ∧ w'.cell? ⟨w.heap.size, 5, none⟩ = some (.slice h.E h.ne h.ce) ∧ w'.cell? ⟨w.heap.size, 6, none⟩ = some (.int .i64 g.lim) ∧ w'.cell? ⟨w.heap.size, 7, none⟩ = some (.int .i64 g.ea) ∧ w'.cell? ⟨w.heap.size, 8, none⟩ = some (.slice h.U h.nu h.cu) ∧ w'.cell? ⟨w.heap.size, 9, none⟩ = some (.slice h.A h.n h.c) ∧ w'.cell? ⟨w.heap.size, 10, none⟩ = some (.slice h.B h.m h.d) ∧ w'.cell? ⟨w.heap.size, 11, none⟩ = some (.slice h.C h.o h.f) ∧ w'.cell? ⟨w.heap.size, 12, none⟩ = some (.slice h.S h.ns h.cs)) ∧ (w'.cell? ⟨w4.heap.size, 0, none⟩ = some (.int .i64 g.tm) ∧ w'.cell? ⟨w4.heap.size, 1, none⟩ = some (.int .i64 g.all.peer) ∧ w'.cell? ⟨w4.heap.size, 2, none⟩ = some (.int .i64 g.all.lane) ∧ w'.cell? ⟨w4.heap.size, 3, none⟩ = some (.int .i64 g.all.size) ∧ w'.cell? ⟨w4.heap.size, 4, none⟩ = some (.int .i64 g.all.id) ∧ w'.cell? ⟨w4.heap.size, 5, none⟩ = some (.slice k4.E k4.ne k4.ce) ∧ w'.cell? ⟨w4.heap.size, 6, none⟩ = some (.int .i64 g.lim) ∧ w'.cell? ⟨w4.heap.size, 7, none⟩ = some (.int .i64 g.ea) ∧ w'.cell? ⟨w4.heap.size, 8, none⟩ = some (.slice k4.U k4.nu k4.cu) ∧ w'.cell? ⟨w4.heap.size, 9, none⟩ = some (.slice k4.A k4.n k4.c) ∧ w'.cell? ⟨w4.heap.size, 10, none⟩ = some (.slice k4.B k4.m k4.d) ∧ w'.cell? ⟨w4.heap.size, 11, none⟩ = some (.slice k4.C k4.o k4.f) ∧ w'.cell? ⟨w4.heap.size, 12, none⟩ = some (.slice k4.S k4.ns k4.cs)) ∧ Below w5.heap.size w5 w')
      (first | (with_reducible assumption) | fail)
      (first
        | (go_at_call 19
           refine (eqGuard_same g k4 k6 _ (gr_below X5.out K6.out) PX6.out).mono ?_
           rintro e w7 ⟨rfl, hb7⟩
           have K7 := Lib.hid (below_seq K6.out hb7)
           have hS7 : (w7.cell? ⟨w.heap.size, 0, none⟩ = some (.int .i64 g.tm) ∧ w7.cell? ⟨w.heap.size, 1, none⟩ = some (.int .i64 g.all.peer) ∧ w7.cell? ⟨w.heap.size, 2, none⟩ = some (.int .i64 g.all.lane) ∧ w7.cell? ⟨w.heap.size, 3, none⟩ = some (.int .i64 g.all.size) ∧ w7.cell? ⟨w.heap.size, 4, none⟩ = some (.int .i64 g.all.id) ∧ w7.cell? ⟨w.heap.size, 5, none⟩ = some (.slice h.E h.ne h.ce) ∧ w7.cell? ⟨w.heap.size, 6, none⟩ = some (.int .i64 g.lim) ∧ w7.cell? ⟨w.heap.size, 7, none⟩ = some (.int .i64 g.ea) ∧ w7.cell? ⟨w.heap.size, 8, none⟩ = some (.slice h.U h.nu h.cu) ∧ w7.cell? ⟨w.heap.size, 9, none⟩ = some (.slice h.A h.n h.c) ∧ w7.cell? ⟨w.heap.size, 10, none⟩ = some (.slice h.B h.m h.d) ∧ w7.cell? ⟨w.heap.size, 11, none⟩ = some (.slice h.C h.o h.f) ∧ w7.cell? ⟨w.heap.size, 12, none⟩ = some (.slice h.S h.ns h.cs)) ∧ (w7.cell? ⟨w4.heap.size, 0, none⟩ = some (.int .i64 g.tm) ∧ w7.cell? ⟨w4.heap.size, 1, none⟩ = some (.int .i64 g.all.peer) ∧ w7.cell? ⟨w4.heap.size, 2, none⟩ = some (.int .i64 g.all.lane) ∧ w7.cell? ⟨w4.heap.size, 3, none⟩ = some (.int .i64 g.all.size) ∧ w7.cell? ⟨w4.heap.size, 4, none⟩ = some (.int .i64 g.all.id) ∧ w7.cell? ⟨w4.heap.size, 5, none⟩ = some (.slice k4.E k4.ne k4.ce) ∧ w7.cell? ⟨w4.heap.size, 6, none⟩ = some (.int .i64 g.lim) ∧ w7.cell? ⟨w4.heap.size, 7, none⟩ = some (.int .i64 g.ea) ∧ w7.cell? ⟨w4.heap.size, 8, none⟩ = some (.slice k4.U k4.nu k4.cu) ∧ w7.cell? ⟨w4.heap.size, 9, none⟩ = some (.slice k4.A k4.n k4.c) ∧ w7.cell? ⟨w4.heap.size, 10, none⟩ = some (.slice k4.B k4.m k4.d) ∧ w7.cell? ⟨w4.heap.size, 11, none⟩ = some (.slice k4.C k4.o k4.f) ∧ w7.cell? ⟨w4.heap.size, 12, none⟩ = some (.slice k4.S k4.ns k4.cs)) ∧ Below w5.heap.size w5 w7 := ⟨gcj (blk_below A5.out K7.out (blk_lt A5.out)), gcj (blk_below Y5.out K7.out (blk_lt Y5.out)), K7.out⟩
           clear hb7)
        | (go_at_call 25
           refine (toGuard_any g h _ (ga_below H.out (below_seq B5.out (Below.refl w5.heap.size w5).drew)) hbig).mono ?_
           rintro e w6 ⟨k6, i6, rfl, ho6, hb6⟩
           have PX6 := Lib.hid (go_gr ho6)
           have K6 := Lib.hid (below_seq (Below.refl w5.heap.size w5).drew hb6)
           have hS6 : (w6.cell? ⟨w.heap.size, 0, none⟩ = some (.int .i64 g.tm) ∧ w6.cell? ⟨w.heap.size, 1, none⟩ = some (.int .i64 g.all.peer) ∧ w6.cell? ⟨w.heap.size, 2, none⟩ = some (.int .i64 g.all.lane) ∧ w6.cell? ⟨w.heap.size, 3, none⟩ = some (.int .i64 g.all.size) ∧ w6.cell? ⟨w.heap.size, 4, none⟩ = some (.int .i64 g.all.id) ∧ w6.cell? ⟨w.heap.size, 5, none⟩ = some (.slice h.E h.ne h.ce) ∧ w6.cell? ⟨w.heap.size, 6, none⟩ = some (.int .i64 g.lim) ∧ w6.cell? ⟨w.heap.size, 7, none⟩ = some (.int .i64 g.ea) ∧ w6.cell? ⟨w.heap.size, 8, none⟩ = some (.slice h.U h.nu h.cu) ∧ w6.cell? ⟨w.heap.size, 9, none⟩ = some (.slice h.A h.n h.c) ∧ w6.cell? ⟨w.heap.size, 10, none⟩ = some (.slice h.B h.m h.d) ∧ w6.cell? ⟨w.heap.size, 11, none⟩ = some (.slice h.C h.o h.f) ∧ w6.cell? ⟨w.heap.size, 12, none⟩ = some (.slice h.S h.ns h.cs)) ∧ (w6.cell? ⟨w4.heap.size, 0, none⟩ = some (.int .i64 g.tm) ∧ w6.cell? ⟨w4.heap.size, 1, none⟩ = some (.int .i64 g.all.peer) ∧ w6.cell? ⟨w4.heap.size, 2, none⟩ = some (.int .i64 g.all.lane) ∧ w6.cell? ⟨w4.heap.size, 3, none⟩ = some (.int .i64 g.all.size) ∧ w6.cell? ⟨w4.heap.size, 4, none⟩ = some (.int .i64 g.all.id) ∧ w6.cell? ⟨w4.heap.size, 5, none⟩ = some (.slice k4.E k4.ne k4.ce) ∧ w6.cell? ⟨w4.heap.size, 6, none⟩ = some (.int .i64 g.lim) ∧ w6.cell? ⟨w4.heap.size, 7, none⟩ = some (.int .i64 g.ea) ∧ w6.cell? ⟨w4.heap.size, 8, none⟩ = some (.slice k4.U k4.nu k4.cu) ∧ w6.cell? ⟨w4.heap.size, 9, none⟩ = some (.slice k4.A k4.n k4.c) ∧ w6.cell? ⟨w4.heap.size, 10, none⟩ = some (.slice k4.B k4.m k4.d) ∧ w6.cell? ⟨w4.heap.size, 11, none⟩ = some (.slice k4.C k4.o k4.f) ∧ w6.cell? ⟨w4.heap.size, 12, none⟩ = some (.slice k4.S k4.ns k4.cs)) ∧ Below w5.heap.size w5 w6 := ⟨gcj (blk_below A5.out K6.out (blk_lt A5.out)), gcj (blk_below Y5.out K6.out (blk_lt Y5.out)), K6.out⟩
           clear hb6 ho6))
    all_goals
      clear PX6 hS hS6 hS7
      go_wp2
      go_ret
      exact ⟨rfl, below_seq B5.out K7.out⟩
  · have hle : (1048576 : Int) < (gsz g : Int) := by omega
    go_enter Try.func5, Try.ntmps5
    go_wp2_with fail
    refine (szGuard_any g h 1048576 _ (ga_below H.out B0.out) (by omega)).mono ?_
    rintro e w1 ⟨rfl, hb⟩
    rw [if_pos (by omega)]
    have B1 := Lib.hid (below_seq B0.out hb)
    clear hb hle hbig
    go_wp2
    go_ret
    exact ⟨rfl, B1.out⟩
end Go.Proofs.Ytiodhdcgfdlknaa.fnExactGuardValid
