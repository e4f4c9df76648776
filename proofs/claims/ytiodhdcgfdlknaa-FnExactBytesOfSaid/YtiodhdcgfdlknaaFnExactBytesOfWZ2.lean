/-
  The law FnExactBytesOf returns true at every argument: the program's BytesOf answers as the model's, writes into no argument, and its answer owns its memory. Conditions: none.
-/
import Derived.Test.YtiodhdcgfdlknaaKb6Z2
import Derived.Test.YtiodhdcgfdlknaaKboZ2
namespace Go.Proofs.Ytiodhdcgfdlknaa.fnExactBytesOf
open Go.ChangeShapes Go.WideShapes Go.ChangeAt Go.RowKit
theorem both (g : Gd) : ∃ (us : List Int) (ok : Bool), us.length ≤ 64 ∧ Hid (∀ (h : Gh) (w : World), GR w h g → Calls Try.prog 29 #[.agg (gcs g h)] w (IsP w us ok)) ∧ Hid (∀ (h : Gh) (w : World), GR w h g → Calls Try.prog 30 #[.agg (gcs g h)] w (IsP w us ok)) :=
  ⟨boR g, gvB g, by have := boR_len g; omega, Lib.hid fun h w G => boS_any g h w G, Lib.hid fun h w G => boI_any g h w G⟩
set_option maxRecDepth 100000 in
set_option maxHeartbeats 8000000 in
theorem walk (g : Gd) (h : Gh) (w : World) (G : GA w h g) :
    Calls Try.prog 7 #[.agg (gcs g h)] w fun e w' => e = .returned (.bool true) ∧ Below w.heap.size w w' := by
  have H := Lib.hid G
  have B0 := Lib.hid (below_alloc (Below.refl w.heap.size w) (.cells (gcs g h) 56))
  have A0 := Lib.hid (blk_new w 56 (gcs g h))
  clear G
  obtain ⟨q0, q1, q2, q3, q4, q5, q6, q7, q8, q9, q10, q11, q12⟩ := gc_blk (A0.out)
  by_cases hbig : gsz g ≤ 1048576
  · obtain ⟨us, ok, hpl, HS0, HI0⟩ := both g
    have hle : ¬ (1048576 : Int) < (gsz g : Int) := by omega
    have hd : decide ((1048576 : Int) - (gsz g : Int) < 0) = false := by simp; omega
    have hcg := gsz_bd hbig
    have kg : 0 ≤ 1 + cntG g ∧ 1 + cntG g ≤ 16000000 := by unfold cntG; omega
    have kg0 : decide (1 + cntG g < 0) = false := by simp; omega
    clear hcg
    go_enter Try.func7, Try.ntmps7
    go_wp2_with fail
    refine (szGuard_any g h 1048576 _ (ga_below H.out B0.out) (by omega)).mono ?_
    rintro e w1 ⟨rfl, hb⟩
    rw [if_neg (by omega)]
    have B1 := Lib.hid (below_seq B0.out hb)
    have A1 := Lib.hid (blk_below A0.out hb (by simp))
    clear hb hle
    clear q0 q1 q2 q3 q4 q5 q6 q7 q8 q9 q10 q11 q12
    obtain ⟨q0, q1, q2, q3, q4, q5, q6, q7, q8, q9, q10, q11, q12⟩ := gc_blk (A1.out)
    go_wp2_with fail
    refine (toGuard_any g h _ (ga_below H.out B1.out) hbig).mono ?_
    rintro e w2 ⟨h2, i2, rfl, hD, hb⟩
    have X2 := Lib.hid (go_gr hD)
    have B2 := Lib.hid (below_seq B1.out hb)
    have A2 := Lib.hid (blk_below A1.out hb (blk_lt A1.out))
    clear hb hD
    clear q0 q1 q2 q3 q4 q5 q6 q7 q8 q9 q10 q11 q12
    go_wp2_with fail
    refine (HS0.out h2 _ X2.out).mono ?_
    rintro e w3 ⟨Bw, mw, dw, rfl, hm, hp, hb⟩
    have B3 := Lib.hid (below_seq B2.out hb)
    have A3 := Lib.hid (blk_below A2.out hb (blk_lt A2.out))
    have PW := Lib.hid (nr_own hp)
    have lmw : mw ≤ 1048576 := by omega
    have za : w.heap.size < w3.heap.size := blk_lt A3.out
    clear hb X2 A2 hm hp
    have F3 : Hid (Fm w3 [] w3) := Lib.hid (fm_zero w3)
    obtain ⟨q0, q1, q2, q3, q4, q5, q6, q7, q8, q9, q10, q11, q12⟩ := gc_blk (A3.out)
    go_wp2_with fail
    refine (toGuard_any g h _ (ga_below H.out B3.out) hbig).mono ?_
    rintro e w4 ⟨h4, i4, rfl, hD, hb⟩
    unfold gcs
    have F4b : Hid (Fm w3 [⟨w3.heap.size, w4.heap.size, GO w3.heap.size w4.heap.size h4 g i4⟩, ⟨w4.heap.size, w4.heap.size + 1, BoxP w4.heap.size 41 (gcs g h4)⟩] (w4.alloc (.cells #[.int .i64 g.tm, .int .i64 g.all.peer, .int .i64 g.all.lane, .int .i64 g.all.size, .int .i64 g.all.id, .slice h4.E h4.ne h4.ce, .int .i64 g.lim, .int .i64 g.ea, .slice h4.U h4.nu h4.cu, .slice h4.A h4.n h4.c, .slice h4.B h4.m h4.d, .slice h4.C h4.o h4.f, .slice h4.S h4.ns h4.cs] 41))) := Lib.hid (fm_push (go_fm F3.out hb hD rfl) rfl _ _)
    clear hb hD F3
    clear q0 q1 q2 q3 q4 q5 q6 q7 q8 q9 q10 q11 q12
    obtain ⟨x0, x1, x2, x3, x4, x5, x6, x7, x8, x9, x10, x11, x12⟩ := gc_blk (fm_blk F4b.out 1 rfl)
    go_wp2_with fail
    refine (HI0.out h4 _ (go_gr (fm_get F4b.out 0 rfl))).mono ?_
    rintro e w5 ⟨Bg, mg, dg, rfl, hm, hp, hb⟩
    have lmg : mg ≤ 1048576 := by omega
    have F5 : Hid (Fm w3 [⟨w3.heap.size, w4.heap.size, GO w3.heap.size w4.heap.size h4 g i4⟩, ⟨w4.heap.size, w4.heap.size + 1, BoxP w4.heap.size 41 (gcs g h4)⟩, ⟨w4.heap.size + 1, w5.heap.size, OwnP (w4.heap.size + 1) w5.heap.size 3 1 (.slice Bg mg dg) mg (icells us)⟩] w5) := Lib.hid (fm_own F4b.out hb hp (by simp))
    clear F4b hb hp hm
    clear x0 x1 x2 x3 x4 x5 x6 x7 x8 x9 x10 x11 x12
    go_wp2_with fail
    refine (eqIntS_any Bg Bw mg dg mw dw us us _ (nr_own (fm_row F5.out 2 rfl)) (nr_below PW.out F5.out.below) (by omega) (by omega)).mono ?_
    rintro e w8 ⟨rfl, hb⟩
    rw [ints_refl us]
    have F8 : Hid (Fm w3 [⟨w3.heap.size, w4.heap.size, GO w3.heap.size w4.heap.size h4 g i4⟩, ⟨w4.heap.size, w4.heap.size + 1, BoxP w4.heap.size 41 (gcs g h4)⟩, ⟨w4.heap.size + 1, w5.heap.size, OwnP (w4.heap.size + 1) w5.heap.size 3 1 (.slice Bg mg dg) mg (icells us)⟩] w8) := Lib.hid (fm_below F5.out hb)
    clear F5 hb
    have hS : (w8.drew.cell? ⟨w.heap.size, 0, none⟩ = some (.int .i64 g.tm) ∧ w8.drew.cell? ⟨w.heap.size, 1, none⟩ = some (.int .i64 g.all.peer) ∧ w8.drew.cell? ⟨w.heap.size, 2, none⟩ = some (.int .i64 g.all.lane) ∧ w8.drew.cell? ⟨w.heap.size, 3, none⟩ = some (.int .i64 g.all.size) ∧ w8.drew.cell? ⟨w.heap.size, 4, none⟩ = some (.int .i64 g.all.id) ∧ w8.drew.cell? ⟨w.heap.size, 5, none⟩ = some (.slice h.E h.ne h.ce) ∧ w8.drew.cell? ⟨w.heap.size, 6, none⟩ = some (.int .i64 g.lim) ∧ w8.drew.cell? ⟨w.heap.size, 7, none⟩ = some (.int .i64 g.ea) ∧ w8.drew.cell? ⟨w.heap.size, 8, none⟩ = some (.slice h.U h.nu h.cu) ∧ w8.drew.cell? ⟨w.heap.size, 9, none⟩ = some (.slice h.A h.n h.c) ∧ w8.drew.cell? ⟨w.heap.size, 10, none⟩ = some (.slice h.B h.m h.d) ∧ w8.drew.cell? ⟨w.heap.size, 11, none⟩ = some (.slice h.C h.o h.f) ∧ w8.drew.cell? ⟨w.heap.size, 12, none⟩ = some (.slice h.S h.ns h.cs)) ∧ (w8.drew.cell? ⟨w4.heap.size, 0, none⟩ = some (.int .i64 g.tm) ∧ w8.drew.cell? ⟨w4.heap.size, 1, none⟩ = some (.int .i64 g.all.peer) ∧ w8.drew.cell? ⟨w4.heap.size, 2, none⟩ = some (.int .i64 g.all.lane) ∧ w8.drew.cell? ⟨w4.heap.size, 3, none⟩ = some (.int .i64 g.all.size) ∧ w8.drew.cell? ⟨w4.heap.size, 4, none⟩ = some (.int .i64 g.all.id) ∧ w8.drew.cell? ⟨w4.heap.size, 5, none⟩ = some (.slice h4.E h4.ne h4.ce) ∧ w8.drew.cell? ⟨w4.heap.size, 6, none⟩ = some (.int .i64 g.lim) ∧ w8.drew.cell? ⟨w4.heap.size, 7, none⟩ = some (.int .i64 g.ea) ∧ w8.drew.cell? ⟨w4.heap.size, 8, none⟩ = some (.slice h4.U h4.nu h4.cu) ∧ w8.drew.cell? ⟨w4.heap.size, 9, none⟩ = some (.slice h4.A h4.n h4.c) ∧ w8.drew.cell? ⟨w4.heap.size, 10, none⟩ = some (.slice h4.B h4.m h4.d) ∧ w8.drew.cell? ⟨w4.heap.size, 11, none⟩ = some (.slice h4.C h4.o h4.f) ∧ w8.drew.cell? ⟨w4.heap.size, 12, none⟩ = some (.slice h4.S h4.ns h4.cs)) ∧ Fm w3 [⟨w3.heap.size, w4.heap.size, GO w3.heap.size w4.heap.size h4 g i4⟩, ⟨w4.heap.size, w4.heap.size + 1, BoxP w4.heap.size 41 (gcs g h4)⟩, ⟨w4.heap.size + 1, w5.heap.size, OwnP (w4.heap.size + 1) w5.heap.size 3 1 (.slice Bg mg dg) mg (icells us)⟩] w8.drew := ⟨gcj (blk_below A3.out (fm_drew F8.out).below za), gcj (fm_blk (fm_drew F8.out) 1 rfl), (fm_drew F8.out)⟩
    go_wp2_with fail
    go_region_held3 (fun w' => (w'.cell? ⟨w.heap.size, 0, none⟩ = some (.int .i64 g.tm) ∧ w'.cell? ⟨w.heap.size, 1, none⟩ = some (.int .i64 g.all.peer) ∧ w'.cell? ⟨w.heap.size, 2, none⟩ = some (.int .i64 g.all.lane) ∧ w'.cell? ⟨w.heap.size, 3, none⟩ = some (.int .i64 g.all.size) ∧ w'.cell? ⟨w.heap.size, 4, none⟩ = some (.int .i64 g.all.id) ∧ w'.cell? ⟨w.heap.size, 5, none⟩ = some (.slice h.E h.ne h.ce) ∧ w'.cell? ⟨w.heap.size, 6, none⟩ = some (.int .i64 g.lim) ∧ w'.cell? ⟨w.heap.size, 7, none⟩ = some (.int .i64 g.ea) ∧ w'.cell? ⟨w.heap.size, 8, none⟩ = some (.slice h.U h.nu h.cu) ∧ w'.cell? ⟨w.heap.size, 9, none⟩ = some (.slice h.A h.n h.c) ∧ w'.cell? ⟨w.heap.size, 10, none⟩ = some (.slice h.B h.m h.d) ∧ w'.cell? ⟨w.heap.size, 11, none⟩ = some (.slice h.C h.o h.f) ∧ w'.cell? ⟨w.heap.size, 12, none⟩ = some (.slice h.S h.ns h.cs)) ∧ (w'.cell? ⟨w4.heap.size, 0, none⟩ = some (.int .i64 g.tm) ∧ w'.cell? ⟨w4.heap.size, 1, none⟩ = some (.int .i64 g.all.peer) ∧ w'.cell? ⟨w4.heap.size, 2, none⟩ = some (.int .i64 g.all.lane) ∧ w'.cell? ⟨w4.heap.size, 3, none⟩ = some (.int .i64 g.all.size) ∧ w'.cell? ⟨w4.heap.size, 4, none⟩ = some (.int .i64 g.all.id) ∧ w'.cell? ⟨w4.heap.size, 5, none⟩ = some (.slice h4.E h4.ne h4.ce) ∧ w'.cell? ⟨w4.heap.size, 6, none⟩ = some (.int .i64 g.lim) ∧ w'.cell? ⟨w4.heap.size, 7, none⟩ = some (.int .i64 g.ea) ∧ w'.cell? ⟨w4.heap.size, 8, none⟩ = some (.slice h4.U h4.nu h4.cu) ∧ w'.cell? ⟨w4.heap.size, 9, none⟩ = some (.slice h4.A h4.n h4.c) ∧ w'.cell? ⟨w4.heap.size, 10, none⟩ = some (.slice h4.B h4.m h4.d) ∧ w'.cell? ⟨w4.heap.size, 11, none⟩ = some (.slice h4.C h4.o h4.f) ∧ w'.cell? ⟨w4.heap.size, 12, none⟩ = some (.slice h4.S h4.ns h4.cs)) ∧ Fm w3 [⟨w3.heap.size, w4.heap.size, GO w3.heap.size w4.heap.size h4 g i4⟩, ⟨w4.heap.size, w4.heap.size + 1, BoxP w4.heap.size 41 (gcs g h4)⟩, ⟨w4.heap.size + 1, w5.heap.size, OwnP (w4.heap.size + 1) w5.heap.size 3 1 (.slice Bg mg dg) mg (icells us)⟩] w')
      (first | (with_reducible assumption) | fail)
      (first
        | (go_at_call 19
           refine (eqGuard_same g h4 h6 _ (go_gr (fm_get FX6.out 0 rfl)) PX6.out).mono ?_
           rintro e w7 ⟨rfl, hb7⟩
           have FX7 : Hid (Fm w3 [⟨w3.heap.size, w4.heap.size, GO w3.heap.size w4.heap.size h4 g i4⟩, ⟨w4.heap.size, w4.heap.size + 1, BoxP w4.heap.size 41 (gcs g h4)⟩, ⟨w4.heap.size + 1, w5.heap.size, OwnP (w4.heap.size + 1) w5.heap.size 3 1 (.slice Bg mg dg) mg (icells us)⟩] w7) := Lib.hid (fm_below FX6.out hb7)
           have hS7 : (w7.cell? ⟨w.heap.size, 0, none⟩ = some (.int .i64 g.tm) ∧ w7.cell? ⟨w.heap.size, 1, none⟩ = some (.int .i64 g.all.peer) ∧ w7.cell? ⟨w.heap.size, 2, none⟩ = some (.int .i64 g.all.lane) ∧ w7.cell? ⟨w.heap.size, 3, none⟩ = some (.int .i64 g.all.size) ∧ w7.cell? ⟨w.heap.size, 4, none⟩ = some (.int .i64 g.all.id) ∧ w7.cell? ⟨w.heap.size, 5, none⟩ = some (.slice h.E h.ne h.ce) ∧ w7.cell? ⟨w.heap.size, 6, none⟩ = some (.int .i64 g.lim) ∧ w7.cell? ⟨w.heap.size, 7, none⟩ = some (.int .i64 g.ea) ∧ w7.cell? ⟨w.heap.size, 8, none⟩ = some (.slice h.U h.nu h.cu) ∧ w7.cell? ⟨w.heap.size, 9, none⟩ = some (.slice h.A h.n h.c) ∧ w7.cell? ⟨w.heap.size, 10, none⟩ = some (.slice h.B h.m h.d) ∧ w7.cell? ⟨w.heap.size, 11, none⟩ = some (.slice h.C h.o h.f) ∧ w7.cell? ⟨w.heap.size, 12, none⟩ = some (.slice h.S h.ns h.cs)) ∧ (w7.cell? ⟨w4.heap.size, 0, none⟩ = some (.int .i64 g.tm) ∧ w7.cell? ⟨w4.heap.size, 1, none⟩ = some (.int .i64 g.all.peer) ∧ w7.cell? ⟨w4.heap.size, 2, none⟩ = some (.int .i64 g.all.lane) ∧ w7.cell? ⟨w4.heap.size, 3, none⟩ = some (.int .i64 g.all.size) ∧ w7.cell? ⟨w4.heap.size, 4, none⟩ = some (.int .i64 g.all.id) ∧ w7.cell? ⟨w4.heap.size, 5, none⟩ = some (.slice h4.E h4.ne h4.ce) ∧ w7.cell? ⟨w4.heap.size, 6, none⟩ = some (.int .i64 g.lim) ∧ w7.cell? ⟨w4.heap.size, 7, none⟩ = some (.int .i64 g.ea) ∧ w7.cell? ⟨w4.heap.size, 8, none⟩ = some (.slice h4.U h4.nu h4.cu) ∧ w7.cell? ⟨w4.heap.size, 9, none⟩ = some (.slice h4.A h4.n h4.c) ∧ w7.cell? ⟨w4.heap.size, 10, none⟩ = some (.slice h4.B h4.m h4.d) ∧ w7.cell? ⟨w4.heap.size, 11, none⟩ = some (.slice h4.C h4.o h4.f) ∧ w7.cell? ⟨w4.heap.size, 12, none⟩ = some (.slice h4.S h4.ns h4.cs)) ∧ Fm w3 [⟨w3.heap.size, w4.heap.size, GO w3.heap.size w4.heap.size h4 g i4⟩, ⟨w4.heap.size, w4.heap.size + 1, BoxP w4.heap.size 41 (gcs g h4)⟩, ⟨w4.heap.size + 1, w5.heap.size, OwnP (w4.heap.size + 1) w5.heap.size 3 1 (.slice Bg mg dg) mg (icells us)⟩] w7 := ⟨gcj (blk_below A3.out FX7.out.below za), gcj (fm_blk FX7.out 1 rfl), FX7.out⟩
           clear hb7)
        | (go_at_call 25
           refine (toGuard_any g h _ (ga_below H.out (below_seq B3.out (fm_drew F8.out).below)) hbig).mono ?_
           rintro e w6 ⟨h6, i6, rfl, ho6, hb6⟩
           have PX6 := Lib.hid (go_gr ho6)
           have FX6 : Hid (Fm w3 [⟨w3.heap.size, w4.heap.size, GO w3.heap.size w4.heap.size h4 g i4⟩, ⟨w4.heap.size, w4.heap.size + 1, BoxP w4.heap.size 41 (gcs g h4)⟩, ⟨w4.heap.size + 1, w5.heap.size, OwnP (w4.heap.size + 1) w5.heap.size 3 1 (.slice Bg mg dg) mg (icells us)⟩] w6) := Lib.hid (fm_below (fm_drew F8.out) hb6)
           have hS6 : (w6.cell? ⟨w.heap.size, 0, none⟩ = some (.int .i64 g.tm) ∧ w6.cell? ⟨w.heap.size, 1, none⟩ = some (.int .i64 g.all.peer) ∧ w6.cell? ⟨w.heap.size, 2, none⟩ = some (.int .i64 g.all.lane) ∧ w6.cell? ⟨w.heap.size, 3, none⟩ = some (.int .i64 g.all.size) ∧ w6.cell? ⟨w.heap.size, 4, none⟩ = some (.int .i64 g.all.id) ∧ w6.cell? ⟨w.heap.size, 5, none⟩ = some (.slice h.E h.ne h.ce) ∧ w6.cell? ⟨w.heap.size, 6, none⟩ = some (.int .i64 g.lim) ∧ w6.cell? ⟨w.heap.size, 7, none⟩ = some (.int .i64 g.ea) ∧ w6.cell? ⟨w.heap.size, 8, none⟩ = some (.slice h.U h.nu h.cu) ∧ w6.cell? ⟨w.heap.size, 9, none⟩ = some (.slice h.A h.n h.c) ∧ w6.cell? ⟨w.heap.size, 10, none⟩ = some (.slice h.B h.m h.d) ∧ w6.cell? ⟨w.heap.size, 11, none⟩ = some (.slice h.C h.o h.f) ∧ w6.cell? ⟨w.heap.size, 12, none⟩ = some (.slice h.S h.ns h.cs)) ∧ (w6.cell? ⟨w4.heap.size, 0, none⟩ = some (.int .i64 g.tm) ∧ w6.cell? ⟨w4.heap.size, 1, none⟩ = some (.int .i64 g.all.peer) ∧ w6.cell? ⟨w4.heap.size, 2, none⟩ = some (.int .i64 g.all.lane) ∧ w6.cell? ⟨w4.heap.size, 3, none⟩ = some (.int .i64 g.all.size) ∧ w6.cell? ⟨w4.heap.size, 4, none⟩ = some (.int .i64 g.all.id) ∧ w6.cell? ⟨w4.heap.size, 5, none⟩ = some (.slice h4.E h4.ne h4.ce) ∧ w6.cell? ⟨w4.heap.size, 6, none⟩ = some (.int .i64 g.lim) ∧ w6.cell? ⟨w4.heap.size, 7, none⟩ = some (.int .i64 g.ea) ∧ w6.cell? ⟨w4.heap.size, 8, none⟩ = some (.slice h4.U h4.nu h4.cu) ∧ w6.cell? ⟨w4.heap.size, 9, none⟩ = some (.slice h4.A h4.n h4.c) ∧ w6.cell? ⟨w4.heap.size, 10, none⟩ = some (.slice h4.B h4.m h4.d) ∧ w6.cell? ⟨w4.heap.size, 11, none⟩ = some (.slice h4.C h4.o h4.f) ∧ w6.cell? ⟨w4.heap.size, 12, none⟩ = some (.slice h4.S h4.ns h4.cs)) ∧ Fm w3 [⟨w3.heap.size, w4.heap.size, GO w3.heap.size w4.heap.size h4 g i4⟩, ⟨w4.heap.size, w4.heap.size + 1, BoxP w4.heap.size 41 (gcs g h4)⟩, ⟨w4.heap.size + 1, w5.heap.size, OwnP (w4.heap.size + 1) w5.heap.size 3 1 (.slice Bg mg dg) mg (icells us)⟩] w6 := ⟨gcj (blk_below A3.out FX6.out.below za), gcj (fm_blk FX6.out 1 rfl), FX6.out⟩
           clear hb6 ho6))
    all_goals
      clear PX6 FX6 F8 hS hS6 hS7
      obtain ⟨x0, x1, x2, x3, x4, x5, x6, x7, x8, x9, x10, x11, x12⟩ := gc_blk (fm_blk FX7.out 1 rfl)
      go_wp2_with fail
      refine (markGuard_any w3.heap.size w4.heap.size h4 g i4 1 _ (fm_get FX7.out 0 rfl) (fm_lt FX7.out 0 rfl).2.2 hbig (by omega)).mono ?_
      rintro e w10 ⟨cur, rfl, hD, hc⟩
      have F10 : Hid (Fm w3 [⟨w3.heap.size, w4.heap.size, GO w3.heap.size w4.heap.size h4 (markG g 1) ⟨i4.e0, i4.e1, i4.u0, i4.u1, i4.l0, i4.l1, i4.s0, i4.s1, cur, i4.iv⟩⟩, ⟨w4.heap.size, w4.heap.size + 1, BoxP w4.heap.size 41 (gcs g h4)⟩, ⟨w4.heap.size + 1, w5.heap.size, OwnP (w4.heap.size + 1) w5.heap.size 3 1 (.slice Bg mg dg) mg (icells us)⟩] w10) := Lib.hid (fm_put FX7.out 0 rfl hc (at_go hD (Nat.le_trans (fm_lt FX7.out 0 rfl).2.2 hc.size)))
      clear FX7 hD hc
      clear x0 x1 x2 x3 x4 x5 x6 x7 x8 x9 x10 x11 x12
      go_wp2_with fail
      refine (eqIntS_any Bg Bw mg dg mw dw us us _ (nr_own (fm_row F10.out 2 rfl)) (nr_below PW.out F10.out.below) (by omega) (by omega)).mono ?_
      rintro e w11 ⟨rfl, hb⟩
      rw [ints_refl us]
      have F11 : Hid (Fm w3 [⟨w3.heap.size, w4.heap.size, GO w3.heap.size w4.heap.size h4 (markG g 1) ⟨i4.e0, i4.e1, i4.u0, i4.u1, i4.l0, i4.l1, i4.s0, i4.s1, cur, i4.iv⟩⟩, ⟨w4.heap.size, w4.heap.size + 1, BoxP w4.heap.size 41 (gcs g h4)⟩, ⟨w4.heap.size + 1, w5.heap.size, OwnP (w4.heap.size + 1) w5.heap.size 3 1 (.slice Bg mg dg) mg (icells us)⟩] w11) := Lib.hid (fm_below F10.out hb)
      clear F10 hb
      go_wp2_with fail
      refine (markIntS_any (w4.heap.size + 1) Bg mg dg 1 us _ (fm_row F11.out 2 rfl) (by omega) (by omega)).mono ?_
      rintro e w12 ⟨rfl, ho, hg⟩
      have F12 : Hid (Fm w3 [⟨w3.heap.size, w4.heap.size, GO w3.heap.size w4.heap.size h4 (markG g 1) ⟨i4.e0, i4.e1, i4.u0, i4.u1, i4.l0, i4.l1, i4.s0, i4.s1, cur, i4.iv⟩⟩, ⟨w4.heap.size, w4.heap.size + 1, BoxP w4.heap.size 41 (gcs g h4)⟩, ⟨w4.heap.size + 1, w5.heap.size, OwnP (w4.heap.size + 1) w5.heap.size 3 1 (.slice Bg mg dg) mg (icells (markI mg 1))⟩] w12) := Lib.hid (fm_mark F11.out 2 rfl hg ho)
      have k12 : (0 : Int) ≤ 1 + (mg : Int) := by omega
      clear F11 ho hg
      go_wp2_with fail
      refine (heldIntS_any Bg mg dg 1 _ (nr_own (fm_row F12.out 2 rfl)) (by omega) (by omega)).mono ?_
      rintro e w13 ⟨rfl, rfl⟩
      obtain ⟨q0, q1, q2, q3, q4, q5, q6, q7, q8, q9, q10, q11, q12⟩ := gc_blk (blk_below A3.out F12.out.below za)
      go_wp2_with fail
      refine (toGuard_any g h _ (ga_below H.out (below_seq B3.out F12.out.below)) hbig).mono ?_
      rintro e w14 ⟨h14, i14, rfl, hD, hb⟩
      have F14 : Hid (Fm w3 [⟨w3.heap.size, w4.heap.size, GO w3.heap.size w4.heap.size h4 (markG g 1) ⟨i4.e0, i4.e1, i4.u0, i4.u1, i4.l0, i4.l1, i4.s0, i4.s1, cur, i4.iv⟩⟩, ⟨w4.heap.size, w4.heap.size + 1, BoxP w4.heap.size 41 (gcs g h4)⟩, ⟨w4.heap.size + 1, w5.heap.size, OwnP (w4.heap.size + 1) w5.heap.size 3 1 (.slice Bg mg dg) mg (icells (markI mg 1))⟩] w14) := Lib.hid (fm_below F12.out hb)
      have N14 := Lib.hid (go_gr hD)
      clear hb hD F12
      clear q0 q1 q2 q3 q4 q5 q6 q7 q8 q9 q10 q11 q12
      go_wp2_with fail
      refine (HI0.out h14 _ N14.out).mono ?_
      rintro e w15 ⟨Bh, mh, dh, rfl, hm, hp, hb⟩
      have F15 : Hid (Fm w3 [⟨w3.heap.size, w4.heap.size, GO w3.heap.size w4.heap.size h4 (markG g 1) ⟨i4.e0, i4.e1, i4.u0, i4.u1, i4.l0, i4.l1, i4.s0, i4.s1, cur, i4.iv⟩⟩, ⟨w4.heap.size, w4.heap.size + 1, BoxP w4.heap.size 41 (gcs g h4)⟩, ⟨w4.heap.size + 1, w5.heap.size, OwnP (w4.heap.size + 1) w5.heap.size 3 1 (.slice Bg mg dg) mg (icells (markI mg 1))⟩] w15) := Lib.hid (fm_below F14.out hb)
      have NH := Lib.hid (nr_own hp)
      have lmh : mh ≤ 1048576 := by omega
      clear hb hp hm F14 N14
      go_wp2_with fail
      refine (eqIntS_any Bh Bw mh dh mw dw us us _ NH.out (nr_below PW.out F15.out.below) (by omega) (by omega)).mono ?_
      rintro e w16 ⟨rfl, hb⟩
      rw [ints_refl us]
      have F16 : Hid (Fm w3 [⟨w3.heap.size, w4.heap.size, GO w3.heap.size w4.heap.size h4 (markG g 1) ⟨i4.e0, i4.e1, i4.u0, i4.u1, i4.l0, i4.l1, i4.s0, i4.s1, cur, i4.iv⟩⟩, ⟨w4.heap.size, w4.heap.size + 1, BoxP w4.heap.size 41 (gcs g h4)⟩, ⟨w4.heap.size + 1, w5.heap.size, OwnP (w4.heap.size + 1) w5.heap.size 3 1 (.slice Bg mg dg) mg (icells (markI mg 1))⟩] w16) := Lib.hid (fm_below F15.out hb)
      clear F15 hb NH
      go_wp2_with fail
      refine (heldIntS_any Bg mg dg 1 _ (nr_own (fm_row F16.out 2 rfl)) (by omega) (by omega)).mono ?_
      rintro e w17 ⟨rfl, rfl⟩
      go_wp2
      go_ret
      exact ⟨rfl, below_seq B3.out F16.out.below⟩
  · have hle : (1048576 : Int) < (gsz g : Int) := by omega
    go_enter Try.func7, Try.ntmps7
    go_wp2_with fail
    refine (szGuard_any g h 1048576 _ (ga_below H.out B0.out) (by omega)).mono ?_
    rintro e w1 ⟨rfl, hb⟩
    rw [if_pos (by omega)]
    have B1 := Lib.hid (below_seq B0.out hb)
    clear hb hle hbig
    go_wp2
    go_ret
    exact ⟨rfl, B1.out⟩
end Go.Proofs.Ytiodhdcgfdlknaa.fnExactBytesOf
