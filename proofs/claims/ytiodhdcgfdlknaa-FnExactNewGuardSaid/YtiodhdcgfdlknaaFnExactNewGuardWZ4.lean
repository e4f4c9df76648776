/-
  The law FnExactNewGuard returns true at every argument: the program's NewGuard answers as the model's, writes into no argument, and its answer owns its memory. Conditions: none.
-/
import Derived.Test.YtiodhdcgfdlknaaKb7Z4
import Derived.Test.YtiodhdcgfdlknaaKbqZ4
import Derived.Test.YtiodhdcgfdlknaaKb6Z4
namespace Go.Proofs.Ytiodhdcgfdlknaa.fnExactNewGuard
open Go.ChangeShapes Go.WideShapes Go.ChangeAt Go.RowKit
theorem scj {w : World} {b : Nat} {t : TypeId} {s : St} {A : Option Addr} {n c : Nat} (B : Blk w b t (stc s A n c)) : (w.cell? ⟨b, 0, none⟩ = some (.int .i64 s.r) ∧ w.cell? ⟨b, 1, none⟩ = some (.int .i64 s.b) ∧ w.cell? ⟨b, 2, none⟩ = some (.int .i64 s.pr) ∧ w.cell? ⟨b, 3, none⟩ = some (.int .i64 s.pb) ∧ w.cell? ⟨b, 4, none⟩ = some (.int .i64 s.me) ∧ w.cell? ⟨b, 5, none⟩ = some (.int .i64 s.ea) ∧ w.cell? ⟨b, 6, none⟩ = some (.int .i64 s.q) ∧ w.cell? ⟨b, 7, none⟩ = some (.slice A n c)) :=
  ⟨blk_cell B 0, blk_cell B 1, blk_cell B 2, blk_cell B 3, blk_cell B 4, blk_cell B 5, blk_cell B 6, blk_cell B 7⟩
theorem ngR_sz (s : St) (t : Int) : gsz (ngR s t) ≤ 1048576 := by
  unfold ngR
  split
  · rename_i h
    have h2 := (newG_sz (s := s) (t := t) (ng_split.1 h).2.2.2).2
    simp [gsz, newG, newN, lsz, rsz, total, h2]
  · simp [gsz, gd0, lsz, rsz]
theorem both (s : St) (t : Int) : ∃ (g : Gd) (ok : Bool), gsz g ≤ 1048576 ∧ Hid (∀ (A : Option Addr) (n c : Nat) (w : World), NR w A n s.ws → n ≤ 4000000000 → Calls Try.prog 17 #[.agg (stc s A n c), .int .i64 t] w (GPost w g ok)) ∧ Hid (∀ (A : Option Addr) (n c : Nat) (w : World), NR w A n s.ws → n ≤ 4000000000 → Calls Try.prog 18 #[.agg (stc s A n c), .int .i64 t] w (GPost w g ok)) :=
  ⟨_, _, ngR_sz s t, Lib.hid fun A n c w h hm => ngS_any s t A n c w h hm, Lib.hid fun A n c w h hm => ngI_any s t A n c w h hm⟩
set_option maxRecDepth 100000 in
set_option maxHeartbeats 8000000 in
theorem walk (s : St) (A : Option Addr) (n c : Nat) (t : Int) (w : World) (h : NR w A n s.ws) (hn : n ≤ 9223372036854775807) (_hw : (Lit.int .i64 t).wf = true) :
    Calls Try.prog 4 #[.agg (stc s A n c), .int .i64 t] w fun e w' => e = .returned (.bool true) ∧ Below w.heap.size w w' := by
  have H := Lib.hid h
  have B0 := Lib.hid (below_alloc (Below.refl w.heap.size w) (.cells (stc s A n c) 24))
  have A0 := Lib.hid (blk_new w 24 (stc s A n c))
  clear h
  obtain ⟨q0, q1, q2, q3, q4, q5, q6, q7⟩ := sc_blk (A0.out)
  by_cases hbig : n ≤ 1048576
  · obtain ⟨g, ok, hg2, HS0, HI0⟩ := both s t
    have hcg := gsz_bd hg2
    have kg : 0 ≤ 1 + cntG g ∧ 1 + cntG g ≤ 16000000 := by unfold cntG; omega
    have kg0 : decide (1 + cntG g < 0) = false := by simp; omega
    have kn : 0 ≤ 1 + (n : Int) := by omega
    have kn0 : decide (1 + (n : Int) < 0) = false := by simp; omega
    have hle : ¬ (1048576 : Int) < (n : Int) := by omega
    have hd : decide ((1048576 : Int) - (n : Int) < 0) = false := by simp; omega
    have hd0 : 0 ≤ (1048576 : Int) - (n : Int) := by omega
    clear hcg
    go_enter Try.func4, Try.ntmps4
    go_wp2_with fail
    refine (szSettings_any s A n c 1048576 _ hn (by omega)).mono ?_
    rintro e w1 ⟨rfl, hb⟩
    rw [if_neg (by omega)]
    have B1 := Lib.hid (below_seq B0.out hb)
    have A1 := Lib.hid (blk_below A0.out hb (by simp))
    clear hb hle
    clear q0 q1 q2 q3 q4 q5 q6 q7
    obtain ⟨q0, q1, q2, q3, q4, q5, q6, q7⟩ := sc_blk (A1.out)
    go_wp2_with fail
    refine (toSettings_any s A n c _ (nr_below H.out B1.out) hbig).mono ?_
    rintro e w1b ⟨A2, c2, rfl, ho, hb⟩
    have X2 := Lib.hid (nr_own ho)
    have B2 := Lib.hid (below_seq B1.out hb)
    have A2b := Lib.hid (blk_below A1.out hb (blk_lt A1.out))
    clear hb ho
    clear q0 q1 q2 q3 q4 q5 q6 q7
    go_wp2_with fail
    refine (HS0.out A2 n c2 _ X2.out (by omega)).mono ?_
    rintro e w2 ⟨hw, iw, rfl, hG, hb⟩
    unfold gcs
    have B3 := Lib.hid (below_alloc (below_seq B2.out hb) (.cells #[.int .i64 g.tm, .int .i64 g.all.peer, .int .i64 g.all.lane, .int .i64 g.all.size, .int .i64 g.all.id, .slice hw.E hw.ne hw.ce, .int .i64 g.lim, .int .i64 g.ea, .slice hw.U hw.nu hw.cu, .slice hw.A hw.n hw.c, .slice hw.B hw.m hw.d, .slice hw.C hw.o hw.f, .slice hw.S hw.ns hw.cs] 41))
    have A3 := Lib.hid (blk_alloc (blk_below A2b.out hb (blk_lt A2b.out)) (.cells #[.int .i64 g.tm, .int .i64 g.all.peer, .int .i64 g.all.lane, .int .i64 g.all.size, .int .i64 g.all.id, .slice hw.E hw.ne hw.ce, .int .i64 g.lim, .int .i64 g.ea, .slice hw.U hw.nu hw.cu, .slice hw.A hw.n hw.c, .slice hw.B hw.m hw.d, .slice hw.C hw.o hw.f, .slice hw.S hw.ns hw.cs] 41))
    have FW := Lib.hid (gr_alloc (go_gr hG) (.cells #[.int .i64 g.tm, .int .i64 g.all.peer, .int .i64 g.all.lane, .int .i64 g.all.size, .int .i64 g.all.id, .slice hw.E hw.ne hw.ce, .int .i64 g.lim, .int .i64 g.ea, .slice hw.U hw.nu hw.cu, .slice hw.A hw.n hw.c, .slice hw.B hw.m hw.d, .slice hw.C hw.o hw.f, .slice hw.S hw.ns hw.cs] 41))
    have UB := Lib.hid (show Blk (w2.alloc (.cells #[.int .i64 g.tm, .int .i64 g.all.peer, .int .i64 g.all.lane, .int .i64 g.all.size, .int .i64 g.all.id, .slice hw.E hw.ne hw.ce, .int .i64 g.lim, .int .i64 g.ea, .slice hw.U hw.nu hw.cu, .slice hw.A hw.n hw.c, .slice hw.B hw.m hw.d, .slice hw.C hw.o hw.f, .slice hw.S hw.ns hw.cs] 41)) w2.heap.size 41 (gcs g hw) from blk_new w2 _ _)
    obtain ⟨q0, q1, q2, q3, q4, q5, q6, q7⟩ := sc_blk (blk_below A2b.out hb (blk_lt A2b.out))
    have zq := blk_lt (blk_below A2b.out hb (blk_lt A2b.out))
    clear hb hG X2 A2b B2
    go_wp2_with fail
    clear zq q0 q1 q2 q3 q4 q5 q6 q7
    obtain ⟨zz, hzz⟩ : ∃ zz, w2.heap.size = zz := ⟨_, rfl⟩
    generalize (w2.alloc (.cells #[.int .i64 g.tm, .int .i64 g.all.peer, .int .i64 g.all.lane, .int .i64 g.all.size, .int .i64 g.all.id, .slice hw.E hw.ne hw.ce, .int .i64 g.lim, .int .i64 g.ea, .slice hw.U hw.nu hw.cu, .slice hw.A hw.n hw.c, .slice hw.B hw.m hw.d, .slice hw.C hw.o hw.f, .slice hw.S hw.ns hw.cs] 41)) = w3 at B3 A3 FW UB ⊢
    rw [hzz] at UB ⊢
    have zu : zz < w3.heap.size := blk_lt UB.out
    have za : w.heap.size < w3.heap.size := blk_lt A3.out
    clear hzz
    have F3 : Hid (Fm w3 [] w3) := Lib.hid (fm_zero w3)
    refine (toSettings_any s A n c _ (nr_below H.out B3.out) hbig).mono ?_
    rintro e w4 ⟨A4, c4, rfl, ho, hb⟩
    unfold stc
    have F4 : Hid (Fm w3 [⟨w3.heap.size, w4.heap.size, OwnP w3.heap.size w4.heap.size 3 1 (.slice A4 n c4) n (icells s.ws)⟩] w4) := Lib.hid (fm_own F3.out hb ho rfl)
    have F4b : Hid (Fm w3 [⟨w3.heap.size, w4.heap.size, OwnP w3.heap.size w4.heap.size 3 1 (.slice A4 n c4) n (icells s.ws)⟩, ⟨w4.heap.size, w4.heap.size + 1, BoxP w4.heap.size 27 (stc s A4 n c4)⟩] (w4.alloc (.cells #[.int .i64 s.r, .int .i64 s.b, .int .i64 s.pr, .int .i64 s.pb, .int .i64 s.me, .int .i64 s.ea, .int .i64 s.q, .slice A4 n c4] 27))) := Lib.hid (fm_push F4.out rfl _ _)
    clear hb ho F3 F4
    obtain ⟨x0, x1, x2, x3, x4, x5, x6, x7⟩ := sc_blk (fm_blk F4b.out 1 rfl)
    go_wp2_with fail
    refine (HI0.out A4 n c4 _ (nr_own (fm_row F4b.out 0 rfl)) (by omega)).mono ?_
    rintro e w5 ⟨hg, ig, rfl, hG, hb⟩
    unfold gcs
    have F5 : Hid (Fm w3 [⟨w3.heap.size, w4.heap.size, OwnP w3.heap.size w4.heap.size 3 1 (.slice A4 n c4) n (icells s.ws)⟩, ⟨w4.heap.size, w4.heap.size + 1, BoxP w4.heap.size 27 (stc s A4 n c4)⟩, ⟨w4.heap.size + 1, w5.heap.size, GO (w4.heap.size + 1) w5.heap.size hg g ig⟩] w5) := Lib.hid (go_fm F4b.out hb hG (by simp))
    have F5b : Hid (Fm w3 [⟨w3.heap.size, w4.heap.size, OwnP w3.heap.size w4.heap.size 3 1 (.slice A4 n c4) n (icells s.ws)⟩, ⟨w4.heap.size, w4.heap.size + 1, BoxP w4.heap.size 27 (stc s A4 n c4)⟩, ⟨w4.heap.size + 1, w5.heap.size, GO (w4.heap.size + 1) w5.heap.size hg g ig⟩, ⟨w5.heap.size, w5.heap.size + 1, BoxP w5.heap.size 41 (gcs g hg)⟩] (w5.alloc (.cells #[.int .i64 g.tm, .int .i64 g.all.peer, .int .i64 g.all.lane, .int .i64 g.all.size, .int .i64 g.all.id, .slice hg.E hg.ne hg.ce, .int .i64 g.lim, .int .i64 g.ea, .slice hg.U hg.nu hg.cu, .slice hg.A hg.n hg.c, .slice hg.B hg.m hg.d, .slice hg.C hg.o hg.f, .slice hg.S hg.ns hg.cs] 41))) := Lib.hid (fm_push F5.out rfl _ _)
    clear hb hG F4b F5
    clear x0 x1 x2 x3 x4 x5 x6 x7
    obtain ⟨g0, g1, g2, g3, g4, g5, g6, g7, g8, g9, g10, g11, g12⟩ := gc_blk (fm_blk F5b.out 3 rfl)
    obtain ⟨u0, u1, u2, u3, u4, u5, u6, u7, u8, u9, u10, u11, u12⟩ := gc_blk (blk_below UB.out F5b.out.below zu)
    go_wp2_with fail
    refine (eqGuard_same g hg hw _ (go_gr (fm_get F5b.out 2 rfl)) (gr_below FW.out F5b.out.below)).mono ?_
    rintro e w6 ⟨rfl, hb⟩
    have F6 : Hid (Fm w3 [⟨w3.heap.size, w4.heap.size, OwnP w3.heap.size w4.heap.size 3 1 (.slice A4 n c4) n (icells s.ws)⟩, ⟨w4.heap.size, w4.heap.size + 1, BoxP w4.heap.size 27 (stc s A4 n c4)⟩, ⟨w4.heap.size + 1, w5.heap.size, GO (w4.heap.size + 1) w5.heap.size hg g ig⟩, ⟨w5.heap.size, w5.heap.size + 1, BoxP w5.heap.size 41 (gcs g hg)⟩] w6) := Lib.hid (fm_below F5b.out hb)
    clear hb F5b
    clear g0 g1 g2 g3 g4 g5 g6 g7 g8 g9 g10 g11 g12 u0 u1 u2 u3 u4 u5 u6 u7 u8 u9 u10 u11 u12
    have hS : ((w6.drew.cell? ⟨w.heap.size, 0, none⟩ = some (.int .i64 s.r) ∧ w6.drew.cell? ⟨w.heap.size, 1, none⟩ = some (.int .i64 s.b) ∧ w6.drew.cell? ⟨w.heap.size, 2, none⟩ = some (.int .i64 s.pr) ∧ w6.drew.cell? ⟨w.heap.size, 3, none⟩ = some (.int .i64 s.pb) ∧ w6.drew.cell? ⟨w.heap.size, 4, none⟩ = some (.int .i64 s.me) ∧ w6.drew.cell? ⟨w.heap.size, 5, none⟩ = some (.int .i64 s.ea) ∧ w6.drew.cell? ⟨w.heap.size, 6, none⟩ = some (.int .i64 s.q) ∧ w6.drew.cell? ⟨w.heap.size, 7, none⟩ = some (.slice A n c)) ∧ (w6.drew.cell? ⟨w4.heap.size, 0, none⟩ = some (.int .i64 s.r) ∧ w6.drew.cell? ⟨w4.heap.size, 1, none⟩ = some (.int .i64 s.b) ∧ w6.drew.cell? ⟨w4.heap.size, 2, none⟩ = some (.int .i64 s.pr) ∧ w6.drew.cell? ⟨w4.heap.size, 3, none⟩ = some (.int .i64 s.pb) ∧ w6.drew.cell? ⟨w4.heap.size, 4, none⟩ = some (.int .i64 s.me) ∧ w6.drew.cell? ⟨w4.heap.size, 5, none⟩ = some (.int .i64 s.ea) ∧ w6.drew.cell? ⟨w4.heap.size, 6, none⟩ = some (.int .i64 s.q) ∧ w6.drew.cell? ⟨w4.heap.size, 7, none⟩ = some (.slice A4 n c4))) ∧ Fm w3 [⟨w3.heap.size, w4.heap.size, OwnP w3.heap.size w4.heap.size 3 1 (.slice A4 n c4) n (icells s.ws)⟩, ⟨w4.heap.size, w4.heap.size + 1, BoxP w4.heap.size 27 (stc s A4 n c4)⟩, ⟨w4.heap.size + 1, w5.heap.size, GO (w4.heap.size + 1) w5.heap.size hg g ig⟩, ⟨w5.heap.size, w5.heap.size + 1, BoxP w5.heap.size 41 (gcs g hg)⟩] w6.drew := ⟨⟨scj (blk_below A3.out (fm_drew F6.out).below za), scj (fm_blk (fm_drew F6.out) 1 rfl)⟩, fm_drew F6.out⟩
    go_wp2_with fail
    go_region_held3 (fun w' => ((w'.cell? ⟨w.heap.size, 0, none⟩ = some (.int .i64 s.r) ∧ w'.cell? ⟨w.heap.size, 1, none⟩ = some (.int .i64 s.b) ∧ w'.cell? ⟨w.heap.size, 2, none⟩ = some (.int .i64 s.pr) ∧ w'.cell? ⟨w.heap.size, 3, none⟩ = some (.int .i64 s.pb) ∧ w'.cell? ⟨w.heap.size, 4, none⟩ = some (.int .i64 s.me) ∧ w'.cell? ⟨w.heap.size, 5, none⟩ = some (.int .i64 s.ea) ∧ w'.cell? ⟨w.heap.size, 6, none⟩ = some (.int .i64 s.q) ∧ w'.cell? ⟨w.heap.size, 7, none⟩ = some (.slice A n c)) ∧ (w'.cell? ⟨w4.heap.size, 0, none⟩ = some (.int .i64 s.r) ∧ w'.cell? ⟨w4.heap.size, 1, none⟩ = some (.int .i64 s.b) ∧ w'.cell? ⟨w4.heap.size, 2, none⟩ = some (.int .i64 s.pr) ∧ w'.cell? ⟨w4.heap.size, 3, none⟩ = some (.int .i64 s.pb) ∧ w'.cell? ⟨w4.heap.size, 4, none⟩ = some (.int .i64 s.me) ∧ w'.cell? ⟨w4.heap.size, 5, none⟩ = some (.int .i64 s.ea) ∧ w'.cell? ⟨w4.heap.size, 6, none⟩ = some (.int .i64 s.q) ∧ w'.cell? ⟨w4.heap.size, 7, none⟩ = some (.slice A4 n c4))) ∧ Fm w3 [⟨w3.heap.size, w4.heap.size, OwnP w3.heap.size w4.heap.size 3 1 (.slice A4 n c4) n (icells s.ws)⟩, ⟨w4.heap.size, w4.heap.size + 1, BoxP w4.heap.size 27 (stc s A4 n c4)⟩, ⟨w4.heap.size + 1, w5.heap.size, GO (w4.heap.size + 1) w5.heap.size hg g ig⟩, ⟨w5.heap.size, w5.heap.size + 1, BoxP w5.heap.size 41 (gcs g hg)⟩] w')
      (first | (with_reducible assumption) | fail)
      (first
        | (go_at_call 16
           refine (eqSettings_same s A4 A6 n c4 n c6 _ (nr_own (fm_row FX7.out 0 rfl)) PX6.out (by omega) (by omega)).mono ?_
           rintro e w8 ⟨rfl, hb7⟩
           have F8 : Hid (Fm w3 [⟨w3.heap.size, w4.heap.size, OwnP w3.heap.size w4.heap.size 3 1 (.slice A4 n c4) n (icells s.ws)⟩, ⟨w4.heap.size, w4.heap.size + 1, BoxP w4.heap.size 27 (stc s A4 n c4)⟩, ⟨w4.heap.size + 1, w5.heap.size, GO (w4.heap.size + 1) w5.heap.size hg g ig⟩, ⟨w5.heap.size, w5.heap.size + 1, BoxP w5.heap.size 41 (gcs g hg)⟩] w8) := Lib.hid (fm_below FX7.out hb7)
           have hS8 : ((w8.cell? ⟨w.heap.size, 0, none⟩ = some (.int .i64 s.r) ∧ w8.cell? ⟨w.heap.size, 1, none⟩ = some (.int .i64 s.b) ∧ w8.cell? ⟨w.heap.size, 2, none⟩ = some (.int .i64 s.pr) ∧ w8.cell? ⟨w.heap.size, 3, none⟩ = some (.int .i64 s.pb) ∧ w8.cell? ⟨w.heap.size, 4, none⟩ = some (.int .i64 s.me) ∧ w8.cell? ⟨w.heap.size, 5, none⟩ = some (.int .i64 s.ea) ∧ w8.cell? ⟨w.heap.size, 6, none⟩ = some (.int .i64 s.q) ∧ w8.cell? ⟨w.heap.size, 7, none⟩ = some (.slice A n c)) ∧ (w8.cell? ⟨w4.heap.size, 0, none⟩ = some (.int .i64 s.r) ∧ w8.cell? ⟨w4.heap.size, 1, none⟩ = some (.int .i64 s.b) ∧ w8.cell? ⟨w4.heap.size, 2, none⟩ = some (.int .i64 s.pr) ∧ w8.cell? ⟨w4.heap.size, 3, none⟩ = some (.int .i64 s.pb) ∧ w8.cell? ⟨w4.heap.size, 4, none⟩ = some (.int .i64 s.me) ∧ w8.cell? ⟨w4.heap.size, 5, none⟩ = some (.int .i64 s.ea) ∧ w8.cell? ⟨w4.heap.size, 6, none⟩ = some (.int .i64 s.q) ∧ w8.cell? ⟨w4.heap.size, 7, none⟩ = some (.slice A4 n c4))) ∧ Fm w3 [⟨w3.heap.size, w4.heap.size, OwnP w3.heap.size w4.heap.size 3 1 (.slice A4 n c4) n (icells s.ws)⟩, ⟨w4.heap.size, w4.heap.size + 1, BoxP w4.heap.size 27 (stc s A4 n c4)⟩, ⟨w4.heap.size + 1, w5.heap.size, GO (w4.heap.size + 1) w5.heap.size hg g ig⟩, ⟨w5.heap.size, w5.heap.size + 1, BoxP w5.heap.size 41 (gcs g hg)⟩] w8 := ⟨⟨scj (blk_below A3.out F8.out.below za), scj (fm_blk F8.out 1 rfl)⟩, F8.out⟩
           clear hb7)
        | (go_at_call 14
           refine (toSettings_any s A n c _ (nr_below H.out (below_seq B3.out (fm_drew F6.out).below)) hbig).mono ?_
           rintro e w7 ⟨A6, c6, rfl, ho6, hb6⟩
           have PX6 := Lib.hid (nr_own ho6)
           have FX7 : Hid (Fm w3 [⟨w3.heap.size, w4.heap.size, OwnP w3.heap.size w4.heap.size 3 1 (.slice A4 n c4) n (icells s.ws)⟩, ⟨w4.heap.size, w4.heap.size + 1, BoxP w4.heap.size 27 (stc s A4 n c4)⟩, ⟨w4.heap.size + 1, w5.heap.size, GO (w4.heap.size + 1) w5.heap.size hg g ig⟩, ⟨w5.heap.size, w5.heap.size + 1, BoxP w5.heap.size 41 (gcs g hg)⟩] w7) := Lib.hid (fm_below (fm_drew F6.out) hb6)
           have hS7 : ((w7.cell? ⟨w.heap.size, 0, none⟩ = some (.int .i64 s.r) ∧ w7.cell? ⟨w.heap.size, 1, none⟩ = some (.int .i64 s.b) ∧ w7.cell? ⟨w.heap.size, 2, none⟩ = some (.int .i64 s.pr) ∧ w7.cell? ⟨w.heap.size, 3, none⟩ = some (.int .i64 s.pb) ∧ w7.cell? ⟨w.heap.size, 4, none⟩ = some (.int .i64 s.me) ∧ w7.cell? ⟨w.heap.size, 5, none⟩ = some (.int .i64 s.ea) ∧ w7.cell? ⟨w.heap.size, 6, none⟩ = some (.int .i64 s.q) ∧ w7.cell? ⟨w.heap.size, 7, none⟩ = some (.slice A n c)) ∧ (w7.cell? ⟨w4.heap.size, 0, none⟩ = some (.int .i64 s.r) ∧ w7.cell? ⟨w4.heap.size, 1, none⟩ = some (.int .i64 s.b) ∧ w7.cell? ⟨w4.heap.size, 2, none⟩ = some (.int .i64 s.pr) ∧ w7.cell? ⟨w4.heap.size, 3, none⟩ = some (.int .i64 s.pb) ∧ w7.cell? ⟨w4.heap.size, 4, none⟩ = some (.int .i64 s.me) ∧ w7.cell? ⟨w4.heap.size, 5, none⟩ = some (.int .i64 s.ea) ∧ w7.cell? ⟨w4.heap.size, 6, none⟩ = some (.int .i64 s.q) ∧ w7.cell? ⟨w4.heap.size, 7, none⟩ = some (.slice A4 n c4))) ∧ Fm w3 [⟨w3.heap.size, w4.heap.size, OwnP w3.heap.size w4.heap.size 3 1 (.slice A4 n c4) n (icells s.ws)⟩, ⟨w4.heap.size, w4.heap.size + 1, BoxP w4.heap.size 27 (stc s A4 n c4)⟩, ⟨w4.heap.size + 1, w5.heap.size, GO (w4.heap.size + 1) w5.heap.size hg g ig⟩, ⟨w5.heap.size, w5.heap.size + 1, BoxP w5.heap.size 41 (gcs g hg)⟩] w7 := ⟨⟨scj (blk_below A3.out FX7.out.below za), scj (fm_blk FX7.out 1 rfl)⟩, FX7.out⟩
           clear hb6 ho6))
    all_goals
      clear PX6 FX7 F6 hS hS7 hS8
      obtain ⟨x0, x1, x2, x3, x4, x5, x6, x7⟩ := sc_blk (fm_blk F8.out 1 rfl)
      go_wp2_with fail
      refine (markSettings_any s w3.heap.size A4 n c4 1 s.ws _ (fm_row F8.out 0 rfl) (by omega) (by omega)).mono ?_
      rintro e w9 ⟨rfl, ho, hgr⟩
      have F9 : Hid (Fm w3 [⟨w3.heap.size, w4.heap.size, OwnP w3.heap.size w4.heap.size 3 1 (.slice A4 n c4) n (icells (markI n 1))⟩, ⟨w4.heap.size, w4.heap.size + 1, BoxP w4.heap.size 27 (stc s A4 n c4)⟩, ⟨w4.heap.size + 1, w5.heap.size, GO (w4.heap.size + 1) w5.heap.size hg g ig⟩, ⟨w5.heap.size, w5.heap.size + 1, BoxP w5.heap.size 41 (gcs g hg)⟩] w9) := Lib.hid (fm_mark F8.out 0 rfl hgr ho)
      clear ho hgr F8
      clear x0 x1 x2 x3 x4 x5 x6 x7
      obtain ⟨g0, g1, g2, g3, g4, g5, g6, g7, g8, g9, g10, g11, g12⟩ := gc_blk (fm_blk F9.out 3 rfl)
      obtain ⟨u0, u1, u2, u3, u4, u5, u6, u7, u8, u9, u10, u11, u12⟩ := gc_blk (blk_below UB.out F9.out.below zu)
      go_wp2_with fail
      refine (eqGuard_same g hg hw _ (go_gr (fm_get F9.out 2 rfl)) (gr_below FW.out F9.out.below)).mono ?_
      rintro e w10 ⟨rfl, hb⟩
      have F10 : Hid (Fm w3 [⟨w3.heap.size, w4.heap.size, OwnP w3.heap.size w4.heap.size 3 1 (.slice A4 n c4) n (icells (markI n 1))⟩, ⟨w4.heap.size, w4.heap.size + 1, BoxP w4.heap.size 27 (stc s A4 n c4)⟩, ⟨w4.heap.size + 1, w5.heap.size, GO (w4.heap.size + 1) w5.heap.size hg g ig⟩, ⟨w5.heap.size, w5.heap.size + 1, BoxP w5.heap.size 41 (gcs g hg)⟩] w10) := Lib.hid (fm_below F9.out hb)
      clear hb F9
      clear g0 g1 g2 g3 g4 g5 g6 g7 g8 g9 g10 g11 g12 u0 u1 u2 u3 u4 u5 u6 u7 u8 u9 u10 u11 u12
      obtain ⟨g0, g1, g2, g3, g4, g5, g6, g7, g8, g9, g10, g11, g12⟩ := gc_blk (fm_blk F10.out 3 rfl)
      go_wp2_with fail
      refine (markGuard_any (w4.heap.size + 1) w5.heap.size hg g ig 1 _ (fm_get F10.out 2 rfl) (fm_lt F10.out 2 rfl).2.2 hg2 (by omega)).mono ?_
      rintro e w12 ⟨cur, rfl, hD, hc⟩
      have F12 : Hid (Fm w3 [⟨w3.heap.size, w4.heap.size, OwnP w3.heap.size w4.heap.size 3 1 (.slice A4 n c4) n (icells (markI n 1))⟩, ⟨w4.heap.size, w4.heap.size + 1, BoxP w4.heap.size 27 (stc s A4 n c4)⟩, ⟨w4.heap.size + 1, w5.heap.size, GO (w4.heap.size + 1) w5.heap.size hg (markG g 1) ⟨ig.e0, ig.e1, ig.u0, ig.u1, ig.l0, ig.l1, ig.s0, ig.s1, cur, ig.iv⟩⟩, ⟨w5.heap.size, w5.heap.size + 1, BoxP w5.heap.size 41 (gcs g hg)⟩] w12) := Lib.hid (fm_put F10.out 2 rfl hc (at_go hD (Nat.le_trans (fm_lt F10.out 2 rfl).2.2 hc.size)))
      clear hD hc F10
      clear g0 g1 g2 g3 g4 g5 g6 g7 g8 g9 g10 g11 g12
      obtain ⟨g0, g1, g2, g3, g4, g5, g6, g7, g8, g9, g10, g11, g12⟩ := gc_blk (fm_blk F12.out 3 rfl)
      go_wp2_with fail
      refine (heldGuard_any hg g 1 _ (go_gr (fm_get F12.out 2 rfl)) hg2 (by omega)).mono ?_
      rintro e w13 ⟨rfl, hb⟩
      have F13 : Hid (Fm w3 [⟨w3.heap.size, w4.heap.size, OwnP w3.heap.size w4.heap.size 3 1 (.slice A4 n c4) n (icells (markI n 1))⟩, ⟨w4.heap.size, w4.heap.size + 1, BoxP w4.heap.size 27 (stc s A4 n c4)⟩, ⟨w4.heap.size + 1, w5.heap.size, GO (w4.heap.size + 1) w5.heap.size hg (markG g 1) ⟨ig.e0, ig.e1, ig.u0, ig.u1, ig.l0, ig.l1, ig.s0, ig.s1, cur, ig.iv⟩⟩, ⟨w5.heap.size, w5.heap.size + 1, BoxP w5.heap.size 41 (gcs g hg)⟩] w13) := Lib.hid (fm_below F12.out hb)
      clear hb F12
      clear g0 g1 g2 g3 g4 g5 g6 g7 g8 g9 g10 g11 g12
      obtain ⟨q0, q1, q2, q3, q4, q5, q6, q7⟩ := sc_blk (blk_below A3.out F13.out.below za)
      go_wp2_with fail
      refine (toSettings_any s A n c _ (nr_below H.out (below_seq B3.out F13.out.below)) hbig).mono ?_
      rintro e w14 ⟨A14, c14, rfl, ho, hb⟩
      have F14 : Hid (Fm w3 [⟨w3.heap.size, w4.heap.size, OwnP w3.heap.size w4.heap.size 3 1 (.slice A4 n c4) n (icells (markI n 1))⟩, ⟨w4.heap.size, w4.heap.size + 1, BoxP w4.heap.size 27 (stc s A4 n c4)⟩, ⟨w4.heap.size + 1, w5.heap.size, GO (w4.heap.size + 1) w5.heap.size hg (markG g 1) ⟨ig.e0, ig.e1, ig.u0, ig.u1, ig.l0, ig.l1, ig.s0, ig.s1, cur, ig.iv⟩⟩, ⟨w5.heap.size, w5.heap.size + 1, BoxP w5.heap.size 41 (gcs g hg)⟩] w14) := Lib.hid (fm_below F13.out hb)
      have N14 := Lib.hid (nr_own ho)
      clear hb ho F13
      clear q0 q1 q2 q3 q4 q5 q6 q7
      go_wp2_with fail
      refine (HI0.out A14 n c14 _ N14.out (by omega)).mono ?_
      rintro e w15 ⟨hh, ih, rfl, hG, hb⟩
      unfold gcs
      have F15 : Hid (Fm w3 [⟨w3.heap.size, w4.heap.size, OwnP w3.heap.size w4.heap.size 3 1 (.slice A4 n c4) n (icells (markI n 1))⟩, ⟨w4.heap.size, w4.heap.size + 1, BoxP w4.heap.size 27 (stc s A4 n c4)⟩, ⟨w4.heap.size + 1, w5.heap.size, GO (w4.heap.size + 1) w5.heap.size hg (markG g 1) ⟨ig.e0, ig.e1, ig.u0, ig.u1, ig.l0, ig.l1, ig.s0, ig.s1, cur, ig.iv⟩⟩, ⟨w5.heap.size, w5.heap.size + 1, BoxP w5.heap.size 41 (gcs g hg)⟩] (w15.alloc (.cells #[.int .i64 g.tm, .int .i64 g.all.peer, .int .i64 g.all.lane, .int .i64 g.all.size, .int .i64 g.all.id, .slice hh.E hh.ne hh.ce, .int .i64 g.lim, .int .i64 g.ea, .slice hh.U hh.nu hh.cu, .slice hh.A hh.n hh.c, .slice hh.B hh.m hh.d, .slice hh.C hh.o hh.f, .slice hh.S hh.ns hh.cs] 41))) := Lib.hid (fm_alloc (fm_below F14.out hb) _)
      have FH := Lib.hid (gr_alloc (go_gr hG) (.cells #[.int .i64 g.tm, .int .i64 g.all.peer, .int .i64 g.all.lane, .int .i64 g.all.size, .int .i64 g.all.id, .slice hh.E hh.ne hh.ce, .int .i64 g.lim, .int .i64 g.ea, .slice hh.U hh.nu hh.cu, .slice hh.A hh.n hh.c, .slice hh.B hh.m hh.d, .slice hh.C hh.o hh.f, .slice hh.S hh.ns hh.cs] 41))
      have HX := Lib.hid (show Blk (w15.alloc (.cells #[.int .i64 g.tm, .int .i64 g.all.peer, .int .i64 g.all.lane, .int .i64 g.all.size, .int .i64 g.all.id, .slice hh.E hh.ne hh.ce, .int .i64 g.lim, .int .i64 g.ea, .slice hh.U hh.nu hh.cu, .slice hh.A hh.n hh.c, .slice hh.B hh.m hh.d, .slice hh.C hh.o hh.f, .slice hh.S hh.ns hh.cs] 41)) w15.heap.size 41 (gcs g hh) from blk_new w15 _ _)
      clear hb hG F14 N14
      obtain ⟨g0, g1, g2, g3, g4, g5, g6, g7, g8, g9, g10, g11, g12⟩ := gc_blk (HX.out)
      obtain ⟨u0, u1, u2, u3, u4, u5, u6, u7, u8, u9, u10, u11, u12⟩ := gc_blk (blk_below UB.out F15.out.below zu)
      go_wp2_with fail
      refine (eqGuard_same g hh hw _ (FH.out) (gr_below FW.out F15.out.below)).mono ?_
      rintro e w16 ⟨rfl, hb⟩
      have F16 : Hid (Fm w3 [⟨w3.heap.size, w4.heap.size, OwnP w3.heap.size w4.heap.size 3 1 (.slice A4 n c4) n (icells (markI n 1))⟩, ⟨w4.heap.size, w4.heap.size + 1, BoxP w4.heap.size 27 (stc s A4 n c4)⟩, ⟨w4.heap.size + 1, w5.heap.size, GO (w4.heap.size + 1) w5.heap.size hg (markG g 1) ⟨ig.e0, ig.e1, ig.u0, ig.u1, ig.l0, ig.l1, ig.s0, ig.s1, cur, ig.iv⟩⟩, ⟨w5.heap.size, w5.heap.size + 1, BoxP w5.heap.size 41 (gcs g hg)⟩] w16) := Lib.hid (fm_below F15.out hb)
      clear hb F15
      clear g0 g1 g2 g3 g4 g5 g6 g7 g8 g9 g10 g11 g12 u0 u1 u2 u3 u4 u5 u6 u7 u8 u9 u10 u11 u12
      obtain ⟨g0, g1, g2, g3, g4, g5, g6, g7, g8, g9, g10, g11, g12⟩ := gc_blk (fm_blk F16.out 3 rfl)
      go_wp2_with fail
      refine (heldGuard_any hg g 1 _ (go_gr (fm_get F16.out 2 rfl)) hg2 (by omega)).mono ?_
      rintro e w17 ⟨rfl, hb⟩
      have F17 : Hid (Fm w3 [⟨w3.heap.size, w4.heap.size, OwnP w3.heap.size w4.heap.size 3 1 (.slice A4 n c4) n (icells (markI n 1))⟩, ⟨w4.heap.size, w4.heap.size + 1, BoxP w4.heap.size 27 (stc s A4 n c4)⟩, ⟨w4.heap.size + 1, w5.heap.size, GO (w4.heap.size + 1) w5.heap.size hg (markG g 1) ⟨ig.e0, ig.e1, ig.u0, ig.u1, ig.l0, ig.l1, ig.s0, ig.s1, cur, ig.iv⟩⟩, ⟨w5.heap.size, w5.heap.size + 1, BoxP w5.heap.size 41 (gcs g hg)⟩] w17) := Lib.hid (fm_below F16.out hb)
      clear hb F16
      clear g0 g1 g2 g3 g4 g5 g6 g7 g8 g9 g10 g11 g12
      go_wp2
      go_ret
      exact ⟨rfl, below_seq B3.out F17.out.below⟩
  · have hle : (1048576 : Int) < (n : Int) := by omega
    go_enter Try.func4, Try.ntmps4
    go_wp2_with fail
    refine (szSettings_any s A n c 1048576 _ hn (by omega)).mono ?_
    rintro e w1 ⟨rfl, hb⟩
    rw [if_pos (by omega)]
    have B1 := Lib.hid (below_seq B0.out hb)
    clear hb hle hbig
    go_wp2
    go_ret
    exact ⟨rfl, B1.out⟩
end Go.Proofs.Ytiodhdcgfdlknaa.fnExactNewGuard
