/-
  The law FnExactOverShare returns true at every argument: the program's OverShare answers as the model's, writes into no argument, and its answer owns its memory. Conditions: none.
-/
import Derived.Test.YtkbjelchihdajabExA
namespace Go.Proofs.Ytkbjelchihdajab.fnExactOverShare
open Go.ChangeShapes Go.WideShapes Go.ChangeAt Go.RowKit

theorem over_both (lim each : Int) (us : List Int) : ∃ (R : List Int) (ok : Bool), R.length ≤ 8 ∧
    Hid (∀ (A : Option Addr) (n c : Nat) (w : World), NR w A n us → n ≤ 4000000000 → Calls Try.prog 23 #[.agg #[.int .i64 lim, .int .i64 each, (.slice A n c)]] w (LPost w R ok)) ∧
    Hid (∀ (A : Option Addr) (n c : Nat) (w : World), NR w A n us → n ≤ 4000000000 → Calls Try.prog 22 #[.agg #[.int .i64 lim, .int .i64 each, (.slice A n c)]] w (LPost w R ok)) := by
  rcases hk : acB lim each us with _ | _
  · exact ⟨[], false, by simp, Lib.hid fun A n c w h hn => overS_no lim each A n c us w h (by omega) hk, Lib.hid fun A n c w h hn => overI_no lim each A n c us w h (by omega) hk⟩
  · exact ⟨overL us, true, over_len _ _ _, Lib.hid fun A n c w h _ => (overS_yes lim each A n c us w h hk).mono fun _ _ h => h.1, Lib.hid fun A n c w h _ => (overI_yes lim each A n c us w h hk).mono fun _ _ h => h.1⟩

set_option maxHeartbeats 8000000 in
theorem walk (lim each : Int) (A : Option Addr) (n c : Nat) (us : List Int) (w : World) (h : NR w A n us) (hn : n ≤ 9223372036854775807)  :
    Calls Try.prog 13 #[.agg #[.int .i64 lim, .int .i64 each, (.slice A n c)]] w fun e w' => e = .returned (.bool true) ∧ Below w.heap.size w w' := by
  have H := Lib.hid h
  by_cases hbig : n ≤ 1048576
  · obtain ⟨R, ok, hR, HS0, HI0⟩ := over_both lim each us
    have hd : 0 ≤ (1048576 : Int) - (n : Int) := by omega
    have OLD := Lib.hid (nr_old h)
    clear h OLD
    have F0 : Hid (Fm w [⟨w.heap.size, w.heap.size + 1, BoxP (w.heap.size) 43 #[.int .i64 lim, .int .i64 each, (.slice A n c)]⟩] (w.alloc (.cells #[.int .i64 lim, .int .i64 each, (.slice A n c)] 43))) := Lib.hid (fm_box (fm_zero w) _ _)
    go_enter Try.func13, Try.ntmps13
    go_wp2_with fail
    refine (szAccount_any lim each A n c 1048576 _ hn (by omega)).mono ?_
    rintro e w1 ⟨rfl, hb⟩
    rw [if_neg (by omega)]
    have F1 : Hid (Fm w [⟨w.heap.size, w.heap.size + 1, BoxP (w.heap.size) 43 #[.int .i64 lim, .int .i64 each, (.slice A n c)]⟩] w1) := Lib.hid (fm_below F0.out hb)
    clear F0
    clear hb
    obtain ⟨⟨q0, q1, q2⟩, -⟩ := blk_three (fm_blk F1.out 0 rfl)
    go_wp2_with fail
    refine (toAccount_any lim each A n c us _ (nr_below H.out F1.out.below) hbig).mono ?_
    rintro e w2 ⟨A2, c2, rfl, ho, hb⟩
    have X2 := Lib.hid (nr_own ho)
    have F2 : Hid (Fm w [⟨w.heap.size, w.heap.size + 1, BoxP (w.heap.size) 43 #[.int .i64 lim, .int .i64 each, (.slice A n c)]⟩] w2) := Lib.hid (fm_below F1.out hb)
    clear F1
    clear hb ho
    clear q0 q1 q2
    go_wp2_with fail
    refine (HS0.out A2 n c2 _ X2.out (by omega)).mono ?_
    rintro e w3 ⟨Aw, nw, cw, rfl, hnw, ho, hb⟩
    have lnw : nw ≤ 1048576 := by omega
    have F3 : Hid (Fm w [⟨w.heap.size, w.heap.size + 1, BoxP (w.heap.size) 43 #[.int .i64 lim, .int .i64 each, (.slice A n c)]⟩, ⟨w2.heap.size, w3.heap.size, OwnP (w2.heap.size) (w3.heap.size) 3 1 (.slice Aw nw cw) nw (icells R)⟩] w3) := Lib.hid (fm_own F2.out hb ho rfl)
    clear F2
    clear hb ho hnw
    obtain ⟨⟨q0, q1, q2⟩, -⟩ := blk_three (fm_blk F3.out 0 rfl)
    go_wp2_with fail
    refine (toAccount_any lim each A n c us _ (nr_below H.out F3.out.below) hbig).mono ?_
    rintro e w4 ⟨A4, c4, rfl, ho, hb⟩
    have F4 : Hid (Fm w [⟨w.heap.size, w.heap.size + 1, BoxP (w.heap.size) 43 #[.int .i64 lim, .int .i64 each, (.slice A n c)]⟩, ⟨w2.heap.size, w3.heap.size, OwnP (w2.heap.size) (w3.heap.size) 3 1 (.slice Aw nw cw) nw (icells R)⟩, ⟨w3.heap.size, w4.heap.size, OwnP (w3.heap.size) (w4.heap.size) 3 1 (.slice A4 n c4) n (icells us)⟩] w4) := Lib.hid (fm_own F3.out hb ho rfl)
    clear F3
    clear hb ho
    clear q0 q1 q2
    have F4b : Hid (Fm w [⟨w.heap.size, w.heap.size + 1, BoxP (w.heap.size) 43 #[.int .i64 lim, .int .i64 each, (.slice A n c)]⟩, ⟨w2.heap.size, w3.heap.size, OwnP (w2.heap.size) (w3.heap.size) 3 1 (.slice Aw nw cw) nw (icells R)⟩, ⟨w3.heap.size, w4.heap.size, OwnP (w3.heap.size) (w4.heap.size) 3 1 (.slice A4 n c4) n (icells us)⟩, ⟨w4.heap.size, w4.heap.size + 1, BoxP (w4.heap.size) 31 #[.int .i64 lim, .int .i64 each, (.slice A4 n c4)]⟩] (w4.alloc (.cells #[.int .i64 lim, .int .i64 each, (.slice A4 n c4)] 31))) := Lib.hid (fm_box F4.out _ _)
    clear F4
    obtain ⟨⟨x0, x1, x2⟩, -⟩ := blk_three (fm_blk F4b.out 3 rfl)
    go_wp2_with fail
    refine (HI0.out A4 n c4 _ (nr_own (fm_row F4b.out 2 rfl)) (by omega)).mono ?_
    rintro e w5 ⟨Ag, ng, cg, rfl, hng, ho, hb⟩
    have lng : ng ≤ 1048576 := by omega
    have F5 : Hid (Fm w [⟨w.heap.size, w.heap.size + 1, BoxP (w.heap.size) 43 #[.int .i64 lim, .int .i64 each, (.slice A n c)]⟩, ⟨w2.heap.size, w3.heap.size, OwnP (w2.heap.size) (w3.heap.size) 3 1 (.slice Aw nw cw) nw (icells R)⟩, ⟨w3.heap.size, w4.heap.size, OwnP (w3.heap.size) (w4.heap.size) 3 1 (.slice A4 n c4) n (icells us)⟩, ⟨w4.heap.size, w4.heap.size + 1, BoxP (w4.heap.size) 31 #[.int .i64 lim, .int .i64 each, (.slice A4 n c4)]⟩, ⟨w4.heap.size + 1, w5.heap.size, OwnP (w4.heap.size + 1) (w5.heap.size) 3 1 (.slice Ag ng cg) ng (icells R)⟩] w5) := Lib.hid (fm_own F4b.out hb ho (by simp))
    clear F4b
    clear hb ho hng
    clear x0 x1 x2
    go_wp2_with fail
    refine (eqIntS_any Ag Aw ng cg nw cw R R _ (nr_own (fm_row F5.out 4 rfl)) (nr_own (fm_row F5.out 1 rfl)) (by omega) (by omega)).mono ?_
    rintro e w8 ⟨rfl, hb⟩
    rw [← ints_yes rfl]
    have F8 : Hid (Fm w [⟨w.heap.size, w.heap.size + 1, BoxP (w.heap.size) 43 #[.int .i64 lim, .int .i64 each, (.slice A n c)]⟩, ⟨w2.heap.size, w3.heap.size, OwnP (w2.heap.size) (w3.heap.size) 3 1 (.slice Aw nw cw) nw (icells R)⟩, ⟨w3.heap.size, w4.heap.size, OwnP (w3.heap.size) (w4.heap.size) 3 1 (.slice A4 n c4) n (icells us)⟩, ⟨w4.heap.size, w4.heap.size + 1, BoxP (w4.heap.size) 31 #[.int .i64 lim, .int .i64 each, (.slice A4 n c4)]⟩, ⟨w4.heap.size + 1, w5.heap.size, OwnP (w4.heap.size + 1) (w5.heap.size) 3 1 (.slice Ag ng cg) ng (icells R)⟩] w8) := Lib.hid (fm_below F5.out hb)
    clear F5
    clear hb
    have hS := fm_rd33 (fm_drew F8.out) 0 3 rfl rfl
    go_wp2_with fail
    go_region_held3 (fun w' => (w'.cell? ⟨w.heap.size, 0, none⟩ = some (.int .i64 lim) ∧ w'.cell? ⟨w.heap.size, 1, none⟩ = some (.int .i64 each) ∧ w'.cell? ⟨w.heap.size, 2, none⟩ = some (.slice A n c)) ∧ (w'.cell? ⟨w4.heap.size, 0, none⟩ = some (.int .i64 lim) ∧ w'.cell? ⟨w4.heap.size, 1, none⟩ = some (.int .i64 each) ∧ w'.cell? ⟨w4.heap.size, 2, none⟩ = some (.slice A4 n c4)) ∧ Fm w [⟨w.heap.size, w.heap.size + 1, BoxP (w.heap.size) 43 #[.int .i64 lim, .int .i64 each, (.slice A n c)]⟩, ⟨w2.heap.size, w3.heap.size, OwnP (w2.heap.size) (w3.heap.size) 3 1 (.slice Aw nw cw) nw (icells R)⟩, ⟨w3.heap.size, w4.heap.size, OwnP (w3.heap.size) (w4.heap.size) 3 1 (.slice A4 n c4) n (icells us)⟩, ⟨w4.heap.size, w4.heap.size + 1, BoxP (w4.heap.size) 31 #[.int .i64 lim, .int .i64 each, (.slice A4 n c4)]⟩, ⟨w4.heap.size + 1, w5.heap.size, OwnP (w4.heap.size + 1) (w5.heap.size) 3 1 (.slice Ag ng cg) ng (icells R)⟩] w')
      (first | (with_reducible assumption) | fail)
      (first
        | (go_at_call 26
           refine (eqAccount_same lim each A4 A6 n c4 n c6 us _ (nr_own (fm_row FX6.out 2 rfl)) PX6.out (by omega) (by omega)).mono ?_
           rintro e w7 ⟨rfl, hb7⟩
           have FX7 : Hid (Fm w [⟨w.heap.size, w.heap.size + 1, BoxP (w.heap.size) 43 #[.int .i64 lim, .int .i64 each, (.slice A n c)]⟩, ⟨w2.heap.size, w3.heap.size, OwnP (w2.heap.size) (w3.heap.size) 3 1 (.slice Aw nw cw) nw (icells R)⟩, ⟨w3.heap.size, w4.heap.size, OwnP (w3.heap.size) (w4.heap.size) 3 1 (.slice A4 n c4) n (icells us)⟩, ⟨w4.heap.size, w4.heap.size + 1, BoxP (w4.heap.size) 31 #[.int .i64 lim, .int .i64 each, (.slice A4 n c4)]⟩, ⟨w4.heap.size + 1, w5.heap.size, OwnP (w4.heap.size + 1) (w5.heap.size) 3 1 (.slice Ag ng cg) ng (icells R)⟩] w7) := Lib.hid (fm_below FX6.out hb7)
           have hS7 := fm_rd33 FX7.out 0 3 rfl rfl
           clear hb7)
        | (go_at_call 31
           refine (toAccount_any lim each A n c us _ (nr_below H.out (fm_drew F8.out).below) hbig).mono ?_
           rintro e w6 ⟨A6, c6, rfl, ho6, hb6⟩
           have PX6 := Lib.hid (nr_own ho6)
           have FX6 : Hid (Fm w [⟨w.heap.size, w.heap.size + 1, BoxP (w.heap.size) 43 #[.int .i64 lim, .int .i64 each, (.slice A n c)]⟩, ⟨w2.heap.size, w3.heap.size, OwnP (w2.heap.size) (w3.heap.size) 3 1 (.slice Aw nw cw) nw (icells R)⟩, ⟨w3.heap.size, w4.heap.size, OwnP (w3.heap.size) (w4.heap.size) 3 1 (.slice A4 n c4) n (icells us)⟩, ⟨w4.heap.size, w4.heap.size + 1, BoxP (w4.heap.size) 31 #[.int .i64 lim, .int .i64 each, (.slice A4 n c4)]⟩, ⟨w4.heap.size + 1, w5.heap.size, OwnP (w4.heap.size + 1) (w5.heap.size) 3 1 (.slice Ag ng cg) ng (icells R)⟩] w6) := Lib.hid (fm_below (fm_drew F8.out) hb6)
           have hS6 := fm_rd33 FX6.out 0 3 rfl rfl
           clear hb6 ho6))
    all_goals
      clear PX6 FX6 F8 hS hS6 hS7
      obtain ⟨⟨x0, x1, x2⟩, -⟩ := blk_three (fm_blk FX7.out 3 rfl)
      go_wp2_with fail
      refine (markAccount_any lim each w3.heap.size A4 n c4 1 us _ (fm_row FX7.out 2 rfl) (by omega) (by omega)).mono ?_
      rintro e w10 ⟨rfl, ho, hg⟩
      have F10 : Hid (Fm w [⟨w.heap.size, w.heap.size + 1, BoxP (w.heap.size) 43 #[.int .i64 lim, .int .i64 each, (.slice A n c)]⟩, ⟨w2.heap.size, w3.heap.size, OwnP (w2.heap.size) (w3.heap.size) 3 1 (.slice Aw nw cw) nw (icells R)⟩, ⟨w3.heap.size, w4.heap.size, OwnP (w3.heap.size) (w4.heap.size) 3 1 (.slice A4 n c4) n (icells (markI n 1))⟩, ⟨w4.heap.size, w4.heap.size + 1, BoxP (w4.heap.size) 31 #[.int .i64 lim, .int .i64 each, (.slice A4 n c4)]⟩, ⟨w4.heap.size + 1, w5.heap.size, OwnP (w4.heap.size + 1) (w5.heap.size) 3 1 (.slice Ag ng cg) ng (icells R)⟩] w10) := Lib.hid (fm_mark FX7.out 2 rfl hg ho)
      clear FX7
      clear hg ho
      clear x0 x1 x2
      have k10 : (0 : Int) ≤ 1 + (n : Int) := by omega
      go_wp2_with fail
      refine (eqIntS_any Ag Aw ng cg nw cw R R _ (nr_own (fm_row F10.out 4 rfl)) (nr_own (fm_row F10.out 1 rfl)) (by omega) (by omega)).mono ?_
      rintro e w11 ⟨rfl, hb⟩
      rw [← ints_yes rfl]
      have F11 : Hid (Fm w [⟨w.heap.size, w.heap.size + 1, BoxP (w.heap.size) 43 #[.int .i64 lim, .int .i64 each, (.slice A n c)]⟩, ⟨w2.heap.size, w3.heap.size, OwnP (w2.heap.size) (w3.heap.size) 3 1 (.slice Aw nw cw) nw (icells R)⟩, ⟨w3.heap.size, w4.heap.size, OwnP (w3.heap.size) (w4.heap.size) 3 1 (.slice A4 n c4) n (icells (markI n 1))⟩, ⟨w4.heap.size, w4.heap.size + 1, BoxP (w4.heap.size) 31 #[.int .i64 lim, .int .i64 each, (.slice A4 n c4)]⟩, ⟨w4.heap.size + 1, w5.heap.size, OwnP (w4.heap.size + 1) (w5.heap.size) 3 1 (.slice Ag ng cg) ng (icells R)⟩] w11) := Lib.hid (fm_below F10.out hb)
      clear F10
      clear hb
      go_wp2_with fail
      refine (markIntS_any (w4.heap.size + 1) Ag ng cg 1 R _ (fm_row F11.out 4 rfl) (by omega) (by omega)).mono ?_
      rintro e w12 ⟨rfl, ho, hg⟩
      have F12 : Hid (Fm w [⟨w.heap.size, w.heap.size + 1, BoxP (w.heap.size) 43 #[.int .i64 lim, .int .i64 each, (.slice A n c)]⟩, ⟨w2.heap.size, w3.heap.size, OwnP (w2.heap.size) (w3.heap.size) 3 1 (.slice Aw nw cw) nw (icells R)⟩, ⟨w3.heap.size, w4.heap.size, OwnP (w3.heap.size) (w4.heap.size) 3 1 (.slice A4 n c4) n (icells (markI n 1))⟩, ⟨w4.heap.size, w4.heap.size + 1, BoxP (w4.heap.size) 31 #[.int .i64 lim, .int .i64 each, (.slice A4 n c4)]⟩, ⟨w4.heap.size + 1, w5.heap.size, OwnP (w4.heap.size + 1) (w5.heap.size) 3 1 (.slice Ag ng cg) ng (icells (markI ng 1))⟩] w12) := Lib.hid (fm_mark F11.out 4 rfl hg ho)
      clear F11
      clear hg ho
      have k12 : (0 : Int) ≤ 1 + (ng : Int) := by omega
      go_wp2_with fail
      refine (heldIntS_any Ag ng cg 1 _ (nr_own (fm_row F12.out 4 rfl)) (by omega) (by omega)).mono ?_
      rintro e w13_ ⟨rfl, rfl⟩
      obtain ⟨⟨q0, q1, q2⟩, -⟩ := blk_three (fm_blk F12.out 0 rfl)
      go_wp2_with fail
      refine (toAccount_any lim each A n c us _ (nr_below H.out F12.out.below) hbig).mono ?_
      rintro e w14 ⟨A14, c14, rfl, ho, hb⟩
      have X14 := Lib.hid (nr_own ho)
      have F14 : Hid (Fm w [⟨w.heap.size, w.heap.size + 1, BoxP (w.heap.size) 43 #[.int .i64 lim, .int .i64 each, (.slice A n c)]⟩, ⟨w2.heap.size, w3.heap.size, OwnP (w2.heap.size) (w3.heap.size) 3 1 (.slice Aw nw cw) nw (icells R)⟩, ⟨w3.heap.size, w4.heap.size, OwnP (w3.heap.size) (w4.heap.size) 3 1 (.slice A4 n c4) n (icells (markI n 1))⟩, ⟨w4.heap.size, w4.heap.size + 1, BoxP (w4.heap.size) 31 #[.int .i64 lim, .int .i64 each, (.slice A4 n c4)]⟩, ⟨w4.heap.size + 1, w5.heap.size, OwnP (w4.heap.size + 1) (w5.heap.size) 3 1 (.slice Ag ng cg) ng (icells (markI ng 1))⟩] w14) := Lib.hid (fm_below F12.out hb)
      clear F12
      clear hb ho
      clear q0 q1 q2
      go_wp2_with fail
      refine (HI0.out A14 n c14 _ X14.out (by omega)).mono ?_
      rintro e w15 ⟨Ah, nh, ch, rfl, hnh, ho, hb⟩
      have lnh : nh ≤ 1048576 := by omega
      have F15 : Hid (Fm w [⟨w.heap.size, w.heap.size + 1, BoxP (w.heap.size) 43 #[.int .i64 lim, .int .i64 each, (.slice A n c)]⟩, ⟨w2.heap.size, w3.heap.size, OwnP (w2.heap.size) (w3.heap.size) 3 1 (.slice Aw nw cw) nw (icells R)⟩, ⟨w3.heap.size, w4.heap.size, OwnP (w3.heap.size) (w4.heap.size) 3 1 (.slice A4 n c4) n (icells (markI n 1))⟩, ⟨w4.heap.size, w4.heap.size + 1, BoxP (w4.heap.size) 31 #[.int .i64 lim, .int .i64 each, (.slice A4 n c4)]⟩, ⟨w4.heap.size + 1, w5.heap.size, OwnP (w4.heap.size + 1) (w5.heap.size) 3 1 (.slice Ag ng cg) ng (icells (markI ng 1))⟩, ⟨w14.heap.size, w15.heap.size, OwnP (w14.heap.size) (w15.heap.size) 3 1 (.slice Ah nh ch) nh (icells R)⟩] w15) := Lib.hid (fm_own F14.out hb ho rfl)
      clear F14
      clear hb ho hnh
      go_wp2_with fail
      refine (eqIntS_any Ah Aw nh ch nw cw R R _ (nr_own (fm_row F15.out 5 rfl)) (nr_own (fm_row F15.out 1 rfl)) (by omega) (by omega)).mono ?_
      rintro e w16 ⟨rfl, hb⟩
      rw [← ints_yes rfl]
      have F16 : Hid (Fm w [⟨w.heap.size, w.heap.size + 1, BoxP (w.heap.size) 43 #[.int .i64 lim, .int .i64 each, (.slice A n c)]⟩, ⟨w2.heap.size, w3.heap.size, OwnP (w2.heap.size) (w3.heap.size) 3 1 (.slice Aw nw cw) nw (icells R)⟩, ⟨w3.heap.size, w4.heap.size, OwnP (w3.heap.size) (w4.heap.size) 3 1 (.slice A4 n c4) n (icells (markI n 1))⟩, ⟨w4.heap.size, w4.heap.size + 1, BoxP (w4.heap.size) 31 #[.int .i64 lim, .int .i64 each, (.slice A4 n c4)]⟩, ⟨w4.heap.size + 1, w5.heap.size, OwnP (w4.heap.size + 1) (w5.heap.size) 3 1 (.slice Ag ng cg) ng (icells (markI ng 1))⟩, ⟨w14.heap.size, w15.heap.size, OwnP (w14.heap.size) (w15.heap.size) 3 1 (.slice Ah nh ch) nh (icells R)⟩] w16) := Lib.hid (fm_below F15.out hb)
      clear F15
      clear hb
      go_wp2_with fail
      refine (heldIntS_any Ag ng cg 1 _ (nr_own (fm_row F16.out 4 rfl)) (by omega) (by omega)).mono ?_
      rintro e w17_ ⟨rfl, rfl⟩
      go_wp2
      go_ret
      exact ⟨rfl, F16.out.below⟩
  · clear h
    have F0 := Lib.hid (fm_box (fm_zero w) 43 #[.int .i64 lim, .int .i64 each, (.slice A n c)])
    go_enter Try.func13, Try.ntmps13
    go_wp2_with fail
    refine (szAccount_any lim each A n c 1048576 _ hn (by omega)).mono ?_
    rintro e w1 ⟨rfl, hb⟩
    rw [if_pos (by omega)]
    have F1 := Lib.hid (fm_below F0.out hb)
    clear hb F0
    go_wp2
    go_ret
    exact ⟨rfl, F1.out.below⟩
theorem own : ownKnob Try.prog.godebug = none := by kernel_rfl
theorem laidOut : laidOutB Try.prog = true := by kernel_rfl
set_option maxRecDepth 100000 in
theorem lifted (os : Os) (started : os.Started) (H : Type) (enc : TypeId × Value → H) :
    ReturnsInHanded {} Try.checked os 13 .any (Rows.fnExactOverShareSpec.pre6 enc Try.prog Try.f13 Rows.fnExactOverShareRow.domain false) (Rows.fnExactOverShareSpec.post enc Try.prog Try.f13 false true false false) := by
  refine returnsInHanded_of_change (C := Try.checked) own started (by kernel_rfl) Try.func13
    (ChangeSpec.witness6 (enc := enc) (C := Try.checked) false ⟨#[], #[.agg #[.int .i64 0, .int .i64 0, .slice none 0 0]], []⟩ 8 (by kernel_rfl) (by kernel_rfl) (by kernel_rfl) (by kernel_rfl)) ?_
  intro W base args ds gs before hval0 hW _ _
  have hval : ∀ (j : Nat) t v, Try.f13.params[j]? = some t → args[j]? = some v → Value.okWide Try.prog W .any base t v := hval0
  have hW' := hW
  obtain ⟨p, q, hA0, hV, rfl, _, _⟩ := hW
  have hA : DataW.TrodAll enc Try.prog W 0 (fun _ => true) true Try.f13.params.toList args.toList ds p := hA0
  rw [Try.params13] at hA hval
  obtain ⟨v0, vs0, d0, ds0, p0, q0, hargs, rfl, rfl, h0, r0⟩ := trodAll_cons hA
  obtain ⟨rfl, rfl, rfl⟩ := trodAll_nil r0
  obtain rfl : args = #[v0] := by cases args; simp_all
  obtain ⟨rfl, rfl⟩ := trodVars_none hV
  have lt0 : ∀ x ∈ p0, x.block < W.heap.size := by obtain ⟨m, hm⟩ := h0; exact DataW.trod_lt m _ _ _ hm
  have ok0 := (hval 0 43 v0 rfl rfl)
  obtain ⟨p0a, p0b, p0c, y0a, y0b, y0c, nf0, rfl, _, _, t0a, t0b, t0c⟩ := Go.Joins.open_agg3 Try.underlying43 (by kernel_rfl) (by kernel_rfl) ok0 h0
  obtain ⟨x0a, e0a, _, _⟩ := DataW.trod_int Try.underlying3 t0a
  obtain rfl : p0a = .int .i64 x0a := by simpa using e0a
  obtain ⟨x0b, e0b, _, _⟩ := DataW.trod_int Try.underlying3 t0b
  obtain rfl : p0b = .int .i64 x0b := by simpa using e0b
  obtain ⟨a0, n0, c0, x0, rfl, w0, m0⟩ := ints_open1 t0c
  clear hA0 hval0
  refine (walk x0a x0b a0 n0 c0 x0 W w0 m0).mono fun e W' ⟨he, bel⟩ => ?_
  subst he
  exact ⟨_, rfl, _, _, _, [], _, [], hW', trodAll_mk1 (shut_bool Try.underlying4 _), (trodAll_cons_mk (Below.trod laidOut (by kernel_rfl) (of_decide_eq_true (by kernel_rfl)) h0 bel lt0) trodAll_mk0), rfl, bel.frame _, fun h => by cases h⟩
theorem over : Rows.fnExactOverShareRow.holds Try.pinned (OpenSpec.ofChange Rows.fnExactOverShareSpec) :=
  OpenClaim.holds_of_wide 13 Try.f13 rfl rfl rfl rfl rfl rfl rfl ⟨rfl, rfl, rfl, rfl, rfl⟩ rfl rfl rfl rfl rfl (by kernel_rfl) Try.func13 (by kernel_rfl)
    (of_decide_eq_true (by kernel_rfl)) (by unfold Func.isWrapper; first | (rw [if_pos (by decide +kernel)]; kernel_rfl) | (rw [if_neg (by decide +kernel)]; exact ⟨rfl, rfl⟩))
    (fun os started H enc _ => lifted os started H enc)
/-- the given statement -/
theorem proved : Rows.FnExactOverShareSaid := over
end Go.Proofs.Ytkbjelchihdajab.fnExactOverShare
