/-
  The law FnExactNewLanes returns true at every argument: the program's NewLanes answers as the model's, writes into no argument, and its answer owns its memory. Conditions: none.
-/
import Derived.Test.YtffgblphimjipacKo
import Derived.Test.YtffgblphimjipacKq
namespace Go.Proofs.Ytffgblphimjipac.fnExactNewLanes
open Go.ChangeShapes Go.WideShapes Go.ChangeAt Go.RowKit

def JlP (w : World) (l : Ln) (ok : Bool) (e : Ending) (w' : World) : Prop :=
  ∃ A n c B m d C o f hs iv, e = .returned (.tuple #[.agg #[.slice A n c, .slice B m d, .slice C o f], .bool ok]) ∧ LO w' w.heap.size (.slice A n c) n (.slice B m d) m (.slice C o f) o hs iv l ∧ (∀ k, (iv k).1 < (iv k).2 → w.heap.size ≤ (iv k).1) ∧ Below w.heap.size w w'
theorem lo_nil (w : World) (lo : Nat) : LO w lo (.slice none 0 0) 0 (.slice none 0 0) 0 (.slice none 0 0) 0 [] (fun _ => (0, 0)) ⟨[], [], []⟩ :=
  ⟨dr_nil w lo, World.ownsRow_nil _ _ _ _, World.ownsRow_nil _ _ _ _, fun b e => (by cases e), fun b e => (by cases e), fun b e => (by cases e)⟩
theorem lo_few {w : World} {lo n m o c d f : Nat} {A B C : Option Addr} {hs : List Rh} {iv : Nat → Nat × Nat} {l : Ln} (G : LO w lo (.slice A n c) n (.slice B m d) m (.slice C o f) o hs iv l) (h : lsz l ≤ 1048576) : n ≤ 1048576 ∧ m ≤ 1048576 ∧ o ≤ 1048576 := by
  have h1 := (dr_len G.r).2
  have h2 : l.ws.length = m := (nr_own G.b).1
  have h3 : l.cs.length = o := (nr_own G.c).1
  unfold lsz at h
  omega
theorem lo_lrf {w : World} {lo n m o c d f : Nat} {A B C : Option Addr} {hs : List Rh} {iv : Nat → Nat × Nat} {l : Ln} (G : LO w lo (.slice A n c) n (.slice B m d) m (.slice C o f) o hs iv l) (h : lsz l ≤ 1048576) : LR w A n B m C o l := by
  have := lo_few G h
  exact lo_lr G (by omega) (by omega) (by omega)
theorem both (q : Int) (us : List Int) : ∃ (l2 : Ln) (ok : Bool), lsz l2 ≤ 1048576 ∧ Hid (∀ (B : Option Addr) (m d : Nat) (w : World), NR w B m us → m ≤ 4000000000 → Calls Try.prog 33 #[.int .i64 q, .slice B m d] w (JlP w l2 ok)) ∧ Hid (∀ (B : Option Addr) (m d : Nat) (w : World), NR w B m us → m ≤ 4000000000 → Calls Try.prog 32 #[.int .i64 q, .slice B m d] w (JlP w l2 ok)) := by
  by_cases hk : NwOk q us
  · have key : ∀ {w : World} {e : Ending} {w' : World}, JlYes w (newN q us) e w' → JlP w (newN q us) true e w' := fun h => by
      obtain ⟨A, n, c, B, m, d, C, o, f, hs, iv, h1, -, -, -, h2, h3, h4⟩ := h
      exact ⟨A, n, c, B, m, d, C, o, f, hs, iv, h1, h2, h3, h4⟩
    have hl : lsz (newN q us) ≤ 1048576 := by
      have h1 := hk.2.2.1
      have h2 : rsz (newN q us).rs = 0 := by simp [newN, rsz, total, List.replicate]
      simp only [lsz, h2]
      simp only [newN, List.length_replicate]
      omega
    exact ⟨newN q us, true, hl, Lib.hid fun B m d w h hm => (nwS_yes q B m d us w h hm hk).mono fun _ _ h => key h, Lib.hid fun B m d w h hm => (nwI_both q B m d us w h hm).mono fun _ _ h => key (h.1 hk)⟩
  · have key : ∀ {w : World} {e : Ending} {w' : World}, JlNo w e w' → JlP w ⟨[], [], []⟩ false e w' := fun h =>
      ⟨none, 0, 0, none, 0, 0, none, 0, 0, [], _, h.1, lo_nil _ _, fun k hk => absurd hk (by simp), h.2⟩
    exact ⟨⟨[], [], []⟩, false, by simp [lsz, rsz], Lib.hid fun B m d w h hm => (nwS_no q B m d us w h hm hk).mono fun _ _ h => key h, Lib.hid fun B m d w h hm => (nwI_both q B m d us w h hm).mono fun _ _ h => key (h.2 hk)⟩
set_option maxRecDepth 100000 in
set_option maxHeartbeats 8000000 in
theorem walk (q : Int) (A : Option Addr) (n c : Nat) (us : List Int) (w : World) (_hwq : (Lit.int .i64 q).wf = true) (h : NR w A n us) (hn : n ≤ 9223372036854775807) :
    Calls Try.prog 12 #[.int .i64 q, .slice A n c] w fun e w' => e = .returned (.bool true) ∧ Below w.heap.size w w' := by
  have H := Lib.hid h
  clear h
  by_cases hbig : n ≤ 1048576
  · obtain ⟨l2, ok, hl2, HS0, HI0⟩ := both q us
    have hd : decide ((1048576 : Int) < (n : Int)) = false := decide_eq_false (by omega)
    have hd2 : ¬ (1048576 : Int) < (n : Int) := by omega
    have hcg := cntL_bd hl2
    have kg : 0 ≤ 1 + cntL l2 ∧ 1 + cntL l2 ≤ 6000000 := by omega
    have kg0 : decide (1 + cntL l2 < 0) = false := by simp; omega
    have kn : 0 ≤ 1 + (n : Int) := by omega
    have kn0 : decide (1 + (n : Int) < 0) = false := by simp; omega
    clear hcg
    go_enter Try.func12, Try.ntmps12
    go_wp2_with fail
    refine (toIntS_any A n c us _ H.out hbig).mono ?_
    rintro e w1 ⟨A1, rfl, ho, hb⟩
    have B1 := Lib.hid hb
    have N1 := Lib.hid (nr_own ho)
    clear hb ho
    go_wp2_with fail
    refine (HS0.out A1 n n _ N1.out (by omega)).mono ?_
    rintro e w2 ⟨Aw, nw, cw, Bw, mw, dw, Cw, ow, fw, hsw, ivw, rfl, hL, -, hb⟩
    have B2 := Lib.hid (below_alloc (below_seq B1.out hb) (.cells #[.slice Aw nw cw, .slice Bw mw dw, .slice Cw ow fw] 26))
    have FW := Lib.hid (lr_alloc (lo_lrf hL hl2) (.cells #[.slice Aw nw cw, .slice Bw mw dw, .slice Cw ow fw] 26))
    have UB := Lib.hid (show Blk (w2.alloc (.cells #[.slice Aw nw cw, .slice Bw mw dw, .slice Cw ow fw] 26)) w2.heap.size 26 #[.slice Aw nw cw, .slice Bw mw dw, .slice Cw ow fw] from blk_new w2 _ _)
    clear hb hL B1 N1
    go_upto_region 4 with fail
    obtain ⟨zz, hzz⟩ : ∃ zz, w2.heap.size = zz := ⟨_, rfl⟩
    generalize (w2.alloc (.cells #[.slice Aw nw cw, .slice Bw mw dw, .slice Cw ow fw] 26)) = w3 at B2 FW UB ⊢
    rw [hzz] at UB ⊢
    have zu : zz < w3.heap.size := blk_lt UB.out
    clear hzz
    have F3 : Hid (Fm w3 [] w3) := Lib.hid (fm_zero w3)
    go_wp2_with fail
    refine (toIntS_any A n c us _ (nr_below H.out B2.out) hbig).mono ?_
    rintro e w4 ⟨A4, rfl, ho, hb⟩
    have F4 : Hid (Fm w3 [⟨w3.heap.size, w4.heap.size, OwnP w3.heap.size w4.heap.size 3 1 (.slice A4 n n) n (icells us)⟩] w4) := Lib.hid (fm_own F3.out hb ho rfl)
    clear hb ho F3
    go_wp2_with fail
    refine (HI0.out A4 n n _ (nr_own (fm_row F4.out 0 rfl)) (by omega)).mono ?_
    rintro e w5 ⟨Ag, ng, cg, Bg, mg, dg, Cg, og, fg, hsg, ivg, rfl, hL, -, hb⟩
    obtain ⟨lng, lmg, log⟩ := lo_few hL hl2
    have F5 : Hid (Fm w3 [⟨w3.heap.size, w4.heap.size, OwnP w3.heap.size w4.heap.size 3 1 (.slice A4 n n) n (icells us)⟩, ⟨w4.heap.size, w5.heap.size, LI w4.heap.size w5.heap.size (.slice Ag ng cg) ng (.slice Bg mg dg) mg (.slice Cg og fg) og hsg ivg l2⟩, ⟨w5.heap.size, w5.heap.size + 1, BoxP w5.heap.size 26 #[.slice Ag ng cg, .slice Bg mg dg, .slice Cg og fg]⟩] (w5.alloc (.cells #[.slice Ag ng cg, .slice Bg mg dg, .slice Cg og fg] 26))) := Lib.hid (fm_push (fm_li F4.out hb hL rfl) rfl _ _)
    clear hb hL F4
    obtain ⟨⟨g0, g1, g2⟩, -⟩ := blk_three (fm_blk F5.out 2 rfl)
    obtain ⟨⟨u0, u1, u2⟩, -⟩ := blk_three (blk_below UB.out F5.out.below zu)
    go_wp2_with fail
    refine (eqLanes_same Ag Aw ng cg nw cw Bg Bw mg dg mw dw Cg Cw og fg ow fw l2 _ (li_lr (fm_get F5.out 1 rfl) (by omega) (by omega) (by omega)) (lr_below FW.out F5.out.below)).mono ?_
    rintro e w6 ⟨rfl, hb⟩
    have F6 : Hid (Fm w3 [⟨w3.heap.size, w4.heap.size, OwnP w3.heap.size w4.heap.size 3 1 (.slice A4 n n) n (icells us)⟩, ⟨w4.heap.size, w5.heap.size, LI w4.heap.size w5.heap.size (.slice Ag ng cg) ng (.slice Bg mg dg) mg (.slice Cg og fg) og hsg ivg l2⟩, ⟨w5.heap.size, w5.heap.size + 1, BoxP w5.heap.size 26 #[.slice Ag ng cg, .slice Bg mg dg, .slice Cg og fg]⟩] w6) := Lib.hid (fm_below F5.out hb)
    clear hb F5 g0 g1 g2 u0 u1 u2
    go_wp2_with fail
    refine (toIntS_any A n c us _ (nr_below H.out (below_seq B2.out F6.out.below)) hbig).mono ?_
    rintro e w7 ⟨A7, rfl, ho, hb⟩
    have F7 : Hid (Fm w3 [⟨w3.heap.size, w4.heap.size, OwnP w3.heap.size w4.heap.size 3 1 (.slice A4 n n) n (icells us)⟩, ⟨w4.heap.size, w5.heap.size, LI w4.heap.size w5.heap.size (.slice Ag ng cg) ng (.slice Bg mg dg) mg (.slice Cg og fg) og hsg ivg l2⟩, ⟨w5.heap.size, w5.heap.size + 1, BoxP w5.heap.size 26 #[.slice Ag ng cg, .slice Bg mg dg, .slice Cg og fg]⟩] w7) := Lib.hid (fm_below F6.out hb)
    have N7 := Lib.hid (nr_own ho)
    clear hb ho F6
    go_wp2_with fail
    refine (eqIntS_any A4 A7 n n n n us us _ (nr_own (fm_row F7.out 0 rfl)) N7.out (by omega) (by omega)).mono ?_
    rintro e w8 ⟨rfl, hb⟩
    rw [ints_refl us]
    have F8 : Hid (Fm w3 [⟨w3.heap.size, w4.heap.size, OwnP w3.heap.size w4.heap.size 3 1 (.slice A4 n n) n (icells us)⟩, ⟨w4.heap.size, w5.heap.size, LI w4.heap.size w5.heap.size (.slice Ag ng cg) ng (.slice Bg mg dg) mg (.slice Cg og fg) og hsg ivg l2⟩, ⟨w5.heap.size, w5.heap.size + 1, BoxP w5.heap.size 26 #[.slice Ag ng cg, .slice Bg mg dg, .slice Cg og fg]⟩] w8) := Lib.hid (fm_below F7.out hb)
    clear hb F7 N7
    go_wp2_with fail
    refine (markIntS_any w3.heap.size A4 n n 1 us _ (fm_row F8.out 0 rfl) (by omega) (by omega)).mono ?_
    rintro e w9 ⟨rfl, ho, hg⟩
    have F9 : Hid (Fm w3 [⟨w3.heap.size, w4.heap.size, OwnP w3.heap.size w4.heap.size 3 1 (.slice A4 n n) n (icells (markI n 1))⟩, ⟨w4.heap.size, w5.heap.size, LI w4.heap.size w5.heap.size (.slice Ag ng cg) ng (.slice Bg mg dg) mg (.slice Cg og fg) og hsg ivg l2⟩, ⟨w5.heap.size, w5.heap.size + 1, BoxP w5.heap.size 26 #[.slice Ag ng cg, .slice Bg mg dg, .slice Cg og fg]⟩] w9) := Lib.hid (fm_mark F8.out 0 rfl hg ho)
    clear ho hg F8
    obtain ⟨⟨g0, g1, g2⟩, -⟩ := blk_three (fm_blk F9.out 2 rfl)
    obtain ⟨⟨u0, u1, u2⟩, -⟩ := blk_three (blk_below UB.out F9.out.below zu)
    go_wp2_with fail
    refine (eqLanes_same Ag Aw ng cg nw cw Bg Bw mg dg mw dw Cg Cw og fg ow fw l2 _ (li_lr (fm_get F9.out 1 rfl) (by omega) (by omega) (by omega)) (lr_below FW.out F9.out.below)).mono ?_
    rintro e w10 ⟨rfl, hb⟩
    have F10 : Hid (Fm w3 [⟨w3.heap.size, w4.heap.size, OwnP w3.heap.size w4.heap.size 3 1 (.slice A4 n n) n (icells (markI n 1))⟩, ⟨w4.heap.size, w5.heap.size, LI w4.heap.size w5.heap.size (.slice Ag ng cg) ng (.slice Bg mg dg) mg (.slice Cg og fg) og hsg ivg l2⟩, ⟨w5.heap.size, w5.heap.size + 1, BoxP w5.heap.size 26 #[.slice Ag ng cg, .slice Bg mg dg, .slice Cg og fg]⟩] w10) := Lib.hid (fm_below F9.out hb)
    clear hb F9 g0 g1 g2 u0 u1 u2
    obtain ⟨⟨g0, g1, g2⟩, -⟩ := blk_three (fm_blk F10.out 2 rfl)
    go_wp2_with fail
    refine (markLanes_any w4.heap.size w5.heap.size Ag ng cg Bg mg dg Cg og fg hsg ivg l2 1 _ (fm_get F10.out 1 rfl) (fm_lt F10.out 1 rfl).2.2 hl2 (by omega)).mono ?_
    rintro e w12 ⟨curg, rfl, hD, hc, -⟩
    have F12 : Hid (Fm w3 [⟨w3.heap.size, w4.heap.size, OwnP w3.heap.size w4.heap.size 3 1 (.slice A4 n n) n (icells (markI n 1))⟩, ⟨w4.heap.size, w5.heap.size, LI w4.heap.size w5.heap.size (.slice Ag ng cg) ng (.slice Bg mg dg) mg (.slice Cg og fg) og curg ivg (markLn l2 1)⟩, ⟨w5.heap.size, w5.heap.size + 1, BoxP w5.heap.size 26 #[.slice Ag ng cg, .slice Bg mg dg, .slice Cg og fg]⟩] w12) := Lib.hid (fm_put F10.out 1 rfl hc (at_li hD (Nat.le_trans (fm_lt F10.out 1 rfl).2.2 hc.size)))
    clear hD hc F10 g0 g1 g2
    obtain ⟨⟨g0, g1, g2⟩, -⟩ := blk_three (fm_blk F12.out 2 rfl)
    go_wp2_with fail
    refine (heldLanes_any Ag ng cg Bg mg dg Cg og fg l2 1 _ (li_lr (fm_get F12.out 1 rfl) (by omega) (by omega) (by omega)) hl2 (by omega)).mono ?_
    rintro e w13 ⟨rfl, hb⟩
    have F13 : Hid (Fm w3 [⟨w3.heap.size, w4.heap.size, OwnP w3.heap.size w4.heap.size 3 1 (.slice A4 n n) n (icells (markI n 1))⟩, ⟨w4.heap.size, w5.heap.size, LI w4.heap.size w5.heap.size (.slice Ag ng cg) ng (.slice Bg mg dg) mg (.slice Cg og fg) og curg ivg (markLn l2 1)⟩, ⟨w5.heap.size, w5.heap.size + 1, BoxP w5.heap.size 26 #[.slice Ag ng cg, .slice Bg mg dg, .slice Cg og fg]⟩] w13) := Lib.hid (fm_below F12.out hb)
    clear hb F12 g0 g1 g2
    go_wp2_with fail
    refine (toIntS_any A n c us _ (nr_below H.out (below_seq B2.out F13.out.below)) hbig).mono ?_
    rintro e w14 ⟨A14, rfl, ho, hb⟩
    have F14 : Hid (Fm w3 [⟨w3.heap.size, w4.heap.size, OwnP w3.heap.size w4.heap.size 3 1 (.slice A4 n n) n (icells (markI n 1))⟩, ⟨w4.heap.size, w5.heap.size, LI w4.heap.size w5.heap.size (.slice Ag ng cg) ng (.slice Bg mg dg) mg (.slice Cg og fg) og curg ivg (markLn l2 1)⟩, ⟨w5.heap.size, w5.heap.size + 1, BoxP w5.heap.size 26 #[.slice Ag ng cg, .slice Bg mg dg, .slice Cg og fg]⟩] w14) := Lib.hid (fm_below F13.out hb)
    have N14 := Lib.hid (nr_own ho)
    clear hb ho F13
    go_wp2_with fail
    refine (HI0.out A14 n n _ N14.out (by omega)).mono ?_
    rintro e w15 ⟨Ah, nh, ch, Bh, mh, dh, Ch, oh, fh, hsh, ivh, rfl, hL, -, hb⟩
    have F15 : Hid (Fm w3 [⟨w3.heap.size, w4.heap.size, OwnP w3.heap.size w4.heap.size 3 1 (.slice A4 n n) n (icells (markI n 1))⟩, ⟨w4.heap.size, w5.heap.size, LI w4.heap.size w5.heap.size (.slice Ag ng cg) ng (.slice Bg mg dg) mg (.slice Cg og fg) og curg ivg (markLn l2 1)⟩, ⟨w5.heap.size, w5.heap.size + 1, BoxP w5.heap.size 26 #[.slice Ag ng cg, .slice Bg mg dg, .slice Cg og fg]⟩] (w15.alloc (.cells #[.slice Ah nh ch, .slice Bh mh dh, .slice Ch oh fh] 26))) := Lib.hid (fm_alloc (fm_below F14.out hb) _)
    have FH := Lib.hid (lr_alloc (lo_lrf hL hl2) (.cells #[.slice Ah nh ch, .slice Bh mh dh, .slice Ch oh fh] 26))
    clear hb hL F14 N14
    obtain ⟨⟨u0, u1, u2⟩, -⟩ := blk_three (blk_below UB.out F15.out.below zu)
    go_wp2_with fail
    refine (eqLanes_same Ah Aw nh ch nw cw Bh Bw mh dh mw dw Ch Cw oh fh ow fw l2 _ FH.out (lr_below FW.out F15.out.below)).mono ?_
    rintro e w16 ⟨rfl, hb⟩
    have F16 : Hid (Fm w3 [⟨w3.heap.size, w4.heap.size, OwnP w3.heap.size w4.heap.size 3 1 (.slice A4 n n) n (icells (markI n 1))⟩, ⟨w4.heap.size, w5.heap.size, LI w4.heap.size w5.heap.size (.slice Ag ng cg) ng (.slice Bg mg dg) mg (.slice Cg og fg) og curg ivg (markLn l2 1)⟩, ⟨w5.heap.size, w5.heap.size + 1, BoxP w5.heap.size 26 #[.slice Ag ng cg, .slice Bg mg dg, .slice Cg og fg]⟩] w16) := Lib.hid (fm_below F15.out hb)
    clear hb F15 u0 u1 u2 FH
    obtain ⟨⟨g0, g1, g2⟩, -⟩ := blk_three (fm_blk F16.out 2 rfl)
    go_wp2_with fail
    refine (heldLanes_any Ag ng cg Bg mg dg Cg og fg l2 1 _ (li_lr (fm_get F16.out 1 rfl) (by omega) (by omega) (by omega)) hl2 (by omega)).mono ?_
    rintro e w17 ⟨rfl, hb⟩
    have F17 : Hid (Fm w3 [⟨w3.heap.size, w4.heap.size, OwnP w3.heap.size w4.heap.size 3 1 (.slice A4 n n) n (icells (markI n 1))⟩, ⟨w4.heap.size, w5.heap.size, LI w4.heap.size w5.heap.size (.slice Ag ng cg) ng (.slice Bg mg dg) mg (.slice Cg og fg) og curg ivg (markLn l2 1)⟩, ⟨w5.heap.size, w5.heap.size + 1, BoxP w5.heap.size 26 #[.slice Ag ng cg, .slice Bg mg dg, .slice Cg og fg]⟩] w17) := Lib.hid (fm_below F16.out hb)
    clear hb F16 g0 g1 g2
    go_wp2
    go_ret
    exact ⟨rfl, below_seq B2.out F17.out.below⟩
  · have hd : decide ((1048576 : Int) < (n : Int)) = true := decide_eq_true (by omega)
    go_enter Try.func12, Try.ntmps12
    go_wp2
    go_ret
    exact ⟨rfl, Below.refl _ _⟩
end Go.Proofs.Ytffgblphimjipac.fnExactNewLanes
