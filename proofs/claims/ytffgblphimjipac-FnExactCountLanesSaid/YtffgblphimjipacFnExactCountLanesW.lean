/-
  The law FnExactCountLanes returns true at every argument: the program's CountLanes answers as the model's, writes into no argument, and its answer owns its memory. Conditions: none.
-/
import Derived.Test.YtffgblphimjipacKo
import Derived.Test.YtffgblphimjipacKn
namespace Go.Proofs.Ytffgblphimjipac.fnExactCountLanes
open Go.ChangeShapes Go.WideShapes Go.ChangeAt Go.RowKit

def IsP (w : World) (us : List Int) (ok : Bool) (e : Ending) (w' : World) : Prop :=
  ∃ A n c, e = .returned (.tuple #[.slice A n c, .bool ok]) ∧ n = us.length ∧ w'.ownsRow w.heap.size 3 1 (.slice A n c) n (icells us) ∧ Below w.heap.size w w'
theorem cntR_few (l : Ln) : (cntR l).length ≤ 64 := by
  unfold cntR
  split
  · rename_i h
    have := (lv_iff.1 h).n0
    rw [cnts_len]
    omega
  · simp
theorem both (l : Ln) : ∃ (us : List Int) (ok : Bool), us.length ≤ 64 ∧ Hid (∀ (A : Option Addr) (n c : Nat) (B : Option Addr) (m d : Nat) (C : Option Addr) (o f : Nat) (w : World), LR w A n B m C o l → Calls Try.prog 17 #[.agg #[.slice A n c, .slice B m d, .slice C o f]] w (IsP w us ok)) ∧ Hid (∀ (A : Option Addr) (n c : Nat) (B : Option Addr) (m d : Nat) (C : Option Addr) (o f : Nat) (w : World), LR w A n B m C o l → Calls Try.prog 16 #[.agg #[.slice A n c, .slice B m d, .slice C o f]] w (IsP w us ok)) := by
  have key : ∀ {w : World} {e : Ending} {w' : World}, CtPost w l e w' → IsP w (cntR l) (lvB l) e w' := fun h => by
    obtain ⟨A, n, c, h1, h2, h3⟩ := h
    exact ⟨A, n, c, h1, (nr_own h2).1.symm, h2, h3⟩
  exact ⟨cntR l, lvB l, cntR_few l, Lib.hid fun A n c B m d C o f w h => (ctS_any A n c B m d C o f l w h).mono fun _ _ h => key h, Lib.hid fun A n c B m d C o f w h => (ctI_any A n c B m d C o f l w h).mono fun _ _ h => key h⟩
theorem fm_rd3b {w3 w1 : World} {L : List Iv} (h : Fm w3 L w1) {g0 : Nat} {t0 : TypeId} {x0 y0 z0 : Value} (B : Blk w3 g0 t0 #[x0, y0, z0]) (j : Nat) {a2 b2 g2 : Nat} {t2 : TypeId} {x2 y2 z2 : Value} (hj : L[j]? = some ⟨a2, b2, BoxP g2 t2 #[x2, y2, z2]⟩) :
    ((w1.cell? ⟨g0, 0, none⟩ = some x0 ∧ w1.cell? ⟨g0, 1, none⟩ = some y0 ∧ w1.cell? ⟨g0, 2, none⟩ = some z0) ∧ (w1.cell? ⟨g2, 0, none⟩ = some x2 ∧ w1.cell? ⟨g2, 1, none⟩ = some y2 ∧ w1.cell? ⟨g2, 2, none⟩ = some z2)) ∧ Fm w3 L w1 := by
  have B1 := blk_below B h.below (blk_lt B)
  have B2 : Blk w1 g2 t2 #[x2, y2, z2] := fm_blk h j hj
  exact ⟨⟨(blk_three B1).1, (blk_three B2).1⟩, h⟩
set_option maxRecDepth 100000 in
set_option maxHeartbeats 8000000 in
theorem walk (A : Option Addr) (n c : Nat) (B : Option Addr) (m d : Nat) (C : Option Addr) (o f : Nat) (l : Ln) (w : World) (h : LA w A n B m C o l) :
    Calls Try.prog 11 #[.agg #[.slice A n c, .slice B m d, .slice C o f]] w fun e w' => e = .returned (.bool true) ∧ Below w.heap.size w w' := by
  have H := Lib.hid h
  have HL := Lib.hid (la_lens h)
  have B0 := Lib.hid (below_alloc (Below.refl w.heap.size w) (.cells #[.slice A n c, .slice B m d, .slice C o f] 57))
  have A0 := Lib.hid (blk_new w 57 #[.slice A n c, .slice B m d, .slice C o f])
  clear h
  by_cases hbig : lsz l ≤ 1048576
  · obtain ⟨us, ok, hpl, HS0, HI0⟩ := both l
    have n0 : n ≤ 1048576 := by have := HL.out.2.2.2; omega
    have m0 : m ≤ 1048576 := by have := HL.out.2.2.2; omega
    have o0 : o ≤ 1048576 := by have := HL.out.2.2.2; omega
    have hcl := cntL_bd hbig
    have kx : decide (1 + cntL l < 0) = false := by simp; omega
    have kx0 : 0 ≤ 1 + cntL l := by omega
    have hle : ¬ (1048576 : Int) < (lsz l : Int) := by omega
    have hd : decide ((1048576 : Int) - (lsz l : Int) < 0) = false := by simp; omega
    clear hcl
    go_enter Try.func11, Try.ntmps11
    go_wp2_with fail
    refine (szLanes_any A n c B m d C o f l 1048576 _ (la_below H.out B0.out) (by omega)).mono ?_
    rintro e w1 ⟨rfl, hb⟩
    rw [if_neg (by omega)]
    have B1 := Lib.hid (below_seq B0.out hb)
    have A1 := Lib.hid (blk_below A0.out hb (by simp))
    clear hb hle
    obtain ⟨⟨q0, q1, q2⟩, -⟩ := blk_three A1.out
    go_wp2_with fail
    refine (toLanes_any A n c B m d C o f l _ (la_below H.out B1.out) hbig).mono ?_
    rintro e w2 ⟨A2, B2', C2, hs2, iv2, rfl, hD, -, hb⟩
    have X2 := Lib.hid (lo_lr hD (by omega) (by omega) (by omega))
    have B2 := Lib.hid (below_seq B1.out hb)
    have A2b := Lib.hid (blk_below A1.out hb (blk_lt A1.out))
    clear hb hD q0 q1 q2
    go_wp2_with fail
    refine (HS0.out A2 n n B2' m m C2 o o _ X2.out).mono ?_
    rintro e w3 ⟨Bw, mw, dw, rfl, hm, hp, hb⟩
    have B3 := Lib.hid (below_seq B2.out hb)
    have A3 := Lib.hid (blk_below A2b.out hb (blk_lt A2b.out))
    have PW := Lib.hid (nr_own hp)
    have lmw : mw ≤ 1048576 := by omega
    have za : w.heap.size < w3.heap.size := blk_lt A3.out
    clear hb X2 A2b hm hp
    have F3 : Hid (Fm w3 [] w3) := Lib.hid (fm_zero w3)
    obtain ⟨⟨q0, q1, q2⟩, -⟩ := blk_three (blk_below A3.out F3.out.below za)
    go_wp2_with fail
    refine (toLanes_any A n c B m d C o f l _ (la_below H.out (below_seq B3.out F3.out.below)) hbig).mono ?_
    rintro e w4 ⟨A4, B4', C4, hs4, iv4, rfl, hD, -, hb⟩
    have F4 : Hid (Fm w3 [⟨w3.heap.size, w4.heap.size, LI w3.heap.size w4.heap.size (.slice A4 n n) n (.slice B4' m m) m (.slice C4 o o) o hs4 iv4 l⟩] w4) := Lib.hid (fm_li F3.out hb hD rfl)
    clear F3
    clear hb hD q0 q1 q2
    have F4b : Hid (Fm w3 [⟨w3.heap.size, w4.heap.size, LI w3.heap.size w4.heap.size (.slice A4 n n) n (.slice B4' m m) m (.slice C4 o o) o hs4 iv4 l⟩, ⟨w4.heap.size, w4.heap.size + 1, BoxP w4.heap.size 26 #[.slice A4 n n, .slice B4' m m, .slice C4 o o]⟩] (w4.alloc (.cells #[.slice A4 n n, .slice B4' m m, .slice C4 o o] 26))) := Lib.hid (fm_push F4.out rfl _ _)
    clear F4
    obtain ⟨⟨x0, x1, x2⟩, -⟩ := blk_three (fm_blk F4b.out 1 rfl)
    go_wp2_with fail
    refine (HI0.out A4 n n B4' m m C4 o o _ (li_lr (fm_get F4b.out 0 rfl) (by omega) (by omega) (by omega))).mono ?_
    rintro e w5 ⟨Bg, mg, dg, rfl, hm, hp, hb⟩
    have lmg : mg ≤ 1048576 := by omega
    have F5 : Hid (Fm w3 [⟨w3.heap.size, w4.heap.size, LI w3.heap.size w4.heap.size (.slice A4 n n) n (.slice B4' m m) m (.slice C4 o o) o hs4 iv4 l⟩, ⟨w4.heap.size, w4.heap.size + 1, BoxP w4.heap.size 26 #[.slice A4 n n, .slice B4' m m, .slice C4 o o]⟩, ⟨w4.heap.size + 1, w5.heap.size, OwnP (w4.heap.size + 1) w5.heap.size 3 1 (.slice Bg mg dg) mg (icells us)⟩] w5) := Lib.hid (fm_own F4b.out hb hp (by simp))
    clear F4b
    clear hb hp hm
    clear x0 x1 x2
    go_wp2_with fail
    refine (eqIntS_any Bg Bw mg dg mw dw us us _ (nr_own (fm_row F5.out 2 rfl)) (nr_below PW.out F5.out.below) (by omega) (by omega)).mono ?_
    rintro e w8c ⟨rfl, hb⟩
    rw [ints_refl us]
    have Fw8c : Hid (Fm w3 [⟨w3.heap.size, w4.heap.size, LI w3.heap.size w4.heap.size (.slice A4 n n) n (.slice B4' m m) m (.slice C4 o o) o hs4 iv4 l⟩, ⟨w4.heap.size, w4.heap.size + 1, BoxP w4.heap.size 26 #[.slice A4 n n, .slice B4' m m, .slice C4 o o]⟩, ⟨w4.heap.size + 1, w5.heap.size, OwnP (w4.heap.size + 1) w5.heap.size 3 1 (.slice Bg mg dg) mg (icells us)⟩] w8c) := Lib.hid (fm_below F5.out hb)
    clear F5
    clear hb
    have hS := fm_rd3b (fm_drew Fw8c.out) A3.out 1 rfl
    go_wp2_with fail
    go_region_held3 (fun w' => ((w'.cell? ⟨w.heap.size, 0, none⟩ = some (.slice A n c) ∧ w'.cell? ⟨w.heap.size, 1, none⟩ = some (.slice B m d) ∧ w'.cell? ⟨w.heap.size, 2, none⟩ = some (.slice C o f)) ∧ (w'.cell? ⟨w4.heap.size, 0, none⟩ = some (.slice A4 n n) ∧ w'.cell? ⟨w4.heap.size, 1, none⟩ = some (.slice B4' m m) ∧ w'.cell? ⟨w4.heap.size, 2, none⟩ = some (.slice C4 o o))) ∧ Fm w3 [⟨w3.heap.size, w4.heap.size, LI w3.heap.size w4.heap.size (.slice A4 n n) n (.slice B4' m m) m (.slice C4 o o) o hs4 iv4 l⟩, ⟨w4.heap.size, w4.heap.size + 1, BoxP w4.heap.size 26 #[.slice A4 n n, .slice B4' m m, .slice C4 o o]⟩, ⟨w4.heap.size + 1, w5.heap.size, OwnP (w4.heap.size + 1) w5.heap.size 3 1 (.slice Bg mg dg) mg (icells us)⟩] w')
      (first | (with_reducible assumption) | fail)
      (first
        | (go_at_call 36
           refine (eqLanes_same A4 A6 n n n n B4' B6 m m m m C4 C6 o o o o l _ (li_lr (fm_get FX6.out 0 rfl) (by omega) (by omega) (by omega)) PX6.out).mono ?_
           rintro e w7 ⟨rfl, hb7⟩
           have FX7 : Hid (Fm w3 [⟨w3.heap.size, w4.heap.size, LI w3.heap.size w4.heap.size (.slice A4 n n) n (.slice B4' m m) m (.slice C4 o o) o hs4 iv4 l⟩, ⟨w4.heap.size, w4.heap.size + 1, BoxP w4.heap.size 26 #[.slice A4 n n, .slice B4' m m, .slice C4 o o]⟩, ⟨w4.heap.size + 1, w5.heap.size, OwnP (w4.heap.size + 1) w5.heap.size 3 1 (.slice Bg mg dg) mg (icells us)⟩] w7) := Lib.hid (fm_below FX6.out hb7)
           have hS7 := fm_rd3b FX7.out A3.out 1 rfl
           clear hb7)
        | (go_at_call 35
           refine (toLanes_any A n c B m d C o f l _ (la_below H.out (below_seq B3.out (fm_drew Fw8c.out).below)) hbig).mono ?_
           rintro e w6 ⟨A6, B6, C6, hs6, iv6, rfl, ho6, -, hb6⟩
           have PX6 := Lib.hid (lo_lr ho6 (by omega) (by omega) (by omega))
           have FX6 : Hid (Fm w3 [⟨w3.heap.size, w4.heap.size, LI w3.heap.size w4.heap.size (.slice A4 n n) n (.slice B4' m m) m (.slice C4 o o) o hs4 iv4 l⟩, ⟨w4.heap.size, w4.heap.size + 1, BoxP w4.heap.size 26 #[.slice A4 n n, .slice B4' m m, .slice C4 o o]⟩, ⟨w4.heap.size + 1, w5.heap.size, OwnP (w4.heap.size + 1) w5.heap.size 3 1 (.slice Bg mg dg) mg (icells us)⟩] w6) := Lib.hid (fm_below (fm_drew Fw8c.out) hb6)
           have hS6 := fm_rd3b FX6.out A3.out 1 rfl
           clear hb6 ho6))
    all_goals
      clear PX6 FX6 Fw8c hS hS6 hS7
      obtain ⟨⟨x0, x1, x2⟩, -⟩ := blk_three (fm_blk FX7.out 1 rfl)
      go_wp2_with fail
      refine (markLanes_any w3.heap.size w4.heap.size A4 n n B4' m m C4 o o hs4 iv4 l 1 _ (fm_get FX7.out 0 rfl) (fm_lt FX7.out 0 rfl).2.2 hbig (by omega)).mono ?_
      rintro e w10 ⟨cur, rfl, hD, hc⟩
      have F10 : Hid (Fm w3 [⟨w3.heap.size, w4.heap.size, LI w3.heap.size w4.heap.size (.slice A4 n n) n (.slice B4' m m) m (.slice C4 o o) o cur iv4 (markLn l 1)⟩, ⟨w4.heap.size, w4.heap.size + 1, BoxP w4.heap.size 26 #[.slice A4 n n, .slice B4' m m, .slice C4 o o]⟩, ⟨w4.heap.size + 1, w5.heap.size, OwnP (w4.heap.size + 1) w5.heap.size 3 1 (.slice Bg mg dg) mg (icells us)⟩] w10) := Lib.hid (fm_put FX7.out 0 rfl hc (at_li hD (Nat.le_trans (fm_lt FX7.out 0 rfl).2.2 hc.size)))
      clear FX7
      clear hD hc x0 x1 x2
      go_wp2_with fail
      refine (eqIntS_any Bg Bw mg dg mw dw us us _ (nr_own (fm_row F10.out 2 rfl)) (nr_below PW.out F10.out.below) (by omega) (by omega)).mono ?_
      rintro e w11c ⟨rfl, hb⟩
      rw [ints_refl us]
      have Fw11c : Hid (Fm w3 [⟨w3.heap.size, w4.heap.size, LI w3.heap.size w4.heap.size (.slice A4 n n) n (.slice B4' m m) m (.slice C4 o o) o cur iv4 (markLn l 1)⟩, ⟨w4.heap.size, w4.heap.size + 1, BoxP w4.heap.size 26 #[.slice A4 n n, .slice B4' m m, .slice C4 o o]⟩, ⟨w4.heap.size + 1, w5.heap.size, OwnP (w4.heap.size + 1) w5.heap.size 3 1 (.slice Bg mg dg) mg (icells us)⟩] w11c) := Lib.hid (fm_below F10.out hb)
      clear F10
      clear hb
      go_wp2_with fail
      refine (markIntS_any (w4.heap.size + 1) Bg mg dg 1 us _ (fm_row Fw11c.out 2 rfl) (by omega) (by omega)).mono ?_
      rintro e w12b ⟨rfl, ho, hg⟩
      have F12b : Hid (Fm w3 [⟨w3.heap.size, w4.heap.size, LI w3.heap.size w4.heap.size (.slice A4 n n) n (.slice B4' m m) m (.slice C4 o o) o cur iv4 (markLn l 1)⟩, ⟨w4.heap.size, w4.heap.size + 1, BoxP w4.heap.size 26 #[.slice A4 n n, .slice B4' m m, .slice C4 o o]⟩, ⟨w4.heap.size + 1, w5.heap.size, OwnP (w4.heap.size + 1) w5.heap.size 3 1 (.slice Bg mg dg) mg (icells (markI mg 1))⟩] w12b) := Lib.hid (fm_mark Fw11c.out 2 rfl hg ho)
      clear Fw11c
      clear ho hg
      have km : decide (1 + (mg : Int) < 0) = false := by simp; omega
      go_wp2_with fail
      refine (heldIntS_any Bg mg dg 1 _ (nr_own (fm_row F12b.out 2 rfl)) (by omega) (by omega)).mono ?_
      rintro e w13_ ⟨rfl, rfl⟩
      obtain ⟨⟨q0, q1, q2⟩, -⟩ := blk_three (blk_below A3.out F12b.out.below za)
      go_wp2_with fail
      refine (toLanes_any A n c B m d C o f l _ (la_below H.out (below_seq B3.out F12b.out.below)) hbig).mono ?_
      rintro e w14 ⟨A14, B14, C14, hs14, iv14, rfl, hD, -, hb⟩
      have X14 := Lib.hid (lo_lr hD (by omega) (by omega) (by omega))
      have F14 : Hid (Fm w3 [⟨w3.heap.size, w4.heap.size, LI w3.heap.size w4.heap.size (.slice A4 n n) n (.slice B4' m m) m (.slice C4 o o) o cur iv4 (markLn l 1)⟩, ⟨w4.heap.size, w4.heap.size + 1, BoxP w4.heap.size 26 #[.slice A4 n n, .slice B4' m m, .slice C4 o o]⟩, ⟨w4.heap.size + 1, w5.heap.size, OwnP (w4.heap.size + 1) w5.heap.size 3 1 (.slice Bg mg dg) mg (icells (markI mg 1))⟩] w14) := Lib.hid (fm_below F12b.out hb)
      clear F12b
      clear hb hD q0 q1 q2
      go_wp2_with fail
      refine (HI0.out A14 n n B14 m m C14 o o _ X14.out).mono ?_
      rintro e w15 ⟨Bh, mh, dh, rfl, hm, hp, hb⟩
      have PH := Lib.hid (nr_own hp)
      have lmh : mh ≤ 1048576 := by omega
      have F15 : Hid (Fm w3 [⟨w3.heap.size, w4.heap.size, LI w3.heap.size w4.heap.size (.slice A4 n n) n (.slice B4' m m) m (.slice C4 o o) o cur iv4 (markLn l 1)⟩, ⟨w4.heap.size, w4.heap.size + 1, BoxP w4.heap.size 26 #[.slice A4 n n, .slice B4' m m, .slice C4 o o]⟩, ⟨w4.heap.size + 1, w5.heap.size, OwnP (w4.heap.size + 1) w5.heap.size 3 1 (.slice Bg mg dg) mg (icells (markI mg 1))⟩] w15) := Lib.hid (fm_below F14.out hb)
      clear F14
      clear hb X14 hp hm
      go_wp2_with fail
      refine (eqIntS_any Bh Bw mh dh mw dw us us _ PH.out (nr_below PW.out F15.out.below) (by omega) (by omega)).mono ?_
      rintro e w16c ⟨rfl, hb⟩
      rw [ints_refl us]
      have Fw16c : Hid (Fm w3 [⟨w3.heap.size, w4.heap.size, LI w3.heap.size w4.heap.size (.slice A4 n n) n (.slice B4' m m) m (.slice C4 o o) o cur iv4 (markLn l 1)⟩, ⟨w4.heap.size, w4.heap.size + 1, BoxP w4.heap.size 26 #[.slice A4 n n, .slice B4' m m, .slice C4 o o]⟩, ⟨w4.heap.size + 1, w5.heap.size, OwnP (w4.heap.size + 1) w5.heap.size 3 1 (.slice Bg mg dg) mg (icells (markI mg 1))⟩] w16c) := Lib.hid (fm_below F15.out hb)
      clear F15
      clear hb
      go_wp2_with fail
      refine (heldIntS_any Bg mg dg 1 _ (nr_own (fm_row Fw16c.out 2 rfl)) (by omega) (by omega)).mono ?_
      rintro e w17_ ⟨rfl, rfl⟩
      go_wp2
      go_ret
      exact ⟨rfl, below_seq B3.out Fw16c.out.below⟩
  · have hle : (1048576 : Int) < (lsz l : Int) := by omega
    go_enter Try.func11, Try.ntmps11
    go_wp2_with fail
    refine (szLanes_any A n c B m d C o f l 1048576 _ (la_below H.out B0.out) (by omega)).mono ?_
    rintro e w1 ⟨rfl, hb⟩
    rw [if_pos (by omega)]
    have B1 := Lib.hid (below_seq B0.out hb)
    clear hb hle hbig
    go_wp2
    go_ret
    exact ⟨rfl, B1.out⟩
end Go.Proofs.Ytffgblphimjipac.fnExactCountLanes
