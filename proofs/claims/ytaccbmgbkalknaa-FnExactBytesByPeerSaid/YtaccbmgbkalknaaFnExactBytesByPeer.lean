/-
  The law FnExactBytesByPeer returns true at every argument: the program's BytesByPeer answers as the model's, writes into no argument, and its answer owns its memory. Conditions: none.
-/
import Derived.Test.YtaccbmgbkalknaaIv
import Derived.Test.YtaccbmgbkalknaaAEx
import Derived.Test.YtaccbmgbkalknaaLiftPkts
import Derived.Test.YtaccbmgbkalknaaEx1
import Derived.Test.YtaccbmgbkalknaaLift
import Derived.Test.YtaccbmgbkalknaaY5
import Derived.Test.YtaccbmgbkalknaaY2
import Derived.Test.YtaccbmgbkalknaaMay
import Derived.Test.YtaccbmgbkalknaaLifts
import Derived.Test.YtaccbmgbkalknaaMake
namespace Go.Proofs.Ytaccbmgbkalknaa.fnExactBytesByPeer
open Go.ChangeShapes Go.WideShapes Go.ChangeAt Go.RowKit

theorem bb_both (ps : List Pkt) : ∃ (R : List Int) (ok : Bool), R.length ≤ 8 ∧
    Hid (∀ (A : Option Addr) (n c : Nat) (w : World), PR w A n ps → n ≤ 4000000000 → Calls Try.prog 21 #[.slice A n c] w (LPq w R ok)) ∧
    Hid (∀ (A : Option Addr) (n c : Nat) (w : World), PR w A n ps → n ≤ 4000000000 → Calls Try.prog 20 #[.slice A n c] w (LPq w R ok)) :=
  ⟨_, _, by split <;> simp [bsL], Lib.hid fun A n c w h _ => bbS_any A n c ps w h (by omega), Lib.hid fun A n c w h _ => bbI_any A n c ps w h (by omega)⟩

theorem toPk_ex (A : Option Addr) (n c : Nat) (ps : List Pkt) (w : World) (h : PR w A n ps) (hn : n ≤ 1048576) :
    Calls Try.prog 34 #[.slice A n c] w fun e w' => ∃ A2, e = .returned (.slice A2 n n) ∧ w'.ownsRow w.heap.size 55 4 (.slice A2 n n) n (pcells ps) ∧ Below w.heap.size w w' :=
  (toPacketS_any A n c ps w h hn).mono fun _ _ h => ⟨_, h.1, h.2.1, h.2.2⟩
set_option maxHeartbeats 8000000 in
theorem walk (A : Option Addr) (n c : Nat) (ps : List Pkt) (w : World) (h : PR w A n ps) (hn : n ≤ 9223372036854775807)  :
    Calls Try.prog 12 #[.slice A n c] w fun e w' => e = .returned (.bool true) ∧ Below w.heap.size w w' := by
  have H := Lib.hid h
  by_cases hbig : n ≤ 1048576
  · obtain ⟨R, ok, hR, HS0, HI0⟩ := bb_both ps
    have hd : 0 ≤ (1048576 : Int) - (n : Int) := by omega
    clear h
    have F0 : Hid (Fm w [] w) := Lib.hid (fm_zero w)
    go_enter Try.func12, Try.ntmps12
    go_wp2_with fail
    refine (szPacketS_any A n c 1048576 _ hn (by omega)).mono ?_
    rintro e w0 ⟨rfl, rfl⟩
    rw [if_neg (by omega)]
    go_wp2_with fail
    refine (toPk_ex A n c ps _ (pr_below H.out F0.out.below) hbig).mono ?_
    rintro e w2 ⟨A2, rfl, ho, hb⟩
    have X2 := Lib.hid (pr_own ho)
    have F2 : Hid (Fm w [] w2) := Lib.hid (fm_below F0.out hb)
    clear F0
    clear hb ho
    go_wp2_with fail
    refine (HS0.out A2 n n _ X2.out (by omega)).mono ?_
    rintro e w3 ⟨Aw, nw, cw, rfl, hnw, ho, hb⟩
    have lnw : nw ≤ 1048576 := by omega
    have F3 : Hid (Fm w [⟨w2.heap.size, w3.heap.size, OwnP (w2.heap.size) (w3.heap.size) 3 1 (.slice Aw nw cw) nw (icells R)⟩] w3) := Lib.hid (fm_own F2.out hb ho rfl)
    clear F2
    clear hb ho hnw
    go_wp2_with fail
    refine (toPk_ex A n c ps _ (pr_below H.out F3.out.below) hbig).mono ?_
    rintro e w4 ⟨A4, rfl, ho, hb⟩
    have F4 : Hid (Fm w [⟨w2.heap.size, w3.heap.size, OwnP (w2.heap.size) (w3.heap.size) 3 1 (.slice Aw nw cw) nw (icells R)⟩, ⟨w3.heap.size, w4.heap.size, OwnP (w3.heap.size) (w4.heap.size) 55 4 (.slice A4 n n) n (pcells ps)⟩] w4) := Lib.hid (fm_own F3.out hb ho rfl)
    clear F3
    clear hb ho
    go_wp2_with fail
    refine (HI0.out A4 n n _ (pr_own (fm_row F4.out 1 rfl)) (by omega)).mono ?_
    rintro e w5 ⟨Ag, ng, cg, rfl, hng, ho, hb⟩
    have lng : ng ≤ 1048576 := by omega
    have F5 : Hid (Fm w [⟨w2.heap.size, w3.heap.size, OwnP (w2.heap.size) (w3.heap.size) 3 1 (.slice Aw nw cw) nw (icells R)⟩, ⟨w3.heap.size, w4.heap.size, OwnP (w3.heap.size) (w4.heap.size) 55 4 (.slice A4 n n) n (pcells ps)⟩, ⟨w4.heap.size, w5.heap.size, OwnP (w4.heap.size) (w5.heap.size) 3 1 (.slice Ag ng cg) ng (icells R)⟩] w5) := Lib.hid (fm_own F4.out hb ho rfl)
    clear F4
    clear hb ho hng
    go_wp2_with fail
    refine (eqIntS_any Ag Aw ng cg nw cw R R _ (nr_own (fm_row F5.out 2 rfl)) (nr_own (fm_row F5.out 0 rfl)) (by omega) (by omega)).mono ?_
    rintro e w8 ⟨rfl, hb⟩
    rw [← ints_yes rfl]
    have F8 : Hid (Fm w [⟨w2.heap.size, w3.heap.size, OwnP (w2.heap.size) (w3.heap.size) 3 1 (.slice Aw nw cw) nw (icells R)⟩, ⟨w3.heap.size, w4.heap.size, OwnP (w3.heap.size) (w4.heap.size) 55 4 (.slice A4 n n) n (pcells ps)⟩, ⟨w4.heap.size, w5.heap.size, OwnP (w4.heap.size) (w5.heap.size) 3 1 (.slice Ag ng cg) ng (icells R)⟩] w8) := Lib.hid (fm_below F5.out hb)
    clear F5
    clear hb
    go_wp2_with fail
    refine (toPk_ex A n c ps _ (pr_below H.out F8.out.below) hbig).mono ?_
    rintro e w6 ⟨A6, rfl, ho, hb⟩
    have PX6 := Lib.hid (pr_own ho)
    have FX6 : Hid (Fm w [⟨w2.heap.size, w3.heap.size, OwnP (w2.heap.size) (w3.heap.size) 3 1 (.slice Aw nw cw) nw (icells R)⟩, ⟨w3.heap.size, w4.heap.size, OwnP (w3.heap.size) (w4.heap.size) 55 4 (.slice A4 n n) n (pcells ps)⟩, ⟨w4.heap.size, w5.heap.size, OwnP (w4.heap.size) (w5.heap.size) 3 1 (.slice Ag ng cg) ng (icells R)⟩] w6) := Lib.hid (fm_below F8.out hb)
    clear F8
    clear hb ho
    go_wp2_with fail
    refine (eqPacketS_any A4 A6 n n n n ps ps _ (pr_own (fm_row FX6.out 1 rfl)) PX6.out (by omega) (by omega)).mono ?_
    rintro e w7 ⟨rfl, hb⟩
    rw [← same_yes rfl]
    have FX7 : Hid (Fm w [⟨w2.heap.size, w3.heap.size, OwnP (w2.heap.size) (w3.heap.size) 3 1 (.slice Aw nw cw) nw (icells R)⟩, ⟨w3.heap.size, w4.heap.size, OwnP (w3.heap.size) (w4.heap.size) 55 4 (.slice A4 n n) n (pcells ps)⟩, ⟨w4.heap.size, w5.heap.size, OwnP (w4.heap.size) (w5.heap.size) 3 1 (.slice Ag ng cg) ng (icells R)⟩] w7) := Lib.hid (fm_below FX6.out hb)
    clear FX6
    clear hb PX6
    go_wp2_with fail
    refine (markPacketS_any w3.heap.size A4 n n 1 ps _ (fm_row FX7.out 1 rfl) (by omega) (by omega)).mono ?_
    rintro e w10 ⟨rfl, ho, hg⟩
    have F10 : Hid (Fm w [⟨w2.heap.size, w3.heap.size, OwnP (w2.heap.size) (w3.heap.size) 3 1 (.slice Aw nw cw) nw (icells R)⟩, ⟨w3.heap.size, w4.heap.size, OwnP (w3.heap.size) (w4.heap.size) 55 4 (.slice A4 n n) n (pcells (markL n 1))⟩, ⟨w4.heap.size, w5.heap.size, OwnP (w4.heap.size) (w5.heap.size) 3 1 (.slice Ag ng cg) ng (icells R)⟩] w10) := Lib.hid (fm_mark FX7.out 1 rfl hg ho)
    clear FX7
    clear hg ho
    have k10 : (0 : Int) ≤ 1 + 4 * (n : Int) := by omega
    go_wp2_with fail
    refine (eqIntS_any Ag Aw ng cg nw cw R R _ (nr_own (fm_row F10.out 2 rfl)) (nr_own (fm_row F10.out 0 rfl)) (by omega) (by omega)).mono ?_
    rintro e w11 ⟨rfl, hb⟩
    rw [← ints_yes rfl]
    have F11 : Hid (Fm w [⟨w2.heap.size, w3.heap.size, OwnP (w2.heap.size) (w3.heap.size) 3 1 (.slice Aw nw cw) nw (icells R)⟩, ⟨w3.heap.size, w4.heap.size, OwnP (w3.heap.size) (w4.heap.size) 55 4 (.slice A4 n n) n (pcells (markL n 1))⟩, ⟨w4.heap.size, w5.heap.size, OwnP (w4.heap.size) (w5.heap.size) 3 1 (.slice Ag ng cg) ng (icells R)⟩] w11) := Lib.hid (fm_below F10.out hb)
    clear F10
    clear hb
    go_wp2_with fail
    refine (markIntS_any w4.heap.size Ag ng cg 1 R _ (fm_row F11.out 2 rfl) (by omega) (by omega)).mono ?_
    rintro e w12 ⟨rfl, ho, hg⟩
    have F12 : Hid (Fm w [⟨w2.heap.size, w3.heap.size, OwnP (w2.heap.size) (w3.heap.size) 3 1 (.slice Aw nw cw) nw (icells R)⟩, ⟨w3.heap.size, w4.heap.size, OwnP (w3.heap.size) (w4.heap.size) 55 4 (.slice A4 n n) n (pcells (markL n 1))⟩, ⟨w4.heap.size, w5.heap.size, OwnP (w4.heap.size) (w5.heap.size) 3 1 (.slice Ag ng cg) ng (icells (markI ng 1))⟩] w12) := Lib.hid (fm_mark F11.out 2 rfl hg ho)
    clear F11
    clear hg ho
    have k12 : (0 : Int) ≤ 1 + (ng : Int) := by omega
    go_wp2_with fail
    refine (heldIntS_any Ag ng cg 1 _ (nr_own (fm_row F12.out 2 rfl)) (by omega) (by omega)).mono ?_
    rintro e w13_ ⟨rfl, rfl⟩
    go_wp2_with fail
    refine (toPk_ex A n c ps _ (pr_below H.out F12.out.below) hbig).mono ?_
    rintro e w14 ⟨A14, rfl, ho, hb⟩
    have X14 := Lib.hid (pr_own ho)
    have F14 : Hid (Fm w [⟨w2.heap.size, w3.heap.size, OwnP (w2.heap.size) (w3.heap.size) 3 1 (.slice Aw nw cw) nw (icells R)⟩, ⟨w3.heap.size, w4.heap.size, OwnP (w3.heap.size) (w4.heap.size) 55 4 (.slice A4 n n) n (pcells (markL n 1))⟩, ⟨w4.heap.size, w5.heap.size, OwnP (w4.heap.size) (w5.heap.size) 3 1 (.slice Ag ng cg) ng (icells (markI ng 1))⟩] w14) := Lib.hid (fm_below F12.out hb)
    clear F12
    clear hb ho
    go_wp2_with fail
    refine (HI0.out A14 n n _ X14.out (by omega)).mono ?_
    rintro e w15 ⟨Ah, nh, ch, rfl, hnh, ho, hb⟩
    have lnh : nh ≤ 1048576 := by omega
    have F15 : Hid (Fm w [⟨w2.heap.size, w3.heap.size, OwnP (w2.heap.size) (w3.heap.size) 3 1 (.slice Aw nw cw) nw (icells R)⟩, ⟨w3.heap.size, w4.heap.size, OwnP (w3.heap.size) (w4.heap.size) 55 4 (.slice A4 n n) n (pcells (markL n 1))⟩, ⟨w4.heap.size, w5.heap.size, OwnP (w4.heap.size) (w5.heap.size) 3 1 (.slice Ag ng cg) ng (icells (markI ng 1))⟩, ⟨w14.heap.size, w15.heap.size, OwnP (w14.heap.size) (w15.heap.size) 3 1 (.slice Ah nh ch) nh (icells R)⟩] w15) := Lib.hid (fm_own F14.out hb ho rfl)
    clear F14
    clear hb ho hnh
    go_wp2_with fail
    refine (eqIntS_any Ah Aw nh ch nw cw R R _ (nr_own (fm_row F15.out 3 rfl)) (nr_own (fm_row F15.out 0 rfl)) (by omega) (by omega)).mono ?_
    rintro e w16 ⟨rfl, hb⟩
    rw [← ints_yes rfl]
    have F16 : Hid (Fm w [⟨w2.heap.size, w3.heap.size, OwnP (w2.heap.size) (w3.heap.size) 3 1 (.slice Aw nw cw) nw (icells R)⟩, ⟨w3.heap.size, w4.heap.size, OwnP (w3.heap.size) (w4.heap.size) 55 4 (.slice A4 n n) n (pcells (markL n 1))⟩, ⟨w4.heap.size, w5.heap.size, OwnP (w4.heap.size) (w5.heap.size) 3 1 (.slice Ag ng cg) ng (icells (markI ng 1))⟩, ⟨w14.heap.size, w15.heap.size, OwnP (w14.heap.size) (w15.heap.size) 3 1 (.slice Ah nh ch) nh (icells R)⟩] w16) := Lib.hid (fm_below F15.out hb)
    clear F15
    clear hb
    go_wp2_with fail
    refine (heldIntS_any Ag ng cg 1 _ (nr_own (fm_row F16.out 2 rfl)) (by omega) (by omega)).mono ?_
    rintro e w17_ ⟨rfl, rfl⟩
    go_wp2
    go_ret
    exact ⟨rfl, F16.out.below⟩
  · clear h
    go_enter Try.func12, Try.ntmps12
    go_wp2_with fail
    refine (szPacketS_any A n c 1048576 _ hn (by omega)).mono ?_
    rintro e w0 ⟨rfl, rfl⟩
    rw [if_pos (by omega)]
    go_wp2
    go_ret
    exact ⟨rfl, Below.refl _ _⟩
theorem own : ownKnob Try.prog.godebug = none := by kernel_rfl
theorem laidOut : laidOutB Try.prog = true := by kernel_rfl
set_option maxRecDepth 100000 in
theorem lifted (os : Os) (started : os.Started) (H : Type) (enc : TypeId × Value → H) :
    ReturnsInHanded {} Try.checked os 12 .any (Rows.fnExactBytesByPeerSpec.pre6 enc Try.prog Try.f12 Rows.fnExactBytesByPeerRow.domain false) (Rows.fnExactBytesByPeerSpec.post enc Try.prog Try.f12 false true false false) := by
  refine returnsInHanded_of_change (C := Try.checked) own started (by kernel_rfl) Try.func12
    (ChangeSpec.witness6 (enc := enc) (C := Try.checked) false ⟨#[], #[.slice none 0 0], []⟩ 8 (by kernel_rfl) (by kernel_rfl) (by kernel_rfl) (by kernel_rfl)) ?_
  intro W base args ds gs before hval0 hW _ _
  have hval : ∀ (j : Nat) t v, Try.f12.params[j]? = some t → args[j]? = some v → Value.okWide Try.prog W .any base t v := hval0
  have hW' := hW
  obtain ⟨p, q, hA0, hV, rfl, _, _⟩ := hW
  have hA : DataW.TrodAll enc Try.prog W 0 (fun _ => true) true Try.f12.params.toList args.toList ds p := hA0
  rw [Try.params12] at hA hval
  obtain ⟨v0, vs0, d0, ds0, p0, q0, hargs, rfl, rfl, h0, r0⟩ := trodAll_cons hA
  obtain ⟨rfl, rfl, rfl⟩ := trodAll_nil r0
  obtain rfl : args = #[v0] := by cases args; simp_all
  obtain ⟨rfl, rfl⟩ := trodVars_none hV
  have lt0 : ∀ x ∈ p0, x.block < W.heap.size := by obtain ⟨m, hm⟩ := h0; exact DataW.trod_lt m _ _ _ hm
  obtain ⟨a0, n0, c0, rfl⟩ := okWide_slice Try.underlying42 (hval 0 42 v0 rfl rfl)
  obtain ⟨x0, w0, m0⟩ := pkts_open h0
  clear hA0 hval0
  refine (walk a0 n0 c0 x0 W w0 m0).mono fun e W' ⟨he, bel⟩ => ?_
  subst he
  exact ⟨_, rfl, _, _, _, [], _, [], hW', trodAll_mk1 (shut_bool Try.underlying4 _), (trodAll_cons_mk (Below.trod laidOut (by kernel_rfl) (of_decide_eq_true (by kernel_rfl)) h0 bel lt0) trodAll_mk0), rfl, bel.frame _, fun h => by cases h⟩
theorem over : Rows.fnExactBytesByPeerRow.holds Try.pinned (OpenSpec.ofChange Rows.fnExactBytesByPeerSpec) :=
  OpenClaim.holds_of_wide 12 Try.f12 rfl rfl rfl rfl rfl rfl rfl ⟨rfl, rfl, rfl, rfl, rfl⟩ rfl rfl rfl rfl rfl (by kernel_rfl) Try.func12 (by unfold joinedFacts; rw [mayEnter, liftsFinal, makeIs]; kernel_rfl)
    (of_decide_eq_true (by kernel_rfl)) (by unfold Func.isWrapper; first | (rw [if_pos (by decide +kernel)]; kernel_rfl) | (rw [if_neg (by decide +kernel)]; exact ⟨rfl, rfl⟩))
    (fun os started H enc _ => lifted os started H enc)
/-- the given statement -/
theorem proved : Rows.FnExactBytesByPeerSaid := over
end Go.Proofs.Ytaccbmgbkalknaa.fnExactBytesByPeer
