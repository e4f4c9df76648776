/-
  The law FnExactMergeArrivals returns true at every argument: the program's MergeArrivals answers as the model's, writes into no argument, and its answer owns its memory. Conditions: none.
-/
import Derived.Test.YtaccbmgbkalknabEy
import Derived.Test.YtaccbmgbkalknabEi
import Derived.Test.YtaccbmgbkalknabEax
import Derived.Test.YtaccbmgbkalknabIv
import Derived.Test.YtaccbmgbkalknabMay
import Derived.Test.YtaccbmgbkalknabLifts
import Derived.Test.YtaccbmgbkalknabMake
namespace Go.Proofs.Ytaccbmgbkalknab.fnExactMergeArrivals
open Go.ChangeShapes Go.WideShapes Go.ChangeAt Go.RowKit

def MgAt (w : World) (L : List Arr) (R : Bool) (e : Ending) (w' : World) : Prop :=
  ∃ A n c, e = .returned (.tuple #[.slice A n c, .bool R]) ∧ w'.ownsRow w.heap.size 33 2 (.slice A n c) n (acells L) ∧ Below w.heap.size w w'
theorem mg_both (ps qs : List Arr) : ∃ (L : List Arr) (R : Bool), L.length ≤ ps.length + qs.length ∧
    Hid (∀ (A B : Option Addr) (n c m d : Nat) (w : World), AR w A n ps → AR w B m qs → n ≤ 1048576 → m ≤ 1048576 → Calls Try.prog 5 #[.slice A n c, .slice B m d] w (MgAt w L R)) ∧
    Hid (∀ (A B : Option Addr) (n c m d : Nat) (w : World), AR w A n ps → AR w B m qs → n ≤ 1048576 → m ≤ 1048576 → Calls Try.prog 7 #[.slice A n c, .slice B m d] w (MgAt w L R)) := by
  refine ⟨mgL ps qs, mgB ps qs, ?_, Lib.hid fun A B n c m d w h k hn hm => mgS_any A B n c m d ps qs w h k (by omega) (by omega), Lib.hid fun A B n c m d w h k hn hm => mgB_any A B n c m d ps qs w h k (by omega) (by omega)⟩
  rcases hb : mgB ps qs with _ | _
  · rw [mgL_no hb]; exact Nat.zero_le _
  · rw [mgL_yes hb, finA_len]; exact Nat.le_refl _
set_option maxHeartbeats 4000000 in
theorem walk (A : Option Addr) (n c : Nat) (ps : List Arr) (B : Option Addr) (m d : Nat) (qs : List Arr) (w : World) (h : AR w A n ps) (hn : n ≤ 9223372036854775807) (k : AR w B m qs) (hm : m ≤ 9223372036854775807) :
    Calls Try.prog 3 #[.slice A n c, .slice B m d] w fun e w' => e = .returned (.bool true) ∧ Below w.heap.size w w' := by
  have H := Lib.hid h
  have K := Lib.hid k
  have hlp := h.1
  have hlq := k.1
  clear h k
  by_cases hbig : n ≤ 1048576
  · have hd : 0 ≤ (1048576 : Int) - (n : Int) := by omega
    by_cases hsum : n + m ≤ 1048576
    · obtain ⟨L, R, hL, HS0, HI0⟩ := mg_both ps qs
      have hL2 : L.length ≤ 1048576 := by omega
      have hd2 : 0 ≤ (1048576 : Int) - (n : Int) - (m : Int) := by omega
      clear hL hlp hlq
      have F0 : Hid (Fm w [] w) := Lib.hid (fm_zero w)
      go_enter Try.func3, Try.ntmps3
      go_wp2_with fail
      refine (szArrS_any A n c 1048576 _ hn (by omega)).mono ?_
      rintro e w0 ⟨rfl, rfl⟩
      rw [if_neg (by omega)]
      go_wp2_with fail
      refine (szArrS_any B m d (1048576 - (n : Int)) _ hm (by omega)).mono ?_
      rintro e w0 ⟨rfl, rfl⟩
      rw [if_neg (by omega)]
      go_wp2_with fail
      refine (toArrS_any A n c ps _ (ar_below H.out F0.out.below) hbig).mono ?_
      rintro e w1 ⟨rfl, ho, hb⟩
      have X1 := Lib.hid (ar_own ho)
      have F1 : Hid (Fm w [] w1) := Lib.hid (fm_below F0.out hb)
      clear F0
      clear hb ho
      go_wp2_with fail
      refine (toArrS_any B m d qs _ (ar_below K.out F1.out.below) (by omega)).mono ?_
      rintro e w2 ⟨rfl, ho, hb⟩
      have X2 := Lib.hid (ar_own ho)
      have X1' := Lib.hid (ar_below X1.out hb)
      have F2 : Hid (Fm w [] w2) := Lib.hid (fm_below F1.out hb)
      clear F1
      clear hb ho X1
      go_wp2_with fail
      refine (HS0.out _ _ n n m m _ X1'.out X2.out hbig (by omega)).mono ?_
      rintro e w3 ⟨Aw, nw, cw, rfl, ho, hb⟩
      have lnw : nw ≤ 1048576 := by have e := (ar_own ho).1; omega
      have F3 : Hid (Fm w [⟨w2.heap.size, w3.heap.size, OwnP (w2.heap.size) (w3.heap.size) 33 2 (.slice Aw nw cw) nw (acells L)⟩] w3) := Lib.hid (fm_own F2.out hb ho rfl)
      clear F2
      clear hb ho
      clear X1' X2
      go_wp2_with fail
      refine (toArrS_any A n c ps _ (ar_below H.out F3.out.below) hbig).mono ?_
      rintro e w4 ⟨rfl, ho, hb⟩
      have F4 : Hid (Fm w [⟨w2.heap.size, w3.heap.size, OwnP (w2.heap.size) (w3.heap.size) 33 2 (.slice Aw nw cw) nw (acells L)⟩, ⟨w3.heap.size, w4.heap.size, OwnP (w3.heap.size) (w4.heap.size) 33 2 (.slice (some ⟨w3.heap.size, 0, none⟩) n n) n (acells ps)⟩] w4) := Lib.hid (fm_own F3.out hb ho rfl)
      clear F3
      clear hb ho
      go_wp2_with fail
      refine (toArrS_any B m d qs _ (ar_below K.out F4.out.below) (by omega)).mono ?_
      rintro e w5 ⟨rfl, ho, hb⟩
      have F5 : Hid (Fm w [⟨w2.heap.size, w3.heap.size, OwnP (w2.heap.size) (w3.heap.size) 33 2 (.slice Aw nw cw) nw (acells L)⟩, ⟨w3.heap.size, w4.heap.size, OwnP (w3.heap.size) (w4.heap.size) 33 2 (.slice (some ⟨w3.heap.size, 0, none⟩) n n) n (acells ps)⟩, ⟨w4.heap.size, w5.heap.size, OwnP (w4.heap.size) (w5.heap.size) 33 2 (.slice (some ⟨w4.heap.size, 0, none⟩) m m) m (acells qs)⟩] w5) := Lib.hid (fm_own F4.out hb ho rfl)
      clear F4
      clear hb ho
      go_wp2_with fail
      refine (HI0.out _ _ n n m m _ (ar_own (fm_row F5.out 1 rfl)) (ar_own (fm_row F5.out 2 rfl)) hbig (by omega)).mono ?_
      rintro e w6 ⟨Ag, ng, cg, rfl, ho, hb⟩
      have lng : ng ≤ 1048576 := by have e := (ar_own ho).1; omega
      have F6 : Hid (Fm w [⟨w2.heap.size, w3.heap.size, OwnP (w2.heap.size) (w3.heap.size) 33 2 (.slice Aw nw cw) nw (acells L)⟩, ⟨w3.heap.size, w4.heap.size, OwnP (w3.heap.size) (w4.heap.size) 33 2 (.slice (some ⟨w3.heap.size, 0, none⟩) n n) n (acells ps)⟩, ⟨w4.heap.size, w5.heap.size, OwnP (w4.heap.size) (w5.heap.size) 33 2 (.slice (some ⟨w4.heap.size, 0, none⟩) m m) m (acells qs)⟩, ⟨w5.heap.size, w6.heap.size, OwnP (w5.heap.size) (w6.heap.size) 33 2 (.slice Ag ng cg) ng (acells L)⟩] w6) := Lib.hid (fm_own F5.out hb ho rfl)
      clear F5
      clear hb ho
      go_wp2_with fail
      refine (eqArrS_any Ag Aw ng cg nw cw L L _ (ar_own (fm_row F6.out 3 rfl)) (ar_own (fm_row F6.out 0 rfl)) (by omega) (by omega)).mono ?_
      rintro e w7 ⟨rfl, hb⟩
      rw [← sameA_yes rfl]
      have F7 : Hid (Fm w [⟨w2.heap.size, w3.heap.size, OwnP (w2.heap.size) (w3.heap.size) 33 2 (.slice Aw nw cw) nw (acells L)⟩, ⟨w3.heap.size, w4.heap.size, OwnP (w3.heap.size) (w4.heap.size) 33 2 (.slice (some ⟨w3.heap.size, 0, none⟩) n n) n (acells ps)⟩, ⟨w4.heap.size, w5.heap.size, OwnP (w4.heap.size) (w5.heap.size) 33 2 (.slice (some ⟨w4.heap.size, 0, none⟩) m m) m (acells qs)⟩, ⟨w5.heap.size, w6.heap.size, OwnP (w5.heap.size) (w6.heap.size) 33 2 (.slice Ag ng cg) ng (acells L)⟩] w7) := Lib.hid (fm_below F6.out hb)
      clear F6
      clear hb
      go_wp2_with fail
      refine (toArrS_any A n c ps _ (ar_below H.out F7.out.below) hbig).mono ?_
      rintro e w8 ⟨rfl, ho, hb⟩
      have X8 := Lib.hid (ar_own ho)
      have F8 : Hid (Fm w [⟨w2.heap.size, w3.heap.size, OwnP (w2.heap.size) (w3.heap.size) 33 2 (.slice Aw nw cw) nw (acells L)⟩, ⟨w3.heap.size, w4.heap.size, OwnP (w3.heap.size) (w4.heap.size) 33 2 (.slice (some ⟨w3.heap.size, 0, none⟩) n n) n (acells ps)⟩, ⟨w4.heap.size, w5.heap.size, OwnP (w4.heap.size) (w5.heap.size) 33 2 (.slice (some ⟨w4.heap.size, 0, none⟩) m m) m (acells qs)⟩, ⟨w5.heap.size, w6.heap.size, OwnP (w5.heap.size) (w6.heap.size) 33 2 (.slice Ag ng cg) ng (acells L)⟩] w8) := Lib.hid (fm_below F7.out hb)
      clear F7
      clear hb ho
      go_wp2_with fail
      refine (eqArrS_any _ _ n n n n ps ps _ (ar_own (fm_row F8.out 1 rfl)) X8.out (by omega) (by omega)).mono ?_
      rintro e w9 ⟨rfl, hb⟩
      rw [← sameA_yes rfl]
      have F9 : Hid (Fm w [⟨w2.heap.size, w3.heap.size, OwnP (w2.heap.size) (w3.heap.size) 33 2 (.slice Aw nw cw) nw (acells L)⟩, ⟨w3.heap.size, w4.heap.size, OwnP (w3.heap.size) (w4.heap.size) 33 2 (.slice (some ⟨w3.heap.size, 0, none⟩) n n) n (acells ps)⟩, ⟨w4.heap.size, w5.heap.size, OwnP (w4.heap.size) (w5.heap.size) 33 2 (.slice (some ⟨w4.heap.size, 0, none⟩) m m) m (acells qs)⟩, ⟨w5.heap.size, w6.heap.size, OwnP (w5.heap.size) (w6.heap.size) 33 2 (.slice Ag ng cg) ng (acells L)⟩] w9) := Lib.hid (fm_below F8.out hb)
      clear F8
      clear hb
      clear X8
      go_wp2_with fail
      refine (toArrS_any B m d qs _ (ar_below K.out F9.out.below) (by omega)).mono ?_
      rintro e w10 ⟨rfl, ho, hb⟩
      have X10 := Lib.hid (ar_own ho)
      have F10 : Hid (Fm w [⟨w2.heap.size, w3.heap.size, OwnP (w2.heap.size) (w3.heap.size) 33 2 (.slice Aw nw cw) nw (acells L)⟩, ⟨w3.heap.size, w4.heap.size, OwnP (w3.heap.size) (w4.heap.size) 33 2 (.slice (some ⟨w3.heap.size, 0, none⟩) n n) n (acells ps)⟩, ⟨w4.heap.size, w5.heap.size, OwnP (w4.heap.size) (w5.heap.size) 33 2 (.slice (some ⟨w4.heap.size, 0, none⟩) m m) m (acells qs)⟩, ⟨w5.heap.size, w6.heap.size, OwnP (w5.heap.size) (w6.heap.size) 33 2 (.slice Ag ng cg) ng (acells L)⟩] w10) := Lib.hid (fm_below F9.out hb)
      clear F9
      clear hb ho
      go_wp2_with fail
      refine (eqArrS_any _ _ m m m m qs qs _ (ar_own (fm_row F10.out 2 rfl)) X10.out (by omega) (by omega)).mono ?_
      rintro e w11 ⟨rfl, hb⟩
      rw [← sameA_yes rfl]
      have F11 : Hid (Fm w [⟨w2.heap.size, w3.heap.size, OwnP (w2.heap.size) (w3.heap.size) 33 2 (.slice Aw nw cw) nw (acells L)⟩, ⟨w3.heap.size, w4.heap.size, OwnP (w3.heap.size) (w4.heap.size) 33 2 (.slice (some ⟨w3.heap.size, 0, none⟩) n n) n (acells ps)⟩, ⟨w4.heap.size, w5.heap.size, OwnP (w4.heap.size) (w5.heap.size) 33 2 (.slice (some ⟨w4.heap.size, 0, none⟩) m m) m (acells qs)⟩, ⟨w5.heap.size, w6.heap.size, OwnP (w5.heap.size) (w6.heap.size) 33 2 (.slice Ag ng cg) ng (acells L)⟩] w11) := Lib.hid (fm_below F10.out hb)
      clear F10
      clear hb
      clear X10
      go_wp2_with fail
      refine (markArrS_any (w3.heap.size) (some ⟨w3.heap.size, 0, none⟩) n n 1 ps _ (fm_row F11.out 1 rfl) (by omega) (by omega)).mono ?_
      rintro e w12 ⟨rfl, ho, hg⟩
      have F12 : Hid (Fm w [⟨w2.heap.size, w3.heap.size, OwnP (w2.heap.size) (w3.heap.size) 33 2 (.slice Aw nw cw) nw (acells L)⟩, ⟨w3.heap.size, w4.heap.size, OwnP (w3.heap.size) (w4.heap.size) 33 2 (.slice (some ⟨w3.heap.size, 0, none⟩) n n) n (acells (markA n 1))⟩, ⟨w4.heap.size, w5.heap.size, OwnP (w4.heap.size) (w5.heap.size) 33 2 (.slice (some ⟨w4.heap.size, 0, none⟩) m m) m (acells qs)⟩, ⟨w5.heap.size, w6.heap.size, OwnP (w5.heap.size) (w6.heap.size) 33 2 (.slice Ag ng cg) ng (acells L)⟩] w12) := Lib.hid (fm_mark F11.out 1 rfl hg ho)
      clear F11
      clear hg ho
      go_wp2_with fail
      refine (markArrS_any (w4.heap.size) (some ⟨w4.heap.size, 0, none⟩) m m (1 + 2 * (n : Int)) qs _ (fm_row F12.out 2 rfl) (by omega) (by omega)).mono ?_
      rintro e w13 ⟨rfl, ho, hg⟩
      have F13 : Hid (Fm w [⟨w2.heap.size, w3.heap.size, OwnP (w2.heap.size) (w3.heap.size) 33 2 (.slice Aw nw cw) nw (acells L)⟩, ⟨w3.heap.size, w4.heap.size, OwnP (w3.heap.size) (w4.heap.size) 33 2 (.slice (some ⟨w3.heap.size, 0, none⟩) n n) n (acells (markA n 1))⟩, ⟨w4.heap.size, w5.heap.size, OwnP (w4.heap.size) (w5.heap.size) 33 2 (.slice (some ⟨w4.heap.size, 0, none⟩) m m) m (acells (markA m (1 + 2 * (n : Int))))⟩, ⟨w5.heap.size, w6.heap.size, OwnP (w5.heap.size) (w6.heap.size) 33 2 (.slice Ag ng cg) ng (acells L)⟩] w13) := Lib.hid (fm_mark F12.out 2 rfl hg ho)
      clear F12
      clear hg ho
      have k13 : (0 : Int) ≤ 1 + 2 * (n : Int) + 2 * (m : Int) := by omega
      go_wp2_with fail
      refine (eqArrS_any Ag Aw ng cg nw cw L L _ (ar_own (fm_row F13.out 3 rfl)) (ar_own (fm_row F13.out 0 rfl)) (by omega) (by omega)).mono ?_
      rintro e w14 ⟨rfl, hb⟩
      rw [← sameA_yes rfl]
      have F14 : Hid (Fm w [⟨w2.heap.size, w3.heap.size, OwnP (w2.heap.size) (w3.heap.size) 33 2 (.slice Aw nw cw) nw (acells L)⟩, ⟨w3.heap.size, w4.heap.size, OwnP (w3.heap.size) (w4.heap.size) 33 2 (.slice (some ⟨w3.heap.size, 0, none⟩) n n) n (acells (markA n 1))⟩, ⟨w4.heap.size, w5.heap.size, OwnP (w4.heap.size) (w5.heap.size) 33 2 (.slice (some ⟨w4.heap.size, 0, none⟩) m m) m (acells (markA m (1 + 2 * (n : Int))))⟩, ⟨w5.heap.size, w6.heap.size, OwnP (w5.heap.size) (w6.heap.size) 33 2 (.slice Ag ng cg) ng (acells L)⟩] w14) := Lib.hid (fm_below F13.out hb)
      clear F13
      clear hb
      go_wp2_with fail
      refine (markArrS_any (w5.heap.size) Ag ng cg 1 L _ (fm_row F14.out 3 rfl) (by omega) (by omega)).mono ?_
      rintro e w15 ⟨rfl, ho, hg⟩
      have F15 : Hid (Fm w [⟨w2.heap.size, w3.heap.size, OwnP (w2.heap.size) (w3.heap.size) 33 2 (.slice Aw nw cw) nw (acells L)⟩, ⟨w3.heap.size, w4.heap.size, OwnP (w3.heap.size) (w4.heap.size) 33 2 (.slice (some ⟨w3.heap.size, 0, none⟩) n n) n (acells (markA n 1))⟩, ⟨w4.heap.size, w5.heap.size, OwnP (w4.heap.size) (w5.heap.size) 33 2 (.slice (some ⟨w4.heap.size, 0, none⟩) m m) m (acells (markA m (1 + 2 * (n : Int))))⟩, ⟨w5.heap.size, w6.heap.size, OwnP (w5.heap.size) (w6.heap.size) 33 2 (.slice Ag ng cg) ng (acells (markA ng 1))⟩] w15) := Lib.hid (fm_mark F14.out 3 rfl hg ho)
      clear F14
      clear hg ho
      have k15 : (0 : Int) ≤ 1 + 2 * (ng : Int) := by omega
      go_wp2_with fail
      refine (heldArrS_any Ag ng cg 1 _ (ar_own (fm_row F15.out 3 rfl)) (by omega) (by omega)).mono ?_
      rintro e w16 ⟨rfl, rfl⟩
      go_wp2_with fail
      refine (toArrS_any A n c ps _ (ar_below H.out F15.out.below) hbig).mono ?_
      rintro e w17 ⟨rfl, ho, hb⟩
      have X17 := Lib.hid (ar_own ho)
      have F17 : Hid (Fm w [⟨w2.heap.size, w3.heap.size, OwnP (w2.heap.size) (w3.heap.size) 33 2 (.slice Aw nw cw) nw (acells L)⟩, ⟨w3.heap.size, w4.heap.size, OwnP (w3.heap.size) (w4.heap.size) 33 2 (.slice (some ⟨w3.heap.size, 0, none⟩) n n) n (acells (markA n 1))⟩, ⟨w4.heap.size, w5.heap.size, OwnP (w4.heap.size) (w5.heap.size) 33 2 (.slice (some ⟨w4.heap.size, 0, none⟩) m m) m (acells (markA m (1 + 2 * (n : Int))))⟩, ⟨w5.heap.size, w6.heap.size, OwnP (w5.heap.size) (w6.heap.size) 33 2 (.slice Ag ng cg) ng (acells (markA ng 1))⟩] w17) := Lib.hid (fm_below F15.out hb)
      clear F15
      clear hb ho
      go_wp2_with fail
      refine (toArrS_any B m d qs _ (ar_below K.out F17.out.below) (by omega)).mono ?_
      rintro e w18 ⟨rfl, ho, hb⟩
      have X18 := Lib.hid (ar_own ho)
      have X17' := Lib.hid (ar_below X17.out hb)
      have F18 : Hid (Fm w [⟨w2.heap.size, w3.heap.size, OwnP (w2.heap.size) (w3.heap.size) 33 2 (.slice Aw nw cw) nw (acells L)⟩, ⟨w3.heap.size, w4.heap.size, OwnP (w3.heap.size) (w4.heap.size) 33 2 (.slice (some ⟨w3.heap.size, 0, none⟩) n n) n (acells (markA n 1))⟩, ⟨w4.heap.size, w5.heap.size, OwnP (w4.heap.size) (w5.heap.size) 33 2 (.slice (some ⟨w4.heap.size, 0, none⟩) m m) m (acells (markA m (1 + 2 * (n : Int))))⟩, ⟨w5.heap.size, w6.heap.size, OwnP (w5.heap.size) (w6.heap.size) 33 2 (.slice Ag ng cg) ng (acells (markA ng 1))⟩] w18) := Lib.hid (fm_below F17.out hb)
      clear F17
      clear hb ho X17
      go_wp2_with fail
      refine (HI0.out _ _ n n m m _ X17'.out X18.out hbig (by omega)).mono ?_
      rintro e w19 ⟨Ah, nh, ch, rfl, ho, hb⟩
      have lnh : nh ≤ 1048576 := by have e := (ar_own ho).1; omega
      have F19 : Hid (Fm w [⟨w2.heap.size, w3.heap.size, OwnP (w2.heap.size) (w3.heap.size) 33 2 (.slice Aw nw cw) nw (acells L)⟩, ⟨w3.heap.size, w4.heap.size, OwnP (w3.heap.size) (w4.heap.size) 33 2 (.slice (some ⟨w3.heap.size, 0, none⟩) n n) n (acells (markA n 1))⟩, ⟨w4.heap.size, w5.heap.size, OwnP (w4.heap.size) (w5.heap.size) 33 2 (.slice (some ⟨w4.heap.size, 0, none⟩) m m) m (acells (markA m (1 + 2 * (n : Int))))⟩, ⟨w5.heap.size, w6.heap.size, OwnP (w5.heap.size) (w6.heap.size) 33 2 (.slice Ag ng cg) ng (acells (markA ng 1))⟩, ⟨w18.heap.size, w19.heap.size, OwnP (w18.heap.size) (w19.heap.size) 33 2 (.slice Ah nh ch) nh (acells L)⟩] w19) := Lib.hid (fm_own F18.out hb ho rfl)
      clear F18
      clear hb ho
      clear X17' X18
      go_wp2_with fail
      refine (eqArrS_any Ah Aw nh ch nw cw L L _ (ar_own (fm_row F19.out 4 rfl)) (ar_own (fm_row F19.out 0 rfl)) (by omega) (by omega)).mono ?_
      rintro e w20 ⟨rfl, hb⟩
      rw [← sameA_yes rfl]
      have F20 : Hid (Fm w [⟨w2.heap.size, w3.heap.size, OwnP (w2.heap.size) (w3.heap.size) 33 2 (.slice Aw nw cw) nw (acells L)⟩, ⟨w3.heap.size, w4.heap.size, OwnP (w3.heap.size) (w4.heap.size) 33 2 (.slice (some ⟨w3.heap.size, 0, none⟩) n n) n (acells (markA n 1))⟩, ⟨w4.heap.size, w5.heap.size, OwnP (w4.heap.size) (w5.heap.size) 33 2 (.slice (some ⟨w4.heap.size, 0, none⟩) m m) m (acells (markA m (1 + 2 * (n : Int))))⟩, ⟨w5.heap.size, w6.heap.size, OwnP (w5.heap.size) (w6.heap.size) 33 2 (.slice Ag ng cg) ng (acells (markA ng 1))⟩, ⟨w18.heap.size, w19.heap.size, OwnP (w18.heap.size) (w19.heap.size) 33 2 (.slice Ah nh ch) nh (acells L)⟩] w20) := Lib.hid (fm_below F19.out hb)
      clear F19
      clear hb
      go_wp2_with fail
      refine (heldArrS_any Ag ng cg 1 _ (ar_own (fm_row F20.out 3 rfl)) (by omega) (by omega)).mono ?_
      rintro e w21 ⟨rfl, rfl⟩
      go_wp2
      go_ret
      exact ⟨rfl, F20.out.below⟩
    · go_enter Try.func3, Try.ntmps3
      go_wp2_with fail
      refine (szArrS_any A n c 1048576 _ hn (by omega)).mono ?_
      rintro e w1 ⟨rfl, rfl⟩
      rw [if_neg (by omega)]
      go_wp2_with fail
      refine (szArrS_any B m d (1048576 - (n : Int)) _ hm (by omega)).mono ?_
      rintro e w1 ⟨rfl, rfl⟩
      rw [if_pos (by omega)]
      go_wp2
      go_ret
      exact ⟨rfl, Below.refl _ _⟩
  · go_enter Try.func3, Try.ntmps3
    go_wp2_with fail
    refine (szArrS_any A n c 1048576 _ hn (by omega)).mono ?_
    rintro e w1 ⟨rfl, rfl⟩
    rw [if_pos (by omega)]
    go_wp2
    go_ret
    exact ⟨rfl, Below.refl _ _⟩
theorem own : ownKnob Try.prog.godebug = none := by kernel_rfl
theorem laidOut : laidOutB Try.prog = true := by kernel_rfl
set_option maxRecDepth 100000 in
theorem lifted (os : Os) (started : os.Started) (H : Type) (enc : TypeId × Value → H) :
    ReturnsInHanded {} Try.checked os 3 .any (Rows.fnExactMergeArrivalsSpec.pre6 enc Try.prog Try.f3 Rows.fnExactMergeArrivalsRow.domain false) (Rows.fnExactMergeArrivalsSpec.post enc Try.prog Try.f3 false true false false) := by
  refine returnsInHanded_of_change (C := Try.checked) own started (by kernel_rfl) Try.func3
    (ChangeSpec.witness6 (enc := enc) (C := Try.checked) false ⟨#[], #[.slice none 0 0, .slice none 0 0], []⟩ 8 (by kernel_rfl) (by kernel_rfl) (by kernel_rfl) (by kernel_rfl)) ?_
  intro W base args ds gs before hval0 hW _ _
  have hval : ∀ (j : Nat) t v, Try.f3.params[j]? = some t → args[j]? = some v → Value.okWide Try.prog W .any base t v := hval0
  have hW' := hW
  obtain ⟨p, q, hA0, hV, rfl, _, _⟩ := hW
  have hA : DataW.TrodAll enc Try.prog W 0 (fun _ => true) true Try.f3.params.toList args.toList ds p := hA0
  rw [Try.params3] at hA hval
  obtain ⟨v0, vs0, d0, ds0, p0, q0, hargs, rfl, rfl, h0, r0⟩ := trodAll_cons hA
  obtain ⟨v1, vs1, d1, ds1, p1, q1, rfl, rfl, rfl, h1, r1⟩ := trodAll_cons r0
  obtain ⟨rfl, rfl, rfl⟩ := trodAll_nil r1
  obtain rfl : args = #[v0, v1] := by cases args; simp_all
  obtain ⟨rfl, rfl⟩ := trodVars_none hV
  have lt0 : ∀ x ∈ p0, x.block < W.heap.size := by obtain ⟨m, hm⟩ := h0; exact DataW.trod_lt m _ _ _ hm
  obtain ⟨a0, n0, c0, rfl⟩ := okWide_slice Try.underlying22 (hval 0 22 v0 rfl rfl)
  obtain ⟨x0, w0, m0⟩ := arrs_open h0
  have lt1 : ∀ x ∈ p1, x.block < W.heap.size := by obtain ⟨m, hm⟩ := h1; exact DataW.trod_lt m _ _ _ hm
  obtain ⟨a1, n1, c1, rfl⟩ := okWide_slice Try.underlying22 (hval 1 22 v1 rfl rfl)
  obtain ⟨x1, w1, m1⟩ := arrs_open h1
  clear hA0 hval0
  refine (walk a0 n0 c0 x0 a1 n1 c1 x1 W w0 m0 w1 m1).mono fun e W' ⟨he, bel⟩ => ?_
  subst he
  exact ⟨_, rfl, _, _, _, [], _, [], hW', trodAll_mk1 (shut_bool Try.underlying4 _), (trodAll_cons_mk (Below.trod laidOut (by kernel_rfl) (of_decide_eq_true (by kernel_rfl)) h0 bel lt0) (trodAll_cons_mk (Below.trod laidOut (by kernel_rfl) (of_decide_eq_true (by kernel_rfl)) h1 bel lt1) trodAll_mk0)), rfl, bel.frame _, fun h => by cases h⟩
theorem over : Rows.fnExactMergeArrivalsRow.holds Try.pinned (OpenSpec.ofChange Rows.fnExactMergeArrivalsSpec) :=
  OpenClaim.holds_of_wide 3 Try.f3 rfl rfl rfl rfl rfl rfl rfl ⟨rfl, rfl, rfl, rfl, rfl⟩ rfl rfl rfl rfl rfl (by kernel_rfl) Try.func3 (by unfold joinedFacts; rw [mayEnter, liftsFinal, makeIs]; kernel_rfl)
    (of_decide_eq_true (by kernel_rfl)) (by unfold Func.isWrapper; first | (rw [if_pos (by decide +kernel)]; kernel_rfl) | (rw [if_neg (by decide +kernel)]; exact ⟨rfl, rfl⟩))
    (fun os started H enc _ => lifted os started H enc)
/-- the given statement -/
theorem proved : Rows.FnExactMergeArrivalsSaid := over
end Go.Proofs.Ytaccbmgbkalknab.fnExactMergeArrivals
