/-
  The law FnSharesMore returns true at every argument: with one byte more nobody gets less, and one byte more is given at the most. Conditions: none.
-/
import Derived.Test.YtkbjelchihdajaaLift
import Derived.Test.YtkbjelchihdajaaAI
import Derived.Test.YtkbjelchihdajaaAl
import Derived.Test.YtkbjelchihdajaaAEx
namespace Go.Proofs.Ytkbjelchihdajaa.fnSharesMore
open Go.ChangeShapes Go.WideShapes Go.ChangeAt Go.RowKit

def SmRel (w : World) (A2 A5 : Option Addr) (n : Nat) (ss ts : List Int) (s i : Value) (wr : World) : Prop :=
  ∃ (p : Nat) (N : Int), p ≤ n ∧ i = .int .i64 (p : Int) ∧ s = .int .i64 N ∧ N = sumL (ts.take p) - sumL (ss.take p) ∧ NR wr A2 n ss ∧ NR wr A5 n ts ∧ Below w.heap.size w wr
theorem shares_le {ws ss : List Int} {b : Int} (hs : IsShare ws b ss) (hw : ∀ x ∈ ws, 0 ≤ x ∧ x ≤ 5000) : ∀ x ∈ ss, 0 ≤ x ∧ x ≤ 5000 := fun x hx => by
  obtain ⟨h1, h2, -⟩ := share_bd hs fun x hx => (hw x hx).1
  obtain ⟨i, hi⟩ := List.mem_iff_getElem?.1 hx
  obtain ⟨v, hv⟩ := get_len (us := ws) (i := i) rfl (by have := (List.getElem?_eq_some_iff.1 hi).1; omega)
  have h3 := h2 i x v hi hv
  have h4 := hw v (List.mem_of_getElem? hv)
  omega
set_option maxHeartbeats 2000000 in
theorem walk (A : Option Addr) (n c : Nat) (w : World) (h : Bytes w A n c) :
    Calls Try.prog 14 #[.slice A n c] w fun e w' => e = .returned (.bool true) ∧ Below w.heap.size w w' := by
  have HB := Lib.hid h
  clear h
  by_cases hbig : ¬ n ≤ 1048576
  · go_enter Try.func14, Try.ntmps14
    go_wp2
    go_ret
    exact ⟨rfl, Below.refl _ _⟩
  have hbig' : n ≤ 1048576 := by omega
  clear hbig
  go_enter Try.func14, Try.ntmps14
  go_wp2_with fail
  refine (drawFairShares_any A n c _ HB.out).mono ?_
  rintro e w1 ⟨A1, n1, c1, ws, bb, rfl, hn1, hbb, ho, hb⟩
  obtain ⟨hc1, hf1⟩ := bcell hb
  have B1 := Lib.hid (show Below w.heap.size w w1 from (by first | exact below_seq (Below.refl w.heap.size w) hb | exact below_seq1 (Below.refl w.heap.size w) hb | exact below_seq2 (Below.refl w.heap.size w) hb | exact below_seq3 (Below.refl w.heap.size w) hb | exact below_seq4 (Below.refl w.heap.size w) hb))
  have R1 := Lib.hid hb
  have hz1 := hb.size
  try simp at hz1
  clear hb
  have Q := Lib.hid (nr_own ho)
  clear ho
  rcases hq : fairB ws bb with _ | _
  · have HQ := Lib.hid hq
    clear hq
    go_wp2_with fail
    refine (fairI_no A1 n1 c1 ws bb _ (by first | with_reducible exact Q.out | with_reducible exact nr_alloc Q.out _ | with_reducible exact nr_alloc (nr_alloc Q.out _) _ | with_reducible exact nr_alloc (nr_alloc (nr_alloc Q.out _) _) _) (by omega) HQ.out).mono ?_
    rintro e w2 ⟨A2, n2, c2, rfl, hn2, ho2, hb⟩
    obtain ⟨hc2, hf2⟩ := bcell hb
    have B2 := Lib.hid (show Below w.heap.size w w2 from (by first | exact below_seq B1.out hb | exact below_seq1 B1.out hb | exact below_seq2 B1.out hb | exact below_seq3 B1.out hb | exact below_seq4 B1.out hb))
    have R2 := Lib.hid hb
    have hz2 := hb.size
    try simp at hz2
    clear hb
    try have y20 : w.heap.size < w2.heap.size := by omega
    try have y20a : w.heap.size + 1 < w2.heap.size := by omega
    try have y20b : w.heap.size < w2.heap.size + 1 + 1 := by omega
    try have y20c : w.heap.size + 1 < w2.heap.size + 1 + 1 := by omega
    try have y21 : w1.heap.size < w2.heap.size := by omega
    try have y21a : w1.heap.size + 1 < w2.heap.size := by omega
    try have y21b : w1.heap.size < w2.heap.size + 1 + 1 := by omega
    try have y21c : w1.heap.size + 1 < w2.heap.size + 1 + 1 := by omega
    obtain rfl : n2 = 0 := hn2
    have X := Lib.hid (nr_own ho2)
    clear ho2
    replace Q := Lib.hid (show NR w2 _ _ _ from (by first | with_reducible exact nr_below Q.out R2.out | with_reducible exact nr_below (nr_alloc Q.out _) R2.out | with_reducible exact nr_below (nr_alloc (nr_alloc Q.out _) _) R2.out | with_reducible exact nr_below (nr_alloc (nr_alloc (nr_alloc Q.out _) _) _) R2.out))
    go_wp2_with fail
    refine (fairS_no A1 n1 c1 ws bb _ (by first | with_reducible exact Q.out | with_reducible exact nr_alloc Q.out _ | with_reducible exact nr_alloc (nr_alloc Q.out _) _ | with_reducible exact nr_alloc (nr_alloc (nr_alloc Q.out _) _) _) (by omega) HQ.out).mono ?_
    rintro e w3 ⟨A3, n3, c3, rfl, hn3, ho3, hb⟩
    obtain ⟨hc3, hf3⟩ := bcell hb
    have B3 := Lib.hid (show Below w.heap.size w w3 from (by first | exact below_seq B2.out hb | exact below_seq1 B2.out hb | exact below_seq2 B2.out hb | exact below_seq3 B2.out hb | exact below_seq4 B2.out hb))
    have R3 := Lib.hid hb
    have hz3 := hb.size
    try simp at hz3
    clear hb
    try have y30 : w.heap.size < w3.heap.size := by omega
    try have y30a : w.heap.size + 1 < w3.heap.size := by omega
    try have y30b : w.heap.size < w3.heap.size + 1 + 1 := by omega
    try have y30c : w.heap.size + 1 < w3.heap.size + 1 + 1 := by omega
    try have y31 : w1.heap.size < w3.heap.size := by omega
    try have y31a : w1.heap.size + 1 < w3.heap.size := by omega
    try have y31b : w1.heap.size < w3.heap.size + 1 + 1 := by omega
    try have y31c : w1.heap.size + 1 < w3.heap.size + 1 + 1 := by omega
    try have y32 : w2.heap.size < w3.heap.size := by omega
    try have y32a : w2.heap.size + 1 < w3.heap.size := by omega
    try have y32b : w2.heap.size < w3.heap.size + 1 + 1 := by omega
    try have y32c : w2.heap.size + 1 < w3.heap.size + 1 + 1 := by omega
    obtain rfl : n3 = 0 := hn3
    have Y := Lib.hid (nr_own ho3)
    replace X := Lib.hid (show NR w3 _ _ _ from (by first | with_reducible exact nr_below X.out R3.out | with_reducible exact nr_below (nr_alloc X.out _) R3.out | with_reducible exact nr_below (nr_alloc (nr_alloc X.out _) _) R3.out | with_reducible exact nr_below (nr_alloc (nr_alloc (nr_alloc X.out _) _) _) R3.out))
    clear ho3
    go_wp2_with fail
    refine (tgInts_any A2 A3 0 c2 0 c3 [] [] _ (by first | with_reducible exact X.out | with_reducible exact nr_alloc X.out _ | with_reducible exact nr_alloc (nr_alloc X.out _) _ | with_reducible exact nr_alloc (nr_alloc (nr_alloc X.out _) _) _) (by first | with_reducible exact Y.out | with_reducible exact nr_alloc Y.out _ | with_reducible exact nr_alloc (nr_alloc Y.out _) _ | with_reducible exact nr_alloc (nr_alloc (nr_alloc Y.out _) _) _) (by omega) (by omega)).mono ?_
    rintro e w4 ⟨rfl, hb⟩
    obtain ⟨hc4, hf4⟩ := bcell hb
    have B4 := Lib.hid (show Below w.heap.size w w4 from (by first | exact below_seq B3.out hb | exact below_seq1 B3.out hb | exact below_seq2 B3.out hb | exact below_seq3 B3.out hb | exact below_seq4 B3.out hb))
    have R4 := Lib.hid hb
    have hz4 := hb.size
    try simp at hz4
    clear hb
    try have y40 : w.heap.size < w4.heap.size := by omega
    try have y40a : w.heap.size + 1 < w4.heap.size := by omega
    try have y40b : w.heap.size < w4.heap.size + 1 + 1 := by omega
    try have y40c : w.heap.size + 1 < w4.heap.size + 1 + 1 := by omega
    try have y41 : w1.heap.size < w4.heap.size := by omega
    try have y41a : w1.heap.size + 1 < w4.heap.size := by omega
    try have y41b : w1.heap.size < w4.heap.size + 1 + 1 := by omega
    try have y41c : w1.heap.size + 1 < w4.heap.size + 1 + 1 := by omega
    try have y42 : w2.heap.size < w4.heap.size := by omega
    try have y42a : w2.heap.size + 1 < w4.heap.size := by omega
    try have y42b : w2.heap.size < w4.heap.size + 1 + 1 := by omega
    try have y42c : w2.heap.size + 1 < w4.heap.size + 1 + 1 := by omega
    try have y43 : w3.heap.size < w4.heap.size := by omega
    try have y43a : w3.heap.size + 1 < w4.heap.size := by omega
    try have y43b : w3.heap.size < w4.heap.size + 1 + 1 := by omega
    try have y43c : w3.heap.size + 1 < w4.heap.size + 1 + 1 := by omega
    rw [ints_refl]
    replace X := Lib.hid (show NR w4 _ _ _ from (by first | with_reducible exact nr_below X.out R4.out | with_reducible exact nr_below (nr_alloc X.out _) R4.out | with_reducible exact nr_below (nr_alloc (nr_alloc X.out _) _) R4.out | with_reducible exact nr_below (nr_alloc (nr_alloc (nr_alloc X.out _) _) _) R4.out))
    replace Y := Lib.hid (show NR w4 _ _ _ from (by first | with_reducible exact nr_below Y.out R4.out | with_reducible exact nr_below (nr_alloc Y.out _) R4.out | with_reducible exact nr_below (nr_alloc (nr_alloc Y.out _) _) R4.out | with_reducible exact nr_below (nr_alloc (nr_alloc (nr_alloc Y.out _) _) _) R4.out))
    go_wp2_with fail
    refine (tgInts_any A2 A3 0 c2 0 c3 [] [] _ (by first | with_reducible exact X.out | with_reducible exact nr_alloc X.out _ | with_reducible exact nr_alloc (nr_alloc X.out _) _ | with_reducible exact nr_alloc (nr_alloc (nr_alloc X.out _) _) _) (by first | with_reducible exact Y.out | with_reducible exact nr_alloc Y.out _ | with_reducible exact nr_alloc (nr_alloc Y.out _) _ | with_reducible exact nr_alloc (nr_alloc (nr_alloc Y.out _) _) _) (by omega) (by omega)).mono ?_
    rintro e w5 ⟨rfl, hb⟩
    obtain ⟨hc5, hf5⟩ := bcell hb
    have B5 := Lib.hid (show Below w.heap.size w w5 from (by first | exact below_seq B4.out hb | exact below_seq1 B4.out hb | exact below_seq2 B4.out hb | exact below_seq3 B4.out hb | exact below_seq4 B4.out hb))
    have R5 := Lib.hid hb
    have hz5 := hb.size
    try simp at hz5
    clear hb
    try have y50 : w.heap.size < w5.heap.size := by omega
    try have y50a : w.heap.size + 1 < w5.heap.size := by omega
    try have y50b : w.heap.size < w5.heap.size + 1 + 1 := by omega
    try have y50c : w.heap.size + 1 < w5.heap.size + 1 + 1 := by omega
    try have y51 : w1.heap.size < w5.heap.size := by omega
    try have y51a : w1.heap.size + 1 < w5.heap.size := by omega
    try have y51b : w1.heap.size < w5.heap.size + 1 + 1 := by omega
    try have y51c : w1.heap.size + 1 < w5.heap.size + 1 + 1 := by omega
    try have y52 : w2.heap.size < w5.heap.size := by omega
    try have y52a : w2.heap.size + 1 < w5.heap.size := by omega
    try have y52b : w2.heap.size < w5.heap.size + 1 + 1 := by omega
    try have y52c : w2.heap.size + 1 < w5.heap.size + 1 + 1 := by omega
    try have y53 : w3.heap.size < w5.heap.size := by omega
    try have y53a : w3.heap.size + 1 < w5.heap.size := by omega
    try have y53b : w3.heap.size < w5.heap.size + 1 + 1 := by omega
    try have y53c : w3.heap.size + 1 < w5.heap.size + 1 + 1 := by omega
    try have y54 : w4.heap.size < w5.heap.size := by omega
    try have y54a : w4.heap.size + 1 < w5.heap.size := by omega
    try have y54b : w4.heap.size < w5.heap.size + 1 + 1 := by omega
    try have y54c : w4.heap.size + 1 < w5.heap.size + 1 + 1 := by omega
    rw [ints_refl]
    go_wp2
    all_goals
      go_ret
      refine ⟨rfl, ?_⟩
      repeat refine below_alloc ?_ _
      exact B5.out
  · have HQ := Lib.hid hq
    obtain ⟨hwl, hb0⟩ := fair_of2 hq
    obtain ⟨ss, hss⟩ : ∃ ss, ss = shareL ws bb := ⟨_, rfl⟩
    have HSS := Lib.hid hss
    have HW := Lib.hid hwl
    clear hq hss hwl
    go_wp2_with fail
    refine (fairI_yes A1 n1 c1 ws bb _ (by first | with_reducible exact Q.out | with_reducible exact nr_alloc Q.out _ | with_reducible exact nr_alloc (nr_alloc Q.out _) _ | with_reducible exact nr_alloc (nr_alloc (nr_alloc Q.out _) _) _) HQ.out).mono ?_
    rintro e w2 ⟨⟨A2, n2, c2, rfl, hn2, ho2, hb⟩, hsh⟩
    obtain ⟨hc2, hf2⟩ := bcell hb
    have B2 := Lib.hid (show Below w.heap.size w w2 from (by first | exact below_seq B1.out hb | exact below_seq1 B1.out hb | exact below_seq2 B1.out hb | exact below_seq3 B1.out hb | exact below_seq4 B1.out hb))
    have R2 := Lib.hid hb
    have hz2 := hb.size
    try simp at hz2
    clear hb
    try have y20 : w.heap.size < w2.heap.size := by omega
    try have y20a : w.heap.size + 1 < w2.heap.size := by omega
    try have y20b : w.heap.size < w2.heap.size + 1 + 1 := by omega
    try have y20c : w.heap.size + 1 < w2.heap.size + 1 + 1 := by omega
    try have y21 : w1.heap.size < w2.heap.size := by omega
    try have y21a : w1.heap.size + 1 < w2.heap.size := by omega
    try have y21b : w1.heap.size < w2.heap.size + 1 + 1 := by omega
    try have y21c : w1.heap.size + 1 < w2.heap.size + 1 + 1 := by omega
    rw [← HSS.out] at hn2 ho2 hsh
    have HL : Hid (ss.length = n1) := Lib.hid ((share_bd hsh fun x hx => (HW.out x hx).1).1.trans Q.out.1)
    obtain rfl : n2 = n1 := hn2.trans HL.out
    have X := Lib.hid (nr_own ho2)
    have HSH := Lib.hid hsh
    clear ho2 hsh hn2
    replace Q := Lib.hid (show NR w2 _ _ _ from (by first | with_reducible exact nr_below Q.out R2.out | with_reducible exact nr_below (nr_alloc Q.out _) R2.out | with_reducible exact nr_below (nr_alloc (nr_alloc Q.out _) _) R2.out | with_reducible exact nr_below (nr_alloc (nr_alloc (nr_alloc Q.out _) _) _) R2.out))
    go_wp2_with fail
    refine (fairS_yes A1 n2 c1 ws bb _ (by first | with_reducible exact Q.out | with_reducible exact nr_alloc Q.out _ | with_reducible exact nr_alloc (nr_alloc Q.out _) _ | with_reducible exact nr_alloc (nr_alloc (nr_alloc Q.out _) _) _) HQ.out).mono ?_
    rintro e w3 ⟨⟨A3, n3, c3, rfl, hn3, ho3, hb⟩, hsh⟩
    obtain ⟨hc3, hf3⟩ := bcell hb
    have B3 := Lib.hid (show Below w.heap.size w w3 from (by first | exact below_seq B2.out hb | exact below_seq1 B2.out hb | exact below_seq2 B2.out hb | exact below_seq3 B2.out hb | exact below_seq4 B2.out hb))
    have R3 := Lib.hid hb
    have hz3 := hb.size
    try simp at hz3
    clear hb
    try have y30 : w.heap.size < w3.heap.size := by omega
    try have y30a : w.heap.size + 1 < w3.heap.size := by omega
    try have y30b : w.heap.size < w3.heap.size + 1 + 1 := by omega
    try have y30c : w.heap.size + 1 < w3.heap.size + 1 + 1 := by omega
    try have y31 : w1.heap.size < w3.heap.size := by omega
    try have y31a : w1.heap.size + 1 < w3.heap.size := by omega
    try have y31b : w1.heap.size < w3.heap.size + 1 + 1 := by omega
    try have y31c : w1.heap.size + 1 < w3.heap.size + 1 + 1 := by omega
    try have y32 : w2.heap.size < w3.heap.size := by omega
    try have y32a : w2.heap.size + 1 < w3.heap.size := by omega
    try have y32b : w2.heap.size < w3.heap.size + 1 + 1 := by omega
    try have y32c : w2.heap.size + 1 < w3.heap.size + 1 + 1 := by omega
    rw [← HSS.out] at hn3 ho3
    obtain rfl : n3 = n2 := hn3.trans HL.out
    have Y := Lib.hid (nr_own ho3)
    replace X := Lib.hid (show NR w3 _ _ _ from (by first | with_reducible exact nr_below X.out R3.out | with_reducible exact nr_below (nr_alloc X.out _) R3.out | with_reducible exact nr_below (nr_alloc (nr_alloc X.out _) _) R3.out | with_reducible exact nr_below (nr_alloc (nr_alloc (nr_alloc X.out _) _) _) R3.out))
    replace Q := Lib.hid (show NR w3 _ _ _ from (by first | with_reducible exact nr_below Q.out R3.out | with_reducible exact nr_below (nr_alloc Q.out _) R3.out | with_reducible exact nr_below (nr_alloc (nr_alloc Q.out _) _) R3.out | with_reducible exact nr_below (nr_alloc (nr_alloc (nr_alloc Q.out _) _) _) R3.out))
    clear ho3 hsh hn3
    go_wp2_with fail
    refine (tgInts_any A2 A3 n3 c2 n3 c3 ss ss _ (by first | with_reducible exact X.out | with_reducible exact nr_alloc X.out _ | with_reducible exact nr_alloc (nr_alloc X.out _) _ | with_reducible exact nr_alloc (nr_alloc (nr_alloc X.out _) _) _) (by first | with_reducible exact Y.out | with_reducible exact nr_alloc Y.out _ | with_reducible exact nr_alloc (nr_alloc Y.out _) _ | with_reducible exact nr_alloc (nr_alloc (nr_alloc Y.out _) _) _) (by omega) (by omega)).mono ?_
    rintro e w4 ⟨rfl, hb⟩
    obtain ⟨hc4, hf4⟩ := bcell hb
    have B4 := Lib.hid (show Below w.heap.size w w4 from (by first | exact below_seq B3.out hb | exact below_seq1 B3.out hb | exact below_seq2 B3.out hb | exact below_seq3 B3.out hb | exact below_seq4 B3.out hb))
    have R4 := Lib.hid hb
    have hz4 := hb.size
    try simp at hz4
    clear hb
    try have y40 : w.heap.size < w4.heap.size := by omega
    try have y40a : w.heap.size + 1 < w4.heap.size := by omega
    try have y40b : w.heap.size < w4.heap.size + 1 + 1 := by omega
    try have y40c : w.heap.size + 1 < w4.heap.size + 1 + 1 := by omega
    try have y41 : w1.heap.size < w4.heap.size := by omega
    try have y41a : w1.heap.size + 1 < w4.heap.size := by omega
    try have y41b : w1.heap.size < w4.heap.size + 1 + 1 := by omega
    try have y41c : w1.heap.size + 1 < w4.heap.size + 1 + 1 := by omega
    try have y42 : w2.heap.size < w4.heap.size := by omega
    try have y42a : w2.heap.size + 1 < w4.heap.size := by omega
    try have y42b : w2.heap.size < w4.heap.size + 1 + 1 := by omega
    try have y42c : w2.heap.size + 1 < w4.heap.size + 1 + 1 := by omega
    try have y43 : w3.heap.size < w4.heap.size := by omega
    try have y43a : w3.heap.size + 1 < w4.heap.size := by omega
    try have y43b : w3.heap.size < w4.heap.size + 1 + 1 := by omega
    try have y43c : w3.heap.size + 1 < w4.heap.size + 1 + 1 := by omega
    rw [ints_refl]
    replace X := Lib.hid (show NR w4 _ _ _ from (by first | with_reducible exact nr_below X.out R4.out | with_reducible exact nr_below (nr_alloc X.out _) R4.out | with_reducible exact nr_below (nr_alloc (nr_alloc X.out _) _) R4.out | with_reducible exact nr_below (nr_alloc (nr_alloc (nr_alloc X.out _) _) _) R4.out))
    replace Q := Lib.hid (show NR w4 _ _ _ from (by first | with_reducible exact nr_below Q.out R4.out | with_reducible exact nr_below (nr_alloc Q.out _) R4.out | with_reducible exact nr_below (nr_alloc (nr_alloc Q.out _) _) R4.out | with_reducible exact nr_below (nr_alloc (nr_alloc (nr_alloc Q.out _) _) _) R4.out))
    have HSB := Lib.hid (shares_le HSH.out HW.out)
    by_cases hb5 : bb + 1 ≤ 5000
    · have HQ5 : Hid (fairB ws (bb + 1) = true) := Lib.hid (by simp only [fairB, (fair_of HQ.out).1, Bool.true_and, decide_eq_true_eq]; omega)
      obtain ⟨ts, hts⟩ : ∃ ts, ts = shareL ws (bb + 1) := ⟨_, rfl⟩
      have HTS := Lib.hid hts
      clear hts
      go_wp2_with fail
      refine (fairI_yes A1 n3 c1 ws (bb + 1) _ (by first | with_reducible exact Q.out | with_reducible exact nr_alloc Q.out _ | with_reducible exact nr_alloc (nr_alloc Q.out _) _ | with_reducible exact nr_alloc (nr_alloc (nr_alloc Q.out _) _) _) HQ5.out).mono ?_
      rintro e w5 ⟨⟨A5, n5, c5, rfl, hn5, ho5, hb⟩, hsh⟩
      obtain ⟨hc5, hf5⟩ := bcell hb
      have B5 := Lib.hid (show Below w.heap.size w w5 from (by first | exact below_seq B4.out hb | exact below_seq1 B4.out hb | exact below_seq2 B4.out hb | exact below_seq3 B4.out hb | exact below_seq4 B4.out hb))
      have R5 := Lib.hid hb
      have hz5 := hb.size
      try simp at hz5
      clear hb
      try have y50 : w.heap.size < w5.heap.size := by omega
      try have y50a : w.heap.size + 1 < w5.heap.size := by omega
      try have y50b : w.heap.size < w5.heap.size + 1 + 1 := by omega
      try have y50c : w.heap.size + 1 < w5.heap.size + 1 + 1 := by omega
      try have y51 : w1.heap.size < w5.heap.size := by omega
      try have y51a : w1.heap.size + 1 < w5.heap.size := by omega
      try have y51b : w1.heap.size < w5.heap.size + 1 + 1 := by omega
      try have y51c : w1.heap.size + 1 < w5.heap.size + 1 + 1 := by omega
      try have y52 : w2.heap.size < w5.heap.size := by omega
      try have y52a : w2.heap.size + 1 < w5.heap.size := by omega
      try have y52b : w2.heap.size < w5.heap.size + 1 + 1 := by omega
      try have y52c : w2.heap.size + 1 < w5.heap.size + 1 + 1 := by omega
      try have y53 : w3.heap.size < w5.heap.size := by omega
      try have y53a : w3.heap.size + 1 < w5.heap.size := by omega
      try have y53b : w3.heap.size < w5.heap.size + 1 + 1 := by omega
      try have y53c : w3.heap.size + 1 < w5.heap.size + 1 + 1 := by omega
      try have y54 : w4.heap.size < w5.heap.size := by omega
      try have y54a : w4.heap.size + 1 < w5.heap.size := by omega
      try have y54b : w4.heap.size < w5.heap.size + 1 + 1 := by omega
      try have y54c : w4.heap.size + 1 < w5.heap.size + 1 + 1 := by omega
      rw [← HTS.out] at hn5 ho5 hsh
      have HL5 : Hid (ts.length = n3) := Lib.hid ((share_bd hsh fun x hx => (HW.out x hx).1).1.trans Q.out.1)
      obtain rfl : n5 = n3 := hn5.trans HL5.out
      have Z := Lib.hid (nr_own ho5)
      have HSH5 := Lib.hid hsh
      replace X := Lib.hid (show NR w5 _ _ _ from (by first | with_reducible exact nr_below X.out R5.out | with_reducible exact nr_below (nr_alloc X.out _) R5.out | with_reducible exact nr_below (nr_alloc (nr_alloc X.out _) _) R5.out | with_reducible exact nr_below (nr_alloc (nr_alloc (nr_alloc X.out _) _) _) R5.out))
      clear ho5 hsh hn5
      have HTB := Lib.hid (shares_le HSH5.out HW.out)
      go_wp2_with fail
      go_loopw [11, 12] (fun s i wr => SmRel w5 A2 A5 n5 ss ts s i wr) (fun _ i _ => n5 - (intOf i).toNat)
      case atStart => exact ⟨0, 0, by omega, rfl, rfl, rfl, X.out, Z.out, Below.refl _ _⟩
      case round =>
        obtain ⟨p, N, hp8, rfl, rfl, hN, hp, hx, hbl⟩ := hrel
        have HPX := Lib.hid hp
        have HPZ := Lib.hid hx
        have HBl := Lib.hid hbl
        have HN := Lib.hid hN
        clear hp hx hbl hN
        by_cases hpm : p < n5
        · obtain ⟨b1, o1, x, rfl, hb1, hx, c01⟩ := nr_at HPX.out hpm
          obtain ⟨b2, o2, y, rfl, hb2, hy, c02⟩ := nr_at HPZ.out hpm
          obtain ⟨x0, x1⟩ := HSB.out x (List.mem_of_getElem? hx)
          obtain ⟨y0, y1⟩ := HTB.out y (List.mem_of_getElem? hy)
          have hxy := (share_more HSH.out HSH5.out).1 p x y hx hy
          obtain ⟨s0, s1⟩ := sumL_take_bd HSB.out p (by omega)
          obtain ⟨t0, t1⟩ := sumL_take_bd HTB.out p (by omega)
          have hNb : -40000 ≤ N ∧ N ≤ 40000 := by have := HL.out; have := HL5.out; have := HN.out; omega
          have HN2 : Hid (N + y - x = sumL (ts.take (p + 1)) - sumL (ss.take (p + 1))) := Lib.hid (by rw [sumL_take hx, sumL_take hy]; have := HN.out; omega)
          have d1 : decide (y < x) = false := by simp; omega
          clear hx hy s0 s1 t0 t1
          go_wp2_with fail
          go_quiet (fail)
          go_wp2_with fail
          go_quiet (fail)
          go_wp2
          go_roundw
          case rel => exact ⟨p + 1, _, by omega, by go_num, rfl, HN2.out, nr_drewN HPX.out _, nr_drewN HPZ.out _, below_drewN HBl.out _⟩
          case measure => simp [intOf]; omega
        · obtain rfl : p = n5 := by omega
          have HBB := Lib.hid (below_seq B5.out HBl.out)
          have hN1 : N ≤ 1 := by
            have e1 : ss.take p = ss := List.take_of_length_le (by have := HL.out; omega)
            have e2 : ts.take p = ts := List.take_of_length_le (by have := HL5.out; omega)
            have h1 := HN.out
            rw [e1, e2] at h1
            have := (share_more HSH.out HSH5.out).2
            omega
          have d1 : decide (N ≤ 1) = true := by simp [hN1]
          go_wp2
          go_ret
          exact ⟨ret_bool (by simp), HBB.out⟩
    · have HQ5 : Hid (fairB ws (bb + 1) = false) := Lib.hid (by simp only [fairB, Bool.and_eq_false_iff, decide_eq_false_iff_not]; right; omega)
      go_wp2_with fail
      refine (fairI_no A1 n3 c1 ws (bb + 1) _ (by first | with_reducible exact Q.out | with_reducible exact nr_alloc Q.out _ | with_reducible exact nr_alloc (nr_alloc Q.out _) _ | with_reducible exact nr_alloc (nr_alloc (nr_alloc Q.out _) _) _) (by omega) HQ5.out).mono ?_
      rintro e w5 ⟨A5, n5, c5, rfl, hn5, ho5, hb⟩
      obtain ⟨hc5, hf5⟩ := bcell hb
      have B5 := Lib.hid (show Below w.heap.size w w5 from (by first | exact below_seq B4.out hb | exact below_seq1 B4.out hb | exact below_seq2 B4.out hb | exact below_seq3 B4.out hb | exact below_seq4 B4.out hb))
      have R5 := Lib.hid hb
      have hz5 := hb.size
      try simp at hz5
      clear hb
      try have y50 : w.heap.size < w5.heap.size := by omega
      try have y50a : w.heap.size + 1 < w5.heap.size := by omega
      try have y50b : w.heap.size < w5.heap.size + 1 + 1 := by omega
      try have y50c : w.heap.size + 1 < w5.heap.size + 1 + 1 := by omega
      try have y51 : w1.heap.size < w5.heap.size := by omega
      try have y51a : w1.heap.size + 1 < w5.heap.size := by omega
      try have y51b : w1.heap.size < w5.heap.size + 1 + 1 := by omega
      try have y51c : w1.heap.size + 1 < w5.heap.size + 1 + 1 := by omega
      try have y52 : w2.heap.size < w5.heap.size := by omega
      try have y52a : w2.heap.size + 1 < w5.heap.size := by omega
      try have y52b : w2.heap.size < w5.heap.size + 1 + 1 := by omega
      try have y52c : w2.heap.size + 1 < w5.heap.size + 1 + 1 := by omega
      try have y53 : w3.heap.size < w5.heap.size := by omega
      try have y53a : w3.heap.size + 1 < w5.heap.size := by omega
      try have y53b : w3.heap.size < w5.heap.size + 1 + 1 := by omega
      try have y53c : w3.heap.size + 1 < w5.heap.size + 1 + 1 := by omega
      try have y54 : w4.heap.size < w5.heap.size := by omega
      try have y54a : w4.heap.size + 1 < w5.heap.size := by omega
      try have y54b : w4.heap.size < w5.heap.size + 1 + 1 := by omega
      try have y54c : w4.heap.size + 1 < w5.heap.size + 1 + 1 := by omega
      clear ho5 hn5
      go_wp2_with fail
      go_loop [11, 12] (fun s i => s = .int .i64 0 ∧ i = .int .i64 0) (fun _ i => 0)
      case atStart => exact ⟨rfl, rfl⟩
      case round =>
        obtain ⟨rfl, rfl⟩ := hrel
        by_cases h0 : n3 = 0
        · subst h0
          go_wp2
          go_ret
          exact ⟨ret_bool (by simp), B5.out⟩
        · have h1 : 0 < n3 := by omega
          go_wp2
          go_ret
          exact ⟨ret_bool (by simp), B5.out⟩
theorem own : ownKnob Try.prog.godebug = none := by kernel_rfl
theorem laidOut : laidOutB Try.prog = true := by kernel_rfl
set_option maxRecDepth 100000 in
theorem lifted (os : Os) (started : os.Started) (H : Type) (enc : TypeId × Value → H) :
    ReturnsInHanded {} Try.checked os 14 .any (Rows.fnSharesMoreSpec.pre6 enc Try.prog Try.f14 Rows.fnSharesMoreRow.domain false) (Rows.fnSharesMoreSpec.post enc Try.prog Try.f14 false true false false) := by
  refine returnsInHanded_of_change (C := Try.checked) own started (by kernel_rfl) Try.func14
    (ChangeSpec.witness6 (enc := enc) (C := Try.checked) false ⟨#[], #[.slice none 0 0], []⟩ 8 (by kernel_rfl) (by kernel_rfl) (by kernel_rfl) (by kernel_rfl)) ?_
  intro W base args ds gs before hval0 hW _ _
  have hval : ∀ (j : Nat) t v, Try.f14.params[j]? = some t → args[j]? = some v → Value.okWide Try.prog W .any base t v := hval0
  have hW' := hW
  obtain ⟨p, q, hA0, hV, rfl, _, _⟩ := hW
  have hA : DataW.TrodAll enc Try.prog W 0 (fun _ => true) true Try.f14.params.toList args.toList ds p := hA0
  rw [Try.params14] at hA hval
  obtain ⟨v0, vs0, d0, ds0, p0, q0, hargs, rfl, rfl, h0, r0⟩ := trodAll_cons hA
  obtain ⟨rfl, rfl, rfl⟩ := trodAll_nil r0
  obtain rfl : args = #[v0] := by cases args; simp_all
  obtain ⟨rfl, rfl⟩ := trodVars_none hV
  have lt0 : ∀ x ∈ p0, x.block < W.heap.size := by obtain ⟨m, hm⟩ := h0; exact DataW.trod_lt m _ _ _ hm
  obtain ⟨a0, n0, c0, rfl⟩ := okWide_slice Try.underlying22 (hval 0 22 v0 rfl rfl)
  have w0 : Bytes W a0 n0 c0 := bytes_open h0
  clear hA0 hval0
  refine (walk a0 n0 c0 W w0).mono fun e W' ⟨he, bel⟩ => ?_
  subst he
  exact ⟨_, rfl, _, _, _, [], _, [], hW', trodAll_mk1 (shut_bool Try.underlying4 _), (trodAll_cons_mk (Below.trod laidOut (by kernel_rfl) (of_decide_eq_true (by kernel_rfl)) h0 bel lt0) trodAll_mk0), rfl, bel.frame _, fun h => by cases h⟩
theorem over : Rows.fnSharesMoreRow.holds Try.pinned (OpenSpec.ofChange Rows.fnSharesMoreSpec) :=
  OpenClaim.holds_of_wide 14 Try.f14 rfl rfl rfl rfl rfl rfl rfl ⟨rfl, rfl, rfl, rfl, rfl⟩ rfl rfl rfl rfl rfl (by kernel_rfl) Try.func14 (by kernel_rfl)
    (of_decide_eq_true (by kernel_rfl)) (by unfold Func.isWrapper; first | (rw [if_pos (by decide +kernel)]; kernel_rfl) | (rw [if_neg (by decide +kernel)]; exact ⟨rfl, rfl⟩))
    (fun os started H enc _ => lifted os started H enc)
/-- the given statement -/
theorem proved : Rows.FnSharesMoreSaid := over
end Go.Proofs.Ytkbjelchihdajaa.fnSharesMore
