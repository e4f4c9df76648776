/-
  The law FnOverHeavy returns true at every argument: if any is over its share, so is one that uses the most. Conditions: none.
-/
import Derived.Test.YtkbjelchihdajabLift
import Derived.Test.YtkbjelchihdajabAI
import Derived.Test.YtkbjelchihdajabAl
import Derived.Test.YtkbjelchihdajabAEx
namespace Go.Proofs.Ytkbjelchihdajab.fnOverHeavy
open Go.ChangeShapes Go.WideShapes Go.ChangeAt Go.RowKit

def OhRel (w : World) (A1 A2 : Option Addr) (m i0 : Nat) (us vs : List Int) (t i : Value) (wr : World) : Prop :=
  ∃ (p : Nat) (s : Bool), p ≤ m ∧ i = .int .i64 (p : Int) ∧ t = .bool s ∧ (i0 < p → s = true) ∧ NR wr A1 8 us ∧ NR wr A2 m vs ∧ Below w.heap.size w wr
set_option maxHeartbeats 2000000 in
theorem walk (A : Option Addr) (n c : Nat) (w : World) (h : Bytes w A n c) :
    Calls Try.prog 5 #[.slice A n c] w fun e w' => e = .returned (.bool true) ∧ Below w.heap.size w w' := by
  have HB := Lib.hid h
  clear h
  by_cases hbig : ¬ n ≤ 1048576
  · go_enter Try.func5, Try.ntmps5
    go_wp2
    go_ret
    exact ⟨rfl, Below.refl _ _⟩
  have hbig' : n ≤ 1048576 := by omega
  clear hbig
  go_enter Try.func5, Try.ntmps5
  go_wp2_with fail
  refine (drawOverShare_any A n c _ HB.out).mono ?_
  rintro e w1 ⟨lim, each, A1, n1, c1, us, rfl, hn1, ho, hb⟩
  obtain ⟨hc1, hf1⟩ := bcell hb
  have B1 := Lib.hid (show Below w.heap.size w w1 from (by first | exact below_seq (Below.refl w.heap.size w) hb | exact below_seq1 (Below.refl w.heap.size w) hb | exact below_seq2 (Below.refl w.heap.size w) hb | exact below_seq3 (Below.refl w.heap.size w) hb | exact below_seq4 (Below.refl w.heap.size w) hb))
  have R1 := Lib.hid hb
  have hz1 := hb.size
  try simp at hz1
  clear hb
  have Q := Lib.hid (nr_own ho)
  clear ho
  rcases hq : acB lim each us with _ | _
  · have HQ := Lib.hid hq
    clear hq
    go_wp2_with fail
    refine (overI_no lim each A1 n1 c1 us _ (by first | with_reducible exact Q.out | with_reducible exact nr_alloc Q.out _ | with_reducible exact nr_alloc (nr_alloc Q.out _) _ | with_reducible exact nr_alloc (nr_alloc (nr_alloc Q.out _) _) _) (by omega) HQ.out).mono ?_
    rintro e w2 ⟨A2, n2, c2, rfl, hn2, ho2, hb⟩
    obtain ⟨hc2, hf2⟩ := bcell hb
    have B2 := Lib.hid (show Below w.heap.size w w2 from (by first | exact below_seq B1.out hb | exact below_seq1 B1.out hb | exact below_seq2 B1.out hb | exact below_seq3 B1.out hb | exact below_seq4 B1.out hb))
    have R2 := Lib.hid hb
    have hz2 := hb.size
    try simp at hz2
    clear hb
    try have y20 : w.heap.size < w2.heap.size := by omega
    try have y20a : w.heap.size + 1 < w2.heap.size := by omega
    try have y20b : w.heap.size < w2.heap.size + 1 + 1 := by omega
    try have y20c : w.heap.size + 1 < w2.heap.size + 1 + 1 := by omega
    try have y21 : w1.heap.size < w2.heap.size := by omega
    try have y21a : w1.heap.size + 1 < w2.heap.size := by omega
    try have y21b : w1.heap.size < w2.heap.size + 1 + 1 := by omega
    try have y21c : w1.heap.size + 1 < w2.heap.size + 1 + 1 := by omega
    obtain rfl : n2 = 0 := hn2
    have X := Lib.hid (nr_own ho2)
    clear ho2
    replace Q := Lib.hid (show NR w2 _ _ _ from (by first | with_reducible exact nr_below Q.out R2.out | with_reducible exact nr_below (nr_alloc Q.out _) R2.out | with_reducible exact nr_below (nr_alloc (nr_alloc Q.out _) _) R2.out | with_reducible exact nr_below (nr_alloc (nr_alloc (nr_alloc Q.out _) _) _) R2.out))
    go_wp2_with fail
    refine (overS_no lim each A1 n1 c1 us _ (by first | with_reducible exact Q.out | with_reducible exact nr_alloc Q.out _ | with_reducible exact nr_alloc (nr_alloc Q.out _) _ | with_reducible exact nr_alloc (nr_alloc (nr_alloc Q.out _) _) _) (by omega) HQ.out).mono ?_
    rintro e w3 ⟨A3, n3, c3, rfl, hn3, ho3, hb⟩
    obtain ⟨hc3, hf3⟩ := bcell hb
    have B3 := Lib.hid (show Below w.heap.size w w3 from (by first | exact below_seq B2.out hb | exact below_seq1 B2.out hb | exact below_seq2 B2.out hb | exact below_seq3 B2.out hb | exact below_seq4 B2.out hb))
    have R3 := Lib.hid hb
    have hz3 := hb.size
    try simp at hz3
    clear hb
    try have y30 : w.heap.size < w3.heap.size := by omega
    try have y30a : w.heap.size + 1 < w3.heap.size := by omega
    try have y30b : w.heap.size < w3.heap.size + 1 + 1 := by omega
    try have y30c : w.heap.size + 1 < w3.heap.size + 1 + 1 := by omega
    try have y31 : w1.heap.size < w3.heap.size := by omega
    try have y31a : w1.heap.size + 1 < w3.heap.size := by omega
    try have y31b : w1.heap.size < w3.heap.size + 1 + 1 := by omega
    try have y31c : w1.heap.size + 1 < w3.heap.size + 1 + 1 := by omega
    try have y32 : w2.heap.size < w3.heap.size := by omega
    try have y32a : w2.heap.size + 1 < w3.heap.size := by omega
    try have y32b : w2.heap.size < w3.heap.size + 1 + 1 := by omega
    try have y32c : w2.heap.size + 1 < w3.heap.size + 1 + 1 := by omega
    obtain rfl : n3 = 0 := hn3
    have Y := Lib.hid (nr_own ho3)
    replace X := Lib.hid (show NR w3 _ _ _ from (by first | with_reducible exact nr_below X.out R3.out | with_reducible exact nr_below (nr_alloc X.out _) R3.out | with_reducible exact nr_below (nr_alloc (nr_alloc X.out _) _) R3.out | with_reducible exact nr_below (nr_alloc (nr_alloc (nr_alloc X.out _) _) _) R3.out))
    clear ho3
    go_wp2_with fail
    refine (tgInts_any A2 A3 0 c2 0 c3 [] [] _ (by first | with_reducible exact X.out | with_reducible exact nr_alloc X.out _ | with_reducible exact nr_alloc (nr_alloc X.out _) _ | with_reducible exact nr_alloc (nr_alloc (nr_alloc X.out _) _) _) (by first | with_reducible exact Y.out | with_reducible exact nr_alloc Y.out _ | with_reducible exact nr_alloc (nr_alloc Y.out _) _ | with_reducible exact nr_alloc (nr_alloc (nr_alloc Y.out _) _) _) (by omega) (by omega)).mono ?_
    rintro e w4 ⟨rfl, hb⟩
    obtain ⟨hc4, hf4⟩ := bcell hb
    have B4 := Lib.hid (show Below w.heap.size w w4 from (by first | exact below_seq B3.out hb | exact below_seq1 B3.out hb | exact below_seq2 B3.out hb | exact below_seq3 B3.out hb | exact below_seq4 B3.out hb))
    have R4 := Lib.hid hb
    have hz4 := hb.size
    try simp at hz4
    clear hb
    try have y40 : w.heap.size < w4.heap.size := by omega
    try have y40a : w.heap.size + 1 < w4.heap.size := by omega
    try have y40b : w.heap.size < w4.heap.size + 1 + 1 := by omega
    try have y40c : w.heap.size + 1 < w4.heap.size + 1 + 1 := by omega
    try have y41 : w1.heap.size < w4.heap.size := by omega
    try have y41a : w1.heap.size + 1 < w4.heap.size := by omega
    try have y41b : w1.heap.size < w4.heap.size + 1 + 1 := by omega
    try have y41c : w1.heap.size + 1 < w4.heap.size + 1 + 1 := by omega
    try have y42 : w2.heap.size < w4.heap.size := by omega
    try have y42a : w2.heap.size + 1 < w4.heap.size := by omega
    try have y42b : w2.heap.size < w4.heap.size + 1 + 1 := by omega
    try have y42c : w2.heap.size + 1 < w4.heap.size + 1 + 1 := by omega
    try have y43 : w3.heap.size < w4.heap.size := by omega
    try have y43a : w3.heap.size + 1 < w4.heap.size := by omega
    try have y43b : w3.heap.size < w4.heap.size + 1 + 1 := by omega
    try have y43c : w3.heap.size + 1 < w4.heap.size + 1 + 1 := by omega
    rw [ints_refl]
    replace X := Lib.hid (show NR w4 _ _ _ from (by first | with_reducible exact nr_below X.out R4.out | with_reducible exact nr_below (nr_alloc X.out _) R4.out | with_reducible exact nr_below (nr_alloc (nr_alloc X.out _) _) R4.out | with_reducible exact nr_below (nr_alloc (nr_alloc (nr_alloc X.out _) _) _) R4.out))
    replace Y := Lib.hid (show NR w4 _ _ _ from (by first | with_reducible exact nr_below Y.out R4.out | with_reducible exact nr_below (nr_alloc Y.out _) R4.out | with_reducible exact nr_below (nr_alloc (nr_alloc Y.out _) _) R4.out | with_reducible exact nr_below (nr_alloc (nr_alloc (nr_alloc Y.out _) _) _) R4.out))
    go_wp2_with fail
    refine (tgInts_any A2 A3 0 c2 0 c3 [] [] _ (by first | with_reducible exact X.out | with_reducible exact nr_alloc X.out _ | with_reducible exact nr_alloc (nr_alloc X.out _) _ | with_reducible exact nr_alloc (nr_alloc (nr_alloc X.out _) _) _) (by first | with_reducible exact Y.out | with_reducible exact nr_alloc Y.out _ | with_reducible exact nr_alloc (nr_alloc Y.out _) _ | with_reducible exact nr_alloc (nr_alloc (nr_alloc Y.out _) _) _) (by omega) (by omega)).mono ?_
    rintro e w5 ⟨rfl, hb⟩
    obtain ⟨hc5, hf5⟩ := bcell hb
    have B5 := Lib.hid (show Below w.heap.size w w5 from (by first | exact below_seq B4.out hb | exact below_seq1 B4.out hb | exact below_seq2 B4.out hb | exact below_seq3 B4.out hb | exact below_seq4 B4.out hb))
    have R5 := Lib.hid hb
    have hz5 := hb.size
    try simp at hz5
    clear hb
    try have y50 : w.heap.size < w5.heap.size := by omega
    try have y50a : w.heap.size + 1 < w5.heap.size := by omega
    try have y50b : w.heap.size < w5.heap.size + 1 + 1 := by omega
    try have y50c : w.heap.size + 1 < w5.heap.size + 1 + 1 := by omega
    try have y51 : w1.heap.size < w5.heap.size := by omega
    try have y51a : w1.heap.size + 1 < w5.heap.size := by omega
    try have y51b : w1.heap.size < w5.heap.size + 1 + 1 := by omega
    try have y51c : w1.heap.size + 1 < w5.heap.size + 1 + 1 := by omega
    try have y52 : w2.heap.size < w5.heap.size := by omega
    try have y52a : w2.heap.size + 1 < w5.heap.size := by omega
    try have y52b : w2.heap.size < w5.heap.size + 1 + 1 := by omega
    try have y52c : w2.heap.size + 1 < w5.heap.size + 1 + 1 := by omega
    try have y53 : w3.heap.size < w5.heap.size := by omega
    try have y53a : w3.heap.size + 1 < w5.heap.size := by omega
    try have y53b : w3.heap.size < w5.heap.size + 1 + 1 := by omega
    try have y53c : w3.heap.size + 1 < w5.heap.size + 1 + 1 := by omega
    try have y54 : w4.heap.size < w5.heap.size := by omega
    try have y54a : w4.heap.size + 1 < w5.heap.size := by omega
    try have y54b : w4.heap.size < w5.heap.size + 1 + 1 := by omega
    try have y54c : w4.heap.size + 1 < w5.heap.size + 1 + 1 := by omega
    rw [ints_refl]
    go_wp2
    all_goals
      go_ret
      refine ⟨rfl, ?_⟩
      repeat refine below_alloc ?_ _
      exact B5.out
  · obtain ⟨a1, a2, a3, a4, a5, a6⟩ := ac_of hq
    have n8 : n1 = 8 := by have := Q.out.1; omega
    subst n8
    have HQ := Lib.hid hq
    have HL := Lib.hid a4
    obtain ⟨vs, hvs⟩ : ∃ vs, vs = overL us := ⟨_, rfl⟩
    have hm8 : vs.length ≤ 8 := by rw [hvs]; exact over_len _ _ _
    have HVS := Lib.hid hvs
    clear hq a1 a4 a5 a6 hvs
    go_wp2_with fail
    refine (overI_yes lim each A1 8 c1 us _ (by first | with_reducible exact Q.out | with_reducible exact nr_alloc Q.out _ | with_reducible exact nr_alloc (nr_alloc Q.out _) _ | with_reducible exact nr_alloc (nr_alloc (nr_alloc Q.out _) _) _) HQ.out).mono ?_
    rintro e w2 ⟨⟨A2, m, c2, rfl, hn2, ho2, hb⟩, hsh⟩
    obtain ⟨hc2, hf2⟩ := bcell hb
    have B2 := Lib.hid (show Below w.heap.size w w2 from (by first | exact below_seq B1.out hb | exact below_seq1 B1.out hb | exact below_seq2 B1.out hb | exact below_seq3 B1.out hb | exact below_seq4 B1.out hb))
    have R2 := Lib.hid hb
    have hz2 := hb.size
    try simp at hz2
    clear hb
    try have y20 : w.heap.size < w2.heap.size := by omega
    try have y20a : w.heap.size + 1 < w2.heap.size := by omega
    try have y20b : w.heap.size < w2.heap.size + 1 + 1 := by omega
    try have y20c : w.heap.size + 1 < w2.heap.size + 1 + 1 := by omega
    try have y21 : w1.heap.size < w2.heap.size := by omega
    try have y21a : w1.heap.size + 1 < w2.heap.size := by omega
    try have y21b : w1.heap.size < w2.heap.size + 1 + 1 := by omega
    try have y21c : w1.heap.size + 1 < w2.heap.size + 1 + 1 := by omega
    rw [← HVS.out] at hn2 ho2
    have X := Lib.hid (nr_own ho2)
    have HSH := Lib.hid hsh
    have hm8' : m ≤ 8 := by omega
    have HN := Lib.hid hn2
    clear ho2 hsh hn2 hm8
    replace Q := Lib.hid (show NR w2 _ _ _ from (by first | with_reducible exact nr_below Q.out R2.out | with_reducible exact nr_below (nr_alloc Q.out _) R2.out | with_reducible exact nr_below (nr_alloc (nr_alloc Q.out _) _) R2.out | with_reducible exact nr_below (nr_alloc (nr_alloc (nr_alloc Q.out _) _) _) R2.out))
    go_wp2_with fail
    refine (overS_yes lim each A1 8 c1 us _ (by first | with_reducible exact Q.out | with_reducible exact nr_alloc Q.out _ | with_reducible exact nr_alloc (nr_alloc Q.out _) _ | with_reducible exact nr_alloc (nr_alloc (nr_alloc Q.out _) _) _) HQ.out).mono ?_
    rintro e w3 ⟨⟨A3, m3, c3, rfl, hn3, ho3, hb⟩, hsh⟩
    obtain ⟨hc3, hf3⟩ := bcell hb
    have B3 := Lib.hid (show Below w.heap.size w w3 from (by first | exact below_seq B2.out hb | exact below_seq1 B2.out hb | exact below_seq2 B2.out hb | exact below_seq3 B2.out hb | exact below_seq4 B2.out hb))
    have R3 := Lib.hid hb
    have hz3 := hb.size
    try simp at hz3
    clear hb
    try have y30 : w.heap.size < w3.heap.size := by omega
    try have y30a : w.heap.size + 1 < w3.heap.size := by omega
    try have y30b : w.heap.size < w3.heap.size + 1 + 1 := by omega
    try have y30c : w.heap.size + 1 < w3.heap.size + 1 + 1 := by omega
    try have y31 : w1.heap.size < w3.heap.size := by omega
    try have y31a : w1.heap.size + 1 < w3.heap.size := by omega
    try have y31b : w1.heap.size < w3.heap.size + 1 + 1 := by omega
    try have y31c : w1.heap.size + 1 < w3.heap.size + 1 + 1 := by omega
    try have y32 : w2.heap.size < w3.heap.size := by omega
    try have y32a : w2.heap.size + 1 < w3.heap.size := by omega
    try have y32b : w2.heap.size < w3.heap.size + 1 + 1 := by omega
    try have y32c : w2.heap.size + 1 < w3.heap.size + 1 + 1 := by omega
    rw [← HVS.out] at hn3 ho3
    obtain rfl : m3 = m := hn3.trans HN.out.symm
    have Y := Lib.hid (nr_own ho3)
    replace X := Lib.hid (show NR w3 _ _ _ from (by first | with_reducible exact nr_below X.out R3.out | with_reducible exact nr_below (nr_alloc X.out _) R3.out | with_reducible exact nr_below (nr_alloc (nr_alloc X.out _) _) R3.out | with_reducible exact nr_below (nr_alloc (nr_alloc (nr_alloc X.out _) _) _) R3.out))
    replace Q := Lib.hid (show NR w3 _ _ _ from (by first | with_reducible exact nr_below Q.out R3.out | with_reducible exact nr_below (nr_alloc Q.out _) R3.out | with_reducible exact nr_below (nr_alloc (nr_alloc Q.out _) _) R3.out | with_reducible exact nr_below (nr_alloc (nr_alloc (nr_alloc Q.out _) _) _) R3.out))
    clear ho3 hsh hn3
    go_wp2_with fail
    refine (tgInts_any A2 A3 m3 c2 m3 c3 vs vs _ (by first | with_reducible exact X.out | with_reducible exact nr_alloc X.out _ | with_reducible exact nr_alloc (nr_alloc X.out _) _ | with_reducible exact nr_alloc (nr_alloc (nr_alloc X.out _) _) _) (by first | with_reducible exact Y.out | with_reducible exact nr_alloc Y.out _ | with_reducible exact nr_alloc (nr_alloc Y.out _) _ | with_reducible exact nr_alloc (nr_alloc (nr_alloc Y.out _) _) _) (by omega) (by omega)).mono ?_
    rintro e w4 ⟨rfl, hb⟩
    obtain ⟨hc4, hf4⟩ := bcell hb
    have B4 := Lib.hid (show Below w.heap.size w w4 from (by first | exact below_seq B3.out hb | exact below_seq1 B3.out hb | exact below_seq2 B3.out hb | exact below_seq3 B3.out hb | exact below_seq4 B3.out hb))
    have R4 := Lib.hid hb
    have hz4 := hb.size
    try simp at hz4
    clear hb
    try have y40 : w.heap.size < w4.heap.size := by omega
    try have y40a : w.heap.size + 1 < w4.heap.size := by omega
    try have y40b : w.heap.size < w4.heap.size + 1 + 1 := by omega
    try have y40c : w.heap.size + 1 < w4.heap.size + 1 + 1 := by omega
    try have y41 : w1.heap.size < w4.heap.size := by omega
    try have y41a : w1.heap.size + 1 < w4.heap.size := by omega
    try have y41b : w1.heap.size < w4.heap.size + 1 + 1 := by omega
    try have y41c : w1.heap.size + 1 < w4.heap.size + 1 + 1 := by omega
    try have y42 : w2.heap.size < w4.heap.size := by omega
    try have y42a : w2.heap.size + 1 < w4.heap.size := by omega
    try have y42b : w2.heap.size < w4.heap.size + 1 + 1 := by omega
    try have y42c : w2.heap.size + 1 < w4.heap.size + 1 + 1 := by omega
    try have y43 : w3.heap.size < w4.heap.size := by omega
    try have y43a : w3.heap.size + 1 < w4.heap.size := by omega
    try have y43b : w3.heap.size < w4.heap.size + 1 + 1 := by omega
    try have y43c : w3.heap.size + 1 < w4.heap.size + 1 + 1 := by omega
    rw [ints_refl]
    replace X := Lib.hid (show NR w4 _ _ _ from (by first | with_reducible exact nr_below X.out R4.out | with_reducible exact nr_below (nr_alloc X.out _) R4.out | with_reducible exact nr_below (nr_alloc (nr_alloc X.out _) _) R4.out | with_reducible exact nr_below (nr_alloc (nr_alloc (nr_alloc X.out _) _) _) R4.out))
    replace Y := Lib.hid (show NR w4 _ _ _ from (by first | with_reducible exact nr_below Y.out R4.out | with_reducible exact nr_below (nr_alloc Y.out _) R4.out | with_reducible exact nr_below (nr_alloc (nr_alloc Y.out _) _) R4.out | with_reducible exact nr_below (nr_alloc (nr_alloc (nr_alloc Y.out _) _) _) R4.out))
    replace Q := Lib.hid (show NR w4 _ _ _ from (by first | with_reducible exact nr_below Q.out R4.out | with_reducible exact nr_below (nr_alloc Q.out _) R4.out | with_reducible exact nr_below (nr_alloc (nr_alloc Q.out _) _) R4.out | with_reducible exact nr_below (nr_alloc (nr_alloc (nr_alloc Q.out _) _) _) R4.out))
    have y41' : w1.heap.size < w4.heap.size := by omega
    rcases Nat.eq_zero_or_pos m3 with h0 | h0
    · subst h0
      go_wp2_with fail
      refine (tgInts_any A2 A3 0 c2 0 c3 vs vs _ (by first | with_reducible exact X.out | with_reducible exact nr_alloc X.out _ | with_reducible exact nr_alloc (nr_alloc X.out _) _ | with_reducible exact nr_alloc (nr_alloc (nr_alloc X.out _) _) _) (by first | with_reducible exact Y.out | with_reducible exact nr_alloc Y.out _ | with_reducible exact nr_alloc (nr_alloc Y.out _) _ | with_reducible exact nr_alloc (nr_alloc (nr_alloc Y.out _) _) _) (by omega) (by omega)).mono ?_
      rintro e w5 ⟨rfl, hb⟩
      obtain ⟨hc5, hf5⟩ := bcell hb
      have B5 := Lib.hid (show Below w.heap.size w w5 from (by first | exact below_seq B4.out hb | exact below_seq1 B4.out hb | exact below_seq2 B4.out hb | exact below_seq3 B4.out hb | exact below_seq4 B4.out hb))
      have R5 := Lib.hid hb
      have hz5 := hb.size
      try simp at hz5
      clear hb
      try have y50 : w.heap.size < w5.heap.size := by omega
      try have y50a : w.heap.size + 1 < w5.heap.size := by omega
      try have y50b : w.heap.size < w5.heap.size + 1 + 1 := by omega
      try have y50c : w.heap.size + 1 < w5.heap.size + 1 + 1 := by omega
      try have y51 : w1.heap.size < w5.heap.size := by omega
      try have y51a : w1.heap.size + 1 < w5.heap.size := by omega
      try have y51b : w1.heap.size < w5.heap.size + 1 + 1 := by omega
      try have y51c : w1.heap.size + 1 < w5.heap.size + 1 + 1 := by omega
      try have y52 : w2.heap.size < w5.heap.size := by omega
      try have y52a : w2.heap.size + 1 < w5.heap.size := by omega
      try have y52b : w2.heap.size < w5.heap.size + 1 + 1 := by omega
      try have y52c : w2.heap.size + 1 < w5.heap.size + 1 + 1 := by omega
      try have y53 : w3.heap.size < w5.heap.size := by omega
      try have y53a : w3.heap.size + 1 < w5.heap.size := by omega
      try have y53b : w3.heap.size < w5.heap.size + 1 + 1 := by omega
      try have y53c : w3.heap.size + 1 < w5.heap.size + 1 + 1 := by omega
      try have y54 : w4.heap.size < w5.heap.size := by omega
      try have y54a : w4.heap.size + 1 < w5.heap.size := by omega
      try have y54b : w4.heap.size < w5.heap.size + 1 + 1 := by omega
      try have y54c : w4.heap.size + 1 < w5.heap.size + 1 + 1 := by omega
      rw [ints_refl]
      go_wp2
      all_goals
        go_ret
        refine ⟨rfl, ?_⟩
        repeat refine below_alloc ?_ _
        exact B5.out
    · have e0 : ((m3 : Int) == 0) = false := by simp; omega
      go_wp2_with fail
      go_loop [8, 9] (fun s i => ∃ (j : Nat) (M : Int), j ≤ 8 ∧ i = .int .i64 (j : Int) ∧ s = .int .i64 M ∧ (∀ x ∈ us.take j, x ≤ M) ∧ (M = 0 ∨ M ∈ us)) (fun _ i => 8 - (intOf i).toNat)
      case atStart => exact ⟨0, 0, Nat.zero_le _, rfl, rfl, fun x hx => by simp at hx, .inl rfl⟩
      case round =>
        obtain ⟨j, M, hj, rfl, rfl, hall, hmem⟩ := hrel
        have HALL := Lib.hid hall
        have HMEM := Lib.hid hmem
        clear hall hmem
        by_cases hlt : j < 8
        · obtain ⟨b, off, y, rfl, hb, hy, c0⟩ := nr_at Q.out hlt
          have HY := Lib.hid hy
          clear hy
          by_cases hyM : M < y
          · have d0 : decide (M < y) = true := by simp [hyM]
            have HYM := Lib.hid hyM
            clear hyM
            go_wp2
            go_round
            case rel => exact ⟨j + 1, y, by omega, by go_num, rfl, mem_take_succ (fun x hx => by have := HALL.out x hx; have := HYM.out; omega) HY.out (Int.le_refl _), .inr (List.mem_of_getElem? HY.out)⟩
            case measure => simp [intOf]; omega
          · have d0 : decide (M < y) = false := by simp; omega
            have HYM : Hid (y ≤ M) := Lib.hid (by omega)
            clear hyM
            go_wp2
            go_round
            case rel => exact ⟨j + 1, M, by omega, by go_num, rfl, mem_take_succ HALL.out HY.out HYM.out, HMEM.out⟩
            case measure => simp [intOf]; omega
        · obtain rfl : j = 8 := by omega
          obtain ⟨i0, hi0, hq0⟩ : ∃ i0 : Nat, i0 < m3 ∧ ∃ q : Nat, vs[i0]? = some (q : Int) ∧ us[q]? = some M := by
            have hmax : ∀ x ∈ us, x ≤ M := fun x hx => HALL.out x (by rw [List.take_of_length_le (by have := HL.out; omega)]; exact hx)
            have hl : 0 < vs.length := by have := HN.out; omega
            obtain ⟨y0, hy0⟩ : ∃ y0, y0 ∈ vs := ⟨_, List.getElem_mem hl⟩
            rw [HVS.out] at hy0
            obtain ⟨q, -, -, u, x, hu, -, hx0, hxu⟩ := over_pos HQ.out HSH.out hy0
            have hM : M ∈ us := by
              have h1 := hmax u (List.mem_of_getElem? hu)
              rcases HMEM.out with h2 | h2
              · omega
              · exact h2
            obtain ⟨mm, hmm⟩ := List.mem_iff_getElem?.1 hM
            obtain ⟨q2, hq2, hu2⟩ := over_most HQ.out HSH.out hy0 hmm hmax
            rw [← HVS.out] at hq2
            obtain ⟨i0, hi0⟩ := List.mem_iff_getElem?.1 hq2
            exact ⟨i0, by rw [HN.out]; exact (List.getElem?_eq_some_iff.1 hi0).1, q2, hi0, hu2⟩
          have HI0 := Lib.hid hi0
          have HQ0 := Lib.hid hq0
          clear hq0 hi0
          go_wp2_with fail
          go_loopw [10, 11] (fun t i wr => OhRel w4 A1 A2 m3 i0 us vs t i wr) (fun _ i _ => m3 - (intOf i).toNat)
          case atStart => exact ⟨0, false, by omega, rfl, rfl, fun h => by omega, Q.out, X.out, Below.refl _ _⟩
          case round =>
            obtain ⟨p, t, hp8, rfl, rfl, ht, hp, hx, hbl⟩ := hrel
            have HPQ := Lib.hid hp
            have HPX := Lib.hid hx
            have HBl := Lib.hid hbl
            have HT := Lib.hid ht
            obtain ⟨hcr, hfr⟩ := bcell hbl
            have hzr := hbl.size
            clear hp hx hbl ht
            by_cases hpm : p < m3
            · cases t with
              | true =>
                go_wp2_with fail
                go_quiet (fail)
                go_wp2
                go_roundw
                case rel => exact ⟨p + 1, true, by omega, by go_num, rfl, fun _ => rfl, nr_drewN HPQ.out _, nr_drewN HPX.out _, below_drewN HBl.out _⟩
                case measure => simp [intOf]; omega
              | false =>
                have hpi : p ≤ i0 := by
                  rcases Nat.lt_or_ge i0 p with h | h
                  · exact absurd (HT.out h) (by simp)
                  · exact h
                obtain ⟨b2, o2, y, rfl, hb2, hy, c02⟩ := nr_at HPX.out hpm
                obtain ⟨q, hq8, rfl, u, x, hu, -, hx0, hxu⟩ := over_pos HQ.out HSH.out (by rw [← HVS.out]; exact List.mem_of_getElem? hy)
                obtain ⟨b1, o1, rfl, c01, -⟩ := nr_at' HPQ.out hu
                have HT2 : Hid (i0 < p + 1 → (u == M) = true) := Lib.hid (fun h => by
                  obtain rfl : p = i0 := by omega
                  obtain ⟨q2, h1, h2⟩ := HQ0.out
                  rw [hy] at h1
                  obtain rfl : q = q2 := by have := Option.some.inj h1; omega
                  rw [hu] at h2
                  simp [Option.some.inj h2])
                clear hu hx0 hy
                rcases hd : (u == M) with _ | _
                · go_wp2_with fail
                  go_quiet (fail)
                  go_wp2
                  go_roundw
                  case rel => exact ⟨p + 1, false, by omega, by go_num, rfl, fun h => by rw [← hd]; exact HT2.out h, nr_drewN HPQ.out _, nr_drewN HPX.out _, below_drewN HBl.out _⟩
                  case measure => simp [intOf]; omega
                · go_wp2_with fail
                  go_quiet (fail)
                  go_wp2
                  go_roundw
                  case rel => exact ⟨p + 1, true, by omega, by go_num, rfl, fun _ => rfl, nr_drewN HPQ.out _, nr_drewN HPX.out _, below_drewN HBl.out _⟩
                  case measure => simp [intOf]; omega
            · obtain rfl : p = m3 := by omega
              obtain rfl := HT.out HI0.out
              have HBB := Lib.hid (below_seq B4.out HBl.out)
              clear hcr hfr
              go_wp2
              go_ret
              exact ⟨rfl, HBB.out⟩
theorem own : ownKnob Try.prog.godebug = none := by kernel_rfl
theorem laidOut : laidOutB Try.prog = true := by kernel_rfl
set_option maxRecDepth 100000 in
theorem lifted (os : Os) (started : os.Started) (H : Type) (enc : TypeId × Value → H) :
    ReturnsInHanded {} Try.checked os 5 .any (Rows.fnOverHeavySpec.pre6 enc Try.prog Try.f5 Rows.fnOverHeavyRow.domain false) (Rows.fnOverHeavySpec.post enc Try.prog Try.f5 false true false false) := by
  refine returnsInHanded_of_change (C := Try.checked) own started (by kernel_rfl) Try.func5
    (ChangeSpec.witness6 (enc := enc) (C := Try.checked) false ⟨#[], #[.slice none 0 0], []⟩ 8 (by kernel_rfl) (by kernel_rfl) (by kernel_rfl) (by kernel_rfl)) ?_
  intro W base args ds gs before hval0 hW _ _
  have hval : ∀ (j : Nat) t v, Try.f5.params[j]? = some t → args[j]? = some v → Value.okWide Try.prog W .any base t v := hval0
  have hW' := hW
  obtain ⟨p, q, hA0, hV, rfl, _, _⟩ := hW
  have hA : DataW.TrodAll enc Try.prog W 0 (fun _ => true) true Try.f5.params.toList args.toList ds p := hA0
  rw [Try.params5] at hA hval
  obtain ⟨v0, vs0, d0, ds0, p0, q0, hargs, rfl, rfl, h0, r0⟩ := trodAll_cons hA
  obtain ⟨rfl, rfl, rfl⟩ := trodAll_nil r0
  obtain rfl : args = #[v0] := by cases args; simp_all
  obtain ⟨rfl, rfl⟩ := trodVars_none hV
  have lt0 : ∀ x ∈ p0, x.block < W.heap.size := by obtain ⟨m, hm⟩ := h0; exact DataW.trod_lt m _ _ _ hm
  obtain ⟨a0, n0, c0, rfl⟩ := okWide_slice Try.underlying22 (hval 0 22 v0 rfl rfl)
  have w0 : Bytes W a0 n0 c0 := bytes_open h0
  clear hA0 hval0
  refine (walk a0 n0 c0 W w0).mono fun e W' ⟨he, bel⟩ => ?_
  subst he
  exact ⟨_, rfl, _, _, _, [], _, [], hW', trodAll_mk1 (shut_bool Try.underlying4 _), (trodAll_cons_mk (Below.trod laidOut (by kernel_rfl) (of_decide_eq_true (by kernel_rfl)) h0 bel lt0) trodAll_mk0), rfl, bel.frame _, fun h => by cases h⟩
theorem over : Rows.fnOverHeavyRow.holds Try.pinned (OpenSpec.ofChange Rows.fnOverHeavySpec) :=
  OpenClaim.holds_of_wide 5 Try.f5 rfl rfl rfl rfl rfl rfl rfl ⟨rfl, rfl, rfl, rfl, rfl⟩ rfl rfl rfl rfl rfl (by kernel_rfl) Try.func5 (by kernel_rfl)
    (of_decide_eq_true (by kernel_rfl)) (by unfold Func.isWrapper; first | (rw [if_pos (by decide +kernel)]; kernel_rfl) | (rw [if_neg (by decide +kernel)]; exact ⟨rfl, rfl⟩))
    (fun os started H enc _ => lifted os started H enc)
/-- the given statement -/
theorem proved : Rows.FnOverHeavySaid := over
end Go.Proofs.Ytkbjelchihdajab.fnOverHeavy
