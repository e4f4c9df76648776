/-
  The law FnOverShare returns true at every argument: who uses more than its share of half of what all use, in order of the peers. Conditions: none.
-/
import Derived.Test.YtkbjelchihdajaaLift
import Derived.Test.YtkbjelchihdajaaAI
import Derived.Test.YtkbjelchihdajaaAl
import Derived.Test.YtkbjelchihdajaaAEx
namespace Go.Proofs.Ytkbjelchihdajaa.fnOverShare
open Go.ChangeShapes Go.WideShapes Go.ChangeAt Go.RowKit

def OsRel (w : World) (A1 A2 : Option Addr) (m : Nat) (us vs : List Int) (i : Value) (wr : World) : Prop :=
  ∃ p : Nat, p ≤ m ∧ i = .int .i64 (p : Int) ∧ NR wr A1 8 us ∧ NR wr A2 m vs ∧ Below w.heap.size w wr
set_option maxHeartbeats 2000000 in
theorem walk (A : Option Addr) (n c : Nat) (w : World) (h : Bytes w A n c) :
    Calls Try.prog 8 #[.slice A n c] w fun e w' => e = .returned (.bool true) ∧ Below w.heap.size w w' := by
  have HB := Lib.hid h
  clear h
  by_cases hbig : ¬ n ≤ 1048576
  · go_enter Try.func8, Try.ntmps8
    go_wp2
    go_ret
    exact ⟨rfl, Below.refl _ _⟩
  have hbig' : n ≤ 1048576 := by omega
  clear hbig
  go_enter Try.func8, Try.ntmps8
  go_wp2_with fail
  refine (drawOverShare_any A n c _ HB.out).mono ?_
  rintro e w1 ⟨lim, each, A1, n1, c1, us, rfl, hn1, ho, hb⟩
  obtain ⟨hc1, hf1⟩ := bcell hb
  have B1 := Lib.hid (show Below w.heap.size w w1 from (by first | exact below_seq (Below.refl w.heap.size w) hb | exact below_seq1 (Below.refl w.heap.size w) hb | exact below_seq2 (Below.refl w.heap.size w) hb | exact below_seq3 (Below.refl w.heap.size w) hb | exact below_seq4 (Below.refl w.heap.size w) hb))
  have R1 := Lib.hid hb
  have hz1 := hb.size
  try simp at hz1
  clear hb
  have Q := Lib.hid (nr_own ho)
  clear ho
  rcases hq : acB lim each us with _ | _
  · have HQ := Lib.hid hq
    clear hq
    go_wp2_with fail
    refine (overI_no lim each A1 n1 c1 us _ (by first | with_reducible exact Q.out | with_reducible exact nr_alloc Q.out _ | with_reducible exact nr_alloc (nr_alloc Q.out _) _ | with_reducible exact nr_alloc (nr_alloc (nr_alloc Q.out _) _) _) (by omega) HQ.out).mono ?_
    rintro e w2 ⟨A2, n2, c2, rfl, hn2, ho2, hb⟩
    obtain ⟨hc2, hf2⟩ := bcell hb
    have B2 := Lib.hid (show Below w.heap.size w w2 from (by first | exact below_seq B1.out hb | exact below_seq1 B1.out hb | exact below_seq2 B1.out hb | exact below_seq3 B1.out hb | exact below_seq4 B1.out hb))
    have R2 := Lib.hid hb
    have hz2 := hb.size
    try simp at hz2
    clear hb
    try have y20 : w.heap.size < w2.heap.size := by omega
    try have y20a : w.heap.size + 1 < w2.heap.size := by omega
    try have y20b : w.heap.size < w2.heap.size + 1 + 1 := by omega
    try have y20c : w.heap.size + 1 < w2.heap.size + 1 + 1 := by omega
    try have y21 : w1.heap.size < w2.heap.size := by omega
    try have y21a : w1.heap.size + 1 < w2.heap.size := by omega
    try have y21b : w1.heap.size < w2.heap.size + 1 + 1 := by omega
    try have y21c : w1.heap.size + 1 < w2.heap.size + 1 + 1 := by omega
    obtain rfl : n2 = 0 := hn2
    have X := Lib.hid (nr_own ho2)
    clear ho2
    replace Q := Lib.hid (show NR w2 _ _ _ from (by first | with_reducible exact nr_below Q.out R2.out | with_reducible exact nr_below (nr_alloc Q.out _) R2.out | with_reducible exact nr_below (nr_alloc (nr_alloc Q.out _) _) R2.out | with_reducible exact nr_below (nr_alloc (nr_alloc (nr_alloc Q.out _) _) _) R2.out))
    go_wp2_with fail
    refine (overS_no lim each A1 n1 c1 us _ (by first | with_reducible exact Q.out | with_reducible exact nr_alloc Q.out _ | with_reducible exact nr_alloc (nr_alloc Q.out _) _ | with_reducible exact nr_alloc (nr_alloc (nr_alloc Q.out _) _) _) (by omega) HQ.out).mono ?_
    rintro e w3 ⟨A3, n3, c3, rfl, hn3, ho3, hb⟩
    obtain ⟨hc3, hf3⟩ := bcell hb
    have B3 := Lib.hid (show Below w.heap.size w w3 from (by first | exact below_seq B2.out hb | exact below_seq1 B2.out hb | exact below_seq2 B2.out hb | exact below_seq3 B2.out hb | exact below_seq4 B2.out hb))
    have R3 := Lib.hid hb
    have hz3 := hb.size
    try simp at hz3
    clear hb
    try have y30 : w.heap.size < w3.heap.size := by omega
    try have y30a : w.heap.size + 1 < w3.heap.size := by omega
    try have y30b : w.heap.size < w3.heap.size + 1 + 1 := by omega
    try have y30c : w.heap.size + 1 < w3.heap.size + 1 + 1 := by omega
    try have y31 : w1.heap.size < w3.heap.size := by omega
    try have y31a : w1.heap.size + 1 < w3.heap.size := by omega
    try have y31b : w1.heap.size < w3.heap.size + 1 + 1 := by omega
    try have y31c : w1.heap.size + 1 < w3.heap.size + 1 + 1 := by omega
    try have y32 : w2.heap.size < w3.heap.size := by omega
    try have y32a : w2.heap.size + 1 < w3.heap.size := by omega
    try have y32b : w2.heap.size < w3.heap.size + 1 + 1 := by omega
    try have y32c : w2.heap.size + 1 < w3.heap.size + 1 + 1 := by omega
    obtain rfl : n3 = 0 := hn3
    have Y := Lib.hid (nr_own ho3)
    replace X := Lib.hid (show NR w3 _ _ _ from (by first | with_reducible exact nr_below X.out R3.out | with_reducible exact nr_below (nr_alloc X.out _) R3.out | with_reducible exact nr_below (nr_alloc (nr_alloc X.out _) _) R3.out | with_reducible exact nr_below (nr_alloc (nr_alloc (nr_alloc X.out _) _) _) R3.out))
    clear ho3
    go_wp2_with fail
    refine (tgInts_any A2 A3 0 c2 0 c3 [] [] _ (by first | with_reducible exact X.out | with_reducible exact nr_alloc X.out _ | with_reducible exact nr_alloc (nr_alloc X.out _) _ | with_reducible exact nr_alloc (nr_alloc (nr_alloc X.out _) _) _) (by first | with_reducible exact Y.out | with_reducible exact nr_alloc Y.out _ | with_reducible exact nr_alloc (nr_alloc Y.out _) _ | with_reducible exact nr_alloc (nr_alloc (nr_alloc Y.out _) _) _) (by omega) (by omega)).mono ?_
    rintro e w4 ⟨rfl, hb⟩
    obtain ⟨hc4, hf4⟩ := bcell hb
    have B4 := Lib.hid (show Below w.heap.size w w4 from (by first | exact below_seq B3.out hb | exact below_seq1 B3.out hb | exact below_seq2 B3.out hb | exact below_seq3 B3.out hb | exact below_seq4 B3.out hb))
    have R4 := Lib.hid hb
    have hz4 := hb.size
    try simp at hz4
    clear hb
    try have y40 : w.heap.size < w4.heap.size := by omega
    try have y40a : w.heap.size + 1 < w4.heap.size := by omega
    try have y40b : w.heap.size < w4.heap.size + 1 + 1 := by omega
    try have y40c : w.heap.size + 1 < w4.heap.size + 1 + 1 := by omega
    try have y41 : w1.heap.size < w4.heap.size := by omega
    try have y41a : w1.heap.size + 1 < w4.heap.size := by omega
    try have y41b : w1.heap.size < w4.heap.size + 1 + 1 := by omega
    try have y41c : w1.heap.size + 1 < w4.heap.size + 1 + 1 := by omega
    try have y42 : w2.heap.size < w4.heap.size := by omega
    try have y42a : w2.heap.size + 1 < w4.heap.size := by omega
    try have y42b : w2.heap.size < w4.heap.size + 1 + 1 := by omega
    try have y42c : w2.heap.size + 1 < w4.heap.size + 1 + 1 := by omega
    try have y43 : w3.heap.size < w4.heap.size := by omega
    try have y43a : w3.heap.size + 1 < w4.heap.size := by omega
    try have y43b : w3.heap.size < w4.heap.size + 1 + 1 := by omega
    try have y43c : w3.heap.size + 1 < w4.heap.size + 1 + 1 := by omega
    rw [ints_refl]
    replace X := Lib.hid (show NR w4 _ _ _ from (by first | with_reducible exact nr_below X.out R4.out | with_reducible exact nr_below (nr_alloc X.out _) R4.out | with_reducible exact nr_below (nr_alloc (nr_alloc X.out _) _) R4.out | with_reducible exact nr_below (nr_alloc (nr_alloc (nr_alloc X.out _) _) _) R4.out))
    replace Y := Lib.hid (show NR w4 _ _ _ from (by first | with_reducible exact nr_below Y.out R4.out | with_reducible exact nr_below (nr_alloc Y.out _) R4.out | with_reducible exact nr_below (nr_alloc (nr_alloc Y.out _) _) R4.out | with_reducible exact nr_below (nr_alloc (nr_alloc (nr_alloc Y.out _) _) _) R4.out))
    go_wp2_with fail
    refine (tgInts_any A2 A3 0 c2 0 c3 [] [] _ (by first | with_reducible exact X.out | with_reducible exact nr_alloc X.out _ | with_reducible exact nr_alloc (nr_alloc X.out _) _ | with_reducible exact nr_alloc (nr_alloc (nr_alloc X.out _) _) _) (by first | with_reducible exact Y.out | with_reducible exact nr_alloc Y.out _ | with_reducible exact nr_alloc (nr_alloc Y.out _) _ | with_reducible exact nr_alloc (nr_alloc (nr_alloc Y.out _) _) _) (by omega) (by omega)).mono ?_
    rintro e w5 ⟨rfl, hb⟩
    obtain ⟨hc5, hf5⟩ := bcell hb
    have B5 := Lib.hid (show Below w.heap.size w w5 from (by first | exact below_seq B4.out hb | exact below_seq1 B4.out hb | exact below_seq2 B4.out hb | exact below_seq3 B4.out hb | exact below_seq4 B4.out hb))
    have R5 := Lib.hid hb
    have hz5 := hb.size
    try simp at hz5
    clear hb
    try have y50 : w.heap.size < w5.heap.size := by omega
    try have y50a : w.heap.size + 1 < w5.heap.size := by omega
    try have y50b : w.heap.size < w5.heap.size + 1 + 1 := by omega
    try have y50c : w.heap.size + 1 < w5.heap.size + 1 + 1 := by omega
    try have y51 : w1.heap.size < w5.heap.size := by omega
    try have y51a : w1.heap.size + 1 < w5.heap.size := by omega
    try have y51b : w1.heap.size < w5.heap.size + 1 + 1 := by omega
    try have y51c : w1.heap.size + 1 < w5.heap.size + 1 + 1 := by omega
    try have y52 : w2.heap.size < w5.heap.size := by omega
    try have y52a : w2.heap.size + 1 < w5.heap.size := by omega
    try have y52b : w2.heap.size < w5.heap.size + 1 + 1 := by omega
    try have y52c : w2.heap.size + 1 < w5.heap.size + 1 + 1 := by omega
    try have y53 : w3.heap.size < w5.heap.size := by omega
    try have y53a : w3.heap.size + 1 < w5.heap.size := by omega
    try have y53b : w3.heap.size < w5.heap.size + 1 + 1 := by omega
    try have y53c : w3.heap.size + 1 < w5.heap.size + 1 + 1 := by omega
    try have y54 : w4.heap.size < w5.heap.size := by omega
    try have y54a : w4.heap.size + 1 < w5.heap.size := by omega
    try have y54b : w4.heap.size < w5.heap.size + 1 + 1 := by omega
    try have y54c : w4.heap.size + 1 < w5.heap.size + 1 + 1 := by omega
    rw [ints_refl]
    go_wp2
    all_goals
      go_ret
      refine ⟨rfl, ?_⟩
      repeat refine below_alloc ?_ _
      exact B5.out
  · obtain ⟨a1, a2, a3, a4, a5, a6⟩ := ac_of hq
    have n8 : n1 = 8 := by have := Q.out.1; omega
    subst n8
    have HQ := Lib.hid hq
    have HL := Lib.hid a4
    have HB := Lib.hid (show ∀ y ∈ us, 0 ≤ y ∧ y ≤ 5000 from fun y hy => by have := a1 y hy; omega)
    obtain ⟨S, hS⟩ : ∃ S, sumL us = S := ⟨_, rfl⟩
    have hS0 : 0 ≤ S := by have := (sumL_bd HB.out).1; omega
    have HS := Lib.hid hS
    obtain ⟨vs, hvs⟩ : ∃ vs, vs = overL us := ⟨_, rfl⟩
    have hm8 : vs.length ≤ 8 := by rw [hvs]; exact over_len _ _ _
    have HVS := Lib.hid hvs
    clear hq a1 a4 a5 a6 hS hvs
    go_wp2_with fail
    refine (overI_yes lim each A1 8 c1 us _ (by first | with_reducible exact Q.out | with_reducible exact nr_alloc Q.out _ | with_reducible exact nr_alloc (nr_alloc Q.out _) _ | with_reducible exact nr_alloc (nr_alloc (nr_alloc Q.out _) _) _) HQ.out).mono ?_
    rintro e w2 ⟨⟨A2, m, c2, rfl, hn2, ho2, hb⟩, hsh⟩
    obtain ⟨hc2, hf2⟩ := bcell hb
    have B2 := Lib.hid (show Below w.heap.size w w2 from (by first | exact below_seq B1.out hb | exact below_seq1 B1.out hb | exact below_seq2 B1.out hb | exact below_seq3 B1.out hb | exact below_seq4 B1.out hb))
    have R2 := Lib.hid hb
    have hz2 := hb.size
    try simp at hz2
    clear hb
    try have y20 : w.heap.size < w2.heap.size := by omega
    try have y20a : w.heap.size + 1 < w2.heap.size := by omega
    try have y20b : w.heap.size < w2.heap.size + 1 + 1 := by omega
    try have y20c : w.heap.size + 1 < w2.heap.size + 1 + 1 := by omega
    try have y21 : w1.heap.size < w2.heap.size := by omega
    try have y21a : w1.heap.size + 1 < w2.heap.size := by omega
    try have y21b : w1.heap.size < w2.heap.size + 1 + 1 := by omega
    try have y21c : w1.heap.size + 1 < w2.heap.size + 1 + 1 := by omega
    rw [← HVS.out] at hn2 ho2
    have X := Lib.hid (nr_own ho2)
    have HSH := Lib.hid hsh
    have hm8' : m ≤ 8 := by omega
    have HN := Lib.hid hn2
    clear ho2 hsh hn2 hm8
    replace Q := Lib.hid (show NR w2 _ _ _ from (by first | with_reducible exact nr_below Q.out R2.out | with_reducible exact nr_below (nr_alloc Q.out _) R2.out | with_reducible exact nr_below (nr_alloc (nr_alloc Q.out _) _) R2.out | with_reducible exact nr_below (nr_alloc (nr_alloc (nr_alloc Q.out _) _) _) R2.out))
    go_wp2_with fail
    refine (overS_yes lim each A1 8 c1 us _ (by first | with_reducible exact Q.out | with_reducible exact nr_alloc Q.out _ | with_reducible exact nr_alloc (nr_alloc Q.out _) _ | with_reducible exact nr_alloc (nr_alloc (nr_alloc Q.out _) _) _) HQ.out).mono ?_
    rintro e w3 ⟨⟨A3, m3, c3, rfl, hn3, ho3, hb⟩, hsh⟩
    obtain ⟨hc3, hf3⟩ := bcell hb
    have B3 := Lib.hid (show Below w.heap.size w w3 from (by first | exact below_seq B2.out hb | exact below_seq1 B2.out hb | exact below_seq2 B2.out hb | exact below_seq3 B2.out hb | exact below_seq4 B2.out hb))
    have R3 := Lib.hid hb
    have hz3 := hb.size
    try simp at hz3
    clear hb
    try have y30 : w.heap.size < w3.heap.size := by omega
    try have y30a : w.heap.size + 1 < w3.heap.size := by omega
    try have y30b : w.heap.size < w3.heap.size + 1 + 1 := by omega
    try have y30c : w.heap.size + 1 < w3.heap.size + 1 + 1 := by omega
    try have y31 : w1.heap.size < w3.heap.size := by omega
    try have y31a : w1.heap.size + 1 < w3.heap.size := by omega
    try have y31b : w1.heap.size < w3.heap.size + 1 + 1 := by omega
    try have y31c : w1.heap.size + 1 < w3.heap.size + 1 + 1 := by omega
    try have y32 : w2.heap.size < w3.heap.size := by omega
    try have y32a : w2.heap.size + 1 < w3.heap.size := by omega
    try have y32b : w2.heap.size < w3.heap.size + 1 + 1 := by omega
    try have y32c : w2.heap.size + 1 < w3.heap.size + 1 + 1 := by omega
    rw [← HVS.out] at hn3 ho3
    obtain rfl : m3 = m := hn3.trans HN.out.symm
    have Y := Lib.hid (nr_own ho3)
    replace X := Lib.hid (show NR w3 _ _ _ from (by first | with_reducible exact nr_below X.out R3.out | with_reducible exact nr_below (nr_alloc X.out _) R3.out | with_reducible exact nr_below (nr_alloc (nr_alloc X.out _) _) R3.out | with_reducible exact nr_below (nr_alloc (nr_alloc (nr_alloc X.out _) _) _) R3.out))
    replace Q := Lib.hid (show NR w3 _ _ _ from (by first | with_reducible exact nr_below Q.out R3.out | with_reducible exact nr_below (nr_alloc Q.out _) R3.out | with_reducible exact nr_below (nr_alloc (nr_alloc Q.out _) _) R3.out | with_reducible exact nr_below (nr_alloc (nr_alloc (nr_alloc Q.out _) _) _) R3.out))
    clear ho3 hsh hn3
    go_wp2_with fail
    refine (tgInts_any A2 A3 m3 c2 m3 c3 vs vs _ (by first | with_reducible exact X.out | with_reducible exact nr_alloc X.out _ | with_reducible exact nr_alloc (nr_alloc X.out _) _ | with_reducible exact nr_alloc (nr_alloc (nr_alloc X.out _) _) _) (by first | with_reducible exact Y.out | with_reducible exact nr_alloc Y.out _ | with_reducible exact nr_alloc (nr_alloc Y.out _) _ | with_reducible exact nr_alloc (nr_alloc (nr_alloc Y.out _) _) _) (by omega) (by omega)).mono ?_
    rintro e w4 ⟨rfl, hb⟩
    obtain ⟨hc4, hf4⟩ := bcell hb
    have B4 := Lib.hid (show Below w.heap.size w w4 from (by first | exact below_seq B3.out hb | exact below_seq1 B3.out hb | exact below_seq2 B3.out hb | exact below_seq3 B3.out hb | exact below_seq4 B3.out hb))
    have R4 := Lib.hid hb
    have hz4 := hb.size
    try simp at hz4
    clear hb
    try have y40 : w.heap.size < w4.heap.size := by omega
    try have y40a : w.heap.size + 1 < w4.heap.size := by omega
    try have y40b : w.heap.size < w4.heap.size + 1 + 1 := by omega
    try have y40c : w.heap.size + 1 < w4.heap.size + 1 + 1 := by omega
    try have y41 : w1.heap.size < w4.heap.size := by omega
    try have y41a : w1.heap.size + 1 < w4.heap.size := by omega
    try have y41b : w1.heap.size < w4.heap.size + 1 + 1 := by omega
    try have y41c : w1.heap.size + 1 < w4.heap.size + 1 + 1 := by omega
    try have y42 : w2.heap.size < w4.heap.size := by omega
    try have y42a : w2.heap.size + 1 < w4.heap.size := by omega
    try have y42b : w2.heap.size < w4.heap.size + 1 + 1 := by omega
    try have y42c : w2.heap.size + 1 < w4.heap.size + 1 + 1 := by omega
    try have y43 : w3.heap.size < w4.heap.size := by omega
    try have y43a : w3.heap.size + 1 < w4.heap.size := by omega
    try have y43b : w3.heap.size < w4.heap.size + 1 + 1 := by omega
    try have y43c : w3.heap.size + 1 < w4.heap.size + 1 + 1 := by omega
    rw [ints_refl]
    replace X := Lib.hid (show NR w4 _ _ _ from (by first | with_reducible exact nr_below X.out R4.out | with_reducible exact nr_below (nr_alloc X.out _) R4.out | with_reducible exact nr_below (nr_alloc (nr_alloc X.out _) _) R4.out | with_reducible exact nr_below (nr_alloc (nr_alloc (nr_alloc X.out _) _) _) R4.out))
    replace Q := Lib.hid (show NR w4 _ _ _ from (by first | with_reducible exact nr_below Q.out R4.out | with_reducible exact nr_below (nr_alloc Q.out _) R4.out | with_reducible exact nr_below (nr_alloc (nr_alloc Q.out _) _) R4.out | with_reducible exact nr_below (nr_alloc (nr_alloc (nr_alloc Q.out _) _) _) R4.out))
    have y41' : w1.heap.size < w4.heap.size := by omega
    have HPOS : Hid (decide (0 < m3) = decide (0 < S)) := Lib.hid (by
      have h1 := over_some HQ.out HSH.out
      rw [← HVS.out, ← HN.out, HS.out] at h1
      rw [Bool.eq_iff_iff, decide_eq_true_eq, decide_eq_true_eq]
      omega)
    obtain ⟨m, hm⟩ : ∃ m, m = m3 := ⟨_, rfl⟩
    subst hm
    go_wp2_with fail
    go_loop [8, 9] (fun s i => ∃ j : Nat, j ≤ 8 ∧ i = .int .i64 (j : Int) ∧ s = .int .i64 (sumL (us.take j))) (fun _ i => 8 - (intOf i).toNat)
    case atStart => exact ⟨0, Nat.zero_le _, rfl, rfl⟩
    case round =>
      obtain ⟨j, hj, rfl, rfl⟩ := hrel
      by_cases hlt : j < 8
      · obtain ⟨b, off, y, rfl, hb, hy, c0⟩ := nr_at Q.out hlt
        have HX := Lib.hid (sumL_take hy)
        obtain ⟨x0, x1⟩ := HB.out y (List.mem_of_getElem? hy)
        obtain ⟨s0, s1⟩ := sumL_take_bd HB.out j (by omega)
        have s2 : sumL (us.take j) ≤ 40000 := by have := HL.out; omega
        clear hy s1
        go_wp2
        go_round
        case rel => exact ⟨j + 1, by omega, by go_num, by rw [HX.out]⟩
        case measure => simp [intOf]; omega
      · obtain rfl : j = 8 := by omega
        have HS8 : Hid (sumL (us.take 8) = S) := Lib.hid (by rw [List.take_of_length_le (by have := HL.out; omega)]; exact HS.out)
        rw [HS8.out]
        go_wp2_with fail
        go_loopw [10] (fun i wr => OsRel w4 A1 A2 m us vs i wr) (fun i _ => m - (intOf i).toNat)
        case atStart => exact ⟨0, by omega, rfl, Q.out, X.out, Below.refl _ _⟩
        case round =>
          obtain ⟨p, hp8, rfl, hp, hx, hbl⟩ := hrel
          have HPQ := Lib.hid hp
          have HPX := Lib.hid hx
          have HBl := Lib.hid hbl
          obtain ⟨hcr, hfr⟩ := bcell hbl
          have hzr := hbl.size
          clear hp hx hbl
          by_cases hpm : p < m
          · obtain ⟨b2, o2, y, rfl, hb2, hy, c02⟩ := nr_at HPX.out hpm
            obtain ⟨q, hq8, rfl, u, x, hu, -, hx0, hxu⟩ := over_pos HQ.out HSH.out (by rw [← HVS.out]; exact List.mem_of_getElem? hy)
            obtain ⟨b1, o1, rfl, c01, -⟩ := nr_at' HPQ.out hu
            have d1 : (u == 0) = false := by simp; omega
            clear hu hx0
            cases p with
            | zero =>
              rw [Nat.add_zero] at c02
              go_wp2_with fail
              go_quiet (fail)
              go_wp2
              go_roundw
              case rel => exact ⟨1, by omega, by go_num, nr_drewN HPQ.out _, nr_drewN HPX.out _, below_drewN HBl.out _⟩
              case measure => simp [intOf]; omega
            | succ p' =>
              obtain ⟨b3, o3, y', h3, hb3, hy', c03⟩ := nr_at HPX.out (show p' < m by omega)
              obtain ⟨rfl, rfl⟩ : b3 = b2 ∧ o3 = o2 := by injection h3 with h3; injection h3 with h3 h4; exact ⟨h3.symm, h4.symm⟩
              have hlt2 : y' < (q : Int) := over_up (k := 8) (j := p') (by rw [← hy', HVS.out]; rfl) (by rw [← hy, HVS.out]; rfl)
              have d2 : decide ((q : Int) ≤ y') = false := by simp; omega
              have d3 : decide ((0 : Int) < ((p' + 1 : Nat) : Int)) = true := by simp
              clear hy hy'
              go_wp2_with fail
              go_quiet (fail)
              go_wp2
              go_roundw
              case rel => exact ⟨p' + 2, by omega, by go_num, nr_drewN HPQ.out _, nr_drewN HPX.out _, below_drewN HBl.out _⟩
              case measure => simp [intOf]; omega
          · obtain rfl : p = m := by omega
            have HBB := Lib.hid (below_seq B4.out HBl.out)
            clear hcr hfr
            go_wp2
            go_ret
            exact ⟨ret_bool (by rw [HPOS.out]; simp), HBB.out⟩
theorem own : ownKnob Try.prog.godebug = none := by kernel_rfl
theorem laidOut : laidOutB Try.prog = true := by kernel_rfl
set_option maxRecDepth 100000 in
theorem lifted (os : Os) (started : os.Started) (H : Type) (enc : TypeId × Value → H) :
    ReturnsInHanded {} Try.checked os 8 .any (Rows.fnOverShareSpec.pre6 enc Try.prog Try.f8 Rows.fnOverShareRow.domain false) (Rows.fnOverShareSpec.post enc Try.prog Try.f8 false true false false) := by
  refine returnsInHanded_of_change (C := Try.checked) own started (by kernel_rfl) Try.func8
    (ChangeSpec.witness6 (enc := enc) (C := Try.checked) false ⟨#[], #[.slice none 0 0], []⟩ 8 (by kernel_rfl) (by kernel_rfl) (by kernel_rfl) (by kernel_rfl)) ?_
  intro W base args ds gs before hval0 hW _ _
  have hval : ∀ (j : Nat) t v, Try.f8.params[j]? = some t → args[j]? = some v → Value.okWide Try.prog W .any base t v := hval0
  have hW' := hW
  obtain ⟨p, q, hA0, hV, rfl, _, _⟩ := hW
  have hA : DataW.TrodAll enc Try.prog W 0 (fun _ => true) true Try.f8.params.toList args.toList ds p := hA0
  rw [Try.params8] at hA hval
  obtain ⟨v0, vs0, d0, ds0, p0, q0, hargs, rfl, rfl, h0, r0⟩ := trodAll_cons hA
  obtain ⟨rfl, rfl, rfl⟩ := trodAll_nil r0
  obtain rfl : args = #[v0] := by cases args; simp_all
  obtain ⟨rfl, rfl⟩ := trodVars_none hV
  have lt0 : ∀ x ∈ p0, x.block < W.heap.size := by obtain ⟨m, hm⟩ := h0; exact DataW.trod_lt m _ _ _ hm
  obtain ⟨a0, n0, c0, rfl⟩ := okWide_slice Try.underlying22 (hval 0 22 v0 rfl rfl)
  have w0 : Bytes W a0 n0 c0 := bytes_open h0
  clear hA0 hval0
  refine (walk a0 n0 c0 W w0).mono fun e W' ⟨he, bel⟩ => ?_
  subst he
  exact ⟨_, rfl, _, _, _, [], _, [], hW', trodAll_mk1 (shut_bool Try.underlying4 _), (trodAll_cons_mk (Below.trod laidOut (by kernel_rfl) (of_decide_eq_true (by kernel_rfl)) h0 bel lt0) trodAll_mk0), rfl, bel.frame _, fun h => by cases h⟩
theorem over : Rows.fnOverShareRow.holds Try.pinned (OpenSpec.ofChange Rows.fnOverShareSpec) :=
  OpenClaim.holds_of_wide 8 Try.f8 rfl rfl rfl rfl rfl rfl rfl ⟨rfl, rfl, rfl, rfl, rfl⟩ rfl rfl rfl rfl rfl (by kernel_rfl) Try.func8 (by kernel_rfl)
    (of_decide_eq_true (by kernel_rfl)) (by unfold Func.isWrapper; first | (rw [if_pos (by decide +kernel)]; kernel_rfl) | (rw [if_neg (by decide +kernel)]; exact ⟨rfl, rfl⟩))
    (fun os started H enc _ => lifted os started H enc)
/-- the given statement -/
theorem proved : Rows.FnOverShareSaid := over
end Go.Proofs.Ytkbjelchihdajaa.fnOverShare
