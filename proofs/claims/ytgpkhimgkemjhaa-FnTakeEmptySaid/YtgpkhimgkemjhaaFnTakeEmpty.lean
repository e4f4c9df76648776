/-
  The law FnTakeEmpty returns true at every argument: 100000 bytes are enough for all. Conditions: none.
-/
import Derived.Test.YtgpkhimgkemjhaaLift
import Derived.Test.YtgpkhimgkemjhaaRDr
import Derived.Test.YtgpkhimgkemjhaaC1
import Derived.Test.YtgpkhimgkemjhaaC1b
import Derived.Test.YtgpkhimgkemjhaaC1c
namespace Go.Proofs.Ytgpkhimgkemjhaa.fnTakeEmpty
open Go.ChangeShapes Go.WideShapes Go.ChangeAt Go.RowKit

set_option maxHeartbeats 4000000 in
theorem walk (A : Option Addr) (n c : Nat) (w : World) (h : Bytes w A n c) :
    Calls Try.prog 11 #[.slice A n c] w fun e w' => e = .returned (.bool true) ∧ Below w.heap.size w w' := by
  have HB := Lib.hid h
  clear h
  by_cases hbig : ¬ n ≤ 1048576
  · go_enter Try.func11, Try.ntmps11
    go_wp2
    go_ret
    exact ⟨rfl, Below.refl _ _⟩
  have hbig' : n ≤ 1048576 := by omega
  clear hbig
  go_enter Try.func11, Try.ntmps11
  go_wp2_with fail
  refine (drawTakeAll_any A n c _ HB.out).mono ?_
  rintro e w1 ⟨x1, A1, n1, c1, fs, rfl, -, hf, hb⟩
  obtain ⟨hc1, hf1⟩ := bcell hb
  have B1 := Lib.hid (show Below w.heap.size w w1 from (by first | exact below_seq (Below.refl w.heap.size w) hb | exact below_seq1 (Below.refl w.heap.size w) hb | exact below_seq2 (Below.refl w.heap.size w) hb | exact below_seq3 (Below.refl w.heap.size w) hb | exact below_seq4 (Below.refl w.heap.size w) hb))
  have R1 := Lib.hid hb
  have hz1 := hb.size
  try simp at hz1
  clear hb
  have H := Lib.hid (frx_fr hf)
  clear hf
  by_cases hv : RV x1 fs
  · have HV := Lib.hid hv
    obtain ⟨ts, hts⟩ : ∃ ts, ts = takeA x1 fs := ⟨_, rfl⟩
    have HT := Lib.hid hts
    have HL : ts.length ≤ 512 := by rw [hts, takeA_len fs hv]; have := total_le hv; have := rv_len hv; omega
    clear hv hts
    go_wp2_with fail
    refine (taI_yes x1 A1 n1 c1 fs _ (by first | with_reducible exact H.out | with_reducible exact fr_allocF H.out _ | with_reducible exact fr_allocF (fr_allocF H.out _) _ | with_reducible exact fr_allocF (fr_allocF (fr_allocF H.out _) _) _) HV.out).mono ?_
    rintro e w2 ⟨A2, n2, c2, rfl, hn2, ho2, hb⟩
    obtain ⟨hc2, hf2⟩ := bcell hb
    have B2 := Lib.hid (show Below w.heap.size w w2 from (by first | exact below_seq B1.out hb | exact below_seq1 B1.out hb | exact below_seq2 B1.out hb | exact below_seq3 B1.out hb | exact below_seq4 B1.out hb))
    have R2 := Lib.hid hb
    have hz2 := hb.size
    try simp at hz2
    clear hb
    try have y20 : w.heap.size < w2.heap.size := by omega
    try have y20a : w.heap.size + 1 < w2.heap.size := by omega
    try have y20b : w.heap.size < w2.heap.size + 1 + 1 := by omega
    try have y20c : w.heap.size + 1 < w2.heap.size + 1 + 1 := by omega
    try have y21 : w1.heap.size < w2.heap.size := by omega
    try have y21a : w1.heap.size + 1 < w2.heap.size := by omega
    try have y21b : w1.heap.size < w2.heap.size + 1 + 1 := by omega
    try have y21c : w1.heap.size + 1 < w2.heap.size + 1 + 1 := by omega
    rw [← HT.out] at hn2 ho2
    have P2 := Lib.hid (pr_own ho2)
    have l2 : n2 ≤ 512 := by omega
    clear ho2 hn2
    replace H := Lib.hid (show FR w2 _ _ _ from (by first | with_reducible exact fr_belowF H.out R2.out | with_reducible exact fr_belowF (fr_allocF H.out _) R2.out | with_reducible exact fr_belowF (fr_allocF (fr_allocF H.out _) _) R2.out | with_reducible exact fr_belowF (fr_allocF (fr_allocF (fr_allocF H.out _) _) _) R2.out))
    go_wp2_with fail
    refine (taS_yes x1 A1 n1 c1 fs _ (by first | with_reducible exact H.out | with_reducible exact fr_allocF H.out _ | with_reducible exact fr_allocF (fr_allocF H.out _) _ | with_reducible exact fr_allocF (fr_allocF (fr_allocF H.out _) _) _) HV.out).mono ?_
    rintro e w3 ⟨A3, n3, c3, rfl, hn3, ho3, hb⟩
    obtain ⟨hc3, hf3⟩ := bcell hb
    have B3 := Lib.hid (show Below w.heap.size w w3 from (by first | exact below_seq B2.out hb | exact below_seq1 B2.out hb | exact below_seq2 B2.out hb | exact below_seq3 B2.out hb | exact below_seq4 B2.out hb))
    have R3 := Lib.hid hb
    have hz3 := hb.size
    try simp at hz3
    clear hb
    try have y30 : w.heap.size < w3.heap.size := by omega
    try have y30a : w.heap.size + 1 < w3.heap.size := by omega
    try have y30b : w.heap.size < w3.heap.size + 1 + 1 := by omega
    try have y30c : w.heap.size + 1 < w3.heap.size + 1 + 1 := by omega
    try have y31 : w1.heap.size < w3.heap.size := by omega
    try have y31a : w1.heap.size + 1 < w3.heap.size := by omega
    try have y31b : w1.heap.size < w3.heap.size + 1 + 1 := by omega
    try have y31c : w1.heap.size + 1 < w3.heap.size + 1 + 1 := by omega
    try have y32 : w2.heap.size < w3.heap.size := by omega
    try have y32a : w2.heap.size + 1 < w3.heap.size := by omega
    try have y32b : w2.heap.size < w3.heap.size + 1 + 1 := by omega
    try have y32c : w2.heap.size + 1 < w3.heap.size + 1 + 1 := by omega
    rw [← HT.out] at hn3 ho3
    have P3 := Lib.hid (pr_own ho3)
    have l3 : n3 ≤ 512 := by omega
    clear ho3 hn3
    replace H := Lib.hid (show FR w3 _ _ _ from (by first | with_reducible exact fr_belowF H.out R3.out | with_reducible exact fr_belowF (fr_allocF H.out _) R3.out | with_reducible exact fr_belowF (fr_allocF (fr_allocF H.out _) _) R3.out | with_reducible exact fr_belowF (fr_allocF (fr_allocF (fr_allocF H.out _) _) _) R3.out))
    replace P2 := Lib.hid (show PR w3 _ _ _ from (by first | with_reducible exact pr_below P2.out R3.out | with_reducible exact pr_below (pr_alloc P2.out _) R3.out | with_reducible exact pr_below (pr_alloc (pr_alloc P2.out _) _) R3.out | with_reducible exact pr_below (pr_alloc (pr_alloc (pr_alloc P2.out _) _) _) R3.out))
    go_wp2_with fail
    refine (sameI_any A2 A3 n2 c2 n3 c3 ts ts _ (by first | with_reducible exact P2.out | with_reducible exact pr_alloc P2.out _ | with_reducible exact pr_alloc (pr_alloc P2.out _) _ | with_reducible exact pr_alloc (pr_alloc (pr_alloc P2.out _) _) _) (by first | with_reducible exact P3.out | with_reducible exact pr_alloc P3.out _ | with_reducible exact pr_alloc (pr_alloc P3.out _) _ | with_reducible exact pr_alloc (pr_alloc (pr_alloc P3.out _) _) _) (by omega) (by omega)).mono ?_
    rintro e w4 ⟨rfl, hb⟩
    obtain ⟨hc4, hf4⟩ := bcell hb
    have B4 := Lib.hid (show Below w.heap.size w w4 from (by first | exact below_seq B3.out hb | exact below_seq1 B3.out hb | exact below_seq2 B3.out hb | exact below_seq3 B3.out hb | exact below_seq4 B3.out hb))
    have R4 := Lib.hid hb
    have hz4 := hb.size
    try simp at hz4
    clear hb
    try have y40 : w.heap.size < w4.heap.size := by omega
    try have y40a : w.heap.size + 1 < w4.heap.size := by omega
    try have y40b : w.heap.size < w4.heap.size + 1 + 1 := by omega
    try have y40c : w.heap.size + 1 < w4.heap.size + 1 + 1 := by omega
    try have y41 : w1.heap.size < w4.heap.size := by omega
    try have y41a : w1.heap.size + 1 < w4.heap.size := by omega
    try have y41b : w1.heap.size < w4.heap.size + 1 + 1 := by omega
    try have y41c : w1.heap.size + 1 < w4.heap.size + 1 + 1 := by omega
    try have y42 : w2.heap.size < w4.heap.size := by omega
    try have y42a : w2.heap.size + 1 < w4.heap.size := by omega
    try have y42b : w2.heap.size < w4.heap.size + 1 + 1 := by omega
    try have y42c : w2.heap.size + 1 < w4.heap.size + 1 + 1 := by omega
    try have y43 : w3.heap.size < w4.heap.size := by omega
    try have y43a : w3.heap.size + 1 < w4.heap.size := by omega
    try have y43b : w3.heap.size < w4.heap.size + 1 + 1 := by omega
    try have y43c : w3.heap.size + 1 < w4.heap.size + 1 + 1 := by omega
    rw [← same_yes rfl]
    replace H := Lib.hid (show FR w4 _ _ _ from (by first | with_reducible exact fr_belowF H.out R4.out | with_reducible exact fr_belowF (fr_allocF H.out _) R4.out | with_reducible exact fr_belowF (fr_allocF (fr_allocF H.out _) _) R4.out | with_reducible exact fr_belowF (fr_allocF (fr_allocF (fr_allocF H.out _) _) _) R4.out))
    replace P2 := Lib.hid (show PR w4 _ _ _ from (by first | with_reducible exact pr_below P2.out R4.out | with_reducible exact pr_below (pr_alloc P2.out _) R4.out | with_reducible exact pr_below (pr_alloc (pr_alloc P2.out _) _) R4.out | with_reducible exact pr_below (pr_alloc (pr_alloc (pr_alloc P2.out _) _) _) R4.out))
    have TB : Hid (takeB x1 100000 fs = ([], ts)) := Lib.hid (by rw [HT.out]; exact takeB_all fs HV.out 100000 (by have h1 := takeA_sum fs HV.out; have h2 := takeA_len fs HV.out; have h3 := HL; rw [HT.out] at h3; omega))
    go_wp2_with fail
    refine (tbI_yes x1 A1 n1 c1 fs 100000 _ (by first | with_reducible exact H.out | with_reducible exact fr_allocF H.out _ | with_reducible exact fr_allocF (fr_allocF H.out _) _ | with_reducible exact fr_allocF (fr_allocF (fr_allocF H.out _) _) _) HV.out (by omega) (by omega)).mono ?_
    rintro e w5 ⟨A5, n5, c5, hs5, D5, m5, d5, lo5, rfl, hD5, -, hm5, ho5, -, hb⟩
    obtain ⟨hc5, hf5⟩ := bcell hb
    have B5 := Lib.hid (show Below w.heap.size w w5 from (by first | exact below_seq B4.out hb | exact below_seq1 B4.out hb | exact below_seq2 B4.out hb | exact below_seq3 B4.out hb | exact below_seq4 B4.out hb))
    have R5 := Lib.hid hb
    have hz5 := hb.size
    try simp at hz5
    clear hb
    try have y50 : w.heap.size < w5.heap.size := by omega
    try have y50a : w.heap.size + 1 < w5.heap.size := by omega
    try have y50b : w.heap.size < w5.heap.size + 1 + 1 := by omega
    try have y50c : w.heap.size + 1 < w5.heap.size + 1 + 1 := by omega
    try have y51 : w1.heap.size < w5.heap.size := by omega
    try have y51a : w1.heap.size + 1 < w5.heap.size := by omega
    try have y51b : w1.heap.size < w5.heap.size + 1 + 1 := by omega
    try have y51c : w1.heap.size + 1 < w5.heap.size + 1 + 1 := by omega
    try have y52 : w2.heap.size < w5.heap.size := by omega
    try have y52a : w2.heap.size + 1 < w5.heap.size := by omega
    try have y52b : w2.heap.size < w5.heap.size + 1 + 1 := by omega
    try have y52c : w2.heap.size + 1 < w5.heap.size + 1 + 1 := by omega
    try have y53 : w3.heap.size < w5.heap.size := by omega
    try have y53a : w3.heap.size + 1 < w5.heap.size := by omega
    try have y53b : w3.heap.size < w5.heap.size + 1 + 1 := by omega
    try have y53c : w3.heap.size + 1 < w5.heap.size + 1 + 1 := by omega
    try have y54 : w4.heap.size < w5.heap.size := by omega
    try have y54a : w4.heap.size + 1 < w5.heap.size := by omega
    try have y54b : w4.heap.size < w5.heap.size + 1 + 1 := by omega
    try have y54c : w4.heap.size + 1 < w5.heap.size + 1 + 1 := by omega
    rw [TB.out] at hD5 hm5 ho5
    obtain rfl : n5 = 0 := (do_cap hD5).1.symm
    have P5 := Lib.hid (pr_own ho5)
    have l5 : m5 ≤ 512 := by simp only at hm5; omega
    clear hD5 hm5 ho5
    replace P2 := Lib.hid (show PR w5 _ _ _ from (by first | with_reducible exact pr_below P2.out R5.out | with_reducible exact pr_below (pr_alloc P2.out _) R5.out | with_reducible exact pr_below (pr_alloc (pr_alloc P2.out _) _) R5.out | with_reducible exact pr_below (pr_alloc (pr_alloc (pr_alloc P2.out _) _) _) R5.out))
    go_wp2_with fail
    refine (sameI_any D5 A2 m5 d5 n2 c2 ts ts _ (by first | with_reducible exact P5.out | with_reducible exact pr_alloc P5.out _ | with_reducible exact pr_alloc (pr_alloc P5.out _) _ | with_reducible exact pr_alloc (pr_alloc (pr_alloc P5.out _) _) _) (by first | with_reducible exact P2.out | with_reducible exact pr_alloc P2.out _ | with_reducible exact pr_alloc (pr_alloc P2.out _) _ | with_reducible exact pr_alloc (pr_alloc (pr_alloc P2.out _) _) _) (by omega) (by omega)).mono ?_
    rintro e w6 ⟨rfl, hb⟩
    obtain ⟨hc6, hf6⟩ := bcell hb
    have B6 := Lib.hid (show Below w.heap.size w w6 from (by first | exact below_seq B5.out hb | exact below_seq1 B5.out hb | exact below_seq2 B5.out hb | exact below_seq3 B5.out hb | exact below_seq4 B5.out hb))
    have R6 := Lib.hid hb
    have hz6 := hb.size
    try simp at hz6
    clear hb
    try have y60 : w.heap.size < w6.heap.size := by omega
    try have y60a : w.heap.size + 1 < w6.heap.size := by omega
    try have y60b : w.heap.size < w6.heap.size + 1 + 1 := by omega
    try have y60c : w.heap.size + 1 < w6.heap.size + 1 + 1 := by omega
    try have y61 : w1.heap.size < w6.heap.size := by omega
    try have y61a : w1.heap.size + 1 < w6.heap.size := by omega
    try have y61b : w1.heap.size < w6.heap.size + 1 + 1 := by omega
    try have y61c : w1.heap.size + 1 < w6.heap.size + 1 + 1 := by omega
    try have y62 : w2.heap.size < w6.heap.size := by omega
    try have y62a : w2.heap.size + 1 < w6.heap.size := by omega
    try have y62b : w2.heap.size < w6.heap.size + 1 + 1 := by omega
    try have y62c : w2.heap.size + 1 < w6.heap.size + 1 + 1 := by omega
    try have y63 : w3.heap.size < w6.heap.size := by omega
    try have y63a : w3.heap.size + 1 < w6.heap.size := by omega
    try have y63b : w3.heap.size < w6.heap.size + 1 + 1 := by omega
    try have y63c : w3.heap.size + 1 < w6.heap.size + 1 + 1 := by omega
    try have y64 : w4.heap.size < w6.heap.size := by omega
    try have y64a : w4.heap.size + 1 < w6.heap.size := by omega
    try have y64b : w4.heap.size < w6.heap.size + 1 + 1 := by omega
    try have y64c : w4.heap.size + 1 < w6.heap.size + 1 + 1 := by omega
    try have y65 : w5.heap.size < w6.heap.size := by omega
    try have y65a : w5.heap.size + 1 < w6.heap.size := by omega
    try have y65b : w5.heap.size < w6.heap.size + 1 + 1 := by omega
    try have y65c : w5.heap.size + 1 < w6.heap.size + 1 + 1 := by omega
    rw [← same_yes rfl]
    go_wp2
    all_goals
      go_ret
      refine ⟨rfl, ?_⟩
      repeat refine below_alloc ?_ _
      exact B6.out
  · have HV := Lib.hid hv
    clear hv
    go_wp2_with fail
    refine (taI_no x1 A1 n1 c1 fs _ (by first | with_reducible exact H.out | with_reducible exact fr_allocF H.out _ | with_reducible exact fr_allocF (fr_allocF H.out _) _ | with_reducible exact fr_allocF (fr_allocF (fr_allocF H.out _) _) _) HV.out).mono ?_
    rintro e w2 ⟨A2, c2, rfl, ho2, hb⟩
    obtain ⟨hc2, hf2⟩ := bcell hb
    have B2 := Lib.hid (show Below w.heap.size w w2 from (by first | exact below_seq B1.out hb | exact below_seq1 B1.out hb | exact below_seq2 B1.out hb | exact below_seq3 B1.out hb | exact below_seq4 B1.out hb))
    have R2 := Lib.hid hb
    have hz2 := hb.size
    try simp at hz2
    clear hb
    try have y20 : w.heap.size < w2.heap.size := by omega
    try have y20a : w.heap.size + 1 < w2.heap.size := by omega
    try have y20b : w.heap.size < w2.heap.size + 1 + 1 := by omega
    try have y20c : w.heap.size + 1 < w2.heap.size + 1 + 1 := by omega
    try have y21 : w1.heap.size < w2.heap.size := by omega
    try have y21a : w1.heap.size + 1 < w2.heap.size := by omega
    try have y21b : w1.heap.size < w2.heap.size + 1 + 1 := by omega
    try have y21c : w1.heap.size + 1 < w2.heap.size + 1 + 1 := by omega
    have P2 := Lib.hid (pr_own ho2)
    clear ho2
    replace H := Lib.hid (show FR w2 _ _ _ from (by first | with_reducible exact fr_belowF H.out R2.out | with_reducible exact fr_belowF (fr_allocF H.out _) R2.out | with_reducible exact fr_belowF (fr_allocF (fr_allocF H.out _) _) R2.out | with_reducible exact fr_belowF (fr_allocF (fr_allocF (fr_allocF H.out _) _) _) R2.out))
    go_wp2_with fail
    refine (taS_no x1 A1 n1 c1 fs _ (by first | with_reducible exact H.out | with_reducible exact fr_allocF H.out _ | with_reducible exact fr_allocF (fr_allocF H.out _) _ | with_reducible exact fr_allocF (fr_allocF (fr_allocF H.out _) _) _) HV.out).mono ?_
    rintro e w3 ⟨A3, c3, rfl, ho3, hb⟩
    obtain ⟨hc3, hf3⟩ := bcell hb
    have B3 := Lib.hid (show Below w.heap.size w w3 from (by first | exact below_seq B2.out hb | exact below_seq1 B2.out hb | exact below_seq2 B2.out hb | exact below_seq3 B2.out hb | exact below_seq4 B2.out hb))
    have R3 := Lib.hid hb
    have hz3 := hb.size
    try simp at hz3
    clear hb
    try have y30 : w.heap.size < w3.heap.size := by omega
    try have y30a : w.heap.size + 1 < w3.heap.size := by omega
    try have y30b : w.heap.size < w3.heap.size + 1 + 1 := by omega
    try have y30c : w.heap.size + 1 < w3.heap.size + 1 + 1 := by omega
    try have y31 : w1.heap.size < w3.heap.size := by omega
    try have y31a : w1.heap.size + 1 < w3.heap.size := by omega
    try have y31b : w1.heap.size < w3.heap.size + 1 + 1 := by omega
    try have y31c : w1.heap.size + 1 < w3.heap.size + 1 + 1 := by omega
    try have y32 : w2.heap.size < w3.heap.size := by omega
    try have y32a : w2.heap.size + 1 < w3.heap.size := by omega
    try have y32b : w2.heap.size < w3.heap.size + 1 + 1 := by omega
    try have y32c : w2.heap.size + 1 < w3.heap.size + 1 + 1 := by omega
    have P3 := Lib.hid (pr_own ho3)
    clear ho3
    replace P2 := Lib.hid (show PR w3 _ _ _ from (by first | with_reducible exact pr_below P2.out R3.out | with_reducible exact pr_below (pr_alloc P2.out _) R3.out | with_reducible exact pr_below (pr_alloc (pr_alloc P2.out _) _) R3.out | with_reducible exact pr_below (pr_alloc (pr_alloc (pr_alloc P2.out _) _) _) R3.out))
    go_wp2_with fail
    refine (sameI_any A2 A3 0 c2 0 c3 [] [] _ (by first | with_reducible exact P2.out | with_reducible exact pr_alloc P2.out _ | with_reducible exact pr_alloc (pr_alloc P2.out _) _ | with_reducible exact pr_alloc (pr_alloc (pr_alloc P2.out _) _) _) (by first | with_reducible exact P3.out | with_reducible exact pr_alloc P3.out _ | with_reducible exact pr_alloc (pr_alloc P3.out _) _ | with_reducible exact pr_alloc (pr_alloc (pr_alloc P3.out _) _) _) (by omega) (by omega)).mono ?_
    rintro e w4 ⟨rfl, hb⟩
    obtain ⟨hc4, hf4⟩ := bcell hb
    have B4 := Lib.hid (show Below w.heap.size w w4 from (by first | exact below_seq B3.out hb | exact below_seq1 B3.out hb | exact below_seq2 B3.out hb | exact below_seq3 B3.out hb | exact below_seq4 B3.out hb))
    have R4 := Lib.hid hb
    have hz4 := hb.size
    try simp at hz4
    clear hb
    try have y40 : w.heap.size < w4.heap.size := by omega
    try have y40a : w.heap.size + 1 < w4.heap.size := by omega
    try have y40b : w.heap.size < w4.heap.size + 1 + 1 := by omega
    try have y40c : w.heap.size + 1 < w4.heap.size + 1 + 1 := by omega
    try have y41 : w1.heap.size < w4.heap.size := by omega
    try have y41a : w1.heap.size + 1 < w4.heap.size := by omega
    try have y41b : w1.heap.size < w4.heap.size + 1 + 1 := by omega
    try have y41c : w1.heap.size + 1 < w4.heap.size + 1 + 1 := by omega
    try have y42 : w2.heap.size < w4.heap.size := by omega
    try have y42a : w2.heap.size + 1 < w4.heap.size := by omega
    try have y42b : w2.heap.size < w4.heap.size + 1 + 1 := by omega
    try have y42c : w2.heap.size + 1 < w4.heap.size + 1 + 1 := by omega
    try have y43 : w3.heap.size < w4.heap.size := by omega
    try have y43a : w3.heap.size + 1 < w4.heap.size := by omega
    try have y43b : w3.heap.size < w4.heap.size + 1 + 1 := by omega
    try have y43c : w3.heap.size + 1 < w4.heap.size + 1 + 1 := by omega
    rw [← same_yes rfl]
    replace P2 := Lib.hid (show PR w4 _ _ _ from (by first | with_reducible exact pr_below P2.out R4.out | with_reducible exact pr_below (pr_alloc P2.out _) R4.out | with_reducible exact pr_below (pr_alloc (pr_alloc P2.out _) _) R4.out | with_reducible exact pr_below (pr_alloc (pr_alloc (pr_alloc P2.out _) _) _) R4.out))
    replace P3 := Lib.hid (show PR w4 _ _ _ from (by first | with_reducible exact pr_below P3.out R4.out | with_reducible exact pr_below (pr_alloc P3.out _) R4.out | with_reducible exact pr_below (pr_alloc (pr_alloc P3.out _) _) R4.out | with_reducible exact pr_below (pr_alloc (pr_alloc (pr_alloc P3.out _) _) _) R4.out))
    go_wp2_with fail
    refine (sameI_any A2 A3 0 c2 0 c3 [] [] _ (by first | with_reducible exact P2.out | with_reducible exact pr_alloc P2.out _ | with_reducible exact pr_alloc (pr_alloc P2.out _) _ | with_reducible exact pr_alloc (pr_alloc (pr_alloc P2.out _) _) _) (by first | with_reducible exact P3.out | with_reducible exact pr_alloc P3.out _ | with_reducible exact pr_alloc (pr_alloc P3.out _) _ | with_reducible exact pr_alloc (pr_alloc (pr_alloc P3.out _) _) _) (by omega) (by omega)).mono ?_
    rintro e w5 ⟨rfl, hb⟩
    obtain ⟨hc5, hf5⟩ := bcell hb
    have B5 := Lib.hid (show Below w.heap.size w w5 from (by first | exact below_seq B4.out hb | exact below_seq1 B4.out hb | exact below_seq2 B4.out hb | exact below_seq3 B4.out hb | exact below_seq4 B4.out hb))
    have R5 := Lib.hid hb
    have hz5 := hb.size
    try simp at hz5
    clear hb
    try have y50 : w.heap.size < w5.heap.size := by omega
    try have y50a : w.heap.size + 1 < w5.heap.size := by omega
    try have y50b : w.heap.size < w5.heap.size + 1 + 1 := by omega
    try have y50c : w.heap.size + 1 < w5.heap.size + 1 + 1 := by omega
    try have y51 : w1.heap.size < w5.heap.size := by omega
    try have y51a : w1.heap.size + 1 < w5.heap.size := by omega
    try have y51b : w1.heap.size < w5.heap.size + 1 + 1 := by omega
    try have y51c : w1.heap.size + 1 < w5.heap.size + 1 + 1 := by omega
    try have y52 : w2.heap.size < w5.heap.size := by omega
    try have y52a : w2.heap.size + 1 < w5.heap.size := by omega
    try have y52b : w2.heap.size < w5.heap.size + 1 + 1 := by omega
    try have y52c : w2.heap.size + 1 < w5.heap.size + 1 + 1 := by omega
    try have y53 : w3.heap.size < w5.heap.size := by omega
    try have y53a : w3.heap.size + 1 < w5.heap.size := by omega
    try have y53b : w3.heap.size < w5.heap.size + 1 + 1 := by omega
    try have y53c : w3.heap.size + 1 < w5.heap.size + 1 + 1 := by omega
    try have y54 : w4.heap.size < w5.heap.size := by omega
    try have y54a : w4.heap.size + 1 < w5.heap.size := by omega
    try have y54b : w4.heap.size < w5.heap.size + 1 + 1 := by omega
    try have y54c : w4.heap.size + 1 < w5.heap.size + 1 + 1 := by omega
    rw [← same_yes rfl]
    go_wp2
    all_goals
      go_ret
      refine ⟨rfl, ?_⟩
      repeat refine below_alloc ?_ _
      exact B5.out
theorem own : ownKnob Try.prog.godebug = none := by kernel_rfl
theorem laidOut : laidOutB Try.prog = true := by kernel_rfl
set_option maxRecDepth 100000 in
theorem lifted (os : Os) (started : os.Started) (H : Type) (enc : TypeId × Value → H) :
    ReturnsInHanded {} Try.checked os 11 .any (Rows.fnTakeEmptySpec.pre6 enc Try.prog Try.f11 Rows.fnTakeEmptyRow.domain false) (Rows.fnTakeEmptySpec.post enc Try.prog Try.f11 false true false false) := by
  refine returnsInHanded_of_change (C := Try.checked) own started (by kernel_rfl) Try.func11
    (ChangeSpec.witness6 (enc := enc) (C := Try.checked) false ⟨#[], #[.slice none 0 0], []⟩ 8 (by kernel_rfl) (by kernel_rfl) (by kernel_rfl) (by kernel_rfl)) ?_
  intro W base args ds gs before hval0 hW _ _
  have hval : ∀ (j : Nat) t v, Try.f11.params[j]? = some t → args[j]? = some v → Value.okWide Try.prog W .any base t v := hval0
  have hW' := hW
  obtain ⟨p, q, hA0, hV, rfl, _, _⟩ := hW
  have hA : DataW.TrodAll enc Try.prog W 0 (fun _ => true) true Try.f11.params.toList args.toList ds p := hA0
  rw [Try.params11] at hA hval
  obtain ⟨v0, vs0, d0, ds0, p0, q0, hargs, rfl, rfl, h0, r0⟩ := trodAll_cons hA
  obtain ⟨rfl, rfl, rfl⟩ := trodAll_nil r0
  obtain rfl : args = #[v0] := by cases args; simp_all
  obtain ⟨rfl, rfl⟩ := trodVars_none hV
  have lt0 : ∀ x ∈ p0, x.block < W.heap.size := by obtain ⟨m, hm⟩ := h0; exact DataW.trod_lt m _ _ _ hm
  obtain ⟨a0, n0, c0, rfl⟩ := okWide_slice Try.underlying22 (hval 0 22 v0 rfl rfl)
  have w0 : Bytes W a0 n0 c0 := bytes_open h0
  clear hA0 hval0
  refine (walk a0 n0 c0 W w0).mono fun e W' ⟨he, bel⟩ => ?_
  subst he
  exact ⟨_, rfl, _, _, _, [], _, [], hW', trodAll_mk1 (shut_bool Try.underlying4 _), (trodAll_cons_mk (Below.trod laidOut (by kernel_rfl) (of_decide_eq_true (by kernel_rfl)) h0 bel lt0) trodAll_mk0), rfl, bel.frame _, fun h => by cases h⟩
theorem over : Rows.fnTakeEmptyRow.holds Try.pinned (OpenSpec.ofChange Rows.fnTakeEmptySpec) :=
  OpenClaim.holds_of_wide 11 Try.f11 rfl rfl rfl rfl rfl rfl rfl ⟨rfl, rfl, rfl, rfl, rfl⟩ rfl rfl rfl rfl rfl (by kernel_rfl) Try.func11 (by kernel_rfl)
    (of_decide_eq_true (by kernel_rfl)) (by unfold Func.isWrapper; first | (rw [if_pos (by decide +kernel)]; kernel_rfl) | (rw [if_neg (by decide +kernel)]; exact ⟨rfl, rfl⟩))
    (fun os started H enc _ => lifted os started H enc)
/-- the given statement -/
theorem proved : Rows.FnTakeEmptySaid := over
end Go.Proofs.Ytgpkhimgkemjhaa.fnTakeEmpty
