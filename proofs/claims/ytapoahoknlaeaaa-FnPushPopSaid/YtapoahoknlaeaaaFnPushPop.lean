/-
  The law FnPushPop returns true at every argument: a packet that is pushed into an empty queue comes out of it. Conditions: none.
-/
import Derived.Test.YtapoahoknlaeaaaQL
import Derived.Test.YtapoahoknlaeaaaQ3S
import Derived.Test.YtapoahoknlaeaaaQ4
namespace Go.Proofs.Ytapoahoknlaeaaa.fnPushPop
open Go.ChangeShapes Go.WideShapes Go.ChangeAt Go.RowKit

set_option maxHeartbeats 2000000 in
theorem walk (A : Option Addr) (n c : Nat) (w : World) (h : Bytes w A n c) :
    Calls Try.prog 11 #[.slice A n c] w fun e w' => e = .returned (.bool true) ∧ Below w.heap.size w w' := by
  have HB := Lib.hid h
  clear h
  by_cases hbig : ¬ n ≤ 1048576
  · go_enter Try.func11, Try.ntmps11
    go_wp2
    go_ret
    exact ⟨rfl, Below.refl _ _⟩
  have hbig' : n ≤ 1048576 := by omega
  clear hbig
  go_enter Try.func11, Try.ntmps11
  go_wp2_with fail
  refine (drawPushBack_any A n c _ HB.out).mono ?_
  rintro e w1 ⟨lim, A1, n1, c1, ps, p, rfl, hn1, ho, hb⟩
  obtain ⟨hc1, hf1⟩ := bcell hb
  have B1 := Lib.hid (show Below w.heap.size w w1 from (by first | exact below_seq (Below.refl w.heap.size w) hb | exact below_seq1 (Below.refl w.heap.size w) hb | exact below_seq2 (Below.refl w.heap.size w) hb | exact below_seq3 (Below.refl w.heap.size w) hb | exact below_seq4 (Below.refl w.heap.size w) hb))
  have R1 := Lib.hid hb
  have hz1 := hb.size
  try simp at hz1
  clear hb
  have Q := Lib.hid (pr_own ho)
  clear ho
  rcases hk : pushOk lim ps p with _ | _
  · have HK := Lib.hid hk
    clear hk
    go_wp2_with fail
    refine (pushI_no lim A1 n1 c1 ps p _ (by first | with_reducible exact Q.out | with_reducible exact pr_alloc Q.out _ | with_reducible exact pr_alloc (pr_alloc Q.out _) _ | with_reducible exact pr_alloc (pr_alloc (pr_alloc Q.out _) _) _) (by omega) HK.out).mono ?_
    rintro e w2 ⟨A2, n2, c2, rfl, hn2, ho2, hb⟩
    obtain ⟨hc2, hf2⟩ := bcell hb
    have B2 := Lib.hid (show Below w.heap.size w w2 from (by first | exact below_seq B1.out hb | exact below_seq1 B1.out hb | exact below_seq2 B1.out hb | exact below_seq3 B1.out hb | exact below_seq4 B1.out hb))
    have R2 := Lib.hid hb
    have hz2 := hb.size
    try simp at hz2
    clear hb
    try have y20 : w.heap.size < w2.heap.size := by omega
    try have y20a : w.heap.size + 1 < w2.heap.size := by omega
    try have y20b : w.heap.size < w2.heap.size + 1 + 1 := by omega
    try have y20c : w.heap.size + 1 < w2.heap.size + 1 + 1 := by omega
    try have y21 : w1.heap.size < w2.heap.size := by omega
    try have y21a : w1.heap.size + 1 < w2.heap.size := by omega
    try have y21b : w1.heap.size < w2.heap.size + 1 + 1 := by omega
    try have y21c : w1.heap.size + 1 < w2.heap.size + 1 + 1 := by omega
    obtain rfl : n2 = 0 := hn2
    have X := Lib.hid (pr_own ho2)
    clear ho2
    replace Q := Lib.hid (show PR w2 _ _ _ from (by first | with_reducible exact pr_below Q.out R2.out | with_reducible exact pr_below (pr_alloc Q.out _) R2.out | with_reducible exact pr_below (pr_alloc (pr_alloc Q.out _) _) R2.out | with_reducible exact pr_below (pr_alloc (pr_alloc (pr_alloc Q.out _) _) _) R2.out))
    go_wp2_with fail
    refine (pushS_no lim A1 n1 c1 ps p _ (by first | with_reducible exact Q.out | with_reducible exact pr_alloc Q.out _ | with_reducible exact pr_alloc (pr_alloc Q.out _) _ | with_reducible exact pr_alloc (pr_alloc (pr_alloc Q.out _) _) _) (by omega) HK.out).mono ?_
    rintro e w3 ⟨A3, n3, c3, rfl, hn3, ho3, hb⟩
    obtain ⟨hc3, hf3⟩ := bcell hb
    have B3 := Lib.hid (show Below w.heap.size w w3 from (by first | exact below_seq B2.out hb | exact below_seq1 B2.out hb | exact below_seq2 B2.out hb | exact below_seq3 B2.out hb | exact below_seq4 B2.out hb))
    have R3 := Lib.hid hb
    have hz3 := hb.size
    try simp at hz3
    clear hb
    try have y30 : w.heap.size < w3.heap.size := by omega
    try have y30a : w.heap.size + 1 < w3.heap.size := by omega
    try have y30b : w.heap.size < w3.heap.size + 1 + 1 := by omega
    try have y30c : w.heap.size + 1 < w3.heap.size + 1 + 1 := by omega
    try have y31 : w1.heap.size < w3.heap.size := by omega
    try have y31a : w1.heap.size + 1 < w3.heap.size := by omega
    try have y31b : w1.heap.size < w3.heap.size + 1 + 1 := by omega
    try have y31c : w1.heap.size + 1 < w3.heap.size + 1 + 1 := by omega
    try have y32 : w2.heap.size < w3.heap.size := by omega
    try have y32a : w2.heap.size + 1 < w3.heap.size := by omega
    try have y32b : w2.heap.size < w3.heap.size + 1 + 1 := by omega
    try have y32c : w2.heap.size + 1 < w3.heap.size + 1 + 1 := by omega
    obtain rfl : n3 = 0 := hn3
    have Y := Lib.hid (pr_own ho3)
    replace X := Lib.hid (show PR w3 _ _ _ from (by first | with_reducible exact pr_below X.out R3.out | with_reducible exact pr_below (pr_alloc X.out _) R3.out | with_reducible exact pr_below (pr_alloc (pr_alloc X.out _) _) R3.out | with_reducible exact pr_below (pr_alloc (pr_alloc (pr_alloc X.out _) _) _) R3.out))
    clear ho3
    go_wp2_with fail
    refine (sameQI_any 0 0 A2 A3 0 c2 0 c3 [] [] _ (by first | with_reducible exact X.out | with_reducible exact pr_alloc X.out _ | with_reducible exact pr_alloc (pr_alloc X.out _) _ | with_reducible exact pr_alloc (pr_alloc (pr_alloc X.out _) _) _) (by first | with_reducible exact Y.out | with_reducible exact pr_alloc Y.out _ | with_reducible exact pr_alloc (pr_alloc Y.out _) _ | with_reducible exact pr_alloc (pr_alloc (pr_alloc Y.out _) _) _) (by omega) (by omega)).mono ?_
    rintro e w4 ⟨rfl, hb⟩
    obtain ⟨hc4, hf4⟩ := bcell hb
    have B4 := Lib.hid (show Below w.heap.size w w4 from (by first | exact below_seq B3.out hb | exact below_seq1 B3.out hb | exact below_seq2 B3.out hb | exact below_seq3 B3.out hb | exact below_seq4 B3.out hb))
    have R4 := Lib.hid hb
    have hz4 := hb.size
    try simp at hz4
    clear hb
    try have y40 : w.heap.size < w4.heap.size := by omega
    try have y40a : w.heap.size + 1 < w4.heap.size := by omega
    try have y40b : w.heap.size < w4.heap.size + 1 + 1 := by omega
    try have y40c : w.heap.size + 1 < w4.heap.size + 1 + 1 := by omega
    try have y41 : w1.heap.size < w4.heap.size := by omega
    try have y41a : w1.heap.size + 1 < w4.heap.size := by omega
    try have y41b : w1.heap.size < w4.heap.size + 1 + 1 := by omega
    try have y41c : w1.heap.size + 1 < w4.heap.size + 1 + 1 := by omega
    try have y42 : w2.heap.size < w4.heap.size := by omega
    try have y42a : w2.heap.size + 1 < w4.heap.size := by omega
    try have y42b : w2.heap.size < w4.heap.size + 1 + 1 := by omega
    try have y42c : w2.heap.size + 1 < w4.heap.size + 1 + 1 := by omega
    try have y43 : w3.heap.size < w4.heap.size := by omega
    try have y43a : w3.heap.size + 1 < w4.heap.size := by omega
    try have y43b : w3.heap.size < w4.heap.size + 1 + 1 := by omega
    try have y43c : w3.heap.size + 1 < w4.heap.size + 1 + 1 := by omega
    rw [qs_refl]
    replace X := Lib.hid (show PR w4 _ _ _ from (by first | with_reducible exact pr_below X.out R4.out | with_reducible exact pr_below (pr_alloc X.out _) R4.out | with_reducible exact pr_below (pr_alloc (pr_alloc X.out _) _) R4.out | with_reducible exact pr_below (pr_alloc (pr_alloc (pr_alloc X.out _) _) _) R4.out))
    replace Y := Lib.hid (show PR w4 _ _ _ from (by first | with_reducible exact pr_below Y.out R4.out | with_reducible exact pr_below (pr_alloc Y.out _) R4.out | with_reducible exact pr_below (pr_alloc (pr_alloc Y.out _) _) R4.out | with_reducible exact pr_below (pr_alloc (pr_alloc (pr_alloc Y.out _) _) _) R4.out))
    go_wp2_with fail
    refine (sameQI_any 0 0 A2 A3 0 c2 0 c3 [] [] _ (by first | with_reducible exact X.out | with_reducible exact pr_alloc X.out _ | with_reducible exact pr_alloc (pr_alloc X.out _) _ | with_reducible exact pr_alloc (pr_alloc (pr_alloc X.out _) _) _) (by first | with_reducible exact Y.out | with_reducible exact pr_alloc Y.out _ | with_reducible exact pr_alloc (pr_alloc Y.out _) _ | with_reducible exact pr_alloc (pr_alloc (pr_alloc Y.out _) _) _) (by omega) (by omega)).mono ?_
    rintro e w5 ⟨rfl, hb⟩
    obtain ⟨hc5, hf5⟩ := bcell hb
    have B5 := Lib.hid (show Below w.heap.size w w5 from (by first | exact below_seq B4.out hb | exact below_seq1 B4.out hb | exact below_seq2 B4.out hb | exact below_seq3 B4.out hb | exact below_seq4 B4.out hb))
    have R5 := Lib.hid hb
    have hz5 := hb.size
    try simp at hz5
    clear hb
    try have y50 : w.heap.size < w5.heap.size := by omega
    try have y50a : w.heap.size + 1 < w5.heap.size := by omega
    try have y50b : w.heap.size < w5.heap.size + 1 + 1 := by omega
    try have y50c : w.heap.size + 1 < w5.heap.size + 1 + 1 := by omega
    try have y51 : w1.heap.size < w5.heap.size := by omega
    try have y51a : w1.heap.size + 1 < w5.heap.size := by omega
    try have y51b : w1.heap.size < w5.heap.size + 1 + 1 := by omega
    try have y51c : w1.heap.size + 1 < w5.heap.size + 1 + 1 := by omega
    try have y52 : w2.heap.size < w5.heap.size := by omega
    try have y52a : w2.heap.size + 1 < w5.heap.size := by omega
    try have y52b : w2.heap.size < w5.heap.size + 1 + 1 := by omega
    try have y52c : w2.heap.size + 1 < w5.heap.size + 1 + 1 := by omega
    try have y53 : w3.heap.size < w5.heap.size := by omega
    try have y53a : w3.heap.size + 1 < w5.heap.size := by omega
    try have y53b : w3.heap.size < w5.heap.size + 1 + 1 := by omega
    try have y53c : w3.heap.size + 1 < w5.heap.size + 1 + 1 := by omega
    try have y54 : w4.heap.size < w5.heap.size := by omega
    try have y54a : w4.heap.size + 1 < w5.heap.size := by omega
    try have y54b : w4.heap.size < w5.heap.size + 1 + 1 := by omega
    try have y54c : w4.heap.size + 1 < w5.heap.size + 1 + 1 := by omega
    rw [qs_refl]
    go_wp2
    all_goals
      go_ret
      refine ⟨rfl, ?_⟩
      repeat refine below_alloc ?_ _
      exact B5.out
  have HK := Lib.hid hk
  have n64 := (qv_of (pushOk_of hk).1).2.2.2.2.2
  have HQ := Lib.hid (pushOk_of hk).1
  have HV := Lib.hid (pushOk_of hk).2
  have HLQ := Lib.hid Q.out.1
  have hm : (pushP lim ps p).length ≤ 65 := by
    rcases hi : inQ lim ps p with _ | _
    · rw [(push_full hk hi).2.2]; omega
    · rw [(push_in hk hi).2.2]; simp; omega
  have HM := Lib.hid hm
  clear hk hm n64
  go_wp2_with fail
  refine (pushI_yes lim A1 n1 c1 ps p _ (by first | with_reducible exact Q.out | with_reducible exact pr_alloc Q.out _ | with_reducible exact pr_alloc (pr_alloc Q.out _) _ | with_reducible exact pr_alloc (pr_alloc (pr_alloc Q.out _) _) _) (by omega) HK.out).mono ?_
  rintro e w2 ⟨A2, n2, c2, rfl, hn2, ho2, hb⟩
  obtain ⟨hc2, hf2⟩ := bcell hb
  have B2 := Lib.hid (show Below w.heap.size w w2 from (by first | exact below_seq B1.out hb | exact below_seq1 B1.out hb | exact below_seq2 B1.out hb | exact below_seq3 B1.out hb | exact below_seq4 B1.out hb))
  have R2 := Lib.hid hb
  have hz2 := hb.size
  try simp at hz2
  clear hb
  try have y20 : w.heap.size < w2.heap.size := by omega
  try have y20a : w.heap.size + 1 < w2.heap.size := by omega
  try have y20b : w.heap.size < w2.heap.size + 1 + 1 := by omega
  try have y20c : w.heap.size + 1 < w2.heap.size + 1 + 1 := by omega
  try have y21 : w1.heap.size < w2.heap.size := by omega
  try have y21a : w1.heap.size + 1 < w2.heap.size := by omega
  try have y21b : w1.heap.size < w2.heap.size + 1 + 1 := by omega
  try have y21c : w1.heap.size + 1 < w2.heap.size + 1 + 1 := by omega
  have hl2 : n2 ≤ 65 := by have := HM.out; omega
  have X := Lib.hid (pr_own ho2)
  have hc2' := (own_cap ho2).1
  clear ho2 hn2
  replace Q := Lib.hid (show PR w2 _ _ _ from (by first | with_reducible exact pr_below Q.out R2.out | with_reducible exact pr_below (pr_alloc Q.out _) R2.out | with_reducible exact pr_below (pr_alloc (pr_alloc Q.out _) _) R2.out | with_reducible exact pr_below (pr_alloc (pr_alloc (pr_alloc Q.out _) _) _) R2.out))
  go_wp2_with fail
  refine (pushS_yes lim A1 n1 c1 ps p _ (by first | with_reducible exact Q.out | with_reducible exact pr_alloc Q.out _ | with_reducible exact pr_alloc (pr_alloc Q.out _) _ | with_reducible exact pr_alloc (pr_alloc (pr_alloc Q.out _) _) _) (by omega) HK.out).mono ?_
  rintro e w3 ⟨A3, n3, c3, rfl, hn3, ho3, hb⟩
  obtain ⟨hc3, hf3⟩ := bcell hb
  have B3 := Lib.hid (show Below w.heap.size w w3 from (by first | exact below_seq B2.out hb | exact below_seq1 B2.out hb | exact below_seq2 B2.out hb | exact below_seq3 B2.out hb | exact below_seq4 B2.out hb))
  have R3 := Lib.hid hb
  have hz3 := hb.size
  try simp at hz3
  clear hb
  try have y30 : w.heap.size < w3.heap.size := by omega
  try have y30a : w.heap.size + 1 < w3.heap.size := by omega
  try have y30b : w.heap.size < w3.heap.size + 1 + 1 := by omega
  try have y30c : w.heap.size + 1 < w3.heap.size + 1 + 1 := by omega
  try have y31 : w1.heap.size < w3.heap.size := by omega
  try have y31a : w1.heap.size + 1 < w3.heap.size := by omega
  try have y31b : w1.heap.size < w3.heap.size + 1 + 1 := by omega
  try have y31c : w1.heap.size + 1 < w3.heap.size + 1 + 1 := by omega
  try have y32 : w2.heap.size < w3.heap.size := by omega
  try have y32a : w2.heap.size + 1 < w3.heap.size := by omega
  try have y32b : w2.heap.size < w3.heap.size + 1 + 1 := by omega
  try have y32c : w2.heap.size + 1 < w3.heap.size + 1 + 1 := by omega
  have hl3 : n3 ≤ 65 := by have := HM.out; omega
  have Y := Lib.hid (pr_own ho3)
  replace X := Lib.hid (show PR w3 _ _ _ from (by first | with_reducible exact pr_below X.out R3.out | with_reducible exact pr_below (pr_alloc X.out _) R3.out | with_reducible exact pr_below (pr_alloc (pr_alloc X.out _) _) R3.out | with_reducible exact pr_below (pr_alloc (pr_alloc (pr_alloc X.out _) _) _) R3.out))
  replace Q := Lib.hid (show PR w3 _ _ _ from (by first | with_reducible exact pr_below Q.out R3.out | with_reducible exact pr_below (pr_alloc Q.out _) R3.out | with_reducible exact pr_below (pr_alloc (pr_alloc Q.out _) _) R3.out | with_reducible exact pr_below (pr_alloc (pr_alloc (pr_alloc Q.out _) _) _) R3.out))
  clear ho3 hn3
  go_wp2_with fail
  refine (sameQI_any lim lim A2 A3 n2 c2 n3 c3 _ _ _ (by first | with_reducible exact X.out | with_reducible exact pr_alloc X.out _ | with_reducible exact pr_alloc (pr_alloc X.out _) _ | with_reducible exact pr_alloc (pr_alloc (pr_alloc X.out _) _) _) (by first | with_reducible exact Y.out | with_reducible exact pr_alloc Y.out _ | with_reducible exact pr_alloc (pr_alloc Y.out _) _ | with_reducible exact pr_alloc (pr_alloc (pr_alloc Y.out _) _) _) (by omega) (by omega)).mono ?_
  rintro e w4 ⟨rfl, hb⟩
  obtain ⟨hc4, hf4⟩ := bcell hb
  have B4 := Lib.hid (show Below w.heap.size w w4 from (by first | exact below_seq B3.out hb | exact below_seq1 B3.out hb | exact below_seq2 B3.out hb | exact below_seq3 B3.out hb | exact below_seq4 B3.out hb))
  have R4 := Lib.hid hb
  have hz4 := hb.size
  try simp at hz4
  clear hb
  try have y40 : w.heap.size < w4.heap.size := by omega
  try have y40a : w.heap.size + 1 < w4.heap.size := by omega
  try have y40b : w.heap.size < w4.heap.size + 1 + 1 := by omega
  try have y40c : w.heap.size + 1 < w4.heap.size + 1 + 1 := by omega
  try have y41 : w1.heap.size < w4.heap.size := by omega
  try have y41a : w1.heap.size + 1 < w4.heap.size := by omega
  try have y41b : w1.heap.size < w4.heap.size + 1 + 1 := by omega
  try have y41c : w1.heap.size + 1 < w4.heap.size + 1 + 1 := by omega
  try have y42 : w2.heap.size < w4.heap.size := by omega
  try have y42a : w2.heap.size + 1 < w4.heap.size := by omega
  try have y42b : w2.heap.size < w4.heap.size + 1 + 1 := by omega
  try have y42c : w2.heap.size + 1 < w4.heap.size + 1 + 1 := by omega
  try have y43 : w3.heap.size < w4.heap.size := by omega
  try have y43a : w3.heap.size + 1 < w4.heap.size := by omega
  try have y43b : w3.heap.size < w4.heap.size + 1 + 1 := by omega
  try have y43c : w3.heap.size + 1 < w4.heap.size + 1 + 1 := by omega
  rw [qs_refl]
  replace X := Lib.hid (show PR w4 _ _ _ from (by first | with_reducible exact pr_below X.out R4.out | with_reducible exact pr_below (pr_alloc X.out _) R4.out | with_reducible exact pr_below (pr_alloc (pr_alloc X.out _) _) R4.out | with_reducible exact pr_below (pr_alloc (pr_alloc (pr_alloc X.out _) _) _) R4.out))
  replace Y := Lib.hid (show PR w4 _ _ _ from (by first | with_reducible exact pr_below Y.out R4.out | with_reducible exact pr_below (pr_alloc Y.out _) R4.out | with_reducible exact pr_below (pr_alloc (pr_alloc Y.out _) _) R4.out | with_reducible exact pr_below (pr_alloc (pr_alloc (pr_alloc Y.out _) _) _) R4.out))
  replace Q := Lib.hid (show PR w4 _ _ _ from (by first | with_reducible exact pr_below Q.out R4.out | with_reducible exact pr_below (pr_alloc Q.out _) R4.out | with_reducible exact pr_below (pr_alloc (pr_alloc Q.out _) _) R4.out | with_reducible exact pr_below (pr_alloc (pr_alloc (pr_alloc Q.out _) _) _) R4.out))
  rcases hi : inQ lim ps p with _ | _
  · have HI := Lib.hid (push_full HK.out hi).1
    clear hi
    rw [HI.out]
    go_wp2_with fail
    refine (sameQI_any lim lim A2 A3 n2 c2 n3 c3 _ _ _ (by first | with_reducible exact X.out | with_reducible exact pr_alloc X.out _ | with_reducible exact pr_alloc (pr_alloc X.out _) _ | with_reducible exact pr_alloc (pr_alloc (pr_alloc X.out _) _) _) (by first | with_reducible exact Y.out | with_reducible exact pr_alloc Y.out _ | with_reducible exact pr_alloc (pr_alloc Y.out _) _ | with_reducible exact pr_alloc (pr_alloc (pr_alloc Y.out _) _) _) (by omega) (by omega)).mono ?_
    rintro e w5 ⟨rfl, hb⟩
    obtain ⟨hc5, hf5⟩ := bcell hb
    have B5 := Lib.hid (show Below w.heap.size w w5 from (by first | exact below_seq B4.out hb | exact below_seq1 B4.out hb | exact below_seq2 B4.out hb | exact below_seq3 B4.out hb | exact below_seq4 B4.out hb))
    have R5 := Lib.hid hb
    have hz5 := hb.size
    try simp at hz5
    clear hb
    try have y50 : w.heap.size < w5.heap.size := by omega
    try have y50a : w.heap.size + 1 < w5.heap.size := by omega
    try have y50b : w.heap.size < w5.heap.size + 1 + 1 := by omega
    try have y50c : w.heap.size + 1 < w5.heap.size + 1 + 1 := by omega
    try have y51 : w1.heap.size < w5.heap.size := by omega
    try have y51a : w1.heap.size + 1 < w5.heap.size := by omega
    try have y51b : w1.heap.size < w5.heap.size + 1 + 1 := by omega
    try have y51c : w1.heap.size + 1 < w5.heap.size + 1 + 1 := by omega
    try have y52 : w2.heap.size < w5.heap.size := by omega
    try have y52a : w2.heap.size + 1 < w5.heap.size := by omega
    try have y52b : w2.heap.size < w5.heap.size + 1 + 1 := by omega
    try have y52c : w2.heap.size + 1 < w5.heap.size + 1 + 1 := by omega
    try have y53 : w3.heap.size < w5.heap.size := by omega
    try have y53a : w3.heap.size + 1 < w5.heap.size := by omega
    try have y53b : w3.heap.size < w5.heap.size + 1 + 1 := by omega
    try have y53c : w3.heap.size + 1 < w5.heap.size + 1 + 1 := by omega
    try have y54 : w4.heap.size < w5.heap.size := by omega
    try have y54a : w4.heap.size + 1 < w5.heap.size := by omega
    try have y54b : w4.heap.size < w5.heap.size + 1 + 1 := by omega
    try have y54c : w4.heap.size + 1 < w5.heap.size + 1 + 1 := by omega
    rw [qs_refl]
    go_wp2
    all_goals
      go_ret
      refine ⟨rfl, ?_⟩
      repeat refine below_alloc ?_ _
      exact B5.out
  · have HI := Lib.hid (push_in HK.out hi)
    have HX : Hid (qvB lim (ps ++ [p]) = true) := Lib.hid (by rw [qv_push HQ.out HV.out]; exact hi)
    rw [HI.out.2.2] at X
    rw [HI.out.1]
    clear hi Y
    cases ps with
    | nil =>
      obtain rfl : n1 = 0 := HLQ.out.symm
      obtain rfl : n2 = 1 := X.out.1.symm
      replace X : Hid (PR w4 A2 1 [p]) := X
      go_wp2_with fail
      refine (popI_yes lim A2 1 c2 p [] _ (by first | with_reducible exact X.out | with_reducible exact pr_alloc X.out _ | with_reducible exact pr_alloc (pr_alloc X.out _) _ | with_reducible exact pr_alloc (pr_alloc (pr_alloc X.out _) _) _) (by omega) hc2' HX.out).mono ?_
      rintro e w5 ⟨A5, n5, c5, rfl, hn5, ho5, hb⟩
      obtain ⟨hc5, hf5⟩ := bcell hb
      have B5 := Lib.hid (show Below w.heap.size w w5 from (by first | exact below_seq B4.out hb | exact below_seq1 B4.out hb | exact below_seq2 B4.out hb | exact below_seq3 B4.out hb | exact below_seq4 B4.out hb))
      have R5 := Lib.hid hb
      have hz5 := hb.size
      try simp at hz5
      clear hb
      try have y50 : w.heap.size < w5.heap.size := by omega
      try have y50a : w.heap.size + 1 < w5.heap.size := by omega
      try have y50b : w.heap.size < w5.heap.size + 1 + 1 := by omega
      try have y50c : w.heap.size + 1 < w5.heap.size + 1 + 1 := by omega
      try have y51 : w1.heap.size < w5.heap.size := by omega
      try have y51a : w1.heap.size + 1 < w5.heap.size := by omega
      try have y51b : w1.heap.size < w5.heap.size + 1 + 1 := by omega
      try have y51c : w1.heap.size + 1 < w5.heap.size + 1 + 1 := by omega
      try have y52 : w2.heap.size < w5.heap.size := by omega
      try have y52a : w2.heap.size + 1 < w5.heap.size := by omega
      try have y52b : w2.heap.size < w5.heap.size + 1 + 1 := by omega
      try have y52c : w2.heap.size + 1 < w5.heap.size + 1 + 1 := by omega
      try have y53 : w3.heap.size < w5.heap.size := by omega
      try have y53a : w3.heap.size + 1 < w5.heap.size := by omega
      try have y53b : w3.heap.size < w5.heap.size + 1 + 1 := by omega
      try have y53c : w3.heap.size + 1 < w5.heap.size + 1 + 1 := by omega
      try have y54 : w4.heap.size < w5.heap.size := by omega
      try have y54a : w4.heap.size + 1 < w5.heap.size := by omega
      try have y54b : w4.heap.size < w5.heap.size + 1 + 1 := by omega
      try have y54c : w4.heap.size + 1 < w5.heap.size + 1 + 1 := by omega
      obtain rfl : n5 = 0 := hn5
      clear ho5
      go_wp2
      all_goals
        go_ret
        refine ⟨rfl, ?_⟩
        repeat refine below_alloc ?_ _
        exact B5.out
    | cons q r =>
      obtain ⟨m, hm⟩ : ∃ m, m = r.length := ⟨_, rfl⟩
      have hx := X.out.1
      simp at hx
      have h2 : n2 = m + 2 := by omega
      subst h2
      have HX2 : Hid (qvB lim (q :: (r ++ [p])) = true) := Lib.hid (by simpa using HX.out)
      have X2 : Hid (PR w4 A2 (m + 2) (q :: (r ++ [p]))) := Lib.hid (by simpa using X.out)
      have hmr := Lib.hid hm
      have h1' := HLQ.out
      simp at h1'
      have hn1m : n1 = m + 1 := by omega
      subst hn1m
      clear hm hx h1' X
      go_wp2_with fail
      refine (popI_yes lim A2 (m + 2) c2 q (r ++ [p]) _ (by first | with_reducible exact X2.out | with_reducible exact pr_alloc X2.out _ | with_reducible exact pr_alloc (pr_alloc X2.out _) _ | with_reducible exact pr_alloc (pr_alloc (pr_alloc X2.out _) _) _) (by omega) hc2' HX2.out).mono ?_
      rintro e w5 ⟨A5, n5, c5, rfl, hn5, ho5, hb⟩
      obtain ⟨hc5, hf5⟩ := bcell hb
      have B5 := Lib.hid (show Below w.heap.size w w5 from (by first | exact below_seq B4.out hb | exact below_seq1 B4.out hb | exact below_seq2 B4.out hb | exact below_seq3 B4.out hb | exact below_seq4 B4.out hb))
      have R5 := Lib.hid hb
      have hz5 := hb.size
      try simp at hz5
      clear hb
      try have y50 : w.heap.size < w5.heap.size := by omega
      try have y50a : w.heap.size + 1 < w5.heap.size := by omega
      try have y50b : w.heap.size < w5.heap.size + 1 + 1 := by omega
      try have y50c : w.heap.size + 1 < w5.heap.size + 1 + 1 := by omega
      try have y51 : w1.heap.size < w5.heap.size := by omega
      try have y51a : w1.heap.size + 1 < w5.heap.size := by omega
      try have y51b : w1.heap.size < w5.heap.size + 1 + 1 := by omega
      try have y51c : w1.heap.size + 1 < w5.heap.size + 1 + 1 := by omega
      try have y52 : w2.heap.size < w5.heap.size := by omega
      try have y52a : w2.heap.size + 1 < w5.heap.size := by omega
      try have y52b : w2.heap.size < w5.heap.size + 1 + 1 := by omega
      try have y52c : w2.heap.size + 1 < w5.heap.size + 1 + 1 := by omega
      try have y53 : w3.heap.size < w5.heap.size := by omega
      try have y53a : w3.heap.size + 1 < w5.heap.size := by omega
      try have y53b : w3.heap.size < w5.heap.size + 1 + 1 := by omega
      try have y53c : w3.heap.size + 1 < w5.heap.size + 1 + 1 := by omega
      try have y54 : w4.heap.size < w5.heap.size := by omega
      try have y54a : w4.heap.size + 1 < w5.heap.size := by omega
      try have y54b : w4.heap.size < w5.heap.size + 1 + 1 := by omega
      try have y54c : w4.heap.size + 1 < w5.heap.size + 1 + 1 := by omega
      have h5 : n5 = m + 1 := by simp at hn5; have := hmr.out; omega
      subst h5
      have Y5 := Lib.hid (pr_own ho5)
      replace Q := Lib.hid (show PR w5 _ _ _ from (by first | with_reducible exact pr_below Q.out R5.out | with_reducible exact pr_below (pr_alloc Q.out _) R5.out | with_reducible exact pr_below (pr_alloc (pr_alloc Q.out _) _) R5.out | with_reducible exact pr_below (pr_alloc (pr_alloc (pr_alloc Q.out _) _) _) R5.out))
      clear ho5 hn5
      obtain ⟨b1, o1, q', rfl, hb1, hq1, d0, d1, d2, d3⟩ := pr_at (k := 0) Q.out (by omega)
      obtain rfl : q = q' := by simpa using hq1
      rw [Nat.zero_mul, Nat.add_zero] at d0 d1 d2 d3
      obtain ⟨b5, o5, p', rfl, hb5, hq5, e0, e1, e2, e3⟩ := pr_at (k := m) Y5.out (by omega)
      obtain rfl : p = p' := by rw [hmr.out, List.getElem?_concat_length] at hq5; injection hq5
      clear hq1 hq5
      have x0 : (0 : Int) < ((m + 1 : Nat) : Int) := by omega
      have x1 : IntKind.i64.wrap (((m + 1 : Nat) : Int) - 1) = (m : Int) := by rw [show ((m + 1 : Nat) : Int) - 1 = (m : Int) by omega]; exact IntWalk.i64_in _ (by omega)
      have x2 : (m : Int) < ((m + 1 : Nat) : Int) := by omega
      have x3 : (((m + 1 : Nat) : Int) == 0) = false := by simp; omega
      go_wp2_with fail
      go_quiet (fail)
      go_wp2
      all_goals
        go_ret
        refine ⟨rfl, ?_⟩
        refine below_drewN ?_ _
        repeat with_reducible refine below_alloc ?_ _
        exact B5.out
theorem own : ownKnob Try.prog.godebug = none := by kernel_rfl
theorem laidOut : laidOutB Try.prog = true := by kernel_rfl
set_option maxRecDepth 100000 in
theorem lifted (os : Os) (started : os.Started) (H : Type) (enc : TypeId × Value → H) :
    ReturnsInHanded {} Try.checked os 11 .any (Rows.fnPushPopSpec.pre6 enc Try.prog Try.f11 Rows.fnPushPopRow.domain false) (Rows.fnPushPopSpec.post enc Try.prog Try.f11 false true false false) := by
  refine returnsInHanded_of_change (C := Try.checked) own started (by kernel_rfl) Try.func11
    (ChangeSpec.witness6 (enc := enc) (C := Try.checked) false ⟨#[], #[.slice none 0 0], []⟩ 8 (by kernel_rfl) (by kernel_rfl) (by kernel_rfl) (by kernel_rfl)) ?_
  intro W base args ds gs before hval0 hW _ _
  have hval : ∀ (j : Nat) t v, Try.f11.params[j]? = some t → args[j]? = some v → Value.okWide Try.prog W .any base t v := hval0
  have hW' := hW
  obtain ⟨p, q, hA0, hV, rfl, _, _⟩ := hW
  have hA : DataW.TrodAll enc Try.prog W 0 (fun _ => true) true Try.f11.params.toList args.toList ds p := hA0
  rw [Try.params11] at hA hval
  obtain ⟨v0, vs0, d0, ds0, p0, q0, hargs, rfl, rfl, h0, r0⟩ := trodAll_cons hA
  obtain ⟨rfl, rfl, rfl⟩ := trodAll_nil r0
  obtain rfl : args = #[v0] := by cases args; simp_all
  obtain ⟨rfl, rfl⟩ := trodVars_none hV
  have lt0 : ∀ x ∈ p0, x.block < W.heap.size := by obtain ⟨m, hm⟩ := h0; exact DataW.trod_lt m _ _ _ hm
  obtain ⟨a0, n0, c0, rfl⟩ := okWide_slice Try.underlying22 (hval 0 22 v0 rfl rfl)
  have w0 : Bytes W a0 n0 c0 := bytes_open h0
  clear hA0 hval0
  refine (walk a0 n0 c0 W w0).mono fun e W' ⟨he, bel⟩ => ?_
  subst he
  exact ⟨_, rfl, _, _, _, [], _, [], hW', trodAll_mk1 (shut_bool Try.underlying4 _), (trodAll_cons_mk (Below.trod laidOut (by kernel_rfl) (of_decide_eq_true (by kernel_rfl)) h0 bel lt0) trodAll_mk0), rfl, bel.frame _, fun h => by cases h⟩
theorem over : Rows.fnPushPopRow.holds Try.pinned (OpenSpec.ofChange Rows.fnPushPopSpec) :=
  OpenClaim.holds_of_wide 11 Try.f11 rfl rfl rfl rfl rfl rfl rfl ⟨rfl, rfl, rfl, rfl, rfl⟩ rfl rfl rfl rfl rfl (by kernel_rfl) Try.func11 (by kernel_rfl)
    (of_decide_eq_true (by kernel_rfl)) (by unfold Func.isWrapper; first | (rw [if_pos (by decide +kernel)]; kernel_rfl) | (rw [if_neg (by decide +kernel)]; exact ⟨rfl, rfl⟩))
    (fun os started H enc _ => lifted os started H enc)
/-- the given statement -/
theorem proved : Rows.FnPushPopSaid := over
end Go.Proofs.Ytapoahoknlaeaaa.fnPushPop
