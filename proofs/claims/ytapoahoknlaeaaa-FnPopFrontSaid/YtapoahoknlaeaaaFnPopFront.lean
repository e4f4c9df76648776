/-
  The law FnPopFront returns true at every argument: packets come out in the order in which they went in. Conditions: none.
-/
import Derived.Test.YtapoahoknlaeaaaQL
import Derived.Test.YtapoahoknlaeaaaQ4S
namespace Go.Proofs.Ytapoahoknlaeaaa.fnPopFront
open Go.ChangeShapes Go.WideShapes Go.ChangeAt Go.RowKit

set_option maxHeartbeats 1000000 in
theorem walk (A : Option Addr) (n c : Nat) (w : World) (h : Bytes w A n c) :
    Calls Try.prog 4 #[.slice A n c] w fun e w' => e = .returned (.bool true) ∧ Below w.heap.size w w' := by
  have HB := Lib.hid h
  clear h
  by_cases hbig : ¬ n ≤ 1048576
  · go_enter Try.func4, Try.ntmps4
    go_wp2
    go_ret
    exact ⟨rfl, Below.refl _ _⟩
  have hbig' : n ≤ 1048576 := by omega
  clear hbig
  go_enter Try.func4, Try.ntmps4
  go_wp2_with fail
  refine (drawPopFront_any A n c _ HB.out).mono ?_
  rintro e w1 ⟨lim, A1, n1, c1, ps, rfl, hn1, ho, hb⟩
  obtain ⟨hc1, hf1⟩ := bcell hb
  have B1 := Lib.hid (show Below w.heap.size w w1 from (by first | exact below_seq (Below.refl w.heap.size w) hb | exact below_seq1 (Below.refl w.heap.size w) hb | exact below_seq2 (Below.refl w.heap.size w) hb | exact below_seq3 (Below.refl w.heap.size w) hb | exact below_seq4 (Below.refl w.heap.size w) hb))
  have R1 := Lib.hid hb
  have hz1 := hb.size
  try simp at hz1
  clear hb
  have Q := Lib.hid (pr_own ho)
  have hnc := (own_cap ho).1
  clear ho
  rcases hk : heavyP lim ps with _ | _
  · have HK := Lib.hid hk
    clear hk
    go_wp2_with fail
    refine (popI_no lim A1 n1 c1 ps _ (by first | with_reducible exact Q.out | with_reducible exact pr_alloc Q.out _ | with_reducible exact pr_alloc (pr_alloc Q.out _) _ | with_reducible exact pr_alloc (pr_alloc (pr_alloc Q.out _) _) _) (by omega) HK.out).mono ?_
    rintro e w2 ⟨A2, n2, c2, rfl, hn2, ho2, hb⟩
    obtain ⟨hc2, hf2⟩ := bcell hb
    have B2 := Lib.hid (show Below w.heap.size w w2 from (by first | exact below_seq B1.out hb | exact below_seq1 B1.out hb | exact below_seq2 B1.out hb | exact below_seq3 B1.out hb | exact below_seq4 B1.out hb))
    have R2 := Lib.hid hb
    have hz2 := hb.size
    try simp at hz2
    clear hb
    try have y20 : w.heap.size < w2.heap.size := by omega
    try have y20a : w.heap.size + 1 < w2.heap.size := by omega
    try have y20b : w.heap.size < w2.heap.size + 1 + 1 := by omega
    try have y20c : w.heap.size + 1 < w2.heap.size + 1 + 1 := by omega
    try have y21 : w1.heap.size < w2.heap.size := by omega
    try have y21a : w1.heap.size + 1 < w2.heap.size := by omega
    try have y21b : w1.heap.size < w2.heap.size + 1 + 1 := by omega
    try have y21c : w1.heap.size + 1 < w2.heap.size + 1 + 1 := by omega
    obtain rfl : n2 = 0 := hn2
    have X := Lib.hid (pr_own ho2)
    clear ho2
    replace Q := Lib.hid (show PR w2 _ _ _ from (by first | with_reducible exact pr_below Q.out R2.out | with_reducible exact pr_below (pr_alloc Q.out _) R2.out | with_reducible exact pr_below (pr_alloc (pr_alloc Q.out _) _) R2.out | with_reducible exact pr_below (pr_alloc (pr_alloc (pr_alloc Q.out _) _) _) R2.out))
    go_wp2_with fail
    refine (popS_no lim A1 n1 c1 ps _ (by first | with_reducible exact Q.out | with_reducible exact pr_alloc Q.out _ | with_reducible exact pr_alloc (pr_alloc Q.out _) _ | with_reducible exact pr_alloc (pr_alloc (pr_alloc Q.out _) _) _) (by omega) HK.out).mono ?_
    rintro e w3 ⟨A3, n3, c3, rfl, hn3, ho3, hb⟩
    obtain ⟨hc3, hf3⟩ := bcell hb
    have B3 := Lib.hid (show Below w.heap.size w w3 from (by first | exact below_seq B2.out hb | exact below_seq1 B2.out hb | exact below_seq2 B2.out hb | exact below_seq3 B2.out hb | exact below_seq4 B2.out hb))
    have R3 := Lib.hid hb
    have hz3 := hb.size
    try simp at hz3
    clear hb
    try have y30 : w.heap.size < w3.heap.size := by omega
    try have y30a : w.heap.size + 1 < w3.heap.size := by omega
    try have y30b : w.heap.size < w3.heap.size + 1 + 1 := by omega
    try have y30c : w.heap.size + 1 < w3.heap.size + 1 + 1 := by omega
    try have y31 : w1.heap.size < w3.heap.size := by omega
    try have y31a : w1.heap.size + 1 < w3.heap.size := by omega
    try have y31b : w1.heap.size < w3.heap.size + 1 + 1 := by omega
    try have y31c : w1.heap.size + 1 < w3.heap.size + 1 + 1 := by omega
    try have y32 : w2.heap.size < w3.heap.size := by omega
    try have y32a : w2.heap.size + 1 < w3.heap.size := by omega
    try have y32b : w2.heap.size < w3.heap.size + 1 + 1 := by omega
    try have y32c : w2.heap.size + 1 < w3.heap.size + 1 + 1 := by omega
    obtain rfl : n3 = 0 := hn3
    have Y := Lib.hid (pr_own ho3)
    replace X := Lib.hid (show PR w3 _ _ _ from (by first | with_reducible exact pr_below X.out R3.out | with_reducible exact pr_below (pr_alloc X.out _) R3.out | with_reducible exact pr_below (pr_alloc (pr_alloc X.out _) _) R3.out | with_reducible exact pr_below (pr_alloc (pr_alloc (pr_alloc X.out _) _) _) R3.out))
    clear ho3
    go_wp2_with fail
    refine (sameQI_any 0 0 A2 A3 0 c2 0 c3 [] [] _ (by first | with_reducible exact X.out | with_reducible exact pr_alloc X.out _ | with_reducible exact pr_alloc (pr_alloc X.out _) _ | with_reducible exact pr_alloc (pr_alloc (pr_alloc X.out _) _) _) (by first | with_reducible exact Y.out | with_reducible exact pr_alloc Y.out _ | with_reducible exact pr_alloc (pr_alloc Y.out _) _ | with_reducible exact pr_alloc (pr_alloc (pr_alloc Y.out _) _) _) (by omega) (by omega)).mono ?_
    rintro e w4 ⟨rfl, hb⟩
    obtain ⟨hc4, hf4⟩ := bcell hb
    have B4 := Lib.hid (show Below w.heap.size w w4 from (by first | exact below_seq B3.out hb | exact below_seq1 B3.out hb | exact below_seq2 B3.out hb | exact below_seq3 B3.out hb | exact below_seq4 B3.out hb))
    have R4 := Lib.hid hb
    have hz4 := hb.size
    try simp at hz4
    clear hb
    try have y40 : w.heap.size < w4.heap.size := by omega
    try have y40a : w.heap.size + 1 < w4.heap.size := by omega
    try have y40b : w.heap.size < w4.heap.size + 1 + 1 := by omega
    try have y40c : w.heap.size + 1 < w4.heap.size + 1 + 1 := by omega
    try have y41 : w1.heap.size < w4.heap.size := by omega
    try have y41a : w1.heap.size + 1 < w4.heap.size := by omega
    try have y41b : w1.heap.size < w4.heap.size + 1 + 1 := by omega
    try have y41c : w1.heap.size + 1 < w4.heap.size + 1 + 1 := by omega
    try have y42 : w2.heap.size < w4.heap.size := by omega
    try have y42a : w2.heap.size + 1 < w4.heap.size := by omega
    try have y42b : w2.heap.size < w4.heap.size + 1 + 1 := by omega
    try have y42c : w2.heap.size + 1 < w4.heap.size + 1 + 1 := by omega
    try have y43 : w3.heap.size < w4.heap.size := by omega
    try have y43a : w3.heap.size + 1 < w4.heap.size := by omega
    try have y43b : w3.heap.size < w4.heap.size + 1 + 1 := by omega
    try have y43c : w3.heap.size + 1 < w4.heap.size + 1 + 1 := by omega
    rw [qs_refl]
    replace X := Lib.hid (show PR w4 _ _ _ from (by first | with_reducible exact pr_below X.out R4.out | with_reducible exact pr_below (pr_alloc X.out _) R4.out | with_reducible exact pr_below (pr_alloc (pr_alloc X.out _) _) R4.out | with_reducible exact pr_below (pr_alloc (pr_alloc (pr_alloc X.out _) _) _) R4.out))
    replace Y := Lib.hid (show PR w4 _ _ _ from (by first | with_reducible exact pr_below Y.out R4.out | with_reducible exact pr_below (pr_alloc Y.out _) R4.out | with_reducible exact pr_below (pr_alloc (pr_alloc Y.out _) _) R4.out | with_reducible exact pr_below (pr_alloc (pr_alloc (pr_alloc Y.out _) _) _) R4.out))
    go_wp2_with fail
    refine (sameQI_any 0 0 A2 A3 0 c2 0 c3 [] [] _ (by first | with_reducible exact X.out | with_reducible exact pr_alloc X.out _ | with_reducible exact pr_alloc (pr_alloc X.out _) _ | with_reducible exact pr_alloc (pr_alloc (pr_alloc X.out _) _) _) (by first | with_reducible exact Y.out | with_reducible exact pr_alloc Y.out _ | with_reducible exact pr_alloc (pr_alloc Y.out _) _ | with_reducible exact pr_alloc (pr_alloc (pr_alloc Y.out _) _) _) (by omega) (by omega)).mono ?_
    rintro e w5 ⟨rfl, hb⟩
    obtain ⟨hc5, hf5⟩ := bcell hb
    have B5 := Lib.hid (show Below w.heap.size w w5 from (by first | exact below_seq B4.out hb | exact below_seq1 B4.out hb | exact below_seq2 B4.out hb | exact below_seq3 B4.out hb | exact below_seq4 B4.out hb))
    have R5 := Lib.hid hb
    have hz5 := hb.size
    try simp at hz5
    clear hb
    try have y50 : w.heap.size < w5.heap.size := by omega
    try have y50a : w.heap.size + 1 < w5.heap.size := by omega
    try have y50b : w.heap.size < w5.heap.size + 1 + 1 := by omega
    try have y50c : w.heap.size + 1 < w5.heap.size + 1 + 1 := by omega
    try have y51 : w1.heap.size < w5.heap.size := by omega
    try have y51a : w1.heap.size + 1 < w5.heap.size := by omega
    try have y51b : w1.heap.size < w5.heap.size + 1 + 1 := by omega
    try have y51c : w1.heap.size + 1 < w5.heap.size + 1 + 1 := by omega
    try have y52 : w2.heap.size < w5.heap.size := by omega
    try have y52a : w2.heap.size + 1 < w5.heap.size := by omega
    try have y52b : w2.heap.size < w5.heap.size + 1 + 1 := by omega
    try have y52c : w2.heap.size + 1 < w5.heap.size + 1 + 1 := by omega
    try have y53 : w3.heap.size < w5.heap.size := by omega
    try have y53a : w3.heap.size + 1 < w5.heap.size := by omega
    try have y53b : w3.heap.size < w5.heap.size + 1 + 1 := by omega
    try have y53c : w3.heap.size + 1 < w5.heap.size + 1 + 1 := by omega
    try have y54 : w4.heap.size < w5.heap.size := by omega
    try have y54a : w4.heap.size + 1 < w5.heap.size := by omega
    try have y54b : w4.heap.size < w5.heap.size + 1 + 1 := by omega
    try have y54c : w4.heap.size + 1 < w5.heap.size + 1 + 1 := by omega
    rw [qs_refl]
    go_wp2
    all_goals
      go_ret
      refine ⟨rfl, ?_⟩
      repeat refine below_alloc ?_ _
      exact B5.out
  · obtain ⟨hq, h0⟩ := heavyP_of hk
    cases ps with
    | nil => simp at h0
    | cons p r =>
      have HQ := Lib.hid hq
      have HT := Lib.hid (qv_tail hq)
      clear hk hq h0
      go_wp2_with fail
      refine (popI_yes lim A1 n1 c1 p r _ (by first | with_reducible exact Q.out | with_reducible exact pr_alloc Q.out _ | with_reducible exact pr_alloc (pr_alloc Q.out _) _ | with_reducible exact pr_alloc (pr_alloc (pr_alloc Q.out _) _) _) (by omega) hnc HQ.out).mono ?_
      rintro e w2 ⟨A2, n2, c2, rfl, hn2, ho2, hb⟩
      obtain ⟨hc2, hf2⟩ := bcell hb
      have B2 := Lib.hid (show Below w.heap.size w w2 from (by first | exact below_seq B1.out hb | exact below_seq1 B1.out hb | exact below_seq2 B1.out hb | exact below_seq3 B1.out hb | exact below_seq4 B1.out hb))
      have R2 := Lib.hid hb
      have hz2 := hb.size
      try simp at hz2
      clear hb
      try have y20 : w.heap.size < w2.heap.size := by omega
      try have y20a : w.heap.size + 1 < w2.heap.size := by omega
      try have y20b : w.heap.size < w2.heap.size + 1 + 1 := by omega
      try have y20c : w.heap.size + 1 < w2.heap.size + 1 + 1 := by omega
      try have y21 : w1.heap.size < w2.heap.size := by omega
      try have y21a : w1.heap.size + 1 < w2.heap.size := by omega
      try have y21b : w1.heap.size < w2.heap.size + 1 + 1 := by omega
      try have y21c : w1.heap.size + 1 < w2.heap.size + 1 + 1 := by omega
      have X := Lib.hid (pr_own ho2)
      have hl2 : n2 ≤ 67 := by have := Q.out.1; simp at this; omega
      clear ho2 hn2
      replace Q := Lib.hid (show PR w2 _ _ _ from (by first | with_reducible exact pr_below Q.out R2.out | with_reducible exact pr_below (pr_alloc Q.out _) R2.out | with_reducible exact pr_below (pr_alloc (pr_alloc Q.out _) _) R2.out | with_reducible exact pr_below (pr_alloc (pr_alloc (pr_alloc Q.out _) _) _) R2.out))
      go_wp2_with fail
      refine (popS_yes lim A1 n1 c1 p r _ (by first | with_reducible exact Q.out | with_reducible exact pr_alloc Q.out _ | with_reducible exact pr_alloc (pr_alloc Q.out _) _ | with_reducible exact pr_alloc (pr_alloc (pr_alloc Q.out _) _) _) (by omega) hnc HQ.out).mono ?_
      rintro e w3 ⟨A3, n3, c3, rfl, hn3, ho3, hb⟩
      obtain ⟨hc3, hf3⟩ := bcell hb
      have B3 := Lib.hid (show Below w.heap.size w w3 from (by first | exact below_seq B2.out hb | exact below_seq1 B2.out hb | exact below_seq2 B2.out hb | exact below_seq3 B2.out hb | exact below_seq4 B2.out hb))
      have R3 := Lib.hid hb
      have hz3 := hb.size
      try simp at hz3
      clear hb
      try have y30 : w.heap.size < w3.heap.size := by omega
      try have y30a : w.heap.size + 1 < w3.heap.size := by omega
      try have y30b : w.heap.size < w3.heap.size + 1 + 1 := by omega
      try have y30c : w.heap.size + 1 < w3.heap.size + 1 + 1 := by omega
      try have y31 : w1.heap.size < w3.heap.size := by omega
      try have y31a : w1.heap.size + 1 < w3.heap.size := by omega
      try have y31b : w1.heap.size < w3.heap.size + 1 + 1 := by omega
      try have y31c : w1.heap.size + 1 < w3.heap.size + 1 + 1 := by omega
      try have y32 : w2.heap.size < w3.heap.size := by omega
      try have y32a : w2.heap.size + 1 < w3.heap.size := by omega
      try have y32b : w2.heap.size < w3.heap.size + 1 + 1 := by omega
      try have y32c : w2.heap.size + 1 < w3.heap.size + 1 + 1 := by omega
      have Y := Lib.hid (pr_own ho3)
      have hl3 : n3 ≤ 67 := by have := Q.out.1; simp at this; omega
      replace X := Lib.hid (show PR w3 _ _ _ from (by first | with_reducible exact pr_below X.out R3.out | with_reducible exact pr_below (pr_alloc X.out _) R3.out | with_reducible exact pr_below (pr_alloc (pr_alloc X.out _) _) R3.out | with_reducible exact pr_below (pr_alloc (pr_alloc (pr_alloc X.out _) _) _) R3.out))
      replace Q := Lib.hid (show PR w3 _ _ _ from (by first | with_reducible exact pr_below Q.out R3.out | with_reducible exact pr_below (pr_alloc Q.out _) R3.out | with_reducible exact pr_below (pr_alloc (pr_alloc Q.out _) _) R3.out | with_reducible exact pr_below (pr_alloc (pr_alloc (pr_alloc Q.out _) _) _) R3.out))
      clear ho3 hn3
      go_wp2_with fail
      refine (sameQI_any lim lim A2 A3 n2 c2 n3 c3 r r _ (by first | with_reducible exact X.out | with_reducible exact pr_alloc X.out _ | with_reducible exact pr_alloc (pr_alloc X.out _) _ | with_reducible exact pr_alloc (pr_alloc (pr_alloc X.out _) _) _) (by first | with_reducible exact Y.out | with_reducible exact pr_alloc Y.out _ | with_reducible exact pr_alloc (pr_alloc Y.out _) _ | with_reducible exact pr_alloc (pr_alloc (pr_alloc Y.out _) _) _) (by omega) (by omega)).mono ?_
      rintro e w4 ⟨rfl, hb⟩
      obtain ⟨hc4, hf4⟩ := bcell hb
      have B4 := Lib.hid (show Below w.heap.size w w4 from (by first | exact below_seq B3.out hb | exact below_seq1 B3.out hb | exact below_seq2 B3.out hb | exact below_seq3 B3.out hb | exact below_seq4 B3.out hb))
      have R4 := Lib.hid hb
      have hz4 := hb.size
      try simp at hz4
      clear hb
      try have y40 : w.heap.size < w4.heap.size := by omega
      try have y40a : w.heap.size + 1 < w4.heap.size := by omega
      try have y40b : w.heap.size < w4.heap.size + 1 + 1 := by omega
      try have y40c : w.heap.size + 1 < w4.heap.size + 1 + 1 := by omega
      try have y41 : w1.heap.size < w4.heap.size := by omega
      try have y41a : w1.heap.size + 1 < w4.heap.size := by omega
      try have y41b : w1.heap.size < w4.heap.size + 1 + 1 := by omega
      try have y41c : w1.heap.size + 1 < w4.heap.size + 1 + 1 := by omega
      try have y42 : w2.heap.size < w4.heap.size := by omega
      try have y42a : w2.heap.size + 1 < w4.heap.size := by omega
      try have y42b : w2.heap.size < w4.heap.size + 1 + 1 := by omega
      try have y42c : w2.heap.size + 1 < w4.heap.size + 1 + 1 := by omega
      try have y43 : w3.heap.size < w4.heap.size := by omega
      try have y43a : w3.heap.size + 1 < w4.heap.size := by omega
      try have y43b : w3.heap.size < w4.heap.size + 1 + 1 := by omega
      try have y43c : w3.heap.size + 1 < w4.heap.size + 1 + 1 := by omega
      rw [qs_refl]
      replace X := Lib.hid (show PR w4 _ _ _ from (by first | with_reducible exact pr_below X.out R4.out | with_reducible exact pr_below (pr_alloc X.out _) R4.out | with_reducible exact pr_below (pr_alloc (pr_alloc X.out _) _) R4.out | with_reducible exact pr_below (pr_alloc (pr_alloc (pr_alloc X.out _) _) _) R4.out))
      replace Q := Lib.hid (show PR w4 _ _ _ from (by first | with_reducible exact pr_below Q.out R4.out | with_reducible exact pr_below (pr_alloc Q.out _) R4.out | with_reducible exact pr_below (pr_alloc (pr_alloc Q.out _) _) R4.out | with_reducible exact pr_below (pr_alloc (pr_alloc (pr_alloc Q.out _) _) _) R4.out))
      have O4 := Lib.hid (show (w4.alloc (.cells #[.int .i64 p.peer, .int .i64 p.lane, .int .i64 p.size, .int .i64 p.id] 27)).ownsRow w4.heap.size 27 4 (.slice (some ⟨w4.heap.size, 0, none⟩) 1 1) 1 (pcells [p]) from World.ownsRow_lit w4 _ 1 (Nat.le_refl _) (by unfold maxLen; omega) rfl)
      have X4 := Lib.hid (pr_alloc X.out (.cells #[.int .i64 p.peer, .int .i64 p.lane, .int .i64 p.size, .int .i64 p.id] 27))
      have Q4 := Lib.hid (pr_alloc Q.out (.cells #[.int .i64 p.peer, .int .i64 p.lane, .int .i64 p.size, .int .i64 p.id] 27))
      have B5 := Lib.hid (below_alloc B4.out (.cells #[.int .i64 p.peer, .int .i64 p.lane, .int .i64 p.size, .int .i64 p.id] 27))
      go_wp2_with (at_builtin
                   refine wpl_app_pkts _ rfl (.tmp 60) (.tmp 62) rfl w4.heap.size (.slice (some ⟨w4.heap.size, 0, none⟩) 1 1) 1 [p] rfl O4.out A2 n2 c2 r rfl X4.out (by omega) (by simp) ?_
                   intro v5 w5 ho5 hg5 hat5
                   have BB := Lib.hid (show Below w4.heap.size w4 w5 from app_belowQ O4.out (below_alloc (Below.refl _ _) _) hg5 (by simp))
                   obtain ⟨A5, c5, rfl, -, -, -⟩ := own_form ho5
                   have Z := Lib.hid (pr_own ho5)
                   obtain ⟨hc5, hf5⟩ := bcell BB.out
                   have hz5 := BB.out.size
                   have y51 : w1.heap.size < w4.heap.size := (by omega)
                   have y52 : w2.heap.size < w4.heap.size := (by omega)
                   have y53 : w1.heap.size < w5.heap.size := (by omega)
                   have y54 : w2.heap.size < w5.heap.size := (by omega)
                   have X5 := Lib.hid (pr_below X.out BB.out)
                   have Q5 := Lib.hid (pr_below Q.out BB.out)
                   have B6 := Lib.hid (below_seq B4.out BB.out)
                   clear ho5 hg5 hat5)
      go_wp2_with fail
      refine (qvI_any lim A2 n2 c2 r _ X5.out (by omega)).mono ?_
      rintro e w6 ⟨rfl, hb⟩
      rw [HT.out]
      obtain ⟨hc6, hf6⟩ := bcell hb
      have hz6 := hb.size
      have y61 : w1.heap.size < w6.heap.size := by omega
      have Z6 := Lib.hid (pr_below Z.out hb)
      have Q6 := Lib.hid (pr_below Q5.out hb)
      have B7 := Lib.hid (below_seq B6.out hb)
      clear hb
      go_wp2_with fail
      refine (sameI_any A5 A1 (1 + n2) c5 n1 c1 _ _ _ Z6.out Q6.out (by omega) (by omega)).mono ?_
      rintro e w7 ⟨rfl, hb⟩
      rw [← same_yes (by rfl)]
      have B8 := Lib.hid (below_seq B7.out hb)
      clear hb
      go_wp2
      all_goals
        go_ret
        refine ⟨rfl, ?_⟩
        repeat refine below_alloc ?_ _
        exact B8.out
theorem own : ownKnob Try.prog.godebug = none := by kernel_rfl
theorem laidOut : laidOutB Try.prog = true := by kernel_rfl
set_option maxRecDepth 100000 in
theorem lifted (os : Os) (started : os.Started) (H : Type) (enc : TypeId × Value → H) :
    ReturnsInHanded {} Try.checked os 4 .any (Rows.fnPopFrontSpec.pre6 enc Try.prog Try.f4 Rows.fnPopFrontRow.domain false) (Rows.fnPopFrontSpec.post enc Try.prog Try.f4 false true false false) := by
  refine returnsInHanded_of_change (C := Try.checked) own started (by kernel_rfl) Try.func4
    (ChangeSpec.witness6 (enc := enc) (C := Try.checked) false ⟨#[], #[.slice none 0 0], []⟩ 8 (by kernel_rfl) (by kernel_rfl) (by kernel_rfl) (by kernel_rfl)) ?_
  intro W base args ds gs before hval0 hW _ _
  have hval : ∀ (j : Nat) t v, Try.f4.params[j]? = some t → args[j]? = some v → Value.okWide Try.prog W .any base t v := hval0
  have hW' := hW
  obtain ⟨p, q, hA0, hV, rfl, _, _⟩ := hW
  have hA : DataW.TrodAll enc Try.prog W 0 (fun _ => true) true Try.f4.params.toList args.toList ds p := hA0
  rw [Try.params4] at hA hval
  obtain ⟨v0, vs0, d0, ds0, p0, q0, hargs, rfl, rfl, h0, r0⟩ := trodAll_cons hA
  obtain ⟨rfl, rfl, rfl⟩ := trodAll_nil r0
  obtain rfl : args = #[v0] := by cases args; simp_all
  obtain ⟨rfl, rfl⟩ := trodVars_none hV
  have lt0 : ∀ x ∈ p0, x.block < W.heap.size := by obtain ⟨m, hm⟩ := h0; exact DataW.trod_lt m _ _ _ hm
  obtain ⟨a0, n0, c0, rfl⟩ := okWide_slice Try.underlying22 (hval 0 22 v0 rfl rfl)
  have w0 : Bytes W a0 n0 c0 := bytes_open h0
  clear hA0 hval0
  refine (walk a0 n0 c0 W w0).mono fun e W' ⟨he, bel⟩ => ?_
  subst he
  exact ⟨_, rfl, _, _, _, [], _, [], hW', trodAll_mk1 (shut_bool Try.underlying4 _), (trodAll_cons_mk (Below.trod laidOut (by kernel_rfl) (of_decide_eq_true (by kernel_rfl)) h0 bel lt0) trodAll_mk0), rfl, bel.frame _, fun h => by cases h⟩
theorem over : Rows.fnPopFrontRow.holds Try.pinned (OpenSpec.ofChange Rows.fnPopFrontSpec) :=
  OpenClaim.holds_of_wide 4 Try.f4 rfl rfl rfl rfl rfl rfl rfl ⟨rfl, rfl, rfl, rfl, rfl⟩ rfl rfl rfl rfl rfl (by kernel_rfl) Try.func4 (by kernel_rfl)
    (of_decide_eq_true (by kernel_rfl)) (by unfold Func.isWrapper; first | (rw [if_pos (by decide +kernel)]; kernel_rfl) | (rw [if_neg (by decide +kernel)]; exact ⟨rfl, rfl⟩))
    (fun os started H enc _ => lifted os started H enc)
/-- the given statement -/
theorem proved : Rows.FnPopFrontSaid := over
end Go.Proofs.Ytapoahoknlaeaaa.fnPopFront
