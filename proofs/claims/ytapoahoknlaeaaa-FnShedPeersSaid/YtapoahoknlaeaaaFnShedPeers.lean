/-
  The law FnShedPeers returns true at every argument: the first packet that goes is the heaviest peer's last. Conditions: none.
-/
import Derived.Test.YtapoahoknlaeaaaQL
import Derived.Test.YtapoahoknlaeaaaShd
import Derived.Test.YtapoahoknlaeaaaC1
import Derived.Test.YtapoahoknlaeaaaQ5b
namespace Go.Proofs.Ytapoahoknlaeaaa.fnShedPeers
open Go.ChangeShapes Go.WideShapes Go.ChangeAt Go.RowKit

set_option maxHeartbeats 1000000 in
theorem walk (A : Option Addr) (n c : Nat) (w : World) (h : Bytes w A n c) :
    Calls Try.prog 14 #[.slice A n c] w fun e w' => e = .returned (.bool true) ∧ Below w.heap.size w w' := by
  have HB := Lib.hid h
  clear h
  by_cases hbig : ¬ n ≤ 1048576
  · go_enter Try.func14, Try.ntmps14
    go_wp2
    go_ret
    exact ⟨rfl, Below.refl _ _⟩
  have hbig' : n ≤ 1048576 := by omega
  clear hbig
  go_enter Try.func14, Try.ntmps14
  go_wp2_with fail
  refine (drawShedFor_any A n c _ HB.out).mono ?_
  rintro e w1 ⟨lim, A1, n1, c1, ps, x, rfl, hn1, hx, ho, hb⟩
  obtain ⟨hc1, hf1⟩ := bcell hb
  have B1 := Lib.hid (show Below w.heap.size w w1 from (by first | exact below_seq (Below.refl w.heap.size w) hb | exact below_seq1 (Below.refl w.heap.size w) hb | exact below_seq2 (Below.refl w.heap.size w) hb | exact below_seq3 (Below.refl w.heap.size w) hb | exact below_seq4 (Below.refl w.heap.size w) hb))
  have R1 := Lib.hid hb
  have hz1 := hb.size
  try simp at hz1
  clear hb
  have Q := Lib.hid (pr_own ho)
  clear ho hx
  rcases hk : shedOk lim ps x with _ | _
  · have HK := Lib.hid hk
    clear hk
    go_wp2_with fail
    refine (shedI_no lim A1 n1 c1 ps x _ (by first | with_reducible exact Q.out | with_reducible exact pr_alloc Q.out _ | with_reducible exact pr_alloc (pr_alloc Q.out _) _ | with_reducible exact pr_alloc (pr_alloc (pr_alloc Q.out _) _) _) (by omega) HK.out).mono ?_
    rintro e w2 ⟨A2, n2, c2, D2, m2, d2, rfl, hn2, hm2, ho2, hp2, -, hb⟩
    obtain ⟨hc2, hf2⟩ := bcell hb
    have B2 := Lib.hid (show Below w.heap.size w w2 from (by first | exact below_seq B1.out hb | exact below_seq1 B1.out hb | exact below_seq2 B1.out hb | exact below_seq3 B1.out hb | exact below_seq4 B1.out hb))
    have R2 := Lib.hid hb
    have hz2 := hb.size
    try simp at hz2
    clear hb
    try have y20 : w.heap.size < w2.heap.size := by omega
    try have y20a : w.heap.size + 1 < w2.heap.size := by omega
    try have y20b : w.heap.size < w2.heap.size + 1 + 1 := by omega
    try have y20c : w.heap.size + 1 < w2.heap.size + 1 + 1 := by omega
    try have y21 : w1.heap.size < w2.heap.size := by omega
    try have y21a : w1.heap.size + 1 < w2.heap.size := by omega
    try have y21b : w1.heap.size < w2.heap.size + 1 + 1 := by omega
    try have y21c : w1.heap.size + 1 < w2.heap.size + 1 + 1 := by omega
    obtain rfl : n2 = 0 := hn2
    obtain rfl : m2 = 0 := hm2
    have X := Lib.hid (pr_own ho2)
    have G := Lib.hid (pr_own hp2)
    clear ho2 hp2
    replace Q := Lib.hid (show PR w2 _ _ _ from (by first | with_reducible exact pr_below Q.out R2.out | with_reducible exact pr_below (pr_alloc Q.out _) R2.out | with_reducible exact pr_below (pr_alloc (pr_alloc Q.out _) _) R2.out | with_reducible exact pr_below (pr_alloc (pr_alloc (pr_alloc Q.out _) _) _) R2.out))
    go_wp2_with fail
    refine (shedS_no lim A1 n1 c1 ps x _ (by first | with_reducible exact Q.out | with_reducible exact pr_alloc Q.out _ | with_reducible exact pr_alloc (pr_alloc Q.out _) _ | with_reducible exact pr_alloc (pr_alloc (pr_alloc Q.out _) _) _) (by omega) HK.out).mono ?_
    rintro e w3 ⟨A3, n3, c3, B3', m3, d3, rfl, hn3, hm3, ho3, hp3, -, hb⟩
    obtain ⟨hc3, hf3⟩ := bcell hb
    have B3 := Lib.hid (show Below w.heap.size w w3 from (by first | exact below_seq B2.out hb | exact below_seq1 B2.out hb | exact below_seq2 B2.out hb | exact below_seq3 B2.out hb | exact below_seq4 B2.out hb))
    have R3 := Lib.hid hb
    have hz3 := hb.size
    try simp at hz3
    clear hb
    try have y30 : w.heap.size < w3.heap.size := by omega
    try have y30a : w.heap.size + 1 < w3.heap.size := by omega
    try have y30b : w.heap.size < w3.heap.size + 1 + 1 := by omega
    try have y30c : w.heap.size + 1 < w3.heap.size + 1 + 1 := by omega
    try have y31 : w1.heap.size < w3.heap.size := by omega
    try have y31a : w1.heap.size + 1 < w3.heap.size := by omega
    try have y31b : w1.heap.size < w3.heap.size + 1 + 1 := by omega
    try have y31c : w1.heap.size + 1 < w3.heap.size + 1 + 1 := by omega
    try have y32 : w2.heap.size < w3.heap.size := by omega
    try have y32a : w2.heap.size + 1 < w3.heap.size := by omega
    try have y32b : w2.heap.size < w3.heap.size + 1 + 1 := by omega
    try have y32c : w2.heap.size + 1 < w3.heap.size + 1 + 1 := by omega
    obtain rfl : n3 = 0 := hn3
    obtain rfl : m3 = 0 := hm3
    have Y := Lib.hid (pr_own ho3)
    have H := Lib.hid (pr_own hp3)
    replace X := Lib.hid (show PR w3 _ _ _ from (by first | with_reducible exact pr_below X.out R3.out | with_reducible exact pr_below (pr_alloc X.out _) R3.out | with_reducible exact pr_below (pr_alloc (pr_alloc X.out _) _) R3.out | with_reducible exact pr_below (pr_alloc (pr_alloc (pr_alloc X.out _) _) _) R3.out))
    replace G := Lib.hid (show PR w3 _ _ _ from (by first | with_reducible exact pr_below G.out R3.out | with_reducible exact pr_below (pr_alloc G.out _) R3.out | with_reducible exact pr_below (pr_alloc (pr_alloc G.out _) _) R3.out | with_reducible exact pr_below (pr_alloc (pr_alloc (pr_alloc G.out _) _) _) R3.out))
    clear ho3 hp3
    go_wp2_with fail
    refine (sameQI_any 0 0 A2 A3 0 c2 0 c3 [] [] _ (by first | with_reducible exact X.out | with_reducible exact pr_alloc X.out _ | with_reducible exact pr_alloc (pr_alloc X.out _) _ | with_reducible exact pr_alloc (pr_alloc (pr_alloc X.out _) _) _) (by first | with_reducible exact Y.out | with_reducible exact pr_alloc Y.out _ | with_reducible exact pr_alloc (pr_alloc Y.out _) _ | with_reducible exact pr_alloc (pr_alloc (pr_alloc Y.out _) _) _) (by omega) (by omega)).mono ?_
    rintro e w4 ⟨rfl, hb⟩
    obtain ⟨hc4, hf4⟩ := bcell hb
    have B4 := Lib.hid (show Below w.heap.size w w4 from (by first | exact below_seq B3.out hb | exact below_seq1 B3.out hb | exact below_seq2 B3.out hb | exact below_seq3 B3.out hb | exact below_seq4 B3.out hb))
    have R4 := Lib.hid hb
    have hz4 := hb.size
    try simp at hz4
    clear hb
    try have y40 : w.heap.size < w4.heap.size := by omega
    try have y40a : w.heap.size + 1 < w4.heap.size := by omega
    try have y40b : w.heap.size < w4.heap.size + 1 + 1 := by omega
    try have y40c : w.heap.size + 1 < w4.heap.size + 1 + 1 := by omega
    try have y41 : w1.heap.size < w4.heap.size := by omega
    try have y41a : w1.heap.size + 1 < w4.heap.size := by omega
    try have y41b : w1.heap.size < w4.heap.size + 1 + 1 := by omega
    try have y41c : w1.heap.size + 1 < w4.heap.size + 1 + 1 := by omega
    try have y42 : w2.heap.size < w4.heap.size := by omega
    try have y42a : w2.heap.size + 1 < w4.heap.size := by omega
    try have y42b : w2.heap.size < w4.heap.size + 1 + 1 := by omega
    try have y42c : w2.heap.size + 1 < w4.heap.size + 1 + 1 := by omega
    try have y43 : w3.heap.size < w4.heap.size := by omega
    try have y43a : w3.heap.size + 1 < w4.heap.size := by omega
    try have y43b : w3.heap.size < w4.heap.size + 1 + 1 := by omega
    try have y43c : w3.heap.size + 1 < w4.heap.size + 1 + 1 := by omega
    rw [qs_refl]
    replace X := Lib.hid (show PR w4 _ _ _ from (by first | with_reducible exact pr_below X.out R4.out | with_reducible exact pr_below (pr_alloc X.out _) R4.out | with_reducible exact pr_below (pr_alloc (pr_alloc X.out _) _) R4.out | with_reducible exact pr_below (pr_alloc (pr_alloc (pr_alloc X.out _) _) _) R4.out))
    replace Y := Lib.hid (show PR w4 _ _ _ from (by first | with_reducible exact pr_below Y.out R4.out | with_reducible exact pr_below (pr_alloc Y.out _) R4.out | with_reducible exact pr_below (pr_alloc (pr_alloc Y.out _) _) R4.out | with_reducible exact pr_below (pr_alloc (pr_alloc (pr_alloc Y.out _) _) _) R4.out))
    replace G := Lib.hid (show PR w4 _ _ _ from (by first | with_reducible exact pr_below G.out R4.out | with_reducible exact pr_below (pr_alloc G.out _) R4.out | with_reducible exact pr_below (pr_alloc (pr_alloc G.out _) _) R4.out | with_reducible exact pr_below (pr_alloc (pr_alloc (pr_alloc G.out _) _) _) R4.out))
    replace H := Lib.hid (show PR w4 _ _ _ from (by first | with_reducible exact pr_below H.out R4.out | with_reducible exact pr_below (pr_alloc H.out _) R4.out | with_reducible exact pr_below (pr_alloc (pr_alloc H.out _) _) R4.out | with_reducible exact pr_below (pr_alloc (pr_alloc (pr_alloc H.out _) _) _) R4.out))
    go_wp2_with fail
    refine (sameI_any D2 B3' 0 d2 0 d3 [] [] _ (by first | with_reducible exact G.out | with_reducible exact pr_alloc G.out _ | with_reducible exact pr_alloc (pr_alloc G.out _) _ | with_reducible exact pr_alloc (pr_alloc (pr_alloc G.out _) _) _) (by first | with_reducible exact H.out | with_reducible exact pr_alloc H.out _ | with_reducible exact pr_alloc (pr_alloc H.out _) _ | with_reducible exact pr_alloc (pr_alloc (pr_alloc H.out _) _) _) (by omega) (by omega)).mono ?_
    rintro e w5 ⟨rfl, hb⟩
    obtain ⟨hc5, hf5⟩ := bcell hb
    have B5 := Lib.hid (show Below w.heap.size w w5 from (by first | exact below_seq B4.out hb | exact below_seq1 B4.out hb | exact below_seq2 B4.out hb | exact below_seq3 B4.out hb | exact below_seq4 B4.out hb))
    have R5 := Lib.hid hb
    have hz5 := hb.size
    try simp at hz5
    clear hb
    try have y50 : w.heap.size < w5.heap.size := by omega
    try have y50a : w.heap.size + 1 < w5.heap.size := by omega
    try have y50b : w.heap.size < w5.heap.size + 1 + 1 := by omega
    try have y50c : w.heap.size + 1 < w5.heap.size + 1 + 1 := by omega
    try have y51 : w1.heap.size < w5.heap.size := by omega
    try have y51a : w1.heap.size + 1 < w5.heap.size := by omega
    try have y51b : w1.heap.size < w5.heap.size + 1 + 1 := by omega
    try have y51c : w1.heap.size + 1 < w5.heap.size + 1 + 1 := by omega
    try have y52 : w2.heap.size < w5.heap.size := by omega
    try have y52a : w2.heap.size + 1 < w5.heap.size := by omega
    try have y52b : w2.heap.size < w5.heap.size + 1 + 1 := by omega
    try have y52c : w2.heap.size + 1 < w5.heap.size + 1 + 1 := by omega
    try have y53 : w3.heap.size < w5.heap.size := by omega
    try have y53a : w3.heap.size + 1 < w5.heap.size := by omega
    try have y53b : w3.heap.size < w5.heap.size + 1 + 1 := by omega
    try have y53c : w3.heap.size + 1 < w5.heap.size + 1 + 1 := by omega
    try have y54 : w4.heap.size < w5.heap.size := by omega
    try have y54a : w4.heap.size + 1 < w5.heap.size := by omega
    try have y54b : w4.heap.size < w5.heap.size + 1 + 1 := by omega
    try have y54c : w4.heap.size + 1 < w5.heap.size + 1 + 1 := by omega
    rw [← same_yes (by rfl)]
    replace X := Lib.hid (show PR w5 _ _ _ from (by first | with_reducible exact pr_below X.out R5.out | with_reducible exact pr_below (pr_alloc X.out _) R5.out | with_reducible exact pr_below (pr_alloc (pr_alloc X.out _) _) R5.out | with_reducible exact pr_below (pr_alloc (pr_alloc (pr_alloc X.out _) _) _) R5.out))
    replace Y := Lib.hid (show PR w5 _ _ _ from (by first | with_reducible exact pr_below Y.out R5.out | with_reducible exact pr_below (pr_alloc Y.out _) R5.out | with_reducible exact pr_below (pr_alloc (pr_alloc Y.out _) _) R5.out | with_reducible exact pr_below (pr_alloc (pr_alloc (pr_alloc Y.out _) _) _) R5.out))
    replace G := Lib.hid (show PR w5 _ _ _ from (by first | with_reducible exact pr_below G.out R5.out | with_reducible exact pr_below (pr_alloc G.out _) R5.out | with_reducible exact pr_below (pr_alloc (pr_alloc G.out _) _) R5.out | with_reducible exact pr_below (pr_alloc (pr_alloc (pr_alloc G.out _) _) _) R5.out))
    replace H := Lib.hid (show PR w5 _ _ _ from (by first | with_reducible exact pr_below H.out R5.out | with_reducible exact pr_below (pr_alloc H.out _) R5.out | with_reducible exact pr_below (pr_alloc (pr_alloc H.out _) _) R5.out | with_reducible exact pr_below (pr_alloc (pr_alloc (pr_alloc H.out _) _) _) R5.out))
    go_wp2_with fail
    refine (sameQI_any 0 0 A2 A3 0 c2 0 c3 [] [] _ (by first | with_reducible exact X.out | with_reducible exact pr_alloc X.out _ | with_reducible exact pr_alloc (pr_alloc X.out _) _ | with_reducible exact pr_alloc (pr_alloc (pr_alloc X.out _) _) _) (by first | with_reducible exact Y.out | with_reducible exact pr_alloc Y.out _ | with_reducible exact pr_alloc (pr_alloc Y.out _) _ | with_reducible exact pr_alloc (pr_alloc (pr_alloc Y.out _) _) _) (by omega) (by omega)).mono ?_
    rintro e w6 ⟨rfl, hb⟩
    obtain ⟨hc6, hf6⟩ := bcell hb
    have B6 := Lib.hid (show Below w.heap.size w w6 from (by first | exact below_seq B5.out hb | exact below_seq1 B5.out hb | exact below_seq2 B5.out hb | exact below_seq3 B5.out hb | exact below_seq4 B5.out hb))
    have R6 := Lib.hid hb
    have hz6 := hb.size
    try simp at hz6
    clear hb
    try have y60 : w.heap.size < w6.heap.size := by omega
    try have y60a : w.heap.size + 1 < w6.heap.size := by omega
    try have y60b : w.heap.size < w6.heap.size + 1 + 1 := by omega
    try have y60c : w.heap.size + 1 < w6.heap.size + 1 + 1 := by omega
    try have y61 : w1.heap.size < w6.heap.size := by omega
    try have y61a : w1.heap.size + 1 < w6.heap.size := by omega
    try have y61b : w1.heap.size < w6.heap.size + 1 + 1 := by omega
    try have y61c : w1.heap.size + 1 < w6.heap.size + 1 + 1 := by omega
    try have y62 : w2.heap.size < w6.heap.size := by omega
    try have y62a : w2.heap.size + 1 < w6.heap.size := by omega
    try have y62b : w2.heap.size < w6.heap.size + 1 + 1 := by omega
    try have y62c : w2.heap.size + 1 < w6.heap.size + 1 + 1 := by omega
    try have y63 : w3.heap.size < w6.heap.size := by omega
    try have y63a : w3.heap.size + 1 < w6.heap.size := by omega
    try have y63b : w3.heap.size < w6.heap.size + 1 + 1 := by omega
    try have y63c : w3.heap.size + 1 < w6.heap.size + 1 + 1 := by omega
    try have y64 : w4.heap.size < w6.heap.size := by omega
    try have y64a : w4.heap.size + 1 < w6.heap.size := by omega
    try have y64b : w4.heap.size < w6.heap.size + 1 + 1 := by omega
    try have y64c : w4.heap.size + 1 < w6.heap.size + 1 + 1 := by omega
    try have y65 : w5.heap.size < w6.heap.size := by omega
    try have y65a : w5.heap.size + 1 < w6.heap.size := by omega
    try have y65b : w5.heap.size < w6.heap.size + 1 + 1 := by omega
    try have y65c : w5.heap.size + 1 < w6.heap.size + 1 + 1 := by omega
    rw [qs_refl]
    replace X := Lib.hid (show PR w6 _ _ _ from (by first | with_reducible exact pr_below X.out R6.out | with_reducible exact pr_below (pr_alloc X.out _) R6.out | with_reducible exact pr_below (pr_alloc (pr_alloc X.out _) _) R6.out | with_reducible exact pr_below (pr_alloc (pr_alloc (pr_alloc X.out _) _) _) R6.out))
    replace Y := Lib.hid (show PR w6 _ _ _ from (by first | with_reducible exact pr_below Y.out R6.out | with_reducible exact pr_below (pr_alloc Y.out _) R6.out | with_reducible exact pr_below (pr_alloc (pr_alloc Y.out _) _) R6.out | with_reducible exact pr_below (pr_alloc (pr_alloc (pr_alloc Y.out _) _) _) R6.out))
    replace G := Lib.hid (show PR w6 _ _ _ from (by first | with_reducible exact pr_below G.out R6.out | with_reducible exact pr_below (pr_alloc G.out _) R6.out | with_reducible exact pr_below (pr_alloc (pr_alloc G.out _) _) R6.out | with_reducible exact pr_below (pr_alloc (pr_alloc (pr_alloc G.out _) _) _) R6.out))
    replace H := Lib.hid (show PR w6 _ _ _ from (by first | with_reducible exact pr_below H.out R6.out | with_reducible exact pr_below (pr_alloc H.out _) R6.out | with_reducible exact pr_below (pr_alloc (pr_alloc H.out _) _) R6.out | with_reducible exact pr_below (pr_alloc (pr_alloc (pr_alloc H.out _) _) _) R6.out))
    go_wp2_with fail
    refine (sameI_any D2 B3' 0 d2 0 d3 [] [] _ (by first | with_reducible exact G.out | with_reducible exact pr_alloc G.out _ | with_reducible exact pr_alloc (pr_alloc G.out _) _ | with_reducible exact pr_alloc (pr_alloc (pr_alloc G.out _) _) _) (by first | with_reducible exact H.out | with_reducible exact pr_alloc H.out _ | with_reducible exact pr_alloc (pr_alloc H.out _) _ | with_reducible exact pr_alloc (pr_alloc (pr_alloc H.out _) _) _) (by omega) (by omega)).mono ?_
    rintro e w7 ⟨rfl, hb⟩
    obtain ⟨hc7, hf7⟩ := bcell hb
    have B7 := Lib.hid (show Below w.heap.size w w7 from (by first | exact below_seq B6.out hb | exact below_seq1 B6.out hb | exact below_seq2 B6.out hb | exact below_seq3 B6.out hb | exact below_seq4 B6.out hb))
    have R7 := Lib.hid hb
    have hz7 := hb.size
    try simp at hz7
    clear hb
    try have y70 : w.heap.size < w7.heap.size := by omega
    try have y70a : w.heap.size + 1 < w7.heap.size := by omega
    try have y70b : w.heap.size < w7.heap.size + 1 + 1 := by omega
    try have y70c : w.heap.size + 1 < w7.heap.size + 1 + 1 := by omega
    try have y71 : w1.heap.size < w7.heap.size := by omega
    try have y71a : w1.heap.size + 1 < w7.heap.size := by omega
    try have y71b : w1.heap.size < w7.heap.size + 1 + 1 := by omega
    try have y71c : w1.heap.size + 1 < w7.heap.size + 1 + 1 := by omega
    try have y72 : w2.heap.size < w7.heap.size := by omega
    try have y72a : w2.heap.size + 1 < w7.heap.size := by omega
    try have y72b : w2.heap.size < w7.heap.size + 1 + 1 := by omega
    try have y72c : w2.heap.size + 1 < w7.heap.size + 1 + 1 := by omega
    try have y73 : w3.heap.size < w7.heap.size := by omega
    try have y73a : w3.heap.size + 1 < w7.heap.size := by omega
    try have y73b : w3.heap.size < w7.heap.size + 1 + 1 := by omega
    try have y73c : w3.heap.size + 1 < w7.heap.size + 1 + 1 := by omega
    try have y74 : w4.heap.size < w7.heap.size := by omega
    try have y74a : w4.heap.size + 1 < w7.heap.size := by omega
    try have y74b : w4.heap.size < w7.heap.size + 1 + 1 := by omega
    try have y74c : w4.heap.size + 1 < w7.heap.size + 1 + 1 := by omega
    try have y75 : w5.heap.size < w7.heap.size := by omega
    try have y75a : w5.heap.size + 1 < w7.heap.size := by omega
    try have y75b : w5.heap.size < w7.heap.size + 1 + 1 := by omega
    try have y75c : w5.heap.size + 1 < w7.heap.size + 1 + 1 := by omega
    try have y76 : w6.heap.size < w7.heap.size := by omega
    try have y76a : w6.heap.size + 1 < w7.heap.size := by omega
    try have y76b : w6.heap.size < w7.heap.size + 1 + 1 := by omega
    try have y76c : w6.heap.size + 1 < w7.heap.size + 1 + 1 := by omega
    rw [← same_yes (by rfl)]
    go_wp2
    all_goals
      go_ret
      refine ⟨rfl, ?_⟩
      repeat refine below_alloc ?_ _
      exact B7.out
  · obtain ⟨R, g, hR, hg, hq, hqR, hl, hsR, hs1, hs2, hcase⟩ := shed_law hk
    obtain ⟨-, -, s0, s1⟩ := shed_of hk
    have HK := Lib.hid hk
    have HQ := Lib.hid hq
    have HQR := Lib.hid hqR
    have h64 : ps.length ≤ 64 := (qv_of hq).2.2.2.2.2
    have HLR : R.length ≤ 67 := by omega
    have HLG : g.length ≤ 67 := by omega
    have HR := Lib.hid hR
    have HG := Lib.hid hg
    have HLL := Lib.hid hl
    have HLP := Lib.hid Q.out.1
    have HC : Hid (g.length = 0 ∨ ∃ k q, g.length = k + 1 ∧ g[0]? = some q ∧ heavyP lim ps = true ∧ (ofPeer ps (heavy ps : Nat)).getLast? = some q) := Lib.hid (by
      rcases hcase with ⟨h1, h2⟩ | ⟨k, p, q, h1, -, h2, h3, h4, h5, h6⟩
      · exact .inl h1
      · have hne := shed_some s1 h5
        obtain ⟨-, -, p', j1, -, j2⟩ := cut_spec (ok_of (qv_of hq).1).2 hne
        obtain rfl : q = p' := by rw [h6] at j1; injection j1
        exact .inr ⟨k, q, h1, h2, by simp [heavyP, hq, hne], j2⟩)
    clear hk hq hqR hcase hs1 hs2 hsR hR hg hl
    go_wp2_with fail
    refine (shedI_yes lim A1 n1 c1 ps x _ (by first | with_reducible exact Q.out | with_reducible exact pr_alloc Q.out _ | with_reducible exact pr_alloc (pr_alloc Q.out _) _ | with_reducible exact pr_alloc (pr_alloc (pr_alloc Q.out _) _) _) (by omega) HK.out).mono ?_
    rintro e w2 ⟨A2, n2, c2, D2, m2, d2, rfl, hn2, hm2, ho2, hp2, -, hb⟩
    obtain ⟨hc2, hf2⟩ := bcell hb
    have B2 := Lib.hid (show Below w.heap.size w w2 from (by first | exact below_seq B1.out hb | exact below_seq1 B1.out hb | exact below_seq2 B1.out hb | exact below_seq3 B1.out hb | exact below_seq4 B1.out hb))
    have R2 := Lib.hid hb
    have hz2 := hb.size
    try simp at hz2
    clear hb
    try have y20 : w.heap.size < w2.heap.size := by omega
    try have y20a : w.heap.size + 1 < w2.heap.size := by omega
    try have y20b : w.heap.size < w2.heap.size + 1 + 1 := by omega
    try have y20c : w.heap.size + 1 < w2.heap.size + 1 + 1 := by omega
    try have y21 : w1.heap.size < w2.heap.size := by omega
    try have y21a : w1.heap.size + 1 < w2.heap.size := by omega
    try have y21b : w1.heap.size < w2.heap.size + 1 + 1 := by omega
    try have y21c : w1.heap.size + 1 < w2.heap.size + 1 + 1 := by omega
    rw [← HR.out] at ho2 hn2
    rw [← HG.out] at hp2 hm2
    have X := Lib.hid (pr_own ho2)
    have G := Lib.hid (pr_own hp2)
    have l2 : n2 ≤ 67 := by omega
    have l2g : m2 ≤ 67 := by omega
    have hnm : n2 + m2 = n1 := by have := HLL.out; have := HLP.out; omega
    have HN2 := Lib.hid hn2
    have HM2 := Lib.hid hm2
    clear ho2 hp2 hn2 hm2
    replace Q := Lib.hid (show PR w2 _ _ _ from (by first | with_reducible exact pr_below Q.out R2.out | with_reducible exact pr_below (pr_alloc Q.out _) R2.out | with_reducible exact pr_below (pr_alloc (pr_alloc Q.out _) _) R2.out | with_reducible exact pr_below (pr_alloc (pr_alloc (pr_alloc Q.out _) _) _) R2.out))
    go_wp2_with fail
    refine (shedS_yes lim A1 n1 c1 ps x _ (by first | with_reducible exact Q.out | with_reducible exact pr_alloc Q.out _ | with_reducible exact pr_alloc (pr_alloc Q.out _) _ | with_reducible exact pr_alloc (pr_alloc (pr_alloc Q.out _) _) _) (by omega) HK.out).mono ?_
    rintro e w3 ⟨A3, n3, c3, B3', m3, d3, rfl, hn3, hm3, ho3, hp3, -, hb⟩
    obtain ⟨hc3, hf3⟩ := bcell hb
    have B3 := Lib.hid (show Below w.heap.size w w3 from (by first | exact below_seq B2.out hb | exact below_seq1 B2.out hb | exact below_seq2 B2.out hb | exact below_seq3 B2.out hb | exact below_seq4 B2.out hb))
    have R3 := Lib.hid hb
    have hz3 := hb.size
    try simp at hz3
    clear hb
    try have y30 : w.heap.size < w3.heap.size := by omega
    try have y30a : w.heap.size + 1 < w3.heap.size := by omega
    try have y30b : w.heap.size < w3.heap.size + 1 + 1 := by omega
    try have y30c : w.heap.size + 1 < w3.heap.size + 1 + 1 := by omega
    try have y31 : w1.heap.size < w3.heap.size := by omega
    try have y31a : w1.heap.size + 1 < w3.heap.size := by omega
    try have y31b : w1.heap.size < w3.heap.size + 1 + 1 := by omega
    try have y31c : w1.heap.size + 1 < w3.heap.size + 1 + 1 := by omega
    try have y32 : w2.heap.size < w3.heap.size := by omega
    try have y32a : w2.heap.size + 1 < w3.heap.size := by omega
    try have y32b : w2.heap.size < w3.heap.size + 1 + 1 := by omega
    try have y32c : w2.heap.size + 1 < w3.heap.size + 1 + 1 := by omega
    rw [← HR.out] at ho3 hn3
    rw [← HG.out] at hp3 hm3
    have Y := Lib.hid (pr_own ho3)
    have H := Lib.hid (pr_own hp3)
    have l3 : n3 ≤ 67 := by omega
    have l3g : m3 ≤ 67 := by omega
    replace X := Lib.hid (show PR w3 _ _ _ from (by first | with_reducible exact pr_below X.out R3.out | with_reducible exact pr_below (pr_alloc X.out _) R3.out | with_reducible exact pr_below (pr_alloc (pr_alloc X.out _) _) R3.out | with_reducible exact pr_below (pr_alloc (pr_alloc (pr_alloc X.out _) _) _) R3.out))
    replace G := Lib.hid (show PR w3 _ _ _ from (by first | with_reducible exact pr_below G.out R3.out | with_reducible exact pr_below (pr_alloc G.out _) R3.out | with_reducible exact pr_below (pr_alloc (pr_alloc G.out _) _) R3.out | with_reducible exact pr_below (pr_alloc (pr_alloc (pr_alloc G.out _) _) _) R3.out))
    replace Q := Lib.hid (show PR w3 _ _ _ from (by first | with_reducible exact pr_below Q.out R3.out | with_reducible exact pr_below (pr_alloc Q.out _) R3.out | with_reducible exact pr_below (pr_alloc (pr_alloc Q.out _) _) R3.out | with_reducible exact pr_below (pr_alloc (pr_alloc (pr_alloc Q.out _) _) _) R3.out))
    clear ho3 hp3 hn3 hm3
    go_wp2_with fail
    refine (sameQI_any lim lim A2 A3 n2 c2 n3 c3 R R _ (by first | with_reducible exact X.out | with_reducible exact pr_alloc X.out _ | with_reducible exact pr_alloc (pr_alloc X.out _) _ | with_reducible exact pr_alloc (pr_alloc (pr_alloc X.out _) _) _) (by first | with_reducible exact Y.out | with_reducible exact pr_alloc Y.out _ | with_reducible exact pr_alloc (pr_alloc Y.out _) _ | with_reducible exact pr_alloc (pr_alloc (pr_alloc Y.out _) _) _) (by omega) (by omega)).mono ?_
    rintro e w4 ⟨rfl, hb⟩
    obtain ⟨hc4, hf4⟩ := bcell hb
    have B4 := Lib.hid (show Below w.heap.size w w4 from (by first | exact below_seq B3.out hb | exact below_seq1 B3.out hb | exact below_seq2 B3.out hb | exact below_seq3 B3.out hb | exact below_seq4 B3.out hb))
    have R4 := Lib.hid hb
    have hz4 := hb.size
    try simp at hz4
    clear hb
    try have y40 : w.heap.size < w4.heap.size := by omega
    try have y40a : w.heap.size + 1 < w4.heap.size := by omega
    try have y40b : w.heap.size < w4.heap.size + 1 + 1 := by omega
    try have y40c : w.heap.size + 1 < w4.heap.size + 1 + 1 := by omega
    try have y41 : w1.heap.size < w4.heap.size := by omega
    try have y41a : w1.heap.size + 1 < w4.heap.size := by omega
    try have y41b : w1.heap.size < w4.heap.size + 1 + 1 := by omega
    try have y41c : w1.heap.size + 1 < w4.heap.size + 1 + 1 := by omega
    try have y42 : w2.heap.size < w4.heap.size := by omega
    try have y42a : w2.heap.size + 1 < w4.heap.size := by omega
    try have y42b : w2.heap.size < w4.heap.size + 1 + 1 := by omega
    try have y42c : w2.heap.size + 1 < w4.heap.size + 1 + 1 := by omega
    try have y43 : w3.heap.size < w4.heap.size := by omega
    try have y43a : w3.heap.size + 1 < w4.heap.size := by omega
    try have y43b : w3.heap.size < w4.heap.size + 1 + 1 := by omega
    try have y43c : w3.heap.size + 1 < w4.heap.size + 1 + 1 := by omega
    rw [qs_refl]
    replace X := Lib.hid (show PR w4 _ _ _ from (by first | with_reducible exact pr_below X.out R4.out | with_reducible exact pr_below (pr_alloc X.out _) R4.out | with_reducible exact pr_below (pr_alloc (pr_alloc X.out _) _) R4.out | with_reducible exact pr_below (pr_alloc (pr_alloc (pr_alloc X.out _) _) _) R4.out))
    replace Y := Lib.hid (show PR w4 _ _ _ from (by first | with_reducible exact pr_below Y.out R4.out | with_reducible exact pr_below (pr_alloc Y.out _) R4.out | with_reducible exact pr_below (pr_alloc (pr_alloc Y.out _) _) R4.out | with_reducible exact pr_below (pr_alloc (pr_alloc (pr_alloc Y.out _) _) _) R4.out))
    replace G := Lib.hid (show PR w4 _ _ _ from (by first | with_reducible exact pr_below G.out R4.out | with_reducible exact pr_below (pr_alloc G.out _) R4.out | with_reducible exact pr_below (pr_alloc (pr_alloc G.out _) _) R4.out | with_reducible exact pr_below (pr_alloc (pr_alloc (pr_alloc G.out _) _) _) R4.out))
    replace H := Lib.hid (show PR w4 _ _ _ from (by first | with_reducible exact pr_below H.out R4.out | with_reducible exact pr_below (pr_alloc H.out _) R4.out | with_reducible exact pr_below (pr_alloc (pr_alloc H.out _) _) R4.out | with_reducible exact pr_below (pr_alloc (pr_alloc (pr_alloc H.out _) _) _) R4.out))
    replace Q := Lib.hid (show PR w4 _ _ _ from (by first | with_reducible exact pr_below Q.out R4.out | with_reducible exact pr_below (pr_alloc Q.out _) R4.out | with_reducible exact pr_below (pr_alloc (pr_alloc Q.out _) _) R4.out | with_reducible exact pr_below (pr_alloc (pr_alloc (pr_alloc Q.out _) _) _) R4.out))
    go_wp2_with fail
    refine (sameI_any D2 B3' m2 d2 m3 d3 g g _ (by first | with_reducible exact G.out | with_reducible exact pr_alloc G.out _ | with_reducible exact pr_alloc (pr_alloc G.out _) _ | with_reducible exact pr_alloc (pr_alloc (pr_alloc G.out _) _) _) (by first | with_reducible exact H.out | with_reducible exact pr_alloc H.out _ | with_reducible exact pr_alloc (pr_alloc H.out _) _ | with_reducible exact pr_alloc (pr_alloc (pr_alloc H.out _) _) _) (by omega) (by omega)).mono ?_
    rintro e w5 ⟨rfl, hb⟩
    obtain ⟨hc5, hf5⟩ := bcell hb
    have B5 := Lib.hid (show Below w.heap.size w w5 from (by first | exact below_seq B4.out hb | exact below_seq1 B4.out hb | exact below_seq2 B4.out hb | exact below_seq3 B4.out hb | exact below_seq4 B4.out hb))
    have R5 := Lib.hid hb
    have hz5 := hb.size
    try simp at hz5
    clear hb
    try have y50 : w.heap.size < w5.heap.size := by omega
    try have y50a : w.heap.size + 1 < w5.heap.size := by omega
    try have y50b : w.heap.size < w5.heap.size + 1 + 1 := by omega
    try have y50c : w.heap.size + 1 < w5.heap.size + 1 + 1 := by omega
    try have y51 : w1.heap.size < w5.heap.size := by omega
    try have y51a : w1.heap.size + 1 < w5.heap.size := by omega
    try have y51b : w1.heap.size < w5.heap.size + 1 + 1 := by omega
    try have y51c : w1.heap.size + 1 < w5.heap.size + 1 + 1 := by omega
    try have y52 : w2.heap.size < w5.heap.size := by omega
    try have y52a : w2.heap.size + 1 < w5.heap.size := by omega
    try have y52b : w2.heap.size < w5.heap.size + 1 + 1 := by omega
    try have y52c : w2.heap.size + 1 < w5.heap.size + 1 + 1 := by omega
    try have y53 : w3.heap.size < w5.heap.size := by omega
    try have y53a : w3.heap.size + 1 < w5.heap.size := by omega
    try have y53b : w3.heap.size < w5.heap.size + 1 + 1 := by omega
    try have y53c : w3.heap.size + 1 < w5.heap.size + 1 + 1 := by omega
    try have y54 : w4.heap.size < w5.heap.size := by omega
    try have y54a : w4.heap.size + 1 < w5.heap.size := by omega
    try have y54b : w4.heap.size < w5.heap.size + 1 + 1 := by omega
    try have y54c : w4.heap.size + 1 < w5.heap.size + 1 + 1 := by omega
    rw [← same_yes (by rfl)]
    replace X := Lib.hid (show PR w5 _ _ _ from (by first | with_reducible exact pr_below X.out R5.out | with_reducible exact pr_below (pr_alloc X.out _) R5.out | with_reducible exact pr_below (pr_alloc (pr_alloc X.out _) _) R5.out | with_reducible exact pr_below (pr_alloc (pr_alloc (pr_alloc X.out _) _) _) R5.out))
    replace Y := Lib.hid (show PR w5 _ _ _ from (by first | with_reducible exact pr_below Y.out R5.out | with_reducible exact pr_below (pr_alloc Y.out _) R5.out | with_reducible exact pr_below (pr_alloc (pr_alloc Y.out _) _) R5.out | with_reducible exact pr_below (pr_alloc (pr_alloc (pr_alloc Y.out _) _) _) R5.out))
    replace G := Lib.hid (show PR w5 _ _ _ from (by first | with_reducible exact pr_below G.out R5.out | with_reducible exact pr_below (pr_alloc G.out _) R5.out | with_reducible exact pr_below (pr_alloc (pr_alloc G.out _) _) R5.out | with_reducible exact pr_below (pr_alloc (pr_alloc (pr_alloc G.out _) _) _) R5.out))
    replace H := Lib.hid (show PR w5 _ _ _ from (by first | with_reducible exact pr_below H.out R5.out | with_reducible exact pr_below (pr_alloc H.out _) R5.out | with_reducible exact pr_below (pr_alloc (pr_alloc H.out _) _) R5.out | with_reducible exact pr_below (pr_alloc (pr_alloc (pr_alloc H.out _) _) _) R5.out))
    replace Q := Lib.hid (show PR w5 _ _ _ from (by first | with_reducible exact pr_below Q.out R5.out | with_reducible exact pr_below (pr_alloc Q.out _) R5.out | with_reducible exact pr_below (pr_alloc (pr_alloc Q.out _) _) R5.out | with_reducible exact pr_below (pr_alloc (pr_alloc (pr_alloc Q.out _) _) _) R5.out))
    rcases HC.out with g0 | ⟨k, q, gk, hq0, hhv, hlast⟩
    · obtain rfl : m2 = 0 := by have := HM2.out; omega
      go_wp2_with fail
      refine (sameQI_any lim lim A2 A3 n2 c2 n3 c3 R R _ (by first | with_reducible exact X.out | with_reducible exact pr_alloc X.out _ | with_reducible exact pr_alloc (pr_alloc X.out _) _ | with_reducible exact pr_alloc (pr_alloc (pr_alloc X.out _) _) _) (by first | with_reducible exact Y.out | with_reducible exact pr_alloc Y.out _ | with_reducible exact pr_alloc (pr_alloc Y.out _) _ | with_reducible exact pr_alloc (pr_alloc (pr_alloc Y.out _) _) _) (by omega) (by omega)).mono ?_
      rintro e w6 ⟨rfl, hb⟩
      obtain ⟨hc6, hf6⟩ := bcell hb
      have B6 := Lib.hid (show Below w.heap.size w w6 from (by first | exact below_seq B5.out hb | exact below_seq1 B5.out hb | exact below_seq2 B5.out hb | exact below_seq3 B5.out hb | exact below_seq4 B5.out hb))
      have R6 := Lib.hid hb
      have hz6 := hb.size
      try simp at hz6
      clear hb
      try have y60 : w.heap.size < w6.heap.size := by omega
      try have y60a : w.heap.size + 1 < w6.heap.size := by omega
      try have y60b : w.heap.size < w6.heap.size + 1 + 1 := by omega
      try have y60c : w.heap.size + 1 < w6.heap.size + 1 + 1 := by omega
      try have y61 : w1.heap.size < w6.heap.size := by omega
      try have y61a : w1.heap.size + 1 < w6.heap.size := by omega
      try have y61b : w1.heap.size < w6.heap.size + 1 + 1 := by omega
      try have y61c : w1.heap.size + 1 < w6.heap.size + 1 + 1 := by omega
      try have y62 : w2.heap.size < w6.heap.size := by omega
      try have y62a : w2.heap.size + 1 < w6.heap.size := by omega
      try have y62b : w2.heap.size < w6.heap.size + 1 + 1 := by omega
      try have y62c : w2.heap.size + 1 < w6.heap.size + 1 + 1 := by omega
      try have y63 : w3.heap.size < w6.heap.size := by omega
      try have y63a : w3.heap.size + 1 < w6.heap.size := by omega
      try have y63b : w3.heap.size < w6.heap.size + 1 + 1 := by omega
      try have y63c : w3.heap.size + 1 < w6.heap.size + 1 + 1 := by omega
      try have y64 : w4.heap.size < w6.heap.size := by omega
      try have y64a : w4.heap.size + 1 < w6.heap.size := by omega
      try have y64b : w4.heap.size < w6.heap.size + 1 + 1 := by omega
      try have y64c : w4.heap.size + 1 < w6.heap.size + 1 + 1 := by omega
      try have y65 : w5.heap.size < w6.heap.size := by omega
      try have y65a : w5.heap.size + 1 < w6.heap.size := by omega
      try have y65b : w5.heap.size < w6.heap.size + 1 + 1 := by omega
      try have y65c : w5.heap.size + 1 < w6.heap.size + 1 + 1 := by omega
      rw [qs_refl]
      replace G := Lib.hid (show PR w6 _ _ _ from (by first | with_reducible exact pr_below G.out R6.out | with_reducible exact pr_below (pr_alloc G.out _) R6.out | with_reducible exact pr_below (pr_alloc (pr_alloc G.out _) _) R6.out | with_reducible exact pr_below (pr_alloc (pr_alloc (pr_alloc G.out _) _) _) R6.out))
      replace H := Lib.hid (show PR w6 _ _ _ from (by first | with_reducible exact pr_below H.out R6.out | with_reducible exact pr_below (pr_alloc H.out _) R6.out | with_reducible exact pr_below (pr_alloc (pr_alloc H.out _) _) R6.out | with_reducible exact pr_below (pr_alloc (pr_alloc (pr_alloc H.out _) _) _) R6.out))
      go_wp2_with fail
      refine (sameI_any D2 B3' 0 d2 m3 d3 g g _ (by first | with_reducible exact G.out | with_reducible exact pr_alloc G.out _ | with_reducible exact pr_alloc (pr_alloc G.out _) _ | with_reducible exact pr_alloc (pr_alloc (pr_alloc G.out _) _) _) (by first | with_reducible exact H.out | with_reducible exact pr_alloc H.out _ | with_reducible exact pr_alloc (pr_alloc H.out _) _ | with_reducible exact pr_alloc (pr_alloc (pr_alloc H.out _) _) _) (by omega) (by omega)).mono ?_
      rintro e w7 ⟨rfl, hb⟩
      obtain ⟨hc7, hf7⟩ := bcell hb
      have B7 := Lib.hid (show Below w.heap.size w w7 from (by first | exact below_seq B6.out hb | exact below_seq1 B6.out hb | exact below_seq2 B6.out hb | exact below_seq3 B6.out hb | exact below_seq4 B6.out hb))
      have R7 := Lib.hid hb
      have hz7 := hb.size
      try simp at hz7
      clear hb
      try have y70 : w.heap.size < w7.heap.size := by omega
      try have y70a : w.heap.size + 1 < w7.heap.size := by omega
      try have y70b : w.heap.size < w7.heap.size + 1 + 1 := by omega
      try have y70c : w.heap.size + 1 < w7.heap.size + 1 + 1 := by omega
      try have y71 : w1.heap.size < w7.heap.size := by omega
      try have y71a : w1.heap.size + 1 < w7.heap.size := by omega
      try have y71b : w1.heap.size < w7.heap.size + 1 + 1 := by omega
      try have y71c : w1.heap.size + 1 < w7.heap.size + 1 + 1 := by omega
      try have y72 : w2.heap.size < w7.heap.size := by omega
      try have y72a : w2.heap.size + 1 < w7.heap.size := by omega
      try have y72b : w2.heap.size < w7.heap.size + 1 + 1 := by omega
      try have y72c : w2.heap.size + 1 < w7.heap.size + 1 + 1 := by omega
      try have y73 : w3.heap.size < w7.heap.size := by omega
      try have y73a : w3.heap.size + 1 < w7.heap.size := by omega
      try have y73b : w3.heap.size < w7.heap.size + 1 + 1 := by omega
      try have y73c : w3.heap.size + 1 < w7.heap.size + 1 + 1 := by omega
      try have y74 : w4.heap.size < w7.heap.size := by omega
      try have y74a : w4.heap.size + 1 < w7.heap.size := by omega
      try have y74b : w4.heap.size < w7.heap.size + 1 + 1 := by omega
      try have y74c : w4.heap.size + 1 < w7.heap.size + 1 + 1 := by omega
      try have y75 : w5.heap.size < w7.heap.size := by omega
      try have y75a : w5.heap.size + 1 < w7.heap.size := by omega
      try have y75b : w5.heap.size < w7.heap.size + 1 + 1 := by omega
      try have y75c : w5.heap.size + 1 < w7.heap.size + 1 + 1 := by omega
      try have y76 : w6.heap.size < w7.heap.size := by omega
      try have y76a : w6.heap.size + 1 < w7.heap.size := by omega
      try have y76b : w6.heap.size < w7.heap.size + 1 + 1 := by omega
      try have y76c : w6.heap.size + 1 < w7.heap.size + 1 + 1 := by omega
      rw [← same_yes (by rfl)]
      go_wp2
      all_goals
        go_ret
        refine ⟨rfl, ?_⟩
        repeat refine below_alloc ?_ _
        exact B7.out
    · obtain rfl : m2 = k + 1 := by have := HM2.out; omega
      have HV := Lib.hid hhv
      have H0 := Lib.hid hq0
      have HLA := Lib.hid hlast
      have xg : (((k + 1 : Nat) : Int) == 0) = false := by simp; omega
      have xgb : ((k : Int) + 1 == 0) = false := by simp; omega
      clear hhv hq0 hlast Y H gk
      go_wp2_with fail
      refine (heavyI_yes lim A1 n1 c1 ps _ (by first | with_reducible exact Q.out | with_reducible exact pr_alloc Q.out _ | with_reducible exact pr_alloc (pr_alloc Q.out _) _ | with_reducible exact pr_alloc (pr_alloc (pr_alloc Q.out _) _) _) (by omega) HV.out).mono ?_
      rintro e w6 ⟨rfl, hb⟩
      obtain ⟨hc6, hf6⟩ := bcell hb
      have B6 := Lib.hid (show Below w.heap.size w w6 from (by first | exact below_seq B5.out hb | exact below_seq1 B5.out hb | exact below_seq2 B5.out hb | exact below_seq3 B5.out hb | exact below_seq4 B5.out hb))
      have R6 := Lib.hid hb
      have hz6 := hb.size
      try simp at hz6
      clear hb
      try have y60 : w.heap.size < w6.heap.size := by omega
      try have y60a : w.heap.size + 1 < w6.heap.size := by omega
      try have y60b : w.heap.size < w6.heap.size + 1 + 1 := by omega
      try have y60c : w.heap.size + 1 < w6.heap.size + 1 + 1 := by omega
      try have y61 : w1.heap.size < w6.heap.size := by omega
      try have y61a : w1.heap.size + 1 < w6.heap.size := by omega
      try have y61b : w1.heap.size < w6.heap.size + 1 + 1 := by omega
      try have y61c : w1.heap.size + 1 < w6.heap.size + 1 + 1 := by omega
      try have y62 : w2.heap.size < w6.heap.size := by omega
      try have y62a : w2.heap.size + 1 < w6.heap.size := by omega
      try have y62b : w2.heap.size < w6.heap.size + 1 + 1 := by omega
      try have y62c : w2.heap.size + 1 < w6.heap.size + 1 + 1 := by omega
      try have y63 : w3.heap.size < w6.heap.size := by omega
      try have y63a : w3.heap.size + 1 < w6.heap.size := by omega
      try have y63b : w3.heap.size < w6.heap.size + 1 + 1 := by omega
      try have y63c : w3.heap.size + 1 < w6.heap.size + 1 + 1 := by omega
      try have y64 : w4.heap.size < w6.heap.size := by omega
      try have y64a : w4.heap.size + 1 < w6.heap.size := by omega
      try have y64b : w4.heap.size < w6.heap.size + 1 + 1 := by omega
      try have y64c : w4.heap.size + 1 < w6.heap.size + 1 + 1 := by omega
      try have y65 : w5.heap.size < w6.heap.size := by omega
      try have y65a : w5.heap.size + 1 < w6.heap.size := by omega
      try have y65b : w5.heap.size < w6.heap.size + 1 + 1 := by omega
      try have y65c : w5.heap.size + 1 < w6.heap.size + 1 + 1 := by omega
      replace G := Lib.hid (show PR w6 _ _ _ from (by first | with_reducible exact pr_below G.out R6.out | with_reducible exact pr_below (pr_alloc G.out _) R6.out | with_reducible exact pr_below (pr_alloc (pr_alloc G.out _) _) R6.out | with_reducible exact pr_below (pr_alloc (pr_alloc (pr_alloc G.out _) _) _) R6.out))
      replace Q := Lib.hid (show PR w6 _ _ _ from (by first | with_reducible exact pr_below Q.out R6.out | with_reducible exact pr_below (pr_alloc Q.out _) R6.out | with_reducible exact pr_below (pr_alloc (pr_alloc Q.out _) _) R6.out | with_reducible exact pr_below (pr_alloc (pr_alloc (pr_alloc Q.out _) _) _) R6.out))
      go_wp2_with fail
      refine (ofI_any A1 n1 c1 ps (heavy ps : Nat) _ Q.out (by omega)).mono ?_
      rintro e w7 ⟨A7, n7, c7, rfl, h7a, h7b, h7c, h7d, h7e⟩
      have V := Lib.hid (pr_own h7d)
      have G7 := Lib.hid (pr_below G.out h7e)
      have B7 := Lib.hid (below_seq B6.out h7e)
      obtain ⟨hc7, hf7⟩ := bcell h7e
      have hl7 := V.out.1
      have hlp : (ofPeer ps (heavy ps : Nat)).length ≤ 67 := Nat.le_trans (ofPeer_len _ _) (by have := HLP.out; omega)
      obtain ⟨j, hj⟩ : ∃ j, n7 = j + 1 := by
        rcases Nat.eq_zero_or_pos n7 with h0 | h0
        · have := HLA.out
          rw [List.eq_nil_of_length_eq_zero (hl7.trans h0)] at this
          simp at this
        · exact ⟨n7 - 1, by omega⟩
      subst hj
      obtain ⟨b1, o1, q1, rfl, hb1, hq1, d0, d1, d2', d3'⟩ := pr_at (k := 0) G7.out (by omega)
      obtain rfl : q = q1 := by rw [H0.out] at hq1; injection hq1
      rw [Nat.zero_mul, Nat.add_zero] at d0 d1 d2' d3'
      obtain ⟨b5, o5, q2, rfl, hb5, hq5, e0, e1, e2, e3⟩ := pr_at (k := j) V.out (by omega)
      obtain rfl : q = q2 := by
        have := HLA.out
        rw [List.getLast?_eq_getElem?, hl7, Nat.add_sub_cancel, hq5] at this
        injection this with this
        exact this.symm
      have y0 : (0 : Int) < ((k + 1 : Nat) : Int) := by omega
      have y1 : (0 : Int) ≤ (j : Int) := by omega
      have x1 : IntKind.i64.wrap (((j + 1 : Nat) : Int) - 1) = (j : Int) := by rw [show ((j + 1 : Nat) : Int) - 1 = (j : Int) by omega]; exact IntWalk.i64_in _ (by omega)
      have x2 : (j : Int) < ((j + 1 : Nat) : Int) := by omega
      have x1b : IntKind.i64.wrap (j : Int) = (j : Int) := IntWalk.i64_in _ (by omega)
      clear hq1 hq5 hl7 hlp h7a h7b h7c h7d h7e
      go_wp2_with fail
      go_quiet (fail)
      go_wp2
      all_goals
        go_ret
        refine ⟨rfl, ?_⟩
        refine below_drewN ?_ _
        repeat with_reducible refine below_alloc ?_ _
        exact B7.out
theorem own : ownKnob Try.prog.godebug = none := by kernel_rfl
theorem laidOut : laidOutB Try.prog = true := by kernel_rfl
set_option maxRecDepth 100000 in
theorem lifted (os : Os) (started : os.Started) (H : Type) (enc : TypeId × Value → H) :
    ReturnsInHanded {} Try.checked os 14 .any (Rows.fnShedPeersSpec.pre6 enc Try.prog Try.f14 Rows.fnShedPeersRow.domain false) (Rows.fnShedPeersSpec.post enc Try.prog Try.f14 false true false false) := by
  refine returnsInHanded_of_change (C := Try.checked) own started (by kernel_rfl) Try.func14
    (ChangeSpec.witness6 (enc := enc) (C := Try.checked) false ⟨#[], #[.slice none 0 0], []⟩ 8 (by kernel_rfl) (by kernel_rfl) (by kernel_rfl) (by kernel_rfl)) ?_
  intro W base args ds gs before hval0 hW _ _
  have hval : ∀ (j : Nat) t v, Try.f14.params[j]? = some t → args[j]? = some v → Value.okWide Try.prog W .any base t v := hval0
  have hW' := hW
  obtain ⟨p, q, hA0, hV, rfl, _, _⟩ := hW
  have hA : DataW.TrodAll enc Try.prog W 0 (fun _ => true) true Try.f14.params.toList args.toList ds p := hA0
  rw [Try.params14] at hA hval
  obtain ⟨v0, vs0, d0, ds0, p0, q0, hargs, rfl, rfl, h0, r0⟩ := trodAll_cons hA
  obtain ⟨rfl, rfl, rfl⟩ := trodAll_nil r0
  obtain rfl : args = #[v0] := by cases args; simp_all
  obtain ⟨rfl, rfl⟩ := trodVars_none hV
  have lt0 : ∀ x ∈ p0, x.block < W.heap.size := by obtain ⟨m, hm⟩ := h0; exact DataW.trod_lt m _ _ _ hm
  obtain ⟨a0, n0, c0, rfl⟩ := okWide_slice Try.underlying22 (hval 0 22 v0 rfl rfl)
  have w0 : Bytes W a0 n0 c0 := bytes_open h0
  clear hA0 hval0
  refine (walk a0 n0 c0 W w0).mono fun e W' ⟨he, bel⟩ => ?_
  subst he
  exact ⟨_, rfl, _, _, _, [], _, [], hW', trodAll_mk1 (shut_bool Try.underlying4 _), (trodAll_cons_mk (Below.trod laidOut (by kernel_rfl) (of_decide_eq_true (by kernel_rfl)) h0 bel lt0) trodAll_mk0), rfl, bel.frame _, fun h => by cases h⟩
theorem over : Rows.fnShedPeersRow.holds Try.pinned (OpenSpec.ofChange Rows.fnShedPeersSpec) :=
  OpenClaim.holds_of_wide 14 Try.f14 rfl rfl rfl rfl rfl rfl rfl ⟨rfl, rfl, rfl, rfl, rfl⟩ rfl rfl rfl rfl rfl (by kernel_rfl) Try.func14 (by kernel_rfl)
    (of_decide_eq_true (by kernel_rfl)) (by unfold Func.isWrapper; first | (rw [if_pos (by decide +kernel)]; kernel_rfl) | (rw [if_neg (by decide +kernel)]; exact ⟨rfl, rfl⟩))
    (fun os started H enc _ => lifted os started H enc)
/-- the given statement -/
theorem proved : Rows.FnShedPeersSaid := over
end Go.Proofs.Ytapoahoknlaeaaa.fnShedPeers
