/-
  The law FnMergeOrder returns true at every argument: merging is symmetric. Conditions: none.
-/
import Derived.Test.YtclgmmnidkppmabLift
import Derived.Test.YtclgmmnidkppmabEj
import Derived.Test.YtclgmmnidkppmabMay
import Derived.Test.YtclgmmnidkppmabLifts
import Derived.Test.YtclgmmnidkppmabMake
namespace Go.Proofs.Ytclgmmnidkppmab.fnMergeOrder
open Go.ChangeShapes Go.WideShapes Go.ChangeAt Go.RowKit

set_option maxHeartbeats 4000000 in
theorem walk (A : Option Addr) (n c : Nat) (w : World) (h : Bytes w A n c) :
    Calls Try.prog 5 #[.slice A n c] w fun e w' => e = .returned (.bool true) ∧ Below w.heap.size w w' := by
  have HB := Lib.hid h
  clear h
  by_cases hbig : ¬ n ≤ 1048576
  · go_enter Try.func5, Try.ntmps5
    go_wp2
    go_ret
    exact ⟨rfl, Below.refl _ _⟩
  have hbig' : n ≤ 1048576 := by omega
  clear hbig
  go_enter Try.func5, Try.ntmps5
  go_wp2_with fail
  refine (drawMerge_any A n c _ HB.out).mono ?_
  rintro e w1 ⟨A1, n1, c1, ps, D1, m1, d1, qs, rfl, n9, m9, hnc, hmd, har, hbr, hb⟩
  obtain ⟨hc1, hf1⟩ := bcell hb
  have B1 := Lib.hid (show Below w.heap.size w w1 from (by first | exact below_seq (Below.refl w.heap.size w) hb | exact below_seq1 (Below.refl w.heap.size w) hb | exact below_seq2 (Below.refl w.heap.size w) hb | exact below_seq3 (Below.refl w.heap.size w) hb | exact below_seq4 (Below.refl w.heap.size w) hb))
  have R1 := Lib.hid hb
  have hz1 := hb.size
  try simp at hz1
  clear hb
  have HA1 := Lib.hid har
  have HD1 := Lib.hid hbr
  clear har hbr
  obtain ⟨R, hR⟩ : ∃ R, mgB ps qs = R := ⟨_, rfl⟩
  have HR := Lib.hid hR
  clear hR
  go_wp2_with fail
  refine (mgI_rd A1 D1 n1 c1 m1 d1 ps qs R _ HA1.out HD1.out n9 m9 HR.out).mono ?_
  rintro e w2 ⟨A2, n2, c2, rfl, hn2, hnc2, har2, hb⟩
  obtain ⟨hc2, hf2⟩ := bcell hb
  have B2 := Lib.hid (show Below w.heap.size w w2 from (by first | exact below_seq B1.out hb | exact below_seq1 B1.out hb | exact below_seq2 B1.out hb | exact below_seq3 B1.out hb | exact below_seq4 B1.out hb))
  have R2 := Lib.hid hb
  have hz2 := hb.size
  try simp at hz2
  clear hb
  try have y20 : w.heap.size < w2.heap.size := by omega
  try have y20a : w.heap.size + 1 < w2.heap.size := by omega
  try have y20b : w.heap.size < w2.heap.size + 1 + 1 := by omega
  try have y20c : w.heap.size + 1 < w2.heap.size + 1 + 1 := by omega
  try have y21 : w1.heap.size < w2.heap.size := by omega
  try have y21a : w1.heap.size + 1 < w2.heap.size := by omega
  try have y21b : w1.heap.size < w2.heap.size + 1 + 1 := by omega
  try have y21c : w1.heap.size + 1 < w2.heap.size + 1 + 1 := by omega
  have HA2 := Lib.hid (ar_below HA1.out R2.out)
  have HD2 := Lib.hid (ar_below HD1.out R2.out)
  have HM2 := Lib.hid har2
  clear har2
  go_wp2_with fail
  refine (mgS_rd A1 D1 n1 c1 m1 d1 ps qs R _ HA2.out HD2.out n9 m9 HR.out).mono ?_
  rintro e w3 ⟨A3, n3, c3, rfl, hn3, hnc3, har3, hb⟩
  obtain ⟨hc3, hf3⟩ := bcell hb
  have B3 := Lib.hid (show Below w.heap.size w w3 from (by first | exact below_seq B2.out hb | exact below_seq1 B2.out hb | exact below_seq2 B2.out hb | exact below_seq3 B2.out hb | exact below_seq4 B2.out hb))
  have R3 := Lib.hid hb
  have hz3 := hb.size
  try simp at hz3
  clear hb
  try have y30 : w.heap.size < w3.heap.size := by omega
  try have y30a : w.heap.size + 1 < w3.heap.size := by omega
  try have y30b : w.heap.size < w3.heap.size + 1 + 1 := by omega
  try have y30c : w.heap.size + 1 < w3.heap.size + 1 + 1 := by omega
  try have y31 : w1.heap.size < w3.heap.size := by omega
  try have y31a : w1.heap.size + 1 < w3.heap.size := by omega
  try have y31b : w1.heap.size < w3.heap.size + 1 + 1 := by omega
  try have y31c : w1.heap.size + 1 < w3.heap.size + 1 + 1 := by omega
  try have y32 : w2.heap.size < w3.heap.size := by omega
  try have y32a : w2.heap.size + 1 < w3.heap.size := by omega
  try have y32b : w2.heap.size < w3.heap.size + 1 + 1 := by omega
  try have y32c : w2.heap.size + 1 < w3.heap.size + 1 + 1 := by omega
  have HA3 := Lib.hid (ar_below HA2.out R3.out)
  have HD3 := Lib.hid (ar_below HD2.out R3.out)
  have HM3 := Lib.hid (ar_below HM2.out R3.out)
  have HT3 := Lib.hid har3
  clear har3
  go_wp2_with fail
  refine (tga_any A2 A3 n2 c2 n3 c3 _ _ _ HM3.out HT3.out (by omega) (by omega)).mono ?_
  rintro e w4 ⟨rfl, hb⟩
  obtain ⟨hc4, hf4⟩ := bcell hb
  have B4 := Lib.hid (show Below w.heap.size w w4 from (by first | exact below_seq B3.out hb | exact below_seq1 B3.out hb | exact below_seq2 B3.out hb | exact below_seq3 B3.out hb | exact below_seq4 B3.out hb))
  have R4 := Lib.hid hb
  have hz4 := hb.size
  try simp at hz4
  clear hb
  try have y40 : w.heap.size < w4.heap.size := by omega
  try have y40a : w.heap.size + 1 < w4.heap.size := by omega
  try have y40b : w.heap.size < w4.heap.size + 1 + 1 := by omega
  try have y40c : w.heap.size + 1 < w4.heap.size + 1 + 1 := by omega
  try have y41 : w1.heap.size < w4.heap.size := by omega
  try have y41a : w1.heap.size + 1 < w4.heap.size := by omega
  try have y41b : w1.heap.size < w4.heap.size + 1 + 1 := by omega
  try have y41c : w1.heap.size + 1 < w4.heap.size + 1 + 1 := by omega
  try have y42 : w2.heap.size < w4.heap.size := by omega
  try have y42a : w2.heap.size + 1 < w4.heap.size := by omega
  try have y42b : w2.heap.size < w4.heap.size + 1 + 1 := by omega
  try have y42c : w2.heap.size + 1 < w4.heap.size + 1 + 1 := by omega
  try have y43 : w3.heap.size < w4.heap.size := by omega
  try have y43a : w3.heap.size + 1 < w4.heap.size := by omega
  try have y43b : w3.heap.size < w4.heap.size + 1 + 1 := by omega
  try have y43c : w3.heap.size + 1 < w4.heap.size + 1 + 1 := by omega
  rw [← sameA_yes rfl]
  have HA4 := Lib.hid (ar_below HA3.out R4.out)
  have HD4 := Lib.hid (ar_below HD3.out R4.out)
  have HM4 := Lib.hid (ar_below HM3.out R4.out)
  have HT4 := Lib.hid (ar_below HT3.out R4.out)
  rcases R with _ | _
  · go_wp2_with fail
    refine (tga_any A2 A3 n2 c2 n3 c3 _ _ _ HM4.out HT4.out (by omega) (by omega)).mono ?_
    rintro e w5 ⟨rfl, hb⟩
    obtain ⟨hc5, hf5⟩ := bcell hb
    have B5 := Lib.hid (show Below w.heap.size w w5 from (by first | exact below_seq B4.out hb | exact below_seq1 B4.out hb | exact below_seq2 B4.out hb | exact below_seq3 B4.out hb | exact below_seq4 B4.out hb))
    have R5 := Lib.hid hb
    have hz5 := hb.size
    try simp at hz5
    clear hb
    try have y50 : w.heap.size < w5.heap.size := by omega
    try have y50a : w.heap.size + 1 < w5.heap.size := by omega
    try have y50b : w.heap.size < w5.heap.size + 1 + 1 := by omega
    try have y50c : w.heap.size + 1 < w5.heap.size + 1 + 1 := by omega
    try have y51 : w1.heap.size < w5.heap.size := by omega
    try have y51a : w1.heap.size + 1 < w5.heap.size := by omega
    try have y51b : w1.heap.size < w5.heap.size + 1 + 1 := by omega
    try have y51c : w1.heap.size + 1 < w5.heap.size + 1 + 1 := by omega
    try have y52 : w2.heap.size < w5.heap.size := by omega
    try have y52a : w2.heap.size + 1 < w5.heap.size := by omega
    try have y52b : w2.heap.size < w5.heap.size + 1 + 1 := by omega
    try have y52c : w2.heap.size + 1 < w5.heap.size + 1 + 1 := by omega
    try have y53 : w3.heap.size < w5.heap.size := by omega
    try have y53a : w3.heap.size + 1 < w5.heap.size := by omega
    try have y53b : w3.heap.size < w5.heap.size + 1 + 1 := by omega
    try have y53c : w3.heap.size + 1 < w5.heap.size + 1 + 1 := by omega
    try have y54 : w4.heap.size < w5.heap.size := by omega
    try have y54a : w4.heap.size + 1 < w5.heap.size := by omega
    try have y54b : w4.heap.size < w5.heap.size + 1 + 1 := by omega
    try have y54c : w4.heap.size + 1 < w5.heap.size + 1 + 1 := by omega
    rw [← sameA_yes rfl]
    go_wp2
    all_goals
      go_ret
      refine ⟨rfl, ?_⟩
      repeat refine below_alloc ?_ _
      exact B5.out
  have HV := Lib.hid (mg_val HR.out)
  have HX := Lib.hid (show AR w4 A2 n2 (finA ps qs) by have := HM4.out; rwa [mgL_yes HR.out] at this)
  have HS := Lib.hid (mg_sym HR.out)
  go_wp2_with fail
  refine (mgI_rd D1 A1 m1 d1 n1 c1 qs ps true _ HD4.out HA4.out m9 n9 HS.out).mono ?_
  rintro e w5 ⟨A5, n5, c5, rfl, hn5, hnc5, har5, hb⟩
  obtain ⟨hc5, hf5⟩ := bcell hb
  have B5 := Lib.hid (show Below w.heap.size w w5 from (by first | exact below_seq B4.out hb | exact below_seq1 B4.out hb | exact below_seq2 B4.out hb | exact below_seq3 B4.out hb | exact below_seq4 B4.out hb))
  have R5 := Lib.hid hb
  have hz5 := hb.size
  try simp at hz5
  clear hb
  try have y50 : w.heap.size < w5.heap.size := by omega
  try have y50a : w.heap.size + 1 < w5.heap.size := by omega
  try have y50b : w.heap.size < w5.heap.size + 1 + 1 := by omega
  try have y50c : w.heap.size + 1 < w5.heap.size + 1 + 1 := by omega
  try have y51 : w1.heap.size < w5.heap.size := by omega
  try have y51a : w1.heap.size + 1 < w5.heap.size := by omega
  try have y51b : w1.heap.size < w5.heap.size + 1 + 1 := by omega
  try have y51c : w1.heap.size + 1 < w5.heap.size + 1 + 1 := by omega
  try have y52 : w2.heap.size < w5.heap.size := by omega
  try have y52a : w2.heap.size + 1 < w5.heap.size := by omega
  try have y52b : w2.heap.size < w5.heap.size + 1 + 1 := by omega
  try have y52c : w2.heap.size + 1 < w5.heap.size + 1 + 1 := by omega
  try have y53 : w3.heap.size < w5.heap.size := by omega
  try have y53a : w3.heap.size + 1 < w5.heap.size := by omega
  try have y53b : w3.heap.size < w5.heap.size + 1 + 1 := by omega
  try have y53c : w3.heap.size + 1 < w5.heap.size + 1 + 1 := by omega
  try have y54 : w4.heap.size < w5.heap.size := by omega
  try have y54a : w4.heap.size + 1 < w5.heap.size := by omega
  try have y54b : w4.heap.size < w5.heap.size + 1 + 1 := by omega
  try have y54c : w4.heap.size + 1 < w5.heap.size + 1 + 1 := by omega
  have HX5 := Lib.hid (ar_below HX.out R5.out)
  have HY5 := Lib.hid (show AR w5 A5 n5 (finA qs ps) by rwa [mgL_yes HS.out] at har5)
  have HVY := Lib.hid (mg_val HS.out)
  clear har5
  have HLEN := Lib.hid (show (n5 : Int) = (n2 : Int) by
    have h1 := HX.out.1
    have h2 := HY5.out.1
    rw [mg_len] at h1 h2
    omega)
  have hg : ((n5 : Int) == (n2 : Int)) = true := by simp only [beq_iff_eq]; exact HLEN.out
  obtain ⟨P, hP⟩ : ∃ P, P = peak 4 (finA ps qs) := ⟨_, rfl⟩
  have KP := Lib.hid (pk_on HV.out (d := 4) ⟨by omega, by omega⟩)
  have KQ := Lib.hid (pk_on HVY.out (d := 4) ⟨by omega, by omega⟩)
  have NP := Lib.hid (show pkN (finA ps qs) 4 = P by rw [pkN_yes KP.out, hP])
  have NQ := Lib.hid (show pkN (finA qs ps) 4 = P by rw [pkN_yes KQ.out, hP, mg_peak (by omega) HR.out])
  obtain ⟨U, hU⟩ : ∃ U, U = mx (back 9 (finA ps qs)) 1 := ⟨_, rfl⟩
  have LU := Lib.hid (lb_on HV.out (r := 9) ⟨by omega, by omega⟩)
  have LW := Lib.hid (lb_on HVY.out (r := 9) ⟨by omega, by omega⟩)
  have NU := Lib.hid (show lbN (finA ps qs) 9 = U by rw [lbN_yes LU.out, hU])
  have NW := Lib.hid (show lbN (finA qs ps) 9 = U by rw [lbN_yes LW.out, hU, mg_back HR.out])
  clear hP hU
  go_wp2_with fail
  refine (pkI_is A2 n2 c2 (finA ps qs) 4 P true _ HX5.out (by omega) hnc2 NP.out KP.out).mono ?_
  rintro e w6 ⟨rfl, hb⟩
  obtain ⟨hc6, hf6⟩ := bcell hb
  have B6 := Lib.hid (show Below w.heap.size w w6 from (by first | exact below_seq B5.out hb | exact below_seq1 B5.out hb | exact below_seq2 B5.out hb | exact below_seq3 B5.out hb | exact below_seq4 B5.out hb))
  have R6 := Lib.hid hb
  have hz6 := hb.size
  try simp at hz6
  clear hb
  try have y60 : w.heap.size < w6.heap.size := by omega
  try have y60a : w.heap.size + 1 < w6.heap.size := by omega
  try have y60b : w.heap.size < w6.heap.size + 1 + 1 := by omega
  try have y60c : w.heap.size + 1 < w6.heap.size + 1 + 1 := by omega
  try have y61 : w1.heap.size < w6.heap.size := by omega
  try have y61a : w1.heap.size + 1 < w6.heap.size := by omega
  try have y61b : w1.heap.size < w6.heap.size + 1 + 1 := by omega
  try have y61c : w1.heap.size + 1 < w6.heap.size + 1 + 1 := by omega
  try have y62 : w2.heap.size < w6.heap.size := by omega
  try have y62a : w2.heap.size + 1 < w6.heap.size := by omega
  try have y62b : w2.heap.size < w6.heap.size + 1 + 1 := by omega
  try have y62c : w2.heap.size + 1 < w6.heap.size + 1 + 1 := by omega
  try have y63 : w3.heap.size < w6.heap.size := by omega
  try have y63a : w3.heap.size + 1 < w6.heap.size := by omega
  try have y63b : w3.heap.size < w6.heap.size + 1 + 1 := by omega
  try have y63c : w3.heap.size + 1 < w6.heap.size + 1 + 1 := by omega
  try have y64 : w4.heap.size < w6.heap.size := by omega
  try have y64a : w4.heap.size + 1 < w6.heap.size := by omega
  try have y64b : w4.heap.size < w6.heap.size + 1 + 1 := by omega
  try have y64c : w4.heap.size + 1 < w6.heap.size + 1 + 1 := by omega
  try have y65 : w5.heap.size < w6.heap.size := by omega
  try have y65a : w5.heap.size + 1 < w6.heap.size := by omega
  try have y65b : w5.heap.size < w6.heap.size + 1 + 1 := by omega
  try have y65c : w5.heap.size + 1 < w6.heap.size + 1 + 1 := by omega
  have HX6 := Lib.hid (ar_below HX5.out R6.out)
  have HY6 := Lib.hid (ar_below HY5.out R6.out)
  go_wp2_with fail
  refine (pkI_is A5 n5 c5 (finA qs ps) 4 P true _ HY6.out (by omega) hnc5 NQ.out KQ.out).mono ?_
  rintro e w7 ⟨rfl, hb⟩
  obtain ⟨hc7, hf7⟩ := bcell hb
  have B7 := Lib.hid (show Below w.heap.size w w7 from (by first | exact below_seq B6.out hb | exact below_seq1 B6.out hb | exact below_seq2 B6.out hb | exact below_seq3 B6.out hb | exact below_seq4 B6.out hb))
  have R7 := Lib.hid hb
  have hz7 := hb.size
  try simp at hz7
  clear hb
  try have y70 : w.heap.size < w7.heap.size := by omega
  try have y70a : w.heap.size + 1 < w7.heap.size := by omega
  try have y70b : w.heap.size < w7.heap.size + 1 + 1 := by omega
  try have y70c : w.heap.size + 1 < w7.heap.size + 1 + 1 := by omega
  try have y71 : w1.heap.size < w7.heap.size := by omega
  try have y71a : w1.heap.size + 1 < w7.heap.size := by omega
  try have y71b : w1.heap.size < w7.heap.size + 1 + 1 := by omega
  try have y71c : w1.heap.size + 1 < w7.heap.size + 1 + 1 := by omega
  try have y72 : w2.heap.size < w7.heap.size := by omega
  try have y72a : w2.heap.size + 1 < w7.heap.size := by omega
  try have y72b : w2.heap.size < w7.heap.size + 1 + 1 := by omega
  try have y72c : w2.heap.size + 1 < w7.heap.size + 1 + 1 := by omega
  try have y73 : w3.heap.size < w7.heap.size := by omega
  try have y73a : w3.heap.size + 1 < w7.heap.size := by omega
  try have y73b : w3.heap.size < w7.heap.size + 1 + 1 := by omega
  try have y73c : w3.heap.size + 1 < w7.heap.size + 1 + 1 := by omega
  try have y74 : w4.heap.size < w7.heap.size := by omega
  try have y74a : w4.heap.size + 1 < w7.heap.size := by omega
  try have y74b : w4.heap.size < w7.heap.size + 1 + 1 := by omega
  try have y74c : w4.heap.size + 1 < w7.heap.size + 1 + 1 := by omega
  try have y75 : w5.heap.size < w7.heap.size := by omega
  try have y75a : w5.heap.size + 1 < w7.heap.size := by omega
  try have y75b : w5.heap.size < w7.heap.size + 1 + 1 := by omega
  try have y75c : w5.heap.size + 1 < w7.heap.size + 1 + 1 := by omega
  try have y76 : w6.heap.size < w7.heap.size := by omega
  try have y76a : w6.heap.size + 1 < w7.heap.size := by omega
  try have y76b : w6.heap.size < w7.heap.size + 1 + 1 := by omega
  try have y76c : w6.heap.size + 1 < w7.heap.size + 1 + 1 := by omega
  have HX7 := Lib.hid (ar_below HX6.out R7.out)
  have HY7 := Lib.hid (ar_below HY6.out R7.out)
  go_wp2_with fail
  refine (lbI_is A2 n2 c2 (finA ps qs) 9 U true _ HX7.out (by omega) NU.out LU.out).mono ?_
  rintro e w8 ⟨rfl, hb⟩
  obtain ⟨hc8, hf8⟩ := bcell hb
  have B8 := Lib.hid (show Below w.heap.size w w8 from (by first | exact below_seq B7.out hb | exact below_seq1 B7.out hb | exact below_seq2 B7.out hb | exact below_seq3 B7.out hb | exact below_seq4 B7.out hb))
  have R8 := Lib.hid hb
  have hz8 := hb.size
  try simp at hz8
  clear hb
  try have y80 : w.heap.size < w8.heap.size := by omega
  try have y80a : w.heap.size + 1 < w8.heap.size := by omega
  try have y80b : w.heap.size < w8.heap.size + 1 + 1 := by omega
  try have y80c : w.heap.size + 1 < w8.heap.size + 1 + 1 := by omega
  try have y81 : w1.heap.size < w8.heap.size := by omega
  try have y81a : w1.heap.size + 1 < w8.heap.size := by omega
  try have y81b : w1.heap.size < w8.heap.size + 1 + 1 := by omega
  try have y81c : w1.heap.size + 1 < w8.heap.size + 1 + 1 := by omega
  try have y82 : w2.heap.size < w8.heap.size := by omega
  try have y82a : w2.heap.size + 1 < w8.heap.size := by omega
  try have y82b : w2.heap.size < w8.heap.size + 1 + 1 := by omega
  try have y82c : w2.heap.size + 1 < w8.heap.size + 1 + 1 := by omega
  try have y83 : w3.heap.size < w8.heap.size := by omega
  try have y83a : w3.heap.size + 1 < w8.heap.size := by omega
  try have y83b : w3.heap.size < w8.heap.size + 1 + 1 := by omega
  try have y83c : w3.heap.size + 1 < w8.heap.size + 1 + 1 := by omega
  try have y84 : w4.heap.size < w8.heap.size := by omega
  try have y84a : w4.heap.size + 1 < w8.heap.size := by omega
  try have y84b : w4.heap.size < w8.heap.size + 1 + 1 := by omega
  try have y84c : w4.heap.size + 1 < w8.heap.size + 1 + 1 := by omega
  try have y85 : w5.heap.size < w8.heap.size := by omega
  try have y85a : w5.heap.size + 1 < w8.heap.size := by omega
  try have y85b : w5.heap.size < w8.heap.size + 1 + 1 := by omega
  try have y85c : w5.heap.size + 1 < w8.heap.size + 1 + 1 := by omega
  try have y86 : w6.heap.size < w8.heap.size := by omega
  try have y86a : w6.heap.size + 1 < w8.heap.size := by omega
  try have y86b : w6.heap.size < w8.heap.size + 1 + 1 := by omega
  try have y86c : w6.heap.size + 1 < w8.heap.size + 1 + 1 := by omega
  try have y87 : w7.heap.size < w8.heap.size := by omega
  try have y87a : w7.heap.size + 1 < w8.heap.size := by omega
  try have y87b : w7.heap.size < w8.heap.size + 1 + 1 := by omega
  try have y87c : w7.heap.size + 1 < w8.heap.size + 1 + 1 := by omega
  have HY8 := Lib.hid (ar_below HY7.out R8.out)
  go_wp2_with fail
  refine (lbI_is A5 n5 c5 (finA qs ps) 9 U true _ HY8.out (by omega) NW.out LW.out).mono ?_
  rintro e w9 ⟨rfl, hb⟩
  obtain ⟨hc9, hf9⟩ := bcell hb
  have B9 := Lib.hid (show Below w.heap.size w w9 from (by first | exact below_seq B8.out hb | exact below_seq1 B8.out hb | exact below_seq2 B8.out hb | exact below_seq3 B8.out hb | exact below_seq4 B8.out hb))
  have R9 := Lib.hid hb
  have hz9 := hb.size
  try simp at hz9
  clear hb
  try have y90 : w.heap.size < w9.heap.size := by omega
  try have y90a : w.heap.size + 1 < w9.heap.size := by omega
  try have y90b : w.heap.size < w9.heap.size + 1 + 1 := by omega
  try have y90c : w.heap.size + 1 < w9.heap.size + 1 + 1 := by omega
  try have y91 : w1.heap.size < w9.heap.size := by omega
  try have y91a : w1.heap.size + 1 < w9.heap.size := by omega
  try have y91b : w1.heap.size < w9.heap.size + 1 + 1 := by omega
  try have y91c : w1.heap.size + 1 < w9.heap.size + 1 + 1 := by omega
  try have y92 : w2.heap.size < w9.heap.size := by omega
  try have y92a : w2.heap.size + 1 < w9.heap.size := by omega
  try have y92b : w2.heap.size < w9.heap.size + 1 + 1 := by omega
  try have y92c : w2.heap.size + 1 < w9.heap.size + 1 + 1 := by omega
  try have y93 : w3.heap.size < w9.heap.size := by omega
  try have y93a : w3.heap.size + 1 < w9.heap.size := by omega
  try have y93b : w3.heap.size < w9.heap.size + 1 + 1 := by omega
  try have y93c : w3.heap.size + 1 < w9.heap.size + 1 + 1 := by omega
  try have y94 : w4.heap.size < w9.heap.size := by omega
  try have y94a : w4.heap.size + 1 < w9.heap.size := by omega
  try have y94b : w4.heap.size < w9.heap.size + 1 + 1 := by omega
  try have y94c : w4.heap.size + 1 < w9.heap.size + 1 + 1 := by omega
  try have y95 : w5.heap.size < w9.heap.size := by omega
  try have y95a : w5.heap.size + 1 < w9.heap.size := by omega
  try have y95b : w5.heap.size < w9.heap.size + 1 + 1 := by omega
  try have y95c : w5.heap.size + 1 < w9.heap.size + 1 + 1 := by omega
  try have y96 : w6.heap.size < w9.heap.size := by omega
  try have y96a : w6.heap.size + 1 < w9.heap.size := by omega
  try have y96b : w6.heap.size < w9.heap.size + 1 + 1 := by omega
  try have y96c : w6.heap.size + 1 < w9.heap.size + 1 + 1 := by omega
  try have y97 : w7.heap.size < w9.heap.size := by omega
  try have y97a : w7.heap.size + 1 < w9.heap.size := by omega
  try have y97b : w7.heap.size < w9.heap.size + 1 + 1 := by omega
  try have y97c : w7.heap.size + 1 < w9.heap.size + 1 + 1 := by omega
  try have y98 : w8.heap.size < w9.heap.size := by omega
  try have y98a : w8.heap.size + 1 < w9.heap.size := by omega
  try have y98b : w8.heap.size < w9.heap.size + 1 + 1 := by omega
  try have y98c : w8.heap.size + 1 < w9.heap.size + 1 + 1 := by omega
  go_wp2
  all_goals
    go_ret
    refine ⟨rfl, ?_⟩
    repeat refine below_alloc ?_ _
    exact B9.out
theorem own : ownKnob Try.prog.godebug = none := by kernel_rfl
theorem laidOut : laidOutB Try.prog = true := by kernel_rfl
set_option maxRecDepth 100000 in
theorem lifted (os : Os) (started : os.Started) (H : Type) (enc : TypeId × Value → H) :
    ReturnsInHanded {} Try.checked os 5 .any (Rows.fnMergeOrderSpec.pre6 enc Try.prog Try.f5 Rows.fnMergeOrderRow.domain false) (Rows.fnMergeOrderSpec.post enc Try.prog Try.f5 false true false false) := by
  refine returnsInHanded_of_change (C := Try.checked) own started (by kernel_rfl) Try.func5
    (ChangeSpec.witness6 (enc := enc) (C := Try.checked) false ⟨#[], #[.slice none 0 0], []⟩ 8 (by kernel_rfl) (by kernel_rfl) (by kernel_rfl) (by kernel_rfl)) ?_
  intro W base args ds gs before hval0 hW _ _
  have hval : ∀ (j : Nat) t v, Try.f5.params[j]? = some t → args[j]? = some v → Value.okWide Try.prog W .any base t v := hval0
  have hW' := hW
  obtain ⟨p, q, hA0, hV, rfl, _, _⟩ := hW
  have hA : DataW.TrodAll enc Try.prog W 0 (fun _ => true) true Try.f5.params.toList args.toList ds p := hA0
  rw [Try.params5] at hA hval
  obtain ⟨v0, vs0, d0, ds0, p0, q0, hargs, rfl, rfl, h0, r0⟩ := trodAll_cons hA
  obtain ⟨rfl, rfl, rfl⟩ := trodAll_nil r0
  obtain rfl : args = #[v0] := by cases args; simp_all
  obtain ⟨rfl, rfl⟩ := trodVars_none hV
  have lt0 : ∀ x ∈ p0, x.block < W.heap.size := by obtain ⟨m, hm⟩ := h0; exact DataW.trod_lt m _ _ _ hm
  obtain ⟨a0, n0, c0, rfl⟩ := okWide_slice Try.underlying22 (hval 0 22 v0 rfl rfl)
  have w0 : Bytes W a0 n0 c0 := bytes_open h0
  clear hA0 hval0
  refine (walk a0 n0 c0 W w0).mono fun e W' ⟨he, bel⟩ => ?_
  subst he
  exact ⟨_, rfl, _, _, _, [], _, [], hW', trodAll_mk1 (shut_bool Try.underlying4 _), (trodAll_cons_mk (Below.trod laidOut (by kernel_rfl) (of_decide_eq_true (by kernel_rfl)) h0 bel lt0) trodAll_mk0), rfl, bel.frame _, fun h => by cases h⟩
theorem over : Rows.fnMergeOrderRow.holds Try.pinned (OpenSpec.ofChange Rows.fnMergeOrderSpec) :=
  OpenClaim.holds_of_wide 5 Try.f5 rfl rfl rfl rfl rfl rfl rfl ⟨rfl, rfl, rfl, rfl, rfl⟩ rfl rfl rfl rfl rfl (by kernel_rfl) Try.func5 (by unfold joinedFacts; rw [mayEnter, liftsFinal, makeIs]; kernel_rfl)
    (of_decide_eq_true (by kernel_rfl)) (by unfold Func.isWrapper; first | (rw [if_pos (by decide +kernel)]; kernel_rfl) | (rw [if_neg (by decide +kernel)]; exact ⟨rfl, rfl⟩))
    (fun os started H enc _ => lifted os started H enc)
/-- the given statement -/
theorem proved : Rows.FnMergeOrderSaid := over
end Go.Proofs.Ytclgmmnidkppmab.fnMergeOrder
