/-
  The law FnBytesParts returns true at every argument: the bytes of two lists add up for each peer. Conditions: none.
-/
import Derived.Test.YtaccbmgbkalknaaLift
import Derived.Test.YtaccbmgbkalknaaYp
import Derived.Test.YtaccbmgbkalknaaYL
import Derived.Test.YtaccbmgbkalknaaMay
import Derived.Test.YtaccbmgbkalknaaLifts
import Derived.Test.YtaccbmgbkalknaaMake
namespace Go.Proofs.Ytaccbmgbkalknaa.fnBytesParts
open Go.ChangeShapes Go.WideShapes Go.ChangeAt Go.RowKit

def PtRel (w : World) (A2 A5 A6 : Option Addr) (R Ra Rb : List Int) (i : Value) (wr : World) : Prop :=
  ∃ k : Nat, k ≤ 8 ∧ i = .int .i64 (k : Int) ∧ NR wr A2 8 R ∧ NR wr A5 8 Ra ∧ NR wr A6 8 Rb ∧ Below w.heap.size w wr
set_option maxHeartbeats 8000000 in
theorem walk (A : Option Addr) (n c : Nat) (w : World) (h : Bytes w A n c) :
    Calls Try.prog 10 #[.slice A n c] w fun e w' => e = .returned (.bool true) ∧ Below w.heap.size w w' := by
  have HB := Lib.hid h
  clear h
  by_cases hbig : ¬ n ≤ 1048576
  · go_enter Try.func10, Try.ntmps10
    go_wp2
    go_ret
    exact ⟨rfl, Below.refl _ _⟩
  have hbig' : n ≤ 1048576 := by omega
  clear hbig
  go_enter Try.func10, Try.ntmps10
  go_wp2_with fail
  refine (drawBytes_any A n c _ HB.out).mono ?_
  rintro e w1 ⟨A1, n1, c1, ps, rfl, hn9, hnc, hcm, hr, hb⟩
  obtain ⟨hc1, hf1⟩ := bcell hb
  have B1 := Lib.hid (show Below w.heap.size w w1 from (by first | exact below_seq (Below.refl w.heap.size w) hb | exact below_seq1 (Below.refl w.heap.size w) hb | exact below_seq2 (Below.refl w.heap.size w) hb | exact below_seq3 (Below.refl w.heap.size w) hb | exact below_seq4 (Below.refl w.heap.size w) hb))
  have R1 := Lib.hid hb
  have hz1 := hb.size
  try simp at hz1
  clear hb
  have Q1 := Lib.hid hr
  clear hr
  rcases hk : bpB ps with _ | _
  · have HK := Lib.hid hk
    clear hk
    go_wp2_with fail
    refine (bbI_rd A1 n1 c1 ps [] false _ Q1.out (by omega) (by rw [HK.out]; rfl) HK.out).mono ?_
    rintro e w2 ⟨A2, n2, c2, rfl, hn2, hnc2, hr2, hb⟩
    obtain ⟨hc2, hf2⟩ := bcell hb
    have B2 := Lib.hid (show Below w.heap.size w w2 from (by first | exact below_seq B1.out hb | exact below_seq1 B1.out hb | exact below_seq2 B1.out hb | exact below_seq3 B1.out hb | exact below_seq4 B1.out hb))
    have R2 := Lib.hid hb
    have hz2 := hb.size
    try simp at hz2
    clear hb
    try have y20 : w.heap.size < w2.heap.size := by omega
    try have y20a : w.heap.size + 1 < w2.heap.size := by omega
    try have y20b : w.heap.size < w2.heap.size + 1 + 1 := by omega
    try have y20c : w.heap.size + 1 < w2.heap.size + 1 + 1 := by omega
    try have y21 : w1.heap.size < w2.heap.size := by omega
    try have y21a : w1.heap.size + 1 < w2.heap.size := by omega
    try have y21b : w1.heap.size < w2.heap.size + 1 + 1 := by omega
    try have y21c : w1.heap.size + 1 < w2.heap.size + 1 + 1 := by omega
    obtain rfl : n2 = 0 := hn2
    have X2 := Lib.hid hr2
    clear hr2
    have Q2 := Lib.hid (pr_below Q1.out R2.out)
    go_wp2_with fail
    refine (bbS_rd A1 n1 c1 ps [] false _ Q2.out (by omega) (by rw [HK.out]; rfl) HK.out).mono ?_
    rintro e w3 ⟨A3, n3, c3, rfl, hn3, hnc3, hr3, hb⟩
    obtain ⟨hc3, hf3⟩ := bcell hb
    have B3 := Lib.hid (show Below w.heap.size w w3 from (by first | exact below_seq B2.out hb | exact below_seq1 B2.out hb | exact below_seq2 B2.out hb | exact below_seq3 B2.out hb | exact below_seq4 B2.out hb))
    have R3 := Lib.hid hb
    have hz3 := hb.size
    try simp at hz3
    clear hb
    try have y30 : w.heap.size < w3.heap.size := by omega
    try have y30a : w.heap.size + 1 < w3.heap.size := by omega
    try have y30b : w.heap.size < w3.heap.size + 1 + 1 := by omega
    try have y30c : w.heap.size + 1 < w3.heap.size + 1 + 1 := by omega
    try have y31 : w1.heap.size < w3.heap.size := by omega
    try have y31a : w1.heap.size + 1 < w3.heap.size := by omega
    try have y31b : w1.heap.size < w3.heap.size + 1 + 1 := by omega
    try have y31c : w1.heap.size + 1 < w3.heap.size + 1 + 1 := by omega
    try have y32 : w2.heap.size < w3.heap.size := by omega
    try have y32a : w2.heap.size + 1 < w3.heap.size := by omega
    try have y32b : w2.heap.size < w3.heap.size + 1 + 1 := by omega
    try have y32c : w2.heap.size + 1 < w3.heap.size + 1 + 1 := by omega
    obtain rfl : n3 = 0 := hn3
    have X3 := Lib.hid hr3
    clear hr3
    have Q3 := Lib.hid (pr_below Q2.out R3.out)
    have Y2 := Lib.hid (nr_below X2.out R3.out)
    go_wp2_with fail
    refine (tgI_same A2 A3 0 c2 0 c3 [] _ Y2.out X3.out (by omega) (by omega)).mono ?_
    rintro e w4 ⟨rfl, hb⟩
    obtain ⟨hc4, hf4⟩ := bcell hb
    have B4 := Lib.hid (show Below w.heap.size w w4 from (by first | exact below_seq B3.out hb | exact below_seq1 B3.out hb | exact below_seq2 B3.out hb | exact below_seq3 B3.out hb | exact below_seq4 B3.out hb))
    have R4 := Lib.hid hb
    have hz4 := hb.size
    try simp at hz4
    clear hb
    try have y40 : w.heap.size < w4.heap.size := by omega
    try have y40a : w.heap.size + 1 < w4.heap.size := by omega
    try have y40b : w.heap.size < w4.heap.size + 1 + 1 := by omega
    try have y40c : w.heap.size + 1 < w4.heap.size + 1 + 1 := by omega
    try have y41 : w1.heap.size < w4.heap.size := by omega
    try have y41a : w1.heap.size + 1 < w4.heap.size := by omega
    try have y41b : w1.heap.size < w4.heap.size + 1 + 1 := by omega
    try have y41c : w1.heap.size + 1 < w4.heap.size + 1 + 1 := by omega
    try have y42 : w2.heap.size < w4.heap.size := by omega
    try have y42a : w2.heap.size + 1 < w4.heap.size := by omega
    try have y42b : w2.heap.size < w4.heap.size + 1 + 1 := by omega
    try have y42c : w2.heap.size + 1 < w4.heap.size + 1 + 1 := by omega
    try have y43 : w3.heap.size < w4.heap.size := by omega
    try have y43a : w3.heap.size + 1 < w4.heap.size := by omega
    try have y43b : w3.heap.size < w4.heap.size + 1 + 1 := by omega
    try have y43c : w3.heap.size + 1 < w4.heap.size + 1 + 1 := by omega
    have Z2 := Lib.hid (nr_below Y2.out R4.out)
    have Z3 := Lib.hid (nr_below X3.out R4.out)
    go_wp2_with fail
    refine (tgI_same A2 A3 0 c2 0 c3 [] _ Z2.out Z3.out (by omega) (by omega)).mono ?_
    rintro e w5 ⟨rfl, hb⟩
    obtain ⟨hc5, hf5⟩ := bcell hb
    have B5 := Lib.hid (show Below w.heap.size w w5 from (by first | exact below_seq B4.out hb | exact below_seq1 B4.out hb | exact below_seq2 B4.out hb | exact below_seq3 B4.out hb | exact below_seq4 B4.out hb))
    have R5 := Lib.hid hb
    have hz5 := hb.size
    try simp at hz5
    clear hb
    try have y50 : w.heap.size < w5.heap.size := by omega
    try have y50a : w.heap.size + 1 < w5.heap.size := by omega
    try have y50b : w.heap.size < w5.heap.size + 1 + 1 := by omega
    try have y50c : w.heap.size + 1 < w5.heap.size + 1 + 1 := by omega
    try have y51 : w1.heap.size < w5.heap.size := by omega
    try have y51a : w1.heap.size + 1 < w5.heap.size := by omega
    try have y51b : w1.heap.size < w5.heap.size + 1 + 1 := by omega
    try have y51c : w1.heap.size + 1 < w5.heap.size + 1 + 1 := by omega
    try have y52 : w2.heap.size < w5.heap.size := by omega
    try have y52a : w2.heap.size + 1 < w5.heap.size := by omega
    try have y52b : w2.heap.size < w5.heap.size + 1 + 1 := by omega
    try have y52c : w2.heap.size + 1 < w5.heap.size + 1 + 1 := by omega
    try have y53 : w3.heap.size < w5.heap.size := by omega
    try have y53a : w3.heap.size + 1 < w5.heap.size := by omega
    try have y53b : w3.heap.size < w5.heap.size + 1 + 1 := by omega
    try have y53c : w3.heap.size + 1 < w5.heap.size + 1 + 1 := by omega
    try have y54 : w4.heap.size < w5.heap.size := by omega
    try have y54a : w4.heap.size + 1 < w5.heap.size := by omega
    try have y54b : w4.heap.size < w5.heap.size + 1 + 1 := by omega
    try have y54c : w4.heap.size + 1 < w5.heap.size + 1 + 1 := by omega
    go_wp2
    all_goals
      go_ret
      refine ⟨rfl, ?_⟩
      repeat refine below_alloc ?_ _
      exact B5.out
  · have HK := Lib.hid hk
    clear hk
    obtain ⟨R, hR⟩ : ∃ R, (if bpB ps = true then bsL ps else []) = R := ⟨_, rfl⟩
    have HE : Hid (R = bsL ps) := Lib.hid (by rw [← hR, HK.out]; rfl)
    have HR := Lib.hid hR
    have HLN : Hid (R.length = 8) := Lib.hid (by rw [HE.out]; rfl)
    have HBD : Hid (∀ x ∈ R, 0 ≤ x ∧ x ≤ 900) := Lib.hid (fun x hx => by have := bs_bd (bp_of HK.out).2 x (by rw [← HE.out]; exact hx); have := Q1.out.1; omega)
    obtain ⟨m, hm⟩ : ∃ m, n1 / 2 = m := ⟨_, rfl⟩
    have hmn : m ≤ n1 := by omega
    have hm2 : m + m ≤ n1 := by omega
    have hcut : ((n1 : Int).tdiv 2) = (m : Int) := by rw [half, hm]
    have HSP : Hid (ps.take m ++ ps.drop m = ps) := Lib.hid (List.take_append_drop _ _)
    obtain ⟨hva, hvb⟩ := bp_app (a := ps.take m) (b := ps.drop m) (by rw [HSP.out]; exact HK.out)
    have HVA := Lib.hid hva
    have HVB := Lib.hid hvb
    obtain ⟨Ra, hRa⟩ : ∃ Ra, Ra = bsL (ps.take m) := ⟨_, rfl⟩
    obtain ⟨Rb, hRb⟩ : ∃ Rb, Rb = bsL (ps.drop m) := ⟨_, rfl⟩
    have HRA := Lib.hid hRa
    have HRB := Lib.hid hRb
    have HAD : Hid (∀ d, d < 8 → ∃ x y z, Ra[d]? = some x ∧ Rb[d]? = some y ∧ R[d]? = some z ∧ x + y = z ∧ 0 ≤ x ∧ 0 ≤ y ∧ z ≤ 900) := Lib.hid (fun d hd => by
      obtain ⟨x, y, z, h1, h2, h3, h4⟩ := bs_append (a := ps.take m) (b := ps.drop m) hd
      rw [HSP.out] at h3
      have h5 := bs_bd (bp_of HVA.out).2 x (List.mem_of_getElem? h1)
      have h6 := bs_bd (bp_of HVB.out).2 y (List.mem_of_getElem? h2)
      have hl := Q1.out.1
      rw [List.length_take] at h5
      rw [List.length_drop] at h6
      exact ⟨x, y, z, by rw [HRA.out]; exact h1, by rw [HRB.out]; exact h2, by rw [HE.out]; exact h3, h4, h5.1, h6.1, by omega⟩)
    clear hm hva hvb hRa hRb hR
    go_wp2_with fail
    refine (bbI_rd A1 n1 c1 ps R true _ Q1.out (by omega) HR.out HK.out).mono ?_
    rintro e w2 ⟨A2, n2, c2, rfl, hn2, hnc2, hr2, hb⟩
    obtain ⟨hc2, hf2⟩ := bcell hb
    have B2 := Lib.hid (show Below w.heap.size w w2 from (by first | exact below_seq B1.out hb | exact below_seq1 B1.out hb | exact below_seq2 B1.out hb | exact below_seq3 B1.out hb | exact below_seq4 B1.out hb))
    have R2 := Lib.hid hb
    have hz2 := hb.size
    try simp at hz2
    clear hb
    try have y20 : w.heap.size < w2.heap.size := by omega
    try have y20a : w.heap.size + 1 < w2.heap.size := by omega
    try have y20b : w.heap.size < w2.heap.size + 1 + 1 := by omega
    try have y20c : w.heap.size + 1 < w2.heap.size + 1 + 1 := by omega
    try have y21 : w1.heap.size < w2.heap.size := by omega
    try have y21a : w1.heap.size + 1 < w2.heap.size := by omega
    try have y21b : w1.heap.size < w2.heap.size + 1 + 1 := by omega
    try have y21c : w1.heap.size + 1 < w2.heap.size + 1 + 1 := by omega
    obtain rfl : n2 = 8 := hn2.trans HLN.out
    clear hn2
    have X2 := Lib.hid hr2
    clear hr2
    have Q2 := Lib.hid (pr_below Q1.out R2.out)
    go_wp2_with fail
    refine (bbS_rd A1 n1 c1 ps R true _ Q2.out (by omega) HR.out HK.out).mono ?_
    rintro e w3 ⟨A3, n3, c3, rfl, hn3, hnc3, hr3, hb⟩
    obtain ⟨hc3, hf3⟩ := bcell hb
    have B3 := Lib.hid (show Below w.heap.size w w3 from (by first | exact below_seq B2.out hb | exact below_seq1 B2.out hb | exact below_seq2 B2.out hb | exact below_seq3 B2.out hb | exact below_seq4 B2.out hb))
    have R3 := Lib.hid hb
    have hz3 := hb.size
    try simp at hz3
    clear hb
    try have y30 : w.heap.size < w3.heap.size := by omega
    try have y30a : w.heap.size + 1 < w3.heap.size := by omega
    try have y30b : w.heap.size < w3.heap.size + 1 + 1 := by omega
    try have y30c : w.heap.size + 1 < w3.heap.size + 1 + 1 := by omega
    try have y31 : w1.heap.size < w3.heap.size := by omega
    try have y31a : w1.heap.size + 1 < w3.heap.size := by omega
    try have y31b : w1.heap.size < w3.heap.size + 1 + 1 := by omega
    try have y31c : w1.heap.size + 1 < w3.heap.size + 1 + 1 := by omega
    try have y32 : w2.heap.size < w3.heap.size := by omega
    try have y32a : w2.heap.size + 1 < w3.heap.size := by omega
    try have y32b : w2.heap.size < w3.heap.size + 1 + 1 := by omega
    try have y32c : w2.heap.size + 1 < w3.heap.size + 1 + 1 := by omega
    obtain rfl : n3 = 8 := hn3.trans HLN.out
    clear hn3
    have X3 := Lib.hid hr3
    clear hr3
    have Q3 := Lib.hid (pr_below Q2.out R3.out)
    have Y2 := Lib.hid (nr_below X2.out R3.out)
    go_wp2_with fail
    refine (tgI_same A2 A3 8 c2 8 c3 R _ Y2.out X3.out (by omega) (by omega)).mono ?_
    rintro e w4 ⟨rfl, hb⟩
    obtain ⟨hc4, hf4⟩ := bcell hb
    have B4 := Lib.hid (show Below w.heap.size w w4 from (by first | exact below_seq B3.out hb | exact below_seq1 B3.out hb | exact below_seq2 B3.out hb | exact below_seq3 B3.out hb | exact below_seq4 B3.out hb))
    have R4 := Lib.hid hb
    have hz4 := hb.size
    try simp at hz4
    clear hb
    try have y40 : w.heap.size < w4.heap.size := by omega
    try have y40a : w.heap.size + 1 < w4.heap.size := by omega
    try have y40b : w.heap.size < w4.heap.size + 1 + 1 := by omega
    try have y40c : w.heap.size + 1 < w4.heap.size + 1 + 1 := by omega
    try have y41 : w1.heap.size < w4.heap.size := by omega
    try have y41a : w1.heap.size + 1 < w4.heap.size := by omega
    try have y41b : w1.heap.size < w4.heap.size + 1 + 1 := by omega
    try have y41c : w1.heap.size + 1 < w4.heap.size + 1 + 1 := by omega
    try have y42 : w2.heap.size < w4.heap.size := by omega
    try have y42a : w2.heap.size + 1 < w4.heap.size := by omega
    try have y42b : w2.heap.size < w4.heap.size + 1 + 1 := by omega
    try have y42c : w2.heap.size + 1 < w4.heap.size + 1 + 1 := by omega
    try have y43 : w3.heap.size < w4.heap.size := by omega
    try have y43a : w3.heap.size + 1 < w4.heap.size := by omega
    try have y43b : w3.heap.size < w4.heap.size + 1 + 1 := by omega
    try have y43c : w3.heap.size + 1 < w4.heap.size + 1 + 1 := by omega
    have Z2 := Lib.hid (nr_below Y2.out R4.out)
    have Q4 := Lib.hid (pr_below Q3.out R4.out)
    go_wp2_with fail
    refine (bbI_rd A1 m c1 (ps.take m) Ra true _ (pr_take Q4.out hmn) (by omega) (by rw [HVA.out, HRA.out]; rfl) HVA.out).mono ?_
    rintro e w5 ⟨A5, n5, c5, rfl, hn5, hnc5, hr5, hb⟩
    obtain ⟨hc5, hf5⟩ := bcell hb
    have B5 := Lib.hid (show Below w.heap.size w w5 from (by first | exact below_seq B4.out hb | exact below_seq1 B4.out hb | exact below_seq2 B4.out hb | exact below_seq3 B4.out hb | exact below_seq4 B4.out hb))
    have R5 := Lib.hid hb
    have hz5 := hb.size
    try simp at hz5
    clear hb
    try have y50 : w.heap.size < w5.heap.size := by omega
    try have y50a : w.heap.size + 1 < w5.heap.size := by omega
    try have y50b : w.heap.size < w5.heap.size + 1 + 1 := by omega
    try have y50c : w.heap.size + 1 < w5.heap.size + 1 + 1 := by omega
    try have y51 : w1.heap.size < w5.heap.size := by omega
    try have y51a : w1.heap.size + 1 < w5.heap.size := by omega
    try have y51b : w1.heap.size < w5.heap.size + 1 + 1 := by omega
    try have y51c : w1.heap.size + 1 < w5.heap.size + 1 + 1 := by omega
    try have y52 : w2.heap.size < w5.heap.size := by omega
    try have y52a : w2.heap.size + 1 < w5.heap.size := by omega
    try have y52b : w2.heap.size < w5.heap.size + 1 + 1 := by omega
    try have y52c : w2.heap.size + 1 < w5.heap.size + 1 + 1 := by omega
    try have y53 : w3.heap.size < w5.heap.size := by omega
    try have y53a : w3.heap.size + 1 < w5.heap.size := by omega
    try have y53b : w3.heap.size < w5.heap.size + 1 + 1 := by omega
    try have y53c : w3.heap.size + 1 < w5.heap.size + 1 + 1 := by omega
    try have y54 : w4.heap.size < w5.heap.size := by omega
    try have y54a : w4.heap.size + 1 < w5.heap.size := by omega
    try have y54b : w4.heap.size < w5.heap.size + 1 + 1 := by omega
    try have y54c : w4.heap.size + 1 < w5.heap.size + 1 + 1 := by omega
    obtain rfl : n5 = 8 := by rw [hn5, HRA.out]; rfl
    clear hn5
    have X5 := Lib.hid hr5
    clear hr5
    have Q5 := Lib.hid (pr_below Q4.out R5.out)
    have V2 := Lib.hid (nr_below Z2.out R5.out)
    by_cases hcm : c1 = m
    · obtain rfl : n1 = 0 := by omega
      obtain rfl : m = 0 := by omega
      obtain rfl : c1 = 0 := hcm
      go_wp2_with fail
      refine (bbI_rd A1 0 0 (ps.drop 0) Rb true _ (pr_drop0 Q5.out (Nat.le_refl 0)) (by omega) (by rw [HVB.out, HRB.out]; rfl) HVB.out).mono ?_
      rintro e w6 ⟨A6, n6, c6, rfl, hn6, hnc6, hr6, hb⟩
      obtain ⟨hc6, hf6⟩ := bcell hb
      have B6 := Lib.hid (show Below w.heap.size w w6 from (by first | exact below_seq B5.out hb | exact below_seq1 B5.out hb | exact below_seq2 B5.out hb | exact below_seq3 B5.out hb | exact below_seq4 B5.out hb))
      have R6 := Lib.hid hb
      have hz6 := hb.size
      try simp at hz6
      clear hb
      try have y60 : w.heap.size < w6.heap.size := by omega
      try have y60a : w.heap.size + 1 < w6.heap.size := by omega
      try have y60b : w.heap.size < w6.heap.size + 1 + 1 := by omega
      try have y60c : w.heap.size + 1 < w6.heap.size + 1 + 1 := by omega
      try have y61 : w1.heap.size < w6.heap.size := by omega
      try have y61a : w1.heap.size + 1 < w6.heap.size := by omega
      try have y61b : w1.heap.size < w6.heap.size + 1 + 1 := by omega
      try have y61c : w1.heap.size + 1 < w6.heap.size + 1 + 1 := by omega
      try have y62 : w2.heap.size < w6.heap.size := by omega
      try have y62a : w2.heap.size + 1 < w6.heap.size := by omega
      try have y62b : w2.heap.size < w6.heap.size + 1 + 1 := by omega
      try have y62c : w2.heap.size + 1 < w6.heap.size + 1 + 1 := by omega
      try have y63 : w3.heap.size < w6.heap.size := by omega
      try have y63a : w3.heap.size + 1 < w6.heap.size := by omega
      try have y63b : w3.heap.size < w6.heap.size + 1 + 1 := by omega
      try have y63c : w3.heap.size + 1 < w6.heap.size + 1 + 1 := by omega
      try have y64 : w4.heap.size < w6.heap.size := by omega
      try have y64a : w4.heap.size + 1 < w6.heap.size := by omega
      try have y64b : w4.heap.size < w6.heap.size + 1 + 1 := by omega
      try have y64c : w4.heap.size + 1 < w6.heap.size + 1 + 1 := by omega
      try have y65 : w5.heap.size < w6.heap.size := by omega
      try have y65a : w5.heap.size + 1 < w6.heap.size := by omega
      try have y65b : w5.heap.size < w6.heap.size + 1 + 1 := by omega
      try have y65c : w5.heap.size + 1 < w6.heap.size + 1 + 1 := by omega
      obtain rfl : n6 = 8 := by rw [hn6, HRB.out]; rfl
      clear hn6
      have R0 : Hid (PtRel w A2 A5 A6 R Ra Rb (.int .i64 0) w6) := Lib.hid ⟨0, Nat.zero_le _, rfl, nr_below V2.out R6.out, nr_below X5.out R6.out, hr6, B6.out⟩
      clear hr6
      go_wp2
      go_loopw [13] (fun i wr => PtRel w A2 A5 A6 R Ra Rb i wr) (fun i _ => 8 - (intOf i).toNat)
      case atStart => exact R0.out
      case round =>
        obtain ⟨k, hk, rfl, h2, h5, h6, hbl⟩ := hrel
        clear R0
        have H2 := Lib.hid h2
        have H5 := Lib.hid h5
        have H6 := Lib.hid h6
        have HBL := Lib.hid hbl
        clear hbl
        by_cases hlt : k < 8
        · obtain ⟨x, y, z, hx, hy, hz, hxy, x0, y0, z9⟩ := HAD.out k hlt
          obtain ⟨b, off, x', rfl, hb, hx', c0⟩ := nr_at h5 hlt
          obtain ⟨b2, off2, y', rfl, hb2, hy', d0⟩ := nr_at h6 hlt
          obtain ⟨b3, off3, z', rfl, hb3, hz', e0⟩ := nr_at h2 hlt
          obtain rfl : x' = x := by rw [hx] at hx'; exact (Option.some.inj hx').symm
          obtain rfl : y' = y := by rw [hy] at hy'; exact (Option.some.inj hy').symm
          obtain rfl : z' = z := by rw [hz] at hz'; exact (Option.some.inj hz').symm
          have k1 : (k : Int) < 8 := by omega
          have k0 : (0 : Int) ≤ (k : Int) := by omega
          have xy0 : 0 ≤ x' + y' := by omega
          have xy9 : x' + y' ≤ 900 := by omega
          have hne : (x' + y' != z') = false := by simp; omega
          clear h2 h5 h6 hx hy hz hx' hy' hz' hxy
          go_wp2_with fail
          go_quiet (fail)
          go_wp2
          go_roundw
          case rel => exact ⟨k + 1, by omega, by go_num, nr_drewN H2.out _, nr_drewN H5.out _, nr_drewN H6.out _, below_drewN HBL.out _⟩
          case measure => simp [intOf]; omega
        · obtain rfl : k = 8 := by omega
          clear h2 h5 h6
          go_wp2
          go_ret
          exact ⟨rfl, HBL.out⟩
    · go_wp2_with fail
      refine (bbI_rd (A1.map (fun x => x.add (m * 4))) (n1 - m) (c1 - m) (ps.drop m) Rb true _ (pr_drop2 Q5.out hmn hnc hcm) (by omega) (by rw [HVB.out, HRB.out]; rfl) HVB.out).mono ?_
      rintro e w6 ⟨A6, n6, c6, rfl, hn6, hnc6, hr6, hb⟩
      obtain ⟨hc6, hf6⟩ := bcell hb
      have B6 := Lib.hid (show Below w.heap.size w w6 from (by first | exact below_seq B5.out hb | exact below_seq1 B5.out hb | exact below_seq2 B5.out hb | exact below_seq3 B5.out hb | exact below_seq4 B5.out hb))
      have R6 := Lib.hid hb
      have hz6 := hb.size
      try simp at hz6
      clear hb
      try have y60 : w.heap.size < w6.heap.size := by omega
      try have y60a : w.heap.size + 1 < w6.heap.size := by omega
      try have y60b : w.heap.size < w6.heap.size + 1 + 1 := by omega
      try have y60c : w.heap.size + 1 < w6.heap.size + 1 + 1 := by omega
      try have y61 : w1.heap.size < w6.heap.size := by omega
      try have y61a : w1.heap.size + 1 < w6.heap.size := by omega
      try have y61b : w1.heap.size < w6.heap.size + 1 + 1 := by omega
      try have y61c : w1.heap.size + 1 < w6.heap.size + 1 + 1 := by omega
      try have y62 : w2.heap.size < w6.heap.size := by omega
      try have y62a : w2.heap.size + 1 < w6.heap.size := by omega
      try have y62b : w2.heap.size < w6.heap.size + 1 + 1 := by omega
      try have y62c : w2.heap.size + 1 < w6.heap.size + 1 + 1 := by omega
      try have y63 : w3.heap.size < w6.heap.size := by omega
      try have y63a : w3.heap.size + 1 < w6.heap.size := by omega
      try have y63b : w3.heap.size < w6.heap.size + 1 + 1 := by omega
      try have y63c : w3.heap.size + 1 < w6.heap.size + 1 + 1 := by omega
      try have y64 : w4.heap.size < w6.heap.size := by omega
      try have y64a : w4.heap.size + 1 < w6.heap.size := by omega
      try have y64b : w4.heap.size < w6.heap.size + 1 + 1 := by omega
      try have y64c : w4.heap.size + 1 < w6.heap.size + 1 + 1 := by omega
      try have y65 : w5.heap.size < w6.heap.size := by omega
      try have y65a : w5.heap.size + 1 < w6.heap.size := by omega
      try have y65b : w5.heap.size < w6.heap.size + 1 + 1 := by omega
      try have y65c : w5.heap.size + 1 < w6.heap.size + 1 + 1 := by omega
      obtain rfl : n6 = 8 := by rw [hn6, HRB.out]; rfl
      clear hn6
      have R0 : Hid (PtRel w A2 A5 A6 R Ra Rb (.int .i64 0) w6) := Lib.hid ⟨0, Nat.zero_le _, rfl, nr_below V2.out R6.out, nr_below X5.out R6.out, hr6, B6.out⟩
      clear hr6
      go_wp2
      go_loopw [13] (fun i wr => PtRel w A2 A5 A6 R Ra Rb i wr) (fun i _ => 8 - (intOf i).toNat)
      case atStart => exact R0.out
      case round =>
        obtain ⟨k, hk, rfl, h2, h5, h6, hbl⟩ := hrel
        clear R0
        have H2 := Lib.hid h2
        have H5 := Lib.hid h5
        have H6 := Lib.hid h6
        have HBL := Lib.hid hbl
        clear hbl
        by_cases hlt : k < 8
        · obtain ⟨x, y, z, hx, hy, hz, hxy, x0, y0, z9⟩ := HAD.out k hlt
          obtain ⟨b, off, x', rfl, hb, hx', c0⟩ := nr_at h5 hlt
          obtain ⟨b2, off2, y', rfl, hb2, hy', d0⟩ := nr_at h6 hlt
          obtain ⟨b3, off3, z', rfl, hb3, hz', e0⟩ := nr_at h2 hlt
          obtain rfl : x' = x := by rw [hx] at hx'; exact (Option.some.inj hx').symm
          obtain rfl : y' = y := by rw [hy] at hy'; exact (Option.some.inj hy').symm
          obtain rfl : z' = z := by rw [hz] at hz'; exact (Option.some.inj hz').symm
          have k1 : (k : Int) < 8 := by omega
          have k0 : (0 : Int) ≤ (k : Int) := by omega
          have xy0 : 0 ≤ x' + y' := by omega
          have xy9 : x' + y' ≤ 900 := by omega
          have hne : (x' + y' != z') = false := by simp; omega
          clear h2 h5 h6 hx hy hz hx' hy' hz' hxy
          go_wp2_with fail
          go_quiet (fail)
          go_wp2
          go_roundw
          case rel => exact ⟨k + 1, by omega, by go_num, nr_drewN H2.out _, nr_drewN H5.out _, nr_drewN H6.out _, below_drewN HBL.out _⟩
          case measure => simp [intOf]; omega
        · obtain rfl : k = 8 := by omega
          clear h2 h5 h6
          go_wp2
          go_ret
          exact ⟨rfl, HBL.out⟩
theorem own : ownKnob Try.prog.godebug = none := by kernel_rfl
theorem laidOut : laidOutB Try.prog = true := by kernel_rfl
set_option maxRecDepth 100000 in
theorem lifted (os : Os) (started : os.Started) (H : Type) (enc : TypeId × Value → H) :
    ReturnsInHanded {} Try.checked os 10 .any (Rows.fnBytesPartsSpec.pre6 enc Try.prog Try.f10 Rows.fnBytesPartsRow.domain false) (Rows.fnBytesPartsSpec.post enc Try.prog Try.f10 false true false false) := by
  refine returnsInHanded_of_change (C := Try.checked) own started (by kernel_rfl) Try.func10
    (ChangeSpec.witness6 (enc := enc) (C := Try.checked) false ⟨#[], #[.slice none 0 0], []⟩ 8 (by kernel_rfl) (by kernel_rfl) (by kernel_rfl) (by kernel_rfl)) ?_
  intro W base args ds gs before hval0 hW _ _
  have hval : ∀ (j : Nat) t v, Try.f10.params[j]? = some t → args[j]? = some v → Value.okWide Try.prog W .any base t v := hval0
  have hW' := hW
  obtain ⟨p, q, hA0, hV, rfl, _, _⟩ := hW
  have hA : DataW.TrodAll enc Try.prog W 0 (fun _ => true) true Try.f10.params.toList args.toList ds p := hA0
  rw [Try.params10] at hA hval
  obtain ⟨v0, vs0, d0, ds0, p0, q0, hargs, rfl, rfl, h0, r0⟩ := trodAll_cons hA
  obtain ⟨rfl, rfl, rfl⟩ := trodAll_nil r0
  obtain rfl : args = #[v0] := by cases args; simp_all
  obtain ⟨rfl, rfl⟩ := trodVars_none hV
  have lt0 : ∀ x ∈ p0, x.block < W.heap.size := by obtain ⟨m, hm⟩ := h0; exact DataW.trod_lt m _ _ _ hm
  obtain ⟨a0, n0, c0, rfl⟩ := okWide_slice Try.underlying22 (hval 0 22 v0 rfl rfl)
  have w0 : Bytes W a0 n0 c0 := bytes_open h0
  clear hA0 hval0
  refine (walk a0 n0 c0 W w0).mono fun e W' ⟨he, bel⟩ => ?_
  subst he
  exact ⟨_, rfl, _, _, _, [], _, [], hW', trodAll_mk1 (shut_bool Try.underlying4 _), (trodAll_cons_mk (Below.trod laidOut (by kernel_rfl) (of_decide_eq_true (by kernel_rfl)) h0 bel lt0) trodAll_mk0), rfl, bel.frame _, fun h => by cases h⟩
theorem over : Rows.fnBytesPartsRow.holds Try.pinned (OpenSpec.ofChange Rows.fnBytesPartsSpec) :=
  OpenClaim.holds_of_wide 10 Try.f10 rfl rfl rfl rfl rfl rfl rfl ⟨rfl, rfl, rfl, rfl, rfl⟩ rfl rfl rfl rfl rfl (by kernel_rfl) Try.func10 (by unfold joinedFacts; rw [mayEnter, liftsFinal, makeIs]; kernel_rfl)
    (of_decide_eq_true (by kernel_rfl)) (by unfold Func.isWrapper; first | (rw [if_pos (by decide +kernel)]; kernel_rfl) | (rw [if_neg (by decide +kernel)]; exact ⟨rfl, rfl⟩))
    (fun os started H enc _ => lifted os started H enc)
/-- the given statement -/
theorem proved : Rows.FnBytesPartsSaid := over
end Go.Proofs.Ytaccbmgbkalknaa.fnBytesParts
