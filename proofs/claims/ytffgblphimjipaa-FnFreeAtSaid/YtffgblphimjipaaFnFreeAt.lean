/-
  The law FnFreeAt returns true at every argument: times of freedom are told. Conditions: none.
-/
import Derived.Test.YtffgblphimjipaaLift
import Derived.Test.YtffgblphimjipaaDSc2
import Derived.Test.YtffgblphimjipaaScM
namespace Go.Proofs.Ytffgblphimjipaa.fnFreeAt
open Go.ChangeShapes Go.WideShapes Go.ChangeAt Go.RowKit

set_option maxHeartbeats 8000000 in
theorem walk (A : Option Addr) (n c : Nat) (w : World) (h : Bytes w A n c) :
    Calls Try.prog 9 #[.slice A n c] w fun e w' => e = .returned (.bool true) ∧ Below w.heap.size w w' := by
  have HB := Lib.hid h
  clear h
  by_cases hbig : ¬ n ≤ 1048576
  · go_enter Try.func9, Try.ntmps9
    go_wp2
    go_ret
    exact ⟨rfl, Below.refl _ _⟩
  have hbig' : n ≤ 1048576 := by omega
  clear hbig
  go_enter Try.func9, Try.ntmps9
  go_wp2_with fail
  refine (drawFreeAt_any A n c _ HB.out).mono ?_
  rintro e w1 ⟨r, s, l, t, rfl, hb⟩
  obtain ⟨hc1, hf1⟩ := bcell hb
  have B1 := Lib.hid (show Below w.heap.size w w1 from (by first | exact below_seq (Below.refl w.heap.size w) hb | exact below_seq1 (Below.refl w.heap.size w) hb | exact below_seq2 (Below.refl w.heap.size w) hb | exact below_seq3 (Below.refl w.heap.size w) hb | exact below_seq4 (Below.refl w.heap.size w) hb))
  have R1 := Lib.hid hb
  have hz1 := hb.size
  try simp at hz1
  clear hb
  rcases hv : scB r s l t with _ | _
  · have HV := Lib.hid hv
    clear hv
    go_wp2_with fail
    refine (frI_no r s l t _ HV.out).mono ?_
    rintro e w2 ⟨rfl, hb⟩
    obtain ⟨hc2, hf2⟩ := bcell hb
    have B2 := Lib.hid (show Below w.heap.size w w2 from (by first | exact below_seq B1.out hb | exact below_seq1 B1.out hb | exact below_seq2 B1.out hb | exact below_seq3 B1.out hb | exact below_seq4 B1.out hb))
    have R2 := Lib.hid hb
    have hz2 := hb.size
    try simp at hz2
    clear hb
    try have y20 : w.heap.size < w2.heap.size := by omega
    try have y20a : w.heap.size + 1 < w2.heap.size := by omega
    try have y20b : w.heap.size < w2.heap.size + 1 + 1 := by omega
    try have y20c : w.heap.size + 1 < w2.heap.size + 1 + 1 := by omega
    try have y21 : w1.heap.size < w2.heap.size := by omega
    try have y21a : w1.heap.size + 1 < w2.heap.size := by omega
    try have y21b : w1.heap.size < w2.heap.size + 1 + 1 := by omega
    try have y21c : w1.heap.size + 1 < w2.heap.size + 1 + 1 := by omega
    go_wp2_with fail
    refine (frS_no r s l t _ HV.out).mono ?_
    rintro e w3 ⟨rfl, hb⟩
    obtain ⟨hc3, hf3⟩ := bcell hb
    have B3 := Lib.hid (show Below w.heap.size w w3 from (by first | exact below_seq B2.out hb | exact below_seq1 B2.out hb | exact below_seq2 B2.out hb | exact below_seq3 B2.out hb | exact below_seq4 B2.out hb))
    have R3 := Lib.hid hb
    have hz3 := hb.size
    try simp at hz3
    clear hb
    try have y30 : w.heap.size < w3.heap.size := by omega
    try have y30a : w.heap.size + 1 < w3.heap.size := by omega
    try have y30b : w.heap.size < w3.heap.size + 1 + 1 := by omega
    try have y30c : w.heap.size + 1 < w3.heap.size + 1 + 1 := by omega
    try have y31 : w1.heap.size < w3.heap.size := by omega
    try have y31a : w1.heap.size + 1 < w3.heap.size := by omega
    try have y31b : w1.heap.size < w3.heap.size + 1 + 1 := by omega
    try have y31c : w1.heap.size + 1 < w3.heap.size + 1 + 1 := by omega
    try have y32 : w2.heap.size < w3.heap.size := by omega
    try have y32a : w2.heap.size + 1 < w3.heap.size := by omega
    try have y32b : w2.heap.size < w3.heap.size + 1 + 1 := by omega
    try have y32c : w2.heap.size + 1 < w3.heap.size + 1 + 1 := by omega
    go_wp2
    all_goals
      go_ret
      refine ⟨rfl, ?_⟩
      repeat refine below_alloc ?_ _
      exact B3.out
  have HV := Lib.hid hv
  obtain ⟨q0, q1, q2, q3, q4, q5, q6, q7⟩ := sc_of hv
  obtain ⟨F, hF⟩ : ∃ F, mx l (s + r) = F := ⟨_, rfl⟩
  obtain ⟨F0, F1, F2⟩ := mx_bd l (s + r)
  rw [hF] at F0 F1 F2
  have HF := Lib.hid hF
  have F3 : F ≤ 2000000 := by omega
  have F4 : s ≤ F := by omega
  clear hv hF
  go_wp2_with fail
  refine (frI_yes r s l t F _ HV.out HF.out).mono ?_
  rintro e w2 ⟨rfl, hb⟩
  obtain ⟨hc2, hf2⟩ := bcell hb
  have B2 := Lib.hid (show Below w.heap.size w w2 from (by first | exact below_seq B1.out hb | exact below_seq1 B1.out hb | exact below_seq2 B1.out hb | exact below_seq3 B1.out hb | exact below_seq4 B1.out hb))
  have R2 := Lib.hid hb
  have hz2 := hb.size
  try simp at hz2
  clear hb
  try have y20 : w.heap.size < w2.heap.size := by omega
  try have y20a : w.heap.size + 1 < w2.heap.size := by omega
  try have y20b : w.heap.size < w2.heap.size + 1 + 1 := by omega
  try have y20c : w.heap.size + 1 < w2.heap.size + 1 + 1 := by omega
  try have y21 : w1.heap.size < w2.heap.size := by omega
  try have y21a : w1.heap.size + 1 < w2.heap.size := by omega
  try have y21b : w1.heap.size < w2.heap.size + 1 + 1 := by omega
  try have y21c : w1.heap.size + 1 < w2.heap.size + 1 + 1 := by omega
  go_wp2_with fail
  refine (frS_yes r s l t F _ HV.out HF.out).mono ?_
  rintro e w3 ⟨rfl, hb⟩
  obtain ⟨hc3, hf3⟩ := bcell hb
  have B3 := Lib.hid (show Below w.heap.size w w3 from (by first | exact below_seq B2.out hb | exact below_seq1 B2.out hb | exact below_seq2 B2.out hb | exact below_seq3 B2.out hb | exact below_seq4 B2.out hb))
  have R3 := Lib.hid hb
  have hz3 := hb.size
  try simp at hz3
  clear hb
  try have y30 : w.heap.size < w3.heap.size := by omega
  try have y30a : w.heap.size + 1 < w3.heap.size := by omega
  try have y30b : w.heap.size < w3.heap.size + 1 + 1 := by omega
  try have y30c : w.heap.size + 1 < w3.heap.size + 1 + 1 := by omega
  try have y31 : w1.heap.size < w3.heap.size := by omega
  try have y31a : w1.heap.size + 1 < w3.heap.size := by omega
  try have y31b : w1.heap.size < w3.heap.size + 1 + 1 := by omega
  try have y31c : w1.heap.size + 1 < w3.heap.size + 1 + 1 := by omega
  try have y32 : w2.heap.size < w3.heap.size := by omega
  try have y32a : w2.heap.size + 1 < w3.heap.size := by omega
  try have y32b : w2.heap.size < w3.heap.size + 1 + 1 := by omega
  try have y32c : w2.heap.size + 1 < w3.heap.size + 1 + 1 := by omega
  obtain ⟨N, hN⟩ : ∃ N, ptN r s l t F = N := ⟨_, rfl⟩
  obtain ⟨R, hR⟩ : ∃ R, stB r s l t F = R := ⟨_, rfl⟩
  obtain ⟨B, hB⟩ : ∃ B, bnB r s l t F = B := ⟨_, rfl⟩
  obtain ⟨M, hM⟩ : ∃ M, ptN r s l t (F - 1) = M := ⟨_, rfl⟩
  obtain ⟨S, hS⟩ : ∃ S, stB r s l t (F - 1) = S := ⟨_, rfl⟩
  obtain ⟨C, hC⟩ : ∃ C, bnB r s l t (F - 1) = C := ⟨_, rfl⟩
  have HN := Lib.hid hN
  have HR := Lib.hid hR
  have HB := Lib.hid hB
  have HM := Lib.hid hM
  have HS := Lib.hid hS
  have HC := Lib.hid hC
  have E1 : Hid (R = true → B = false ∧ N = 0) := Lib.hid (fun h => by
    have h2 := st_of (hR.trans h)
    refine ⟨?_, ?_⟩
    · rw [← hB, bnB, hR, h, Bool.true_and, decide_eq_false_iff_not]; omega
    · rw [← hN, ptN_yes (hR.trans h), pt]; split <;> omega)
  have E2 : Hid (S = true → C = false → 0 < M) := Lib.hid (fun h h3 => by
    have h2 := st_of (hS.trans h)
    rw [← hC, bnB, hS, h, Bool.true_and, decide_eq_false_iff_not] at h3
    rw [← hM, ptN_yes (hS.trans h), pt]; split <;> omega)
  have n0 : 0 ≤ N ∧ N ≤ 99 := by rw [← hN]; exact ptN_bd _ _ _ _ _
  have m0 : 0 ≤ M ∧ M ≤ 99 := by rw [← hM]; exact ptN_bd _ _ _ _ _
  clear hN hR hB hM hS hC
  go_wp2_with fail
  refine (ibI_gen r s l t F B R _ HB.out HR.out).mono ?_
  rintro e w4 ⟨rfl, hb⟩
  obtain ⟨hc4, hf4⟩ := bcell hb
  have B4 := Lib.hid (show Below w.heap.size w w4 from (by first | exact below_seq B3.out hb | exact below_seq1 B3.out hb | exact below_seq2 B3.out hb | exact below_seq3 B3.out hb | exact below_seq4 B3.out hb))
  have R4 := Lib.hid hb
  have hz4 := hb.size
  try simp at hz4
  clear hb
  try have y40 : w.heap.size < w4.heap.size := by omega
  try have y40a : w.heap.size + 1 < w4.heap.size := by omega
  try have y40b : w.heap.size < w4.heap.size + 1 + 1 := by omega
  try have y40c : w.heap.size + 1 < w4.heap.size + 1 + 1 := by omega
  try have y41 : w1.heap.size < w4.heap.size := by omega
  try have y41a : w1.heap.size + 1 < w4.heap.size := by omega
  try have y41b : w1.heap.size < w4.heap.size + 1 + 1 := by omega
  try have y41c : w1.heap.size + 1 < w4.heap.size + 1 + 1 := by omega
  try have y42 : w2.heap.size < w4.heap.size := by omega
  try have y42a : w2.heap.size + 1 < w4.heap.size := by omega
  try have y42b : w2.heap.size < w4.heap.size + 1 + 1 := by omega
  try have y42c : w2.heap.size + 1 < w4.heap.size + 1 + 1 := by omega
  try have y43 : w3.heap.size < w4.heap.size := by omega
  try have y43a : w3.heap.size + 1 < w4.heap.size := by omega
  try have y43b : w3.heap.size < w4.heap.size + 1 + 1 := by omega
  try have y43c : w3.heap.size + 1 < w4.heap.size + 1 + 1 := by omega
  go_wp2_with fail
  refine (paI_gen r s l t F N R _ HN.out HR.out).mono ?_
  rintro e w5 ⟨rfl, hb⟩
  obtain ⟨hc5, hf5⟩ := bcell hb
  have B5 := Lib.hid (show Below w.heap.size w w5 from (by first | exact below_seq B4.out hb | exact below_seq1 B4.out hb | exact below_seq2 B4.out hb | exact below_seq3 B4.out hb | exact below_seq4 B4.out hb))
  have R5 := Lib.hid hb
  have hz5 := hb.size
  try simp at hz5
  clear hb
  try have y50 : w.heap.size < w5.heap.size := by omega
  try have y50a : w.heap.size + 1 < w5.heap.size := by omega
  try have y50b : w.heap.size < w5.heap.size + 1 + 1 := by omega
  try have y50c : w.heap.size + 1 < w5.heap.size + 1 + 1 := by omega
  try have y51 : w1.heap.size < w5.heap.size := by omega
  try have y51a : w1.heap.size + 1 < w5.heap.size := by omega
  try have y51b : w1.heap.size < w5.heap.size + 1 + 1 := by omega
  try have y51c : w1.heap.size + 1 < w5.heap.size + 1 + 1 := by omega
  try have y52 : w2.heap.size < w5.heap.size := by omega
  try have y52a : w2.heap.size + 1 < w5.heap.size := by omega
  try have y52b : w2.heap.size < w5.heap.size + 1 + 1 := by omega
  try have y52c : w2.heap.size + 1 < w5.heap.size + 1 + 1 := by omega
  try have y53 : w3.heap.size < w5.heap.size := by omega
  try have y53a : w3.heap.size + 1 < w5.heap.size := by omega
  try have y53b : w3.heap.size < w5.heap.size + 1 + 1 := by omega
  try have y53c : w3.heap.size + 1 < w5.heap.size + 1 + 1 := by omega
  try have y54 : w4.heap.size < w5.heap.size := by omega
  try have y54a : w4.heap.size + 1 < w5.heap.size := by omega
  try have y54b : w4.heap.size < w5.heap.size + 1 + 1 := by omega
  try have y54c : w4.heap.size + 1 < w5.heap.size + 1 + 1 := by omega
  go_wp2_with fail
  refine (ibI_gen r s l t (F - 1) C S _ HC.out HS.out).mono ?_
  rintro e w6 ⟨rfl, hb⟩
  obtain ⟨hc6, hf6⟩ := bcell hb
  have B6 := Lib.hid (show Below w.heap.size w w6 from (by first | exact below_seq B5.out hb | exact below_seq1 B5.out hb | exact below_seq2 B5.out hb | exact below_seq3 B5.out hb | exact below_seq4 B5.out hb))
  have R6 := Lib.hid hb
  have hz6 := hb.size
  try simp at hz6
  clear hb
  try have y60 : w.heap.size < w6.heap.size := by omega
  try have y60a : w.heap.size + 1 < w6.heap.size := by omega
  try have y60b : w.heap.size < w6.heap.size + 1 + 1 := by omega
  try have y60c : w.heap.size + 1 < w6.heap.size + 1 + 1 := by omega
  try have y61 : w1.heap.size < w6.heap.size := by omega
  try have y61a : w1.heap.size + 1 < w6.heap.size := by omega
  try have y61b : w1.heap.size < w6.heap.size + 1 + 1 := by omega
  try have y61c : w1.heap.size + 1 < w6.heap.size + 1 + 1 := by omega
  try have y62 : w2.heap.size < w6.heap.size := by omega
  try have y62a : w2.heap.size + 1 < w6.heap.size := by omega
  try have y62b : w2.heap.size < w6.heap.size + 1 + 1 := by omega
  try have y62c : w2.heap.size + 1 < w6.heap.size + 1 + 1 := by omega
  try have y63 : w3.heap.size < w6.heap.size := by omega
  try have y63a : w3.heap.size + 1 < w6.heap.size := by omega
  try have y63b : w3.heap.size < w6.heap.size + 1 + 1 := by omega
  try have y63c : w3.heap.size + 1 < w6.heap.size + 1 + 1 := by omega
  try have y64 : w4.heap.size < w6.heap.size := by omega
  try have y64a : w4.heap.size + 1 < w6.heap.size := by omega
  try have y64b : w4.heap.size < w6.heap.size + 1 + 1 := by omega
  try have y64c : w4.heap.size + 1 < w6.heap.size + 1 + 1 := by omega
  try have y65 : w5.heap.size < w6.heap.size := by omega
  try have y65a : w5.heap.size + 1 < w6.heap.size := by omega
  try have y65b : w5.heap.size < w6.heap.size + 1 + 1 := by omega
  try have y65c : w5.heap.size + 1 < w6.heap.size + 1 + 1 := by omega
  go_wp2_with fail
  refine (paI_gen r s l t (F - 1) M S _ HM.out HS.out).mono ?_
  rintro e w7 ⟨rfl, hb⟩
  obtain ⟨hc7, hf7⟩ := bcell hb
  have B7 := Lib.hid (show Below w.heap.size w w7 from (by first | exact below_seq B6.out hb | exact below_seq1 B6.out hb | exact below_seq2 B6.out hb | exact below_seq3 B6.out hb | exact below_seq4 B6.out hb))
  have R7 := Lib.hid hb
  have hz7 := hb.size
  try simp at hz7
  clear hb
  try have y70 : w.heap.size < w7.heap.size := by omega
  try have y70a : w.heap.size + 1 < w7.heap.size := by omega
  try have y70b : w.heap.size < w7.heap.size + 1 + 1 := by omega
  try have y70c : w.heap.size + 1 < w7.heap.size + 1 + 1 := by omega
  try have y71 : w1.heap.size < w7.heap.size := by omega
  try have y71a : w1.heap.size + 1 < w7.heap.size := by omega
  try have y71b : w1.heap.size < w7.heap.size + 1 + 1 := by omega
  try have y71c : w1.heap.size + 1 < w7.heap.size + 1 + 1 := by omega
  try have y72 : w2.heap.size < w7.heap.size := by omega
  try have y72a : w2.heap.size + 1 < w7.heap.size := by omega
  try have y72b : w2.heap.size < w7.heap.size + 1 + 1 := by omega
  try have y72c : w2.heap.size + 1 < w7.heap.size + 1 + 1 := by omega
  try have y73 : w3.heap.size < w7.heap.size := by omega
  try have y73a : w3.heap.size + 1 < w7.heap.size := by omega
  try have y73b : w3.heap.size < w7.heap.size + 1 + 1 := by omega
  try have y73c : w3.heap.size + 1 < w7.heap.size + 1 + 1 := by omega
  try have y74 : w4.heap.size < w7.heap.size := by omega
  try have y74a : w4.heap.size + 1 < w7.heap.size := by omega
  try have y74b : w4.heap.size < w7.heap.size + 1 + 1 := by omega
  try have y74c : w4.heap.size + 1 < w7.heap.size + 1 + 1 := by omega
  try have y75 : w5.heap.size < w7.heap.size := by omega
  try have y75a : w5.heap.size + 1 < w7.heap.size := by omega
  try have y75b : w5.heap.size < w7.heap.size + 1 + 1 := by omega
  try have y75c : w5.heap.size + 1 < w7.heap.size + 1 + 1 := by omega
  try have y76 : w6.heap.size < w7.heap.size := by omega
  try have y76a : w6.heap.size + 1 < w7.heap.size := by omega
  try have y76b : w6.heap.size < w7.heap.size + 1 + 1 := by omega
  try have y76c : w6.heap.size + 1 < w7.heap.size + 1 + 1 := by omega
  rcases hR : R with _ | _
  · rcases hS : S with _ | _
    · go_wp2
      all_goals
        go_ret
        refine ⟨rfl, ?_⟩
        repeat refine below_alloc ?_ _
        exact B7.out
    · rcases hC : C with _ | _
      · have g := E2.out hS hC
        go_wp2
        all_goals
          go_ret
          refine ⟨rfl, ?_⟩
          repeat refine below_alloc ?_ _
          exact B7.out
      · go_wp2
        all_goals
          go_ret
          refine ⟨rfl, ?_⟩
          repeat refine below_alloc ?_ _
          exact B7.out
  · obtain ⟨e1, e2⟩ := E1.out hR
    subst e1
    subst e2
    rcases hS : S with _ | _
    · go_wp2
      all_goals
        go_ret
        refine ⟨rfl, ?_⟩
        repeat refine below_alloc ?_ _
        exact B7.out
    · rcases hC : C with _ | _
      · have g := E2.out hS hC
        go_wp2
        all_goals
          go_ret
          refine ⟨rfl, ?_⟩
          repeat refine below_alloc ?_ _
          exact B7.out
      · go_wp2
        all_goals
          go_ret
          refine ⟨rfl, ?_⟩
          repeat refine below_alloc ?_ _
          exact B7.out
theorem own : ownKnob Try.prog.godebug = none := by kernel_rfl
theorem laidOut : laidOutB Try.prog = true := by kernel_rfl
set_option maxRecDepth 100000 in
theorem lifted (os : Os) (started : os.Started) (H : Type) (enc : TypeId × Value → H) :
    ReturnsInHanded {} Try.checked os 9 .any (Rows.fnFreeAtSpec.pre6 enc Try.prog Try.f9 Rows.fnFreeAtRow.domain false) (Rows.fnFreeAtSpec.post enc Try.prog Try.f9 false true false false) := by
  refine returnsInHanded_of_change (C := Try.checked) own started (by kernel_rfl) Try.func9
    (ChangeSpec.witness6 (enc := enc) (C := Try.checked) false ⟨#[], #[.slice none 0 0], []⟩ 8 (by kernel_rfl) (by kernel_rfl) (by kernel_rfl) (by kernel_rfl)) ?_
  intro W base args ds gs before hval0 hW _ _
  have hval : ∀ (j : Nat) t v, Try.f9.params[j]? = some t → args[j]? = some v → Value.okWide Try.prog W .any base t v := hval0
  have hW' := hW
  obtain ⟨p, q, hA0, hV, rfl, _, _⟩ := hW
  have hA : DataW.TrodAll enc Try.prog W 0 (fun _ => true) true Try.f9.params.toList args.toList ds p := hA0
  rw [Try.params9] at hA hval
  obtain ⟨v0, vs0, d0, ds0, p0, q0, hargs, rfl, rfl, h0, r0⟩ := trodAll_cons hA
  obtain ⟨rfl, rfl, rfl⟩ := trodAll_nil r0
  obtain rfl : args = #[v0] := by cases args; simp_all
  obtain ⟨rfl, rfl⟩ := trodVars_none hV
  have lt0 : ∀ x ∈ p0, x.block < W.heap.size := by obtain ⟨m, hm⟩ := h0; exact DataW.trod_lt m _ _ _ hm
  obtain ⟨a0, n0, c0, rfl⟩ := okWide_slice Try.underlying22 (hval 0 22 v0 rfl rfl)
  have w0 : Bytes W a0 n0 c0 := bytes_open h0
  clear hA0 hval0
  refine (walk a0 n0 c0 W w0).mono fun e W' ⟨he, bel⟩ => ?_
  subst he
  exact ⟨_, rfl, _, _, _, [], _, [], hW', trodAll_mk1 (shut_bool Try.underlying4 _), (trodAll_cons_mk (Below.trod laidOut (by kernel_rfl) (of_decide_eq_true (by kernel_rfl)) h0 bel lt0) trodAll_mk0), rfl, bel.frame _, fun h => by cases h⟩
theorem over : Rows.fnFreeAtRow.holds Try.pinned (OpenSpec.ofChange Rows.fnFreeAtSpec) :=
  OpenClaim.holds_of_wide 9 Try.f9 rfl rfl rfl rfl rfl rfl rfl ⟨rfl, rfl, rfl, rfl, rfl⟩ rfl rfl rfl rfl rfl (by kernel_rfl) Try.func9 (by kernel_rfl)
    (of_decide_eq_true (by kernel_rfl)) (by unfold Func.isWrapper; first | (rw [if_pos (by decide +kernel)]; kernel_rfl) | (rw [if_neg (by decide +kernel)]; exact ⟨rfl, rfl⟩))
    (fun os started H enc _ => lifted os started H enc)
/-- the given statement -/
theorem proved : Rows.FnFreeAtSaid := over
end Go.Proofs.Ytffgblphimjipaa.fnFreeAt
