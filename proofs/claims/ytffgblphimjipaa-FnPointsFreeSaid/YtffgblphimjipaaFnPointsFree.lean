/-
  The law FnPointsFree returns true at every argument: points end. Conditions: none.
-/
import Derived.Test.YtffgblphimjipaaLift
import Derived.Test.YtffgblphimjipaaDSc2
import Derived.Test.YtffgblphimjipaaScM
namespace Go.Proofs.Ytffgblphimjipaa.fnPointsFree
open Go.ChangeShapes Go.WideShapes Go.ChangeAt Go.RowKit

set_option maxHeartbeats 4000000 in
theorem walk (A : Option Addr) (n c : Nat) (w : World) (h : Bytes w A n c) :
    Calls Try.prog 12 #[.slice A n c] w fun e w' => e = .returned (.bool true) ∧ Below w.heap.size w w' := by
  have HB := Lib.hid h
  clear h
  by_cases hbig : ¬ n ≤ 1048576
  · go_enter Try.func12, Try.ntmps12
    go_wp2
    go_ret
    exact ⟨rfl, Below.refl _ _⟩
  have hbig' : n ≤ 1048576 := by omega
  clear hbig
  go_enter Try.func12, Try.ntmps12
  go_wp2_with fail
  refine (drawPointsAt_any A n c _ HB.out).mono ?_
  rintro e w1 ⟨r, s, l, t, m, rfl, hb⟩
  obtain ⟨hc1, hf1⟩ := bcell hb
  have B1 := Lib.hid (show Below w.heap.size w w1 from (by first | exact below_seq (Below.refl w.heap.size w) hb | exact below_seq1 (Below.refl w.heap.size w) hb | exact below_seq2 (Below.refl w.heap.size w) hb | exact below_seq3 (Below.refl w.heap.size w) hb | exact below_seq4 (Below.refl w.heap.size w) hb))
  have R1 := Lib.hid hb
  have hz1 := hb.size
  try simp at hz1
  clear hb
  rcases hr : stB r s l t m with _ | _
  · go_wp2_with fail
    refine (paI_off r s l t m _ hr).mono ?_
    rintro e w2 ⟨rfl, hb⟩
    obtain ⟨hc2, hf2⟩ := bcell hb
    have B2 := Lib.hid (show Below w.heap.size w w2 from (by first | exact below_seq B1.out hb | exact below_seq1 B1.out hb | exact below_seq2 B1.out hb | exact below_seq3 B1.out hb | exact below_seq4 B1.out hb))
    have R2 := Lib.hid hb
    have hz2 := hb.size
    try simp at hz2
    clear hb
    try have y20 : w.heap.size < w2.heap.size := by omega
    try have y20a : w.heap.size + 1 < w2.heap.size := by omega
    try have y20b : w.heap.size < w2.heap.size + 1 + 1 := by omega
    try have y20c : w.heap.size + 1 < w2.heap.size + 1 + 1 := by omega
    try have y21 : w1.heap.size < w2.heap.size := by omega
    try have y21a : w1.heap.size + 1 < w2.heap.size := by omega
    try have y21b : w1.heap.size < w2.heap.size + 1 + 1 := by omega
    try have y21c : w1.heap.size + 1 < w2.heap.size + 1 + 1 := by omega
    go_wp2_with fail
    refine (paS_off r s l t m _ hr).mono ?_
    rintro e w3 ⟨rfl, hb⟩
    obtain ⟨hc3, hf3⟩ := bcell hb
    have B3 := Lib.hid (show Below w.heap.size w w3 from (by first | exact below_seq B2.out hb | exact below_seq1 B2.out hb | exact below_seq2 B2.out hb | exact below_seq3 B2.out hb | exact below_seq4 B2.out hb))
    have R3 := Lib.hid hb
    have hz3 := hb.size
    try simp at hz3
    clear hb
    try have y30 : w.heap.size < w3.heap.size := by omega
    try have y30a : w.heap.size + 1 < w3.heap.size := by omega
    try have y30b : w.heap.size < w3.heap.size + 1 + 1 := by omega
    try have y30c : w.heap.size + 1 < w3.heap.size + 1 + 1 := by omega
    try have y31 : w1.heap.size < w3.heap.size := by omega
    try have y31a : w1.heap.size + 1 < w3.heap.size := by omega
    try have y31b : w1.heap.size < w3.heap.size + 1 + 1 := by omega
    try have y31c : w1.heap.size + 1 < w3.heap.size + 1 + 1 := by omega
    try have y32 : w2.heap.size < w3.heap.size := by omega
    try have y32a : w2.heap.size + 1 < w3.heap.size := by omega
    try have y32b : w2.heap.size < w3.heap.size + 1 + 1 := by omega
    try have y32c : w2.heap.size + 1 < w3.heap.size + 1 + 1 := by omega
    go_wp2
    all_goals
      go_ret
      refine ⟨rfl, ?_⟩
      repeat refine below_alloc ?_ _
      exact B3.out
  obtain ⟨V, hV⟩ : ∃ V, pt r s m = V := ⟨_, rfl⟩
  have HR := Lib.hid hr
  have HV := Lib.hid hV
  obtain ⟨V0, V1⟩ := pt_bd hr
  rw [hV] at V0 V1
  obtain ⟨q0, q1, q2, q3, q4, q5, q6, q7, q8⟩ := st_of hr
  clear hr hV
  go_wp2_with fail
  refine (paI_is r s l t m V _ HR.out HV.out).mono ?_
  rintro e w2 ⟨rfl, hb⟩
  obtain ⟨hc2, hf2⟩ := bcell hb
  have B2 := Lib.hid (show Below w.heap.size w w2 from (by first | exact below_seq B1.out hb | exact below_seq1 B1.out hb | exact below_seq2 B1.out hb | exact below_seq3 B1.out hb | exact below_seq4 B1.out hb))
  have R2 := Lib.hid hb
  have hz2 := hb.size
  try simp at hz2
  clear hb
  try have y20 : w.heap.size < w2.heap.size := by omega
  try have y20a : w.heap.size + 1 < w2.heap.size := by omega
  try have y20b : w.heap.size < w2.heap.size + 1 + 1 := by omega
  try have y20c : w.heap.size + 1 < w2.heap.size + 1 + 1 := by omega
  try have y21 : w1.heap.size < w2.heap.size := by omega
  try have y21a : w1.heap.size + 1 < w2.heap.size := by omega
  try have y21b : w1.heap.size < w2.heap.size + 1 + 1 := by omega
  try have y21c : w1.heap.size + 1 < w2.heap.size + 1 + 1 := by omega
  go_wp2_with fail
  refine (paS_is r s l t m V _ HR.out HV.out).mono ?_
  rintro e w3 ⟨rfl, hb⟩
  obtain ⟨hc3, hf3⟩ := bcell hb
  have B3 := Lib.hid (show Below w.heap.size w w3 from (by first | exact below_seq B2.out hb | exact below_seq1 B2.out hb | exact below_seq2 B2.out hb | exact below_seq3 B2.out hb | exact below_seq4 B2.out hb))
  have R3 := Lib.hid hb
  have hz3 := hb.size
  try simp at hz3
  clear hb
  try have y30 : w.heap.size < w3.heap.size := by omega
  try have y30a : w.heap.size + 1 < w3.heap.size := by omega
  try have y30b : w.heap.size < w3.heap.size + 1 + 1 := by omega
  try have y30c : w.heap.size + 1 < w3.heap.size + 1 + 1 := by omega
  try have y31 : w1.heap.size < w3.heap.size := by omega
  try have y31a : w1.heap.size + 1 < w3.heap.size := by omega
  try have y31b : w1.heap.size < w3.heap.size + 1 + 1 := by omega
  try have y31c : w1.heap.size + 1 < w3.heap.size + 1 + 1 := by omega
  try have y32 : w2.heap.size < w3.heap.size := by omega
  try have y32a : w2.heap.size + 1 < w3.heap.size := by omega
  try have y32b : w2.heap.size < w3.heap.size + 1 + 1 := by omega
  try have y32c : w2.heap.size + 1 < w3.heap.size + 1 + 1 := by omega
  have HW := Lib.hid (show scB r s l t = true from sc_mk (by omega))
  obtain ⟨F, hF⟩ : ∃ F, mx l (s + r) = F := ⟨_, rfl⟩
  obtain ⟨F0, F1, F2⟩ := mx_bd l (s + r)
  rw [hF] at F0 F1 F2
  have HF := Lib.hid hF
  have F3 : F ≤ 2000000 := by omega
  have e := Lib.hid (show V = if 0 ≤ r - (m - s) then r - (m - s) else 0 from HV.out.symm)
  clear hF
  go_wp2_with fail
  refine (frI_yes r s l t F _ HW.out HF.out).mono ?_
  rintro e w4 ⟨rfl, hb⟩
  obtain ⟨hc4, hf4⟩ := bcell hb
  have B4 := Lib.hid (show Below w.heap.size w w4 from (by first | exact below_seq B3.out hb | exact below_seq1 B3.out hb | exact below_seq2 B3.out hb | exact below_seq3 B3.out hb | exact below_seq4 B3.out hb))
  have R4 := Lib.hid hb
  have hz4 := hb.size
  try simp at hz4
  clear hb
  try have y40 : w.heap.size < w4.heap.size := by omega
  try have y40a : w.heap.size + 1 < w4.heap.size := by omega
  try have y40b : w.heap.size < w4.heap.size + 1 + 1 := by omega
  try have y40c : w.heap.size + 1 < w4.heap.size + 1 + 1 := by omega
  try have y41 : w1.heap.size < w4.heap.size := by omega
  try have y41a : w1.heap.size + 1 < w4.heap.size := by omega
  try have y41b : w1.heap.size < w4.heap.size + 1 + 1 := by omega
  try have y41c : w1.heap.size + 1 < w4.heap.size + 1 + 1 := by omega
  try have y42 : w2.heap.size < w4.heap.size := by omega
  try have y42a : w2.heap.size + 1 < w4.heap.size := by omega
  try have y42b : w2.heap.size < w4.heap.size + 1 + 1 := by omega
  try have y42c : w2.heap.size + 1 < w4.heap.size + 1 + 1 := by omega
  try have y43 : w3.heap.size < w4.heap.size := by omega
  try have y43a : w3.heap.size + 1 < w4.heap.size := by omega
  try have y43b : w3.heap.size < w4.heap.size + 1 + 1 := by omega
  try have y43c : w3.heap.size + 1 < w4.heap.size + 1 + 1 := by omega
  by_cases hV0 : V = 0
  · have HV0 := Lib.hid hV0
    have g : (V == 0) = true := by simp only [beq_iff_eq]; exact hV0
    clear hV0 e
    by_cases hm : m < F
    · go_wp2
      all_goals
        go_ret
        refine ⟨rfl, ?_⟩
        repeat refine below_alloc ?_ _
        exact B4.out
    · go_wp2
      all_goals
        go_ret
        refine ⟨rfl, ?_⟩
        repeat refine below_alloc ?_ _
        exact B4.out
  · have g : (V == 0) = false := by simp only [beq_eq_false_iff_ne]; exact hV0
    have g1 : m < s + r := by have e2 := e.out; split at e2 <;> omega
    have g2 : m < F := by omega
    have HV0 := Lib.hid hV0
    clear hV0 e
    go_wp2
    all_goals
      go_ret
      refine ⟨rfl, ?_⟩
      repeat refine below_alloc ?_ _
      exact B4.out
theorem own : ownKnob Try.prog.godebug = none := by kernel_rfl
theorem laidOut : laidOutB Try.prog = true := by kernel_rfl
set_option maxRecDepth 100000 in
theorem lifted (os : Os) (started : os.Started) (H : Type) (enc : TypeId × Value → H) :
    ReturnsInHanded {} Try.checked os 12 .any (Rows.fnPointsFreeSpec.pre6 enc Try.prog Try.f12 Rows.fnPointsFreeRow.domain false) (Rows.fnPointsFreeSpec.post enc Try.prog Try.f12 false true false false) := by
  refine returnsInHanded_of_change (C := Try.checked) own started (by kernel_rfl) Try.func12
    (ChangeSpec.witness6 (enc := enc) (C := Try.checked) false ⟨#[], #[.slice none 0 0], []⟩ 8 (by kernel_rfl) (by kernel_rfl) (by kernel_rfl) (by kernel_rfl)) ?_
  intro W base args ds gs before hval0 hW _ _
  have hval : ∀ (j : Nat) t v, Try.f12.params[j]? = some t → args[j]? = some v → Value.okWide Try.prog W .any base t v := hval0
  have hW' := hW
  obtain ⟨p, q, hA0, hV, rfl, _, _⟩ := hW
  have hA : DataW.TrodAll enc Try.prog W 0 (fun _ => true) true Try.f12.params.toList args.toList ds p := hA0
  rw [Try.params12] at hA hval
  obtain ⟨v0, vs0, d0, ds0, p0, q0, hargs, rfl, rfl, h0, r0⟩ := trodAll_cons hA
  obtain ⟨rfl, rfl, rfl⟩ := trodAll_nil r0
  obtain rfl : args = #[v0] := by cases args; simp_all
  obtain ⟨rfl, rfl⟩ := trodVars_none hV
  have lt0 : ∀ x ∈ p0, x.block < W.heap.size := by obtain ⟨m, hm⟩ := h0; exact DataW.trod_lt m _ _ _ hm
  obtain ⟨a0, n0, c0, rfl⟩ := okWide_slice Try.underlying22 (hval 0 22 v0 rfl rfl)
  have w0 : Bytes W a0 n0 c0 := bytes_open h0
  clear hA0 hval0
  refine (walk a0 n0 c0 W w0).mono fun e W' ⟨he, bel⟩ => ?_
  subst he
  exact ⟨_, rfl, _, _, _, [], _, [], hW', trodAll_mk1 (shut_bool Try.underlying4 _), (trodAll_cons_mk (Below.trod laidOut (by kernel_rfl) (of_decide_eq_true (by kernel_rfl)) h0 bel lt0) trodAll_mk0), rfl, bel.frame _, fun h => by cases h⟩
theorem over : Rows.fnPointsFreeRow.holds Try.pinned (OpenSpec.ofChange Rows.fnPointsFreeSpec) :=
  OpenClaim.holds_of_wide 12 Try.f12 rfl rfl rfl rfl rfl rfl rfl ⟨rfl, rfl, rfl, rfl, rfl⟩ rfl rfl rfl rfl rfl (by kernel_rfl) Try.func12 (by kernel_rfl)
    (of_decide_eq_true (by kernel_rfl)) (by unfold Func.isWrapper; first | (rw [if_pos (by decide +kernel)]; kernel_rfl) | (rw [if_neg (by decide +kernel)]; exact ⟨rfl, rfl⟩))
    (fun os started H enc _ => lifted os started H enc)
/-- the given statement -/
theorem proved : Rows.FnPointsFreeSaid := over
end Go.Proofs.Ytffgblphimjipaa.fnPointsFree
