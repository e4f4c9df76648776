/-
  The law FnDelayRate returns true at every argument: speed helps. Conditions: none.
-/
import Derived.Test.YtclgmmnidkppmaaLift
import Derived.Test.YtclgmmnidkppmaaDE
import Derived.Test.YtclgmmnidkppmaaEL
import Derived.Test.YtclgmmnidkppmaaMay
import Derived.Test.YtclgmmnidkppmaaLifts
import Derived.Test.YtclgmmnidkppmaaMake
namespace Go.Proofs.Ytclgmmnidkppmaa.fnDelayRate
open Go.ChangeShapes Go.WideShapes Go.ChangeAt Go.RowKit

set_option maxHeartbeats 4000000 in
theorem walk (A : Option Addr) (n c : Nat) (w : World) (h : Bytes w A n c) :
    Calls Try.prog 11 #[.slice A n c] w fun e w' => e = .returned (.bool true) ∧ Below w.heap.size w w' := by
  have HB := Lib.hid h
  clear h
  by_cases hbig : ¬ n ≤ 1048576
  · go_enter Try.func11, Try.ntmps11
    go_wp2
    go_ret
    exact ⟨rfl, Below.refl _ _⟩
  have hbig' : n ≤ 1048576 := by omega
  clear hbig
  go_enter Try.func11, Try.ntmps11
  go_wp2_with fail
  refine (drawWorstDelay_any A n c _ HB.out).mono ?_
  rintro e w1 ⟨A1, n1, c1, ps, x, rfl, n9, hnc, hcm, x0, x1, har, hb⟩
  obtain ⟨hc1, hf1⟩ := bcell hb
  have B1 := Lib.hid (show Below w.heap.size w w1 from (by first | exact below_seq (Below.refl w.heap.size w) hb | exact below_seq1 (Below.refl w.heap.size w) hb | exact below_seq2 (Below.refl w.heap.size w) hb | exact below_seq3 (Below.refl w.heap.size w) hb | exact below_seq4 (Below.refl w.heap.size w) hb))
  have R1 := Lib.hid hb
  have hz1 := hb.size
  try simp at hz1
  clear hb
  have HA1 := Lib.hid har
  clear har
  rcases hk : wdB ps x with _ | _
  · have HK := Lib.hid hk
    clear hk
    go_wp2_with fail
    refine (wdI_is A1 n1 c1 ps x 0 false _ HA1.out (by omega) (wdN_no HK.out) HK.out).mono ?_
    rintro e w2 ⟨rfl, hb⟩
    obtain ⟨hc2, hf2⟩ := bcell hb
    have B2 := Lib.hid (show Below w.heap.size w w2 from (by first | exact below_seq B1.out hb | exact below_seq1 B1.out hb | exact below_seq2 B1.out hb | exact below_seq3 B1.out hb | exact below_seq4 B1.out hb))
    have R2 := Lib.hid hb
    have hz2 := hb.size
    try simp at hz2
    clear hb
    try have y20 : w.heap.size < w2.heap.size := by omega
    try have y20a : w.heap.size + 1 < w2.heap.size := by omega
    try have y20b : w.heap.size < w2.heap.size + 1 + 1 := by omega
    try have y20c : w.heap.size + 1 < w2.heap.size + 1 + 1 := by omega
    try have y21 : w1.heap.size < w2.heap.size := by omega
    try have y21a : w1.heap.size + 1 < w2.heap.size := by omega
    try have y21b : w1.heap.size < w2.heap.size + 1 + 1 := by omega
    try have y21c : w1.heap.size + 1 < w2.heap.size + 1 + 1 := by omega
    have HA2 := Lib.hid (ar_below HA1.out R2.out)
    go_wp2_with fail
    refine (wdS_is A1 n1 c1 ps x 0 false _ HA2.out (by omega) (wdN_no HK.out) HK.out).mono ?_
    rintro e w3 ⟨rfl, hb⟩
    obtain ⟨hc3, hf3⟩ := bcell hb
    have B3 := Lib.hid (show Below w.heap.size w w3 from (by first | exact below_seq B2.out hb | exact below_seq1 B2.out hb | exact below_seq2 B2.out hb | exact below_seq3 B2.out hb | exact below_seq4 B2.out hb))
    have R3 := Lib.hid hb
    have hz3 := hb.size
    try simp at hz3
    clear hb
    try have y30 : w.heap.size < w3.heap.size := by omega
    try have y30a : w.heap.size + 1 < w3.heap.size := by omega
    try have y30b : w.heap.size < w3.heap.size + 1 + 1 := by omega
    try have y30c : w.heap.size + 1 < w3.heap.size + 1 + 1 := by omega
    try have y31 : w1.heap.size < w3.heap.size := by omega
    try have y31a : w1.heap.size + 1 < w3.heap.size := by omega
    try have y31b : w1.heap.size < w3.heap.size + 1 + 1 := by omega
    try have y31c : w1.heap.size + 1 < w3.heap.size + 1 + 1 := by omega
    try have y32 : w2.heap.size < w3.heap.size := by omega
    try have y32a : w2.heap.size + 1 < w3.heap.size := by omega
    try have y32b : w2.heap.size < w3.heap.size + 1 + 1 := by omega
    try have y32c : w2.heap.size + 1 < w3.heap.size + 1 + 1 := by omega
    have HA3 := Lib.hid (ar_below HA2.out R3.out)
    go_wp2
    all_goals
      go_ret
      refine ⟨rfl, ?_⟩
      repeat refine below_alloc ?_ _
      exact B3.out
  obtain ⟨hv, r0, r1⟩ := wd_of hk
  have HV := Lib.hid hv
  have HK := Lib.hid hk
  have bd := back_bd (r := x) (by omega) hv
  obtain ⟨W, hW⟩ : ∃ W, W = wors x ps := ⟨_, rfl⟩
  have HW := Lib.hid (show wdN ps x = W by rw [wdN_yes HK.out, hW])
  obtain ⟨M, hM⟩ : ∃ M, M = wdN ps (x + 1) := ⟨_, rfl⟩
  have HM := Lib.hid hM
  obtain ⟨X, hX⟩ : ∃ X, X = wdB ps (x + 1) := ⟨_, rfl⟩
  have HX := Lib.hid hX
  have HP := Lib.hid (show X = true → M ≤ W by
    intro a
    rw [HX.out] at a
    have h1 := back_anti (r := x) (r' := x + 1) (by omega) (by omega) (av_of HV.out).2
    have h2 := back_bd (r := x + 1) (by omega) HV.out
    rw [HM.out, wdN_yes a, hW]
    unfold wors
    have h3 := ceil_mono (r := x + 1) (by omega) h1
    refine Int.le_trans h3 ?_
    exact ceil_rate (by omega) bd.1)
  have HZ := Lib.hid (show ((n1 : Int) == 0) = (W == 0) by
    have hl := HA1.out.1
    rw [Bool.eq_iff_iff, beq_iff_eq, beq_iff_eq, hW]
    rcases ps with _ | ⟨p, qs⟩
    · have : wors x [] = 0 := by
        show (0 + x - 1) / x = 0
        exact Int.ediv_eq_zero_of_lt (by omega) (by omega)
      rw [this]
      simp at hl
      omega
    · have bp := back_pos (r := x) (av_of HV.out).2
      have h4 : 1 ≤ wors x (p :: qs) := by
        unfold wors
        exact (Int.le_ediv_iff_mul_le (by omega)).2 (by omega)
      simp at hl
      omega)
  clear hv hk hW bd hM hX
  go_wp2_with fail
  refine (wdI_is A1 n1 c1 ps x W true _ HA1.out (by omega) HW.out HK.out).mono ?_
  rintro e w2 ⟨rfl, hb⟩
  obtain ⟨hc2, hf2⟩ := bcell hb
  have B2 := Lib.hid (show Below w.heap.size w w2 from (by first | exact below_seq B1.out hb | exact below_seq1 B1.out hb | exact below_seq2 B1.out hb | exact below_seq3 B1.out hb | exact below_seq4 B1.out hb))
  have R2 := Lib.hid hb
  have hz2 := hb.size
  try simp at hz2
  clear hb
  try have y20 : w.heap.size < w2.heap.size := by omega
  try have y20a : w.heap.size + 1 < w2.heap.size := by omega
  try have y20b : w.heap.size < w2.heap.size + 1 + 1 := by omega
  try have y20c : w.heap.size + 1 < w2.heap.size + 1 + 1 := by omega
  try have y21 : w1.heap.size < w2.heap.size := by omega
  try have y21a : w1.heap.size + 1 < w2.heap.size := by omega
  try have y21b : w1.heap.size < w2.heap.size + 1 + 1 := by omega
  try have y21c : w1.heap.size + 1 < w2.heap.size + 1 + 1 := by omega
  have HA2 := Lib.hid (ar_below HA1.out R2.out)
  go_wp2_with fail
  refine (wdS_is A1 n1 c1 ps x W true _ HA2.out (by omega) HW.out HK.out).mono ?_
  rintro e w3 ⟨rfl, hb⟩
  obtain ⟨hc3, hf3⟩ := bcell hb
  have B3 := Lib.hid (show Below w.heap.size w w3 from (by first | exact below_seq B2.out hb | exact below_seq1 B2.out hb | exact below_seq2 B2.out hb | exact below_seq3 B2.out hb | exact below_seq4 B2.out hb))
  have R3 := Lib.hid hb
  have hz3 := hb.size
  try simp at hz3
  clear hb
  try have y30 : w.heap.size < w3.heap.size := by omega
  try have y30a : w.heap.size + 1 < w3.heap.size := by omega
  try have y30b : w.heap.size < w3.heap.size + 1 + 1 := by omega
  try have y30c : w.heap.size + 1 < w3.heap.size + 1 + 1 := by omega
  try have y31 : w1.heap.size < w3.heap.size := by omega
  try have y31a : w1.heap.size + 1 < w3.heap.size := by omega
  try have y31b : w1.heap.size < w3.heap.size + 1 + 1 := by omega
  try have y31c : w1.heap.size + 1 < w3.heap.size + 1 + 1 := by omega
  try have y32 : w2.heap.size < w3.heap.size := by omega
  try have y32a : w2.heap.size + 1 < w3.heap.size := by omega
  try have y32b : w2.heap.size < w3.heap.size + 1 + 1 := by omega
  try have y32c : w2.heap.size + 1 < w3.heap.size + 1 + 1 := by omega
  have HA3 := Lib.hid (ar_below HA2.out R3.out)
  go_wp2_with fail
  refine (wdI_is A1 n1 c1 ps (x + 1) M X _ HA3.out (by omega) HM.out.symm HX.out.symm).mono ?_
  rintro e w4 ⟨rfl, hb⟩
  obtain ⟨hc4, hf4⟩ := bcell hb
  have B4 := Lib.hid (show Below w.heap.size w w4 from (by first | exact below_seq B3.out hb | exact below_seq1 B3.out hb | exact below_seq2 B3.out hb | exact below_seq3 B3.out hb | exact below_seq4 B3.out hb))
  have R4 := Lib.hid hb
  have hz4 := hb.size
  try simp at hz4
  clear hb
  try have y40 : w.heap.size < w4.heap.size := by omega
  try have y40a : w.heap.size + 1 < w4.heap.size := by omega
  try have y40b : w.heap.size < w4.heap.size + 1 + 1 := by omega
  try have y40c : w.heap.size + 1 < w4.heap.size + 1 + 1 := by omega
  try have y41 : w1.heap.size < w4.heap.size := by omega
  try have y41a : w1.heap.size + 1 < w4.heap.size := by omega
  try have y41b : w1.heap.size < w4.heap.size + 1 + 1 := by omega
  try have y41c : w1.heap.size + 1 < w4.heap.size + 1 + 1 := by omega
  try have y42 : w2.heap.size < w4.heap.size := by omega
  try have y42a : w2.heap.size + 1 < w4.heap.size := by omega
  try have y42b : w2.heap.size < w4.heap.size + 1 + 1 := by omega
  try have y42c : w2.heap.size + 1 < w4.heap.size + 1 + 1 := by omega
  try have y43 : w3.heap.size < w4.heap.size := by omega
  try have y43a : w3.heap.size + 1 < w4.heap.size := by omega
  try have y43b : w3.heap.size < w4.heap.size + 1 + 1 := by omega
  try have y43c : w3.heap.size + 1 < w4.heap.size + 1 + 1 := by omega
  have HA4 := Lib.hid (ar_below HA3.out R4.out)
  by_cases hz : W = 0
  · have z1 : (W == 0) = true := by simp only [beq_iff_eq]; exact hz
    have z2 : ((n1 : Int) == 0) = true := by rw [HZ.out]; exact z1
    clear hz
    rcases X with _ | _
    · go_wp2
      all_goals
        go_ret
        refine ⟨rfl, ?_⟩
        repeat refine below_alloc ?_ _
        exact B4.out
    · have hMW := HP.out rfl
      go_wp2
      all_goals
        go_ret
        refine ⟨rfl, ?_⟩
        repeat refine below_alloc ?_ _
        exact B4.out
  · have z1 : (W == 0) = false := by simp only [beq_eq_false_iff_ne]; exact hz
    have z2 : ((n1 : Int) == 0) = false := by rw [HZ.out]; exact z1
    clear hz
    rcases X with _ | _
    · go_wp2
      all_goals
        go_ret
        refine ⟨rfl, ?_⟩
        repeat refine below_alloc ?_ _
        exact B4.out
    · have hMW := HP.out rfl
      go_wp2
      all_goals
        go_ret
        refine ⟨rfl, ?_⟩
        repeat refine below_alloc ?_ _
        exact B4.out
theorem own : ownKnob Try.prog.godebug = none := by kernel_rfl
theorem laidOut : laidOutB Try.prog = true := by kernel_rfl
set_option maxRecDepth 100000 in
theorem lifted (os : Os) (started : os.Started) (H : Type) (enc : TypeId × Value → H) :
    ReturnsInHanded {} Try.checked os 11 .any (Rows.fnDelayRateSpec.pre6 enc Try.prog Try.f11 Rows.fnDelayRateRow.domain false) (Rows.fnDelayRateSpec.post enc Try.prog Try.f11 false true false false) := by
  refine returnsInHanded_of_change (C := Try.checked) own started (by kernel_rfl) Try.func11
    (ChangeSpec.witness6 (enc := enc) (C := Try.checked) false ⟨#[], #[.slice none 0 0], []⟩ 8 (by kernel_rfl) (by kernel_rfl) (by kernel_rfl) (by kernel_rfl)) ?_
  intro W base args ds gs before hval0 hW _ _
  have hval : ∀ (j : Nat) t v, Try.f11.params[j]? = some t → args[j]? = some v → Value.okWide Try.prog W .any base t v := hval0
  have hW' := hW
  obtain ⟨p, q, hA0, hV, rfl, _, _⟩ := hW
  have hA : DataW.TrodAll enc Try.prog W 0 (fun _ => true) true Try.f11.params.toList args.toList ds p := hA0
  rw [Try.params11] at hA hval
  obtain ⟨v0, vs0, d0, ds0, p0, q0, hargs, rfl, rfl, h0, r0⟩ := trodAll_cons hA
  obtain ⟨rfl, rfl, rfl⟩ := trodAll_nil r0
  obtain rfl : args = #[v0] := by cases args; simp_all
  obtain ⟨rfl, rfl⟩ := trodVars_none hV
  have lt0 : ∀ x ∈ p0, x.block < W.heap.size := by obtain ⟨m, hm⟩ := h0; exact DataW.trod_lt m _ _ _ hm
  obtain ⟨a0, n0, c0, rfl⟩ := okWide_slice Try.underlying22 (hval 0 22 v0 rfl rfl)
  have w0 : Bytes W a0 n0 c0 := bytes_open h0
  clear hA0 hval0
  refine (walk a0 n0 c0 W w0).mono fun e W' ⟨he, bel⟩ => ?_
  subst he
  exact ⟨_, rfl, _, _, _, [], _, [], hW', trodAll_mk1 (shut_bool Try.underlying4 _), (trodAll_cons_mk (Below.trod laidOut (by kernel_rfl) (of_decide_eq_true (by kernel_rfl)) h0 bel lt0) trodAll_mk0), rfl, bel.frame _, fun h => by cases h⟩
theorem over : Rows.fnDelayRateRow.holds Try.pinned (OpenSpec.ofChange Rows.fnDelayRateSpec) :=
  OpenClaim.holds_of_wide 11 Try.f11 rfl rfl rfl rfl rfl rfl rfl ⟨rfl, rfl, rfl, rfl, rfl⟩ rfl rfl rfl rfl rfl (by kernel_rfl) Try.func11 (by unfold joinedFacts; rw [mayEnter, liftsFinal, makeIs]; kernel_rfl)
    (of_decide_eq_true (by kernel_rfl)) (by unfold Func.isWrapper; first | (rw [if_pos (by decide +kernel)]; kernel_rfl) | (rw [if_neg (by decide +kernel)]; exact ⟨rfl, rfl⟩))
    (fun os started H enc _ => lifted os started H enc)
/-- the given statement -/
theorem proved : Rows.FnDelayRateSaid := over
end Go.Proofs.Ytclgmmnidkppmaa.fnDelayRate
