/-
  The law FnBurstRate returns true at every argument: rates save bursts. Conditions: none.
-/
import Derived.Test.YtclgmmnidkppmaaLift
import Derived.Test.YtclgmmnidkppmaaDE
import Derived.Test.YtclgmmnidkppmaaEL
import Derived.Test.YtclgmmnidkppmaaMay
import Derived.Test.YtclgmmnidkppmaaLifts
import Derived.Test.YtclgmmnidkppmaaMake
namespace Go.Proofs.Ytclgmmnidkppmaa.fnBurstRate
open Go.ChangeShapes Go.WideShapes Go.ChangeAt Go.RowKit

def SumA (w : World) (ps : List Arr) (n : Nat) (s i : Value) (wr : World) : Prop :=
  ∃ (k : Nat) (S : Int), k ≤ n ∧ i = .int .i64 (k : Int) ∧ s = .int .i64 S ∧ zsum ps = S + zsum (ps.drop k) ∧ 0 ≤ S ∧ S ≤ 100 * k ∧ Below w.heap.size w wr
set_option maxHeartbeats 4000000 in
theorem walk (A : Option Addr) (n c : Nat) (w : World) (h : Bytes w A n c) :
    Calls Try.prog 8 #[.slice A n c] w fun e w' => e = .returned (.bool true) ∧ Below w.heap.size w w' := by
  have HB := Lib.hid h
  clear h
  by_cases hbig : ¬ n ≤ 1048576
  · go_enter Try.func8, Try.ntmps8
    go_wp2
    go_ret
    exact ⟨rfl, Below.refl _ _⟩
  have hbig' : n ≤ 1048576 := by omega
  clear hbig
  go_enter Try.func8, Try.ntmps8
  go_wp2_with fail
  refine (drawLeastBurst_any A n c _ HB.out).mono ?_
  rintro e w1 ⟨A1, n1, c1, ps, x, rfl, n9, hnc, hcm, x0, x1, har, hb⟩
  obtain ⟨hc1, hf1⟩ := bcell hb
  have B1 := Lib.hid (show Below w.heap.size w w1 from (by first | exact below_seq (Below.refl w.heap.size w) hb | exact below_seq1 (Below.refl w.heap.size w) hb | exact below_seq2 (Below.refl w.heap.size w) hb | exact below_seq3 (Below.refl w.heap.size w) hb | exact below_seq4 (Below.refl w.heap.size w) hb))
  have R1 := Lib.hid hb
  have hz1 := hb.size
  try simp at hz1
  clear hb
  have HA1 := Lib.hid har
  clear har
  rcases hk : lbB ps x with _ | _
  · have HK := Lib.hid hk
    clear hk
    go_wp2_with fail
    refine (lbI_is A1 n1 c1 ps x 0 false _ HA1.out (by omega) (lbN_no HK.out) HK.out).mono ?_
    rintro e w2 ⟨rfl, hb⟩
    obtain ⟨hc2, hf2⟩ := bcell hb
    have B2 := Lib.hid (show Below w.heap.size w w2 from (by first | exact below_seq B1.out hb | exact below_seq1 B1.out hb | exact below_seq2 B1.out hb | exact below_seq3 B1.out hb | exact below_seq4 B1.out hb))
    have R2 := Lib.hid hb
    have hz2 := hb.size
    try simp at hz2
    clear hb
    try have y20 : w.heap.size < w2.heap.size := by omega
    try have y20a : w.heap.size + 1 < w2.heap.size := by omega
    try have y20b : w.heap.size < w2.heap.size + 1 + 1 := by omega
    try have y20c : w.heap.size + 1 < w2.heap.size + 1 + 1 := by omega
    try have y21 : w1.heap.size < w2.heap.size := by omega
    try have y21a : w1.heap.size + 1 < w2.heap.size := by omega
    try have y21b : w1.heap.size < w2.heap.size + 1 + 1 := by omega
    try have y21c : w1.heap.size + 1 < w2.heap.size + 1 + 1 := by omega
    have HA2 := Lib.hid (ar_below HA1.out R2.out)
    go_wp2_with fail
    refine (lbS_is A1 n1 c1 ps x 0 false _ HA2.out (by omega) (lbN_no HK.out) HK.out).mono ?_
    rintro e w3 ⟨rfl, hb⟩
    obtain ⟨hc3, hf3⟩ := bcell hb
    have B3 := Lib.hid (show Below w.heap.size w w3 from (by first | exact below_seq B2.out hb | exact below_seq1 B2.out hb | exact below_seq2 B2.out hb | exact below_seq3 B2.out hb | exact below_seq4 B2.out hb))
    have R3 := Lib.hid hb
    have hz3 := hb.size
    try simp at hz3
    clear hb
    try have y30 : w.heap.size < w3.heap.size := by omega
    try have y30a : w.heap.size + 1 < w3.heap.size := by omega
    try have y30b : w.heap.size < w3.heap.size + 1 + 1 := by omega
    try have y30c : w.heap.size + 1 < w3.heap.size + 1 + 1 := by omega
    try have y31 : w1.heap.size < w3.heap.size := by omega
    try have y31a : w1.heap.size + 1 < w3.heap.size := by omega
    try have y31b : w1.heap.size < w3.heap.size + 1 + 1 := by omega
    try have y31c : w1.heap.size + 1 < w3.heap.size + 1 + 1 := by omega
    try have y32 : w2.heap.size < w3.heap.size := by omega
    try have y32a : w2.heap.size + 1 < w3.heap.size := by omega
    try have y32b : w2.heap.size < w3.heap.size + 1 + 1 := by omega
    try have y32c : w2.heap.size + 1 < w3.heap.size + 1 + 1 := by omega
    have HA3 := Lib.hid (ar_below HA2.out R3.out)
    go_wp2
    all_goals
      go_ret
      refine ⟨rfl, ?_⟩
      repeat refine below_alloc ?_ _
      exact B3.out
  obtain ⟨hv, r0, r1⟩ := lb_of hk
  obtain ⟨N0, N1⟩ := lb_bd hv r0
  have HV := Lib.hid hv
  have HK := Lib.hid hk
  obtain ⟨N, hN⟩ : ∃ N, N = mx (back x ps) 1 := ⟨_, rfl⟩
  rw [← hN] at N0 N1
  have HL := Lib.hid (show lbN ps x = N by rw [lbN_yes HK.out, hN])
  obtain ⟨M, hM⟩ : ∃ M, M = lbN ps (x + 1) := ⟨_, rfl⟩
  have HM := Lib.hid hM
  obtain ⟨X, hX⟩ : ∃ X, X = lbB ps (x + 1) := ⟨_, rfl⟩
  have HX := Lib.hid hX
  have HP := Lib.hid (show X = true → M ≤ N by
    intro a
    rw [HX.out] at a
    have h1 := back_anti (r := x) (r' := x + 1) r0 (by omega) (av_of HV.out).2
    rw [HM.out, lbN_yes a, hN, mx_le]
    exact ⟨Int.le_trans h1 (mx_l _ _), mx_r _ _⟩)
  have HS := Lib.hid (show N ≤ zsum ps ∨ N = 1 by
    have := back_bd r0 HV.out
    rw [hN]
    unfold mx
    split
    · exact .inr rfl
    · exact .inl this.2.1)
  have ZB := Lib.hid ((back_bd (r := 0) (by omega) hv).2.2)
  have A0 := Lib.hid (fun (k : Nat) (p : Arr) (hp : ps[k]? = some p) => av_at (av_of HV.out).2 hp)
  clear hv hk hN hM hX
  go_wp2_with fail
  refine (lbI_is A1 n1 c1 ps x N true _ HA1.out (by omega) HL.out HK.out).mono ?_
  rintro e w2 ⟨rfl, hb⟩
  obtain ⟨hc2, hf2⟩ := bcell hb
  have B2 := Lib.hid (show Below w.heap.size w w2 from (by first | exact below_seq B1.out hb | exact below_seq1 B1.out hb | exact below_seq2 B1.out hb | exact below_seq3 B1.out hb | exact below_seq4 B1.out hb))
  have R2 := Lib.hid hb
  have hz2 := hb.size
  try simp at hz2
  clear hb
  try have y20 : w.heap.size < w2.heap.size := by omega
  try have y20a : w.heap.size + 1 < w2.heap.size := by omega
  try have y20b : w.heap.size < w2.heap.size + 1 + 1 := by omega
  try have y20c : w.heap.size + 1 < w2.heap.size + 1 + 1 := by omega
  try have y21 : w1.heap.size < w2.heap.size := by omega
  try have y21a : w1.heap.size + 1 < w2.heap.size := by omega
  try have y21b : w1.heap.size < w2.heap.size + 1 + 1 := by omega
  try have y21c : w1.heap.size + 1 < w2.heap.size + 1 + 1 := by omega
  have HA2 := Lib.hid (ar_below HA1.out R2.out)
  go_wp2_with fail
  refine (lbS_is A1 n1 c1 ps x N true _ HA2.out (by omega) HL.out HK.out).mono ?_
  rintro e w3 ⟨rfl, hb⟩
  obtain ⟨hc3, hf3⟩ := bcell hb
  have B3 := Lib.hid (show Below w.heap.size w w3 from (by first | exact below_seq B2.out hb | exact below_seq1 B2.out hb | exact below_seq2 B2.out hb | exact below_seq3 B2.out hb | exact below_seq4 B2.out hb))
  have R3 := Lib.hid hb
  have hz3 := hb.size
  try simp at hz3
  clear hb
  try have y30 : w.heap.size < w3.heap.size := by omega
  try have y30a : w.heap.size + 1 < w3.heap.size := by omega
  try have y30b : w.heap.size < w3.heap.size + 1 + 1 := by omega
  try have y30c : w.heap.size + 1 < w3.heap.size + 1 + 1 := by omega
  try have y31 : w1.heap.size < w3.heap.size := by omega
  try have y31a : w1.heap.size + 1 < w3.heap.size := by omega
  try have y31b : w1.heap.size < w3.heap.size + 1 + 1 := by omega
  try have y31c : w1.heap.size + 1 < w3.heap.size + 1 + 1 := by omega
  try have y32 : w2.heap.size < w3.heap.size := by omega
  try have y32a : w2.heap.size + 1 < w3.heap.size := by omega
  try have y32b : w2.heap.size < w3.heap.size + 1 + 1 := by omega
  try have y32c : w2.heap.size + 1 < w3.heap.size + 1 + 1 := by omega
  have HA3 := Lib.hid (ar_below HA2.out R3.out)
  go_wp2_with fail
  refine (lbI_is A1 n1 c1 ps (x + 1) M X _ HA3.out (by omega) HM.out.symm HX.out.symm).mono ?_
  rintro e w4 ⟨rfl, hb⟩
  obtain ⟨hc4, hf4⟩ := bcell hb
  have B4 := Lib.hid (show Below w.heap.size w w4 from (by first | exact below_seq B3.out hb | exact below_seq1 B3.out hb | exact below_seq2 B3.out hb | exact below_seq3 B3.out hb | exact below_seq4 B3.out hb))
  have R4 := Lib.hid hb
  have hz4 := hb.size
  try simp at hz4
  clear hb
  try have y40 : w.heap.size < w4.heap.size := by omega
  try have y40a : w.heap.size + 1 < w4.heap.size := by omega
  try have y40b : w.heap.size < w4.heap.size + 1 + 1 := by omega
  try have y40c : w.heap.size + 1 < w4.heap.size + 1 + 1 := by omega
  try have y41 : w1.heap.size < w4.heap.size := by omega
  try have y41a : w1.heap.size + 1 < w4.heap.size := by omega
  try have y41b : w1.heap.size < w4.heap.size + 1 + 1 := by omega
  try have y41c : w1.heap.size + 1 < w4.heap.size + 1 + 1 := by omega
  try have y42 : w2.heap.size < w4.heap.size := by omega
  try have y42a : w2.heap.size + 1 < w4.heap.size := by omega
  try have y42b : w2.heap.size < w4.heap.size + 1 + 1 := by omega
  try have y42c : w2.heap.size + 1 < w4.heap.size + 1 + 1 := by omega
  try have y43 : w3.heap.size < w4.heap.size := by omega
  try have y43a : w3.heap.size + 1 < w4.heap.size := by omega
  try have y43b : w3.heap.size < w4.heap.size + 1 + 1 := by omega
  try have y43c : w3.heap.size + 1 < w4.heap.size + 1 + 1 := by omega
  have HA4 := Lib.hid (ar_below HA3.out R4.out)
  go_wp2_with fail
  go_loopw [11, 12] (fun s i wr => SumA w4 ps n1 s i wr) (fun _ i _ => n1 - (intOf i).toNat)
  case atStart => exact ⟨0, 0, Nat.zero_le _, rfl, rfl, by simp, by omega, by omega, Below.refl _ _⟩
  case round =>
    obtain ⟨k, S, hk, rfl, rfl, he, s0, s1, hbl⟩ := hrel
    have HE := Lib.hid he
    clear he
    by_cases hlt : k < n1
    · obtain ⟨b, off, p, rfl, hb, hp, c0, c1⟩ := ar_at (ar_below HA4.out hbl) hlt
      have a1 := A0.out k p hp
      have HP' := Lib.hid hp
      have HB := Lib.hid hbl
      clear hp hbl
      go_wp2
      go_roundw
      case rel => exact ⟨k + 1, _, by omega, by go_num, rfl, by rw [HE.out, drop_at HP'.out, zsum]; omega, by omega, by omega, HB.out⟩
      case measure => simp [intOf]; omega
    · obtain rfl : k = n1 := by omega
      have hS : S = zsum ps := by rw [HE.out, drop_end (by have := HA1.out.1; omega)]; simp [zsum]
      have HB := Lib.hid hbl
      clear hbl
      have hS2 : N ≤ S ∨ N = 1 := by rw [hS]; exact HS.out
      clear hS
      by_cases h1 : N ≤ S
      · rcases X with _ | _
        · go_wp2
          go_ret
          exact ⟨rfl, below_seq B4.out HB.out⟩
        · have hMN := HP.out rfl
          go_wp2
          go_ret
          exact ⟨rfl, below_seq B4.out HB.out⟩
      · have h2 : (N == 1) = true := by simp only [beq_iff_eq]; omega
        have h1' : decide (N ≤ S) = false := decide_eq_false h1
        rcases X with _ | _
        · go_wp2
          go_ret
          exact ⟨rfl, below_seq B4.out HB.out⟩
        · have hMN := HP.out rfl
          go_wp2
          go_ret
          exact ⟨rfl, below_seq B4.out HB.out⟩
theorem own : ownKnob Try.prog.godebug = none := by kernel_rfl
theorem laidOut : laidOutB Try.prog = true := by kernel_rfl
set_option maxRecDepth 100000 in
theorem lifted (os : Os) (started : os.Started) (H : Type) (enc : TypeId × Value → H) :
    ReturnsInHanded {} Try.checked os 8 .any (Rows.fnBurstRateSpec.pre6 enc Try.prog Try.f8 Rows.fnBurstRateRow.domain false) (Rows.fnBurstRateSpec.post enc Try.prog Try.f8 false true false false) := by
  refine returnsInHanded_of_change (C := Try.checked) own started (by kernel_rfl) Try.func8
    (ChangeSpec.witness6 (enc := enc) (C := Try.checked) false ⟨#[], #[.slice none 0 0], []⟩ 8 (by kernel_rfl) (by kernel_rfl) (by kernel_rfl) (by kernel_rfl)) ?_
  intro W base args ds gs before hval0 hW _ _
  have hval : ∀ (j : Nat) t v, Try.f8.params[j]? = some t → args[j]? = some v → Value.okWide Try.prog W .any base t v := hval0
  have hW' := hW
  obtain ⟨p, q, hA0, hV, rfl, _, _⟩ := hW
  have hA : DataW.TrodAll enc Try.prog W 0 (fun _ => true) true Try.f8.params.toList args.toList ds p := hA0
  rw [Try.params8] at hA hval
  obtain ⟨v0, vs0, d0, ds0, p0, q0, hargs, rfl, rfl, h0, r0⟩ := trodAll_cons hA
  obtain ⟨rfl, rfl, rfl⟩ := trodAll_nil r0
  obtain rfl : args = #[v0] := by cases args; simp_all
  obtain ⟨rfl, rfl⟩ := trodVars_none hV
  have lt0 : ∀ x ∈ p0, x.block < W.heap.size := by obtain ⟨m, hm⟩ := h0; exact DataW.trod_lt m _ _ _ hm
  obtain ⟨a0, n0, c0, rfl⟩ := okWide_slice Try.underlying22 (hval 0 22 v0 rfl rfl)
  have w0 : Bytes W a0 n0 c0 := bytes_open h0
  clear hA0 hval0
  refine (walk a0 n0 c0 W w0).mono fun e W' ⟨he, bel⟩ => ?_
  subst he
  exact ⟨_, rfl, _, _, _, [], _, [], hW', trodAll_mk1 (shut_bool Try.underlying4 _), (trodAll_cons_mk (Below.trod laidOut (by kernel_rfl) (of_decide_eq_true (by kernel_rfl)) h0 bel lt0) trodAll_mk0), rfl, bel.frame _, fun h => by cases h⟩
theorem over : Rows.fnBurstRateRow.holds Try.pinned (OpenSpec.ofChange Rows.fnBurstRateSpec) :=
  OpenClaim.holds_of_wide 8 Try.f8 rfl rfl rfl rfl rfl rfl rfl ⟨rfl, rfl, rfl, rfl, rfl⟩ rfl rfl rfl rfl rfl (by kernel_rfl) Try.func8 (by unfold joinedFacts; rw [mayEnter, liftsFinal, makeIs]; kernel_rfl)
    (of_decide_eq_true (by kernel_rfl)) (by unfold Func.isWrapper; first | (rw [if_pos (by decide +kernel)]; kernel_rfl) | (rw [if_neg (by decide +kernel)]; exact ⟨rfl, rfl⟩))
    (fun os started H enc _ => lifted os started H enc)
/-- the given statement -/
theorem proved : Rows.FnBurstRateSaid := over
end Go.Proofs.Ytclgmmnidkppmaa.fnBurstRate
