/-
  The law FnPeakAll returns true at every argument: peaks are bounded. Conditions: none.
-/
import Derived.Test.YtclgmmnidkppmaaLift
import Derived.Test.YtclgmmnidkppmaaDE
import Derived.Test.YtclgmmnidkppmaaEL
import Derived.Test.YtclgmmnidkppmaaMay
import Derived.Test.YtclgmmnidkppmaaLifts
import Derived.Test.YtclgmmnidkppmaaMake
namespace Go.Proofs.Ytclgmmnidkppmaa.fnPeakAll
open Go.ChangeShapes Go.WideShapes Go.ChangeAt Go.RowKit

def SumP (w : World) (ps : List Arr) (P : Int) (n : Nat) (s m i : Value) (wr : World) : Prop :=
  ∃ (k : Nat) (S M : Int), k ≤ n ∧ i = .int .i64 (k : Int) ∧ s = .int .i64 S ∧ m = .int .i64 M ∧ zsum ps = S + zsum (ps.drop k) ∧ 0 ≤ S ∧ S ≤ 100 * k ∧ M ≤ P ∧ Below w.heap.size w wr
set_option maxHeartbeats 4000000 in
theorem walk (A : Option Addr) (n c : Nat) (w : World) (h : Bytes w A n c) :
    Calls Try.prog 9 #[.slice A n c] w fun e w' => e = .returned (.bool true) ∧ Below w.heap.size w w' := by
  have HB := Lib.hid h
  clear h
  by_cases hbig : ¬ n ≤ 1048576
  · go_enter Try.func9, Try.ntmps9
    go_wp2
    go_ret
    exact ⟨rfl, Below.refl _ _⟩
  have hbig' : n ≤ 1048576 := by omega
  clear hbig
  go_enter Try.func9, Try.ntmps9
  go_wp2_with fail
  refine (drawPeakOf_any A n c _ HB.out).mono ?_
  rintro e w1 ⟨A1, n1, c1, ps, x, rfl, n9, hnc, hcm, x0, x1, har, hb⟩
  obtain ⟨hc1, hf1⟩ := bcell hb
  have B1 := Lib.hid (show Below w.heap.size w w1 from (by first | exact below_seq (Below.refl w.heap.size w) hb | exact below_seq1 (Below.refl w.heap.size w) hb | exact below_seq2 (Below.refl w.heap.size w) hb | exact below_seq3 (Below.refl w.heap.size w) hb | exact below_seq4 (Below.refl w.heap.size w) hb))
  have R1 := Lib.hid hb
  have hz1 := hb.size
  try simp at hz1
  clear hb
  have HA1 := Lib.hid har
  clear har
  rcases hk : pkB ps x with _ | _
  · have HK := Lib.hid hk
    clear hk
    go_wp2_with fail
    refine (pkI_is A1 n1 c1 ps x 0 false _ HA1.out (by omega) hnc (pkN_no HK.out) HK.out).mono ?_
    rintro e w2 ⟨rfl, hb⟩
    obtain ⟨hc2, hf2⟩ := bcell hb
    have B2 := Lib.hid (show Below w.heap.size w w2 from (by first | exact below_seq B1.out hb | exact below_seq1 B1.out hb | exact below_seq2 B1.out hb | exact below_seq3 B1.out hb | exact below_seq4 B1.out hb))
    have R2 := Lib.hid hb
    have hz2 := hb.size
    try simp at hz2
    clear hb
    try have y20 : w.heap.size < w2.heap.size := by omega
    try have y20a : w.heap.size + 1 < w2.heap.size := by omega
    try have y20b : w.heap.size < w2.heap.size + 1 + 1 := by omega
    try have y20c : w.heap.size + 1 < w2.heap.size + 1 + 1 := by omega
    try have y21 : w1.heap.size < w2.heap.size := by omega
    try have y21a : w1.heap.size + 1 < w2.heap.size := by omega
    try have y21b : w1.heap.size < w2.heap.size + 1 + 1 := by omega
    try have y21c : w1.heap.size + 1 < w2.heap.size + 1 + 1 := by omega
    have HA2 := Lib.hid (ar_below HA1.out R2.out)
    go_wp2_with fail
    refine (pkS_is A1 n1 c1 ps x 0 false _ HA2.out (by omega) (pkN_no HK.out) HK.out).mono ?_
    rintro e w3 ⟨rfl, hb⟩
    obtain ⟨hc3, hf3⟩ := bcell hb
    have B3 := Lib.hid (show Below w.heap.size w w3 from (by first | exact below_seq B2.out hb | exact below_seq1 B2.out hb | exact below_seq2 B2.out hb | exact below_seq3 B2.out hb | exact below_seq4 B2.out hb))
    have R3 := Lib.hid hb
    have hz3 := hb.size
    try simp at hz3
    clear hb
    try have y30 : w.heap.size < w3.heap.size := by omega
    try have y30a : w.heap.size + 1 < w3.heap.size := by omega
    try have y30b : w.heap.size < w3.heap.size + 1 + 1 := by omega
    try have y30c : w.heap.size + 1 < w3.heap.size + 1 + 1 := by omega
    try have y31 : w1.heap.size < w3.heap.size := by omega
    try have y31a : w1.heap.size + 1 < w3.heap.size := by omega
    try have y31b : w1.heap.size < w3.heap.size + 1 + 1 := by omega
    try have y31c : w1.heap.size + 1 < w3.heap.size + 1 + 1 := by omega
    try have y32 : w2.heap.size < w3.heap.size := by omega
    try have y32a : w2.heap.size + 1 < w3.heap.size := by omega
    try have y32b : w2.heap.size < w3.heap.size + 1 + 1 := by omega
    try have y32c : w2.heap.size + 1 < w3.heap.size + 1 + 1 := by omega
    have HA3 := Lib.hid (ar_below HA2.out R3.out)
    go_wp2
    all_goals
      go_ret
      refine ⟨rfl, ?_⟩
      repeat refine below_alloc ?_ _
      exact B3.out
  obtain ⟨hv, r0, r1⟩ := pk_of hk
  have HV := Lib.hid hv
  have HK := Lib.hid hk
  obtain ⟨P, hP⟩ : ∃ P, P = peak x ps := ⟨_, rfl⟩
  have HP := Lib.hid (show pkN ps x = P by rw [pkN_yes HK.out, hP])
  have HK2 := Lib.hid (pk_on HV.out (d := 10001) ⟨by omega, by omega⟩)
  have ZB := Lib.hid ((back_bd (r := 0) (by omega) hv).2.2)
  have bd := peak_bd (d := x) (av_of hv).2
  rw [← hP] at bd
  obtain ⟨Z, hZ⟩ : ∃ Z, Z = zsum ps := ⟨_, rfl⟩
  have HZ := Lib.hid hZ
  have HA := Lib.hid (show pkN ps 10001 = Z by rw [pkN_yes HK2.out, peak_all (av_of HV.out).2, hZ])
  have P0 : 0 ≤ P := bd.1
  have P1 : P ≤ Z := by rw [hZ]; exact bd.2
  have A0 := Lib.hid (fun (k : Nat) (p : Arr) (hp : ps[k]? = some p) => And.intro (av_at (av_of HV.out).2 hp) (show p.z ≤ P by rw [hP]; exact peak_one r0 (av_of HV.out).2 hp))
  clear hv hk hP bd hZ
  go_wp2_with fail
  refine (pkI_is A1 n1 c1 ps x P true _ HA1.out (by omega) hnc HP.out HK.out).mono ?_
  rintro e w2 ⟨rfl, hb⟩
  obtain ⟨hc2, hf2⟩ := bcell hb
  have B2 := Lib.hid (show Below w.heap.size w w2 from (by first | exact below_seq B1.out hb | exact below_seq1 B1.out hb | exact below_seq2 B1.out hb | exact below_seq3 B1.out hb | exact below_seq4 B1.out hb))
  have R2 := Lib.hid hb
  have hz2 := hb.size
  try simp at hz2
  clear hb
  try have y20 : w.heap.size < w2.heap.size := by omega
  try have y20a : w.heap.size + 1 < w2.heap.size := by omega
  try have y20b : w.heap.size < w2.heap.size + 1 + 1 := by omega
  try have y20c : w.heap.size + 1 < w2.heap.size + 1 + 1 := by omega
  try have y21 : w1.heap.size < w2.heap.size := by omega
  try have y21a : w1.heap.size + 1 < w2.heap.size := by omega
  try have y21b : w1.heap.size < w2.heap.size + 1 + 1 := by omega
  try have y21c : w1.heap.size + 1 < w2.heap.size + 1 + 1 := by omega
  have HA2 := Lib.hid (ar_below HA1.out R2.out)
  go_wp2_with fail
  refine (pkS_is A1 n1 c1 ps x P true _ HA2.out (by omega) HP.out HK.out).mono ?_
  rintro e w3 ⟨rfl, hb⟩
  obtain ⟨hc3, hf3⟩ := bcell hb
  have B3 := Lib.hid (show Below w.heap.size w w3 from (by first | exact below_seq B2.out hb | exact below_seq1 B2.out hb | exact below_seq2 B2.out hb | exact below_seq3 B2.out hb | exact below_seq4 B2.out hb))
  have R3 := Lib.hid hb
  have hz3 := hb.size
  try simp at hz3
  clear hb
  try have y30 : w.heap.size < w3.heap.size := by omega
  try have y30a : w.heap.size + 1 < w3.heap.size := by omega
  try have y30b : w.heap.size < w3.heap.size + 1 + 1 := by omega
  try have y30c : w.heap.size + 1 < w3.heap.size + 1 + 1 := by omega
  try have y31 : w1.heap.size < w3.heap.size := by omega
  try have y31a : w1.heap.size + 1 < w3.heap.size := by omega
  try have y31b : w1.heap.size < w3.heap.size + 1 + 1 := by omega
  try have y31c : w1.heap.size + 1 < w3.heap.size + 1 + 1 := by omega
  try have y32 : w2.heap.size < w3.heap.size := by omega
  try have y32a : w2.heap.size + 1 < w3.heap.size := by omega
  try have y32b : w2.heap.size < w3.heap.size + 1 + 1 := by omega
  try have y32c : w2.heap.size + 1 < w3.heap.size + 1 + 1 := by omega
  have HA3 := Lib.hid (ar_below HA2.out R3.out)
  go_wp2_with fail
  go_loopw [9, 10, 11] (fun s m i wr => SumP w3 ps P n1 s m i wr) (fun _ _ i _ => n1 - (intOf i).toNat)
  case atStart => exact ⟨0, 0, 0, Nat.zero_le _, rfl, rfl, rfl, by simp, by omega, by omega, P0, Below.refl _ _⟩
  case round =>
    obtain ⟨k, S, M, hk, rfl, rfl, rfl, he, s0, s1, hm, hbl⟩ := hrel
    have HE := Lib.hid he
    clear he
    by_cases hlt : k < n1
    · obtain ⟨b, off, p, rfl, hb, hp, c0, c1⟩ := ar_at (ar_below HA3.out hbl) hlt
      obtain ⟨a1, a2⟩ := A0.out k p hp
      have HP' := Lib.hid hp
      have HB := Lib.hid hbl
      clear hp hbl
      by_cases hmz : M < p.z
      · go_wp2
        go_roundw
        case rel => exact ⟨k + 1, _, _, by omega, by go_num, rfl, rfl, by rw [HE.out, drop_at HP'.out, zsum]; omega, by omega, by omega, by omega, HB.out⟩
        case measure => simp [intOf]; omega
      · have hmz' : p.z ≤ M := by omega
        go_wp2
        go_roundw
        case rel => exact ⟨k + 1, _, _, by omega, by go_num, rfl, rfl, by rw [HE.out, drop_at HP'.out, zsum]; omega, by omega, by omega, by omega, HB.out⟩
        case measure => simp [intOf]; omega
    · obtain rfl : k = n1 := by omega
      have hS : S = Z := by rw [HZ.out, HE.out, drop_end (by have := HA1.out.1; omega)]; simp [zsum]
      have HB := Lib.hid hbl
      have HAE := Lib.hid (ar_below HA3.out hbl)
      have hg : (Z == S) = true := by simp only [beq_iff_eq]; exact hS.symm
      clear hbl hS
      go_wp2_with fail
      refine (pkI_is A1 k c1 ps 10001 Z true _ HAE.out (by omega) hnc HA.out HK2.out).mono ?_
      rintro e w9 ⟨rfl, hb9⟩
      have B9 := Lib.hid (below_seq (below_seq B3.out HB.out) hb9)
      clear hb9
      go_wp2
      go_ret
      exact ⟨rfl, B9.out⟩
theorem own : ownKnob Try.prog.godebug = none := by kernel_rfl
theorem laidOut : laidOutB Try.prog = true := by kernel_rfl
set_option maxRecDepth 100000 in
theorem lifted (os : Os) (started : os.Started) (H : Type) (enc : TypeId × Value → H) :
    ReturnsInHanded {} Try.checked os 9 .any (Rows.fnPeakAllSpec.pre6 enc Try.prog Try.f9 Rows.fnPeakAllRow.domain false) (Rows.fnPeakAllSpec.post enc Try.prog Try.f9 false true false false) := by
  refine returnsInHanded_of_change (C := Try.checked) own started (by kernel_rfl) Try.func9
    (ChangeSpec.witness6 (enc := enc) (C := Try.checked) false ⟨#[], #[.slice none 0 0], []⟩ 8 (by kernel_rfl) (by kernel_rfl) (by kernel_rfl) (by kernel_rfl)) ?_
  intro W base args ds gs before hval0 hW _ _
  have hval : ∀ (j : Nat) t v, Try.f9.params[j]? = some t → args[j]? = some v → Value.okWide Try.prog W .any base t v := hval0
  have hW' := hW
  obtain ⟨p, q, hA0, hV, rfl, _, _⟩ := hW
  have hA : DataW.TrodAll enc Try.prog W 0 (fun _ => true) true Try.f9.params.toList args.toList ds p := hA0
  rw [Try.params9] at hA hval
  obtain ⟨v0, vs0, d0, ds0, p0, q0, hargs, rfl, rfl, h0, r0⟩ := trodAll_cons hA
  obtain ⟨rfl, rfl, rfl⟩ := trodAll_nil r0
  obtain rfl : args = #[v0] := by cases args; simp_all
  obtain ⟨rfl, rfl⟩ := trodVars_none hV
  have lt0 : ∀ x ∈ p0, x.block < W.heap.size := by obtain ⟨m, hm⟩ := h0; exact DataW.trod_lt m _ _ _ hm
  obtain ⟨a0, n0, c0, rfl⟩ := okWide_slice Try.underlying22 (hval 0 22 v0 rfl rfl)
  have w0 : Bytes W a0 n0 c0 := bytes_open h0
  clear hA0 hval0
  refine (walk a0 n0 c0 W w0).mono fun e W' ⟨he, bel⟩ => ?_
  subst he
  exact ⟨_, rfl, _, _, _, [], _, [], hW', trodAll_mk1 (shut_bool Try.underlying4 _), (trodAll_cons_mk (Below.trod laidOut (by kernel_rfl) (of_decide_eq_true (by kernel_rfl)) h0 bel lt0) trodAll_mk0), rfl, bel.frame _, fun h => by cases h⟩
theorem over : Rows.fnPeakAllRow.holds Try.pinned (OpenSpec.ofChange Rows.fnPeakAllSpec) :=
  OpenClaim.holds_of_wide 9 Try.f9 rfl rfl rfl rfl rfl rfl rfl ⟨rfl, rfl, rfl, rfl, rfl⟩ rfl rfl rfl rfl rfl (by kernel_rfl) Try.func9 (by unfold joinedFacts; rw [mayEnter, liftsFinal, makeIs]; kernel_rfl)
    (of_decide_eq_true (by kernel_rfl)) (by unfold Func.isWrapper; first | (rw [if_pos (by decide +kernel)]; kernel_rfl) | (rw [if_neg (by decide +kernel)]; exact ⟨rfl, rfl⟩))
    (fun os started H enc _ => lifted os started H enc)
/-- the given statement -/
theorem proved : Rows.FnPeakAllSaid := over
end Go.Proofs.Ytclgmmnidkppmaa.fnPeakAll
