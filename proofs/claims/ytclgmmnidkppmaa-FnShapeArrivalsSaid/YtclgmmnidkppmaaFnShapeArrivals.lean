/-
  The law FnShapeArrivals returns true at every argument: shaping conforms. Conditions: none.
-/
import Derived.Test.YtclgmmnidkppmaaLift
import Derived.Test.YtclgmmnidkppmaaDE
import Derived.Test.YtclgmmnidkppmaaEt
import Derived.Test.YtclgmmnidkppmaaMay
import Derived.Test.YtclgmmnidkppmaaLifts
import Derived.Test.YtclgmmnidkppmaaMake
namespace Go.Proofs.Ytclgmmnidkppmaa.fnShapeArrivals
open Go.ChangeShapes Go.WideShapes Go.ChangeAt Go.RowKit

set_option maxHeartbeats 4000000 in
theorem walk (A : Option Addr) (n c : Nat) (w : World) (h : Bytes w A n c) :
    Calls Try.prog 14 #[.slice A n c] w fun e w' => e = .returned (.bool true) ∧ Below w.heap.size w w' := by
  have HB := Lib.hid h
  clear h
  by_cases hbig : ¬ n ≤ 1048576
  · go_enter Try.func14, Try.ntmps14
    go_wp2
    go_ret
    exact ⟨rfl, Below.refl _ _⟩
  have hbig' : n ≤ 1048576 := by omega
  clear hbig
  go_enter Try.func14, Try.ntmps14
  go_wp2_with fail
  refine (drawShape_any A n c _ HB.out).mono ?_
  rintro e w1 ⟨A1, n1, c1, ps, x, y, rfl, n9, hnc, hcm, x0, x1, y0, y1, har, hb⟩
  obtain ⟨hc1, hf1⟩ := bcell hb
  have B1 := Lib.hid (show Below w.heap.size w w1 from (by first | exact below_seq (Below.refl w.heap.size w) hb | exact below_seq1 (Below.refl w.heap.size w) hb | exact below_seq2 (Below.refl w.heap.size w) hb | exact below_seq3 (Below.refl w.heap.size w) hb | exact below_seq4 (Below.refl w.heap.size w) hb))
  have R1 := Lib.hid hb
  have hz1 := hb.size
  try simp at hz1
  clear hb
  have HA1 := Lib.hid har
  clear har
  go_wp2_with fail
  refine (shI_rd A1 n1 c1 ps x y _ HA1.out (by omega)).mono ?_
  rintro e w2 ⟨A2, n2, c2, qs, ok, rfl, hsh2, hn2, hnc2, har2, hb⟩
  obtain ⟨hc2, hf2⟩ := bcell hb
  have B2 := Lib.hid (show Below w.heap.size w w2 from (by first | exact below_seq B1.out hb | exact below_seq1 B1.out hb | exact below_seq2 B1.out hb | exact below_seq3 B1.out hb | exact below_seq4 B1.out hb))
  have R2 := Lib.hid hb
  have hz2 := hb.size
  try simp at hz2
  clear hb
  try have y20 : w.heap.size < w2.heap.size := by omega
  try have y20a : w.heap.size + 1 < w2.heap.size := by omega
  try have y20b : w.heap.size < w2.heap.size + 1 + 1 := by omega
  try have y20c : w.heap.size + 1 < w2.heap.size + 1 + 1 := by omega
  try have y21 : w1.heap.size < w2.heap.size := by omega
  try have y21a : w1.heap.size + 1 < w2.heap.size := by omega
  try have y21b : w1.heap.size < w2.heap.size + 1 + 1 := by omega
  try have y21c : w1.heap.size + 1 < w2.heap.size + 1 + 1 := by omega
  have HA2 := Lib.hid (ar_below HA1.out R2.out)
  have HS2 := Lib.hid har2
  clear har2
  go_wp2_with fail
  refine (shS_rd A1 n1 c1 ps x y _ HA2.out (by omega)).mono ?_
  rintro e w3 ⟨A3, n3, c3, qs3, ok3, rfl, hsh3, hn3, hnc3, har3, hb⟩
  obtain ⟨hc3, hf3⟩ := bcell hb
  have B3 := Lib.hid (show Below w.heap.size w w3 from (by first | exact below_seq B2.out hb | exact below_seq1 B2.out hb | exact below_seq2 B2.out hb | exact below_seq3 B2.out hb | exact below_seq4 B2.out hb))
  have R3 := Lib.hid hb
  have hz3 := hb.size
  try simp at hz3
  clear hb
  try have y30 : w.heap.size < w3.heap.size := by omega
  try have y30a : w.heap.size + 1 < w3.heap.size := by omega
  try have y30b : w.heap.size < w3.heap.size + 1 + 1 := by omega
  try have y30c : w.heap.size + 1 < w3.heap.size + 1 + 1 := by omega
  try have y31 : w1.heap.size < w3.heap.size := by omega
  try have y31a : w1.heap.size + 1 < w3.heap.size := by omega
  try have y31b : w1.heap.size < w3.heap.size + 1 + 1 := by omega
  try have y31c : w1.heap.size + 1 < w3.heap.size + 1 + 1 := by omega
  try have y32 : w2.heap.size < w3.heap.size := by omega
  try have y32a : w2.heap.size + 1 < w3.heap.size := by omega
  try have y32b : w2.heap.size < w3.heap.size + 1 + 1 := by omega
  try have y32c : w2.heap.size + 1 < w3.heap.size + 1 + 1 := by omega
  have HA3 := Lib.hid (ar_below HA2.out R3.out)
  have HS3 := Lib.hid (ar_below HS2.out R3.out)
  have HT3 := Lib.hid har3
  obtain ⟨e1, e2⟩ := sh_uniq hsh2 hsh3
  subst e1 e2
  have HSH := Lib.hid hsh2
  clear har3 hsh2 hsh3
  go_wp2_with fail
  refine (tga_any A2 A3 n2 c2 n3 c3 qs qs _ HS3.out HT3.out (by omega) (by omega)).mono ?_
  rintro e w4 ⟨rfl, hb⟩
  obtain ⟨hc4, hf4⟩ := bcell hb
  have B4 := Lib.hid (show Below w.heap.size w w4 from (by first | exact below_seq B3.out hb | exact below_seq1 B3.out hb | exact below_seq2 B3.out hb | exact below_seq3 B3.out hb | exact below_seq4 B3.out hb))
  have R4 := Lib.hid hb
  have hz4 := hb.size
  try simp at hz4
  clear hb
  try have y40 : w.heap.size < w4.heap.size := by omega
  try have y40a : w.heap.size + 1 < w4.heap.size := by omega
  try have y40b : w.heap.size < w4.heap.size + 1 + 1 := by omega
  try have y40c : w.heap.size + 1 < w4.heap.size + 1 + 1 := by omega
  try have y41 : w1.heap.size < w4.heap.size := by omega
  try have y41a : w1.heap.size + 1 < w4.heap.size := by omega
  try have y41b : w1.heap.size < w4.heap.size + 1 + 1 := by omega
  try have y41c : w1.heap.size + 1 < w4.heap.size + 1 + 1 := by omega
  try have y42 : w2.heap.size < w4.heap.size := by omega
  try have y42a : w2.heap.size + 1 < w4.heap.size := by omega
  try have y42b : w2.heap.size < w4.heap.size + 1 + 1 := by omega
  try have y42c : w2.heap.size + 1 < w4.heap.size + 1 + 1 := by omega
  try have y43 : w3.heap.size < w4.heap.size := by omega
  try have y43a : w3.heap.size + 1 < w4.heap.size := by omega
  try have y43b : w3.heap.size < w4.heap.size + 1 + 1 := by omega
  try have y43c : w3.heap.size + 1 < w4.heap.size + 1 + 1 := by omega
  rw [← sameA_yes rfl]
  have HA4 := Lib.hid (ar_below HA3.out R4.out)
  have HS4 := Lib.hid (ar_below HS3.out R4.out)
  have HT4 := Lib.hid (ar_below HT3.out R4.out)
  rcases ok with _ | _
  · go_wp2_with fail
    refine (tga_any A2 A3 n2 c2 n3 c3 qs qs _ HS4.out HT4.out (by omega) (by omega)).mono ?_
    rintro e w5 ⟨rfl, hb⟩
    obtain ⟨hc5, hf5⟩ := bcell hb
    have B5 := Lib.hid (show Below w.heap.size w w5 from (by first | exact below_seq B4.out hb | exact below_seq1 B4.out hb | exact below_seq2 B4.out hb | exact below_seq3 B4.out hb | exact below_seq4 B4.out hb))
    have R5 := Lib.hid hb
    have hz5 := hb.size
    try simp at hz5
    clear hb
    try have y50 : w.heap.size < w5.heap.size := by omega
    try have y50a : w.heap.size + 1 < w5.heap.size := by omega
    try have y50b : w.heap.size < w5.heap.size + 1 + 1 := by omega
    try have y50c : w.heap.size + 1 < w5.heap.size + 1 + 1 := by omega
    try have y51 : w1.heap.size < w5.heap.size := by omega
    try have y51a : w1.heap.size + 1 < w5.heap.size := by omega
    try have y51b : w1.heap.size < w5.heap.size + 1 + 1 := by omega
    try have y51c : w1.heap.size + 1 < w5.heap.size + 1 + 1 := by omega
    try have y52 : w2.heap.size < w5.heap.size := by omega
    try have y52a : w2.heap.size + 1 < w5.heap.size := by omega
    try have y52b : w2.heap.size < w5.heap.size + 1 + 1 := by omega
    try have y52c : w2.heap.size + 1 < w5.heap.size + 1 + 1 := by omega
    try have y53 : w3.heap.size < w5.heap.size := by omega
    try have y53a : w3.heap.size + 1 < w5.heap.size := by omega
    try have y53b : w3.heap.size < w5.heap.size + 1 + 1 := by omega
    try have y53c : w3.heap.size + 1 < w5.heap.size + 1 + 1 := by omega
    try have y54 : w4.heap.size < w5.heap.size := by omega
    try have y54a : w4.heap.size + 1 < w5.heap.size := by omega
    try have y54b : w4.heap.size < w5.heap.size + 1 + 1 := by omega
    try have y54c : w4.heap.size + 1 < w5.heap.size + 1 + 1 := by omega
    rw [← sameA_yes rfl]
    go_wp2
    all_goals
      go_ret
      refine ⟨rfl, ?_⟩
      repeat refine below_alloc ?_ _
      exact B5.out
  obtain ⟨C, hC⟩ : ∃ C, C = cfR ps x y := ⟨_, rfl⟩
  have HC := Lib.hid hC
  have HD := Lib.hid (show sameA qs ps = C by rw [hC]; exact (shaped_same HSH.out).symm)
  have HK := Lib.hid (shaped_of HSH.out).1
  have HQ := Lib.hid (shaped_bk HSH.out)
  have HV := Lib.hid (shaped_val HSH.out)
  have HLE := Lib.hid (shaped_back HSH.out)
  have HGE := Lib.hid (shaped_of HSH.out).2
  have hn12 : n2 = n1 := by have := HS2.out.1; have := HA1.out.1; have := HGE.out.len; omega
  have HN12 := Lib.hid hn12
  clear hC hn12
  go_wp2_with fail
  refine (cfI_is A2 n2 c2 qs x y true true _ HS4.out (by omega) (cf_is HQ.out HLE.out) HQ.out).mono ?_
  rintro e w5 ⟨rfl, hb⟩
  obtain ⟨hc5, hf5⟩ := bcell hb
  have B5 := Lib.hid (show Below w.heap.size w w5 from (by first | exact below_seq B4.out hb | exact below_seq1 B4.out hb | exact below_seq2 B4.out hb | exact below_seq3 B4.out hb | exact below_seq4 B4.out hb))
  have R5 := Lib.hid hb
  have hz5 := hb.size
  try simp at hz5
  clear hb
  try have y50 : w.heap.size < w5.heap.size := by omega
  try have y50a : w.heap.size + 1 < w5.heap.size := by omega
  try have y50b : w.heap.size < w5.heap.size + 1 + 1 := by omega
  try have y50c : w.heap.size + 1 < w5.heap.size + 1 + 1 := by omega
  try have y51 : w1.heap.size < w5.heap.size := by omega
  try have y51a : w1.heap.size + 1 < w5.heap.size := by omega
  try have y51b : w1.heap.size < w5.heap.size + 1 + 1 := by omega
  try have y51c : w1.heap.size + 1 < w5.heap.size + 1 + 1 := by omega
  try have y52 : w2.heap.size < w5.heap.size := by omega
  try have y52a : w2.heap.size + 1 < w5.heap.size := by omega
  try have y52b : w2.heap.size < w5.heap.size + 1 + 1 := by omega
  try have y52c : w2.heap.size + 1 < w5.heap.size + 1 + 1 := by omega
  try have y53 : w3.heap.size < w5.heap.size := by omega
  try have y53a : w3.heap.size + 1 < w5.heap.size := by omega
  try have y53b : w3.heap.size < w5.heap.size + 1 + 1 := by omega
  try have y53c : w3.heap.size + 1 < w5.heap.size + 1 + 1 := by omega
  try have y54 : w4.heap.size < w5.heap.size := by omega
  try have y54a : w4.heap.size + 1 < w5.heap.size := by omega
  try have y54b : w4.heap.size < w5.heap.size + 1 + 1 := by omega
  try have y54c : w4.heap.size + 1 < w5.heap.size + 1 + 1 := by omega
  have HA5 := Lib.hid (ar_below HA4.out R5.out)
  have HS5 := Lib.hid (ar_below HS4.out R5.out)
  go_wp2_with fail
  refine (cfI_is A1 n1 c1 ps x y C true _ HA5.out (by omega) HC.out.symm HK.out).mono ?_
  rintro e w6 ⟨rfl, hb⟩
  obtain ⟨hc6, hf6⟩ := bcell hb
  have B6 := Lib.hid (show Below w.heap.size w w6 from (by first | exact below_seq B5.out hb | exact below_seq1 B5.out hb | exact below_seq2 B5.out hb | exact below_seq3 B5.out hb | exact below_seq4 B5.out hb))
  have R6 := Lib.hid hb
  have hz6 := hb.size
  try simp at hz6
  clear hb
  try have y60 : w.heap.size < w6.heap.size := by omega
  try have y60a : w.heap.size + 1 < w6.heap.size := by omega
  try have y60b : w.heap.size < w6.heap.size + 1 + 1 := by omega
  try have y60c : w.heap.size + 1 < w6.heap.size + 1 + 1 := by omega
  try have y61 : w1.heap.size < w6.heap.size := by omega
  try have y61a : w1.heap.size + 1 < w6.heap.size := by omega
  try have y61b : w1.heap.size < w6.heap.size + 1 + 1 := by omega
  try have y61c : w1.heap.size + 1 < w6.heap.size + 1 + 1 := by omega
  try have y62 : w2.heap.size < w6.heap.size := by omega
  try have y62a : w2.heap.size + 1 < w6.heap.size := by omega
  try have y62b : w2.heap.size < w6.heap.size + 1 + 1 := by omega
  try have y62c : w2.heap.size + 1 < w6.heap.size + 1 + 1 := by omega
  try have y63 : w3.heap.size < w6.heap.size := by omega
  try have y63a : w3.heap.size + 1 < w6.heap.size := by omega
  try have y63b : w3.heap.size < w6.heap.size + 1 + 1 := by omega
  try have y63c : w3.heap.size + 1 < w6.heap.size + 1 + 1 := by omega
  try have y64 : w4.heap.size < w6.heap.size := by omega
  try have y64a : w4.heap.size + 1 < w6.heap.size := by omega
  try have y64b : w4.heap.size < w6.heap.size + 1 + 1 := by omega
  try have y64c : w4.heap.size + 1 < w6.heap.size + 1 + 1 := by omega
  try have y65 : w5.heap.size < w6.heap.size := by omega
  try have y65a : w5.heap.size + 1 < w6.heap.size := by omega
  try have y65b : w5.heap.size < w6.heap.size + 1 + 1 := by omega
  try have y65c : w5.heap.size + 1 < w6.heap.size + 1 + 1 := by omega
  have HA6 := Lib.hid (ar_below HA5.out R6.out)
  have HS6 := Lib.hid (ar_below HS5.out R6.out)
  go_wp2_with fail
  go_loopw [14] (fun i wr => ∃ k : Nat, k ≤ n1 ∧ i = .int .i64 (k : Int) ∧ Below w6.heap.size w6 wr) (fun i _ => n1 - (intOf i).toNat)
  case atStart => exact ⟨0, Nat.zero_le _, rfl, Below.refl _ _⟩
  case round =>
    obtain ⟨k, hk, rfl, hbl⟩ := hrel
    by_cases hlt : k < n1
    · obtain ⟨b, off, p, rfl, hb, hp, c0, c1'⟩ := ar_at (ar_below HA6.out hbl) hlt
      obtain ⟨b2, off2, q, rfl, hb2, hq, d0, d1⟩ := ar_at (k := k) (ar_below HS6.out hbl) (by have := HN12.out; omega)
      obtain ⟨g1, g2⟩ := HGE.out.ge k p q hp hq
      have HB := Lib.hid hbl
      have i2 : (k : Int) < (n2 : Int) := by have := HN12.out; omega
      have i1 : (k : Int) < (n1 : Int) := by omega
      have g3 : decide (q.t < p.t) = false := decide_eq_false (by omega)
      have g4 : (q.z == p.z) = true := by simp only [beq_iff_eq]; exact g2.symm
      clear hp hq hbl g2
      go_wp2_with fail
      go_quiet (fail)
      go_wp2
      go_roundw
      case rel => exact ⟨k + 1, by omega, by go_num, below_drewN HB.out _⟩
      case measure => simp [intOf]; omega
    · obtain rfl : k = n1 := by omega
      have HB := Lib.hid hbl
      have HS7 := Lib.hid (ar_below HS6.out hbl)
      have HA7 := Lib.hid (ar_below HA6.out hbl)
      clear hbl
      go_wp2_with fail
      refine (avI_any A2 n2 c2 qs _ HS7.out (by omega)).mono ?_
      rintro e w8 ⟨rfl, hb8⟩
      rw [HV.out]
      have B8 := Lib.hid (below_seq (below_seq B6.out HB.out) hb8)
      have HS8 := Lib.hid (ar_below HS7.out hb8)
      have HA8 := Lib.hid (ar_below HA7.out hb8)
      clear hb8
      go_wp2_with fail
      refine (tga_any A2 A1 n2 c2 k c1 qs ps _ HS8.out HA8.out (by omega) (by omega)).mono ?_
      rintro e w9 ⟨rfl, hb9⟩
      rw [HD.out]
      have B9 := Lib.hid (below_seq B8.out hb9)
      clear hb9
      rcases C with _ | _
      · go_wp2
        go_ret
        exact ⟨rfl, B9.out⟩
      · go_wp2
        go_ret
        exact ⟨rfl, B9.out⟩
theorem own : ownKnob Try.prog.godebug = none := by kernel_rfl
theorem laidOut : laidOutB Try.prog = true := by kernel_rfl
set_option maxRecDepth 100000 in
theorem lifted (os : Os) (started : os.Started) (H : Type) (enc : TypeId × Value → H) :
    ReturnsInHanded {} Try.checked os 14 .any (Rows.fnShapeArrivalsSpec.pre6 enc Try.prog Try.f14 Rows.fnShapeArrivalsRow.domain false) (Rows.fnShapeArrivalsSpec.post enc Try.prog Try.f14 false true false false) := by
  refine returnsInHanded_of_change (C := Try.checked) own started (by kernel_rfl) Try.func14
    (ChangeSpec.witness6 (enc := enc) (C := Try.checked) false ⟨#[], #[.slice none 0 0], []⟩ 8 (by kernel_rfl) (by kernel_rfl) (by kernel_rfl) (by kernel_rfl)) ?_
  intro W base args ds gs before hval0 hW _ _
  have hval : ∀ (j : Nat) t v, Try.f14.params[j]? = some t → args[j]? = some v → Value.okWide Try.prog W .any base t v := hval0
  have hW' := hW
  obtain ⟨p, q, hA0, hV, rfl, _, _⟩ := hW
  have hA : DataW.TrodAll enc Try.prog W 0 (fun _ => true) true Try.f14.params.toList args.toList ds p := hA0
  rw [Try.params14] at hA hval
  obtain ⟨v0, vs0, d0, ds0, p0, q0, hargs, rfl, rfl, h0, r0⟩ := trodAll_cons hA
  obtain ⟨rfl, rfl, rfl⟩ := trodAll_nil r0
  obtain rfl : args = #[v0] := by cases args; simp_all
  obtain ⟨rfl, rfl⟩ := trodVars_none hV
  have lt0 : ∀ x ∈ p0, x.block < W.heap.size := by obtain ⟨m, hm⟩ := h0; exact DataW.trod_lt m _ _ _ hm
  obtain ⟨a0, n0, c0, rfl⟩ := okWide_slice Try.underlying22 (hval 0 22 v0 rfl rfl)
  have w0 : Bytes W a0 n0 c0 := bytes_open h0
  clear hA0 hval0
  refine (walk a0 n0 c0 W w0).mono fun e W' ⟨he, bel⟩ => ?_
  subst he
  exact ⟨_, rfl, _, _, _, [], _, [], hW', trodAll_mk1 (shut_bool Try.underlying4 _), (trodAll_cons_mk (Below.trod laidOut (by kernel_rfl) (of_decide_eq_true (by kernel_rfl)) h0 bel lt0) trodAll_mk0), rfl, bel.frame _, fun h => by cases h⟩
theorem over : Rows.fnShapeArrivalsRow.holds Try.pinned (OpenSpec.ofChange Rows.fnShapeArrivalsSpec) :=
  OpenClaim.holds_of_wide 14 Try.f14 rfl rfl rfl rfl rfl rfl rfl ⟨rfl, rfl, rfl, rfl, rfl⟩ rfl rfl rfl rfl rfl (by kernel_rfl) Try.func14 (by unfold joinedFacts; rw [mayEnter, liftsFinal, makeIs]; kernel_rfl)
    (of_decide_eq_true (by kernel_rfl)) (by unfold Func.isWrapper; first | (rw [if_pos (by decide +kernel)]; kernel_rfl) | (rw [if_neg (by decide +kernel)]; exact ⟨rfl, rfl⟩))
    (fun os started H enc _ => lifted os started H enc)
/-- the given statement -/
theorem proved : Rows.FnShapeArrivalsSaid := over
end Go.Proofs.Ytclgmmnidkppmaa.fnShapeArrivals
