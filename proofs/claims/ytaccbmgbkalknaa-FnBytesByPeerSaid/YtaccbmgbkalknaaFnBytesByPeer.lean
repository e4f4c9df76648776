/-
  The law FnBytesByPeer returns true at every argument: the bytes of all peers add up to the size of the packets. Conditions: none.
-/
import Derived.Test.YtaccbmgbkalknaaLift
import Derived.Test.YtaccbmgbkalknaaYp
import Derived.Test.YtaccbmgbkalknaaYL
import Derived.Test.YtaccbmgbkalknaaMay
import Derived.Test.YtaccbmgbkalknaaLifts
import Derived.Test.YtaccbmgbkalknaaMake
namespace Go.Proofs.Ytaccbmgbkalknaa.fnBytesByPeer
open Go.ChangeShapes Go.WideShapes Go.ChangeAt Go.RowKit

set_option maxHeartbeats 4000000 in
theorem walk (A : Option Addr) (n c : Nat) (w : World) (h : Bytes w A n c) :
    Calls Try.prog 4 #[.slice A n c] w fun e w' => e = .returned (.bool true) ∧ Below w.heap.size w w' := by
  have HB := Lib.hid h
  clear h
  by_cases hbig : ¬ n ≤ 1048576
  · go_enter Try.func4, Try.ntmps4
    go_wp2
    go_ret
    exact ⟨rfl, Below.refl _ _⟩
  have hbig' : n ≤ 1048576 := by omega
  clear hbig
  go_enter Try.func4, Try.ntmps4
  go_wp2_with fail
  refine (drawBytes_any A n c _ HB.out).mono ?_
  rintro e w1 ⟨A1, n1, c1, ps, rfl, hn9, hnc, hcm, hr, hb⟩
  obtain ⟨hc1, hf1⟩ := bcell hb
  have B1 := Lib.hid (show Below w.heap.size w w1 from (by first | exact below_seq (Below.refl w.heap.size w) hb | exact below_seq1 (Below.refl w.heap.size w) hb | exact below_seq2 (Below.refl w.heap.size w) hb | exact below_seq3 (Below.refl w.heap.size w) hb | exact below_seq4 (Below.refl w.heap.size w) hb))
  have R1 := Lib.hid hb
  have hz1 := hb.size
  try simp at hz1
  clear hb
  have Q1 := Lib.hid hr
  clear hr
  rcases hk : bpB ps with _ | _
  · have HK := Lib.hid hk
    clear hk
    go_wp2_with fail
    refine (bbI_rd A1 n1 c1 ps [] false _ Q1.out (by omega) (by rw [HK.out]; rfl) HK.out).mono ?_
    rintro e w2 ⟨A2, n2, c2, rfl, hn2, hnc2, hr2, hb⟩
    obtain ⟨hc2, hf2⟩ := bcell hb
    have B2 := Lib.hid (show Below w.heap.size w w2 from (by first | exact below_seq B1.out hb | exact below_seq1 B1.out hb | exact below_seq2 B1.out hb | exact below_seq3 B1.out hb | exact below_seq4 B1.out hb))
    have R2 := Lib.hid hb
    have hz2 := hb.size
    try simp at hz2
    clear hb
    try have y20 : w.heap.size < w2.heap.size := by omega
    try have y20a : w.heap.size + 1 < w2.heap.size := by omega
    try have y20b : w.heap.size < w2.heap.size + 1 + 1 := by omega
    try have y20c : w.heap.size + 1 < w2.heap.size + 1 + 1 := by omega
    try have y21 : w1.heap.size < w2.heap.size := by omega
    try have y21a : w1.heap.size + 1 < w2.heap.size := by omega
    try have y21b : w1.heap.size < w2.heap.size + 1 + 1 := by omega
    try have y21c : w1.heap.size + 1 < w2.heap.size + 1 + 1 := by omega
    obtain rfl : n2 = 0 := hn2
    have X2 := Lib.hid hr2
    clear hr2
    have Q2 := Lib.hid (pr_below Q1.out R2.out)
    go_wp2_with fail
    refine (bbS_rd A1 n1 c1 ps [] false _ Q2.out (by omega) (by rw [HK.out]; rfl) HK.out).mono ?_
    rintro e w3 ⟨A3, n3, c3, rfl, hn3, hnc3, hr3, hb⟩
    obtain ⟨hc3, hf3⟩ := bcell hb
    have B3 := Lib.hid (show Below w.heap.size w w3 from (by first | exact below_seq B2.out hb | exact below_seq1 B2.out hb | exact below_seq2 B2.out hb | exact below_seq3 B2.out hb | exact below_seq4 B2.out hb))
    have R3 := Lib.hid hb
    have hz3 := hb.size
    try simp at hz3
    clear hb
    try have y30 : w.heap.size < w3.heap.size := by omega
    try have y30a : w.heap.size + 1 < w3.heap.size := by omega
    try have y30b : w.heap.size < w3.heap.size + 1 + 1 := by omega
    try have y30c : w.heap.size + 1 < w3.heap.size + 1 + 1 := by omega
    try have y31 : w1.heap.size < w3.heap.size := by omega
    try have y31a : w1.heap.size + 1 < w3.heap.size := by omega
    try have y31b : w1.heap.size < w3.heap.size + 1 + 1 := by omega
    try have y31c : w1.heap.size + 1 < w3.heap.size + 1 + 1 := by omega
    try have y32 : w2.heap.size < w3.heap.size := by omega
    try have y32a : w2.heap.size + 1 < w3.heap.size := by omega
    try have y32b : w2.heap.size < w3.heap.size + 1 + 1 := by omega
    try have y32c : w2.heap.size + 1 < w3.heap.size + 1 + 1 := by omega
    obtain rfl : n3 = 0 := hn3
    have X3 := Lib.hid hr3
    clear hr3
    have Q3 := Lib.hid (pr_below Q2.out R3.out)
    have Y2 := Lib.hid (nr_below X2.out R3.out)
    go_wp2_with fail
    refine (tgI_same A2 A3 0 c2 0 c3 [] _ Y2.out X3.out (by omega) (by omega)).mono ?_
    rintro e w4 ⟨rfl, hb⟩
    obtain ⟨hc4, hf4⟩ := bcell hb
    have B4 := Lib.hid (show Below w.heap.size w w4 from (by first | exact below_seq B3.out hb | exact below_seq1 B3.out hb | exact below_seq2 B3.out hb | exact below_seq3 B3.out hb | exact below_seq4 B3.out hb))
    have R4 := Lib.hid hb
    have hz4 := hb.size
    try simp at hz4
    clear hb
    try have y40 : w.heap.size < w4.heap.size := by omega
    try have y40a : w.heap.size + 1 < w4.heap.size := by omega
    try have y40b : w.heap.size < w4.heap.size + 1 + 1 := by omega
    try have y40c : w.heap.size + 1 < w4.heap.size + 1 + 1 := by omega
    try have y41 : w1.heap.size < w4.heap.size := by omega
    try have y41a : w1.heap.size + 1 < w4.heap.size := by omega
    try have y41b : w1.heap.size < w4.heap.size + 1 + 1 := by omega
    try have y41c : w1.heap.size + 1 < w4.heap.size + 1 + 1 := by omega
    try have y42 : w2.heap.size < w4.heap.size := by omega
    try have y42a : w2.heap.size + 1 < w4.heap.size := by omega
    try have y42b : w2.heap.size < w4.heap.size + 1 + 1 := by omega
    try have y42c : w2.heap.size + 1 < w4.heap.size + 1 + 1 := by omega
    try have y43 : w3.heap.size < w4.heap.size := by omega
    try have y43a : w3.heap.size + 1 < w4.heap.size := by omega
    try have y43b : w3.heap.size < w4.heap.size + 1 + 1 := by omega
    try have y43c : w3.heap.size + 1 < w4.heap.size + 1 + 1 := by omega
    have Z2 := Lib.hid (nr_below Y2.out R4.out)
    have Z3 := Lib.hid (nr_below X3.out R4.out)
    go_wp2_with fail
    refine (tgI_same A2 A3 0 c2 0 c3 [] _ Z2.out Z3.out (by omega) (by omega)).mono ?_
    rintro e w5 ⟨rfl, hb⟩
    obtain ⟨hc5, hf5⟩ := bcell hb
    have B5 := Lib.hid (show Below w.heap.size w w5 from (by first | exact below_seq B4.out hb | exact below_seq1 B4.out hb | exact below_seq2 B4.out hb | exact below_seq3 B4.out hb | exact below_seq4 B4.out hb))
    have R5 := Lib.hid hb
    have hz5 := hb.size
    try simp at hz5
    clear hb
    try have y50 : w.heap.size < w5.heap.size := by omega
    try have y50a : w.heap.size + 1 < w5.heap.size := by omega
    try have y50b : w.heap.size < w5.heap.size + 1 + 1 := by omega
    try have y50c : w.heap.size + 1 < w5.heap.size + 1 + 1 := by omega
    try have y51 : w1.heap.size < w5.heap.size := by omega
    try have y51a : w1.heap.size + 1 < w5.heap.size := by omega
    try have y51b : w1.heap.size < w5.heap.size + 1 + 1 := by omega
    try have y51c : w1.heap.size + 1 < w5.heap.size + 1 + 1 := by omega
    try have y52 : w2.heap.size < w5.heap.size := by omega
    try have y52a : w2.heap.size + 1 < w5.heap.size := by omega
    try have y52b : w2.heap.size < w5.heap.size + 1 + 1 := by omega
    try have y52c : w2.heap.size + 1 < w5.heap.size + 1 + 1 := by omega
    try have y53 : w3.heap.size < w5.heap.size := by omega
    try have y53a : w3.heap.size + 1 < w5.heap.size := by omega
    try have y53b : w3.heap.size < w5.heap.size + 1 + 1 := by omega
    try have y53c : w3.heap.size + 1 < w5.heap.size + 1 + 1 := by omega
    try have y54 : w4.heap.size < w5.heap.size := by omega
    try have y54a : w4.heap.size + 1 < w5.heap.size := by omega
    try have y54b : w4.heap.size < w5.heap.size + 1 + 1 := by omega
    try have y54c : w4.heap.size + 1 < w5.heap.size + 1 + 1 := by omega
    go_wp2
    all_goals
      go_ret
      refine ⟨rfl, ?_⟩
      repeat refine below_alloc ?_ _
      exact B5.out
  · have HK := Lib.hid hk
    clear hk
    obtain ⟨R, hR⟩ : ∃ R, (if bpB ps = true then bsL ps else []) = R := ⟨_, rfl⟩
    have HE : Hid (R = bsL ps) := Lib.hid (by rw [← hR, HK.out]; rfl)
    have HR := Lib.hid hR
    have HLN : Hid (R.length = 8) := Lib.hid (by rw [HE.out]; rfl)
    have HBD : Hid (∀ x ∈ R, 0 ≤ x ∧ x ≤ 900) := Lib.hid (fun x hx => by have := bs_bd (bp_of HK.out).2 x (by rw [← HE.out]; exact hx); have := Q1.out.1; omega)
    have HO : Hid (okB ps = true) := Lib.hid (by simp only [okB, Bool.and_eq_true, decide_eq_true_eq]; exact ⟨by have := Q1.out.1; omega, (bp_of HK.out).2⟩)
    obtain ⟨S, hS⟩ : ∃ S, szN ps = S := ⟨_, rfl⟩
    have HS : Hid (sumL R = S) := Lib.hid (by rw [HE.out, bs_sum (bp_of HK.out).2, ← hS, sz_yes HO.out])
    have HSZ := Lib.hid hS
    clear hR hS
    go_wp2_with fail
    refine (bbI_rd A1 n1 c1 ps R true _ Q1.out (by omega) HR.out HK.out).mono ?_
    rintro e w2 ⟨A2, n2, c2, rfl, hn2, hnc2, hr2, hb⟩
    obtain ⟨hc2, hf2⟩ := bcell hb
    have B2 := Lib.hid (show Below w.heap.size w w2 from (by first | exact below_seq B1.out hb | exact below_seq1 B1.out hb | exact below_seq2 B1.out hb | exact below_seq3 B1.out hb | exact below_seq4 B1.out hb))
    have R2 := Lib.hid hb
    have hz2 := hb.size
    try simp at hz2
    clear hb
    try have y20 : w.heap.size < w2.heap.size := by omega
    try have y20a : w.heap.size + 1 < w2.heap.size := by omega
    try have y20b : w.heap.size < w2.heap.size + 1 + 1 := by omega
    try have y20c : w.heap.size + 1 < w2.heap.size + 1 + 1 := by omega
    try have y21 : w1.heap.size < w2.heap.size := by omega
    try have y21a : w1.heap.size + 1 < w2.heap.size := by omega
    try have y21b : w1.heap.size < w2.heap.size + 1 + 1 := by omega
    try have y21c : w1.heap.size + 1 < w2.heap.size + 1 + 1 := by omega
    obtain rfl : n2 = 8 := hn2.trans HLN.out
    clear hn2
    have X2 := Lib.hid hr2
    clear hr2
    have Q2 := Lib.hid (pr_below Q1.out R2.out)
    go_wp2_with fail
    refine (bbS_rd A1 n1 c1 ps R true _ Q2.out (by omega) HR.out HK.out).mono ?_
    rintro e w3 ⟨A3, n3, c3, rfl, hn3, hnc3, hr3, hb⟩
    obtain ⟨hc3, hf3⟩ := bcell hb
    have B3 := Lib.hid (show Below w.heap.size w w3 from (by first | exact below_seq B2.out hb | exact below_seq1 B2.out hb | exact below_seq2 B2.out hb | exact below_seq3 B2.out hb | exact below_seq4 B2.out hb))
    have R3 := Lib.hid hb
    have hz3 := hb.size
    try simp at hz3
    clear hb
    try have y30 : w.heap.size < w3.heap.size := by omega
    try have y30a : w.heap.size + 1 < w3.heap.size := by omega
    try have y30b : w.heap.size < w3.heap.size + 1 + 1 := by omega
    try have y30c : w.heap.size + 1 < w3.heap.size + 1 + 1 := by omega
    try have y31 : w1.heap.size < w3.heap.size := by omega
    try have y31a : w1.heap.size + 1 < w3.heap.size := by omega
    try have y31b : w1.heap.size < w3.heap.size + 1 + 1 := by omega
    try have y31c : w1.heap.size + 1 < w3.heap.size + 1 + 1 := by omega
    try have y32 : w2.heap.size < w3.heap.size := by omega
    try have y32a : w2.heap.size + 1 < w3.heap.size := by omega
    try have y32b : w2.heap.size < w3.heap.size + 1 + 1 := by omega
    try have y32c : w2.heap.size + 1 < w3.heap.size + 1 + 1 := by omega
    obtain rfl : n3 = 8 := hn3.trans HLN.out
    clear hn3
    have X3 := Lib.hid hr3
    clear hr3
    have Q3 := Lib.hid (pr_below Q2.out R3.out)
    have Y2 := Lib.hid (nr_below X2.out R3.out)
    go_wp2_with fail
    refine (tgI_same A2 A3 8 c2 8 c3 R _ Y2.out X3.out (by omega) (by omega)).mono ?_
    rintro e w4 ⟨rfl, hb⟩
    obtain ⟨hc4, hf4⟩ := bcell hb
    have B4 := Lib.hid (show Below w.heap.size w w4 from (by first | exact below_seq B3.out hb | exact below_seq1 B3.out hb | exact below_seq2 B3.out hb | exact below_seq3 B3.out hb | exact below_seq4 B3.out hb))
    have R4 := Lib.hid hb
    have hz4 := hb.size
    try simp at hz4
    clear hb
    try have y40 : w.heap.size < w4.heap.size := by omega
    try have y40a : w.heap.size + 1 < w4.heap.size := by omega
    try have y40b : w.heap.size < w4.heap.size + 1 + 1 := by omega
    try have y40c : w.heap.size + 1 < w4.heap.size + 1 + 1 := by omega
    try have y41 : w1.heap.size < w4.heap.size := by omega
    try have y41a : w1.heap.size + 1 < w4.heap.size := by omega
    try have y41b : w1.heap.size < w4.heap.size + 1 + 1 := by omega
    try have y41c : w1.heap.size + 1 < w4.heap.size + 1 + 1 := by omega
    try have y42 : w2.heap.size < w4.heap.size := by omega
    try have y42a : w2.heap.size + 1 < w4.heap.size := by omega
    try have y42b : w2.heap.size < w4.heap.size + 1 + 1 := by omega
    try have y42c : w2.heap.size + 1 < w4.heap.size + 1 + 1 := by omega
    try have y43 : w3.heap.size < w4.heap.size := by omega
    try have y43a : w3.heap.size + 1 < w4.heap.size := by omega
    try have y43b : w3.heap.size < w4.heap.size + 1 + 1 := by omega
    try have y43c : w3.heap.size + 1 < w4.heap.size + 1 + 1 := by omega
    have Z2 := Lib.hid (nr_below Y2.out R4.out)
    have Q4 := Lib.hid (pr_below Q3.out R4.out)
    go_wp2
    go_loop [8, 9] (fun s i => ∃ k : Nat, k ≤ 8 ∧ i = .int .i64 (k : Int) ∧ s = .int .i64 (sumL (R.take k))) (fun _ i => 8 - (intOf i).toNat)
    case atStart => exact ⟨0, Nat.zero_le _, rfl, rfl⟩
    case round =>
      obtain ⟨k, hk, rfl, rfl⟩ := hrel
      by_cases hlt : k < 8
      · obtain ⟨b, off, x, rfl, hb, hx, c0⟩ := nr_at Z2.out hlt
        have HSU := Lib.hid (sumL_take hx)
        obtain ⟨x0, x1⟩ := HBD.out x (List.mem_of_getElem? hx)
        obtain ⟨s0, s1⟩ := sumL_take_bd HBD.out k (by omega)
        have s2 : sumL (R.take k) ≤ 10000 := by rw [HLN.out] at s1; omega
        have k1 : (k : Int) < 8 := by omega
        clear hx s1
        go_wp2
        go_round
        case rel => exact ⟨k + 1, by omega, by go_num, by rw [HSU.out]⟩
        case measure => simp [intOf]; omega
      · obtain rfl : k = 8 := by omega
        rw [List.take_of_length_le (by rw [HLN.out]; exact Nat.le_refl _), HS.out]
        go_wp2_with fail
        refine (sizeI_any A1 n1 c1 ps _ Q4.out (by omega)).mono ?_
        rintro e w5 ⟨rfl, hb⟩
        obtain ⟨hc5, hf5⟩ := bcell hb
        have B5 := Lib.hid (show Below w.heap.size w w5 from (by first | exact below_seq B4.out hb | exact below_seq1 B4.out hb | exact below_seq2 B4.out hb | exact below_seq3 B4.out hb | exact below_seq4 B4.out hb))
        have R5 := Lib.hid hb
        have hz5 := hb.size
        try simp at hz5
        clear hb
        try have y50 : w.heap.size < w5.heap.size := by omega
        try have y50a : w.heap.size + 1 < w5.heap.size := by omega
        try have y50b : w.heap.size < w5.heap.size + 1 + 1 := by omega
        try have y50c : w.heap.size + 1 < w5.heap.size + 1 + 1 := by omega
        try have y51 : w1.heap.size < w5.heap.size := by omega
        try have y51a : w1.heap.size + 1 < w5.heap.size := by omega
        try have y51b : w1.heap.size < w5.heap.size + 1 + 1 := by omega
        try have y51c : w1.heap.size + 1 < w5.heap.size + 1 + 1 := by omega
        try have y52 : w2.heap.size < w5.heap.size := by omega
        try have y52a : w2.heap.size + 1 < w5.heap.size := by omega
        try have y52b : w2.heap.size < w5.heap.size + 1 + 1 := by omega
        try have y52c : w2.heap.size + 1 < w5.heap.size + 1 + 1 := by omega
        try have y53 : w3.heap.size < w5.heap.size := by omega
        try have y53a : w3.heap.size + 1 < w5.heap.size := by omega
        try have y53b : w3.heap.size < w5.heap.size + 1 + 1 := by omega
        try have y53c : w3.heap.size + 1 < w5.heap.size + 1 + 1 := by omega
        try have y54 : w4.heap.size < w5.heap.size := by omega
        try have y54a : w4.heap.size + 1 < w5.heap.size := by omega
        try have y54b : w4.heap.size < w5.heap.size + 1 + 1 := by omega
        try have y54c : w4.heap.size + 1 < w5.heap.size + 1 + 1 := by omega
        rw [HSZ.out, HO.out]
        go_wp2
        all_goals
          go_ret
          refine ⟨rfl, ?_⟩
          repeat refine below_alloc ?_ _
          exact B5.out
theorem own : ownKnob Try.prog.godebug = none := by kernel_rfl
theorem laidOut : laidOutB Try.prog = true := by kernel_rfl
set_option maxRecDepth 100000 in
theorem lifted (os : Os) (started : os.Started) (H : Type) (enc : TypeId × Value → H) :
    ReturnsInHanded {} Try.checked os 4 .any (Rows.fnBytesByPeerSpec.pre6 enc Try.prog Try.f4 Rows.fnBytesByPeerRow.domain false) (Rows.fnBytesByPeerSpec.post enc Try.prog Try.f4 false true false false) := by
  refine returnsInHanded_of_change (C := Try.checked) own started (by kernel_rfl) Try.func4
    (ChangeSpec.witness6 (enc := enc) (C := Try.checked) false ⟨#[], #[.slice none 0 0], []⟩ 8 (by kernel_rfl) (by kernel_rfl) (by kernel_rfl) (by kernel_rfl)) ?_
  intro W base args ds gs before hval0 hW _ _
  have hval : ∀ (j : Nat) t v, Try.f4.params[j]? = some t → args[j]? = some v → Value.okWide Try.prog W .any base t v := hval0
  have hW' := hW
  obtain ⟨p, q, hA0, hV, rfl, _, _⟩ := hW
  have hA : DataW.TrodAll enc Try.prog W 0 (fun _ => true) true Try.f4.params.toList args.toList ds p := hA0
  rw [Try.params4] at hA hval
  obtain ⟨v0, vs0, d0, ds0, p0, q0, hargs, rfl, rfl, h0, r0⟩ := trodAll_cons hA
  obtain ⟨rfl, rfl, rfl⟩ := trodAll_nil r0
  obtain rfl : args = #[v0] := by cases args; simp_all
  obtain ⟨rfl, rfl⟩ := trodVars_none hV
  have lt0 : ∀ x ∈ p0, x.block < W.heap.size := by obtain ⟨m, hm⟩ := h0; exact DataW.trod_lt m _ _ _ hm
  obtain ⟨a0, n0, c0, rfl⟩ := okWide_slice Try.underlying22 (hval 0 22 v0 rfl rfl)
  have w0 : Bytes W a0 n0 c0 := bytes_open h0
  clear hA0 hval0
  refine (walk a0 n0 c0 W w0).mono fun e W' ⟨he, bel⟩ => ?_
  subst he
  exact ⟨_, rfl, _, _, _, [], _, [], hW', trodAll_mk1 (shut_bool Try.underlying4 _), (trodAll_cons_mk (Below.trod laidOut (by kernel_rfl) (of_decide_eq_true (by kernel_rfl)) h0 bel lt0) trodAll_mk0), rfl, bel.frame _, fun h => by cases h⟩
theorem over : Rows.fnBytesByPeerRow.holds Try.pinned (OpenSpec.ofChange Rows.fnBytesByPeerSpec) :=
  OpenClaim.holds_of_wide 4 Try.f4 rfl rfl rfl rfl rfl rfl rfl ⟨rfl, rfl, rfl, rfl, rfl⟩ rfl rfl rfl rfl rfl (by kernel_rfl) Try.func4 (by unfold joinedFacts; rw [mayEnter, liftsFinal, makeIs]; kernel_rfl)
    (of_decide_eq_true (by kernel_rfl)) (by unfold Func.isWrapper; first | (rw [if_pos (by decide +kernel)]; kernel_rfl) | (rw [if_neg (by decide +kernel)]; exact ⟨rfl, rfl⟩))
    (fun os started H enc _ => lifted os started H enc)
/-- the given statement -/
theorem proved : Rows.FnBytesByPeerSaid := over
end Go.Proofs.Ytaccbmgbkalknaa.fnBytesByPeer
