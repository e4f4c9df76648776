/-
  The law FnFreeLimit returns true at every argument: no peer is free to use more than the limit leaves. Conditions: none.
-/
import Derived.Test.YtkbjelchihdajabLift
import Derived.Test.YtkbjelchihdajabAI
import Derived.Test.YtkbjelchihdajabAl
namespace Go.Proofs.Ytkbjelchihdajab.fnFreeLimit
open Go.ChangeShapes Go.WideShapes Go.ChangeAt Go.RowKit

set_option maxHeartbeats 2000000 in
theorem walk (A : Option Addr) (n c : Nat) (w : World) (h : Bytes w A n c) :
    Calls Try.prog 4 #[.slice A n c] w fun e w' => e = .returned (.bool true) ∧ Below w.heap.size w w' := by
  have HB := Lib.hid h
  clear h
  by_cases hbig : ¬ n ≤ 1048576
  · go_enter Try.func4, Try.ntmps4
    go_wp2
    go_ret
    exact ⟨rfl, Below.refl _ _⟩
  have hbig' : n ≤ 1048576 := by omega
  clear hbig
  go_enter Try.func4, Try.ntmps4
  go_wp2_with fail
  refine (drawFreeFor_any A n c _ HB.out).mono ?_
  rintro e w1 ⟨lim, each, A1, n1, c1, us, x, rfl, hn1, hx, ho, hb⟩
  obtain ⟨hc1, hf1⟩ := bcell hb
  have B1 := Lib.hid (show Below w.heap.size w w1 from (by first | exact below_seq (Below.refl w.heap.size w) hb | exact below_seq1 (Below.refl w.heap.size w) hb | exact below_seq2 (Below.refl w.heap.size w) hb | exact below_seq3 (Below.refl w.heap.size w) hb | exact below_seq4 (Below.refl w.heap.size w) hb))
  have R1 := Lib.hid hb
  have hz1 := hb.size
  try simp at hz1
  clear hb
  have Q := Lib.hid (nr_own ho)
  clear ho hx
  rcases hk : frOk lim each us x with _ | _
  · have HK := Lib.hid hk
    clear hk
    go_wp2_with fail
    refine (freeI_no lim each A1 n1 c1 us x _ (by first | with_reducible exact Q.out | with_reducible exact nr_alloc Q.out _ | with_reducible exact nr_alloc (nr_alloc Q.out _) _ | with_reducible exact nr_alloc (nr_alloc (nr_alloc Q.out _) _) _) (by omega) HK.out).mono ?_
    rintro e w2 ⟨rfl, hb⟩
    obtain ⟨hc2, hf2⟩ := bcell hb
    have B2 := Lib.hid (show Below w.heap.size w w2 from (by first | exact below_seq B1.out hb | exact below_seq1 B1.out hb | exact below_seq2 B1.out hb | exact below_seq3 B1.out hb | exact below_seq4 B1.out hb))
    have R2 := Lib.hid hb
    have hz2 := hb.size
    try simp at hz2
    clear hb
    try have y20 : w.heap.size < w2.heap.size := by omega
    try have y20a : w.heap.size + 1 < w2.heap.size := by omega
    try have y20b : w.heap.size < w2.heap.size + 1 + 1 := by omega
    try have y20c : w.heap.size + 1 < w2.heap.size + 1 + 1 := by omega
    try have y21 : w1.heap.size < w2.heap.size := by omega
    try have y21a : w1.heap.size + 1 < w2.heap.size := by omega
    try have y21b : w1.heap.size < w2.heap.size + 1 + 1 := by omega
    try have y21c : w1.heap.size + 1 < w2.heap.size + 1 + 1 := by omega
    replace Q := Lib.hid (show NR w2 _ _ _ from (by first | with_reducible exact nr_below Q.out R2.out | with_reducible exact nr_below (nr_alloc Q.out _) R2.out | with_reducible exact nr_below (nr_alloc (nr_alloc Q.out _) _) R2.out | with_reducible exact nr_below (nr_alloc (nr_alloc (nr_alloc Q.out _) _) _) R2.out))
    go_wp2_with fail
    refine (freeS_no lim each A1 n1 c1 us x _ (by first | with_reducible exact Q.out | with_reducible exact nr_alloc Q.out _ | with_reducible exact nr_alloc (nr_alloc Q.out _) _ | with_reducible exact nr_alloc (nr_alloc (nr_alloc Q.out _) _) _) (by omega) HK.out).mono ?_
    rintro e w3 ⟨rfl, hb⟩
    obtain ⟨hc3, hf3⟩ := bcell hb
    have B3 := Lib.hid (show Below w.heap.size w w3 from (by first | exact below_seq B2.out hb | exact below_seq1 B2.out hb | exact below_seq2 B2.out hb | exact below_seq3 B2.out hb | exact below_seq4 B2.out hb))
    have R3 := Lib.hid hb
    have hz3 := hb.size
    try simp at hz3
    clear hb
    try have y30 : w.heap.size < w3.heap.size := by omega
    try have y30a : w.heap.size + 1 < w3.heap.size := by omega
    try have y30b : w.heap.size < w3.heap.size + 1 + 1 := by omega
    try have y30c : w.heap.size + 1 < w3.heap.size + 1 + 1 := by omega
    try have y31 : w1.heap.size < w3.heap.size := by omega
    try have y31a : w1.heap.size + 1 < w3.heap.size := by omega
    try have y31b : w1.heap.size < w3.heap.size + 1 + 1 := by omega
    try have y31c : w1.heap.size + 1 < w3.heap.size + 1 + 1 := by omega
    try have y32 : w2.heap.size < w3.heap.size := by omega
    try have y32a : w2.heap.size + 1 < w3.heap.size := by omega
    try have y32b : w2.heap.size < w3.heap.size + 1 + 1 := by omega
    try have y32c : w2.heap.size + 1 < w3.heap.size + 1 + 1 := by omega
    go_wp2
    all_goals
      go_ret
      refine ⟨rfl, ?_⟩
      repeat refine below_alloc ?_ _
      exact B3.out
  · obtain ⟨hq, hxp⟩ := frOk_of hk
    obtain ⟨k, rfl, hk8⟩ := k_of hxp
    obtain ⟨u, hu⟩ := ac_at hq hk8
    obtain ⟨a1, a2, a3, a4, a5, a6⟩ := ac_of hq
    obtain ⟨u0, u1, u2⟩ := ac_get hq hu
    obtain ⟨f1, f2, f3⟩ := free_le (lim := lim) (each := each) (u := u) (us := us)
    have hf0 := free_nonneg hq hu
    have n8 : n1 = 8 := by have := Q.out.1; omega
    subst n8
    have HQ := Lib.hid hq
    have HU := Lib.hid hu
    have HP := Lib.hid hxp
    have HL := Lib.hid a4
    have HB := Lib.hid (show ∀ y ∈ us, 0 ≤ y ∧ y ≤ 5000 from fun y hy => by have := a1 y hy; omega)
    obtain ⟨f, hf⟩ : ∃ f, freeN lim each us u = f := ⟨_, rfl⟩
    rw [hf] at f1 f2 f3 hf0
    have HF := Lib.hid hf
    obtain ⟨S, hS⟩ : ∃ S, sumL us = S := ⟨_, rfl⟩
    rw [hS] at f2 f3 a5 a6
    have HS := Lib.hid hS
    have HT := Lib.hid f3
    clear hk hq hu hxp a1 a4 a6 hf hS f3
    go_wp2_with fail
    refine (freeI_yes lim each A1 8 c1 us k u _ (by first | with_reducible exact Q.out | with_reducible exact nr_alloc Q.out _ | with_reducible exact nr_alloc (nr_alloc Q.out _) _ | with_reducible exact nr_alloc (nr_alloc (nr_alloc Q.out _) _) _) HQ.out HP.out HU.out).mono ?_
    rintro e w2 ⟨rfl, hb⟩
    obtain ⟨hc2, hf2⟩ := bcell hb
    have B2 := Lib.hid (show Below w.heap.size w w2 from (by first | exact below_seq B1.out hb | exact below_seq1 B1.out hb | exact below_seq2 B1.out hb | exact below_seq3 B1.out hb | exact below_seq4 B1.out hb))
    have R2 := Lib.hid hb
    have hz2 := hb.size
    try simp at hz2
    clear hb
    try have y20 : w.heap.size < w2.heap.size := by omega
    try have y20a : w.heap.size + 1 < w2.heap.size := by omega
    try have y20b : w.heap.size < w2.heap.size + 1 + 1 := by omega
    try have y20c : w.heap.size + 1 < w2.heap.size + 1 + 1 := by omega
    try have y21 : w1.heap.size < w2.heap.size := by omega
    try have y21a : w1.heap.size + 1 < w2.heap.size := by omega
    try have y21b : w1.heap.size < w2.heap.size + 1 + 1 := by omega
    try have y21c : w1.heap.size + 1 < w2.heap.size + 1 + 1 := by omega
    rw [HF.out]
    replace Q := Lib.hid (show NR w2 _ _ _ from (by first | with_reducible exact nr_below Q.out R2.out | with_reducible exact nr_below (nr_alloc Q.out _) R2.out | with_reducible exact nr_below (nr_alloc (nr_alloc Q.out _) _) R2.out | with_reducible exact nr_below (nr_alloc (nr_alloc (nr_alloc Q.out _) _) _) R2.out))
    go_wp2_with fail
    refine (freeS_yes lim each A1 8 c1 us k u _ (by first | with_reducible exact Q.out | with_reducible exact nr_alloc Q.out _ | with_reducible exact nr_alloc (nr_alloc Q.out _) _ | with_reducible exact nr_alloc (nr_alloc (nr_alloc Q.out _) _) _) HQ.out HP.out HU.out).mono ?_
    rintro e w3 ⟨rfl, hb⟩
    obtain ⟨hc3, hf3⟩ := bcell hb
    have B3 := Lib.hid (show Below w.heap.size w w3 from (by first | exact below_seq B2.out hb | exact below_seq1 B2.out hb | exact below_seq2 B2.out hb | exact below_seq3 B2.out hb | exact below_seq4 B2.out hb))
    have R3 := Lib.hid hb
    have hz3 := hb.size
    try simp at hz3
    clear hb
    try have y30 : w.heap.size < w3.heap.size := by omega
    try have y30a : w.heap.size + 1 < w3.heap.size := by omega
    try have y30b : w.heap.size < w3.heap.size + 1 + 1 := by omega
    try have y30c : w.heap.size + 1 < w3.heap.size + 1 + 1 := by omega
    try have y31 : w1.heap.size < w3.heap.size := by omega
    try have y31a : w1.heap.size + 1 < w3.heap.size := by omega
    try have y31b : w1.heap.size < w3.heap.size + 1 + 1 := by omega
    try have y31c : w1.heap.size + 1 < w3.heap.size + 1 + 1 := by omega
    try have y32 : w2.heap.size < w3.heap.size := by omega
    try have y32a : w2.heap.size + 1 < w3.heap.size := by omega
    try have y32b : w2.heap.size < w3.heap.size + 1 + 1 := by omega
    try have y32c : w2.heap.size + 1 < w3.heap.size + 1 + 1 := by omega
    rw [HF.out]
    replace Q := Lib.hid (show NR w3 _ _ _ from (by first | with_reducible exact nr_below Q.out R3.out | with_reducible exact nr_below (nr_alloc Q.out _) R3.out | with_reducible exact nr_below (nr_alloc (nr_alloc Q.out _) _) R3.out | with_reducible exact nr_below (nr_alloc (nr_alloc (nr_alloc Q.out _) _) _) R3.out))
    go_wp2_with fail
    go_loop [9, 10] (fun s i => ∃ j : Nat, j ≤ 8 ∧ i = .int .i64 (j : Int) ∧ s = .int .i64 (sumL (us.take j))) (fun _ i => 8 - (intOf i).toNat)
    case atStart => exact ⟨0, Nat.zero_le _, rfl, rfl⟩
    case round =>
      obtain ⟨j, hj, rfl, rfl⟩ := hrel
      by_cases hlt : j < 8
      · obtain ⟨b, off, y, rfl, hb, hy, c0⟩ := nr_at Q.out hlt
        have HX := Lib.hid (sumL_take hy)
        obtain ⟨x0, x1⟩ := HB.out y (List.mem_of_getElem? hy)
        obtain ⟨s0, s1⟩ := sumL_take_bd HB.out j (by omega)
        have s2 : sumL (us.take j) ≤ 40000 := by have := HL.out; omega
        clear hy s1
        go_wp2
        go_round
        case rel => exact ⟨j + 1, by omega, by go_num, by rw [HX.out]⟩
        case measure => simp [intOf]; omega
      · obtain rfl : j = 8 := by omega
        have HS8 : Hid (sumL (us.take 8) = S) := Lib.hid (by rw [List.take_of_length_le (by have := HL.out; omega)]; exact HS.out)
        rw [HS8.out]
        obtain ⟨b, off, y, rfl, hb, hy, c0⟩ := nr_at Q.out hk8
        obtain rfl : y = u := by have h1 := HU.out; rw [hy] at h1; exact Option.some.inj h1
        clear hy
        have d1 : decide (f ≤ lim - S) = true := by simp; omega
        have d2 : decide (f ≤ each - y) = true := by simp; omega
        have hS0 : 0 ≤ S := by have := (sumL_bd HB.out).1; have := HS.out; omega
        by_cases he : f = lim - S
        · have e1 : (f == lim - S) = true := by simp [he]
          clear he
          go_upto_region 13 with fail
          go_quiet (fail)
          go_wp2
          go_ret
          exact ⟨ret_bool (by simp), below_drewN B3.out _⟩
        · have e1 : (f == lim - S) = false := by simp [he]
          have e2 : (f == each - y) = true := by have := HT.out; simp; omega
          clear he
          go_upto_region 13 with fail
          go_quiet (fail)
          go_wp2
          go_ret
          exact ⟨ret_bool (by simp), below_drewN B3.out _⟩
theorem own : ownKnob Try.prog.godebug = none := by kernel_rfl
theorem laidOut : laidOutB Try.prog = true := by kernel_rfl
set_option maxRecDepth 100000 in
theorem lifted (os : Os) (started : os.Started) (H : Type) (enc : TypeId × Value → H) :
    ReturnsInHanded {} Try.checked os 4 .any (Rows.fnFreeLimitSpec.pre6 enc Try.prog Try.f4 Rows.fnFreeLimitRow.domain false) (Rows.fnFreeLimitSpec.post enc Try.prog Try.f4 false true false false) := by
  refine returnsInHanded_of_change (C := Try.checked) own started (by kernel_rfl) Try.func4
    (ChangeSpec.witness6 (enc := enc) (C := Try.checked) false ⟨#[], #[.slice none 0 0], []⟩ 8 (by kernel_rfl) (by kernel_rfl) (by kernel_rfl) (by kernel_rfl)) ?_
  intro W base args ds gs before hval0 hW _ _
  have hval : ∀ (j : Nat) t v, Try.f4.params[j]? = some t → args[j]? = some v → Value.okWide Try.prog W .any base t v := hval0
  have hW' := hW
  obtain ⟨p, q, hA0, hV, rfl, _, _⟩ := hW
  have hA : DataW.TrodAll enc Try.prog W 0 (fun _ => true) true Try.f4.params.toList args.toList ds p := hA0
  rw [Try.params4] at hA hval
  obtain ⟨v0, vs0, d0, ds0, p0, q0, hargs, rfl, rfl, h0, r0⟩ := trodAll_cons hA
  obtain ⟨rfl, rfl, rfl⟩ := trodAll_nil r0
  obtain rfl : args = #[v0] := by cases args; simp_all
  obtain ⟨rfl, rfl⟩ := trodVars_none hV
  have lt0 : ∀ x ∈ p0, x.block < W.heap.size := by obtain ⟨m, hm⟩ := h0; exact DataW.trod_lt m _ _ _ hm
  obtain ⟨a0, n0, c0, rfl⟩ := okWide_slice Try.underlying22 (hval 0 22 v0 rfl rfl)
  have w0 : Bytes W a0 n0 c0 := bytes_open h0
  clear hA0 hval0
  refine (walk a0 n0 c0 W w0).mono fun e W' ⟨he, bel⟩ => ?_
  subst he
  exact ⟨_, rfl, _, _, _, [], _, [], hW', trodAll_mk1 (shut_bool Try.underlying4 _), (trodAll_cons_mk (Below.trod laidOut (by kernel_rfl) (of_decide_eq_true (by kernel_rfl)) h0 bel lt0) trodAll_mk0), rfl, bel.frame _, fun h => by cases h⟩
theorem over : Rows.fnFreeLimitRow.holds Try.pinned (OpenSpec.ofChange Rows.fnFreeLimitSpec) :=
  OpenClaim.holds_of_wide 4 Try.f4 rfl rfl rfl rfl rfl rfl rfl ⟨rfl, rfl, rfl, rfl, rfl⟩ rfl rfl rfl rfl rfl (by kernel_rfl) Try.func4 (by kernel_rfl)
    (of_decide_eq_true (by kernel_rfl)) (by unfold Func.isWrapper; first | (rw [if_pos (by decide +kernel)]; kernel_rfl) | (rw [if_neg (by decide +kernel)]; exact ⟨rfl, rfl⟩))
    (fun os started H enc _ => lifted os started H enc)
/-- the given statement -/
theorem proved : Rows.FnFreeLimitSaid := over
end Go.Proofs.Ytkbjelchihdajab.fnFreeLimit
