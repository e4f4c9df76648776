/-
  The law FnRobinValid returns true at every argument: the flows of a valid robin are what their peers wait for. Conditions: none.
-/
import Derived.Test.YtgpkhimgkemjhaaLift
import Derived.Test.YtgpkhimgkemjhaaRDr
import Derived.Test.YtgpkhimgkemjhaaC1c
namespace Go.Proofs.Ytgpkhimgkemjhaa.fnRobinValid
open Go.ChangeShapes Go.WideShapes Go.ChangeAt Go.RowKit

def RvRel (w : World) (A : Option Addr) (n : Nat) (fs : List Flw) (i : Value) (wr : World) : Prop :=
  ∃ k : Nat, k ≤ n ∧ i = .int .i64 (k : Int) ∧ FR wr A n fs ∧ Below w.heap.size w wr
set_option maxHeartbeats 4000000 in
theorem walk (A : Option Addr) (n c : Nat) (w : World) (h : Bytes w A n c) :
    Calls Try.prog 10 #[.slice A n c] w fun e w' => e = .returned (.bool true) ∧ Below w.heap.size w w' := by
  have HB := Lib.hid h
  clear h
  by_cases hbig : ¬ n ≤ 1048576
  · go_enter Try.func10, Try.ntmps10
    go_wp2
    go_ret
    exact ⟨rfl, Below.refl _ _⟩
  have hbig' : n ≤ 1048576 := by omega
  clear hbig
  go_enter Try.func10, Try.ntmps10
  go_wp2_with fail
  refine (drawRobinValid_any A n c _ HB.out).mono ?_
  rintro e w1 ⟨x1, A1, n1, c1, fs, rfl, -, hf, hb⟩
  obtain ⟨hc1, hf1⟩ := bcell hb
  have B1 := Lib.hid (show Below w.heap.size w w1 from (by first | exact below_seq (Below.refl w.heap.size w) hb | exact below_seq1 (Below.refl w.heap.size w) hb | exact below_seq2 (Below.refl w.heap.size w) hb | exact below_seq3 (Below.refl w.heap.size w) hb | exact below_seq4 (Below.refl w.heap.size w) hb))
  have R1 := Lib.hid hb
  have hz1 := hb.size
  try simp at hz1
  clear hb
  have H := Lib.hid (frx_fr hf)
  clear hf
  rcases hv : rvB x1 fs with _ | _
  · have HV := Lib.hid hv
    clear hv
    go_wp2_with fail
    refine (rvI_any x1 A1 n1 c1 fs _ (by first | with_reducible exact H.out | with_reducible exact fr_allocF H.out _ | with_reducible exact fr_allocF (fr_allocF H.out _) _ | with_reducible exact fr_allocF (fr_allocF (fr_allocF H.out _) _) _)).mono ?_
    rintro e w2 ⟨rfl, hb⟩
    obtain ⟨hc2, hf2⟩ := bcell hb
    have B2 := Lib.hid (show Below w.heap.size w w2 from (by first | exact below_seq B1.out hb | exact below_seq1 B1.out hb | exact below_seq2 B1.out hb | exact below_seq3 B1.out hb | exact below_seq4 B1.out hb))
    have R2 := Lib.hid hb
    have hz2 := hb.size
    try simp at hz2
    clear hb
    try have y20 : w.heap.size < w2.heap.size := by omega
    try have y20a : w.heap.size + 1 < w2.heap.size := by omega
    try have y20b : w.heap.size < w2.heap.size + 1 + 1 := by omega
    try have y20c : w.heap.size + 1 < w2.heap.size + 1 + 1 := by omega
    try have y21 : w1.heap.size < w2.heap.size := by omega
    try have y21a : w1.heap.size + 1 < w2.heap.size := by omega
    try have y21b : w1.heap.size < w2.heap.size + 1 + 1 := by omega
    try have y21c : w1.heap.size + 1 < w2.heap.size + 1 + 1 := by omega
    rw [HV.out]
    replace H := Lib.hid (show FR w2 _ _ _ from (by first | with_reducible exact fr_belowF H.out R2.out | with_reducible exact fr_belowF (fr_allocF H.out _) R2.out | with_reducible exact fr_belowF (fr_allocF (fr_allocF H.out _) _) R2.out | with_reducible exact fr_belowF (fr_allocF (fr_allocF (fr_allocF H.out _) _) _) R2.out))
    go_wp2_with fail
    refine (rvS_any x1 A1 n1 c1 fs _ (by first | with_reducible exact H.out | with_reducible exact fr_allocF H.out _ | with_reducible exact fr_allocF (fr_allocF H.out _) _ | with_reducible exact fr_allocF (fr_allocF (fr_allocF H.out _) _) _)).mono ?_
    rintro e w3 ⟨rfl, hb⟩
    obtain ⟨hc3, hf3⟩ := bcell hb
    have B3 := Lib.hid (show Below w.heap.size w w3 from (by first | exact below_seq B2.out hb | exact below_seq1 B2.out hb | exact below_seq2 B2.out hb | exact below_seq3 B2.out hb | exact below_seq4 B2.out hb))
    have R3 := Lib.hid hb
    have hz3 := hb.size
    try simp at hz3
    clear hb
    try have y30 : w.heap.size < w3.heap.size := by omega
    try have y30a : w.heap.size + 1 < w3.heap.size := by omega
    try have y30b : w.heap.size < w3.heap.size + 1 + 1 := by omega
    try have y30c : w.heap.size + 1 < w3.heap.size + 1 + 1 := by omega
    try have y31 : w1.heap.size < w3.heap.size := by omega
    try have y31a : w1.heap.size + 1 < w3.heap.size := by omega
    try have y31b : w1.heap.size < w3.heap.size + 1 + 1 := by omega
    try have y31c : w1.heap.size + 1 < w3.heap.size + 1 + 1 := by omega
    try have y32 : w2.heap.size < w3.heap.size := by omega
    try have y32a : w2.heap.size + 1 < w3.heap.size := by omega
    try have y32b : w2.heap.size < w3.heap.size + 1 + 1 := by omega
    try have y32c : w2.heap.size + 1 < w3.heap.size + 1 + 1 := by omega
    rw [HV.out]
    replace H := Lib.hid (show FR w3 _ _ _ from (by first | with_reducible exact fr_belowF H.out R3.out | with_reducible exact fr_belowF (fr_allocF H.out _) R3.out | with_reducible exact fr_belowF (fr_allocF (fr_allocF H.out _) _) R3.out | with_reducible exact fr_belowF (fr_allocF (fr_allocF (fr_allocF H.out _) _) _) R3.out))
    go_wp2_with fail
    refine (rvS_any x1 A1 n1 c1 fs _ (by first | with_reducible exact H.out | with_reducible exact fr_allocF H.out _ | with_reducible exact fr_allocF (fr_allocF H.out _) _ | with_reducible exact fr_allocF (fr_allocF (fr_allocF H.out _) _) _)).mono ?_
    rintro e w4 ⟨rfl, hb⟩
    obtain ⟨hc4, hf4⟩ := bcell hb
    have B4 := Lib.hid (show Below w.heap.size w w4 from (by first | exact below_seq B3.out hb | exact below_seq1 B3.out hb | exact below_seq2 B3.out hb | exact below_seq3 B3.out hb | exact below_seq4 B3.out hb))
    have R4 := Lib.hid hb
    have hz4 := hb.size
    try simp at hz4
    clear hb
    try have y40 : w.heap.size < w4.heap.size := by omega
    try have y40a : w.heap.size + 1 < w4.heap.size := by omega
    try have y40b : w.heap.size < w4.heap.size + 1 + 1 := by omega
    try have y40c : w.heap.size + 1 < w4.heap.size + 1 + 1 := by omega
    try have y41 : w1.heap.size < w4.heap.size := by omega
    try have y41a : w1.heap.size + 1 < w4.heap.size := by omega
    try have y41b : w1.heap.size < w4.heap.size + 1 + 1 := by omega
    try have y41c : w1.heap.size + 1 < w4.heap.size + 1 + 1 := by omega
    try have y42 : w2.heap.size < w4.heap.size := by omega
    try have y42a : w2.heap.size + 1 < w4.heap.size := by omega
    try have y42b : w2.heap.size < w4.heap.size + 1 + 1 := by omega
    try have y42c : w2.heap.size + 1 < w4.heap.size + 1 + 1 := by omega
    try have y43 : w3.heap.size < w4.heap.size := by omega
    try have y43a : w3.heap.size + 1 < w4.heap.size := by omega
    try have y43b : w3.heap.size < w4.heap.size + 1 + 1 := by omega
    try have y43c : w3.heap.size + 1 < w4.heap.size + 1 + 1 := by omega
    rw [HV.out]
    go_wp2
    all_goals
      go_ret
      refine ⟨rfl, ?_⟩
      repeat refine below_alloc ?_ _
      exact B4.out
  · have HV := Lib.hid hv
    have RVh := Lib.hid (rv_iff.1 hv)
    clear hv
    go_wp2_with fail
    refine (rvI_any x1 A1 n1 c1 fs _ (by first | with_reducible exact H.out | with_reducible exact fr_allocF H.out _ | with_reducible exact fr_allocF (fr_allocF H.out _) _ | with_reducible exact fr_allocF (fr_allocF (fr_allocF H.out _) _) _)).mono ?_
    rintro e w2 ⟨rfl, hb⟩
    obtain ⟨hc2, hf2⟩ := bcell hb
    have B2 := Lib.hid (show Below w.heap.size w w2 from (by first | exact below_seq B1.out hb | exact below_seq1 B1.out hb | exact below_seq2 B1.out hb | exact below_seq3 B1.out hb | exact below_seq4 B1.out hb))
    have R2 := Lib.hid hb
    have hz2 := hb.size
    try simp at hz2
    clear hb
    try have y20 : w.heap.size < w2.heap.size := by omega
    try have y20a : w.heap.size + 1 < w2.heap.size := by omega
    try have y20b : w.heap.size < w2.heap.size + 1 + 1 := by omega
    try have y20c : w.heap.size + 1 < w2.heap.size + 1 + 1 := by omega
    try have y21 : w1.heap.size < w2.heap.size := by omega
    try have y21a : w1.heap.size + 1 < w2.heap.size := by omega
    try have y21b : w1.heap.size < w2.heap.size + 1 + 1 := by omega
    try have y21c : w1.heap.size + 1 < w2.heap.size + 1 + 1 := by omega
    rw [HV.out]
    replace H := Lib.hid (show FR w2 _ _ _ from (by first | with_reducible exact fr_belowF H.out R2.out | with_reducible exact fr_belowF (fr_allocF H.out _) R2.out | with_reducible exact fr_belowF (fr_allocF (fr_allocF H.out _) _) R2.out | with_reducible exact fr_belowF (fr_allocF (fr_allocF (fr_allocF H.out _) _) _) R2.out))
    go_wp2_with fail
    refine (rvS_any x1 A1 n1 c1 fs _ (by first | with_reducible exact H.out | with_reducible exact fr_allocF H.out _ | with_reducible exact fr_allocF (fr_allocF H.out _) _ | with_reducible exact fr_allocF (fr_allocF (fr_allocF H.out _) _) _)).mono ?_
    rintro e w3 ⟨rfl, hb⟩
    obtain ⟨hc3, hf3⟩ := bcell hb
    have B3 := Lib.hid (show Below w.heap.size w w3 from (by first | exact below_seq B2.out hb | exact below_seq1 B2.out hb | exact below_seq2 B2.out hb | exact below_seq3 B2.out hb | exact below_seq4 B2.out hb))
    have R3 := Lib.hid hb
    have hz3 := hb.size
    try simp at hz3
    clear hb
    try have y30 : w.heap.size < w3.heap.size := by omega
    try have y30a : w.heap.size + 1 < w3.heap.size := by omega
    try have y30b : w.heap.size < w3.heap.size + 1 + 1 := by omega
    try have y30c : w.heap.size + 1 < w3.heap.size + 1 + 1 := by omega
    try have y31 : w1.heap.size < w3.heap.size := by omega
    try have y31a : w1.heap.size + 1 < w3.heap.size := by omega
    try have y31b : w1.heap.size < w3.heap.size + 1 + 1 := by omega
    try have y31c : w1.heap.size + 1 < w3.heap.size + 1 + 1 := by omega
    try have y32 : w2.heap.size < w3.heap.size := by omega
    try have y32a : w2.heap.size + 1 < w3.heap.size := by omega
    try have y32b : w2.heap.size < w3.heap.size + 1 + 1 := by omega
    try have y32c : w2.heap.size + 1 < w3.heap.size + 1 + 1 := by omega
    rw [HV.out]
    replace H := Lib.hid (show FR w3 _ _ _ from (by first | with_reducible exact fr_belowF H.out R3.out | with_reducible exact fr_belowF (fr_allocF H.out _) R3.out | with_reducible exact fr_belowF (fr_allocF (fr_allocF H.out _) _) R3.out | with_reducible exact fr_belowF (fr_allocF (fr_allocF (fr_allocF H.out _) _) _) R3.out))
    go_wp2
    go_loopw [5] (fun i wr => RvRel w3 A1 n1 fs i wr) (fun i _ => n1 - (intOf i).toNat)
    case atStart => exact ⟨0, Nat.zero_le _, rfl, H.out, Below.refl _ _⟩
    case round =>
      obtain ⟨k, hk, rfl, hp, hbl⟩ := hrel
      have QR := Lib.hid hp
      have BR := Lib.hid hbl
      obtain ⟨hcr, hfr⟩ := bcell hbl
      have hzr := hbl.size
      have yr1 : w1.heap.size < wr.heap.size := by omega
      have yr2 : w1.heap.size < w3.heap.size := by omega
      have n4 := (fr_lenF hp).2
      clear H hbl
      by_cases hlt : k < n1
      · obtain ⟨b, off, f, A2, n2, c2, rfl, hb0, hf, d0, d1, d2, hpr, hc2, hn2⟩ := fr_cells hp hlt
        have VF1 := RVh.out.all f (List.mem_of_getElem? hf)
        have LV : Hid (LvOk x1 fs f.peer) := Lib.hid ⟨RVh.out, VF1.p0, VF1.p7⟩
        have HWO : Hid (wOf fs f.peer = f.ws) := Lib.hid (w_mem RVh.out.apart (List.mem_of_getElem? hf))
        have hpos : 0 < f.ws.length := VF1.n0
        have h64 : f.ws.length ≤ 64 := (ok_of VF1.ok).1
        have HFk := Lib.hid hf
        have k0 : (0 : Int) ≤ (k : Int) := by omega
        have k1 : (k : Int) < (n1 : Int) := by omega
        have r0 : wr.cell? ⟨w1.heap.size, 0, none⟩ = some (.int .i64 x1) := by go_simp
        have r1 : wr.cell? ⟨w1.heap.size, 1, none⟩ = some (.slice (some ⟨b, off, none⟩) n1 c1) := by go_simp
        clear VF1 hpr hp hf
        go_wp2_with fail
        go_region_with (go_at_call 19; refine (woI_yes x1 _ n1 c1 fs f.peer _ (fr_drewF QR.out) LV.out).mono ?_; rintro e w5 ⟨At, nt, ct, rfl, hnt, ho5, hb5⟩; rw [HWO.out] at hnt ho5; have Q5 := Lib.hid (fr_belowF (fr_drewF QR.out) hb5); have B5 := Lib.hid (below_seq BR.out.drew hb5); have P5 := Lib.hid (pr_own ho5); have hz5 := hb5.size; have HNT := Lib.hid hnt; clear ho5 hb5 hnt)
        all_goals
          obtain ⟨b', off', f', A6, n6, c6, e6, hb6, hf6, d0', d1', d2', hpr6, hc6, hn6⟩ := fr_cells Q5.out hlt
          obtain ⟨rfl, rfl⟩ : b = b' ∧ off = off' := by injection e6 with e6; injection e6 with a1 a2; exact ⟨a1, a2⟩
          obtain rfl : f = f' := Option.some.inj (HFk.out.symm.trans hf6)
          have P6 := Lib.hid hpr6
          have hcB := bcell B5.out
          have yr5 : w1.heap.size < w5.heap.size := by simp at hz5; omega
          have s0 : w5.cell? ⟨w1.heap.size, 0, none⟩ = some (.int .i64 x1) := by rw [hcB.1 _ _ (by omega)]; go_simp
          have s1 : w5.cell? ⟨w1.heap.size, 1, none⟩ = some (.slice (some ⟨b, off, none⟩) n1 c1) := by rw [hcB.1 _ _ (by omega)]; go_simp
          have nt0 : ((nt : Int) == 0) = false := by have := HNT.out; simp; omega
          have nt4 : nt ≤ 64 := by have := HNT.out; omega
          clear e6 hf6 hpr6 d0 d1 d2 hcr hfr hcB
          go_wp2_with fail
          refine (sameI_any At A6 nt ct n6 c6 f.ws f.ws _ P5.out P6.out (by omega) (by omega)).mono ?_
          rintro e w6 ⟨rfl, hb6'⟩
          rw [← same_yes rfl]
          have Q6 := Lib.hid (fr_belowF Q5.out hb6')
          have B6 := Lib.hid (below_seq B5.out hb6')
          clear hb6' Q5 B5 P5 P6
          go_wp2
          go_roundw
          case rel => exact ⟨k + 1, by omega, by go_num, Q6.out, B6.out⟩
          case measure => simp [intOf]; omega
      · obtain rfl : k = n1 := by omega
        have BE := Lib.hid (below_seq B3.out BR.out)
        clear hp
        go_wp2
        go_ret
        exact ⟨rfl, BE.out⟩
theorem own : ownKnob Try.prog.godebug = none := by kernel_rfl
theorem laidOut : laidOutB Try.prog = true := by kernel_rfl
set_option maxRecDepth 100000 in
theorem lifted (os : Os) (started : os.Started) (H : Type) (enc : TypeId × Value → H) :
    ReturnsInHanded {} Try.checked os 10 .any (Rows.fnRobinValidSpec.pre6 enc Try.prog Try.f10 Rows.fnRobinValidRow.domain false) (Rows.fnRobinValidSpec.post enc Try.prog Try.f10 false true false false) := by
  refine returnsInHanded_of_change (C := Try.checked) own started (by kernel_rfl) Try.func10
    (ChangeSpec.witness6 (enc := enc) (C := Try.checked) false ⟨#[], #[.slice none 0 0], []⟩ 8 (by kernel_rfl) (by kernel_rfl) (by kernel_rfl) (by kernel_rfl)) ?_
  intro W base args ds gs before hval0 hW _ _
  have hval : ∀ (j : Nat) t v, Try.f10.params[j]? = some t → args[j]? = some v → Value.okWide Try.prog W .any base t v := hval0
  have hW' := hW
  obtain ⟨p, q, hA0, hV, rfl, _, _⟩ := hW
  have hA : DataW.TrodAll enc Try.prog W 0 (fun _ => true) true Try.f10.params.toList args.toList ds p := hA0
  rw [Try.params10] at hA hval
  obtain ⟨v0, vs0, d0, ds0, p0, q0, hargs, rfl, rfl, h0, r0⟩ := trodAll_cons hA
  obtain ⟨rfl, rfl, rfl⟩ := trodAll_nil r0
  obtain rfl : args = #[v0] := by cases args; simp_all
  obtain ⟨rfl, rfl⟩ := trodVars_none hV
  have lt0 : ∀ x ∈ p0, x.block < W.heap.size := by obtain ⟨m, hm⟩ := h0; exact DataW.trod_lt m _ _ _ hm
  obtain ⟨a0, n0, c0, rfl⟩ := okWide_slice Try.underlying22 (hval 0 22 v0 rfl rfl)
  have w0 : Bytes W a0 n0 c0 := bytes_open h0
  clear hA0 hval0
  refine (walk a0 n0 c0 W w0).mono fun e W' ⟨he, bel⟩ => ?_
  subst he
  exact ⟨_, rfl, _, _, _, [], _, [], hW', trodAll_mk1 (shut_bool Try.underlying4 _), (trodAll_cons_mk (Below.trod laidOut (by kernel_rfl) (of_decide_eq_true (by kernel_rfl)) h0 bel lt0) trodAll_mk0), rfl, bel.frame _, fun h => by cases h⟩
theorem over : Rows.fnRobinValidRow.holds Try.pinned (OpenSpec.ofChange Rows.fnRobinValidSpec) :=
  OpenClaim.holds_of_wide 10 Try.f10 rfl rfl rfl rfl rfl rfl rfl ⟨rfl, rfl, rfl, rfl, rfl⟩ rfl rfl rfl rfl rfl (by kernel_rfl) Try.func10 (by kernel_rfl)
    (of_decide_eq_true (by kernel_rfl)) (by unfold Func.isWrapper; first | (rw [if_pos (by decide +kernel)]; kernel_rfl) | (rw [if_neg (by decide +kernel)]; exact ⟨rfl, rfl⟩))
    (fun os started H enc _ => lifted os started H enc)
/-- the given statement -/
theorem proved : Rows.FnRobinValidSaid := over
end Go.Proofs.Ytgpkhimgkemjhaa.fnRobinValid
