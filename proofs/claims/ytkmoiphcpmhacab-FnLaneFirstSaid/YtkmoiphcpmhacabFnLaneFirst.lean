/-
  The law FnLaneFirst returns true at every argument: the lane in turn is the first one with packets and credit. Conditions: none.
-/
import Derived.Test.YtkmoiphcpmhacabKb
import Derived.Test.YtkmoiphcpmhacabKy
import Derived.Test.YtkmoiphcpmhacabKw
import Derived.Test.YtkmoiphcpmhacabMay
import Derived.Test.YtkmoiphcpmhacabLifts
import Derived.Test.YtkmoiphcpmhacabMake
namespace Go.Proofs.Ytkmoiphcpmhacab.fnLaneFirst
open Go.ChangeShapes Go.WideShapes Go.ChangeAt Go.RowKit

theorem nl_rd {w w' : World} {l : Ln} {i : Nat} {e : Ending} (hk : NoOk l i) (h : NlPost w l e w') : e = .returned (.tuple #[.int .i64 (i : Int), .bool true]) ∧ Below w.heap.size w w' := by
  refine ⟨?_, h.2⟩
  rcases h.1 with ⟨j, -, hj, rfl⟩ | ⟨hn, -⟩
  · rw [turn_uniq hj hk.2]
  · exact absurd ⟨hk.1, i, hk.2⟩ hn
theorem nl_rdno {w w' : World} {l : Ln} {e : Ending} (hk : ¬ ∃ i, NoOk l i) (h : NlPost w l e w') : e = .returned (.tuple #[.int .i64 0, .bool false]) ∧ Below w.heap.size w w' := by
  refine ⟨?_, h.2⟩
  rcases h.1 with ⟨j, hv, hj, rfl⟩ | ⟨hn, rfl⟩
  · exact absurd ⟨j, hv, hj⟩ hk
  · rfl
def LfOut (w : World) (n : Nat) (i : Value) (wr : World) : Prop := ∃ k : Nat, k ≤ n ∧ i = .int .i64 (k : Int) ∧ Below w.heap.size w wr
set_option maxRecDepth 100000 in
set_option maxHeartbeats 8000000 in
theorem walk (A : Option Addr) (n c : Nat) (w : World) (h : Bytes w A n c) :
    Calls Try.prog 5 #[.slice A n c] w fun e w' => e = .returned (.bool true) ∧ Below w.heap.size w w' := by
  have HB := Lib.hid h
  clear h
  by_cases hbig : ¬ n ≤ 1048576
  · go_enter Try.func5, Try.ntmps5
    go_wp2
    go_ret
    exact ⟨rfl, Below.refl _ _⟩
  have hbig' : n ≤ 1048576 := by omega
  clear hbig
  go_enter Try.func5, Try.ntmps5
  go_wp2_with fail
  refine (drawNextLane_any A n c _ HB.out).mono ?_
  rintro e w1 ⟨A1, n1, c1, J1, d1, C1, f1, l, rfl, hl, hb⟩
  obtain ⟨hc1, hf1⟩ := bcell hb
  have B1 := Lib.hid (show Below w.heap.size w w1 from (by first | exact below_seq (Below.refl w.heap.size w) hb | exact below_seq1 (Below.refl w.heap.size w) hb | exact below_seq2 (Below.refl w.heap.size w) hb | exact below_seq3 (Below.refl w.heap.size w) hb | exact below_seq4 (Below.refl w.heap.size w) hb))
  have R1 := Lib.hid hb
  have hz1 := hb.size
  try simp at hz1
  clear hb
  have H := Lib.hid hl
  clear hl
  by_cases hk : ∃ i, NoOk l i
  · obtain ⟨i, hk⟩ := hk
    have HOK := Lib.hid hk
    have HV := Lib.hid hk.1
    obtain ⟨ri, -, -, hri, hnei, -, -, hRLi, hi4, -⟩ := turn_get hk.1 hk.2
    have hTi : 0 < total ri.fs := by
      rcases Nat.eq_zero_or_pos (total ri.fs) with h | h
      · exact absurd (total_zero hRLi.rv h) hnei
      · exact h
    have HNH := Lib.hid (show ∀ (j : Nat) (r : Rb) (x : Int), j < i → l.rs[j]? = some r → l.cs[j]? = some x → 0 < total r.fs → ¬ 0 < x from fun j r x hj hr hx hT h0 => by
      have hh : Has l true j := ⟨⟨r, hr, fun e => by rw [e] at hT; simp [total] at hT⟩, fun _ => ⟨x, hx, h0⟩⟩
      rcases hk.2 with h | h
      · exact h.2 j hj hh
      · exact h.1 j hh)
    have HRI := Lib.hid hri
    have HTI := Lib.hid hTi
    clear hk hri hnei hRLi hTi
    go_wp2_with fail
    refine ((nlI_any A1 n1 c1 J1 4 d1 C1 4 f1 l _ (by first | with_reducible exact H.out | with_reducible exact lr_alloc H.out _ | with_reducible exact lr_alloc (lr_alloc H.out _) _ | with_reducible exact lr_alloc (lr_alloc (lr_alloc H.out _) _) _)).mono fun _ _ h => nl_rd HOK.out h).mono ?_
    rintro e w2 ⟨rfl, hb⟩
    obtain ⟨hc2, hf2⟩ := bcell hb
    have B2 := Lib.hid (show Below w.heap.size w w2 from (by first | exact below_seq B1.out hb | exact below_seq1 B1.out hb | exact below_seq2 B1.out hb | exact below_seq3 B1.out hb | exact below_seq4 B1.out hb))
    have R2 := Lib.hid hb
    have hz2 := hb.size
    try simp at hz2
    clear hb
    try have y20 : w.heap.size < w2.heap.size := by omega
    try have y20a : w.heap.size + 1 < w2.heap.size := by omega
    try have y20b : w.heap.size < w2.heap.size + 1 + 1 := by omega
    try have y20c : w.heap.size + 1 < w2.heap.size + 1 + 1 := by omega
    try have y21 : w1.heap.size < w2.heap.size := by omega
    try have y21a : w1.heap.size + 1 < w2.heap.size := by omega
    try have y21b : w1.heap.size < w2.heap.size + 1 + 1 := by omega
    try have y21c : w1.heap.size + 1 < w2.heap.size + 1 + 1 := by omega
    replace H := Lib.hid (show LR w2 _ _ _ _ _ _ _ from (by first | with_reducible exact lr_below H.out R2.out | with_reducible exact lr_below (lr_alloc H.out _) R2.out | with_reducible exact lr_below (lr_alloc (lr_alloc H.out _) _) R2.out | with_reducible exact lr_below (lr_alloc (lr_alloc (lr_alloc H.out _) _) _) R2.out))
    go_wp2_with fail
    refine ((nlS_any A1 n1 c1 J1 4 d1 C1 4 f1 l _ (by first | with_reducible exact H.out | with_reducible exact lr_alloc H.out _ | with_reducible exact lr_alloc (lr_alloc H.out _) _ | with_reducible exact lr_alloc (lr_alloc (lr_alloc H.out _) _) _)).mono fun _ _ h => nl_rd HOK.out h).mono ?_
    rintro e w3 ⟨rfl, hb⟩
    obtain ⟨hc3, hf3⟩ := bcell hb
    have B3 := Lib.hid (show Below w.heap.size w w3 from (by first | exact below_seq B2.out hb | exact below_seq1 B2.out hb | exact below_seq2 B2.out hb | exact below_seq3 B2.out hb | exact below_seq4 B2.out hb))
    have R3 := Lib.hid hb
    have hz3 := hb.size
    try simp at hz3
    clear hb
    try have y30 : w.heap.size < w3.heap.size := by omega
    try have y30a : w.heap.size + 1 < w3.heap.size := by omega
    try have y30b : w.heap.size < w3.heap.size + 1 + 1 := by omega
    try have y30c : w.heap.size + 1 < w3.heap.size + 1 + 1 := by omega
    try have y31 : w1.heap.size < w3.heap.size := by omega
    try have y31a : w1.heap.size + 1 < w3.heap.size := by omega
    try have y31b : w1.heap.size < w3.heap.size + 1 + 1 := by omega
    try have y31c : w1.heap.size + 1 < w3.heap.size + 1 + 1 := by omega
    try have y32 : w2.heap.size < w3.heap.size := by omega
    try have y32a : w2.heap.size + 1 < w3.heap.size := by omega
    try have y32b : w2.heap.size < w3.heap.size + 1 + 1 := by omega
    try have y32c : w2.heap.size + 1 < w3.heap.size + 1 + 1 := by omega
    replace H := Lib.hid (show LR w3 _ _ _ _ _ _ _ from (by first | with_reducible exact lr_below H.out R3.out | with_reducible exact lr_below (lr_alloc H.out _) R3.out | with_reducible exact lr_below (lr_alloc (lr_alloc H.out _) _) R3.out | with_reducible exact lr_below (lr_alloc (lr_alloc (lr_alloc H.out _) _) _) R3.out))
    go_wp2_with fail
    refine (ctI_rd A1 n1 c1 J1 4 d1 C1 4 f1 l _ (by first | with_reducible exact H.out | with_reducible exact lr_alloc H.out _ | with_reducible exact lr_alloc (lr_alloc H.out _) _ | with_reducible exact lr_alloc (lr_alloc (lr_alloc H.out _) _) _) HV.out).mono ?_
    rintro e w4 ⟨A4, n4, c4, rfl, hn4, hu, hb⟩
    obtain ⟨hc4, hf4⟩ := bcell hb
    have B4 := Lib.hid (show Below w.heap.size w w4 from (by first | exact below_seq B3.out hb | exact below_seq1 B3.out hb | exact below_seq2 B3.out hb | exact below_seq3 B3.out hb | exact below_seq4 B3.out hb))
    have R4 := Lib.hid hb
    have hz4 := hb.size
    try simp at hz4
    clear hb
    try have y40 : w.heap.size < w4.heap.size := by omega
    try have y40a : w.heap.size + 1 < w4.heap.size := by omega
    try have y40b : w.heap.size < w4.heap.size + 1 + 1 := by omega
    try have y40c : w.heap.size + 1 < w4.heap.size + 1 + 1 := by omega
    try have y41 : w1.heap.size < w4.heap.size := by omega
    try have y41a : w1.heap.size + 1 < w4.heap.size := by omega
    try have y41b : w1.heap.size < w4.heap.size + 1 + 1 := by omega
    try have y41c : w1.heap.size + 1 < w4.heap.size + 1 + 1 := by omega
    try have y42 : w2.heap.size < w4.heap.size := by omega
    try have y42a : w2.heap.size + 1 < w4.heap.size := by omega
    try have y42b : w2.heap.size < w4.heap.size + 1 + 1 := by omega
    try have y42c : w2.heap.size + 1 < w4.heap.size + 1 + 1 := by omega
    try have y43 : w3.heap.size < w4.heap.size := by omega
    try have y43a : w3.heap.size + 1 < w4.heap.size := by omega
    try have y43b : w3.heap.size < w4.heap.size + 1 + 1 := by omega
    try have y43c : w3.heap.size + 1 < w4.heap.size + 1 + 1 := by omega
    obtain rfl : n4 = 4 := by rw [hn4, cnts_len, HV.out.n0]
    have U := Lib.hid hu
    clear hu hn4
    replace H := Lib.hid (show LR w4 _ _ _ _ _ _ _ from (by first | with_reducible exact lr_below H.out R4.out | with_reducible exact lr_below (lr_alloc H.out _) R4.out | with_reducible exact lr_below (lr_alloc (lr_alloc H.out _) _) R4.out | with_reducible exact lr_below (lr_alloc (lr_alloc (lr_alloc H.out _) _) _) R4.out))
    go_wp2_with fail
    go_loopw [10] (fun v wr => LfOut w4 i v wr) (fun v _ => i - (intOf v).toNat)
    case atStart => exact ⟨0, by omega, rfl, Below.refl _ _⟩
    case round =>
      obtain ⟨j, hj4, rfl, hbl⟩ := hrel
      have HBl := Lib.hid hbl
      clear hbl
      obtain ⟨hcx, hfx⟩ := bcell HBl.out
      have hzx := HBl.out.size
      have yx0 : w.heap.size < wr.heap.size := by omega
      have yx1 : w1.heap.size < wr.heap.size := by omega
      try have yx1a : w1.heap.size + 1 < wr.heap.size := by omega
      have k0 : (0 : Int) ≤ (j : Int) := by omega
      by_cases hlt : j < i
      · have hj4' : j < 4 := by omega
        obtain ⟨rj, hrj⟩ := get_of (xs := l.rs) (k := j) (by have := HV.out.n0; omega)
        have hcu := cnts_get hrj
        obtain ⟨b1, o1, x1, rfl, hb1, hv1, c01⟩ := nr_at (nr_below U.out HBl.out) hj4'
        obtain ⟨b2, o2, x2, rfl, hb2, hv2, c02⟩ := nr_at (nr_below H.out.cr HBl.out) hj4'
        obtain rfl : (total rj.fs : Int) = x1 := Option.some.inj (hcu.symm.trans hv1)
        have hnh := HNH.out j rj x2 hlt hrj hv2
        obtain ⟨T1, hT1⟩ : ∃ T1 : Int, T1 = (total rj.fs : Int) := ⟨_, rfl⟩
        have hnh2 : 0 < T1 → ¬ 0 < x2 := fun h => by have := hnh (by omega); omega
        rw [← hT1] at c01
        have k1 : (j : Int) < (4 : Int) := by omega
        have k2 : (j : Int) < (i : Int) := by omega
        clear hcu hv1 hv2 hT1 hrj hnh
        by_cases hT : 0 < T1
        · have dT : decide (0 < T1) = true := by simp [hT]
          have dT2 : decide (T1 > 0) = true := by simp [hT]
          have dx : decide (0 < x2) = false := by have := hnh2 hT; simp; omega
          have dx2 : decide (x2 > 0) = false := by have := hnh2 hT; simp; omega
          clear hT hnh2
          go_wp2
          go_roundw
          case rel => exact ⟨j + 1, by omega, by go_num, HBl.out⟩
          case measure => simp [intOf]; omega
        · have dT : decide (0 < T1) = false := by simp; omega
          have dT2 : decide (T1 > 0) = false := by simp; omega
          clear hT hnh2
          go_wp2
          go_roundw
          case rel => exact ⟨j + 1, by omega, by go_num, HBl.out⟩
          case measure => simp [intOf]; omega
      · obtain rfl : j = i := by omega
        have Bx := Lib.hid (below_seq B4.out HBl.out)
        have hcu := cnts_get HRI.out
        obtain ⟨b1, o1, x1, rfl, hb1, hv1, c01⟩ := nr_at (nr_below U.out HBl.out) hi4
        obtain rfl : (total ri.fs : Int) = x1 := Option.some.inj (hcu.symm.trans hv1)
        obtain ⟨T1, hT1⟩ : ∃ T1 : Int, T1 = (total ri.fs : Int) := ⟨_, rfl⟩
        have hT : 0 < T1 := by have := HTI.out; omega
        rw [← hT1] at c01
        have k1 : (j : Int) < (4 : Int) := by omega
        have dT : decide (0 < T1) = true := by simp [hT]
        have dT2 : decide (T1 > 0) = true := by simp [hT]
        clear hcu hv1 hT1 hT
        go_wp2
        all_goals
          go_ret
          refine ⟨rfl, ?_⟩
          repeat (first | with_reducible refine below_alloc ?_ _ | with_reducible refine Below.drew ?_ | with_reducible refine below_drewN ?_ _)
          exact Bx.out
  · have HK := Lib.hid hk
    clear hk
    go_wp2_with fail
    refine ((nlI_any A1 n1 c1 J1 4 d1 C1 4 f1 l _ (by first | with_reducible exact H.out | with_reducible exact lr_alloc H.out _ | with_reducible exact lr_alloc (lr_alloc H.out _) _ | with_reducible exact lr_alloc (lr_alloc (lr_alloc H.out _) _) _)).mono fun _ _ h => nl_rdno HK.out h).mono ?_
    rintro e w2 ⟨rfl, hb⟩
    obtain ⟨hc2, hf2⟩ := bcell hb
    have B2 := Lib.hid (show Below w.heap.size w w2 from (by first | exact below_seq B1.out hb | exact below_seq1 B1.out hb | exact below_seq2 B1.out hb | exact below_seq3 B1.out hb | exact below_seq4 B1.out hb))
    have R2 := Lib.hid hb
    have hz2 := hb.size
    try simp at hz2
    clear hb
    try have y20 : w.heap.size < w2.heap.size := by omega
    try have y20a : w.heap.size + 1 < w2.heap.size := by omega
    try have y20b : w.heap.size < w2.heap.size + 1 + 1 := by omega
    try have y20c : w.heap.size + 1 < w2.heap.size + 1 + 1 := by omega
    try have y21 : w1.heap.size < w2.heap.size := by omega
    try have y21a : w1.heap.size + 1 < w2.heap.size := by omega
    try have y21b : w1.heap.size < w2.heap.size + 1 + 1 := by omega
    try have y21c : w1.heap.size + 1 < w2.heap.size + 1 + 1 := by omega
    replace H := Lib.hid (show LR w2 _ _ _ _ _ _ _ from (by first | with_reducible exact lr_below H.out R2.out | with_reducible exact lr_below (lr_alloc H.out _) R2.out | with_reducible exact lr_below (lr_alloc (lr_alloc H.out _) _) R2.out | with_reducible exact lr_below (lr_alloc (lr_alloc (lr_alloc H.out _) _) _) R2.out))
    go_wp2_with fail
    refine ((nlS_any A1 n1 c1 J1 4 d1 C1 4 f1 l _ (by first | with_reducible exact H.out | with_reducible exact lr_alloc H.out _ | with_reducible exact lr_alloc (lr_alloc H.out _) _ | with_reducible exact lr_alloc (lr_alloc (lr_alloc H.out _) _) _)).mono fun _ _ h => nl_rdno HK.out h).mono ?_
    rintro e w3 ⟨rfl, hb⟩
    obtain ⟨hc3, hf3⟩ := bcell hb
    have B3 := Lib.hid (show Below w.heap.size w w3 from (by first | exact below_seq B2.out hb | exact below_seq1 B2.out hb | exact below_seq2 B2.out hb | exact below_seq3 B2.out hb | exact below_seq4 B2.out hb))
    have R3 := Lib.hid hb
    have hz3 := hb.size
    try simp at hz3
    clear hb
    try have y30 : w.heap.size < w3.heap.size := by omega
    try have y30a : w.heap.size + 1 < w3.heap.size := by omega
    try have y30b : w.heap.size < w3.heap.size + 1 + 1 := by omega
    try have y30c : w.heap.size + 1 < w3.heap.size + 1 + 1 := by omega
    try have y31 : w1.heap.size < w3.heap.size := by omega
    try have y31a : w1.heap.size + 1 < w3.heap.size := by omega
    try have y31b : w1.heap.size < w3.heap.size + 1 + 1 := by omega
    try have y31c : w1.heap.size + 1 < w3.heap.size + 1 + 1 := by omega
    try have y32 : w2.heap.size < w3.heap.size := by omega
    try have y32a : w2.heap.size + 1 < w3.heap.size := by omega
    try have y32b : w2.heap.size < w3.heap.size + 1 + 1 := by omega
    try have y32c : w2.heap.size + 1 < w3.heap.size + 1 + 1 := by omega
    go_wp2
    all_goals
      go_ret
      refine ⟨rfl, ?_⟩
      repeat refine below_alloc ?_ _
      exact B3.out
theorem own : ownKnob Try.prog.godebug = none := by kernel_rfl
theorem laidOut : laidOutB Try.prog = true := by kernel_rfl
set_option maxRecDepth 100000 in
theorem lifted (os : Os) (started : os.Started) (H : Type) (enc : TypeId × Value → H) :
    ReturnsInHanded {} Try.checked os 5 .any (Rows.fnLaneFirstSpec.pre6 enc Try.prog Try.f5 Rows.fnLaneFirstRow.domain false) (Rows.fnLaneFirstSpec.post enc Try.prog Try.f5 false true false false) := by
  refine returnsInHanded_of_change (C := Try.checked) own started (by kernel_rfl) Try.func5
    (ChangeSpec.witness6 (enc := enc) (C := Try.checked) false ⟨#[], #[.slice none 0 0], []⟩ 8 (by kernel_rfl) (by kernel_rfl) (by kernel_rfl) (by kernel_rfl)) ?_
  intro W base args ds gs before hval0 hW _ _
  have hval : ∀ (j : Nat) t v, Try.f5.params[j]? = some t → args[j]? = some v → Value.okWide Try.prog W .any base t v := hval0
  have hW' := hW
  obtain ⟨p, q, hA0, hV, rfl, _, _⟩ := hW
  have hA : DataW.TrodAll enc Try.prog W 0 (fun _ => true) true Try.f5.params.toList args.toList ds p := hA0
  rw [Try.params5] at hA hval
  obtain ⟨v0, vs0, d0, ds0, p0, q0, hargs, rfl, rfl, h0, r0⟩ := trodAll_cons hA
  obtain ⟨rfl, rfl, rfl⟩ := trodAll_nil r0
  obtain rfl : args = #[v0] := by cases args; simp_all
  obtain ⟨rfl, rfl⟩ := trodVars_none hV
  have lt0 : ∀ x ∈ p0, x.block < W.heap.size := by obtain ⟨m, hm⟩ := h0; exact DataW.trod_lt m _ _ _ hm
  obtain ⟨a0, n0, c0, rfl⟩ := okWide_slice Try.underlying22 (hval 0 22 v0 rfl rfl)
  have w0 : Bytes W a0 n0 c0 := bytes_open h0
  clear hA0 hval0
  refine (walk a0 n0 c0 W w0).mono fun e W' ⟨he, bel⟩ => ?_
  subst he
  exact ⟨_, rfl, _, _, _, [], _, [], hW', trodAll_mk1 (shut_bool Try.underlying4 _), (trodAll_cons_mk (Below.trod laidOut (by kernel_rfl) (of_decide_eq_true (by kernel_rfl)) h0 bel lt0) trodAll_mk0), rfl, bel.frame _, fun h => by cases h⟩
theorem over : Rows.fnLaneFirstRow.holds Try.pinned (OpenSpec.ofChange Rows.fnLaneFirstSpec) :=
  OpenClaim.holds_of_wide 5 Try.f5 rfl rfl rfl rfl rfl rfl rfl ⟨rfl, rfl, rfl, rfl, rfl⟩ rfl rfl rfl rfl rfl (by kernel_rfl) Try.func5 (by unfold joinedFacts; rw [mayEnter, liftsFinal, makeIs]; kernel_rfl)
    (of_decide_eq_true (by kernel_rfl)) (by unfold Func.isWrapper; first | (rw [if_pos (by decide +kernel)]; kernel_rfl) | (rw [if_neg (by decide +kernel)]; exact ⟨rfl, rfl⟩))
    (fun os started H enc _ => lifted os started H enc)
/-- the given statement -/
theorem proved : Rows.FnLaneFirstSaid := over
end Go.Proofs.Ytkmoiphcpmhacab.fnLaneFirst
