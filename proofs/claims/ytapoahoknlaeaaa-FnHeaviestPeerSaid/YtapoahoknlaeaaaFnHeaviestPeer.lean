/-
  The law FnHeaviestPeer returns true at every argument: no peer has more bytes than the heaviest one. Conditions: none.
-/
import Derived.Test.YtapoahoknlaeaaaQL
import Derived.Test.YtapoahoknlaeaaaQ5b
import Derived.Test.YtapoahoknlaeaaaC1b
namespace Go.Proofs.Ytapoahoknlaeaaa.fnHeaviestPeer
open Go.ChangeShapes Go.WideShapes Go.ChangeAt Go.RowKit

def HpRel (w : World) (A : Option Addr) (n : Nat) (ps : List Pkt) (i : Value) (wr : World) : Prop :=
  ∃ k : Nat, k ≤ 8 ∧ i = .int .i64 (k : Int) ∧ PR wr A n ps ∧ Below w.heap.size w wr
set_option maxHeartbeats 1000000 in
theorem walk (A : Option Addr) (n c : Nat) (w : World) (h : Bytes w A n c) :
    Calls Try.prog 7 #[.slice A n c] w fun e w' => e = .returned (.bool true) ∧ Below w.heap.size w w' := by
  have HB := Lib.hid h
  clear h
  by_cases hbig : ¬ n ≤ 1048576
  · go_enter Try.func7, Try.ntmps7
    go_wp2
    go_ret
    exact ⟨rfl, Below.refl _ _⟩
  have hbig' : n ≤ 1048576 := by omega
  clear hbig
  go_enter Try.func7, Try.ntmps7
  go_wp2_with fail
  refine (drawHeaviestPeer_any A n c _ HB.out).mono ?_
  rintro e w1 ⟨lim, A1, n1, c1, ps, rfl, hn1, ho, hb⟩
  obtain ⟨hc1, hf1⟩ := bcell hb
  have B1 := Lib.hid (show Below w.heap.size w w1 from (by first | exact below_seq (Below.refl w.heap.size w) hb | exact below_seq1 (Below.refl w.heap.size w) hb | exact below_seq2 (Below.refl w.heap.size w) hb | exact below_seq3 (Below.refl w.heap.size w) hb | exact below_seq4 (Below.refl w.heap.size w) hb))
  have R1 := Lib.hid hb
  have hz1 := hb.size
  try simp at hz1
  clear hb
  have Q := Lib.hid (pr_own ho)
  clear ho
  rcases hk : heavyP lim ps with _ | _
  · have HK := Lib.hid hk
    have HN := Lib.hid (heavy_no hk)
    clear hk
    go_wp2_with fail
    refine (heavyI_no lim A1 n1 c1 ps _ (by first | with_reducible exact Q.out | with_reducible exact pr_alloc Q.out _ | with_reducible exact pr_alloc (pr_alloc Q.out _) _ | with_reducible exact pr_alloc (pr_alloc (pr_alloc Q.out _) _) _) (by omega) HK.out).mono ?_
    rintro e w2 ⟨rfl, hb⟩
    obtain ⟨hc2, hf2⟩ := bcell hb
    have B2 := Lib.hid (show Below w.heap.size w w2 from (by first | exact below_seq B1.out hb | exact below_seq1 B1.out hb | exact below_seq2 B1.out hb | exact below_seq3 B1.out hb | exact below_seq4 B1.out hb))
    have R2 := Lib.hid hb
    have hz2 := hb.size
    try simp at hz2
    clear hb
    try have y20 : w.heap.size < w2.heap.size := by omega
    try have y20a : w.heap.size + 1 < w2.heap.size := by omega
    try have y20b : w.heap.size < w2.heap.size + 1 + 1 := by omega
    try have y20c : w.heap.size + 1 < w2.heap.size + 1 + 1 := by omega
    try have y21 : w1.heap.size < w2.heap.size := by omega
    try have y21a : w1.heap.size + 1 < w2.heap.size := by omega
    try have y21b : w1.heap.size < w2.heap.size + 1 + 1 := by omega
    try have y21c : w1.heap.size + 1 < w2.heap.size + 1 + 1 := by omega
    replace Q := Lib.hid (show PR w2 _ _ _ from (by first | with_reducible exact pr_below Q.out R2.out | with_reducible exact pr_below (pr_alloc Q.out _) R2.out | with_reducible exact pr_below (pr_alloc (pr_alloc Q.out _) _) R2.out | with_reducible exact pr_below (pr_alloc (pr_alloc (pr_alloc Q.out _) _) _) R2.out))
    go_wp2_with fail
    refine (heavyS_any lim A1 n1 c1 ps _ Q.out (by omega)).mono ?_
    rintro e w3 ⟨rfl, hb⟩
    obtain ⟨hc3, hf3⟩ := bcell hb
    have B3 := Lib.hid (show Below w.heap.size w w3 from (by first | exact below_seq B2.out hb | exact below_seq1 B2.out hb | exact below_seq2 B2.out hb | exact below_seq3 B2.out hb | exact below_seq4 B2.out hb))
    have R3 := Lib.hid hb
    have hz3 := hb.size
    try simp at hz3
    clear hb
    try have y30 : w.heap.size < w3.heap.size := by omega
    try have y30a : w.heap.size + 1 < w3.heap.size := by omega
    try have y30b : w.heap.size < w3.heap.size + 1 + 1 := by omega
    try have y30c : w.heap.size + 1 < w3.heap.size + 1 + 1 := by omega
    try have y31 : w1.heap.size < w3.heap.size := by omega
    try have y31a : w1.heap.size + 1 < w3.heap.size := by omega
    try have y31b : w1.heap.size < w3.heap.size + 1 + 1 := by omega
    try have y31c : w1.heap.size + 1 < w3.heap.size + 1 + 1 := by omega
    try have y32 : w2.heap.size < w3.heap.size := by omega
    try have y32a : w2.heap.size + 1 < w3.heap.size := by omega
    try have y32b : w2.heap.size < w3.heap.size + 1 + 1 := by omega
    try have y32c : w2.heap.size + 1 < w3.heap.size + 1 + 1 := by omega
    rw [HK.out, HN.out.1, HN.out.2]
    go_wp2
    all_goals
      go_ret
      refine ⟨rfl, ?_⟩
      repeat refine below_alloc ?_ _
      exact B3.out
  · obtain ⟨hq, h0⟩ := heavyP_of hk
    obtain ⟨m, hm⟩ : ∃ m, m = heavy ps := ⟨_, rfl⟩
    obtain ⟨B, hB⟩ : ∃ B, B = bytesOf ps (heavy ps) := ⟨_, rfl⟩
    have HK := Lib.hid hk
    have HY := Lib.hid (heavy_yes hk)
    have HO := Lib.hid (qv_of hq).1
    have hm7 : m ≤ 7 := by rw [hm]; exact heavy_le ps
    have hB1 : 1 ≤ B := by rw [hB]; exact heavy_pos (ok_of HO.out).2 h0
    have HM := Lib.hid hm
    have HBB := Lib.hid hB
    clear hk hq h0 hm hB
    go_wp2_with fail
    refine (heavyI_yes lim A1 n1 c1 ps _ (by first | with_reducible exact Q.out | with_reducible exact pr_alloc Q.out _ | with_reducible exact pr_alloc (pr_alloc Q.out _) _ | with_reducible exact pr_alloc (pr_alloc (pr_alloc Q.out _) _) _) (by omega) HK.out).mono ?_
    rintro e w2 ⟨rfl, hb⟩
    obtain ⟨hc2, hf2⟩ := bcell hb
    have B2 := Lib.hid (show Below w.heap.size w w2 from (by first | exact below_seq B1.out hb | exact below_seq1 B1.out hb | exact below_seq2 B1.out hb | exact below_seq3 B1.out hb | exact below_seq4 B1.out hb))
    have R2 := Lib.hid hb
    have hz2 := hb.size
    try simp at hz2
    clear hb
    try have y20 : w.heap.size < w2.heap.size := by omega
    try have y20a : w.heap.size + 1 < w2.heap.size := by omega
    try have y20b : w.heap.size < w2.heap.size + 1 + 1 := by omega
    try have y20c : w.heap.size + 1 < w2.heap.size + 1 + 1 := by omega
    try have y21 : w1.heap.size < w2.heap.size := by omega
    try have y21a : w1.heap.size + 1 < w2.heap.size := by omega
    try have y21b : w1.heap.size < w2.heap.size + 1 + 1 := by omega
    try have y21c : w1.heap.size + 1 < w2.heap.size + 1 + 1 := by omega
    rw [← HBB.out, ← HM.out]
    replace Q := Lib.hid (show PR w2 _ _ _ from (by first | with_reducible exact pr_below Q.out R2.out | with_reducible exact pr_below (pr_alloc Q.out _) R2.out | with_reducible exact pr_below (pr_alloc (pr_alloc Q.out _) _) R2.out | with_reducible exact pr_below (pr_alloc (pr_alloc (pr_alloc Q.out _) _) _) R2.out))
    go_wp2_with fail
    refine (heavyS_any lim A1 n1 c1 ps _ Q.out (by omega)).mono ?_
    rintro e w3 ⟨rfl, hb⟩
    obtain ⟨hc3, hf3⟩ := bcell hb
    have B3 := Lib.hid (show Below w.heap.size w w3 from (by first | exact below_seq B2.out hb | exact below_seq1 B2.out hb | exact below_seq2 B2.out hb | exact below_seq3 B2.out hb | exact below_seq4 B2.out hb))
    have R3 := Lib.hid hb
    have hz3 := hb.size
    try simp at hz3
    clear hb
    try have y30 : w.heap.size < w3.heap.size := by omega
    try have y30a : w.heap.size + 1 < w3.heap.size := by omega
    try have y30b : w.heap.size < w3.heap.size + 1 + 1 := by omega
    try have y30c : w.heap.size + 1 < w3.heap.size + 1 + 1 := by omega
    try have y31 : w1.heap.size < w3.heap.size := by omega
    try have y31a : w1.heap.size + 1 < w3.heap.size := by omega
    try have y31b : w1.heap.size < w3.heap.size + 1 + 1 := by omega
    try have y31c : w1.heap.size + 1 < w3.heap.size + 1 + 1 := by omega
    try have y32 : w2.heap.size < w3.heap.size := by omega
    try have y32a : w2.heap.size + 1 < w3.heap.size := by omega
    try have y32b : w2.heap.size < w3.heap.size + 1 + 1 := by omega
    try have y32c : w2.heap.size + 1 < w3.heap.size + 1 + 1 := by omega
    rw [HK.out, HY.out.1, HY.out.2, ← HBB.out, ← HM.out]
    replace Q := Lib.hid (show PR w3 _ _ _ from (by first | with_reducible exact pr_below Q.out R3.out | with_reducible exact pr_below (pr_alloc Q.out _) R3.out | with_reducible exact pr_below (pr_alloc (pr_alloc Q.out _) _) R3.out | with_reducible exact pr_below (pr_alloc (pr_alloc (pr_alloc Q.out _) _) _) R3.out))
    go_wp2
    go_loopw [10] (fun i wr => HpRel w3 A1 n1 ps i wr) (fun i _ => 8 - (intOf i).toNat)
    case atStart => exact ⟨0, by omega, rfl, Q.out, Below.refl _ _⟩
    case round =>
      obtain ⟨k, hk8, rfl, hp, hbl⟩ := hrel
      have HP := Lib.hid hp
      have HBl := Lib.hid hbl
      obtain ⟨hcr, hfr⟩ := bcell hbl
      have hzr := hbl.size
      have yr : w1.heap.size < wr.heap.size := by omega
      have yr3 : w1.heap.size < w3.heap.size := by omega
      clear hp hbl
      by_cases hlt : k < 8
      · go_wp2_with fail
        refine (ofI_any A1 n1 c1 ps k _ HP.out (by omega)).mono ?_
        rintro e w4 ⟨A4, n4, c4, rfl, h4a, h4b, h4c, h4d, h4e⟩
        have HP4 := Lib.hid (pr_below HP.out h4e)
        have HG4 := Lib.hid (pr_own h4d)
        have HB4 := Lib.hid (below_seq HBl.out h4e)
        have hl := HP.out.1
        have h46 : n4 ≤ 67 := by omega
        clear h4a h4b h4c h4d h4e hl
        go_wp2_with fail
        refine (sizeI_any A4 n4 c4 _ _ HG4.out (by omega)).mono ?_
        rintro e w5 ⟨rfl, hb5⟩
        rw [ok_of_peer _ HO.out, sz_yes (ok_of_peer _ HO.out)]
        have HP5 := Lib.hid (pr_below HP4.out hb5)
        have HB5 := Lib.hid (below_seq HB4.out hb5)
        obtain ⟨s, hs⟩ : ∃ s, s = sizeSum (ofPeer ps (k : Int)) := ⟨_, rfl⟩
        rw [← hs]
        have hsB : s ≤ B := by rw [hs, HBB.out]; exact heavy_max ps k (by omega)
        have hsf : k < m → s < B := fun hkm => by rw [hs, HBB.out]; exact heavy_first ps k (by rw [← HM.out]; exact hkm)
        have hsm : k = m → s = B := fun hkm => by rw [hs, HBB.out, ← HM.out, hkm]; rfl
        clear hb5 hs hcr hfr
        have d0 : decide (B < s) = false := by simp; omega
        by_cases hkm : k = m
        · have e1 := hsm hkm
          have e2 : (s == B) = true := by simp [e1]
          have e3 : decide (k < m) = false := by simp; omega
          have e3' : decide ((k : Int) < (m : Int)) = false := by simp; omega
          have e4 : ((k : Int) == (m : Int)) = true := by simp; omega
          have e4' : (k == m) = true := by simp; omega
          have e5 : (s != B) = false := by simp [e1]
          clear hsm hsf hkm e1
          go_wp2
          go_roundw
          case rel => exact ⟨k + 1, by omega, by go_num, HP5.out, HB5.out⟩
          case measure => simp [intOf]; omega
        · have e4 : ((k : Int) == (m : Int)) = false := by simp; omega
          have e4' : (k == m) = false := by simp; omega
          by_cases hsb : s = B
          · have e2 : (s == B) = true := by simp [hsb]
            have e3 : decide (k < m) = false := by simp; omega
            have e3' : decide ((k : Int) < (m : Int)) = false := by simp; omega
            clear hsm hsf hkm hsb
            go_wp2
            go_roundw
            case rel => exact ⟨k + 1, by omega, by go_num, HP5.out, HB5.out⟩
            case measure => simp [intOf]; omega
          · have e2 : (s == B) = false := by simp [hsb]
            clear hsm hsf hkm hsb
            go_wp2
            go_roundw
            case rel => exact ⟨k + 1, by omega, by go_num, HP5.out, HB5.out⟩
            case measure => simp [intOf]; omega
      · obtain rfl : k = 8 := by omega
        have HBB2 := Lib.hid (below_seq B3.out HBl.out)
        clear hcr hfr
        go_wp2
        go_ret
        exact ⟨ret_bool (by simp <;> omega), HBB2.out⟩
theorem own : ownKnob Try.prog.godebug = none := by kernel_rfl
theorem laidOut : laidOutB Try.prog = true := by kernel_rfl
set_option maxRecDepth 100000 in
theorem lifted (os : Os) (started : os.Started) (H : Type) (enc : TypeId × Value → H) :
    ReturnsInHanded {} Try.checked os 7 .any (Rows.fnHeaviestPeerSpec.pre6 enc Try.prog Try.f7 Rows.fnHeaviestPeerRow.domain false) (Rows.fnHeaviestPeerSpec.post enc Try.prog Try.f7 false true false false) := by
  refine returnsInHanded_of_change (C := Try.checked) own started (by kernel_rfl) Try.func7
    (ChangeSpec.witness6 (enc := enc) (C := Try.checked) false ⟨#[], #[.slice none 0 0], []⟩ 8 (by kernel_rfl) (by kernel_rfl) (by kernel_rfl) (by kernel_rfl)) ?_
  intro W base args ds gs before hval0 hW _ _
  have hval : ∀ (j : Nat) t v, Try.f7.params[j]? = some t → args[j]? = some v → Value.okWide Try.prog W .any base t v := hval0
  have hW' := hW
  obtain ⟨p, q, hA0, hV, rfl, _, _⟩ := hW
  have hA : DataW.TrodAll enc Try.prog W 0 (fun _ => true) true Try.f7.params.toList args.toList ds p := hA0
  rw [Try.params7] at hA hval
  obtain ⟨v0, vs0, d0, ds0, p0, q0, hargs, rfl, rfl, h0, r0⟩ := trodAll_cons hA
  obtain ⟨rfl, rfl, rfl⟩ := trodAll_nil r0
  obtain rfl : args = #[v0] := by cases args; simp_all
  obtain ⟨rfl, rfl⟩ := trodVars_none hV
  have lt0 : ∀ x ∈ p0, x.block < W.heap.size := by obtain ⟨m, hm⟩ := h0; exact DataW.trod_lt m _ _ _ hm
  obtain ⟨a0, n0, c0, rfl⟩ := okWide_slice Try.underlying22 (hval 0 22 v0 rfl rfl)
  have w0 : Bytes W a0 n0 c0 := bytes_open h0
  clear hA0 hval0
  refine (walk a0 n0 c0 W w0).mono fun e W' ⟨he, bel⟩ => ?_
  subst he
  exact ⟨_, rfl, _, _, _, [], _, [], hW', trodAll_mk1 (shut_bool Try.underlying4 _), (trodAll_cons_mk (Below.trod laidOut (by kernel_rfl) (of_decide_eq_true (by kernel_rfl)) h0 bel lt0) trodAll_mk0), rfl, bel.frame _, fun h => by cases h⟩
theorem over : Rows.fnHeaviestPeerRow.holds Try.pinned (OpenSpec.ofChange Rows.fnHeaviestPeerSpec) :=
  OpenClaim.holds_of_wide 7 Try.f7 rfl rfl rfl rfl rfl rfl rfl ⟨rfl, rfl, rfl, rfl, rfl⟩ rfl rfl rfl rfl rfl (by kernel_rfl) Try.func7 (by kernel_rfl)
    (of_decide_eq_true (by kernel_rfl)) (by unfold Func.isWrapper; first | (rw [if_pos (by decide +kernel)]; kernel_rfl) | (rw [if_neg (by decide +kernel)]; exact ⟨rfl, rfl⟩))
    (fun os started H enc _ => lifted os started H enc)
/-- the given statement -/
theorem proved : Rows.FnHeaviestPeerSaid := over
end Go.Proofs.Ytapoahoknlaeaaa.fnHeaviestPeer
