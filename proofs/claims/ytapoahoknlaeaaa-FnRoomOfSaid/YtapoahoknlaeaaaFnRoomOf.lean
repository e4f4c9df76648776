/-
  The law FnRoomOf returns true at every argument: a queue of fewer than 64 packets lets a packet in exactly if there is room for it. Conditions: none.
-/
import Derived.Test.YtapoahoknlaeaaaQL
import Derived.Test.YtapoahoknlaeaaaQ3S
namespace Go.Proofs.Ytapoahoknlaeaaa.fnRoomOf
open Go.ChangeShapes Go.WideShapes Go.ChangeAt Go.RowKit

theorem in_room {lim : Int} {ps : List Pkt} {z : Int} (hq : qvB lim ps = true) (h : ¬ ps.length = 64) : inQ lim ps ⟨0, 0, z, 0⟩ = decide (z ≤ roomN lim ps) := by
  have := (qv_of hq).2.2.2.2.2
  rw [inQ, room_yes hq, decide_eq_decide]
  simp only
  omega
theorem vld_z {z : Int} (h0 : 1 ≤ z) (h1 : z ≤ 100) : vldB ⟨0, 0, z, 0⟩ = true := by
  simp only [vldB, decide_eq_true_eq]; omega
set_option maxHeartbeats 1000000 in
theorem walk (A : Option Addr) (n c : Nat) (A0 : Option Addr) (n0 c0 : Nat) (w : World) (h : Bytes w A n c) (_ : Bytes w A0 n0 c0) :
    Calls Try.prog 5 #[.slice A n c, .slice A0 n0 c0] w fun e w' => e = .returned (.bool true) ∧ Below w.heap.size w w' := by
  have HB := Lib.hid h
  clear h
  by_cases hbig : ¬ n ≤ 1048576
  · go_enter Try.func5, Try.ntmps5
    go_wp2
    go_ret
    exact ⟨rfl, Below.refl _ _⟩
  have hbig' : n ≤ 1048576 := by omega
  clear hbig
  by_cases hbig2 : ¬ n0 ≤ 1048576
  · go_enter Try.func5, Try.ntmps5
    go_wp2
    go_ret
    exact ⟨rfl, Below.refl _ _⟩
  have hbig2' : n0 ≤ 1048576 := by omega
  clear hbig2
  go_enter Try.func5, Try.ntmps5
  go_wp2_with fail
  refine (drawRoomOf_any A n c _ HB.out).mono ?_
  rintro e w1 ⟨lim, A1, n1, c1, ps, rfl, hn1, ho, hb⟩
  obtain ⟨hc1, hf1⟩ := bcell hb
  have B1 := Lib.hid (show Below w.heap.size w w1 from (by first | exact below_seq (Below.refl w.heap.size w) hb | exact below_seq1 (Below.refl w.heap.size w) hb | exact below_seq2 (Below.refl w.heap.size w) hb | exact below_seq3 (Below.refl w.heap.size w) hb | exact below_seq4 (Below.refl w.heap.size w) hb))
  have R1 := Lib.hid hb
  have hz1 := hb.size
  try simp at hz1
  clear hb
  have Q := Lib.hid (pr_own ho)
  clear ho
  rcases hq : qvB lim ps with _ | _
  · have HQ := Lib.hid hq
    have HR := Lib.hid (room_no hq)
    clear hq
    go_wp2_with fail
    refine (roomI_any lim A1 n1 c1 ps _ (by first | with_reducible exact Q.out | with_reducible exact pr_alloc Q.out _ | with_reducible exact pr_alloc (pr_alloc Q.out _) _ | with_reducible exact pr_alloc (pr_alloc (pr_alloc Q.out _) _) _) (by omega)).mono ?_
    rintro e w2 ⟨rfl, hb⟩
    obtain ⟨hc2, hf2⟩ := bcell hb
    have B2 := Lib.hid (show Below w.heap.size w w2 from (by first | exact below_seq B1.out hb | exact below_seq1 B1.out hb | exact below_seq2 B1.out hb | exact below_seq3 B1.out hb | exact below_seq4 B1.out hb))
    have R2 := Lib.hid hb
    have hz2 := hb.size
    try simp at hz2
    clear hb
    try have y20 : w.heap.size < w2.heap.size := by omega
    try have y20a : w.heap.size + 1 < w2.heap.size := by omega
    try have y20b : w.heap.size < w2.heap.size + 1 + 1 := by omega
    try have y20c : w.heap.size + 1 < w2.heap.size + 1 + 1 := by omega
    try have y21 : w1.heap.size < w2.heap.size := by omega
    try have y21a : w1.heap.size + 1 < w2.heap.size := by omega
    try have y21b : w1.heap.size < w2.heap.size + 1 + 1 := by omega
    try have y21c : w1.heap.size + 1 < w2.heap.size + 1 + 1 := by omega
    rw [HQ.out, HR.out]
    replace Q := Lib.hid (show PR w2 _ _ _ from (by first | with_reducible exact pr_below Q.out R2.out | with_reducible exact pr_below (pr_alloc Q.out _) R2.out | with_reducible exact pr_below (pr_alloc (pr_alloc Q.out _) _) R2.out | with_reducible exact pr_below (pr_alloc (pr_alloc (pr_alloc Q.out _) _) _) R2.out))
    go_wp2_with fail
    refine (roomS_any lim A1 n1 c1 ps _ Q.out (by omega)).mono ?_
    rintro e w3 ⟨rfl, hb⟩
    obtain ⟨hc3, hf3⟩ := bcell hb
    have B3 := Lib.hid (show Below w.heap.size w w3 from (by first | exact below_seq B2.out hb | exact below_seq1 B2.out hb | exact below_seq2 B2.out hb | exact below_seq3 B2.out hb | exact below_seq4 B2.out hb))
    have R3 := Lib.hid hb
    have hz3 := hb.size
    try simp at hz3
    clear hb
    try have y30 : w.heap.size < w3.heap.size := by omega
    try have y30a : w.heap.size + 1 < w3.heap.size := by omega
    try have y30b : w.heap.size < w3.heap.size + 1 + 1 := by omega
    try have y30c : w.heap.size + 1 < w3.heap.size + 1 + 1 := by omega
    try have y31 : w1.heap.size < w3.heap.size := by omega
    try have y31a : w1.heap.size + 1 < w3.heap.size := by omega
    try have y31b : w1.heap.size < w3.heap.size + 1 + 1 := by omega
    try have y31c : w1.heap.size + 1 < w3.heap.size + 1 + 1 := by omega
    try have y32 : w2.heap.size < w3.heap.size := by omega
    try have y32a : w2.heap.size + 1 < w3.heap.size := by omega
    try have y32b : w2.heap.size < w3.heap.size + 1 + 1 := by omega
    try have y32c : w2.heap.size + 1 < w3.heap.size + 1 + 1 := by omega
    rw [HQ.out, HR.out]
    go_wp2
    all_goals
      go_ret
      refine ⟨rfl, ?_⟩
      repeat refine below_alloc ?_ _
      exact B3.out
  · have HQ := Lib.hid hq
    obtain ⟨q1, q2, q3, q4, q5, q6⟩ := qv_of hq
    obtain ⟨a, ha⟩ : ∃ a, a = roomN lim ps := ⟨_, rfl⟩
    have a0 : 0 ≤ a := by rw [ha, room_yes hq]; omega
    have a1 : a ≤ lim := by rw [ha, room_yes hq]; omega
    have HA := Lib.hid ha
    have HN := Lib.hid Q.out.1
    obtain ⟨z, hz⟩ : ∃ z : Int, z = 1 + (n0 : Int) % 100 := ⟨_, rfl⟩
    have m0 : 0 ≤ (n0 : Int) % 100 := Int.emod_nonneg _ (by omega)
    have m1 : (n0 : Int) % 100 < 100 := Int.emod_lt_of_pos _ (by omega)
    have HZ := Lib.hid hz
    have z0 : 1 ≤ z := by omega
    have z1 : z ≤ 100 := by omega
    have HP : Hid (pushOk lim ps ⟨0, 0, z, 0⟩ = true) := Lib.hid (by simp [pushOk, hq, vld_z z0 z1])
    have HI := Lib.hid (in_room (z := z) hq)
    have HPI : Hid (pushIn lim ps ⟨0, 0, z, 0⟩ = inQ lim ps ⟨0, 0, z, 0⟩) := Lib.hid (by rw [pushIn, HP.out, Bool.true_and])
    clear hq q1 q4 q5 q6 ha hz
    go_wp2_with fail
    refine (roomI_any lim A1 n1 c1 ps _ (by first | with_reducible exact Q.out | with_reducible exact pr_alloc Q.out _ | with_reducible exact pr_alloc (pr_alloc Q.out _) _ | with_reducible exact pr_alloc (pr_alloc (pr_alloc Q.out _) _) _) (by omega)).mono ?_
    rintro e w2 ⟨rfl, hb⟩
    obtain ⟨hc2, hf2⟩ := bcell hb
    have B2 := Lib.hid (show Below w.heap.size w w2 from (by first | exact below_seq B1.out hb | exact below_seq1 B1.out hb | exact below_seq2 B1.out hb | exact below_seq3 B1.out hb | exact below_seq4 B1.out hb))
    have R2 := Lib.hid hb
    have hz2 := hb.size
    try simp at hz2
    clear hb
    try have y20 : w.heap.size < w2.heap.size := by omega
    try have y20a : w.heap.size + 1 < w2.heap.size := by omega
    try have y20b : w.heap.size < w2.heap.size + 1 + 1 := by omega
    try have y20c : w.heap.size + 1 < w2.heap.size + 1 + 1 := by omega
    try have y21 : w1.heap.size < w2.heap.size := by omega
    try have y21a : w1.heap.size + 1 < w2.heap.size := by omega
    try have y21b : w1.heap.size < w2.heap.size + 1 + 1 := by omega
    try have y21c : w1.heap.size + 1 < w2.heap.size + 1 + 1 := by omega
    rw [HQ.out, ← HA.out]
    replace Q := Lib.hid (show PR w2 _ _ _ from (by first | with_reducible exact pr_below Q.out R2.out | with_reducible exact pr_below (pr_alloc Q.out _) R2.out | with_reducible exact pr_below (pr_alloc (pr_alloc Q.out _) _) R2.out | with_reducible exact pr_below (pr_alloc (pr_alloc (pr_alloc Q.out _) _) _) R2.out))
    go_wp2_with fail
    refine (roomS_any lim A1 n1 c1 ps _ Q.out (by omega)).mono ?_
    rintro e w3 ⟨rfl, hb⟩
    obtain ⟨hc3, hf3⟩ := bcell hb
    have B3 := Lib.hid (show Below w.heap.size w w3 from (by first | exact below_seq B2.out hb | exact below_seq1 B2.out hb | exact below_seq2 B2.out hb | exact below_seq3 B2.out hb | exact below_seq4 B2.out hb))
    have R3 := Lib.hid hb
    have hz3 := hb.size
    try simp at hz3
    clear hb
    try have y30 : w.heap.size < w3.heap.size := by omega
    try have y30a : w.heap.size + 1 < w3.heap.size := by omega
    try have y30b : w.heap.size < w3.heap.size + 1 + 1 := by omega
    try have y30c : w.heap.size + 1 < w3.heap.size + 1 + 1 := by omega
    try have y31 : w1.heap.size < w3.heap.size := by omega
    try have y31a : w1.heap.size + 1 < w3.heap.size := by omega
    try have y31b : w1.heap.size < w3.heap.size + 1 + 1 := by omega
    try have y31c : w1.heap.size + 1 < w3.heap.size + 1 + 1 := by omega
    try have y32 : w2.heap.size < w3.heap.size := by omega
    try have y32a : w2.heap.size + 1 < w3.heap.size := by omega
    try have y32b : w2.heap.size < w3.heap.size + 1 + 1 := by omega
    try have y32c : w2.heap.size + 1 < w3.heap.size + 1 + 1 := by omega
    rw [HQ.out, ← HA.out]
    replace Q := Lib.hid (show PR w3 _ _ _ from (by first | with_reducible exact pr_below Q.out R3.out | with_reducible exact pr_below (pr_alloc Q.out _) R3.out | with_reducible exact pr_below (pr_alloc (pr_alloc Q.out _) _) R3.out | with_reducible exact pr_below (pr_alloc (pr_alloc (pr_alloc Q.out _) _) _) R3.out))
    go_wp2_with fail
    rw [← HZ.out]
    refine (pushI_yes lim A1 n1 c1 ps ⟨0, 0, z, 0⟩ _ Q.out (by omega) HP.out).mono ?_
    rintro e w4 ⟨A4, n4, c4, rfl, -, -, hb⟩
    obtain ⟨hc4, hf4⟩ := bcell hb
    have hz4 := hb.size
    have y14 : w1.heap.size < w4.heap.size := by omega
    have y13 : w1.heap.size < w3.heap.size := by omega
    have HB4 := Lib.hid (below_seq B3.out hb)
    clear hb
    by_cases h64 : n1 = 64
    · have e1 : ((n1 : Int) == 64) = true := by simp [h64]
      clear h64
      go_wp2
      all_goals
        go_ret
        refine ⟨rfl, ?_⟩
        repeat with_reducible refine below_alloc ?_ _
        exact HB4.out
    · have e1 : ((n1 : Int) == 64) = false := by simp; omega
      rw [HPI.out, HI.out (by rw [HN.out]; exact h64), ← HA.out]
      clear h64
      go_wp2
      all_goals
        go_ret
        refine ⟨rfl, ?_⟩
        repeat with_reducible refine below_alloc ?_ _
        exact HB4.out
theorem own : ownKnob Try.prog.godebug = none := by kernel_rfl
theorem laidOut : laidOutB Try.prog = true := by kernel_rfl
set_option maxRecDepth 100000 in
theorem lifted (os : Os) (started : os.Started) (H : Type) (enc : TypeId × Value → H) :
    ReturnsInHanded {} Try.checked os 5 .any (Rows.fnRoomOfSpec.pre6 enc Try.prog Try.f5 Rows.fnRoomOfRow.domain false) (Rows.fnRoomOfSpec.post enc Try.prog Try.f5 false true false false) := by
  refine returnsInHanded_of_change (C := Try.checked) own started (by kernel_rfl) Try.func5
    (ChangeSpec.witness6 (enc := enc) (C := Try.checked) false ⟨#[], #[.slice none 0 0, .slice none 0 0], []⟩ 8 (by kernel_rfl) (by kernel_rfl) (by kernel_rfl) (by kernel_rfl)) ?_
  intro W base args ds gs before hval0 hW _ _
  have hval : ∀ (j : Nat) t v, Try.f5.params[j]? = some t → args[j]? = some v → Value.okWide Try.prog W .any base t v := hval0
  have hW' := hW
  obtain ⟨p, q, hA0, hV, rfl, _, _⟩ := hW
  have hA : DataW.TrodAll enc Try.prog W 0 (fun _ => true) true Try.f5.params.toList args.toList ds p := hA0
  rw [Try.params5] at hA hval
  obtain ⟨v0, vs0, d0, ds0, p0, q0, hargs, rfl, rfl, h0, r0⟩ := trodAll_cons hA
  obtain ⟨v1, vs1, d1, ds1, p1, q1, rfl, rfl, rfl, h1, r1⟩ := trodAll_cons r0
  obtain ⟨rfl, rfl, rfl⟩ := trodAll_nil r1
  obtain rfl : args = #[v0, v1] := by cases args; simp_all
  obtain ⟨rfl, rfl⟩ := trodVars_none hV
  have lt0 : ∀ x ∈ p0, x.block < W.heap.size := by obtain ⟨m, hm⟩ := h0; exact DataW.trod_lt m _ _ _ hm
  obtain ⟨a0, n0, c0, rfl⟩ := okWide_slice Try.underlying22 (hval 0 22 v0 rfl rfl)
  have w0 : Bytes W a0 n0 c0 := bytes_open h0
  have lt1 : ∀ x ∈ p1, x.block < W.heap.size := by obtain ⟨m, hm⟩ := h1; exact DataW.trod_lt m _ _ _ hm
  obtain ⟨a1, n1, c1, rfl⟩ := okWide_slice Try.underlying22 (hval 1 22 v1 rfl rfl)
  have w1 : Bytes W a1 n1 c1 := bytes_open h1
  clear hA0 hval0
  refine (walk a0 n0 c0 a1 n1 c1 W w0 w1).mono fun e W' ⟨he, bel⟩ => ?_
  subst he
  exact ⟨_, rfl, _, _, _, [], _, [], hW', trodAll_mk1 (shut_bool Try.underlying4 _), (trodAll_cons_mk (Below.trod laidOut (by kernel_rfl) (of_decide_eq_true (by kernel_rfl)) h0 bel lt0) (trodAll_cons_mk (Below.trod laidOut (by kernel_rfl) (of_decide_eq_true (by kernel_rfl)) h1 bel lt1) trodAll_mk0)), rfl, bel.frame _, fun h => by cases h⟩
theorem over : Rows.fnRoomOfRow.holds Try.pinned (OpenSpec.ofChange Rows.fnRoomOfSpec) :=
  OpenClaim.holds_of_wide 5 Try.f5 rfl rfl rfl rfl rfl rfl rfl ⟨rfl, rfl, rfl, rfl, rfl⟩ rfl rfl rfl rfl rfl (by kernel_rfl) Try.func5 (by kernel_rfl)
    (of_decide_eq_true (by kernel_rfl)) (by unfold Func.isWrapper; first | (rw [if_pos (by decide +kernel)]; kernel_rfl) | (rw [if_neg (by decide +kernel)]; exact ⟨rfl, rfl⟩))
    (fun os started H enc _ => lifted os started H enc)
/-- the given statement -/
theorem proved : Rows.FnRoomOfSaid := over
end Go.Proofs.Ytapoahoknlaeaaa.fnRoomOf
