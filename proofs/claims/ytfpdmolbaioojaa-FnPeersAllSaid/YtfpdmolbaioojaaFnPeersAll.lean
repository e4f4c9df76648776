/-
  The law FnPeersAll returns true at every argument: the packets of all peers are as many as the valid packets. Conditions: none.
-/
import Derived.Test.YtfpdmolbaioojaaLift
import Derived.Test.YtfpdmolbaioojaaDrawList
import Derived.Test.YtfpdmolbaioojaaC1
import Derived.Test.YtfpdmolbaioojaaC1b
namespace Go.Proofs.Ytfpdmolbaioojaa.fnPeersAll
open Go.ChangeShapes Go.WideShapes Go.ChangeAt Go.RowKit

def upTo (ps : List Pkt) (k : Int) : Nat := (ps.filter (fun p => decide (0 ≤ p.peer ∧ p.peer < k))).length
theorem upTo_zero (ps : List Pkt) : upTo ps 0 = 0 := by
  unfold upTo
  rw [List.length_eq_zero_iff, List.filter_eq_nil_iff]
  intro p _
  simp only [decide_eq_true_eq]; omega
theorem upTo_step (ps : List Pkt) (k : Int) (hk : 0 ≤ k) : upTo ps (k + 1) = upTo ps k + (ofPeer ps k).length := by
  induction ps with
  | nil => rfl
  | cons p r ih =>
    unfold upTo ofPeer at ih ⊢
    simp only [List.filter_cons]
    by_cases h1 : p.peer = k
    · have a : decide (0 ≤ p.peer ∧ p.peer < k + 1) = true := by simp; omega
      have b : decide (0 ≤ p.peer ∧ p.peer < k) = false := by simp; omega
      have c : (p.peer == k) = true := by simp [h1]
      simp only [a, b, c, if_true, Bool.false_eq_true, if_false, List.length_cons, ih]
      omega
    · have c : (p.peer == k) = false := by simp [h1]
      have ab : decide (0 ≤ p.peer ∧ p.peer < k + 1) = decide (0 ≤ p.peer ∧ p.peer < k) := by rw [decide_eq_decide]; omega
      simp only [c, ab, Bool.false_eq_true, if_false]
      rcases h2 : decide (0 ≤ p.peer ∧ p.peer < k) with _ | _
      · simpa using ih
      · simp only [if_true, List.length_cons]; omega
theorem upTo_le (ps : List Pkt) (k : Int) : upTo ps k ≤ ps.length := List.length_filter_le _ _
theorem upTo_all {ps : List Pkt} (h : okB ps = true) : upTo ps 8 = ps.length := by
  unfold upTo
  rw [List.filter_eq_self.2]
  intro p hp
  have := List.all_eq_true.1 (ok_of h).2 p hp
  simp only [vldB, decide_eq_true_eq] at this ⊢
  omega
def CntRel (w : World) (ps : List Pkt) (s i : Value) (wr : World) : Prop :=
  ∃ k : Nat, k ≤ 8 ∧ i = .int .i64 (k : Int) ∧ s = .int .i64 ((upTo ps k : Nat) : Int) ∧ Below w.heap.size w wr
set_option maxHeartbeats 1000000 in
theorem walk (A : Option Addr) (n c : Nat) (w : World) (h : Bytes w A n c) :
    Calls Try.prog 6 #[.slice A n c] w fun e w' => e = .returned (.bool true) ∧ Below w.heap.size w w' := by
  have HB := Lib.hid h
  clear h
  by_cases hbig : n ≤ 1048576
  · go_enter Try.func6, Try.ntmps6
    go_wp2_with fail
    refine (drawFormatPackets_any A n c _ HB.out).mono ?_
    rintro e w1 ⟨A1, n1, c1, ps, rfl, hn9, hnc, hcm, hpr, hb1⟩
    have HP := Lib.hid hpr
    have HB1 := Lib.hid hb1
    clear hpr hb1
    go_wp2_with fail
    refine (sizeI_any A1 n1 c1 ps _ HP.out (by omega)).mono ?_
    rintro e w2 ⟨rfl, hb2⟩
    have HP2 := Lib.hid (pr_below HP.out hb2)
    have HB2 := Lib.hid (below_seq HB1.out hb2)
    clear hb2
    go_wp2_with fail
    refine (sizeS_any A1 n1 c1 ps _ HP2.out (by omega)).mono ?_
    rintro e w3 ⟨rfl, hb3⟩
    have HP3 := Lib.hid (pr_below HP2.out hb3)
    have HB3 := Lib.hid (below_seq HB2.out hb3)
    clear hb3
    rcases hok : okB ps with _ | _
    · clear hok
      go_wp2
      go_ret
      exact ⟨rfl, HB3.out⟩
    · have HK := Lib.hid hok
      clear hok
      go_wp2
      go_loopw [8, 9] (fun s i wr => CntRel w3 ps s i wr) (fun _ i _ => (8 - intOf i).toNat)
      case atStart => exact ⟨0, by omega, rfl, by have := upTo_zero ps; simp [this], Below.refl _ _⟩
      case round =>
        obtain ⟨k, hk, rfl, rfl, hbl⟩ := hrel
        have hu := upTo_le ps k
        have hl := HP.out.1
        have hu9 : upTo ps k ≤ 9 := by omega
        clear hu hl
        have HBL := Lib.hid hbl
        clear hbl
        by_cases hlt : k < 8
        · go_wp2_with fail
          refine (ofI_any A1 n1 c1 ps _ _ (pr_below HP3.out HBL.out) (by omega)).mono ?_
          rintro e w4 ⟨A4, n4, c4, rfl, h4, h5, h6, h7, h8⟩
          have hn4 : n4 = (ofPeer ps k).length := by have := h7.1; rw [pcells_len] at this; omega
          have h49 : n4 ≤ 9 := by have := HP.out.1; omega
          have HN := Lib.hid hn4
          have H8 := Lib.hid (below_seq HBL.out h8)
          clear h4 h5 h6 h7 h8 hn4
          go_wp2
          go_roundw
          case rel => exact ⟨k + 1, by omega, by go_num, by have := upTo_step ps k (by omega); rw [show ((k + 1 : Nat) : Int) = (k : Int) + 1 from by omega, this, ← HN.out]; go_num, H8.out⟩
          case measure => simp [intOf]; omega
        · obtain rfl : k = 8 := by omega
          have e1 : (((upTo ps 8 : Nat) : Int) == (n1 : Int)) = true := by
            have := upTo_all HK.out
            have := HP.out.1
            simp only [beq_iff_eq]
            omega
          go_wp2
          go_ret
          exact ⟨rfl, below_seq HB3.out HBL.out⟩
  · go_enter Try.func6, Try.ntmps6
    go_wp2
    go_ret
    exact ⟨rfl, Below.refl _ _⟩
theorem own : ownKnob Try.prog.godebug = none := by kernel_rfl
theorem laidOut : laidOutB Try.prog = true := by kernel_rfl
set_option maxRecDepth 100000 in
theorem lifted (os : Os) (started : os.Started) (H : Type) (enc : TypeId × Value → H) :
    ReturnsInHanded {} Try.checked os 6 .any (Rows.fnPeersAllSpec.pre6 enc Try.prog Try.f6 Rows.fnPeersAllRow.domain false) (Rows.fnPeersAllSpec.post enc Try.prog Try.f6 false true false false) := by
  refine returnsInHanded_of_change (C := Try.checked) own started (by kernel_rfl) Try.func6
    (ChangeSpec.witness6 (enc := enc) (C := Try.checked) false ⟨#[], #[.slice none 0 0], []⟩ 8 (by kernel_rfl) (by kernel_rfl) (by kernel_rfl) (by kernel_rfl)) ?_
  intro W base args ds gs before hval0 hW _ _
  have hval : ∀ (j : Nat) t v, Try.f6.params[j]? = some t → args[j]? = some v → Value.okWide Try.prog W .any base t v := hval0
  have hW' := hW
  obtain ⟨p, q, hA0, hV, rfl, _, _⟩ := hW
  have hA : DataW.TrodAll enc Try.prog W 0 (fun _ => true) true Try.f6.params.toList args.toList ds p := hA0
  rw [Try.params6] at hA hval
  obtain ⟨v0, vs0, d0, ds0, p0, q0, hargs, rfl, rfl, h0, r0⟩ := trodAll_cons hA
  obtain ⟨rfl, rfl, rfl⟩ := trodAll_nil r0
  obtain rfl : args = #[v0] := by cases args; simp_all
  obtain ⟨rfl, rfl⟩ := trodVars_none hV
  obtain ⟨a0, n0, c0, rfl⟩ := okWide_slice Try.underlying22 (hval 0 22 v0 rfl rfl)
  have lt0 : ∀ x ∈ p0, x.block < W.heap.size := by obtain ⟨m, hm⟩ := h0; exact DataW.trod_lt m _ _ _ hm
  have w0 : Bytes W a0 n0 c0 := bytes_open h0
  clear hA0 hval0
  refine (walk a0 n0 c0 W w0).mono fun e W' ⟨he, bel⟩ => ?_
  subst he
  exact ⟨_, rfl, _, _, _, [], _, [], hW', trodAll_mk1 (shut_bool Try.underlying4 _), (trodAll_cons_mk (Below.trod laidOut (by kernel_rfl) (of_decide_eq_true (by kernel_rfl)) h0 bel lt0) trodAll_mk0), rfl, bel.frame _, fun h => by cases h⟩
theorem over : Rows.fnPeersAllRow.holds Try.pinned (OpenSpec.ofChange Rows.fnPeersAllSpec) :=
  OpenClaim.holds_of_wide 6 Try.f6 rfl rfl rfl rfl rfl rfl rfl ⟨rfl, rfl, rfl, rfl, rfl⟩ rfl rfl rfl rfl rfl (by kernel_rfl) Try.func6 (by kernel_rfl)
    (of_decide_eq_true (by kernel_rfl)) (by unfold Func.isWrapper; first | (rw [if_pos (by decide +kernel)]; kernel_rfl) | (rw [if_neg (by decide +kernel)]; exact ⟨rfl, rfl⟩))
    (fun os started H enc _ => lifted os started H enc)
/-- the given statement -/
theorem proved : Rows.FnPeersAllSaid := over
end Go.Proofs.Ytfpdmolbaioojaa.fnPeersAll
