/-
  The law FnOfPeer returns true at every argument: the packets of a peer are the packets that have this peer, in their order. Conditions: none.
-/
import Derived.Test.YtfpdmolbaioojaaLift
import Derived.Test.YtfpdmolbaioojaaDrawList
import Derived.Test.YtfpdmolbaioojaaC1
import Derived.Test.YtfpdmolbaioojaaC1b
import Derived.Test.YtfpdmolbaioojaaC1c
namespace Go.Proofs.Ytfpdmolbaioojaa.fnOfPeer
open Go.ChangeShapes Go.WideShapes Go.ChangeAt Go.RowKit

theorem of_twice (ps : List Pkt) (x : Int) : ofPeer (ofPeer ps x) x = ofPeer ps x := by
  unfold ofPeer
  rw [List.filter_filter]
  simp
theorem of_next {ps : List Pkt} {k : Nat} {p : Pkt} {x : Int} (h : ps[k]? = some p) (hx : p.peer = x) : (ofPeer ps x)[(ofPeer (ps.take k) x).length]? = some p := by
  have e : ps = ps.take k ++ p :: ps.drop (k + 1) := by
    have hm : k < ps.length := by
      rcases Nat.lt_or_ge k ps.length with hl | hl
      · exact hl
      · rw [List.getElem?_eq_none hl] at h; cases h
    have e : ps[k] = p := by rw [List.getElem?_eq_getElem hm] at h; injection h
    rw [← e, ← List.drop_eq_getElem_cons hm, List.take_append_drop]
  have e2 : ofPeer ps x = ofPeer (ps.take k) x ++ p :: ofPeer (ps.drop (k + 1)) x := by
    conv => lhs; rw [e]
    simp [ofPeer, List.filter_append, hx]
  rw [e2, List.getElem?_append_right (Nat.le_refl _), Nat.sub_self]
  rfl
def CmpRel (w : World) (ps : List Pkt) (x : Int) (n : Nat) (s i : Value) (wr : World) : Prop :=
  ∃ k m : Nat, k ≤ n ∧ i = .int .i64 (k : Int) ∧ m ≤ k ∧ m = (ofPeer (ps.take k) x).length ∧ s = .int .i64 (m : Int) ∧ Below w.heap.size w wr
theorem hit_len {ps : List Pkt} {k : Nat} {p : Pkt} {x : Int} (h : ps[k]? = some p) (hx : p.peer = x) : (ofPeer (ps.take (k + 1)) x).length = (ofPeer (ps.take k) x).length + 1 := by
  rw [ofPeer_hit h hx]; simp
set_option maxHeartbeats 2000000 in
theorem walk (A : Option Addr) (n c : Nat) (w : World) (h : Bytes w A n c) :
    Calls Try.prog 4 #[.slice A n c] w fun e w' => e = .returned (.bool true) ∧ Below w.heap.size w w' := by
  have HB := Lib.hid h
  clear h
  by_cases hbig : n ≤ 1048576
  · go_enter Try.func4, Try.ntmps4
    go_wp2_with fail
    refine (drawOfPeer_any A n c _ HB.out).mono ?_
    rintro e w1 ⟨A1, n1, c1, ps, x, rfl, hn9, hnc, hcm, hpr, hb1⟩
    have HP := Lib.hid hpr
    have HB1 := Lib.hid hb1
    clear hpr hb1
    go_wp2_with fail
    refine (ofI_any A1 n1 c1 ps x _ HP.out (by omega)).mono ?_
    rintro e w2 ⟨A2, n2, c2, rfl, h2a, h2b, h2c, h2d, h2e⟩
    have HP2 := Lib.hid (pr_below HP.out h2e)
    have HB2 := Lib.hid (below_seq HB1.out h2e)
    have HQ2 := Lib.hid (pr_own h2d)
    have h29 : n2 ≤ 9 := by have := HP.out.1; omega
    clear h2a h2b h2c h2d h2e
    go_wp2_with fail
    refine (ofS_any A1 n1 c1 ps x _ HP2.out (by omega)).mono ?_
    rintro e w3 ⟨A3, n3, c3, rfl, h3a, h3b, h3c, h3d, h3e⟩
    have HP3 := Lib.hid (pr_below HP2.out h3e)
    have HB3 := Lib.hid (below_seq HB2.out h3e)
    have HQ3 := Lib.hid (pr_below HQ2.out h3e)
    have HR3 := Lib.hid (pr_own h3d)
    have h39 : n3 ≤ 9 := by have := HP.out.1; omega
    clear h3a h3b h3c h3d h3e
    go_wp2_with fail
    refine (sameI_any A2 A3 n2 c2 n3 c3 _ _ _ HQ3.out HR3.out (by omega) (by omega)).mono ?_
    rintro e w4 ⟨rfl, hb4⟩
    rw [← same_yes rfl]
    have HP4 := Lib.hid (pr_below HP3.out hb4)
    have HQ4 := Lib.hid (pr_below HQ3.out hb4)
    have HB4 := Lib.hid (below_seq HB3.out hb4)
    clear hb4
    go_wp2
    go_loopw [6, 7] (fun s i wr => CmpRel w4 ps x n1 s i wr) (fun _ i _ => n1 - (intOf i).toNat)
    case atStart => exact ⟨0, 0, Nat.zero_le _, rfl, Nat.le_refl _, by simp [ofPeer], rfl, Below.refl _ _⟩
    case round =>
      obtain ⟨k, m, hk, rfl, hmk, hm, rfl, hbl⟩ := hrel
      have HM := Lib.hid hm
      have HBL := Lib.hid hbl
      clear hm
      by_cases hlt : k < n1
      · obtain ⟨b, off, p, rfl, hb, hp, d0, d1, d2, d3⟩ := pr_at (pr_below HP4.out hbl) hlt
        by_cases hx : p.peer = x
        · have hq := of_next hp hx
          rw [← HM.out] at hq
          have hm2 : m < n2 := by
            have := HQ4.out.1
            rcases Nat.lt_or_ge m (ofPeer ps x).length with hl | hl
            · omega
            · rw [List.getElem?_eq_none hl] at hq; cases hq
          obtain ⟨b', off', q, rfl, hb', hq', f0, f1, f2, f3⟩ := pr_at (pr_below HQ4.out hbl) hm2
          obtain rfl : q = p := by rw [hq] at hq'; injection hq' with hq'; exact hq'.symm
          have HX := Lib.hid (And.intro hp hx)
          have hxb : (q.peer == x) = true := by simp [hx]
          clear hp hx hq hq' hbl
          go_wp2
          go_quiet (fail)
          go_wp2
          go_roundw
          case rel => exact ⟨k + 1, m + 1, by omega, by go_num, by omega, by rw [hit_len HX.out.1 HX.out.2, ← HM.out], by go_num, below_drewN HBL.out _⟩
          case measure => simp [intOf]; omega
        · have hxb : (p.peer == x) = false := by simp [hx]
          have HX := Lib.hid (And.intro hp hx)
          clear hp hx hbl
          go_wp2
          go_roundw
          case rel => exact ⟨k + 1, m, by omega, by go_num, by omega, by rw [ofPeer_miss HX.out.1 HX.out.2, ← HM.out], rfl, HBL.out⟩
          case measure => simp [intOf]; omega
      · obtain rfl : k = n1 := by omega
        have e1 : ((m : Int) == (n2 : Int)) = true := by
          have h1 := HM.out
          have h2 := HP.out.1
          have h3 := HQ4.out.1
          rw [List.take_of_length_le (by omega)] at h1
          simp only [beq_iff_eq]
          omega
        clear hbl
        go_wp2_with fail
        refine (ofI_any A2 n2 c2 (ofPeer ps x) x _ (pr_below HQ4.out HBL.out) (by omega)).mono ?_
        rintro e w5 ⟨A5, n5, c5, rfl, h5a, h5b, h5c, h5d, h5e⟩
        rw [of_twice] at h5d
        have HQ5 := Lib.hid (pr_below (pr_below HQ4.out HBL.out) h5e)
        have HR5 := Lib.hid (pr_own h5d)
        have HB5 := Lib.hid (below_seq (below_seq HB4.out HBL.out) h5e)
        have h59 : n5 ≤ 9 := by have := HQ4.out.1; omega
        clear h5a h5b h5c h5d h5e
        go_wp2_with fail
        refine (sameI_any A5 A2 n5 c5 n2 c2 _ _ _ HR5.out HQ5.out (by omega) (by omega)).mono ?_
        rintro e w6 ⟨rfl, hb6⟩
        rw [← same_yes rfl]
        have HB6 := Lib.hid (below_seq HB5.out hb6)
        clear hb6
        go_wp2
        go_ret
        exact ⟨rfl, HB6.out⟩
  · go_enter Try.func4, Try.ntmps4
    go_wp2
    go_ret
    exact ⟨rfl, Below.refl _ _⟩
theorem own : ownKnob Try.prog.godebug = none := by kernel_rfl
theorem laidOut : laidOutB Try.prog = true := by kernel_rfl
set_option maxRecDepth 100000 in
theorem lifted (os : Os) (started : os.Started) (H : Type) (enc : TypeId × Value → H) :
    ReturnsInHanded {} Try.checked os 4 .any (Rows.fnOfPeerSpec.pre6 enc Try.prog Try.f4 Rows.fnOfPeerRow.domain false) (Rows.fnOfPeerSpec.post enc Try.prog Try.f4 false true false false) := by
  refine returnsInHanded_of_change (C := Try.checked) own started (by kernel_rfl) Try.func4
    (ChangeSpec.witness6 (enc := enc) (C := Try.checked) false ⟨#[], #[.slice none 0 0], []⟩ 8 (by kernel_rfl) (by kernel_rfl) (by kernel_rfl) (by kernel_rfl)) ?_
  intro W base args ds gs before hval0 hW _ _
  have hval : ∀ (j : Nat) t v, Try.f4.params[j]? = some t → args[j]? = some v → Value.okWide Try.prog W .any base t v := hval0
  have hW' := hW
  obtain ⟨p, q, hA0, hV, rfl, _, _⟩ := hW
  have hA : DataW.TrodAll enc Try.prog W 0 (fun _ => true) true Try.f4.params.toList args.toList ds p := hA0
  rw [Try.params4] at hA hval
  obtain ⟨v0, vs0, d0, ds0, p0, q0, hargs, rfl, rfl, h0, r0⟩ := trodAll_cons hA
  obtain ⟨rfl, rfl, rfl⟩ := trodAll_nil r0
  obtain rfl : args = #[v0] := by cases args; simp_all
  obtain ⟨rfl, rfl⟩ := trodVars_none hV
  obtain ⟨a0, n0, c0, rfl⟩ := okWide_slice Try.underlying22 (hval 0 22 v0 rfl rfl)
  have lt0 : ∀ x ∈ p0, x.block < W.heap.size := by obtain ⟨m, hm⟩ := h0; exact DataW.trod_lt m _ _ _ hm
  have w0 : Bytes W a0 n0 c0 := bytes_open h0
  clear hA0 hval0
  refine (walk a0 n0 c0 W w0).mono fun e W' ⟨he, bel⟩ => ?_
  subst he
  exact ⟨_, rfl, _, _, _, [], _, [], hW', trodAll_mk1 (shut_bool Try.underlying4 _), (trodAll_cons_mk (Below.trod laidOut (by kernel_rfl) (of_decide_eq_true (by kernel_rfl)) h0 bel lt0) trodAll_mk0), rfl, bel.frame _, fun h => by cases h⟩
theorem over : Rows.fnOfPeerRow.holds Try.pinned (OpenSpec.ofChange Rows.fnOfPeerSpec) :=
  OpenClaim.holds_of_wide 4 Try.f4 rfl rfl rfl rfl rfl rfl rfl ⟨rfl, rfl, rfl, rfl, rfl⟩ rfl rfl rfl rfl rfl (by kernel_rfl) Try.func4 (by kernel_rfl)
    (of_decide_eq_true (by kernel_rfl)) (by unfold Func.isWrapper; first | (rw [if_pos (by decide +kernel)]; kernel_rfl) | (rw [if_neg (by decide +kernel)]; exact ⟨rfl, rfl⟩))
    (fun os started H enc _ => lifted os started H enc)
/-- the given statement -/
theorem proved : Rows.FnOfPeerSaid := over
end Go.Proofs.Ytfpdmolbaioojaa.fnOfPeer
