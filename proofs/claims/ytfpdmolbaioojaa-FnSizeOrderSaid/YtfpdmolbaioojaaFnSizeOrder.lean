/-
  The law FnSizeOrder returns true at every argument: the size of a list of packets is that of the list turned round. Conditions: none.
-/
import Derived.Test.YtfpdmolbaioojaaLift
import Derived.Test.YtfpdmolbaioojaaDrawList
import Derived.Test.YtfpdmolbaioojaaC1
namespace Go.Proofs.Ytfpdmolbaioojaa.fnSizeOrder
open Go.ChangeShapes Go.WideShapes Go.ChangeAt Go.RowKit

theorem sum_rev (ps : List Pkt) : sizeSum ps.reverse = sizeSum ps := by
  induction ps with
  | nil => rfl
  | cons p r ih => rw [List.reverse_cons, sizeSum_snoc, ih, sizeSum]; omega
theorem ok_rev (ps : List Pkt) : okB ps.reverse = okB ps := by simp [okB]
theorem sz_rev (ps : List Pkt) : szN ps.reverse = szN ps := by simp only [szN, ok_rev, sum_rev]
theorem drop_step {ps : List Pkt} {m : Nat} {p : Pkt} (h : ps[m]? = some p) : (ps.drop m).reverse = (ps.drop (m + 1)).reverse ++ [p] := by
  have hm : m < ps.length := by
    rcases Nat.lt_or_ge m ps.length with hl | hl
    · exact hl
    · rw [List.getElem?_eq_none hl] at h; cases h
  have e : ps[m] = p := by rw [List.getElem?_eq_getElem hm] at h; injection h
  rw [List.drop_eq_getElem_cons hm, List.reverse_cons, e]
def BackRel (w : World) (ps : List Pkt) (n : Nat) (v i : Value) (wr : World) : Prop :=
  ∃ (j : Int) (k : Nat), i = .int .i64 j ∧ (k : Int) = j + 1 ∧ k ≤ n ∧ wr.ownsRow w.heap.size 33 4 v (n - k) (pcells (ps.drop k).reverse) ∧ Below w.heap.size w wr
theorem back_start (w : World) (ps : List Pkt) (n : Nat) (hl : ps.length = n) : BackRel w ps n (.slice (some ⟨w.heap.size, 0, none⟩) 0 0) (.int .i64 ((n : Int) - 1)) (w.alloc (.cells #[] 33)) := by
  refine ⟨(n : Int) - 1, n, rfl, by omega, Nat.le_refl _, ?_, below_alloc (Below.refl _ _) _⟩
  rw [List.drop_eq_nil_of_le (by omega), Nat.sub_self]
  exact ⟨rfl, .inr ⟨w.heap.size, 0, #[], rfl, Nat.le_refl _, blk_new w _ _, Nat.le_refl _, by unfold maxLen; omega, rfl, rfl⟩⟩
theorem grown_own {w w1 w2 : World} {base : Nat} {v : Value} {n : Nat} {xs : List Value} {e : TypeId} (ho : w1.ownsRow base e 4 v n xs) (hb : Below base w w1) {o : Obj} {w1' : World} (h1 : w1' = w1.alloc o) (hg : w1'.grownBy w2 v.ownBlock) (hs : base ≤ w1.heap.size) : Below base w w2 := by
  subst h1
  exact (hb.alloc hs o).grown hg (by simp; omega) fun k hk => (ho.lt k hk).1
set_option maxHeartbeats 1000000 in
theorem walk (A : Option Addr) (n c : Nat) (w : World) (h : Bytes w A n c) :
    Calls Try.prog 5 #[.slice A n c] w fun e w' => e = .returned (.bool true) ∧ Below w.heap.size w w' := by
  have HB := Lib.hid h
  clear h
  by_cases hbig : n ≤ 1048576
  · go_enter Try.func5, Try.ntmps5
    go_wp2_with fail
    refine (drawSizeOf_any A n c _ HB.out).mono ?_
    rintro e w1 ⟨A1, n1, c1, ps, rfl, hn9, hnc, hcm, hpr, hb1⟩
    have HP := Lib.hid hpr
    have HB1 := Lib.hid hb1
    clear hpr hb1
    go_wp2_with fail
    refine (sizeI_any A1 n1 c1 ps _ HP.out (by omega)).mono ?_
    rintro e w2 ⟨rfl, hb2⟩
    have HP2 := Lib.hid (pr_below HP.out hb2)
    have HB2 := Lib.hid (below_seq HB1.out hb2)
    clear hb2
    go_wp2_with fail
    refine (sizeS_any A1 n1 c1 ps _ HP2.out (by omega)).mono ?_
    rintro e w3 ⟨rfl, hb3⟩
    have HP3 := Lib.hid (pr_below HP2.out hb3)
    have HB3 := Lib.hid (below_seq HB2.out hb3)
    clear hb3
    rcases hok : okB ps with _ | _
    · have hz := sz_no hok
      rw [hz]
      clear hz hok
      go_wp2
      go_ret
      exact ⟨rfl, HB3.out⟩
    · have HK := Lib.hid hok
      clear hok
      have HS := Lib.hid (back_start w3 ps n1 HP.out.1)
      unfold maxLen at hcm
      go_wp2
      go_loopw [8, 9] (fun v i wr => BackRel w3 ps n1 v i wr) (fun _ i _ => (intOf i + 1).toNat)
      case atStart => exact HS.out
      case round =>
        obtain ⟨j, k, rfl, hjk, hk, ho, hbl⟩ := hrel
        clear HS
        by_cases hj : 0 ≤ j
        · obtain ⟨m, rfl⟩ : ∃ m : Nat, j = m := ⟨j.toNat, by omega⟩
          obtain rfl : k = m + 1 := by omega
          obtain ⟨b, off, p, rfl, hb, hp, d0, d1, d2, d3⟩ := pr_at (k := m) (pr_below HP3.out hbl) (by omega)
          have HX := Lib.hid hp
          have hsz := hbl.size
          have HBL := Lib.hid hbl
          have HO := Lib.hid ho
          clear hp hbl ho hjk
          go_wp2_with (at_builtin; refine wp_app_pkt _ rfl (.tmp 55) (.tmp 60) rfl w3.heap.size u8 (n1 - (m + 1)) _ p rfl HO.out _ rfl rfl (by omega) (by omega) ?_; intro v' w4 hown3 hg3)
          have L := grown_own HO.out HBL.out rfl hg3 hsz
          clear hg3
          have HL := Lib.hid L
          clear L
          go_wp2
          go_roundw
          case rel => exact ⟨(m : Int) - 1, m, rfl, by omega, by omega, by rw [drop_step HX.out, show n1 - m = n1 - (m + 1) + 1 from by omega]; exact hown3, HL.out⟩
          case measure => simp [intOf]
        · obtain rfl : k = 0 := by omega
          obtain ⟨Ab, cb, rfl, _, _, _⟩ := own_form ho
          have HO := Lib.hid (pr_own ho)
          have HBL := Lib.hid (below_seq HB3.out hbl)
          clear ho hbl hjk
          go_wp2_with fail
          refine (sizeI_any Ab n1 cb ps.reverse _ (by have := HO.out; simpa using this) (by omega)).mono ?_
          rintro e w5 ⟨rfl, hb5⟩
          rw [sz_rev, ok_rev, HK.out]
          have HB5 := Lib.hid (below_seq HBL.out hb5)
          clear hb5
          go_wp2
          go_ret
          exact ⟨rfl, HB5.out⟩
  · go_enter Try.func5, Try.ntmps5
    go_wp2
    go_ret
    exact ⟨rfl, Below.refl _ _⟩
theorem own : ownKnob Try.prog.godebug = none := by kernel_rfl
theorem laidOut : laidOutB Try.prog = true := by kernel_rfl
set_option maxRecDepth 100000 in
theorem lifted (os : Os) (started : os.Started) (H : Type) (enc : TypeId × Value → H) :
    ReturnsInHanded {} Try.checked os 5 .any (Rows.fnSizeOrderSpec.pre6 enc Try.prog Try.f5 Rows.fnSizeOrderRow.domain false) (Rows.fnSizeOrderSpec.post enc Try.prog Try.f5 false true false false) := by
  refine returnsInHanded_of_change (C := Try.checked) own started (by kernel_rfl) Try.func5
    (ChangeSpec.witness6 (enc := enc) (C := Try.checked) false ⟨#[], #[.slice none 0 0], []⟩ 8 (by kernel_rfl) (by kernel_rfl) (by kernel_rfl) (by kernel_rfl)) ?_
  intro W base args ds gs before hval0 hW _ _
  have hval : ∀ (j : Nat) t v, Try.f5.params[j]? = some t → args[j]? = some v → Value.okWide Try.prog W .any base t v := hval0
  have hW' := hW
  obtain ⟨p, q, hA0, hV, rfl, _, _⟩ := hW
  have hA : DataW.TrodAll enc Try.prog W 0 (fun _ => true) true Try.f5.params.toList args.toList ds p := hA0
  rw [Try.params5] at hA hval
  obtain ⟨v0, vs0, d0, ds0, p0, q0, hargs, rfl, rfl, h0, r0⟩ := trodAll_cons hA
  obtain ⟨rfl, rfl, rfl⟩ := trodAll_nil r0
  obtain rfl : args = #[v0] := by cases args; simp_all
  obtain ⟨rfl, rfl⟩ := trodVars_none hV
  obtain ⟨a0, n0, c0, rfl⟩ := okWide_slice Try.underlying22 (hval 0 22 v0 rfl rfl)
  have lt0 : ∀ x ∈ p0, x.block < W.heap.size := by obtain ⟨m, hm⟩ := h0; exact DataW.trod_lt m _ _ _ hm
  have w0 : Bytes W a0 n0 c0 := bytes_open h0
  clear hA0 hval0
  refine (walk a0 n0 c0 W w0).mono fun e W' ⟨he, bel⟩ => ?_
  subst he
  exact ⟨_, rfl, _, _, _, [], _, [], hW', trodAll_mk1 (shut_bool Try.underlying4 _), (trodAll_cons_mk (Below.trod laidOut (by kernel_rfl) (of_decide_eq_true (by kernel_rfl)) h0 bel lt0) trodAll_mk0), rfl, bel.frame _, fun h => by cases h⟩
theorem over : Rows.fnSizeOrderRow.holds Try.pinned (OpenSpec.ofChange Rows.fnSizeOrderSpec) :=
  OpenClaim.holds_of_wide 5 Try.f5 rfl rfl rfl rfl rfl rfl rfl ⟨rfl, rfl, rfl, rfl, rfl⟩ rfl rfl rfl rfl rfl (by kernel_rfl) Try.func5 (by kernel_rfl)
    (of_decide_eq_true (by kernel_rfl)) (by unfold Func.isWrapper; first | (rw [if_pos (by decide +kernel)]; kernel_rfl) | (rw [if_neg (by decide +kernel)]; exact ⟨rfl, rfl⟩))
    (fun os started H enc _ => lifted os started H enc)
/-- the given statement -/
theorem proved : Rows.FnSizeOrderSaid := over
end Go.Proofs.Ytfpdmolbaioojaa.fnSizeOrder
