/-
  The law FnSizeOf returns true at every argument: the sizes of two parts of a list of packets add up. Conditions: none.
-/
import Derived.Test.YtfpdmolbaioojaaLift
import Derived.Test.YtfpdmolbaioojaaDrawList
import Derived.Test.YtfpdmolbaioojaaC1
namespace Go.Proofs.Ytfpdmolbaioojaa.fnSizeOf
open Go.ChangeShapes Go.WideShapes Go.ChangeAt Go.RowKit

theorem sum_append (a b : List Pkt) : sizeSum (a ++ b) = sizeSum a + sizeSum b := by
  induction a with
  | nil => simp [sizeSum]
  | cons p r ih => simp only [List.cons_append, sizeSum, ih]; omega
theorem ok_part {ps qs : List Pkt} (h : okB ps = true) (hl : qs.length ≤ ps.length) (hm : ∀ x ∈ qs, x ∈ ps) : okB qs = true := by
  have h1 := ok_of h
  have h2 : qs.all vldB = true := List.all_eq_true.2 fun x hx => List.all_eq_true.1 h1.2 x (hm x hx)
  have h3 : qs.length ≤ 64 := Nat.le_trans hl h1.1
  simp [okB, h2, h3]
theorem parts {ps : List Pkt} (h : okB ps = true) (k : Nat) : okB (ps.take k) = true ∧ okB (ps.drop k) = true ∧ szN (ps.take k) + szN (ps.drop k) = szN ps ∧ (ps.length : Int) ≤ szN ps ∧
    0 ≤ szN (ps.take k) ∧ szN (ps.take k) ≤ 6400 ∧ 0 ≤ szN (ps.drop k) ∧ szN (ps.drop k) ≤ 6400 := by
  have a := ok_part (qs := ps.take k) h (List.length_take_le' k ps) fun x hx => List.mem_of_mem_take hx
  have b := ok_part (qs := ps.drop k) h (by rw [List.length_drop]; omega) fun x hx => List.mem_of_mem_drop hx
  have s := sum_append (ps.take k) (ps.drop k)
  rw [List.take_append_drop] at s
  have c := sum_bound ps (ok_of h).2
  have c1 := sum_bound (ps.take k) (ok_of a).2
  have c2 := sum_bound (ps.drop k) (ok_of b).2
  have d1 := (ok_of a).1
  have d2 := (ok_of b).1
  rw [sz_yes a, sz_yes b, sz_yes h]
  exact ⟨a, b, by omega, by omega, by omega, by omega, by omega, by omega⟩

theorem pr_drop2 {w : World} {A : Option Addr} {n c k : Nat} {ps : List Pkt} (h : PR w A n ps) (hk : k ≤ n) (hc : n ≤ c) (hne : ¬ c = k) : PR w (A.map (fun x => x.add (k * 4))) (n - k) (ps.drop k) := by
  have := pr_drop h hk hc
  rw [if_neg hne] at this
  exact this
set_option maxHeartbeats 1000000 in
theorem walk (A : Option Addr) (n c : Nat) (w : World) (h : Bytes w A n c) :
    Calls Try.prog 3 #[.slice A n c] w fun e w' => e = .returned (.bool true) ∧ Below w.heap.size w w' := by
  have HB := Lib.hid h
  clear h
  by_cases hbig : n ≤ 1048576
  · go_enter Try.func3, Try.ntmps3
    go_wp2_with fail
    refine (drawSizeOf_any A n c _ HB.out).mono ?_
    rintro e w1 ⟨A1, n1, c1, ps, rfl, hn9, hnc, hcm, hpr, hb1⟩
    have HP := Lib.hid hpr
    have HB1 := Lib.hid hb1
    clear hpr hb1
    go_wp2_with fail
    refine (sizeI_any A1 n1 c1 ps _ HP.out (by omega)).mono ?_
    rintro e w2 ⟨rfl, hb2⟩
    have HP2 := Lib.hid (pr_below HP.out hb2)
    have HB2 := Lib.hid (below_seq HB1.out hb2)
    clear hb2
    go_wp2_with fail
    refine (sizeS_any A1 n1 c1 ps _ HP2.out (by omega)).mono ?_
    rintro e w3 ⟨rfl, hb3⟩
    have HP3 := Lib.hid (pr_below HP2.out hb3)
    have HB3 := Lib.hid (below_seq HB2.out hb3)
    clear hb3
    by_cases hn0 : n1 = 0
    · obtain rfl : ps = [] := List.eq_nil_of_length_eq_zero (by have := HP.out.1; omega)
      subst hn0
      clear hn9
      have z0 : szN [] = 0 := rfl
      have z1 : okB [] = true := rfl
      rw [z0, z1]
      have Z0 := Lib.hid z0
      have Z1 := Lib.hid z1
      clear z0 z1
      go_wp2_with fail
      refine (sizeI_any _ 0 _ [] _ (pr_nil _ _) (by omega)).mono ?_
      rintro e w4 ⟨rfl, hb4⟩
      rw [Z0.out, Z1.out]
      have HB4 := Lib.hid (below_seq HB3.out hb4)
      clear hb4
      go_wp2_with fail
      all_goals
        refine (sizeI_any _ 0 _ [] _ (pr_nil _ _) (by omega)).mono ?_
        rintro e w5 ⟨rfl, hb5⟩
        rw [Z0.out, Z1.out]
        have HB5 := Lib.hid (below_seq HB4.out hb5)
        clear hb5
        go_wp2
        go_ret
        exact ⟨rfl, HB5.out⟩
    · have hne : ¬ c1 = n1 / 2 := by omega
      rcases hok : okB ps with _ | _
      · have hz := sz_no hok
        rw [hz]
        clear hz hok
        go_wp2
        go_ret
        exact ⟨rfl, HB3.out⟩
      · have HO := Lib.hid (parts hok (n1 / 2))
        clear hok
        unfold maxLen at hcm
        go_wp2_with fail
        refine (sizeI_any A1 (n1 / 2) c1 (ps.take (n1 / 2)) _ (pr_take HP3.out (by omega)) (by omega)).mono ?_
        rintro e w4 ⟨rfl, hb4⟩
        rw [HO.out.1]
        have HP4 := Lib.hid (pr_below HP3.out hb4)
        have HB4 := Lib.hid (below_seq HB3.out hb4)
        clear hb4
        go_wp2_with fail
        refine (sizeI_any _ (n1 - n1 / 2) (c1 - n1 / 2) (ps.drop (n1 / 2)) _ (pr_drop2 HP4.out (by omega) hnc hne) (by omega)).mono ?_
        rintro e w5 ⟨rfl, hb5⟩
        rw [HO.out.2.1]
        have HB5 := Lib.hid (below_seq HB4.out hb5)
        clear hb5
        have e1 : (szN (ps.take (n1 / 2)) + szN (ps.drop (n1 / 2)) == szN ps) = true := by rw [HO.out.2.2.1]; simp
        have e2 : (n1 : Int) ≤ szN ps := by have := HO.out.2.2.2.1; have := HP.out.1; omega
        obtain ⟨e3, e4, e5, e6⟩ := HO.out.2.2.2.2
        clear hnc hcm hn9
        go_wp2
        go_ret
        exact ⟨rfl, HB5.out⟩
  · go_enter Try.func3, Try.ntmps3
    go_wp2
    go_ret
    exact ⟨rfl, Below.refl _ _⟩
theorem own : ownKnob Try.prog.godebug = none := by kernel_rfl
theorem laidOut : laidOutB Try.prog = true := by kernel_rfl
set_option maxRecDepth 100000 in
theorem lifted (os : Os) (started : os.Started) (H : Type) (enc : TypeId × Value → H) :
    ReturnsInHanded {} Try.checked os 3 .any (Rows.fnSizeOfSpec.pre6 enc Try.prog Try.f3 Rows.fnSizeOfRow.domain false) (Rows.fnSizeOfSpec.post enc Try.prog Try.f3 false true false false) := by
  refine returnsInHanded_of_change (C := Try.checked) own started (by kernel_rfl) Try.func3
    (ChangeSpec.witness6 (enc := enc) (C := Try.checked) false ⟨#[], #[.slice none 0 0], []⟩ 8 (by kernel_rfl) (by kernel_rfl) (by kernel_rfl) (by kernel_rfl)) ?_
  intro W base args ds gs before hval0 hW _ _
  have hval : ∀ (j : Nat) t v, Try.f3.params[j]? = some t → args[j]? = some v → Value.okWide Try.prog W .any base t v := hval0
  have hW' := hW
  obtain ⟨p, q, hA0, hV, rfl, _, _⟩ := hW
  have hA : DataW.TrodAll enc Try.prog W 0 (fun _ => true) true Try.f3.params.toList args.toList ds p := hA0
  rw [Try.params3] at hA hval
  obtain ⟨v0, vs0, d0, ds0, p0, q0, hargs, rfl, rfl, h0, r0⟩ := trodAll_cons hA
  obtain ⟨rfl, rfl, rfl⟩ := trodAll_nil r0
  obtain rfl : args = #[v0] := by cases args; simp_all
  obtain ⟨rfl, rfl⟩ := trodVars_none hV
  obtain ⟨a0, n0, c0, rfl⟩ := okWide_slice Try.underlying22 (hval 0 22 v0 rfl rfl)
  have lt0 : ∀ x ∈ p0, x.block < W.heap.size := by obtain ⟨m, hm⟩ := h0; exact DataW.trod_lt m _ _ _ hm
  have w0 : Bytes W a0 n0 c0 := bytes_open h0
  clear hA0 hval0
  refine (walk a0 n0 c0 W w0).mono fun e W' ⟨he, bel⟩ => ?_
  subst he
  exact ⟨_, rfl, _, _, _, [], _, [], hW', trodAll_mk1 (shut_bool Try.underlying4 _), (trodAll_cons_mk (Below.trod laidOut (by kernel_rfl) (of_decide_eq_true (by kernel_rfl)) h0 bel lt0) trodAll_mk0), rfl, bel.frame _, fun h => by cases h⟩
theorem over : Rows.fnSizeOfRow.holds Try.pinned (OpenSpec.ofChange Rows.fnSizeOfSpec) :=
  OpenClaim.holds_of_wide 3 Try.f3 rfl rfl rfl rfl rfl rfl rfl ⟨rfl, rfl, rfl, rfl, rfl⟩ rfl rfl rfl rfl rfl (by kernel_rfl) Try.func3 (by kernel_rfl)
    (of_decide_eq_true (by kernel_rfl)) (by unfold Func.isWrapper; first | (rw [if_pos (by decide +kernel)]; kernel_rfl) | (rw [if_neg (by decide +kernel)]; exact ⟨rfl, rfl⟩))
    (fun os started H enc _ => lifted os started H enc)
/-- the given statement -/
theorem proved : Rows.FnSizeOfSaid := over
end Go.Proofs.Ytfpdmolbaioojaa.fnSizeOf
