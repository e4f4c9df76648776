/-
  The law FnExactLeastRate returns true at every argument: the program answers as the model and writes into no argument. Conditions: none.
-/
import Derived.Test.YtclgmmnidkppmabE6
import Derived.Test.YtclgmmnidkppmabEax
import Derived.Test.YtclgmmnidkppmabMay
import Derived.Test.YtclgmmnidkppmabLifts
import Derived.Test.YtclgmmnidkppmabMake
namespace Go.Proofs.Ytclgmmnidkppmab.fnExactLeastRate
open Go.ChangeShapes Go.WideShapes Go.ChangeAt Go.RowKit

set_option maxHeartbeats 4000000 in
theorem walk (A : Option Addr) (n c : Nat) (ps : List Arr) (x : Int) (w : World) (h : AR w A n ps) (hn : n ≤ 9223372036854775807) (_ : (Lit.int .i64 x).wf = true) :
    Calls Try.prog 9 #[.slice A n c, .int .i64 x] w fun e w' => e = .returned (.bool true) ∧ Below w.heap.size w w' := by
  have H := Lib.hid h
  clear h
  by_cases hbig : n ≤ 1048576
  · go_enter Try.func9, Try.ntmps9
    go_wp2_with fail
    refine (szArrS_any A n c 1048576 _ hn (by omega)).mono ?_
    rintro e w1 ⟨rfl, rfl⟩
    rw [if_neg (by omega)]
    have hd : 0 ≤ (1048576 : Int) - (n : Int) := by omega
    go_wp2_with fail
    refine (toArrS_any A n c ps _ H.out hbig).mono ?_
    rintro e w2 ⟨rfl, h2a, h2b⟩
    have HX2 := Lib.hid (ar_own h2a)
    have H2 := Lib.hid (ar_below H.out h2b)
    have HB2 := Lib.hid h2b
    clear h2a h2b
    go_wp2_with fail
    refine (lrS_any _ n n ps x _ HX2.out (by omega)).mono ?_
    rintro e w3 ⟨v, ok, rfl, hlr, hb3⟩
    have H3 := Lib.hid (ar_below H2.out hb3)
    have HB3 := Lib.hid (below_seq HB2.out hb3)
    clear hb3
    go_wp2_with fail
    refine (toArrS_any A n c ps _ H3.out hbig).mono ?_
    rintro e w4 ⟨rfl, h4a, h4b⟩
    have HX4 := Lib.hid (ar_own h4a)
    have H4 := Lib.hid (ar_below H3.out h4b)
    have HB4 := Lib.hid (below_seq HB3.out h4b)
    clear h4a h4b
    go_wp2_with fail
    refine (lrI_any _ n n ps x _ HX4.out (by omega)).mono ?_
    rintro e w5 ⟨v2, ok2, rfl, hlr2, hb5⟩
    obtain ⟨rfl, rfl⟩ := lr_uniq hlr hlr2
    clear hlr hlr2
    have H5 := Lib.hid (ar_below H4.out hb5)
    have HX5 := Lib.hid (ar_below HX4.out hb5)
    have HB5 := Lib.hid (below_seq HB4.out hb5)
    clear hb5
    go_wp2_with fail
    refine (toArrS_any A n c ps _ H5.out hbig).mono ?_
    rintro e w6 ⟨rfl, h6a, h6b⟩
    have HY6 := Lib.hid (ar_own h6a)
    have HX6 := Lib.hid (ar_below HX5.out h6b)
    have HB6 := Lib.hid (below_seq HB5.out h6b)
    clear h6a h6b
    go_wp2_with fail
    refine (eqArrS_any _ _ n n n n ps ps _ HX6.out HY6.out (by omega) (by omega)).mono ?_
    rintro e w7 ⟨rfl, hb7⟩
    rw [← sameA_yes rfl]
    have HB7 := Lib.hid (below_seq HB6.out hb7)
    clear hb7
    go_wp2
    go_ret
    exact ⟨rfl, HB7.out⟩
  · go_enter Try.func9, Try.ntmps9
    go_wp2_with fail
    refine (szArrS_any A n c 1048576 _ hn (by omega)).mono ?_
    rintro e w1 ⟨rfl, rfl⟩
    rw [if_pos (by omega)]
    go_wp2
    go_ret
    exact ⟨rfl, Below.refl _ _⟩
theorem own : ownKnob Try.prog.godebug = none := by kernel_rfl
theorem laidOut : laidOutB Try.prog = true := by kernel_rfl
set_option maxRecDepth 100000 in
theorem lifted (os : Os) (started : os.Started) (H : Type) (enc : TypeId × Value → H) :
    ReturnsInHanded {} Try.checked os 9 .any (Rows.fnExactLeastRateSpec.pre6 enc Try.prog Try.f9 Rows.fnExactLeastRateRow.domain false) (Rows.fnExactLeastRateSpec.post enc Try.prog Try.f9 false true false false) := by
  refine returnsInHanded_of_change (C := Try.checked) own started (by kernel_rfl) Try.func9
    (ChangeSpec.witness6 (enc := enc) (C := Try.checked) false ⟨#[], #[.slice none 0 0, .int .i64 0], []⟩ 8 (by kernel_rfl) (by kernel_rfl) (by kernel_rfl) (by kernel_rfl)) ?_
  intro W base args ds gs before hval0 hW _ _
  have hval : ∀ (j : Nat) t v, Try.f9.params[j]? = some t → args[j]? = some v → Value.okWide Try.prog W .any base t v := hval0
  have hW' := hW
  obtain ⟨p, q, hA0, hV, rfl, _, _⟩ := hW
  have hA : DataW.TrodAll enc Try.prog W 0 (fun _ => true) true Try.f9.params.toList args.toList ds p := hA0
  rw [Try.params9] at hA hval
  obtain ⟨v0, vs0, d0, ds0, p0, q0, hargs, rfl, rfl, h0, r0⟩ := trodAll_cons hA
  obtain ⟨v1, vs1, d1, ds1, p1, q1, rfl, rfl, rfl, h1, r1⟩ := trodAll_cons r0
  obtain ⟨rfl, rfl, rfl⟩ := trodAll_nil r1
  obtain rfl : args = #[v0, v1] := by cases args; simp_all
  obtain ⟨rfl, rfl⟩ := trodVars_none hV
  have lt0 : ∀ x ∈ p0, x.block < W.heap.size := by obtain ⟨m, hm⟩ := h0; exact DataW.trod_lt m _ _ _ hm
  obtain ⟨a0, n0, c0, rfl⟩ := okWide_slice Try.underlying34 (hval 0 34 v0 rfl rfl)
  obtain ⟨x0, w0, m0⟩ := arrs_open h0
  obtain ⟨x1, rfl, rfl, rfl, w1⟩ := open_int Try.underlying3 (hval 1 3 v1 rfl rfl) h1
  clear hA0 hval0
  refine (walk a0 n0 c0 x0 x1 W w0 m0 w1).mono fun e W' ⟨he, bel⟩ => ?_
  subst he
  exact ⟨_, rfl, _, _, _, [], _, [], hW', trodAll_mk1 (shut_bool Try.underlying4 _), (trodAll_cons_mk (Below.trod laidOut (by kernel_rfl) (of_decide_eq_true (by kernel_rfl)) h0 bel lt0) (trodAll_cons_mk (shut_int Try.underlying3 w1) trodAll_mk0)), rfl, bel.frame _, fun h => by cases h⟩
theorem over : Rows.fnExactLeastRateRow.holds Try.pinned (OpenSpec.ofChange Rows.fnExactLeastRateSpec) :=
  OpenClaim.holds_of_wide 9 Try.f9 rfl rfl rfl rfl rfl rfl rfl ⟨rfl, rfl, rfl, rfl, rfl⟩ rfl rfl rfl rfl rfl (by kernel_rfl) Try.func9 (by unfold joinedFacts; rw [mayEnter, liftsFinal, makeIs]; kernel_rfl)
    (of_decide_eq_true (by kernel_rfl)) (by unfold Func.isWrapper; first | (rw [if_pos (by decide +kernel)]; kernel_rfl) | (rw [if_neg (by decide +kernel)]; exact ⟨rfl, rfl⟩))
    (fun os started H enc _ => lifted os started H enc)
/-- the given statement -/
theorem proved : Rows.FnExactLeastRateSaid := over
end Go.Proofs.Ytclgmmnidkppmab.fnExactLeastRate
