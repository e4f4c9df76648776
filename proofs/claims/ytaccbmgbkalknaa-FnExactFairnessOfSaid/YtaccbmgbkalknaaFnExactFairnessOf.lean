/-
  The law FnExactFairnessOf returns true at every argument: the program's FairnessOf answers as the model's and writes into no argument. Conditions: none.
-/
import Derived.Test.YtaccbmgbkalknaaIv
import Derived.Test.YtaccbmgbkalknaaAEx
import Derived.Test.YtaccbmgbkalknaaLiftInts
import Derived.Test.YtaccbmgbkalknaaLift
import Derived.Test.YtaccbmgbkalknaaY3
import Derived.Test.YtaccbmgbkalknaaMay
import Derived.Test.YtaccbmgbkalknaaLifts
import Derived.Test.YtaccbmgbkalknaaMake
namespace Go.Proofs.Ytaccbmgbkalknaa.fnExactFairnessOf
open Go.ChangeShapes Go.WideShapes Go.ChangeAt Go.RowKit

set_option maxHeartbeats 4000000 in
theorem walk (A : Option Addr) (n c : Nat) (us : List Int) (w : World) (h : NR w A n us) (hn : n ≤ 9223372036854775807) :
    Calls Try.prog 13 #[.slice A n c] w fun e w' => e = .returned (.bool true) ∧ Below w.heap.size w w' := by
  have H := Lib.hid h
  clear h
  by_cases hbig : n ≤ 1048576
  · have hd : decide ((1048576 : Int) < (n : Int)) = false := by simp; omega
    obtain ⟨F, hF⟩ : ∃ F, frV us = F := ⟨_, rfl⟩
    obtain ⟨ok, hok⟩ : ∃ ok, shB us = ok := ⟨_, rfl⟩
    have HF := Lib.hid hF
    have HK := Lib.hid hok
    clear hF hok
    go_enter Try.func13, Try.ntmps13
    go_wp2_with fail
    refine (toIntS_any A n c us _ H.out hbig).mono ?_
    rintro e w1 ⟨A1, rfl, ho, hb⟩
    have B1 := Lib.hid hb
    have X1 := Lib.hid (nr_own ho)
    clear ho hb
    go_wp2_with fail
    refine (frS_any A1 n n us F ok _ X1.out hn HF.out HK.out).mono ?_
    rintro e w2 ⟨rfl, hb⟩
    have B2 := Lib.hid (below_seq B1.out hb)
    clear hb X1
    go_wp2_with fail
    refine (toIntS_any A n c us _ (nr_below H.out B2.out) hbig).mono ?_
    rintro e w3 ⟨A3, rfl, ho, hb⟩
    have B3 := Lib.hid (below_seq B2.out hb)
    have X3 := Lib.hid (nr_own ho)
    clear ho hb
    go_wp2_with fail
    refine (frI_any A3 n n us F ok _ X3.out hn HF.out HK.out).mono ?_
    rintro e w4 ⟨rfl, hb⟩
    have B4 := Lib.hid (below_seq B3.out hb)
    have X4 := Lib.hid (nr_below X3.out hb)
    clear hb
    go_wp2_with fail
    refine (toIntS_any A n c us _ (nr_below H.out B4.out) hbig).mono ?_
    rintro e w5 ⟨A5, rfl, ho, hb⟩
    have B5 := Lib.hid (below_seq B4.out hb)
    have X5 := Lib.hid (nr_own ho)
    have X45 := Lib.hid (nr_below X4.out hb)
    clear ho hb
    go_wp2_with fail
    refine (eqIntS_any A3 A5 n n n n us us _ X45.out X5.out hn hn).mono ?_
    rintro e w6 ⟨rfl, hb⟩
    rw [← ints_yes rfl]
    have B6 := Lib.hid (below_seq B5.out hb)
    clear hb
    go_wp2
    go_ret
    exact ⟨rfl, B6.out⟩
  · have hd : decide ((1048576 : Int) < (n : Int)) = true := by simp; omega
    go_enter Try.func13, Try.ntmps13
    go_wp2
    go_ret
    exact ⟨rfl, Below.refl _ _⟩
theorem own : ownKnob Try.prog.godebug = none := by kernel_rfl
theorem laidOut : laidOutB Try.prog = true := by kernel_rfl
set_option maxRecDepth 100000 in
theorem lifted (os : Os) (started : os.Started) (H : Type) (enc : TypeId × Value → H) :
    ReturnsInHanded {} Try.checked os 13 .any (Rows.fnExactFairnessOfSpec.pre6 enc Try.prog Try.f13 Rows.fnExactFairnessOfRow.domain false) (Rows.fnExactFairnessOfSpec.post enc Try.prog Try.f13 false true false false) := by
  refine returnsInHanded_of_change (C := Try.checked) own started (by kernel_rfl) Try.func13
    (ChangeSpec.witness6 (enc := enc) (C := Try.checked) false ⟨#[], #[.slice none 0 0], []⟩ 8 (by kernel_rfl) (by kernel_rfl) (by kernel_rfl) (by kernel_rfl)) ?_
  intro W base args ds gs before hval0 hW _ _
  have hval : ∀ (j : Nat) t v, Try.f13.params[j]? = some t → args[j]? = some v → Value.okWide Try.prog W .any base t v := hval0
  have hW' := hW
  obtain ⟨p, q, hA0, hV, rfl, _, _⟩ := hW
  have hA : DataW.TrodAll enc Try.prog W 0 (fun _ => true) true Try.f13.params.toList args.toList ds p := hA0
  rw [Try.params13] at hA hval
  obtain ⟨v0, vs0, d0, ds0, p0, q0, hargs, rfl, rfl, h0, r0⟩ := trodAll_cons hA
  obtain ⟨rfl, rfl, rfl⟩ := trodAll_nil r0
  obtain rfl : args = #[v0] := by cases args; simp_all
  obtain ⟨rfl, rfl⟩ := trodVars_none hV
  have lt0 : ∀ x ∈ p0, x.block < W.heap.size := by obtain ⟨m, hm⟩ := h0; exact DataW.trod_lt m _ _ _ hm
  obtain ⟨a0, n0, c0, rfl⟩ := okWide_slice Try.underlying23 (hval 0 23 v0 rfl rfl)
  obtain ⟨x0, w0, m0⟩ := ints_open h0
  clear hA0 hval0
  refine (walk a0 n0 c0 x0 W w0 m0).mono fun e W' ⟨he, bel⟩ => ?_
  subst he
  exact ⟨_, rfl, _, _, _, [], _, [], hW', trodAll_mk1 (shut_bool Try.underlying4 _), (trodAll_cons_mk (Below.trod laidOut (by kernel_rfl) (of_decide_eq_true (by kernel_rfl)) h0 bel lt0) trodAll_mk0), rfl, bel.frame _, fun h => by cases h⟩
theorem over : Rows.fnExactFairnessOfRow.holds Try.pinned (OpenSpec.ofChange Rows.fnExactFairnessOfSpec) :=
  OpenClaim.holds_of_wide 13 Try.f13 rfl rfl rfl rfl rfl rfl rfl ⟨rfl, rfl, rfl, rfl, rfl⟩ rfl rfl rfl rfl rfl (by kernel_rfl) Try.func13 (by unfold joinedFacts; rw [mayEnter, liftsFinal, makeIs]; kernel_rfl)
    (of_decide_eq_true (by kernel_rfl)) (by unfold Func.isWrapper; first | (rw [if_pos (by decide +kernel)]; kernel_rfl) | (rw [if_neg (by decide +kernel)]; exact ⟨rfl, rfl⟩))
    (fun os started H enc _ => lifted os started H enc)
/-- the given statement -/
theorem proved : Rows.FnExactFairnessOfSaid := over
end Go.Proofs.Ytaccbmgbkalknaa.fnExactFairnessOf
