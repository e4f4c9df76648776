/-
  The law FnPacketsSame returns true at every argument: two lists are the same exactly if their texts are. Conditions: the listed tables of the library hold what their text lays (the card ties them).
-/
import Derived.Test.YtlnbhbjibkgjgaaDoorLift
import Derived.Test.YtlnbhbjibkgjgaaDoorJoinInj
import Derived.Test.YtlnbhbjibkgjgaaDoorC1c
import Derived.Test.YtlnbhbjibkgjgaaDoorTab
namespace Go.Proofs.YtlnbhbjibkgjgaaDoor.fnPacketsSame
open Go.ChangeShapes Go.WideShapes Go.ChangeAt Go.RowKit

set_option maxRecDepth 100000 in
set_option maxHeartbeats 8000000 in
theorem walk (A : Option Addr) (n c : Nat) (w : World) (h : Bytes w A n c) (ht : Tab w) :
    Calls Tryd.prog 5 #[.slice A n c] w fun e w' => e = .returned (.bool true) ∧ Below w.heap.size w w' := by
  have HB := Lib.hid h
  have HT := Lib.hid ht
  clear h ht
  by_cases hbig : ¬ n ≤ 1048576
  · go_enter Tryd.func5, Tryd.ntmps5
    go_wp2
    go_ret
    exact ⟨rfl, Below.refl _ _⟩
  have hbig' : n ≤ 1048576 := by omega
  clear hbig
  go_enter Tryd.func5, Tryd.ntmps5
  go_wp2_with fail
  refine (drawPacketsSame_any A n c _ HB.out).mono ?_
  rintro e w1 ⟨A1, m, c1, A2, c2, ps, qs, rfl, hm, hvp, hvq, hp, hq, hb⟩
  have P1 := Lib.hid hp
  have Q1 := Lib.hid hq
  have B1 := Lib.hid hb
  have VP := Lib.hid hvp
  have VQ := Lib.hid hvq
  have OP := Lib.hid (ok_vld hvp (by have := hp.1; omega))
  have OQ := Lib.hid (ok_vld hvq (by have := hq.1; omega))
  clear hp hq hb hvp hvq
  by_cases hpq : ps = qs
  · subst hpq
    go_wp2_with fail
    refine (sameI_any A1 A2 m c1 m c2 ps ps _ P1.out Q1.out (by omega) (by omega)).mono ?_
    rintro e w2 ⟨rfl, hb⟩
    rw [← same_yes (ps := ps) (qs := ps) rfl]
    have P2 := Lib.hid (pr_below P1.out hb)
    have Q2 := Lib.hid (pr_below Q1.out hb)
    have B2 := Lib.hid (below_seq B1.out hb)
    clear hb
    go_wp2_with fail
    refine (sameS_any A1 A2 m c1 m c2 ps ps _ P2.out Q2.out (by omega) (by omega)).mono ?_
    rintro e w3 ⟨rfl, hb⟩
    rw [← same_yes (ps := ps) (qs := ps) rfl]
    have P3 := Lib.hid (pr_below P2.out hb)
    have Q3 := Lib.hid (pr_below Q2.out hb)
    have B3 := Lib.hid (below_seq B2.out hb)
    clear hb
    go_wp2_with fail
    refine (sameI_any A2 A1 m c2 m c1 ps ps _ Q3.out P3.out (by omega) (by omega)).mono ?_
    rintro e w4 ⟨rfl, hb⟩
    rw [← same_yes (ps := ps) (qs := ps) rfl]
    have P4 := Lib.hid (pr_below P3.out hb)
    have Q4 := Lib.hid (pr_below Q3.out hb)
    have B4 := Lib.hid (below_seq B3.out hb)
    clear hb
    go_wp2_with fail
    refine (sameI_any A1 A1 m c1 m c1 ps ps _ P4.out P4.out (by omega) (by omega)).mono ?_
    rintro e w5 ⟨rfl, hb⟩
    rw [← same_yes (ps := ps) (qs := ps) rfl]
    have P5 := Lib.hid (pr_below P4.out hb)
    have Q5 := Lib.hid (pr_below Q4.out hb)
    have B5 := Lib.hid (below_seq B4.out hb)
    clear hb
    obtain ⟨T, hT⟩ : ∃ T, T = strJ ps := ⟨_, rfl⟩
    have HJ := Lib.hid hT
    clear hT
    go_wp2_with fail
    refine (fmtsI_yes A1 m c1 ps _ P5.out (by omega) OP.out (tab_below HT.out B5.out)).mono ?_
    rintro e w6 ⟨rfl, hb⟩
    rw [← HJ.out]
    have P6 := Lib.hid (pr_below P5.out hb)
    have Q6 := Lib.hid (pr_below Q5.out hb)
    have B6 := Lib.hid (below_seq B5.out hb)
    clear hb
    go_wp2_with fail
    refine (fmtsI_yes A2 m c2 ps _ Q6.out (by omega) OP.out (tab_below HT.out B6.out)).mono ?_
    rintro e w7 ⟨rfl, hb⟩
    rw [← HJ.out]
    have P7 := Lib.hid (pr_below P6.out hb)
    have Q7 := Lib.hid (pr_below Q6.out hb)
    have B7 := Lib.hid (below_seq B6.out hb)
    clear hb
    go_wp2
    all_goals
      go_ret
      exact ⟨rfl, B7.out⟩
  · have HN := Lib.hid hpq
    clear hpq
    go_wp2_with fail
    refine (sameI_any A1 A2 m c1 m c2 ps qs _ P1.out Q1.out (by omega) (by omega)).mono ?_
    rintro e w2 ⟨rfl, hb⟩
    rw [← same_no HN.out]
    have P2 := Lib.hid (pr_below P1.out hb)
    have Q2 := Lib.hid (pr_below Q1.out hb)
    have B2 := Lib.hid (below_seq B1.out hb)
    clear hb
    go_wp2_with fail
    refine (sameS_any A1 A2 m c1 m c2 ps qs _ P2.out Q2.out (by omega) (by omega)).mono ?_
    rintro e w3 ⟨rfl, hb⟩
    rw [← same_no HN.out]
    have P3 := Lib.hid (pr_below P2.out hb)
    have Q3 := Lib.hid (pr_below Q2.out hb)
    have B3 := Lib.hid (below_seq B2.out hb)
    clear hb
    go_wp2_with fail
    refine (sameI_any A2 A1 m c2 m c1 qs ps _ Q3.out P3.out (by omega) (by omega)).mono ?_
    rintro e w4 ⟨rfl, hb⟩
    rw [← same_no (fun e => HN.out e.symm)]
    have P4 := Lib.hid (pr_below P3.out hb)
    have Q4 := Lib.hid (pr_below Q3.out hb)
    have B4 := Lib.hid (below_seq B3.out hb)
    clear hb
    go_wp2_with fail
    refine (sameI_any A1 A1 m c1 m c1 ps ps _ P4.out P4.out (by omega) (by omega)).mono ?_
    rintro e w5 ⟨rfl, hb⟩
    rw [← same_yes (ps := ps) (qs := ps) rfl]
    have P5 := Lib.hid (pr_below P4.out hb)
    have Q5 := Lib.hid (pr_below Q4.out hb)
    have B5 := Lib.hid (below_seq B4.out hb)
    clear hb
    have hne : ¬ strJ ps = strJ qs := fun e => HN.out (strJ_inj VP.out VQ.out e)
    obtain ⟨T, hT⟩ : ∃ T, T = strJ ps := ⟨_, rfl⟩
    obtain ⟨U, hU⟩ : ∃ U, U = strJ qs := ⟨_, rfl⟩
    have HJ := Lib.hid hT
    have HU := Lib.hid hU
    rw [← hT, ← hU] at hne
    have hbe : (T.toList == U.toList) = false := by
      rw [beq_eq_false_iff_ne, Go.ByteArray.toList_eq, Go.ByteArray.toList_eq]
      exact fun e => hne ((str_eq e).trans (str_eq rfl).symm)
    clear hT hU
    go_wp2_with fail
    refine (fmtsI_yes A1 m c1 ps _ P5.out (by omega) OP.out (tab_below HT.out B5.out)).mono ?_
    rintro e w6 ⟨rfl, hb⟩
    rw [← HJ.out]
    have P6 := Lib.hid (pr_below P5.out hb)
    have Q6 := Lib.hid (pr_below Q5.out hb)
    have B6 := Lib.hid (below_seq B5.out hb)
    clear hb
    go_wp2_with fail
    refine (fmtsI_yes A2 m c2 qs _ Q6.out (by omega) OQ.out (tab_below HT.out B6.out)).mono ?_
    rintro e w7 ⟨rfl, hb⟩
    rw [← HU.out]
    have P7 := Lib.hid (pr_below P6.out hb)
    have Q7 := Lib.hid (pr_below Q6.out hb)
    have B7 := Lib.hid (below_seq B6.out hb)
    clear hb
    go_wp2
    all_goals
      go_ret
      exact ⟨rfl, B7.out⟩
theorem own : ownKnob Tryd.prog.godebug = none := by kernel_rfl
theorem laidOut : laidOutB Tryd.prog = true := by kernel_rfl
theorem table {W : World} (h : laidMetH Tryd.prog Rows.fnPacketsSameRow.laid W) : Tab W := by
  have h1 : laidMet Tryd.prog [("math/bits.deBruijn32tab", Rows.laid_math_bits_deBruijn32tab), ("math/bits.deBruijn64tab", Rows.laid_math_bits_deBruijn64tab), ("internal/strconv.uint64pow10", Rows.laid_internal_strconv_uint64pow10)] W := h
  exact table_of h1
set_option maxRecDepth 100000 in
theorem contract (H : Type) (enc : TypeId × Value → H) (W : World) (base : Nat) (args : Array Value) (ds gs : List (DataW H)) (before : List MemPlace)
    (hval : ∀ (j : Nat) t v, Tryd.f5.params[j]? = some t → args[j]? = some v → Value.okWide Tryd.prog W .any base t v)
    (hW : DataW.Whole enc Tryd.prog Tryd.f5.params.toList Rows.fnPacketsSameSpec.vars false W args.toList ds gs before) (hL : laidMetH Tryd.prog Rows.fnPacketsSameRow.laid W) :
    Calls Tryd.prog 5 args W fun e W' => ∃ v, e = .returned v ∧ Rows.fnPacketsSameSpec.post enc Tryd.prog Tryd.f5 false true false false W args v W' := by
  have hW' := hW
  obtain ⟨p, q, hA0, hV, rfl, _, _⟩ := hW
  have hA : DataW.TrodAll enc Tryd.prog W 0 (fun _ => true) true Tryd.f5.params.toList args.toList ds p := hA0
  rw [Tryd.params5] at hA hval
  obtain ⟨v0, vs0, d0, ds0, p0, q0, hargs, rfl, rfl, h0, r0⟩ := trodAll_cons hA
  obtain ⟨rfl, rfl, rfl⟩ := trodAll_nil r0
  obtain rfl : args = #[v0] := by cases args; simp_all
  obtain ⟨rfl, rfl⟩ := trodVars_none hV
  have lt0 : ∀ x ∈ p0, x.block < W.heap.size := by obtain ⟨m, hm⟩ := h0; exact DataW.trod_lt m _ _ _ hm
  obtain ⟨a0, n0, c0, rfl⟩ := okWide_slice Tryd.underlying22 (hval 0 22 v0 rfl rfl)
  have w0 : Bytes W a0 n0 c0 := bytes_open h0
  clear hA0
  refine (walk a0 n0 c0 W w0 (table hL)).mono fun e W' ⟨he, bel⟩ => ?_
  subst he
  exact ⟨_, rfl, _, _, _, [], _, [], hW', trodAll_mk1 (shut_bool Tryd.underlying4 _), (trodAll_cons_mk (Below.trod laidOut (by kernel_rfl) (of_decide_eq_true (by kernel_rfl)) h0 bel lt0) trodAll_mk0), rfl, bel.frame _, fun h => by cases h⟩
def setCells (cs : Array Value) (b : Obj) : Obj := match b with
  | .cells _ t frozen => .cells cs t frozen
  | o => o
def flat1 (d : DataW Unit) : List Value := match d with
  | .lit (.int k n) => [.int k n]
  | .agg ys => ys.flatMap fun y => match y with
    | .lit (.int k n) => [.int k n]
    | _ => []
  | _ => []
def flat (d : DataW Unit) : Array Value := match d with
  | .agg xs => (xs.flatMap flat1).toArray
  | _ => #[]
noncomputable def laidWorld (os : Os) : World :=
  let w := World.holding Tryd.prog os ⟨#[], #[], []⟩
  { w with heap := ((w.heap.modify 4 (setCells (flat Rows.laid_math_bits_deBruijn32tab))).modify 5 (setCells (flat Rows.laid_math_bits_deBruijn64tab))).modify 1 (setCells (flat Rows.laid_internal_strconv_uint64pow10)) }
set_option maxRecDepth 100000 in
theorem laid_met (os : Os) : laidMet Tryd.prog Rows.fnPacketsSameRow.laid ((laidWorld os).forCall (fun _ _ => 0) ⟨#[], #[.slice none 0 0], []⟩).memory :=
  laidMet_of_run' 8 (by kernel_rfl) (by kernel_rfl)
theorem reads (os : Os) {H : Type} (enc : TypeId × Value → H) : ∃ places, DataW.whole enc Tryd.prog ((laidWorld os).forCall (fun _ _ => 0) ⟨#[], #[.slice none 0 0], []⟩).memory Tryd.f5.params.toList Rows.fnPacketsSameSpec.vars false (#[.slice none 0 0] : Array Value).toList 8 = some ([.nil], [], places) :=
  ⟨[], by kernel_rfl⟩
set_option maxRecDepth 100000 in
theorem lifted (os : Os) (started : os.Started) (H : Type) (enc : TypeId × Value → H) (F : Stop.Interp) :
    ReturnsInHanded {} Tryd.checked os 5 .any ((OpenSpec.ofChange Rows.fnPacketsSameSpec).preRow enc Tryd.prog Tryd.f5 Rows.fnPacketsSameRow.domain false Rows.fnPacketsSameRow.laid) (((OpenSpec.ofChange Rows.fnPacketsSameSpec).at F).post enc Tryd.prog Tryd.f5 false true false false) := by
  obtain ⟨places, hx⟩ := reads os enc
  refine returnsInHanded_of_row (C := Tryd.checked) (s := OpenSpec.ofChange Rows.fnPacketsSameSpec) own started (by kernel_rfl) Tryd.func5
    (witness_row_at (enc := enc) (C := Tryd.checked) false (laidWorld os) #[.slice none 0 0] rfl (by kernel_rfl) (by kernel_rfl) (by kernel_rfl)
      (OpenSpec.preRow_of_cond 8 hx (by kernel_rfl) (fun k hk => by cases hk) (by kernel_rfl) (laid_met os))) ?_
  intro W base args ds gs before hval hW _ _ _ hL _ _
  exact contract H enc W base args ds gs before hval hW hL
theorem said : Rows.FnPacketsSameSaid :=
  OpenClaim.holds_of_cond 5 Tryd.f5 rfl rfl rfl rfl rfl rfl rfl ⟨rfl, rfl, rfl, rfl, rfl⟩ rfl rfl rfl rfl rfl (by kernel_rfl) Tryd.func5 (by kernel_rfl)
    (of_decide_eq_true (by kernel_rfl)) (by unfold Func.isWrapper; first | (rw [if_pos (by decide +kernel)]; kernel_rfl) | (rw [if_neg (by decide +kernel)]; exact ⟨rfl, rfl⟩))
    (fun os started H enc _ F => by rw [OpenClaim.pre_eq_preRow]; exact lifted os started H enc F)
theorem plain (f : FuncId) (fn : Func) (hf : Tryd.pinned.checked.prog.funcNamed "loop.example/trafficguard/laws.FnPacketsSame" = some f) (hfn : Tryd.pinned.checked.prog.funcs[f]? = some fn) :
    false = Tryd.pinned.checked.prog.looks [] ∧ ∀ (j : Nat) t, fn.params[j]? = some t → Tryd.pinned.checked.prog.wantsStandIn t = false := by
  obtain rfl : f = 5 := Option.some.inj ((show Tryd.prog.funcNamed "loop.example/trafficguard/laws.FnPacketsSame" = some 5 by kernel_rfl).symm.trans hf) |>.symm
  obtain rfl : fn = Tryd.f5 := (Option.some.inj (Tryd.func5.symm.trans hfn)).symm
  refine ⟨by kernel_rfl, fun j t ht => ?_⟩
  rw [Tryd.params5] at ht
  obtain rfl : t = 22 := by simpa using Array.mem_of_getElem? ht
  exact (show Tryd.prog.wantsStandIn 22 = false by kernel_rfl)
/-- the given statement -/
theorem proved : Rows.FnPacketsSameCardSaid :=
  Claim7.holds_tied_plain_at .later [] _ _ _ _ said (fun _ h => by cases h) (by kernel_rfl) (fun _ h => by cases h) fnPacketsSame_row_tie rfl ⟨rfl, rfl⟩ (by kernel_rfl) rfl plain (by kernel_rfl)
end Go.Proofs.YtlnbhbjibkgjgaaDoor.fnPacketsSame
