/-
  The law FnPacketsText returns true at every argument: lists of packets are read back. Conditions: the listed tables of the library hold what their text lays (the card ties them).
-/
import Derived.Test.YtlnbhbjibkgjgaaDoorLift
import Derived.Test.YtlnbhbjibkgjgaaDoorDrawList
import Derived.Test.YtlnbhbjibkgjgaaDoorDrawTexts
import Derived.Test.YtlnbhbjibkgjgaaDoorParsU
import Derived.Test.YtlnbhbjibkgjgaaDoorC1c
import Derived.Test.YtlnbhbjibkgjgaaDoorTab
import Derived.Test.YtlnbhbjibkgjgaaDoorMl
namespace Go.Proofs.YtlnbhbjibkgjgaaDoor.fnPacketsText
open Go.ChangeShapes Go.WideShapes Go.ChangeAt Go.RowKit

set_option maxRecDepth 100000 in
set_option maxHeartbeats 16000000 in
theorem walk (A : Option Addr) (n c : Nat) (A2 : Option Addr) (n2 c2 : Nat) (w : World) (h : Bytes w A n c) (h2 : Bytes w A2 n2 c2) (ht : Tab w) (hml : ML w) :
    Calls Tryd.prog 4 #[.slice A n c, .slice A2 n2 c2] w fun e w' => e = .returned (.bool true) ∧ Below w.heap.size w w' := by
  have HB := Lib.hid h
  have HB2 := Lib.hid h2
  have HT := Lib.hid ht
  have HM := Lib.hid hml
  clear h h2 ht hml
  by_cases hbig : ¬ n ≤ 1048576
  · go_enter Tryd.func4, Tryd.ntmps4
    go_wp2
    go_ret
    exact ⟨rfl, Below.refl _ _⟩
  have hbig' : n ≤ 1048576 := by omega
  clear hbig
  by_cases hbig : ¬ n2 ≤ 1048576
  · go_enter Tryd.func4, Tryd.ntmps4
    go_wp2
    go_ret
    exact ⟨rfl, Below.refl _ _⟩
  have hbig2' : n2 ≤ 1048576 := by omega
  clear hbig
  go_enter Tryd.func4, Tryd.ntmps4
  go_wp2_with fail
  refine (drawFormatPackets_any A n c _ HB.out).mono ?_
  rintro e w1 ⟨A1, n1, c1, ps, rfl, hn9, hnc, hcm, hp, hb⟩
  have P1 := Lib.hid hp
  have B1 := Lib.hid hb
  clear hp hb hnc hcm
  rcases hok : okB ps with _ | _
  · have HK := Lib.hid hok
    have HZ := Lib.hid (sz_no hok)
    clear hok
    go_wp2_with fail
    refine (fmtsI_no A1 n1 c1 ps _ P1.out (by omega) HK.out).mono ?_
    rintro e w2 ⟨rfl, hb⟩
    have P2 := Lib.hid (pr_below P1.out hb)
    have B2 := Lib.hid (below_seq B1.out hb)
    clear hb
    go_wp2_with fail
    refine (sizeI_any A1 n1 c1 ps _ P2.out (by omega)).mono ?_
    rintro e w3 ⟨rfl, hb⟩
    rw [HK.out, HZ.out]
    have P3 := Lib.hid (pr_below P2.out hb)
    have B3 := Lib.hid (below_seq B2.out hb)
    clear hb
    go_wp2_with fail
    refine (parsI_u ⟨#[]⟩ _ (by decide) (ml_below HM.out B3.out)).mono ?_
    rintro e w4 ⟨A4, n4, c4, rfl, ho, hn4, hb⟩
    rw [(okPs_empty (s := ⟨#[]⟩) rfl).1]
    have P4 := Lib.hid (pr_below P3.out hb)
    have B4 := Lib.hid (below_seq B3.out hb)
    clear ho hb
    go_wp2_with fail
    refine (fmtsS_no A1 n1 c1 ps _ P4.out (by omega) HK.out).mono ?_
    rintro e w5 ⟨rfl, hb⟩
    have B5 := Lib.hid (below_seq B4.out hb)
    clear hb
    go_wp2_with fail
    refine (drawParsePackets_any A2 n2 c2 _ (bytes_below HB2.out B5.out)).mono ?_
    rintro e v1 ⟨X, rfl, hX, hb⟩
    have C1 := Lib.hid (below_seq B5.out hb)
    clear hb
    go_wp2_with fail
    refine (parsI_u X _ (by omega) (ml_below HM.out C1.out)).mono ?_
    rintro e v2 ⟨Ag, ng, cg, rfl, ho, hng, hb⟩
    have G2 := Lib.hid (pr_own ho)
    have C2 := Lib.hid (below_seq C1.out hb)
    clear ho hb
    rcases hx : okPs X with _ | _
    · have HX := Lib.hid hx
      clear hx
      go_wp2_with fail
      refine (parsS_u X _ (by omega)).mono ?_
      rintro e v3 ⟨Aw, nw, cw, rfl, ho, hnw, hb⟩
      rw [HX.out]
      have W3 := Lib.hid (pr_own ho)
      have G3 := Lib.hid (pr_below G2.out hb)
      have C3 := Lib.hid (below_seq C2.out hb)
      clear ho hb
      go_wp2_with fail
      refine (sameI_any Ag Aw ng cg nw cw _ _ _ G3.out W3.out (by omega) (by omega)).mono ?_
      rintro e v4 ⟨rfl, hb⟩
      rw [← same_yes rfl]
      have C4 := Lib.hid (below_seq C3.out hb)
      clear hb
      go_wp2
      all_goals
        go_ret
        exact ⟨rfl, C4.out⟩
    · have HX := Lib.hid hx
      have HV := Lib.hid (pkts_vld hx)
      have HE := Lib.hid (pkts_text hx)
      have hl := lst_yes hx
      clear hx
      go_wp2_with fail
      refine (parsS_u X _ (by omega)).mono ?_
      rintro e v3 ⟨Aw, nw, cw, rfl, ho, hnw, hb⟩
      rw [HX.out]
      have W3 := Lib.hid (pr_own ho)
      have G3 := Lib.hid (pr_below G2.out hb)
      have C3 := Lib.hid (below_seq C2.out hb)
      clear ho hb
      go_wp2_with fail
      refine (sameI_any Ag Aw ng cg nw cw _ _ _ G3.out W3.out (by omega) (by omega)).mono ?_
      rintro e v4 ⟨rfl, hb⟩
      rw [← same_yes rfl]
      have G4 := Lib.hid (show PR v4 Ag ng (pktsOf X) from by rw [← hl]; exact pr_below G3.out hb)
      have C4 := Lib.hid (below_seq C3.out hb)
      clear hb hl
      go_wp2_with fail
      refine (fmtsI_yes Ag ng cg _ _ G4.out (by omega) (ok_vld HV.out.1 HV.out.2) (tab_below HT.out C4.out)).mono ?_
      rintro e v5 ⟨rfl, hb⟩
      rw [HE.out]
      have C5 := Lib.hid (below_seq C4.out hb)
      clear hb
      go_wp2
      all_goals
        go_ret
        exact ⟨rfl, C5.out⟩
  · have HK := Lib.hid hok
    obtain ⟨T, hT⟩ : ∃ T, T = strJ ps := ⟨_, rfl⟩
    have hpv : allVld ps := List.all_eq_true.1 (ok_of hok).2
    have HPB := Lib.hid (pkts_back hpv (ok_of hok).1)
    have hTs : T.size ≤ 2400 := by
      have := strJ_size ps
      have := (ok_of hok).1
      rw [hT]; omega
    rw [← hT] at HPB
    have HJ := Lib.hid hT
    have hlst : lstOf T = ps := (lst_yes HPB.out.1).trans HPB.out.2
    have HLs := Lib.hid hlst
    have hz0 := sz_yes hok
    have hzb := sum_bound ps (ok_of hok).2
    clear hok hT hpv hlst
    go_wp2_with fail
    refine (fmtsI_yes A1 n1 c1 ps _ P1.out (by omega) HK.out (tab_below HT.out B1.out)).mono ?_
    rintro e w2 ⟨rfl, hb⟩
    rw [← HJ.out]
    have P2 := Lib.hid (pr_below P1.out hb)
    have B2 := Lib.hid (below_seq B1.out hb)
    clear hb
    go_wp2_with fail
    refine (sizeI_any A1 n1 c1 ps _ P2.out (by omega)).mono ?_
    rintro e w3 ⟨rfl, hb⟩
    rw [HK.out]
    have P3 := Lib.hid (pr_below P2.out hb)
    have B3 := Lib.hid (below_seq B2.out hb)
    clear hb hz0 hzb
    go_wp2_with fail
    refine (parsI_u T _ (by omega) (ml_below HM.out B3.out)).mono ?_
    rintro e w4 ⟨A4, n4, c4, rfl, ho, hn4, hb⟩
    rw [HPB.out.1]
    rw [HLs.out] at ho
    have Q4 := Lib.hid (pr_own ho)
    have P4 := Lib.hid (pr_below P3.out hb)
    have B4 := Lib.hid (below_seq B3.out hb)
    clear ho hb
    go_wp2_with fail
    refine (fmtsS_yes A1 n1 c1 ps _ P4.out HK.out).mono ?_
    rintro e w5 ⟨rfl, hb⟩
    rw [← HJ.out]
    have Q5 := Lib.hid (pr_below Q4.out hb)
    have P5 := Lib.hid (pr_below P4.out hb)
    have B5 := Lib.hid (below_seq B4.out hb)
    clear hb
    go_wp2_with fail
    refine (sameI_any A4 A1 n4 c4 n1 c1 _ _ _ Q5.out P5.out (by omega) (by omega)).mono ?_
    rintro e w6 ⟨rfl, hb⟩
    rw [← same_yes rfl]
    have B6 := Lib.hid (below_seq B5.out hb)
    clear hb
    go_wp2_with fail
    refine (drawParsePackets_any A2 n2 c2 _ (bytes_below HB2.out B6.out)).mono ?_
    rintro e v1 ⟨X, rfl, hX, hb⟩
    have C1 := Lib.hid (below_seq B6.out hb)
    clear hb
    go_wp2_with fail
    refine (parsI_u X _ (by omega) (ml_below HM.out C1.out)).mono ?_
    rintro e v2 ⟨Ag, ng, cg, rfl, ho, hng, hb⟩
    have G2 := Lib.hid (pr_own ho)
    have C2 := Lib.hid (below_seq C1.out hb)
    clear ho hb
    rcases hx : okPs X with _ | _
    · have HX := Lib.hid hx
      clear hx
      go_wp2_with fail
      refine (parsS_u X _ (by omega)).mono ?_
      rintro e v3 ⟨Aw, nw, cw, rfl, ho, hnw, hb⟩
      rw [HX.out]
      have W3 := Lib.hid (pr_own ho)
      have G3 := Lib.hid (pr_below G2.out hb)
      have C3 := Lib.hid (below_seq C2.out hb)
      clear ho hb
      go_wp2_with fail
      refine (sameI_any Ag Aw ng cg nw cw _ _ _ G3.out W3.out (by omega) (by omega)).mono ?_
      rintro e v4 ⟨rfl, hb⟩
      rw [← same_yes rfl]
      have C4 := Lib.hid (below_seq C3.out hb)
      clear hb
      go_wp2
      all_goals
        go_ret
        exact ⟨rfl, C4.out⟩
    · have HX := Lib.hid hx
      have HV := Lib.hid (pkts_vld hx)
      have HE := Lib.hid (pkts_text hx)
      have hl := lst_yes hx
      clear hx
      go_wp2_with fail
      refine (parsS_u X _ (by omega)).mono ?_
      rintro e v3 ⟨Aw, nw, cw, rfl, ho, hnw, hb⟩
      rw [HX.out]
      have W3 := Lib.hid (pr_own ho)
      have G3 := Lib.hid (pr_below G2.out hb)
      have C3 := Lib.hid (below_seq C2.out hb)
      clear ho hb
      go_wp2_with fail
      refine (sameI_any Ag Aw ng cg nw cw _ _ _ G3.out W3.out (by omega) (by omega)).mono ?_
      rintro e v4 ⟨rfl, hb⟩
      rw [← same_yes rfl]
      have G4 := Lib.hid (show PR v4 Ag ng (pktsOf X) from by rw [← hl]; exact pr_below G3.out hb)
      have C4 := Lib.hid (below_seq C3.out hb)
      clear hb hl
      go_wp2_with fail
      refine (fmtsI_yes Ag ng cg _ _ G4.out (by omega) (ok_vld HV.out.1 HV.out.2) (tab_below HT.out C4.out)).mono ?_
      rintro e v5 ⟨rfl, hb⟩
      rw [HE.out]
      have C5 := Lib.hid (below_seq C4.out hb)
      clear hb
      go_wp2
      all_goals
        go_ret
        exact ⟨rfl, C5.out⟩
theorem own : ownKnob Tryd.prog.godebug = none := by kernel_rfl
theorem laidOut : laidOutB Tryd.prog = true := by kernel_rfl
theorem table {W : World} (h : laidMetH Tryd.prog Rows.fnPacketsTextRow.laid W) : Tab W := by
  have h1 : laidMet Tryd.prog [("math/bits.deBruijn32tab", Rows.laid_math_bits_deBruijn32tab), ("math/bits.deBruijn64tab", Rows.laid_math_bits_deBruijn64tab), ("internal/strconv.uint64pow10", Rows.laid_internal_strconv_uint64pow10), ("unicode/utf8.acceptRanges", Rows.laid_unicode_utf8_acceptRanges), ("unicode/utf8.first", Rows.laid_unicode_utf8_first)] W := h
  exact table_of h1
set_option maxRecDepth 100000 in
theorem contract (H : Type) (enc : TypeId × Value → H) (W : World) (base : Nat) (args : Array Value) (ds gs : List (DataW H)) (before : List MemPlace)
    (hval : ∀ (j : Nat) t v, Tryd.f4.params[j]? = some t → args[j]? = some v → Value.okWide Tryd.prog W .any base t v)
    (hW : DataW.Whole enc Tryd.prog Tryd.f4.params.toList Rows.fnPacketsTextSpec.vars false W args.toList ds gs before) (hL : laidMetH Tryd.prog Rows.fnPacketsTextRow.laid W) (hS : W.ShapedOpen Tryd.prog) :
    Calls Tryd.prog 4 args W fun e W' => ∃ v, e = .returned v ∧ Rows.fnPacketsTextSpec.post enc Tryd.prog Tryd.f4 false true false false W args v W' := by
  have hW' := hW
  obtain ⟨p, q, hA0, hV, rfl, _, _⟩ := hW
  have hA : DataW.TrodAll enc Tryd.prog W 0 (fun _ => true) true Tryd.f4.params.toList args.toList ds p := hA0
  rw [Tryd.params4] at hA hval
  obtain ⟨v0, vs0, d0, ds0, p0, q0, hargs, rfl, rfl, h0, r0⟩ := trodAll_cons hA
  obtain ⟨v1, vs1, d1, ds1, p1, q1, rfl, rfl, rfl, h1, r1⟩ := trodAll_cons r0
  obtain ⟨rfl, rfl, rfl⟩ := trodAll_nil r1
  obtain rfl : args = #[v0, v1] := by cases args; simp_all
  obtain ⟨rfl, rfl⟩ := trodVars_none hV
  have lt0 : ∀ x ∈ p0, x.block < W.heap.size := by obtain ⟨m, hm⟩ := h0; exact DataW.trod_lt m _ _ _ hm
  obtain ⟨a0, n0, c0, rfl⟩ := okWide_slice Tryd.underlying22 (hval 0 22 v0 rfl rfl)
  have w0 : Bytes W a0 n0 c0 := bytes_open h0
  have lt1 : ∀ x ∈ p1, x.block < W.heap.size := by obtain ⟨m, hm⟩ := h1; exact DataW.trod_lt m _ _ _ hm
  obtain ⟨a1, n1, c1, rfl⟩ := okWide_slice Tryd.underlying22 (hval 1 22 v1 rfl rfl)
  have w1 : Bytes W a1 n1 c1 := bytes_open h1
  clear hA0
  refine (walk a0 n0 c0 a1 n1 c1 W w0 w1 (table hL) (ml_of hS)).mono fun e W' ⟨he, bel⟩ => ?_
  subst he
  exact ⟨_, rfl, _, _, _, [], _, [], hW', trodAll_mk1 (shut_bool Tryd.underlying4 _), (trodAll_cons_mk (Below.trod laidOut (by kernel_rfl) (of_decide_eq_true (by kernel_rfl)) h0 bel lt0) (trodAll_cons_mk (Below.trod laidOut (by kernel_rfl) (of_decide_eq_true (by kernel_rfl)) h1 bel lt1) trodAll_mk0)), rfl, bel.frame _, fun h => by cases h⟩
def setCells (cs : Array Value) (b : Obj) : Obj := match b with
  | .cells _ t frozen => .cells cs t frozen
  | o => o
def flat1 (d : DataW Unit) : List Value := match d with
  | .lit (.int k n) => [.int k n]
  | .agg ys => ys.flatMap fun y => match y with
    | .lit (.int k n) => [.int k n]
    | _ => []
  | _ => []
def flat (d : DataW Unit) : Array Value := match d with
  | .agg xs => (xs.flatMap flat1).toArray
  | _ => #[]
noncomputable def laidWorld (os : Os) : World :=
  let w := World.holding Tryd.prog os ⟨#[], #[], []⟩
  { w with heap := ((((w.heap.modify 4 (setCells (flat Rows.laid_math_bits_deBruijn32tab))).modify 5 (setCells (flat Rows.laid_math_bits_deBruijn64tab))).modify 1 (setCells (flat Rows.laid_internal_strconv_uint64pow10))).modify 3 (setCells (flat Rows.laid_unicode_utf8_acceptRanges))).modify 2 (setCells (flat Rows.laid_unicode_utf8_first)) }
set_option maxRecDepth 100000 in
theorem laid_met (os : Os) : laidMet Tryd.prog Rows.fnPacketsTextRow.laid ((laidWorld os).forCall (fun _ _ => 0) ⟨#[], #[.slice none 0 0, .slice none 0 0], []⟩).memory :=
  laidMet_of_run' 8 (by kernel_rfl) (by kernel_rfl)
theorem reads (os : Os) {H : Type} (enc : TypeId × Value → H) : ∃ places, DataW.whole enc Tryd.prog ((laidWorld os).forCall (fun _ _ => 0) ⟨#[], #[.slice none 0 0, .slice none 0 0], []⟩).memory Tryd.f4.params.toList Rows.fnPacketsTextSpec.vars false (#[.slice none 0 0, .slice none 0 0] : Array Value).toList 8 = some ([.nil, .nil], [], places) :=
  ⟨[], by kernel_rfl⟩
set_option maxRecDepth 100000 in
theorem lifted (os : Os) (started : os.Started) (H : Type) (enc : TypeId × Value → H) (F : Stop.Interp) :
    ReturnsInHanded {} Tryd.checked os 4 .any ((OpenSpec.ofChange Rows.fnPacketsTextSpec).preRow enc Tryd.prog Tryd.f4 Rows.fnPacketsTextRow.domain false Rows.fnPacketsTextRow.laid) (((OpenSpec.ofChange Rows.fnPacketsTextSpec).at F).post enc Tryd.prog Tryd.f4 false true false false) := by
  obtain ⟨places, hx⟩ := reads os enc
  refine returnsInHanded_of_row (C := Tryd.checked) (s := OpenSpec.ofChange Rows.fnPacketsTextSpec) own started (by kernel_rfl) Tryd.func4
    (witness_row_at (enc := enc) (C := Tryd.checked) false (laidWorld os) #[.slice none 0 0, .slice none 0 0] rfl (by kernel_rfl) (by kernel_rfl) (by kernel_rfl)
      (OpenSpec.preRow_of_cond 8 hx (by kernel_rfl) (fun k hk => by cases hk) (by kernel_rfl) (laid_met os))) ?_
  intro W base args ds gs before hval hW _ _ _ hL hS _
  exact contract H enc W base args ds gs before hval hW hL hS
theorem said : Rows.FnPacketsTextSaid :=
  OpenClaim.holds_of_cond 4 Tryd.f4 rfl rfl rfl rfl rfl rfl rfl ⟨rfl, rfl, rfl, rfl, rfl⟩ rfl rfl rfl rfl rfl (by kernel_rfl) Tryd.func4 (by kernel_rfl)
    (of_decide_eq_true (by kernel_rfl)) (by unfold Func.isWrapper; first | (rw [if_pos (by decide +kernel)]; kernel_rfl) | (rw [if_neg (by decide +kernel)]; exact ⟨rfl, rfl⟩))
    (fun os started H enc _ F => by rw [OpenClaim.pre_eq_preRow]; exact lifted os started H enc F)
theorem plain (f : FuncId) (fn : Func) (hf : Tryd.pinned.checked.prog.funcNamed "loop.example/trafficguard/laws.FnPacketsText" = some f) (hfn : Tryd.pinned.checked.prog.funcs[f]? = some fn) :
    false = Tryd.pinned.checked.prog.looks [] ∧ ∀ (j : Nat) t, fn.params[j]? = some t → Tryd.pinned.checked.prog.wantsStandIn t = false := by
  obtain rfl : f = 4 := Option.some.inj ((show Tryd.prog.funcNamed "loop.example/trafficguard/laws.FnPacketsText" = some 4 by kernel_rfl).symm.trans hf) |>.symm
  obtain rfl : fn = Tryd.f4 := (Option.some.inj (Tryd.func4.symm.trans hfn)).symm
  refine ⟨by kernel_rfl, fun j t ht => ?_⟩
  rw [Tryd.params4] at ht
  obtain rfl : t = 22 := by simpa using Array.mem_of_getElem? ht
  exact (show Tryd.prog.wantsStandIn 22 = false by kernel_rfl)
/-- the given statement -/
theorem proved : Rows.FnPacketsTextCardSaid :=
  Claim7.holds_tied_plain_at .later [] _ _ _ _ said (fun _ h => by cases h) (by kernel_rfl) (fun _ h => by cases h) fnPacketsText_row_tie rfl ⟨rfl, rfl⟩ (by kernel_rfl) rfl plain (by kernel_rfl)
end Go.Proofs.YtlnbhbjibkgjgaaDoor.fnPacketsText
