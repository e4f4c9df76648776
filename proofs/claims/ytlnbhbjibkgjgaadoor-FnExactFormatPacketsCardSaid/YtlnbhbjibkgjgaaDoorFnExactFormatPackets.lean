/-
  The law FnExactFormatPackets returns true at every argument: the program's FormatPackets answers as the model's and writes into no argument. Conditions: the listed tables of the library hold what their text lays (the card ties them).
-/
import Derived.Test.YtlnbhbjibkgjgaaDoorLiftPkts
import Derived.Test.YtlnbhbjibkgjgaaDoorEx1
import Derived.Test.YtlnbhbjibkgjgaaDoorFmtsS
import Derived.Test.YtlnbhbjibkgjgaaDoorTab
namespace Go.Proofs.YtlnbhbjibkgjgaaDoor.fnExactFormatPackets
open Go.ChangeShapes Go.WideShapes Go.ChangeAt Go.RowKit

set_option maxRecDepth 100000 in
set_option maxHeartbeats 4000000 in
theorem walk (A : Option Addr) (n c : Nat) (ps : List Pkt) (w : World) (h : PR w A n ps) (hn : n ≤ 9223372036854775807) (ht : Tab w) :
    Calls Tryd.prog 8 #[.slice A n c] w fun e w' => e = .returned (.bool true) ∧ Below w.heap.size w w' := by
  have H := Lib.hid h
  have HT := Lib.hid ht
  clear h ht
  by_cases hbig : ¬ n ≤ 1048576
  · go_enter Tryd.func8, Tryd.ntmps8
    go_wp2_with fail
    refine (szPacketS_any A n c 1048576 _ hn (by omega)).mono ?_
    rintro e w1 ⟨rfl, rfl⟩
    rw [if_pos (by omega)]
    go_wp2
    go_ret
    exact ⟨rfl, Below.refl _ _⟩
  have hbig' : n ≤ 1048576 := by omega
  clear hbig
  have hbig := hbig'
  clear hbig'
  rcases hok : okB ps with _ | _
  · have HK := Lib.hid hok
    clear hok
    go_enter Tryd.func8, Tryd.ntmps8
    go_wp2_with fail
    refine (szPacketS_any A n c 1048576 _ hn (by omega)).mono ?_
    rintro e w1 ⟨rfl, rfl⟩
    rw [if_neg (by omega)]
    have hd : 0 ≤ (1048576 : Int) - (n : Int) := by omega
    go_wp2_with fail
    refine (toPacketS_any A n c ps _ H.out hbig).mono ?_
    rintro e w2 ⟨rfl, h2a, h2b⟩
    have HX2 := Lib.hid (pr_own h2a)
    have H2 := Lib.hid (pr_below H.out h2b)
    have HB2 := Lib.hid h2b
    clear h2a h2b
    go_wp2_with fail
    refine (fmtsS_no _ n n ps _ HX2.out (by omega) HK.out).mono ?_
    rintro e w3 ⟨rfl, hb3⟩
    have H3 := Lib.hid (pr_below H2.out hb3)
    have HB3 := Lib.hid (below_seq HB2.out hb3)
    clear hb3
    go_wp2_with fail
    refine (toPacketS_any A n c ps _ H3.out hbig).mono ?_
    rintro e w4 ⟨rfl, h4a, h4b⟩
    have HX4 := Lib.hid (pr_own h4a)
    have H4 := Lib.hid (pr_below H3.out h4b)
    have HB4 := Lib.hid (below_seq HB3.out h4b)
    clear h4a h4b
    go_wp2_with fail
    refine (fmtsI_no _ n n ps _ HX4.out (by omega) HK.out).mono ?_
    rintro e w5 ⟨rfl, hb5⟩
    have H5 := Lib.hid (pr_below H4.out hb5)
    have HX5 := Lib.hid (pr_below HX4.out hb5)
    have HB5 := Lib.hid (below_seq HB4.out hb5)
    clear hb5
    go_wp2_with fail
    refine (toPacketS_any A n c ps _ H5.out hbig).mono ?_
    rintro e w6 ⟨rfl, h6a, h6b⟩
    have HY6 := Lib.hid (pr_own h6a)
    have HX6 := Lib.hid (pr_below HX5.out h6b)
    have HB6 := Lib.hid (below_seq HB5.out h6b)
    clear h6a h6b
    go_wp2_with fail
    refine (eqPacketS_any _ _ n n n n ps ps _ HX6.out HY6.out (by omega) (by omega)).mono ?_
    rintro e w7 ⟨rfl, hb7⟩
    rw [← same_yes rfl]
    have HB7 := Lib.hid (below_seq HB6.out hb7)
    clear hb7
    go_wp2
    go_ret
    exact ⟨rfl, HB7.out⟩
  · have HK := Lib.hid hok
    clear hok
    obtain ⟨T, hT⟩ : ∃ T, T = strJ ps := ⟨_, rfl⟩
    have HJ := Lib.hid hT
    clear hT
    go_enter Tryd.func8, Tryd.ntmps8
    go_wp2_with fail
    refine (szPacketS_any A n c 1048576 _ hn (by omega)).mono ?_
    rintro e w1 ⟨rfl, rfl⟩
    rw [if_neg (by omega)]
    have hd : 0 ≤ (1048576 : Int) - (n : Int) := by omega
    go_wp2_with fail
    refine (toPacketS_any A n c ps _ H.out hbig).mono ?_
    rintro e w2 ⟨rfl, h2a, h2b⟩
    have HX2 := Lib.hid (pr_own h2a)
    have H2 := Lib.hid (pr_below H.out h2b)
    have HB2 := Lib.hid h2b
    clear h2a h2b
    go_wp2_with fail
    refine (fmtsS_yes _ n n ps _ HX2.out HK.out).mono ?_
    rintro e w3 ⟨rfl, hb3⟩
    rw [← HJ.out]
    have H3 := Lib.hid (pr_below H2.out hb3)
    have HB3 := Lib.hid (below_seq HB2.out hb3)
    clear hb3
    go_wp2_with fail
    refine (toPacketS_any A n c ps _ H3.out hbig).mono ?_
    rintro e w4 ⟨rfl, h4a, h4b⟩
    have HX4 := Lib.hid (pr_own h4a)
    have H4 := Lib.hid (pr_below H3.out h4b)
    have HB4 := Lib.hid (below_seq HB3.out h4b)
    clear h4a h4b
    go_wp2_with fail
    refine (fmtsI_yes _ n n ps _ HX4.out (by omega) HK.out (tab_below HT.out HB4.out)).mono ?_
    rintro e w5 ⟨rfl, hb5⟩
    rw [← HJ.out]
    have H5 := Lib.hid (pr_below H4.out hb5)
    have HX5 := Lib.hid (pr_below HX4.out hb5)
    have HB5 := Lib.hid (below_seq HB4.out hb5)
    clear hb5
    go_wp2_with fail
    refine (toPacketS_any A n c ps _ H5.out hbig).mono ?_
    rintro e w6 ⟨rfl, h6a, h6b⟩
    have HY6 := Lib.hid (pr_own h6a)
    have HX6 := Lib.hid (pr_below HX5.out h6b)
    have HB6 := Lib.hid (below_seq HB5.out h6b)
    clear h6a h6b
    go_wp2_with fail
    refine (eqPacketS_any _ _ n n n n ps ps _ HX6.out HY6.out (by omega) (by omega)).mono ?_
    rintro e w7 ⟨rfl, hb7⟩
    rw [← same_yes rfl]
    have HB7 := Lib.hid (below_seq HB6.out hb7)
    clear hb7
    go_wp2
    go_ret
    exact ⟨rfl, HB7.out⟩
theorem own : ownKnob Tryd.prog.godebug = none := by kernel_rfl
theorem laidOut : laidOutB Tryd.prog = true := by kernel_rfl
theorem table {W : World} (h : laidMetH Tryd.prog Rows.fnExactFormatPacketsRow.laid W) : Tab W := by
  have h1 : laidMet Tryd.prog [("math/bits.deBruijn32tab", Rows.laid_math_bits_deBruijn32tab), ("math/bits.deBruijn64tab", Rows.laid_math_bits_deBruijn64tab), ("internal/strconv.uint64pow10", Rows.laid_internal_strconv_uint64pow10)] W := h
  exact table_of h1
set_option maxRecDepth 100000 in
theorem contract (H : Type) (enc : TypeId × Value → H) (W : World) (base : Nat) (args : Array Value) (ds gs : List (DataW H)) (before : List MemPlace)
    (hval : ∀ (j : Nat) t v, Tryd.f8.params[j]? = some t → args[j]? = some v → Value.okWide Tryd.prog W .any base t v)
    (hW : DataW.Whole enc Tryd.prog Tryd.f8.params.toList Rows.fnExactFormatPacketsSpec.vars false W args.toList ds gs before) (hL : laidMetH Tryd.prog Rows.fnExactFormatPacketsRow.laid W) :
    Calls Tryd.prog 8 args W fun e W' => ∃ v, e = .returned v ∧ Rows.fnExactFormatPacketsSpec.post enc Tryd.prog Tryd.f8 false true false false W args v W' := by
  have hW' := hW
  obtain ⟨p, q, hA0, hV, rfl, _, _⟩ := hW
  have hA : DataW.TrodAll enc Tryd.prog W 0 (fun _ => true) true Tryd.f8.params.toList args.toList ds p := hA0
  rw [Tryd.params8] at hA hval
  obtain ⟨v0, vs0, d0, ds0, p0, q0, hargs, rfl, rfl, h0, r0⟩ := trodAll_cons hA
  obtain ⟨rfl, rfl, rfl⟩ := trodAll_nil r0
  obtain rfl : args = #[v0] := by cases args; simp_all
  obtain ⟨rfl, rfl⟩ := trodVars_none hV
  have lt0 : ∀ x ∈ p0, x.block < W.heap.size := by obtain ⟨m, hm⟩ := h0; exact DataW.trod_lt m _ _ _ hm
  obtain ⟨a0, n0, c0, rfl⟩ := okWide_slice Tryd.underlying46 (hval 0 46 v0 rfl rfl)
  obtain ⟨x0, w0, m0⟩ := pkts_open h0
  clear hA0
  refine (walk a0 n0 c0 x0 W w0 m0 (table hL)).mono fun e W' ⟨he, bel⟩ => ?_
  subst he
  exact ⟨_, rfl, _, _, _, [], _, [], hW', trodAll_mk1 (shut_bool Tryd.underlying4 _), (trodAll_cons_mk (Below.trod laidOut (by kernel_rfl) (of_decide_eq_true (by kernel_rfl)) h0 bel lt0) trodAll_mk0), rfl, bel.frame _, fun h => by cases h⟩
def setCells (cs : Array Value) (b : Obj) : Obj := match b with
  | .cells _ t frozen => .cells cs t frozen
  | o => o
def flat1 (d : DataW Unit) : List Value := match d with
  | .lit (.int k n) => [.int k n]
  | .agg ys => ys.flatMap fun y => match y with
    | .lit (.int k n) => [.int k n]
    | _ => []
  | _ => []
def flat (d : DataW Unit) : Array Value := match d with
  | .agg xs => (xs.flatMap flat1).toArray
  | _ => #[]
noncomputable def laidWorld (os : Os) : World :=
  let w := World.holding Tryd.prog os ⟨#[], #[], []⟩
  { w with heap := ((w.heap.modify 4 (setCells (flat Rows.laid_math_bits_deBruijn32tab))).modify 5 (setCells (flat Rows.laid_math_bits_deBruijn64tab))).modify 1 (setCells (flat Rows.laid_internal_strconv_uint64pow10)) }
set_option maxRecDepth 100000 in
theorem laid_met (os : Os) : laidMet Tryd.prog Rows.fnExactFormatPacketsRow.laid ((laidWorld os).forCall (fun _ _ => 0) ⟨#[], #[.slice none 0 0], []⟩).memory :=
  laidMet_of_run' 8 (by kernel_rfl) (by kernel_rfl)
theorem reads (os : Os) {H : Type} (enc : TypeId × Value → H) : ∃ places, DataW.whole enc Tryd.prog ((laidWorld os).forCall (fun _ _ => 0) ⟨#[], #[.slice none 0 0], []⟩).memory Tryd.f8.params.toList Rows.fnExactFormatPacketsSpec.vars false (#[.slice none 0 0] : Array Value).toList 8 = some ([.nil], [], places) :=
  ⟨[], by kernel_rfl⟩
set_option maxRecDepth 100000 in
theorem lifted (os : Os) (started : os.Started) (H : Type) (enc : TypeId × Value → H) (F : Stop.Interp) :
    ReturnsInHanded {} Tryd.checked os 8 .any ((OpenSpec.ofChange Rows.fnExactFormatPacketsSpec).preRow enc Tryd.prog Tryd.f8 Rows.fnExactFormatPacketsRow.domain false Rows.fnExactFormatPacketsRow.laid) (((OpenSpec.ofChange Rows.fnExactFormatPacketsSpec).at F).post enc Tryd.prog Tryd.f8 false true false false) := by
  obtain ⟨places, hx⟩ := reads os enc
  refine returnsInHanded_of_row (C := Tryd.checked) (s := OpenSpec.ofChange Rows.fnExactFormatPacketsSpec) own started (by kernel_rfl) Tryd.func8
    (witness_row_at (enc := enc) (C := Tryd.checked) false (laidWorld os) #[.slice none 0 0] rfl (by kernel_rfl) (by kernel_rfl) (by kernel_rfl)
      (OpenSpec.preRow_of_cond 8 hx (by kernel_rfl) (fun k hk => by cases hk) (by kernel_rfl) (laid_met os))) ?_
  intro W base args ds gs before hval hW _ _ _ hL _ _
  exact contract H enc W base args ds gs before hval hW hL
theorem said : Rows.FnExactFormatPacketsSaid :=
  OpenClaim.holds_of_cond 8 Tryd.f8 rfl rfl rfl rfl rfl rfl rfl ⟨rfl, rfl, rfl, rfl, rfl⟩ rfl rfl rfl rfl rfl (by kernel_rfl) Tryd.func8 (by kernel_rfl)
    (of_decide_eq_true (by kernel_rfl)) (by unfold Func.isWrapper; first | (rw [if_pos (by decide +kernel)]; kernel_rfl) | (rw [if_neg (by decide +kernel)]; exact ⟨rfl, rfl⟩))
    (fun os started H enc _ F => by rw [OpenClaim.pre_eq_preRow]; exact lifted os started H enc F)
theorem plain (f : FuncId) (fn : Func) (hf : Tryd.pinned.checked.prog.funcNamed "loop.example/trafficguard/laws.FnExactFormatPackets" = some f) (hfn : Tryd.pinned.checked.prog.funcs[f]? = some fn) :
    false = Tryd.pinned.checked.prog.looks [] ∧ ∀ (j : Nat) t, fn.params[j]? = some t → Tryd.pinned.checked.prog.wantsStandIn t = false := by
  obtain rfl : f = 8 := Option.some.inj ((show Tryd.prog.funcNamed "loop.example/trafficguard/laws.FnExactFormatPackets" = some 8 by kernel_rfl).symm.trans hf) |>.symm
  obtain rfl : fn = Tryd.f8 := (Option.some.inj (Tryd.func8.symm.trans hfn)).symm
  refine ⟨by kernel_rfl, fun j t ht => ?_⟩
  rw [Tryd.params8] at ht
  obtain rfl : t = 46 := by simpa using Array.mem_of_getElem? ht
  exact (show Tryd.prog.wantsStandIn 46 = false by kernel_rfl)
/-- the given statement -/
theorem proved : Rows.FnExactFormatPacketsCardSaid :=
  Claim7.holds_tied_plain_at .later [] _ _ _ _ said (fun _ h => by cases h) (by kernel_rfl) (fun _ h => by cases h) fnExactFormatPackets_row_tie rfl ⟨rfl, rfl⟩ (by kernel_rfl) rfl plain (by kernel_rfl)
end Go.Proofs.YtlnbhbjibkgjgaaDoor.fnExactFormatPackets
