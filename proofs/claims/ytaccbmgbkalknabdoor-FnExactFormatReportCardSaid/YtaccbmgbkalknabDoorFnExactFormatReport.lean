/-
  The law FnExactFormatReport returns true at every argument: the program's FormatReport answers as the model's and writes into no argument. Conditions: none.
-/
import Derived.Test.YtaccbmgbkalknabDoorLiftInts
import Derived.Test.YtaccbmgbkalknabDoorLiftPkts
import Derived.Test.YtaccbmgbkalknabDoorEx1
import Derived.Test.YtaccbmgbkalknabDoorAEx
import Derived.Test.YtaccbmgbkalknabDoorLift
import Derived.Test.YtaccbmgbkalknabDoorYn
namespace Go.Proofs.YtaccbmgbkalknabDoor.fnExactFormatReport
open Go.ChangeShapes Go.WideShapes Go.ChangeAt Go.RowKit

theorem toPk_ex (A : Option Addr) (n c : Nat) (ps : List Pkt) (w : World) (h : PR w A n ps) (hn : n ≤ 1048576) :
    Calls Tryd.prog 12 #[.slice A n c] w fun e w' => ∃ A2, e = .returned (.slice A2 n n) ∧ PR w' A2 n ps ∧ Below w.heap.size w w' :=
  (toPacketS_any A n c ps w h hn).mono fun _ _ h => ⟨_, h.1, pr_own h.2.1, h.2.2⟩
theorem toIn_ex (A : Option Addr) (n c : Nat) (us : List Int) (w : World) (h : NR w A n us) (hn : n ≤ 1048576) :
    Calls Tryd.prog 11 #[.slice A n c] w fun e w' => ∃ A2, e = .returned (.slice A2 n n) ∧ NR w' A2 n us ∧ Below w.heap.size w w' :=
  (toIntS_any A n c us w h hn).mono fun _ _ ⟨A2, h1, h2, h3⟩ => ⟨A2, h1, nr_own h2, h3⟩
set_option maxRecDepth 100000 in
set_option maxHeartbeats 4000000 in
theorem walk (A : Option Addr) (n c : Nat) (us : List Int) (B : Option Addr) (m d : Nat) (ps : List Pkt) (w : World) (h : NR w A n us) (hn : n ≤ 9223372036854775807) (h2 : PR w B m ps) (hm : m ≤ 9223372036854775807) (ht : Tab w) (hN : Nms w) :
    Calls Tryd.prog 5 #[.slice A n c, .slice B m d] w fun e w' => e = .returned (.bool true) ∧ Below w.heap.size w w' := by
  have H := Lib.hid h
  have P := Lib.hid h2
  have HT := Lib.hid ht
  have HN := Lib.hid hN
  clear h h2 ht hN
  by_cases hbig : n ≤ 1048576
  · have hd : decide ((1048576 : Int) < (n : Int)) = false := by simp; omega
    by_cases hbm : m ≤ 1048576
    · have hd2 : 0 ≤ (1048576 : Int) - (m : Int) := by omega
      obtain ⟨S, hS⟩ : ∃ S, repS us ps = S := ⟨_, rfl⟩
      have HS := Lib.hid hS
      clear hS
      go_enter Tryd.func5, Tryd.ntmps5
      go_wp2_with fail
      refine (szPacketS_any B m d 1048576 _ hm (by omega)).mono ?_
      rintro e w0 ⟨rfl, rfl⟩
      rw [if_neg (by omega)]
      go_wp2_with fail
      refine (toIn_ex A n c us _ H.out hbig).mono ?_
      rintro e w1 ⟨A1, rfl, hr, hb⟩
      have B1 := Lib.hid hb
      have X1 := Lib.hid hr
      clear hb hr
      go_wp2_with fail
      refine (toPk_ex B m d ps _ (pr_below P.out B1.out) hbm).mono ?_
      rintro e w2 ⟨A2, rfl, hr, hb⟩
      have B2 := Lib.hid (below_seq B1.out hb)
      have Y2 := Lib.hid hr
      have X2 := Lib.hid (nr_below X1.out hb)
      clear hb hr X1
      go_wp2_with fail
      refine (repS_any A1 n n us A2 m m ps _ X2.out Y2.out (by omega) (by omega)).mono ?_
      rintro e w3 ⟨rfl, hb⟩
      rw [HS.out]
      have B3 := Lib.hid (below_seq B2.out hb)
      clear hb X2 Y2
      go_wp2_with fail
      refine (toIn_ex A n c us _ (nr_below H.out B3.out) hbig).mono ?_
      rintro e w4 ⟨A4, rfl, hr, hb⟩
      have B4 := Lib.hid (below_seq B3.out hb)
      have X4 := Lib.hid hr
      clear hb hr
      go_wp2_with fail
      refine (toPk_ex B m d ps _ (pr_below P.out B4.out) hbm).mono ?_
      rintro e w5 ⟨A5, rfl, hr, hb⟩
      have B5 := Lib.hid (below_seq B4.out hb)
      have Y5 := Lib.hid hr
      have X5 := Lib.hid (nr_below X4.out hb)
      clear hb hr X4
      go_wp2_with fail
      refine (repI_any A4 n n us A5 m m ps _ X5.out Y5.out (by omega) (by omega) (tab_below HT.out B5.out) (nms_below HN.out B5.out)).mono ?_
      rintro e w6 ⟨rfl, hb⟩
      rw [HS.out]
      have B6 := Lib.hid (below_seq B5.out hb)
      have X6 := Lib.hid (nr_below X5.out hb)
      have Y6 := Lib.hid (pr_below Y5.out hb)
      clear hb X5 Y5
      go_wp2_with fail
      refine (toIn_ex A n c us _ (nr_below H.out B6.out) hbig).mono ?_
      rintro e w7 ⟨A7, rfl, hr, hb⟩
      have B7 := Lib.hid (below_seq B6.out hb)
      have Z7 := Lib.hid hr
      have X7 := Lib.hid (nr_below X6.out hb)
      have Y7 := Lib.hid (pr_below Y6.out hb)
      clear hb hr X6 Y6
      go_wp2_with fail
      refine (eqIntS_any A4 A7 n n n n us us _ X7.out Z7.out hn hn).mono ?_
      rintro e w8 ⟨rfl, hb⟩
      rw [← ints_yes rfl]
      have B8 := Lib.hid (below_seq B7.out hb)
      have Y8 := Lib.hid (pr_below Y7.out hb)
      clear hb X7 Z7 Y7
      go_wp2_with fail
      refine (toPk_ex B m d ps _ (pr_below P.out B8.out) hbm).mono ?_
      rintro e w9 ⟨A9, rfl, hr, hb⟩
      have B9 := Lib.hid (below_seq B8.out hb)
      have Z9 := Lib.hid hr
      have Y9 := Lib.hid (pr_below Y8.out hb)
      clear hb hr Y8
      go_wp2_with fail
      refine (eqPacketS_any A5 A9 m m m m ps ps _ Y9.out Z9.out hm hm).mono ?_
      rintro e w10 ⟨rfl, hb⟩
      rw [← same_yes rfl]
      have B10 := Lib.hid (below_seq B9.out hb)
      clear hb Y9 Z9
      go_wp2
      go_ret
      exact ⟨rfl, B10.out⟩
    · go_enter Tryd.func5, Tryd.ntmps5
      go_wp2_with fail
      refine (szPacketS_any B m d 1048576 _ hm (by omega)).mono ?_
      rintro e w0 ⟨rfl, rfl⟩
      rw [if_pos (by omega)]
      go_wp2
      go_ret
      exact ⟨rfl, Below.refl _ _⟩
  · have hd : decide ((1048576 : Int) < (n : Int)) = true := by simp; omega
    go_enter Tryd.func5, Tryd.ntmps5
    go_wp2
    go_ret
    exact ⟨rfl, Below.refl _ _⟩
theorem own : ownKnob Tryd.prog.godebug = none := by kernel_rfl
theorem laidOut : laidOutB Tryd.prog = true := by kernel_rfl
theorem table {W : World} (h : laidMetH Tryd.prog Rows.fnExactFormatReportRow.laid W) : Tab W := by
  have h1 : laidMet Tryd.prog [("math/bits.deBruijn32tab", Rows.laid_math_bits_deBruijn32tab), ("math/bits.deBruijn64tab", Rows.laid_math_bits_deBruijn64tab), ("internal/strconv.uint64pow10", Rows.laid_internal_strconv_uint64pow10), ("loop.example/trafficguard/impl.decisionNames", Rows.laid_loop_example_trafficguard_impl_decisionNames)] W := h
  exact table_of h1
theorem names {W : World} (h : laidMetH Tryd.prog Rows.fnExactFormatReportRow.laid W) : Nms W := by
  have h1 : laidMet Tryd.prog [("math/bits.deBruijn32tab", Rows.laid_math_bits_deBruijn32tab), ("math/bits.deBruijn64tab", Rows.laid_math_bits_deBruijn64tab), ("internal/strconv.uint64pow10", Rows.laid_internal_strconv_uint64pow10), ("loop.example/trafficguard/impl.decisionNames", Rows.laid_loop_example_trafficguard_impl_decisionNames)] W := h
  exact names_of h1
set_option maxRecDepth 100000 in
theorem contract (H : Type) (enc : TypeId × Value → H) (W : World) (base : Nat) (args : Array Value) (ds gs : List (DataW H)) (before : List MemPlace)
    (hval : ∀ (j : Nat) t v, Tryd.f5.params[j]? = some t → args[j]? = some v → Value.okWide Tryd.prog W .any base t v)
    (hW : DataW.Whole enc Tryd.prog Tryd.f5.params.toList Rows.fnExactFormatReportSpec.vars false W args.toList ds gs before) (hL : laidMetH Tryd.prog Rows.fnExactFormatReportRow.laid W) :
    Calls Tryd.prog 5 args W fun e W' => ∃ v, e = .returned v ∧ Rows.fnExactFormatReportSpec.post enc Tryd.prog Tryd.f5 false true false false W args v W' := by
  have hW' := hW
  obtain ⟨p, q, hA0, hV, rfl, _, _⟩ := hW
  have hA : DataW.TrodAll enc Tryd.prog W 0 (fun _ => true) true Tryd.f5.params.toList args.toList ds p := hA0
  rw [Tryd.params5] at hA hval
  obtain ⟨v0, vs0, d0, ds0, p0, q0, hargs, rfl, rfl, h0, r0⟩ := trodAll_cons hA
  obtain ⟨v1, vs1, d1, ds1, p1, q1, rfl, rfl, rfl, h1, r1⟩ := trodAll_cons r0
  obtain ⟨rfl, rfl, rfl⟩ := trodAll_nil r1
  obtain rfl : args = #[v0, v1] := by cases args; simp_all
  obtain ⟨g1, rfl⟩ : ∃ g1, gs = [g1] := by
    obtain ⟨_, _, _, _, d, _, h, _⟩ := trodVars_one hV
    exact ⟨d, h⟩
  have lt0 : ∀ x ∈ p0, x.block < W.heap.size := by obtain ⟨m, hm⟩ := h0; exact DataW.trod_lt m _ _ _ hm
  obtain ⟨a0, n0, c0, rfl⟩ := okWide_slice Tryd.underlying23 (hval 0 23 v0 rfl rfl)
  obtain ⟨x0, w0, m0⟩ := ints_open h0
  have lt1 : ∀ x ∈ p1, x.block < W.heap.size := by obtain ⟨m, hm⟩ := h1; exact DataW.trod_lt m _ _ _ hm
  obtain ⟨a1, n1, c1, rfl⟩ := okWide_slice Tryd.underlying31 (hval 1 31 v1 rfl rfl)
  obtain ⟨x1, w1, m1⟩ := pkts_open h1
  clear hA0
  refine (walk a0 n0 c0 x0 a1 n1 c1 x1 W w0 m0 w1 m1 (table hL) (names hL)).mono fun e W' ⟨he, bel⟩ => ?_
  subst he
  exact ⟨_, rfl, _, _, _, [], _, q, hW', trodAll_mk1 (shut_bool Tryd.underlying4 _), (trodAll_cons_mk (Below.trod laidOut (by kernel_rfl) (of_decide_eq_true (by kernel_rfl)) h0 bel lt0) (trodAll_cons_mk (Below.trod laidOut (by kernel_rfl) (of_decide_eq_true (by kernel_rfl)) h1 bel lt1) trodAll_mk0)), bel.trodVars laidOut (by kernel_rfl) hV, bel.frame _, fun h => by cases h⟩
def setCells (cs : Array Value) (b : Obj) : Obj := match b with
  | .cells _ t frozen => .cells cs t frozen
  | o => o
def flat1 (d : DataW Unit) : List Value := match d with
  | .lit (.int k n) => [.int k n]
  | .lit (.string l) => [.string ⟨l.toArray⟩]
  | .agg ys => ys.flatMap fun y => match y with
    | .lit (.int k n) => [.int k n]
    | _ => []
  | _ => []
def flat (d : DataW Unit) : Array Value := match d with
  | .agg xs => (xs.flatMap flat1).toArray
  | _ => #[]
noncomputable def laidWorld (os : Os) : World :=
  let w := World.holding Tryd.prog os ⟨#[], #[], []⟩
  { w with heap := (((w.heap.modify 2 (setCells (flat Rows.laid_math_bits_deBruijn32tab))).modify 3 (setCells (flat Rows.laid_math_bits_deBruijn64tab))).modify 1 (setCells (flat Rows.laid_internal_strconv_uint64pow10))).modify 0 (setCells (flat Rows.laid_loop_example_trafficguard_impl_decisionNames)) }
set_option maxRecDepth 100000 in
theorem laid_met (os : Os) : laidMet Tryd.prog Rows.fnExactFormatReportRow.laid ((laidWorld os).forCall (fun _ _ => 0) ⟨#[], #[.slice none 0 0, .slice none 0 0], []⟩).memory :=
  laidMet_of_run' 8 (by kernel_rfl) (by kernel_rfl)
theorem reads (os : Os) {H : Type} (enc : TypeId × Value → H) : ∃ places, DataW.whole enc Tryd.prog ((laidWorld os).forCall (fun _ _ => 0) ⟨#[], #[.slice none 0 0, .slice none 0 0], []⟩).memory Tryd.f5.params.toList Rows.fnExactFormatReportSpec.vars false (#[.slice none 0 0, .slice none 0 0] : Array Value).toList 8 = some ([.nil, .nil], [Rows.laid_loop_example_trafficguard_impl_decisionNames], places) :=
  ⟨MemPlace.row ⟨0, 0, none⟩ 6, by kernel_rfl⟩
set_option maxRecDepth 100000 in
theorem lifted (os : Os) (started : os.Started) (H : Type) (enc : TypeId × Value → H) (F : Stop.Interp) :
    ReturnsInHanded {} Tryd.checked os 5 .any ((OpenSpec.ofChange Rows.fnExactFormatReportSpec).preRow enc Tryd.prog Tryd.f5 Rows.fnExactFormatReportRow.domain false Rows.fnExactFormatReportRow.laid) (((OpenSpec.ofChange Rows.fnExactFormatReportSpec).at F).post enc Tryd.prog Tryd.f5 false true false false) := by
  obtain ⟨places, hx⟩ := reads os enc
  refine returnsInHanded_of_row (C := Tryd.checked) (s := OpenSpec.ofChange Rows.fnExactFormatReportSpec) own started (by kernel_rfl) Tryd.func5
    (witness_row_at (enc := enc) (C := Tryd.checked) false (laidWorld os) #[.slice none 0 0, .slice none 0 0] rfl (by kernel_rfl) (by kernel_rfl) (by kernel_rfl)
      (OpenSpec.preRow_of_cond 8 hx (by kernel_rfl) (fun k hk => by cases hk) (by kernel_rfl) (laid_met os))) ?_
  intro W base args ds gs before hval hW _ _ _ hL _ _
  exact contract H enc W base args ds gs before hval hW hL
theorem said : Rows.FnExactFormatReportSaid :=
  OpenClaim.holds_of_cond 5 Tryd.f5 rfl rfl rfl rfl rfl rfl rfl ⟨rfl, rfl, rfl, rfl, rfl⟩ rfl rfl rfl rfl rfl (by kernel_rfl) Tryd.func5 (by kernel_rfl)
    (of_decide_eq_true (by kernel_rfl)) (by unfold Func.isWrapper; first | (rw [if_pos (by decide +kernel)]; kernel_rfl) | (rw [if_neg (by decide +kernel)]; exact ⟨rfl, rfl⟩))
    (fun os started H enc _ F => by rw [OpenClaim.pre_eq_preRow]; exact lifted os started H enc F)
theorem plain (f : FuncId) (fn : Func) (hf : Tryd.pinned.checked.prog.funcNamed "loop.example/trafficguard/laws.FnExactFormatReport" = some f) (hfn : Tryd.pinned.checked.prog.funcs[f]? = some fn) :
    false = Tryd.pinned.checked.prog.looks [] ∧ ∀ (j : Nat) t, fn.params[j]? = some t → Tryd.pinned.checked.prog.wantsStandIn t = false := by
  obtain rfl : f = 5 := Option.some.inj ((show Tryd.prog.funcNamed "loop.example/trafficguard/laws.FnExactFormatReport" = some 5 by kernel_rfl).symm.trans hf) |>.symm
  obtain rfl : fn = Tryd.f5 := (Option.some.inj (Tryd.func5.symm.trans hfn)).symm
  refine ⟨by kernel_rfl, fun j t ht => ?_⟩
  rw [Tryd.params5] at ht
  have hts : t = 23 ∨ t = 31 := by have := Array.mem_of_getElem? ht; simp at this; omega
  rcases hts with rfl | rfl
  · exact (show Tryd.prog.wantsStandIn 23 = false by kernel_rfl)
  · exact (show Tryd.prog.wantsStandIn 31 = false by kernel_rfl)
/-- the given statement -/
theorem proved : Rows.FnExactFormatReportCardSaid :=
  Claim7.holds_tied_plain_at .later [] _ _ _ _ said (fun _ h => by cases h) (by kernel_rfl) (fun _ h => by cases h) fnExactFormatReport_row_tie rfl ⟨rfl, rfl⟩ (by kernel_rfl) rfl plain (by kernel_rfl)
end Go.Proofs.YtaccbmgbkalknabDoor.fnExactFormatReport
