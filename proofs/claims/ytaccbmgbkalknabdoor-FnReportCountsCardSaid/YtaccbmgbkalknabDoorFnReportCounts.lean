/-
  The law FnReportCounts returns true at every argument: a report of nothing counts nothing. Conditions: none.
-/
import Derived.Test.YtaccbmgbkalknabDoorLift
import Derived.Test.YtaccbmgbkalknabDoorYn
namespace Go.Proofs.YtaccbmgbkalknabDoor.fnReportCounts
open Go.ChangeShapes Go.WideShapes Go.ChangeAt Go.RowKit

theorem pLn_none (k : Nat) : pLn (bsL []) k = [] := by
  induction k with
  | zero => rfl
  | succ k ih =>
    rw [pLn, ih, List.nil_append, if_neg]
    have : ∀ x ∈ bsL [], x = 0 := by decide
    intro h
    rcases hq : (bsL [])[k]? with _ | x
    · rw [at0, hq] at h; exact absurd h (by decide)
    · rw [at0_of hq, this x (List.mem_of_getElem? hq)] at h; exact absurd h (by decide)
theorem rep_none : repS [] [] = ⟨#[105, 110, 32, 48, 10, 98, 97, 110, 110, 101, 100, 32, 48, 10, 102, 97, 115, 116, 32, 48, 10, 98, 117, 115, 121, 32, 48, 10, 102, 117, 108, 108, 32, 48, 10]⟩ := by rfl
theorem rep_some {us : List Int} (h : decB us = true) : (repS us []).data.toList = dLn (cdL us) 5 := by
  show repL us [] = _
  rw [repL, h, show bpB [] = true from rfl, if_pos (show (true && true) = true from rfl), pLn_none, List.append_nil]
theorem ext_pre {S T : ByteArray} {l r : List UInt8} (hS : S.data.toList = l ++ r) (hT : T.data.toList = l) : S.extract 0 T.size = T := by
  apply ByteArray.ext
  apply Array.toList_inj.1
  rw [ByteArray.data_extract, Array.toList_extract, hS, hT, size_of hT]
  simp
set_option maxRecDepth 100000 in
set_option maxHeartbeats 8000000 in
theorem walk (A : Option Addr) (n c : Nat) (w : World) (h : Bytes w A n c) (ht : Tab w) (hN : Nms w) :
    Calls Tryd.prog 4 #[.slice A n c] w fun e w' => e = .returned (.bool true) ∧ Below w.heap.size w w' := by
  have HB := Lib.hid h
  have HT := Lib.hid ht
  have HN := Lib.hid hN
  clear h ht hN
  by_cases hbig : ¬ n ≤ 1048576
  · go_enter Tryd.func4, Tryd.ntmps4
    go_wp2
    go_ret
    exact ⟨rfl, Below.refl _ _⟩
  have hbig' : n ≤ 1048576 := by omega
  clear hbig
  go_enter Tryd.func4, Tryd.ntmps4
  go_wp2_with fail
  refine (drawReport_any A n c _ HB.out).mono ?_
  rintro e w1 ⟨A1, n1, c1, us, B1x, m1, d1, ps, rfl, hn9, hm9, hr, hp, hb⟩
  obtain ⟨hc1, hf1⟩ := bcell hb
  have B1 := Lib.hid (show Below w.heap.size w w1 from (by first | exact below_seq (Below.refl w.heap.size w) hb | exact below_seq1 (Below.refl w.heap.size w) hb | exact below_seq2 (Below.refl w.heap.size w) hb | exact below_seq3 (Below.refl w.heap.size w) hb | exact below_seq4 (Below.refl w.heap.size w) hb))
  have R1 := Lib.hid hb
  have hz1 := hb.size
  try simp at hz1
  clear hb
  have Q1 := Lib.hid hr
  have P1 := Lib.hid hp
  clear hr hp
  obtain ⟨S, hS⟩ : ∃ S, repS us ps = S := ⟨_, rfl⟩
  have HS := Lib.hid hS
  clear hS
  go_wp2_with fail
  refine ((repI_any A1 n1 c1 us B1x m1 d1 ps _ Q1.out P1.out (by omega) (by omega) (tab_below HT.out B1.out) (nms_below HN.out B1.out))).mono ?_
  rintro e w2 ⟨rfl, hb⟩
  obtain ⟨hc2, hf2⟩ := bcell hb
  have B2 := Lib.hid (show Below w.heap.size w w2 from (by first | exact below_seq B1.out hb | exact below_seq1 B1.out hb | exact below_seq2 B1.out hb | exact below_seq3 B1.out hb | exact below_seq4 B1.out hb))
  have R2 := Lib.hid hb
  have hz2 := hb.size
  try simp at hz2
  clear hb
  try have y20 : w.heap.size < w2.heap.size := by omega
  try have y20a : w.heap.size + 1 < w2.heap.size := by omega
  try have y20b : w.heap.size < w2.heap.size + 1 + 1 := by omega
  try have y20c : w.heap.size + 1 < w2.heap.size + 1 + 1 := by omega
  try have y21 : w1.heap.size < w2.heap.size := by omega
  try have y21a : w1.heap.size + 1 < w2.heap.size := by omega
  try have y21b : w1.heap.size < w2.heap.size + 1 + 1 := by omega
  try have y21c : w1.heap.size + 1 < w2.heap.size + 1 + 1 := by omega
  rw [HS.out]
  have Q2 := Lib.hid (nr_below Q1.out R2.out)
  have P2 := Lib.hid (pr_below P1.out R2.out)
  go_wp2_with fail
  refine ((repS_any A1 n1 c1 us B1x m1 d1 ps _ Q2.out P2.out (by omega) (by omega))).mono ?_
  rintro e w3 ⟨rfl, hb⟩
  obtain ⟨hc3, hf3⟩ := bcell hb
  have B3 := Lib.hid (show Below w.heap.size w w3 from (by first | exact below_seq B2.out hb | exact below_seq1 B2.out hb | exact below_seq2 B2.out hb | exact below_seq3 B2.out hb | exact below_seq4 B2.out hb))
  have R3 := Lib.hid hb
  have hz3 := hb.size
  try simp at hz3
  clear hb
  try have y30 : w.heap.size < w3.heap.size := by omega
  try have y30a : w.heap.size + 1 < w3.heap.size := by omega
  try have y30b : w.heap.size < w3.heap.size + 1 + 1 := by omega
  try have y30c : w.heap.size + 1 < w3.heap.size + 1 + 1 := by omega
  try have y31 : w1.heap.size < w3.heap.size := by omega
  try have y31a : w1.heap.size + 1 < w3.heap.size := by omega
  try have y31b : w1.heap.size < w3.heap.size + 1 + 1 := by omega
  try have y31c : w1.heap.size + 1 < w3.heap.size + 1 + 1 := by omega
  try have y32 : w2.heap.size < w3.heap.size := by omega
  try have y32a : w2.heap.size + 1 < w3.heap.size := by omega
  try have y32b : w2.heap.size < w3.heap.size + 1 + 1 := by omega
  try have y32c : w2.heap.size + 1 < w3.heap.size + 1 + 1 := by omega
  rw [HS.out]
  have Q3 := Lib.hid (nr_below Q2.out R3.out)
  have P3 := Lib.hid (pr_below P2.out R3.out)
  rcases hk : (decB us && bpB ps) with _ | _
  · obtain rfl : S = ⟨#[]⟩ := by rw [← HS.out, repS, repL, hk]; rfl
    clear hk
    go_wp2_with fail
    refine ((repS_any A1 n1 c1 us B1x m1 d1 ps _ Q3.out P3.out (by omega) (by omega))).mono ?_
    rintro e w4 ⟨rfl, hb⟩
    obtain ⟨hc4, hf4⟩ := bcell hb
    have B4 := Lib.hid (show Below w.heap.size w w4 from (by first | exact below_seq B3.out hb | exact below_seq1 B3.out hb | exact below_seq2 B3.out hb | exact below_seq3 B3.out hb | exact below_seq4 B3.out hb))
    have R4 := Lib.hid hb
    have hz4 := hb.size
    try simp at hz4
    clear hb
    try have y40 : w.heap.size < w4.heap.size := by omega
    try have y40a : w.heap.size + 1 < w4.heap.size := by omega
    try have y40b : w.heap.size < w4.heap.size + 1 + 1 := by omega
    try have y40c : w.heap.size + 1 < w4.heap.size + 1 + 1 := by omega
    try have y41 : w1.heap.size < w4.heap.size := by omega
    try have y41a : w1.heap.size + 1 < w4.heap.size := by omega
    try have y41b : w1.heap.size < w4.heap.size + 1 + 1 := by omega
    try have y41c : w1.heap.size + 1 < w4.heap.size + 1 + 1 := by omega
    try have y42 : w2.heap.size < w4.heap.size := by omega
    try have y42a : w2.heap.size + 1 < w4.heap.size := by omega
    try have y42b : w2.heap.size < w4.heap.size + 1 + 1 := by omega
    try have y42c : w2.heap.size + 1 < w4.heap.size + 1 + 1 := by omega
    try have y43 : w3.heap.size < w4.heap.size := by omega
    try have y43a : w3.heap.size + 1 < w4.heap.size := by omega
    try have y43b : w3.heap.size < w4.heap.size + 1 + 1 := by omega
    try have y43c : w3.heap.size + 1 < w4.heap.size + 1 + 1 := by omega
    rw [HS.out]
    go_wp2
    all_goals
      go_ret
      refine ⟨rfl, ?_⟩
      repeat refine below_alloc ?_ _
      exact B4.out
  · have HSD : Hid (S.data.toList = dLn (cdL us) 5 ++ pLn (bsL ps) 8) := Lib.hid (by rw [← HS.out, repS, repL, hk]; rfl)
    have HDB : Hid (decB us = true) := Lib.hid (by simp only [Bool.and_eq_true] at hk; exact hk.1)
    clear hk
    obtain ⟨T, hT⟩ : ∃ T, repS us [] = T := ⟨_, rfl⟩
    have HTT := Lib.hid hT
    have HTD : Hid (T.data.toList = dLn (cdL us) 5) := Lib.hid (by rw [← hT]; exact rep_some HDB.out)
    clear hT
    have hts : T.size ≤ S.size := by rw [size_of HTD.out, size_of HSD.out, List.length_append]; omega
    have hs3 : S.size ≤ 300 := by
      have h1 := dLn_len (cdL us) 5
      have h2 := pLn_len (bsL ps) 8
      rw [size_of HSD.out, List.length_append]
      omega
    have hs0 : 0 < S.size := by
      rw [size_of HSD.out, List.length_append]
      have : 0 < (dLn (cdL us) 5).length := by simp only [dLn, lnD, List.length_append, List.length_cons]; omega
      omega
    have hE := not_empty (s := S) hs0
    have HEX := Lib.hid (ext_pre HSD.out HTD.out)
    go_wp2_with fail
    refine ((repI_any none 0 0 [] none 0 0 [] _ (nr_nil _ _) (pr_nil _ _) (by omega) (by omega) (tab_below HT.out B3.out) (nms_below HN.out B3.out))).mono ?_
    rintro e w4 ⟨rfl, hb⟩
    obtain ⟨hc4, hf4⟩ := bcell hb
    have B4 := Lib.hid (show Below w.heap.size w w4 from (by first | exact below_seq B3.out hb | exact below_seq1 B3.out hb | exact below_seq2 B3.out hb | exact below_seq3 B3.out hb | exact below_seq4 B3.out hb))
    have R4 := Lib.hid hb
    have hz4 := hb.size
    try simp at hz4
    clear hb
    try have y40 : w.heap.size < w4.heap.size := by omega
    try have y40a : w.heap.size + 1 < w4.heap.size := by omega
    try have y40b : w.heap.size < w4.heap.size + 1 + 1 := by omega
    try have y40c : w.heap.size + 1 < w4.heap.size + 1 + 1 := by omega
    try have y41 : w1.heap.size < w4.heap.size := by omega
    try have y41a : w1.heap.size + 1 < w4.heap.size := by omega
    try have y41b : w1.heap.size < w4.heap.size + 1 + 1 := by omega
    try have y41c : w1.heap.size + 1 < w4.heap.size + 1 + 1 := by omega
    try have y42 : w2.heap.size < w4.heap.size := by omega
    try have y42a : w2.heap.size + 1 < w4.heap.size := by omega
    try have y42b : w2.heap.size < w4.heap.size + 1 + 1 := by omega
    try have y42c : w2.heap.size + 1 < w4.heap.size + 1 + 1 := by omega
    try have y43 : w3.heap.size < w4.heap.size := by omega
    try have y43a : w3.heap.size + 1 < w4.heap.size := by omega
    try have y43b : w3.heap.size < w4.heap.size + 1 + 1 := by omega
    try have y43c : w3.heap.size + 1 < w4.heap.size + 1 + 1 := by omega
    rw [rep_none]
    have Q4 := Lib.hid (nr_below Q3.out R4.out)
    go_wp2_with fail
    refine ((repI_any A1 n1 c1 us none 0 0 [] _ Q4.out (pr_nil _ _) (by omega) (by omega) (tab_below HT.out B4.out) (nms_below HN.out B4.out))).mono ?_
    rintro e w5 ⟨rfl, hb⟩
    obtain ⟨hc5, hf5⟩ := bcell hb
    have B5 := Lib.hid (show Below w.heap.size w w5 from (by first | exact below_seq B4.out hb | exact below_seq1 B4.out hb | exact below_seq2 B4.out hb | exact below_seq3 B4.out hb | exact below_seq4 B4.out hb))
    have R5 := Lib.hid hb
    have hz5 := hb.size
    try simp at hz5
    clear hb
    try have y50 : w.heap.size < w5.heap.size := by omega
    try have y50a : w.heap.size + 1 < w5.heap.size := by omega
    try have y50b : w.heap.size < w5.heap.size + 1 + 1 := by omega
    try have y50c : w.heap.size + 1 < w5.heap.size + 1 + 1 := by omega
    try have y51 : w1.heap.size < w5.heap.size := by omega
    try have y51a : w1.heap.size + 1 < w5.heap.size := by omega
    try have y51b : w1.heap.size < w5.heap.size + 1 + 1 := by omega
    try have y51c : w1.heap.size + 1 < w5.heap.size + 1 + 1 := by omega
    try have y52 : w2.heap.size < w5.heap.size := by omega
    try have y52a : w2.heap.size + 1 < w5.heap.size := by omega
    try have y52b : w2.heap.size < w5.heap.size + 1 + 1 := by omega
    try have y52c : w2.heap.size + 1 < w5.heap.size + 1 + 1 := by omega
    try have y53 : w3.heap.size < w5.heap.size := by omega
    try have y53a : w3.heap.size + 1 < w5.heap.size := by omega
    try have y53b : w3.heap.size < w5.heap.size + 1 + 1 := by omega
    try have y53c : w3.heap.size + 1 < w5.heap.size + 1 + 1 := by omega
    try have y54 : w4.heap.size < w5.heap.size := by omega
    try have y54a : w4.heap.size + 1 < w5.heap.size := by omega
    try have y54b : w4.heap.size < w5.heap.size + 1 + 1 := by omega
    try have y54c : w4.heap.size + 1 < w5.heap.size + 1 + 1 := by omega
    rw [HTT.out]
    have he : ((S.extract 0 T.size).toList == T.toList) = true := by rw [HEX.out]; exact beq_self_eq_true _
    go_wp2
    all_goals
      go_ret
      refine ⟨rfl, ?_⟩
      repeat refine below_alloc ?_ _
      exact B5.out
theorem own : ownKnob Tryd.prog.godebug = none := by kernel_rfl
theorem laidOut : laidOutB Tryd.prog = true := by kernel_rfl
theorem table {W : World} (h : laidMetH Tryd.prog Rows.fnReportCountsRow.laid W) : Tab W := by
  have h1 : laidMet Tryd.prog [("math/bits.deBruijn32tab", Rows.laid_math_bits_deBruijn32tab), ("math/bits.deBruijn64tab", Rows.laid_math_bits_deBruijn64tab), ("internal/strconv.uint64pow10", Rows.laid_internal_strconv_uint64pow10), ("loop.example/trafficguard/impl.decisionNames", Rows.laid_loop_example_trafficguard_impl_decisionNames)] W := h
  exact table_of h1
theorem names {W : World} (h : laidMetH Tryd.prog Rows.fnReportCountsRow.laid W) : Nms W := by
  have h1 : laidMet Tryd.prog [("math/bits.deBruijn32tab", Rows.laid_math_bits_deBruijn32tab), ("math/bits.deBruijn64tab", Rows.laid_math_bits_deBruijn64tab), ("internal/strconv.uint64pow10", Rows.laid_internal_strconv_uint64pow10), ("loop.example/trafficguard/impl.decisionNames", Rows.laid_loop_example_trafficguard_impl_decisionNames)] W := h
  exact names_of h1
set_option maxRecDepth 100000 in
theorem contract (H : Type) (enc : TypeId × Value → H) (W : World) (base : Nat) (args : Array Value) (ds gs : List (DataW H)) (before : List MemPlace)
    (hval : ∀ (j : Nat) t v, Tryd.f4.params[j]? = some t → args[j]? = some v → Value.okWide Tryd.prog W .any base t v)
    (hW : DataW.Whole enc Tryd.prog Tryd.f4.params.toList Rows.fnReportCountsSpec.vars false W args.toList ds gs before) (hL : laidMetH Tryd.prog Rows.fnReportCountsRow.laid W) :
    Calls Tryd.prog 4 args W fun e W' => ∃ v, e = .returned v ∧ Rows.fnReportCountsSpec.post enc Tryd.prog Tryd.f4 false true false false W args v W' := by
  have hW' := hW
  obtain ⟨p, q, hA0, hV, rfl, _, _⟩ := hW
  have hA : DataW.TrodAll enc Tryd.prog W 0 (fun _ => true) true Tryd.f4.params.toList args.toList ds p := hA0
  rw [Tryd.params4] at hA hval
  obtain ⟨v0, vs0, d0, ds0, p0, q0, hargs, rfl, rfl, h0, r0⟩ := trodAll_cons hA
  obtain ⟨rfl, rfl, rfl⟩ := trodAll_nil r0
  obtain rfl : args = #[v0] := by cases args; simp_all
  obtain ⟨g1, rfl⟩ : ∃ g1, gs = [g1] := by
    obtain ⟨_, _, _, _, d, _, h, _⟩ := trodVars_one hV
    exact ⟨d, h⟩
  have lt0 : ∀ x ∈ p0, x.block < W.heap.size := by obtain ⟨m, hm⟩ := h0; exact DataW.trod_lt m _ _ _ hm
  obtain ⟨a0, n0, c0, rfl⟩ := okWide_slice Tryd.underlying22 (hval 0 22 v0 rfl rfl)
  have w0 : Bytes W a0 n0 c0 := bytes_open h0
  clear hA0
  refine (walk a0 n0 c0 W w0 (table hL) (names hL)).mono fun e W' ⟨he, bel⟩ => ?_
  subst he
  exact ⟨_, rfl, _, _, _, [], _, q, hW', trodAll_mk1 (shut_bool Tryd.underlying4 _), (trodAll_cons_mk (Below.trod laidOut (by kernel_rfl) (of_decide_eq_true (by kernel_rfl)) h0 bel lt0) trodAll_mk0), bel.trodVars laidOut (by kernel_rfl) hV, bel.frame _, fun h => by cases h⟩
def setCells (cs : Array Value) (b : Obj) : Obj := match b with
  | .cells _ t frozen => .cells cs t frozen
  | o => o
def flat1 (d : DataW Unit) : List Value := match d with
  | .lit (.int k n) => [.int k n]
  | .lit (.string l) => [.string ⟨l.toArray⟩]
  | .agg ys => ys.flatMap fun y => match y with
    | .lit (.int k n) => [.int k n]
    | _ => []
  | _ => []
def flat (d : DataW Unit) : Array Value := match d with
  | .agg xs => (xs.flatMap flat1).toArray
  | _ => #[]
noncomputable def laidWorld (os : Os) : World :=
  let w := World.holding Tryd.prog os ⟨#[], #[], []⟩
  { w with heap := (((w.heap.modify 2 (setCells (flat Rows.laid_math_bits_deBruijn32tab))).modify 3 (setCells (flat Rows.laid_math_bits_deBruijn64tab))).modify 1 (setCells (flat Rows.laid_internal_strconv_uint64pow10))).modify 0 (setCells (flat Rows.laid_loop_example_trafficguard_impl_decisionNames)) }
set_option maxRecDepth 100000 in
theorem laid_met (os : Os) : laidMet Tryd.prog Rows.fnReportCountsRow.laid ((laidWorld os).forCall (fun _ _ => 0) ⟨#[], #[.slice none 0 0], []⟩).memory :=
  laidMet_of_run' 8 (by kernel_rfl) (by kernel_rfl)
theorem reads (os : Os) {H : Type} (enc : TypeId × Value → H) : ∃ places, DataW.whole enc Tryd.prog ((laidWorld os).forCall (fun _ _ => 0) ⟨#[], #[.slice none 0 0], []⟩).memory Tryd.f4.params.toList Rows.fnReportCountsSpec.vars false (#[.slice none 0 0] : Array Value).toList 8 = some ([.nil], [Rows.laid_loop_example_trafficguard_impl_decisionNames], places) :=
  ⟨MemPlace.row ⟨0, 0, none⟩ 6, by kernel_rfl⟩
set_option maxRecDepth 100000 in
theorem lifted (os : Os) (started : os.Started) (H : Type) (enc : TypeId × Value → H) (F : Stop.Interp) :
    ReturnsInHanded {} Tryd.checked os 4 .any ((OpenSpec.ofChange Rows.fnReportCountsSpec).preRow enc Tryd.prog Tryd.f4 Rows.fnReportCountsRow.domain false Rows.fnReportCountsRow.laid) (((OpenSpec.ofChange Rows.fnReportCountsSpec).at F).post enc Tryd.prog Tryd.f4 false true false false) := by
  obtain ⟨places, hx⟩ := reads os enc
  refine returnsInHanded_of_row (C := Tryd.checked) (s := OpenSpec.ofChange Rows.fnReportCountsSpec) own started (by kernel_rfl) Tryd.func4
    (witness_row_at (enc := enc) (C := Tryd.checked) false (laidWorld os) #[.slice none 0 0] rfl (by kernel_rfl) (by kernel_rfl) (by kernel_rfl)
      (OpenSpec.preRow_of_cond 8 hx (by kernel_rfl) (fun k hk => by cases hk) (by kernel_rfl) (laid_met os))) ?_
  intro W base args ds gs before hval hW _ _ _ hL _ _
  exact contract H enc W base args ds gs before hval hW hL
theorem said : Rows.FnReportCountsSaid :=
  OpenClaim.holds_of_cond 4 Tryd.f4 rfl rfl rfl rfl rfl rfl rfl ⟨rfl, rfl, rfl, rfl, rfl⟩ rfl rfl rfl rfl rfl (by kernel_rfl) Tryd.func4 (by kernel_rfl)
    (of_decide_eq_true (by kernel_rfl)) (by unfold Func.isWrapper; first | (rw [if_pos (by decide +kernel)]; kernel_rfl) | (rw [if_neg (by decide +kernel)]; exact ⟨rfl, rfl⟩))
    (fun os started H enc _ F => by rw [OpenClaim.pre_eq_preRow]; exact lifted os started H enc F)
theorem plain (f : FuncId) (fn : Func) (hf : Tryd.pinned.checked.prog.funcNamed "loop.example/trafficguard/laws.FnReportCounts" = some f) (hfn : Tryd.pinned.checked.prog.funcs[f]? = some fn) :
    false = Tryd.pinned.checked.prog.looks [] ∧ ∀ (j : Nat) t, fn.params[j]? = some t → Tryd.pinned.checked.prog.wantsStandIn t = false := by
  obtain rfl : f = 4 := Option.some.inj ((show Tryd.prog.funcNamed "loop.example/trafficguard/laws.FnReportCounts" = some 4 by kernel_rfl).symm.trans hf) |>.symm
  obtain rfl : fn = Tryd.f4 := (Option.some.inj (Tryd.func4.symm.trans hfn)).symm
  refine ⟨by kernel_rfl, fun j t ht => ?_⟩
  rw [Tryd.params4] at ht
  obtain rfl : t = 22 := by simpa using Array.mem_of_getElem? ht
  exact (show Tryd.prog.wantsStandIn 22 = false by kernel_rfl)
/-- the given statement -/
theorem proved : Rows.FnReportCountsCardSaid :=
  Claim7.holds_tied_plain_at .later [] _ _ _ _ said (fun _ h => by cases h) (by kernel_rfl) (fun _ h => by cases h) fnReportCounts_row_tie rfl ⟨rfl, rfl⟩ (by kernel_rfl) rfl plain (by kernel_rfl)
end Go.Proofs.YtaccbmgbkalknabDoor.fnReportCounts
