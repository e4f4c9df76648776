/-
  The law FnParseMany returns true at every argument: a text of packets has one space less than packets. Conditions: none.
-/
import Derived.Test.YtlnbhbjibkgjgaaDoorLift
import Derived.Test.YtlnbhbjibkgjgaaDoorDrawTexts
import Derived.Test.YtlnbhbjibkgjgaaDoorParsS
import Derived.Test.YtlnbhbjibkgjgaaDoorC1c
import Derived.Test.YtlnbhbjibkgjgaaDoorMl
namespace Go.Proofs.YtlnbhbjibkgjgaaDoor.fnParseMany
open Go.ChangeShapes Go.WideShapes Go.ChangeAt Go.RowKit

def SpRel (s : ByteArray) (x i : Value) : Prop := ∃ k : Nat, k ≤ s.size ∧ i = .int .i64 (k : Int) ∧ x = .int .i64 (((s.data.toList.take k).count 32 : Nat) : Int)
theorem cnt_step {s : ByteArray} {k : Nat} (h : k < s.size) : (s.data.toList.take (k + 1)).count 32 = (s.data.toList.take k).count 32 + (if s[k] = 32 then 1 else 0) := by
  rw [bytes_take s k h, List.count_append]
  by_cases hc : s[k] = 32
  · rw [if_pos hc, hc]; rfl
  · rw [if_neg hc, List.count_eq_zero.2 (fun hm => hc (List.mem_singleton.1 hm).symm)]
set_option maxRecDepth 100000 in
set_option maxHeartbeats 8000000 in
theorem walk (A : Option Addr) (n c : Nat) (w : World) (h : Bytes w A n c) (hml : ML w) :
    Calls Tryd.prog 6 #[.slice A n c] w fun e w' => e = .returned (.bool true) ∧ Below w.heap.size w w' := by
  have HB := Lib.hid h
  have HM := Lib.hid hml
  clear h hml
  by_cases hbig : ¬ n ≤ 1048576
  · go_enter Tryd.func6, Tryd.ntmps6
    go_wp2
    go_ret
    exact ⟨rfl, Below.refl _ _⟩
  have hbig' : n ≤ 1048576 := by omega
  clear hbig
  go_enter Tryd.func6, Tryd.ntmps6
  go_wp2_with fail
  refine (drawParsePackets_any A n c _ HB.out).mono ?_
  rintro e w1 ⟨s, rfl, hs, hb⟩
  have B1 := Lib.hid hb
  have M1 := Lib.hid (ml_below HM.out hb)
  clear hb
  go_wp2_with fail
  refine (parsI_any s _ (by omega) M1.out).mono ?_
  rintro e w2 ⟨(⟨hok, A2, n2, c2, rfl, ho⟩ | ⟨hok, A2, c2, rfl, ho⟩), hb⟩
  · have P2 := Lib.hid (pr_own ho)
    have B2 := Lib.hid (below_seq B1.out hb)
    have HO := Lib.hid hok
    clear ho hb
    go_wp2_with fail
    refine (parsS_any s _ (by omega)).mono ?_
    rintro e w3 ⟨(⟨-, A3, n3, c3, rfl, ho⟩ | ⟨hok3, A3, c3, rfl, ho⟩), hb⟩
    · have P3 := Lib.hid (pr_own ho)
      have Q3 := Lib.hid (pr_below P2.out hb)
      have B3 := Lib.hid (below_seq B2.out hb)
      have hv := Lib.hid (pkts_vld hok)
      have hn2 : n2 = (pktsOf s).length := P2.out.1.symm
      have hn3 : n3 = (pktsOf s).length := P3.out.1.symm
      have hl2 : n2 ≤ 64 := by have := hv.out.2; omega
      have hl3 : n3 ≤ 64 := by have := hv.out.2; omega
      have HN2 := Lib.hid hn2
      clear ho hb hok hn2 hn3
      go_wp2_with fail
      refine (sameI_any A2 A3 n2 c2 n3 c3 _ _ _ Q3.out P3.out (by omega) (by omega)).mono ?_
      rintro e w4 ⟨rfl, hb⟩
      rw [← same_yes rfl]
      have Q4 := Lib.hid (pr_below Q3.out hb)
      have P4 := Lib.hid (pr_below P3.out hb)
      have B4 := Lib.hid (below_seq B3.out hb)
      clear hb
      by_cases hn0 : n2 = 0
      · have z : ((n2 : Int) == 0) = true := by simp only [beq_iff_eq]; omega
        clear hn0
        go_wp2_with fail
        refine (sameI_any A2 A3 n2 c2 n3 c3 _ _ _ Q4.out P4.out (by omega) (by omega)).mono ?_
        rintro e w5 ⟨rfl, hb⟩
        rw [← same_yes rfl]
        have B5 := Lib.hid (below_seq B4.out hb)
        clear hb
        go_wp2
        go_ret
        exact ⟨rfl, B5.out⟩
      · have z : ((n2 : Int) == 0) = false := by simp only [beq_eq_false_iff_ne]; omega
        have H0 : Hid (¬ s.size = 0) := Lib.hid (fun e => hn0 (by rw [HN2.out, (okPs_empty e).2]; rfl))
        clear hn0
        go_wp2
        have HPL := Lib.hid (pieces_len s)
        have HY := Lib.hid (okPs_of HO.out H0.out)
        have hn2' : (n2 : Int) = ((s.data.toList.count 32 : Nat) : Int) + 1 := by
          have := okPs_yes H0.out HY.out.1 HY.out.2
          rw [HN2.out, this.2, List.length_map, HPL.out]
          omega
        have HE := Lib.hid hn2'
        clear hn2'
        go_loopw [8, 9] (fun x i wr => SpRel s x i ∧ wr = w4) (fun _ i _ => s.size - (intOf i).toNat)
        case atStart => exact ⟨⟨0, Nat.zero_le _, rfl, by rw [List.take_zero]; rfl⟩, rfl⟩
        case round =>
          obtain ⟨⟨k, hk, rfl, rfl⟩, rfl⟩ := hrel
          have hcl : (s.data.toList.take k).count 32 ≤ k := Nat.le_trans List.count_le_length (List.length_take_le _ _)
          by_cases hlt : k < s.size
          · have HC := Lib.hid (cnt_step hlt)
            by_cases hc : s[k] = 32
            · have hcb : (((s[k].toNat : Nat) : Int) == 32) = true := by simp [hc]
              have HC2 := Lib.hid hc
              clear hc
              go_wp2
              go_roundw
              case rel => exact ⟨⟨k + 1, by omega, by go_num, by rw [HC.out, if_pos HC2.out]; go_num⟩, trivial⟩
              case measure => simp [intOf]; omega
            · have hcb : (((s[k].toNat : Nat) : Int) == 32) = false := by
                simp only [beq_eq_false_iff_ne]
                intro he
                exact hc (UInt8.toNat_inj.1 (by show s[k].toNat = 32; omega))
              have HC2 := Lib.hid hc
              clear hc
              go_wp2
              go_roundw
              case rel => exact ⟨⟨k + 1, by omega, by go_num, by rw [HC.out, if_neg HC2.out]; go_num⟩, trivial⟩
              case measure => simp [intOf]; omega
          · obtain rfl : k = s.size := by omega
            have ht : s.data.toList.take s.size = s.data.toList := List.take_of_length_le (by rw [len_bytes]; exact Nat.le_refl _)
            rw [ht] at hcl ⊢
            obtain ⟨C, hC⟩ : ∃ C, C = s.data.toList.count 32 := ⟨_, rfl⟩
            rw [← hC] at hcl HE ⊢
            have y : ((C : Int) == (n2 : Int) - 1) = true := by have := HE.out; simp only [beq_iff_eq]; omega
            have y2 : 0 ≤ (n2 : Int) - 1 := by have := HE.out; omega
            have HK := Lib.hid (ok_vld hv.out.1 hv.out.2)
            clear ht hC
            go_wp2_with fail
            refine (sizeI_any A2 n2 c2 _ _ Q4.out (by omega)).mono ?_
            rintro e w5 ⟨rfl, hb⟩
            rw [HK.out]
            have B5 := Lib.hid (below_seq B4.out hb)
            clear hb
            go_wp2
            go_ret
            exact ⟨rfl, B5.out⟩
    · rw [hok] at hok3; cases hok3
  · have P2 := Lib.hid (pr_own ho)
    have B2 := Lib.hid (below_seq B1.out hb)
    clear ho hb
    go_wp2_with fail
    refine (parsS_any s _ (by omega)).mono ?_
    rintro e w3 ⟨(⟨hok3, A3, n3, c3, rfl, ho⟩ | ⟨-, A3, c3, rfl, ho⟩), hb⟩
    · rw [hok] at hok3; cases hok3
    · have P3 := Lib.hid (pr_own ho)
      have Q3 := Lib.hid (pr_below P2.out hb)
      have B3 := Lib.hid (below_seq B2.out hb)
      clear ho hb hok
      go_wp2_with fail
      refine (sameI_any A2 A3 0 c2 0 c3 _ _ _ Q3.out P3.out (by omega) (by omega)).mono ?_
      rintro e w4 ⟨rfl, hb⟩
      rw [← same_yes rfl]
      have Q4 := Lib.hid (pr_below Q3.out hb)
      have P4 := Lib.hid (pr_below P3.out hb)
      have B4 := Lib.hid (below_seq B3.out hb)
      clear hb
      go_wp2_with fail
      refine (sameI_any A2 A3 0 c2 0 c3 _ _ _ Q4.out P4.out (by omega) (by omega)).mono ?_
      rintro e w5 ⟨rfl, hb⟩
      rw [← same_yes rfl]
      have B5 := Lib.hid (below_seq B4.out hb)
      clear hb
      go_wp2
      go_ret
      exact ⟨rfl, B5.out⟩
theorem own : ownKnob Tryd.prog.godebug = none := by kernel_rfl
theorem laidOut : laidOutB Tryd.prog = true := by kernel_rfl
set_option maxRecDepth 100000 in
theorem contract (H : Type) (enc : TypeId × Value → H) (W : World) (base : Nat) (args : Array Value) (ds gs : List (DataW H)) (before : List MemPlace)
    (hval : ∀ (j : Nat) t v, Tryd.f6.params[j]? = some t → args[j]? = some v → Value.okWide Tryd.prog W .any base t v)
    (hW : DataW.Whole enc Tryd.prog Tryd.f6.params.toList Rows.fnParseManySpec.vars false W args.toList ds gs before) (_ : laidMetH Tryd.prog Rows.fnParseManyRow.laid W) (hS : W.ShapedOpen Tryd.prog) :
    Calls Tryd.prog 6 args W fun e W' => ∃ v, e = .returned v ∧ Rows.fnParseManySpec.post enc Tryd.prog Tryd.f6 false true false false W args v W' := by
  have hW' := hW
  obtain ⟨p, q, hA0, hV, rfl, _, _⟩ := hW
  have hA : DataW.TrodAll enc Tryd.prog W 0 (fun _ => true) true Tryd.f6.params.toList args.toList ds p := hA0
  rw [Tryd.params6] at hA hval
  obtain ⟨v0, vs0, d0, ds0, p0, q0, hargs, rfl, rfl, h0, r0⟩ := trodAll_cons hA
  obtain ⟨rfl, rfl, rfl⟩ := trodAll_nil r0
  obtain rfl : args = #[v0] := by cases args; simp_all
  obtain ⟨rfl, rfl⟩ := trodVars_none hV
  have lt0 : ∀ x ∈ p0, x.block < W.heap.size := by obtain ⟨m, hm⟩ := h0; exact DataW.trod_lt m _ _ _ hm
  obtain ⟨a0, n0, c0, rfl⟩ := okWide_slice Tryd.underlying22 (hval 0 22 v0 rfl rfl)
  have w0 : Bytes W a0 n0 c0 := bytes_open h0
  clear hA0
  refine (walk a0 n0 c0 W w0 (ml_of hS)).mono fun e W' ⟨he, bel⟩ => ?_
  subst he
  exact ⟨_, rfl, _, _, _, [], _, [], hW', trodAll_mk1 (shut_bool Tryd.underlying4 _), (trodAll_cons_mk (Below.trod laidOut (by kernel_rfl) (of_decide_eq_true (by kernel_rfl)) h0 bel lt0) trodAll_mk0), rfl, bel.frame _, fun h => by cases h⟩
def setCells (cs : Array Value) (b : Obj) : Obj := match b with
  | .cells _ t frozen => .cells cs t frozen
  | o => o
def flat1 (d : DataW Unit) : List Value := match d with
  | .lit (.int k n) => [.int k n]
  | .agg ys => ys.flatMap fun y => match y with
    | .lit (.int k n) => [.int k n]
    | _ => []
  | _ => []
def flat (d : DataW Unit) : Array Value := match d with
  | .agg xs => (xs.flatMap flat1).toArray
  | _ => #[]
noncomputable def laidWorld (os : Os) : World :=
  let w := World.holding Tryd.prog os ⟨#[], #[], []⟩
  { w with heap := (w.heap.modify 3 (setCells (flat Rows.laid_unicode_utf8_acceptRanges))).modify 2 (setCells (flat Rows.laid_unicode_utf8_first)) }
set_option maxRecDepth 100000 in
theorem laid_met (os : Os) : laidMet Tryd.prog Rows.fnParseManyRow.laid ((laidWorld os).forCall (fun _ _ => 0) ⟨#[], #[.slice none 0 0], []⟩).memory :=
  laidMet_of_run' 8 (by kernel_rfl) (by kernel_rfl)
theorem reads (os : Os) {H : Type} (enc : TypeId × Value → H) : ∃ places, DataW.whole enc Tryd.prog ((laidWorld os).forCall (fun _ _ => 0) ⟨#[], #[.slice none 0 0], []⟩).memory Tryd.f6.params.toList Rows.fnParseManySpec.vars false (#[.slice none 0 0] : Array Value).toList 8 = some ([.nil], [], places) :=
  ⟨[], by kernel_rfl⟩
set_option maxRecDepth 100000 in
theorem lifted (os : Os) (started : os.Started) (H : Type) (enc : TypeId × Value → H) (F : Stop.Interp) :
    ReturnsInHanded {} Tryd.checked os 6 .any ((OpenSpec.ofChange Rows.fnParseManySpec).preRow enc Tryd.prog Tryd.f6 Rows.fnParseManyRow.domain false Rows.fnParseManyRow.laid) (((OpenSpec.ofChange Rows.fnParseManySpec).at F).post enc Tryd.prog Tryd.f6 false true false false) := by
  obtain ⟨places, hx⟩ := reads os enc
  refine returnsInHanded_of_row (C := Tryd.checked) (s := OpenSpec.ofChange Rows.fnParseManySpec) own started (by kernel_rfl) Tryd.func6
    (witness_row_at (enc := enc) (C := Tryd.checked) false (laidWorld os) #[.slice none 0 0] rfl (by kernel_rfl) (by kernel_rfl) (by kernel_rfl)
      (OpenSpec.preRow_of_cond 8 hx (by kernel_rfl) (fun k hk => by cases hk) (by kernel_rfl) (laid_met os))) ?_
  intro W base args ds gs before hval hW _ _ _ hL hS _
  exact contract H enc W base args ds gs before hval hW hL hS
theorem said : Rows.FnParseManySaid :=
  OpenClaim.holds_of_cond 6 Tryd.f6 rfl rfl rfl rfl rfl rfl rfl ⟨rfl, rfl, rfl, rfl, rfl⟩ rfl rfl rfl rfl rfl (by kernel_rfl) Tryd.func6 (by kernel_rfl)
    (of_decide_eq_true (by kernel_rfl)) (by unfold Func.isWrapper; first | (rw [if_pos (by decide +kernel)]; kernel_rfl) | (rw [if_neg (by decide +kernel)]; exact ⟨rfl, rfl⟩))
    (fun os started H enc _ F => by rw [OpenClaim.pre_eq_preRow]; exact lifted os started H enc F)
theorem plain (f : FuncId) (fn : Func) (hf : Tryd.pinned.checked.prog.funcNamed "loop.example/trafficguard/laws.FnParseMany" = some f) (hfn : Tryd.pinned.checked.prog.funcs[f]? = some fn) :
    false = Tryd.pinned.checked.prog.looks [] ∧ ∀ (j : Nat) t, fn.params[j]? = some t → Tryd.pinned.checked.prog.wantsStandIn t = false := by
  obtain rfl : f = 6 := Option.some.inj ((show Tryd.prog.funcNamed "loop.example/trafficguard/laws.FnParseMany" = some 6 by kernel_rfl).symm.trans hf) |>.symm
  obtain rfl : fn = Tryd.f6 := (Option.some.inj (Tryd.func6.symm.trans hfn)).symm
  refine ⟨by kernel_rfl, fun j t ht => ?_⟩
  rw [Tryd.params6] at ht
  obtain rfl : t = 22 := by simpa using Array.mem_of_getElem? ht
  exact (show Tryd.prog.wantsStandIn 22 = false by kernel_rfl)
/-- the given statement -/
theorem proved : Rows.FnParseManyCardSaid :=
  Claim7.holds_tied_plain_at .later [] _ _ _ _ said (fun _ h => by cases h) (by kernel_rfl) (fun _ h => by cases h) fnParseMany_row_tie rfl ⟨rfl, rfl⟩ (by kernel_rfl) rfl plain (by kernel_rfl)
end Go.Proofs.YtlnbhbjibkgjgaaDoor.fnParseMany
