/-
  The law FnExactParsePackets returns true at every argument: the program's ParsePackets answers as the model's, and its answer owns its memory. Conditions: none.
-/
import Derived.Test.YtlnbhbjibkgjgaaDoorLiftPkts
import Derived.Test.YtlnbhbjibkgjgaaDoorEx1
import Derived.Test.YtlnbhbjibkgjgaaDoorParsU
import Derived.Test.YtlnbhbjibkgjgaaDoorMl
namespace Go.Proofs.YtlnbhbjibkgjgaaDoor.fnExactParsePackets
open Go.ChangeShapes Go.WideShapes Go.ChangeAt Go.RowKit

open Go.ChangeMaps (open_string shut_string)
theorem pr_mark {w w' : World} {A : Option Addr} {n : Nat} {ps : List Pkt} {row : Option Nat} (h : PR w A n ps) (hg : w.grownBy w' row) (hne : ∀ b, A.map (·.block) = some b → some b ≠ row) : PR w' A n ps :=
  pr_keep h hg.size fun b x hlt hb => hg.cell_far ⟨b, x, none⟩ hlt (hne b hb)
theorem block_eq {A : Option Addr} {n c : Nat} : Value.ownBlock (.slice A n c) = A.map (·.block) := by cases A <;> rfl
theorem below_mark {w w1 w2 : World} {base : Nat} {v : Value} {n : Nat} {xs : List Value} {e : TypeId} {B : Nat} (h : Below B w w1) (ho : w1.ownsRow base e 4 v n xs) (hg : w1.grownBy w2 v.ownBlock) (hB : B ≤ base) (hz : B ≤ w1.heap.size) : Below B w w2 :=
  h.grown hg hz fun k hk => Nat.le_trans hB (ho.lt k hk).1
theorem own_lt {w : World} {base : Nat} {e : TypeId} {A : Option Addr} {n c : Nat} {xs : List Value} (h : w.ownsRow base e 4 (.slice A n c) n xs) : ∀ b, A.map (·.block) = some b → base ≤ b ∧ b < w.heap.size := fun b hb => h.lt b (by rw [block_eq]; exact hb)
set_option maxRecDepth 100000 in
set_option maxHeartbeats 8000000 in
theorem walk (s : ByteArray) (w : World) (_ : s.size ≤ maxLen) (hml : ML w) :
    Calls Tryd.prog 9 #[.string s] w fun e w' => e = .returned (.bool true) ∧ Below w.heap.size w w' := by
  have HM := Lib.hid hml
  clear hml
  by_cases hbig : ¬ s.size ≤ 1048576
  · go_enter Tryd.func9, Tryd.ntmps9
    go_wp2
    go_ret
    exact ⟨rfl, Below.refl _ _⟩
  have hbig' : s.size ≤ 1048576 := by omega
  clear hbig
  go_enter Tryd.func9, Tryd.ntmps9
  go_wp2_with fail
  refine (parsS_u s _ (by omega)).mono ?_
  rintro e w1 ⟨A0, n0, c0, rfl, ho, hn0, hb⟩
  have W1 := Lib.hid (pr_own ho)
  have L1 := Lib.hid (own_lt ho)
  have B1 := Lib.hid hb
  clear ho hb
  go_wp2_with fail
  refine (parsI_u s _ (by omega) (ml_below HM.out B1.out)).mono ?_
  rintro e w2 ⟨Ag, ng, cg, rfl, ho, hng, hb⟩
  have G2 := Lib.hid ho
  have W2 := Lib.hid (pr_below W1.out hb)
  have B2 := Lib.hid (below_seq B1.out hb)
  obtain ⟨R, hR⟩ : ∃ R, R = okPs s := ⟨_, rfl⟩
  rw [← hR]
  have HR := Lib.hid hR
  clear ho hb hR
  go_wp2_with fail
  refine (eqPacketS_any Ag A0 ng cg n0 c0 _ _ _ (pr_own G2.out) W2.out (by omega) (by omega)).mono ?_
  rintro e w3 ⟨rfl, hb⟩
  rw [← same_yes rfl]
  have G3 := Lib.hid (own_below G2.out hb)
  have W3 := Lib.hid (pr_below W2.out hb)
  have B3 := Lib.hid (below_seq B2.out hb)
  clear hb
  go_wp2_with fail
  refine (markPacketS_any _ Ag ng cg 1 _ _ G3.out (by omega) (by omega)).mono ?_
  rintro e w4 ⟨rfl, h4a, h4b⟩
  have M4 := Lib.hid (pr_own h4a)
  have W4 := Lib.hid (pr_mark W3.out h4b (fun b hb e => by have := L1.out b hb; have := (G3.out.lt b e.symm).1; omega))
  have B4 := Lib.hid (below_mark B3.out G3.out h4b B1.out.size B3.out.size)
  clear h4a h4b
  go_wp2_with fail
  refine (heldPacketS_any Ag ng cg 1 _ M4.out (by omega) (by omega)).mono ?_
  rintro e w5 ⟨rfl, rfl⟩
  go_wp2_with fail
  refine (parsI_u s _ (by omega) (ml_below HM.out B4.out)).mono ?_
  rintro e w6 ⟨Ah, nh, ch, rfl, ho, hnh, hb⟩
  rw [← HR.out]
  have P6 := Lib.hid (pr_own ho)
  have M6 := Lib.hid (pr_below M4.out hb)
  have W6 := Lib.hid (pr_below W4.out hb)
  have B6 := Lib.hid (below_seq B4.out hb)
  clear ho hb
  go_wp2_with fail
  refine (eqPacketS_any Ah A0 nh ch n0 c0 _ _ _ P6.out W6.out (by omega) (by omega)).mono ?_
  rintro e w7 ⟨rfl, hb⟩
  rw [← same_yes rfl]
  have M7 := Lib.hid (pr_below M6.out hb)
  have B7 := Lib.hid (below_seq B6.out hb)
  clear hb
  go_wp2_with fail
  refine (heldPacketS_any Ag ng cg 1 _ M7.out (by omega) (by omega)).mono ?_
  rintro e w8 ⟨rfl, rfl⟩
  go_wp2
  go_ret
  exact ⟨rfl, B7.out⟩
theorem own : ownKnob Tryd.prog.godebug = none := by kernel_rfl
theorem laidOut : laidOutB Tryd.prog = true := by kernel_rfl
set_option maxRecDepth 100000 in
theorem contract (H : Type) (enc : TypeId × Value → H) (W : World) (base : Nat) (args : Array Value) (ds gs : List (DataW H)) (before : List MemPlace)
    (hval : ∀ (j : Nat) t v, Tryd.f9.params[j]? = some t → args[j]? = some v → Value.okWide Tryd.prog W .any base t v)
    (hW : DataW.Whole enc Tryd.prog Tryd.f9.params.toList Rows.fnExactParsePacketsSpec.vars false W args.toList ds gs before) (_ : laidMetH Tryd.prog Rows.fnExactParsePacketsRow.laid W) (hS : W.ShapedOpen Tryd.prog) :
    Calls Tryd.prog 9 args W fun e W' => ∃ v, e = .returned v ∧ Rows.fnExactParsePacketsSpec.post enc Tryd.prog Tryd.f9 false true false false W args v W' := by
  have hW' := hW
  obtain ⟨p, q, hA0, hV, rfl, _, _⟩ := hW
  have hA : DataW.TrodAll enc Tryd.prog W 0 (fun _ => true) true Tryd.f9.params.toList args.toList ds p := hA0
  rw [Tryd.params9] at hA hval
  obtain ⟨v0, vs0, d0, ds0, p0, q0, hargs, rfl, rfl, h0, r0⟩ := trodAll_cons hA
  obtain ⟨rfl, rfl, rfl⟩ := trodAll_nil r0
  obtain rfl : args = #[v0] := by cases args; simp_all
  obtain ⟨rfl, rfl⟩ := trodVars_none hV
  obtain ⟨x0, rfl, rfl, rfl, w0⟩ := open_string Tryd.underlying9 (hval 0 9 v0 rfl rfl) h0
  clear hA0
  refine (walk x0 W w0 (ml_of hS)).mono fun e W' ⟨he, bel⟩ => ?_
  subst he
  exact ⟨_, rfl, _, _, _, [], _, [], hW', trodAll_mk1 (shut_bool Tryd.underlying4 _), (trodAll_cons_mk (shut_string Tryd.underlying9 w0) trodAll_mk0), rfl, bel.frame _, fun h => by cases h⟩
def setCells (cs : Array Value) (b : Obj) : Obj := match b with
  | .cells _ t frozen => .cells cs t frozen
  | o => o
def flat1 (d : DataW Unit) : List Value := match d with
  | .lit (.int k n) => [.int k n]
  | .agg ys => ys.flatMap fun y => match y with
    | .lit (.int k n) => [.int k n]
    | _ => []
  | _ => []
def flat (d : DataW Unit) : Array Value := match d with
  | .agg xs => (xs.flatMap flat1).toArray
  | _ => #[]
noncomputable def laidWorld (os : Os) : World :=
  let w := World.holding Tryd.prog os ⟨#[], #[], []⟩
  { w with heap := (w.heap.modify 3 (setCells (flat Rows.laid_unicode_utf8_acceptRanges))).modify 2 (setCells (flat Rows.laid_unicode_utf8_first)) }
set_option maxRecDepth 100000 in
theorem laid_met (os : Os) : laidMet Tryd.prog Rows.fnExactParsePacketsRow.laid ((laidWorld os).forCall (fun _ _ => 0) ⟨#[], #[.string .empty], []⟩).memory :=
  laidMet_of_run' 8 (by kernel_rfl) (by kernel_rfl)
theorem reads (os : Os) {H : Type} (enc : TypeId × Value → H) : ∃ places, DataW.whole enc Tryd.prog ((laidWorld os).forCall (fun _ _ => 0) ⟨#[], #[.string .empty], []⟩).memory Tryd.f9.params.toList Rows.fnExactParsePacketsSpec.vars false (#[.string .empty] : Array Value).toList 8 = some ([.lit (.string [])], [], places) :=
  ⟨[], by kernel_rfl⟩
set_option maxRecDepth 100000 in
theorem lifted (os : Os) (started : os.Started) (H : Type) (enc : TypeId × Value → H) (F : Stop.Interp) :
    ReturnsInHanded {} Tryd.checked os 9 .any ((OpenSpec.ofChange Rows.fnExactParsePacketsSpec).preRow enc Tryd.prog Tryd.f9 Rows.fnExactParsePacketsRow.domain false Rows.fnExactParsePacketsRow.laid) (((OpenSpec.ofChange Rows.fnExactParsePacketsSpec).at F).post enc Tryd.prog Tryd.f9 false true false false) := by
  obtain ⟨places, hx⟩ := reads os enc
  refine returnsInHanded_of_row (C := Tryd.checked) (s := OpenSpec.ofChange Rows.fnExactParsePacketsSpec) own started (by kernel_rfl) Tryd.func9
    (witness_row_at (enc := enc) (C := Tryd.checked) false (laidWorld os) #[.string .empty] rfl (by kernel_rfl) (by kernel_rfl) (by kernel_rfl)
      (OpenSpec.preRow_of_cond 8 hx (by kernel_rfl) (fun k hk => by cases hk) (by kernel_rfl) (laid_met os))) ?_
  intro W base args ds gs before hval hW _ _ _ hL hS _
  exact contract H enc W base args ds gs before hval hW hL hS
theorem said : Rows.FnExactParsePacketsSaid :=
  OpenClaim.holds_of_cond 9 Tryd.f9 rfl rfl rfl rfl rfl rfl rfl ⟨rfl, rfl, rfl, rfl, rfl⟩ rfl rfl rfl rfl rfl (by kernel_rfl) Tryd.func9 (by kernel_rfl)
    (of_decide_eq_true (by kernel_rfl)) (by unfold Func.isWrapper; first | (rw [if_pos (by decide +kernel)]; kernel_rfl) | (rw [if_neg (by decide +kernel)]; exact ⟨rfl, rfl⟩))
    (fun os started H enc _ F => by rw [OpenClaim.pre_eq_preRow]; exact lifted os started H enc F)
theorem plain (f : FuncId) (fn : Func) (hf : Tryd.pinned.checked.prog.funcNamed "loop.example/trafficguard/laws.FnExactParsePackets" = some f) (hfn : Tryd.pinned.checked.prog.funcs[f]? = some fn) :
    false = Tryd.pinned.checked.prog.looks [] ∧ ∀ (j : Nat) t, fn.params[j]? = some t → Tryd.pinned.checked.prog.wantsStandIn t = false := by
  obtain rfl : f = 9 := Option.some.inj ((show Tryd.prog.funcNamed "loop.example/trafficguard/laws.FnExactParsePackets" = some 9 by kernel_rfl).symm.trans hf) |>.symm
  obtain rfl : fn = Tryd.f9 := (Option.some.inj (Tryd.func9.symm.trans hfn)).symm
  refine ⟨by kernel_rfl, fun j t ht => ?_⟩
  rw [Tryd.params9] at ht
  obtain rfl : t = 9 := by simpa using Array.mem_of_getElem? ht
  exact (show Tryd.prog.wantsStandIn 9 = false by kernel_rfl)
/-- the given statement -/
theorem proved : Rows.FnExactParsePacketsCardSaid :=
  Claim7.holds_tied_plain_at .later [] _ _ _ _ said (fun _ h => by cases h) (by kernel_rfl) (fun _ h => by cases h) fnExactParsePackets_row_tie rfl ⟨rfl, rfl⟩ (by kernel_rfl) rfl plain (by kernel_rfl)
end Go.Proofs.YtlnbhbjibkgjgaaDoor.fnExactParsePackets
