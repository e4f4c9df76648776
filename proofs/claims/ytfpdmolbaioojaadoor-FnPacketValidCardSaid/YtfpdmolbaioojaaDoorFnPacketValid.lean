/-
  The law FnPacketValid returns true at every argument: a packet is valid exactly if it has a text. Conditions: the listed tables of the library hold what their text lays (the card ties them).
-/
import Derived.Test.YtfpdmolbaioojaaDoorCards
import Derived.Test.YtfpdmolbaioojaaDoorTie
import Derived.Test.YtfpdmolbaioojaaDoorLift
import Derived.Test.YtfpdmolbaioojaaDoorDrawValid
import Derived.Test.YtfpdmolbaioojaaDoorFmt
import Derived.Deep.DeepHandedRow
import Derived.Lib.LaidTab
namespace Go.Proofs.YtfpdmolbaioojaaDoor.fnPacketValid
open Go.ChangeShapes Go.WideShapes Go.ChangeAt Go.RowKit

theorem one_ok (p : Pkt) : okB [p] = vldB p := by simp [okB]
theorem one_sz (p : Pkt) : szN [p] = if vldB p = true then p.size else 0 := by simp [szN, one_ok, sizeSum]
theorem pr_one (w : World) (p : Pkt) : PR (w.alloc (.cells #[.int .i64 p.peer, .int .i64 p.lane, .int .i64 p.size, .int .i64 p.id] 24)) (some ⟨w.heap.size, 0, none⟩) 1 [p] :=
  ⟨rfl, fun _ => ⟨w.heap.size, 0, rfl, by simp, fun k q hk => by
    have hk0 : k = 0 := by
      rcases k with _ | k
      · rfl
      · simp at hk
    subst hk0
    obtain rfl : p = q := by simpa using hk
    exact pat_new w _ p⟩⟩
theorem pat_mv {w w' : World} {b : Nat} {p : Pkt} {o : Obj} (h : PAt w b 0 p) (hb : Below (w.alloc o).heap.size (w.alloc o) w') (hlt : b < w.heap.size) : PAt w' b 0 p :=
  pat_keep h fun x => ((bcell hb).1 b x (by simp; omega)).trans (World.cell?_alloc_lt w o ⟨b, x, none⟩ hlt)
theorem fmt_some (p : Pkt) (w : World) (ht : Tab w) :
    Calls Tryd.prog 9 #[.agg #[.int .i64 p.peer, .int .i64 p.lane, .int .i64 p.size, .int .i64 p.id]] w fun e w' => (∃ T : ByteArray, e = .returned (.string T) ∧ T.toList.isEmpty = !(vldB p)) ∧ Below w.heap.size w w' := by
  rcases hv : vldB p with _ | _
  · refine (fmtI_no p w hv).mono ?_
    rintro e w' ⟨rfl, hb⟩
    exact ⟨⟨⟨#[]⟩, rfl, by rw [Go.ByteArray.toList_eq]; rfl⟩, hb⟩
  · obtain ⟨x1, x2, x3, x4⟩ := p
    have hb : 0 ≤ x1 ∧ 0 ≤ x2 ∧ 0 ≤ x3 ∧ 0 ≤ x4 := by
      simp only [vldB, decide_eq_true_eq] at hv
      omega
    obtain ⟨a, rfl⟩ : ∃ a : Nat, x1 = a := ⟨x1.toNat, by omega⟩
    obtain ⟨b, rfl⟩ : ∃ a : Nat, x2 = a := ⟨x2.toNat, by omega⟩
    obtain ⟨c, rfl⟩ : ∃ a : Nat, x3 = a := ⟨x3.toNat, by omega⟩
    obtain ⟨d, rfl⟩ : ∃ a : Nat, x4 = a := ⟨x4.toNat, by omega⟩
    refine (fmtI_yes a b c d w hv ht).mono ?_
    rintro e w' ⟨rfl, hb⟩
    refine ⟨⟨_, rfl, ?_⟩, hb⟩
    rw [Go.ByteArray.toList_eq]
    show (textL a b c d).isEmpty = false
    rw [textL]
    rcases decF 8 a with _ | ⟨x, r⟩ <;> rfl
set_option maxHeartbeats 4000000 in
theorem walk (A : Option Addr) (n c : Nat) (w : World) (h : Bytes w A n c) (ht : Tab w) :
    Calls Tryd.prog 7 #[.slice A n c] w fun e w' => e = .returned (.bool true) ∧ Below w.heap.size w w' := by
  have HB := Lib.hid h
  have HT := Lib.hid ht
  clear h ht
  by_cases hbig : n ≤ 1048576
  · go_enter Tryd.func7, Tryd.ntmps7
    go_wp2_with fail
    refine (drawPacketValid_any A n c _ HB.out).mono ?_
    rintro e w1 ⟨p, rfl, hb1⟩
    have B1 := Lib.hid hb1
    clear hb1
    go_wp2_with fail
    refine (vldI_any p _).mono ?_
    rintro e w2 ⟨rfl, hb2⟩
    have hlt2 : w1.heap.size < w2.heap.size := by have := hb2.size; simp at this; omega
    have P2 := Lib.hid (show PAt w2 w1.heap.size 0 p from pat_keep (pat_new w1 24 p) fun x => (bcell hb2).1 _ x (by simp))
    have B2 := Lib.hid (B1.out.trans ((Below.alloc (Below.refl w.heap.size w1) B1.out.size _).trans (hb2.mono (by have := B1.out.size; simp; omega))))
    clear hb2
    rcases hv : vldB p with _ | _
    · have HV := Lib.hid hv
      have HS : Hid (szN [p] = 0) := Lib.hid (by rw [one_sz, hv]; rfl)
      have HO : Hid (okB [p] = false) := Lib.hid (by rw [one_ok, hv])
      clear hv
      obtain ⟨q0, q1, q2, q3⟩ := P2.out
      go_wp2_with fail
      refine (sizeI_any _ 1 1 [p] _ (pr_one w2 p) (by omega)).mono ?_
      rintro e w3 ⟨rfl, hb3⟩
      rw [HS.out, HO.out]
      have hlt3 : w1.heap.size < w3.heap.size := by have := hb3.size; simp at this; omega
      have P3 := Lib.hid (pat_mv P2.out hb3 hlt2)
      have B3 := Lib.hid (B2.out.trans ((Below.alloc (Below.refl w.heap.size w2) B2.out.size _).trans (hb3.mono (by have := B2.out.size; simp; omega))))
      clear hb3 q0 q1 q2 q3
      obtain ⟨q0, q1, q2, q3⟩ := P3.out
      go_wp2_with fail
      refine (vldS_any p _).mono ?_
      rintro e w4 ⟨rfl, hb4⟩
      rw [HV.out]
      have P4 := Lib.hid (pat_keep P3.out fun x => (bcell hb4).1 _ x hlt3)
      have B4 := Lib.hid (B3.out.trans (hb4.mono B3.out.size))
      have hlt4 : w1.heap.size < w4.heap.size := Nat.lt_of_lt_of_le hlt3 hb4.size
      clear hb4 q0 q1 q2 q3
      obtain ⟨q0, q1, q2, q3⟩ := P4.out
      go_wp2_with fail
      refine (fmt_some p _ (tab_below HT.out B4.out)).mono ?_
      rintro e w5 ⟨⟨T, rfl, hT⟩, hb5⟩
      rw [HV.out] at hT
      have hT' : T.toList.isEmpty = true := hT
      clear hT
      have P5 := Lib.hid (pat_keep P4.out fun x => (bcell hb5).1 _ x hlt4)
      have B5 := Lib.hid (B4.out.trans (hb5.mono B4.out.size))
      clear hb5 q0 q1 q2 q3
      obtain ⟨q0, q1, q2, q3⟩ := P5.out
      go_wp2
      go_ret
      exact ⟨rfl, B5.out⟩
    · have HV := Lib.hid hv
      have HS : Hid (szN [p] = p.size) := Lib.hid (by rw [one_sz, hv]; rfl)
      have HO : Hid (okB [p] = true) := Lib.hid (by rw [one_ok, hv])
      clear hv
      obtain ⟨q0, q1, q2, q3⟩ := P2.out
      go_wp2_with fail
      refine (sizeI_any _ 1 1 [p] _ (pr_one w2 p) (by omega)).mono ?_
      rintro e w3 ⟨rfl, hb3⟩
      rw [HS.out, HO.out]
      have hlt3 : w1.heap.size < w3.heap.size := by have := hb3.size; simp at this; omega
      have P3 := Lib.hid (pat_mv P2.out hb3 hlt2)
      have B3 := Lib.hid (B2.out.trans ((Below.alloc (Below.refl w.heap.size w2) B2.out.size _).trans (hb3.mono (by have := B2.out.size; simp; omega))))
      clear hb3 q0 q1 q2 q3
      obtain ⟨q0, q1, q2, q3⟩ := P3.out
      go_wp2_with fail
      refine (vldS_any p _).mono ?_
      rintro e w4 ⟨rfl, hb4⟩
      rw [HV.out]
      have P4 := Lib.hid (pat_keep P3.out fun x => (bcell hb4).1 _ x hlt3)
      have B4 := Lib.hid (B3.out.trans (hb4.mono B3.out.size))
      have hlt4 : w1.heap.size < w4.heap.size := Nat.lt_of_lt_of_le hlt3 hb4.size
      clear hb4 q0 q1 q2 q3
      obtain ⟨q0, q1, q2, q3⟩ := P4.out
      go_wp2_with fail
      refine (fmt_some p _ (tab_below HT.out B4.out)).mono ?_
      rintro e w5 ⟨⟨T, rfl, hT⟩, hb5⟩
      rw [HV.out] at hT
      have hT' : T.toList.isEmpty = false := hT
      clear hT
      have P5 := Lib.hid (pat_keep P4.out fun x => (bcell hb5).1 _ x hlt4)
      have B5 := Lib.hid (B4.out.trans (hb5.mono B4.out.size))
      clear hb5 q0 q1 q2 q3
      obtain ⟨q0, q1, q2, q3⟩ := P5.out
      go_wp2
      go_ret
      exact ⟨rfl, B5.out⟩
  · go_enter Tryd.func7, Tryd.ntmps7
    go_wp2
    go_ret
    exact ⟨rfl, Below.refl _ _⟩
theorem own : ownKnob Tryd.prog.godebug = none := by kernel_rfl
theorem laidOut : laidOutB Tryd.prog = true := by kernel_rfl
theorem laid_tail {P : Program} {x : String × DataW Unit} {r : List (String × DataW Unit)} {w : World} (h : laidMet P (x :: r) w) : laidMet P r w := by
  obtain ⟨n, d⟩ := x
  obtain ⟨ps, ⟨g, t, cs, fuel, p, q, _, _, _, _, hr, rfl⟩, hn, hc⟩ := h
  exact ⟨q, hr, (List.nodup_append.1 hn).2.1, fun b off hb => hc b off (List.mem_append.2 (.inr hb))⟩
theorem gPowType : (Tryd.prog.globals[1]?).map (·.type) = some 95 := by kernel_rfl
theorem cellsArr : Tryd.prog.cellsOf 95 = 20 := by kernel_rfl
theorem cellsU64 : Tryd.prog.cellsOf 83 = 1 := by kernel_rfl
set_option maxRecDepth 100000 in
theorem same_tab : (Rows.laid_internal_strconv_uint64pow10 : DataW Unit) = Lib.tabData .u64 Lib.pow10Tab := by kernel_rfl
theorem table {W : World} (h : laidMetH Tryd.prog Rows.fnPacketValidRow.laid W) : Tab W := by
  have h1 : laidMet Tryd.prog [("math/bits.deBruijn32tab", Rows.laid_math_bits_deBruijn32tab), ("math/bits.deBruijn64tab", Rows.laid_math_bits_deBruijn64tab), ("internal/strconv.uint64pow10", Rows.laid_internal_strconv_uint64pow10)] W := h
  have h2 := laid_tail (laid_tail h1)
  rw [same_tab] at h2
  have h3 := Lib.tabIs_of_head (rest := []) gPow gPowType Tryd.underlying95 Tryd.underlying83 cellsU64 cellsArr h2
  exact ⟨h3, World.block_lt_of_cell? W (a := ⟨1, 0, none⟩) (h3.cell gPow 0 (by rw [Lib.pow10Tab_length]; omega))⟩
set_option maxRecDepth 100000 in
theorem contract (H : Type) (enc : TypeId × Value → H) (W : World) (base : Nat) (args : Array Value) (ds gs : List (DataW H)) (before : List MemPlace)
    (hval : ∀ (j : Nat) t v, Tryd.f7.params[j]? = some t → args[j]? = some v → Value.okWide Tryd.prog W .any base t v)
    (hW : DataW.Whole enc Tryd.prog Tryd.f7.params.toList Rows.fnPacketValidSpec.vars false W args.toList ds gs before) (hL : laidMetH Tryd.prog Rows.fnPacketValidRow.laid W) :
    Calls Tryd.prog 7 args W fun e W' => ∃ v, e = .returned v ∧ Rows.fnPacketValidSpec.post enc Tryd.prog Tryd.f7 false true false false W args v W' := by
  have hW' := hW
  obtain ⟨p, q, hA0, hV, rfl, _, _⟩ := hW
  have hA : DataW.TrodAll enc Tryd.prog W 0 (fun _ => true) true Tryd.f7.params.toList args.toList ds p := hA0
  rw [Tryd.params7] at hA hval
  obtain ⟨v0, vs0, d0, ds0, p0, q0, hargs, rfl, rfl, h0, r0⟩ := trodAll_cons hA
  obtain ⟨rfl, rfl, rfl⟩ := trodAll_nil r0
  obtain rfl : args = #[v0] := by cases args; simp_all
  obtain ⟨rfl, rfl⟩ := trodVars_none hV
  obtain ⟨a0, n0, c0, rfl⟩ := okWide_slice Tryd.underlying22 (hval 0 22 v0 rfl rfl)
  have lt0 : ∀ x ∈ p0, x.block < W.heap.size := by obtain ⟨m, hm⟩ := h0; exact DataW.trod_lt m _ _ _ hm
  have w0 : Bytes W a0 n0 c0 := bytes_open h0
  clear hA0
  refine (walk a0 n0 c0 W w0 (table hL)).mono fun e W' ⟨he, bel⟩ => ?_
  subst he
  exact ⟨_, rfl, _, _, _, [], _, [], hW', trodAll_mk1 (shut_bool Tryd.underlying4 _), (trodAll_cons_mk (Below.trod laidOut (by kernel_rfl) (of_decide_eq_true (by kernel_rfl)) h0 bel lt0) trodAll_mk0), rfl, bel.frame _, fun h => by cases h⟩
def setCells (cs : Array Value) (b : Obj) : Obj := match b with
  | .cells _ t frozen => .cells cs t frozen
  | o => o
def laid0 : Array Value := #[.int .u8 0, .int .u8 1, .int .u8 28, .int .u8 2, .int .u8 29, .int .u8 14, .int .u8 24, .int .u8 3, .int .u8 30, .int .u8 22, .int .u8 20, .int .u8 15, .int .u8 25, .int .u8 17, .int .u8 4, .int .u8 8, .int .u8 31, .int .u8 27, .int .u8 13, .int .u8 23, .int .u8 21, .int .u8 19, .int .u8 16, .int .u8 7, .int .u8 26, .int .u8 12, .int .u8 18, .int .u8 6, .int .u8 11, .int .u8 5, .int .u8 10, .int .u8 9]
def laid1 : Array Value := #[.int .u8 0, .int .u8 1, .int .u8 56, .int .u8 2, .int .u8 57, .int .u8 49, .int .u8 28, .int .u8 3, .int .u8 61, .int .u8 58, .int .u8 42, .int .u8 50, .int .u8 38, .int .u8 29, .int .u8 17, .int .u8 4, .int .u8 62, .int .u8 47, .int .u8 59, .int .u8 36, .int .u8 45, .int .u8 43, .int .u8 51, .int .u8 22, .int .u8 53, .int .u8 39, .int .u8 33, .int .u8 30, .int .u8 24, .int .u8 18, .int .u8 12, .int .u8 5, .int .u8 63, .int .u8 55, .int .u8 48, .int .u8 27, .int .u8 60, .int .u8 41, .int .u8 37, .int .u8 16, .int .u8 46, .int .u8 35, .int .u8 44, .int .u8 21, .int .u8 52, .int .u8 32, .int .u8 23, .int .u8 11, .int .u8 54, .int .u8 26, .int .u8 40, .int .u8 15, .int .u8 34, .int .u8 20, .int .u8 31, .int .u8 10, .int .u8 25, .int .u8 14, .int .u8 19, .int .u8 9, .int .u8 13, .int .u8 8, .int .u8 7, .int .u8 6]
def laid2 : Array Value := #[.int .u64 1, .int .u64 10, .int .u64 100, .int .u64 1000, .int .u64 10000, .int .u64 100000, .int .u64 1000000, .int .u64 10000000, .int .u64 100000000, .int .u64 1000000000, .int .u64 10000000000, .int .u64 100000000000, .int .u64 1000000000000, .int .u64 10000000000000, .int .u64 100000000000000, .int .u64 1000000000000000, .int .u64 10000000000000000, .int .u64 100000000000000000, .int .u64 1000000000000000000, .int .u64 10000000000000000000]
noncomputable def laidWorld (os : Os) : World :=
  let w := World.holding Tryd.prog os ⟨#[], #[], []⟩
  { w with heap := ((w.heap.modify 4 (setCells laid0)).modify 5 (setCells laid1)).modify 1 (setCells laid2) }
set_option maxRecDepth 100000 in
theorem laid_met (os : Os) : laidMet Tryd.prog Rows.fnPacketValidRow.laid ((laidWorld os).forCall (fun _ _ => 0) ⟨#[], #[.slice none 0 0], []⟩).memory :=
  laidMet_of_run' 8 (by kernel_rfl) (by kernel_rfl)
theorem reads (os : Os) {H : Type} (enc : TypeId × Value → H) : ∃ places, DataW.whole enc Tryd.prog ((laidWorld os).forCall (fun _ _ => 0) ⟨#[], #[.slice none 0 0], []⟩).memory Tryd.f7.params.toList Rows.fnPacketValidSpec.vars false #[Value.slice none 0 0].toList 8 = some ([.nil], [], places) :=
  ⟨[], by kernel_rfl⟩
set_option maxRecDepth 100000 in
theorem lifted (os : Os) (started : os.Started) (H : Type) (enc : TypeId × Value → H) (F : Stop.Interp) :
    ReturnsInHanded {} Tryd.checked os 7 .any ((OpenSpec.ofChange Rows.fnPacketValidSpec).preRow enc Tryd.prog Tryd.f7 Rows.fnPacketValidRow.domain false Rows.fnPacketValidRow.laid) (((OpenSpec.ofChange Rows.fnPacketValidSpec).at F).post enc Tryd.prog Tryd.f7 false true false false) := by
  obtain ⟨places, hx⟩ := reads os enc
  refine returnsInHanded_of_row (C := Tryd.checked) (s := OpenSpec.ofChange Rows.fnPacketValidSpec) own started (by kernel_rfl) Tryd.func7
    (witness_row_at (enc := enc) (C := Tryd.checked) false (laidWorld os) #[.slice none 0 0] rfl (by kernel_rfl) (by kernel_rfl) (by kernel_rfl)
      (OpenSpec.preRow_of_cond 8 hx (by kernel_rfl) (fun k hk => by cases hk) (by kernel_rfl) (laid_met os))) ?_
  intro W base args ds gs before hval hW _ _ _ hL _ _
  exact contract H enc W base args ds gs before hval hW hL
theorem said : Rows.FnPacketValidSaid :=
  OpenClaim.holds_of_cond 7 Tryd.f7 rfl rfl rfl rfl rfl rfl rfl ⟨rfl, rfl, rfl, rfl, rfl⟩ rfl rfl rfl rfl rfl (by kernel_rfl) Tryd.func7 (by kernel_rfl)
    (of_decide_eq_true (by kernel_rfl)) (by unfold Func.isWrapper; first | (rw [if_pos (by decide +kernel)]; kernel_rfl) | (rw [if_neg (by decide +kernel)]; exact ⟨rfl, rfl⟩))
    (fun os started H enc _ F => by rw [OpenClaim.pre_eq_preRow]; exact lifted os started H enc F)
theorem plain (f : FuncId) (fn : Func) (hf : Tryd.pinned.checked.prog.funcNamed "loop.example/trafficguard/laws.FnPacketValid" = some f) (hfn : Tryd.pinned.checked.prog.funcs[f]? = some fn) :
    false = Tryd.pinned.checked.prog.looks [] ∧ ∀ (j : Nat) t, fn.params[j]? = some t → Tryd.pinned.checked.prog.wantsStandIn t = false := by
  obtain rfl : f = 7 := Option.some.inj ((show Tryd.prog.funcNamed "loop.example/trafficguard/laws.FnPacketValid" = some 7 by kernel_rfl).symm.trans hf) |>.symm
  obtain rfl : fn = Tryd.f7 := (Option.some.inj (Tryd.func7.symm.trans hfn)).symm
  refine ⟨by kernel_rfl, fun j t ht => ?_⟩
  rw [Tryd.params7] at ht
  obtain rfl : t = 22 := by simpa using Array.mem_of_getElem? ht
  exact (show Tryd.prog.wantsStandIn 22 = false by kernel_rfl)
/-- the given statement -/
theorem proved : Rows.FnPacketValidCardSaid :=
  Claim7.holds_tied_plain_at .later [] _ _ _ _ said (fun _ h => by cases h) (by kernel_rfl) (fun _ h => by cases h) fnPacketValid_row_tie rfl ⟨rfl, rfl⟩ (by kernel_rfl) rfl plain (by kernel_rfl)
end Go.Proofs.YtfpdmolbaioojaaDoor.fnPacketValid
