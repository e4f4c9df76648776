/-
  The law FnExactShapeArrivals returns true at every argument: the program's ShapeArrivals answers as the model's, writes into no argument, and its answer owns its memory. Conditions: none.
-/
import Derived.Test.YtclgmmnidkppmabE8
import Derived.Test.YtclgmmnidkppmabEax
import Derived.Test.YtclgmmnidkppmabMay
import Derived.Test.YtclgmmnidkppmabLifts
import Derived.Test.YtclgmmnidkppmabMake
namespace Go.Proofs.Ytclgmmnidkppmab.fnExactShapeArrivals
open Go.ChangeShapes Go.WideShapes Go.ChangeAt Go.RowKit

theorem ar_mark {w w' : World} {A : Option Addr} {n : Nat} {ps : List Arr} {row : Option Nat} (h : AR w A n ps) (hg : w.grownBy w' row) (hne : ∀ b, A.map (·.block) = some b → some b ≠ row) : AR w' A n ps :=
  ar_keep h hg.size fun b x hlt hb => hg.cell_far ⟨b, x, none⟩ hlt (hne b hb)
theorem own_mark {w w' : World} {base : Nat} {e : TypeId} {v : Value} {n : Nat} {xs : List Value} {row : Option Nat} (h : w.ownsRow base e 2 v n xs) (hg : w.grownBy w' row) (hne : ∀ b, v.ownBlock = some b → some b ≠ row) : w'.ownsRow base e 2 v n xs :=
  h.kept hg (by
    rcases hv : v.ownBlock with _ | b
    · exact .inl rfl
    · exact .inr (by have := hne b hv; exact this))
theorem block_eq {A : Option Addr} {n c : Nat} : Value.ownBlock (.slice A n c) = A.map (·.block) := by cases A <;> rfl
theorem below_mark {w w1 w2 : World} {base : Nat} {v : Value} {n : Nat} {xs : List Value} {e : TypeId} {B : Nat} (h : Below B w w1) (ho : w1.ownsRow base e 2 v n xs) (hg : w1.grownBy w2 v.ownBlock) (hB : B ≤ base) (hz : B ≤ w1.heap.size) : Below B w w2 :=
  h.grown hg hz fun k hk => Nat.le_trans hB (ho.lt k hk).1
theorem own_lt {w : World} {base : Nat} {e : TypeId} {A : Option Addr} {n c : Nat} {xs : List Value} (h : w.ownsRow base e 2 (.slice A n c) n xs) : ∀ b, A.map (·.block) = some b → base ≤ b ∧ b < w.heap.size := fun b hb => h.lt b (by rw [block_eq]; exact hb)

set_option maxHeartbeats 4000000 in
theorem walk (A : Option Addr) (n c : Nat) (ps : List Arr) (x y : Int) (w : World) (h : AR w A n ps) (hn : n ≤ 9223372036854775807) (_ : (Lit.int .i64 x).wf = true) (_ : (Lit.int .i64 y).wf = true) :
    Calls Try.prog 10 #[.slice A n c, .int .i64 x, .int .i64 y] w fun e w' => e = .returned (.bool true) ∧ Below w.heap.size w w' := by
  have H := Lib.hid h
  clear h
  by_cases hbig : n ≤ 1048576
  · have hd : 0 ≤ (1048576 : Int) - (n : Int) := by omega
    go_enter Try.func10, Try.ntmps10
    go_wp2_with fail
    refine (szArrS_any A n c 1048576 _ hn (by omega)).mono ?_
    rintro e w1 ⟨rfl, rfl⟩
    rw [if_neg (by omega)]
    go_wp2_with fail
    refine (toArrS_any A n c ps _ H.out hbig).mono ?_
    rintro e w2 ⟨rfl, h2a, h2b⟩
    have HX2 := Lib.hid (ar_own h2a)
    have HB2 := Lib.hid h2b
    clear h2a h2b
    go_wp2_with fail
    refine (shS_any _ n n ps x y _ HX2.out (by omega)).mono ?_
    rintro e w3 ⟨A0, n0, c0, q0, k0, rfl, h3s, h3n, h3d, h3e⟩
    have SH := Lib.hid h3s
    have W0 := Lib.hid (And.intro (ar_own h3d) (fun b hb => (own_lt h3d b hb).2))
    have HB3 := Lib.hid (below_seq HB2.out h3e)
    have hn0 : n0 ≤ 1048576 := by omega
    clear h3s h3n h3d h3e
    go_wp2_with fail
    refine (toArrS_any A n c ps _ (ar_below H.out HB3.out) hbig).mono ?_
    rintro e w4 ⟨rfl, h4a, h4b⟩
    have X4 := Lib.hid h4a
    have W4 := Lib.hid (ar_below W0.out.1 h4b)
    have HB4 := Lib.hid (below_seq HB3.out h4b)
    have hz34 : w3.heap.size < w4.heap.size ∨ n = 0 := by
      rcases Nat.eq_zero_or_pos n with h0 | h0
      · exact .inr h0
      · exact .inl ((own_lt h4a) w3.heap.size rfl).2
    have HZ4 := Lib.hid ((own_lt h4a) w3.heap.size rfl).2
    clear h4a h4b hz34
    go_wp2_with fail
    refine (shI_any _ n n ps x y _ (ar_own X4.out) (by omega)).mono ?_
    rintro e w5 ⟨Ag, ng, cg, qg, kg, rfl, h5s, h5n, h5d, h5e⟩
    obtain ⟨e1, e2⟩ := sh_uniq h5s SH.out
    subst e1 e2
    have G5 := Lib.hid h5d
    have X5 := Lib.hid (own_below X4.out h5e)
    have W5 := Lib.hid (ar_below W4.out h5e)
    have HB5 := Lib.hid (below_seq HB4.out h5e)
    have hng : ng ≤ 1048576 := by omega
    clear h5s h5n h5d h5e
    go_wp2_with fail
    refine (eqArrS_any Ag A0 ng cg n0 c0 _ _ _ (ar_own G5.out) W5.out (by omega) (by omega)).mono ?_
    rintro e w6 ⟨rfl, hb6⟩
    rw [← sameA_yes rfl]
    have G6 := Lib.hid (own_below G5.out hb6)
    have X6 := Lib.hid (own_below X5.out hb6)
    have W6 := Lib.hid (ar_below W5.out hb6)
    have HB6 := Lib.hid (below_seq HB5.out hb6)
    clear hb6
    go_wp2_with fail
    refine (toArrS_any A n c ps _ (ar_below H.out HB6.out) hbig).mono ?_
    rintro e w7 ⟨rfl, h7a, h7b⟩
    have Z7 := Lib.hid (ar_own h7a)
    have G7 := Lib.hid (own_below G6.out h7b)
    have X7 := Lib.hid (own_below X6.out h7b)
    have W7 := Lib.hid (ar_below W6.out h7b)
    have HB7 := Lib.hid (below_seq HB6.out h7b)
    clear h7a h7b
    go_wp2_with fail
    refine (eqArrS_any _ _ n n n n ps ps _ (ar_own X7.out) Z7.out (by omega) (by omega)).mono ?_
    rintro e w8 ⟨rfl, hb8⟩
    rw [← sameA_yes rfl]
    have G8 := Lib.hid (own_below G7.out hb8)
    have X8 := Lib.hid (own_below X7.out hb8)
    have W8 := Lib.hid (ar_below W7.out hb8)
    have HB8 := Lib.hid (below_seq HB7.out hb8)
    clear hb8
    go_wp2_with fail
    refine (markArrS_any _ _ n n 1 ps _ X8.out (by omega) (by omega)).mono ?_
    rintro e w9 ⟨rfl, h9a, h9b⟩
    have G9 := Lib.hid (own_mark G8.out h9b (fun b hb e => by have := (G8.out.lt b hb).1; have := HZ4.out; simp [Value.ownBlock] at e; omega))
    have W9 := Lib.hid (ar_mark W8.out h9b (fun b hb e => by have := W0.out.2 b hb; simp [Value.ownBlock] at e; omega))
    have HB9 := Lib.hid (below_mark HB8.out X8.out h9b HB3.out.size HB8.out.size)
    clear h9a h9b
    go_wp2_with fail
    refine (eqArrS_any Ag A0 ng cg n0 c0 _ _ _ (ar_own G9.out) W9.out (by omega) (by omega)).mono ?_
    rintro e w10 ⟨rfl, hb10⟩
    rw [← sameA_yes rfl]
    have G10 := Lib.hid (own_below G9.out hb10)
    have W10 := Lib.hid (ar_below W9.out hb10)
    have HB10 := Lib.hid (below_seq HB9.out hb10)
    clear hb10
    go_wp2_with fail
    refine (markArrS_any _ Ag ng cg 1 _ _ G10.out (by omega) (by omega)).mono ?_
    rintro e w11 ⟨rfl, h11a, h11b⟩
    have M11 := Lib.hid (ar_own h11a)
    have W11 := Lib.hid (ar_mark W10.out h11b (fun b hb e => by have := W0.out.2 b hb; have := (G10.out.lt b e.symm).1; have := HZ4.out; omega))
    have HB11 := Lib.hid (below_mark HB10.out G10.out h11b HB4.out.size HB10.out.size)
    clear h11a h11b
    go_wp2_with fail
    refine (heldArrS_any Ag ng cg 1 _ M11.out (by omega) (by omega)).mono ?_
    rintro e w12 ⟨rfl, rfl⟩
    go_wp2_with fail
    refine (toArrS_any A n c ps _ (ar_below H.out HB11.out) hbig).mono ?_
    rintro e w12 ⟨rfl, h12a, h12b⟩
    have Y12 := Lib.hid (ar_own h12a)
    have M12 := Lib.hid (ar_below M11.out h12b)
    have W12 := Lib.hid (ar_below W11.out h12b)
    have HB12 := Lib.hid (below_seq HB11.out h12b)
    clear h12a h12b
    go_wp2_with fail
    refine (shI_any _ n n ps x y _ Y12.out (by omega)).mono ?_
    rintro e w13 ⟨Ah, nh, ch, qh, kh, rfl, h13s, h13n, h13d, h13e⟩
    obtain ⟨e1, e2⟩ := sh_uniq h13s SH.out
    subst e1 e2
    have P13 := Lib.hid (ar_own h13d)
    have M13 := Lib.hid (ar_below M12.out h13e)
    have W13 := Lib.hid (ar_below W12.out h13e)
    have HB13 := Lib.hid (below_seq HB12.out h13e)
    have hnh : nh ≤ 1048576 := by omega
    clear h13s h13n h13d h13e
    go_wp2_with fail
    refine (eqArrS_any Ah A0 nh ch n0 c0 _ _ _ P13.out W13.out (by omega) (by omega)).mono ?_
    rintro e w14 ⟨rfl, hb14⟩
    rw [← sameA_yes rfl]
    have M14 := Lib.hid (ar_below M13.out hb14)
    have HB14 := Lib.hid (below_seq HB13.out hb14)
    clear hb14
    go_wp2_with fail
    refine (heldArrS_any Ag ng cg 1 _ M14.out (by omega) (by omega)).mono ?_
    rintro e w15 ⟨rfl, rfl⟩
    go_wp2
    go_ret
    exact ⟨rfl, HB14.out⟩
  · go_enter Try.func10, Try.ntmps10
    go_wp2_with fail
    refine (szArrS_any A n c 1048576 _ hn (by omega)).mono ?_
    rintro e w1 ⟨rfl, rfl⟩
    rw [if_pos (by omega)]
    go_wp2
    go_ret
    exact ⟨rfl, Below.refl _ _⟩
theorem own : ownKnob Try.prog.godebug = none := by kernel_rfl
theorem laidOut : laidOutB Try.prog = true := by kernel_rfl
set_option maxRecDepth 100000 in
theorem lifted (os : Os) (started : os.Started) (H : Type) (enc : TypeId × Value → H) :
    ReturnsInHanded {} Try.checked os 10 .any (Rows.fnExactShapeArrivalsSpec.pre6 enc Try.prog Try.f10 Rows.fnExactShapeArrivalsRow.domain false) (Rows.fnExactShapeArrivalsSpec.post enc Try.prog Try.f10 false true false false) := by
  refine returnsInHanded_of_change (C := Try.checked) own started (by kernel_rfl) Try.func10
    (ChangeSpec.witness6 (enc := enc) (C := Try.checked) false ⟨#[], #[.slice none 0 0, .int .i64 0, .int .i64 0], []⟩ 8 (by kernel_rfl) (by kernel_rfl) (by kernel_rfl) (by kernel_rfl)) ?_
  intro W base args ds gs before hval0 hW _ _
  have hval : ∀ (j : Nat) t v, Try.f10.params[j]? = some t → args[j]? = some v → Value.okWide Try.prog W .any base t v := hval0
  have hW' := hW
  obtain ⟨p, q, hA0, hV, rfl, _, _⟩ := hW
  have hA : DataW.TrodAll enc Try.prog W 0 (fun _ => true) true Try.f10.params.toList args.toList ds p := hA0
  rw [Try.params10] at hA hval
  obtain ⟨v0, vs0, d0, ds0, p0, q0, hargs, rfl, rfl, h0, r0⟩ := trodAll_cons hA
  obtain ⟨v1, vs1, d1, ds1, p1, q1, rfl, rfl, rfl, h1, r1⟩ := trodAll_cons r0
  obtain ⟨v2, vs2, d2, ds2, p2, q2, rfl, rfl, rfl, h2, r2⟩ := trodAll_cons r1
  obtain ⟨rfl, rfl, rfl⟩ := trodAll_nil r2
  obtain rfl : args = #[v0, v1, v2] := by cases args; simp_all
  obtain ⟨rfl, rfl⟩ := trodVars_none hV
  have lt0 : ∀ x ∈ p0, x.block < W.heap.size := by obtain ⟨m, hm⟩ := h0; exact DataW.trod_lt m _ _ _ hm
  obtain ⟨a0, n0, c0, rfl⟩ := okWide_slice Try.underlying34 (hval 0 34 v0 rfl rfl)
  obtain ⟨x0, w0, m0⟩ := arrs_open h0
  obtain ⟨x1, rfl, rfl, rfl, w1⟩ := open_int Try.underlying3 (hval 1 3 v1 rfl rfl) h1
  obtain ⟨x2, rfl, rfl, rfl, w2⟩ := open_int Try.underlying3 (hval 2 3 v2 rfl rfl) h2
  clear hA0 hval0
  refine (walk a0 n0 c0 x0 x1 x2 W w0 m0 w1 w2).mono fun e W' ⟨he, bel⟩ => ?_
  subst he
  exact ⟨_, rfl, _, _, _, [], _, [], hW', trodAll_mk1 (shut_bool Try.underlying4 _), (trodAll_cons_mk (Below.trod laidOut (by kernel_rfl) (of_decide_eq_true (by kernel_rfl)) h0 bel lt0) (trodAll_cons_mk (shut_int Try.underlying3 w1) (trodAll_cons_mk (shut_int Try.underlying3 w2) trodAll_mk0))), rfl, bel.frame _, fun h => by cases h⟩
theorem over : Rows.fnExactShapeArrivalsRow.holds Try.pinned (OpenSpec.ofChange Rows.fnExactShapeArrivalsSpec) :=
  OpenClaim.holds_of_wide 10 Try.f10 rfl rfl rfl rfl rfl rfl rfl ⟨rfl, rfl, rfl, rfl, rfl⟩ rfl rfl rfl rfl rfl (by kernel_rfl) Try.func10 (by unfold joinedFacts; rw [mayEnter, liftsFinal, makeIs]; kernel_rfl)
    (of_decide_eq_true (by kernel_rfl)) (by unfold Func.isWrapper; first | (rw [if_pos (by decide +kernel)]; kernel_rfl) | (rw [if_neg (by decide +kernel)]; exact ⟨rfl, rfl⟩))
    (fun os started H enc _ => lifted os started H enc)
/-- the given statement -/
theorem proved : Rows.FnExactShapeArrivalsSaid := over
end Go.Proofs.Ytclgmmnidkppmab.fnExactShapeArrivals
