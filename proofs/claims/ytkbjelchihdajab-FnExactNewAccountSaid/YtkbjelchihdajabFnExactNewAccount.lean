/-
  The law FnExactNewAccount returns true at every argument: the program's NewAccount answers as the model's, writes into no argument, and its answer owns its memory. Conditions: none.
-/
import Derived.Test.YtkbjelchihdajabExA
namespace Go.Proofs.Ytkbjelchihdajab.fnExactNewAccount
open Go.ChangeShapes Go.WideShapes Go.ChangeAt Go.RowKit

theorem new_both (lim each : Int) : ∃ (L E : Int) (R : List Int) (ok : Bool), R.length ≤ 8 ∧
    Hid (∀ (w : World), Calls Try.prog 24 #[.int .i64 lim, .int .i64 each] w (APost1 w L E R ok)) ∧
    Hid (∀ (w : World), Calls Try.prog 25 #[.int .i64 lim, .int .i64 each] w (APost1 w L E R ok)) := by
  rcases hk : acB lim each (List.replicate 8 0) with _ | _
  · exact ⟨0, 0, [], false, by simp, Lib.hid fun w => newS_no lim each w hk, Lib.hid fun w => newI_no lim each w hk⟩
  · exact ⟨lim, each, List.replicate 8 0, true, by simp, Lib.hid fun w => newS_yes lim each w hk, Lib.hid fun w => newI_yes lim each w hk⟩

set_option maxHeartbeats 8000000 in
theorem walk (lim each : Int) (w : World) (_ : (Lit.int .i64 lim).wf = true) (_ : (Lit.int .i64 each).wf = true) :
    Calls Try.prog 6 #[.int .i64 lim, .int .i64 each] w fun e w' => e = .returned (.bool true) ∧ Below w.heap.size w w' := by
  obtain ⟨L, E, R, ok, hR, HS0, HI0⟩ := new_both lim each
  have F2 : Hid (Fm w [] w) := Lib.hid (fm_zero w)
  go_enter Try.func6, Try.ntmps6
  go_wp2_with fail
  refine (HS0.out _).mono ?_
  rintro e w3 ⟨Aw, nw, cw, rfl, hnw, ho, hb⟩
  have lnw : nw ≤ 1048576 := by omega
  have F3 : Hid (Fm w [⟨w.heap.size, w3.heap.size, OwnP (w.heap.size) (w3.heap.size) 3 1 (.slice Aw nw cw) nw (icells R)⟩] w3) := Lib.hid (fm_own F2.out hb ho rfl)
  clear F2
  clear hb ho hnw
  have F3b : Hid (Fm w [⟨w.heap.size, w3.heap.size, OwnP (w.heap.size) (w3.heap.size) 3 1 (.slice Aw nw cw) nw (icells R)⟩, ⟨w3.heap.size, w3.heap.size + 1, BoxP (w3.heap.size) 31 #[.int .i64 L, .int .i64 E, (.slice Aw nw cw)]⟩] (w3.alloc (.cells #[.int .i64 L, .int .i64 E, (.slice Aw nw cw)] 31))) := Lib.hid (fm_box F3.out _ _)
  clear F3
  go_wp2_with fail
  refine (HI0.out _).mono ?_
  rintro e w5 ⟨Ag, ng, cg, rfl, hng, ho, hb⟩
  have lng : ng ≤ 1048576 := by omega
  have F5 : Hid (Fm w [⟨w.heap.size, w3.heap.size, OwnP (w.heap.size) (w3.heap.size) 3 1 (.slice Aw nw cw) nw (icells R)⟩, ⟨w3.heap.size, w3.heap.size + 1, BoxP (w3.heap.size) 31 #[.int .i64 L, .int .i64 E, (.slice Aw nw cw)]⟩, ⟨w3.heap.size + 1, w5.heap.size, OwnP (w3.heap.size + 1) (w5.heap.size) 3 1 (.slice Ag ng cg) ng (icells R)⟩] w5) := Lib.hid (fm_own F3b.out hb ho (by simp))
  clear F3b
  clear hb ho hng
  have F5b : Hid (Fm w [⟨w.heap.size, w3.heap.size, OwnP (w.heap.size) (w3.heap.size) 3 1 (.slice Aw nw cw) nw (icells R)⟩, ⟨w3.heap.size, w3.heap.size + 1, BoxP (w3.heap.size) 31 #[.int .i64 L, .int .i64 E, (.slice Aw nw cw)]⟩, ⟨w3.heap.size + 1, w5.heap.size, OwnP (w3.heap.size + 1) (w5.heap.size) 3 1 (.slice Ag ng cg) ng (icells R)⟩, ⟨w5.heap.size, w5.heap.size + 1, BoxP (w5.heap.size) 31 #[.int .i64 L, .int .i64 E, (.slice Ag ng cg)]⟩] (w5.alloc (.cells #[.int .i64 L, .int .i64 E, (.slice Ag ng cg)] 31))) := Lib.hid (fm_box F5.out _ _)
  clear F5
  obtain ⟨⟨g0, g1, g2⟩, -⟩ := blk_three (fm_blk F5b.out 3 rfl)
  obtain ⟨⟨u0, u1, u2⟩, -⟩ := blk_three (fm_blk F5b.out 1 rfl)
  go_wp2_with fail
  refine (eqAccount_same L E Ag Aw ng cg nw cw R _ (nr_own (fm_row F5b.out 2 rfl)) (nr_own (fm_row F5b.out 0 rfl)) (by omega) (by omega)).mono ?_
  rintro e w8 ⟨rfl, hb⟩
  have F8 : Hid (Fm w [⟨w.heap.size, w3.heap.size, OwnP (w.heap.size) (w3.heap.size) 3 1 (.slice Aw nw cw) nw (icells R)⟩, ⟨w3.heap.size, w3.heap.size + 1, BoxP (w3.heap.size) 31 #[.int .i64 L, .int .i64 E, (.slice Aw nw cw)]⟩, ⟨w3.heap.size + 1, w5.heap.size, OwnP (w3.heap.size + 1) (w5.heap.size) 3 1 (.slice Ag ng cg) ng (icells R)⟩, ⟨w5.heap.size, w5.heap.size + 1, BoxP (w5.heap.size) 31 #[.int .i64 L, .int .i64 E, (.slice Ag ng cg)]⟩] w8) := Lib.hid (fm_below F5b.out hb)
  clear F5b
  clear hb
  clear g0 g1 g2 u0 u1 u2
  obtain ⟨⟨g0, g1, g2⟩, -⟩ := blk_three (fm_blk F8.out 3 rfl)
  go_wp2_with fail
  refine (markAccount_any L E (w3.heap.size + 1) Ag ng cg 1 R _ (fm_row F8.out 2 rfl) (by omega) (by omega)).mono ?_
  rintro e w12 ⟨rfl, ho, hg⟩
  have F12 : Hid (Fm w [⟨w.heap.size, w3.heap.size, OwnP (w.heap.size) (w3.heap.size) 3 1 (.slice Aw nw cw) nw (icells R)⟩, ⟨w3.heap.size, w3.heap.size + 1, BoxP (w3.heap.size) 31 #[.int .i64 L, .int .i64 E, (.slice Aw nw cw)]⟩, ⟨w3.heap.size + 1, w5.heap.size, OwnP (w3.heap.size + 1) (w5.heap.size) 3 1 (.slice Ag ng cg) ng (icells (markI ng 1))⟩, ⟨w5.heap.size, w5.heap.size + 1, BoxP (w5.heap.size) 31 #[.int .i64 L, .int .i64 E, (.slice Ag ng cg)]⟩] w12) := Lib.hid (fm_mark F8.out 2 rfl hg ho)
  clear F8
  clear hg ho
  clear g0 g1 g2
  have k12 : (0 : Int) ≤ 1 + (ng : Int) := by omega
  obtain ⟨⟨g0, g1, g2⟩, -⟩ := blk_three (fm_blk F12.out 3 rfl)
  go_wp2_with fail
  refine (heldAccount_any L E Ag ng cg 1 _ (nr_own (fm_row F12.out 2 rfl)) (by omega) (by omega)).mono ?_
  rintro e w13 ⟨rfl, hb⟩
  have F13 : Hid (Fm w [⟨w.heap.size, w3.heap.size, OwnP (w.heap.size) (w3.heap.size) 3 1 (.slice Aw nw cw) nw (icells R)⟩, ⟨w3.heap.size, w3.heap.size + 1, BoxP (w3.heap.size) 31 #[.int .i64 L, .int .i64 E, (.slice Aw nw cw)]⟩, ⟨w3.heap.size + 1, w5.heap.size, OwnP (w3.heap.size + 1) (w5.heap.size) 3 1 (.slice Ag ng cg) ng (icells (markI ng 1))⟩, ⟨w5.heap.size, w5.heap.size + 1, BoxP (w5.heap.size) 31 #[.int .i64 L, .int .i64 E, (.slice Ag ng cg)]⟩] w13) := Lib.hid (fm_below F12.out hb)
  clear F12
  clear hb
  clear g0 g1 g2
  go_wp2_with fail
  refine (HI0.out _).mono ?_
  rintro e w15 ⟨Ah, nh, ch, rfl, hnh, ho, hb⟩
  have lnh : nh ≤ 1048576 := by omega
  have F15 : Hid (Fm w [⟨w.heap.size, w3.heap.size, OwnP (w.heap.size) (w3.heap.size) 3 1 (.slice Aw nw cw) nw (icells R)⟩, ⟨w3.heap.size, w3.heap.size + 1, BoxP (w3.heap.size) 31 #[.int .i64 L, .int .i64 E, (.slice Aw nw cw)]⟩, ⟨w3.heap.size + 1, w5.heap.size, OwnP (w3.heap.size + 1) (w5.heap.size) 3 1 (.slice Ag ng cg) ng (icells (markI ng 1))⟩, ⟨w5.heap.size, w5.heap.size + 1, BoxP (w5.heap.size) 31 #[.int .i64 L, .int .i64 E, (.slice Ag ng cg)]⟩, ⟨w13.heap.size, w15.heap.size, OwnP (w13.heap.size) (w15.heap.size) 3 1 (.slice Ah nh ch) nh (icells R)⟩] w15) := Lib.hid (fm_own F13.out hb ho rfl)
  clear F13
  clear hb ho hnh
  have F15b : Hid (Fm w [⟨w.heap.size, w3.heap.size, OwnP (w.heap.size) (w3.heap.size) 3 1 (.slice Aw nw cw) nw (icells R)⟩, ⟨w3.heap.size, w3.heap.size + 1, BoxP (w3.heap.size) 31 #[.int .i64 L, .int .i64 E, (.slice Aw nw cw)]⟩, ⟨w3.heap.size + 1, w5.heap.size, OwnP (w3.heap.size + 1) (w5.heap.size) 3 1 (.slice Ag ng cg) ng (icells (markI ng 1))⟩, ⟨w5.heap.size, w5.heap.size + 1, BoxP (w5.heap.size) 31 #[.int .i64 L, .int .i64 E, (.slice Ag ng cg)]⟩, ⟨w13.heap.size, w15.heap.size, OwnP (w13.heap.size) (w15.heap.size) 3 1 (.slice Ah nh ch) nh (icells R)⟩, ⟨w15.heap.size, w15.heap.size + 1, BoxP (w15.heap.size) 31 #[.int .i64 L, .int .i64 E, (.slice Ah nh ch)]⟩] (w15.alloc (.cells #[.int .i64 L, .int .i64 E, (.slice Ah nh ch)] 31))) := Lib.hid (fm_box F15.out _ _)
  clear F15
  obtain ⟨⟨h0, h1, h2⟩, -⟩ := blk_three (fm_blk F15b.out 5 rfl)
  obtain ⟨⟨u0, u1, u2⟩, -⟩ := blk_three (fm_blk F15b.out 1 rfl)
  go_wp2_with fail
  refine (eqAccount_same L E Ah Aw nh ch nw cw R _ (nr_own (fm_row F15b.out 4 rfl)) (nr_own (fm_row F15b.out 0 rfl)) (by omega) (by omega)).mono ?_
  rintro e w16 ⟨rfl, hb⟩
  have F16 : Hid (Fm w [⟨w.heap.size, w3.heap.size, OwnP (w.heap.size) (w3.heap.size) 3 1 (.slice Aw nw cw) nw (icells R)⟩, ⟨w3.heap.size, w3.heap.size + 1, BoxP (w3.heap.size) 31 #[.int .i64 L, .int .i64 E, (.slice Aw nw cw)]⟩, ⟨w3.heap.size + 1, w5.heap.size, OwnP (w3.heap.size + 1) (w5.heap.size) 3 1 (.slice Ag ng cg) ng (icells (markI ng 1))⟩, ⟨w5.heap.size, w5.heap.size + 1, BoxP (w5.heap.size) 31 #[.int .i64 L, .int .i64 E, (.slice Ag ng cg)]⟩, ⟨w13.heap.size, w15.heap.size, OwnP (w13.heap.size) (w15.heap.size) 3 1 (.slice Ah nh ch) nh (icells R)⟩, ⟨w15.heap.size, w15.heap.size + 1, BoxP (w15.heap.size) 31 #[.int .i64 L, .int .i64 E, (.slice Ah nh ch)]⟩] w16) := Lib.hid (fm_below F15b.out hb)
  clear F15b
  clear hb
  clear h0 h1 h2 u0 u1 u2
  obtain ⟨⟨g0, g1, g2⟩, -⟩ := blk_three (fm_blk F16.out 3 rfl)
  go_wp2_with fail
  refine (heldAccount_any L E Ag ng cg 1 _ (nr_own (fm_row F16.out 2 rfl)) (by omega) (by omega)).mono ?_
  rintro e w17 ⟨rfl, hb⟩
  have F17 : Hid (Fm w [⟨w.heap.size, w3.heap.size, OwnP (w.heap.size) (w3.heap.size) 3 1 (.slice Aw nw cw) nw (icells R)⟩, ⟨w3.heap.size, w3.heap.size + 1, BoxP (w3.heap.size) 31 #[.int .i64 L, .int .i64 E, (.slice Aw nw cw)]⟩, ⟨w3.heap.size + 1, w5.heap.size, OwnP (w3.heap.size + 1) (w5.heap.size) 3 1 (.slice Ag ng cg) ng (icells (markI ng 1))⟩, ⟨w5.heap.size, w5.heap.size + 1, BoxP (w5.heap.size) 31 #[.int .i64 L, .int .i64 E, (.slice Ag ng cg)]⟩, ⟨w13.heap.size, w15.heap.size, OwnP (w13.heap.size) (w15.heap.size) 3 1 (.slice Ah nh ch) nh (icells R)⟩, ⟨w15.heap.size, w15.heap.size + 1, BoxP (w15.heap.size) 31 #[.int .i64 L, .int .i64 E, (.slice Ah nh ch)]⟩] w17) := Lib.hid (fm_below F16.out hb)
  clear F16
  clear hb
  clear g0 g1 g2
  go_wp2
  go_ret
  exact ⟨rfl, F17.out.below⟩
theorem own : ownKnob Try.prog.godebug = none := by kernel_rfl
theorem laidOut : laidOutB Try.prog = true := by kernel_rfl
set_option maxRecDepth 100000 in
theorem lifted (os : Os) (started : os.Started) (H : Type) (enc : TypeId × Value → H) :
    ReturnsInHanded {} Try.checked os 6 .any (Rows.fnExactNewAccountSpec.pre6 enc Try.prog Try.f6 Rows.fnExactNewAccountRow.domain false) (Rows.fnExactNewAccountSpec.post enc Try.prog Try.f6 false true false false) := by
  refine returnsInHanded_of_change (C := Try.checked) own started (by kernel_rfl) Try.func6
    (ChangeSpec.witness6 (enc := enc) (C := Try.checked) false ⟨#[], #[.int .i64 0, .int .i64 0], []⟩ 8 (by kernel_rfl) (by kernel_rfl) (by kernel_rfl) (by kernel_rfl)) ?_
  intro W base args ds gs before hval0 hW _ _
  have hval : ∀ (j : Nat) t v, Try.f6.params[j]? = some t → args[j]? = some v → Value.okWide Try.prog W .any base t v := hval0
  have hW' := hW
  obtain ⟨p, q, hA0, hV, rfl, _, _⟩ := hW
  have hA : DataW.TrodAll enc Try.prog W 0 (fun _ => true) true Try.f6.params.toList args.toList ds p := hA0
  rw [Try.params6] at hA hval
  obtain ⟨v0, vs0, d0, ds0, p0, q0, hargs, rfl, rfl, h0, r0⟩ := trodAll_cons hA
  obtain ⟨v1, vs1, d1, ds1, p1, q1, rfl, rfl, rfl, h1, r1⟩ := trodAll_cons r0
  obtain ⟨rfl, rfl, rfl⟩ := trodAll_nil r1
  obtain rfl : args = #[v0, v1] := by cases args; simp_all
  obtain ⟨rfl, rfl⟩ := trodVars_none hV
  obtain ⟨x0, rfl, rfl, rfl, w0⟩ := open_int Try.underlying3 (hval 0 3 v0 rfl rfl) h0
  obtain ⟨x1, rfl, rfl, rfl, w1⟩ := open_int Try.underlying3 (hval 1 3 v1 rfl rfl) h1
  clear hA0 hval0
  refine (walk x0 x1 W w0 w1).mono fun e W' ⟨he, bel⟩ => ?_
  subst he
  exact ⟨_, rfl, _, _, _, [], _, [], hW', trodAll_mk1 (shut_bool Try.underlying4 _), (trodAll_cons_mk (shut_int Try.underlying3 w0) (trodAll_cons_mk (shut_int Try.underlying3 w1) trodAll_mk0)), rfl, bel.frame _, fun h => by cases h⟩
theorem over : Rows.fnExactNewAccountRow.holds Try.pinned (OpenSpec.ofChange Rows.fnExactNewAccountSpec) :=
  OpenClaim.holds_of_wide 6 Try.f6 rfl rfl rfl rfl rfl rfl rfl ⟨rfl, rfl, rfl, rfl, rfl⟩ rfl rfl rfl rfl rfl (by kernel_rfl) Try.func6 (by kernel_rfl)
    (of_decide_eq_true (by kernel_rfl)) (by unfold Func.isWrapper; first | (rw [if_pos (by decide +kernel)]; kernel_rfl) | (rw [if_neg (by decide +kernel)]; exact ⟨rfl, rfl⟩))
    (fun os started H enc _ => lifted os started H enc)
/-- the given statement -/
theorem proved : Rows.FnExactNewAccountSaid := over
end Go.Proofs.Ytkbjelchihdajab.fnExactNewAccount
