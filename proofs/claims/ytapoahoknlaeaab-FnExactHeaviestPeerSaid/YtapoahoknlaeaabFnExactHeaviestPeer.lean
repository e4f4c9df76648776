/-
  The law FnExactHeaviestPeer returns true at every argument: the program's HeaviestPeer answers as the model's and writes into no argument. Conditions: none.
-/
import Derived.Test.YtapoahoknlaeaabQEx
import Derived.Test.YtapoahoknlaeaabQ5b
namespace Go.Proofs.Ytapoahoknlaeaab.fnExactHeaviestPeer
open Go.ChangeShapes Go.WideShapes Go.ChangeAt Go.RowKit

theorem heavyI_all (lim : Int) (A : Option Addr) (n c : Nat) (ps : List Pkt) (w : World) (h : PR w A n ps) (hn : n ≤ 4000000000) :
    Calls Try.prog 22 #[.agg #[.int .i64 lim, (.slice A n c)]] w fun e w' => e = .returned (.tuple #[.int .i64 (heavyI lim ps), .int .i64 (heavyB lim ps), .bool (heavyP lim ps)]) ∧ Below w.heap.size w w' := by
  rcases hk : heavyP lim ps with _ | _
  · rw [(heavy_no hk).1, (heavy_no hk).2]
    exact heavyI_no lim A n c ps w h hn hk
  · rw [(heavy_yes hk).1, (heavy_yes hk).2]
    exact heavyI_yes lim A n c ps w h hn hk
set_option maxHeartbeats 2000000 in
theorem walk (lim : Int) (A : Option Addr) (n c : Nat) (ps : List Pkt) (w : World) (h : PR w A n ps) (hn : n ≤ 9223372036854775807) :
    Calls Try.prog 12 #[.agg #[.int .i64 lim, (.slice A n c)]] w fun e w' => e = .returned (.bool true) ∧ Below w.heap.size w w' := by
  have F := Lib.hid (fr_one h 41 #[.int .i64 lim, (.slice A n c)])
  clear h
  by_cases hbig : n ≤ 1048576
  · have hd : 0 ≤ (1048576 : Int) - (n : Int) := by omega
    go_enter Try.func12, Try.ntmps12
    go_wp2_with fail
    refine (szQueue_any lim A n c 1048576 _ hn (by omega)).mono ?_
    rintro e w1 ⟨rfl, hb⟩
    rw [if_neg (by omega)]
    have F1 := Lib.hid (fr_below F.out hb)
    obtain ⟨q0, q1⟩ := fr_cell2 F1.out
    clear hb F
    go_wp2_with fail
    refine (toQueue_any lim A n c ps _ F1.out.pr hbig).mono ?_
    rintro e w2 ⟨A2, c2, rfl, ho, hb⟩
    have X2 := Lib.hid (pr_own ho)
    have F2 := Lib.hid (fr_below F1.out hb)
    clear hb ho q0 q1
    obtain ⟨q0, q1⟩ := fr_cell2 F2.out
    go_wp2_with fail
    refine (heavyS_any lim A2 n c2 ps _ X2.out (by omega)).mono ?_
    rintro e w3 ⟨rfl, hb⟩
    have F3 := Lib.hid (fr_below F2.out hb)
    clear hb q0 q1
    obtain ⟨q0, q1⟩ := fr_cell2 F3.out
    go_wp2_with fail
    refine (toQueue_any lim A n c ps _ F3.out.pr hbig).mono ?_
    rintro e w4 ⟨A4, c4, rfl, ho, hb⟩
    have HX : Hid (XA w [(41, #[.int .i64 lim, (.slice A n c)])] A n ps w4.heap.size lim A4 c4 (w4.alloc (.cells #[.int .i64 lim, (.slice A4 n c4)] 25))) := Lib.hid ⟨fr_alloc (fr_below F3.out hb) _, blk_new w4 _ _, pr_alloc (pr_own ho) _⟩
    clear hb ho q0 q1
    go_wp2_with fail
    refine (heavyI_all lim A4 n c4 ps _ HX.out.px (by omega)).mono ?_
    rintro e w5 ⟨rfl, hb⟩
    have HX5 := Lib.hid (xa_below HX.out hb)
    have hS := xa_cells (xa_drew HX5.out)
    clear hb HX F1 F2 F3
    go_wp2_with fail
    go_region_held3 (fun w' => (w'.cell? ⟨w.heap.size, 0, none⟩ = some (.int .i64 lim) ∧ w'.cell? ⟨w.heap.size, 1, none⟩ = some (.slice A n c) ∧ w'.cell? ⟨w4.heap.size, 0, none⟩ = some (.int .i64 lim) ∧ w'.cell? ⟨w4.heap.size, 1, none⟩ = some (.slice A4 n c4)) ∧ XA w [(41, #[.int .i64 lim, (.slice A n c)])] A n ps w4.heap.size lim A4 c4 w')
      (first
        | (with_reducible assumption)
        | fail)
      (first
        | (go_at_call 30
           refine (eqQueue_same lim A4 A6 n c4 n c6 ps _ HX6.out.px PX6.out (by omega) (by omega)).mono ?_
           rintro e w7 ⟨rfl, hb7⟩
           have HX7 := Lib.hid (xa_below HX6.out hb7)
           have hS7 := xa_cells HX7.out
           clear hb7)
        | (go_at_call 28
           refine (toQueue_any lim A n c ps _ (xa_drew HX5.out).fr.pr hbig).mono ?_
           rintro e w6 ⟨A6, c6, rfl, ho6, hb6⟩
           have PX6 := Lib.hid (pr_own ho6)
           have HX6 := Lib.hid (xa_below (xa_drew HX5.out) hb6)
           have hS6 := xa_cells HX6.out
           clear hb6 ho6))
    all_goals
      go_wp2
      go_ret
      exact ⟨rfl, HX7.out.fr.below⟩
  · go_enter Try.func12, Try.ntmps12
    go_wp2_with fail
    refine (szQueue_any lim A n c 1048576 _ hn (by omega)).mono ?_
    rintro e w1 ⟨rfl, hb⟩
    rw [if_pos (by omega)]
    have F1 := Lib.hid (fr_below F.out hb)
    clear hb F
    go_wp2
    go_ret
    exact ⟨rfl, F1.out.below⟩
theorem own : ownKnob Try.prog.godebug = none := by kernel_rfl
theorem laidOut : laidOutB Try.prog = true := by kernel_rfl
set_option maxRecDepth 100000 in
theorem lifted (os : Os) (started : os.Started) (H : Type) (enc : TypeId × Value → H) :
    ReturnsInHanded {} Try.checked os 12 .any (Rows.fnExactHeaviestPeerSpec.pre6 enc Try.prog Try.f12 Rows.fnExactHeaviestPeerRow.domain false) (Rows.fnExactHeaviestPeerSpec.post enc Try.prog Try.f12 false true false false) := by
  refine returnsInHanded_of_change (C := Try.checked) own started (by kernel_rfl) Try.func12
    (ChangeSpec.witness6 (enc := enc) (C := Try.checked) false ⟨#[], #[.agg #[.int .i64 0, .slice none 0 0]], []⟩ 8 (by kernel_rfl) (by kernel_rfl) (by kernel_rfl) (by kernel_rfl)) ?_
  intro W base args ds gs before hval0 hW _ _
  have hval : ∀ (j : Nat) t v, Try.f12.params[j]? = some t → args[j]? = some v → Value.okWide Try.prog W .any base t v := hval0
  have hW' := hW
  obtain ⟨p, q, hA0, hV, rfl, _, _⟩ := hW
  have hA : DataW.TrodAll enc Try.prog W 0 (fun _ => true) true Try.f12.params.toList args.toList ds p := hA0
  rw [Try.params12] at hA hval
  obtain ⟨v0, vs0, d0, ds0, p0, q0, hargs, rfl, rfl, h0, r0⟩ := trodAll_cons hA
  obtain ⟨rfl, rfl, rfl⟩ := trodAll_nil r0
  obtain rfl : args = #[v0] := by cases args; simp_all
  obtain ⟨rfl, rfl⟩ := trodVars_none hV
  have lt0 : ∀ x ∈ p0, x.block < W.heap.size := by obtain ⟨m, hm⟩ := h0; exact DataW.trod_lt m _ _ _ hm
  have ok0 := (hval 0 41 v0 rfl rfl)
  obtain ⟨p0a, p0b, y0a, y0b, nf0, rfl, _, _, t0a, t0b⟩ := Go.Joins.open_agg2 Try.underlying41 (by kernel_rfl) (by kernel_rfl) ok0 h0
  obtain ⟨x0a, e0a, _, _⟩ := DataW.trod_int Try.underlying3 t0a
  obtain rfl : p0a = .int .i64 x0a := by simpa using e0a
  obtain ⟨a0, n0, c0, x0, rfl, w0, m0⟩ := pkts_open1 t0b
  clear hA0 hval0
  refine (walk x0a a0 n0 c0 x0 W w0 m0).mono fun e W' ⟨he, bel⟩ => ?_
  subst he
  exact ⟨_, rfl, _, _, _, [], _, [], hW', trodAll_mk1 (shut_bool Try.underlying4 _), (trodAll_cons_mk (Below.trod laidOut (by kernel_rfl) (of_decide_eq_true (by kernel_rfl)) h0 bel lt0) trodAll_mk0), rfl, bel.frame _, fun h => by cases h⟩
theorem over : Rows.fnExactHeaviestPeerRow.holds Try.pinned (OpenSpec.ofChange Rows.fnExactHeaviestPeerSpec) :=
  OpenClaim.holds_of_wide 12 Try.f12 rfl rfl rfl rfl rfl rfl rfl ⟨rfl, rfl, rfl, rfl, rfl⟩ rfl rfl rfl rfl rfl (by kernel_rfl) Try.func12 (by kernel_rfl)
    (of_decide_eq_true (by kernel_rfl)) (by unfold Func.isWrapper; first | (rw [if_pos (by decide +kernel)]; kernel_rfl) | (rw [if_neg (by decide +kernel)]; exact ⟨rfl, rfl⟩))
    (fun os started H enc _ => lifted os started H enc)
/-- the given statement -/
theorem proved : Rows.FnExactHeaviestPeerSaid := over
end Go.Proofs.Ytapoahoknlaeaab.fnExactHeaviestPeer
