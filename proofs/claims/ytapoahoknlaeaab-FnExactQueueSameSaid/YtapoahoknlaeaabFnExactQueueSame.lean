/-
  The law FnExactQueueSame returns true at every argument: the program's QueueSame answers as the model's and writes into no argument. Conditions: none.
-/
import Derived.Test.YtapoahoknlaeaabQEx
import Derived.Test.YtapoahoknlaeaabQ2
namespace Go.Proofs.Ytapoahoknlaeaab.fnExactQueueSame
open Go.ChangeShapes Go.WideShapes Go.ChangeAt Go.RowKit

structure XU (w : World) (l1 : Int) (A1 : Option Addr) (n1 c1 : Nat) (ps : List Pkt) (l2 : Int) (A2 : Option Addr) (n2 c2 : Nat) (qs : List Pkt) (w' : World) : Prop where
  fr : Fr w [(41, #[.int .i64 l1, (.slice A1 n1 c1)]), (41, #[.int .i64 l2, (.slice A2 n2 c2)])] A1 n1 ps w'
  r : PR w' A2 n2 qs
structure XT (w : World) (l1 : Int) (A1 : Option Addr) (n1 c1 : Nat) (ps : List Pkt) (l2 : Int) (A2 : Option Addr) (n2 c2 : Nat) (qs : List Pkt) (b1 b2 : Nat) (X1 : Option Addr) (d1 : Nat) (X2 : Option Addr) (d2 : Nat) (w' : World) : Prop where
  u : XU w l1 A1 n1 c1 ps l2 A2 n2 c2 qs w'
  x1 : Blk w' b1 25 #[.int .i64 l1, (.slice X1 n1 d1)]
  x2 : Blk w' b2 25 #[.int .i64 l2, (.slice X2 n2 d2)]
  p1 : PR w' X1 n1 ps
  p2 : PR w' X2 n2 qs
section
variable {w w1 w2 : World} {b1 b2 : Nat} {l1 l2 : Int} {A1 A2 X1 X2 : Option Addr} {n1 c1 n2 c2 d1 d2 : Nat} {ps qs : List Pkt}
theorem xu_below (h : XU w l1 A1 n1 c1 ps l2 A2 n2 c2 qs w1) (hb : Below w1.heap.size w1 w2) : XU w l1 A1 n1 c1 ps l2 A2 n2 c2 qs w2 := ⟨fr_below h.fr hb, pr_below h.r hb⟩
theorem xu_drew (h : XU w l1 A1 n1 c1 ps l2 A2 n2 c2 qs w1) : XU w l1 A1 n1 c1 ps l2 A2 n2 c2 qs w1.drew := ⟨fr_drew h.fr, h.r⟩
theorem xu_cells (h : XU w l1 A1 n1 c1 ps l2 A2 n2 c2 qs w1) : (w1.cell? ⟨w.heap.size, 0, none⟩ = some (.int .i64 l1) ∧ w1.cell? ⟨w.heap.size, 1, none⟩ = some (.slice A1 n1 c1) ∧ w1.cell? ⟨w.heap.size + 1, 0, none⟩ = some (.int .i64 l2) ∧ w1.cell? ⟨w.heap.size + 1, 1, none⟩ = some (.slice A2 n2 c2)) ∧ XU w l1 A1 n1 c1 ps l2 A2 n2 c2 qs w1 :=
  ⟨⟨blk_cell (h.fr.it 0 _ _ rfl) 0, blk_cell (h.fr.it 0 _ _ rfl) 1, blk_cell (h.fr.it 1 _ _ rfl) 0, blk_cell (h.fr.it 1 _ _ rfl) 1⟩, h⟩
theorem xt_below (h : XT w l1 A1 n1 c1 ps l2 A2 n2 c2 qs b1 b2 X1 d1 X2 d2 w1) (hb : Below w1.heap.size w1 w2) : XT w l1 A1 n1 c1 ps l2 A2 n2 c2 qs b1 b2 X1 d1 X2 d2 w2 :=
  ⟨xu_below h.u hb, blk_below h.x1 hb (blk_lt h.x1), blk_below h.x2 hb (blk_lt h.x2), pr_below h.p1 hb, pr_below h.p2 hb⟩
theorem xt_drew (h : XT w l1 A1 n1 c1 ps l2 A2 n2 c2 qs b1 b2 X1 d1 X2 d2 w1) : XT w l1 A1 n1 c1 ps l2 A2 n2 c2 qs b1 b2 X1 d1 X2 d2 w1.drew := ⟨xu_drew h.u, h.x1, h.x2, h.p1, h.p2⟩
theorem xt_cells (h : XT w l1 A1 n1 c1 ps l2 A2 n2 c2 qs b1 b2 X1 d1 X2 d2 w1) : (w1.cell? ⟨w.heap.size, 0, none⟩ = some (.int .i64 l1) ∧ w1.cell? ⟨w.heap.size, 1, none⟩ = some (.slice A1 n1 c1) ∧ w1.cell? ⟨w.heap.size + 1, 0, none⟩ = some (.int .i64 l2) ∧ w1.cell? ⟨w.heap.size + 1, 1, none⟩ = some (.slice A2 n2 c2) ∧ w1.cell? ⟨b1, 0, none⟩ = some (.int .i64 l1) ∧ w1.cell? ⟨b1, 1, none⟩ = some (.slice X1 n1 d1) ∧ w1.cell? ⟨b2, 0, none⟩ = some (.int .i64 l2) ∧ w1.cell? ⟨b2, 1, none⟩ = some (.slice X2 n2 d2)) ∧ XT w l1 A1 n1 c1 ps l2 A2 n2 c2 qs b1 b2 X1 d1 X2 d2 w1 :=
  ⟨⟨(xu_cells h.u).1.1, (xu_cells h.u).1.2.1, (xu_cells h.u).1.2.2.1, (xu_cells h.u).1.2.2.2, blk_cell h.x1 0, blk_cell h.x1 1, blk_cell h.x2 0, blk_cell h.x2 1⟩, h⟩
end
set_option maxHeartbeats 2000000 in
theorem walk (l1 : Int) (A1 : Option Addr) (n1 c1 : Nat) (ps : List Pkt) (l2 : Int) (A2 : Option Addr) (n2 c2 : Nat) (qs : List Pkt) (w : World) (h : PR w A1 n1 ps) (hn1 : n1 ≤ 9223372036854775807) (h2 : PR w A2 n2 qs) (hn2 : n2 ≤ 9223372036854775807) :
    Calls Try.prog 7 #[.agg #[.int .i64 l1, (.slice A1 n1 c1)], .agg #[.int .i64 l2, (.slice A2 n2 c2)]] w fun e w' => e = .returned (.bool true) ∧ Below w.heap.size w w' := by
  have F : Hid (XU w l1 A1 n1 c1 ps l2 A2 n2 c2 qs ((w.alloc (.cells #[.int .i64 l1, (.slice A1 n1 c1)] 41)).alloc (.cells #[.int .i64 l2, (.slice A2 n2 c2)] 41))) := Lib.hid ⟨fr_two h _ _ _ _, pr_alloc (pr_alloc h2 _) _⟩
  clear h h2
  by_cases hbig : n1 ≤ 1048576
  · have hd : 0 ≤ (1048576 : Int) - (n1 : Int) := by omega
    by_cases hbig2 : n1 + n2 ≤ 1048576
    · have hd2 : 0 ≤ (1048576 : Int) - (n1 : Int) - (n2 : Int) := by omega
      have hm1 : n1 ≤ 1048576 := by omega
      have hm2 : n2 ≤ 1048576 := by omega
      obtain ⟨v, hv⟩ : ∃ v, v = qsB l1 ps l2 qs := ⟨_, rfl⟩
      have HV := Lib.hid hv
      clear hv
      go_enter Try.func7, Try.ntmps7
      go_wp2_with fail
      refine (szQueue_any l1 A1 n1 c1 1048576 _ hn1 (by omega)).mono ?_
      rintro e w1 ⟨rfl, hb⟩
      rw [if_neg (by omega)]
      have F1 := Lib.hid (xu_below F.out hb)
      clear hb F
      obtain ⟨⟨q0, q1, q2, q3⟩, -⟩ := xu_cells F1.out
      go_wp2_with fail
      refine (szQueue_any l2 A2 n2 c2 ((1048576 : Int) - (n1 : Int)) _ hn2 (by omega)).mono ?_
      rintro e w2 ⟨rfl, hb⟩
      rw [if_neg (by omega)]
      have F2 := Lib.hid (xu_below F1.out hb)
      have hS := xu_cells (xu_drew F2.out)
      clear hb F1 q0 q1 q2 q3
      go_wp2_with fail
      go_region_held3 (fun w' => (w'.cell? ⟨w.heap.size, 0, none⟩ = some (.int .i64 l1) ∧ w'.cell? ⟨w.heap.size, 1, none⟩ = some (.slice A1 n1 c1) ∧ w'.cell? ⟨w.heap.size + 1, 0, none⟩ = some (.int .i64 l2) ∧ w'.cell? ⟨w.heap.size + 1, 1, none⟩ = some (.slice A2 n2 c2)) ∧ XU w l1 A1 n1 c1 ps l2 A2 n2 c2 qs w')
        (first
          | (with_reducible assumption)
          | fail)
        (first
          | (go_at_call 31
             refine (sameQS_any l1 l2 X6 X7 n1 e6 n2 e7 ps qs _ PX7.out PY7.out (by omega) (by omega)).mono ?_
             rintro e w8 ⟨rfl, hb8⟩
             rw [← HV.out]
             have HX8 := Lib.hid (xu_below HX7.out hb8)
             have hS8 := xu_cells HX8.out
             clear hb8)
          | (go_at_call 28
             refine (toQueue_any l2 A2 n2 c2 qs _ HX6.out.r hm2).mono ?_
             rintro e w7 ⟨X7, e7, rfl, ho7, hb7⟩
             have PY7 := Lib.hid (pr_own ho7)
             have PX7 := Lib.hid (pr_below PX6.out hb7)
             have HX7 := Lib.hid (xu_below HX6.out hb7)
             have hS7 := xu_cells HX7.out
             clear hb7 ho7)
          | (go_at_call 28
             refine (toQueue_any l1 A1 n1 c1 ps _ (xu_drew F2.out).fr.pr hm1).mono ?_
             rintro e w6 ⟨X6, e6, rfl, ho6, hb6⟩
             have PX6 := Lib.hid (pr_own ho6)
             have HX6 := Lib.hid (xu_below (xu_drew F2.out) hb6)
             have hS6 := xu_cells HX6.out
             clear hb6 ho6))
      all_goals
        obtain ⟨⟨q0, q1, q2, q3⟩, -⟩ := xu_cells HX8.out
        clear hS PX6 PX7 PY7 HX6 HX7
        go_wp2_with fail
        refine (toQueue_any l1 A1 n1 c1 ps _ HX8.out.fr.pr hm1).mono ?_
        rintro e w4 ⟨X1, d1, rfl, ho4, hb4⟩
        have P4 := Lib.hid (pr_own ho4)
        have z4 := (xu_below HX8.out hb4).fr.lt
        simp at z4
        have q3' : w.heap.size + 1 < w4.heap.size := by omega
        have HX4 := Lib.hid (xu_below (xu_below HX8.out hb4) (below_alloc (Below.refl _ _) (.cells #[.int .i64 l1, (.slice X1 n1 d1)] 25)))
        have B4 := Lib.hid (blk_new w4 25 #[.int .i64 l1, (.slice X1 n1 d1)])
        clear ho4 hb4 q0 q1 q2 q3
        obtain ⟨⟨q0, q1, q2, q3⟩, -⟩ := xu_cells HX4.out
        go_wp2_with fail
        refine (toQueue_any l2 A2 n2 c2 qs _ HX4.out.r hm2).mono ?_
        rintro e w5 ⟨X2, d2, rfl, ho5, hb5⟩
        have HT : Hid (XT w l1 A1 n1 c1 ps l2 A2 n2 c2 qs w4.heap.size w5.heap.size X1 d1 X2 d2 (w5.alloc (.cells #[.int .i64 l2, (.slice X2 n2 d2)] 25))) := Lib.hid ⟨xu_below (xu_below HX4.out hb5) (below_alloc (Below.refl _ _) _), blk_alloc (blk_below B4.out hb5 (blk_lt B4.out)) _, blk_new w5 _ _, pr_alloc (pr_below (pr_alloc P4.out _) hb5) _, pr_alloc (pr_own ho5) _⟩
        clear ho5 hb5 q0 q1 q2 q3 q3' z4 P4 B4 HX4
        obtain ⟨⟨q0, q1, q2, q3, q4, q5, q6, q7⟩, -⟩ := xt_cells HT.out
        go_wp2_with fail
        refine (sameQI_any l1 l2 X1 X2 n1 d1 n2 d2 ps qs _ HT.out.p1 HT.out.p2 (by omega) (by omega)).mono ?_
        rintro e w9 ⟨rfl, hb9⟩
        rw [← HV.out]
        have HT9 := Lib.hid (xt_below HT.out hb9)
        clear hb9 q0 q1 q2 q3 q4 q5 q6 q7 HT
        have hS := xt_cells (xt_drew HT9.out)
        go_wp2_with fail
        go_region_held3 (fun w' => (w'.cell? ⟨w.heap.size, 0, none⟩ = some (.int .i64 l1) ∧ w'.cell? ⟨w.heap.size, 1, none⟩ = some (.slice A1 n1 c1) ∧ w'.cell? ⟨w.heap.size + 1, 0, none⟩ = some (.int .i64 l2) ∧ w'.cell? ⟨w.heap.size + 1, 1, none⟩ = some (.slice A2 n2 c2) ∧ w'.cell? ⟨w4.heap.size, 0, none⟩ = some (.int .i64 l1) ∧ w'.cell? ⟨w4.heap.size, 1, none⟩ = some (.slice X1 n1 d1) ∧ w'.cell? ⟨w5.heap.size, 0, none⟩ = some (.int .i64 l2) ∧ w'.cell? ⟨w5.heap.size, 1, none⟩ = some (.slice X2 n2 d2)) ∧ XT w l1 A1 n1 c1 ps l2 A2 n2 c2 qs w4.heap.size w5.heap.size X1 d1 X2 d2 w')
          (first
            | (with_reducible assumption)
            | fail)
          (first
            | (go_at_call 30
               refine (eqQueue_same l1 X1 Z1 n1 d1 n1 f1 ps _ HT10.out.p1 PZ10.out (by omega) (by omega)).mono ?_
               rintro e w11 ⟨rfl, hb11⟩
               have HT11 := Lib.hid (xt_below HT10.out hb11)
               have hS11 := xt_cells HT11.out
               clear hb11)
            | (go_at_call 28
               refine (toQueue_any l1 A1 n1 c1 ps _ (xt_drew HT9.out).u.fr.pr hm1).mono ?_
               rintro e w10 ⟨Z1, f1, rfl, ho10, hb10⟩
               have PZ10 := Lib.hid (pr_own ho10)
               have HT10 := Lib.hid (xt_below (xt_drew HT9.out) hb10)
               have hS10 := xt_cells HT10.out
               clear hb10 ho10))
        all_goals
          clear PZ10 HT10 HT9 hS
          have hS := xt_cells (xt_drew HT11.out)
          go_wp2_with fail
          go_region_held3 (fun w' => (w'.cell? ⟨w.heap.size, 0, none⟩ = some (.int .i64 l1) ∧ w'.cell? ⟨w.heap.size, 1, none⟩ = some (.slice A1 n1 c1) ∧ w'.cell? ⟨w.heap.size + 1, 0, none⟩ = some (.int .i64 l2) ∧ w'.cell? ⟨w.heap.size + 1, 1, none⟩ = some (.slice A2 n2 c2) ∧ w'.cell? ⟨w4.heap.size, 0, none⟩ = some (.int .i64 l1) ∧ w'.cell? ⟨w4.heap.size, 1, none⟩ = some (.slice X1 n1 d1) ∧ w'.cell? ⟨w5.heap.size, 0, none⟩ = some (.int .i64 l2) ∧ w'.cell? ⟨w5.heap.size, 1, none⟩ = some (.slice X2 n2 d2)) ∧ XT w l1 A1 n1 c1 ps l2 A2 n2 c2 qs w4.heap.size w5.heap.size X1 d1 X2 d2 w')
            (first
              | (with_reducible assumption)
              | fail)
            (first
              | (go_at_call 30
                 refine (eqQueue_same l2 X2 Z2 n2 d2 n2 f2 qs _ HT12.out.p2 PZ12.out (by omega) (by omega)).mono ?_
                 rintro e w13 ⟨rfl, hb13⟩
                 have HT13 := Lib.hid (xt_below HT12.out hb13)
                 have hS13 := xt_cells HT13.out
                 clear hb13)
              | (go_at_call 28
                 refine (toQueue_any l2 A2 n2 c2 qs _ (xt_drew HT11.out).u.r hm2).mono ?_
                 rintro e w12 ⟨Z2, f2, rfl, ho12, hb12⟩
                 have PZ12 := Lib.hid (pr_own ho12)
                 have HT12 := Lib.hid (xt_below (xt_drew HT11.out) hb12)
                 have hS12 := xt_cells HT12.out
                 clear hb12 ho12))
          all_goals
            go_wp2
            go_ret
            exact ⟨rfl, HT13.out.u.fr.below⟩
    · go_enter Try.func7, Try.ntmps7
      go_wp2_with fail
      refine (szQueue_any l1 A1 n1 c1 1048576 _ hn1 (by omega)).mono ?_
      rintro e w1 ⟨rfl, hb⟩
      rw [if_neg (by omega)]
      have F1 := Lib.hid (xu_below F.out hb)
      clear hb F
      obtain ⟨⟨q0, q1, q2, q3⟩, -⟩ := xu_cells F1.out
      go_wp2_with fail
      refine (szQueue_any l2 A2 n2 c2 ((1048576 : Int) - (n1 : Int)) _ hn2 (by omega)).mono ?_
      rintro e w2 ⟨rfl, hb⟩
      rw [if_pos (by omega)]
      have F2 := Lib.hid (xu_below F1.out hb)
      clear hb F1 q0 q1 q2 q3
      go_wp2
      go_ret
      exact ⟨rfl, F2.out.fr.below⟩
  · go_enter Try.func7, Try.ntmps7
    go_wp2_with fail
    refine (szQueue_any l1 A1 n1 c1 1048576 _ hn1 (by omega)).mono ?_
    rintro e w1 ⟨rfl, hb⟩
    rw [if_pos (by omega)]
    have F1 := Lib.hid (xu_below F.out hb)
    clear hb F
    go_wp2
    go_ret
    exact ⟨rfl, F1.out.fr.below⟩
theorem own : ownKnob Try.prog.godebug = none := by kernel_rfl
theorem laidOut : laidOutB Try.prog = true := by kernel_rfl
set_option maxRecDepth 100000 in
theorem lifted (os : Os) (started : os.Started) (H : Type) (enc : TypeId × Value → H) :
    ReturnsInHanded {} Try.checked os 7 .any (Rows.fnExactQueueSameSpec.pre6 enc Try.prog Try.f7 Rows.fnExactQueueSameRow.domain false) (Rows.fnExactQueueSameSpec.post enc Try.prog Try.f7 false true false false) := by
  refine returnsInHanded_of_change (C := Try.checked) own started (by kernel_rfl) Try.func7
    (ChangeSpec.witness6 (enc := enc) (C := Try.checked) false ⟨#[], #[.agg #[.int .i64 0, .slice none 0 0], .agg #[.int .i64 0, .slice none 0 0]], []⟩ 8 (by kernel_rfl) (by kernel_rfl) (by kernel_rfl) (by kernel_rfl)) ?_
  intro W base args ds gs before hval0 hW _ _
  have hval : ∀ (j : Nat) t v, Try.f7.params[j]? = some t → args[j]? = some v → Value.okWide Try.prog W .any base t v := hval0
  have hW' := hW
  obtain ⟨p, q, hA0, hV, rfl, _, _⟩ := hW
  have hA : DataW.TrodAll enc Try.prog W 0 (fun _ => true) true Try.f7.params.toList args.toList ds p := hA0
  rw [Try.params7] at hA hval
  obtain ⟨v0, vs0, d0, ds0, p0, q0, hargs, rfl, rfl, h0, r0⟩ := trodAll_cons hA
  obtain ⟨v1, vs1, d1, ds1, p1, q1, rfl, rfl, rfl, h1, r1⟩ := trodAll_cons r0
  obtain ⟨rfl, rfl, rfl⟩ := trodAll_nil r1
  obtain rfl : args = #[v0, v1] := by cases args; simp_all
  obtain ⟨rfl, rfl⟩ := trodVars_none hV
  have lt0 : ∀ x ∈ p0, x.block < W.heap.size := by obtain ⟨m, hm⟩ := h0; exact DataW.trod_lt m _ _ _ hm
  have ok0 := (hval 0 41 v0 rfl rfl)
  obtain ⟨p0a, p0b, y0a, y0b, nf0, rfl, _, _, t0a, t0b⟩ := Go.Joins.open_agg2 Try.underlying41 (by kernel_rfl) (by kernel_rfl) ok0 h0
  obtain ⟨x0a, e0a, _, _⟩ := DataW.trod_int Try.underlying3 t0a
  obtain rfl : p0a = .int .i64 x0a := by simpa using e0a
  obtain ⟨a0, n0, c0, x0, rfl, w0, m0⟩ := pkts_open1 t0b
  have lt1 : ∀ x ∈ p1, x.block < W.heap.size := by obtain ⟨m, hm⟩ := h1; exact DataW.trod_lt m _ _ _ hm
  have ok1 := (hval 1 41 v1 rfl rfl)
  obtain ⟨p1a, p1b, y1a, y1b, nf1, rfl, _, _, t1a, t1b⟩ := Go.Joins.open_agg2 Try.underlying41 (by kernel_rfl) (by kernel_rfl) ok1 h1
  obtain ⟨x1a, e1a, _, _⟩ := DataW.trod_int Try.underlying3 t1a
  obtain rfl : p1a = .int .i64 x1a := by simpa using e1a
  obtain ⟨a1, n1, c1, x1, rfl, w1, m1⟩ := pkts_open1 t1b
  clear hA0 hval0
  refine (walk x0a a0 n0 c0 x0 x1a a1 n1 c1 x1 W w0 m0 w1 m1).mono fun e W' ⟨he, bel⟩ => ?_
  subst he
  exact ⟨_, rfl, _, _, _, [], _, [], hW', trodAll_mk1 (shut_bool Try.underlying4 _), (trodAll_cons_mk (Below.trod laidOut (by kernel_rfl) (of_decide_eq_true (by kernel_rfl)) h0 bel lt0) (trodAll_cons_mk (Below.trod laidOut (by kernel_rfl) (of_decide_eq_true (by kernel_rfl)) h1 bel lt1) trodAll_mk0)), rfl, bel.frame _, fun h => by cases h⟩
theorem over : Rows.fnExactQueueSameRow.holds Try.pinned (OpenSpec.ofChange Rows.fnExactQueueSameSpec) :=
  OpenClaim.holds_of_wide 7 Try.f7 rfl rfl rfl rfl rfl rfl rfl ⟨rfl, rfl, rfl, rfl, rfl⟩ rfl rfl rfl rfl rfl (by kernel_rfl) Try.func7 (by kernel_rfl)
    (of_decide_eq_true (by kernel_rfl)) (by unfold Func.isWrapper; first | (rw [if_pos (by decide +kernel)]; kernel_rfl) | (rw [if_neg (by decide +kernel)]; exact ⟨rfl, rfl⟩))
    (fun os started H enc _ => lifted os started H enc)
/-- the given statement -/
theorem proved : Rows.FnExactQueueSameSaid := over
end Go.Proofs.Ytapoahoknlaeaab.fnExactQueueSame
