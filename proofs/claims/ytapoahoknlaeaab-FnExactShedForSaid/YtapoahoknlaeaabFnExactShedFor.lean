/-
  The law FnExactShedFor returns true at every argument: the program's ShedFor answers as the model's, writes into no argument, and its answer owns its memory. Conditions: none.
-/
import Derived.Test.YtapoahoknlaeaabQEy
import Derived.Test.YtapoahoknlaeaabShd
namespace Go.Proofs.Ytapoahoknlaeaab.fnExactShedFor
open Go.ChangeShapes Go.WideShapes Go.ChangeAt Go.RowKit

theorem shed_both (lim : Int) (ps : List Pkt) (x : Int) : ∃ L R G ok, R.length ≤ ps.length ∧ G.length ≤ ps.length ∧
    Hid (∀ (A : Option Addr) (n c : Nat) (w : World), PR w A n ps → n ≤ 4000000000 → Calls Try.prog 40 #[.agg #[.int .i64 lim, (.slice A n c)], .int .i64 x] w (QPostL w L R G ok)) ∧
    Hid (∀ (A : Option Addr) (n c : Nat) (w : World), PR w A n ps → n ≤ 4000000000 → Calls Try.prog 41 #[.agg #[.int .i64 lim, (.slice A n c)], .int .i64 x] w (QPostL w L R G ok)) := by
  rcases hk : shedOk lim ps x with _ | _
  · exact ⟨0, [], [], false, Nat.zero_le _, Nat.zero_le _, Lib.hid fun A n c w h hn => shedS_no lim A n c ps x w h hn hk, Lib.hid fun A n c w h hn => shedI_no lim A n c ps x w h hn hk⟩
  · obtain ⟨R, g, hR, hg, -, -, hl, -⟩ := shed_law hk
    exact ⟨lim, (shed lim x ps).1, (shed lim x ps).2, true, by rw [← hR]; omega, by rw [← hg]; omega, Lib.hid fun A n c w h hn => shedS_yes lim A n c ps x w h hn hk, Lib.hid fun A n c w h hn => shedI_yes lim A n c ps x w h hn hk⟩

theorem eg_rd {w w1 : World} {A Ax Aw Dw Ag Dg : Option Addr} {n c base bx cx nw cw mw dw bw bg ng cg mg dg : Nat} {ps xs rs gs rs2 gs2 : List Pkt} {lim lw : Int} {ex : List (Nat × TypeId × Array Value)} (h : EG w [(41, #[.int .i64 lim, (.slice A n c)])] A n ps lim base bx Ax cx xs lw rs gs Aw nw cw Dw mw dw bw bg Ag ng cg Dg mg dg rs2 gs2 ex w1) :
    (w1.cell? ⟨w.heap.size, 0, none⟩ = some (.int .i64 lim) ∧ w1.cell? ⟨w.heap.size, 1, none⟩ = some (.slice A n c) ∧ w1.cell? ⟨bx, 0, none⟩ = some (.int .i64 lim) ∧ w1.cell? ⟨bx, 1, none⟩ = some (.slice Ax n cx)) ∧ EG w [(41, #[.int .i64 lim, (.slice A n c)])] A n ps lim base bx Ax cx xs lw rs gs Aw nw cw Dw mw dw bw bg Ag ng cg Dg mg dg rs2 gs2 ex w1 :=
  ⟨⟨blk_cell (h.fr.it 0 _ _ rfl) 0, blk_cell (h.fr.it 0 _ _ rfl) 1, blk_cell h.x 0, blk_cell h.x 1⟩, h⟩
set_option maxHeartbeats 4000000 in
theorem walk (lim : Int) (A : Option Addr) (n c : Nat) (ps : List Pkt) (x : Int) (w : World) (h : PR w A n ps) (hn : n ≤ 9223372036854775807) (_ : (Lit.int .i64 x).wf = true) :
    Calls Try.prog 11 #[.agg #[.int .i64 lim, (.slice A n c)], .int .i64 x] w fun e w' => e = .returned (.bool true) ∧ Below w.heap.size w w' := by
  have F := Lib.hid (fr_one h 41 #[.int .i64 lim, (.slice A n c)])
  by_cases hbig : n ≤ 1048576
  · have hd : 0 ≤ (1048576 : Int) - (n : Int) := by omega
    obtain ⟨L, R, G, ok, hR, hG, HS0, HI0⟩ := shed_both lim ps x
    have hps := h.1
    have hR' : R.length ≤ 1048576 := by omega
    have hG' : G.length ≤ 1048576 := by omega
    have OLD := Lib.hid (pr_old h)
    clear h hR hG hps
    go_enter Try.func11, Try.ntmps11
    go_wp2_with fail
    refine (szQueue_any lim A n c 1048576 _ hn (by omega)).mono ?_
    rintro e w1 ⟨rfl, hb⟩
    rw [if_neg (by omega)]
    have F1 := Lib.hid (fr_below F.out hb)
    obtain ⟨q0, q1⟩ := fr_cell2 F1.out
    clear hb F
    go_wp2_with fail
    refine (toQueue_any lim A n c ps _ F1.out.pr hbig).mono ?_
    rintro e w2 ⟨A2, c2, rfl, ho, hb⟩
    have X2 := Lib.hid (pr_own ho)
    have F2 := Lib.hid (fr_below F1.out hb)
    clear hb ho q0 q1
    obtain ⟨q0, q1⟩ := fr_cell2 F2.out
    go_wp2_with fail
    refine (HS0.out A2 n c2 _ X2.out (by omega)).mono ?_
    rintro e w3 ⟨Aw, nw, cw, Dw, mw, dw, rfl, hnw, hmw, ho3, hp3, -, hb⟩
    have F3 := Lib.hid (fr_below F2.out hb)
    have O3 := Lib.hid (And.intro ho3 hp3)
    have lnw : nw ≤ 1048576 := by omega
    have lmw : mw ≤ 1048576 := by omega
    have z3 := F3.out.lt
    simp at z3
    have W3 := Lib.hid (blk_new w3 25 #[.int .i64 L, (.slice Aw nw cw)])
    clear hb q0 q1 ho3 hp3 hnw hmw
    obtain ⟨q0, q1⟩ := fr_cell2 (fr_alloc F3.out (.cells #[.int .i64 L, (.slice Aw nw cw)] 25))
    go_wp2_with fail
    refine (toQueue_any lim A n c ps _ (fr_alloc F3.out _).pr hbig).mono ?_
    rintro e w4 ⟨A4, c4, rfl, ho4, hb⟩
    have F4 := Lib.hid (fr_alloc (fr_below (fr_alloc F3.out _) hb) (.cells #[.int .i64 lim, (.slice A4 n c4)] 25))
    have W4 := Lib.hid (blk_alloc (blk_below W3.out hb (blk_lt W3.out)) (.cells #[.int .i64 lim, (.slice A4 n c4)] 25))
    have P4 := Lib.hid (And.intro (pr_alloc (pr_below (pr_alloc (pr_own O3.out.1) _) hb) (.cells #[.int .i64 lim, (.slice A4 n c4)] 25)) (pr_alloc (pr_below (pr_alloc (pr_own O3.out.2) _) hb) (.cells #[.int .i64 lim, (.slice A4 n c4)] 25)))
    have z4 := hb.size
    simp at z4
    have O4 := Lib.hid (show w4.ownsRow (w3.heap.size + 1) 51 4 (.slice A4 n c4) n (pcells ps) from own_mono ho4 (by simp))
    have X4 := Lib.hid (blk_new w4 25 #[.int .i64 lim, (.slice A4 n c4)])
    have hc4 := (own_cap ho4).1
    clear hb ho4 q0 q1
    go_wp2_with fail
    refine (HI0.out A4 n c4 _ (pr_own (O4.out.alloc _)) (by omega)).mono ?_
    rintro e w5 ⟨Ag, ng, cg, Dg, mg, dg, rfl, hng, hmg, ho5, hp5, hsep, hb⟩
    have z5 := hb.size
    simp at z5
    have lng : ng ≤ 1048576 := by omega
    have lmg : mg ≤ 1048576 := by omega
    have y3 : w3.heap.size < w5.heap.size := by omega
    have y4 : w4.heap.size < w5.heap.size := by omega
    have HX5 : Hid (EG w [(41, #[.int .i64 lim, (.slice A n c)])] A n ps lim (w3.heap.size + 1) w4.heap.size A4 c4 ps L R G Aw nw cw Dw mw dw w3.heap.size w5.heap.size Ag ng cg Dg mg dg R G [] (w5.alloc (.cells #[.int .i64 L, (.slice Ag ng cg)] 25))) := Lib.hid
      ⟨fr_alloc (fr_below F4.out hb) _, blk_alloc (blk_below X4.out hb (blk_lt X4.out)) _, (own_below (O4.out.alloc _) hb).alloc _, blk_alloc (blk_below W4.out hb (blk_lt W4.out)) _, pr_alloc (pr_below P4.out.1 hb) _, pr_alloc (pr_below P4.out.2 hb) _, blk_new w5 _ _,
        (own_mono ho5 (by simp)).alloc _, (own_mono hp5 (by simp)).alloc _, fun b t cs e => (by cases e), (by simp; omega), (by omega), (by omega), (by omega), OLD.out, fun hn b e => (by have := pr_old (pr_own O3.out.1) hn b e; omega), fun hn b e => (by have := pr_old (pr_own O3.out.2) hn b e; omega),
        fun b e => (O4.out.lt b e).2, fun b e => (ho5.lt b e).2, fun b e => (hp5.lt b e).2, hsep⟩
    clear F1 F2 F3 F4 X2 O3 W3 W4 P4 O4 X4 hb ho5 hp5 hsep hng hmg z3 z4 z5 OLD
    obtain ⟨⟨x0, x1⟩, ⟨u0, u1⟩, g0, g1⟩ := eg_cells HX5.out
    go_wp2_with fail
    refine (eqQueue_same L Ag Aw ng cg nw cw R _ (pr_own HX5.out.go) HX5.out.wp (by omega) (by omega)).mono ?_
    rintro e w8 ⟨rfl, hb⟩
    have HX8 := Lib.hid (eg_below HX5.out hb)
    clear hb x0 x1 u0 u1 g0 g1 HX5
    go_wp2_with fail
    refine (eqPacketS_any Dg Dw mg dg mw dw G G _ (pr_own HX8.out.gd) HX8.out.wd (by omega) (by omega)).mono ?_
    rintro e w9 ⟨rfl, hb⟩
    rw [← same_yes rfl]
    have HX9 := Lib.hid (eg_below HX8.out hb)
    clear hb HX8
    have hS := eg_rd (eg_drew HX9.out)
    go_wp2_with fail
    go_region_held3 (fun w' => (w'.cell? ⟨w.heap.size, 0, none⟩ = some (.int .i64 lim) ∧ w'.cell? ⟨w.heap.size, 1, none⟩ = some (.slice A n c) ∧ w'.cell? ⟨w4.heap.size, 0, none⟩ = some (.int .i64 lim) ∧ w'.cell? ⟨w4.heap.size, 1, none⟩ = some (.slice A4 n c4)) ∧ EG w [(41, #[.int .i64 lim, (.slice A n c)])] A n ps lim (w3.heap.size + 1) w4.heap.size A4 c4 ps L R G Aw nw cw Dw mw dw w3.heap.size w5.heap.size Ag ng cg Dg mg dg R G [] w')
      (first
        | (with_reducible assumption)
        | fail)
      (first
        | (go_at_call 30
           refine (eqQueue_same lim A4 A6 n c4 n c6 ps _ (pr_own HX6.out.xo) PX6.out (by omega) (by omega)).mono ?_
           rintro e w7 ⟨rfl, hb7⟩
           have HX7 := Lib.hid (eg_below HX6.out hb7)
           have hS7 := eg_rd HX7.out
           clear hb7)
        | (go_at_call 28
           refine (toQueue_any lim A n c ps _ (eg_drew HX9.out).fr.pr hbig).mono ?_
           rintro e w6 ⟨A6, c6, rfl, ho6, hb6⟩
           have PX6 := Lib.hid (pr_own ho6)
           have HX6 := Lib.hid (eg_below (eg_drew HX9.out) hb6)
           have hS6 := eg_rd HX6.out
           clear hb6 ho6))
    all_goals
      clear PX6 HX6 HX9 hS
      obtain ⟨⟨x0, x1⟩, ⟨u0, u1⟩, g0, g1⟩ := eg_cells HX7.out
      go_wp2_with fail
      refine (markQueue_any lim _ A4 n c4 1 ps _ HX7.out.xo (by omega) (by omega)).mono ?_
      rintro e w10 ⟨rfl, ho, hg⟩
      have HX10 := Lib.hid (eg_markx HX7.out hg ho)
      clear ho hg x0 x1 u0 u1 g0 g1 HX7
      obtain ⟨⟨x0, x1⟩, ⟨u0, u1⟩, g0, g1⟩ := eg_cells HX10.out
      go_wp2_with fail
      refine (eqQueue_same L Ag Aw ng cg nw cw R _ (pr_own HX10.out.go) HX10.out.wp (by omega) (by omega)).mono ?_
      rintro e w11 ⟨rfl, hb⟩
      have HX11 := Lib.hid (eg_below HX10.out hb)
      clear hb x0 x1 u0 u1 g0 g1 HX10
      go_wp2_with fail
      refine (eqPacketS_any Dg Dw mg dg mw dw G G _ (pr_own HX11.out.gd) HX11.out.wd (by omega) (by omega)).mono ?_
      rintro e w12 ⟨rfl, hb⟩
      rw [← same_yes rfl]
      have HX12 := Lib.hid (eg_below HX11.out hb)
      clear hb HX11
      obtain ⟨⟨x0, x1⟩, ⟨u0, u1⟩, g0, g1⟩ := eg_cells HX12.out
      go_wp2_with fail
      refine (markQueue_any L _ Ag ng cg 1 R _ HX12.out.go (by omega) (by omega)).mono ?_
      rintro e w13 ⟨rfl, ho, hg⟩
      have HX13 := Lib.hid (eg_markg HX12.out hg ho)
      clear ho hg x0 x1 u0 u1 g0 g1 HX12
      go_wp2_with fail
      refine (markPacketS_any _ Dg mg dg (1 + 4 * (ng : Int)) G _ HX13.out.gd (by omega) (by omega)).mono ?_
      rintro e w14 ⟨rfl, ho, hg⟩
      have HX14 := Lib.hid (eg_markd HX13.out hg ho)
      clear ho hg HX13
      obtain ⟨⟨x0, x1⟩, ⟨u0, u1⟩, g0, g1⟩ := eg_cells HX14.out
      have k0 : (0 : Int) ≤ 1 + 4 * (ng : Int) := by omega
      have k1 : (0 : Int) ≤ 1 + 4 * (ng : Int) + 4 * (mg : Int) := by omega
      go_wp2_with fail
      refine (heldQueue_any L Ag ng cg 1 _ (pr_own HX14.out.go) (by omega) (by omega)).mono ?_
      rintro e w15 ⟨rfl, hb⟩
      have HX15 := Lib.hid (eg_below HX14.out hb)
      clear hb x0 x1 u0 u1 g0 g1 HX14
      go_wp2_with fail
      refine (heldPacketS_any Dg mg dg (1 + 4 * (ng : Int)) _ (pr_own HX15.out.gd) (by omega) (by omega)).mono ?_
      rintro e w16 ⟨rfl, rfl⟩
      obtain ⟨q0, q1⟩ := fr_cell2 HX15.out.fr
      go_wp2_with fail
      refine (toQueue_any lim A n c ps _ HX15.out.fr.pr hbig).mono ?_
      rintro e w17 ⟨A17, c17, rfl, ho, hb⟩
      have P17 := Lib.hid (pr_own ho)
      have HX17 := Lib.hid (eg_below HX15.out hb)
      clear hb ho q0 q1 HX15
      go_wp2_with fail
      refine (HI0.out A17 n c17 _ P17.out (by omega)).mono ?_
      rintro e w18 ⟨Ah, nh, ch, Dh, mh, dh, rfl, hnh, hmh, ho, hp, -, hb⟩
      have PH := Lib.hid (And.intro (pr_alloc (pr_own ho) (.cells #[.int .i64 L, (.slice Ah nh ch)] 25)) (pr_alloc (pr_own hp) (.cells #[.int .i64 L, (.slice Ah nh ch)] 25)))
      have HX18 := Lib.hid (eg_below (eg_below HX17.out hb) (below_alloc (Below.refl _ _) (.cells #[.int .i64 L, (.slice Ah nh ch)] 25)))
      have lnh : nh ≤ 1048576 := by omega
      have lmh : mh ≤ 1048576 := by omega
      have y18 : w3.heap.size < w18.heap.size := by have := eg_ws (eg_below HX17.out hb); omega
      clear hb ho hp hnh hmh HX17 P17
      obtain ⟨⟨x0, x1⟩, ⟨u0, u1⟩, g0, g1⟩ := eg_cells HX18.out
      go_wp2_with fail
      refine (eqQueue_same L Ah Aw nh ch nw cw R _ PH.out.1 HX18.out.wp (by omega) (by omega)).mono ?_
      rintro e w19 ⟨rfl, hb⟩
      have HX19 := Lib.hid (eg_below HX18.out hb)
      have PH19 := Lib.hid (pr_below PH.out.2 hb)
      clear hb x0 x1 u0 u1 g0 g1 HX18 PH
      go_wp2_with fail
      refine (eqPacketS_any Dh Dw mh dh mw dw G G _ PH19.out HX19.out.wd (by omega) (by omega)).mono ?_
      rintro e w20 ⟨rfl, hb⟩
      rw [← same_yes rfl]
      have HX20 := Lib.hid (eg_below HX19.out hb)
      clear hb HX19
      obtain ⟨⟨x0, x1⟩, ⟨u0, u1⟩, g0, g1⟩ := eg_cells HX20.out
      go_wp2_with fail
      refine (heldQueue_any L Ag ng cg 1 _ (pr_own HX20.out.go) (by omega) (by omega)).mono ?_
      rintro e w21 ⟨rfl, hb⟩
      have HX21 := Lib.hid (eg_below HX20.out hb)
      clear hb x0 x1 u0 u1 g0 g1 HX20
      go_wp2_with fail
      refine (heldPacketS_any Dg mg dg (1 + 4 * (ng : Int)) _ (pr_own HX21.out.gd) (by omega) (by omega)).mono ?_
      rintro e w22 ⟨rfl, rfl⟩
      go_wp2
      go_ret
      exact ⟨rfl, HX21.out.fr.below⟩
  · clear h
    go_enter Try.func11, Try.ntmps11
    go_wp2_with fail
    refine (szQueue_any lim A n c 1048576 _ hn (by omega)).mono ?_
    rintro e w1 ⟨rfl, hb⟩
    rw [if_pos (by omega)]
    have F1 := Lib.hid (fr_below F.out hb)
    clear hb F
    go_wp2
    go_ret
    exact ⟨rfl, F1.out.below⟩
theorem own : ownKnob Try.prog.godebug = none := by kernel_rfl
theorem laidOut : laidOutB Try.prog = true := by kernel_rfl
set_option maxRecDepth 100000 in
theorem lifted (os : Os) (started : os.Started) (H : Type) (enc : TypeId × Value → H) :
    ReturnsInHanded {} Try.checked os 11 .any (Rows.fnExactShedForSpec.pre6 enc Try.prog Try.f11 Rows.fnExactShedForRow.domain false) (Rows.fnExactShedForSpec.post enc Try.prog Try.f11 false true false false) := by
  refine returnsInHanded_of_change (C := Try.checked) own started (by kernel_rfl) Try.func11
    (ChangeSpec.witness6 (enc := enc) (C := Try.checked) false ⟨#[], #[.agg #[.int .i64 0, .slice none 0 0], .int .i64 0], []⟩ 8 (by kernel_rfl) (by kernel_rfl) (by kernel_rfl) (by kernel_rfl)) ?_
  intro W base args ds gs before hval0 hW _ _
  have hval : ∀ (j : Nat) t v, Try.f11.params[j]? = some t → args[j]? = some v → Value.okWide Try.prog W .any base t v := hval0
  have hW' := hW
  obtain ⟨p, q, hA0, hV, rfl, _, _⟩ := hW
  have hA : DataW.TrodAll enc Try.prog W 0 (fun _ => true) true Try.f11.params.toList args.toList ds p := hA0
  rw [Try.params11] at hA hval
  obtain ⟨v0, vs0, d0, ds0, p0, q0, hargs, rfl, rfl, h0, r0⟩ := trodAll_cons hA
  obtain ⟨v1, vs1, d1, ds1, p1, q1, rfl, rfl, rfl, h1, r1⟩ := trodAll_cons r0
  obtain ⟨rfl, rfl, rfl⟩ := trodAll_nil r1
  obtain rfl : args = #[v0, v1] := by cases args; simp_all
  obtain ⟨rfl, rfl⟩ := trodVars_none hV
  have lt0 : ∀ x ∈ p0, x.block < W.heap.size := by obtain ⟨m, hm⟩ := h0; exact DataW.trod_lt m _ _ _ hm
  have ok0 := (hval 0 41 v0 rfl rfl)
  obtain ⟨p0a, p0b, y0a, y0b, nf0, rfl, _, _, t0a, t0b⟩ := Go.Joins.open_agg2 Try.underlying41 (by kernel_rfl) (by kernel_rfl) ok0 h0
  obtain ⟨x0a, e0a, _, _⟩ := DataW.trod_int Try.underlying3 t0a
  obtain rfl : p0a = .int .i64 x0a := by simpa using e0a
  obtain ⟨a0, n0, c0, x0, rfl, w0, m0⟩ := pkts_open1 t0b
  obtain ⟨x1, rfl, rfl, rfl, w1⟩ := open_int Try.underlying3 (hval 1 3 v1 rfl rfl) h1
  clear hA0 hval0
  refine (walk x0a a0 n0 c0 x0 x1 W w0 m0 w1).mono fun e W' ⟨he, bel⟩ => ?_
  subst he
  exact ⟨_, rfl, _, _, _, [], _, [], hW', trodAll_mk1 (shut_bool Try.underlying4 _), (trodAll_cons_mk (Below.trod laidOut (by kernel_rfl) (of_decide_eq_true (by kernel_rfl)) h0 bel lt0) (trodAll_cons_mk (shut_int Try.underlying3 w1) trodAll_mk0)), rfl, bel.frame _, fun h => by cases h⟩
theorem over : Rows.fnExactShedForRow.holds Try.pinned (OpenSpec.ofChange Rows.fnExactShedForSpec) :=
  OpenClaim.holds_of_wide 11 Try.f11 rfl rfl rfl rfl rfl rfl rfl ⟨rfl, rfl, rfl, rfl, rfl⟩ rfl rfl rfl rfl rfl (by kernel_rfl) Try.func11 (by kernel_rfl)
    (of_decide_eq_true (by kernel_rfl)) (by unfold Func.isWrapper; first | (rw [if_pos (by decide +kernel)]; kernel_rfl) | (rw [if_neg (by decide +kernel)]; exact ⟨rfl, rfl⟩))
    (fun os started H enc _ => lifted os started H enc)
/-- the given statement -/
theorem proved : Rows.FnExactShedForSaid := over
end Go.Proofs.Ytapoahoknlaeaab.fnExactShedFor
