/-
  The law FnExactPopFront returns true at every argument: the program's PopFront answers as the model's, writes into no argument, and its answer owns its memory. Conditions: none.
-/
import Derived.Test.YtapoahoknlaeaabQEy
import Derived.Test.YtapoahoknlaeaabQ4S
namespace Go.Proofs.Ytapoahoknlaeaab.fnExactPopFront
open Go.ChangeShapes Go.WideShapes Go.ChangeAt Go.RowKit

theorem pop_both (lim : Int) (ps : List Pkt) : ∃ (L : Int) (R : List Pkt) (p : Pkt) (ok : Bool), R.length ≤ ps.length ∧
    Hid (∀ (A : Option Addr) (n c : Nat) (w : World), PR w A n ps → n ≤ 4000000000 → n ≤ c → Calls Try.prog 37 #[.agg #[.int .i64 lim, (.slice A n c)]] w (QPost2 w L R (.agg #[.int .i64 p.peer, .int .i64 p.lane, .int .i64 p.size, .int .i64 p.id]) (.bool ok))) ∧
    Hid (∀ (A : Option Addr) (n c : Nat) (w : World), PR w A n ps → n ≤ 4000000000 → n ≤ c → Calls Try.prog 38 #[.agg #[.int .i64 lim, (.slice A n c)]] w (QPost2 w L R (.agg #[.int .i64 p.peer, .int .i64 p.lane, .int .i64 p.size, .int .i64 p.id]) (.bool ok))) := by
  rcases hk : heavyP lim ps with _ | _
  · exact ⟨0, [], ⟨0, 0, 0, 0⟩, false, Nat.zero_le _, Lib.hid fun A n c w h hn _ => popS_no lim A n c ps w h hn hk, Lib.hid fun A n c w h hn _ => popI_no lim A n c ps w h hn hk⟩
  · obtain ⟨hq, h0⟩ := heavyP_of hk
    cases ps with
    | nil => simp at h0
    | cons p r => exact ⟨lim, r, p, true, by simp, Lib.hid fun A n c w h hn hc => popS_yes lim A n c p r w h hn hc hq, Lib.hid fun A n c w h hn hc => popI_yes lim A n c p r w h hn hc hq⟩

theorem eg_rd {w w1 : World} {A Ax Aw Dw Ag Dg : Option Addr} {n c base bx cx nw cw mw dw bw bg ng cg mg dg : Nat} {ps xs rs gs rs2 gs2 : List Pkt} {lim lw : Int} {ex : List (Nat × TypeId × Array Value)} (h : EG w [(41, #[.int .i64 lim, (.slice A n c)])] A n ps lim base bx Ax cx xs lw rs gs Aw nw cw Dw mw dw bw bg Ag ng cg Dg mg dg rs2 gs2 ex w1) :
    (w1.cell? ⟨w.heap.size, 0, none⟩ = some (.int .i64 lim) ∧ w1.cell? ⟨w.heap.size, 1, none⟩ = some (.slice A n c) ∧ w1.cell? ⟨bx, 0, none⟩ = some (.int .i64 lim) ∧ w1.cell? ⟨bx, 1, none⟩ = some (.slice Ax n cx)) ∧ EG w [(41, #[.int .i64 lim, (.slice A n c)])] A n ps lim base bx Ax cx xs lw rs gs Aw nw cw Dw mw dw bw bg Ag ng cg Dg mg dg rs2 gs2 ex w1 :=
  ⟨⟨blk_cell (h.fr.it 0 _ _ rfl) 0, blk_cell (h.fr.it 0 _ _ rfl) 1, blk_cell h.x 0, blk_cell h.x 1⟩, h⟩
theorem eg_pk {w w1 : World} {A Ax Aw Dw Ag Dg : Option Addr} {n c base bx cx nw cw mw dw bw bg ng cg mg dg b1 b2 : Nat} {ps xs rs gs rs2 gs2 : List Pkt} {lim lw : Int} {p q : Pkt} (h : EG w [(41, #[.int .i64 lim, (.slice A n c)])] A n ps lim base bx Ax cx xs lw rs gs Aw nw cw Dw mw dw bw bg Ag ng cg Dg mg dg rs2 gs2 [(b1, 51, #[.int .i64 p.peer, .int .i64 p.lane, .int .i64 p.size, .int .i64 p.id]), (b2, 51, #[.int .i64 q.peer, .int .i64 q.lane, .int .i64 q.size, .int .i64 q.id])] w1) :
    (w1.cell? ⟨b1, 0, none⟩ = some (.int .i64 p.peer) ∧ w1.cell? ⟨b1, 1, none⟩ = some (.int .i64 p.lane) ∧ w1.cell? ⟨b1, 2, none⟩ = some (.int .i64 p.size) ∧ w1.cell? ⟨b1, 3, none⟩ = some (.int .i64 p.id)) ∧
    (w1.cell? ⟨b2, 0, none⟩ = some (.int .i64 q.peer) ∧ w1.cell? ⟨b2, 1, none⟩ = some (.int .i64 q.lane) ∧ w1.cell? ⟨b2, 2, none⟩ = some (.int .i64 q.size) ∧ w1.cell? ⟨b2, 3, none⟩ = some (.int .i64 q.id)) := by
  have h1 := (h.ex b1 _ _ (List.mem_cons_self ..)).1
  have h2 := (h.ex b2 _ _ (List.mem_cons_of_mem _ (List.mem_cons_self ..))).1
  exact ⟨⟨blk_cell h1 0, blk_cell h1 1, blk_cell h1 2, blk_cell h1 3⟩, blk_cell h2 0, blk_cell h2 1, blk_cell h2 2, blk_cell h2 3⟩
set_option maxHeartbeats 4000000 in
theorem walk (lim : Int) (A : Option Addr) (n c : Nat) (ps : List Pkt) (w : World) (h : PR w A n ps) (hn : n ≤ 9223372036854775807) :
    Calls Try.prog 9 #[.agg #[.int .i64 lim, (.slice A n c)]] w fun e w' => e = .returned (.bool true) ∧ Below w.heap.size w w' := by
  have F := Lib.hid (fr_one h 41 #[.int .i64 lim, (.slice A n c)])
  by_cases hbig : n ≤ 1048576
  · have hd : 0 ≤ (1048576 : Int) - (n : Int) := by omega
    obtain ⟨L, R, p, ok, hR, HS0, HI0⟩ := pop_both lim ps
    have hps := h.1
    have hR' : R.length ≤ 1048576 := by omega
    have OLD := Lib.hid (pr_old h)
    clear h hR hps
    go_enter Try.func9, Try.ntmps9
    go_wp2_with fail
    refine (szQueue_any lim A n c 1048576 _ hn (by omega)).mono ?_
    rintro e w1 ⟨rfl, hb⟩
    rw [if_neg (by omega)]
    have F1 := Lib.hid (fr_below F.out hb)
    obtain ⟨q0, q1⟩ := fr_cell2 F1.out
    clear hb F
    go_wp2_with fail
    refine (toQueue_any lim A n c ps _ F1.out.pr hbig).mono ?_
    rintro e w2 ⟨A2, c2, rfl, ho, hb⟩
    have X2 := Lib.hid (pr_own ho)
    have hc2 := (own_cap ho).1
    have F2 := Lib.hid (fr_below F1.out hb)
    clear hb ho q0 q1
    obtain ⟨q0, q1⟩ := fr_cell2 F2.out
    go_wp2_with fail
    refine (HS0.out A2 n c2 _ X2.out (by omega) hc2).mono ?_
    rintro e w3 ⟨Aw, nw, cw, rfl, hnw, ho3, hb⟩
    have F3 := Lib.hid (fr_below F2.out hb)
    have O3 := Lib.hid ho3
    have lnw : nw ≤ 1048576 := by omega
    have z3 := F3.out.lt
    simp at z3
    have W3 := Lib.hid (And.intro (blk_alloc (blk_new w3 25 #[.int .i64 L, (.slice Aw nw cw)]) (.cells #[.int .i64 p.peer, .int .i64 p.lane, .int .i64 p.size, .int .i64 p.id] 51)) (blk_new2 w3 (.cells #[.int .i64 L, (.slice Aw nw cw)] 25) 51 #[.int .i64 p.peer, .int .i64 p.lane, .int .i64 p.size, .int .i64 p.id]))
    clear hb q0 q1 ho3 hnw
    have F3b := Lib.hid (fr_alloc (fr_alloc F3.out (.cells #[.int .i64 L, (.slice Aw nw cw)] 25)) (.cells #[.int .i64 p.peer, .int .i64 p.lane, .int .i64 p.size, .int .i64 p.id] 51))
    obtain ⟨q0, q1⟩ := fr_cell2 F3b.out
    go_wp2_with fail
    refine (toQueue_any lim A n c ps _ F3b.out.pr hbig).mono ?_
    rintro e w4 ⟨A4, c4, rfl, ho4, hb⟩
    have F4 := Lib.hid (fr_alloc (fr_below F3b.out hb) (.cells #[.int .i64 lim, (.slice A4 n c4)] 25))
    have W4 := Lib.hid (And.intro (blk_alloc (blk_below W3.out.1 hb (blk_lt W3.out.1)) (.cells #[.int .i64 lim, (.slice A4 n c4)] 25)) (blk_alloc (blk_below W3.out.2 hb (blk_lt W3.out.2)) (.cells #[.int .i64 lim, (.slice A4 n c4)] 25)))
    have P4 := Lib.hid (pr_alloc (pr_below (pr_alloc (pr_alloc (pr_own O3.out) _) _) hb) (.cells #[.int .i64 lim, (.slice A4 n c4)] 25))
    have z4 := hb.size
    simp at z4
    have O4 := Lib.hid (show w4.ownsRow (w3.heap.size + 1 + 1) 51 4 (.slice A4 n c4) n (pcells ps) from own_mono ho4 (by simp))
    have X4 := Lib.hid (blk_new w4 25 #[.int .i64 lim, (.slice A4 n c4)])
    have hc4 := (own_cap ho4).1
    clear hb ho4 q0 q1
    go_wp2_with fail
    refine (HI0.out A4 n c4 _ (pr_own (O4.out.alloc _)) (by omega) hc4).mono ?_
    rintro e w5 ⟨Ag, ng, cg, rfl, hng, ho5, hb⟩
    have z5 := hb.size
    simp at z5
    have lng : ng ≤ 1048576 := by omega
    have y3 : w3.heap.size < w5.heap.size := by omega
    have y3b : w3.heap.size + 1 < w5.heap.size := by omega
    have y4 : w4.heap.size < w5.heap.size := by omega
    have HX5 : Hid (EG w [(41, #[.int .i64 lim, (.slice A n c)])] A n ps lim (w3.heap.size + 1 + 1) w4.heap.size A4 c4 ps L R [] Aw nw cw none 0 0 w3.heap.size w5.heap.size Ag ng cg none 0 0 R [] [(w3.heap.size + 1, 51, #[.int .i64 p.peer, .int .i64 p.lane, .int .i64 p.size, .int .i64 p.id]), (w5.heap.size + 1, 51, #[.int .i64 p.peer, .int .i64 p.lane, .int .i64 p.size, .int .i64 p.id])] ((w5.alloc (.cells #[.int .i64 L, (.slice Ag ng cg)] 25)).alloc (.cells #[.int .i64 p.peer, .int .i64 p.lane, .int .i64 p.size, .int .i64 p.id] 51))) := Lib.hid
      ⟨fr_alloc (fr_alloc (fr_below F4.out hb) _) _, blk_alloc (blk_alloc (blk_below X4.out hb (blk_lt X4.out)) _) _, ((own_below (O4.out.alloc _) hb).alloc _).alloc _, blk_alloc (blk_alloc (blk_below W4.out.1 hb (blk_lt W4.out.1)) _) _, pr_alloc (pr_alloc (pr_below P4.out hb) _) _, pr_nil _ _, blk_alloc (blk_new w5 _ _) _,
        ((own_mono ho5 (by simp)).alloc _).alloc _, World.ownsRow_nil _ _ _ _, fun b t cs e => (by
          simp only [List.mem_cons, Prod.mk.injEq, List.not_mem_nil, or_false] at e
          rcases e with ⟨rfl, rfl, rfl⟩ | ⟨rfl, rfl, rfl⟩
          · exact ⟨blk_alloc (blk_alloc (blk_below W4.out.2 hb (blk_lt W4.out.2)) _) _, .inl (by omega)⟩
          · exact ⟨blk_new2 _ _ _ _, .inr (by omega)⟩),
        (by simp; omega), (by omega), (by omega), (by omega), OLD.out, fun hn b e => (by have := pr_old (pr_own O3.out) hn b e; omega), fun hn b e => (by cases e),
        fun b e => (O4.out.lt b e).2, fun b e => (ho5.lt b e).2, fun b e => (by cases e), fun b e e2 => (by cases e2)⟩
    clear F1 F2 F3 F3b F4 X2 O3 W3 W4 P4 O4 X4 hb ho5 hng z3 z4 z5 OLD
    obtain ⟨⟨x0, x1⟩, ⟨u0, u1⟩, g0, g1⟩ := eg_cells HX5.out
    go_wp2_with fail
    refine (eqQueue_same L Ag Aw ng cg nw cw R _ (pr_own HX5.out.go) HX5.out.wp (by omega) (by omega)).mono ?_
    rintro e w8 ⟨rfl, hb⟩
    have HX8 := Lib.hid (eg_below HX5.out hb)
    clear hb x0 x1 u0 u1 g0 g1 HX5
    obtain ⟨⟨m0, m1, m2, m3⟩, o0, o1, o2, o3⟩ := eg_pk HX8.out
    go_wp2_with fail
    refine (eqPacket_any p p _).mono ?_
    rintro e w9 ⟨rfl, hb⟩
    rw [← pktB_yes rfl]
    have HX9 := Lib.hid (eg_below HX8.out hb)
    clear hb HX8 m0 m1 m2 m3 o0 o1 o2 o3
    have hS := eg_rd (eg_drew HX9.out)
    go_wp2_with fail
    go_region_held3 (fun w' => (w'.cell? ⟨w.heap.size, 0, none⟩ = some (.int .i64 lim) ∧ w'.cell? ⟨w.heap.size, 1, none⟩ = some (.slice A n c) ∧ w'.cell? ⟨w4.heap.size, 0, none⟩ = some (.int .i64 lim) ∧ w'.cell? ⟨w4.heap.size, 1, none⟩ = some (.slice A4 n c4)) ∧ EG w [(41, #[.int .i64 lim, (.slice A n c)])] A n ps lim (w3.heap.size + 1 + 1) w4.heap.size A4 c4 ps L R [] Aw nw cw none 0 0 w3.heap.size w5.heap.size Ag ng cg none 0 0 R [] [(w3.heap.size + 1, 51, #[.int .i64 p.peer, .int .i64 p.lane, .int .i64 p.size, .int .i64 p.id]), (w5.heap.size + 1, 51, #[.int .i64 p.peer, .int .i64 p.lane, .int .i64 p.size, .int .i64 p.id])] w')
      (first
        | (with_reducible assumption)
        | fail)
      (first
        | (go_at_call 30
           refine (eqQueue_same lim A4 A6 n c4 n c6 ps _ (pr_own HX6.out.xo) PX6.out (by omega) (by omega)).mono ?_
           rintro e w7 ⟨rfl, hb7⟩
           have HX7 := Lib.hid (eg_below HX6.out hb7)
           have hS7 := eg_rd HX7.out
           clear hb7)
        | (go_at_call 28
           refine (toQueue_any lim A n c ps _ (eg_drew HX9.out).fr.pr hbig).mono ?_
           rintro e w6 ⟨A6, c6, rfl, ho6, hb6⟩
           have PX6 := Lib.hid (pr_own ho6)
           have HX6 := Lib.hid (eg_below (eg_drew HX9.out) hb6)
           have hS6 := eg_rd HX6.out
           clear hb6 ho6))
    all_goals
      clear PX6 HX6 HX9 hS
      obtain ⟨⟨x0, x1⟩, ⟨u0, u1⟩, g0, g1⟩ := eg_cells HX7.out
      go_wp2_with fail
      refine (markQueue_any lim _ A4 n c4 1 ps _ HX7.out.xo (by omega) (by omega)).mono ?_
      rintro e w10 ⟨rfl, ho, hg⟩
      have HX10 := Lib.hid (eg_markx HX7.out hg ho)
      clear ho hg x0 x1 u0 u1 g0 g1 HX7
      obtain ⟨⟨x0, x1⟩, ⟨u0, u1⟩, g0, g1⟩ := eg_cells HX10.out
      go_wp2_with fail
      refine (eqQueue_same L Ag Aw ng cg nw cw R _ (pr_own HX10.out.go) HX10.out.wp (by omega) (by omega)).mono ?_
      rintro e w11 ⟨rfl, hb⟩
      have HX11 := Lib.hid (eg_below HX10.out hb)
      clear hb x0 x1 u0 u1 g0 g1 HX10
      obtain ⟨⟨m0, m1, m2, m3⟩, o0, o1, o2, o3⟩ := eg_pk HX11.out
      go_wp2_with fail
      refine (eqPacket_any p p _).mono ?_
      rintro e w12 ⟨rfl, hb⟩
      rw [← pktB_yes rfl]
      have HX12 := Lib.hid (eg_below HX11.out hb)
      clear hb HX11 m0 m1 m2 m3 o0 o1 o2 o3
      obtain ⟨⟨x0, x1⟩, ⟨u0, u1⟩, g0, g1⟩ := eg_cells HX12.out
      go_wp2_with fail
      refine (markQueue_any L _ Ag ng cg 1 R _ HX12.out.go (by omega) (by omega)).mono ?_
      rintro e w13 ⟨rfl, ho, hg⟩
      have HX14 := Lib.hid (eg_markg HX12.out hg ho)
      clear ho hg x0 x1 u0 u1 g0 g1 HX12
      obtain ⟨⟨x0, x1⟩, ⟨u0, u1⟩, g0, g1⟩ := eg_cells HX14.out
      have k0 : (0 : Int) ≤ 1 + 4 * (ng : Int) := by omega
      go_wp2_with fail
      refine (heldQueue_any L Ag ng cg 1 _ (pr_own HX14.out.go) (by omega) (by omega)).mono ?_
      rintro e w15 ⟨rfl, hb⟩
      have HX15 := Lib.hid (eg_below HX14.out hb)
      clear hb x0 x1 u0 u1 g0 g1 HX14
      obtain ⟨q0, q1⟩ := fr_cell2 HX15.out.fr
      go_wp2_with fail
      refine (toQueue_any lim A n c ps _ HX15.out.fr.pr hbig).mono ?_
      rintro e w17 ⟨A17, c17, rfl, ho, hb⟩
      have P17 := Lib.hid (pr_own ho)
      have hc17 := (own_cap ho).1
      have HX17 := Lib.hid (eg_below HX15.out hb)
      clear hb ho q0 q1 HX15
      go_wp2_with fail
      refine (HI0.out A17 n c17 _ P17.out (by omega) hc17).mono ?_
      rintro e w18 ⟨Ah, nh, ch, rfl, hnh, ho, hb⟩
      have PH := Lib.hid (pr_alloc (pr_alloc (pr_own ho) (.cells #[.int .i64 L, (.slice Ah nh ch)] 25)) (.cells #[.int .i64 p.peer, .int .i64 p.lane, .int .i64 p.size, .int .i64 p.id] 51))
      have BH := Lib.hid (blk_new2 w18 (.cells #[.int .i64 L, (.slice Ah nh ch)] 25) 51 #[.int .i64 p.peer, .int .i64 p.lane, .int .i64 p.size, .int .i64 p.id])
      have HX18 := Lib.hid (eg_below (eg_below (eg_below HX17.out hb) (below_alloc (Below.refl _ _) (.cells #[.int .i64 L, (.slice Ah nh ch)] 25))) (below_alloc (Below.refl _ _) (.cells #[.int .i64 p.peer, .int .i64 p.lane, .int .i64 p.size, .int .i64 p.id] 51)))
      have lnh : nh ≤ 1048576 := by omega
      have y18 : w3.heap.size < w18.heap.size := by have := eg_ws (eg_below HX17.out hb); omega
      clear hb ho hnh HX17 P17
      obtain ⟨⟨x0, x1⟩, ⟨u0, u1⟩, g0, g1⟩ := eg_cells HX18.out
      go_wp2_with fail
      refine (eqQueue_same L Ah Aw nh ch nw cw R _ PH.out HX18.out.wp (by omega) (by omega)).mono ?_
      rintro e w19 ⟨rfl, hb⟩
      have HX19 := Lib.hid (eg_below HX18.out hb)
      obtain ⟨r0, r1, r2, r3⟩ : w19.cell? ⟨w18.heap.size + 1, 0, none⟩ = some (.int .i64 p.peer) ∧ w19.cell? ⟨w18.heap.size + 1, 1, none⟩ = some (.int .i64 p.lane) ∧ w19.cell? ⟨w18.heap.size + 1, 2, none⟩ = some (.int .i64 p.size) ∧ w19.cell? ⟨w18.heap.size + 1, 3, none⟩ = some (.int .i64 p.id) := by
        have o := blk_below BH.out hb (blk_lt BH.out)
        exact ⟨blk_cell o 0, blk_cell o 1, blk_cell o 2, blk_cell o 3⟩
      clear hb x0 x1 u0 u1 g0 g1 HX18 PH BH
      obtain ⟨⟨m0, m1, m2, m3⟩, o0, o1, o2, o3⟩ := eg_pk HX19.out
      go_wp2_with fail
      refine (eqPacket_any p p _).mono ?_
      rintro e w20 ⟨rfl, hb⟩
      rw [← pktB_yes rfl]
      have HX20 := Lib.hid (eg_below HX19.out hb)
      clear hb HX19 m0 m1 m2 m3 o0 o1 o2 o3 r0 r1 r2 r3
      obtain ⟨⟨x0, x1⟩, ⟨u0, u1⟩, g0, g1⟩ := eg_cells HX20.out
      go_wp2_with fail
      refine (heldQueue_any L Ag ng cg 1 _ (pr_own HX20.out.go) (by omega) (by omega)).mono ?_
      rintro e w21 ⟨rfl, hb⟩
      have HX21 := Lib.hid (eg_below HX20.out hb)
      clear hb x0 x1 u0 u1 g0 g1 HX20
      go_wp2
      go_ret
      exact ⟨rfl, HX21.out.fr.below⟩
  · clear h
    go_enter Try.func9, Try.ntmps9
    go_wp2_with fail
    refine (szQueue_any lim A n c 1048576 _ hn (by omega)).mono ?_
    rintro e w1 ⟨rfl, hb⟩
    rw [if_pos (by omega)]
    have F1 := Lib.hid (fr_below F.out hb)
    clear hb F
    go_wp2
    go_ret
    exact ⟨rfl, F1.out.below⟩
theorem own : ownKnob Try.prog.godebug = none := by kernel_rfl
theorem laidOut : laidOutB Try.prog = true := by kernel_rfl
set_option maxRecDepth 100000 in
theorem lifted (os : Os) (started : os.Started) (H : Type) (enc : TypeId × Value → H) :
    ReturnsInHanded {} Try.checked os 9 .any (Rows.fnExactPopFrontSpec.pre6 enc Try.prog Try.f9 Rows.fnExactPopFrontRow.domain false) (Rows.fnExactPopFrontSpec.post enc Try.prog Try.f9 false true false false) := by
  refine returnsInHanded_of_change (C := Try.checked) own started (by kernel_rfl) Try.func9
    (ChangeSpec.witness6 (enc := enc) (C := Try.checked) false ⟨#[], #[.agg #[.int .i64 0, .slice none 0 0]], []⟩ 8 (by kernel_rfl) (by kernel_rfl) (by kernel_rfl) (by kernel_rfl)) ?_
  intro W base args ds gs before hval0 hW _ _
  have hval : ∀ (j : Nat) t v, Try.f9.params[j]? = some t → args[j]? = some v → Value.okWide Try.prog W .any base t v := hval0
  have hW' := hW
  obtain ⟨p, q, hA0, hV, rfl, _, _⟩ := hW
  have hA : DataW.TrodAll enc Try.prog W 0 (fun _ => true) true Try.f9.params.toList args.toList ds p := hA0
  rw [Try.params9] at hA hval
  obtain ⟨v0, vs0, d0, ds0, p0, q0, hargs, rfl, rfl, h0, r0⟩ := trodAll_cons hA
  obtain ⟨rfl, rfl, rfl⟩ := trodAll_nil r0
  obtain rfl : args = #[v0] := by cases args; simp_all
  obtain ⟨rfl, rfl⟩ := trodVars_none hV
  have lt0 : ∀ x ∈ p0, x.block < W.heap.size := by obtain ⟨m, hm⟩ := h0; exact DataW.trod_lt m _ _ _ hm
  have ok0 := (hval 0 41 v0 rfl rfl)
  obtain ⟨p0a, p0b, y0a, y0b, nf0, rfl, _, _, t0a, t0b⟩ := Go.Joins.open_agg2 Try.underlying41 (by kernel_rfl) (by kernel_rfl) ok0 h0
  obtain ⟨x0a, e0a, _, _⟩ := DataW.trod_int Try.underlying3 t0a
  obtain rfl : p0a = .int .i64 x0a := by simpa using e0a
  obtain ⟨a0, n0, c0, x0, rfl, w0, m0⟩ := pkts_open1 t0b
  clear hA0 hval0
  refine (walk x0a a0 n0 c0 x0 W w0 m0).mono fun e W' ⟨he, bel⟩ => ?_
  subst he
  exact ⟨_, rfl, _, _, _, [], _, [], hW', trodAll_mk1 (shut_bool Try.underlying4 _), (trodAll_cons_mk (Below.trod laidOut (by kernel_rfl) (of_decide_eq_true (by kernel_rfl)) h0 bel lt0) trodAll_mk0), rfl, bel.frame _, fun h => by cases h⟩
theorem over : Rows.fnExactPopFrontRow.holds Try.pinned (OpenSpec.ofChange Rows.fnExactPopFrontSpec) :=
  OpenClaim.holds_of_wide 9 Try.f9 rfl rfl rfl rfl rfl rfl rfl ⟨rfl, rfl, rfl, rfl, rfl⟩ rfl rfl rfl rfl rfl (by kernel_rfl) Try.func9 (by kernel_rfl)
    (of_decide_eq_true (by kernel_rfl)) (by unfold Func.isWrapper; first | (rw [if_pos (by decide +kernel)]; kernel_rfl) | (rw [if_neg (by decide +kernel)]; exact ⟨rfl, rfl⟩))
    (fun os started H enc _ => lifted os started H enc)
/-- the given statement -/
theorem proved : Rows.FnExactPopFrontSaid := over
end Go.Proofs.Ytapoahoknlaeaab.fnExactPopFront
