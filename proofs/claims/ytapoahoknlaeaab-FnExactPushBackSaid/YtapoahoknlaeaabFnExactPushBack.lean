/-
  The law FnExactPushBack returns true at every argument: the program's PushBack answers as the model's, writes into no argument, and its answer owns its memory. Conditions: none.
-/
import Derived.Test.YtapoahoknlaeaabQEz
namespace Go.Proofs.Ytapoahoknlaeaab.fnExactPushBack
open Go.ChangeShapes Go.WideShapes Go.ChangeAt Go.RowKit

set_option maxHeartbeats 8000000 in
theorem walk (lim : Int) (A : Option Addr) (n c : Nat) (ps : List Pkt) (p : Pkt) (w : World) (h : PR w A n ps) (hn : n ≤ 9223372036854775807) :
    Calls Try.prog 8 #[.agg #[.int .i64 lim, (.slice A n c)], .agg #[.int .i64 p.peer, .int .i64 p.lane, .int .i64 p.size, .int .i64 p.id]] w fun e w' => e = .returned (.bool true) ∧ Below w.heap.size w w' := by
  have F : Hid (FB w lim A n c ps p ((w.alloc (.cells #[.int .i64 lim, (.slice A n c)] 41)).alloc (.cells #[.int .i64 p.peer, .int .i64 p.lane, .int .i64 p.size, .int .i64 p.id] 48))) := Lib.hid (fr_two h _ _ _ _)
  by_cases hbig : n ≤ 1048576
  · have hd : 0 ≤ (1048576 : Int) - (n : Int) := by omega
    obtain ⟨L, R, iv, ok, hR, HS0, HI0⟩ := push_both lim ps p
    have hR' : R.length ≤ 1048577 := by have := h.1; omega
    have OLD := Lib.hid (pr_old h)
    clear h hR
    go_enter Try.func8, Try.ntmps8
    go_wp2_with fail
    refine (szQueue_any lim A n c 1048576 _ hn (by omega)).mono ?_
    rintro e w1 ⟨rfl, hb⟩
    rw [if_neg (by omega)]
    have F1 := Lib.hid (fb_below F.out hb)
    clear hb F
    go_upto_region 5 with fail
    go_cut [6, 7, 8] from 24 to 32 (fun s6 s7 s8 wx => WRel w lim A n c ps p L R s6 wx ∧ s7 = .bool iv ∧ s8 = .bool ok)
    case first =>
      have hS := fb_cells (fb_drew F1.out)
      have z1 := fb_lt F1.out
      go_region_held3 (fun w' => (w'.cell? ⟨w.heap.size, 0, none⟩ = some (.int .i64 lim) ∧ w'.cell? ⟨w.heap.size, 1, none⟩ = some (.slice A n c) ∧ w'.cell? ⟨w.heap.size + 1, 0, none⟩ = some (.int .i64 p.peer) ∧ w'.cell? ⟨w.heap.size + 1, 1, none⟩ = some (.int .i64 p.lane) ∧ w'.cell? ⟨w.heap.size + 1, 2, none⟩ = some (.int .i64 p.size) ∧ w'.cell? ⟨w.heap.size + 1, 3, none⟩ = some (.int .i64 p.id)) ∧ FB w lim A n c ps p w')
        (first
          | (with_reducible assumption)
          | (with_reducible exact fb_cells (fb_drew (fb_alloc F1.out _)))
          | (with_reducible exact fb_cells (fb_alloc F6.out _))
          | (with_reducible exact fb_cells (fb_alloc F7.out _))
          | (with_reducible exact fb_cells (fb_alloc F8.out _))
          | (refine fb_cells ?_; with_reducible refine fb_set ?_ ?_ _; with_reducible refine fb_set ?_ ?_ _; with_reducible exact F8.out; all_goals (simp <;> omega))
          | fail)
        (first
          | (go_at_call 32
             refine (HS0.out X6 n e6 _ (by first | exact PX7.out | exact pr_alloc PX7.out _) (by omega)).mono ?_
             rintro e w8 ⟨Aw, nw, cw, rfl, hnw, ho8, hb8⟩
             have R8 := Lib.hid hb8
             have O8 := Lib.hid ho8
             have N8 := Lib.hid hnw
             have F8 := Lib.hid (fb_below (fbO (by with_reducible assumption)) hb8)
             have hS8 := fb_cells F8.out
             have z8 := hb8.size
             try simp at z8
             first | (have o0 := (show Blk (w1.alloc (.cells #[.int .i64 0, (.slice none 0 0)] 25)).drew w1.heap.size 25 #[.int .i64 0, (.slice none 0 0)] from blk_new w1 _ _); have o1 := blk_below o0 R6.out (blk_lt o0); have o2 := blk_below o1 R7.out (blk_lt o1); have o3 := blk_below o2 hb8 (blk_lt o2); obtain ⟨nn0, nn1, nf0, nf1⟩ := blk_two o3; have nB := Lib.hid o3; clear o0 o1 o2 o3) | (have o0 := blk_new w6 25 #[.int .i64 0, (.slice none 0 0)]; have o1 := blk_below o0 R7.out (blk_lt o0); have o2 := blk_below o1 hb8 (blk_lt o1); obtain ⟨nn0, nn1, nf0, nf1⟩ := blk_two o2; have nB := Lib.hid o2; clear o0 o1 o2) | (have o0 := blk_new w7 25 #[.int .i64 0, (.slice none 0 0)]; have o1 := blk_below o0 hb8 (blk_lt o0); obtain ⟨nn0, nn1, nf0, nf1⟩ := blk_two o1; have nB := Lib.hid o1; clear o0 o1) | skip
             clear hb8 ho8 hnw)
          | (go_at_call 33
             refine (toPacket_any p _).mono ?_
             rintro e w7 ⟨rfl, hb7⟩
             have R7 := Lib.hid hb7
             have PX7 := Lib.hid (show PR w7 X6 n ps from (by first | exact pr_below PX6.out hb7 | exact pr_below (pr_alloc PX6.out _) hb7))
             have F7 := Lib.hid (fb_below (fbO (by with_reducible assumption)) hb7)
             have hS7 := fb_cells F7.out
             have z7 := hb7.size
             try simp at z7
             clear hb7)
          | (go_at_call 28
             refine (toQueue_any lim A n c ps _ (Fr.pr (fbO (by with_reducible assumption))) hbig).mono ?_
             rintro e w6 ⟨X6, e6, rfl, ho6, hb6⟩
             have R6 := Lib.hid hb6
             have PX6 := Lib.hid (pr_own ho6)
             have F6 := Lib.hid (fb_below (fbO (by with_reducible assumption)) hb6)
             have hS6 := fb_cells F6.out
             have z6 := hb6.size
             try simp at z6
             clear hb6 ho6))
      all_goals
        go_wp2_with fail
        go_meet
        refine ⟨?_, rfl, rfl⟩
        first
          | exact wrel_new F8.out O8.out N8.out
          | exact wrel_set F8.out nB.out O8.out (by first | omega | (simp; omega) | simp) (by omega) N8.out
    case rest =>
    obtain ⟨⟨bw, Aw, nw, cw, rfl, f8, b8, p8, hnw, hbw⟩, rfl, rfl⟩ := hcut
    have F8 := Lib.hid f8
    have W8 := Lib.hid b8
    have P8 := Lib.hid p8
    have lnw : nw ≤ 1048577 := by omega
    have zc := blk_lt b8
    have z8 := fb_lt f8
    clear f8 b8 p8 hnw F1
    obtain ⟨⟨q0, q1, q2, q3, q4, q5⟩, -⟩ := fb_cells F8.out
    go_wp2_with fail
    refine (toQueue_any lim A n c ps _ (Fr.pr F8.out) hbig).mono ?_
    rintro e w4 ⟨A4, c4, rfl, ho4, hb⟩
    have z4 := hb.size
    have zw : w4.heap.size < (w4.alloc (.cells #[.int .i64 lim, (.slice A4 n c4)] 25)).heap.size := by simp
    have HE : Hid (EI w [(41, #[.int .i64 lim, (.slice A n c)]), (48, #[.int .i64 p.peer, .int .i64 p.lane, .int .i64 p.size, .int .i64 p.id])] A n ps lim wc.heap.size w4.heap.size A4 c4 ps L R Aw nw cw bw (w4.alloc (.cells #[.int .i64 lim, (.slice A4 n c4)] 25))) := Lib.hid
      ⟨fb_alloc (fb_below F8.out hb) _, blk_new w4 _ _, ho4.alloc _, blk_alloc (blk_below W8.out hb (blk_lt W8.out)) _, pr_alloc (pr_below P8.out hb) _, (by simpa using hbw), zc, z4, pr_old P8.out, fun b e => (ho4.lt b e).2⟩
    clear hb ho4 q0 q1 q2 q3 q4 q5 F8 W8 P8
    go_upto_region 7 with fail
    obtain ⟨bx, hbx⟩ : ∃ bx, bx = w4.heap.size := ⟨_, rfl⟩
    rw [← hbx] at HE zw ⊢
    obtain ⟨base, hbase⟩ : ∃ base, base = wc.heap.size := ⟨_, rfl⟩
    rw [← hbase] at HE
    generalize w4.alloc (.cells #[.int .i64 lim, (.slice A4 n c4)] 25) = W at HE zw ⊢
    clear hbx z4 hbase
    go_cut [10, 11, 12] from 35 to 42 (fun s10 s11 s12 wx => GRel w lim A n c ps p base bx A4 c4 L R Aw nw cw bw s10 wx ∧ s11 = .bool iv ∧ s12 = .bool ok)
    case first =>
      have hS := ei_cells HE.out (Below.drew (Below.refl _ _))
      have hxb := HE.out.hx
      go_region_held3 (fun w' => ((w'.cell? ⟨bx, 0, none⟩ = some (.int .i64 lim) ∧ w'.cell? ⟨bx, 1, none⟩ = some (.slice A4 n c4)) ∧ (w'.cell? ⟨w.heap.size + 1, 0, none⟩ = some (.int .i64 p.peer) ∧ w'.cell? ⟨w.heap.size + 1, 1, none⟩ = some (.int .i64 p.lane) ∧ w'.cell? ⟨w.heap.size + 1, 2, none⟩ = some (.int .i64 p.size) ∧ w'.cell? ⟨w.heap.size + 1, 3, none⟩ = some (.int .i64 p.id))) ∧ Below W.heap.size W w')
        (first
          | (with_reducible assumption)
          | (with_reducible exact ei_cells HE.out (Below.drew (below_alloc (Below.refl _ _) _)))
          | (with_reducible exact ei_cells HE.out (below_alloc B7.out _))
          | (with_reducible exact ei_cells HE.out (below_alloc B8.out _))
          | (refine ei_cells HE.out ?_; with_reducible refine Below.setCell ?_ ?_ _; with_reducible refine Below.setCell ?_ ?_ _; with_reducible exact B8.out; all_goals (simp <;> omega))
          | fail)
        (first
          | (go_at_call 34
             refine (HI0.out A4 n c4 _ (pr_own (EI.xo (ei_below HE.out (snd_of (by with_reducible assumption))))) (by omega)).mono ?_
             rintro e w8 ⟨Ag, ng, cg, rfl, hng, ho8, hb8⟩
             have B8 := Lib.hid (below_seq (snd_of (by with_reducible assumption)) hb8)
             have O8 := Lib.hid ho8
             have N8 := Lib.hid hng
             have hS8 := ei_cells HE.out B8.out
             have z8 := hb8.size
             try simp at z8
             first | (have o0 := (show Blk (W.alloc (.cells #[.int .i64 0, (.slice none 0 0)] 25)).drew W.heap.size 25 #[.int .i64 0, (.slice none 0 0)] from blk_new W _ _); have o1 := blk_below o0 R7.out (blk_lt o0); have o2 := blk_below o1 hb8 (blk_lt o1); obtain ⟨nn0, nn1, nf0, nf1⟩ := blk_two o2; have nB := Lib.hid o2; clear o0 o1 o2) | (have o0 := blk_new w7 25 #[.int .i64 0, (.slice none 0 0)]; have o1 := blk_below o0 hb8 (blk_lt o0); obtain ⟨nn0, nn1, nf0, nf1⟩ := blk_two o1; have nB := Lib.hid o1; clear o0 o1) | skip
             clear hb8 ho8 hng)
          | (go_at_call 33
             refine (toPacket_any p _).mono ?_
             rintro e w7 ⟨rfl, hb7⟩
             have R7 := Lib.hid hb7
             have B7 := Lib.hid (below_seq (snd_of (by with_reducible assumption)) hb7)
             have hS7 := ei_cells HE.out B7.out
             have z7 := hb7.size
             try simp at z7
             clear hb7))
      all_goals
        go_wp2_with fail
        go_meet
        refine ⟨?_, rfl, rfl⟩
        first
          | exact grel_new (ei_below HE.out B8.out) O8.out (by first | omega | (simp; omega) | simp) N8.out
          | exact grel_set (ei_below HE.out B8.out) nB.out O8.out (by first | omega | (simp; omega) | simp) (by omega) N8.out
    case rest =>
    obtain ⟨⟨bg, Ag, ng, cg, rfl, hng, h5⟩, rfl, rfl⟩ := hcut
    have HX5 := Lib.hid h5
    have lng : ng ≤ 1048577 := by omega
    clear h5 hng HE zw
    obtain ⟨⟨x0, x1⟩, ⟨u0, u1⟩, g0, g1⟩ := eh_cells HX5.out
    go_wp2_with fail
    refine (eqQueue_same L Ag Aw ng cg nw cw R _ (pr_own HX5.out.go) HX5.out.wp (by omega) (by omega)).mono ?_
    rintro e w8 ⟨rfl, hb⟩
    have HX8 := Lib.hid (eh_below HX5.out hb)
    clear hb x0 x1 u0 u1 g0 g1 HX5
    have hS := eh_xq HX8.out (Below.drew (Below.refl _ _))
    go_wp2_with fail
    go_region_held3 (fun w' => ((w'.cell? ⟨w.heap.size, 0, none⟩ = some (.int .i64 lim) ∧ w'.cell? ⟨w.heap.size, 1, none⟩ = some (.slice A n c)) ∧ (w'.cell? ⟨bx, 0, none⟩ = some (.int .i64 lim) ∧ w'.cell? ⟨bx, 1, none⟩ = some (.slice A4 n c4))) ∧ Below w8.heap.size w8 w')
      (first
        | (with_reducible assumption)
        | fail)
      (first
        | (go_at_call 30
           refine (eqQueue_same lim A4 A6 n c4 n c6 ps _ (pr_own (EH.xo (eh_below HX8.out B6.out))) PX6.out (by omega) (by omega)).mono ?_
           rintro e w7 ⟨rfl, hb7⟩
           have B7 := Lib.hid (below_seq B6.out hb7)
           have hS7 := eh_xq HX8.out B7.out
           clear hb7)
        | (go_at_call 28
           refine (toQueue_any lim A n c ps _ (EH.fr (eh_drew HX8.out)).pr hbig).mono ?_
           rintro e w6 ⟨A6, c6, rfl, ho6, hb6⟩
           have PX6 := Lib.hid (pr_own ho6)
           have B6 := Lib.hid (below_seq (Below.drew (Below.refl w8.heap.size w8)) hb6)
           have hS6 := eh_xq HX8.out B6.out
           clear hb6 ho6))
    all_goals
      have HX7 := Lib.hid (eh_below HX8.out B7.out)
      clear PX6 B6 B7 HX8 hS hS6 hS7
      obtain ⟨⟨x0, x1⟩, ⟨u0, u1⟩, g0, g1⟩ := eh_cells HX7.out
      go_wp2_with fail
      refine (markQueue_any lim _ A4 n c4 1 ps _ HX7.out.xo (by omega) (by omega)).mono ?_
      rintro e w10 ⟨rfl, ho, hg⟩
      have HX10 := Lib.hid (eh_markx HX7.out hg ho)
      clear ho hg x0 x1 u0 u1 g0 g1 HX7
      obtain ⟨⟨x0, x1⟩, ⟨u0, u1⟩, g0, g1⟩ := eh_cells HX10.out
      go_wp2_with fail
      refine (eqQueue_same L Ag Aw ng cg nw cw R _ (pr_own HX10.out.go) HX10.out.wp (by omega) (by omega)).mono ?_
      rintro e w11 ⟨rfl, hb⟩
      have HX12 := Lib.hid (eh_below HX10.out hb)
      clear hb x0 x1 u0 u1 g0 g1 HX10
      obtain ⟨⟨x0, x1⟩, ⟨u0, u1⟩, g0, g1⟩ := eh_cells HX12.out
      go_wp2_with fail
      refine (markQueue_any L _ Ag ng cg 1 R _ HX12.out.go (by omega) (by omega)).mono ?_
      rintro e w13 ⟨rfl, ho, hg⟩
      have HX14 := Lib.hid (eh_markg HX12.out hg ho)
      clear ho hg x0 x1 u0 u1 g0 g1 HX12
      obtain ⟨⟨x0, x1⟩, ⟨u0, u1⟩, g0, g1⟩ := eh_cells HX14.out
      have k0 : (0 : Int) ≤ 1 + 4 * (ng : Int) := by omega
      go_wp2_with fail
      refine (heldQueue_any L Ag ng cg 1 _ (pr_own HX14.out.go) (by omega) (by omega)).mono ?_
      rintro e w15 ⟨rfl, hb⟩
      have HX15 := Lib.hid (eh_below HX14.out hb)
      clear hb x0 x1 u0 u1 g0 g1 HX14
      go_upto_region 24 with fail
      go_cut [16, 17, 18] from 94 to 102 (fun s16 s17 s18 wx => HRel w15 L R s16 wx ∧ s17 = .bool iv ∧ s18 = .bool ok)
      case first =>
        have hS := eh_box HX15.out (Below.drew (Below.refl _ _))
        go_region_held3 (fun w' => ((w'.cell? ⟨w.heap.size, 0, none⟩ = some (.int .i64 lim) ∧ w'.cell? ⟨w.heap.size, 1, none⟩ = some (.slice A n c)) ∧ (w'.cell? ⟨w.heap.size + 1, 0, none⟩ = some (.int .i64 p.peer) ∧ w'.cell? ⟨w.heap.size + 1, 1, none⟩ = some (.int .i64 p.lane) ∧ w'.cell? ⟨w.heap.size + 1, 2, none⟩ = some (.int .i64 p.size) ∧ w'.cell? ⟨w.heap.size + 1, 3, none⟩ = some (.int .i64 p.id))) ∧ Below w15.heap.size w15 w')
          (first
            | (with_reducible assumption)
            | (with_reducible exact eh_box HX15.out (Below.drew (below_alloc (Below.refl _ _) _)))
            | (with_reducible exact eh_box HX15.out (below_alloc B26.out _))
            | (with_reducible exact eh_box HX15.out (below_alloc B27.out _))
            | (with_reducible exact eh_box HX15.out (below_alloc B28.out _))
            | (refine eh_box HX15.out ?_; with_reducible refine Below.setCell ?_ ?_ _; with_reducible refine Below.setCell ?_ ?_ _; with_reducible exact B28.out; all_goals (simp <;> omega))
            | fail)
          (first
            | (go_at_call 34
               refine (HI0.out X26 n e26 _ (by first | exact PX27.out | exact pr_alloc PX27.out _) (by omega)).mono ?_
               rintro e w28 ⟨Ah, nh, ch, rfl, hnh, ho28, hb28⟩
               have B28 := Lib.hid (below_seq (snd_of (by with_reducible assumption)) hb28)
               have O28 := Lib.hid ho28
               have N28 := Lib.hid hnh
               have hS28 := eh_box HX15.out B28.out
               have z28 := hb28.size
               try simp at z28
               first | (have o0 := (show Blk (w15.alloc (.cells #[.int .i64 0, (.slice none 0 0)] 25)).drew w15.heap.size 25 #[.int .i64 0, (.slice none 0 0)] from blk_new w15 _ _); have o1 := blk_below o0 R26.out (blk_lt o0); have o2 := blk_below o1 R27.out (blk_lt o1); have o3 := blk_below o2 hb28 (blk_lt o2); obtain ⟨nn0, nn1, nf0, nf1⟩ := blk_two o3; have nB := Lib.hid o3; clear o0 o1 o2 o3) | (have o0 := blk_new w26 25 #[.int .i64 0, (.slice none 0 0)]; have o1 := blk_below o0 R27.out (blk_lt o0); have o2 := blk_below o1 hb28 (blk_lt o1); obtain ⟨nn0, nn1, nf0, nf1⟩ := blk_two o2; have nB := Lib.hid o2; clear o0 o1 o2) | (have o0 := blk_new w27 25 #[.int .i64 0, (.slice none 0 0)]; have o1 := blk_below o0 hb28 (blk_lt o0); obtain ⟨nn0, nn1, nf0, nf1⟩ := blk_two o1; have nB := Lib.hid o1; clear o0 o1) | skip
               clear hb28 ho28 hnh)
            | (go_at_call 33
               refine (toPacket_any p _).mono ?_
               rintro e w27 ⟨rfl, hb27⟩
               have R27 := Lib.hid hb27
               have PX27 := Lib.hid (show PR w27 X26 n ps from (by first | exact pr_below PX26.out hb27 | exact pr_below (pr_alloc PX26.out _) hb27))
               have B27 := Lib.hid (below_seq (snd_of (by with_reducible assumption)) hb27)
               have hS27 := eh_box HX15.out B27.out
               have z27 := hb27.size
               try simp at z27
               clear hb27)
            | (go_at_call 28
               refine (toQueue_any lim A n c ps _ (EH.fr (eh_below HX15.out (snd_of (by with_reducible assumption)))).pr hbig).mono ?_
               rintro e w26 ⟨X26, e26, rfl, ho26, hb26⟩
               have R26 := Lib.hid hb26
               have PX26 := Lib.hid (pr_own ho26)
               have B26 := Lib.hid (below_seq (snd_of (by with_reducible assumption)) hb26)
               have hS26 := eh_box HX15.out B26.out
               have z26 := hb26.size
               try simp at z26
               clear hb26 ho26))
        all_goals
          go_wp2_with fail
          go_meet
          refine ⟨?_, rfl, rfl⟩
          first
            | exact hrel_new B28.out O28.out N28.out
            | exact hrel_set B28.out nB.out O28.out (by first | omega | (simp; omega) | simp) (by omega) N28.out
      case rest =>
        obtain ⟨⟨bh, Ah, nh, ch, rfl, hnh, hw', hB', hP'⟩, rfl, rfl⟩ := hcut
        have HX18 := Lib.hid (eh_below HX15.out hw')
        have PH := Lib.hid hP'
        have lnh : nh ≤ 1048577 := by omega
        obtain ⟨r0, r1, -, -⟩ := blk_two hB'
        clear hw' hB' hP' hnh HX15
        obtain ⟨⟨x0, x1⟩, ⟨u0, u1⟩, g0, g1⟩ := eh_cells HX18.out
        go_wp2_with fail
        refine (eqQueue_same L Ah Aw nh ch nw cw R _ PH.out HX18.out.wp (by omega) (by omega)).mono ?_
        rintro e w19 ⟨rfl, hb⟩
        have HX20 := Lib.hid (eh_below HX18.out hb)
        clear hb x0 x1 u0 u1 g0 g1 r0 r1 HX18 PH
        obtain ⟨⟨x0, x1⟩, ⟨u0, u1⟩, g0, g1⟩ := eh_cells HX20.out
        go_wp2_with fail
        refine (heldQueue_any L Ag ng cg 1 _ (pr_own HX20.out.go) (by omega) (by omega)).mono ?_
        rintro e w21 ⟨rfl, hb⟩
        have HX21 := Lib.hid (eh_below HX20.out hb)
        clear hb x0 x1 u0 u1 g0 g1 HX20
        go_wp2
        go_ret
        exact ⟨rfl, HX21.out.fr.below⟩
  · clear h
    go_enter Try.func8, Try.ntmps8
    go_wp2_with fail
    refine (szQueue_any lim A n c 1048576 _ hn (by omega)).mono ?_
    rintro e w1 ⟨rfl, hb⟩
    rw [if_pos (by omega)]
    have F1 := Lib.hid (fb_below F.out hb)
    clear hb F
    go_wp2
    go_ret
    exact ⟨rfl, Fr.below F1.out⟩
theorem own : ownKnob Try.prog.godebug = none := by kernel_rfl
theorem laidOut : laidOutB Try.prog = true := by kernel_rfl
set_option maxRecDepth 100000 in
theorem lifted (os : Os) (started : os.Started) (H : Type) (enc : TypeId × Value → H) :
    ReturnsInHanded {} Try.checked os 8 .any (Rows.fnExactPushBackSpec.pre6 enc Try.prog Try.f8 Rows.fnExactPushBackRow.domain false) (Rows.fnExactPushBackSpec.post enc Try.prog Try.f8 false true false false) := by
  refine returnsInHanded_of_change (C := Try.checked) own started (by kernel_rfl) Try.func8
    (ChangeSpec.witness6 (enc := enc) (C := Try.checked) false ⟨#[], #[.agg #[.int .i64 0, .slice none 0 0], .agg #[.int .i64 0, .int .i64 0, .int .i64 0, .int .i64 0]], []⟩ 8 (by kernel_rfl) (by kernel_rfl) (by kernel_rfl) (by kernel_rfl)) ?_
  intro W base args ds gs before hval0 hW _ _
  have hval : ∀ (j : Nat) t v, Try.f8.params[j]? = some t → args[j]? = some v → Value.okWide Try.prog W .any base t v := hval0
  have hW' := hW
  obtain ⟨p, q, hA0, hV, rfl, _, _⟩ := hW
  have hA : DataW.TrodAll enc Try.prog W 0 (fun _ => true) true Try.f8.params.toList args.toList ds p := hA0
  rw [Try.params8] at hA hval
  obtain ⟨v0, vs0, d0, ds0, p0, q0, hargs, rfl, rfl, h0, r0⟩ := trodAll_cons hA
  obtain ⟨v1, vs1, d1, ds1, p1, q1, rfl, rfl, rfl, h1, r1⟩ := trodAll_cons r0
  obtain ⟨rfl, rfl, rfl⟩ := trodAll_nil r1
  obtain rfl : args = #[v0, v1] := by cases args; simp_all
  obtain ⟨rfl, rfl⟩ := trodVars_none hV
  have lt0 : ∀ x ∈ p0, x.block < W.heap.size := by obtain ⟨m, hm⟩ := h0; exact DataW.trod_lt m _ _ _ hm
  have ok0 := (hval 0 41 v0 rfl rfl)
  obtain ⟨p0a, p0b, y0a, y0b, nf0, rfl, _, _, t0a, t0b⟩ := Go.Joins.open_agg2 Try.underlying41 (by kernel_rfl) (by kernel_rfl) ok0 h0
  obtain ⟨x0a, e0a, _, _⟩ := DataW.trod_int Try.underlying3 t0a
  obtain rfl : p0a = .int .i64 x0a := by simpa using e0a
  obtain ⟨a0, n0, c0, x0, rfl, w0, m0⟩ := pkts_open1 t0b
  have lt1 : ∀ x ∈ p1, x.block < W.heap.size := by obtain ⟨m, hm⟩ := h1; exact DataW.trod_lt m _ _ _ hm
  have ok1 := (hval 1 48 v1 rfl rfl)
  obtain ⟨p1a, p1b, p1c, p1d, y1a, y1b, y1c, y1d, nf1, rfl, _, _, t1a, t1b, t1c, t1d⟩ := Go.Joins.open_agg4 Try.underlying48 (by kernel_rfl) (by kernel_rfl) ok1 h1
  obtain ⟨x1a, e1a, _, _⟩ := DataW.trod_int Try.underlying3 t1a
  obtain rfl : p1a = .int .i64 x1a := by simpa using e1a
  obtain ⟨x1b, e1b, _, _⟩ := DataW.trod_int Try.underlying3 t1b
  obtain rfl : p1b = .int .i64 x1b := by simpa using e1b
  obtain ⟨x1c, e1c, _, _⟩ := DataW.trod_int Try.underlying3 t1c
  obtain rfl : p1c = .int .i64 x1c := by simpa using e1c
  obtain ⟨x1d, e1d, _, _⟩ := DataW.trod_int Try.underlying3 t1d
  obtain rfl : p1d = .int .i64 x1d := by simpa using e1d
  clear hA0 hval0
  refine (walk x0a a0 n0 c0 x0 ⟨x1a, x1b, x1c, x1d⟩ W w0 m0).mono fun e W' ⟨he, bel⟩ => ?_
  subst he
  exact ⟨_, rfl, _, _, _, [], _, [], hW', trodAll_mk1 (shut_bool Try.underlying4 _), (trodAll_cons_mk (Below.trod laidOut (by kernel_rfl) (of_decide_eq_true (by kernel_rfl)) h0 bel lt0) (trodAll_cons_mk (Below.trod laidOut (by kernel_rfl) (of_decide_eq_true (by kernel_rfl)) h1 bel lt1) trodAll_mk0)), rfl, bel.frame _, fun h => by cases h⟩
theorem over : Rows.fnExactPushBackRow.holds Try.pinned (OpenSpec.ofChange Rows.fnExactPushBackSpec) :=
  OpenClaim.holds_of_wide 8 Try.f8 rfl rfl rfl rfl rfl rfl rfl ⟨rfl, rfl, rfl, rfl, rfl⟩ rfl rfl rfl rfl rfl (by kernel_rfl) Try.func8 (by kernel_rfl)
    (of_decide_eq_true (by kernel_rfl)) (by unfold Func.isWrapper; first | (rw [if_pos (by decide +kernel)]; kernel_rfl) | (rw [if_neg (by decide +kernel)]; exact ⟨rfl, rfl⟩))
    (fun os started H enc _ => lifted os started H enc)
/-- the given statement -/
theorem proved : Rows.FnExactPushBackSaid := over
end Go.Proofs.Ytapoahoknlaeaab.fnExactPushBack
