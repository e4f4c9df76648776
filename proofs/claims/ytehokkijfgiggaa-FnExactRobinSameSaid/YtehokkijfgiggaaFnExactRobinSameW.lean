/-
  The law FnExactRobinSame returns true at every argument: the program's RobinSame answers as the model's and writes into no argument. Conditions: none.
-/
import Derived.Test.YtehokkijfgiggaaREx
import Derived.Test.YtehokkijfgiggaaR3S
namespace Go.Proofs.Ytehokkijfgiggaa.fnExactRobinSame
open Go.ChangeShapes Go.WideShapes Go.ChangeAt Go.RowKit

theorem fm_rdBB {w w1 : World} {L : List Iv} (h : Fm w L w1) (i j : Nat) {a b a2 b2 g g2 : Nat} {t t2 : TypeId} {x y x2 y2 : Value} (hi : L[i]? = some ⟨a, b, BoxP g t #[x, y]⟩) (hj : L[j]? = some ⟨a2, b2, BoxP g2 t2 #[x2, y2]⟩) :
    (w1.cell? ⟨g, 0, none⟩ = some x ∧ w1.cell? ⟨g, 1, none⟩ = some y) ∧ (w1.cell? ⟨g2, 0, none⟩ = some x2 ∧ w1.cell? ⟨g2, 1, none⟩ = some y2) ∧ Fm w L w1 := by
  have B1 : Blk w1 g t #[x, y] := fm_blk h i hi
  have B2 : Blk w1 g2 t2 #[x2, y2] := fm_blk h j hj
  exact ⟨⟨blk_cell B1 0, blk_cell B1 1⟩, ⟨blk_cell B2 0, blk_cell B2 1⟩, h⟩
set_option maxRecDepth 100000 in
set_option maxHeartbeats 4000000 in
theorem walk (q1 : Int) (A1 : Option Addr) (n1 c1 : Nat) (fs : List Flw) (q2 : Int) (A2 : Option Addr) (n2 c2 : Nat) (gs : List Flw) (w : World) (h : FA w A1 n1 fs) (hn1 : n1 ≤ 9223372036854775807) (h2 : FA w A2 n2 gs) (hn2 : n2 ≤ 9223372036854775807) :
    Calls Try.prog 10 #[.agg #[.int .i64 q1, (.slice A1 n1 c1)], .agg #[.int .i64 q2, (.slice A2 n2 c2)]] w fun e w' => e = .returned (.bool true) ∧ Below w.heap.size w w' := by
  have H := Lib.hid h
  have H2 := Lib.hid h2
  have F : Hid (Fm w [⟨w.heap.size, w.heap.size + 1, BoxP w.heap.size 51 #[.int .i64 q1, (.slice A1 n1 c1)]⟩, ⟨w.heap.size + 1, w.heap.size + 2, BoxP (w.heap.size + 1) 51 #[.int .i64 q2, (.slice A2 n2 c2)]⟩] ((w.alloc (.cells #[.int .i64 q1, (.slice A1 n1 c1)] 51)).alloc (.cells #[.int .i64 q2, (.slice A2 n2 c2)] 51))) := Lib.hid (fm_two w 51 51 #[.int .i64 q1, (.slice A1 n1 c1)] #[.int .i64 q2, (.slice A2 n2 c2)])
  clear h h2
  by_cases hbig : (n1 : Int) + (total fs : Int) ≤ 1048576
  · have hd : decide ((1048576 : Int) - (n1 : Int) - (total fs : Int) < 0) = false := by simp; omega
    by_cases hbig2 : (n1 : Int) + (total fs : Int) + ((n2 : Int) + (total gs : Int)) ≤ 1048576
    · have hd2 : decide ((1048576 : Int) - (n1 : Int) - (total fs : Int) - (n2 : Int) - (total gs : Int) < 0) = false := by simp; omega
      have hm1 : n1 ≤ 1048576 := by omega
      have hm2 : n2 ≤ 1048576 := by omega
      have ht1 : total fs ≤ 1048576 := by omega
      have ht2 : total gs ≤ 1048576 := by omega
      obtain ⟨v, hv⟩ : ∃ v, v = rsB q1 fs q2 gs := ⟨_, rfl⟩
      have HV := Lib.hid hv
      clear hv
      go_enter Try.func10, Try.ntmps10
      go_wp2_with fail
      refine (szRobin_any q1 A1 n1 c1 fs 1048576 _ (fa_below H.out F.out.below) hn1 (by omega)).mono ?_
      rintro e w1 ⟨rfl, hb⟩
      rw [if_neg (by omega)]
      have F1 : Hid (Fm w [⟨w.heap.size, w.heap.size + 1, BoxP w.heap.size 51 #[.int .i64 q1, (.slice A1 n1 c1)]⟩, ⟨w.heap.size + 1, w.heap.size + 2, BoxP (w.heap.size + 1) 51 #[.int .i64 q2, (.slice A2 n2 c2)]⟩] w1) := Lib.hid (fm_below F.out hb)
      clear hb F
      obtain ⟨u0, u1, -, -⟩ := blk_two (fm_blk F1.out 1 rfl)
      go_wp2_with fail
      refine (szRobin_any q2 A2 n2 c2 gs ((1048576 : Int) - (n1 : Int) - (total fs : Int)) _ (fa_below H2.out F1.out.below) hn2 (by omega)).mono ?_
      rintro e w2 ⟨rfl, hb⟩
      rw [if_neg (by omega)]
      have F2 : Hid (Fm w [⟨w.heap.size, w.heap.size + 1, BoxP w.heap.size 51 #[.int .i64 q1, (.slice A1 n1 c1)]⟩, ⟨w.heap.size + 1, w.heap.size + 2, BoxP (w.heap.size + 1) 51 #[.int .i64 q2, (.slice A2 n2 c2)]⟩] w2) := Lib.hid (fm_below F1.out hb)
      clear hb F1 u0 u1
      have hS := fm_rdBB (fm_drew F2.out) 0 1 rfl rfl
      go_wp2_with fail
      go_region_held3 (fun w' => (w'.cell? ⟨w.heap.size, 0, none⟩ = some (.int .i64 q1) ∧ w'.cell? ⟨w.heap.size, 1, none⟩ = some (.slice A1 n1 c1)) ∧ (w'.cell? ⟨w.heap.size + 1, 0, none⟩ = some (.int .i64 q2) ∧ w'.cell? ⟨w.heap.size + 1, 1, none⟩ = some (.slice A2 n2 c2)) ∧ Fm w [⟨w.heap.size, w.heap.size + 1, BoxP w.heap.size 51 #[.int .i64 q1, (.slice A1 n1 c1)]⟩, ⟨w.heap.size + 1, w.heap.size + 2, BoxP (w.heap.size + 1) 51 #[.int .i64 q2, (.slice A2 n2 c2)]⟩] w')
        (first | (with_reducible assumption) | fail)
        (first
          | (go_at_call 39
             refine (sameRS_any q1 q2 X6 X7 n1 n1 n2 n2 fs gs _ PX7.out PY7.out).mono ?_
             rintro e w8 ⟨rfl, hb8⟩
             rw [← HV.out]
             have FX8 : Hid (Fm w [⟨w.heap.size, w.heap.size + 1, BoxP w.heap.size 51 #[.int .i64 q1, (.slice A1 n1 c1)]⟩, ⟨w.heap.size + 1, w.heap.size + 2, BoxP (w.heap.size + 1) 51 #[.int .i64 q2, (.slice A2 n2 c2)]⟩] w8) := Lib.hid (fm_below FX7.out hb8)
             have hS8 := fm_rdBB FX8.out 0 1 rfl rfl
             clear hb8)
          | (go_at_call 37
             refine (toRobin_any q2 A2 n2 c2 gs _ (fa_below H2.out FX6.out.below) hm2 ht2).mono ?_
             rintro e w7 ⟨X7, h7, rfl, ho7, hb7⟩
             have PY7 := Lib.hid (do_fr ho7 (by omega))
             have PX7 := Lib.hid (fr_belowF PX6.out hb7)
             have FX7 : Hid (Fm w [⟨w.heap.size, w.heap.size + 1, BoxP w.heap.size 51 #[.int .i64 q1, (.slice A1 n1 c1)]⟩, ⟨w.heap.size + 1, w.heap.size + 2, BoxP (w.heap.size + 1) 51 #[.int .i64 q2, (.slice A2 n2 c2)]⟩] w7) := Lib.hid (fm_below FX6.out hb7)
             have hS7 := fm_rdBB FX7.out 0 1 rfl rfl
             clear hb7 ho7)
          | (go_at_call 37
             refine (toRobin_any q1 A1 n1 c1 fs _ (fa_below H.out (fm_drew F2.out).below) hm1 ht1).mono ?_
             rintro e w6 ⟨X6, h6, rfl, ho6, hb6⟩
             have PX6 := Lib.hid (do_fr ho6 (by omega))
             have FX6 : Hid (Fm w [⟨w.heap.size, w.heap.size + 1, BoxP w.heap.size 51 #[.int .i64 q1, (.slice A1 n1 c1)]⟩, ⟨w.heap.size + 1, w.heap.size + 2, BoxP (w.heap.size + 1) 51 #[.int .i64 q2, (.slice A2 n2 c2)]⟩] w6) := Lib.hid (fm_below (fm_drew F2.out) hb6)
             have hS6 := fm_rdBB FX6.out 0 1 rfl rfl
             clear hb6 ho6))
      all_goals
        clear hS hS6 hS7 hS8 PX6 PX7 PY7 FX6 FX7 F2
        obtain ⟨u0, u1, -, -⟩ := blk_two (fm_blk FX8.out 0 rfl)
        go_wp2_with fail
        refine (toRobin_any q1 A1 n1 c1 fs _ (fa_below H.out FX8.out.below) hm1 ht1).mono ?_
        rintro e w4 ⟨X1, h1, rfl, ho, hb⟩
        have F4 : Hid (Fm w [⟨w.heap.size, w.heap.size + 1, BoxP w.heap.size 51 #[.int .i64 q1, (.slice A1 n1 c1)]⟩, ⟨w.heap.size + 1, w.heap.size + 2, BoxP (w.heap.size + 1) 51 #[.int .i64 q2, (.slice A2 n2 c2)]⟩, ⟨w8.heap.size, w4.heap.size, DOI w8.heap.size w4.heap.size (.slice X1 n1 n1) n1 h1 fs⟩] w4) := Lib.hid (fm_doi FX8.out hb ho rfl)
        have F4b : Hid (Fm w [⟨w.heap.size, w.heap.size + 1, BoxP w.heap.size 51 #[.int .i64 q1, (.slice A1 n1 c1)]⟩, ⟨w.heap.size + 1, w.heap.size + 2, BoxP (w.heap.size + 1) 51 #[.int .i64 q2, (.slice A2 n2 c2)]⟩, ⟨w8.heap.size, w4.heap.size, DOI w8.heap.size w4.heap.size (.slice X1 n1 n1) n1 h1 fs⟩, ⟨w4.heap.size, w4.heap.size + 1, BoxP w4.heap.size 25 #[.int .i64 q1, (.slice X1 n1 n1)]⟩] (w4.alloc (.cells #[.int .i64 q1, (.slice X1 n1 n1)] 25))) := Lib.hid (fm_push F4.out rfl _ _)
        clear ho hb u0 u1 F4 FX8
        obtain ⟨u0, u1, -, -⟩ := blk_two (fm_blk F4b.out 1 rfl)
        go_wp2_with fail
        refine (toRobin_any q2 A2 n2 c2 gs _ (fa_below H2.out F4b.out.below) hm2 ht2).mono ?_
        rintro e w5 ⟨X2, h2, rfl, ho, hb⟩
        have F5 : Hid (Fm w [⟨w.heap.size, w.heap.size + 1, BoxP w.heap.size 51 #[.int .i64 q1, (.slice A1 n1 c1)]⟩, ⟨w.heap.size + 1, w.heap.size + 2, BoxP (w.heap.size + 1) 51 #[.int .i64 q2, (.slice A2 n2 c2)]⟩, ⟨w8.heap.size, w4.heap.size, DOI w8.heap.size w4.heap.size (.slice X1 n1 n1) n1 h1 fs⟩, ⟨w4.heap.size, w4.heap.size + 1, BoxP w4.heap.size 25 #[.int .i64 q1, (.slice X1 n1 n1)]⟩, ⟨w4.heap.size + 1, w5.heap.size, DOI (w4.heap.size + 1) w5.heap.size (.slice X2 n2 n2) n2 h2 gs⟩] w5) := Lib.hid (fm_doi F4b.out hb ho (by simp))
        have F5b : Hid (Fm w [⟨w.heap.size, w.heap.size + 1, BoxP w.heap.size 51 #[.int .i64 q1, (.slice A1 n1 c1)]⟩, ⟨w.heap.size + 1, w.heap.size + 2, BoxP (w.heap.size + 1) 51 #[.int .i64 q2, (.slice A2 n2 c2)]⟩, ⟨w8.heap.size, w4.heap.size, DOI w8.heap.size w4.heap.size (.slice X1 n1 n1) n1 h1 fs⟩, ⟨w4.heap.size, w4.heap.size + 1, BoxP w4.heap.size 25 #[.int .i64 q1, (.slice X1 n1 n1)]⟩, ⟨w4.heap.size + 1, w5.heap.size, DOI (w4.heap.size + 1) w5.heap.size (.slice X2 n2 n2) n2 h2 gs⟩, ⟨w5.heap.size, w5.heap.size + 1, BoxP w5.heap.size 25 #[.int .i64 q2, (.slice X2 n2 n2)]⟩] (w5.alloc (.cells #[.int .i64 q2, (.slice X2 n2 n2)] 25))) := Lib.hid (fm_push F5.out rfl _ _)
        clear ho hb u0 u1 F5 F4b
        obtain ⟨u0, u1, -, -⟩ := blk_two (fm_blk F5b.out 3 rfl)
        obtain ⟨r0, r1, -, -⟩ := blk_two (fm_blk F5b.out 5 rfl)
        go_wp2_with fail
        refine (sameRI_any q1 q2 X1 X2 n1 n1 n2 n2 fs gs _ (doi_fr (fm_get F5b.out 2 rfl) (by omega)) (doi_fr (fm_get F5b.out 4 rfl) (by omega))).mono ?_
        rintro e w9 ⟨rfl, hb⟩
        rw [← HV.out]
        have F9 : Hid (Fm w [⟨w.heap.size, w.heap.size + 1, BoxP w.heap.size 51 #[.int .i64 q1, (.slice A1 n1 c1)]⟩, ⟨w.heap.size + 1, w.heap.size + 2, BoxP (w.heap.size + 1) 51 #[.int .i64 q2, (.slice A2 n2 c2)]⟩, ⟨w8.heap.size, w4.heap.size, DOI w8.heap.size w4.heap.size (.slice X1 n1 n1) n1 h1 fs⟩, ⟨w4.heap.size, w4.heap.size + 1, BoxP w4.heap.size 25 #[.int .i64 q1, (.slice X1 n1 n1)]⟩, ⟨w4.heap.size + 1, w5.heap.size, DOI (w4.heap.size + 1) w5.heap.size (.slice X2 n2 n2) n2 h2 gs⟩, ⟨w5.heap.size, w5.heap.size + 1, BoxP w5.heap.size 25 #[.int .i64 q2, (.slice X2 n2 n2)]⟩] w9) := Lib.hid (fm_below F5b.out hb)
        clear hb u0 u1 r0 r1 F5b
        have hS := fm_rdBB (fm_drew F9.out) 0 3 rfl rfl
        go_wp2_with fail
        go_region_held3 (fun w' => (w'.cell? ⟨w.heap.size, 0, none⟩ = some (.int .i64 q1) ∧ w'.cell? ⟨w.heap.size, 1, none⟩ = some (.slice A1 n1 c1)) ∧ (w'.cell? ⟨w4.heap.size, 0, none⟩ = some (.int .i64 q1) ∧ w'.cell? ⟨w4.heap.size, 1, none⟩ = some (.slice X1 n1 n1)) ∧ Fm w [⟨w.heap.size, w.heap.size + 1, BoxP w.heap.size 51 #[.int .i64 q1, (.slice A1 n1 c1)]⟩, ⟨w.heap.size + 1, w.heap.size + 2, BoxP (w.heap.size + 1) 51 #[.int .i64 q2, (.slice A2 n2 c2)]⟩, ⟨w8.heap.size, w4.heap.size, DOI w8.heap.size w4.heap.size (.slice X1 n1 n1) n1 h1 fs⟩, ⟨w4.heap.size, w4.heap.size + 1, BoxP w4.heap.size 25 #[.int .i64 q1, (.slice X1 n1 n1)]⟩, ⟨w4.heap.size + 1, w5.heap.size, DOI (w4.heap.size + 1) w5.heap.size (.slice X2 n2 n2) n2 h2 gs⟩, ⟨w5.heap.size, w5.heap.size + 1, BoxP w5.heap.size 25 #[.int .i64 q2, (.slice X2 n2 n2)]⟩] w')
          (first | (with_reducible assumption) | fail)
          (first
            | (go_at_call 38
               refine (eqRobin_same q1 X1 Z1 n1 n1 n1 n1 fs _ (doi_fr (fm_get FT10.out 2 rfl) (by omega)) PZ10.out).mono ?_
               rintro e w11 ⟨rfl, hb11⟩
               have FT11 : Hid (Fm w [⟨w.heap.size, w.heap.size + 1, BoxP w.heap.size 51 #[.int .i64 q1, (.slice A1 n1 c1)]⟩, ⟨w.heap.size + 1, w.heap.size + 2, BoxP (w.heap.size + 1) 51 #[.int .i64 q2, (.slice A2 n2 c2)]⟩, ⟨w8.heap.size, w4.heap.size, DOI w8.heap.size w4.heap.size (.slice X1 n1 n1) n1 h1 fs⟩, ⟨w4.heap.size, w4.heap.size + 1, BoxP w4.heap.size 25 #[.int .i64 q1, (.slice X1 n1 n1)]⟩, ⟨w4.heap.size + 1, w5.heap.size, DOI (w4.heap.size + 1) w5.heap.size (.slice X2 n2 n2) n2 h2 gs⟩, ⟨w5.heap.size, w5.heap.size + 1, BoxP w5.heap.size 25 #[.int .i64 q2, (.slice X2 n2 n2)]⟩] w11) := Lib.hid (fm_below FT10.out hb11)
               have hS11 := fm_rdBB FT11.out 0 3 rfl rfl
               clear hb11)
            | (go_at_call 37
               refine (toRobin_any q1 A1 n1 c1 fs _ (fa_below H.out (fm_drew F9.out).below) hm1 ht1).mono ?_
               rintro e w10 ⟨Z1, f1, rfl, ho10, hb10⟩
               have PZ10 := Lib.hid (do_fr ho10 (by omega))
               have FT10 : Hid (Fm w [⟨w.heap.size, w.heap.size + 1, BoxP w.heap.size 51 #[.int .i64 q1, (.slice A1 n1 c1)]⟩, ⟨w.heap.size + 1, w.heap.size + 2, BoxP (w.heap.size + 1) 51 #[.int .i64 q2, (.slice A2 n2 c2)]⟩, ⟨w8.heap.size, w4.heap.size, DOI w8.heap.size w4.heap.size (.slice X1 n1 n1) n1 h1 fs⟩, ⟨w4.heap.size, w4.heap.size + 1, BoxP w4.heap.size 25 #[.int .i64 q1, (.slice X1 n1 n1)]⟩, ⟨w4.heap.size + 1, w5.heap.size, DOI (w4.heap.size + 1) w5.heap.size (.slice X2 n2 n2) n2 h2 gs⟩, ⟨w5.heap.size, w5.heap.size + 1, BoxP w5.heap.size 25 #[.int .i64 q2, (.slice X2 n2 n2)]⟩] w10) := Lib.hid (fm_below (fm_drew F9.out) hb10)
               have hS10 := fm_rdBB FT10.out 0 3 rfl rfl
               clear hb10 ho10))
        all_goals
          clear PZ10 FT10 F9 hS hS10 hS11
          have hS := fm_rdBB (fm_drew FT11.out) 1 5 rfl rfl
          go_wp2_with fail
          go_region_held3 (fun w' => (w'.cell? ⟨w.heap.size + 1, 0, none⟩ = some (.int .i64 q2) ∧ w'.cell? ⟨w.heap.size + 1, 1, none⟩ = some (.slice A2 n2 c2)) ∧ (w'.cell? ⟨w5.heap.size, 0, none⟩ = some (.int .i64 q2) ∧ w'.cell? ⟨w5.heap.size, 1, none⟩ = some (.slice X2 n2 n2)) ∧ Fm w [⟨w.heap.size, w.heap.size + 1, BoxP w.heap.size 51 #[.int .i64 q1, (.slice A1 n1 c1)]⟩, ⟨w.heap.size + 1, w.heap.size + 2, BoxP (w.heap.size + 1) 51 #[.int .i64 q2, (.slice A2 n2 c2)]⟩, ⟨w8.heap.size, w4.heap.size, DOI w8.heap.size w4.heap.size (.slice X1 n1 n1) n1 h1 fs⟩, ⟨w4.heap.size, w4.heap.size + 1, BoxP w4.heap.size 25 #[.int .i64 q1, (.slice X1 n1 n1)]⟩, ⟨w4.heap.size + 1, w5.heap.size, DOI (w4.heap.size + 1) w5.heap.size (.slice X2 n2 n2) n2 h2 gs⟩, ⟨w5.heap.size, w5.heap.size + 1, BoxP w5.heap.size 25 #[.int .i64 q2, (.slice X2 n2 n2)]⟩] w')
            (first | (with_reducible assumption) | fail)
            (first
              | (go_at_call 38
                 refine (eqRobin_same q2 X2 Z2 n2 n2 n2 n2 gs _ (doi_fr (fm_get FT12.out 4 rfl) (by omega)) PZ12.out).mono ?_
                 rintro e w13 ⟨rfl, hb13⟩
                 have FT13 : Hid (Fm w [⟨w.heap.size, w.heap.size + 1, BoxP w.heap.size 51 #[.int .i64 q1, (.slice A1 n1 c1)]⟩, ⟨w.heap.size + 1, w.heap.size + 2, BoxP (w.heap.size + 1) 51 #[.int .i64 q2, (.slice A2 n2 c2)]⟩, ⟨w8.heap.size, w4.heap.size, DOI w8.heap.size w4.heap.size (.slice X1 n1 n1) n1 h1 fs⟩, ⟨w4.heap.size, w4.heap.size + 1, BoxP w4.heap.size 25 #[.int .i64 q1, (.slice X1 n1 n1)]⟩, ⟨w4.heap.size + 1, w5.heap.size, DOI (w4.heap.size + 1) w5.heap.size (.slice X2 n2 n2) n2 h2 gs⟩, ⟨w5.heap.size, w5.heap.size + 1, BoxP w5.heap.size 25 #[.int .i64 q2, (.slice X2 n2 n2)]⟩] w13) := Lib.hid (fm_below FT12.out hb13)
                 have hS13 := fm_rdBB FT13.out 1 5 rfl rfl
                 clear hb13)
              | (go_at_call 37
                 refine (toRobin_any q2 A2 n2 c2 gs _ (fa_below H2.out (fm_drew FT11.out).below) hm2 ht2).mono ?_
                 rintro e w12 ⟨Z2, f2, rfl, ho12, hb12⟩
                 have PZ12 := Lib.hid (do_fr ho12 (by omega))
                 have FT12 : Hid (Fm w [⟨w.heap.size, w.heap.size + 1, BoxP w.heap.size 51 #[.int .i64 q1, (.slice A1 n1 c1)]⟩, ⟨w.heap.size + 1, w.heap.size + 2, BoxP (w.heap.size + 1) 51 #[.int .i64 q2, (.slice A2 n2 c2)]⟩, ⟨w8.heap.size, w4.heap.size, DOI w8.heap.size w4.heap.size (.slice X1 n1 n1) n1 h1 fs⟩, ⟨w4.heap.size, w4.heap.size + 1, BoxP w4.heap.size 25 #[.int .i64 q1, (.slice X1 n1 n1)]⟩, ⟨w4.heap.size + 1, w5.heap.size, DOI (w4.heap.size + 1) w5.heap.size (.slice X2 n2 n2) n2 h2 gs⟩, ⟨w5.heap.size, w5.heap.size + 1, BoxP w5.heap.size 25 #[.int .i64 q2, (.slice X2 n2 n2)]⟩] w12) := Lib.hid (fm_below (fm_drew FT11.out) hb12)
                 have hS12 := fm_rdBB FT12.out 1 5 rfl rfl
                 clear hb12 ho12))
          all_goals
            go_wp2
            go_ret
            exact ⟨rfl, FT13.out.below⟩
    · go_enter Try.func10, Try.ntmps10
      go_wp2_with fail
      refine (szRobin_any q1 A1 n1 c1 fs 1048576 _ (fa_below H.out F.out.below) hn1 (by omega)).mono ?_
      rintro e w1 ⟨rfl, hb⟩
      rw [if_neg (by omega)]
      have F1 : Hid (Fm w [⟨w.heap.size, w.heap.size + 1, BoxP w.heap.size 51 #[.int .i64 q1, (.slice A1 n1 c1)]⟩, ⟨w.heap.size + 1, w.heap.size + 2, BoxP (w.heap.size + 1) 51 #[.int .i64 q2, (.slice A2 n2 c2)]⟩] w1) := Lib.hid (fm_below F.out hb)
      clear hb F
      obtain ⟨u0, u1, -, -⟩ := blk_two (fm_blk F1.out 1 rfl)
      go_wp2_with fail
      refine (szRobin_any q2 A2 n2 c2 gs ((1048576 : Int) - (n1 : Int) - (total fs : Int)) _ (fa_below H2.out F1.out.below) hn2 (by omega)).mono ?_
      rintro e w2 ⟨rfl, hb⟩
      rw [if_pos (by omega)]
      have F2 : Hid (Fm w [⟨w.heap.size, w.heap.size + 1, BoxP w.heap.size 51 #[.int .i64 q1, (.slice A1 n1 c1)]⟩, ⟨w.heap.size + 1, w.heap.size + 2, BoxP (w.heap.size + 1) 51 #[.int .i64 q2, (.slice A2 n2 c2)]⟩] w2) := Lib.hid (fm_below F1.out hb)
      clear hb F1 u0 u1 hbig2
      go_wp2
      go_ret
      exact ⟨rfl, F2.out.below⟩
  · go_enter Try.func10, Try.ntmps10
    go_wp2_with fail
    refine (szRobin_any q1 A1 n1 c1 fs 1048576 _ (fa_below H.out F.out.below) hn1 (by omega)).mono ?_
    rintro e w1 ⟨rfl, hb⟩
    rw [if_pos (by omega)]
    have F1 : Hid (Fm w [⟨w.heap.size, w.heap.size + 1, BoxP w.heap.size 51 #[.int .i64 q1, (.slice A1 n1 c1)]⟩, ⟨w.heap.size + 1, w.heap.size + 2, BoxP (w.heap.size + 1) 51 #[.int .i64 q2, (.slice A2 n2 c2)]⟩] w1) := Lib.hid (fm_below F.out hb)
    clear hb F hbig
    go_wp2
    go_ret
    exact ⟨rfl, F1.out.below⟩
theorem own : ownKnob Try.prog.godebug = none := by kernel_rfl
theorem laidOut : laidOutB Try.prog = true := by kernel_rfl
set_option maxRecDepth 100000 in
theorem lifted (os : Os) (started : os.Started) (H : Type) (enc : TypeId × Value → H) :
    ReturnsInHanded {} Try.checked os 10 .any (Rows.fnExactRobinSameSpec.pre6 enc Try.prog Try.f10 Rows.fnExactRobinSameRow.domain false) (Rows.fnExactRobinSameSpec.post enc Try.prog Try.f10 false true false false) := by
  refine returnsInHanded_of_change (C := Try.checked) own started (by kernel_rfl) Try.func10
    (ChangeSpec.witness6 (enc := enc) (C := Try.checked) false ⟨#[], #[.agg #[.int .i64 0, .slice none 0 0], .agg #[.int .i64 0, .slice none 0 0]], []⟩ 8 (by kernel_rfl) (by kernel_rfl) (by kernel_rfl) (by kernel_rfl)) ?_
  intro W base args ds gs before hval0 hW _ _
  have hval : ∀ (j : Nat) t v, Try.f10.params[j]? = some t → args[j]? = some v → Value.okWide Try.prog W .any base t v := hval0
  have hW' := hW
  obtain ⟨p, q, hA0, hV, rfl, _, _⟩ := hW
  have hA : DataW.TrodAll enc Try.prog W 0 (fun _ => true) true Try.f10.params.toList args.toList ds p := hA0
  rw [Try.params10] at hA hval
  obtain ⟨v0, vs0, d0, ds0, p0, q0, hargs, rfl, rfl, h0, r0⟩ := trodAll_cons hA
  obtain ⟨v1, vs1, d1, ds1, p1, q1, rfl, rfl, rfl, h1, r1⟩ := trodAll_cons r0
  obtain ⟨rfl, rfl, rfl⟩ := trodAll_nil r1
  obtain rfl : args = #[v0, v1] := by cases args; simp_all
  obtain ⟨rfl, rfl⟩ := trodVars_none hV
  have lt0 : ∀ x ∈ p0, x.block < W.heap.size := by obtain ⟨m, hm⟩ := h0; exact DataW.trod_lt m _ _ _ hm
  have ok0 := (hval 0 51 v0 rfl rfl)
  obtain ⟨p0a, p0b, y0a, y0b, nf0, rfl, _, _, t0a, t0b⟩ := Go.Joins.open_agg2 Try.underlying51 (by kernel_rfl) (by kernel_rfl) ok0 h0
  obtain ⟨x0a, e0a, _, _⟩ := DataW.trod_int Try.underlying3 t0a
  obtain rfl : p0a = .int .i64 x0a := by simpa using e0a
  obtain ⟨a0, n0, c0, x0, rfl, w0, m0⟩ := flws_open1 t0b
  have lt1 : ∀ x ∈ p1, x.block < W.heap.size := by obtain ⟨m, hm⟩ := h1; exact DataW.trod_lt m _ _ _ hm
  have ok1 := (hval 1 51 v1 rfl rfl)
  obtain ⟨p1a, p1b, y1a, y1b, nf1, rfl, _, _, t1a, t1b⟩ := Go.Joins.open_agg2 Try.underlying51 (by kernel_rfl) (by kernel_rfl) ok1 h1
  obtain ⟨x1a, e1a, _, _⟩ := DataW.trod_int Try.underlying3 t1a
  obtain rfl : p1a = .int .i64 x1a := by simpa using e1a
  obtain ⟨a1, n1, c1, x1, rfl, w1, m1⟩ := flws_open1 t1b
  clear hA0 hval0
  refine (walk x0a a0 n0 c0 x0 x1a a1 n1 c1 x1 W w0 m0 w1 m1).mono fun e W' ⟨he, bel⟩ => ?_
  subst he
  exact ⟨_, rfl, _, _, _, [], _, [], hW', trodAll_mk1 (shut_bool Try.underlying4 _), (trodAll_cons_mk (Below.trod laidOut (by kernel_rfl) (of_decide_eq_true (by kernel_rfl)) h0 bel lt0) (trodAll_cons_mk (Below.trod laidOut (by kernel_rfl) (of_decide_eq_true (by kernel_rfl)) h1 bel lt1) trodAll_mk0)), rfl, bel.frame _, fun h => by cases h⟩
end Go.Proofs.Ytehokkijfgiggaa.fnExactRobinSame
