/-
  The law FnExactLanesSame returns true at every argument: the program's LanesSame answers as the model's and writes into no argument. Conditions: none.
-/
import Derived.Test.YtffgblphimjipacKo
import Derived.Test.YtffgblphimjipacKl
namespace Go.Proofs.Ytffgblphimjipac.fnExactLanesSame
open Go.ChangeShapes Go.WideShapes Go.ChangeAt Go.RowKit

theorem fm_rdLL {w w1 : World} {L : List Iv} (h : Fm w L w1) (i j : Nat) {a b a2 b2 g g2 : Nat} {t t2 : TypeId} {x y z x2 y2 z2 : Value} (hi : L[i]? = some ⟨a, b, BoxP g t #[x, y, z]⟩) (hj : L[j]? = some ⟨a2, b2, BoxP g2 t2 #[x2, y2, z2]⟩) :
    (w1.cell? ⟨g, 0, none⟩ = some x ∧ w1.cell? ⟨g, 1, none⟩ = some y ∧ w1.cell? ⟨g, 2, none⟩ = some z) ∧ (w1.cell? ⟨g2, 0, none⟩ = some x2 ∧ w1.cell? ⟨g2, 1, none⟩ = some y2 ∧ w1.cell? ⟨g2, 2, none⟩ = some z2) ∧ Fm w L w1 := by
  have B1 : Blk w1 g t #[x, y, z] := fm_blk h i hi
  have B2 : Blk w1 g2 t2 #[x2, y2, z2] := fm_blk h j hj
  exact ⟨(blk_three B1).1, (blk_three B2).1, h⟩
set_option maxRecDepth 100000 in
set_option maxHeartbeats 8000000 in
theorem walk (A1 : Option Addr) (n1 c1 : Nat) (B1 : Option Addr) (m1 d1 : Nat) (C1 : Option Addr) (o1 f1 : Nat) (l1 : Ln) (A2 : Option Addr) (n2 c2 : Nat) (B2 : Option Addr) (m2 d2 : Nat) (C2 : Option Addr) (o2 f2 : Nat) (l2 : Ln) (w : World) (h : LA w A1 n1 B1 m1 C1 o1 l1) (h2 : LA w A2 n2 B2 m2 C2 o2 l2) :
    Calls Try.prog 9 #[.agg #[.slice A1 n1 c1, .slice B1 m1 d1, .slice C1 o1 f1], .agg #[.slice A2 n2 c2, .slice B2 m2 d2, .slice C2 o2 f2]] w fun e w' => e = .returned (.bool true) ∧ Below w.heap.size w w' := by
  have H := Lib.hid h
  have H2 := Lib.hid h2
  have HL1 := Lib.hid (la_lens h)
  have HL2 := Lib.hid (la_lens h2)
  have F : Hid (Fm w [⟨w.heap.size, w.heap.size + 1, BoxP w.heap.size 57 #[.slice A1 n1 c1, .slice B1 m1 d1, .slice C1 o1 f1]⟩, ⟨w.heap.size + 1, w.heap.size + 2, BoxP (w.heap.size + 1) 57 #[.slice A2 n2 c2, .slice B2 m2 d2, .slice C2 o2 f2]⟩] ((w.alloc (.cells #[.slice A1 n1 c1, .slice B1 m1 d1, .slice C1 o1 f1] 57)).alloc (.cells #[.slice A2 n2 c2, .slice B2 m2 d2, .slice C2 o2 f2] 57))) := Lib.hid (fm_two w 57 57 #[.slice A1 n1 c1, .slice B1 m1 d1, .slice C1 o1 f1] #[.slice A2 n2 c2, .slice B2 m2 d2, .slice C2 o2 f2])
  clear h h2
  by_cases hbig : lsz l1 ≤ 1048576
  · have hd : decide ((1048576 : Int) - (lsz l1 : Int) < 0) = false := by simp; omega
    by_cases hbig2 : lsz l1 + lsz l2 ≤ 1048576
    · have hd2 : decide ((1048576 : Int) - (lsz l1 : Int) - (lsz l2 : Int) < 0) = false := by simp; omega
      have e1 : n1 ≤ 1048576 := by have := HL1.out.2.2.2; omega
      have e2 : m1 ≤ 1048576 := by have := HL1.out.2.2.2; omega
      have e3 : o1 ≤ 1048576 := by have := HL1.out.2.2.2; omega
      have e4 : n2 ≤ 1048576 := by have := HL2.out.2.2.2; omega
      have e5 : m2 ≤ 1048576 := by have := HL2.out.2.2.2; omega
      have e6 : o2 ≤ 1048576 := by have := HL2.out.2.2.2; omega
      have e7 : lsz l2 ≤ 1048576 := by omega
      obtain ⟨v, hv⟩ : ∃ v, v = lsB l1 l2 := ⟨_, rfl⟩
      have HV := Lib.hid hv
      clear hv
      go_enter Try.func9, Try.ntmps9
      go_wp2_with fail
      refine (szLanes_any A1 n1 c1 B1 m1 d1 C1 o1 f1 l1 1048576 _ (la_below H.out F.out.below) (by omega)).mono ?_
      rintro e w1 ⟨rfl, hb⟩
      rw [if_neg (by omega)]
      have F1 := Lib.hid (fm_below F.out hb)
      clear hb F
      obtain ⟨⟨u0, u1, u2⟩, -⟩ := blk_three (fm_blk F1.out 1 rfl)
      go_wp2_with fail
      refine (szLanes_any A2 n2 c2 B2 m2 d2 C2 o2 f2 l2 ((1048576 : Int) - (lsz l1 : Int)) _ (la_below H2.out F1.out.below) (by omega)).mono ?_
      rintro e w2 ⟨rfl, hb⟩
      rw [if_neg (by omega)]
      have F2 : Hid (Fm w [⟨w.heap.size, w.heap.size + 1, BoxP w.heap.size 57 #[.slice A1 n1 c1, .slice B1 m1 d1, .slice C1 o1 f1]⟩, ⟨w.heap.size + 1, w.heap.size + 2, BoxP (w.heap.size + 1) 57 #[.slice A2 n2 c2, .slice B2 m2 d2, .slice C2 o2 f2]⟩] w2) := Lib.hid (fm_below F1.out hb)
      clear hb F1 u0 u1 u2
      have hS := fm_rdLL (fm_drew F2.out) 0 1 rfl rfl
      go_wp2_with fail
      go_region_held3 (fun w' => (w'.cell? ⟨w.heap.size, 0, none⟩ = some (.slice A1 n1 c1) ∧ w'.cell? ⟨w.heap.size, 1, none⟩ = some (.slice B1 m1 d1) ∧ w'.cell? ⟨w.heap.size, 2, none⟩ = some (.slice C1 o1 f1)) ∧ (w'.cell? ⟨w.heap.size + 1, 0, none⟩ = some (.slice A2 n2 c2) ∧ w'.cell? ⟨w.heap.size + 1, 1, none⟩ = some (.slice B2 m2 d2) ∧ w'.cell? ⟨w.heap.size + 1, 2, none⟩ = some (.slice C2 o2 f2)) ∧ Fm w [⟨w.heap.size, w.heap.size + 1, BoxP w.heap.size 57 #[.slice A1 n1 c1, .slice B1 m1 d1, .slice C1 o1 f1]⟩, ⟨w.heap.size + 1, w.heap.size + 2, BoxP (w.heap.size + 1) 57 #[.slice A2 n2 c2, .slice B2 m2 d2, .slice C2 o2 f2]⟩] w')
        (first | (with_reducible assumption) | fail)
        (first
          | (go_at_call 23
             refine (sameLS_any X6 n1 n1 Y6 m1 m1 U6 o1 o1 l1 X7 n2 n2 Y7 m2 m2 U7 o2 o2 l2 _ PX7.out PY7.out).mono ?_
             rintro e w8 ⟨rfl, hb8⟩
             rw [← HV.out]
             have FX8 : Hid (Fm w [⟨w.heap.size, w.heap.size + 1, BoxP w.heap.size 57 #[.slice A1 n1 c1, .slice B1 m1 d1, .slice C1 o1 f1]⟩, ⟨w.heap.size + 1, w.heap.size + 2, BoxP (w.heap.size + 1) 57 #[.slice A2 n2 c2, .slice B2 m2 d2, .slice C2 o2 f2]⟩] w8) := Lib.hid (fm_below FX7.out hb8)
             have hS8 := fm_rdLL FX8.out 0 1 rfl rfl
             clear hb8)
          | (go_at_call 35
             refine (toLanes_any A2 n2 c2 B2 m2 d2 C2 o2 f2 l2 _ (la_below H2.out FX6.out.below) e7).mono ?_
             rintro e w7 ⟨X7, Y7, U7, h7, i7, rfl, ho7, -, hb7⟩
             have PY7 := Lib.hid (lo_lr ho7 (by omega) (by omega) (by omega))
             have PX7 := Lib.hid (lr_below PX6.out hb7)
             have FX7 : Hid (Fm w [⟨w.heap.size, w.heap.size + 1, BoxP w.heap.size 57 #[.slice A1 n1 c1, .slice B1 m1 d1, .slice C1 o1 f1]⟩, ⟨w.heap.size + 1, w.heap.size + 2, BoxP (w.heap.size + 1) 57 #[.slice A2 n2 c2, .slice B2 m2 d2, .slice C2 o2 f2]⟩] w7) := Lib.hid (fm_below FX6.out hb7)
             have hS7 := fm_rdLL FX7.out 0 1 rfl rfl
             clear hb7 ho7)
          | (go_at_call 35
             refine (toLanes_any A1 n1 c1 B1 m1 d1 C1 o1 f1 l1 _ (la_below H.out (fm_drew F2.out).below) hbig).mono ?_
             rintro e w6 ⟨X6, Y6, U6, h6, i6, rfl, ho6, -, hb6⟩
             have PX6 := Lib.hid (lo_lr ho6 (by omega) (by omega) (by omega))
             have FX6 : Hid (Fm w [⟨w.heap.size, w.heap.size + 1, BoxP w.heap.size 57 #[.slice A1 n1 c1, .slice B1 m1 d1, .slice C1 o1 f1]⟩, ⟨w.heap.size + 1, w.heap.size + 2, BoxP (w.heap.size + 1) 57 #[.slice A2 n2 c2, .slice B2 m2 d2, .slice C2 o2 f2]⟩] w6) := Lib.hid (fm_below (fm_drew F2.out) hb6)
             have hS6 := fm_rdLL FX6.out 0 1 rfl rfl
             clear hb6 ho6))
      all_goals
        clear hS hS6 hS7 hS8 PX6 PX7 PY7 FX6 FX7 F2
        obtain ⟨⟨u0, u1, u2⟩, -⟩ := blk_three (fm_blk FX8.out 0 rfl)
        go_wp2_with fail
        refine (toLanes_any A1 n1 c1 B1 m1 d1 C1 o1 f1 l1 _ (la_below H.out FX8.out.below) hbig).mono ?_
        rintro e w4 ⟨X1, Y1, U1, h1, i1, rfl, ho, -, hb⟩
        have Q1 := Lib.hid (lr_alloc (lo_lr ho (by omega) (by omega) (by omega)) (.cells #[.slice X1 n1 n1, .slice Y1 m1 m1, .slice U1 o1 o1] 26))
        have F4b : Hid (Fm w [⟨w.heap.size, w.heap.size + 1, BoxP w.heap.size 57 #[.slice A1 n1 c1, .slice B1 m1 d1, .slice C1 o1 f1]⟩, ⟨w.heap.size + 1, w.heap.size + 2, BoxP (w.heap.size + 1) 57 #[.slice A2 n2 c2, .slice B2 m2 d2, .slice C2 o2 f2]⟩, ⟨w4.heap.size, w4.heap.size + 1, BoxP w4.heap.size 26 #[.slice X1 n1 n1, .slice Y1 m1 m1, .slice U1 o1 o1]⟩] (w4.alloc (.cells #[.slice X1 n1 n1, .slice Y1 m1 m1, .slice U1 o1 o1] 26))) := Lib.hid (fm_push (fm_below FX8.out hb) rfl _ _)
        clear ho hb u0 u1 u2 FX8
        obtain ⟨⟨u0, u1, u2⟩, -⟩ := blk_three (fm_blk F4b.out 1 rfl)
        go_wp2_with fail
        refine (toLanes_any A2 n2 c2 B2 m2 d2 C2 o2 f2 l2 _ (la_below H2.out F4b.out.below) e7).mono ?_
        rintro e w5 ⟨X2, Y2, U2, h2, i2, rfl, ho, -, hb⟩
        have Q1b := Lib.hid (lr_alloc (lr_below Q1.out hb) (.cells #[.slice X2 n2 n2, .slice Y2 m2 m2, .slice U2 o2 o2] 26))
        have Q2 := Lib.hid (lr_alloc (lo_lr ho (by omega) (by omega) (by omega)) (.cells #[.slice X2 n2 n2, .slice Y2 m2 m2, .slice U2 o2 o2] 26))
        have F5b : Hid (Fm w [⟨w.heap.size, w.heap.size + 1, BoxP w.heap.size 57 #[.slice A1 n1 c1, .slice B1 m1 d1, .slice C1 o1 f1]⟩, ⟨w.heap.size + 1, w.heap.size + 2, BoxP (w.heap.size + 1) 57 #[.slice A2 n2 c2, .slice B2 m2 d2, .slice C2 o2 f2]⟩, ⟨w4.heap.size, w4.heap.size + 1, BoxP w4.heap.size 26 #[.slice X1 n1 n1, .slice Y1 m1 m1, .slice U1 o1 o1]⟩, ⟨w5.heap.size, w5.heap.size + 1, BoxP w5.heap.size 26 #[.slice X2 n2 n2, .slice Y2 m2 m2, .slice U2 o2 o2]⟩] (w5.alloc (.cells #[.slice X2 n2 n2, .slice Y2 m2 m2, .slice U2 o2 o2] 26))) := Lib.hid (fm_push (fm_below F4b.out hb) rfl _ _)
        clear ho hb u0 u1 u2 F4b Q1
        obtain ⟨⟨u0, u1, u2⟩, -⟩ := blk_three (fm_blk F5b.out 2 rfl)
        obtain ⟨⟨r0, r1, r2⟩, -⟩ := blk_three (fm_blk F5b.out 3 rfl)
        go_wp2_with fail
        refine (sameLI_any X1 n1 n1 Y1 m1 m1 U1 o1 o1 l1 X2 n2 n2 Y2 m2 m2 U2 o2 o2 l2 _ Q1b.out Q2.out).mono ?_
        rintro e w9 ⟨rfl, hb⟩
        rw [← HV.out]
        have F9 : Hid (Fm w [⟨w.heap.size, w.heap.size + 1, BoxP w.heap.size 57 #[.slice A1 n1 c1, .slice B1 m1 d1, .slice C1 o1 f1]⟩, ⟨w.heap.size + 1, w.heap.size + 2, BoxP (w.heap.size + 1) 57 #[.slice A2 n2 c2, .slice B2 m2 d2, .slice C2 o2 f2]⟩, ⟨w4.heap.size, w4.heap.size + 1, BoxP w4.heap.size 26 #[.slice X1 n1 n1, .slice Y1 m1 m1, .slice U1 o1 o1]⟩, ⟨w5.heap.size, w5.heap.size + 1, BoxP w5.heap.size 26 #[.slice X2 n2 n2, .slice Y2 m2 m2, .slice U2 o2 o2]⟩] w9) := Lib.hid (fm_below F5b.out hb)
        have Q1c := Lib.hid (lr_drew (lr_below Q1b.out hb))
        have Q2c := Lib.hid (lr_drew (lr_below Q2.out hb))
        clear hb u0 u1 u2 r0 r1 r2 F5b Q1b Q2
        have hS := fm_rdLL (fm_drew F9.out) 0 2 rfl rfl
        go_wp2_with fail
        go_region_held3 (fun w' => (w'.cell? ⟨w.heap.size, 0, none⟩ = some (.slice A1 n1 c1) ∧ w'.cell? ⟨w.heap.size, 1, none⟩ = some (.slice B1 m1 d1) ∧ w'.cell? ⟨w.heap.size, 2, none⟩ = some (.slice C1 o1 f1)) ∧ (w'.cell? ⟨w4.heap.size, 0, none⟩ = some (.slice X1 n1 n1) ∧ w'.cell? ⟨w4.heap.size, 1, none⟩ = some (.slice Y1 m1 m1) ∧ w'.cell? ⟨w4.heap.size, 2, none⟩ = some (.slice U1 o1 o1)) ∧ Fm w [⟨w.heap.size, w.heap.size + 1, BoxP w.heap.size 57 #[.slice A1 n1 c1, .slice B1 m1 d1, .slice C1 o1 f1]⟩, ⟨w.heap.size + 1, w.heap.size + 2, BoxP (w.heap.size + 1) 57 #[.slice A2 n2 c2, .slice B2 m2 d2, .slice C2 o2 f2]⟩, ⟨w4.heap.size, w4.heap.size + 1, BoxP w4.heap.size 26 #[.slice X1 n1 n1, .slice Y1 m1 m1, .slice U1 o1 o1]⟩, ⟨w5.heap.size, w5.heap.size + 1, BoxP w5.heap.size 26 #[.slice X2 n2 n2, .slice Y2 m2 m2, .slice U2 o2 o2]⟩] w')
          (first | (with_reducible assumption) | fail)
          (first
            | (go_at_call 36
               refine (eqLanes_same X1 Z1 n1 n1 n1 n1 Y1 Z2 m1 m1 m1 m1 U1 Z3 o1 o1 o1 o1 l1 _ Q1d.out PZ10.out).mono ?_
               rintro e w11 ⟨rfl, hb11⟩
               have FT11 : Hid (Fm w [⟨w.heap.size, w.heap.size + 1, BoxP w.heap.size 57 #[.slice A1 n1 c1, .slice B1 m1 d1, .slice C1 o1 f1]⟩, ⟨w.heap.size + 1, w.heap.size + 2, BoxP (w.heap.size + 1) 57 #[.slice A2 n2 c2, .slice B2 m2 d2, .slice C2 o2 f2]⟩, ⟨w4.heap.size, w4.heap.size + 1, BoxP w4.heap.size 26 #[.slice X1 n1 n1, .slice Y1 m1 m1, .slice U1 o1 o1]⟩, ⟨w5.heap.size, w5.heap.size + 1, BoxP w5.heap.size 26 #[.slice X2 n2 n2, .slice Y2 m2 m2, .slice U2 o2 o2]⟩] w11) := Lib.hid (fm_below FT10.out hb11)
               have Q2e := Lib.hid (lr_drew (lr_below Q2d.out hb11))
               have hS11 := fm_rdLL FT11.out 0 2 rfl rfl
               clear hb11)
            | (go_at_call 35
               refine (toLanes_any A1 n1 c1 B1 m1 d1 C1 o1 f1 l1 _ (la_below H.out (fm_drew F9.out).below) hbig).mono ?_
               rintro e w10 ⟨Z1, Z2, Z3, g1, i3, rfl, ho10, -, hb10⟩
               have PZ10 := Lib.hid (lo_lr ho10 (by omega) (by omega) (by omega))
               have Q1d := Lib.hid (lr_below Q1c.out hb10)
               have Q2d := Lib.hid (lr_below Q2c.out hb10)
               have FT10 : Hid (Fm w [⟨w.heap.size, w.heap.size + 1, BoxP w.heap.size 57 #[.slice A1 n1 c1, .slice B1 m1 d1, .slice C1 o1 f1]⟩, ⟨w.heap.size + 1, w.heap.size + 2, BoxP (w.heap.size + 1) 57 #[.slice A2 n2 c2, .slice B2 m2 d2, .slice C2 o2 f2]⟩, ⟨w4.heap.size, w4.heap.size + 1, BoxP w4.heap.size 26 #[.slice X1 n1 n1, .slice Y1 m1 m1, .slice U1 o1 o1]⟩, ⟨w5.heap.size, w5.heap.size + 1, BoxP w5.heap.size 26 #[.slice X2 n2 n2, .slice Y2 m2 m2, .slice U2 o2 o2]⟩] w10) := Lib.hid (fm_below (fm_drew F9.out) hb10)
               have hS10 := fm_rdLL FT10.out 0 2 rfl rfl
               clear hb10 ho10))
        all_goals
          clear PZ10 FT10 F9 hS hS10 hS11 Q1c Q1d Q2c Q2d
          have hS := fm_rdLL (fm_drew FT11.out) 1 3 rfl rfl
          go_wp2_with fail
          go_region_held3 (fun w' => (w'.cell? ⟨w.heap.size + 1, 0, none⟩ = some (.slice A2 n2 c2) ∧ w'.cell? ⟨w.heap.size + 1, 1, none⟩ = some (.slice B2 m2 d2) ∧ w'.cell? ⟨w.heap.size + 1, 2, none⟩ = some (.slice C2 o2 f2)) ∧ (w'.cell? ⟨w5.heap.size, 0, none⟩ = some (.slice X2 n2 n2) ∧ w'.cell? ⟨w5.heap.size, 1, none⟩ = some (.slice Y2 m2 m2) ∧ w'.cell? ⟨w5.heap.size, 2, none⟩ = some (.slice U2 o2 o2)) ∧ Fm w [⟨w.heap.size, w.heap.size + 1, BoxP w.heap.size 57 #[.slice A1 n1 c1, .slice B1 m1 d1, .slice C1 o1 f1]⟩, ⟨w.heap.size + 1, w.heap.size + 2, BoxP (w.heap.size + 1) 57 #[.slice A2 n2 c2, .slice B2 m2 d2, .slice C2 o2 f2]⟩, ⟨w4.heap.size, w4.heap.size + 1, BoxP w4.heap.size 26 #[.slice X1 n1 n1, .slice Y1 m1 m1, .slice U1 o1 o1]⟩, ⟨w5.heap.size, w5.heap.size + 1, BoxP w5.heap.size 26 #[.slice X2 n2 n2, .slice Y2 m2 m2, .slice U2 o2 o2]⟩] w')
            (first | (with_reducible assumption) | fail)
            (first
              | (go_at_call 36
                 refine (eqLanes_same X2 Z4 n2 n2 n2 n2 Y2 Z5 m2 m2 m2 m2 U2 Z6 o2 o2 o2 o2 l2 _ Q2f.out PZ12.out).mono ?_
                 rintro e w13 ⟨rfl, hb13⟩
                 have FT13 : Hid (Fm w [⟨w.heap.size, w.heap.size + 1, BoxP w.heap.size 57 #[.slice A1 n1 c1, .slice B1 m1 d1, .slice C1 o1 f1]⟩, ⟨w.heap.size + 1, w.heap.size + 2, BoxP (w.heap.size + 1) 57 #[.slice A2 n2 c2, .slice B2 m2 d2, .slice C2 o2 f2]⟩, ⟨w4.heap.size, w4.heap.size + 1, BoxP w4.heap.size 26 #[.slice X1 n1 n1, .slice Y1 m1 m1, .slice U1 o1 o1]⟩, ⟨w5.heap.size, w5.heap.size + 1, BoxP w5.heap.size 26 #[.slice X2 n2 n2, .slice Y2 m2 m2, .slice U2 o2 o2]⟩] w13) := Lib.hid (fm_below FT12.out hb13)
                 have hS13 := fm_rdLL FT13.out 1 3 rfl rfl
                 clear hb13)
              | (go_at_call 35
                 refine (toLanes_any A2 n2 c2 B2 m2 d2 C2 o2 f2 l2 _ (la_below H2.out (fm_drew FT11.out).below) e7).mono ?_
                 rintro e w12 ⟨Z4, Z5, Z6, g2, i4, rfl, ho12, -, hb12⟩
                 have PZ12 := Lib.hid (lo_lr ho12 (by omega) (by omega) (by omega))
                 have Q2f := Lib.hid (lr_below Q2e.out hb12)
                 have FT12 : Hid (Fm w [⟨w.heap.size, w.heap.size + 1, BoxP w.heap.size 57 #[.slice A1 n1 c1, .slice B1 m1 d1, .slice C1 o1 f1]⟩, ⟨w.heap.size + 1, w.heap.size + 2, BoxP (w.heap.size + 1) 57 #[.slice A2 n2 c2, .slice B2 m2 d2, .slice C2 o2 f2]⟩, ⟨w4.heap.size, w4.heap.size + 1, BoxP w4.heap.size 26 #[.slice X1 n1 n1, .slice Y1 m1 m1, .slice U1 o1 o1]⟩, ⟨w5.heap.size, w5.heap.size + 1, BoxP w5.heap.size 26 #[.slice X2 n2 n2, .slice Y2 m2 m2, .slice U2 o2 o2]⟩] w12) := Lib.hid (fm_below (fm_drew FT11.out) hb12)
                 have hS12 := fm_rdLL FT12.out 1 3 rfl rfl
                 clear hb12 ho12))
          all_goals
            clear hS hS12 hS13
            go_wp2
            go_ret
            exact ⟨rfl, FT13.out.below⟩
    · go_enter Try.func9, Try.ntmps9
      go_wp2_with fail
      refine (szLanes_any A1 n1 c1 B1 m1 d1 C1 o1 f1 l1 1048576 _ (la_below H.out F.out.below) (by omega)).mono ?_
      rintro e w1 ⟨rfl, hb⟩
      rw [if_neg (by omega)]
      have F1 := Lib.hid (fm_below F.out hb)
      clear hb F
      obtain ⟨⟨u0, u1, u2⟩, -⟩ := blk_three (fm_blk F1.out 1 rfl)
      go_wp2_with fail
      refine (szLanes_any A2 n2 c2 B2 m2 d2 C2 o2 f2 l2 ((1048576 : Int) - (lsz l1 : Int)) _ (la_below H2.out F1.out.below) (by omega)).mono ?_
      rintro e w2 ⟨rfl, hb⟩
      rw [if_pos (by omega)]
      have F2 := Lib.hid (fm_below F1.out hb)
      clear hb F1 u0 u1 u2 hbig2
      go_wp2
      go_ret
      exact ⟨rfl, F2.out.below⟩
  · go_enter Try.func9, Try.ntmps9
    go_wp2_with fail
    refine (szLanes_any A1 n1 c1 B1 m1 d1 C1 o1 f1 l1 1048576 _ (la_below H.out F.out.below) (by omega)).mono ?_
    rintro e w1 ⟨rfl, hb⟩
    rw [if_pos (by omega)]
    have F1 := Lib.hid (fm_below F.out hb)
    clear hb F hbig
    go_wp2
    go_ret
    exact ⟨rfl, F1.out.below⟩
end Go.Proofs.Ytffgblphimjipac.fnExactLanesSame
