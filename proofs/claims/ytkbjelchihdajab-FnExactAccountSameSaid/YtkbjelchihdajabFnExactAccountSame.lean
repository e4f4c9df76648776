/-
  The law FnExactAccountSame returns true at every argument: the program's AccountSame answers as the model's and writes into no argument. Conditions: none.
-/
import Derived.Test.YtkbjelchihdajabExA
namespace Go.Proofs.Ytkbjelchihdajab.fnExactAccountSame
open Go.ChangeShapes Go.WideShapes Go.ChangeAt Go.RowKit

set_option maxHeartbeats 4000000 in
theorem walk (l1 e1 : Int) (A1 : Option Addr) (n1 c1 : Nat) (us : List Int) (l2 e2 : Int) (A2 : Option Addr) (n2 c2 : Nat) (vs : List Int) (w : World) (h : NR w A1 n1 us) (hn1 : n1 ≤ 9223372036854775807) (h2 : NR w A2 n2 vs) (hn2 : n2 ≤ 9223372036854775807) :
    Calls Try.prog 8 #[.agg #[.int .i64 l1, .int .i64 e1, (.slice A1 n1 c1)], .agg #[.int .i64 l2, .int .i64 e2, (.slice A2 n2 c2)]] w fun e w' => e = .returned (.bool true) ∧ Below w.heap.size w w' := by
  have H := Lib.hid h
  have H2 := Lib.hid h2
  have F : Hid (Fm w [⟨w.heap.size, w.heap.size + 1, BoxP w.heap.size 43 #[.int .i64 l1, .int .i64 e1, (.slice A1 n1 c1)]⟩, ⟨w.heap.size + 1, w.heap.size + 1 + 1, BoxP (w.heap.size + 1) 43 #[.int .i64 l2, .int .i64 e2, (.slice A2 n2 c2)]⟩] ((w.alloc (.cells #[.int .i64 l1, .int .i64 e1, (.slice A1 n1 c1)] 43)).alloc (.cells #[.int .i64 l2, .int .i64 e2, (.slice A2 n2 c2)] 43))) := Lib.hid (by have o := fm_box (fm_box (fm_zero w) 43 #[.int .i64 l1, .int .i64 e1, (.slice A1 n1 c1)]) 43 #[.int .i64 l2, .int .i64 e2, (.slice A2 n2 c2)]; simpa using o)
  clear h h2
  by_cases hbig : n1 ≤ 1048576
  · have hd : 0 ≤ (1048576 : Int) - (n1 : Int) := by omega
    by_cases hbig2 : n1 + n2 ≤ 1048576
    · have hd2 : 0 ≤ (1048576 : Int) - (n1 : Int) - (n2 : Int) := by omega
      have hm1 : n1 ≤ 1048576 := by omega
      have hm2 : n2 ≤ 1048576 := by omega
      obtain ⟨v, hv⟩ : ∃ v, v = asB l1 e1 us l2 e2 vs := ⟨_, rfl⟩
      have HV := Lib.hid hv
      clear hv
      go_enter Try.func8, Try.ntmps8
      go_wp2_with fail
      refine (szAccount_any l1 e1 A1 n1 c1 1048576 _ hn1 (by omega)).mono ?_
      rintro e w1 ⟨rfl, hb⟩
      rw [if_neg (by omega)]
      have F1 : Hid (Fm w [⟨w.heap.size, w.heap.size + 1, BoxP w.heap.size 43 #[.int .i64 l1, .int .i64 e1, (.slice A1 n1 c1)]⟩, ⟨w.heap.size + 1, w.heap.size + 1 + 1, BoxP (w.heap.size + 1) 43 #[.int .i64 l2, .int .i64 e2, (.slice A2 n2 c2)]⟩] w1) := Lib.hid (fm_below F.out hb)
      clear hb F
      obtain ⟨⟨q0, q1, q2⟩, -⟩ := blk_three (fm_blk F1.out 1 rfl)
      go_wp2_with fail
      refine (szAccount_any l2 e2 A2 n2 c2 ((1048576 : Int) - (n1 : Int)) _ hn2 (by omega)).mono ?_
      rintro e w2 ⟨rfl, hb⟩
      rw [if_neg (by omega)]
      have F2 : Hid (Fm w [⟨w.heap.size, w.heap.size + 1, BoxP w.heap.size 43 #[.int .i64 l1, .int .i64 e1, (.slice A1 n1 c1)]⟩, ⟨w.heap.size + 1, w.heap.size + 1 + 1, BoxP (w.heap.size + 1) 43 #[.int .i64 l2, .int .i64 e2, (.slice A2 n2 c2)]⟩] w2) := Lib.hid (fm_below F1.out hb)
      clear hb F1 q0 q1 q2
      have hS := fm_rd33 (fm_drew F2.out) 0 1 rfl rfl
      go_wp2_with fail
      go_region_held3 (fun w' => (w'.cell? ⟨w.heap.size, 0, none⟩ = some (.int .i64 l1) ∧ w'.cell? ⟨w.heap.size, 1, none⟩ = some (.int .i64 e1) ∧ w'.cell? ⟨w.heap.size, 2, none⟩ = some (.slice A1 n1 c1)) ∧ (w'.cell? ⟨w.heap.size + 1, 0, none⟩ = some (.int .i64 l2) ∧ w'.cell? ⟨w.heap.size + 1, 1, none⟩ = some (.int .i64 e2) ∧ w'.cell? ⟨w.heap.size + 1, 2, none⟩ = some (.slice A2 n2 c2)) ∧ Fm w [⟨w.heap.size, w.heap.size + 1, BoxP w.heap.size 43 #[.int .i64 l1, .int .i64 e1, (.slice A1 n1 c1)]⟩, ⟨w.heap.size + 1, w.heap.size + 1 + 1, BoxP (w.heap.size + 1) 43 #[.int .i64 l2, .int .i64 e2, (.slice A2 n2 c2)]⟩] w')
        (first | (with_reducible assumption) | fail)
        (first
          | (go_at_call 33
             refine (asS_any l1 e1 l2 e2 X6 X7 n1 d6 n2 d7 us vs _ PX7.out PY7.out (by omega) (by omega)).mono ?_
             rintro e w8 ⟨rfl, hb8⟩
             rw [← HV.out]
             have FX8 : Hid (Fm w [⟨w.heap.size, w.heap.size + 1, BoxP w.heap.size 43 #[.int .i64 l1, .int .i64 e1, (.slice A1 n1 c1)]⟩, ⟨w.heap.size + 1, w.heap.size + 1 + 1, BoxP (w.heap.size + 1) 43 #[.int .i64 l2, .int .i64 e2, (.slice A2 n2 c2)]⟩] w8) := Lib.hid (fm_below FX7.out hb8)
             have hS8 := fm_rd33 FX8.out 0 1 rfl rfl
             clear hb8)
          | (go_at_call 31
             refine (toAccount_any l2 e2 A2 n2 c2 vs _ (nr_below H2.out FX6.out.below) hm2).mono ?_
             rintro e w7 ⟨X7, d7, rfl, ho7, hb7⟩
             have PY7 := Lib.hid (nr_own ho7)
             have PX7 := Lib.hid (nr_below PX6.out hb7)
             have FX7 : Hid (Fm w [⟨w.heap.size, w.heap.size + 1, BoxP w.heap.size 43 #[.int .i64 l1, .int .i64 e1, (.slice A1 n1 c1)]⟩, ⟨w.heap.size + 1, w.heap.size + 1 + 1, BoxP (w.heap.size + 1) 43 #[.int .i64 l2, .int .i64 e2, (.slice A2 n2 c2)]⟩] w7) := Lib.hid (fm_below FX6.out hb7)
             have hS7 := fm_rd33 FX7.out 0 1 rfl rfl
             clear hb7 ho7)
          | (go_at_call 31
             refine (toAccount_any l1 e1 A1 n1 c1 us _ (nr_below H.out (fm_drew F2.out).below) hm1).mono ?_
             rintro e w6 ⟨X6, d6, rfl, ho6, hb6⟩
             have PX6 := Lib.hid (nr_own ho6)
             have FX6 : Hid (Fm w [⟨w.heap.size, w.heap.size + 1, BoxP w.heap.size 43 #[.int .i64 l1, .int .i64 e1, (.slice A1 n1 c1)]⟩, ⟨w.heap.size + 1, w.heap.size + 1 + 1, BoxP (w.heap.size + 1) 43 #[.int .i64 l2, .int .i64 e2, (.slice A2 n2 c2)]⟩] w6) := Lib.hid (fm_below (fm_drew F2.out) hb6)
             have hS6 := fm_rd33 FX6.out 0 1 rfl rfl
             clear hb6 ho6))
      all_goals
        clear hS hS6 hS7 hS8 PX6 PX7 PY7 FX6 FX7 F2
        obtain ⟨⟨q0, q1, q2⟩, -⟩ := blk_three (fm_blk FX8.out 0 rfl)
        go_wp2_with fail
        refine (toAccount_any l1 e1 A1 n1 c1 us _ (nr_below H.out FX8.out.below) hm1).mono ?_
        rintro e w4 ⟨X1, d1, rfl, ho, hb⟩
        have F4 : Hid (Fm w [⟨w.heap.size, w.heap.size + 1, BoxP w.heap.size 43 #[.int .i64 l1, .int .i64 e1, (.slice A1 n1 c1)]⟩, ⟨w.heap.size + 1, w.heap.size + 1 + 1, BoxP (w.heap.size + 1) 43 #[.int .i64 l2, .int .i64 e2, (.slice A2 n2 c2)]⟩, ⟨w8.heap.size, w4.heap.size, OwnP w8.heap.size w4.heap.size 3 1 (.slice X1 n1 d1) n1 (icells us)⟩] w4) := Lib.hid (fm_own FX8.out hb ho rfl)
        have F4b : Hid (Fm w [⟨w.heap.size, w.heap.size + 1, BoxP w.heap.size 43 #[.int .i64 l1, .int .i64 e1, (.slice A1 n1 c1)]⟩, ⟨w.heap.size + 1, w.heap.size + 1 + 1, BoxP (w.heap.size + 1) 43 #[.int .i64 l2, .int .i64 e2, (.slice A2 n2 c2)]⟩, ⟨w8.heap.size, w4.heap.size, OwnP w8.heap.size w4.heap.size 3 1 (.slice X1 n1 d1) n1 (icells us)⟩, ⟨w4.heap.size, w4.heap.size + 1, BoxP w4.heap.size 31 #[.int .i64 l1, .int .i64 e1, (.slice X1 n1 d1)]⟩] (w4.alloc (.cells #[.int .i64 l1, .int .i64 e1, (.slice X1 n1 d1)] 31))) := Lib.hid (fm_box F4.out _ _)
        clear ho hb q0 q1 q2 F4 FX8
        obtain ⟨⟨q0, q1, q2⟩, -⟩ := blk_three (fm_blk F4b.out 1 rfl)
        go_wp2_with fail
        refine (toAccount_any l2 e2 A2 n2 c2 vs _ (nr_below H2.out F4b.out.below) hm2).mono ?_
        rintro e w5 ⟨X2, d2, rfl, ho, hb⟩
        have F5 : Hid (Fm w [⟨w.heap.size, w.heap.size + 1, BoxP w.heap.size 43 #[.int .i64 l1, .int .i64 e1, (.slice A1 n1 c1)]⟩, ⟨w.heap.size + 1, w.heap.size + 1 + 1, BoxP (w.heap.size + 1) 43 #[.int .i64 l2, .int .i64 e2, (.slice A2 n2 c2)]⟩, ⟨w8.heap.size, w4.heap.size, OwnP w8.heap.size w4.heap.size 3 1 (.slice X1 n1 d1) n1 (icells us)⟩, ⟨w4.heap.size, w4.heap.size + 1, BoxP w4.heap.size 31 #[.int .i64 l1, .int .i64 e1, (.slice X1 n1 d1)]⟩, ⟨w4.heap.size + 1, w5.heap.size, OwnP (w4.heap.size + 1) w5.heap.size 3 1 (.slice X2 n2 d2) n2 (icells vs)⟩] w5) := Lib.hid (fm_own F4b.out hb ho (by simp))
        have F5b : Hid (Fm w [⟨w.heap.size, w.heap.size + 1, BoxP w.heap.size 43 #[.int .i64 l1, .int .i64 e1, (.slice A1 n1 c1)]⟩, ⟨w.heap.size + 1, w.heap.size + 1 + 1, BoxP (w.heap.size + 1) 43 #[.int .i64 l2, .int .i64 e2, (.slice A2 n2 c2)]⟩, ⟨w8.heap.size, w4.heap.size, OwnP w8.heap.size w4.heap.size 3 1 (.slice X1 n1 d1) n1 (icells us)⟩, ⟨w4.heap.size, w4.heap.size + 1, BoxP w4.heap.size 31 #[.int .i64 l1, .int .i64 e1, (.slice X1 n1 d1)]⟩, ⟨w4.heap.size + 1, w5.heap.size, OwnP (w4.heap.size + 1) w5.heap.size 3 1 (.slice X2 n2 d2) n2 (icells vs)⟩, ⟨w5.heap.size, w5.heap.size + 1, BoxP w5.heap.size 31 #[.int .i64 l2, .int .i64 e2, (.slice X2 n2 d2)]⟩] (w5.alloc (.cells #[.int .i64 l2, .int .i64 e2, (.slice X2 n2 d2)] 31))) := Lib.hid (fm_box F5.out _ _)
        clear ho hb q0 q1 q2 F5 F4b
        obtain ⟨⟨q0, q1, q2⟩, -⟩ := blk_three (fm_blk F5b.out 3 rfl)
        obtain ⟨⟨r0, r1, r2⟩, -⟩ := blk_three (fm_blk F5b.out 5 rfl)
        go_wp2_with fail
        refine (asI_any l1 e1 l2 e2 X1 X2 n1 d1 n2 d2 us vs _ (nr_own (fm_row F5b.out 2 rfl)) (nr_own (fm_row F5b.out 4 rfl)) (by omega) (by omega)).mono ?_
        rintro e w9 ⟨rfl, hb⟩
        rw [← HV.out]
        have F9 : Hid (Fm w [⟨w.heap.size, w.heap.size + 1, BoxP w.heap.size 43 #[.int .i64 l1, .int .i64 e1, (.slice A1 n1 c1)]⟩, ⟨w.heap.size + 1, w.heap.size + 1 + 1, BoxP (w.heap.size + 1) 43 #[.int .i64 l2, .int .i64 e2, (.slice A2 n2 c2)]⟩, ⟨w8.heap.size, w4.heap.size, OwnP w8.heap.size w4.heap.size 3 1 (.slice X1 n1 d1) n1 (icells us)⟩, ⟨w4.heap.size, w4.heap.size + 1, BoxP w4.heap.size 31 #[.int .i64 l1, .int .i64 e1, (.slice X1 n1 d1)]⟩, ⟨w4.heap.size + 1, w5.heap.size, OwnP (w4.heap.size + 1) w5.heap.size 3 1 (.slice X2 n2 d2) n2 (icells vs)⟩, ⟨w5.heap.size, w5.heap.size + 1, BoxP w5.heap.size 31 #[.int .i64 l2, .int .i64 e2, (.slice X2 n2 d2)]⟩] w9) := Lib.hid (fm_below F5b.out hb)
        clear hb q0 q1 q2 r0 r1 r2 F5b
        have hS := fm_rd33 (fm_drew F9.out) 0 3 rfl rfl
        go_wp2_with fail
        go_region_held3 (fun w' => (w'.cell? ⟨w.heap.size, 0, none⟩ = some (.int .i64 l1) ∧ w'.cell? ⟨w.heap.size, 1, none⟩ = some (.int .i64 e1) ∧ w'.cell? ⟨w.heap.size, 2, none⟩ = some (.slice A1 n1 c1)) ∧ (w'.cell? ⟨w4.heap.size, 0, none⟩ = some (.int .i64 l1) ∧ w'.cell? ⟨w4.heap.size, 1, none⟩ = some (.int .i64 e1) ∧ w'.cell? ⟨w4.heap.size, 2, none⟩ = some (.slice X1 n1 d1)) ∧ Fm w [⟨w.heap.size, w.heap.size + 1, BoxP w.heap.size 43 #[.int .i64 l1, .int .i64 e1, (.slice A1 n1 c1)]⟩, ⟨w.heap.size + 1, w.heap.size + 1 + 1, BoxP (w.heap.size + 1) 43 #[.int .i64 l2, .int .i64 e2, (.slice A2 n2 c2)]⟩, ⟨w8.heap.size, w4.heap.size, OwnP w8.heap.size w4.heap.size 3 1 (.slice X1 n1 d1) n1 (icells us)⟩, ⟨w4.heap.size, w4.heap.size + 1, BoxP w4.heap.size 31 #[.int .i64 l1, .int .i64 e1, (.slice X1 n1 d1)]⟩, ⟨w4.heap.size + 1, w5.heap.size, OwnP (w4.heap.size + 1) w5.heap.size 3 1 (.slice X2 n2 d2) n2 (icells vs)⟩, ⟨w5.heap.size, w5.heap.size + 1, BoxP w5.heap.size 31 #[.int .i64 l2, .int .i64 e2, (.slice X2 n2 d2)]⟩] w')
          (first | (with_reducible assumption) | fail)
          (first
            | (go_at_call 26
               refine (eqAccount_same l1 e1 X1 Z1 n1 d1 n1 f1 us _ (nr_own (fm_row FT10.out 2 rfl)) PZ10.out (by omega) (by omega)).mono ?_
               rintro e w11 ⟨rfl, hb11⟩
               have FT11 : Hid (Fm w [⟨w.heap.size, w.heap.size + 1, BoxP w.heap.size 43 #[.int .i64 l1, .int .i64 e1, (.slice A1 n1 c1)]⟩, ⟨w.heap.size + 1, w.heap.size + 1 + 1, BoxP (w.heap.size + 1) 43 #[.int .i64 l2, .int .i64 e2, (.slice A2 n2 c2)]⟩, ⟨w8.heap.size, w4.heap.size, OwnP w8.heap.size w4.heap.size 3 1 (.slice X1 n1 d1) n1 (icells us)⟩, ⟨w4.heap.size, w4.heap.size + 1, BoxP w4.heap.size 31 #[.int .i64 l1, .int .i64 e1, (.slice X1 n1 d1)]⟩, ⟨w4.heap.size + 1, w5.heap.size, OwnP (w4.heap.size + 1) w5.heap.size 3 1 (.slice X2 n2 d2) n2 (icells vs)⟩, ⟨w5.heap.size, w5.heap.size + 1, BoxP w5.heap.size 31 #[.int .i64 l2, .int .i64 e2, (.slice X2 n2 d2)]⟩] w11) := Lib.hid (fm_below FT10.out hb11)
               have hS11 := fm_rd33 FT11.out 0 3 rfl rfl
               clear hb11)
            | (go_at_call 31
               refine (toAccount_any l1 e1 A1 n1 c1 us _ (nr_below H.out (fm_drew F9.out).below) hm1).mono ?_
               rintro e w10 ⟨Z1, f1, rfl, ho10, hb10⟩
               have PZ10 := Lib.hid (nr_own ho10)
               have FT10 : Hid (Fm w [⟨w.heap.size, w.heap.size + 1, BoxP w.heap.size 43 #[.int .i64 l1, .int .i64 e1, (.slice A1 n1 c1)]⟩, ⟨w.heap.size + 1, w.heap.size + 1 + 1, BoxP (w.heap.size + 1) 43 #[.int .i64 l2, .int .i64 e2, (.slice A2 n2 c2)]⟩, ⟨w8.heap.size, w4.heap.size, OwnP w8.heap.size w4.heap.size 3 1 (.slice X1 n1 d1) n1 (icells us)⟩, ⟨w4.heap.size, w4.heap.size + 1, BoxP w4.heap.size 31 #[.int .i64 l1, .int .i64 e1, (.slice X1 n1 d1)]⟩, ⟨w4.heap.size + 1, w5.heap.size, OwnP (w4.heap.size + 1) w5.heap.size 3 1 (.slice X2 n2 d2) n2 (icells vs)⟩, ⟨w5.heap.size, w5.heap.size + 1, BoxP w5.heap.size 31 #[.int .i64 l2, .int .i64 e2, (.slice X2 n2 d2)]⟩] w10) := Lib.hid (fm_below (fm_drew F9.out) hb10)
               have hS10 := fm_rd33 FT10.out 0 3 rfl rfl
               clear hb10 ho10))
        all_goals
          clear PZ10 FT10 F9 hS hS10 hS11
          have hS := fm_rd33 (fm_drew FT11.out) 1 5 rfl rfl
          go_wp2_with fail
          go_region_held3 (fun w' => (w'.cell? ⟨w.heap.size + 1, 0, none⟩ = some (.int .i64 l2) ∧ w'.cell? ⟨w.heap.size + 1, 1, none⟩ = some (.int .i64 e2) ∧ w'.cell? ⟨w.heap.size + 1, 2, none⟩ = some (.slice A2 n2 c2)) ∧ (w'.cell? ⟨w5.heap.size, 0, none⟩ = some (.int .i64 l2) ∧ w'.cell? ⟨w5.heap.size, 1, none⟩ = some (.int .i64 e2) ∧ w'.cell? ⟨w5.heap.size, 2, none⟩ = some (.slice X2 n2 d2)) ∧ Fm w [⟨w.heap.size, w.heap.size + 1, BoxP w.heap.size 43 #[.int .i64 l1, .int .i64 e1, (.slice A1 n1 c1)]⟩, ⟨w.heap.size + 1, w.heap.size + 1 + 1, BoxP (w.heap.size + 1) 43 #[.int .i64 l2, .int .i64 e2, (.slice A2 n2 c2)]⟩, ⟨w8.heap.size, w4.heap.size, OwnP w8.heap.size w4.heap.size 3 1 (.slice X1 n1 d1) n1 (icells us)⟩, ⟨w4.heap.size, w4.heap.size + 1, BoxP w4.heap.size 31 #[.int .i64 l1, .int .i64 e1, (.slice X1 n1 d1)]⟩, ⟨w4.heap.size + 1, w5.heap.size, OwnP (w4.heap.size + 1) w5.heap.size 3 1 (.slice X2 n2 d2) n2 (icells vs)⟩, ⟨w5.heap.size, w5.heap.size + 1, BoxP w5.heap.size 31 #[.int .i64 l2, .int .i64 e2, (.slice X2 n2 d2)]⟩] w')
            (first | (with_reducible assumption) | fail)
            (first
              | (go_at_call 26
                 refine (eqAccount_same l2 e2 X2 Z2 n2 d2 n2 f2 vs _ (nr_own (fm_row FT12.out 4 rfl)) PZ12.out (by omega) (by omega)).mono ?_
                 rintro e w13 ⟨rfl, hb13⟩
                 have FT13 : Hid (Fm w [⟨w.heap.size, w.heap.size + 1, BoxP w.heap.size 43 #[.int .i64 l1, .int .i64 e1, (.slice A1 n1 c1)]⟩, ⟨w.heap.size + 1, w.heap.size + 1 + 1, BoxP (w.heap.size + 1) 43 #[.int .i64 l2, .int .i64 e2, (.slice A2 n2 c2)]⟩, ⟨w8.heap.size, w4.heap.size, OwnP w8.heap.size w4.heap.size 3 1 (.slice X1 n1 d1) n1 (icells us)⟩, ⟨w4.heap.size, w4.heap.size + 1, BoxP w4.heap.size 31 #[.int .i64 l1, .int .i64 e1, (.slice X1 n1 d1)]⟩, ⟨w4.heap.size + 1, w5.heap.size, OwnP (w4.heap.size + 1) w5.heap.size 3 1 (.slice X2 n2 d2) n2 (icells vs)⟩, ⟨w5.heap.size, w5.heap.size + 1, BoxP w5.heap.size 31 #[.int .i64 l2, .int .i64 e2, (.slice X2 n2 d2)]⟩] w13) := Lib.hid (fm_below FT12.out hb13)
                 have hS13 := fm_rd33 FT13.out 1 5 rfl rfl
                 clear hb13)
              | (go_at_call 31
                 refine (toAccount_any l2 e2 A2 n2 c2 vs _ (nr_below H2.out (fm_drew FT11.out).below) hm2).mono ?_
                 rintro e w12 ⟨Z2, f2, rfl, ho12, hb12⟩
                 have PZ12 := Lib.hid (nr_own ho12)
                 have FT12 : Hid (Fm w [⟨w.heap.size, w.heap.size + 1, BoxP w.heap.size 43 #[.int .i64 l1, .int .i64 e1, (.slice A1 n1 c1)]⟩, ⟨w.heap.size + 1, w.heap.size + 1 + 1, BoxP (w.heap.size + 1) 43 #[.int .i64 l2, .int .i64 e2, (.slice A2 n2 c2)]⟩, ⟨w8.heap.size, w4.heap.size, OwnP w8.heap.size w4.heap.size 3 1 (.slice X1 n1 d1) n1 (icells us)⟩, ⟨w4.heap.size, w4.heap.size + 1, BoxP w4.heap.size 31 #[.int .i64 l1, .int .i64 e1, (.slice X1 n1 d1)]⟩, ⟨w4.heap.size + 1, w5.heap.size, OwnP (w4.heap.size + 1) w5.heap.size 3 1 (.slice X2 n2 d2) n2 (icells vs)⟩, ⟨w5.heap.size, w5.heap.size + 1, BoxP w5.heap.size 31 #[.int .i64 l2, .int .i64 e2, (.slice X2 n2 d2)]⟩] w12) := Lib.hid (fm_below (fm_drew FT11.out) hb12)
                 have hS12 := fm_rd33 FT12.out 1 5 rfl rfl
                 clear hb12 ho12))
          all_goals
            go_wp2
            go_ret
            exact ⟨rfl, FT13.out.below⟩
    · go_enter Try.func8, Try.ntmps8
      go_wp2_with fail
      refine (szAccount_any l1 e1 A1 n1 c1 1048576 _ hn1 (by omega)).mono ?_
      rintro e w1 ⟨rfl, hb⟩
      rw [if_neg (by omega)]
      have F1 : Hid (Fm w [⟨w.heap.size, w.heap.size + 1, BoxP w.heap.size 43 #[.int .i64 l1, .int .i64 e1, (.slice A1 n1 c1)]⟩, ⟨w.heap.size + 1, w.heap.size + 1 + 1, BoxP (w.heap.size + 1) 43 #[.int .i64 l2, .int .i64 e2, (.slice A2 n2 c2)]⟩] w1) := Lib.hid (fm_below F.out hb)
      clear hb F
      obtain ⟨⟨q0, q1, q2⟩, -⟩ := blk_three (fm_blk F1.out 1 rfl)
      go_wp2_with fail
      refine (szAccount_any l2 e2 A2 n2 c2 ((1048576 : Int) - (n1 : Int)) _ hn2 (by omega)).mono ?_
      rintro e w2 ⟨rfl, hb⟩
      rw [if_pos (by omega)]
      have F2 : Hid (Fm w [⟨w.heap.size, w.heap.size + 1, BoxP w.heap.size 43 #[.int .i64 l1, .int .i64 e1, (.slice A1 n1 c1)]⟩, ⟨w.heap.size + 1, w.heap.size + 1 + 1, BoxP (w.heap.size + 1) 43 #[.int .i64 l2, .int .i64 e2, (.slice A2 n2 c2)]⟩] w2) := Lib.hid (fm_below F1.out hb)
      clear hb F1 q0 q1 q2
      go_wp2
      go_ret
      exact ⟨rfl, F2.out.below⟩
  · go_enter Try.func8, Try.ntmps8
    go_wp2_with fail
    refine (szAccount_any l1 e1 A1 n1 c1 1048576 _ hn1 (by omega)).mono ?_
    rintro e w1 ⟨rfl, hb⟩
    rw [if_pos (by omega)]
    have F1 : Hid (Fm w [⟨w.heap.size, w.heap.size + 1, BoxP w.heap.size 43 #[.int .i64 l1, .int .i64 e1, (.slice A1 n1 c1)]⟩, ⟨w.heap.size + 1, w.heap.size + 1 + 1, BoxP (w.heap.size + 1) 43 #[.int .i64 l2, .int .i64 e2, (.slice A2 n2 c2)]⟩] w1) := Lib.hid (fm_below F.out hb)
    clear hb F
    go_wp2
    go_ret
    exact ⟨rfl, F1.out.below⟩
theorem own : ownKnob Try.prog.godebug = none := by kernel_rfl
theorem laidOut : laidOutB Try.prog = true := by kernel_rfl
set_option maxRecDepth 100000 in
theorem lifted (os : Os) (started : os.Started) (H : Type) (enc : TypeId × Value → H) :
    ReturnsInHanded {} Try.checked os 8 .any (Rows.fnExactAccountSameSpec.pre6 enc Try.prog Try.f8 Rows.fnExactAccountSameRow.domain false) (Rows.fnExactAccountSameSpec.post enc Try.prog Try.f8 false true false false) := by
  refine returnsInHanded_of_change (C := Try.checked) own started (by kernel_rfl) Try.func8
    (ChangeSpec.witness6 (enc := enc) (C := Try.checked) false ⟨#[], #[.agg #[.int .i64 0, .int .i64 0, .slice none 0 0], .agg #[.int .i64 0, .int .i64 0, .slice none 0 0]], []⟩ 8 (by kernel_rfl) (by kernel_rfl) (by kernel_rfl) (by kernel_rfl)) ?_
  intro W base args ds gs before hval0 hW _ _
  have hval : ∀ (j : Nat) t v, Try.f8.params[j]? = some t → args[j]? = some v → Value.okWide Try.prog W .any base t v := hval0
  have hW' := hW
  obtain ⟨p, q, hA0, hV, rfl, _, _⟩ := hW
  have hA : DataW.TrodAll enc Try.prog W 0 (fun _ => true) true Try.f8.params.toList args.toList ds p := hA0
  rw [Try.params8] at hA hval
  obtain ⟨v0, vs0, d0, ds0, p0, q0, hargs, rfl, rfl, h0, r0⟩ := trodAll_cons hA
  obtain ⟨v1, vs1, d1, ds1, p1, q1, rfl, rfl, rfl, h1, r1⟩ := trodAll_cons r0
  obtain ⟨rfl, rfl, rfl⟩ := trodAll_nil r1
  obtain rfl : args = #[v0, v1] := by cases args; simp_all
  obtain ⟨rfl, rfl⟩ := trodVars_none hV
  have lt0 : ∀ x ∈ p0, x.block < W.heap.size := by obtain ⟨m, hm⟩ := h0; exact DataW.trod_lt m _ _ _ hm
  have ok0 := (hval 0 43 v0 rfl rfl)
  obtain ⟨p0a, p0b, p0c, y0a, y0b, y0c, nf0, rfl, _, _, t0a, t0b, t0c⟩ := Go.Joins.open_agg3 Try.underlying43 (by kernel_rfl) (by kernel_rfl) ok0 h0
  obtain ⟨x0a, e0a, _, _⟩ := DataW.trod_int Try.underlying3 t0a
  obtain rfl : p0a = .int .i64 x0a := by simpa using e0a
  obtain ⟨x0b, e0b, _, _⟩ := DataW.trod_int Try.underlying3 t0b
  obtain rfl : p0b = .int .i64 x0b := by simpa using e0b
  obtain ⟨a0, n0, c0, x0, rfl, w0, m0⟩ := ints_open1 t0c
  have lt1 : ∀ x ∈ p1, x.block < W.heap.size := by obtain ⟨m, hm⟩ := h1; exact DataW.trod_lt m _ _ _ hm
  have ok1 := (hval 1 43 v1 rfl rfl)
  obtain ⟨p1a, p1b, p1c, y1a, y1b, y1c, nf1, rfl, _, _, t1a, t1b, t1c⟩ := Go.Joins.open_agg3 Try.underlying43 (by kernel_rfl) (by kernel_rfl) ok1 h1
  obtain ⟨x1a, e1a, _, _⟩ := DataW.trod_int Try.underlying3 t1a
  obtain rfl : p1a = .int .i64 x1a := by simpa using e1a
  obtain ⟨x1b, e1b, _, _⟩ := DataW.trod_int Try.underlying3 t1b
  obtain rfl : p1b = .int .i64 x1b := by simpa using e1b
  obtain ⟨a1, n1, c1, x1, rfl, w1, m1⟩ := ints_open1 t1c
  clear hA0 hval0
  refine (walk x0a x0b a0 n0 c0 x0 x1a x1b a1 n1 c1 x1 W w0 m0 w1 m1).mono fun e W' ⟨he, bel⟩ => ?_
  subst he
  exact ⟨_, rfl, _, _, _, [], _, [], hW', trodAll_mk1 (shut_bool Try.underlying4 _), (trodAll_cons_mk (Below.trod laidOut (by kernel_rfl) (of_decide_eq_true (by kernel_rfl)) h0 bel lt0) (trodAll_cons_mk (Below.trod laidOut (by kernel_rfl) (of_decide_eq_true (by kernel_rfl)) h1 bel lt1) trodAll_mk0)), rfl, bel.frame _, fun h => by cases h⟩
theorem over : Rows.fnExactAccountSameRow.holds Try.pinned (OpenSpec.ofChange Rows.fnExactAccountSameSpec) :=
  OpenClaim.holds_of_wide 8 Try.f8 rfl rfl rfl rfl rfl rfl rfl ⟨rfl, rfl, rfl, rfl, rfl⟩ rfl rfl rfl rfl rfl (by kernel_rfl) Try.func8 (by kernel_rfl)
    (of_decide_eq_true (by kernel_rfl)) (by unfold Func.isWrapper; first | (rw [if_pos (by decide +kernel)]; kernel_rfl) | (rw [if_neg (by decide +kernel)]; exact ⟨rfl, rfl⟩))
    (fun os started H enc _ => lifted os started H enc)
/-- the given statement -/
theorem proved : Rows.FnExactAccountSameSaid := over
end Go.Proofs.Ytkbjelchihdajab.fnExactAccountSame
