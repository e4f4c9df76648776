/-
  The law FnExactSettingsValid returns true at every argument: the program's SettingsValid answers as the model's and writes into no argument. Conditions: none.
-/
import Derived.Test.YtiodhdcgfdlknaaKb7Z3
import Derived.Test.YtiodhdcgfdlknaaKbpZ3
namespace Go.Proofs.Ytiodhdcgfdlknaa.fnExactSettingsValid
open Go.ChangeShapes Go.WideShapes Go.ChangeAt Go.RowKit
theorem scj {w : World} {b : Nat} {t : TypeId} {s : St} {A : Option Addr} {n c : Nat} (B : Blk w b t (stc s A n c)) : (w.cell? ⟨b, 0, none⟩ = some (.int .i64 s.r) ∧ w.cell? ⟨b, 1, none⟩ = some (.int .i64 s.b) ∧ w.cell? ⟨b, 2, none⟩ = some (.int .i64 s.pr) ∧ w.cell? ⟨b, 3, none⟩ = some (.int .i64 s.pb) ∧ w.cell? ⟨b, 4, none⟩ = some (.int .i64 s.me) ∧ w.cell? ⟨b, 5, none⟩ = some (.int .i64 s.ea) ∧ w.cell? ⟨b, 6, none⟩ = some (.int .i64 s.q) ∧ w.cell? ⟨b, 7, none⟩ = some (.slice A n c)) :=
  ⟨blk_cell B 0, blk_cell B 1, blk_cell B 2, blk_cell B 3, blk_cell B 4, blk_cell B 5, blk_cell B 6, blk_cell B 7⟩
set_option maxRecDepth 100000 in
set_option maxHeartbeats 8000000 in
theorem walk (s : St) (A : Option Addr) (n c : Nat) (w : World) (h : NR w A n s.ws) (hn : n ≤ 9223372036854775807) :
    Calls Try.prog 3 #[.agg (stc s A n c)] w fun e w' => e = .returned (.bool true) ∧ Below w.heap.size w w' := by
  have H := Lib.hid h
  have B0 := Lib.hid (below_alloc (Below.refl w.heap.size w) (.cells (stc s A n c) 24))
  have A0 := Lib.hid (blk_new w 24 (stc s A n c))
  clear h
  obtain ⟨q0, q1, q2, q3, q4, q5, q6, q7⟩ := sc_blk (A0.out)
  by_cases hbig : n ≤ 1048576
  · have hle : ¬ (1048576 : Int) < (n : Int) := by omega
    have hd : decide ((1048576 : Int) - (n : Int) < 0) = false := by simp; omega
    have hd0 : 0 ≤ (1048576 : Int) - (n : Int) := by omega
    go_enter Try.func3, Try.ntmps3
    go_wp2_with fail
    refine (szSettings_any s A n c 1048576 _ hn (by omega)).mono ?_
    rintro e w1 ⟨rfl, hb⟩
    rw [if_neg (by omega)]
    have B1 := Lib.hid (below_seq B0.out hb)
    have A1 := Lib.hid (blk_below A0.out hb (by simp))
    clear hb hle
    clear q0 q1 q2 q3 q4 q5 q6 q7
    obtain ⟨q0, q1, q2, q3, q4, q5, q6, q7⟩ := sc_blk (A1.out)
    go_wp2_with fail
    refine (toSettings_any s A n c _ (nr_below H.out B1.out) hbig).mono ?_
    rintro e w2 ⟨A2, c2, rfl, ho, hb⟩
    have X2 := Lib.hid (nr_own ho)
    have B2 := Lib.hid (below_seq B1.out hb)
    have A2b := Lib.hid (blk_below A1.out hb (blk_lt A1.out))
    clear hb ho
    clear q0 q1 q2 q3 q4 q5 q6 q7
    go_wp2_with fail
    refine (svS_any s A2 n c2 _ X2.out (by omega)).mono ?_
    rintro e w3 ⟨rfl, hb⟩
    have B3 := Lib.hid (below_seq B2.out hb)
    have A3 := Lib.hid (blk_below A2b.out hb (blk_lt A2b.out))
    clear hb X2 A2b
    obtain ⟨q0, q1, q2, q3, q4, q5, q6, q7⟩ := sc_blk (A3.out)
    go_wp2_with fail
    refine (toSettings_any s A n c _ (nr_below H.out B3.out) hbig).mono ?_
    rintro e w4 ⟨A4, c4, rfl, ho, hb⟩
    unfold stc
    have X4 := Lib.hid (nr_alloc (nr_own ho) (.cells (stc s A4 n c4) 27))
    have B4 := Lib.hid (below_alloc (below_seq B3.out hb) (.cells (stc s A4 n c4) 27))
    have A4b := Lib.hid (blk_alloc (blk_below A3.out hb (blk_lt A3.out)) (.cells (stc s A4 n c4) 27))
    have Y4 := Lib.hid (blk_new w4 27 (stc s A4 n c4))
    clear hb ho
    clear q0 q1 q2 q3 q4 q5 q6 q7
    go_wp2_with fail
    refine (svI_any s A4 n c4 _ X4.out (by omega)).mono ?_
    rintro e w5 ⟨rfl, hb⟩
    have X5 := Lib.hid (nr_below X4.out hb)
    have B5 := Lib.hid (below_seq B4.out hb)
    have A5 := Lib.hid (blk_below A4b.out hb (blk_lt A4b.out))
    have Y5 := Lib.hid (blk_below Y4.out hb (blk_lt Y4.out))
    clear hb
    have hS : (w5.drew.cell? ⟨w.heap.size, 0, none⟩ = some (.int .i64 s.r) ∧ w5.drew.cell? ⟨w.heap.size, 1, none⟩ = some (.int .i64 s.b) ∧ w5.drew.cell? ⟨w.heap.size, 2, none⟩ = some (.int .i64 s.pr) ∧ w5.drew.cell? ⟨w.heap.size, 3, none⟩ = some (.int .i64 s.pb) ∧ w5.drew.cell? ⟨w.heap.size, 4, none⟩ = some (.int .i64 s.me) ∧ w5.drew.cell? ⟨w.heap.size, 5, none⟩ = some (.int .i64 s.ea) ∧ w5.drew.cell? ⟨w.heap.size, 6, none⟩ = some (.int .i64 s.q) ∧ w5.drew.cell? ⟨w.heap.size, 7, none⟩ = some (.slice A n c)) ∧ (w5.drew.cell? ⟨w4.heap.size, 0, none⟩ = some (.int .i64 s.r) ∧ w5.drew.cell? ⟨w4.heap.size, 1, none⟩ = some (.int .i64 s.b) ∧ w5.drew.cell? ⟨w4.heap.size, 2, none⟩ = some (.int .i64 s.pr) ∧ w5.drew.cell? ⟨w4.heap.size, 3, none⟩ = some (.int .i64 s.pb) ∧ w5.drew.cell? ⟨w4.heap.size, 4, none⟩ = some (.int .i64 s.me) ∧ w5.drew.cell? ⟨w4.heap.size, 5, none⟩ = some (.int .i64 s.ea) ∧ w5.drew.cell? ⟨w4.heap.size, 6, none⟩ = some (.int .i64 s.q) ∧ w5.drew.cell? ⟨w4.heap.size, 7, none⟩ = some (.slice A4 n c4)) ∧ Below w5.heap.size w5 w5.drew := ⟨scj (blk_below A5.out (Below.refl _ _).drew (blk_lt A5.out)), scj (blk_below Y5.out (Below.refl _ _).drew (blk_lt Y5.out)), (Below.refl _ _).drew⟩
    go_wp2_with fail
    go_region_held3 (fun w' => (w'.cell? ⟨w.heap.size, 0, none⟩ = some (.int .i64 s.r) ∧ w'.cell? ⟨w.heap.size, 1, none⟩ = some (.int .i64 s.b) ∧ w'.cell? ⟨w.heap.size, 2, none⟩ = some (.int .i64 s.pr) ∧ w'.cell? ⟨w.heap.size, 3, none⟩ = some (.int .i64 s.pb) ∧ w'.cell? ⟨w.heap.size, 4, none⟩ = some (.int .i64 s.me) ∧ w'.cell? ⟨w.heap.size, 5, none⟩ = some (.int .i64 s.ea) ∧ w'.cell? ⟨w.heap.size, 6, none⟩ = some (.int .i64 s.q) ∧ w'.cell? ⟨w.heap.size, 7, none⟩ = some (.slice A n c)) ∧ (w'.cell? ⟨w4.heap.size, 0, none⟩ = some (.int .i64 s.r) ∧ w'.cell? ⟨w4.heap.size, 1, none⟩ = some (.int .i64 s.b) ∧ w'.cell? ⟨w4.heap.size, 2, none⟩ = some (.int .i64 s.pr) ∧ w'.cell? ⟨w4.heap.size, 3, none⟩ = some (.int .i64 s.pb) ∧ w'.cell? ⟨w4.heap.size, 4, none⟩ = some (.int .i64 s.me) ∧ w'.cell? ⟨w4.heap.size, 5, none⟩ = some (.int .i64 s.ea) ∧ w'.cell? ⟨w4.heap.size, 6, none⟩ = some (.int .i64 s.q) ∧ w'.cell? ⟨w4.heap.size, 7, none⟩ = some (.slice A4 n c4)) ∧ Below w5.heap.size w5 w')
      (first | (with_reducible assumption) | fail)
      (first
        | (go_at_call 16
           refine (eqSettings_same s A4 A6 n c4 n c6 _ (nr_below X5.out K6.out) PX6.out (by omega) (by omega)).mono ?_
           rintro e w7 ⟨rfl, hb7⟩
           have K7 := Lib.hid (below_seq K6.out hb7)
           have hS7 : (w7.cell? ⟨w.heap.size, 0, none⟩ = some (.int .i64 s.r) ∧ w7.cell? ⟨w.heap.size, 1, none⟩ = some (.int .i64 s.b) ∧ w7.cell? ⟨w.heap.size, 2, none⟩ = some (.int .i64 s.pr) ∧ w7.cell? ⟨w.heap.size, 3, none⟩ = some (.int .i64 s.pb) ∧ w7.cell? ⟨w.heap.size, 4, none⟩ = some (.int .i64 s.me) ∧ w7.cell? ⟨w.heap.size, 5, none⟩ = some (.int .i64 s.ea) ∧ w7.cell? ⟨w.heap.size, 6, none⟩ = some (.int .i64 s.q) ∧ w7.cell? ⟨w.heap.size, 7, none⟩ = some (.slice A n c)) ∧ (w7.cell? ⟨w4.heap.size, 0, none⟩ = some (.int .i64 s.r) ∧ w7.cell? ⟨w4.heap.size, 1, none⟩ = some (.int .i64 s.b) ∧ w7.cell? ⟨w4.heap.size, 2, none⟩ = some (.int .i64 s.pr) ∧ w7.cell? ⟨w4.heap.size, 3, none⟩ = some (.int .i64 s.pb) ∧ w7.cell? ⟨w4.heap.size, 4, none⟩ = some (.int .i64 s.me) ∧ w7.cell? ⟨w4.heap.size, 5, none⟩ = some (.int .i64 s.ea) ∧ w7.cell? ⟨w4.heap.size, 6, none⟩ = some (.int .i64 s.q) ∧ w7.cell? ⟨w4.heap.size, 7, none⟩ = some (.slice A4 n c4)) ∧ Below w5.heap.size w5 w7 := ⟨scj (blk_below A5.out K7.out (blk_lt A5.out)), scj (blk_below Y5.out K7.out (blk_lt Y5.out)), K7.out⟩
           clear hb7)
        | (go_at_call 14
           refine (toSettings_any s A n c _ (nr_below H.out (below_seq B5.out (Below.refl w5.heap.size w5).drew)) hbig).mono ?_
           rintro e w6 ⟨A6, c6, rfl, ho6, hb6⟩
           have PX6 := Lib.hid (nr_own ho6)
           have K6 := Lib.hid (below_seq (Below.refl w5.heap.size w5).drew hb6)
           have hS6 : (w6.cell? ⟨w.heap.size, 0, none⟩ = some (.int .i64 s.r) ∧ w6.cell? ⟨w.heap.size, 1, none⟩ = some (.int .i64 s.b) ∧ w6.cell? ⟨w.heap.size, 2, none⟩ = some (.int .i64 s.pr) ∧ w6.cell? ⟨w.heap.size, 3, none⟩ = some (.int .i64 s.pb) ∧ w6.cell? ⟨w.heap.size, 4, none⟩ = some (.int .i64 s.me) ∧ w6.cell? ⟨w.heap.size, 5, none⟩ = some (.int .i64 s.ea) ∧ w6.cell? ⟨w.heap.size, 6, none⟩ = some (.int .i64 s.q) ∧ w6.cell? ⟨w.heap.size, 7, none⟩ = some (.slice A n c)) ∧ (w6.cell? ⟨w4.heap.size, 0, none⟩ = some (.int .i64 s.r) ∧ w6.cell? ⟨w4.heap.size, 1, none⟩ = some (.int .i64 s.b) ∧ w6.cell? ⟨w4.heap.size, 2, none⟩ = some (.int .i64 s.pr) ∧ w6.cell? ⟨w4.heap.size, 3, none⟩ = some (.int .i64 s.pb) ∧ w6.cell? ⟨w4.heap.size, 4, none⟩ = some (.int .i64 s.me) ∧ w6.cell? ⟨w4.heap.size, 5, none⟩ = some (.int .i64 s.ea) ∧ w6.cell? ⟨w4.heap.size, 6, none⟩ = some (.int .i64 s.q) ∧ w6.cell? ⟨w4.heap.size, 7, none⟩ = some (.slice A4 n c4)) ∧ Below w5.heap.size w5 w6 := ⟨scj (blk_below A5.out K6.out (blk_lt A5.out)), scj (blk_below Y5.out K6.out (blk_lt Y5.out)), K6.out⟩
           clear hb6 ho6))
    all_goals
      clear PX6 hS hS6 hS7
      go_wp2
      go_ret
      exact ⟨rfl, below_seq B5.out K7.out⟩
  · have hle : (1048576 : Int) < (n : Int) := by omega
    go_enter Try.func3, Try.ntmps3
    go_wp2_with fail
    refine (szSettings_any s A n c 1048576 _ hn (by omega)).mono ?_
    rintro e w1 ⟨rfl, hb⟩
    rw [if_pos (by omega)]
    have B1 := Lib.hid (below_seq B0.out hb)
    clear hb hle hbig
    go_wp2
    go_ret
    exact ⟨rfl, B1.out⟩
end Go.Proofs.Ytiodhdcgfdlknaa.fnExactSettingsValid
