/-
  The law FnExactRobinValid returns true at every argument: the program's RobinValid answers as the model's and writes into no argument. Conditions: none.
-/
import Derived.Test.YtehokkijfgiggaaREx
namespace Go.Proofs.Ytehokkijfgiggaa.fnExactRobinValid
open Go.ChangeShapes Go.WideShapes Go.ChangeAt Go.RowKit

theorem both (q : Int) (fs : List Flw) : ∃ (ok : Bool), Hid (∀ (A : Option Addr) (n c : Nat) (w : World), FR w A n fs → Calls Try.prog 36 #[.agg #[.int .i64 q, (.slice A n c)]] w (fun e w' => e = .returned (.bool ok) ∧ Below w.heap.size w w')) ∧
    Hid (∀ (A : Option Addr) (n c : Nat) (w : World), FR w A n fs → Calls Try.prog 23 #[.agg #[.int .i64 q, (.slice A n c)]] w (fun e w' => e = .returned (.bool ok) ∧ Below w.heap.size w w')) := by
  exact ⟨rvB q fs, Lib.hid fun A n c w h => rvS_any q A n c fs w h, Lib.hid fun A n c w h => rvI_any q A n c fs w h⟩

set_option maxRecDepth 100000 in
set_option maxHeartbeats 8000000 in
theorem walk (q : Int) (A : Option Addr) (n c : Nat) (fs : List Flw) (w : World) (h : FA w A n fs) (hn : n ≤ 9223372036854775807)  :
    Calls Try.prog 9 #[.agg #[.int .i64 q, (.slice A n c)]] w fun e w' => e = .returned (.bool true) ∧ Below w.heap.size w w' := by
  have H := Lib.hid h
  have B0 := Lib.hid (below_alloc (Below.refl w.heap.size w) (.cells #[.int .i64 q, (.slice A n c)] 51))
  have A0 := Lib.hid (blk_new w 51 #[.int .i64 q, (.slice A n c)])
  clear h
  by_cases hbig : (n : Int) + (total fs : Int) ≤ 1048576
  · obtain ⟨ok, HS0, HI0⟩ := both q fs
    have hn1 : n ≤ 1048576 := by omega
    have ht1 : total fs ≤ 1048576 := by omega
    have hfl := fa_len H.out
    have hc := cntF_eq fs
    have kx : decide (1 + cntF fs < 0) = false := by simp; omega
    have kx0 : 0 ≤ 1 + cntF fs := by omega
    have hle : ¬ (1048576 : Int) < (n : Int) + (total fs : Int) := by omega
    have hd : decide ((1048576 : Int) - (n : Int) - (total fs : Int) < 0) = false := by simp; omega
    clear hc hfl
    go_enter Try.func9, Try.ntmps9
    go_wp2_with fail
    refine (szRobin_any q A n c fs 1048576 _ (fa_below H.out B0.out) hn (by omega)).mono ?_
    rintro e w1 ⟨rfl, hb⟩
    rw [if_neg (by omega)]
    have B1 := Lib.hid (below_seq B0.out hb)
    have A1 := Lib.hid (blk_below A0.out hb (by simp))
    clear hb hle
    obtain ⟨q0, q1, -, -⟩ := blk_two (A1.out)
    go_wp2_with fail
    refine (toRobin_any q A n c fs _ (fa_below H.out B1.out) hn1 ht1).mono ?_
    rintro e w2 ⟨A2, hs2, rfl, hD, hb⟩
    have X2 := Lib.hid (do_fr hD (by omega))
    have B2 := Lib.hid (below_seq B1.out hb)
    have A2b := Lib.hid (blk_below A1.out hb (blk_lt A1.out))
    clear hb hD q0 q1
    go_wp2_with fail
    refine (HS0.out A2 n n _ X2.out).mono ?_
    rintro e w3 ⟨rfl, hb⟩
    have B3 := Lib.hid (below_seq B2.out hb)
    have A3 := Lib.hid (blk_below A2b.out hb (blk_lt A2b.out))
    have za : w.heap.size < w3.heap.size := blk_lt A3.out
    clear hb X2 A2b
    have F3 : Hid (Fm w3 [] w3) := Lib.hid (fm_zero w3)
    obtain ⟨q0, q1, -, -⟩ := blk_two (blk_below A3.out F3.out.below za)
    go_wp2_with fail
    refine (toRobin_any q A n c fs _ (fa_below H.out (below_seq B3.out F3.out.below)) hn1 ht1).mono ?_
    rintro e w4 ⟨A4, hs4, rfl, hD, hb⟩
    have F4 : Hid (Fm w3 [⟨w3.heap.size, w4.heap.size, DOI (w3.heap.size) w4.heap.size (.slice A4 n n) n hs4 fs⟩] w4) := Lib.hid (fm_doi F3.out hb hD (by simp))
    clear F3
    clear hb hD q0 q1
    have F4b : Hid (Fm w3 [⟨w3.heap.size, w4.heap.size, DOI (w3.heap.size) w4.heap.size (.slice A4 n n) n hs4 fs⟩, ⟨w4.heap.size, w4.heap.size + 1, BoxP (w4.heap.size) 25 #[.int .i64 q, (.slice A4 n n)]⟩] (w4.alloc (.cells #[.int .i64 q, (.slice A4 n n)] 25))) := Lib.hid (fm_push F4.out (by simp) _ _)
    clear F4
    obtain ⟨x0, x1, -, -⟩ := blk_two (fm_blk F4b.out 1 rfl)
    go_wp2_with fail
    refine (HI0.out A4 n n _ (doi_fr (fm_get F4b.out 0 rfl) (by omega))).mono ?_
    rintro e w5 ⟨rfl, hb⟩
    have F5 : Hid (Fm w3 [⟨w3.heap.size, w4.heap.size, DOI (w3.heap.size) w4.heap.size (.slice A4 n n) n hs4 fs⟩, ⟨w4.heap.size, w4.heap.size + 1, BoxP (w4.heap.size) 25 #[.int .i64 q, (.slice A4 n n)]⟩] w5) := Lib.hid (fm_below F4b.out hb)
    clear F4b
    clear hb
    clear x0 x1
    have hS := fm_rd22 (fm_drew F5.out) A3.out 1 rfl
    go_wp2_with fail
    go_region_held3 (fun w' => (w'.cell? ⟨w.heap.size, 0, none⟩ = some (.int .i64 q) ∧ w'.cell? ⟨w.heap.size, 1, none⟩ = some (.slice A n c)) ∧ (w'.cell? ⟨w4.heap.size, 0, none⟩ = some (.int .i64 q) ∧ w'.cell? ⟨w4.heap.size, 1, none⟩ = some (.slice A4 n n)) ∧ Fm w3 [⟨w3.heap.size, w4.heap.size, DOI (w3.heap.size) w4.heap.size (.slice A4 n n) n hs4 fs⟩, ⟨w4.heap.size, w4.heap.size + 1, BoxP (w4.heap.size) 25 #[.int .i64 q, (.slice A4 n n)]⟩] w')
      (first | (with_reducible assumption) | fail)
      (first
        | (go_at_call 38
           refine (eqRobin_same q A4 A6 n n n n fs _ (doi_fr (fm_get FX6.out 0 rfl) (by omega)) PX6.out).mono ?_
           rintro e w7 ⟨rfl, hb7⟩
           have FX7 : Hid (Fm w3 [⟨w3.heap.size, w4.heap.size, DOI (w3.heap.size) w4.heap.size (.slice A4 n n) n hs4 fs⟩, ⟨w4.heap.size, w4.heap.size + 1, BoxP (w4.heap.size) 25 #[.int .i64 q, (.slice A4 n n)]⟩] w7) := Lib.hid (fm_below FX6.out hb7)
           have hS7 := fm_rd22 FX7.out A3.out 1 rfl
           clear hb7)
        | (go_at_call 37
           refine (toRobin_any q A n c fs _ (fa_below H.out (below_seq B3.out (fm_drew F5.out).below)) hn1 ht1).mono ?_
           rintro e w6 ⟨A6, hs6, rfl, ho6, hb6⟩
           have PX6 := Lib.hid (do_fr ho6 (by omega))
           have FX6 : Hid (Fm w3 [⟨w3.heap.size, w4.heap.size, DOI (w3.heap.size) w4.heap.size (.slice A4 n n) n hs4 fs⟩, ⟨w4.heap.size, w4.heap.size + 1, BoxP (w4.heap.size) 25 #[.int .i64 q, (.slice A4 n n)]⟩] w6) := Lib.hid (fm_below (fm_drew F5.out) hb6)
           have hS6 := fm_rd22 FX6.out A3.out 1 rfl
           clear hb6 ho6))
    all_goals
      clear PX6 FX6 F5 hS hS6 hS7
      go_wp2
      go_ret
      exact ⟨rfl, below_seq B3.out FX7.out.below⟩
  · have hle : (1048576 : Int) < (n : Int) + (total fs : Int) := by omega
    go_enter Try.func9, Try.ntmps9
    go_wp2_with fail
    refine (szRobin_any q A n c fs 1048576 _ (fa_below H.out B0.out) hn (by omega)).mono ?_
    rintro e w1 ⟨rfl, hb⟩
    rw [if_pos (by omega)]
    have B1 := Lib.hid (below_seq B0.out hb)
    clear hb hle hbig
    go_wp2
    go_ret
    exact ⟨rfl, B1.out⟩
end Go.Proofs.Ytehokkijfgiggaa.fnExactRobinValid
