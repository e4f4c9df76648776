/-
  The draw of two queues. Conditions: none.
-/
import Derived.Test.YtapoahoknlaeaaaQDr
namespace Go.Proofs.Ytapoahoknlaeaaa
open Go.RowKit

structure SD (w : World) (L base : Nat) (lim : Int) (A : Option Addr) (n c : Nat) (ps : List Pkt) (w' : World) : Prop where
  t : Blk w' L 25 #[.int .i64 lim, (.slice A n c)]
  own : w'.ownsRow base 27 4 (.slice A n c) n (pcells ps)
  b : Below w.heap.size w w'
  hL : w.heap.size + 2 ≤ L
  hb : w.heap.size + 2 ≤ base
section
variable {w w1 w2 : World} {L base : Nat} {lim : Int} {A : Option Addr} {n c : Nat} {ps : List Pkt}
theorem sd_drew (h : SD w L base lim A n c ps w1) : SD w L base lim A n c ps w1.drew := ⟨h.t, h.own, h.b.drew, h.hL, h.hb⟩
theorem sd_grown {g : Nat} (h : SD w L base lim A n c ps w1) (hg : w1.grownBy w2 (some g)) (hgb : g < base) (hgL : L ≠ g) (hgw : w.heap.size ≤ g) : SD w L base lim A n c ps w2 :=
  ⟨blk_grown h.t hg hgL, own_far' h.own hg hgb, below_grown h.b h.b.size hg hgw, h.hL, h.hb⟩
theorem sd_set (h : SD w L base lim A n c ps w1) (j k : Nat) (hj : w.heap.size ≤ j ∧ j < w.heap.size + 2) (u : Value) : SD w L base lim A n c ps (w1.setCell ⟨j, k, none⟩ u) :=
  ⟨blk_far h.t (by have := h.hL; simp; omega) u, own_set_far h.own (by have := h.hb; simp; omega) u, Below.setCell h.b (by simp; omega) u, h.hL, h.hb⟩
theorem sd_cells (h : SD w L base lim A n c ps w1) : w1.cell? ⟨L, 0, none⟩ = some (.int .i64 lim) ∧ w1.cell? ⟨L, 1, none⟩ = some (.slice A n c) ∧ SD w L base lim A n c ps w1 := ⟨blk_cell h.t 0, blk_cell h.t 1, h⟩
end
def DrawnQQ (w : World) (e : Ending) (w' : World) : Prop :=
  ∃ lim A n c ps, ∃ lim2 A2 n2 c2 ps2, e = .returned (.tuple #[.agg #[.int .i64 lim, (.slice A n c)], .agg #[.int .i64 lim2, (.slice A2 n2 c2)]]) ∧ n ≤ 80 ∧ n2 ≤ 80 ∧ PR w' A n ps ∧ PR w' A2 n2 ps2 ∧ Below w.heap.size w w'
set_option maxHeartbeats 2000000 in
theorem drawQueueSame_any (A : Option Addr) (n c : Nat) (w : World) (h : Bytes w A n c) :
    Calls Try.prog 38 #[.slice A n c] w (DrawnQQ w) := by
  go_enter Try.func38, Try.ntmps38
  go_wp2_with fail
  refine (open_any A n c _ (bytes_below (bytes_below h (below_alloc (Below.refl _ _) _)) (below_alloc (Below.refl _ _) _))).mono ?_
  rintro e w1 ⟨g, rfl, hg, hb, hr⟩
  have O1 := Lib.hid (blk_below (blk_alloc (blk_new w 25 #[.int .i64 0, (.slice none 0 0)]) _) hb (by simp <;> omega))
  have P1 := Lib.hid (blk_below (blk_new2 w _ 25 #[.int .i64 0, (.slice none 0 0)]) hb (by simp))
  have B1 := Lib.hid (below_from (below_alloc (below_alloc (Below.refl w.heap.size w) (.cells #[.int .i64 0, (.slice none 0 0)] 25)) (.cells #[.int .i64 0, (.slice none 0 0)] 25)) hb (by simp <;> omega))
  have hz1 := hb.size
  simp at hz1 hg
  have HR := Lib.hid hr
  have hgl := rd_lt hr
  clear hb hr h
  go_wp2_with fail
  refine (l3Draw_any g 0 _ HR.out (by omega)).mono ?_
  rintro e w2 ⟨lim, A2, n2, c2, ps, rfl, -, hn2, ho2, hg2, hr2⟩
  have O2 := Lib.hid (blk_alloc (blk_grown O1.out hg2 (by omega)) (.cells #[.int .i64 lim, (.slice A2 n2 c2)] 25))
  have P2 := Lib.hid (blk_alloc (blk_grown P1.out hg2 (by omega)) (.cells #[.int .i64 lim, (.slice A2 n2 c2)] 25))
  have B2 := Lib.hid (below_grown B1.out (by omega) hg2 (by omega))
  have hz2 := hg2.size
  have S2 : Hid (SD w w2.heap.size w1.heap.size lim A2 n2 c2 ps (w2.alloc (.cells #[.int .i64 lim, (.slice A2 n2 c2)] 25))) := Lib.hid ⟨blk_new _ _ _, ho2.alloc _, below_alloc B2.out _, by omega, by omega⟩
  have HR2 := Lib.hid (rd_below hr2 (below_alloc (Below.refl _ _) (.cells #[.int .i64 lim, (.slice A2 n2 c2)] 25)))
  clear ho2 hg2 hr2 HR O1 B1 P1 B2
  go_wp2_with fail
  refine (pick_any g _ 3 _ HR2.out (by omega) (by omega)).mono ?_
  rintro e w3 ⟨k, rfl, hk, hg3, hr3⟩
  have o3 := blk_grown O2.out hg3 (by omega)
  have p3 := blk_grown P2.out hg3 (by omega)
  have O3 := Lib.hid (show Blk w3.drew w.heap.size 25 #[.int .i64 0, (.slice none 0 0)] from o3)
  have P3 := Lib.hid (show Blk w3.drew (w.heap.size + 1) 25 #[.int .i64 0, (.slice none 0 0)] from p3)
  clear o3 p3
  have S3 := Lib.hid (sd_drew (sd_grown S2.out hg3 hgl (by omega) (by omega)))
  have HR3 := Lib.hid (show RdAt w3.drew g _ from hr3)
  have hz3 := hg3.size
  simp at hz3
  have hgw : w.heap.size + 2 ≤ g := by omega
  clear hg3 hr3 HR2 O2 P2 S2
  have hS := sd_cells S3.out
  by_cases hk0 : ((k : Int) == 0) = true
  · go_wp2_with fail
    go_region_held3 (fun w' => w'.cell? ⟨w2.heap.size, 0, none⟩ = some (.int .i64 lim) ∧ w'.cell? ⟨w2.heap.size, 1, none⟩ = some (.slice A2 n2 c2) ∧ SD w w2.heap.size w1.heap.size lim A2 n2 c2 ps w')
      (first
        | (with_reducible assumption)
        | (with_reducible exact sd_cells (sd_set (sd_set hS4.2.2 _ _ (by omega) _) _ _ (by omega) _))
        | (with_reducible exact sd_cells (sd_set (sd_set (sd_set (sd_set hS4.2.2 _ _ (by omega) _) _ _ (by omega) _) _ _ (by omega) _) _ _ (by omega) _))
        | fail)
      (first
        | (go_at_call 44
           refine (l3Draw_any g _ _ HR3.out (by omega)).mono ?_
           rintro e w4 ⟨lim4, A4, n4, c4, ps4, rfl, -, hn4, ho4, hg4, -⟩
           have hS4 := sd_cells (sd_grown S3.out hg4 hgl (by omega) (by omega))
           obtain ⟨d0, d1, f0, f1⟩ := blk_two (blk_grown O3.out hg4 (by omega))
           obtain ⟨d2, d3, f2, f3⟩ := blk_two (blk_grown P3.out hg4 (by omega))
           have HO4 := Lib.hid ho4
           clear ho4 hg4))
    all_goals
      go_wp2
      refine bodyPost_ret (v := .tuple #[.agg #[.int .i64 lim, (.slice A2 n2 c2)], .agg #[.int .i64 lim4, (.slice A4 n4 c4)]]) (by simp [results, Try.results38, go_sem, d0, d1, d2, d3]) rfl ⟨lim, A2, n2, c2, ps, lim4, A4, n4, c4, ps4, rfl, by omega, by omega, ?_, ?_, ?_⟩
      · exact pr_own (SD.own (sd_set (sd_set (sd_set (sd_set hS4.2.2 _ _ (by omega) _) _ _ (by omega) _) _ _ (by omega) _) _ _ (by omega) _))
      · exact pr_own (own_set_far (own_set_far (own_set_far (own_set_far HO4.out (by simp <;> omega) _) (by simp <;> omega) _) (by simp <;> omega) _) (by simp <;> omega) _)
      · exact SD.b (sd_set (sd_set (sd_set (sd_set hS4.2.2 _ _ (by omega) _) _ _ (by omega) _) _ _ (by omega) _) _ _ (by omega) _)
  · go_wp2_with fail
    go_region_held3 (fun w' => w'.cell? ⟨w2.heap.size, 0, none⟩ = some (.int .i64 lim) ∧ w'.cell? ⟨w2.heap.size, 1, none⟩ = some (.slice A2 n2 c2) ∧ SD w w2.heap.size w1.heap.size lim A2 n2 c2 ps w')
      (first
        | (with_reducible assumption)
        | (with_reducible exact sd_cells (sd_set (sd_set hS6.2.2 _ _ (by omega) _) _ _ (by omega) _))
        | (with_reducible exact sd_cells (sd_set (sd_set (sd_set (sd_set hS6.2.2 _ _ (by omega) _) _ _ (by omega) _) _ _ (by omega) _) _ _ (by omega) _))
        | fail)
      (first
        | (go_at_call 43
           refine (l3Wrong_any g _ lim5 A5 n5 c5 ps5 _ HR5.out (by omega) HP5.out (by omega)).mono ?_
           rintro e w6 ⟨lim6, A6, n6, c6, ps6, rfl, hn6, ho6, hg6, -⟩
           have hS6 := sd_cells (sd_grown HS5.out hg6 hgl (by omega) (by omega))
           obtain ⟨d0, d1, f0, f1⟩ := blk_two (blk_grown O5.out hg6 (by omega))
           obtain ⟨d2, d3, f2, f3⟩ := blk_two (blk_grown P5.out hg6 (by omega))
           have HO6 := Lib.hid ho6
           clear ho6 hg6)
        | (go_at_call 43
           refine (l3Wrong_any g _ lim4 A4 n4 c4 ps4 _ HR4.out (by omega) HP4.out (by omega)).mono ?_
           rintro e w5 ⟨lim5, A5, n5, c5, ps5, rfl, hn5, ho5, hg5, hr5⟩
           have HS5 := Lib.hid (sd_grown HS4.out hg5 hgl (by omega) (by omega))
           have hS5 := sd_cells HS5.out
           have O5 := Lib.hid (blk_grown O4.out hg5 (by omega))
           have P5 := Lib.hid (blk_grown P4.out hg5 (by omega))
           have HP5 := Lib.hid (pr_own ho5)
           have HR5 := Lib.hid hr5
           have hz5 := hg5.size
           clear ho5 hg5 hr5)
        | (go_at_call 43
           refine (l3Wrong_any g _ lim A2 n2 c2 ps _ HR3.out (by omega) (pr_own S3.out.own) (by omega)).mono ?_
           rintro e w4 ⟨lim4, A4, n4, c4, ps4, rfl, hn4, ho4, hg4, hr4⟩
           have HS4 := Lib.hid (sd_grown S3.out hg4 hgl (by omega) (by omega))
           have hS4 := sd_cells HS4.out
           have O4 := Lib.hid (blk_grown O3.out hg4 (by omega))
           have P4 := Lib.hid (blk_grown P3.out hg4 (by omega))
           have HP4 := Lib.hid (pr_own ho4)
           have HR4 := Lib.hid hr4
           have hz4 := hg4.size
           simp at hz4
           clear ho4 hg4 hr4))
    all_goals
      go_wp2
      refine bodyPost_ret (v := .tuple #[.agg #[.int .i64 lim, (.slice A2 n2 c2)], .agg #[.int .i64 lim6, (.slice A6 n6 c6)]]) (by simp [results, Try.results38, go_sem, d0, d1, d2, d3]) rfl ⟨lim, A2, n2, c2, ps, lim6, A6, n6, c6, ps6, rfl, by omega, by omega, ?_, ?_, ?_⟩
      · exact pr_own (SD.own (sd_set (sd_set (sd_set (sd_set hS6.2.2 _ _ (by omega) _) _ _ (by omega) _) _ _ (by omega) _) _ _ (by omega) _))
      · exact pr_own (own_set_far (own_set_far (own_set_far (own_set_far HO6.out (by simp <;> omega) _) (by simp <;> omega) _) (by simp <;> omega) _) (by simp <;> omega) _)
      · exact SD.b (sd_set (sd_set (sd_set (sd_set hS6.2.2 _ _ (by omega) _) _ _ (by omega) _) _ _ (by omega) _) _ _ (by omega) _)
end Go.Proofs.Ytapoahoknlaeaaa
