/-
  Chapter 4: the draw of two accounts. Conditions: none.
-/
import Derived.Test.YtkbjelchihdajaaADr
namespace Go.Proofs.Ytkbjelchihdajaa
open Go.RowKit

structure SA (w : World) (L base : Nat) (lim each : Int) (A : Option Addr) (c : Nat) (us : List Int) (w' : World) : Prop where
  t : Blk w' L 25 #[.int .i64 lim, .int .i64 each, (.slice A 8 c)]
  own : w'.ownsRow base 3 1 (.slice A 8 c) 8 (icells us)
  b : Below w.heap.size w w'
  hL : w.heap.size + 2 ≤ L
  hb : w.heap.size + 2 ≤ base
section
variable {w w1 w2 : World} {L base : Nat} {lim each : Int} {A : Option Addr} {c : Nat} {us : List Int}
theorem sa_drew (h : SA w L base lim each A c us w1) : SA w L base lim each A c us w1.drew := ⟨h.t, World.ownsRow.drew h.own, h.b.drew, h.hL, h.hb⟩
theorem sa_grown {g : Nat} (h : SA w L base lim each A c us w1) (hg : w1.grownBy w2 (some g)) (hgb : g < base) (hgL : L ≠ g) (hgw : w.heap.size ≤ g) : SA w L base lim each A c us w2 :=
  ⟨blk_grown h.t hg hgL, own_farI h.own hg hgb, below_grown h.b h.b.size hg hgw, h.hL, h.hb⟩
theorem sa_set (h : SA w L base lim each A c us w1) (j k : Nat) (hj : w.heap.size ≤ j ∧ j < w.heap.size + 2) (u : Value) : SA w L base lim each A c us (w1.setCell ⟨j, k, none⟩ u) :=
  ⟨blk_far h.t (by have := h.hL; simp; omega) u, own_set_far h.own (by have := h.hb; simp; omega) u, Below.setCell h.b (by simp; omega) u, h.hL, h.hb⟩
theorem sa_cells (h : SA w L base lim each A c us w1) : w1.cell? ⟨L, 0, none⟩ = some (.int .i64 lim) ∧ w1.cell? ⟨L, 1, none⟩ = some (.int .i64 each) ∧ w1.cell? ⟨L, 2, none⟩ = some (.slice A 8 c) ∧ SA w L base lim each A c us w1 := ⟨blk_cell h.t 0, blk_cell h.t 1, blk_cell h.t 2, h⟩
end
def DrawnAA (w : World) (e : Ending) (w' : World) : Prop :=
  ∃ lim each A n c us, ∃ lim2 each2 A2 n2 c2 us2, e = .returned (.tuple #[.agg #[.int .i64 lim, .int .i64 each, (.slice A n c)], .agg #[.int .i64 lim2, .int .i64 each2, (.slice A2 n2 c2)]]) ∧ n ≤ 8 ∧ n2 ≤ 8 ∧ NR w' A n us ∧ NR w' A2 n2 us2 ∧ Below w.heap.size w w'
set_option maxHeartbeats 2000000 in
theorem drawAccountSame_any (A : Option Addr) (n c : Nat) (w : World) (h : Bytes w A n c) :
    Calls Try.prog 36 #[.slice A n c] w (DrawnAA w) := by
  go_enter Try.func36, Try.ntmps36
  go_wp2_with fail
  refine (open_any A n c _ (bytes_below (bytes_below h (below_alloc (Below.refl _ _) _)) (below_alloc (Below.refl _ _) _))).mono ?_
  rintro e w1 ⟨g, rfl, hg, hb, hr⟩
  have O1 := Lib.hid (blk_below (blk_alloc (blk_new w 25 #[.int .i64 0, .int .i64 0, (.slice none 0 0)]) _) hb (by simp <;> omega))
  have P1 := Lib.hid (blk_below (blk_new2 w _ 25 #[.int .i64 0, .int .i64 0, (.slice none 0 0)]) hb (by simp))
  have B1 := Lib.hid (below_from (below_alloc (below_alloc (Below.refl w.heap.size w) (.cells #[.int .i64 0, .int .i64 0, (.slice none 0 0)] 25)) (.cells #[.int .i64 0, .int .i64 0, (.slice none 0 0)] 25)) hb (by simp <;> omega))
  have hz1 := hb.size
  simp at hz1 hg
  have HR := Lib.hid hr
  have hgl := rd_lt hr
  clear hb hr h
  go_wp2_with fail
  refine (l4Draw_any g 0 _ HR.out (by omega)).mono ?_
  rintro e w2 ⟨lim, each, A2, c2, us, rfl, -, ho2, hg2, hr2⟩
  have O2 := Lib.hid (blk_alloc (blk_grown O1.out hg2 (by omega)) (.cells #[.int .i64 lim, .int .i64 each, (.slice A2 8 c2)] 25))
  have P2 := Lib.hid (blk_alloc (blk_grown P1.out hg2 (by omega)) (.cells #[.int .i64 lim, .int .i64 each, (.slice A2 8 c2)] 25))
  have B2 := Lib.hid (below_grown B1.out (by omega) hg2 (by omega))
  have hz2 := hg2.size
  have S2 : Hid (SA w w2.heap.size w1.heap.size lim each A2 c2 us (w2.alloc (.cells #[.int .i64 lim, .int .i64 each, (.slice A2 8 c2)] 25))) := Lib.hid ⟨blk_new _ _ _, ho2.alloc _, below_alloc B2.out _, by omega, by omega⟩
  have HR2 := Lib.hid (rd_below hr2 (below_alloc (Below.refl _ _) (.cells #[.int .i64 lim, .int .i64 each, (.slice A2 8 c2)] 25)))
  clear ho2 hg2 hr2 HR O1 B1 P1 B2
  go_wp2_with fail
  refine (pick_any g _ 3 _ HR2.out (by omega) (by omega)).mono ?_
  rintro e w3 ⟨k, rfl, hk, hg3, hr3⟩
  have o3 := blk_grown O2.out hg3 (by omega)
  have p3 := blk_grown P2.out hg3 (by omega)
  have O3 := Lib.hid (show Blk w3.drew w.heap.size 25 #[.int .i64 0, .int .i64 0, (.slice none 0 0)] from o3)
  have P3 := Lib.hid (show Blk w3.drew (w.heap.size + 1) 25 #[.int .i64 0, .int .i64 0, (.slice none 0 0)] from p3)
  clear o3 p3
  have S3 := Lib.hid (sa_drew (sa_grown S2.out hg3 hgl (by omega) (by omega)))
  have HR3 := Lib.hid (show RdAt w3.drew g _ from hr3)
  have hz3 := hg3.size
  simp at hz3
  have hgw : w.heap.size + 2 ≤ g := by omega
  clear hg3 hr3 HR2 O2 P2 S2
  have hS := sa_cells S3.out
  by_cases hk0 : ((k : Int) == 0) = true
  · go_wp2_with fail
    go_region_held3 (fun w' => w'.cell? ⟨w2.heap.size, 0, none⟩ = some (.int .i64 lim) ∧ w'.cell? ⟨w2.heap.size, 1, none⟩ = some (.int .i64 each) ∧ w'.cell? ⟨w2.heap.size, 2, none⟩ = some (.slice A2 8 c2) ∧ SA w w2.heap.size w1.heap.size lim each A2 c2 us w')
      (first
        | (with_reducible assumption)
        | (with_reducible exact sa_cells (sa_set (sa_set (sa_set (hS4.2.2.2) _ _ (by omega) _) _ _ (by omega) _) _ _ (by omega) _))
        | (with_reducible exact sa_cells (sa_set (sa_set (sa_set (sa_set (sa_set (sa_set (hS4.2.2.2) _ _ (by omega) _) _ _ (by omega) _) _ _ (by omega) _) _ _ (by omega) _) _ _ (by omega) _) _ _ (by omega) _))
        | fail)
      (first
        | (go_at_call 55
           refine (l4Draw_any g _ _ HR3.out (by omega)).mono ?_
           rintro e w4 ⟨lim4, each4, A4, c4, us4, rfl, -, ho4, hg4, -⟩
           have hS4 := sa_cells (sa_grown S3.out hg4 hgl (by omega) (by omega))
           obtain ⟨⟨d0, d1, d2⟩, f0, f1, f2⟩ := blk_three (blk_grown O3.out hg4 (by omega))
           obtain ⟨⟨d3, d4, d5⟩, f3, f4, f5⟩ := blk_three (blk_grown P3.out hg4 (by omega))
           have HO4 := Lib.hid ho4
           clear ho4 hg4))
    all_goals
      go_wp2
      refine bodyPost_ret (v := .tuple #[.agg #[.int .i64 lim, .int .i64 each, (.slice A2 8 c2)], .agg #[.int .i64 lim4, .int .i64 each4, (.slice A4 8 c4)]]) (by simp [results, Try.results36, go_sem, d0, d1, d2, d3, d4, d5]) rfl ⟨lim, each, A2, 8, c2, us, lim4, each4, A4, 8, c4, us4, rfl, by omega, by omega, ?_, ?_, ?_⟩
      · exact nr_own (SA.own (sa_set (sa_set (sa_set (sa_set (sa_set (sa_set (hS4.2.2.2) _ _ (by omega) _) _ _ (by omega) _) _ _ (by omega) _) _ _ (by omega) _) _ _ (by omega) _) _ _ (by omega) _))
      · exact nr_own (own_set_far (own_set_far (own_set_far (own_set_far (own_set_far (own_set_far (HO4.out) (by simp <;> omega) _) (by simp <;> omega) _) (by simp <;> omega) _) (by simp <;> omega) _) (by simp <;> omega) _) (by simp <;> omega) _)
      · exact SA.b (sa_set (sa_set (sa_set (sa_set (sa_set (sa_set (hS4.2.2.2) _ _ (by omega) _) _ _ (by omega) _) _ _ (by omega) _) _ _ (by omega) _) _ _ (by omega) _) _ _ (by omega) _)
  · go_wp2_with fail
    go_region_held3 (fun w' => w'.cell? ⟨w2.heap.size, 0, none⟩ = some (.int .i64 lim) ∧ w'.cell? ⟨w2.heap.size, 1, none⟩ = some (.int .i64 each) ∧ w'.cell? ⟨w2.heap.size, 2, none⟩ = some (.slice A2 8 c2) ∧ SA w w2.heap.size w1.heap.size lim each A2 c2 us w')
      (first
        | (with_reducible assumption)
        | (with_reducible exact sa_cells (sa_set (sa_set (sa_set (hS4.2.2.2) _ _ (by omega) _) _ _ (by omega) _) _ _ (by omega) _))
        | (with_reducible exact sa_cells (sa_set (sa_set (sa_set (sa_set (sa_set (sa_set (hS4.2.2.2) _ _ (by omega) _) _ _ (by omega) _) _ _ (by omega) _) _ _ (by omega) _) _ _ (by omega) _) _ _ (by omega) _))
        | fail)
      (first
        | (go_at_call 56
           refine (l4Wrong_any g _ lim each A2 c2 us _ HR3.out (by omega) (nr_own S3.out.own)).mono ?_
           rintro e w4 ⟨lim4, each4, A4, n4, c4, us4, rfl, hn4, ho4, hg4, -⟩
           have hS4 := sa_cells (sa_grown S3.out hg4 hgl (by omega) (by omega))
           obtain ⟨⟨d0, d1, d2⟩, f0, f1, f2⟩ := blk_three (blk_grown O3.out hg4 (by omega))
           obtain ⟨⟨d3, d4, d5⟩, f3, f4, f5⟩ := blk_three (blk_grown P3.out hg4 (by omega))
           have HO4 := Lib.hid ho4
           clear ho4 hg4))
    all_goals
      go_wp2
      refine bodyPost_ret (v := .tuple #[.agg #[.int .i64 lim, .int .i64 each, (.slice A2 8 c2)], .agg #[.int .i64 lim4, .int .i64 each4, (.slice A4 n4 c4)]]) (by simp [results, Try.results36, go_sem, d0, d1, d2, d3, d4, d5]) rfl ⟨lim, each, A2, 8, c2, us, lim4, each4, A4, n4, c4, us4, rfl, by omega, by omega, ?_, ?_, ?_⟩
      · exact nr_own (SA.own (sa_set (sa_set (sa_set (sa_set (sa_set (sa_set (hS4.2.2.2) _ _ (by omega) _) _ _ (by omega) _) _ _ (by omega) _) _ _ (by omega) _) _ _ (by omega) _) _ _ (by omega) _))
      · exact nr_own (own_set_far (own_set_far (own_set_far (own_set_far (own_set_far (own_set_far (HO4.out) (by simp <;> omega) _) (by simp <;> omega) _) (by simp <;> omega) _) (by simp <;> omega) _) (by simp <;> omega) _) (by simp <;> omega) _)
      · exact SA.b (sa_set (sa_set (sa_set (sa_set (sa_set (sa_set (hS4.2.2.2) _ _ (by omega) _) _ _ (by omega) _) _ _ (by omega) _) _ _ (by omega) _) _ _ (by omega) _) _ _ (by omega) _)
end Go.Proofs.Ytkbjelchihdajaa
