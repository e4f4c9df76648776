/-
  Chapter 4: the draw of two accounts. Conditions: none.
-/
import Derived.Test.YtkbjelchihdajabADr
namespace Go.Proofs.Ytkbjelchihdajab
open Go.RowKit

structure SA (w : World) (L base : Nat) (lim each : Int) (A : Option Addr) (c : Nat) (us : List Int) (w' : World) : Prop where
  t : Blk w' L 31 #[.int .i64 lim, .int .i64 each, (.slice A 8 c)]
  own : w'.ownsRow base 3 1 (.slice A 8 c) 8 (icells us)
  b : Below w.heap.size w w'
  hL : w.heap.size + 2 ≤ L
  hb : w.heap.size + 2 ≤ base
section
variable {w w1 w2 : World} {L base : Nat} {lim each : Int} {A : Option Addr} {c : Nat} {us : List Int}
theorem sa_drew (h : SA w L base lim each A c us w1) : SA w L base lim each A c us w1.drew := ⟨h.t, World.ownsRow.drew h.own, h.b.drew, h.hL, h.hb⟩
theorem sa_grown {g : Nat} (h : SA w L base lim each A c us w1) (hg : w1.grownBy w2 (some g)) (hgb : g < base) (hgL : L ≠ g) (hgw : w.heap.size ≤ g) : SA w L base lim each A c us w2 :=
  ⟨blk_grown h.t hg hgL, own_farI h.own hg hgb, below_grown h.b h.b.size hg hgw, h.hL, h.hb⟩
theorem sa_set (h : SA w L base lim each A c us w1) (j k : Nat) (hj : w.heap.size ≤ j ∧ j < w.heap.size + 2) (u : Value) : SA w L base lim each A c us (w1.setCell ⟨j, k, none⟩ u) :=
  ⟨blk_far h.t (by have := h.hL; simp; omega) u, own_set_far h.own (by have := h.hb; simp; omega) u, Below.setCell h.b (by simp; omega) u, h.hL, h.hb⟩
theorem sa_cells (h : SA w L base lim each A c us w1) : w1.cell? ⟨L, 0, none⟩ = some (.int .i64 lim) ∧ w1.cell? ⟨L, 1, none⟩ = some (.int .i64 each) ∧ w1.cell? ⟨L, 2, none⟩ = some (.slice A 8 c) ∧ SA w L base lim each A c us w1 := ⟨blk_cell h.t 0, blk_cell h.t 1, blk_cell h.t 2, h⟩
end
def DrawnAA (w : World) (e : Ending) (w' : World) : Prop :=
  ∃ lim each A n c us, ∃ lim2 each2 A2 n2 c2 us2, e = .returned (.tuple #[.agg #[.int .i64 lim, .int .i64 each, (.slice A n c)], .agg #[.int .i64 lim2, .int .i64 each2, (.slice A2 n2 c2)]]) ∧ n ≤ 8 ∧ n2 ≤ 8 ∧ NR w' A n us ∧ NR w' A2 n2 us2 ∧ Below w.heap.size w w'
end Go.Proofs.Ytkbjelchihdajab
