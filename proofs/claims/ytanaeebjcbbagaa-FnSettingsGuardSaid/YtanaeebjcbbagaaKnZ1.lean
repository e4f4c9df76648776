/-
  Chapter 6: whose turn it is: what NextLane and its helpers return. Conditions: there is a credit for each robin. Chapter 6: how many packets wait in each lane: what CountLanes returns. Conditions: none.
  Conditions: each lemma says them.
-/
import Derived.Test.YtanaeebjcbbagaaKkZ1
import Derived.Test.YtanaeebjcbbagaaKzZ1
import Derived.Test.YtanaeebjcbbagaaKjZ1
namespace Go.Proofs.Ytanaeebjcbbagaa
open Go.RowKit
def BxL (w : World) (va : Array Value) (wr : World) : Prop := Fm w [⟨w.heap.size, w.heap.size + 1, BoxP w.heap.size 35 va⟩] wr
theorem bl_cells {w wr : World} {x y z : Value} (h : BxL w #[x, y, z] wr) : wr.cell? ⟨w.heap.size, 0, none⟩ = some x ∧ wr.cell? ⟨w.heap.size, 1, none⟩ = some y ∧ wr.cell? ⟨w.heap.size, 2, none⟩ = some z := (blk_three (fm_blk h 0 rfl)).1
theorem bl_below {w wr w2 : World} {va : Array Value} (h : BxL w va wr) (hb : Below wr.heap.size wr w2) : BxL w va w2 := fm_below h hb
theorem bl_lt {w wr : World} {va : Array Value} (h : BxL w va wr) : w.heap.size < wr.heap.size := blk_lt (fm_blk h 0 rfl)
end Go.Proofs.Ytanaeebjcbbagaa
namespace Go.Proofs.Ytanaeebjcbbagaa
open Go.RowKit
theorem zeros6 (n : Nat) : (madeCells (Value.cells (.int .i64 0)) (n * 1)).toList = icells (List.replicate n 0) := by
  apply List.ext_getElem
  · simp [madeCells, icells]
  · intro i h1 h2
    simp [madeCells, icells, Value.cells, Nat.mod_one]
theorem own_int_at {w : World} {base g n c k : Nat} {us : List Int} {x : Int} (h : w.ownsRow base 3 1 (.slice (some ⟨g, 0, none⟩) n c) n (icells us)) (hk : us[k]? = some x) : w.cell? ⟨g, k, none⟩ = some (.int .i64 x) := by
  have hl : us.length = n := (nr_own h).1
  obtain ⟨b, off, y, e, hb, hy, hc⟩ := nr_at (nr_own h) (k := k) (by have := get_lt hk; omega)
  obtain ⟨rfl, rfl⟩ : g = b ∧ 0 = off := by injection e with e; injection e with e1 e2; exact ⟨e1, e2⟩
  rw [hk] at hy
  obtain rfl := Option.some.inj hy
  simpa using hc
end Go.Proofs.Ytanaeebjcbbagaa
