/-
  Chapter 6: copies of lanes: what the model's function returns. Conditions: lanes have at most 4000000000 robins, weights and credits.
  Conditions: each lemma says them.
-/
import Derived.Test.YtiodhdcgfdlknaaKlZ2
import Derived.Test.YtiodhdcgfdlknaaKdZ2
import Derived.Deep.CutBlock
namespace Go.Proofs.Ytiodhdcgfdlknaa
open Go.RowKit
structure C1 (w0 W : World) (v1 : Value) (n1 : Nat) (xs1 : List Int) (v2 : Value) (n2 : Nat) (xs2 : List Int) (L : Option Nat) : Prop where
  below : Below w0.heap.size w0 W
  o1 : W.ownsRow w0.heap.size 3 1 v1 n1 (icells xs1)
  o2 : W.ownsRow w0.heap.size 3 1 v2 n2 (icells xs2)
  l : ∀ b, L = some b → w0.heap.size ≤ b ∧ Blk W b 38 #[.slice none 0 0, .slice none 0 0, .slice none 0 0]
  d12 : ∀ b, v1.ownBlock = some b → v2.ownBlock ≠ some b
  d1 : ∀ b, L = some b → v1.ownBlock ≠ some b
  d2 : ∀ b, L = some b → v2.ownBlock ≠ some b
structure LS (w : World) (va : Array Value) (LB : Nat) (vA vB vC : Value) (k m o : Nat) (hs : List Rh) (iv : Nat → Nat × Nat) (l : Ln) (wr : World) : Prop where
  fm : Fm w [⟨w.heap.size, w.heap.size + 1, BoxP w.heap.size 38 va⟩, ⟨w.heap.size + 1, w.heap.size + 2, BoxP (w.heap.size + 1) 38 #[.slice none 0 0, .slice none 0 0, .slice none 0 0]⟩] wr
  out : Blk wr LB 38 #[vA, vB, vC]
  lo : LO wr (w.heap.size + 2) vA k vB m vC o hs iv l
  hi : ∀ j, (iv j).1 < (iv j).2 → w.heap.size + 2 ≤ (iv j).1
  hL : w.heap.size + 2 ≤ LB
  sa : Out6 vA iv LB
  sb : vB.ownBlock ≠ some LB
  sc : vC.ownBlock ≠ some LB
end Go.Proofs.Ytiodhdcgfdlknaa
