/-
  Chapter 6: copies of lanes: what the model's function returns. Conditions: lanes have at most 4000000000 robins, weights and credits.
  Conditions: each lemma says them.
-/
import Derived.Test.YtanaeebjcbbagaaKlZ1
import Derived.Test.YtanaeebjcbbagaaKdZ1
import Derived.Deep.CutBlock
namespace Go.Proofs.Ytanaeebjcbbagaa
open Go.RowKit
structure C1 (w0 W : World) (v1 : Value) (n1 : Nat) (xs1 : List Int) (v2 : Value) (n2 : Nat) (xs2 : List Int) (L : Option Nat) : Prop where
  below : Below w0.heap.size w0 W
  o1 : W.ownsRow w0.heap.size 3 1 v1 n1 (icells xs1)
  o2 : W.ownsRow w0.heap.size 3 1 v2 n2 (icells xs2)
  l : ∀ b, L = some b → w0.heap.size ≤ b ∧ Blk W b 35 #[.slice none 0 0, .slice none 0 0, .slice none 0 0]
  d12 : ∀ b, v1.ownBlock = some b → v2.ownBlock ≠ some b
  d1 : ∀ b, L = some b → v1.ownBlock ≠ some b
  d2 : ∀ b, L = some b → v2.ownBlock ≠ some b
section
variable {w0 W W' : World} {v1 v2 : Value} {n1 n2 : Nat} {xs1 xs2 : List Int} {L : Option Nat}
theorem c1_start (w0 : World) : C1 w0 w0 (.slice none 0 0) 0 [] (.slice none 0 0) 0 [] none :=
  ⟨Below.refl _ _, World.ownsRow_nil _ _ _ _, World.ownsRow_nil _ _ _ _, fun b e => (by cases e), fun b e => (by cases e), fun b e => (by cases e), fun b e => (by cases e)⟩
theorem c1_swap (h : C1 w0 W v1 n1 xs1 v2 n2 xs2 L) : C1 w0 W v2 n2 xs2 v1 n1 xs1 L := ⟨h.below, h.o2, h.o1, h.l, fun b e e2 => h.d12 b e2 e, h.d2, h.d1⟩
theorem c1_bs1 (h : C1 w0 W (.slice none 0 0) 0 [] v2 n2 xs2 L) : C1 w0 (W.alloc (.cells #[] 3)) (.slice (some ⟨W.heap.size, 0, none⟩) 0 0) 0 [] v2 n2 xs2 L :=
  have hs := h.below.size
  ⟨below_alloc h.below _, own_mono (own_emptyI rfl) hs, h.o2.alloc _, fun b e => ⟨(h.l b e).1, blk_alloc (h.l b e).2 _⟩, fun b e e2 => (by
    obtain rfl : W.heap.size = b := Option.some.inj e
    have := (h.o2.lt _ e2).2; omega), fun b e e2 => (by
    obtain rfl : W.heap.size = b := Option.some.inj e2
    have := blk_lt (h.l _ e).2; omega), h.d2⟩
theorem c1_bs2 (h : C1 w0 W v1 n1 xs1 (.slice none 0 0) 0 [] L) : C1 w0 (W.alloc (.cells #[] 3)) v1 n1 xs1 (.slice (some ⟨W.heap.size, 0, none⟩) 0 0) 0 [] L := c1_swap (c1_bs1 (c1_swap h))
theorem c1_app1 {v' : Value} {m : Nat} {ys : List Int} (h : C1 w0 W v1 n1 xs1 v2 n2 xs2 L) (ho : W'.ownsRow w0.heap.size 3 1 v' m (icells ys)) (hg : W.grownBy W' v1.ownBlock) (hat : v'.ownBlock = v1.ownBlock ∨ v'.ownBlock = some W.heap.size) : C1 w0 W' v' m ys v2 n2 xs2 L :=
  ⟨h.below.grown hg h.below.size fun k hk => (h.o1.lt k hk).1, ho, own_kept6 h.o2 hg fun b e => h.d12 b e, fun b e => ⟨(h.l b e).1, blk_grownQ (h.l b e).2 hg fun e2 => h.d1 b e e2.symm⟩, fun b e e2 => (by
    rcases hat with h1 | h1
    · exact h.d12 b (h1.symm.trans e) e2
    · obtain rfl : W.heap.size = b := Option.some.inj (h1.symm.trans e)
      have := (h.o2.lt _ e2).2; omega), fun b e e2 => (by
    rcases hat with h1 | h1
    · exact h.d1 b e (h1.symm.trans e2)
    · obtain rfl : W.heap.size = b := Option.some.inj (h1.symm.trans e2)
      have := blk_lt (h.l _ e).2; omega), h.d2⟩
theorem c1_app2 {v' : Value} {m : Nat} {ys : List Int} (h : C1 w0 W v1 n1 xs1 v2 n2 xs2 L) (ho : W'.ownsRow w0.heap.size 3 1 v' m (icells ys)) (hg : W.grownBy W' v2.ownBlock) (hat : v'.ownBlock = v2.ownBlock ∨ v'.ownBlock = some W.heap.size) : C1 w0 W' v1 n1 xs1 v' m ys L := c1_swap (c1_app1 (c1_swap h) ho hg hat)
end
structure LS (w : World) (va : Array Value) (LB : Nat) (vA vB vC : Value) (k m o : Nat) (hs : List Rh) (iv : Nat → Nat × Nat) (l : Ln) (wr : World) : Prop where
  fm : Fm w [⟨w.heap.size, w.heap.size + 1, BoxP w.heap.size 35 va⟩, ⟨w.heap.size + 1, w.heap.size + 2, BoxP (w.heap.size + 1) 35 #[.slice none 0 0, .slice none 0 0, .slice none 0 0]⟩] wr
  out : Blk wr LB 35 #[vA, vB, vC]
  lo : LO wr (w.heap.size + 2) vA k vB m vC o hs iv l
  hi : ∀ j, (iv j).1 < (iv j).2 → w.heap.size + 2 ≤ (iv j).1
  hL : w.heap.size + 2 ≤ LB
  sa : Out6 vA iv LB
  sb : vB.ownBlock ≠ some LB
  sc : vC.ownBlock ≠ some LB
end Go.Proofs.Ytanaeebjcbbagaa
