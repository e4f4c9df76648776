/-
  Chapter 6: LanesSame, of the program and of the model. Conditions: none. Chapter 6: copies of lanes: what the program's function returns. Conditions: lanes have at most 4000000000 robins, weights and credits.
  Conditions: each lemma says them.
-/
import Derived.Test.YtiodhdcgfdlknaaKjZ2
import Derived.Test.YtiodhdcgfdlknaaKdZ2
import Derived.StillTailTactics
namespace Go.Proofs.Ytiodhdcgfdlknaa
open Go.RowKit
end Go.Proofs.Ytiodhdcgfdlknaa
namespace Go.Proofs.Ytiodhdcgfdlknaa
open Go.RowKit
theorem dr_start {w : World} {lo n : Nat} {v : Value} {hs : List Rh} {rs : List Rb} (h : w.ownsRow lo 127 2 v n (rcells hs)) (hl : hs.length = rs.length) : DR w lo v n hs rs (fun _ => (0, 0)) (fun j => j < 0) :=
  ⟨h, hl, fun k hk => absurd hk (by omega), fun b _ k => .inr (Nat.zero_le _), fun i j _ => .inl (Nat.le_refl _), fun k => Nat.zero_le _⟩
theorem up_lo {L k x e : Nat} {iv : Nat → Nat × Nat} (h : ∀ j, (iv j).1 < (iv j).2 → L ≤ (iv j).1) (hx : L ≤ x) : ∀ j, (Up iv k (x, e) j).1 < (Up iv k (x, e) j).2 → L ≤ (Up iv k (x, e) j).1 := fun j hj => by
  by_cases hjk : j = k
  · subst hjk; rw [up_self]; exact hx
  · rw [up_ne _ hjk] at hj ⊢; exact h j hj
theorem lo_mk {w : World} {lo n m o sB sC : Nat} {vA vB vC : Value} {hs : List Rh} {iv : Nat → Nat × Nat} {l : Ln} (r : DR w lo vA n hs l.rs iv (fun k => k < n)) (b : w.ownsRow sB 3 1 vB m (icells l.ws)) (c : w.ownsRow sC 3 1 vC o (icells l.cs)) (hb : lo ≤ sB) (hc : lo ≤ sC)
    (tb : ∀ k, (iv k).2 ≤ sB) (tc : ∀ k, (iv k).2 ≤ sC) (va : ∀ b, vA.ownBlock = some b → b < sB ∧ b < sC) (bc : ∀ b, vB.ownBlock = some b → vC.ownBlock ≠ some b) : LO w lo vA n vB m vC o hs iv l :=
  ⟨r, own_mono b hb, own_mono c hc, fun x e => ⟨fun e2 => by have := (b.lt x e).1; have := (va x e2).1; omega, fun k => .inr (Nat.le_trans (tb k) (b.lt x e).1)⟩, fun x e => ⟨fun e2 => by have := (c.lt x e).1; have := (va x e2).2; omega, fun k => .inr (Nat.le_trans (tc k) (c.lt x e).1)⟩, bc⟩
end Go.Proofs.Ytiodhdcgfdlknaa
