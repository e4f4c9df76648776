/-
  Chapter 6: LanesSame, of the program and of the model. Conditions: none. Chapter 6: copies of lanes: what the program's function returns. Conditions: lanes have at most 4000000000 robins, weights and credits.
  Conditions: each lemma says them.
-/
import Derived.Test.YtanaeebjcbbagaaKjZ1
import Derived.Test.YtanaeebjcbbagaaKdZ1
import Derived.StillTailTactics
namespace Go.Proofs.Ytanaeebjcbbagaa
open Go.RowKit
end Go.Proofs.Ytanaeebjcbbagaa
namespace Go.Proofs.Ytanaeebjcbbagaa
open Go.RowKit
theorem up_lo {L k x e : Nat} {iv : Nat → Nat × Nat} (h : ∀ j, (iv j).1 < (iv j).2 → L ≤ (iv j).1) (hx : L ≤ x) : ∀ j, (Up iv k (x, e) j).1 < (Up iv k (x, e) j).2 → L ≤ (Up iv k (x, e) j).1 := fun j hj => by
  by_cases hjk : j = k
  · subst hjk; rw [up_self]; exact hx
  · rw [up_ne _ hjk] at hj ⊢; exact h j hj
end Go.Proofs.Ytanaeebjcbbagaa
