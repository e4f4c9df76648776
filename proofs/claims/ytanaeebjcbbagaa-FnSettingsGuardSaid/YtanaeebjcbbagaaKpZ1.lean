/-
  Chapter 6: packets that join lanes: what the program's function and the model's return. Conditions: lanes have at most 4000000000 robins, weights and credits.
  Conditions: each lemma says them.
-/
import Derived.Test.YtanaeebjcbbagaaKkZ1
import Derived.Test.YtanaeebjcbbagaaKzZ1
import Derived.Test.YtanaeebjcbbagaaKlZ1
import Derived.Test.YtanaeebjcbbagaaKmZ1
import Derived.Test.YtanaeebjcbbagaaKeZ1
import Derived.Test.YtanaeebjcbbagaaKdZ1
import Derived.Deep.DeepCutAuto
namespace Go.Proofs.Ytanaeebjcbbagaa
open Go.RowKit
def JlNo (w : World) (e : Ending) (w' : World) : Prop := e = .returned (.tuple #[.agg #[.slice none 0 0, .slice none 0 0, .slice none 0 0], .bool false]) ∧ Below w.heap.size w w'
def JlYes (w : World) (l : Ln) (e : Ending) (w' : World) : Prop :=
  ∃ A n c B m d C o f hs iv, e = .returned (.tuple #[.agg #[.slice A n c, .slice B m d, .slice C o f], .bool true]) ∧ n = l.rs.length ∧ m = l.ws.length ∧ o = l.cs.length ∧ LO w' w.heap.size (.slice A n c) n (.slice B m d) m (.slice C o f) o hs iv l ∧ (∀ k, (iv k).1 < (iv k).2 → w.heap.size ≤ (iv k).1) ∧ Below w.heap.size w w'
end Go.Proofs.Ytanaeebjcbbagaa
