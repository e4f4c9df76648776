/-
  Chapter 6: whose turn it is: what NextLane and its helpers return. Conditions: there is a credit for each robin. Chapter 6: how many packets wait in each lane: what CountLanes returns. Conditions: none.
  Conditions: each lemma says them.
-/
import Derived.Test.YtiodhdcgfdlknaaKkZ4
import Derived.Test.YtiodhdcgfdlknaaKzZ4
import Derived.Test.YtiodhdcgfdlknaaKjZ4
namespace Go.Proofs.Ytiodhdcgfdlknaa
open Go.RowKit
end Go.Proofs.Ytiodhdcgfdlknaa
namespace Go.Proofs.Ytiodhdcgfdlknaa
open Go.RowKit
theorem zeros6 (n : Nat) : (madeCells (Value.cells (.int .i64 0)) (n * 1)).toList = icells (List.replicate n 0) := by
  apply List.ext_getElem
  · simp [madeCells, icells]
  · intro i h1 h2
    simp [madeCells, icells, Value.cells, Nat.mod_one]
end Go.Proofs.Ytiodhdcgfdlknaa
