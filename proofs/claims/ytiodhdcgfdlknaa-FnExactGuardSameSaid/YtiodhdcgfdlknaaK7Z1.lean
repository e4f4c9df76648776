/-
  Chapter 7: scores: what the program's functions and the model's return. Conditions: none; a contract says which case it speaks of. Chapter 7: points, bans and blame: what the program's functions and the model's return. Conditions: none; a contract says which case it speaks of.
  Conditions: each lemma says them.
-/
import Derived.Test.YtiodhdcgfdlknaaKbZ1
import Derived.WalkLawsBesides
import Derived.Deep.DeepCutAuto
namespace Go.Proofs.Ytiodhdcgfdlknaa
open Go.RowKit
def nb (b : Int) : Int := if b + 1 ≤ 10 then b + 1 else 10
end Go.Proofs.Ytiodhdcgfdlknaa
namespace Go.Proofs.Ytiodhdcgfdlknaa
open Go.RowKit
end Go.Proofs.Ytiodhdcgfdlknaa
