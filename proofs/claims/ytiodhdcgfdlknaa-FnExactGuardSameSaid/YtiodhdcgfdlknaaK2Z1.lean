/-
  Chapter 2: buckets: what the program's functions and the model's return. Conditions: none; a contract says which case it speaks of. Chapter 2: tokens: what the program's functions and the model's return. Conditions: none; a contract says which case it speaks of. Chapter 2: taking, giving, waiting, changing: what the program's functions and the model's return. Conditions: none; a contract says which case it speaks of. Chapter 2: making and changing: what the program's functions and the model's return. Conditions: none; a contract says which case it speaks of.
  Conditions: each lemma says them.
-/
import Derived.Test.YtiodhdcgfdlknaaKbZ1
import Derived.WalkLawsBesides
import Derived.Deep.DeepCutAuto
namespace Go.Proofs.Ytiodhdcgfdlknaa
open Go.RowKit
def lv (r s l t n : Int) : Int := if l + r * (n - t) ≤ s then l + r * (n - t) else s
def wt (r s l t n c : Int) : Int := if c ≤ lv r s l t n then 0 else (c - lv r s l t n + r - 1) / r
end Go.Proofs.Ytiodhdcgfdlknaa
namespace Go.Proofs.Ytiodhdcgfdlknaa
open Go.RowKit
end Go.Proofs.Ytiodhdcgfdlknaa
namespace Go.Proofs.Ytiodhdcgfdlknaa
open Go.RowKit
end Go.Proofs.Ytiodhdcgfdlknaa
namespace Go.Proofs.Ytiodhdcgfdlknaa
open Go.RowKit
end Go.Proofs.Ytiodhdcgfdlknaa
