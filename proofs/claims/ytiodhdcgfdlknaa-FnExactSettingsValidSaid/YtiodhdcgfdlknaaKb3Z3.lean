/-
  Chapter 8: guards: the plain maths. Conditions: none.
  Conditions: each lemma says them.
-/
import Derived.Test.YtiodhdcgfdlknaaKjZ3
import Derived.Test.YtiodhdcgfdlknaaKhZ3
import Derived.Test.YtiodhdcgfdlknaaK2Z3
import Derived.Test.YtiodhdcgfdlknaaKbZ3
import Derived.WalkLawsBesides
import Derived.Deep.DeepCutAuto
namespace Go.Proofs.Ytiodhdcgfdlknaa
open Go.RowKit
structure Gd where
  tm : Int
  all : Pkt
  each : List Pkt
  lim : Int
  ea : Int
  us : List Int
  ln : Ln
  sc : List Pkt
end Go.Proofs.Ytiodhdcgfdlknaa
