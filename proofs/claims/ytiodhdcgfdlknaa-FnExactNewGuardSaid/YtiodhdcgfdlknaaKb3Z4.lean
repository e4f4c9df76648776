/-
  Chapter 8: guards: the plain maths. Conditions: none.
  Conditions: each lemma says them.
-/
import Derived.Test.YtiodhdcgfdlknaaKjZ4
import Derived.Test.YtiodhdcgfdlknaaKhZ4
import Derived.Test.YtiodhdcgfdlknaaK2Z4
import Derived.Test.YtiodhdcgfdlknaaK7Z4
namespace Go.Proofs.Ytiodhdcgfdlknaa
open Go.RowKit
structure Gd where
  tm : Int
  all : Pkt
  each : List Pkt
  lim : Int
  ea : Int
  us : List Int
  ln : Ln
  sc : List Pkt
end Go.Proofs.Ytiodhdcgfdlknaa
