/-
  The law FnExactHeaviestPeer returns true at every argument: the program's HeaviestPeer answers as the model's and writes into no argument. Conditions: none.
-/
import Derived.Test.YtapoahoknlaeaabQEx
import Derived.Test.YtapoahoknlaeaabQ5b
namespace Go.Proofs.Ytapoahoknlaeaab.fnExactHeaviestPeer
open Go.ChangeShapes Go.WideShapes Go.ChangeAt Go.RowKit
