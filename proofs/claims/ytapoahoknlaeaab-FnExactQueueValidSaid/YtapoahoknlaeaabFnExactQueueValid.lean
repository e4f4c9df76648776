/-
  The law FnExactQueueValid returns true at every argument: the program's QueueValid answers as the model's and writes into no argument. Conditions: none.
-/
import Derived.Test.YtapoahoknlaeaabQEx
import Derived.Test.YtapoahoknlaeaabQ1
namespace Go.Proofs.Ytapoahoknlaeaab.fnExactQueueValid
open Go.ChangeShapes Go.WideShapes Go.ChangeAt Go.RowKit
