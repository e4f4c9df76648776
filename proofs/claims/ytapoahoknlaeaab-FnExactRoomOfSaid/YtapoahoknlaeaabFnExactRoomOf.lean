/-
  The law FnExactRoomOf returns true at every argument: the program's RoomOf answers as the model's and writes into no argument. Conditions: none.
-/
import Derived.Test.YtapoahoknlaeaabQEx
import Derived.Test.YtapoahoknlaeaabQ2
namespace Go.Proofs.Ytapoahoknlaeaab.fnExactRoomOf
open Go.ChangeShapes Go.WideShapes Go.ChangeAt Go.RowKit
