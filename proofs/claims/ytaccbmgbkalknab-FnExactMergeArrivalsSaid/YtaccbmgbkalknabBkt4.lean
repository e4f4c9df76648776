/-
  Chapter 2: giving: what the program's functions and the model's return. Conditions: none; a contract says which case it speaks of.
-/
import Derived.Test.YtaccbmgbkalknabBkt2
import Derived.Deep.DeepCutAuto
namespace Go.Proofs.Ytaccbmgbkalknab
open Go.RowKit

end Go.Proofs.Ytaccbmgbkalknab
