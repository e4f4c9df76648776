/-
  Chapter 4, the program's contracts under one name. Conditions: none.
-/
import Derived.Test.YtkbjelchihdajabAI3
import Derived.Test.YtkbjelchihdajabADs
namespace Go.Proofs.Ytkbjelchihdajab
end Go.Proofs.Ytkbjelchihdajab
