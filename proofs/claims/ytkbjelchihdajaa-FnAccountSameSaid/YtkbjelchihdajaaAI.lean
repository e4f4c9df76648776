/-
  Chapter 4, the program's contracts under one name. Conditions: none.
-/
import Derived.Test.YtkbjelchihdajaaAI3
import Derived.Test.YtkbjelchihdajaaADs
namespace Go.Proofs.Ytkbjelchihdajaa
end Go.Proofs.Ytkbjelchihdajaa
