/-
  What the exact laws of chapter 4 stand on. Conditions: none.
-/
import Derived.Test.YtkbjelchihdajaaIv
import Derived.Test.YtkbjelchihdajaaAEx
import Derived.Test.YtkbjelchihdajaaAI
import Derived.Test.YtkbjelchihdajaaLiftInts
import Derived.Test.YtkbjelchihdajaaLift
namespace Go.Proofs.Ytkbjelchihdajaa
open Go.RowKit

/-- two boxes of three cells are read -/
theorem fm_rd33 {w w1 : World} {L : List Iv} (h : Fm w L w1) (i j : Nat) {a b a2 b2 g g2 : Nat} {t t2 : TypeId} {x y z x2 y2 z2 : Value} (hi : L[i]? = some ⟨a, b, BoxP g t #[x, y, z]⟩) (hj : L[j]? = some ⟨a2, b2, BoxP g2 t2 #[x2, y2, z2]⟩) :
    (w1.cell? ⟨g, 0, none⟩ = some x ∧ w1.cell? ⟨g, 1, none⟩ = some y ∧ w1.cell? ⟨g, 2, none⟩ = some z) ∧ (w1.cell? ⟨g2, 0, none⟩ = some x2 ∧ w1.cell? ⟨g2, 1, none⟩ = some y2 ∧ w1.cell? ⟨g2, 2, none⟩ = some z2) ∧ Fm w L w1 :=
  ⟨(blk_three (fm_blk h i hi)).1, (blk_three (fm_blk h j hj)).1, h⟩
end Go.Proofs.Ytkbjelchihdajaa
