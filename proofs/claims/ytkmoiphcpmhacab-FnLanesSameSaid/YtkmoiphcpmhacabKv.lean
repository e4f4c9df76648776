/-
  Chapter 6: LeaveLanes of the program and of the model. Conditions: none beside the lanes' reading.
  Conditions: each lemma says them.
-/
import Derived.Test.YtkmoiphcpmhacabKu
import Derived.Test.YtkmoiphcpmhacabKk
import Derived.Test.YtkmoiphcpmhacabKz
import Derived.Test.YtkmoiphcpmhacabKl
import Derived.Test.YtkmoiphcpmhacabKm
import Derived.Test.YtkmoiphcpmhacabKb
import Derived.Test.YtkmoiphcpmhacabKf
namespace Go.Proofs.Ytkmoiphcpmhacab
open Go.RowKit

def lenV8 : Value → Nat
  | .slice _ n _ => n
  | _ => 0
theorem ll_not {l : Ln} {x : Int} (h : ¬ LlOk l x) : lvB l = false ∨ (lvB l = true ∧ inB x 0 7 = false ∧ (x < 0 ∨ 7 < x)) := by
  rcases hv : lvB l with _ | _
  · exact .inl rfl
  · have h2 : ¬ (0 ≤ x ∧ x ≤ 7) := fun h2 => h ⟨lv_iff.1 hv, h2⟩
    exact .inr ⟨rfl, by simp only [inB, decide_eq_false_iff_not]; exact h2, by omega⟩
end Go.Proofs.Ytkmoiphcpmhacab
