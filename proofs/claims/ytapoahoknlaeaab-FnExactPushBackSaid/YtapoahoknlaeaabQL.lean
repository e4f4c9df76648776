/-
  Words for the laws of chapter 3. Conditions: none.
-/
import Derived.Test.YtapoahoknlaeaabLift
import Derived.Test.YtapoahoknlaeaabQDr
namespace Go.Proofs.Ytapoahoknlaeaab
open Go.RowKit
theorem own_cap {w : World} {base : Nat} {e : TypeId} {A : Option Addr} {n c size : Nat} {xs : List Value} (h : w.ownsRow base e size (.slice A n c) n xs) : n ≤ c ∧ c ≤ 9223372036854775807 := by
  obtain ⟨A', c', hv, h1, h2, -⟩ := own_form h
  obtain rfl : c = c' := by injection hv
  exact ⟨h1, by unfold maxLen at h2; omega⟩
/-- the tail of a slice: the walk's if, and its packets -/
theorem tail_of {W : World} {A : Option Addr} {n c : Nat} {p : Pkt} {r : List Pkt} (h : PR W A n (p :: r)) (hc : n ≤ c) :
    ∃ b off A1, A = some ⟨b, off, none⟩ ∧ (if c = 1 then (some ⟨b, off, none⟩ : Option Addr) else some ⟨b, off + 4, none⟩) = some A1 ∧ Hid (∀ V, PR V (some ⟨b, off, none⟩) n (p :: r) → PR V (some A1) (n - 1) r) := by
  have hn : 1 ≤ n := by have := h.1; simp at this; omega
  obtain ⟨b, off, rfl, -, -⟩ := h.2 hn
  by_cases hc1 : c = 1
  · refine ⟨b, off, _, rfl, if_pos hc1, Lib.hid fun V hV => ?_⟩
    have := pr_drop hV hn hc
    rw [if_pos hc1] at this
    exact this
  · refine ⟨b, off, _, rfl, if_neg hc1, Lib.hid fun V hV => ?_⟩
    have := pr_drop hV hn hc
    rw [if_neg hc1] at this
    simpa [Addr.add] using this
end Go.Proofs.Ytapoahoknlaeaab
