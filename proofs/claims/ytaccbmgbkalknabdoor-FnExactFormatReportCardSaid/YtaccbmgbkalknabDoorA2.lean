/-
  Chapter 4: NewAccount, FreeFor, Reserve, Release; the model's. Conditions: a slice has at most 4000000000 numbers.
-/
import Derived.Test.YtaccbmgbkalknabDoorA1
import Derived.Deep.RegionHeld3
namespace Go.Proofs.YtaccbmgbkalknabDoor
open Go.RowKit

def prB (x : Int) : Bool := decide (0 ≤ x ∧ x ≤ 7)
theorem pr_ofB {x : Int} (h : prB x = true) : 0 ≤ x ∧ x ≤ 7 := by simpa [prB] using h
theorem pr_noB {x : Int} (h : prB x = false) : x < 0 ∨ 7 < x := by
  simp only [prB, decide_eq_false_iff_not] at h; omega
theorem k_of {x : Int} (h : prB x = true) : ∃ k : Nat, x = (k : Int) ∧ k < 8 := by
  have := pr_ofB h
  exact ⟨x.toNat, by omega, by omega⟩
theorem ac_at {lim each : Int} {us : List Int} {k : Nat} (h : acB lim each us = true) (hk : k < 8) : ∃ u, us[k]? = some u := by
  have := (ac_of h).2.2.2.1
  exact ⟨_, List.getElem?_eq_getElem (by omega)⟩
def frOk (lim each : Int) (us : List Int) (x : Int) : Bool := acB lim each us && prB x
theorem frOk_no {lim each : Int} {us : List Int} {x : Int} (h : frOk lim each us x = false) : acB lim each us = false ∨ (acB lim each us = true ∧ prB x = false) := by
  rcases hq : acB lim each us with _ | _
  · exact .inl rfl
  · exact .inr ⟨rfl, by simpa [frOk, hq] using h⟩
theorem frOk_of {lim each : Int} {us : List Int} {x : Int} (h : frOk lim each us x = true) : acB lim each us = true ∧ prB x = true := by simpa [frOk] using h
end Go.Proofs.YtaccbmgbkalknabDoor
