/-
  Chapter 4: AccountValid and AccountSame; the model's. Conditions: the slice's length fits an int.
-/
import Derived.Test.YtaccbmgbkalknabDoorFn
namespace Go.Proofs.YtaccbmgbkalknabDoor
open Go.RowKit

open Classical in
noncomputable def intsB (us vs : List Int) : Bool := decide (us = vs)
theorem ints_refl (us : List Int) : intsB us us = true := by simp [intsB]
theorem ints_yes {us vs : List Int} (h : us = vs) : true = intsB us vs := by simp [intsB, h]
theorem ints_no {us vs : List Int} (h : ¬ us = vs) : false = intsB us vs := by simp [intsB, h]
theorem takeI_step {us vs : List Int} {k : Nat} {x : Int} (h : us.take k = vs.take k) (hx : us[k]? = some x) (hy : vs[k]? = some x) : us.take (k + 1) = vs.take (k + 1) := by
  rw [List.take_add_one, List.take_add_one, h, hx, hy]
theorem takeI_all {us vs : List Int} {k : Nat} (h : us.take k = vs.take k) (h1 : us.length ≤ k) (h2 : vs.length ≤ k) : us = vs := by
  rw [List.take_of_length_le h1, List.take_of_length_le h2] at h; exact h
def InRel (us vs : List Int) (w : World) (n : Nat) (i : Value) (wr : World) : Prop :=
  ∃ k : Nat, k ≤ n ∧ i = .int .i64 (k : Int) ∧ us.take k = vs.take k ∧ Below w.heap.size w wr
end Go.Proofs.YtaccbmgbkalknabDoor
