/-
  A slice of arrivals that comes in as an argument; what the exact laws do with arrivals: copies, comparison, marks. Conditions: a list has at most 1048576 arrivals.
-/
import Derived.Test.YtclgmmnidkppmaaEr
import Derived.StillTailTactics
import Derived.Deep.Slices
import Derived.Deep.Fields
import Derived.ChangeSame
import Derived.Lib.SmallJoins
namespace Go.Proofs.Ytclgmmnidkppmaa
open Go.ChangeShapes Go.WideShapes Go.ChangeAt Go.RowKit Go.Deep


open Classical in
noncomputable def sameA (ps qs : List Arr) : Bool := decide (ps = qs)
theorem sameA_yes {ps qs : List Arr} (h : ps = qs) : true = sameA ps qs := by simp [sameA, h]
theorem sameA_no {ps qs : List Arr} (h : ps ≠ qs) : false = sameA ps qs := by simp [sameA, h]
open Classical in
noncomputable def arrB (p q : Arr) : Bool := decide (p = q)
theorem arrB_yes {p q : Arr} (h : p = q) : true = arrB p q := by simp [arrB, h]
theorem arrB_no {p q : Arr} (h : p ≠ q) : false = arrB p q := by simp [arrB, h]
theorem arr_cases (p q : Arr) : p = q ∨ (p.t == q.t) = false ∨ ((p.t == q.t) = true ∧ (p.z == q.z) = false) := by
  simp only [beq_iff_eq, beq_eq_false_iff_ne]
  by_cases h0 : p.t = q.t
  · by_cases h1 : p.z = q.z
    · exact .inl (arr_ext h0 h1)
    · exact .inr (.inr ⟨h0, h1⟩)
  · exact .inr (.inl h0)
def EqA (ps qs : List Arr) (w : World) (n : Nat) (i : Value) (wr : World) : Prop :=
  ∃ k : Nat, k ≤ n ∧ i = .int .i64 (k : Int) ∧ ps.take k = qs.take k ∧ Below w.heap.size w wr
theorem take_stepA {α : Type} {ps qs : List α} {k : Nat} {p q : α} (h : ps.take k = qs.take k) (hp : ps[k]? = some p) (hq : qs[k]? = some q) (he : p = q) : ps.take (k + 1) = qs.take (k + 1) := by
  rw [List.take_add_one, List.take_add_one, hp, hq, h, he]
theorem take_neA {α : Type} {ps qs : List α} {k : Nat} {p q : α} (hp : ps[k]? = some p) (hq : qs[k]? = some q) (he : p ≠ q) : ps ≠ qs := by
  rintro rfl
  rw [hp] at hq
  exact he (by injection hq)
theorem take_allA {α : Type} {ps qs : List α} {n : Nat} (h : ps.take n = qs.take n) (hp : ps.length ≤ n) (hq : qs.length ≤ n) : ps = qs := by
  rw [List.take_of_length_le hp, List.take_of_length_le hq] at h
  exact h
end Go.Proofs.Ytclgmmnidkppmaa
