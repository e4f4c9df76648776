/-
  Chapter 1: equality of lists: what the program's function and the model's return. Conditions: the slices' lengths fit an int.
-/
import Derived.Test.YtaccbmgbkalknabDoorBase
namespace Go.Proofs.YtaccbmgbkalknabDoor
open Go.RowKit

open Classical in
noncomputable def sameB (ps qs : List Pkt) : Bool := decide (ps = qs)
theorem same_yes {ps qs : List Pkt} (h : ps = qs) : true = sameB ps qs := by simp [sameB, h]
theorem same_no {ps qs : List Pkt} (h : ps ≠ qs) : false = sameB ps qs := by simp [sameB, h]
theorem same_iff {ps qs : List Pkt} : sameB ps qs = true ↔ ps = qs := by simp [sameB]
theorem pkt_ext {p q : Pkt} (h0 : p.peer = q.peer) (h1 : p.lane = q.lane) (h2 : p.size = q.size) (h3 : p.id = q.id) : p = q := by
  cases p; cases q; simp_all
theorem pkt_cases (p q : Pkt) : p = q ∨ (p.peer == q.peer) = false ∨ ((p.peer == q.peer) = true ∧ (p.lane == q.lane) = false) ∨ ((p.peer == q.peer) = true ∧ (p.lane == q.lane) = true ∧ (p.size == q.size) = false) ∨
    ((p.peer == q.peer) = true ∧ (p.lane == q.lane) = true ∧ (p.size == q.size) = true ∧ (p.id == q.id) = false) := by
  simp only [beq_iff_eq, beq_eq_false_iff_ne]
  by_cases h0 : p.peer = q.peer
  · by_cases h1 : p.lane = q.lane
    · by_cases h2 : p.size = q.size
      · by_cases h3 : p.id = q.id
        · exact .inl (pkt_ext h0 h1 h2 h3)
        · exact .inr (.inr (.inr (.inr ⟨h0, h1, h2, h3⟩)))
      · exact .inr (.inr (.inr (.inl ⟨h0, h1, h2⟩)))
    · exact .inr (.inr (.inl ⟨h0, h1⟩))
  · exact .inr (.inl h0)
def EqRel (ps qs : List Pkt) (w : World) (n : Nat) (i : Value) (wr : World) : Prop :=
  ∃ k : Nat, k ≤ n ∧ i = .int .i64 (k : Int) ∧ ps.take k = qs.take k ∧ Below w.heap.size w wr
theorem take_step {ps qs : List Pkt} {k : Nat} {p q : Pkt} (h : ps.take k = qs.take k) (hp : ps[k]? = some p) (hq : qs[k]? = some q) (he : p = q) : ps.take (k + 1) = qs.take (k + 1) := by
  rw [List.take_add_one, List.take_add_one, hp, hq, h, he]
theorem take_ne {ps qs : List Pkt} {k : Nat} {p q : Pkt} (hp : ps[k]? = some p) (hq : qs[k]? = some q) (he : p ≠ q) : ps ≠ qs := by
  rintro rfl
  rw [hp] at hq
  exact he (by injection hq)
theorem take_all {ps qs : List Pkt} {n : Nat} (h : ps.take n = qs.take n) (hp : ps.length ≤ n) (hq : qs.length ≤ n) : ps = qs := by
  rw [List.take_of_length_le hp, List.take_of_length_le hq] at h
  exact h
end Go.Proofs.YtaccbmgbkalknabDoor
