/-
  Chapter 4: FairShares; the model's. Conditions: at most 64 wants, each between 0 and 5000.
-/
import Derived.Test.YtaccbmgbkalknabDoorA1
namespace Go.Proofs.YtaccbmgbkalknabDoor
open Go.RowKit

theorem zerosI (n : Nat) : (madeCells (Value.cells (.int .i64 0)) (n * 1)).toList = icells (List.replicate n 0) := by
  apply List.ext_getElem
  · simp [madeCells, icells]
  · intro i h1 h2
    simp [madeCells, icells, Value.cells, Nat.mod_one]
theorem lev_same {ws : List Int} {r k : Nat} {w : Int} (h : ws[k]? = some w) (hw : w ≤ r) : lev ws r (k + 1) = lev ws r k := by
  rw [lev_step h]
  apply List.ext_getElem?
  intro i
  rw [List.getElem?_set]
  split
  · rename_i e
    subst e
    have hk : k < (lev ws r k).length := by
      rw [lev_len]
      rcases Nat.lt_or_ge k ws.length with hl | hl
      · exact hl
      · rw [List.getElem?_eq_none hl] at h; cases h
    rw [if_pos hk, lev_get h]
    simp [cof]; omega
  · rfl
theorem lev_more {ws : List Int} {r k : Nat} {w : Int} (h : ws[k]? = some w) (hw : (r : Int) < w) : (lev ws r k)[k]? = some (r : Int) ∧ lev ws r (k + 1) = (lev ws r k).set k ((r : Int) + 1) ∧ sumL (lev ws r (k + 1)) = sumL (lev ws r k) + 1 := by
  have h0 : (lev ws r k)[k]? = some (r : Int) := by
    rw [lev_get h]
    simp [cof]; omega
  have h1 : lev ws r (k + 1) = (lev ws r k).set k ((r : Int) + 1) := by
    rw [lev_step h]
    congr 1
    omega
  exact ⟨h0, h1, by rw [h1, sumL_set h0]; omega⟩
theorem lev_done {ws : List Int} {r : Nat} (h : ∀ (j : Nat) w, ws[j]? = some w → w ≤ (r : Int)) : lev ws r ws.length = ws := by
  apply List.ext_getElem?
  intro i
  rcases Nat.lt_or_ge i ws.length with hl | hl
  · have hw := List.getElem?_eq_getElem hl
    rw [lev_get hw, hw]
    have := h i _ hw
    simp [cof, hl]; omega
  · rw [List.getElem?_eq_none (by rw [lev_len]; exact hl), List.getElem?_eq_none hl]
theorem lev_bd {ws : List Int} {r k : Nat} (h : ∀ x ∈ ws, 0 ≤ x ∧ x ≤ 5000) : 0 ≤ sumL (lev ws r k) := by
  refine (sumL_bd (B := 5000) fun x hx => ?_).1
  obtain ⟨i, hi⟩ := List.getElem?_of_mem hx
  obtain ⟨w, hw, rfl⟩ := lev_at hi
  have := h w (List.mem_of_getElem? hw)
  have : 0 ≤ cof r k i := by unfold cof; split <;> omega
  omega
/-- the wants, and the row that is filled -/
structure SH (w : World) (A : Option Addr) (n : Nat) (ws : List Int) (b : Nat) (out : List Int) (wr : World) : Prop where
  pr : NR wr A n ws
  own : wr.ownsRow w.heap.size 3 1 (.slice (some ⟨b, 0, none⟩) n n) n (icells out)
  below : Below w.heap.size w wr
  old : 0 < n → ∀ x, A.map (·.block) = some x → x < w.heap.size
  hb : w.heap.size ≤ b
theorem sh_drewN {w : World} {A : Option Addr} {n : Nat} {ws : List Int} {b : Nat} {out : List Int} {wr : World} (h : SH w A n ws b out wr) (k : Nat) : SH w A n ws b out (wr.drewN k) := ⟨h.pr, World.ownsRow.kept h.own (g_drewN (g_refl wr none) k) (.inr (by simp [Value.ownBlock])), below_drewN h.below k, h.old, h.hb⟩
theorem sh_set {w : World} {A : Option Addr} {n : Nat} {ws : List Int} {b : Nat} {out : List Int} {wr : World} (h : SH w A n ws b out wr) (k : Nat) (x : Int) : SH w A n ws b (out.set k x) (wr.setCell ⟨b, k, none⟩ (.int .i64 x)) :=
  ⟨nr_set h.pr (fun hn y hy => by have := h.old hn y hy; have := h.hb; simp; omega) _, own_set_int h.own k x, h.below.setCell h.hb _, h.old, h.hb⟩
def ShOut (w : World) (A : Option Addr) (n : Nat) (ws : List Int) (b : Nat) (bytes : Int) (bt : Value) (wr : World) : Prop :=
  ∃ (r k : Nat) (z : Int), k ≤ n ∧ (z = 0 ∨ k = 0) ∧ 0 ≤ z ∧ bt = .int .i64 z ∧ z + sumL (lev ws r k) = bytes ∧ SH w A n ws b (lev ws r k) wr
def ShIn (w : World) (A : Option Addr) (n : Nat) (ws : List Int) (b r : Nat) (bytes z0 : Int) (bt sm i : Value) (wr : World) : Prop :=
  ∃ (k : Nat) (z : Int) (sb : Bool), k ≤ n ∧ i = .int .i64 (k : Int) ∧ bt = .int .i64 z ∧ sm = .bool sb ∧ 0 ≤ z ∧ z ≤ z0 ∧ z + sumL (lev ws r k) = bytes ∧ (sb = true → z < z0) ∧ (sb = false → z = z0 ∧ ∀ (j : Nat) v, j < k → ws[j]? = some v → v ≤ (r : Int)) ∧ SH w A n ws b (lev ws r k) wr
def SharePost (w : World) (n : Nat) (ws : List Int) (bytes : Int) (e : Ending) (w' : World) : Prop :=
  ∃ A2 s, e = .returned (.slice A2 n n) ∧ IsShare ws bytes s ∧ w'.ownsRow w.heap.size 3 1 (.slice A2 n n) n (icells s) ∧ Below w.heap.size w w'
end Go.Proofs.YtaccbmgbkalknabDoor
