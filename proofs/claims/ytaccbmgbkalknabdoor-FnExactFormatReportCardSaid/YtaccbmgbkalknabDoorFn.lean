/-
  The blocks that a call lays first (boxed parameters, results, local structs), known whole, and the numbers of the slice that came in. Conditions: none.
-/
import Derived.Test.YtaccbmgbkalknabDoorA0
namespace Go.Proofs.YtaccbmgbkalknabDoor
open Go.RowKit

structure Fn (w : World) (bs : List (TypeId × Array Value)) (A : Option Addr) (n : Nat) (ps : List Int) (w' : World) : Prop where
  it : ∀ i t cs, bs[i]? = some (t, cs) → Blk w' (w.heap.size + i) t cs
  pr : NR w' A n ps
  below : Below w.heap.size w w'
  lt : w.heap.size + bs.length ≤ w'.heap.size
  old : 0 < n → ∀ x, A.map (·.block) = some x → x < w.heap.size
section
variable {w w1 w2 : World} {bs : List (TypeId × Array Value)} {A : Option Addr} {n : Nat} {ps : List Int}
theorem fn_zero (h : NR w A n ps) : Fn w [] A n ps w := ⟨fun i t cs h => by simp at h, h, Below.refl _ _, by simp, nr_old h⟩
theorem fn_push (h : Fn w bs A n ps w1) (hs : w1.heap.size = w.heap.size + bs.length) (t : TypeId) (cs : Array Value) : Fn w (bs ++ [(t, cs)]) A n ps (w1.alloc (.cells cs t)) :=
  ⟨fun i t' cs' hi => by
    rcases Nat.lt_or_ge i bs.length with hl | hl
    · rw [List.getElem?_append_left hl] at hi
      exact blk_alloc (h.it i t' cs' hi) _
    · rw [List.getElem?_append_right hl] at hi
      have h0 : i - bs.length = 0 := by
        rcases Nat.eq_zero_or_pos (i - bs.length) with e | e
        · exact e
        · rw [List.getElem?_eq_none (by simp; omega)] at hi; cases hi
      rw [h0] at hi
      obtain ⟨rfl, rfl⟩ : t = t' ∧ cs = cs' := by simpa using hi
      rw [show w.heap.size + i = w1.heap.size by omega]
      exact blk_new w1 _ _, nr_alloc h.pr _, below_alloc h.below _, by simp; omega, h.old⟩
theorem fn_one (h : NR w A n ps) (t : TypeId) (cs : Array Value) : Fn w [(t, cs)] A n ps (w.alloc (.cells cs t)) := fn_push (fn_zero h) (by simp) t cs
theorem fn_two (h : NR w A n ps) (t t2 : TypeId) (cs cs2 : Array Value) : Fn w [(t, cs), (t2, cs2)] A n ps ((w.alloc (.cells cs t)).alloc (.cells cs2 t2)) := fn_push (fn_one h t cs) (by simp) t2 cs2
theorem fn_three (h : NR w A n ps) (t t2 t3 : TypeId) (cs cs2 cs3 : Array Value) : Fn w [(t, cs), (t2, cs2), (t3, cs3)] A n ps (((w.alloc (.cells cs t)).alloc (.cells cs2 t2)).alloc (.cells cs3 t3)) := fn_push (fn_two h t t2 cs cs2) (by simp) t3 cs3
theorem fn_below (h : Fn w bs A n ps w1) (hb : Below w1.heap.size w1 w2) : Fn w bs A n ps w2 :=
  ⟨fun i t cs hi => blk_below (h.it i t cs hi) hb (blk_lt (h.it i t cs hi)), nr_below h.pr hb, below_seq h.below hb, Nat.le_trans h.lt hb.size, h.old⟩
theorem fn_alloc (h : Fn w bs A n ps w1) (o : Obj) : Fn w bs A n ps (w1.alloc o) := fn_below h (below_alloc (Below.refl _ _) o)
theorem fn_drewN (h : Fn w bs A n ps w1) (k : Nat) : Fn w bs A n ps (w1.drewN k) := ⟨h.it, h.pr, below_drewN h.below k, h.lt, h.old⟩
theorem fn_drew (h : Fn w bs A n ps w1) : Fn w bs A n ps w1.drew := ⟨h.it, h.pr, h.below.drew, h.lt, h.old⟩
theorem fn_grown {row : Option Nat} (h : Fn w bs A n ps w1) (hg : w1.grownBy w2 row) (hr : ∀ g, row = some g → w.heap.size + bs.length ≤ g) : Fn w bs A n ps w2 :=
  ⟨fun i t cs hi => blk_grownQ (h.it i t cs hi) hg (fun e => by
      have := hr _ e.symm
      have hl : i < bs.length := by
        rcases Nat.lt_or_ge i bs.length with hl | hl
        · exact hl
        · rw [List.getElem?_eq_none hl] at hi; cases hi
      omega),
    nr_grown h.pr hg (fun hn x hx e => by have := h.old hn x hx; have := hr x e.symm; omega), h.below.grown hg h.below.size (fun j e => by have := hr j e; omega), Nat.le_trans h.lt hg.size, h.old⟩
theorem fn_set (h : Fn w bs A n ps w1) {a : Addr} (ha : w.heap.size + bs.length ≤ a.block) (u : Value) : Fn w bs A n ps (w1.setCell a u) :=
  fn_grown h (g_set (g_refl w1 (some a.block)) (.inl rfl) u) (fun g hg => by injection hg with hg; omega)
/-- a store into one of the blocks: what the others hold, and the numbers -/
theorem fn_put (h : Fn w bs A n ps w1) (i : Nat) (t : TypeId) (cs : Array Value) (hi : bs[i]? = some (t, cs)) (k : Nat) (u : Value) : Fn w (bs.set i (t, cs.setIfInBounds k u)) A n ps (w1.setCell ⟨w.heap.size + i, k, none⟩ u) := by
  refine ⟨fun j t' cs' hj => ?_, nr_set h.pr (fun hn x hx e => by have := h.old hn x hx; simp at e; omega) u, h.below.setCell (by simp) u, by simpa using h.lt, h.old⟩
  by_cases e : i = j
  · subst e
    have hl : i < bs.length := by
      rcases Nat.lt_or_ge i bs.length with hl | hl
      · exact hl
      · rw [List.getElem?_eq_none hl] at hi; cases hi
    rw [List.getElem?_set_self hl] at hj
    obtain ⟨rfl, rfl⟩ : t = t' ∧ cs.setIfInBounds k u = cs' := by simpa using hj
    exact blk_set (h.it i t cs hi) k u
  · rw [List.getElem?_set_ne e] at hj
    exact blk_far (h.it j t' cs' hj) (by simp; omega) u
end
end Go.Proofs.YtaccbmgbkalknabDoor
