/-
  Chapter 8: guards: the plain maths. Conditions: none.
  Conditions: each lemma says them.
-/
import Derived.Test.YtanaeebjcbbagaaKjZ1
import Derived.Test.YtanaeebjcbbagaaKhZ1
import Derived.Test.YtanaeebjcbbagaaK2Z1
import Derived.Test.YtanaeebjcbbagaaK7Z1
namespace Go.Proofs.Ytanaeebjcbbagaa
open Go.RowKit
structure Gd where
  tm : Int
  all : Pkt
  each : List Pkt
  lim : Int
  ea : Int
  us : List Int
  ln : Ln
  sc : List Pkt
def bkB (n : Int) (b : Pkt) : Bool := rtB b.peer b.lane b.size b.id n
def srB (n : Int) (s : Pkt) : Bool := stB s.peer s.lane s.size s.id n
def byR : List Rb → Int → Int
  | [], _ => 0
  | r :: t, i => sizeSum (wOf r.fs i) + byR t i
def bys (l : Ln) : List Int := (List.range 8).map fun (i : Nat) => byR l.rs (i : Int)
structure GV (g : Gd) : Prop where
  t0 : 0 ≤ g.tm
  t1 : g.tm ≤ 1000000
  al : bkB g.tm g.all = true
  ne : g.each.length = 8
  ns : g.sc.length = 8
  ea : ∀ b ∈ g.each, bkB g.tm b = true
  sa : ∀ s ∈ g.sc, srB g.tm s = true
  ac : acB g.lim g.ea g.us = true
  ln : LV g.ln
  iz : g.us = bys g.ln
open Classical in
noncomputable def gvB (g : Gd) : Bool := decide (GV g)
theorem gv_iff {g : Gd} : gvB g = true ↔ GV g := by simp [gvB]
theorem gv_yes {g : Gd} (h : GV g) : true = gvB g := (gv_iff.2 h).symm
theorem gv_no {g : Gd} (h : ¬ GV g) : false = gvB g := by
  rcases hk : gvB g with _ | _
  · rfl
  · exact absurd (gv_iff.1 hk) h
structure GvK (g : Gd) (k : Nat) : Prop where
  ea : ∀ (j : Nat) (b : Pkt), j < k → g.each[j]? = some b → bkB g.tm b = true
  sa : ∀ (j : Nat) (s : Pkt), j < k → g.sc[j]? = some s → srB g.tm s = true
theorem gvk_zero (g : Gd) : GvK g 0 := ⟨fun j _ h => absurd h (by omega), fun j _ h => absurd h (by omega)⟩
theorem gvk_step {g : Gd} {k : Nat} {b s : Pkt} (h : GvK g k) (hb : g.each[k]? = some b) (hs : g.sc[k]? = some s) (h1 : bkB g.tm b = true) (h2 : srB g.tm s = true) : GvK g (k + 1) := by
  refine ⟨fun j c hj hc => ?_, fun j c hj hc => ?_⟩
  · rcases Nat.lt_succ_iff_lt_or_eq.1 hj with h3 | rfl
    · exact h.ea j c h3 hc
    · rw [hb] at hc; obtain rfl := Option.some.inj hc; exact h1
  · rcases Nat.lt_succ_iff_lt_or_eq.1 hj with h3 | rfl
    · exact h.sa j c h3 hc
    · rw [hs] at hc; obtain rfl := Option.some.inj hc; exact h2
theorem gvk_all {g : Gd} (h : GvK g 8) (ne : g.each.length = 8) (ns : g.sc.length = 8) : (∀ b ∈ g.each, bkB g.tm b = true) ∧ ∀ s ∈ g.sc, srB g.tm s = true := by
  refine ⟨fun b hb => ?_, fun s hs => ?_⟩
  · obtain ⟨k, hk⟩ := List.getElem?_of_mem hb
    exact h.ea k b (by have := get_lt hk; omega) hk
  · obtain ⟨k, hk⟩ := List.getElem?_of_mem hs
    exact h.sa k s (by have := get_lt hk; omega) hk
theorem byR_append (a b : List Rb) (i : Int) : byR (a ++ b) i = byR a i + byR b i := by
  induction a with
  | nil => simp [byR]
  | cons r t ih => simp only [List.cons_append, byR, ih]; omega
theorem byR_take {rs : List Rb} {k : Nat} {r : Rb} (h : rs[k]? = some r) (i : Int) : byR (rs.take (k + 1)) i = byR (rs.take k) i + sizeSum (wOf r.fs i) := by
  rw [List.take_add_one, h, byR_append]; simp [byR]
theorem w_mem_of {fs : List Flw} {x : Int} : wOf fs x = [] ∨ ∃ f ∈ fs, f.peer = x ∧ wOf fs x = f.ws := by
  by_cases h : fix fs x < fs.length
  · obtain ⟨f, hf, hp⟩ := fix_lt h
    exact .inr ⟨f, List.mem_of_getElem? hf, hp, w_fix hf⟩
  · exact .inl (w_far h)
theorem bys_len (l : Ln) : (bys l).length = 8 := by simp [bys]
theorem bys_get (l : Ln) {k : Nat} (h : k < 8) : (bys l)[k]? = some (byR l.rs (k : Int)) := by
  rw [bys, List.getElem?_map, List.getElem?_range h]; rfl
end Go.Proofs.Ytanaeebjcbbagaa
