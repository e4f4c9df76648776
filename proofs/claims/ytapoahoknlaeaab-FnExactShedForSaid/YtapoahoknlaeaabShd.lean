/-
  Chapter 3: what shedding keeps, in the words of its laws; plain mathematics. Conditions: none.
-/
import Derived.Test.YtapoahoknlaeaabQ8T
import Derived.Test.YtapoahoknlaeaabQL
namespace Go.Proofs.Ytapoahoknlaeaab
open Go.RowKit

theorem shed_all (lim size : Int) (hs : size ≤ lim) (f : Nat) : ∀ (ps g : List Pkt), ps.length = f → ps.all vldB = true → g.all vldB = true → (shedF lim size f ps g).2.all vldB = true := by
  induction f with
  | zero => intro ps g hl hv hg; exact hg
  | succ f ih =>
    intro ps g hl hv hg
    by_cases h : lim < sizeSum ps + size
    · obtain ⟨-, hc, p, hp, -, -⟩ := cut_spec hv (shed_some hs h)
      have e : shedF lim size (f + 1) ps g = shedF lim size f (ps.eraseIdx (cutIx ps)) (g ++ [p]) := by
        simp only [shedF, if_pos h, hp]
      have h1 := erase_len hc
      have hpv : vldB p = true := by
        rw [List.all_eq_true] at hv
        exact hv p (List.mem_of_getElem? hp)
      rw [e]
      exact ih _ _ (by omega) (erase_all _ hv) (by simp [List.all_append, hg, hpv])
    · have e : shedF lim size (f + 1) ps g = (ps, g) := by simp only [shedF, if_neg h]
      rw [e]
      exact hg
theorem shed_law {lim x : Int} {ps : List Pkt} (hk : shedOk lim ps x = true) :
    ∃ R g, R = (shed lim x ps).1 ∧ g = (shed lim x ps).2 ∧ qvB lim ps = true ∧ qvB lim R = true ∧ R.length + g.length = ps.length ∧ sizeSum R + x ≤ lim ∧ (0 ≤ sizeSum ps ∧ sizeSum ps ≤ lim ∧ lim ≤ 1000) ∧ 0 ≤ sizeSum R ∧
      ((g.length = 0 ∧ sizeSum ps + x ≤ lim) ∨ ∃ k p q, g.length = k + 1 ∧ g[k]? = some p ∧ g[0]? = some q ∧ lim < sizeSum R + x + p.size ∧ (0 ≤ p.size ∧ p.size ≤ 100) ∧ lim < sizeSum ps + x ∧ ps[cutIx ps]? = some q) := by
  obtain ⟨hq, -, s0, s1⟩ := shed_of hk
  obtain ⟨h1, h2, h3, h4, h5, h6⟩ := qv_of hq
  obtain ⟨i1, i2, i3, i4, i5, i6⟩ := shed_facts lim x s1 ps.length ps [] rfl (ok_of h1).2
  have hg := shed_all lim x s1 ps.length ps [] rfl (ok_of h1).2 rfl
  have hqR := shed_qv (size := x) hq s0 s1
  refine ⟨_, _, rfl, rfl, hq, hqR, by unfold shed; simpa using i2, i3, ⟨h5, h4, h3⟩, (qv_of hqR).2.2.2.2.1, ?_⟩
  by_cases h : lim < sizeSum ps + x
  · obtain ⟨l, p, q, j1, j2, j3, j4⟩ := i6 h
    refine .inr ⟨l.length, p, q, ?_, ?_, ?_, j2, ?_, h, j3⟩
    · unfold shed; rw [j1]; simp
    · unfold shed; rw [j1]; simp
    · obtain ⟨t, ht⟩ := j4
      unfold shed
      rw [← ht]; rfl
    · rw [j1] at hg
      simp only [List.all_append, Bool.and_eq_true, List.all_cons] at hg
      have := vld_size hg.2.1
      omega
  · have e := shed_stop (lim := lim) (size := x) (ps := ps) (g := []) (by omega)
    refine .inl ⟨by unfold shed; rw [e]; rfl, by omega⟩
end Go.Proofs.Ytapoahoknlaeaab
