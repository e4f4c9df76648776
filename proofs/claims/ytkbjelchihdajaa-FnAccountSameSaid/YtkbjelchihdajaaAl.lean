/-
  Chapter 4: what the laws ask of accounts and shares; plain mathematics. Conditions: none; every lemma says what it asks.
-/
import Derived.StillTailTactics
import Derived.Test.YtkbjelchihdajaaA5
namespace Go.Proofs.Ytkbjelchihdajaa
open Go.RowKit

theorem free_set {lim each u y : Int} {us : List Int} {k : Nat} (hu : us[k]? = some u) : freeN lim each (us.set k y) y = if each - y < lim - (sumL us - u + y) then each - y else lim - (sumL us - u + y) := by
  rw [freeN, sumL_set hu]
theorem free_less {lim each u b : Int} {us : List Int} {k : Nat} (hu : us[k]? = some u) : freeN lim each (us.set k (u + b)) (u + b) = freeN lim each us u - b := by
  rw [free_set hu, freeN]; split <;> split <;> omega
theorem free_nonneg {lim each u : Int} {us : List Int} {k : Nat} (h : acB lim each us = true) (hu : us[k]? = some u) : 0 ≤ freeN lim each us u := by
  have h1 := ac_get h hu
  have h2 := (ac_of h).2.2.2.2.1
  unfold freeN; split <;> omega
theorem set_two {us : List Int} {k : Nat} (y z : Int) : (us.set k y).set k z = us.set k z := List.set_set ..
theorem half_shares {us : List Int} {lim each : Int} (h : acB lim each us = true) (hs : IsShare us (sumL us / 2) (halfL us)) : (halfL us).length = 8 ∧ ∀ (i : Nat) x u, (halfL us)[i]? = some x → us[i]? = some u → 0 ≤ x ∧ x ≤ u := by
  obtain ⟨h1, h2, -⟩ := share_bd hs fun w hw => ((ac_of h).1 w hw).1
  exact ⟨h1.trans (ac_of h).2.2.2.1, h2⟩
theorem over_zero (hs : IsShare (List.replicate 8 0) (sumL (List.replicate 8 0) / 2) (halfL (List.replicate 8 0))) : overL (List.replicate 8 0) = [] := by
  have hb := share_bd hs fun w hw => by have := List.eq_of_mem_replicate hw; omega
  apply List.eq_nil_iff_forall_not_mem.2
  intro y hy
  obtain ⟨i, hi, -, hlt⟩ := over_mem hy
  have hi8 : i < (halfL (List.replicate 8 0)).length := by rw [hb.1]; simpa using hi
  have h1 := List.getElem?_eq_getElem hi8
  have h2 : (List.replicate 8 (0 : Int))[i]? = some 0 := by rw [List.getElem?_replicate, if_pos hi]
  have h3 := hb.2.1 i _ _ h1 h2
  rw [List.getD_eq_getElem?_getD, List.getD_eq_getElem?_getD, h1, h2, Option.getD_some, Option.getD_some] at hlt
  omega
theorem free_zero {lim each : Int} (h : each ≤ lim) : freeN lim each (List.replicate 8 0) 0 = each := by
  have h0 : sumL (List.replicate 8 (0 : Int)) = 0 := rfl
  unfold freeN
  rw [h0]
  split <;> omega
theorem fair_of2 {ws : List Int} {b : Int} (h : fairB ws b = true) : (∀ x ∈ ws, 0 ≤ x ∧ x ≤ 5000) ∧ 0 ≤ b ∧ b ≤ 5000 := by
  simp only [fairB, Bool.and_eq_true, decide_eq_true_eq] at h
  exact ⟨(wants_of h.1).2, h.2⟩
theorem get_len {us : List Int} {i : Nat} {n : Nat} (h : us.length = n) (hi : i < n) : ∃ u, us[i]? = some u := ⟨us[i]'(by omega), List.getElem?_eq_getElem (by omega)⟩
theorem getD_of {us : List Int} {i : Nat} {u : Int} (h : us[i]? = some u) : us.getD i 0 = u := by rw [List.getD_eq_getElem?_getD, h, Option.getD_some]
/-- who is over its share has used something -/
theorem over_pos {us : List Int} {lim each y : Int} (h : acB lim each us = true) (hs : IsShare us (sumL us / 2) (halfL us)) (hy : y ∈ overL us) : ∃ q : Nat, q < 8 ∧ y = (q : Int) ∧ ∃ u x, us[q]? = some u ∧ (halfL us)[q]? = some x ∧ 0 ≤ x ∧ x < u := by
  obtain ⟨q, hq, rfl, hlt⟩ := over_mem hy
  obtain ⟨h1, h2⟩ := half_shares h hs
  obtain ⟨x, hx⟩ := get_len h1 hq
  obtain ⟨u, hu⟩ := get_len (ac_of h).2.2.2.1 hq
  rw [getD_of hx, getD_of hu] at hlt
  exact ⟨q, hq, rfl, u, x, hu, hx, (h2 q x u hx hu).1, hlt⟩
theorem over_in {us : List Int} {q : Nat} {u x : Int} (hq : q < 8) (hu : us[q]? = some u) (hx : (halfL us)[q]? = some x) (hlt : x < u) : (q : Int) ∈ overL us :=
  over_has hq (by rw [getD_of hx, getD_of hu]; exact hlt)
theorem sum_pos {us : List Int} (h : ∀ x ∈ us, 0 ≤ x) {q : Nat} {u : Int} (hu : us[q]? = some u) (h0 : 0 < u) : 0 < sumL us := by
  have h1 := sumL_set hu 0
  have h2 : 0 ≤ sumL (us.set q 0) := by
    have hb : ∀ (l : List Int), (∀ x ∈ l, 0 ≤ x) → 0 ≤ sumL l := by
      intro l
      induction l with
      | nil => intro _; simp [sumL]
      | cons a r ih =>
        intro hl
        have h3 := hl a (by simp)
        have h4 := ih fun x hx => hl x (by simp [hx])
        have h5 : sumL (a :: r) = sumL [a] + sumL r := sumL_append [a] r
        have h6 : sumL [a] = a := by simp [sumL]
        omega
    exact hb _ fun x hx => by rcases mem_set hx with rfl | hx
                              · omega
                              · exact h x hx
  omega
theorem over_some {us : List Int} {lim each : Int} (h : acB lim each us = true) (hs : IsShare us (sumL us / 2) (halfL us)) : 0 < sumL us ↔ 0 < (overL us).length := by
  constructor
  · intro h0
    rcases Nat.eq_zero_or_pos (overL us).length with hn | hn
    case inr => exact hn
    have he : overL us = [] := List.eq_nil_of_length_eq_zero hn
    obtain ⟨h1, h2⟩ := half_shares h hs
    have hle : sumL us ≤ sumL (halfL us) := (sumL_le (s := us) (t := halfL us) (by rw [h1]; exact (ac_of h).2.2.2.1) fun i x y hx hy => by
      have hi : i < 8 := by
        have := (List.getElem?_eq_some_iff.1 hx).1
        have := (ac_of h).2.2.2.1
        omega
      rcases Int.lt_or_le y x with hlt | hle
      · have := over_in hi hx hy hlt
        rw [he] at this
        exact absurd this (by simp)
      · exact hle).1
    have := hs.2.1
    omega
  · intro h0
    have hl : (overL us)[0]? = some ((overL us)[0]'h0) := List.getElem?_eq_getElem h0
    obtain ⟨q, -, -, u, x, hu, -, h3, h4⟩ := over_pos h hs (List.mem_of_getElem? hl)
    exact sum_pos (fun x hx => ((ac_of h).1 x hx).1) hu (by omega)
/-- if any is over its share, so is one that has used the most -/
theorem over_most {us : List Int} {lim each : Int} (h : acB lim each us = true) (hs : IsShare us (sumL us / 2) (halfL us)) {y : Int} (hy : y ∈ overL us) {m : Nat} {um : Int} (hm : us[m]? = some um) (hmax : ∀ x ∈ us, x ≤ um) : ∃ q : Nat, (q : Int) ∈ overL us ∧ us[q]? = some um := by
  obtain ⟨q, hq, rfl, u, x, hu, hx, h3, h4⟩ := over_pos h hs hy
  obtain ⟨h1, h2⟩ := half_shares h hs
  have hm8 : m < 8 := by
    have := (List.getElem?_eq_some_iff.1 hm).1
    have := (ac_of h).2.2.2.1
    omega
  obtain ⟨z, hz⟩ := get_len h1 hm8
  have hle := hmax u (List.mem_of_getElem? hu)
  have hf := (share_fair hs hx hz hu h4).1
  rcases Int.lt_or_le z um with hlt | hge
  · exact ⟨m, over_in hm8 hm hz hlt, hm⟩
  · obtain rfl : u = um := by omega
    exact ⟨q, hy, hu⟩
end Go.Proofs.Ytkbjelchihdajaa
