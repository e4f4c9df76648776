/-
  Chapter 4: shares that are dealt several bytes at a time; plain mathematics. Conditions: none; every lemma says what it asks.
-/
import Derived.Test.YtkbjelchihdajaaAm
namespace Go.Proofs.Ytkbjelchihdajaa
open Go.RowKit

/-- the first k have been dealt up to r + q, the others up to r -/
def mix : List Int → Nat → Nat → Nat → List Int
  | [], _, _, _ => []
  | w :: ws, r, q, 0 => min w r :: mix ws r q 0
  | w :: ws, r, q, k + 1 => min w ((r : Int) + q) :: mix ws r q k
def mof (r q k i : Nat) : Int := if i < k then (r : Int) + q else r
theorem mix_len (ws : List Int) (r q k : Nat) : (mix ws r q k).length = ws.length := by
  induction ws generalizing k with
  | nil => rfl
  | cons w ws ih => cases k <;> simp [mix, ih]
theorem mix_get {ws : List Int} {r q k i : Nat} {w : Int} (h : ws[i]? = some w) : (mix ws r q k)[i]? = some (min w (mof r q k i)) := by
  induction ws generalizing k i with
  | nil => simp at h
  | cons v ws ih =>
    cases k with
    | zero =>
      cases i with
      | zero => simp only [List.getElem?_cons_zero, Option.some.injEq] at h; subst h; simp [mix, mof]
      | succ i =>
        have := ih (k := 0) (i := i) (by simpa using h)
        simp only [mix, List.getElem?_cons_succ, this]
        simp [mof]
    | succ k =>
      cases i with
      | zero => simp only [List.getElem?_cons_zero, Option.some.injEq] at h; subst h; simp [mix, mof]
      | succ i =>
        have := ih (k := k) (i := i) (by simpa using h)
        simp only [mix, List.getElem?_cons_succ, this]
        simp [mof]
theorem list_ext {s t : List Int} {ws : List Int} (hs : s.length = ws.length) (ht : t.length = ws.length) (h : ∀ (i : Nat) (w : Int), ws[i]? = some w → s[i]? = t[i]?) : s = t := by
  apply List.ext_getElem?
  intro i
  rcases Nat.lt_or_ge i ws.length with hl | hl
  · exact h i _ (List.getElem?_eq_getElem hl)
  · rw [List.getElem?_eq_none (by omega), List.getElem?_eq_none (by omega)]
theorem mix_zero (ws : List Int) (r q : Nat) : mix ws r q 0 = lev ws r 0 :=
  list_ext (mix_len _ _ _ _) (lev_len _ _ _) fun i w h => by rw [mix_get h, lev_get h]; simp [mof, cof]
theorem mix_one (ws : List Int) (r k : Nat) : mix ws r 1 k = lev ws r k :=
  list_ext (mix_len _ _ _ _) (lev_len _ _ _) fun i w h => by rw [mix_get h, lev_get h]; simp [mof, cof]
theorem mix_full (ws : List Int) (r q : Nat) : mix ws r q ws.length = lev ws (r + q) 0 :=
  list_ext (mix_len _ _ _ _) (lev_len _ _ _) fun i w h => by
    have hl : i < ws.length := by
      rcases Nat.lt_or_ge i ws.length with hl | hl
      · exact hl
      · rw [List.getElem?_eq_none hl] at h; cases h
    rw [mix_get h, lev_get h]
    simp [mof, cof, hl]
theorem mix_at {ws : List Int} {r q k i : Nat} {w : Int} (h : ws[i]? = some w) (hk : k ≤ i) : (mix ws r q k)[i]? = some (min w r) := by
  rw [mix_get h, mof, if_neg (by omega)]
theorem mix_step {ws : List Int} {r q i : Nat} {w : Int} (h : ws[i]? = some w) : mix ws r q (i + 1) = (mix ws r q i).set i (min w ((r : Int) + q)) :=
  list_ext (ws := ws) (mix_len _ _ _ _) (by rw [List.length_set, mix_len]) fun j v hv => by
    have hl : i < ws.length := by
      rcases Nat.lt_or_ge i ws.length with hl | hl
      · exact hl
      · rw [List.getElem?_eq_none hl] at h; cases h
    rw [mix_get hv, List.getElem?_set]
    by_cases e : i = j
    · subst e
      rw [if_pos rfl, if_pos (by rw [mix_len]; exact hl)]
      obtain rfl : w = v := by rw [h] at hv; injection hv
      simp [mof]
    · rw [if_neg e, mix_get hv]
      have : (j < i + 1) = (j < i) := by simp only [eq_iff_iff]; omega
      simp [mof, this]
theorem set_same {us : List Int} {k : Nat} {u : Int} (h : us[k]? = some u) : us.set k u = us := by
  apply List.ext_getElem?
  intro i
  rw [List.getElem?_set]
  split
  · rename_i e
    subst e
    have hl : k < us.length := by
      rcases Nat.lt_or_ge k us.length with hl | hl
      · exact hl
      · rw [List.getElem?_eq_none hl] at h; cases h
    rw [if_pos hl, h]
  · rfl
/-- no shares are left over, once a round deals nothing -/
theorem lev_stuck {ws : List Int} {r q : Nat} (hq : 1 ≤ q) (h : sumL (lev ws (r + q) 0) ≤ sumL (lev ws r 0)) : lev ws r 0 = ws := by
  have e := (sumL_le (s := lev ws r 0) (t := lev ws (r + q) 0) (by rw [lev_len, lev_len]) (lev_le fun i => by simp only [cof, Nat.not_lt_zero, if_false]; omega)).2 h
  refine list_ext (ws := ws) (lev_len _ _ _) rfl fun i w hw => ?_
  have h1 := lev_get (r := r) (k := 0) hw
  have h2 := lev_get (r := r + q) (k := 0) hw
  rw [← e, h1] at h2
  injection h2 with h2
  rw [h1, hw]
  simp only [cof, Nat.not_lt_zero, if_false] at h2 ⊢
  congr 1
  omega
/-- the state between two rounds: z bytes of T are left -/
def Dealt (ws : List Int) (T : Int) (s : List Int) (z : Int) : Prop := 0 ≤ z ∧ sumL s + z = T ∧ ∃ r k, s = lev ws r k ∧ (k = 0 ∨ z = 0)
/-- within a round that deals q bytes to each: i have been passed -/
def Deals (ws : List Int) (T : Int) (r q i : Nat) (s : List Int) (z : Int) : Prop :=
  0 ≤ z ∧ sumL s + z = T ∧ ∃ k, k ≤ i ∧ s = mix ws r q k ∧ ((k = i ∧ (q = 1 ∨ (((ws.length - i) * q : Nat) : Int) ≤ z)) ∨ (z = 0 ∧ q = 1))
theorem dealt_start {ws : List Int} (h : ∀ w ∈ ws, 0 ≤ w) {T : Int} (hT : 0 ≤ T) : Dealt ws T (List.replicate ws.length 0) T := by
  have h0 := lev_zero h
  refine ⟨hT, ?_, 0, 0, h0.symm, .inl rfl⟩
  have : ∀ n : Nat, sumL (List.replicate n 0) = 0 := fun n => by
    induction n with
    | zero => rfl
    | succ n ih => simp [List.replicate_succ, sumL, ih]
  rw [this]; omega
theorem deals_start {ws : List Int} {T z : Int} {s : List Int} {q : Nat} (h : Dealt ws T s z) (hz : 0 < z) (hq : q = 1 ∨ ((ws.length * q : Nat) : Int) ≤ z) : ∃ r, Deals ws T r q 0 s z := by
  obtain ⟨h0, h1, r, k, rfl, hk⟩ := h
  obtain rfl : k = 0 := by omega
  exact ⟨r, h0, h1, 0, Nat.le_refl _, (mix_zero _ _ _).symm, .inl ⟨rfl, hq⟩⟩
theorem deals_at {ws : List Int} {T z w : Int} {s : List Int} {r q i : Nat} (h : Deals ws T r q i s z) (hw : ws[i]? = some w) : s[i]? = some (min w r) := by
  obtain ⟨-, -, k, hk, rfl, -⟩ := h
  exact mix_at hw hk
theorem deals_step {ws : List Int} {T z w x m : Int} {s : List Int} {r q i : Nat} (h : Deals ws T r q i s z) (hq : 1 ≤ q) (hw : ws[i]? = some w) (hx : s[i]? = some x) (hm : m = min (min (w - x) q) z) : Deals ws T r q (i + 1) (s.set i (x + m)) (z - m) := by
  have hx' := deals_at h hw
  obtain rfl : x = min w r := by rw [hx] at hx'; injection hx'
  have hl : i < ws.length := by
    rcases Nat.lt_or_ge i ws.length with hl | hl
    · exact hl
    · rw [List.getElem?_eq_none hl] at hw; cases hw
  obtain ⟨h0, h1, k, hk, rfl, hc⟩ := h
  have e1 : (ws.length - i) * q = (ws.length - (i + 1)) * q + q := by
    rw [show ws.length - i = ws.length - (i + 1) + 1 by omega, Nat.add_mul, Nat.one_mul]
  by_cases hqz : (q : Int) ≤ z
  · obtain ⟨rfl, hc⟩ : k = i ∧ (q = 1 ∨ (((ws.length - i) * q : Nat) : Int) ≤ z) := by
      rcases hc with hc | ⟨hz, rfl⟩
      · exact hc
      · omega
    have e2 : min w (r : Int) + m = min w ((r : Int) + q) := by omega
    refine ⟨by omega, by rw [sumL_set hx]; omega, k + 1, Nat.le_refl _, by rw [e2]; exact (mix_step hw).symm, .inl ⟨rfl, ?_⟩⟩
    rcases hc with hc | hc
    · exact .inl hc
    · refine .inr ?_
      rw [e1] at hc
      omega
  · obtain ⟨hz, hq1⟩ : z = 0 ∧ q = 1 := by
      rcases hc with ⟨-, hc | hc⟩ | hc
      · omega
      · rw [e1] at hc; omega
      · exact hc
    have hm0 : m = 0 := by omega
    subst hm0
    refine ⟨by omega, by rw [sumL_set hx]; omega, k, by omega, ?_, .inr ⟨by omega, hq1⟩⟩
    rw [show min w (r : Int) + 0 = min w (r : Int) by omega]
    exact set_same hx
theorem deals_more {ws : List Int} {T z w x m : Int} {s : List Int} {r q i : Nat} (h : Deals ws T r q i s z) (hw : ws[i]? = some w) (hx : s[i]? = some x) (hm : m = min (min (w - x) q) z) : x ≤ w ∧ 0 ≤ m ∧ m ≤ z ∧ min w 0 ≤ x ∧ x + m ≤ w := by
  have hx' := deals_at h hw
  obtain rfl : x = min w r := by rw [hx] at hx'; injection hx'
  have := h.1
  omega
/-- a round's end: something was dealt -/
theorem deals_end {ws : List Int} {T z z0 : Int} {s s0 : List Int} {r q : Nat} (h : Deals ws T r q ws.length s z) (hq : 1 ≤ q) (h0 : s0 = lev ws r 0) (hs : sumL s0 + z0 = T) (hz : 0 < z0) (hT : T ≤ sumL ws) : Dealt ws T s z ∧ z < z0 := by
  subst h0
  obtain ⟨h0, h1, k, hk, rfl, hc⟩ := h
  rcases hc with ⟨rfl, -⟩ | ⟨rfl, rfl⟩
  · refine ⟨⟨h0, h1, r + q, 0, mix_full _ _ _, .inl rfl⟩, ?_⟩
    rcases Int.lt_or_le z z0 with hlt | hle
    · exact hlt
    · rw [mix_full] at h1
      have e := lev_stuck hq (show sumL (lev ws (r + q) 0) ≤ sumL (lev ws r 0) by omega)
      rw [e] at hs
      omega
  · exact ⟨⟨h0, h1, r, k, mix_one _ _ _, .inr rfl⟩, hz⟩
theorem deals_first {ws : List Int} {T z : Int} {s : List Int} {r q : Nat} (h : Deals ws T r q 0 s z) : s = lev ws r 0 := by
  obtain ⟨-, -, k, hk, rfl, -⟩ := h
  obtain rfl : k = 0 := by omega
  exact mix_zero _ _ _
theorem dealt_done {ws : List Int} {b : Int} {s : List Int} {z : Int} (h : Dealt ws (min b (sumL ws)) s z) (hz : ¬ 0 < z) : IsShare ws b s := by
  obtain ⟨h0, h1, r, k, rfl, -⟩ := h
  refine ⟨⟨r, k, rfl⟩, by omega, ?_⟩
  rcases Int.le_total b (sumL ws) with hb | hb
  · exact .inl (by omega)
  · exact .inr ((sumL_le (lev_len _ _ _) lev_wants).2 (by omega))
theorem deals_bd {ws : List Int} {T z : Int} {s : List Int} {r q i : Nat} (h : Deals ws T r q i s z) : 0 ≤ z ∧ sumL s + z = T := ⟨h.1, h.2.1⟩
end Go.Proofs.Ytkbjelchihdajaa
