/-
  Chapter 4: accounts and shares as lists; plain mathematics. Conditions: none; every lemma says what it asks.
-/
import Derived.Test.YtaccbmgbkalknabDoorBase
namespace Go.Proofs.YtaccbmgbkalknabDoor
open Go.RowKit

/-! Sums -/
def sumL : List Int → Int
  | [] => 0
  | x :: r => x + sumL r
theorem sumL_append (a b : List Int) : sumL (a ++ b) = sumL a + sumL b := by
  induction a with
  | nil => simp [sumL]
  | cons x r ih => simp only [List.cons_append, sumL, ih]; omega
theorem sumL_snoc (a : List Int) (x : Int) : sumL (a ++ [x]) = sumL a + x := by rw [sumL_append]; simp [sumL]
theorem sumL_take {xs : List Int} {k : Nat} {x : Int} (h : xs[k]? = some x) : sumL (xs.take (k + 1)) = sumL (xs.take k) + x := by
  rw [List.take_add_one, h]; exact sumL_snoc _ _
theorem sumL_bd {xs : List Int} {B : Int} (h : ∀ x ∈ xs, 0 ≤ x ∧ x ≤ B) : 0 ≤ sumL xs ∧ sumL xs ≤ B * xs.length := by
  induction xs with
  | nil => simp [sumL]
  | cons x r ih =>
    have h1 := h x (List.mem_cons_self ..)
    have h2 := ih fun y hy => h y (List.mem_cons_of_mem _ hy)
    simp only [sumL, List.length_cons]
    have : B * ((r.length + 1 : Nat) : Int) = B * r.length + B := by rw [Int.natCast_add, Int.mul_add]; simp
    omega
theorem sumL_take_bd {xs : List Int} {B : Int} (h : ∀ x ∈ xs, 0 ≤ x ∧ x ≤ B) (k : Nat) (hB : 0 ≤ B) : 0 ≤ sumL (xs.take k) ∧ sumL (xs.take k) ≤ B * xs.length := by
  have h1 := sumL_bd (xs := xs.take k) (B := B) fun x hx => h x (List.mem_of_mem_take hx)
  have h2 : ((xs.take k).length : Int) ≤ xs.length := by simp; omega
  have := Int.mul_le_mul_of_nonneg_left h2 hB
  omega
theorem sumL_set {xs : List Int} {k : Nat} {x : Int} (h : xs[k]? = some x) (y : Int) : sumL (xs.set k y) = sumL xs - x + y := by
  induction xs generalizing k with
  | nil => simp at h
  | cons z r ih =>
    cases k with
    | zero =>
      simp only [List.getElem?_cons_zero, Option.some.injEq] at h
      subst h
      simp only [List.set_cons_zero, sumL]; omega
    | succ k =>
      have := ih (k := k) (by simpa using h)
      simp only [List.set_cons_succ, sumL, this]; omega
theorem sumL_le {s t : List Int} (hl : s.length = t.length) (h : ∀ (i : Nat) x y, s[i]? = some x → t[i]? = some y → x ≤ y) : sumL s ≤ sumL t ∧ (sumL t ≤ sumL s → s = t) := by
  induction s generalizing t with
  | nil =>
    cases t with
    | nil => exact ⟨Int.le_refl _, fun _ => rfl⟩
    | cons y t => simp at hl
  | cons x s ih =>
    cases t with
    | nil => simp at hl
    | cons y t =>
      have h0 := h 0 x y rfl rfl
      have h1 := ih (t := t) (by simpa using hl) fun i a b ha hb => h (i + 1) a b (by simpa using ha) (by simpa using hb)
      refine ⟨by simp only [sumL]; omega, fun hs => ?_⟩
      simp only [sumL] at hs
      have hx : x = y := by omega
      rw [hx, h1.2 (by omega)]

/-! Accounts -/
def acB (lim each : Int) (us : List Int) : Bool := us.all (fun x => decide (0 ≤ x ∧ x ≤ each)) && decide (1 ≤ lim ∧ lim ≤ 5000 ∧ 1 ≤ each ∧ each ≤ lim ∧ us.length = 8 ∧ sumL us ≤ lim)
theorem ac_of {lim each : Int} {us : List Int} (h : acB lim each us = true) : (∀ x ∈ us, 0 ≤ x ∧ x ≤ each) ∧ (1 ≤ lim ∧ lim ≤ 5000) ∧ (1 ≤ each ∧ each ≤ lim) ∧ us.length = 8 ∧ sumL us ≤ lim ∧ 0 ≤ sumL us := by
  simp only [acB, Bool.and_eq_true, decide_eq_true_eq, List.all_eq_true] at h
  obtain ⟨h1, h2, h3, h4, h5, h6, h7⟩ := h
  exact ⟨h1, ⟨h2, h3⟩, ⟨h4, h5⟩, h6, h7, (sumL_bd h1).1⟩
theorem ac_mk {lim each : Int} {us : List Int} (h1 : ∀ x ∈ us, 0 ≤ x ∧ x ≤ each) (h2 : 1 ≤ lim) (h3 : lim ≤ 5000) (h4 : 1 ≤ each) (h5 : each ≤ lim) (h6 : us.length = 8) (h7 : sumL us ≤ lim) : acB lim each us = true := by
  simp only [acB, Bool.and_eq_true, decide_eq_true_eq, List.all_eq_true]
  exact ⟨h1, h2, h3, h4, h5, h6, h7⟩
theorem ac_zero {lim each : Int} : acB lim each (List.replicate 8 0) = decide (1 ≤ lim ∧ lim ≤ 5000 ∧ 1 ≤ each ∧ each ≤ lim) := by
  rw [Bool.eq_iff_iff, decide_eq_true_eq]
  constructor
  · intro h
    obtain ⟨-, h2, h3, -⟩ := ac_of h
    exact ⟨h2.1, h2.2, h3.1, h3.2⟩
  · rintro ⟨h1, h2, h3, h4⟩
    refine ac_mk (fun x hx => ?_) h1 h2 h3 h4 rfl ?_
    · have := List.eq_of_mem_replicate hx; omega
    · show sumL [0, 0, 0, 0, 0, 0, 0, 0] ≤ lim
      simp only [sumL]; omega
def freeN (lim each : Int) (us : List Int) (u : Int) : Int := if each - u < lim - sumL us then each - u else lim - sumL us
theorem free_le {lim each u : Int} {us : List Int} : freeN lim each us u ≤ each - u ∧ freeN lim each us u ≤ lim - sumL us ∧ (freeN lim each us u = each - u ∨ freeN lim each us u = lim - sumL us) := by
  unfold freeN; split <;> omega
theorem mem_set {xs : List Int} {k : Nat} {y z : Int} (h : z ∈ xs.set k y) : z = y ∨ z ∈ xs := by
  rcases List.mem_or_eq_of_mem_set h with h | h
  · exact .inr h
  · exact .inl h
theorem ac_set {lim each : Int} {us : List Int} {k : Nat} {u y : Int} (h : acB lim each us = true) (hu : us[k]? = some u) (h0 : 0 ≤ y) (h1 : y ≤ each) (h2 : sumL us - u + y ≤ lim) : acB lim each (us.set k y) = true := by
  obtain ⟨a1, a2, a3, a4, a5, a6⟩ := ac_of h
  refine ac_mk (fun x hx => ?_) a2.1 a2.2 a3.1 a3.2 (by rw [List.length_set]; exact a4) (by rw [sumL_set hu]; exact h2)
  rcases mem_set hx with rfl | hx
  · exact ⟨h0, h1⟩
  · exact a1 x hx
theorem set_back {us : List Int} {k : Nat} {u : Int} (h : us[k]? = some u) (y : Int) : (us.set k y).set k u = us := by
  rw [List.set_set]
  apply List.ext_getElem?
  intro i
  rw [List.getElem?_set]
  split
  · rename_i e
    subst e
    have hl : k < us.length := by
      rcases Nat.lt_or_ge k us.length with hl | hl
      · exact hl
      · rw [List.getElem?_eq_none hl] at h; cases h
    rw [if_pos hl, h]
  · rfl
theorem get_set {us : List Int} {k : Nat} {u : Int} (h : us[k]? = some u) (y : Int) : (us.set k y)[k]? = some y := by
  have hl : k < us.length := by
    rcases Nat.lt_or_ge k us.length with hl | hl
    · exact hl
    · rw [List.getElem?_eq_none hl] at h; cases h
  rw [List.getElem?_set_self hl]

/-! Shares: each one has the lesser one of what it wants and of a level, which is one more for the first ones -/
def cof (r k i : Nat) : Int := if i < k then (r : Int) + 1 else r
def lev : List Int → Nat → Nat → List Int
  | [], _, _ => []
  | w :: ws, r, 0 => min w r :: lev ws r 0
  | w :: ws, r, k + 1 => min w ((r : Int) + 1) :: lev ws r k
theorem lev_len (ws : List Int) (r k : Nat) : (lev ws r k).length = ws.length := by
  induction ws generalizing k with
  | nil => rfl
  | cons w ws ih => cases k <;> simp [lev, ih]
theorem lev_get {ws : List Int} {r k i : Nat} {w : Int} (h : ws[i]? = some w) : (lev ws r k)[i]? = some (min w (cof r k i)) := by
  induction ws generalizing k i with
  | nil => simp at h
  | cons v ws ih =>
    cases k with
    | zero =>
      cases i with
      | zero => simp only [List.getElem?_cons_zero, Option.some.injEq] at h; subst h; simp [lev, cof]
      | succ i =>
        have := ih (k := 0) (i := i) (by simpa using h)
        simp only [lev, List.getElem?_cons_succ, this]
        simp [cof]
    | succ k =>
      cases i with
      | zero => simp only [List.getElem?_cons_zero, Option.some.injEq] at h; subst h; simp [lev, cof]
      | succ i =>
        have := ih (k := k) (i := i) (by simpa using h)
        simp only [lev, List.getElem?_cons_succ, this]
        simp [cof]
theorem lev_at {ws : List Int} {r k i : Nat} {x : Int} (h : (lev ws r k)[i]? = some x) : ∃ w, ws[i]? = some w ∧ x = min w (cof r k i) := by
  have hl : i < ws.length := by
    rcases Nat.lt_or_ge i ws.length with hl | hl
    · exact hl
    · rw [List.getElem?_eq_none (by rw [lev_len]; exact hl)] at h; cases h
  have hw := List.getElem?_eq_getElem hl
  rw [lev_get hw] at h
  exact ⟨_, hw, by injection h with h; exact h.symm⟩
theorem lev_full (ws : List Int) (r : Nat) : lev ws r ws.length = lev ws (r + 1) 0 := by
  apply List.ext_getElem?
  intro i
  rcases Nat.lt_or_ge i ws.length with hl | hl
  · rw [lev_get (List.getElem?_eq_getElem hl), lev_get (List.getElem?_eq_getElem hl)]
    simp [cof, hl]
  · rw [List.getElem?_eq_none (by rw [lev_len]; exact hl), List.getElem?_eq_none (by rw [lev_len]; exact hl)]
theorem lev_step {ws : List Int} {r k : Nat} {w : Int} (h : ws[k]? = some w) : lev ws r (k + 1) = (lev ws r k).set k (min w ((r : Int) + 1)) := by
  have hk : k < ws.length := by
    rcases Nat.lt_or_ge k ws.length with hl | hl
    · exact hl
    · rw [List.getElem?_eq_none hl] at h; cases h
  apply List.ext_getElem?
  intro i
  rcases Nat.lt_or_ge i ws.length with hl | hl
  · rw [lev_get (List.getElem?_eq_getElem hl), List.getElem?_set]
    by_cases e : k = i
    · subst e
      rw [if_pos rfl, if_pos (by rw [lev_len]; exact hl)]
      have : ws[k] = w := by rw [List.getElem?_eq_getElem hl] at h; injection h
      rw [this]
      simp [cof]
    · rw [if_neg e, lev_get (List.getElem?_eq_getElem hl)]
      have : (i < k + 1) = (i < k) := by simp only [eq_iff_iff]; omega
      simp [cof, this]
  · rw [List.getElem?_eq_none (by rw [lev_len]; exact hl), List.getElem?_eq_none (by rw [List.length_set, lev_len]; exact hl)]
theorem lev_zero {ws : List Int} (h : ∀ w ∈ ws, 0 ≤ w) : lev ws 0 0 = List.replicate ws.length 0 := by
  induction ws with
  | nil => rfl
  | cons w ws ih =>
    have h0 := h w (List.mem_cons_self ..)
    have h1 := ih fun x hx => h x (List.mem_cons_of_mem _ hx)
    simp only [lev, h1, List.length_cons, List.replicate_succ]
    congr 1
    simp; omega
theorem lev_le {ws : List Int} {r k r' k' : Nat} (h : ∀ i, cof r k i ≤ cof r' k' i) (i : Nat) (x y : Int) (hx : (lev ws r k)[i]? = some x) (hy : (lev ws r' k')[i]? = some y) : x ≤ y := by
  obtain ⟨w, hw, rfl⟩ := lev_at hx
  obtain ⟨w', hw', rfl⟩ := lev_at hy
  obtain rfl : w = w' := by rw [hw] at hw'; injection hw'
  have := h i
  omega
theorem cof_total (r k r' k' : Nat) : (∀ i, cof r k i ≤ cof r' k' i) ∨ (∀ i, cof r' k' i ≤ cof r k i) := by
  rcases Nat.lt_trichotomy r r' with h | h | h
  · exact .inl fun i => by unfold cof; split <;> split <;> omega
  · subst h
    rcases Nat.le_total k k' with h | h
    · exact .inl fun i => by unfold cof; split <;> split <;> omega
    · exact .inr fun i => by unfold cof; split <;> split <;> omega
  · exact .inr fun i => by unfold cof; split <;> split <;> omega
theorem lev_wants {ws : List Int} {r k : Nat} (i : Nat) (x y : Int) (hx : (lev ws r k)[i]? = some x) (hy : ws[i]? = some y) : x ≤ y := by
  obtain ⟨w, hw, rfl⟩ := lev_at hx
  obtain rfl : w = y := by rw [hw] at hy; injection hy
  omega
/-- s are the shares of b bytes -/
def IsShare (ws : List Int) (b : Int) (s : List Int) : Prop := (∃ r k, s = lev ws r k) ∧ sumL s ≤ b ∧ (sumL s = b ∨ s = ws)
theorem share_unique {ws : List Int} {b : Int} {s t : List Int} (hs : IsShare ws b s) (ht : IsShare ws b t) : s = t := by
  obtain ⟨⟨r, k, rfl⟩, s1, s2⟩ := hs
  obtain ⟨⟨r', k', rfl⟩, t1, t2⟩ := ht
  have hl : (lev ws r k).length = (lev ws r' k').length := by rw [lev_len, lev_len]
  have w1 := sumL_le (s := lev ws r k) (t := ws) (lev_len _ _ _) lev_wants
  have w2 := sumL_le (s := lev ws r' k') (t := ws) (lev_len _ _ _) lev_wants
  rcases cof_total r k r' k' with h | h
  · have h1 := sumL_le hl (lev_le h)
    apply h1.2
    rcases s2 with s2 | s2
    · omega
    · rw [s2]; exact w2.1
  · have h1 := sumL_le hl.symm (lev_le h)
    apply Eq.symm
    apply h1.2
    rcases t2 with t2 | t2
    · omega
    · rw [t2]; exact w1.1
/-- what the laws ask of shares -/
theorem share_bd {ws s : List Int} {b : Int} (h : IsShare ws b s) (hw : ∀ w ∈ ws, 0 ≤ w) : s.length = ws.length ∧ (∀ (i : Nat) x w, s[i]? = some x → ws[i]? = some w → 0 ≤ x ∧ x ≤ w) ∧ sumL s ≤ b ∧ (sumL s = b ∨ sumL s = sumL ws) := by
  obtain ⟨⟨r, k, rfl⟩, s1, s2⟩ := h
  refine ⟨lev_len _ _ _, fun i x w hx hwi => ⟨?_, lev_wants i x w hx hwi⟩, s1, s2.imp id fun e => by rw [e]⟩
  obtain ⟨v, hv, rfl⟩ := lev_at hx
  have := hw v (List.mem_of_getElem? hv)
  have : 0 ≤ cof r k i := by unfold cof; split <;> omega
  omega
theorem share_fair {ws s : List Int} {b : Int} (h : IsShare ws b s) {i j : Nat} {x y w : Int} (hx : s[i]? = some x) (hy : s[j]? = some y) (hw : ws[i]? = some w) (hlt : x < w) : y ≤ x + 1 ∧ (i < j → y ≤ x) := by
  obtain ⟨⟨r, k, rfl⟩, -, -⟩ := h
  obtain ⟨v, hv, rfl⟩ := lev_at hx
  obtain ⟨u, hu, rfl⟩ := lev_at hy
  obtain rfl : v = w := by rw [hv] at hw; injection hw
  unfold cof at *
  constructor
  · split <;> split at hlt <;> simp only [*, if_true, if_false] <;> omega
  · intro hij
    split <;> split at hlt <;> simp only [*, if_true, if_false] <;> omega
theorem share_more {ws s t : List Int} {b : Int} (hs : IsShare ws b s) (ht : IsShare ws (b + 1) t) : (∀ (i : Nat) x y, s[i]? = some x → t[i]? = some y → x ≤ y) ∧ sumL t - sumL s ≤ 1 := by
  obtain ⟨⟨r, k, rfl⟩, s1, s2⟩ := hs
  obtain ⟨⟨r', k', rfl⟩, t1, t2⟩ := ht
  have hl : (lev ws r k).length = (lev ws r' k').length := by rw [lev_len, lev_len]
  have w1 := sumL_le (s := lev ws r k) (t := ws) (lev_len _ _ _) lev_wants
  have w2 := sumL_le (s := lev ws r' k') (t := ws) (lev_len _ _ _) lev_wants
  refine ⟨?_, ?_⟩
  · rcases cof_total r k r' k' with h | h
    · exact lev_le h
    · have h1 := sumL_le hl.symm (lev_le h)
      have e : lev ws r' k' = lev ws r k := by
        apply h1.2
        rcases t2 with t2 | t2
        · omega
        · rw [t2]; exact w1.1
      intro i x y hx hy
      rw [e, hx] at hy
      injection hy with hy
      omega
  · rcases s2 with s2 | s2
    · omega
    · have e := congrArg sumL s2
      have := w2.1
      omega

/-! Those over their share -/
def overN (us s : List Int) : Nat → List Int
  | 0 => []
  | k + 1 => if s.getD k 0 < us.getD k 0 then overN us s k ++ [(k : Int)] else overN us s k
theorem over_yes {us s : List Int} {k : Nat} {u x : Int} (hu : us[k]? = some u) (hx : s[k]? = some x) (h : x < u) : overN us s (k + 1) = overN us s k ++ [(k : Int)] := by
  simp [overN, List.getD_eq_getElem?_getD, hu, hx, h]
theorem over_no {us s : List Int} {k : Nat} {u x : Int} (hu : us[k]? = some u) (hx : s[k]? = some x) (h : ¬ x < u) : overN us s (k + 1) = overN us s k := by
  simp [overN, List.getD_eq_getElem?_getD, hu, hx, h]
theorem over_len (us s : List Int) (k : Nat) : (overN us s k).length ≤ k := by
  induction k with
  | zero => simp [overN]
  | succ k ih => unfold overN; split <;> (try simp) <;> omega
theorem over_mem {us s : List Int} {k : Nat} {y : Int} (h : y ∈ overN us s k) : ∃ i : Nat, i < k ∧ y = (i : Int) ∧ s.getD i 0 < us.getD i 0 := by
  induction k with
  | zero => simp [overN] at h
  | succ k ih =>
    unfold overN at h
    split at h
    · rename_i hlt
      rcases List.mem_append.1 h with h | h
      · obtain ⟨i, h1, h2, h3⟩ := ih h
        exact ⟨i, by omega, h2, h3⟩
      · exact ⟨k, by omega, by simpa using h, hlt⟩
    · obtain ⟨i, h1, h2, h3⟩ := ih h
      exact ⟨i, by omega, h2, h3⟩
theorem over_has {us s : List Int} {k i : Nat} (hi : i < k) (h : s.getD i 0 < us.getD i 0) : (i : Int) ∈ overN us s k := by
  induction k with
  | zero => omega
  | succ k ih =>
    unfold overN
    by_cases e : i = k
    · subst e
      rw [if_pos h]
      simp
    · have := ih (by omega)
      split
      · exact List.mem_append_left _ this
      · exact this
theorem over_up {us s : List Int} {k j : Nat} {x y : Int} (hx : (overN us s k)[j]? = some x) (hy : (overN us s k)[j + 1]? = some y) : x < y := by
  induction k with
  | zero => simp [overN] at hx
  | succ k ih =>
    unfold overN at hx hy
    split at hx
    · rename_i hlt
      rw [if_pos hlt] at hy
      rcases Nat.lt_or_ge (j + 1) (overN us s k).length with hl | hl
      · rw [List.getElem?_append_left (by omega)] at hx
        rw [List.getElem?_append_left hl] at hy
        exact ih hx hy
      · rw [List.getElem?_append_right hl] at hy
        have h0 : j + 1 - (overN us s k).length = 0 := by
          rcases Nat.eq_zero_or_pos (j + 1 - (overN us s k).length) with e | e
          · exact e
          · rw [List.getElem?_eq_none (by simp; omega)] at hy; cases hy
        rw [h0] at hy
        have hy' : y = (k : Int) := by simpa using hy.symm
        rw [List.getElem?_append_left (by omega)] at hx
        obtain ⟨i, h1, h2, -⟩ := over_mem (List.mem_of_getElem? hx)
        omega
    · rename_i hlt
      rw [if_neg hlt] at hy
      exact ih hx hy
end Go.Proofs.YtaccbmgbkalknabDoor
