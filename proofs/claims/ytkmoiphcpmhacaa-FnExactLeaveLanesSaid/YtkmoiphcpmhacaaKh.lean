/-
  Chapter 4: accounts and shares as lists; plain mathematics. Conditions: none; every lemma says what it asks. Rows of numbers in memory: reading, copying, appending. Conditions: a row has at most 4000000000 numbers. The blocks that a call lays first (boxed parameters, results, local structs), known whole, and the numbers of the slice that came in. Conditions: none. Chapter 4: AccountValid and AccountSame; the model's. Conditions: the slice's length fits an int. Chapter 4: NewAccount, FreeFor, Reserve, Release; the model's. Conditions: a slice has at most 4000000000 numbers. Chapter 4: FairShare
  Conditions: each lemma says them.
-/
import Derived.Test.YtkmoiphcpmhacaaKa
import Derived.Deep.RegionHeld3
import Derived.Deep.Slices
import Derived.Deep.Fields
import Derived.ChangeSame
import Derived.Lib.SmallJoins
namespace Go.Proofs.Ytkmoiphcpmhacaa
open Go.RowKit

/-! Sums -/
def sumL : List Int → Int
  | [] => 0
  | x :: r => x + sumL r
theorem sumL_append (a b : List Int) : sumL (a ++ b) = sumL a + sumL b := by
  induction a with
  | nil => simp [sumL]
  | cons x r ih => simp only [List.cons_append, sumL, ih]; omega
theorem sumL_snoc (a : List Int) (x : Int) : sumL (a ++ [x]) = sumL a + x := by rw [sumL_append]; simp [sumL]
theorem sumL_take {xs : List Int} {k : Nat} {x : Int} (h : xs[k]? = some x) : sumL (xs.take (k + 1)) = sumL (xs.take k) + x := by
  rw [List.take_add_one, h]; exact sumL_snoc _ _
theorem sumL_bd {xs : List Int} {B : Int} (h : ∀ x ∈ xs, 0 ≤ x ∧ x ≤ B) : 0 ≤ sumL xs ∧ sumL xs ≤ B * xs.length := by
  induction xs with
  | nil => simp [sumL]
  | cons x r ih =>
    have h1 := h x (List.mem_cons_self ..)
    have h2 := ih fun y hy => h y (List.mem_cons_of_mem _ hy)
    simp only [sumL, List.length_cons]
    have : B * ((r.length + 1 : Nat) : Int) = B * r.length + B := by rw [Int.natCast_add, Int.mul_add]; simp
    omega
theorem sumL_take_bd {xs : List Int} {B : Int} (h : ∀ x ∈ xs, 0 ≤ x ∧ x ≤ B) (k : Nat) (hB : 0 ≤ B) : 0 ≤ sumL (xs.take k) ∧ sumL (xs.take k) ≤ B * xs.length := by
  have h1 := sumL_bd (xs := xs.take k) (B := B) fun x hx => h x (List.mem_of_mem_take hx)
  have h2 : ((xs.take k).length : Int) ≤ xs.length := by simp; omega
  have := Int.mul_le_mul_of_nonneg_left h2 hB
  omega
theorem sumL_set {xs : List Int} {k : Nat} {x : Int} (h : xs[k]? = some x) (y : Int) : sumL (xs.set k y) = sumL xs - x + y := by
  induction xs generalizing k with
  | nil => simp at h
  | cons z r ih =>
    cases k with
    | zero =>
      simp only [List.getElem?_cons_zero, Option.some.injEq] at h
      subst h
      simp only [List.set_cons_zero, sumL]; omega
    | succ k =>
      have := ih (k := k) (by simpa using h)
      simp only [List.set_cons_succ, sumL, this]; omega
theorem sumL_le {s t : List Int} (hl : s.length = t.length) (h : ∀ (i : Nat) x y, s[i]? = some x → t[i]? = some y → x ≤ y) : sumL s ≤ sumL t ∧ (sumL t ≤ sumL s → s = t) := by
  induction s generalizing t with
  | nil =>
    cases t with
    | nil => exact ⟨Int.le_refl _, fun _ => rfl⟩
    | cons y t => simp at hl
  | cons x s ih =>
    cases t with
    | nil => simp at hl
    | cons y t =>
      have h0 := h 0 x y rfl rfl
      have h1 := ih (t := t) (by simpa using hl) fun i a b ha hb => h (i + 1) a b (by simpa using ha) (by simpa using hb)
      refine ⟨by simp only [sumL]; omega, fun hs => ?_⟩
      simp only [sumL] at hs
      have hx : x = y := by omega
      rw [hx, h1.2 (by omega)]

/-! Accounts -/
def acB (lim each : Int) (us : List Int) : Bool := us.all (fun x => decide (0 ≤ x ∧ x ≤ each)) && decide (1 ≤ lim ∧ lim ≤ 5000 ∧ 1 ≤ each ∧ each ≤ lim ∧ us.length = 8 ∧ sumL us ≤ lim)
theorem ac_of {lim each : Int} {us : List Int} (h : acB lim each us = true) : (∀ x ∈ us, 0 ≤ x ∧ x ≤ each) ∧ (1 ≤ lim ∧ lim ≤ 5000) ∧ (1 ≤ each ∧ each ≤ lim) ∧ us.length = 8 ∧ sumL us ≤ lim ∧ 0 ≤ sumL us := by
  simp only [acB, Bool.and_eq_true, decide_eq_true_eq, List.all_eq_true] at h
  obtain ⟨h1, h2, h3, h4, h5, h6, h7⟩ := h
  exact ⟨h1, ⟨h2, h3⟩, ⟨h4, h5⟩, h6, h7, (sumL_bd h1).1⟩
theorem ac_mk {lim each : Int} {us : List Int} (h1 : ∀ x ∈ us, 0 ≤ x ∧ x ≤ each) (h2 : 1 ≤ lim) (h3 : lim ≤ 5000) (h4 : 1 ≤ each) (h5 : each ≤ lim) (h6 : us.length = 8) (h7 : sumL us ≤ lim) : acB lim each us = true := by
  simp only [acB, Bool.and_eq_true, decide_eq_true_eq, List.all_eq_true]
  exact ⟨h1, h2, h3, h4, h5, h6, h7⟩
theorem ac_zero {lim each : Int} : acB lim each (List.replicate 8 0) = decide (1 ≤ lim ∧ lim ≤ 5000 ∧ 1 ≤ each ∧ each ≤ lim) := by
  rw [Bool.eq_iff_iff, decide_eq_true_eq]
  constructor
  · intro h
    obtain ⟨-, h2, h3, -⟩ := ac_of h
    exact ⟨h2.1, h2.2, h3.1, h3.2⟩
  · rintro ⟨h1, h2, h3, h4⟩
    refine ac_mk (fun x hx => ?_) h1 h2 h3 h4 rfl ?_
    · have := List.eq_of_mem_replicate hx; omega
    · show sumL [0, 0, 0, 0, 0, 0, 0, 0] ≤ lim
      simp only [sumL]; omega
def freeN (lim each : Int) (us : List Int) (u : Int) : Int := if each - u < lim - sumL us then each - u else lim - sumL us
theorem free_le {lim each u : Int} {us : List Int} : freeN lim each us u ≤ each - u ∧ freeN lim each us u ≤ lim - sumL us ∧ (freeN lim each us u = each - u ∨ freeN lim each us u = lim - sumL us) := by
  unfold freeN; split <;> omega
theorem mem_set {xs : List Int} {k : Nat} {y z : Int} (h : z ∈ xs.set k y) : z = y ∨ z ∈ xs := by
  rcases List.mem_or_eq_of_mem_set h with h | h
  · exact .inr h
  · exact .inl h
theorem ac_set {lim each : Int} {us : List Int} {k : Nat} {u y : Int} (h : acB lim each us = true) (hu : us[k]? = some u) (h0 : 0 ≤ y) (h1 : y ≤ each) (h2 : sumL us - u + y ≤ lim) : acB lim each (us.set k y) = true := by
  obtain ⟨a1, a2, a3, a4, a5, a6⟩ := ac_of h
  refine ac_mk (fun x hx => ?_) a2.1 a2.2 a3.1 a3.2 (by rw [List.length_set]; exact a4) (by rw [sumL_set hu]; exact h2)
  rcases mem_set hx with rfl | hx
  · exact ⟨h0, h1⟩
  · exact a1 x hx
theorem set_back {us : List Int} {k : Nat} {u : Int} (h : us[k]? = some u) (y : Int) : (us.set k y).set k u = us := by
  rw [List.set_set]
  apply List.ext_getElem?
  intro i
  rw [List.getElem?_set]
  split
  · rename_i e
    subst e
    have hl : k < us.length := by
      rcases Nat.lt_or_ge k us.length with hl | hl
      · exact hl
      · rw [List.getElem?_eq_none hl] at h; cases h
    rw [if_pos hl, h]
  · rfl
theorem get_set {us : List Int} {k : Nat} {u : Int} (h : us[k]? = some u) (y : Int) : (us.set k y)[k]? = some y := by
  have hl : k < us.length := by
    rcases Nat.lt_or_ge k us.length with hl | hl
    · exact hl
    · rw [List.getElem?_eq_none hl] at h; cases h
  rw [List.getElem?_set_self hl]

/-! Shares: each one has the lesser one of what it wants and of a level, which is one more for the first ones -/
def cof (r k i : Nat) : Int := if i < k then (r : Int) + 1 else r
def lev : List Int → Nat → Nat → List Int
  | [], _, _ => []
  | w :: ws, r, 0 => min w r :: lev ws r 0
  | w :: ws, r, k + 1 => min w ((r : Int) + 1) :: lev ws r k
theorem lev_len (ws : List Int) (r k : Nat) : (lev ws r k).length = ws.length := by
  induction ws generalizing k with
  | nil => rfl
  | cons w ws ih => cases k <;> simp [lev, ih]
theorem lev_get {ws : List Int} {r k i : Nat} {w : Int} (h : ws[i]? = some w) : (lev ws r k)[i]? = some (min w (cof r k i)) := by
  induction ws generalizing k i with
  | nil => simp at h
  | cons v ws ih =>
    cases k with
    | zero =>
      cases i with
      | zero => simp only [List.getElem?_cons_zero, Option.some.injEq] at h; subst h; simp [lev, cof]
      | succ i =>
        have := ih (k := 0) (i := i) (by simpa using h)
        simp only [lev, List.getElem?_cons_succ, this]
        simp [cof]
    | succ k =>
      cases i with
      | zero => simp only [List.getElem?_cons_zero, Option.some.injEq] at h; subst h; simp [lev, cof]
      | succ i =>
        have := ih (k := k) (i := i) (by simpa using h)
        simp only [lev, List.getElem?_cons_succ, this]
        simp [cof]
theorem lev_at {ws : List Int} {r k i : Nat} {x : Int} (h : (lev ws r k)[i]? = some x) : ∃ w, ws[i]? = some w ∧ x = min w (cof r k i) := by
  have hl : i < ws.length := by
    rcases Nat.lt_or_ge i ws.length with hl | hl
    · exact hl
    · rw [List.getElem?_eq_none (by rw [lev_len]; exact hl)] at h; cases h
  have hw := List.getElem?_eq_getElem hl
  rw [lev_get hw] at h
  exact ⟨_, hw, by injection h with h; exact h.symm⟩
theorem lev_full (ws : List Int) (r : Nat) : lev ws r ws.length = lev ws (r + 1) 0 := by
  apply List.ext_getElem?
  intro i
  rcases Nat.lt_or_ge i ws.length with hl | hl
  · rw [lev_get (List.getElem?_eq_getElem hl), lev_get (List.getElem?_eq_getElem hl)]
    simp [cof, hl]
  · rw [List.getElem?_eq_none (by rw [lev_len]; exact hl), List.getElem?_eq_none (by rw [lev_len]; exact hl)]
theorem lev_step {ws : List Int} {r k : Nat} {w : Int} (h : ws[k]? = some w) : lev ws r (k + 1) = (lev ws r k).set k (min w ((r : Int) + 1)) := by
  have hk : k < ws.length := by
    rcases Nat.lt_or_ge k ws.length with hl | hl
    · exact hl
    · rw [List.getElem?_eq_none hl] at h; cases h
  apply List.ext_getElem?
  intro i
  rcases Nat.lt_or_ge i ws.length with hl | hl
  · rw [lev_get (List.getElem?_eq_getElem hl), List.getElem?_set]
    by_cases e : k = i
    · subst e
      rw [if_pos rfl, if_pos (by rw [lev_len]; exact hl)]
      have : ws[k] = w := by rw [List.getElem?_eq_getElem hl] at h; injection h
      rw [this]
      simp [cof]
    · rw [if_neg e, lev_get (List.getElem?_eq_getElem hl)]
      have : (i < k + 1) = (i < k) := by simp only [eq_iff_iff]; omega
      simp [cof, this]
  · rw [List.getElem?_eq_none (by rw [lev_len]; exact hl), List.getElem?_eq_none (by rw [List.length_set, lev_len]; exact hl)]
theorem lev_zero {ws : List Int} (h : ∀ w ∈ ws, 0 ≤ w) : lev ws 0 0 = List.replicate ws.length 0 := by
  induction ws with
  | nil => rfl
  | cons w ws ih =>
    have h0 := h w (List.mem_cons_self ..)
    have h1 := ih fun x hx => h x (List.mem_cons_of_mem _ hx)
    simp only [lev, h1, List.length_cons, List.replicate_succ]
    congr 1
    simp; omega
theorem lev_le {ws : List Int} {r k r' k' : Nat} (h : ∀ i, cof r k i ≤ cof r' k' i) (i : Nat) (x y : Int) (hx : (lev ws r k)[i]? = some x) (hy : (lev ws r' k')[i]? = some y) : x ≤ y := by
  obtain ⟨w, hw, rfl⟩ := lev_at hx
  obtain ⟨w', hw', rfl⟩ := lev_at hy
  obtain rfl : w = w' := by rw [hw] at hw'; injection hw'
  have := h i
  omega
theorem cof_total (r k r' k' : Nat) : (∀ i, cof r k i ≤ cof r' k' i) ∨ (∀ i, cof r' k' i ≤ cof r k i) := by
  rcases Nat.lt_trichotomy r r' with h | h | h
  · exact .inl fun i => by unfold cof; split <;> split <;> omega
  · subst h
    rcases Nat.le_total k k' with h | h
    · exact .inl fun i => by unfold cof; split <;> split <;> omega
    · exact .inr fun i => by unfold cof; split <;> split <;> omega
  · exact .inr fun i => by unfold cof; split <;> split <;> omega
theorem lev_wants {ws : List Int} {r k : Nat} (i : Nat) (x y : Int) (hx : (lev ws r k)[i]? = some x) (hy : ws[i]? = some y) : x ≤ y := by
  obtain ⟨w, hw, rfl⟩ := lev_at hx
  obtain rfl : w = y := by rw [hw] at hy; injection hy
  omega
/-- s are the shares of b bytes -/
def IsShare (ws : List Int) (b : Int) (s : List Int) : Prop := (∃ r k, s = lev ws r k) ∧ sumL s ≤ b ∧ (sumL s = b ∨ s = ws)
theorem share_unique {ws : List Int} {b : Int} {s t : List Int} (hs : IsShare ws b s) (ht : IsShare ws b t) : s = t := by
  obtain ⟨⟨r, k, rfl⟩, s1, s2⟩ := hs
  obtain ⟨⟨r', k', rfl⟩, t1, t2⟩ := ht
  have hl : (lev ws r k).length = (lev ws r' k').length := by rw [lev_len, lev_len]
  have w1 := sumL_le (s := lev ws r k) (t := ws) (lev_len _ _ _) lev_wants
  have w2 := sumL_le (s := lev ws r' k') (t := ws) (lev_len _ _ _) lev_wants
  rcases cof_total r k r' k' with h | h
  · have h1 := sumL_le hl (lev_le h)
    apply h1.2
    rcases s2 with s2 | s2
    · omega
    · rw [s2]; exact w2.1
  · have h1 := sumL_le hl.symm (lev_le h)
    apply Eq.symm
    apply h1.2
    rcases t2 with t2 | t2
    · omega
    · rw [t2]; exact w1.1
/-- what the laws ask of shares -/
theorem share_bd {ws s : List Int} {b : Int} (h : IsShare ws b s) (hw : ∀ w ∈ ws, 0 ≤ w) : s.length = ws.length ∧ (∀ (i : Nat) x w, s[i]? = some x → ws[i]? = some w → 0 ≤ x ∧ x ≤ w) ∧ sumL s ≤ b ∧ (sumL s = b ∨ sumL s = sumL ws) := by
  obtain ⟨⟨r, k, rfl⟩, s1, s2⟩ := h
  refine ⟨lev_len _ _ _, fun i x w hx hwi => ⟨?_, lev_wants i x w hx hwi⟩, s1, s2.imp id fun e => by rw [e]⟩
  obtain ⟨v, hv, rfl⟩ := lev_at hx
  have := hw v (List.mem_of_getElem? hv)
  have : 0 ≤ cof r k i := by unfold cof; split <;> omega
  omega
theorem share_fair {ws s : List Int} {b : Int} (h : IsShare ws b s) {i j : Nat} {x y w : Int} (hx : s[i]? = some x) (hy : s[j]? = some y) (hw : ws[i]? = some w) (hlt : x < w) : y ≤ x + 1 ∧ (i < j → y ≤ x) := by
  obtain ⟨⟨r, k, rfl⟩, -, -⟩ := h
  obtain ⟨v, hv, rfl⟩ := lev_at hx
  obtain ⟨u, hu, rfl⟩ := lev_at hy
  obtain rfl : v = w := by rw [hv] at hw; injection hw
  unfold cof at *
  constructor
  · split <;> split at hlt <;> simp only [*, if_true, if_false] <;> omega
  · intro hij
    split <;> split at hlt <;> simp only [*, if_true, if_false] <;> omega
theorem share_more {ws s t : List Int} {b : Int} (hs : IsShare ws b s) (ht : IsShare ws (b + 1) t) : (∀ (i : Nat) x y, s[i]? = some x → t[i]? = some y → x ≤ y) ∧ sumL t - sumL s ≤ 1 := by
  obtain ⟨⟨r, k, rfl⟩, s1, s2⟩ := hs
  obtain ⟨⟨r', k', rfl⟩, t1, t2⟩ := ht
  have hl : (lev ws r k).length = (lev ws r' k').length := by rw [lev_len, lev_len]
  have w1 := sumL_le (s := lev ws r k) (t := ws) (lev_len _ _ _) lev_wants
  have w2 := sumL_le (s := lev ws r' k') (t := ws) (lev_len _ _ _) lev_wants
  refine ⟨?_, ?_⟩
  · rcases cof_total r k r' k' with h | h
    · exact lev_le h
    · have h1 := sumL_le hl.symm (lev_le h)
      have e : lev ws r' k' = lev ws r k := by
        apply h1.2
        rcases t2 with t2 | t2
        · omega
        · rw [t2]; exact w1.1
      intro i x y hx hy
      rw [e, hx] at hy
      injection hy with hy
      omega
  · rcases s2 with s2 | s2
    · omega
    · have e := congrArg sumL s2
      have := w2.1
      omega

/-! Those over their share -/
def overN (us s : List Int) : Nat → List Int
  | 0 => []
  | k + 1 => if s.getD k 0 < us.getD k 0 then overN us s k ++ [(k : Int)] else overN us s k
theorem over_yes {us s : List Int} {k : Nat} {u x : Int} (hu : us[k]? = some u) (hx : s[k]? = some x) (h : x < u) : overN us s (k + 1) = overN us s k ++ [(k : Int)] := by
  simp [overN, List.getD_eq_getElem?_getD, hu, hx, h]
theorem over_no {us s : List Int} {k : Nat} {u x : Int} (hu : us[k]? = some u) (hx : s[k]? = some x) (h : ¬ x < u) : overN us s (k + 1) = overN us s k := by
  simp [overN, List.getD_eq_getElem?_getD, hu, hx, h]
theorem over_len (us s : List Int) (k : Nat) : (overN us s k).length ≤ k := by
  induction k with
  | zero => simp [overN]
  | succ k ih => unfold overN; split <;> (try simp) <;> omega
theorem over_mem {us s : List Int} {k : Nat} {y : Int} (h : y ∈ overN us s k) : ∃ i : Nat, i < k ∧ y = (i : Int) ∧ s.getD i 0 < us.getD i 0 := by
  induction k with
  | zero => simp [overN] at h
  | succ k ih =>
    unfold overN at h
    split at h
    · rename_i hlt
      rcases List.mem_append.1 h with h | h
      · obtain ⟨i, h1, h2, h3⟩ := ih h
        exact ⟨i, by omega, h2, h3⟩
      · exact ⟨k, by omega, by simpa using h, hlt⟩
    · obtain ⟨i, h1, h2, h3⟩ := ih h
      exact ⟨i, by omega, h2, h3⟩
theorem over_has {us s : List Int} {k i : Nat} (hi : i < k) (h : s.getD i 0 < us.getD i 0) : (i : Int) ∈ overN us s k := by
  induction k with
  | zero => omega
  | succ k ih =>
    unfold overN
    by_cases e : i = k
    · subst e
      rw [if_pos h]
      simp
    · have := ih (by omega)
      split
      · exact List.mem_append_left _ this
      · exact this
theorem over_up {us s : List Int} {k j : Nat} {x y : Int} (hx : (overN us s k)[j]? = some x) (hy : (overN us s k)[j + 1]? = some y) : x < y := by
  induction k with
  | zero => simp [overN] at hx
  | succ k ih =>
    unfold overN at hx hy
    split at hx
    · rename_i hlt
      rw [if_pos hlt] at hy
      rcases Nat.lt_or_ge (j + 1) (overN us s k).length with hl | hl
      · rw [List.getElem?_append_left (by omega)] at hx
        rw [List.getElem?_append_left hl] at hy
        exact ih hx hy
      · rw [List.getElem?_append_right hl] at hy
        have h0 : j + 1 - (overN us s k).length = 0 := by
          rcases Nat.eq_zero_or_pos (j + 1 - (overN us s k).length) with e | e
          · exact e
          · rw [List.getElem?_eq_none (by simp; omega)] at hy; cases hy
        rw [h0] at hy
        have hy' : y = (k : Int) := by simpa using hy.symm
        rw [List.getElem?_append_left (by omega)] at hx
        obtain ⟨i, h1, h2, -⟩ := over_mem (List.mem_of_getElem? hx)
        omega
    · rename_i hlt
      rw [if_neg hlt] at hy
      exact ih hx hy
end Go.Proofs.Ytkmoiphcpmhacaa
namespace Go.Proofs.Ytkmoiphcpmhacaa
open Go.RowKit

def icells (xs : List Int) : List Value := xs.map (fun x => Value.int .i64 x)
theorem icells_len (xs : List Int) : (icells xs).length = xs.length := List.length_map ..
theorem icells_append (a b : List Int) : icells (a ++ b) = icells a ++ icells b := List.map_append ..
theorem icells_get {xs : List Int} {k : Nat} {x : Int} (h : xs[k]? = some x) : (icells xs)[k]? = some (.int .i64 x) := by
  unfold icells; rw [List.getElem?_map, h]; rfl
theorem icells_at {xs : List Int} {k : Nat} {u : Value} (h : (icells xs)[k]? = some u) : ∃ x, xs[k]? = some x ∧ u = .int .i64 x := by
  unfold icells at h
  rw [List.getElem?_map] at h
  rcases hx : xs[k]? with _ | x
  · rw [hx] at h; cases h
  · rw [hx] at h; exact ⟨x, rfl, by injection h with h; exact h.symm⟩
theorem icells_set (xs : List Int) (k : Nat) (x : Int) : (icells xs).set k (.int .i64 x) = icells (xs.set k x) := by
  unfold icells; rw [List.map_set]
theorem icells_one (xs : List Int) : ∀ u ∈ icells xs, u.oneCell' = true := by
  intro u hu
  obtain ⟨x, -, rfl⟩ := List.mem_map.1 hu
  rfl
/-- the slice of n elements at A holds the numbers xs -/
def NR (w : World) (A : Option Addr) (n : Nat) (xs : List Int) : Prop := xs.length = n ∧ IR w A xs
section
variable {w w' : World} {A : Option Addr} {n c : Nat} {xs : List Int}
theorem nr_nil (w : World) (A : Option Addr) : NR w A 0 [] := ⟨rfl, fun h => by simp at h⟩
theorem nr_below (h : NR w A n xs) (hb : Below w.heap.size w w') : NR w' A n xs := ⟨h.1, ir_below h.2 hb⟩
theorem nr_alloc (h : NR w A n xs) (o : Obj) : NR (w.alloc o) A n xs := nr_below h (below_alloc (Below.refl _ _) o)
theorem nr_drewN (h : NR w A n xs) (k : Nat) : NR (w.drewN k) A n xs := h
theorem nr_at {k : Nat} (h : NR w A n xs) (hk : k < n) : ∃ b off x, A = some ⟨b, off, none⟩ ∧ b < w.heap.size ∧ xs[k]? = some x ∧ w.cell? ⟨b, off + k, none⟩ = some (.int .i64 x) := by
  have hl : k < xs.length := by rw [h.1]; exact hk
  obtain ⟨b, off, e, hb, hc⟩ := h.2 (by omega)
  exact ⟨b, off, xs[k], e, hb, List.getElem?_eq_getElem hl, hc k _ (List.getElem?_eq_getElem hl)⟩
theorem nr_own {base : Nat} {e : TypeId} (h : w.ownsRow base e 1 (.slice A n c) n (icells xs)) : NR w A n xs := by
  have hl : xs.length = n := by have := h.1; rw [icells_len] at this; omega
  refine ⟨hl, fun hn => ?_⟩
  obtain ⟨g, cap, hv, _, hlt⟩ := h.form (by omega)
  have hA : A = some ⟨g, 0, none⟩ := by injection hv
  subst hA
  refine ⟨g, 0, rfl, hlt, fun k x hk => ?_⟩
  have hc := h.cells (g := g) rfl
  have ha : ∀ j, (⟨g, 0, none⟩ : Addr).add j = ⟨g, j, none⟩ := fun j => by unfold Addr.add; split <;> simp_all
  simp only [ha] at hc
  rw [Nat.zero_add]
  exact hc _ _ (icells_get hk)
theorem nr_grown {row : Option Nat} (h : NR w A n xs) (hg : w.grownBy w' row) (hne : 0 < n → ∀ b, A.map (·.block) = some b → some b ≠ row) : NR w' A n xs :=
  ⟨h.1, fun hn => by
    obtain ⟨b, off, rfl, hb, hc⟩ := h.2 hn
    exact ⟨b, off, rfl, Nat.lt_of_lt_of_le hb hg.size, fun k x hk => (hg.cell_far ⟨b, off + k, none⟩ hb (hne (by rw [← h.1]; exact hn) b rfl)).trans (hc k x hk)⟩⟩
theorem nr_set (h : NR w A n xs) {p : Addr} (hp : 0 < n → ∀ b, A.map (·.block) = some b → b ≠ p.block) (u : Value) : NR (w.setCell p u) A n xs :=
  nr_grown h (g_set (g_refl w (some p.block)) (.inl rfl) u) (fun hn b hb e => hp hn b hb (by injection e))
theorem nr_old (h : NR w A n xs) : 0 < n → ∀ b, A.map (·.block) = some b → b < w.heap.size := fun hn b hb => by
  obtain ⟨b', off, rfl, hlt, _⟩ := h.2 (by rw [h.1]; exact hn)
  obtain rfl : b' = b := by simpa using hb
  exact hlt
theorem nr_take (h : NR w A n xs) {k : Nat} (hk : k ≤ n) : NR w A k (xs.take k) :=
  ⟨by rw [List.length_take, h.1]; omega, fun hn => by
    obtain ⟨b, off, e, hb, hc⟩ := h.2 (by rw [List.length_take] at hn; omega)
    exact ⟨b, off, e, hb, fun j x hx => hc j x (by
      rw [List.getElem?_take] at hx
      split at hx
      · exact hx
      · cases hx)⟩⟩
end
theorem infoInt : (Try.prog.info? 3).map (fun i => (i.zero, i.size, i.bytes)) = some (some (.int .i64 0), 1, 8) := by kernel_rfl
theorem own_emptyI {W : World} {b : Nat} (hb : b = W.heap.size) : (W.alloc (.cells #[] 3)).ownsRow W.heap.size 3 1 (.slice (some ⟨b, 0, none⟩) 0 0) 0 (icells []) := by
  subst hb
  exact ⟨rfl, .inr ⟨W.heap.size, 0, #[], rfl, Nat.le_refl _, blk_new W _ _, Nat.le_refl _, by unfold maxLen; omega, rfl, rfl⟩⟩
/-- one cell of an owned row is stored -/
theorem own_set_int {w : World} {base b n c : Nat} {e : TypeId} {xs : List Int} (h : w.ownsRow base e 1 (.slice (some ⟨b, 0, none⟩) n c) n (icells xs)) (k : Nat) (x : Int) :
    (w.setCell ⟨b, k, none⟩ (.int .i64 x)).ownsRow base e 1 (.slice (some ⟨b, 0, none⟩) n c) n (icells (xs.set k x)) := by
  have h1 := (h.stored k (.int .i64 x)).1
  rw [icells_set] at h1
  exact h1
theorem run_app_ints (w : World) (ty : TypeId) (base : Nat) (v : Value) (n : Nat) (ps : List Int) (hown : w.ownsRow base 3 1 v n (icells ps))
    (A : Option Addr) (m c : Nat) (qs : List Int) (hr : NR w A m qs) (hn : n + m ≤ 4000000000) (hb : base ≤ w.heap.size) :
    ∃ v' w', (Builtin.append_ #[24, 24] ty #[v, .slice A m c]).run Try.prog w = .ok v' w' ∧ w'.ownsRow base 3 1 v' (n + m) (icells (ps ++ qs)) ∧ w.grownBy w' v.ownBlock ∧
      (v'.ownBlock = v.ownBlock ∨ v'.ownBlock = some w.heap.size) := by
  obtain ⟨i0, hi, hz0, hz1, hz2⟩ := info_parts infoInt
  by_cases h0 : A = none
  · subst h0
    have hm : m = 0 := by
      rcases Nat.eq_zero_or_pos m with hm | hm
      · exact hm
      · obtain ⟨b, off, e, _⟩ := hr.2 (by rw [hr.1]; exact hm)
        cases e
    subst hm
    have hq : qs = [] := List.eq_nil_of_length_eq_zero hr.1
    subst hq
    exact ⟨v, w, run_app_nil (P := Try.prog) w base 24 ty 3 i0 1 Try.underlying24 hi v n _ hown c, by simpa using hown, g_refl _ _, .inl rfl⟩
  · obtain ⟨ad, rfl⟩ : ∃ ad, A = some ad := by
      cases A with
      | none => exact absurd rfl h0
      | some ad => exact ⟨ad, rfl⟩
    obtain ⟨v', w', e1, e2, e3, _, e5⟩ := run_append_own_at (P := Try.prog) w base 24 ty 3 i0 _ 1 8 Try.underlying24 hi hz0 hz1 hz2 rfl (by decide) v n _ hown ad m c (icells qs) (by rw [icells_len, hr.1]; omega) (by
      intro j u hj
      obtain ⟨x, hx, rfl⟩ := icells_at hj
      have hjl : j < qs.length := by
        rcases Nat.lt_or_ge j qs.length with hl | hl
        · exact hl
        · rw [List.getElem?_eq_none hl] at hx; cases hx
      obtain ⟨b, off, e, hlt, hc⟩ := hr.2 (by omega)
      obtain rfl : ad = ⟨b, off, none⟩ := by injection e
      have ha : (⟨b, off, none⟩ : Addr).add j = ⟨b, off + j, none⟩ := by unfold Addr.add; split <;> simp_all
      rw [ha]
      exact hc j x hx) (icells_one qs) (by unfold maxLen; omega) (by omega) hb
    exact ⟨v', w', e1, by rw [icells_append]; exact e2, e3, e5⟩
/-- at the list of a plain region's operations -/
theorem wpl_app_ints (w : World) {ops : Array Oper} {rest : List Oper} {o : Oper} {a : Act} {Q : Exit → Act → World → Prop} (hgd : o.guard = none) (s x : Operand)
    (ho : o.op = .call { callee := .builtin .append, args := #[s, x], argTypes := #[24, 24] })
    (base : Nat) (v : Value) (n : Nat) (ps : List Int) (hs : a.eval s = v) (hown : w.ownsRow base 3 1 v n (icells ps))
    (A : Option Addr) (m c : Nat) (qs : List Int) (hx : a.eval x = .slice A m c) (hr : NR w A m qs) (hn : n + m ≤ 4000000000) (hb : base ≤ w.heap.size)
    (h : ∀ v' w', w'.ownsRow base 3 1 v' (n + m) (icells (ps ++ qs)) → w.grownBy w' v.ownBlock → (v'.ownBlock = v.ownBlock ∨ v'.ownBlock = some w.heap.size) → wpList Try.prog ops Q rest (a.put o.dst v') w') :
    wpList Try.prog ops Q (o :: rest) a w := by
  refine wpList_plain hgd fun K hK => ?_
  obtain ⟨v', w', hr', h2, h3, h4⟩ := run_app_ints w o.type base v n ps hown A m c qs hr hn hb
  unfold Oper.wp execOp
  simp only [ho, resolve, invoke, builtin, Sem.run_bind, Sem.run_pure, Result.andThen_ok, List.map_toArray, List.map_cons, List.map_nil, hs, hx, hr']
  exact hK _ _ (h v' w' h2 h3 h4)
/-- at a step of a region that draws -/
theorem step_app_ints (w : World) {ops : Array Oper} {o : Oper} {a : Act} {K : Act → World → Prop} {Q : Exit → Act → World → Prop} {E : Prop} (hgd : o.guard = none) (s x : Operand)
    (ho : o.op = .call { callee := .builtin .append, args := #[s, x], argTypes := #[24, 24] })
    (base : Nat) (v : Value) (n : Nat) (ps : List Int) (hs : a.eval s = v) (hown : w.ownsRow base 3 1 v n (icells ps))
    (A : Option Addr) (m c : Nat) (qs : List Int) (hx : a.eval x = .slice A m c) (hr : NR w A m qs) (hn : n + m ≤ 4000000000) (hb : base ≤ w.heap.size)
    (h : ∀ v' w', w'.ownsRow base 3 1 v' (n + m) (icells (ps ++ qs)) → w.grownBy w' v.ownBlock → (v'.ownBlock = v.ownBlock ∨ v'.ownBlock = some w.heap.size) → K (a.put o.dst v') w') :
    if Region.wanted o (yielded ops a.tmps) = true then Oper.wp Try.prog o a w K Q else E := by
  have hw : Region.wanted o (yielded ops a.tmps) = true := by simp [Region.wanted, hgd]
  rw [if_pos hw]
  obtain ⟨v', w', hr', h2, h3, h4⟩ := run_app_ints w o.type base v n ps hown A m c qs hr hn hb
  unfold Oper.wp execOp
  simp only [ho, resolve, invoke, builtin, Sem.run_bind, Sem.run_pure, Result.andThen_ok, List.map_toArray, List.map_cons, List.map_nil, hs, hx, hr']
  exact h v' w' h2 h3 h4
theorem int_single {w : World} {b : Nat} {t : TypeId} {x : Int} (h : Blk w b t #[.int .i64 x]) : NR w (some ⟨b, 0, none⟩) 1 [x] :=
  ⟨rfl, fun _ => ⟨b, 0, rfl, blk_lt h, fun k y hk => by
    have hk0 : k = 0 := by
      rcases Nat.eq_zero_or_pos k with e | e
      · exact e
      · rw [List.getElem?_eq_none (by simp; omega)] at hk; cases hk
    subst hk0
    obtain rfl : x = y := by simpa using hk
    exact blk_cell h 0⟩⟩
end Go.Proofs.Ytkmoiphcpmhacaa
namespace Go.Proofs.Ytkmoiphcpmhacaa
open Go.RowKit

structure Fn (w : World) (bs : List (TypeId × Array Value)) (A : Option Addr) (n : Nat) (ps : List Int) (w' : World) : Prop where
  it : ∀ i t cs, bs[i]? = some (t, cs) → Blk w' (w.heap.size + i) t cs
  pr : NR w' A n ps
  below : Below w.heap.size w w'
  lt : w.heap.size + bs.length ≤ w'.heap.size
  old : 0 < n → ∀ x, A.map (·.block) = some x → x < w.heap.size
section
variable {w w1 w2 : World} {bs : List (TypeId × Array Value)} {A : Option Addr} {n : Nat} {ps : List Int}
theorem fn_zero (h : NR w A n ps) : Fn w [] A n ps w := ⟨fun i t cs h => by simp at h, h, Below.refl _ _, by simp, nr_old h⟩
theorem fn_push (h : Fn w bs A n ps w1) (hs : w1.heap.size = w.heap.size + bs.length) (t : TypeId) (cs : Array Value) : Fn w (bs ++ [(t, cs)]) A n ps (w1.alloc (.cells cs t)) :=
  ⟨fun i t' cs' hi => by
    rcases Nat.lt_or_ge i bs.length with hl | hl
    · rw [List.getElem?_append_left hl] at hi
      exact blk_alloc (h.it i t' cs' hi) _
    · rw [List.getElem?_append_right hl] at hi
      have h0 : i - bs.length = 0 := by
        rcases Nat.eq_zero_or_pos (i - bs.length) with e | e
        · exact e
        · rw [List.getElem?_eq_none (by simp; omega)] at hi; cases hi
      rw [h0] at hi
      obtain ⟨rfl, rfl⟩ : t = t' ∧ cs = cs' := by simpa using hi
      rw [show w.heap.size + i = w1.heap.size by omega]
      exact blk_new w1 _ _, nr_alloc h.pr _, below_alloc h.below _, by simp; omega, h.old⟩
theorem fn_one (h : NR w A n ps) (t : TypeId) (cs : Array Value) : Fn w [(t, cs)] A n ps (w.alloc (.cells cs t)) := fn_push (fn_zero h) (by simp) t cs
theorem fn_two (h : NR w A n ps) (t t2 : TypeId) (cs cs2 : Array Value) : Fn w [(t, cs), (t2, cs2)] A n ps ((w.alloc (.cells cs t)).alloc (.cells cs2 t2)) := fn_push (fn_one h t cs) (by simp) t2 cs2
theorem fn_three (h : NR w A n ps) (t t2 t3 : TypeId) (cs cs2 cs3 : Array Value) : Fn w [(t, cs), (t2, cs2), (t3, cs3)] A n ps (((w.alloc (.cells cs t)).alloc (.cells cs2 t2)).alloc (.cells cs3 t3)) := fn_push (fn_two h t t2 cs cs2) (by simp) t3 cs3
theorem fn_below (h : Fn w bs A n ps w1) (hb : Below w1.heap.size w1 w2) : Fn w bs A n ps w2 :=
  ⟨fun i t cs hi => blk_below (h.it i t cs hi) hb (blk_lt (h.it i t cs hi)), nr_below h.pr hb, below_seq h.below hb, Nat.le_trans h.lt hb.size, h.old⟩
theorem fn_alloc (h : Fn w bs A n ps w1) (o : Obj) : Fn w bs A n ps (w1.alloc o) := fn_below h (below_alloc (Below.refl _ _) o)
theorem fn_drewN (h : Fn w bs A n ps w1) (k : Nat) : Fn w bs A n ps (w1.drewN k) := ⟨h.it, h.pr, below_drewN h.below k, h.lt, h.old⟩
theorem fn_drew (h : Fn w bs A n ps w1) : Fn w bs A n ps w1.drew := ⟨h.it, h.pr, h.below.drew, h.lt, h.old⟩
theorem fn_grown {row : Option Nat} (h : Fn w bs A n ps w1) (hg : w1.grownBy w2 row) (hr : ∀ g, row = some g → w.heap.size + bs.length ≤ g) : Fn w bs A n ps w2 :=
  ⟨fun i t cs hi => blk_grownQ (h.it i t cs hi) hg (fun e => by
      have := hr _ e.symm
      have hl : i < bs.length := by
        rcases Nat.lt_or_ge i bs.length with hl | hl
        · exact hl
        · rw [List.getElem?_eq_none hl] at hi; cases hi
      omega),
    nr_grown h.pr hg (fun hn x hx e => by have := h.old hn x hx; have := hr x e.symm; omega), h.below.grown hg h.below.size (fun j e => by have := hr j e; omega), Nat.le_trans h.lt hg.size, h.old⟩
theorem fn_set (h : Fn w bs A n ps w1) {a : Addr} (ha : w.heap.size + bs.length ≤ a.block) (u : Value) : Fn w bs A n ps (w1.setCell a u) :=
  fn_grown h (g_set (g_refl w1 (some a.block)) (.inl rfl) u) (fun g hg => by injection hg with hg; omega)
/-- a store into one of the blocks: what the others hold, and the numbers -/
theorem fn_put (h : Fn w bs A n ps w1) (i : Nat) (t : TypeId) (cs : Array Value) (hi : bs[i]? = some (t, cs)) (k : Nat) (u : Value) : Fn w (bs.set i (t, cs.setIfInBounds k u)) A n ps (w1.setCell ⟨w.heap.size + i, k, none⟩ u) := by
  refine ⟨fun j t' cs' hj => ?_, nr_set h.pr (fun hn x hx e => by have := h.old hn x hx; simp at e; omega) u, h.below.setCell (by simp) u, by simpa using h.lt, h.old⟩
  by_cases e : i = j
  · subst e
    have hl : i < bs.length := by
      rcases Nat.lt_or_ge i bs.length with hl | hl
      · exact hl
      · rw [List.getElem?_eq_none hl] at hi; cases hi
    rw [List.getElem?_set_self hl] at hj
    obtain ⟨rfl, rfl⟩ : t = t' ∧ cs.setIfInBounds k u = cs' := by simpa using hj
    exact blk_set (h.it i t cs hi) k u
  · rw [List.getElem?_set_ne e] at hj
    exact blk_far (h.it j t' cs' hj) (by simp; omega) u
end
end Go.Proofs.Ytkmoiphcpmhacaa
namespace Go.Proofs.Ytkmoiphcpmhacaa
open Go.RowKit

open Classical in
noncomputable def intsB (us vs : List Int) : Bool := decide (us = vs)
theorem ints_refl (us : List Int) : intsB us us = true := by simp [intsB]
theorem ints_yes {us vs : List Int} (h : us = vs) : true = intsB us vs := by simp [intsB, h]
theorem ints_no {us vs : List Int} (h : ¬ us = vs) : false = intsB us vs := by simp [intsB, h]
theorem takeI_step {us vs : List Int} {k : Nat} {x : Int} (h : us.take k = vs.take k) (hx : us[k]? = some x) (hy : vs[k]? = some x) : us.take (k + 1) = vs.take (k + 1) := by
  rw [List.take_add_one, List.take_add_one, h, hx, hy]
theorem takeI_all {us vs : List Int} {k : Nat} (h : us.take k = vs.take k) (h1 : us.length ≤ k) (h2 : vs.length ≤ k) : us = vs := by
  rw [List.take_of_length_le h1, List.take_of_length_le h2] at h; exact h
def InRel (us vs : List Int) (w : World) (n : Nat) (i : Value) (wr : World) : Prop :=
  ∃ k : Nat, k ≤ n ∧ i = .int .i64 (k : Int) ∧ us.take k = vs.take k ∧ Below w.heap.size w wr
end Go.Proofs.Ytkmoiphcpmhacaa
namespace Go.Proofs.Ytkmoiphcpmhacaa
open Go.RowKit

def prB (x : Int) : Bool := decide (0 ≤ x ∧ x ≤ 7)
theorem pr_ofB {x : Int} (h : prB x = true) : 0 ≤ x ∧ x ≤ 7 := by simpa [prB] using h
theorem pr_noB {x : Int} (h : prB x = false) : x < 0 ∨ 7 < x := by
  simp only [prB, decide_eq_false_iff_not] at h; omega
end Go.Proofs.Ytkmoiphcpmhacaa
namespace Go.Proofs.Ytkmoiphcpmhacaa
open Go.RowKit

theorem zerosI (n : Nat) : (madeCells (Value.cells (.int .i64 0)) (n * 1)).toList = icells (List.replicate n 0) := by
  apply List.ext_getElem
  · simp [madeCells, icells]
  · intro i h1 h2
    simp [madeCells, icells, Value.cells, Nat.mod_one]
theorem lev_same {ws : List Int} {r k : Nat} {w : Int} (h : ws[k]? = some w) (hw : w ≤ r) : lev ws r (k + 1) = lev ws r k := by
  rw [lev_step h]
  apply List.ext_getElem?
  intro i
  rw [List.getElem?_set]
  split
  · rename_i e
    subst e
    have hk : k < (lev ws r k).length := by
      rw [lev_len]
      rcases Nat.lt_or_ge k ws.length with hl | hl
      · exact hl
      · rw [List.getElem?_eq_none hl] at h; cases h
    rw [if_pos hk, lev_get h]
    simp [cof]; omega
  · rfl
theorem lev_more {ws : List Int} {r k : Nat} {w : Int} (h : ws[k]? = some w) (hw : (r : Int) < w) : (lev ws r k)[k]? = some (r : Int) ∧ lev ws r (k + 1) = (lev ws r k).set k ((r : Int) + 1) ∧ sumL (lev ws r (k + 1)) = sumL (lev ws r k) + 1 := by
  have h0 : (lev ws r k)[k]? = some (r : Int) := by
    rw [lev_get h]
    simp [cof]; omega
  have h1 : lev ws r (k + 1) = (lev ws r k).set k ((r : Int) + 1) := by
    rw [lev_step h]
    congr 1
    omega
  exact ⟨h0, h1, by rw [h1, sumL_set h0]; omega⟩
theorem lev_done {ws : List Int} {r : Nat} (h : ∀ (j : Nat) w, ws[j]? = some w → w ≤ (r : Int)) : lev ws r ws.length = ws := by
  apply List.ext_getElem?
  intro i
  rcases Nat.lt_or_ge i ws.length with hl | hl
  · have hw := List.getElem?_eq_getElem hl
    rw [lev_get hw, hw]
    have := h i _ hw
    simp [cof, hl]; omega
  · rw [List.getElem?_eq_none (by rw [lev_len]; exact hl), List.getElem?_eq_none hl]
theorem lev_bd {ws : List Int} {r k : Nat} (h : ∀ x ∈ ws, 0 ≤ x ∧ x ≤ 5000) : 0 ≤ sumL (lev ws r k) := by
  refine (sumL_bd (B := 5000) fun x hx => ?_).1
  obtain ⟨i, hi⟩ := List.getElem?_of_mem hx
  obtain ⟨w, hw, rfl⟩ := lev_at hi
  have := h w (List.mem_of_getElem? hw)
  have : 0 ≤ cof r k i := by unfold cof; split <;> omega
  omega
/-- the wants, and the row that is filled -/
structure SH (w : World) (A : Option Addr) (n : Nat) (ws : List Int) (b : Nat) (out : List Int) (wr : World) : Prop where
  pr : NR wr A n ws
  own : wr.ownsRow w.heap.size 3 1 (.slice (some ⟨b, 0, none⟩) n n) n (icells out)
  below : Below w.heap.size w wr
  old : 0 < n → ∀ x, A.map (·.block) = some x → x < w.heap.size
  hb : w.heap.size ≤ b
theorem sh_drewN {w : World} {A : Option Addr} {n : Nat} {ws : List Int} {b : Nat} {out : List Int} {wr : World} (h : SH w A n ws b out wr) (k : Nat) : SH w A n ws b out (wr.drewN k) := ⟨h.pr, World.ownsRow.kept h.own (g_drewN (g_refl wr none) k) (.inr (by simp [Value.ownBlock])), below_drewN h.below k, h.old, h.hb⟩
theorem sh_set {w : World} {A : Option Addr} {n : Nat} {ws : List Int} {b : Nat} {out : List Int} {wr : World} (h : SH w A n ws b out wr) (k : Nat) (x : Int) : SH w A n ws b (out.set k x) (wr.setCell ⟨b, k, none⟩ (.int .i64 x)) :=
  ⟨nr_set h.pr (fun hn y hy => by have := h.old hn y hy; have := h.hb; simp; omega) _, own_set_int h.own k x, h.below.setCell h.hb _, h.old, h.hb⟩
def ShOut (w : World) (A : Option Addr) (n : Nat) (ws : List Int) (b : Nat) (bytes : Int) (bt : Value) (wr : World) : Prop :=
  ∃ (r k : Nat) (z : Int), k ≤ n ∧ (z = 0 ∨ k = 0) ∧ 0 ≤ z ∧ bt = .int .i64 z ∧ z + sumL (lev ws r k) = bytes ∧ SH w A n ws b (lev ws r k) wr
def ShIn (w : World) (A : Option Addr) (n : Nat) (ws : List Int) (b r : Nat) (bytes z0 : Int) (bt sm i : Value) (wr : World) : Prop :=
  ∃ (k : Nat) (z : Int) (sb : Bool), k ≤ n ∧ i = .int .i64 (k : Int) ∧ bt = .int .i64 z ∧ sm = .bool sb ∧ 0 ≤ z ∧ z ≤ z0 ∧ z + sumL (lev ws r k) = bytes ∧ (sb = true → z < z0) ∧ (sb = false → z = z0 ∧ ∀ (j : Nat) v, j < k → ws[j]? = some v → v ≤ (r : Int)) ∧ SH w A n ws b (lev ws r k) wr
def SharePost (w : World) (n : Nat) (ws : List Int) (bytes : Int) (e : Ending) (w' : World) : Prop :=
  ∃ A2 s, e = .returned (.slice A2 n n) ∧ IsShare ws bytes s ∧ w'.ownsRow w.heap.size 3 1 (.slice A2 n n) n (icells s) ∧ Below w.heap.size w w'
end Go.Proofs.Ytkmoiphcpmhacaa
namespace Go.Proofs.Ytkmoiphcpmhacaa
open Go.RowKit

set_option maxHeartbeats 1000000 in
theorem eqIntS_any (A A2 : Option Addr) (n c n2 c2 : Nat) (us vs : List Int) (w : World) (h : NR w A n us) (h2 : NR w A2 n2 vs) (hn : n ≤ 9223372036854775807) (hn2 : n2 ≤ 9223372036854775807) :
    Calls Try.prog 87 #[.slice A n c, .slice A2 n2 c2] w fun e w' => e = .returned (.bool (intsB us vs)) ∧ Below w.heap.size w w' := by
  have H := Lib.hid h
  have H2 := Lib.hid h2
  clear h h2
  by_cases hl : n = n2
  · subst hl
    go_enter Try.func87, Try.ntmps87
    go_wp2
    go_loopw [5] (fun i wr => InRel us vs w n i wr) (fun i _ => n - (intOf i).toNat)
    case atStart => exact ⟨0, Nat.zero_le _, rfl, by simp, Below.refl _ _⟩
    case round =>
      obtain ⟨k, hk, rfl, ht, hbl⟩ := hrel
      have HT := Lib.hid ht
      have HB := Lib.hid hbl
      clear ht
      by_cases hlt : k < n
      · obtain ⟨b, off, x, rfl, hb, hx, c0⟩ := nr_at (nr_below H.out hbl) hlt
        obtain ⟨b2, off2, y, rfl, hb2, hy, d0⟩ := nr_at (nr_below H2.out hbl) hlt
        have HX := Lib.hid hx
        have HY := Lib.hid hy
        have k0 : (0 : Int) ≤ (k : Int) := by omega
        have k1 : (k : Int) < (n : Int) := by omega
        clear hbl hx hy
        by_cases hxy : x = y
        · subst hxy
          go_wp2_with fail
          go_quiet (fail)
          go_wp2
          go_roundw
          case rel => exact ⟨k + 1, by omega, by go_num, takeI_step HT.out HX.out HY.out, below_drewN HB.out _⟩
          case measure => simp [intOf]; omega
        · have hne : (x != y) = true := by simp [hxy]
          have HN := Lib.hid hxy
          clear hxy
          go_wp2_with fail
          go_quiet (fail)
          go_wp2
          go_ret
          exact ⟨ret_bool (ints_no (by rintro rfl; have := HX.out; rw [HY.out] at this; injection this with this; exact HN.out this.symm)), below_drewN HB.out _⟩
      · obtain rfl : k = n := by omega
        clear hbl
        go_wp2
        go_ret
        exact ⟨ret_bool (ints_yes (takeI_all HT.out (by have := H.out.1; omega) (by have := H2.out.1; omega))), HB.out⟩
  · have hlb : ((n : Int) != (n2 : Int)) = true := by simp; omega
    have HL := Lib.hid hl
    clear hl
    go_enter Try.func87, Try.ntmps87
    go_wp2
    go_ret
    exact ⟨ret_bool (ints_no (by rintro rfl; exact HL.out (H.out.1.symm.trans H2.out.1))), Below.refl _ _⟩
set_option maxHeartbeats 1000000 in
theorem tgInts_any (A A2 : Option Addr) (n c n2 c2 : Nat) (us vs : List Int) (w : World) (h : NR w A n us) (h2 : NR w A2 n2 vs) (hn : n ≤ 9223372036854775807) (hn2 : n2 ≤ 9223372036854775807) :
    Calls Try.prog 40 #[.slice A n c, .slice A2 n2 c2] w fun e w' => e = .returned (.bool (intsB us vs)) ∧ Below w.heap.size w w' := by
  have H := Lib.hid h
  have H2 := Lib.hid h2
  clear h h2
  by_cases hl : n = n2
  · subst hl
    go_enter Try.func40, Try.ntmps40
    go_wp2
    go_loopw [5] (fun i wr => InRel us vs w n i wr) (fun i _ => n - (intOf i).toNat)
    case atStart => exact ⟨0, Nat.zero_le _, rfl, by simp, Below.refl _ _⟩
    case round =>
      obtain ⟨k, hk, rfl, ht, hbl⟩ := hrel
      have HT := Lib.hid ht
      have HB := Lib.hid hbl
      clear ht
      by_cases hlt : k < n
      · obtain ⟨b, off, x, rfl, hb, hx, c0⟩ := nr_at (nr_below H.out hbl) hlt
        obtain ⟨b2, off2, y, rfl, hb2, hy, d0⟩ := nr_at (nr_below H2.out hbl) hlt
        have HX := Lib.hid hx
        have HY := Lib.hid hy
        have k0 : (0 : Int) ≤ (k : Int) := by omega
        have k1 : (k : Int) < (n : Int) := by omega
        clear hbl hx hy
        by_cases hxy : x = y
        · subst hxy
          go_wp2_with fail
          go_quiet (fail)
          go_wp2
          go_roundw
          case rel => exact ⟨k + 1, by omega, by go_num, takeI_step HT.out HX.out HY.out, below_drewN HB.out _⟩
          case measure => simp [intOf]; omega
        · have hne : (x != y) = true := by simp [hxy]
          have HN := Lib.hid hxy
          clear hxy
          go_wp2_with fail
          go_quiet (fail)
          go_wp2
          go_ret
          exact ⟨ret_bool (ints_no (by rintro rfl; have := HX.out; rw [HY.out] at this; injection this with this; exact HN.out this.symm)), below_drewN HB.out _⟩
      · obtain rfl : k = n := by omega
        clear hbl
        go_wp2
        go_ret
        exact ⟨ret_bool (ints_yes (takeI_all HT.out (by have := H.out.1; omega) (by have := H2.out.1; omega))), HB.out⟩
  · have hlb : ((n : Int) != (n2 : Int)) = true := by simp; omega
    have HL := Lib.hid hl
    clear hl
    go_enter Try.func40, Try.ntmps40
    go_wp2
    go_ret
    exact ⟨ret_bool (ints_no (by rintro rfl; exact HL.out (H.out.1.symm.trans H2.out.1))), Below.refl _ _⟩
theorem szIntS_any (A : Option Addr) (n c : Nat) (left : Int) (w : World) (hn : n ≤ 9223372036854775807) (hl : 0 ≤ left ∧ left ≤ 1048576) :
    Calls Try.prog 83 #[.slice A n c, .int .i64 left] w fun e w' => e = .returned (.int .i64 (if left < n then -1 else left - n)) ∧ w = w' := by
  by_cases h : left < n
  · rw [if_pos h]
    have h1 : left - (n : Int) < 0 := by omega
    go_enter Try.func83, Try.ntmps83
    go_wp2
    go_ret
    exact ⟨rfl, rfl⟩
  · rw [if_neg h]
    have h1 : 0 ≤ left - (n : Int) := by omega
    go_enter Try.func83, Try.ntmps83
    go_wp2
    go_ret
    exact ⟨rfl, rfl⟩
def CopyI (w : World) (us : List Int) (n : Nat) (e : Ending) (w' : World) : Prop :=
  ∃ A2, e = .returned (.slice A2 n n) ∧ w'.ownsRow w.heap.size 3 1 (.slice A2 n n) n (icells us) ∧ Below w.heap.size w w'
theorem set_takeI {cur us : List Int} {k n : Nat} {x : Int} (hc : cur.length = n) (hk : k < n) (h : cur.take k = us.take k) (hx : us[k]? = some x) : (cur.set k x).take (k + 1) = us.take (k + 1) := by
  have h1 : (cur.set k x)[k]? = some x := by rw [List.getElem?_set_self (by omega)]
  rw [List.take_add_one, h1, List.take_set_of_le (Nat.le_refl _), h, List.take_add_one, hx]
def CopyIRel (w : World) (A : Option Addr) (us : List Int) (n b : Nat) (i : Value) (wr : World) : Prop :=
  ∃ (k : Nat) (cur : List Int), k ≤ n ∧ i = .int .i64 (k : Int) ∧ cur.length = n ∧ cur.take k = us.take k ∧ SH w A n us b cur wr
set_option maxHeartbeats 2000000 in
theorem toIntS_any (A : Option Addr) (n c : Nat) (us : List Int) (w : World) (h : NR w A n us) (hn : n ≤ 1048576) :
    Calls Try.prog 85 #[.slice A n c] w (CopyI w us n) := by
  have H := Lib.hid h
  have OLD := Lib.hid (nr_old h)
  clear h
  obtain ⟨i0, hi, hz0, hz1, hz2⟩ := info_parts infoInt
  go_enter Try.func85, Try.ntmps85
  go_wp2_with (refine wpList_make_full _ rfl (.tmp 6) (.tmp 6) 24 rfl w.heap.size 3 i0 _ 1 Try.underlying24 hi hz0 hz1 .i64 .i64 n n n rfl rfl rfl rfl (by rw [hz2]; omega) (by unfold maxLen; omega) (Nat.le_refl _) ?_; intro w1 ho1 hg1)
  have R0 : Hid (CopyIRel w A us n w.heap.size (.int .i64 0) w1) := Lib.hid (by
    rw [zerosI] at ho1
    exact ⟨0, _, Nat.zero_le _, rfl, List.length_replicate, by simp, nr_below H.out ⟨hg1.os, hg1.tape, hg1.output, hg1.size, fun i hi => hg1.block i hi (by simp)⟩, ho1, ⟨hg1.os, hg1.tape, hg1.output, hg1.size, fun i hi => hg1.block i hi (by simp)⟩, OLD.out, Nat.le_refl _⟩)
  clear ho1 hg1 hi hz0 hz1 hz2
  go_loopw [4] (fun i wr => CopyIRel w A us n w.heap.size i wr) (fun i _ => n - (intOf i).toNat)
  case atStart => exact R0.out
  case round =>
    obtain ⟨k, cur, hk, rfl, hl, ht, hS⟩ := hrel
    clear R0
    have HS := Lib.hid hS
    have HC := Lib.hid (And.intro hl ht)
    by_cases hlt : k < n
    · obtain ⟨b, off, x, rfl, hb, hx, c0⟩ := nr_at hS.pr hlt
      obtain ⟨b', off', y, e1, hb', hy, d0⟩ := nr_at (nr_own hS.own) hlt
      obtain ⟨rfl, rfl⟩ : w.heap.size = b' ∧ 0 = off' := by injection e1 with e1; injection e1 with a b; exact ⟨a, b⟩
      rw [Nat.zero_add] at d0
      have f0 := World.ownsRow.frozenAt hS.own k
      have HX := Lib.hid hx
      have k0 : (0 : Int) ≤ (k : Int) := by omega
      have k1 : (k : Int) < (n : Int) := by omega
      clear hS hl ht hx hy e1
      go_wp2
      go_roundw
      case rel => exact ⟨k + 1, _, by omega, by go_num, by rw [List.length_set]; exact HC.out.1, set_takeI HC.out.1 hlt HC.out.2 HX.out, sh_set HS.out k x⟩
      case measure => simp [intOf]; omega
    · obtain rfl : k = n := by omega
      have HE := Lib.hid (takeI_all ht (by omega) (by have := H.out.1; omega))
      clear hS hl ht
      go_wp2
      go_ret
      exact ⟨_, rfl, by have o := HS.out.own; rw [HE.out] at o; exact o, HS.out.below⟩
def markI : Nat → Int → List Int
  | 0, _ => []
  | n + 1, k => k :: markI n (k + 1)
theorem markI_len (n : Nat) (k : Int) : (markI n k).length = n := by
  induction n generalizing k with
  | zero => rfl
  | succ n ih => simp [markI, ih]
theorem markI_get (n : Nat) (k : Int) (i : Nat) (h : i < n) : (markI n k)[i]? = some (k + i) := by
  induction n generalizing k i with
  | zero => omega
  | succ n ih =>
    cases i with
    | zero => simp [markI]
    | succ i =>
      have := ih (k + 1) i (by omega)
      simp only [markI, List.getElem?_cons_succ, this, Option.some.injEq]
      omega
def MarkIRel (w : World) (base b n c : Nat) (k0 : Int) (kv i : Value) (wr : World) : Prop :=
  ∃ (k : Nat) (x : Int) (cur : List Int), k ≤ n ∧ i = .int .i64 (k : Int) ∧ kv = .int .i64 x ∧ x = k0 + k ∧ cur.length = n ∧ cur.take k = (markI n k0).take k ∧ wr.ownsRow base 3 1 (.slice (some ⟨b, 0, none⟩) n c) n (icells cur) ∧ w.grownBy wr (some b)
def MarkIPost (w : World) (base : Nat) (A : Option Addr) (n c : Nat) (k0 : Int) (e : Ending) (w' : World) : Prop :=
  e = .returned (.int .i64 (k0 + n)) ∧ w'.ownsRow base 3 1 (.slice A n c) n (icells (markI n k0)) ∧ w.grownBy w' (Value.ownBlock (.slice A n c))
set_option maxHeartbeats 2000000 in
theorem markIntS_any (base : Nat) (A : Option Addr) (n c : Nat) (k0 : Int) (us : List Int) (w : World) (h : w.ownsRow base 3 1 (.slice A n c) n (icells us)) (hn : n ≤ 4000000000) (hk : 0 ≤ k0 ∧ k0 ≤ 100000000) :
    Calls Try.prog 89 #[.slice A n c, .int .i64 k0] w (MarkIPost w base A n c k0) := by
  by_cases h0 : n = 0
  · subst h0
    have hps : us = [] := List.eq_nil_of_length_eq_zero (by have := h.1; rw [icells_len] at this; omega)
    subst hps
    have H := Lib.hid h
    clear h
    go_enter Try.func89, Try.ntmps89
    go_wp2
    refine wp_loop_rounds 1 ?_
    rw [rounds_succ]
    go_wp2
    go_ret
    exact ⟨ret_int (by omega), H.out, g_refl _ _⟩
  · obtain ⟨b, c', hv, hbb, hlt⟩ := h.form (by omega)
    obtain ⟨rfl, rfl⟩ : A = some ⟨b, 0, none⟩ ∧ c = c' := by injection hv with a1 a2 a3; exact ⟨a1, a3⟩
    have hl0 : us.length = n := (nr_own h).1
    have HR : Hid (MarkIRel w base b n c k0 (.int .i64 k0) (.int .i64 0) w) := Lib.hid ⟨0, k0, us, Nat.zero_le _, rfl, rfl, by omega, hl0, by simp, h, g_refl _ _⟩
    clear h hv
    go_enter Try.func89, Try.ntmps89
    go_wp2
    go_loopw [1, 5] (fun kv i wr => MarkIRel w base b n c k0 kv i wr) (fun _ i _ => n - (intOf i).toNat)
    case atStart => exact HR.out
    case round =>
      obtain ⟨k, x, cur, hk', rfl, rfl, hx, hl, ht, ho, hgr⟩ := hrel
      clear HR
      have hx0 : 0 ≤ x ∧ x ≤ 5000000000 := by omega
      have HX := Lib.hid hx
      have HL := Lib.hid (And.intro hl ht)
      have HG := Lib.hid hgr
      clear hx hl ht hgr
      by_cases hlt : k < n
      · obtain ⟨b', off', y, e1, hb', hy, d0⟩ := nr_at (nr_own ho) hlt
        obtain ⟨rfl, rfl⟩ : b = b' ∧ 0 = off' := by injection e1 with e1; injection e1 with a b; exact ⟨a, b⟩
        rw [Nat.zero_add] at d0
        have f0 := World.ownsRow.frozenAt ho k
        have G := Lib.hid (own_set_int ho k x)
        have i0' : (0 : Int) ≤ (k : Int) := by omega
        have i1' : (k : Int) < (n : Int) := by omega
        clear ho e1 hy
        go_wp2
        go_roundw
        case rel => exact ⟨k + 1, _, _, by omega, by go_num, rfl, by have := HX.out; omega, by rw [List.length_set]; exact HL.out.1, set_takeI HL.out.1 hlt HL.out.2 (by rw [markI_get n k0 k hlt, HX.out]), G.out, g_set HG.out (.inl rfl) _⟩
        case measure => simp [intOf]; omega
      · obtain rfl : k = n := by omega
        have HE := Lib.hid (And.intro (takeI_all HL.out.2 (by have := HL.out.1; omega) (Nat.le_of_eq (markI_len _ _))) ho)
        clear ho
        go_wp2
        go_ret
        exact ⟨ret_int HX.out, by have e := HE.out.1; have o := HE.out.2; rw [e] at o; exact o, HG.out⟩
set_option maxHeartbeats 2000000 in
theorem heldIntS_any (A : Option Addr) (n c : Nat) (k0 : Int) (w : World) (h : NR w A n (markI n k0)) (hn : n ≤ 4000000000) (hk : 0 ≤ k0 ∧ k0 ≤ 100000000) :
    Calls Try.prog 91 #[.slice A n c, .int .i64 k0] w fun e w' => e = .returned (.int .i64 (k0 + n)) ∧ w = w' := by
  have H := Lib.hid h
  clear h
  go_enter Try.func91, Try.ntmps91
  go_wp2
  go_loop [1, 5] (fun kv i => ∃ (k : Nat) (x : Int), k ≤ n ∧ i = .int .i64 (k : Int) ∧ kv = .int .i64 x ∧ x = k0 + k) (fun _ i => n - (intOf i).toNat)
  case atStart => exact ⟨0, k0, Nat.zero_le _, rfl, rfl, by omega⟩
  case round =>
    obtain ⟨k, x, hk', rfl, rfl, hx⟩ := hrel
    have hx0 : 0 ≤ x ∧ x ≤ 5000000000 := by omega
    have HX := Lib.hid hx
    by_cases hlt : k < n
    · obtain ⟨b, off, y, rfl, hb, hy, c0⟩ := nr_at H.out hlt
      obtain rfl : y = x := by
        rw [markI_get n k0 k hlt, ← hx] at hy
        injection hy with hy
        exact hy.symm
      have i0' : (0 : Int) ≤ (k : Int) := by omega
      have i1' : (k : Int) < (n : Int) := by omega
      clear hx hy
      go_wp2
      go_round
      case rel => exact ⟨k + 1, _, by omega, by go_num, rfl, by have := HX.out; omega⟩
      case measure => simp [intOf]; omega
    · obtain rfl : k = n := by omega
      clear hx
      go_wp2
      go_ret
      exact ⟨ret_int HX.out, rfl⟩
end Go.Proofs.Ytkmoiphcpmhacaa
namespace Go.Proofs.Ytkmoiphcpmhacaa
open Go.ChangeShapes Go.WideShapes Go.ChangeAt Go.RowKit Go.Deep

theorem list_ofI {P : Nat → Int → Prop} {n : Nat} (h : ∀ i, i < n → ∃ q, P i q) : ∃ ps : List Int, ps.length = n ∧ ∀ k p, ps[k]? = some p → P k p := by
  induction n with
  | zero => exact ⟨[], rfl, fun k p hp => by simp at hp⟩
  | succ n ih =>
    obtain ⟨ps, hl, hp⟩ := ih fun i hi => h i (by omega)
    obtain ⟨q, hq⟩ := h n (by omega)
    refine ⟨ps ++ [q], by simp [hl], fun k p hk => ?_⟩
    rcases Nat.lt_or_ge k n with hlt | hge
    · rw [List.getElem?_append_left (by omega)] at hk
      exact hp k p hk
    · rw [List.getElem?_append_right (by omega)] at hk
      have : k - ps.length = 0 := by
        rcases Nat.eq_zero_or_pos (k - ps.length) with h0 | h0
        · exact h0
        · rw [List.getElem?_eq_none (by simp; omega)] at hk; cases hk
      rw [this] at hk
      obtain rfl : q = p := by simpa using hk
      obtain rfl : k = n := by omega
      exact hq
theorem ints_open {H : Type} {enc : TypeId × Value → H} {W : World} {base : Nat} {sp : Nat → Bool} {hd : Bool} {a : Option Addr} {n c : Nat} {d : DataW H} {p : List MemPlace}
    (h : DataW.Trod enc Try.prog W base sp hd 24 (.slice a n c) d p) : ∃ us, NR W a n us ∧ n ≤ 9223372036854775807 := by
  obtain ⟨fuel, hf⟩ := h
  rcases open_slice Try.underlying24 hf with ⟨hcs, _⟩ | ⟨x, len, cap, m, nf, D, Pl, hcs, hb, hl, hm, hmm, hx, hi⟩
  · simp [Value.cells] at hcs
    obtain ⟨rfl, rfl, rfl⟩ := hcs
    exact ⟨[], nr_nil _ _, by omega⟩
  · simp [Value.cells] at hcs
    obtain ⟨rfl, rfl, rfl⟩ := hcs
    have hn : n ≤ m := by rw [hmm]; split <;> omega
    have hI : Try.prog.cellsOf 3 = 1 := by kernel_rfl
    rw [hI] at hi
    have hone : ∀ i, i < n → ∃ q : Int, W.cell? ((x.add (i * 1)).add 0) = some (.int .i64 q) := by
      intro i him
      obtain ⟨cs', hc, ht⟩ := hi i (by omega)
      obtain ⟨_, hcl, hat⟩ := World.cells?_some hc
      obtain ⟨q0, e0, _, _⟩ := DataW.trod_int Try.underlying3 ht
      refine ⟨q0, ?_⟩
      rw [hat (i := 0) (by omega), e0]
      rfl
    obtain ⟨us, hl1, hus⟩ := list_ofI hone
    refine ⟨us, ⟨hl1, fun hn0 => ?_⟩, by unfold maxLen at hm; omega⟩
    obtain ⟨b, off, spot⟩ := x
    obtain ⟨q, hq⟩ := hone 0 (by omega)
    have hspot : spot = none := by simpa [Addr.add] using World.cell?_spot hq
    subst hspot
    have ha : ∀ i j, ((⟨b, off, none⟩ : Addr).add i).add j = ⟨b, off + i + j, none⟩ := fun i j => by unfold Addr.add; split <;> split <;> simp_all
    refine ⟨b, off, rfl, World.block_lt_of_cell? W (a := ⟨b, off + 0 * 1 + 0, none⟩) (by rw [← ha]; exact hq), fun k p hp => ?_⟩
    have h0 := hus k p hp
    rw [ha] at h0
    simpa using h0
/-- the same, for a field's one cell -/
theorem ints_open1 {H : Type} {enc : TypeId × Value → H} {W : World} {base : Nat} {sp : Nat → Bool} {hd : Bool} {fuel : Nat} {v : Value} {y : DataW H × List MemPlace}
    (h : DataW.trod enc Try.prog W base sp hd fuel 24 [v] = some y) : ∃ a n c us, v = .slice a n c ∧ NR W a n us ∧ n ≤ 9223372036854775807 := by
  have h2 := h
  rcases open_slice Try.underlying24 h with ⟨hcs, _⟩ | ⟨x, len, cap, m, nf, D, Pl, hcs, _⟩
  · simp at hcs
    subst hcs
    obtain ⟨us, h1, h3⟩ := ints_open (a := none) (n := 0) (c := 0) (d := y.1) (p := y.2) ⟨fuel, h2⟩
    exact ⟨none, 0, 0, us, rfl, h1, h3⟩
  · simp at hcs
    subst hcs
    obtain ⟨us, h1, h3⟩ := ints_open (a := some x) (n := len) (c := cap) (d := y.1) (p := y.2) ⟨fuel, h2⟩
    exact ⟨some x, len, cap, us, rfl, h1, h3⟩
end Go.Proofs.Ytkmoiphcpmhacaa
