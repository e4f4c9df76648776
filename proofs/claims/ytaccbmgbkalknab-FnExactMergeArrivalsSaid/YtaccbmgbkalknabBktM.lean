/-
  Chapter 2: what the laws need of the numbers, and the contracts with the values named. Conditions: each lemma says them.
-/
import Derived.Test.YtaccbmgbkalknabBkt3
import Derived.Test.YtaccbmgbkalknabBkt4
import Derived.Test.YtaccbmgbkalknabBkt5
import Derived.Test.YtaccbmgbkalknabBkt6
namespace Go.Proofs.Ytaccbmgbkalknab
open Go.RowKit

theorem lv_same {r s V m : Int} (h : V ≤ s) : lv r s V m m = V := by
  have : r * (m - m) = 0 := by rw [Int.sub_self, Int.mul_zero]
  unfold lv
  rw [this]
  split <;> omega
theorem rt_same {r s l t m V : Int} (h : rtB r s l t m = true) (h0 : 0 ≤ V) (h1 : V ≤ s) : rtB r s V m m = true := by
  have := rt_of h
  exact rt_mk (by omega)
theorem bv_rt {r s l t m V : Int} (h : rtB r s l t m = true) (h0 : 0 ≤ V) (h1 : V ≤ s) : bvB r s V m = true := by
  have := rt_of h
  exact bv_mk (by omega)
theorem tk_mk {r s l t n c : Int} (h : rtB r s l t n = true) (hc : 0 ≤ c) : tkB r s l t n c = true := by
  rw [tkB, h, Bool.true_and, decide_eq_true_eq]; exact hc
theorem gv_back {r s V m k : Int} (h0 : 0 ≤ k) (h2 : V ≤ s) : gv r s (V - k) m m k = V := by
  unfold gv
  rw [lv_same (by omega)]
  split <;> omega
/-- later levels: what comes in in d ticks more -/
theorem lv_later {r s l t m : Int} (h : rtB r s l t m = true) (d : Int) (hd : 0 ≤ d) : lv r s l t (m + d) = if lv r s l t m + r * d ≤ s then lv r s l t m + r * d else s := by
  have h1 := rt_of h
  have e : r * (m + d - t) = r * (m - t) + r * d := by rw [← Int.mul_add]; congr 1; omega
  have g : 0 ≤ r * d := Int.mul_nonneg h1.1 hd
  unfold lv
  rw [e]
  by_cases ha : l + r * (m - t) ≤ s
  · rw [if_pos ha]
    by_cases hb : l + (r * (m - t) + r * d) ≤ s
    · rw [if_pos hb, if_pos (by omega)]; omega
    · rw [if_neg hb, if_neg (by omega)]
  · rw [if_neg ha, if_neg (by omega)]
    by_cases hb : s + r * d ≤ s
    · rw [if_pos hb]; omega
    · rw [if_neg hb]
theorem lv_split {r s l t h m : Int} (hr : rtB r s l t h = true) (hm : h ≤ m) : lv r s (lv r s l t h) h m = lv r s l t m := by
  have e := lv_later hr (m - h) (by omega)
  rw [show h + (m - h) = m from by omega] at e
  rw [e]
  rfl
theorem rt_at (r s l t : Int) : rtB r s l t t = bvB r s l t := by
  rw [Bool.eq_iff_iff]
  simp only [rtB, bvB, decide_eq_true_eq]
  omega
theorem rt_on {r s l t m : Int} (h : rtB r s l t m = true) (n : Int) (h1 : m ≤ n) (h2 : n ≤ 1000000) : rtB r s l t n = true := by
  have := rt_of h
  exact rt_mk (by omega)
theorem rt_end {r s l t n : Int} (h : 1000000 < n) : rtB r s l t n = false := rt_no (by omega)
/-- how long a wait is -/
theorem wt_bd {r s l t m c : Int} (h : wtB r s l t m c = true) : 0 ≤ wt r s l t m c ∧ wt r s l t m c ≤ 10000 ∧ (c ≤ lv r s l t m → wt r s l t m c = 0) ∧
    (lv r s l t m < c → 0 < r ∧ 1 ≤ wt r s l t m c ∧ c ≤ lv r s l t m + r * wt r s l t m c ∧ lv r s l t m + r * (wt r s l t m c - 1) < c) := by
  obtain ⟨hr, c0, c1, hc⟩ := wt_of h
  have h1 := rt_of hr
  have h2 := lv_bd hr
  have e : wt r s l t m c = if c ≤ lv r s l t m then 0 else (c - lv r s l t m + r - 1) / r := rfl
  obtain ⟨V, hV⟩ : ∃ V, V = lv r s l t m := ⟨_, rfl⟩
  obtain ⟨W, hW⟩ : ∃ W, W = wt r s l t m c := ⟨_, rfl⟩
  rw [← hV] at e h2 hc ⊢
  rw [← hW] at e ⊢
  clear hV hW h hr
  by_cases hv : c ≤ V
  · rw [if_pos hv] at e
    exact ⟨by omega, by omega, fun _ => e, fun hh => absurd hh (by omega)⟩
  · rw [if_neg hv] at e
    have r0 : 0 < r := by omega
    have e1 := Int.mul_ediv_add_emod (c - V + r - 1) r
    have e2 := Int.emod_nonneg (c - V + r - 1) (show r ≠ 0 by omega)
    have e3 := Int.emod_lt_of_pos (c - V + r - 1) r0
    rw [← e] at e1
    have e4 : 1 ≤ W := by
      rcases Int.lt_or_le W 1 with hw | hw
      · have : r * W ≤ r * 0 := Int.mul_le_mul_of_nonneg_left (by omega) (by omega)
        omega
      · exact hw
    have e5 : r * (W - 1) = r * W - r := by rw [Int.mul_sub, Int.mul_one]
    have e6 : W - 1 ≤ r * (W - 1) := by
      have : 1 * (W - 1) ≤ r * (W - 1) := Int.mul_le_mul_of_nonneg_right (by omega) (by omega)
      omega
    exact ⟨by omega, by omega, fun hh => absurd hh hv, fun _ => ⟨r0, e4, by omega, by omega⟩⟩
theorem wt_mk {r s l t n c : Int} (h : rtB r s l t n = true) (h0 : 0 ≤ c) (h1 : c ≤ s) (h2 : c ≤ lv r s l t n ∨ 0 < r) : wtB r s l t n c = true := by
  rw [wtB, h, Bool.true_and, decide_eq_true_eq]
  exact ⟨h0, h1, h2⟩
theorem wt_end {r s l t n c : Int} (h : 1000000 < n) : wtB r s l t n c = false := by rw [wtB, rt_end h, Bool.false_and]
/-- a wait is known by what it leaves -/
theorem wt_uniq {r V c W X : Int} (hr : 0 < r) (h1 : c ≤ V + r * W) (h2 : V + r * (X - 1) < c) : X ≤ W := by
  rcases Int.lt_or_le W X with h | h
  · have : r * W ≤ r * (X - 1) := Int.mul_le_mul_of_nonneg_left (by omega) (by omega)
    omega
  · exact h
theorem wt_less {r s l t m k : Int} (h : wtB r s l t m k = true) (h' : wtB r s l t m (k - 1) = true) : wt r s l t m (k - 1) ≤ wt r s l t m k := by
  have a := wt_bd h
  have b := wt_bd h'
  rcases Int.lt_or_le (lv r s l t m) (k - 1) with hv | hv
  · have a1 := a.2.2.2 (by omega)
    have b1 := b.2.2.2 hv
    exact wt_uniq (V := lv r s l t m) (c := k - 1) a1.1 (by omega) b1.2.2.2
  · rw [b.2.2.1 hv]; exact a.1
theorem wt_next {r s l t m k : Int} (h : wtB r s l t m k = true) (h' : wtB r s l t (m + 1) k = true) :
    wt r s l t (m + 1) k = wt r s l t m k - 1 ∨ (wt r s l t m k = 0 ∧ wt r s l t (m + 1) k = 0) := by
  have a := wt_bd h
  have b := wt_bd h'
  have hk := wt_of h
  have e := lv_later hk.1 1 (by omega)
  rw [Int.mul_one] at e
  have hs := lv_bd hk.1
  have hr := rt_of hk.1
  generalize wt r s l t m k = W at *
  generalize wt r s l t (m + 1) k = X at *
  generalize lv r s l t m = V at *
  generalize lv r s l t (m + 1) = V2 at *
  rcases Int.lt_or_le V k with hv | hv
  · have a1 := a.2.2.2 hv
    refine .inl ?_
    by_cases hc : V + r ≤ s
    · rw [if_pos hc] at e
      rcases Int.lt_or_le V2 k with hv2 | hv2
      · have b1 := b.2.2.2 hv2
        have d1 : r * (X - 1) = r * X - r := by rw [Int.mul_sub, Int.mul_one]
        have d2 : r * (W - 1) = r * W - r := by rw [Int.mul_sub, Int.mul_one]
        have d3 : r * (X + 1 - 1) = r * X := by congr 1; omega
        have d4 : r * (X + 1) = r * X + r := by rw [Int.mul_add, Int.mul_one]
        have c1 : X + 1 ≤ W := wt_uniq (V := V) (c := k) a1.1 a1.2.2.1 (by omega)
        have c2 : W ≤ X + 1 := wt_uniq (V := V) (c := k) a1.1 (by omega) a1.2.2.2
        omega
      · have b1 := b.2.2.1 hv2
        have c2 : W ≤ 1 := wt_uniq (V := V) (c := k) a1.1 (by omega) a1.2.2.2
        omega
    · rw [if_neg hc] at e
      have b1 := b.2.2.1 (by omega)
      have c2 : W ≤ 1 := wt_uniq (V := V) (c := k) a1.1 (by omega) a1.2.2.2
      omega
  · refine .inr ⟨a.2.2.1 hv, b.2.2.1 ?_⟩
    split at e <;> omega
end Go.Proofs.Ytaccbmgbkalknab
