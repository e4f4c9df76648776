/-
  Chapter 10, the numbers: arrivals, what waits at a server of a rate, rows, buckets, peaks, delays, shaping. Conditions: each lemma says them.
-/
import Derived.Test.YtaccbmgbkalknabBktM
namespace Go.Proofs.Ytaccbmgbkalknab
open Go.RowKit

structure Arr where
  t : Int
  z : Int
theorem arr_ext {p q : Arr} (h0 : p.t = q.t) (h1 : p.z = q.z) : p = q := by cases p; cases q; simp_all
def mx (a b : Int) : Int := if a ≤ b then b else a
theorem mx_le {a b B : Int} : mx a b ≤ B ↔ a ≤ B ∧ b ≤ B := by
  unfold mx
  split <;> omega
theorem mx_l (a b : Int) : a ≤ mx a b := by unfold mx; split <;> omega
theorem mx_r (a b : Int) : b ≤ mx a b := by unfold mx; split <;> omega
theorem mx_or (a b : Int) : mx a b = a ∨ mx a b = b := by unfold mx; split <;> simp
theorem mx_add (a b c : Int) : mx a b + c = mx (a + c) (b + c) := by unfold mx; split <;> split <;> omega
theorem eq_of_le_iff {x y : Int} (h : ∀ B, x ≤ B ↔ y ≤ B) : x = y :=
  Int.le_antisymm ((h y).2 (Int.le_refl _)) ((h x).1 (Int.le_refl _))
theorem drop_at {α : Type} {l : List α} {k : Nat} {a : α} (h : l[k]? = some a) : l.drop k = a :: l.drop (k + 1) := by
  obtain ⟨hk, rfl⟩ := List.getElem?_eq_some_iff.1 h
  exact List.drop_eq_getElem_cons hk
theorem drop_end {α : Type} {l : List α} {k : Nat} (h : l.length ≤ k) : l.drop k = [] := List.drop_of_length_le h

/-! validity -/
/-- valid from a time on -/
def avL : Int → List Arr → Bool
  | _, [] => true
  | lo, a :: r => inB a.t lo 10000 && inB a.z 1 100 && avL a.t r
def avB (l : List Arr) : Bool := decide (l.length ≤ 32) && avL 0 l
theorem av_cons {lo : Int} {a : Arr} {r : List Arr} : avL lo (a :: r) = true ↔ lo ≤ a.t ∧ a.t ≤ 10000 ∧ 1 ≤ a.z ∧ a.z ≤ 100 ∧ avL a.t r = true := by
  simp only [avL, inB, Bool.and_eq_true, decide_eq_true_eq]
  constructor
  · rintro ⟨⟨⟨h1, h2⟩, h3, h4⟩, h5⟩
    exact ⟨h1, h2, h3, h4, h5⟩
  · rintro ⟨h1, h2, h3, h4, h5⟩
    exact ⟨⟨⟨h1, h2⟩, h3, h4⟩, h5⟩
theorem av_low {lo lo' : Int} {l : List Arr} (h : avL lo l = true) (hl : lo' ≤ lo) : avL lo' l = true := by
  cases l with
  | nil => rfl
  | cons a r =>
    have := av_cons.1 h
    exact av_cons.2 ⟨by omega, this.2⟩
theorem av_tail {lo : Int} {a : Arr} {r : List Arr} (h : avL lo (a :: r) = true) : avL lo r = true := by
  have := av_cons.1 h
  exact av_low this.2.2.2.2 this.1
theorem av_drop {lo : Int} {l : List Arr} (h : avL lo l = true) (k : Nat) : avL lo (l.drop k) = true := by
  induction k generalizing l with
  | zero => exact h
  | succ k ih =>
    cases l with
    | nil => rfl
    | cons a r => exact ih (av_tail h)
theorem av_of {l : List Arr} (h : avB l = true) : l.length ≤ 32 ∧ avL 0 l = true := by simpa [avB] using h
theorem av_at {lo : Int} {l : List Arr} {k : Nat} {a : Arr} (h : avL lo l = true) (hk : l[k]? = some a) : lo ≤ a.t ∧ a.t ≤ 10000 ∧ 1 ≤ a.z ∧ a.z ≤ 100 := by
  have := av_drop h k
  rw [drop_at hk] at this
  have := av_cons.1 this
  omega

/-! sums -/
def zsum : List Arr → Int
  | [] => 0
  | a :: r => a.z + zsum r
theorem zsum_bd {lo : Int} {l : List Arr} (h : avL lo l = true) : (l.length : Int) ≤ zsum l ∧ zsum l ≤ 100 * l.length := by
  induction l generalizing lo with
  | nil => simp [zsum]
  | cons a r ih =>
    have h1 := av_cons.1 h
    have := ih h1.2.2.2.2
    simp only [zsum, List.length_cons]
    omega

/-! what waits at a server -/
def nxt (r w n : Int) (a : Arr) : Int := mx (w - r * (a.t - n)) 0 + a.z
def mbl (r : Int) : Int → Int → Int → List Arr → Int
  | _, _, m, [] => m
  | w, n, m, a :: x => mbl r (nxt r w n a) a.t (mx m (nxt r w n a)) x
/-- the sums of a row that begins ahead, less what the rate gives from n on, are at most B -/
def Pre (r : Int) : Int → Int → Int → List Arr → Prop
  | _, _, _, [] => True
  | w, n, B, a :: x => w + a.z - r * (a.t - n) ≤ B ∧ Pre r (w + a.z) n B x
def Rows (r B : Int) : List Arr → Prop
  | [] => True
  | a :: x => Pre r 0 a.t B (a :: x) ∧ Rows r B x
theorem pre_shift (r w n t B : Int) (l : List Arr) : Pre r w n B l ↔ Pre r (w - r * (t - n)) t B l := by
  induction l generalizing w with
  | nil => simp [Pre]
  | cons a x ih =>
    have e1 := Int.mul_sub r a.t n
    have e2 := Int.mul_sub r a.t t
    have e3 := Int.mul_sub r t n
    simp only [Pre]
    rw [ih (w + a.z), show w + a.z - r * (t - n) = w - r * (t - n) + a.z by omega]
    constructor
    · rintro ⟨h1, h2⟩
      exact ⟨by omega, h2⟩
    · rintro ⟨h1, h2⟩
      exact ⟨by omega, h2⟩
theorem pre_mono {r w w' n B : Int} {l : List Arr} (h : w ≤ w') (hp : Pre r w' n B l) : Pre r w n B l := by
  induction l generalizing w w' with
  | nil => trivial
  | cons a x ih => exact ⟨by have := hp.1; omega, ih (by omega) hp.2⟩
theorem pre_up {r w n B B' : Int} {l : List Arr} (h : B ≤ B') (hp : Pre r w n B l) : Pre r w n B' l := by
  induction l generalizing w with
  | nil => trivial
  | cons a x ih => exact ⟨by have := hp.1; omega, ih hp.2⟩
theorem pre_max {r x y n B : Int} {l : List Arr} : Pre r (mx x y) n B l ↔ Pre r x n B l ∧ Pre r y n B l := by
  constructor
  · exact fun h => ⟨pre_mono (mx_l x y) h, pre_mono (mx_r x y) h⟩
  · rintro ⟨h1, h2⟩
    rcases mx_or x y with e | e <;> rw [e] <;> assumption
theorem nxt_eq (r w n : Int) (a : Arr) : nxt r w n a = mx (w + a.z - r * (a.t - n)) a.z := by
  unfold nxt
  rw [mx_add]
  congr 1 <;> omega
theorem mbl_le {r w n m B : Int} {l : List Arr} : mbl r w n m l ≤ B ↔ m ≤ B ∧ Pre r w n B l ∧ Rows r B l := by
  induction l generalizing w n m with
  | nil => simp [mbl, Pre, Rows]
  | cons a x ih =>
    have e0 : (0 : Int) + a.z = a.z := Int.zero_add _
    have e1 : r * (a.t - a.t) = 0 := by rw [Int.sub_self, Int.mul_zero]
    simp only [mbl, Pre, Rows]
    rw [ih, mx_le, nxt_eq, mx_le, pre_max, e0, e1, pre_shift r (w + a.z) n a.t]
    constructor
    · rintro ⟨⟨h1, h2, h3⟩, ⟨h4, h5⟩, h6⟩
      exact ⟨h1, ⟨h2, h4⟩, ⟨⟨by omega, h5⟩, h6⟩⟩
    · rintro ⟨h1, ⟨h2, h4⟩, ⟨⟨h3, h5⟩, h6⟩⟩
      exact ⟨⟨h1, h2, by omega⟩, ⟨h4, h5⟩, h6⟩
theorem mbl_bd {r w n m lo : Int} {l : List Arr} (hr : 0 ≤ r) (hv : avL lo l = true) (hn : n ≤ lo) (hw : 0 ≤ w) (hm : 0 ≤ m) (hB : m ≤ w + zsum l) : 0 ≤ mbl r w n m l ∧ mbl r w n m l ≤ w + zsum l := by
  induction l generalizing w n m lo with
  | nil => simpa [mbl, zsum] using ⟨hm, by simpa [zsum] using hB⟩
  | cons a x ih =>
    have h1 := av_cons.1 hv
    have h2 : 0 ≤ r * (a.t - n) := Int.mul_nonneg hr (by omega)
    have h3 := zsum_bd h1.2.2.2.2
    simp only [zsum] at hB ⊢
    have h4 : nxt r w n a ≤ w + a.z ∧ a.z ≤ nxt r w n a := by unfold nxt mx; split <;> omega
    have h5 : mx m (nxt r w n a) ≤ w + (a.z + zsum x) := mx_le.2 ⟨hB, by omega⟩
    have h6 : 0 ≤ mx m (nxt r w n a) := Int.le_trans hm (mx_l _ _)
    by_cases h7 : mx m (nxt r w n a) ≤ nxt r w n a + zsum x
    · have := ih (n := a.t) h1.2.2.2.2 (Int.le_refl _) (by omega) h6 h7
      simp only [mbl]
      omega
    · have h8 : mbl r (nxt r w n a) a.t (mx m (nxt r w n a)) x ≤ w + (a.z + zsum x) := by
        rw [mbl_le]
        have h9 := ih (n := a.t) (m := 0) h1.2.2.2.2 (Int.le_refl _) (w := nxt r w n a) (by omega) (Int.le_refl _) (by omega)
        have h10 := (mbl_le (B := w + (a.z + zsum x))).1 (by omega : mbl r (nxt r w n a) a.t 0 x ≤ w + (a.z + zsum x))
        exact ⟨h5, h10.2⟩
      refine ⟨?_, by simpa only [mbl] using h8⟩
      simp only [mbl]
      have := (mbl_le (r := r) (w := nxt r w n a) (n := a.t) (m := mx m (nxt r w n a)) (l := x)).1 (Int.le_refl _)
      omega
/-- the program's backlog of a list -/
def back (r : Int) (l : List Arr) : Int := mbl r 0 0 0 l
theorem back_bd {r : Int} {l : List Arr} (hr : 0 ≤ r) (hv : avB l = true) : 0 ≤ back r l ∧ back r l ≤ zsum l ∧ zsum l ≤ 3200 := by
  have h1 := av_of hv
  have h2 := zsum_bd h1.2
  have := mbl_bd (r := r) (w := 0) (n := 0) (m := 0) hr h1.2 (Int.le_refl _) (Int.le_refl _) (Int.le_refl _) (by omega)
  unfold back
  omega
theorem back_pos {r : Int} {a : Arr} {l : List Arr} (hv : avL 0 (a :: l) = true) : 1 ≤ back r (a :: l) := by
  have h1 := av_cons.1 hv
  have h2 := (mbl_le (r := r) (w := 0) (n := 0) (m := 0) (l := a :: l)).1 (Int.le_refl _)
  have h3 := h2.2.2.1.1
  rw [Int.sub_self, Int.mul_zero] at h3
  unfold back
  omega
/-! rows, as the model makes them -/
def lb1 (r t0 : Int) : Int → Int → List Arr → Int
  | _, m, [] => m
  | u, m, a :: x => lb1 r t0 (u + a.z) (mx m (u + a.z - r * (a.t - t0))) x
def lbS (r : Int) : Int → List Arr → Int
  | m, [] => m
  | m, a :: x => lbS r (lb1 r a.t 0 m (a :: x)) x
theorem lb1_le {r t0 u m B : Int} {l : List Arr} : lb1 r t0 u m l ≤ B ↔ m ≤ B ∧ Pre r u t0 B l := by
  induction l generalizing u m with
  | nil => simp [lb1, Pre]
  | cons a x ih =>
    simp only [lb1, Pre]
    rw [ih, mx_le, and_assoc]
theorem lbS_le {r m B : Int} {l : List Arr} : lbS r m l ≤ B ↔ m ≤ B ∧ Rows r B l := by
  induction l generalizing m with
  | nil => simp [lbS, Rows]
  | cons a x ih =>
    simp only [lbS, Rows]
    rw [ih, lb1_le, and_assoc]
theorem rows_pre {r B : Int} {l : List Arr} (hr : 0 ≤ r) (hv : avL 0 l = true) (h : Rows r B l) : Pre r 0 0 B l := by
  cases l with
  | nil => trivial
  | cons a x =>
    have h1 := av_cons.1 hv
    have h2 : 0 ≤ r * (a.t - 0) := Int.mul_nonneg hr (by omega)
    rw [pre_shift r 0 0 a.t]
    exact pre_mono (by omega) h.1
theorem back_le {r B : Int} {l : List Arr} (hr : 0 ≤ r) (hv : avL 0 l = true) : back r l ≤ B ↔ 0 ≤ B ∧ Rows r B l := by
  unfold back
  rw [mbl_le]
  exact ⟨fun h => ⟨h.1, h.2.2⟩, fun h => ⟨h.1, rows_pre hr hv h.2, h.2⟩⟩
theorem lb_eq {r : Int} {l : List Arr} (hr : 0 ≤ r) (hv : avL 0 l = true) : lbS r 1 l = mx (back r l) 1 := by
  refine eq_of_le_iff fun B => ?_
  rw [lbS_le, mx_le, back_le hr hv]
  constructor
  · rintro ⟨h1, h2⟩
    exact ⟨⟨by omega, h2⟩, h1⟩
  · rintro ⟨⟨_, h2⟩, h1⟩
    exact ⟨h1, h2⟩
/-! a greater rate -/
theorem pre_rate {r r' w n B : Int} {l : List Arr} (hr : r ≤ r') (hv : avL n l = true) (h : Pre r w n B l) : Pre r' w n B l := by
  induction l generalizing w with
  | nil => trivial
  | cons a x ih =>
    have h1 := av_cons.1 hv
    have h2 : r * (a.t - n) ≤ r' * (a.t - n) := Int.mul_le_mul_of_nonneg_right hr (by omega)
    exact ⟨by have := h.1; omega, ih (av_tail hv) h.2⟩
theorem rows_rate {r r' n B : Int} {l : List Arr} (hr : r ≤ r') (hv : avL n l = true) (h : Rows r B l) : Rows r' B l := by
  induction l generalizing n with
  | nil => trivial
  | cons a x ih =>
    have h1 := av_cons.1 hv
    exact ⟨pre_rate hr (av_cons.2 ⟨Int.le_refl _, h1.2⟩) h.1, ih h1.2.2.2.2 h.2⟩
theorem back_anti {r r' : Int} {l : List Arr} (h0 : 0 ≤ r) (hr : r ≤ r') (hv : avL 0 l = true) : back r' l ≤ back r l := by
  have h1 := (back_le h0 hv).1 (Int.le_refl (back r l))
  exact (back_le (Int.le_trans h0 hr) hv).2 ⟨h1.1, rows_rate hr hv h1.2⟩
/-! a bucket -/
def cfB (r s : Int) : Int → Int → List Arr → Bool
  | _, _, [] => true
  | l, t, a :: x => decide (a.z ≤ lv r s l t a.t) && cfB r s (lv r s l t a.t - a.z) a.t x
theorem lv_wait (r s w n t : Int) : lv r s (s - w) n t = s - mx (w - r * (t - n)) 0 := by
  unfold lv mx
  split <;> split <;> omega
theorem cf_mbl {r s w n m : Int} {l : List Arr} : mbl r w n m l ≤ s ↔ m ≤ s ∧ cfB r s (s - w) n l = true := by
  induction l generalizing w n m with
  | nil => simp [mbl, cfB]
  | cons a x ih =>
    simp only [mbl, cfB, Bool.and_eq_true, decide_eq_true_eq]
    rw [ih, lv_wait, mx_le]
    have e : s - mx (w - r * (a.t - n)) 0 - a.z = s - nxt r w n a := by unfold nxt; omega
    have e2 : nxt r w n a = mx (w - r * (a.t - n)) 0 + a.z := rfl
    rw [e]
    constructor
    · rintro ⟨⟨h1, h2⟩, h3⟩
      exact ⟨h1, by omega, h3⟩
    · rintro ⟨h1, h2, h3⟩
      exact ⟨⟨h1, by omega⟩, h3⟩
def conf (r s : Int) (l : List Arr) : Bool := cfB r s s 0 l
theorem conf_iff {r s : Int} {l : List Arr} (hs : 0 ≤ s) : conf r s l = true ↔ back r l ≤ s := by
  unfold conf back
  rw [cf_mbl, Int.sub_zero]
  exact ⟨fun h => ⟨hs, h⟩, fun h => h.2⟩
theorem conf_eq {r s : Int} {l : List Arr} (hs : 0 ≤ s) : conf r s l = decide (back r l ≤ s) := by
  rw [Bool.eq_iff_iff, decide_eq_true_eq]
  exact conf_iff hs
/-! the worst delay -/
def wdS (r : Int) : Int → Int → List Arr → Int
  | _, m, [] => m
  | f, m, a :: x => wdS r (mx (a.t * r) f + a.z) (mx m ((mx (a.t * r) f + a.z - a.t * r + r - 1) / r)) x
theorem ceil_mono {r a b : Int} (hr : 0 < r) (h : a ≤ b) : (a + r - 1) / r ≤ (b + r - 1) / r := Int.ediv_le_ediv hr (by omega)
theorem ceil_mx {r a b : Int} (hr : 0 < r) : (mx a b + r - 1) / r = mx ((a + r - 1) / r) ((b + r - 1) / r) := by
  by_cases h : a ≤ b
  · have := ceil_mono hr h
    simp only [mx, if_pos h, if_pos this]
  · have := ceil_mono hr (show b ≤ a by omega)
    by_cases h2 : (a + r - 1) / r ≤ (b + r - 1) / r
    · simp only [mx, if_neg h, if_pos h2]
      omega
    · simp only [mx, if_neg h, if_neg h2]
theorem wd_mbl {r w n m : Int} {l : List Arr} (hr : 0 < r) : wdS r (w + n * r) ((m + r - 1) / r) l = (mbl r w n m l + r - 1) / r := by
  induction l generalizing w n m with
  | nil => rfl
  | cons a x ih =>
    have e1 := Int.mul_sub r a.t n
    have e2 := Int.mul_comm r a.t
    have e3 := Int.mul_comm r n
    have e : mx (a.t * r) (w + n * r) + a.z = nxt r w n a + a.t * r := by
      unfold nxt mx
      split <;> split <;> omega
    simp only [wdS, mbl]
    rw [e, show nxt r w n a + a.t * r - a.t * r = nxt r w n a by omega, ← ceil_mx hr, ih]
def wors (r : Int) (l : List Arr) : Int := (back r l + r - 1) / r
theorem wors_eq {r : Int} {l : List Arr} (hr : 0 < r) : wdS r 0 0 l = wors r l := by
  have h := wd_mbl (r := r) (w := 0) (n := 0) (m := 0) (l := l) hr
  have e : (0 + r - 1) / r = 0 := Int.ediv_eq_zero_of_lt (by omega) (by omega)
  rw [e, Int.zero_mul, Int.add_zero] at h
  exact h
/-! peaks -/
def bb (e : Int) : Int → List Arr → Int
  | u, [] => u
  | u, a :: x => bb e (if a.t < e then u + a.z else u) x
def pk1 (e : Int) : Int → List Arr → Int
  | u, [] => u
  | u, a :: x => if a.t < e then pk1 e (u + a.z) x else u
def pkS (d : Int) : Int → List Arr → Int
  | m, [] => m
  | m, a :: x => pkS d (mx m (pk1 (a.t + d) 0 (a :: x))) x
theorem bb_far {e lo u : Int} {l : List Arr} (h : avL lo l = true) (he : e ≤ lo) : bb e u l = u := by
  induction l generalizing lo with
  | nil => rfl
  | cons a x ih =>
    have h1 := av_cons.1 h
    simp only [bb]
    rw [if_neg (by omega), ih h1.2.2.2.2 (by omega)]
theorem bb_pk {e lo u : Int} {l : List Arr} (h : avL lo l = true) : bb e u l = pk1 e u l := by
  induction l generalizing lo u with
  | nil => rfl
  | cons a x ih =>
    have h1 := av_cons.1 h
    simp only [bb, pk1]
    by_cases he : a.t < e
    · rw [if_pos he, if_pos he, ih h1.2.2.2.2]
    · rw [if_neg he, if_neg he, bb_far h1.2.2.2.2 (by omega)]
theorem pk1_bd {e lo u : Int} {l : List Arr} (h : avL lo l = true) : u ≤ pk1 e u l ∧ pk1 e u l ≤ u + zsum l := by
  induction l generalizing lo u with
  | nil => simp [pk1, zsum]
  | cons a x ih =>
    have h1 := av_cons.1 h
    have h2 := ih (u := u + a.z) h1.2.2.2.2
    have h3 := zsum_bd h1.2.2.2.2
    simp only [pk1, zsum]
    split <;> omega
theorem pk1_all {e lo u : Int} {l : List Arr} (h : avL lo l = true) (he : 10000 < e) : pk1 e u l = u + zsum l := by
  induction l generalizing lo u with
  | nil => simp [pk1, zsum]
  | cons a x ih =>
    have h1 := av_cons.1 h
    simp only [pk1, zsum]
    rw [if_pos (by omega), ih h1.2.2.2.2]
    omega
theorem pk1_mono {e e' lo u : Int} {l : List Arr} (h : avL lo l = true) (he : e ≤ e') : pk1 e u l ≤ pk1 e' u l := by
  induction l generalizing lo u with
  | nil => exact Int.le_refl _
  | cons a x ih =>
    have h1 := av_cons.1 h
    have h2 := pk1_bd (e := e') (u := u + a.z) h1.2.2.2.2
    simp only [pk1]
    by_cases h3 : a.t < e
    · rw [if_pos h3, if_pos (by omega)]
      exact ih h1.2.2.2.2
    · rw [if_neg h3]
      split <;> omega
theorem pkS_le {d m B : Int} {l : List Arr} : pkS d m l ≤ B ↔ m ≤ B ∧ ∀ k a, l[k]? = some a → pk1 (a.t + d) 0 (l.drop k) ≤ B := by
  induction l generalizing m with
  | nil => simp [pkS]
  | cons a x ih =>
    simp only [pkS]
    rw [ih, mx_le]
    constructor
    · rintro ⟨⟨h1, h2⟩, h3⟩
      refine ⟨h1, fun k b hk => ?_⟩
      cases k with
      | zero =>
        obtain rfl : a = b := by simpa using hk
        exact h2
      | succ k => exact h3 k b (by simpa using hk)
    · rintro ⟨h1, h2⟩
      exact ⟨⟨h1, h2 0 a rfl⟩, fun k b hk => h2 (k + 1) b (by simpa using hk)⟩
def peak (d : Int) (l : List Arr) : Int := pkS d 0 l
theorem peak_le {d B : Int} {l : List Arr} : peak d l ≤ B ↔ 0 ≤ B ∧ ∀ k a, l[k]? = some a → pk1 (a.t + d) 0 (l.drop k) ≤ B := pkS_le
theorem zsum_drop {l : List Arr} (h : avL 0 l = true) (k : Nat) : 0 ≤ zsum (l.drop k) ∧ zsum (l.drop k) ≤ zsum l := by
  induction k generalizing l with
  | zero => exact ⟨by have := zsum_bd h; simp only [List.drop_zero]; omega, Int.le_refl _⟩
  | succ k ih =>
    cases l with
    | nil => exact ⟨Int.le_refl _, Int.le_refl _⟩
    | cons a x =>
      have h1 := av_cons.1 h
      have := ih (av_tail h)
      simp only [List.drop_succ_cons, zsum]
      omega
theorem peak_bd {d : Int} {l : List Arr} (hv : avL 0 l = true) : 0 ≤ peak d l ∧ peak d l ≤ zsum l := by
  have h0 := zsum_bd hv
  refine ⟨((peak_le (d := d) (l := l)).1 (Int.le_refl _)).1, peak_le.2 ⟨by omega, fun k a hk => ?_⟩⟩
  have := pk1_bd (e := a.t + d) (u := 0) (av_drop hv k)
  have := zsum_drop hv k
  omega
theorem peak_mono {d d' : Int} {l : List Arr} (hv : avL 0 l = true) (hd : d ≤ d') : peak d l ≤ peak d' l := by
  have h := (peak_le (d := d') (l := l)).1 (Int.le_refl _)
  exact peak_le.2 ⟨h.1, fun k a hk => Int.le_trans (pk1_mono (av_drop hv k) (by omega)) (h.2 k a hk)⟩
theorem peak_all {l : List Arr} (hv : avL 0 l = true) : peak 10001 l = zsum l := by
  refine Int.le_antisymm (peak_bd hv).2 ?_
  cases l with
  | nil => exact Int.le_refl _
  | cons a x =>
    have h := ((peak_le (d := 10001) (l := a :: x)).1 (Int.le_refl _)).2 0 a rfl
    have h1 := av_cons.1 hv
    rw [List.drop_zero, pk1_all hv (by omega)] at h
    omega
theorem peak_one {d : Int} {l : List Arr} {k : Nat} {a : Arr} (hd : 1 ≤ d) (hv : avL 0 l = true) (hk : l[k]? = some a) : a.z ≤ peak d l := by
  have h := ((peak_le (d := d) (l := l)).1 (Int.le_refl _)).2 k a hk
  have hv2 := av_drop hv k
  rw [drop_at hk] at h hv2
  have h1 := av_cons.1 hv2
  simp only [pk1] at h
  rw [if_pos (by omega)] at h
  have := pk1_bd (e := a.t + d) (u := 0 + a.z) h1.2.2.2.2
  omega
theorem pre_pk {r w n B d : Int} {l : List Arr} (hr : 0 ≤ r) (hv : avL n l = true) (hB : w ≤ B + r * (d - 1)) (h : Pre r w n B l) : pk1 (n + d) w l ≤ B + r * (d - 1) := by
  induction l generalizing w with
  | nil => exact hB
  | cons a x ih =>
    have h1 := av_cons.1 hv
    simp only [pk1]
    by_cases h3 : a.t < n + d
    · rw [if_pos h3]
      refine ih (av_tail hv) ?_ h.2
      have h4 : r * (a.t - n) ≤ r * (d - 1) := Int.mul_le_mul_of_nonneg_left (by omega) hr
      have := h.1
      omega
    · rw [if_neg h3]
      exact hB
theorem rows_at {r B : Int} {l : List Arr} {k : Nat} {a : Arr} (h : Rows r B l) (hk : l[k]? = some a) : Pre r 0 a.t B (l.drop k) := by
  induction k generalizing l with
  | zero =>
    cases l with
    | nil => simp at hk
    | cons b x =>
      obtain rfl : b = a := by simpa using hk
      exact h.1
  | succ k ih =>
    cases l with
    | nil => simp at hk
    | cons b x => exact ih h.2 (by simpa using hk)
theorem peak_burst {r d : Int} {l : List Arr} (hr : 0 ≤ r) (hd : 1 ≤ d) (hv : avL 0 l = true) : peak d l ≤ mx (back r l) 1 + r * (d - 1) := by
  have h1 := (back_le hr hv).1 (Int.le_refl (back r l))
  have h0 : 0 ≤ r * (d - 1) := Int.mul_nonneg hr (by omega)
  have h2 := mx_l (back r l) 1
  refine peak_le.2 ⟨by omega, fun k a hk => ?_⟩
  have h3 := rows_at h1.2 hk
  have hv2 := av_drop hv k
  have hv3 : avL a.t (l.drop k) = true := by
    rw [drop_at hk] at hv2 ⊢
    exact av_cons.2 ⟨Int.le_refl _, (av_cons.1 hv2).2⟩
  have := pre_pk (d := d) hr hv3 (by omega) h3
  omega
/-! shaping -/
def shp (r s : Int) : Int → Int → List Arr → Option (List Arr)
  | _, _, [] => some []
  | l, t, a :: x =>
    if wtB r s l t (mx a.t t) a.z = true ∧ mx a.t t + wt r s l t (mx a.t t) a.z ≤ 10000 then
      (shp r s (lv r s l t (mx a.t t + wt r s l t (mx a.t t) a.z) - a.z) (mx a.t t + wt r s l t (mx a.t t) a.z) x).map fun y => ⟨mx a.t t + wt r s l t (mx a.t t) a.z, a.z⟩ :: y
    else none
/-- after the wait there are enough -/
theorem shp_lev {r s l t n z : Int} (h : wtB r s l t n z = true) (he : n + wt r s l t n z ≤ 1000000) : rtB r s l t (n + wt r s l t n z) = true ∧ z ≤ lv r s l t (n + wt r s l t n z) ∧ lv r s l t (n + wt r s l t n z) ≤ s := by
  obtain ⟨hr, c0, c1, hc⟩ := wt_of h
  have h1 := wt_bd h
  have h2 := rt_on hr (n + wt r s l t n z) (by omega) he
  have h3 := lv_bd h2
  refine ⟨h2, ?_, h3.2.2⟩
  by_cases hz : z ≤ lv r s l t n
  · rw [h1.2.2.1 hz, Int.add_zero]
    exact hz
  · have h4 := h1.2.2.2 (by omega)
    rw [lv_later hr _ h1.1]
    split <;> omega
/-- what shaping makes -/
structure Shaped (r s l t : Int) (x y : List Arr) : Prop where
  len : y.length = x.length
  val : avL t y = true
  con : cfB r s l t y = true
  ge : ∀ (k : Nat) (a b : Arr), x[k]? = some a → y[k]? = some b → a.t ≤ b.t ∧ a.z = b.z
theorem shp_shaped {r s l t lo : Int} {x y : List Arr} (hb : bvB r s l t = true) (hv : avL lo x = true) (h : shp r s l t x = some y) : Shaped r s l t x y := by
  induction x generalizing l t lo y with
  | nil =>
    obtain rfl : [] = y := by simpa [shp] using h
    exact ⟨rfl, rfl, rfl, fun k a b hk => by simp at hk⟩
  | cons a x ih =>
    have h1 := av_cons.1 hv
    simp only [shp] at h
    split at h
    · rename_i hc
      obtain ⟨y', hy', rfl⟩ := Option.map_eq_some_iff.1 h
      have h2 := wt_bd hc.1
      have h3 := mx_l a.t t
      have h3' := mx_r a.t t
      obtain ⟨h4, h5, h6⟩ := shp_lev hc.1 (by omega)
      generalize hn : mx a.t t + wt r s l t (mx a.t t) a.z = n at *
      have h7 := rt_of h4
      have S := ih (bv_rt h4 (by omega) (by omega)) h1.2.2.2.2 hy'
      refine ⟨by simp [S.len], av_cons.2 ⟨h7.2.2.2.2.2.2.2.1, hc.2, h1.2.2.1, h1.2.2.2.1, S.val⟩, ?_, fun k b c hk hk' => ?_⟩
      · simp only [cfB, Bool.and_eq_true, decide_eq_true_eq]
        exact ⟨h5, S.con⟩
      · cases k with
        | zero =>
          obtain rfl : a = b := by simpa using hk
          obtain rfl : (⟨n, a.z⟩ : Arr) = c := by simpa using hk'
          exact ⟨by show a.t ≤ n; omega, rfl⟩
        | succ k => exact S.ge k b c (by simpa using hk) (by simpa using hk')
    · cases h
/-- what conforms stays -/
theorem shp_same {r s l t : Int} {x : List Arr} (hb : bvB r s l t = true) (hv : avL t x = true) (hc : cfB r s l t x = true) : shp r s l t x = some x := by
  induction x generalizing l t with
  | nil => rfl
  | cons a x ih =>
    have h1 := av_cons.1 hv
    simp only [cfB, Bool.and_eq_true, decide_eq_true_eq] at hc
    have h2 := bv_of hb
    have e : mx a.t t = a.t := by unfold mx; split <;> omega
    have h3 : rtB r s l t a.t = true := rt_mk (by omega)
    have h4 := lv_bd h3
    have h5 : wtB r s l t a.t a.z = true := wt_mk h3 (by omega) (by omega) (.inl hc.1)
    have h6 := (wt_bd h5).2.2.1 hc.1
    simp only [shp]
    rw [e, h6, Int.add_zero, if_pos ⟨h5, h1.2.1⟩, ih (bv_rt h3 (by omega) (by omega)) h1.2.2.2.2 hc.2]
    rfl
def shape (r s : Int) (x : List Arr) : Option (List Arr) := shp r s s 0 x
end Go.Proofs.Ytaccbmgbkalknab
