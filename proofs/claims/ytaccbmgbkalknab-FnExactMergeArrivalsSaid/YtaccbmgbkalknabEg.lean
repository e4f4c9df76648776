/-
  Chapter 10: merging, as lists: insertion from behind, a stable sort, what merging keeps. Conditions: each lemma says them.
-/
import Derived.Test.YtaccbmgbkalknabEm
namespace Go.Proofs.Ytaccbmgbkalknab
open Go.RowKit

/-- into a list in order, behind those that are not later -/
def insA (x : Arr) : List Arr → List Arr
  | [] => [x]
  | y :: r => if x.t < y.t then x :: y :: r else y :: insA x r
/-- one after the other -/
def finA : List Arr → List Arr → List Arr
  | s, [] => s
  | s, x :: l => finA (insA x s) l
theorem insA_len (x : Arr) (l : List Arr) : (insA x l).length = l.length + 1 := by
  induction l with
  | nil => rfl
  | cons y r ih =>
    simp only [insA]
    split <;> simp_all
theorem finA_len (s l : List Arr) : (finA s l).length = s.length + l.length := by
  induction l generalizing s with
  | nil => rfl
  | cons x l ih =>
    simp only [finA, ih, insA_len, List.length_cons]
    omega
theorem finA_append (s a b : List Arr) : finA s (a ++ b) = finA (finA s a) b := by
  induction a generalizing s with
  | nil => rfl
  | cons x a ih => exact ih _
/-- where one goes -/
theorem insA_at {x : Arr} {A B : List Arr} (hA : ∀ z ∈ A, z.t ≤ x.t) (hB : ∀ z ∈ B, x.t < z.t) : insA x (A ++ B) = A ++ x :: B := by
  induction A with
  | nil =>
    cases B with
    | nil => rfl
    | cons z r =>
      have := hB z (by simp)
      simp only [List.nil_append, insA]
      rw [if_pos this]
  | cons y r ih =>
    have := hA y (by simp)
    simp only [List.cons_append, insA]
    rw [if_neg (by omega), ih fun z hz => hA z (by simp [hz])]
theorem insA_val {lo : Int} {x : Arr} {l : List Arr} (hl : avL lo l = true) (h : lo ≤ x.t ∧ x.t ≤ 10000 ∧ 1 ≤ x.z ∧ x.z ≤ 100) : avL lo (insA x l) = true := by
  induction l generalizing lo with
  | nil => exact av_cons.2 ⟨h.1, h.2.1, h.2.2.1, h.2.2.2, rfl⟩
  | cons y r ih =>
    have h1 := av_cons.1 hl
    simp only [insA]
    by_cases hc : x.t < y.t
    · rw [if_pos hc]
      exact av_cons.2 ⟨h.1, h.2.1, h.2.2.1, h.2.2.2, av_cons.2 ⟨by omega, h1.2⟩⟩
    · rw [if_neg hc]
      exact av_cons.2 ⟨h1.1, h1.2.1, h1.2.2.1, h1.2.2.2.1, ih h1.2.2.2.2 ⟨by omega, h.2⟩⟩
theorem finA_val {lo lo' : Int} {s l : List Arr} (hs : avL lo s = true) (hl : avL lo' l = true) (hle : lo ≤ lo') : avL lo (finA s l) = true := by
  induction l generalizing s lo' with
  | nil => exact hs
  | cons x l ih =>
    have h1 := av_cons.1 hl
    exact ih (insA_val hs ⟨by omega, h1.2.1, h1.2.2.1, h1.2.2.2.1⟩) h1.2.2.2.2 (by omega)
theorem finA_head {a : Arr} {s l : List Arr} {lo : Int} (hl : avL lo l = true) (h : a.t ≤ lo) : finA (a :: s) l = a :: finA s l := by
  induction l generalizing s lo with
  | nil => rfl
  | cons x l ih =>
    have h1 := av_cons.1 hl
    simp only [finA, insA]
    rw [if_neg (by omega)]
    exact ih h1.2.2.2.2 (by omega)
theorem finA_nil {lo : Int} {l : List Arr} (hl : avL lo l = true) : finA [] l = l := by
  induction l generalizing lo with
  | nil => rfl
  | cons x l ih =>
    have h1 := av_cons.1 hl
    simp only [finA, insA]
    rw [finA_head h1.2.2.2.2 (Int.le_refl _), ih h1.2.2.2.2]
theorem finA_le {a b : Arr} {x y : List Arr} {lo : Int} (hy : avL lo (b :: y) = true) (h : a.t ≤ b.t) : finA (a :: x) (b :: y) = a :: finA x (b :: y) :=
  finA_head (av_cons.2 ⟨Int.le_refl _, (av_cons.1 hy).2⟩) h
theorem finA_gt {a b : Arr} {x y : List Arr} {lo : Int} (hy : avL lo (b :: y) = true) (h : b.t < a.t) : finA (a :: x) (b :: y) = b :: finA (a :: x) y := by
  have h1 := av_cons.1 hy
  simp only [finA, insA]
  rw [if_pos h, finA_head h1.2.2.2.2 (Int.le_refl _)]
/-- the program's sort of two lists in order, one behind the other, is their merge -/
theorem sort_two {a b : List Arr} (ha : avL 0 a = true) : finA [] (a ++ b) = finA a b := by
  rw [finA_append, finA_nil ha]
theorem zsum_ins (x : Arr) (l : List Arr) : zsum (insA x l) = x.z + zsum l := by
  induction l with
  | nil => simp [insA, zsum]
  | cons y r ih =>
    simp only [insA]
    split <;> simp only [zsum, ih] <;> omega
/-! envelopes add up -/
theorem pre_two {r1 r2 w1 w2 n c B1 B2 : Int} {x y : List Arr} (hr1 : 0 ≤ r1) (hr2 : 0 ≤ r2) (hn : n ≤ c) (hx : avL c x = true) (hy : avL c y = true) (h1 : w1 - r1 * (c - n) ≤ B1) (h2 : w2 - r2 * (c - n) ≤ B2)
    (p1 : Pre r1 w1 n B1 x) (p2 : Pre r2 w2 n B2 y) : Pre (r1 + r2) (w1 + w2) n (B1 + B2) (finA x y) := by
  have step1 : ∀ (t : Int), c ≤ t → w1 - r1 * (t - n) ≤ B1 := fun t ht => by
    have : r1 * (c - n) ≤ r1 * (t - n) := Int.mul_le_mul_of_nonneg_left (by omega) hr1
    omega
  have step2 : ∀ (t : Int), c ≤ t → w2 - r2 * (t - n) ≤ B2 := fun t ht => by
    have : r2 * (c - n) ≤ r2 * (t - n) := Int.mul_le_mul_of_nonneg_left (by omega) hr2
    omega
  obtain ⟨k, hk⟩ : ∃ k, k = x.length + y.length := ⟨_, rfl⟩
  induction k generalizing x y w1 w2 c with
  | zero =>
    cases x with
    | nil =>
      cases y with
      | nil => trivial
      | cons b y => simp at hk
    | cons a x => simp at hk; omega
  | succ k ih =>
    have takeX : ∀ (a : Arr) (x' : List Arr), x = a :: x' → avL a.t y = true → finA x y = a :: finA x' y → Pre (r1 + r2) (w1 + w2) n (B1 + B2) (finA x y) := by
      intro a x' e hy' ef
      subst e
      have hx1 := av_cons.1 hx
      rw [ef]
      have q1 := p1.1
      have q2 := step2 a.t hx1.1
      have e3 := Int.add_mul r1 r2 (a.t - n)
      refine ⟨by omega, ?_⟩
      have := ih (w1 := w1 + a.z) (w2 := w2) (c := a.t) (x := x') (y := y) (by omega) hx1.2.2.2.2 hy' q1 q2 p1.2 p2
        (fun t ht => by
          have : r1 * (a.t - n) ≤ r1 * (t - n) := Int.mul_le_mul_of_nonneg_left (by omega) hr1
          omega)
        (fun t ht => by
          have : r2 * (a.t - n) ≤ r2 * (t - n) := Int.mul_le_mul_of_nonneg_left (by omega) hr2
          omega) (by simp only [List.length_cons] at hk; omega)
      rw [show w1 + w2 + a.z = w1 + a.z + w2 by omega]
      exact this
    have takeY : ∀ (b : Arr) (y' : List Arr), y = b :: y' → avL b.t x = true → finA x y = b :: finA x y' → Pre (r1 + r2) (w1 + w2) n (B1 + B2) (finA x y) := by
      intro b y' e hx' ef
      subst e
      have hy1 := av_cons.1 hy
      rw [ef]
      have q1 := step1 b.t hy1.1
      have q2 := p2.1
      have e3 := Int.add_mul r1 r2 (b.t - n)
      refine ⟨by omega, ?_⟩
      have := ih (w1 := w1) (w2 := w2 + b.z) (c := b.t) (x := x) (y := y') (by omega) hx' hy1.2.2.2.2 q1 q2 p1 p2.2
        (fun t ht => by
          have : r1 * (b.t - n) ≤ r1 * (t - n) := Int.mul_le_mul_of_nonneg_left (by omega) hr1
          omega)
        (fun t ht => by
          have : r2 * (b.t - n) ≤ r2 * (t - n) := Int.mul_le_mul_of_nonneg_left (by omega) hr2
          omega) (by simp only [List.length_cons] at hk; omega)
      rw [show w1 + w2 + b.z = w1 + (w2 + b.z) by omega]
      exact this
    cases x with
    | nil =>
      cases y with
      | nil => trivial
      | cons b y => exact takeY b y rfl rfl (by rw [finA_nil hy, finA_nil (av_tail hy)])
    | cons a x =>
      cases y with
      | nil => exact takeX a x rfl rfl rfl
      | cons b y =>
        rcases Int.lt_or_le b.t a.t with hlt | hle
        · exact takeY b y rfl (av_cons.2 ⟨by omega, (av_cons.1 hx).2⟩) (finA_gt hy hlt)
        · exact takeX a x rfl (av_cons.2 ⟨hle, (av_cons.1 hy).2⟩) (finA_le hy hle)
theorem pre_start {r t B : Int} {l : List Arr} (hr : 0 ≤ r) (hv : avL t l = true) (h : Rows r B l) : Pre r 0 t B l := by
  cases l with
  | nil => trivial
  | cons a x =>
    have h1 := av_cons.1 hv
    have h2 : 0 ≤ r * (a.t - t) := Int.mul_nonneg hr (by omega)
    rw [pre_shift r 0 t a.t]
    exact pre_mono (by omega) h.1
theorem rows_two {r1 r2 B1 B2 c : Int} {x y : List Arr} (hr1 : 0 ≤ r1) (hr2 : 0 ≤ r2) (hb1 : 0 ≤ B1) (hb2 : 0 ≤ B2) (hx : avL c x = true) (hy : avL c y = true) (p1 : Rows r1 B1 x) (p2 : Rows r2 B2 y) :
    Rows (r1 + r2) (B1 + B2) (finA x y) := by
  obtain ⟨k, hk⟩ : ∃ k, k = x.length + y.length := ⟨_, rfl⟩
  induction k generalizing x y c with
  | zero =>
    cases x with
    | nil =>
      cases y with
      | nil => trivial
      | cons b y => simp at hk
    | cons a x => simp at hk; omega
  | succ k ih =>
    have start : ∀ (t : Int), avL t x = true → avL t y = true → Pre (r1 + r2) 0 t (B1 + B2) (finA x y) := fun t h1 h2 => by
      have := pre_two (w1 := 0) (w2 := 0) (n := t) (c := t) hr1 hr2 (Int.le_refl _) h1 h2 (by rw [Int.sub_self, Int.mul_zero]; omega) (by rw [Int.sub_self, Int.mul_zero]; omega) (pre_start hr1 h1 p1) (pre_start hr2 h2 p2)
      rwa [Int.add_zero] at this
    have takeX : ∀ (a : Arr) (x' : List Arr), x = a :: x' → avL a.t y = true → finA x y = a :: finA x' y → Rows (r1 + r2) (B1 + B2) (finA x y) := by
      intro a x' e hy' ef
      subst e
      have hx1 := av_cons.1 hx
      have s := start a.t (av_cons.2 ⟨Int.le_refl _, hx1.2⟩) hy'
      rw [ef] at s ⊢
      exact ⟨s, ih hx1.2.2.2.2 hy' p1.2 p2 (by simp only [List.length_cons] at hk; omega)⟩
    have takeY : ∀ (b : Arr) (y' : List Arr), y = b :: y' → avL b.t x = true → finA x y = b :: finA x y' → Rows (r1 + r2) (B1 + B2) (finA x y) := by
      intro b y' e hx' ef
      subst e
      have hy1 := av_cons.1 hy
      have s := start b.t hx' (av_cons.2 ⟨Int.le_refl _, hy1.2⟩)
      rw [ef] at s ⊢
      exact ⟨s, ih hx' hy1.2.2.2.2 p1 p2.2 (by simp only [List.length_cons] at hk; omega)⟩
    cases x with
    | nil =>
      cases y with
      | nil => trivial
      | cons b y => exact takeY b y rfl rfl (by rw [finA_nil hy, finA_nil (av_tail hy)])
    | cons a x =>
      cases y with
      | nil => exact takeX a x rfl rfl rfl
      | cons b y =>
        rcases Int.lt_or_le b.t a.t with hlt | hle
        · exact takeY b y rfl (av_cons.2 ⟨by omega, (av_cons.1 hx).2⟩) (finA_gt hy hlt)
        · exact takeX a x rfl (av_cons.2 ⟨hle, (av_cons.1 hy).2⟩) (finA_le hy hle)
theorem back_two {a b : List Arr} (ha : avL 0 a = true) (hb : avL 0 b = true) {r1 r2 : Int} (hr1 : 0 ≤ r1) (hr2 : 0 ≤ r2) : back (r1 + r2) (finA a b) ≤ back r1 a + back r2 b := by
  have h1 := (back_le hr1 ha).1 (Int.le_refl (back r1 a))
  have h2 := (back_le hr2 hb).1 (Int.le_refl (back r2 b))
  exact (back_le (by omega) (finA_val ha hb (Int.le_refl _))).2 ⟨by omega, rows_two hr1 hr2 h1.1 h2.1 ha hb h1.2 h2.2⟩
/-! merging is symmetric: neighbours of one time may change places -/
inductive Swp : List Arr → List Arr → Prop
  | refl (l : List Arr) : Swp l l
  | cons (a : Arr) {l l' : List Arr} : Swp l l' → Swp (a :: l) (a :: l')
  | swap (a b : Arr) (l : List Arr) : a.t = b.t → Swp (a :: b :: l) (b :: a :: l)
  | trans {l l' l'' : List Arr} : Swp l l' → Swp l' l'' → Swp l l''
theorem swp_two {c : Int} {x y : List Arr} (hx : avL c x = true) (hy : avL c y = true) : Swp (finA x y) (finA y x) := by
  obtain ⟨k, hk⟩ : ∃ k, k = x.length + y.length := ⟨_, rfl⟩
  induction k using Nat.strongRecOn generalizing x y c with
  | _ k ih =>
    cases x with
    | nil => rw [finA_nil hy]; exact .refl _
    | cons a x =>
      cases y with
      | nil => rw [finA_nil hx]; exact .refl _
      | cons b y =>
        have hx1 := av_cons.1 hx
        have hy1 := av_cons.1 hy
        simp only [List.length_cons] at hk
        rcases Int.lt_trichotomy a.t b.t with h | h | h
        · rw [finA_le hy (by omega), finA_gt hx h]
          exact .cons a (ih _ (by simp only [List.length_cons]; omega) (c := a.t) hx1.2.2.2.2 (av_cons.2 ⟨by omega, hy1.2⟩) rfl)
        · have e1 : finA (a :: x) (b :: y) = a :: finA x (b :: y) := finA_le hy (by omega)
          have e2 : finA (b :: y) (a :: x) = b :: finA y (a :: x) := finA_le hx (by omega)
          have i1 : Swp (finA x (b :: y)) (finA (b :: y) x) := ih _ (by simp only [List.length_cons]; omega) (c := a.t) hx1.2.2.2.2 (av_cons.2 ⟨by omega, hy1.2⟩) rfl
          have i2 : Swp (finA (a :: x) y) (finA y (a :: x)) := ih _ (by simp only [List.length_cons]; omega) (c := b.t) (av_cons.2 ⟨by omega, hx1.2⟩) hy1.2.2.2.2 rfl
          have e3 : finA (b :: y) x = b :: finA y x := finA_head hx1.2.2.2.2 (by omega)
          have e4 : finA (a :: x) y = a :: finA x y := finA_head hy1.2.2.2.2 (by omega)
          have i3 : Swp (finA y x) (finA x y) := ih _ (by omega) (c := a.t) (by rw [h]; exact hy1.2.2.2.2) hx1.2.2.2.2 rfl
          rw [e3] at i1
          rw [e4] at i2
          rw [e1, e2]
          exact .trans (.cons a i1) (.trans (.swap a b _ h) (.cons b (.trans (.cons a i3) i2)))
        · rw [finA_gt hy h, finA_le hx (by omega)]
          exact .cons b (ih _ (by simp only [List.length_cons]; omega) (c := b.t) (av_cons.2 ⟨by omega, hx1.2⟩) hy1.2.2.2.2 rfl)
theorem swp_val {l l' : List Arr} (h : Swp l l') : ∀ lo, avL lo l = avL lo l' := by
  induction h with
  | refl l => exact fun _ => rfl
  | cons a _ ih => intro lo; simp only [avL, ih]
  | swap a b l e =>
    intro lo
    rw [Bool.eq_iff_iff, av_cons, av_cons, av_cons, av_cons]
    constructor
    · rintro ⟨h1, h2, h3, h4, h5, h6, h7, h8, h9⟩
      exact ⟨by omega, h6, h7, h8, by omega, h2, h3, h4, by rw [e]; exact h9⟩
    · rintro ⟨h1, h2, h3, h4, h5, h6, h7, h8, h9⟩
      exact ⟨by omega, h6, h7, h8, by omega, h2, h3, h4, by rw [← e]; exact h9⟩
  | trans _ _ i1 i2 => exact fun lo => (i1 lo).trans (i2 lo)
theorem swp_len {l l' : List Arr} (h : Swp l l') : l.length = l'.length := by
  induction h with
  | refl l => rfl
  | cons a _ ih => simp [ih]
  | swap a b l e => rfl
  | trans _ _ i1 i2 => exact i1.trans i2
theorem swp_sum {l l' : List Arr} (h : Swp l l') : zsum l = zsum l' := by
  induction h with
  | refl l => rfl
  | cons a _ ih => simp [zsum, ih]
  | swap a b l e => simp only [zsum]; omega
  | trans _ _ i1 i2 => exact i1.trans i2
theorem swp_mbl {r : Int} {l l' : List Arr} (h : Swp l l') : ∀ {lo w n m : Int}, avL lo l = true → mbl r w n m l = mbl r w n m l' := by
  induction h with
  | refl l => intros; rfl
  | cons a _ ih =>
    intro lo w n m hv
    simp only [mbl]
    exact ih (av_cons.1 hv).2.2.2.2
  | swap a b l e =>
    intro lo w n m hv
    have h1 := av_cons.1 hv
    have h2 := av_cons.1 h1.2.2.2.2
    have e1 : nxt r (nxt r w n a) a.t b = nxt r (nxt r w n b) b.t a := by
      unfold nxt
      rw [e, Int.sub_self, Int.mul_zero]
      unfold mx
      repeat' split
      all_goals omega
    have e2 : mx (mx m (nxt r w n a)) (nxt r (nxt r w n a) a.t b) = mx (mx m (nxt r w n b)) (nxt r (nxt r w n b) b.t a) := by
      unfold nxt
      rw [e, Int.sub_self, Int.mul_zero]
      unfold mx
      repeat' split
      all_goals omega
    simp only [mbl]
    rw [e2, e1, e]
  | trans h1 _ i1 i2 =>
    intro lo w n m hv
    exact (i1 hv).trans (i2 (by rw [← swp_val h1]; exact hv))
theorem swp_pk1 {e : Int} {l l' : List Arr} (h : Swp l l') : ∀ {u : Int}, pk1 e u l = pk1 e u l' := by
  induction h with
  | refl l => intros; rfl
  | cons a _ ih =>
    intro u
    simp only [pk1, ih]
  | swap a b l ht =>
    intro u
    simp only [pk1]
    rw [ht]
    by_cases hc : b.t < e
    · rw [if_pos hc, if_pos hc, if_pos hc, if_pos hc, show u + a.z + b.z = u + b.z + a.z by omega]
    · rw [if_neg hc, if_neg hc]
  | trans _ _ i1 i2 => intro u; exact i1.trans i2
theorem swp_pkS {d : Int} (hd : 1 ≤ d) {l l' : List Arr} (h : Swp l l') : ∀ {lo m : Int}, avL lo l = true → pkS d m l = pkS d m l' := by
  induction h with
  | refl l => intros; rfl
  | cons a h ih =>
    intro lo m hv
    simp only [pkS]
    rw [swp_pk1 (.cons a h)]
    exact ih (av_cons.1 hv).2.2.2.2
  | swap a b l e =>
    intro lo m hv
    have h1 := av_cons.1 hv
    have h2 := av_cons.1 h1.2.2.2.2
    simp only [pkS, pk1]
    rw [e, if_pos (by omega), if_pos (by omega), if_pos (by omega), if_pos (by omega)]
    congr 1
    rw [show (0 : Int) + b.z + a.z = 0 + a.z + b.z by omega]
    have q1 : ∀ (u v : Int), u ≤ v → pk1 (b.t + d) u l ≤ pk1 (b.t + d) v l := by
      clear hv h1 h2
      intro u v huv
      induction l generalizing u v with
      | nil => exact huv
      | cons c l ih =>
        simp only [pk1]
        split
        · exact ih _ _ (by omega)
        · exact huv
    have q2 := q1 (0 + b.z) (0 + a.z + b.z) (by omega)
    have q3 := q1 (0 + a.z) (0 + a.z + b.z) (by omega)
    generalize pk1 (b.t + d) (0 + a.z + b.z) l = X at *
    generalize pk1 (b.t + d) (0 + b.z) l = Y at *
    generalize pk1 (b.t + d) (0 + a.z) l = Z at *
    unfold mx
    repeat' split
    all_goals omega
  | trans h1 _ i1 i2 =>
    intro lo m hv
    exact (i1 hv).trans (i2 (by rw [← swp_val h1]; exact hv))
end Go.Proofs.Ytaccbmgbkalknab
