/-
  Chapter 11: counts of decisions, bytes of peers, fairness, the top: plain mathematics. Conditions: each lemma says them.
-/
import Derived.Test.YtaccbmgbkalknabDoorAm
import Derived.Test.YtaccbmgbkalknabDoorC1
import Derived.Test.YtaccbmgbkalknabDoorC1b
namespace Go.Proofs.YtaccbmgbkalknabDoor
open Go.RowKit

/-! decisions -/
def cntI (d : Int) : List Int → Int
  | [] => 0
  | x :: r => (if x = d then 1 else 0) + cntI d r
theorem cntI_append (d : Int) (a b : List Int) : cntI d (a ++ b) = cntI d a + cntI d b := by
  induction a with
  | nil => simp [cntI]
  | cons x r ih => simp only [List.cons_append, cntI, ih]; omega
theorem cntI_bd (d : Int) (l : List Int) : 0 ≤ cntI d l ∧ cntI d l ≤ l.length := by
  induction l with
  | nil => simp [cntI]
  | cons x r ih => simp only [cntI, List.length_cons]; split <;> omega
def cdL (xs : List Int) : List Int := [cntI 0 xs, cntI 1 xs, cntI 2 xs, cntI 3 xs, cntI 4 xs, cntI 5 xs]
theorem cd_nil : cdL [] = List.replicate 6 0 := rfl
theorem cd_get {xs : List Int} {d : Nat} (h : d < 6) : (cdL xs)[d]? = some (cntI d xs) := by
  rcases d with _ | _ | _ | _ | _ | _ | d
  all_goals first | rfl | omega
theorem cd_snoc {xs : List Int} {x : Int} (h : 1 ≤ x ∧ x ≤ 5) : (cdL xs).set x.toNat (cntI x xs + 1) = cdL (xs ++ [x]) := by
  have h1 : x = 1 ∨ x = 2 ∨ x = 3 ∨ x = 4 ∨ x = 5 := by omega
  rcases h1 with rfl | rfl | rfl | rfl | rfl <;> simp [cdL, cntI_append, cntI]
theorem cd_append {a b : List Int} {d : Nat} (h : d < 6) : ∃ x y z, (cdL a)[d]? = some x ∧ (cdL b)[d]? = some y ∧ (cdL (a ++ b))[d]? = some z ∧ x + y = z ∧ 0 ≤ x ∧ x ≤ a.length ∧ 0 ≤ y ∧ y ≤ b.length :=
  ⟨_, _, _, cd_get h, cd_get h, cd_get h, (cntI_append _ _ _).symm, (cntI_bd _ _).1, (cntI_bd _ _).2, (cntI_bd _ _).1, (cntI_bd _ _).2⟩
def decB (xs : List Int) : Bool := xs.all (fun x => decide (1 ≤ x ∧ x ≤ 5))
theorem dec_of {xs : List Int} (h : decB xs = true) : ∀ x ∈ xs, 1 ≤ x ∧ x ≤ 5 := by simpa [decB, List.all_eq_true] using h
theorem dec_mk {xs : List Int} (h : ∀ x ∈ xs, 1 ≤ x ∧ x ≤ 5) : decB xs = true := by simpa [decB, List.all_eq_true] using h
theorem cd_sum {xs : List Int} (h : decB xs = true) : sumL (cdL xs) = xs.length ∧ cntI 0 xs = 0 := by
  induction xs with
  | nil => exact ⟨rfl, rfl⟩
  | cons x r ih =>
    have h1 := dec_of h x (List.mem_cons_self ..)
    have h2 := ih (dec_mk fun y hy => dec_of h y (List.mem_cons_of_mem _ hy))
    have h3 : x = 1 ∨ x = 2 ∨ x = 3 ∨ x = 4 ∨ x = 5 := by omega
    simp only [cdL, sumL, cntI, List.length_cons] at h2 ⊢
    rcases h3 with rfl | rfl | rfl | rfl | rfl <;> simp <;> omega
theorem dec_app {a b : List Int} (h : decB (a ++ b) = true) : decB a = true ∧ decB b = true := by
  simpa [decB] using h
/-! bytes of peers -/
def bsz (d : Int) : List Pkt → Int
  | [] => 0
  | p :: r => (if p.peer = d then p.size else 0) + bsz d r
theorem bsz_of (d : Int) (ps : List Pkt) : sizeSum (ofPeer ps d) = bsz d ps := by
  induction ps with
  | nil => rfl
  | cons p r ih =>
    unfold ofPeer at ih ⊢
    simp only [List.filter_cons, bsz]
    by_cases h : p.peer = d
    · rw [if_pos (by simp [h]), if_pos h, sizeSum, ih]
    · rw [if_neg (by simp [h]), if_neg h, ih]; omega
theorem bsz_append (d : Int) (a b : List Pkt) : bsz d (a ++ b) = bsz d a + bsz d b := by
  induction a with
  | nil => simp [bsz]
  | cons x r ih => simp only [List.cons_append, bsz, ih]; omega
theorem vld_sz {p : Pkt} (h : vldB p = true) : (0 ≤ p.peer ∧ p.peer ≤ 7) ∧ 1 ≤ p.size ∧ p.size ≤ 100 := by
  simp only [vldB, decide_eq_true_eq] at h; omega
theorem bsz_bd {d : Int} {ps : List Pkt} (h : ps.all vldB = true) : 0 ≤ bsz d ps ∧ bsz d ps ≤ 100 * ps.length := by
  induction ps with
  | nil => simp [bsz]
  | cons p r ih =>
    simp only [List.all_cons, Bool.and_eq_true] at h
    have h1 := ih h.2
    have h2 := vld_sz h.1
    simp only [bsz, List.length_cons]
    split <;> omega
def bsL (ps : List Pkt) : List Int := [bsz 0 ps, bsz 1 ps, bsz 2 ps, bsz 3 ps, bsz 4 ps, bsz 5 ps, bsz 6 ps, bsz 7 ps]
theorem bs_nil : bsL [] = List.replicate 8 0 := rfl
theorem bs_get {ps : List Pkt} {d : Nat} (h : d < 8) : (bsL ps)[d]? = some (bsz d ps) := by
  rcases d with _ | _ | _ | _ | _ | _ | _ | _ | d
  all_goals first | rfl | omega
theorem bs_snoc {ps : List Pkt} {p : Pkt} (h : 0 ≤ p.peer ∧ p.peer ≤ 7) : (bsL ps).set p.peer.toNat (bsz p.peer ps + p.size) = bsL (ps ++ [p]) := by
  have h1 : p.peer = 0 ∨ p.peer = 1 ∨ p.peer = 2 ∨ p.peer = 3 ∨ p.peer = 4 ∨ p.peer = 5 ∨ p.peer = 6 ∨ p.peer = 7 := by omega
  rcases h1 with e | e | e | e | e | e | e | e <;> simp [bsL, bsz_append, bsz, e]
theorem bs_take {ps : List Pkt} {i : Nat} (h : i < 8) : (bsL ps).take (i + 1) = (bsL ps).take i ++ [sizeSum (ofPeer ps (i : Int))] := by
  rw [List.take_add_one, bs_get h, bsz_of]; rfl
theorem bs_append {a b : List Pkt} {d : Nat} (h : d < 8) : ∃ x y z, (bsL a)[d]? = some x ∧ (bsL b)[d]? = some y ∧ (bsL (a ++ b))[d]? = some z ∧ x + y = z :=
  ⟨_, _, _, bs_get h, bs_get h, bs_get h, (bsz_append _ _ _).symm⟩
theorem bs_sum {ps : List Pkt} (h : ps.all vldB = true) : sumL (bsL ps) = sizeSum ps := by
  induction ps with
  | nil => rfl
  | cons p r ih =>
    simp only [List.all_cons, Bool.and_eq_true] at h
    have h1 := ih h.2
    have h2 := vld_sz h.1
    have h3 : p.peer = 0 ∨ p.peer = 1 ∨ p.peer = 2 ∨ p.peer = 3 ∨ p.peer = 4 ∨ p.peer = 5 ∨ p.peer = 6 ∨ p.peer = 7 := by omega
    simp only [bsL, sumL, bsz, sizeSum] at h1 ⊢
    rcases h3 with e | e | e | e | e | e | e | e <;> simp [e] <;> omega
def bpB (ps : List Pkt) : Bool := decide (ps.length ≤ 1000) && ps.all vldB
theorem bp_of {ps : List Pkt} (h : bpB ps = true) : ps.length ≤ 1000 ∧ ps.all vldB = true := by
  simpa [bpB] using h
/-! the top -/
/-- behind those that have no less -/
def insT (f : Int → Int) (x : Int) : List Int → List Int
  | [] => [x]
  | y :: r => if f y < f x then x :: y :: r else y :: insT f x r
def finT (f : Int → Int) : List Int → List Int → List Int
  | s, [] => s
  | s, x :: l => finT f (insT f x s) l
theorem insT_len (f : Int → Int) (x : Int) (l : List Int) : (insT f x l).length = l.length + 1 := by
  induction l with
  | nil => rfl
  | cons y r ih => simp only [insT]; split <;> simp_all
theorem finT_len (f : Int → Int) (s l : List Int) : (finT f s l).length = s.length + l.length := by
  induction l generalizing s with
  | nil => rfl
  | cons x l ih => simp only [finT, ih, insT_len, List.length_cons]; omega
theorem finT_append (f : Int → Int) (s a b : List Int) : finT f s (a ++ b) = finT f (finT f s a) b := by
  induction a generalizing s with
  | nil => rfl
  | cons x a ih => exact ih _
theorem take_finT {f : Int → Int} {l : List Int} {i : Nat} {x : Int} (h : l[i]? = some x) : finT f [] (l.take (i + 1)) = insT f x (finT f [] (l.take i)) := by
  rw [List.take_add_one, h, finT_append]; rfl
/-- in order -/
def Desc (f : Int → Int) : List Int → Prop
  | [] => True
  | x :: r => (∀ y ∈ r, f y ≤ f x) ∧ Desc f r
theorem insT_mem {f : Int → Int} {x z : Int} {l : List Int} : z ∈ insT f x l ↔ z = x ∨ z ∈ l := by
  induction l with
  | nil => simp [insT]
  | cons y r ih =>
    simp only [insT]
    split
    · simp
    · simp only [List.mem_cons, ih]
      constructor
      · rintro (h | h | h)
        · exact .inr (.inl h)
        · exact .inl h
        · exact .inr (.inr h)
      · rintro (h | h | h)
        · exact .inr (.inl h)
        · exact .inl h
        · exact .inr (.inr h)
theorem insT_desc {f : Int → Int} {x : Int} {l : List Int} (h : Desc f l) : Desc f (insT f x l) := by
  induction l with
  | nil => exact ⟨fun y hy => (by cases hy), trivial⟩
  | cons y r ih =>
    simp only [insT]
    split
    · rename_i hlt
      refine ⟨fun z hz => ?_, h⟩
      rcases List.mem_cons.1 hz with e | e
      · subst e; omega
      · have := h.1 z e; omega
    · rename_i hge
      refine ⟨fun z hz => ?_, ih h.2⟩
      rcases insT_mem.1 hz with e | e
      · subst e; omega
      · exact h.1 z e
theorem finT_mem {f : Int → Int} {z : Int} {s l : List Int} : z ∈ finT f s l ↔ z ∈ s ∨ z ∈ l := by
  induction l generalizing s with
  | nil => simp [finT]
  | cons x l ih =>
    simp only [finT, ih, insT_mem, List.mem_cons]
    constructor
    · rintro ((h | h) | h)
      · exact .inr (.inl h)
      · exact .inl h
      · exact .inr (.inr h)
    · rintro (h | h | h)
      · exact .inl (.inr h)
      · exact .inl (.inl h)
      · exact .inr h
theorem finT_desc {f : Int → Int} {s l : List Int} (h : Desc f s) : Desc f (finT f s l) := by
  induction l generalizing s with
  | nil => exact h
  | cons x l ih => exact ih (insT_desc h)
theorem insT_nodup {f : Int → Int} {x : Int} {l : List Int} (h : l.Nodup) (hx : ¬ x ∈ l) : (insT f x l).Nodup := by
  induction l with
  | nil => simp [insT]
  | cons y r ih =>
    simp only [insT]
    split
    · exact List.nodup_cons.2 ⟨hx, h⟩
    · have h1 := List.nodup_cons.1 h
      simp only [List.mem_cons, not_or] at hx
      refine List.nodup_cons.2 ⟨fun hz => ?_, ih h1.2 hx.2⟩
      rcases insT_mem.1 hz with e | e
      · exact hx.1 e.symm
      · exact h1.1 e
theorem finT_nodup {f : Int → Int} {s l : List Int} (h : (s ++ l).Nodup) : (finT f s l).Nodup := by
  induction l generalizing s with
  | nil => simpa [finT] using h
  | cons x l ih =>
    have h1 := List.nodup_append.1 h
    have h3 := List.nodup_cons.1 h1.2.1
    have hxs : ¬ x ∈ s := fun hh => h1.2.2 x hh x (by simp) rfl
    refine ih (List.nodup_append.2 ⟨insT_nodup h1.1 hxs, h3.2, fun a ha b hb => ?_⟩)
    rcases insT_mem.1 ha with e | e
    · subst e; rintro rfl; exact h3.1 hb
    · exact h1.2.2 a e b (by simp [hb])
/-- where one goes -/
theorem insT_at {f : Int → Int} {x : Int} {A B : List Int} (hA : ∀ z ∈ A, f x ≤ f z) (hB : ∀ z ∈ B, f z < f x) : insT f x (A ++ B) = A ++ x :: B := by
  induction A with
  | nil =>
    cases B with
    | nil => rfl
    | cons z r =>
      have := hB z (by simp)
      simp only [List.nil_append, insT]
      rw [if_pos this]
  | cons y r ih =>
    have := hA y (by simp)
    simp only [List.cons_append, insT]
    rw [if_neg (by omega), ih fun z hz => hA z (by simp [hz])]
theorem ge_last {f : Int → Int} {A B : List Int} {y : Int} (h : Desc f (A ++ [y] ++ B)) : ∀ z ∈ A ++ [y], f y ≤ f z := by
  induction A with
  | nil =>
    intro z hz
    obtain rfl : z = y := by simpa using hz
    exact Int.le_refl _
  | cons a A ih =>
    have h1 : (∀ z ∈ A ++ [y] ++ B, f z ≤ f a) ∧ Desc f (A ++ [y] ++ B) := h
    intro z hz
    rcases List.mem_cons.1 hz with e | e
    · subst e; exact h1.1 y (by simp)
    · exact ih h1.2 z e
def keyOf (bs : List Int) (i : Int) : Int := bs[i.toNat]?.getD 0
def plcs (n : Nat) : List Int := (List.range n).map (fun (k : Nat) => (k : Int))
def topL (bs : List Int) : List Int := finT (keyOf bs) [] (plcs bs.length)
theorem plcs_len (n : Nat) : (plcs n).length = n := by simp [plcs]
theorem plcs_get {n k : Nat} (h : k < n) : (plcs n)[k]? = some (k : Int) := by simp [plcs, h]
theorem plcs_take {n k : Nat} (h : k ≤ n) : (plcs n).take k = plcs k := by
  rw [plcs, ← List.map_take, List.take_range, Nat.min_eq_left h]; rfl
theorem plcs_succ (k : Nat) : plcs (k + 1) = plcs k ++ [(k : Int)] := by simp [plcs, List.range_succ]
theorem plcs_mem {n : Nat} {z : Int} (h : z ∈ plcs n) : 0 ≤ z ∧ z < n := by
  simp only [plcs, List.mem_map, List.mem_range] at h
  obtain ⟨k, hk, rfl⟩ := h
  omega
theorem mem_plcs {n : Nat} {z : Int} (h : 0 ≤ z ∧ z < n) : z ∈ plcs n := by
  simp only [plcs, List.mem_map, List.mem_range]
  exact ⟨z.toNat, by omega, by omega⟩
theorem plcs_nodup (n : Nat) : (plcs n).Nodup := by
  induction n with
  | zero => simp [plcs]
  | succ k ih =>
    rw [plcs_succ]
    refine List.nodup_append.2 ⟨ih, by simp, fun a ha b hb => ?_⟩
    have := plcs_mem ha
    simp at hb
    omega
theorem top_len (bs : List Int) : (topL bs).length = bs.length := by rw [topL, finT_len, plcs_len]; simp
theorem top_mem {bs : List Int} {z : Int} : z ∈ topL bs ↔ 0 ≤ z ∧ z < bs.length := by
  rw [topL, finT_mem]
  constructor
  · rintro (h | h)
    · cases h
    · exact plcs_mem h
  · exact fun h => .inr (mem_plcs h)
theorem top_desc (bs : List Int) : Desc (keyOf bs) (topL bs) := finT_desc trivial
theorem top_nodup (bs : List Int) : (topL bs).Nodup := finT_nodup (by simpa using plcs_nodup _)
theorem key_at {bs : List Int} {k : Nat} {b : Int} (h : bs[k]? = some b) : keyOf bs (k : Int) = b := by simp [keyOf, h]
theorem desc_le {f : Int → Int} {l : List Int} {i j : Nat} {x y : Int} (h : Desc f l) (hij : i < j) (hx : l[i]? = some x) (hy : l[j]? = some y) : f y ≤ f x := by
  induction l generalizing i j with
  | nil => simp at hx
  | cons a r ih =>
    obtain ⟨j, rfl⟩ : ∃ m, j = m + 1 := ⟨j - 1, by omega⟩
    cases i with
    | zero =>
      obtain rfl : a = x := by simpa using hx
      exact h.1 y (List.mem_of_getElem? (by simpa using hy))
    | succ i => exact ih (i := i) (j := j) h.2 (by omega) (by simpa using hx) (by simpa using hy)
/-! fairness -/
theorem sqn (x : Int) : 0 ≤ x * x := by
  rcases Int.le_total 0 x with h | h
  · exact Int.mul_nonneg h h
  · exact Int.mul_nonneg_of_nonpos_of_nonpos h h
def sqL : List Int → Int
  | [] => 0
  | x :: r => x * x + sqL r
theorem sq_two (x : Int) (l : List Int) : 2 * x * sumL l ≤ sqL l + l.length * (x * x) := by
  induction l with
  | nil => simp [sumL, sqL]
  | cons y r ih =>
    have h : 0 ≤ (y - x) * (y - x) := sqn _
    simp only [sumL, sqL, List.length_cons, Int.natCast_add]
    grind
theorem sq_cs (l : List Int) : sumL l * sumL l ≤ l.length * sqL l := by
  induction l with
  | nil => simp [sumL, sqL]
  | cons y r ih =>
    have h := sq_two y r
    simp only [sumL, sqL, List.length_cons, Int.natCast_add]
    grind
theorem sq_two_eq (x : Int) (l : List Int) (h0 : sqL l + l.length * (x * x) ≤ 2 * x * sumL l) : ∀ y ∈ l, y = x := by
  induction l with
  | nil => intro y hy; cases hy
  | cons y r ih =>
    have h : 0 ≤ (y - x) * (y - x) := sqn _
    have h2 := sq_two x r
    simp only [sumL, sqL, List.length_cons, Int.natCast_add] at h0
    have h3 : (y - x) * (y - x) = 0 := Int.le_antisymm (by grind) h
    have h4 : y = x := by rcases Int.mul_eq_zero.1 h3 with h | h <;> omega
    have h5 := ih (by grind)
    intro z hz
    rcases List.mem_cons.1 hz with e | e
    · rw [e, h4]
    · exact h5 z e
theorem sq_cs_eq (l : List Int) (h0 : l.length * sqL l ≤ sumL l * sumL l) : ∃ x, ∀ y ∈ l, y = x := by
  cases l with
  | nil => exact ⟨0, fun y hy => by cases hy⟩
  | cons y r =>
    have h := sq_two y r
    have h2 := sq_cs r
    simp only [sumL, sqL, List.length_cons, Int.natCast_add] at h0
    refine ⟨y, fun z hz => ?_⟩
    rcases List.mem_cons.1 hz with e | e
    · exact e
    · exact sq_two_eq y r (by grind) z e
theorem sum_const {x : Int} {l : List Int} (h : ∀ y ∈ l, y = x) : sumL l = l.length * x ∧ sqL l = l.length * (x * x) := by
  induction l with
  | nil => simp [sumL, sqL]
  | cons y r ih =>
    have := ih fun z hz => h z (List.mem_cons_of_mem _ hz)
    have h1 := h y (List.mem_cons_self ..)
    subst h1
    simp only [sumL, sqL, List.length_cons, Int.natCast_add, this.1, this.2]
    constructor <;> grind

theorem sqL_append (a b : List Int) : sqL (a ++ b) = sqL a + sqL b := by
  induction a with
  | nil => simp [sqL]
  | cons x r ih => simp only [List.cons_append, sqL, ih]; omega
theorem sqL_take {xs : List Int} {k : Nat} {x : Int} (h : xs[k]? = some x) : sqL (xs.take (k + 1)) = sqL (xs.take k) + x * x := by
  rw [List.take_add_one, h, sqL_append]; simp [sqL]
theorem sqL_bd {xs : List Int} {B : Int} (h : ∀ x ∈ xs, 0 ≤ x ∧ x ≤ B) : 0 ≤ sqL xs ∧ sqL xs ≤ B * B * xs.length := by
  induction xs with
  | nil => simp [sqL]
  | cons x r ih =>
    have h1 := h x (List.mem_cons_self ..)
    have h2 := ih fun y hy => h y (List.mem_cons_of_mem _ hy)
    have h3 : x * x ≤ B * B := Int.mul_le_mul h1.2 h1.2 h1.1 (by omega)
    have h4 := sqn x
    simp only [sqL, List.length_cons, Int.natCast_add]
    grind
theorem sqL_zero {l : List Int} (h : sqL l = 0) : ∀ x ∈ l, x = 0 := by
  induction l with
  | nil => intro x hx; cases hx
  | cons y r ih =>
    have h1 := sqn y
    have h2 : 0 ≤ sqL r := by clear ih h; induction r with
      | nil => simp [sqL]
      | cons z r ih => have := sqn z; simp only [sqL]; omega
    simp only [sqL] at h
    have h3 : y * y = 0 := by omega
    intro x hx
    rcases List.mem_cons.1 hx with e | e
    · subst e; rcases Int.mul_eq_zero.1 h3 with h | h <;> exact h
    · exact ih (by omega) x e
theorem sqL_nn (l : List Int) : 0 ≤ sqL l := by
  induction l with
  | nil => simp [sqL]
  | cons z r ih => have := sqn z; simp only [sqL]; omega
theorem sumL_rev (l : List Int) : sumL l.reverse = sumL l := by
  induction l with
  | nil => rfl
  | cons x r ih => rw [List.reverse_cons, sumL_append, ih]; simp only [sumL]; omega
theorem sqL_rev (l : List Int) : sqL l.reverse = sqL l := by
  induction l with
  | nil => rfl
  | cons x r ih => rw [List.reverse_cons, sqL_append, ih]; simp only [sqL]; omega
theorem sumL_two (l : List Int) : sumL (l.map (2 * ·)) = 2 * sumL l := by
  induction l with
  | nil => rfl
  | cons x r ih => simp only [List.map_cons, sumL, ih]; omega
theorem sqL_two (l : List Int) : sqL (l.map (2 * ·)) = 4 * sqL l := by
  induction l with
  | nil => rfl
  | cons x r ih => simp only [List.map_cons, sqL, ih]; grind
def frN (xs : List Int) : Int := if sqL xs = 0 then 1000 else 1000 * sumL xs * sumL xs / (xs.length * sqL xs)
def shB (xs : List Int) : Bool := decide (xs.length ≤ 16) && xs.all (fun x => decide (0 ≤ x ∧ x ≤ 100000))
theorem len_pos {l : List Int} (h : sqL l ≠ 0) : 0 < (l.length : Int) := by
  cases l with
  | nil => exact absurd rfl h
  | cons x r => simp only [List.length_cons]; omega
theorem den_pos {l : List Int} (h : sqL l ≠ 0) : 0 < (l.length : Int) * sqL l := Int.mul_pos (len_pos h) (by have := sqL_nn l; omega)
theorem fr_rev (l : List Int) : frN l.reverse = frN l := by unfold frN; rw [sumL_rev, sqL_rev, List.length_reverse]
theorem fr_two (l : List Int) : frN (l.map (2 * ·)) = frN l := by
  unfold frN
  rw [sumL_two, sqL_two, List.length_map]
  by_cases h : sqL l = 0
  · rw [if_pos h, if_pos (by omega)]
  · rw [if_neg h, if_neg (by omega), show 1000 * (2 * sumL l) * (2 * sumL l) = 4 * (1000 * sumL l * sumL l) by grind, show (l.length : Int) * (4 * sqL l) = 4 * (l.length * sqL l) by grind, Int.mul_ediv_mul_of_pos _ _ (by omega)]
theorem fr_bd (l : List Int) : 0 ≤ frN l ∧ frN l ≤ 1000 := by
  unfold frN
  by_cases hq : sqL l = 0
  · rw [if_pos hq]; omega
  · rw [if_neg hq]
    have h1 := sq_cs l
    have h2 := den_pos hq
    have h3 : 0 ≤ 1000 * sumL l * sumL l := by have := sqn (sumL l); grind
    exact ⟨Int.ediv_nonneg h3 (Int.le_of_lt h2), Int.ediv_le_of_le_mul h2 (by grind)⟩
theorem fr_eq {l : List Int} : frN l = 1000 ↔ ∃ x, ∀ y ∈ l, y = x := by
  unfold frN
  by_cases hq : sqL l = 0
  · rw [if_pos hq]; exact ⟨fun _ => ⟨0, sqL_zero hq⟩, fun _ => rfl⟩
  · rw [if_neg hq]
    have h1 := sq_cs l
    have h2 := den_pos hq
    constructor
    · intro h
      have h3 := Int.mul_ediv_add_emod (1000 * sumL l * sumL l) (l.length * sqL l)
      have h4 := Int.emod_nonneg (1000 * sumL l * sumL l) (Int.ne_of_gt h2)
      rw [h] at h3
      exact sq_cs_eq l (by grind)
    · rintro ⟨x, hx⟩
      have h3 := sum_const hx
      have : 1000 * sumL l * sumL l = 1000 * (l.length * sqL l) := by rw [h3.1, h3.2]; grind
      rw [this]
      exact Int.mul_ediv_cancel _ (Int.ne_of_gt h2)
theorem sum_sq {l : List Int} (h : ∀ x ∈ l, 0 ≤ x) : sqL l ≤ sumL l * sumL l ∧ 0 ≤ sumL l := by
  induction l with
  | nil => simp [sqL, sumL]
  | cons y r ih =>
    have h1 := ih fun x hx => h x (List.mem_cons_of_mem _ hx)
    have h2 := h y (List.mem_cons_self ..)
    have h3 := Int.mul_nonneg h2 h1.2
    simp only [sqL, sumL]
    constructor
    · grind
    · omega
theorem fr_low {l : List Int} (h : ∀ x ∈ l, 0 ≤ x) (hl : l ≠ []) : 1000 / (l.length : Int) ≤ frN l := by
  have h0 : 0 < (l.length : Int) := by cases l with
    | nil => exact absurd rfl hl
    | cons x r => simp only [List.length_cons]; omega
  unfold frN
  by_cases hq : sqL l = 0
  · rw [if_pos hq]
    exact Int.ediv_le_self _ (by omega)
  · rw [if_neg hq]
    have h2 := den_pos hq
    have h3 := (sum_sq h).1
    have h4 : 1000 / (l.length : Int) * l.length ≤ 1000 := Int.ediv_mul_le _ (by omega)
    refine (Int.le_ediv_iff_mul_le h2).2 ?_
    have h5 : 0 ≤ sqL l := sqL_nn l
    have h6 : 1000 / (l.length : Int) * (l.length * sqL l) ≤ 1000 * sqL l := by
      have := Int.mul_le_mul_of_nonneg_right h4 h5
      grind
    grind
end Go.Proofs.YtaccbmgbkalknabDoor
