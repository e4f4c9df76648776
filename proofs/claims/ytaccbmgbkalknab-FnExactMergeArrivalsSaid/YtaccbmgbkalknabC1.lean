/-
  Chapter 1: validity, sizes: what the program's functions and the model's return. Conditions: a slice's length fits an int.
-/
import Derived.Test.YtaccbmgbkalknabBase
namespace Go.Proofs.Ytaccbmgbkalknab
open Go.RowKit

def inB (n lo hi : Int) : Bool := decide (lo ≤ n ∧ n ≤ hi)
theorem within_any (n lo hi : Int) (w : World) :
    Calls Try.prog 19 #[.int .i64 n, .int .i64 lo, .int .i64 hi] w fun e w' => e = .returned (.bool (inB n lo hi)) ∧ w = w' := by
  by_cases h1 : lo ≤ n
  · by_cases h2 : n ≤ hi
    · go_enter Try.func19, Try.ntmps19
      go_wp2
      go_ret
      exact ⟨ret_bool (by simp [inB, h1, h2]), rfl⟩
    · go_enter Try.func19, Try.ntmps19
      go_wp2
      go_ret
      exact ⟨ret_bool (by simp [inB, h2]), rfl⟩
  · go_enter Try.func19, Try.ntmps19
    go_wp2
    go_ret
    exact ⟨ret_bool (by simp only [inB, eq_comm (a := false), decide_eq_false_iff_not]; omega), rfl⟩
theorem vldB_eq (p : Pkt) : vldB p = (inB p.peer 0 7 && inB p.lane 0 3 && inB p.size 1 100 && inB p.id 0 9999) := by
  rw [Bool.eq_iff_iff]
  simp only [vldB, inB, Bool.and_eq_true, decide_eq_true_eq]
  omega
theorem vld_no {p : Pkt} (h : ¬(0 ≤ p.peer ∧ p.peer ≤ 7 ∧ 0 ≤ p.lane ∧ p.lane ≤ 3 ∧ 1 ≤ p.size ∧ p.size ≤ 100 ∧ 0 ≤ p.id ∧ p.id ≤ 9999)) : false = vldB p := by
  rw [vldB, eq_comm, decide_eq_false_iff_not]; exact h
theorem vld_last {p : Pkt} (h : 0 ≤ p.peer ∧ p.peer ≤ 7 ∧ 0 ≤ p.lane ∧ p.lane ≤ 3 ∧ 1 ≤ p.size ∧ p.size ≤ 100 ∧ 0 ≤ p.id) : decide (p.id ≤ 9999) = vldB p := by
  rw [vldB, decide_eq_decide]; omega
/-- packets, and how few -/
def okB (ps : List Pkt) : Bool := decide (ps.length ≤ 64) && ps.all vldB
def sizeSum : List Pkt → Int
  | [] => 0
  | p :: r => p.size + sizeSum r
theorem sizeSum_snoc (a : List Pkt) (p : Pkt) : sizeSum (a ++ [p]) = sizeSum a + p.size := by
  induction a with
  | nil => simp [sizeSum]
  | cons q r ih => simp only [List.cons_append, sizeSum, ih]; omega
theorem take_snoc {α : Type} (l : List α) (k : Nat) (x : α) (h : l[k]? = some x) : l.take (k + 1) = l.take k ++ [x] := by
  rw [List.take_add_one, h]; rfl
theorem all_snoc (l : List Pkt) (k : Nat) (x : Pkt) (h : l[k]? = some x) (ha : (l.take k).all vldB = true) (hx : vldB x = true) : (l.take (k + 1)).all vldB = true := by
  rw [take_snoc l k x h, List.all_append, ha]
  simp [hx]
theorem all_fails (l : List Pkt) (k : Nat) (x : Pkt) (h : l[k]? = some x) (hx : vldB x = false) : l.all vldB = false := by
  rw [List.all_eq_false]
  exact ⟨x, List.mem_of_getElem? h, by simp [hx]⟩
theorem vld_size {p : Pkt} (h : vldB p = true) : 1 ≤ p.size ∧ p.size ≤ 100 := by
  simp only [vldB, decide_eq_true_eq] at h
  omega
theorem sum_bound (ps : List Pkt) (h : ps.all vldB = true) : (ps.length : Int) ≤ sizeSum ps ∧ sizeSum ps ≤ 100 * ps.length := by
  induction ps with
  | nil => simp [sizeSum]
  | cons p r ih =>
    simp only [List.all_cons, Bool.and_eq_true] at h
    have := ih h.2
    have := vld_size h.1
    simp only [sizeSum, List.length_cons]
    omega
theorem all_take (ps : List Pkt) (k : Nat) (h : ps.all vldB = true) : (ps.take k).all vldB = true := by
  rw [List.all_eq_true] at h ⊢
  exact fun x hx => h x (List.mem_of_mem_take hx)
theorem ok_bad {ps : List Pkt} {k : Nat} {p : Pkt} (h : ps[k]? = some p) (hx : vldB p = false) : false = okB ps := by
  rw [okB, all_fails ps k p h hx, Bool.and_false]
theorem ok_yes {ps : List Pkt} {k : Nat} (hl : ps.length ≤ 64) (hk : ps.length ≤ k) (h : (ps.take k).all vldB = true) : true = okB ps := by
  rw [List.take_of_length_le hk] at h
  simp [okB, hl, h]
theorem ok_long {ps : List Pkt} (h : 64 < ps.length) : false = okB ps := by
  have : decide (ps.length ≤ 64) = false := by simp; omega
  rw [okB, this, Bool.false_and]
theorem ok_of {ps : List Pkt} (h : okB ps = true) : ps.length ≤ 64 ∧ ps.all vldB = true := by
  simpa [okB] using h
theorem ok_at {ps : List Pkt} {k : Nat} {p : Pkt} (h : okB ps = true) (hp : ps[k]? = some p) : vldB p = true :=
  List.all_eq_true.1 (ok_of h).2 p (List.mem_of_getElem? hp)
def szN (ps : List Pkt) : Int := if okB ps = true then sizeSum ps else 0
theorem sz_yes {ps : List Pkt} (h : okB ps = true) : szN ps = sizeSum ps := if_pos h
theorem sz_no {ps : List Pkt} (h : okB ps = false) : szN ps = 0 := if_neg (by rw [h]; exact Bool.false_ne_true)
theorem ret_two {x y : Int} {a b : Bool} (h : x = y) (h2 : a = b) : Ending.returned (.tuple #[.int .i64 x, .bool a]) = .returned (.tuple #[.int .i64 y, .bool b]) := by rw [h, h2]
theorem sum_step {ps : List Pkt} {k : Nat} {p : Pkt} (h : okB ps = true) (hp : ps[k]? = some p) :
    sizeSum (ps.take (k + 1)) = sizeSum (ps.take k) + p.size ∧ 0 ≤ sizeSum (ps.take k) ∧ sizeSum (ps.take k) ≤ 6400 ∧ 1 ≤ p.size ∧ p.size ≤ 100 := by
  have h1 := sum_bound (ps.take k) (all_take ps k (ok_of h).2)
  have h2 : (ps.take k).length ≤ 64 := Nat.le_trans (List.length_take_le' k ps) (ok_of h).1
  have h3 := vld_size (ok_at h hp)
  exact ⟨by rw [take_snoc ps k p hp, sizeSum_snoc], by omega, by omega, h3.1, h3.2⟩
def ValidRel (w : World) (ps : List Pkt) (n : Nat) (i : Value) (wr : World) : Prop :=
  ∃ k : Nat, k ≤ n ∧ i = .int .i64 (k : Int) ∧ (ps.take k).all vldB = true ∧ Below w.heap.size w wr
def SumRel (w : World) (ps : List Pkt) (n : Nat) (s i : Value) (wr : World) : Prop :=
  ∃ k : Nat, k ≤ n ∧ i = .int .i64 (k : Int) ∧ s = .int .i64 (sizeSum (ps.take k)) ∧ Below w.heap.size w wr
end Go.Proofs.Ytaccbmgbkalknab
