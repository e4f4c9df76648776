/-
  Chapter 7: what the laws need of the numbers, and the contracts with the values named. Conditions: each lemma says them.
-/
import Derived.Test.YtffgblphimjipaaSc3
import Derived.Lib.SmallJoins
namespace Go.Proofs.Ytffgblphimjipaa
open Go.RowKit

theorem pt_same {p m : Int} (h : 0 ≤ p) : pt p m m = p := by
  unfold pt
  split <;> omega
theorem pt_next {p a n : Int} : pt p a (n + 1) = if pt p a n = 0 then 0 else pt p a n - 1 := by
  unfold pt
  repeat' split
  all_goals omega
theorem pt_split {p a h n : Int} (_ : a ≤ h) (h2 : h ≤ n) : pt (pt p a h) h n = pt p a n := by
  unfold pt
  repeat' split
  all_goals omega
theorem mx_zero {m : Int} (h : 0 ≤ m) : mx 0 (m + 0) = m := by
  unfold mx
  split <;> omega
theorem bl_two {b : Int} (h : 0 ≤ b) (h2 : b ≤ 10) : bl (nb b) = 2 * bl b ∨ (b = 10 ∧ bl (nb b) = bl b) := by
  rcases Int.lt_or_le b 10 with hb | hb
  · rw [nb, if_pos (by omega), bl_next h hb]; exact .inl rfl
  · obtain rfl : b = 10 := by omega
    exact .inr ⟨rfl, rfl⟩
theorem ptN_bd (p a u b n : Int) : 0 ≤ ptN p a u b n ∧ ptN p a u b n ≤ 99 := by
  rcases h : stB p a u b n with _ | _
  · rw [ptN_no h]; omega
  · rw [ptN_yes h]; have := pt_bd h; have := st_of h; omega
theorem bn_yes {p a u b n : Int} (h : stB p a u b n = true) : bnB p a u b n = decide (n < u) := by rw [bnB, h, Bool.true_and]
theorem bn_no {p a u b n : Int} (h : stB p a u b n = false) : bnB p a u b n = false := by rw [bnB, h, Bool.false_and]
theorem paI_gen (p a u b n N : Int) (R : Bool) (w : World) (hN : ptN p a u b n = N) (hR : stB p a u b n = R) :
    Calls Try.prog 18 #[.agg #[.int .i64 p, .int .i64 a, .int .i64 u, .int .i64 b], .int .i64 n] w fun e w' => e = .returned (.tuple #[.int .i64 N, .bool R]) ∧ Below w.heap.size w w' := by
  have := paI_any p a u b n w
  rw [hN, hR] at this
  exact this
theorem paI_is (p a u b n V : Int) (w : World) (h : stB p a u b n = true) (hv : pt p a n = V) :
    Calls Try.prog 18 #[.agg #[.int .i64 p, .int .i64 a, .int .i64 u, .int .i64 b], .int .i64 n] w fun e w' => e = .returned (.tuple #[.int .i64 V, .bool true]) ∧ Below w.heap.size w w' :=
  paI_gen p a u b n V true w ((ptN_yes h).trans hv) h
theorem paI_off (p a u b n : Int) (w : World) (h : stB p a u b n = false) :
    Calls Try.prog 18 #[.agg #[.int .i64 p, .int .i64 a, .int .i64 u, .int .i64 b], .int .i64 n] w fun e w' => e = .returned (.tuple #[.int .i64 0, .bool false]) ∧ Below w.heap.size w w' :=
  paI_gen p a u b n 0 false w (ptN_no h) h
theorem paS_is (p a u b n V : Int) (w : World) (h : stB p a u b n = true) (hv : pt p a n = V) :
    Calls Try.prog 22 #[.agg #[.int .i64 p, .int .i64 a, .int .i64 u, .int .i64 b], .int .i64 n] w fun e w' => e = .returned (.tuple #[.int .i64 V, .bool true]) ∧ Below w.heap.size w w' := by
  have := paS_any p a u b n w
  rw [ptN_yes h, h, hv] at this
  exact this
theorem paS_off (p a u b n : Int) (w : World) (h : stB p a u b n = false) :
    Calls Try.prog 22 #[.agg #[.int .i64 p, .int .i64 a, .int .i64 u, .int .i64 b], .int .i64 n] w fun e w' => e = .returned (.tuple #[.int .i64 0, .bool false]) ∧ Below w.heap.size w w' := by
  have := paS_any p a u b n w
  rw [ptN_no h, h] at this
  exact this
theorem ibI_gen (p a u b n : Int) (B R : Bool) (w : World) (hB : bnB p a u b n = B) (hR : stB p a u b n = R) :
    Calls Try.prog 19 #[.agg #[.int .i64 p, .int .i64 a, .int .i64 u, .int .i64 b], .int .i64 n] w fun e w' => e = .returned (.tuple #[.bool B, .bool R]) ∧ Below w.heap.size w w' := by
  have := ibI_any p a u b n w
  rw [hB, hR] at this
  exact this
theorem ibI_to (p a u b n : Int) (B : Bool) (w : World) (h : stB p a u b n = true) (hB : decide (n < u) = B) :
    Calls Try.prog 19 #[.agg #[.int .i64 p, .int .i64 a, .int .i64 u, .int .i64 b], .int .i64 n] w fun e w' => e = .returned (.tuple #[.bool B, .bool true]) ∧ Below w.heap.size w w' :=
  ibI_gen p a u b n B true w ((bn_yes h).trans hB) h
theorem ibI_is (p a u b n : Int) (w : World) (h : stB p a u b n = true) :
    Calls Try.prog 19 #[.agg #[.int .i64 p, .int .i64 a, .int .i64 u, .int .i64 b], .int .i64 n] w fun e w' => e = .returned (.tuple #[.bool (decide (n < u)), .bool true]) ∧ Below w.heap.size w w' :=
  ibI_gen p a u b n _ true w (bn_yes h) h
theorem ibI_off (p a u b n : Int) (w : World) (h : stB p a u b n = false) :
    Calls Try.prog 19 #[.agg #[.int .i64 p, .int .i64 a, .int .i64 u, .int .i64 b], .int .i64 n] w fun e w' => e = .returned (.tuple #[.bool false, .bool false]) ∧ Below w.heap.size w w' :=
  ibI_gen p a u b n false false w (bn_no h) h
theorem ibS_to (p a u b n : Int) (B : Bool) (w : World) (h : stB p a u b n = true) (hB : decide (n < u) = B) :
    Calls Try.prog 24 #[.agg #[.int .i64 p, .int .i64 a, .int .i64 u, .int .i64 b], .int .i64 n] w fun e w' => e = .returned (.tuple #[.bool B, .bool true]) ∧ Below w.heap.size w w' := by
  have := ibS_any p a u b n w
  rw [bn_yes h, h, hB] at this
  exact this
theorem ibS_off (p a u b n : Int) (w : World) (h : stB p a u b n = false) :
    Calls Try.prog 24 #[.agg #[.int .i64 p, .int .i64 a, .int .i64 u, .int .i64 b], .int .i64 n] w fun e w' => e = .returned (.tuple #[.bool false, .bool false]) ∧ Below w.heap.size w w' := by
  have := ibS_any p a u b n w
  rw [bn_no h, h] at this
  exact this
theorem scI_to (p a u b : Int) (R : Bool) (w : World) (h : scB p a u b = R) :
    Calls Try.prog 20 #[.agg #[.int .i64 p, .int .i64 a, .int .i64 u, .int .i64 b]] w fun e w' => e = .returned (.bool R) ∧ Below w.heap.size w w' := by
  have := scI_any p a u b w
  rw [h] at this
  exact this
theorem scS_to (p a u b : Int) (R : Bool) (w : World) (h : scB p a u b = R) :
    Calls Try.prog 28 #[.agg #[.int .i64 p, .int .i64 a, .int .i64 u, .int .i64 b]] w fun e w' => e = .returned (.bool R) ∧ Below w.heap.size w w' := by
  have := scS_any p a u b w
  rw [h] at this
  exact this
end Go.Proofs.Ytffgblphimjipaa
