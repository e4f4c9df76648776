/-
  Chapter 10: the contracts with their answers named, as the laws want them. Conditions: a slice's length fits an int.
-/
import Derived.Test.YtclgmmnidkppmabE3
import Derived.Test.YtclgmmnidkppmabE6
namespace Go.Proofs.Ytclgmmnidkppmab
open Go.RowKit

theorem bk_on {ps : List Arr} {r s : Int} (hv : avB ps = true) (h : 0 ≤ r ∧ r ≤ 1000) (h2 : 1 ≤ s ∧ s ≤ 10000) : bkB ps r s = true := by
  rw [bkB, hv, Bool.true_and, rbB, decide_eq_true_eq]
  omega
theorem bk_off {ps : List Arr} {r s : Int} (h : ¬(0 ≤ r ∧ r ≤ 1000 ∧ 1 ≤ s ∧ s ≤ 10000)) : bkB ps r s = false := by
  rw [bkB, rbB, decide_eq_false h, Bool.and_false]
theorem bk_bad {ps : List Arr} {r s : Int} (h : avB ps = false) : bkB ps r s = false := by rw [bkB, h, Bool.false_and]
theorem bk_in {ps : List Arr} {r s : Int} (h : bkB ps r s = true) : avB ps = true ∧ 0 ≤ r ∧ r ≤ 1000 ∧ 1 ≤ s ∧ s ≤ 10000 := by
  obtain ⟨h1, h2⟩ := bk_of h
  have := rb_of h2
  exact ⟨h1, this.1, this.2.1, this.2.2.1, this.2.2.2⟩
theorem cf_on {ps : List Arr} {r s : Int} (h : bkB ps r s = true) : cfR ps r s = decide (back r ps ≤ s) := by
  have := bk_in h
  rw [cfR_yes h, conf_eq (by omega)]
theorem cf_is {ps : List Arr} {r s : Int} (h : bkB ps r s = true) (hb : back r ps ≤ s) : cfR ps r s = true := by rw [cf_on h]; exact decide_eq_true hb
theorem cf_not {ps : List Arr} {r s : Int} (hb : s < back r ps) : cfR ps r s = false := by
  rcases h : bkB ps r s with _ | _
  · exact cfR_no h
  · rw [cf_on h]; exact decide_eq_false (by omega)
theorem lb_on {ps : List Arr} {r : Int} (hv : avB ps = true) (h : 0 ≤ r ∧ r ≤ 1000) : lbB ps r = true := by
  rw [lbB, hv, Bool.true_and, inB, decide_eq_true_eq]
  exact h
theorem lb_off {ps : List Arr} {r : Int} (h : ¬(0 ≤ r ∧ r ≤ 1000)) : lbB ps r = false := by
  rw [lbB, inB, decide_eq_false h, Bool.and_false]
theorem lb_bad {ps : List Arr} {r : Int} (h : avB ps = false) : lbB ps r = false := by rw [lbB, h, Bool.false_and]
theorem wd_on {ps : List Arr} {r : Int} (hv : avB ps = true) (h : 1 ≤ r ∧ r ≤ 1000) : wdB ps r = true := by
  rw [wdB, hv, Bool.true_and, inB, decide_eq_true_eq]
  exact h
theorem wd_off {ps : List Arr} {r : Int} (h : ¬(1 ≤ r ∧ r ≤ 1000)) : wdB ps r = false := by
  rw [wdB, inB, decide_eq_false h, Bool.and_false]
theorem pk_on {ps : List Arr} {d : Int} (hv : avB ps = true) (h : 1 ≤ d ∧ d ≤ 10001) : pkB ps d = true := by
  rw [pkB, hv, Bool.true_and, inB, decide_eq_true_eq]
  exact h
theorem pk_off {ps : List Arr} {d : Int} (h : ¬(1 ≤ d ∧ d ≤ 10001)) : pkB ps d = false := by
  rw [pkB, inB, decide_eq_false h, Bool.and_false]
theorem lb_bd {ps : List Arr} {r : Int} (hv : avB ps = true) (hr : 0 ≤ r) : 1 ≤ mx (back r ps) 1 ∧ mx (back r ps) 1 ≤ 3200 := by
  have := back_bd hr hv
  exact ⟨mx_r _ _, mx_le.2 ⟨by omega, by omega⟩⟩
theorem ceil_rate {x b : Int} (hx : 0 < x) (hb : 0 ≤ b) : (b + (x + 1) - 1) / (x + 1) ≤ (b + x - 1) / x := by
  have e1 := Int.mul_ediv_add_emod (b + x - 1) x
  have e3 := Int.emod_lt_of_pos (b + x - 1) hx
  have q0 : 0 ≤ (b + x - 1) / x := Int.ediv_nonneg (by omega) (by omega)
  generalize (b + x - 1) / x = q at *
  have h1 : b ≤ x * q := by omega
  have e : (q + 1) * (x + 1) = x * q + q + x + 1 := by
    rw [Int.add_mul, Int.mul_add, Int.one_mul, Int.mul_comm q x]
    omega
  have h2 : (b + (x + 1) - 1) / (x + 1) < q + 1 := Int.ediv_lt_of_lt_mul (by omega) (by rw [e]; omega)
  omega
theorem lbI_is (A : Option Addr) (n c : Nat) (ps : List Arr) (r N : Int) (R : Bool) (w : World) (h : AR w A n ps) (hn : n ≤ 9223372036854775807) (hN : lbN ps r = N) (hR : lbB ps r = R) :
    Calls Try.prog 21 #[.slice A n c, .int .i64 r] w fun e w' => e = .returned (.tuple #[.int .i64 N, .bool R]) ∧ Below w.heap.size w w' := by
  rw [← hN, ← hR]
  exact lbI_any A n c ps r w h hn
theorem lbS_is (A : Option Addr) (n c : Nat) (ps : List Arr) (r N : Int) (R : Bool) (w : World) (h : AR w A n ps) (hn : n ≤ 9223372036854775807) (hN : lbN ps r = N) (hR : lbB ps r = R) :
    Calls Try.prog 28 #[.slice A n c, .int .i64 r] w fun e w' => e = .returned (.tuple #[.int .i64 N, .bool R]) ∧ Below w.heap.size w w' := by
  rw [← hN, ← hR]
  exact lbS_any A n c ps r w h hn
theorem wdI_is (A : Option Addr) (n c : Nat) (ps : List Arr) (r N : Int) (R : Bool) (w : World) (h : AR w A n ps) (hn : n ≤ 9223372036854775807) (hN : wdN ps r = N) (hR : wdB ps r = R) :
    Calls Try.prog 37 #[.slice A n c, .int .i64 r] w fun e w' => e = .returned (.tuple #[.int .i64 N, .bool R]) ∧ Below w.heap.size w w' := by
  rw [← hN, ← hR]
  exact wdI_any A n c ps r w h hn
theorem wdS_is (A : Option Addr) (n c : Nat) (ps : List Arr) (r N : Int) (R : Bool) (w : World) (h : AR w A n ps) (hn : n ≤ 9223372036854775807) (hN : wdN ps r = N) (hR : wdB ps r = R) :
    Calls Try.prog 36 #[.slice A n c, .int .i64 r] w fun e w' => e = .returned (.tuple #[.int .i64 N, .bool R]) ∧ Below w.heap.size w w' := by
  rw [← hN, ← hR]
  exact wdS_any A n c ps r w h hn
theorem pkI_is (A : Option Addr) (n c : Nat) (ps : List Arr) (r N : Int) (R : Bool) (w : World) (h : AR w A n ps) (hn : n ≤ 9223372036854775807) (hc : n ≤ c) (hN : pkN ps r = N) (hR : pkB ps r = R) :
    Calls Try.prog 22 #[.slice A n c, .int .i64 r] w fun e w' => e = .returned (.tuple #[.int .i64 N, .bool R]) ∧ Below w.heap.size w w' := by
  rw [← hN, ← hR]
  exact pkI_any A n c ps r w h hn hc
theorem pkS_is (A : Option Addr) (n c : Nat) (ps : List Arr) (r N : Int) (R : Bool) (w : World) (h : AR w A n ps) (hn : n ≤ 9223372036854775807) (hN : pkN ps r = N) (hR : pkB ps r = R) :
    Calls Try.prog 35 #[.slice A n c, .int .i64 r] w fun e w' => e = .returned (.tuple #[.int .i64 N, .bool R]) ∧ Below w.heap.size w w' := by
  rw [← hN, ← hR]
  exact pkS_any A n c ps r w h hn
theorem cfI_is (A : Option Addr) (n c : Nat) (ps : List Arr) (r s : Int) (C R : Bool) (w : World) (h : AR w A n ps) (hn : n ≤ 9223372036854775807) (hC : cfR ps r s = C) (hR : bkB ps r s = R) :
    Calls Try.prog 27 #[.slice A n c, .int .i64 r, .int .i64 s] w fun e w' => e = .returned (.tuple #[.bool C, .bool R]) ∧ Below w.heap.size w w' := by
  rw [← hC, ← hR]
  exact cfI_any A n c ps r s w h hn
theorem cfS_is (A : Option Addr) (n c : Nat) (ps : List Arr) (r s : Int) (C R : Bool) (w : World) (h : AR w A n ps) (hn : n ≤ 9223372036854775807) (hC : cfR ps r s = C) (hR : bkB ps r s = R) :
    Calls Try.prog 26 #[.slice A n c, .int .i64 r, .int .i64 s] w fun e w' => e = .returned (.tuple #[.bool C, .bool R]) ∧ Below w.heap.size w w' := by
  rw [← hC, ← hR]
  exact cfS_any A n c ps r s w h hn
end Go.Proofs.Ytclgmmnidkppmab
