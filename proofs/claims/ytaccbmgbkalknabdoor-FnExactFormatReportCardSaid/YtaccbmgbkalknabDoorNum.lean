/-
  Decimal numbers in texts: what the program's parseNumber and the model's l13Num read. Conditions: none.
-/
import Derived.Test.YtaccbmgbkalknabDoorBase
namespace Go.Proofs.YtaccbmgbkalknabDoor
open Go.RowKit

def dig (c : UInt8) : Bool := decide (48 ≤ c.toNat ∧ c.toNat ≤ 57)
def valL (l : List UInt8) : Nat := l.foldl (fun n c => n * 10 + (c.toNat - 48)) 0
def numOk (l : List UInt8) : Bool := decide (0 < l.length ∧ l.length ≤ 17 ∧ ¬ (l.head? = some 48 ∧ 1 < l.length)) && l.all dig
def numV (l : List UInt8) : Int := if numOk l = true then (valL l : Int) else 0
theorem numV_yes {l : List UInt8} (h : numOk l = true) : numV l = valL l := if_pos h
theorem numV_no {l : List UInt8} (h : numOk l = false) : numV l = 0 := if_neg (by rw [h]; exact Bool.false_ne_true)
theorem valL_snoc (l : List UInt8) (c : UInt8) : valL (l ++ [c]) = valL l * 10 + (c.toNat - 48) := by simp [valL, List.foldl_append]
theorem fold_lt (l : List UInt8) (a : Nat) (h : l.all dig = true) : l.foldl (fun n c => n * 10 + (c.toNat - 48)) a < (a + 1) * 10 ^ l.length := by
  induction l generalizing a with
  | nil => simp
  | cons c r ih =>
    rw [List.all_cons, Bool.and_eq_true] at h
    have h2 : c.toNat - 48 ≤ 9 := by have := h.1; simp only [dig, decide_eq_true_eq] at this; omega
    have h3 := ih (a * 10 + (c.toNat - 48)) h.2
    rw [List.foldl_cons, List.length_cons, Nat.pow_succ, Nat.mul_comm (10 ^ r.length) 10, ← Nat.mul_assoc]
    exact Nat.lt_of_lt_of_le h3 (Nat.mul_le_mul_right _ (by omega))
theorem valL_lt (l : List UInt8) (h : l.all dig = true) : valL l < 10 ^ l.length := by
  have := fold_lt l 0 h
  simpa [valL] using this
theorem valL_small (l : List UInt8) (h : l.all dig = true) (hl : l.length ≤ 17) : (valL l : Int) ≤ 100000000000000000 := by
  have h1 := valL_lt l h
  have h2 : 10 ^ l.length ≤ 10 ^ 17 := Nat.pow_le_pow_right (by omega) hl
  have h3 : (10 : Nat) ^ 17 = 100000000000000000 := rfl
  omega
theorem byte_at (s : ByteArray) (k : Nat) (h : k < s.size) : s.data.toList[k]? = some s[k] := by
  rw [List.getElem?_eq_getElem (by simpa using h)]; rfl
theorem len_bytes (s : ByteArray) : s.data.toList.length = s.size := by rw [Array.length_toList]; rfl
theorem bytes_take (s : ByteArray) (k : Nat) (h : k < s.size) : s.data.toList.take (k + 1) = s.data.toList.take k ++ [s[k]] := by
  rw [List.take_add_one, byte_at s k h]; rfl
theorem all_take_dig {s : ByteArray} {k : Nat} (h : k < s.size) (ha : (s.data.toList.take k).all dig = true) (hd : 48 ≤ s[k].toNat ∧ s[k].toNat ≤ 57) : (s.data.toList.take (k + 1)).all dig = true := by
  rw [bytes_take s k h, List.all_append, ha]
  simp [dig, hd]
theorem not_dig {s : ByteArray} {k : Nat} (h : k < s.size) (hd : ¬ (48 ≤ s[k].toNat ∧ s[k].toNat ≤ 57)) : numOk s.data.toList = false := by
  have : s.data.toList.all dig = false := by
    rw [List.all_eq_false]
    exact ⟨s[k], List.mem_of_getElem? (byte_at s k h), by simp only [dig, decide_eq_true_eq]; exact hd⟩
  rw [numOk, this, Bool.and_false]
theorem num_yes {s : ByteArray} (h0 : 0 < s.size) (h1 : s.size ≤ 17) (hz : ¬ (s[0].toNat = 48 ∧ 1 < s.size)) (ha : (s.data.toList.take s.size).all dig = true) : numOk s.data.toList = true := by
  rw [List.take_of_length_le (by rw [len_bytes]; omega)] at ha
  have hh : s.data.toList.head? = some s[0] := by rw [List.head?_eq_getElem?]; exact byte_at s 0 h0
  rw [numOk, ha, Bool.and_true, decide_eq_true_eq, len_bytes, hh]
  refine ⟨h0, h1, fun hx => hz ⟨?_, hx.2⟩⟩
  have := hx.1
  injection this with this
  rw [this]; rfl
theorem num_lead {s : ByteArray} (h0 : 0 < s.size) (hz : s[0].toNat = 48) (h1 : 1 < s.size) : numOk s.data.toList = false := by
  have hh : s.data.toList.head? = some s[0] := by rw [List.head?_eq_getElem?]; exact byte_at s 0 h0
  have hs : s[0] = 48 := UInt8.toNat_inj.1 (by rw [hz]; rfl)
  have : decide (0 < s.data.toList.length ∧ s.data.toList.length ≤ 17 ∧ ¬ (s.data.toList.head? = some 48 ∧ 1 < s.data.toList.length)) = false := by
    rw [decide_eq_false_iff_not, hh, hs, len_bytes]
    intro hx
    exact hx.2.2 ⟨rfl, h1⟩
  rw [numOk, this, Bool.false_and]
theorem num_len {s : ByteArray} (h : s.size = 0 ∨ 17 < s.size) : numOk s.data.toList = false := by
  have : decide (0 < s.data.toList.length ∧ s.data.toList.length ≤ 17 ∧ ¬ (s.data.toList.head? = some 48 ∧ 1 < s.data.toList.length)) = false := by
    rw [decide_eq_false_iff_not, len_bytes]
    omega
  rw [numOk, this, Bool.false_and]
theorem ret_two {x y : Int} {a b : Bool} (h : x = y) (h2 : a = b) : Ending.returned (.tuple #[.int .i64 x, .bool a]) = .returned (.tuple #[.int .i64 y, .bool b]) := by rw [h, h2]
theorem not_empty {s : ByteArray} (h : 0 < s.size) : s.toList.isEmpty = false := by
  rw [Go.ByteArray.toList_eq]
  have := len_bytes s
  rcases hl : s.data.toList with _ | ⟨a, r⟩
  · rw [hl] at this; simp at this; omega
  · rfl
end Go.Proofs.YtaccbmgbkalknabDoor
