/-
  Texts cut at the first place of a byte: what the program (strings.Cut) and the model return. Conditions: none.
-/
import Derived.Test.YtlnbhbjibkgjgaaDoorBase
import Derived.Test.YtlnbhbjibkgjgaaDoorShelf
namespace Go.Proofs.YtlnbhbjibkgjgaaDoor
open Go.RowKit

/-- i is the first place of c in s -/
def First (s : ByteArray) (c : UInt8) (i : Nat) : Prop := s.data.toList[i]? = some c ∧ ∀ j : Nat, j < i → s.data.toList[j]? ≠ some c
theorem first_lt {s : ByteArray} {c : UInt8} {i : Nat} (h : First s c i) : i < s.size := by
  rcases Nat.lt_or_ge i s.data.toList.length with hl | hl
  · rw [Array.length_toList] at hl; exact hl
  · have := h.1; rw [List.getElem?_eq_none hl] at this; cases this
theorem first_uniq {s : ByteArray} {c : UInt8} {i j : Nat} (h : First s c i) (k : First s c j) : i = j := by
  rcases Nat.lt_trichotomy i j with hl | hl | hl
  · exact absurd h.1 (k.2 i hl)
  · exact hl
  · exact absurd k.1 (h.2 j hl)
def Never (s : ByteArray) (c : UInt8) : Prop := ∀ j : Nat, s.data.toList[j]? ≠ some c
def CutPost (s : ByteArray) (c : UInt8) (left : ByteArray) (w : World) (e : Ending) (w' : World) : Prop :=
  ((∃ i : Nat, First s c i ∧ e = .returned (.tuple #[.string (s.extract 0 i), .string (s.extract (i + 1) s.size), .bool true])) ∨ (Never s c ∧ e = .returned (.tuple #[.string left, .string ⟨#[]⟩, .bool false]))) ∧ Below w.heap.size w w'
theorem byteAt (s : ByteArray) (k : Nat) (h : k < s.size) : s.data.toList[k]? = some s[k] := by
  rw [List.getElem?_eq_getElem (by simpa using h)]; rfl
set_option maxRecDepth 100000 in
set_option maxHeartbeats 1000000 in
theorem cutS_any (s : ByteArray) (c : UInt8) (w : World) (hs : s.size ≤ 9223372036854775807) :
    Calls Tryd.prog 43 #[.string s, .int .u8 ((c.toNat : Nat) : Int)] w (CutPost s c ⟨#[]⟩ w) := by
  go_enter Tryd.func43, Tryd.ntmps43
  go_wp2
  go_loop [7] (fun i => ∃ k : Nat, k ≤ s.size ∧ i = .int .i64 (k : Int) ∧ ∀ j : Nat, j < k → s.data.toList[j]? ≠ some c) (fun i => s.size - (intOf i).toNat)
  case atStart => exact ⟨0, Nat.zero_le _, rfl, fun j hj => absurd hj (by omega)⟩
  case round =>
    obtain ⟨k, hk, rfl, hn⟩ := hrel
    have HN := Lib.hid hn
    clear hn
    by_cases hlt : k < s.size
    · have HB := Lib.hid (byteAt s k hlt)
      by_cases hc : s[k] = c
      · have hcb : (((s[k].toNat : Nat) : Int) == ((c.toNat : Nat) : Int)) = true := by simp [hc]
        have HC := Lib.hid hc
        clear hc
        have q0 : (0 : Int) ≤ (k : Int) := by omega
        have q1 : (k : Int) ≤ (s.size : Int) := by omega
        have q2 : (0 : Int) ≤ (k : Int) + 1 := by omega
        have q3 : (k : Int) + 1 ≤ (s.size : Int) := by omega
        have q4 : ((k : Int) + 1).toNat = k + 1 := by omega
        go_wp2
        go_quiet (fail)
        go_wp2
        go_ret3
        exact ⟨.inl ⟨k, ⟨by rw [HB.out, HC.out], HN.out⟩, rfl⟩, below_drewN (Below.refl _ _) _⟩
      · have hcb : (((s[k].toNat : Nat) : Int) == ((c.toNat : Nat) : Int)) = false := by
          simp only [beq_eq_false_iff_ne]
          intro he
          exact hc (UInt8.toNat_inj.1 (by omega))
        have HC := Lib.hid hc
        clear hc
        go_wp2
        go_round
        case rel =>
          refine ⟨k + 1, by omega, by go_num, fun j hj => ?_⟩
          rcases Nat.lt_or_ge j k with hjk | hjk
          · exact HN.out j hjk
          · obtain rfl : j = k := by omega
            rw [HB.out]
            exact fun e => HC.out (by injection e)
        case measure => simp [intOf]; omega
    · obtain rfl : k = s.size := by omega
      go_wp2
      go_ret3
      refine ⟨.inr ⟨fun j => ?_, rfl⟩, Below.refl _ _⟩
      rcases Nat.lt_or_ge j s.size with hj | hj
      · exact HN.out j hj
      · rw [List.getElem?_eq_none (by rw [Array.length_toList]; exact hj)]
        exact fun e => by cases e
theorem index_first (s : ByteArray) (c : UInt8) : (Lib.indexByte s.data.toList c = -1 ∧ Never s c) ∨ ∃ i : Nat, Lib.indexByte s.data.toList c = (i : Int) ∧ First s c i := by
  have hge := Lib.indexByte_ge s.data.toList c
  rcases Int.lt_or_le (Lib.indexByte s.data.toList c) 0 with h | h
  · have e : Lib.indexByte s.data.toList c = -1 := by omega
    exact .inl ⟨e, Lib.indexByte_none e⟩
  · obtain ⟨i, hi⟩ : ∃ i : Nat, Lib.indexByte s.data.toList c = (i : Int) := ⟨_, (Int.toNat_of_nonneg h).symm⟩
    exact .inr ⟨i, hi, Lib.indexByte_some hi⟩
set_option maxRecDepth 100000 in
set_option maxHeartbeats 1000000 in
theorem cutL_any (s : ByteArray) (c : UInt8) (w : World) (hs : s.size ≤ 9223372036854775807) :
    Calls Tryd.prog 58 #[.string s, .string ⟨#[c]⟩] w (CutPost s c s w) := by
  rcases index_first s c with ⟨hi, hn⟩ | ⟨i, hi, hf⟩
  · have HN := Lib.hid hn
    clear hn
    go_enter Tryd.func58, Tryd.ntmps58
    go_wp2_with fail
    refine (Tryd.stringslite_Index_one s c _).mono ?_
    rintro e w1 ⟨rfl, rfl⟩
    rw [hi]
    clear hi
    go_wp2
    go_ret3
    exact ⟨.inr ⟨HN.out, rfl⟩, Below.refl _ _⟩
  · have hlt := first_lt hf
    have HF := Lib.hid hf
    clear hf
    go_enter Tryd.func58, Tryd.ntmps58
    go_wp2_with fail
    refine (Tryd.stringslite_Index_one s c _).mono ?_
    rintro e w1 ⟨rfl, rfl⟩
    rw [hi]
    clear hi
    have q0 : (0 : Int) ≤ (i : Int) := by omega
    have q1 : (i : Int) ≤ (s.size : Int) := by omega
    have q2 : (0 : Int) ≤ (i : Int) + 1 := by omega
    have q3 : (i : Int) + 1 ≤ (s.size : Int) := by omega
    have q4 : ((i : Int) + 1).toNat = i + 1 := by omega
    go_wp2
    go_quiet (fail)
    go_wp2
    go_ret3
    exact ⟨.inl ⟨i, HF.out, rfl⟩, below_drewN (Below.refl _ _) _⟩
set_option maxRecDepth 100000 in
set_option maxHeartbeats 1000000 in
theorem cutI_any (s : ByteArray) (c : UInt8) (w : World) (hs : s.size ≤ 9223372036854775807) :
    Calls Tryd.prog 36 #[.string s, .string ⟨#[c]⟩] w (CutPost s c s w) := by
  go_enter Tryd.func36, Tryd.ntmps36
  go_wp2_with fail
  refine (cutL_any s c _ hs).mono ?_
  rintro e w1 ⟨h, hb⟩
  rcases h with ⟨i, hf, rfl⟩ | ⟨hn, rfl⟩
  · have HF := Lib.hid (And.intro hf hb)
    clear hf hb
    go_wp2
    go_ret3
    exact ⟨.inl ⟨i, HF.out.1, rfl⟩, HF.out.2⟩
  · have HF := Lib.hid (And.intro hn hb)
    clear hn hb
    go_wp2
    go_ret3
    exact ⟨.inr ⟨HF.out.1, rfl⟩, HF.out.2⟩
end Go.Proofs.YtlnbhbjibkgjgaaDoor
