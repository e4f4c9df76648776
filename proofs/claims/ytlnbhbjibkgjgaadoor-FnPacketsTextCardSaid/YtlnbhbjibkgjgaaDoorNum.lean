/-
  Decimal numbers in texts: what the program's parseNumber and the model's l13Num read. Conditions: none.
-/
import Derived.Test.YtlnbhbjibkgjgaaDoorBase
namespace Go.Proofs.YtlnbhbjibkgjgaaDoor
open Go.RowKit

def dig (c : UInt8) : Bool := decide (48 ≤ c.toNat ∧ c.toNat ≤ 57)
def valL (l : List UInt8) : Nat := l.foldl (fun n c => n * 10 + (c.toNat - 48)) 0
def numOk (l : List UInt8) : Bool := decide (0 < l.length ∧ l.length ≤ 17 ∧ ¬ (l.head? = some 48 ∧ 1 < l.length)) && l.all dig
def numV (l : List UInt8) : Int := if numOk l = true then (valL l : Int) else 0
theorem numV_yes {l : List UInt8} (h : numOk l = true) : numV l = valL l := if_pos h
theorem numV_no {l : List UInt8} (h : numOk l = false) : numV l = 0 := if_neg (by rw [h]; exact Bool.false_ne_true)
theorem valL_snoc (l : List UInt8) (c : UInt8) : valL (l ++ [c]) = valL l * 10 + (c.toNat - 48) := by simp [valL, List.foldl_append]
theorem fold_lt (l : List UInt8) (a : Nat) (h : l.all dig = true) : l.foldl (fun n c => n * 10 + (c.toNat - 48)) a < (a + 1) * 10 ^ l.length := by
  induction l generalizing a with
  | nil => simp
  | cons c r ih =>
    rw [List.all_cons, Bool.and_eq_true] at h
    have h2 : c.toNat - 48 ≤ 9 := by have := h.1; simp only [dig, decide_eq_true_eq] at this; omega
    have h3 := ih (a * 10 + (c.toNat - 48)) h.2
    rw [List.foldl_cons, List.length_cons, Nat.pow_succ, Nat.mul_comm (10 ^ r.length) 10, ← Nat.mul_assoc]
    exact Nat.lt_of_lt_of_le h3 (Nat.mul_le_mul_right _ (by omega))
theorem valL_lt (l : List UInt8) (h : l.all dig = true) : valL l < 10 ^ l.length := by
  have := fold_lt l 0 h
  simpa [valL] using this
theorem valL_small (l : List UInt8) (h : l.all dig = true) (hl : l.length ≤ 17) : (valL l : Int) ≤ 100000000000000000 := by
  have h1 := valL_lt l h
  have h2 : 10 ^ l.length ≤ 10 ^ 17 := Nat.pow_le_pow_right (by omega) hl
  have h3 : (10 : Nat) ^ 17 = 100000000000000000 := rfl
  omega
theorem byte_at (s : ByteArray) (k : Nat) (h : k < s.size) : s.data.toList[k]? = some s[k] := by
  rw [List.getElem?_eq_getElem (by simpa using h)]; rfl
theorem len_bytes (s : ByteArray) : s.data.toList.length = s.size := by rw [Array.length_toList]; rfl
theorem bytes_take (s : ByteArray) (k : Nat) (h : k < s.size) : s.data.toList.take (k + 1) = s.data.toList.take k ++ [s[k]] := by
  rw [List.take_add_one, byte_at s k h]; rfl
theorem all_take_dig {s : ByteArray} {k : Nat} (h : k < s.size) (ha : (s.data.toList.take k).all dig = true) (hd : 48 ≤ s[k].toNat ∧ s[k].toNat ≤ 57) : (s.data.toList.take (k + 1)).all dig = true := by
  rw [bytes_take s k h, List.all_append, ha]
  simp [dig, hd]
theorem not_dig {s : ByteArray} {k : Nat} (h : k < s.size) (hd : ¬ (48 ≤ s[k].toNat ∧ s[k].toNat ≤ 57)) : numOk s.data.toList = false := by
  have : s.data.toList.all dig = false := by
    rw [List.all_eq_false]
    exact ⟨s[k], List.mem_of_getElem? (byte_at s k h), by simp only [dig, decide_eq_true_eq]; exact hd⟩
  rw [numOk, this, Bool.and_false]
theorem num_yes {s : ByteArray} (h0 : 0 < s.size) (h1 : s.size ≤ 17) (hz : ¬ (s[0].toNat = 48 ∧ 1 < s.size)) (ha : (s.data.toList.take s.size).all dig = true) : numOk s.data.toList = true := by
  rw [List.take_of_length_le (by rw [len_bytes]; omega)] at ha
  have hh : s.data.toList.head? = some s[0] := by rw [List.head?_eq_getElem?]; exact byte_at s 0 h0
  rw [numOk, ha, Bool.and_true, decide_eq_true_eq, len_bytes, hh]
  refine ⟨h0, h1, fun hx => hz ⟨?_, hx.2⟩⟩
  have := hx.1
  injection this with this
  rw [this]; rfl
theorem num_lead {s : ByteArray} (h0 : 0 < s.size) (hz : s[0].toNat = 48) (h1 : 1 < s.size) : numOk s.data.toList = false := by
  have hh : s.data.toList.head? = some s[0] := by rw [List.head?_eq_getElem?]; exact byte_at s 0 h0
  have hs : s[0] = 48 := UInt8.toNat_inj.1 (by rw [hz]; rfl)
  have : decide (0 < s.data.toList.length ∧ s.data.toList.length ≤ 17 ∧ ¬ (s.data.toList.head? = some 48 ∧ 1 < s.data.toList.length)) = false := by
    rw [decide_eq_false_iff_not, hh, hs, len_bytes]
    intro hx
    exact hx.2.2 ⟨rfl, h1⟩
  rw [numOk, this, Bool.false_and]
theorem num_len {s : ByteArray} (h : s.size = 0 ∨ 17 < s.size) : numOk s.data.toList = false := by
  have : decide (0 < s.data.toList.length ∧ s.data.toList.length ≤ 17 ∧ ¬ (s.data.toList.head? = some 48 ∧ 1 < s.data.toList.length)) = false := by
    rw [decide_eq_false_iff_not, len_bytes]
    omega
  rw [numOk, this, Bool.false_and]
theorem ret_two {x y : Int} {a b : Bool} (h : x = y) (h2 : a = b) : Ending.returned (.tuple #[.int .i64 x, .bool a]) = .returned (.tuple #[.int .i64 y, .bool b]) := by rw [h, h2]
theorem not_empty {s : ByteArray} (h : 0 < s.size) : s.toList.isEmpty = false := by
  rw [Go.ByteArray.toList_eq]
  have := len_bytes s
  rcases hl : s.data.toList with _ | ⟨a, r⟩
  · rw [hl] at this; simp at this; omega
  · rfl
set_option maxRecDepth 100000 in
set_option maxHeartbeats 2000000 in
theorem parseNumber_any (s : ByteArray) (w : World) (hs : s.size ≤ 9223372036854775807) :
    Calls Tryd.prog 37 #[.string s] w fun e w' => e = .returned (.tuple #[.int .i64 (numV s.data.toList), .bool (numOk s.data.toList)]) ∧ w = w' := by
  by_cases hlen : s.size = 0 ∨ 17 < s.size
  · have hN := num_len hlen
    have HN := Lib.hid hN
    clear hN
    rcases hlen with hlen | hlen
    · obtain rfl : s = ByteArray.empty := by
        apply ByteArray.ext
        apply Array.eq_empty_of_size_eq_zero
        exact hlen
      go_enter Tryd.func37, Tryd.ntmps37
      go_wp2
      go_ret2
      exact ⟨ret_two (numV_no HN.out).symm HN.out.symm, rfl⟩
    · have hE := not_empty (s := s) (by omega)
      go_enter Tryd.func37, Tryd.ntmps37
      go_wp2
      go_ret2
      exact ⟨ret_two (numV_no HN.out).symm HN.out.symm, rfl⟩
  · have h0 : 0 < s.size := by omega
    have h17 : s.size ≤ 17 := by omega
    have hE := not_empty (s := s) h0
    by_cases hz : s[0].toNat = 48 ∧ 1 < s.size
    · have HN := Lib.hid (num_lead h0 hz.1 hz.2)
      have hb : (((s[0].toNat : Nat) : Int) == 48) = true := by simp [hz.1]
      have h1 : 1 < s.size := hz.2
      clear hz hlen
      go_enter Tryd.func37, Tryd.ntmps37
      go_wp2
      go_ret2
      exact ⟨ret_two (numV_no HN.out).symm HN.out.symm, rfl⟩
    · have HZ := Lib.hid hz
      have hlead : s[0].toNat = 48 → ¬ 1 < s.size := fun h1 h2 => hz ⟨h1, h2⟩
      clear hz hlen
      have hb : (((s[0].toNat : Nat) : Int) == 48) = false ∨ ((((s[0].toNat : Nat) : Int) == 48) = true ∧ ¬ 1 < s.size) := by
        by_cases h1 : s[0].toNat = 48
        · exact .inr ⟨by simp [h1], hlead h1⟩
        · exact .inl (by simp; omega)
      clear hlead
      rcases hb with hb | ⟨hb, h1⟩
      · go_enter Tryd.func37, Tryd.ntmps37
        go_wp2
        go_loop [4, 25] (fun n i => ∃ k : Nat, k ≤ s.size ∧ i = .int .i64 (k : Int) ∧ n = .int .i64 ((valL (s.data.toList.take k) : Nat) : Int) ∧ (s.data.toList.take k).all dig = true) (fun _ i => s.size - (intOf i).toNat)
        case atStart => exact ⟨0, Nat.zero_le _, rfl, rfl, by simp⟩
        case round =>
          obtain ⟨k, hk, rfl, rfl, ha⟩ := hrel
          have hv := valL_small _ ha (by rw [List.length_take, len_bytes]; omega)
          have HA := Lib.hid ha
          clear ha
          by_cases hlt : k < s.size
          · by_cases hd : 48 ≤ s[k].toNat ∧ s[k].toNat ≤ 57
            · have HS := Lib.hid (show valL (s.data.toList.take (k + 1)) = valL (s.data.toList.take k) * 10 + (s[k].toNat - 48) by rw [bytes_take s k hlt, valL_snoc])
              have HD := Lib.hid (all_take_dig hlt HA.out hd)
              obtain ⟨hd1, hd2⟩ := hd
              obtain ⟨v, hvv⟩ : ∃ v, v = valL (s.data.toList.take k) := ⟨_, rfl⟩
              rw [← hvv] at HS hv ⊢
              clear hvv
              go_wp2
              go_round
              case rel => exact ⟨k + 1, by omega, by go_num, by rw [HS.out]; go_num, HD.out⟩
              case measure => simp [intOf]; omega
            · have HN := Lib.hid (not_dig hlt hd)
              have hd' : s[k].toNat < 48 ∨ (48 ≤ s[k].toNat ∧ 57 < s[k].toNat) := by omega
              clear hd
              rcases hd' with hd | ⟨hd1, hd2⟩
              all_goals
                go_wp2
                go_ret2
                exact ⟨ret_two (numV_no HN.out).symm HN.out.symm, rfl⟩
          · obtain rfl : k = s.size := by omega
            have HN := Lib.hid (num_yes h0 h17 HZ.out HA.out)
            go_wp2
            go_ret2
            exact ⟨ret_two (by rw [numV_yes HN.out, List.take_of_length_le (by rw [len_bytes]; omega)]) HN.out.symm, rfl⟩
      · obtain rfl : s = ⟨#[48]⟩ := by
          have hz : s[0] = 48 := UInt8.toNat_inj.1 (by simp only [beq_iff_eq] at hb; show s[0].toNat = 48; omega)
          apply ByteArray.ext
          apply Array.ext
          · show s.size = 1
            omega
          · intro i hi1 hi2
            have : i = 0 := by have : i < 1 := hi2; omega
            subst this
            exact hz
        go_enter Tryd.func37, Tryd.ntmps37
        go_wp2
        refine wp_loop_rounds 2 ?_
        have e0 : (ByteArray.mk #[48])[0].toNat = 48 := rfl
        clear hb h1 hE HZ
        rw [rounds_succ]
        go_wp2
        rw [rounds_succ]
        go_wp2
        go_ret2
        exact ⟨ret_two rfl rfl, rfl⟩
theorem ext_size (s : ByteArray) : (s.extract 1 s.size).size = s.size - 1 := by simp [ByteArray.size_extract]
theorem fold_ge (l : List UInt8) (a : Nat) : a ≤ l.foldl (fun n c => n * 10 + (c.toNat - 48)) a := by
  induction l generalizing a with
  | nil => exact Nat.le_refl _
  | cons c r ih => exact Nat.le_trans (by omega) (ih (a * 10 + (c.toNat - 48)))
theorem val_pos {s : ByteArray} {k : Nat} (h0 : 0 < s.size) (ha : (s.data.toList.take k).all dig = true) (hk : 0 < k) (hz : ¬ s[0].toNat = 48) : 1 ≤ valL (s.data.toList.take k) := by
  have hb := byte_at s 0 h0
  rcases hl : s.data.toList with _ | ⟨c, r⟩
  · rw [hl] at hb; simp at hb
  · rw [hl] at hb ha
    obtain ⟨j, rfl⟩ : ∃ j, k = j + 1 := ⟨k - 1, by omega⟩
    simp only [List.getElem?_cons_zero, Option.some.injEq] at hb
    rw [List.take_succ_cons, List.all_cons, Bool.and_eq_true] at ha
    have h1 : 48 ≤ c.toNat := by have := ha.1; simp only [dig, decide_eq_true_eq] at this; omega
    have h2 : ¬ c.toNat = 48 := by rw [hb]; exact hz
    rw [List.take_succ_cons]
    show 1 ≤ (List.take j r).foldl _ (0 * 10 + (c.toNat - 48))
    exact Nat.le_trans (by omega) (fold_ge _ _)
def NegPost (w : World) (e : Ending) (w' : World) : Prop := ((∃ z : Int, z < 0 ∧ e = .returned (.tuple #[.int .i64 z, .bool true])) ∨ e = .returned (.tuple #[.int .i64 0, .bool false])) ∧ w = w'
set_option maxRecDepth 100000 in
set_option maxHeartbeats 2000000 in
theorem l13Num_neg (s : ByteArray) (w : World) (h0 : 0 < s.size) (hm : s[0].toNat = 45) (hs : s.size ≤ 9223372036854775807) :
    Calls Tryd.prog 44 #[.string s] w (NegPost w) := by
  have hE := not_empty (s := s) h0
  go_enter Tryd.func44, Tryd.ntmps44
  go_wp2
  · go_ret2
    exact ⟨.inr rfl, rfl⟩
  · go_ret2
    exact ⟨.inr rfl, rfl⟩
  · go_ret2
    exact ⟨.inr rfl, rfl⟩
  · go_ret2
    exact ⟨.inr rfl, rfl⟩
  · have h1 : 0 < s.size - 1 := by assumption
    have h17 : ((s.size - 1 : Nat) : Int) ≤ 17 := by assumption
    have hT := Lib.hid (ext_size s)
    have hne := Lib.hid (show ¬ (((s.extract 1 s.size)[0]'(by rw [hT.out]; exact h1)).toNat : Int) = 48 from by assumption)
    go_loop [5, 6] (fun n i => ∃ k : Nat, k ≤ s.size - 1 ∧ i = .int .i64 (k : Int) ∧ n = .int .i64 ((valL ((s.extract 1 s.size).data.toList.take k) : Nat) : Int) ∧ ((s.extract 1 s.size).data.toList.take k).all dig = true) (fun _ i => (s.size - 1) - (intOf i).toNat)
    case atStart => exact ⟨0, Nat.zero_le _, rfl, rfl, by simp⟩
    case round =>
      obtain ⟨k, hk, rfl, rfl, ha⟩ := hrel
      have hv := valL_small _ ha (by rw [List.length_take, len_bytes, hT.out]; omega)
      have HA := Lib.hid ha
      clear ha
      by_cases hlt : k < s.size - 1
      · have hlt' : k < (s.extract 1 s.size).size := by rw [hT.out]; exact hlt
        by_cases hd : 48 ≤ (s.extract 1 s.size)[k].toNat ∧ (s.extract 1 s.size)[k].toNat ≤ 57
        · have HS := Lib.hid (show valL ((s.extract 1 s.size).data.toList.take (k + 1)) = valL ((s.extract 1 s.size).data.toList.take k) * 10 + ((s.extract 1 s.size)[k].toNat - 48) by rw [bytes_take _ k hlt', valL_snoc])
          have HD := Lib.hid (all_take_dig hlt' HA.out hd)
          obtain ⟨hd1, hd2⟩ := hd
          obtain ⟨v, hvv⟩ : ∃ v, v = valL ((s.extract 1 s.size).data.toList.take k) := ⟨_, rfl⟩
          rw [← hvv] at HS hv ⊢
          clear hvv
          go_wp2
          go_round
          case rel => exact ⟨k + 1, by omega, by go_num, by rw [HS.out]; go_num, HD.out⟩
          case measure => simp [intOf]; omega
        · have hd' : (s.extract 1 s.size)[k].toNat < 48 ∨ (48 ≤ (s.extract 1 s.size)[k].toNat ∧ 57 < (s.extract 1 s.size)[k].toNat) := by omega
          clear hd
          rcases hd' with hd | ⟨hd1, hd2⟩
          all_goals
            go_wp2
            go_ret2
            exact ⟨.inr rfl, rfl⟩
      · obtain rfl : k = s.size - 1 := by omega
        have HP := Lib.hid (val_pos (s := s.extract 1 s.size) (by rw [hT.out]; exact h1) HA.out h1 (fun e => hne.out (by rw [e]; rfl)))
        have hp := HP.out
        clear hne
        obtain ⟨v, hvv⟩ : ∃ v, v = valL ((s.extract 1 s.size).data.toList.take (s.size - 1)) := ⟨_, rfl⟩
        rw [← hvv] at hp hv ⊢
        clear hvv
        go_wp2
        go_ret2
        exact ⟨.inl ⟨_, by omega, rfl⟩, rfl⟩
set_option maxRecDepth 100000 in
set_option maxHeartbeats 2000000 in
theorem l13Num_pos (s : ByteArray) (w : World) (hs : s.size ≤ 9223372036854775807) (hneg : ∀ h : 0 < s.size, ¬ s[0].toNat = 45) :
    Calls Tryd.prog 44 #[.string s] w fun e w' => e = .returned (.tuple #[.int .i64 (numV s.data.toList), .bool (numOk s.data.toList)]) ∧ w = w' := by
  by_cases hlen : s.size = 0 ∨ 17 < s.size
  · have hN := num_len hlen
    have HN := Lib.hid hN
    clear hN
    rcases hlen with hlen | hlen
    · obtain rfl : s = ByteArray.empty := by
        apply ByteArray.ext
        apply Array.eq_empty_of_size_eq_zero
        exact hlen
      clear hneg
      go_enter Tryd.func44, Tryd.ntmps44
      go_wp2
      go_ret2
      exact ⟨ret_two (numV_no HN.out).symm HN.out.symm, rfl⟩
    · have hE := not_empty (s := s) (by omega)
      have h0 : 0 < s.size := by omega
      have hn : (((s[0].toNat : Nat) : Int) == 45) = false := by have := hneg h0; simp; omega
      have hz0 : ((s.size : Int) == 0) = false := by simp only [beq_eq_false_iff_ne]; omega
      clear hneg
      go_enter Tryd.func44, Tryd.ntmps44
      go_wp2
      go_ret2
      exact ⟨ret_two (numV_no HN.out).symm HN.out.symm, rfl⟩
  · have h0 : 0 < s.size := by omega
    have h17 : s.size ≤ 17 := by omega
    have hE := not_empty (s := s) h0
    have hn : (((s[0].toNat : Nat) : Int) == 45) = false := by have := hneg h0; simp; omega
    have hz0 : ((s.size : Int) == 0) = false := by simp only [beq_eq_false_iff_ne]; omega
    clear hneg
    by_cases hz : s[0].toNat = 48 ∧ 1 < s.size
    · have HN := Lib.hid (num_lead h0 hz.1 hz.2)
      have hb : (((s[0].toNat : Nat) : Int) == 48) = true := by simp [hz.1]
      have h1 : decide ((1 : Int) < (s.size : Int)) = true := by have := hz.2; simp only [decide_eq_true_eq]; omega
      have h17' : (s.size : Int) ≤ 17 := by omega
      clear hz hlen
      go_enter Tryd.func44, Tryd.ntmps44
      go_wp2
      all_goals
        go_ret2
        exact ⟨ret_two (numV_no HN.out).symm HN.out.symm, rfl⟩
    · have HZ := Lib.hid hz
      have hlead : s[0].toNat = 48 → ¬ 1 < s.size := fun h1 h2 => hz ⟨h1, h2⟩
      clear hz hlen
      have hb : (((s[0].toNat : Nat) : Int) == 48) = false ∨ ((((s[0].toNat : Nat) : Int) == 48) = true ∧ ¬ 1 < s.size) := by
        by_cases h1 : s[0].toNat = 48
        · exact .inr ⟨by simp [h1], hlead h1⟩
        · exact .inl (by simp; omega)
      clear hlead
      rcases hb with hb | ⟨hb, h1⟩
      · go_enter Tryd.func44, Tryd.ntmps44
        go_wp2
        go_loop [5, 6] (fun n i => ∃ k : Nat, k ≤ s.size ∧ i = .int .i64 (k : Int) ∧ n = .int .i64 ((valL (s.data.toList.take k) : Nat) : Int) ∧ (s.data.toList.take k).all dig = true) (fun _ i => s.size - (intOf i).toNat)
        case atStart => exact ⟨0, Nat.zero_le _, rfl, rfl, by simp⟩
        case round =>
          obtain ⟨k, hk, rfl, rfl, ha⟩ := hrel
          have hv := valL_small _ ha (by rw [List.length_take, len_bytes]; omega)
          have HA := Lib.hid ha
          clear ha
          by_cases hlt : k < s.size
          · by_cases hd : 48 ≤ s[k].toNat ∧ s[k].toNat ≤ 57
            · have HS := Lib.hid (show valL (s.data.toList.take (k + 1)) = valL (s.data.toList.take k) * 10 + (s[k].toNat - 48) by rw [bytes_take s k hlt, valL_snoc])
              have HD := Lib.hid (all_take_dig hlt HA.out hd)
              obtain ⟨hd1, hd2⟩ := hd
              obtain ⟨v, hvv⟩ : ∃ v, v = valL (s.data.toList.take k) := ⟨_, rfl⟩
              rw [← hvv] at HS hv ⊢
              clear hvv
              go_wp2
              go_round
              case rel => exact ⟨k + 1, by omega, by go_num, by rw [HS.out]; go_num, HD.out⟩
              case measure => simp [intOf]; omega
            · have HN := Lib.hid (not_dig hlt hd)
              have hd' : s[k].toNat < 48 ∨ (48 ≤ s[k].toNat ∧ 57 < s[k].toNat) := by omega
              clear hd
              rcases hd' with hd | ⟨hd1, hd2⟩
              all_goals
                go_wp2
                go_ret2
                exact ⟨ret_two (numV_no HN.out).symm HN.out.symm, rfl⟩
          · obtain rfl : k = s.size := by omega
            have HN := Lib.hid (num_yes h0 h17 HZ.out HA.out)
            go_wp2
            go_ret2
            exact ⟨ret_two (by rw [numV_yes HN.out, List.take_of_length_le (by rw [len_bytes]; omega)]) HN.out.symm, rfl⟩
      · obtain rfl : s = ⟨#[48]⟩ := by
          have hz : s[0] = 48 := UInt8.toNat_inj.1 (by simp only [beq_iff_eq] at hb; show s[0].toNat = 48; omega)
          apply ByteArray.ext
          apply Array.ext
          · show s.size = 1
            omega
          · intro i hi1 hi2
            have : i = 0 := by have : i < 1 := hi2; omega
            subst this
            exact hz
        go_enter Tryd.func44, Tryd.ntmps44
        go_wp2
        refine wp_loop_rounds 2 ?_
        have e0 : (ByteArray.mk #[48])[0].toNat = 48 := rfl
        clear hb h1 hE HZ hn hz0
        rw [rounds_succ]
        go_wp2
        rw [rounds_succ]
        go_wp2
        go_ret2
        exact ⟨ret_two rfl rfl, rfl⟩
end Go.Proofs.YtlnbhbjibkgjgaaDoor
