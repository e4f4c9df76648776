/-
  Chapter 6: LanesValid of the model. Conditions: none.
  Conditions: each lemma says them.
-/
import Derived.Test.YtanaeebjcbbagaaKkZ1
import Derived.Deep.RegionWith
namespace Go.Proofs.Ytanaeebjcbbagaa
open Go.RowKit
def WtOk (us : List Int) : Prop := us.length = 4 ∧ ∀ (k : Nat) (y : Int), us[k]? = some y → 1 ≤ y ∧ y ≤ 9
open Classical in
noncomputable def wtB (us : List Int) : Bool := decide (WtOk us)
theorem wt_yes {us : List Int} (h : WtOk us) : wtB us = true := by simp [wtB, h]
theorem wt_no {us : List Int} (h : ¬ WtOk us) : wtB us = false := by simp [wtB, h]
def WtRel (w : World) (us : List Int) (n : Nat) (i : Value) (wr : World) : Prop := ∃ k : Nat, k ≤ n ∧ i = .int .i64 (k : Int) ∧ (∀ (j : Nat) (y : Int), j < k → us[j]? = some y → 1 ≤ y ∧ y ≤ 9) ∧ Below w.heap.size w wr
set_option maxRecDepth 100000 in
set_option maxHeartbeats 1000000 in
theorem wtS_any (A : Option Addr) (n c : Nat) (us : List Int) (w : World) (h : NR w A n us) (n4 : n ≤ 4000000000) :
    Calls Try.prog 64 #[.slice A n c] w fun e w' => e = .returned (.bool (wtB us)) ∧ Below w.heap.size w w' := by
  have H := Lib.hid h
  have HL := Lib.hid h.1
  clear h
  go_enter Try.func64, Try.ntmps64
  go_wp2
  go_loopw [3] (fun i wr => WtRel w us n i wr) (fun i _ => n - (intOf i).toNat)
  case atStart => exact ⟨0, Nat.zero_le _, rfl, fun j _ hj => absurd hj (by omega), Below.refl _ _⟩
  case round =>
    obtain ⟨k, hk, rfl, hW, hbl⟩ := hrel
    have HW := Lib.hid hW
    have BL := Lib.hid hbl
    by_cases hlt : k < n
    · obtain ⟨b1, f1, y, rfl, hb1, hy, c1'⟩ := nr_at (nr_below H.out hbl) hlt
      have HY := Lib.hid hy
      have k0 : (0 : Int) ≤ (k : Int) := by omega
      have k1 : (k : Int) < (n : Int) := by omega
      clear hW hbl hy
      by_cases h1 : y < 1
      · have HE := Lib.hid (show false = wtB us from (wt_no fun h => by have := h.2 k y HY.out; omega).symm)
        have t1 : decide (y < 1) = true := decide_eq_true h1
        clear h1
        go_wp2
        go_ret
        exact ⟨ret_bool HE.out, BL.out⟩
      · have t1 : decide (y < 1) = false := decide_eq_false h1
        by_cases h2 : 9 < y
        · have HE := Lib.hid (show false = wtB us from (wt_no fun h => by have := h.2 k y HY.out; omega).symm)
          have t2 : decide (9 < y) = true := decide_eq_true h2
          clear h1 h2
          go_wp2
          go_ret
          exact ⟨ret_bool HE.out, BL.out⟩
        · have t2 : decide (9 < y) = false := decide_eq_false h2
          have HS := Lib.hid (show ∀ (j : Nat) (z : Int), j < k + 1 → us[j]? = some z → 1 ≤ z ∧ z ≤ 9 from fun j z hj e => by
            by_cases ej : j = k
            · subst ej
              obtain rfl := Option.some.inj (HY.out.symm.trans e)
              omega
            · exact HW.out j z (by omega) e)
          clear h1 h2
          go_wp2
          go_roundw
          case rel => exact ⟨k + 1, by omega, by go_num, HS.out, BL.out⟩
          case measure => simp [intOf]; omega
    · obtain rfl : k = n := by omega
      by_cases h4 : k = 4
      · have HE := Lib.hid (show true = wtB us from (wt_yes ⟨by have := HL.out; omega, fun j z e => hW j z (by have := get_lt e; have := HL.out; omega) e⟩).symm)
        have t4 : ((k : Int) == 4) = true := by simp [h4]
        clear hW hbl h4
        go_wp2
        go_ret
        exact ⟨ret_bool HE.out, BL.out⟩
      · have HE := Lib.hid (show false = wtB us from (wt_no fun h => by have := h.1; have := HL.out; omega).symm)
        have t4 : ((k : Int) == 4) = false := by simp; omega
        clear hW hbl h4
        go_wp2
        go_ret
        exact ⟨ret_bool HE.out, BL.out⟩
end Go.Proofs.Ytanaeebjcbbagaa
