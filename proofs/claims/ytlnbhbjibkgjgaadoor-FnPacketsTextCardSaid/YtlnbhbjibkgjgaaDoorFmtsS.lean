/-
  The model's FormatPackets: what it returns. Conditions: the slice's length fits an int.
-/
import Derived.Test.YtlnbhbjibkgjgaaDoorFmts
namespace Go.Proofs.YtlnbhbjibkgjgaaDoor
open Go.RowKit

theorem strJ_first {ps : List Pkt} {p : Pkt} (hp : ps[0]? = some p) : strJ (ps.take 0) ++ strP p = strJ (ps.take (0 + 1)) := by
  refine str_eq ?_
  rw [bytes_app, strP_data, joinT_first hp]
  rfl
theorem strJ_next {ps : List Pkt} {k : Nat} {p : Pkt} (hk : 0 < k) (hp : ps[k]? = some p) : strJ (ps.take k) ++ ⟨#[32]⟩ ++ strP p = strJ (ps.take (k + 1)) := by
  refine str_eq ?_
  rw [bytes_app, bytes_app, strP_data, joinT_take hk hp]
  show joinT (ps.take k) ++ [32] ++ textP p = _
  simp
theorem ret_str {a b : ByteArray} (h : a = b) : Ending.returned (.string a) = .returned (.string b) := by rw [h]
def FmtSRel (w : World) (ps : List Pkt) (n : Nat) (o i : Value) (wr : World) : Prop :=
  ∃ k : Nat, k ≤ n ∧ i = .int .i64 (k : Int) ∧ o = .string (strJ (ps.take k)) ∧ Below w.heap.size w wr
def FmtNRel (w : World) (o i : Value) (wr : World) : Prop := i = .int .i64 0 ∧ o = .string ⟨#[]⟩ ∧ Below w.heap.size w wr
set_option maxRecDepth 100000 in
set_option maxHeartbeats 4000000 in
theorem fmtsS_yes (A : Option Addr) (n c : Nat) (ps : List Pkt) (w : World) (h : PR w A n ps) (hok : okB ps = true) :
    Calls Tryd.prog 22 #[.slice A n c] w fun e w' => e = .returned (.string (strJ ps)) ∧ Below w.heap.size w w' := by
  have hl : ps.length ≤ 64 := (ok_of hok).1
  have hn64 : n ≤ 64 := by have := h.1; omega
  have H := Lib.hid h
  have HK := Lib.hid hok
  clear h hok
  go_enter Tryd.func22, Tryd.ntmps22
  go_wp2
  go_loopw [3, 4] (fun o i wr => FmtSRel w ps n o i wr) (fun _ i _ => n - (intOf i).toNat)
  case atStart => exact ⟨0, Nat.zero_le _, rfl, by rw [List.take_zero]; rfl, Below.refl _ _⟩
  case round =>
    obtain ⟨k, hk, rfl, rfl, hbl⟩ := hrel
    have hs := strJ_size (ps.take k)
    have hs' : (strJ (ps.take k)).size ≤ 2400 := by have := List.length_take_le k ps; omega
    obtain ⟨T, hT⟩ : ∃ T, T = strJ (ps.take k) := ⟨_, rfl⟩
    rw [← hT] at hs' ⊢
    have HX := Lib.hid hT
    clear hs hT
    by_cases hlt : k < n
    · obtain ⟨b, off, p, rfl, hb, hp, c0, c1, c2, c3⟩ := pr_at (pr_below H.out hbl) hlt
      have HP := Lib.hid hp
      have HV := Lib.hid (ok_at HK.out hp)
      have HB := Lib.hid hbl
      have hsp := strP_size p
      obtain ⟨S, hS⟩ : ∃ S, S = strP p := ⟨_, rfl⟩
      rw [← hS] at hsp
      have HS := Lib.hid hS
      clear hp hbl hS c0 c1 c2 c3 hb
      go_wp2_with fail
      refine (okS_any _ n c ps _ (pr_below H.out HB.out) (by omega)).mono ?_
      rintro e w2 ⟨rfl, hb2⟩
      rw [HK.out]
      have HB2 := Lib.hid (below_seq HB.out hb2)
      clear hb2
      obtain ⟨b', off', p', he, hb, hp, c0, c1, c2, c3⟩ := pr_at (pr_below H.out HB2.out) hlt
      have hbb : b' = b ∧ off' = off := by simpa using he.symm
      obtain ⟨rfl, rfl⟩ := hbb
      have hpp : p' = p := by rw [HP.out] at hp; injection hp with hp; exact hp.symm
      subst hpp
      clear hp he
      by_cases h0 : k = 0
      · subst h0
        simp only [Nat.zero_mul, Nat.add_zero] at c0 c1 c2 c3
        have y1 : ¬ 9223372036854775807 < T.size + S.size := by omega
        go_wp2_with fail
        refine (l1Text_pkt p' _ HV.out).mono ?_
        rintro e w3 ⟨rfl, hb3⟩
        rw [← HS.out]
        have HB3 := Lib.hid (below_seq HB2.out hb3)
        clear hb3
        go_wp2
        go_roundw
        case rel => exact ⟨0 + 1, by omega, by go_num, by rw [HX.out, HS.out, strJ_first HP.out], HB3.out⟩
        case measure => simp [intOf]; omega
      · have hk0 : (0 : Int) < (k : Int) := by omega
        have y1 : ¬ 9223372036854775807 < T.size + 1 := by omega
        have y2 : ¬ 9223372036854775807 < T.size + 1 + S.size := by omega
        go_wp2_with fail
        refine (l1Text_pkt p' _ HV.out).mono ?_
        rintro e w3 ⟨rfl, hb3⟩
        rw [← HS.out]
        have HB3 := Lib.hid (below_seq HB2.out hb3)
        clear hb3
        go_wp2
        go_roundw
        case rel => exact ⟨k + 1, by omega, by go_num, by rw [HX.out, HS.out, strJ_next (by omega) HP.out], HB3.out⟩
        case measure => simp [intOf]; omega
    · obtain rfl : k = n := by omega
      have HB := Lib.hid hbl
      clear hbl
      go_wp2
      go_ret
      exact ⟨ret_str (by rw [HX.out, List.take_of_length_le (by have := H.out.1; omega)]), HB.out⟩
set_option maxRecDepth 100000 in
set_option maxHeartbeats 1000000 in
theorem fmtsS_no (A : Option Addr) (n c : Nat) (ps : List Pkt) (w : World) (h : PR w A n ps) (hn : n ≤ 9223372036854775807) (hok : okB ps = false) :
    Calls Tryd.prog 22 #[.slice A n c] w fun e w' => e = .returned (.string ⟨#[]⟩) ∧ Below w.heap.size w w' := by
  have hn0 : 0 < n := by
    rcases Nat.eq_zero_or_pos n with h0 | h0
    · exfalso
      have hnil : ps = [] := List.eq_nil_of_length_eq_zero (by have := h.1; omega)
      rw [hnil] at hok
      cases hok
    · exact h0
  have H := Lib.hid h
  have HK := Lib.hid hok
  clear h hok
  go_enter Tryd.func22, Tryd.ntmps22
  go_wp2
  go_loopw [3, 4] (fun o i wr => FmtNRel w o i wr) (fun _ _ _ => 0)
  case atStart => exact ⟨rfl, rfl, Below.refl _ _⟩
  case round =>
    obtain ⟨rfl, rfl, hbl⟩ := hrel
    have HB := Lib.hid hbl
    clear hbl
    go_wp2_with fail
    refine (okS_any _ n c ps _ (pr_below H.out HB.out) hn).mono ?_
    rintro e w2 ⟨rfl, hb2⟩
    rw [HK.out]
    have HB2 := Lib.hid (below_seq HB.out hb2)
    clear hb2
    go_wp2
    go_ret
    exact ⟨rfl, HB2.out⟩
end Go.Proofs.YtlnbhbjibkgjgaaDoor
