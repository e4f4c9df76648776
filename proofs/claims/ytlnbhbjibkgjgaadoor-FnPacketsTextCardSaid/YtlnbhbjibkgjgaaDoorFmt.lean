/-
  FormatPacket: what the program's function and the model's return. Conditions: strconv's table holds what the library lays.
-/
import Derived.Test.YtlnbhbjibkgjgaaDoorText
import Derived.Test.YtlnbhbjibkgjgaaDoorC1
import Derived.Test.YtlnbhbjibkgjgaaDoorShelf
import Derived.WalkSmall
import Derived.Deep.RegionHeld3
namespace Go.Proofs.YtlnbhbjibkgjgaaDoor
open Go.RowKit

theorem dec_lib : ∀ (f n : Nat), n < 10 ^ (f + 1) → Lib.decDigits n = decF (f + 1) n := by
  intro f
  induction f with
  | zero =>
    intro n h
    have h10 : n < 10 := by simpa using h
    rw [Lib.decDigits, decF, dif_pos h10, if_pos h10]; simp
  | succ f ih =>
    intro n h
    rw [Lib.decDigits, decF]
    by_cases h10 : n < 10
    · rw [dif_pos h10, if_pos h10]; simp
    · rw [dif_neg h10, if_neg h10, ih (n / 10) (by rw [Nat.pow_succ] at h; omega)]; simp
def Tab (w : World) : Prop := Lib.TabIs Tryd.prog w "internal/strconv.uint64pow10" .u64 Lib.pow10Tab ∧ 1 < w.heap.size
theorem gPow : Tryd.prog.globalNamed "internal/strconv.uint64pow10" = some 1 := by kernel_rfl
theorem tab_below {w w' : World} (h : Tab w) (hb : Below w.heap.size w w') : Tab w' := ⟨var?_below hb gPow h.2 h.1, Nat.lt_of_lt_of_le h.2 hb.size⟩
theorem below_grow (w : World) (k : Nat) (os : Array Obj) : Below w.heap.size w (Go.Sort.grow (w.drewN k) os) :=
  ⟨rfl, rfl, rfl, by simp [Go.Sort.grow, World.drewN], fun i hi => by
    simp only [Go.Sort.grow, World.drewN]
    rw [Array.getElem?_append_left hi]⟩
theorem itoa_ex (n : Nat) (hn : n ≤ 9999) : ∃ A : ByteArray, A.size ≤ 8 ∧ A.data.toList = decF 8 n ∧ ∀ W : World, Tab W → Calls Tryd.prog 35 #[.int .i64 (n : Int)] W fun e w' => e = .returned (.string A) ∧ Below W.heap.size W w' := by
  refine ⟨⟨(decF 8 n).toArray⟩, by show (decF 8 n).toArray.size ≤ 8; simpa using decF_len 8 n, rfl, fun W hW => ?_⟩
  refine (Tryd.strconv_Itoa (n : Int) (by omega) (by omega) W hW.1).mono ?_
  rintro e w' ⟨rfl, k, os, rfl⟩
  refine ⟨?_, below_grow W k os⟩
  have e1 : Lib.itoa (n : Int) = decF 8 n := by
    rw [Lib.itoa, if_neg (by omega), Int.toNat_natCast]
    exact dec_lib 7 n (by have : (10 : Nat) ^ (7 + 1) = 100000000 := rfl; omega)
  rw [e1]
theorem fmt_keep {w0 W w' : World} {B : Nat} {a b c d : Value} (hS : W.cell? ⟨B, 0, none⟩ = some a ∧ W.cell? ⟨B, 1, none⟩ = some b ∧ W.cell? ⟨B, 2, none⟩ = some c ∧ W.cell? ⟨B, 3, none⟩ = some d ∧ B < W.heap.size ∧ Below B w0 W ∧ Tab W) (h : Below W.heap.size W w') :
    w'.cell? ⟨B, 0, none⟩ = some a ∧ w'.cell? ⟨B, 1, none⟩ = some b ∧ w'.cell? ⟨B, 2, none⟩ = some c ∧ w'.cell? ⟨B, 3, none⟩ = some d ∧ B < w'.heap.size ∧ Below B w0 w' ∧ Tab w' := by
  obtain ⟨h0, h1, h2, h3, hl, hb, ht⟩ := hS
  exact ⟨((bcell h).1 B 0 hl).trans h0, ((bcell h).1 B 1 hl).trans h1, ((bcell h).1 B 2 hl).trans h2, ((bcell h).1 B 3 hl).trans h3, Nat.lt_of_lt_of_le hl h.size, hb.trans (h.mono (Nat.le_of_lt hl)), tab_below ht h⟩
theorem fmt_tab {w0 W : World} {B : Nat} {a b c d : Value} (hS : W.cell? ⟨B, 0, none⟩ = some a ∧ W.cell? ⟨B, 1, none⟩ = some b ∧ W.cell? ⟨B, 2, none⟩ = some c ∧ W.cell? ⟨B, 3, none⟩ = some d ∧ B < W.heap.size ∧ Below B w0 W ∧ Tab W) : Tab W := hS.2.2.2.2.2.2
theorem fmt_below {w0 W : World} {B : Nat} {a b c d : Value} (hS : W.cell? ⟨B, 0, none⟩ = some a ∧ W.cell? ⟨B, 1, none⟩ = some b ∧ W.cell? ⟨B, 2, none⟩ = some c ∧ W.cell? ⟨B, 3, none⟩ = some d ∧ B < W.heap.size ∧ Below B w0 W ∧ Tab W) : Below B w0 W := hS.2.2.2.2.2.1
set_option maxRecDepth 100000 in
set_option maxHeartbeats 2000000 in
theorem fmtI_yes (a b c d : Nat) (w : World) (hv : vldB ⟨a, b, c, d⟩ = true) (ht : Tab w) :
    Calls Tryd.prog 11 #[.agg #[.int .i64 (a : Int), .int .i64 (b : Int), .int .i64 (c : Int), .int .i64 (d : Int)]] w fun e w' => e = .returned (.string ⟨(textL a b c d).toArray⟩) ∧ Below w.heap.size w w' := by
  have hb : a ≤ 9999 ∧ b ≤ 9999 ∧ c ≤ 9999 ∧ d ≤ 9999 := by
    simp only [vldB, decide_eq_true_eq] at hv
    omega
  obtain ⟨A, hA, eA, cA⟩ := itoa_ex a hb.1
  obtain ⟨B, hB, eB, cB⟩ := itoa_ex b hb.2.1
  obtain ⟨C, hC, eC, cC⟩ := itoa_ex c hb.2.2.1
  obtain ⟨D, hD, eD, cD⟩ := itoa_ex d hb.2.2.2
  have E := Lib.hid (And.intro eA (And.intro eB (And.intro eC eD)))
  have KA := Lib.hid cA
  have KB := Lib.hid cB
  have KC := Lib.hid cC
  have KD := Lib.hid cD
  have HV := Lib.hid hv
  clear eA eB eC eD cA cB cC cD hb hv
  have y1 : ¬ 9223372036854775807 < A.size + 1 := by omega
  have y2 : ¬ 9223372036854775807 < A.size + 1 + B.size := by omega
  have y3 : ¬ 9223372036854775807 < A.size + 1 + B.size + 1 := by omega
  have y4 : ¬ 9223372036854775807 < A.size + 1 + B.size + 1 + C.size := by omega
  have y5 : ¬ 9223372036854775807 < A.size + 1 + B.size + 1 + C.size + 1 := by omega
  have y6 : ¬ 9223372036854775807 < A.size + 1 + B.size + 1 + C.size + 1 + D.size := by omega
  go_enter Tryd.func11, Tryd.ntmps11
  go_wp2_with fail
  refine (vldI_any ⟨a, b, c, d⟩ _).mono ?_
  rintro e w1 ⟨rfl, hb1⟩
  rw [HV.out]
  obtain ⟨q0, q1, q2, q3⟩ := (show PAt w1 w.heap.size 0 ⟨a, b, c, d⟩ from pat_keep (pat_new w 24 ⟨a, b, c, d⟩) fun x => (bcell hb1).1 _ x (by simp))
  have hlt : w.heap.size < w1.heap.size := by have := hb1.size; simp at this; omega
  have hB1 : Below w.heap.size w w1 := below_from (below_alloc (Below.refl _ _) _) hb1 (by simp)
  have hT1 : Tab w1 := tab_below ht hB1
  have hB1' : Below w.heap.size w w1.drew := hB1.drew
  have hT1' : Tab w1.drew := hT1
  clear hb1
  go_wp2_with fail
  go_region_held3 (fun w' => w'.cell? ⟨w.heap.size, 0, none⟩ = some (.int .i64 (a : Int)) ∧ w'.cell? ⟨w.heap.size, 1, none⟩ = some (.int .i64 (b : Int)) ∧ w'.cell? ⟨w.heap.size, 2, none⟩ = some (.int .i64 (c : Int)) ∧ w'.cell? ⟨w.heap.size, 3, none⟩ = some (.int .i64 (d : Int)) ∧ w.heap.size < w'.heap.size ∧ Below w.heap.size w w' ∧ Tab w')
    (first | go_keep | assumption | (go_split_ands; refine ⟨?_, ?_, ?_, ?_, ?_, ?_, ?_⟩ <;> assumption))
    ((go_at_call 35; (first | (with_reducible refine (KA.out _ ?_).mono ?_) | (with_reducible refine (KB.out _ ?_).mono ?_) | (with_reducible refine (KC.out _ ?_).mono ?_) | (with_reducible refine (KD.out _ ?_).mono ?_)); (exact fmt_tab (B := w.heap.size) (w0 := w) (a := .int .i64 (a : Int)) (b := .int .i64 (b : Int)) (c := .int .i64 (c : Int)) (d := .int .i64 (d : Int)) (by assumption)); rintro e w' ⟨rfl, hbl⟩; have hSS := fmt_keep (B := w.heap.size) (w0 := w) (a := .int .i64 (a : Int)) (b := .int .i64 (b : Int)) (c := .int .i64 (c : Int)) (d := .int .i64 (d : Int)) (by assumption) hbl; clear hbl))
  have hfin := fmt_below (B := w.heap.size) (w0 := w) (a := .int .i64 (a : Int)) (b := .int .i64 (b : Int)) (c := .int .i64 (c : Int)) (d := .int .i64 (d : Int)) (by assumption)
  have HF := Lib.hid hfin
  clear hfin
  go_wp2
  go_ret
  have e := str_eq (text_eq E.out.1 E.out.2.1 E.out.2.2.1 E.out.2.2.2)
  have r := congrArg (fun x => Ending.returned (.string x)) e
  exact ⟨r, HF.out⟩
set_option maxRecDepth 100000 in
set_option maxHeartbeats 400000 in
theorem fmtI_no (p : Pkt) (w : World) (hv : vldB p = false) :
    Calls Tryd.prog 11 #[.agg #[.int .i64 p.peer, .int .i64 p.lane, .int .i64 p.size, .int .i64 p.id]] w fun e w' => e = .returned (.string ⟨#[]⟩) ∧ Below w.heap.size w w' := by
  have HV := Lib.hid hv
  clear hv
  go_enter Tryd.func11, Tryd.ntmps11
  go_wp2_with fail
  refine (vldI_any p _).mono ?_
  rintro e w1 ⟨rfl, hb1⟩
  rw [HV.out]
  have HB1 := Lib.hid (below_from (below_alloc (Below.refl _ _) _) hb1 (by simp))
  clear hb1
  go_wp2
  go_ret
  exact ⟨rfl, HB1.out⟩
end Go.Proofs.YtlnbhbjibkgjgaaDoor
