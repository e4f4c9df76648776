/-
  FormatPacket: what the program's function and the model's return. Conditions: strconv's table holds what the library lays.
-/
import Derived.Test.YtaccbmgbkalknabDoorText
import Derived.Test.YtaccbmgbkalknabDoorC1
import Derived.Test.YtaccbmgbkalknabDoorShelf
import Derived.WalkSmall
import Derived.Deep.RegionHeld3
namespace Go.Proofs.YtaccbmgbkalknabDoor
open Go.RowKit

theorem dec_lib : ∀ (f n : Nat), n < 10 ^ (f + 1) → Lib.decDigits n = decF (f + 1) n := by
  intro f
  induction f with
  | zero =>
    intro n h
    have h10 : n < 10 := by simpa using h
    rw [Lib.decDigits, decF, dif_pos h10, if_pos h10]; simp
  | succ f ih =>
    intro n h
    rw [Lib.decDigits, decF]
    by_cases h10 : n < 10
    · rw [dif_pos h10, if_pos h10]; simp
    · rw [dif_neg h10, if_neg h10, ih (n / 10) (by rw [Nat.pow_succ] at h; omega)]; simp
def Tab (w : World) : Prop := Lib.TabIs Tryd.prog w "internal/strconv.uint64pow10" .u64 Lib.pow10Tab ∧ 1 < w.heap.size
theorem gPow : Tryd.prog.globalNamed "internal/strconv.uint64pow10" = some 1 := by kernel_rfl
theorem tab_below {w w' : World} (h : Tab w) (hb : Below w.heap.size w w') : Tab w' := ⟨var?_below hb gPow h.2 h.1, Nat.lt_of_lt_of_le h.2 hb.size⟩
theorem below_grow (w : World) (k : Nat) (os : Array Obj) : Below w.heap.size w (Go.Sort.grow (w.drewN k) os) :=
  ⟨rfl, rfl, rfl, by simp [Go.Sort.grow, World.drewN], fun i hi => by
    simp only [Go.Sort.grow, World.drewN]
    rw [Array.getElem?_append_left hi]⟩
theorem itoa_big (n : Nat) (hn : n ≤ 10000000) : ∃ A : ByteArray, A.size ≤ 8 ∧ A.data.toList = decF 8 n ∧ ∀ W : World, Tab W → Calls Tryd.prog 19 #[.int .i64 (n : Int)] W fun e w' => e = .returned (.string A) ∧ Below W.heap.size W w' := by
  refine ⟨⟨(decF 8 n).toArray⟩, by show (decF 8 n).toArray.size ≤ 8; simpa using decF_len 8 n, rfl, fun W hW => ?_⟩
  refine (Tryd.strconv_Itoa (n : Int) (by omega) (by omega) W hW.1).mono ?_
  rintro e w' ⟨rfl, k, os, rfl⟩
  refine ⟨?_, below_grow W k os⟩
  have e1 : Lib.itoa (n : Int) = decF 8 n := by
    rw [Lib.itoa, if_neg (by omega), Int.toNat_natCast]
    exact dec_lib 7 n (by have : (10 : Nat) ^ (7 + 1) = 100000000 := rfl; omega)
  rw [e1]
theorem itoa_ex (n : Nat) (hn : n ≤ 9999) : ∃ A : ByteArray, A.size ≤ 8 ∧ A.data.toList = decF 8 n ∧ ∀ W : World, Tab W → Calls Tryd.prog 19 #[.int .i64 (n : Int)] W fun e w' => e = .returned (.string A) ∧ Below W.heap.size W w' := itoa_big n (by omega)
theorem fmt_keep {w0 W w' : World} {B : Nat} {a b c d : Value} (hS : W.cell? ⟨B, 0, none⟩ = some a ∧ W.cell? ⟨B, 1, none⟩ = some b ∧ W.cell? ⟨B, 2, none⟩ = some c ∧ W.cell? ⟨B, 3, none⟩ = some d ∧ B < W.heap.size ∧ Below B w0 W ∧ Tab W) (h : Below W.heap.size W w') :
    w'.cell? ⟨B, 0, none⟩ = some a ∧ w'.cell? ⟨B, 1, none⟩ = some b ∧ w'.cell? ⟨B, 2, none⟩ = some c ∧ w'.cell? ⟨B, 3, none⟩ = some d ∧ B < w'.heap.size ∧ Below B w0 w' ∧ Tab w' := by
  obtain ⟨h0, h1, h2, h3, hl, hb, ht⟩ := hS
  exact ⟨((bcell h).1 B 0 hl).trans h0, ((bcell h).1 B 1 hl).trans h1, ((bcell h).1 B 2 hl).trans h2, ((bcell h).1 B 3 hl).trans h3, Nat.lt_of_lt_of_le hl h.size, hb.trans (h.mono (Nat.le_of_lt hl)), tab_below ht h⟩
theorem fmt_tab {w0 W : World} {B : Nat} {a b c d : Value} (hS : W.cell? ⟨B, 0, none⟩ = some a ∧ W.cell? ⟨B, 1, none⟩ = some b ∧ W.cell? ⟨B, 2, none⟩ = some c ∧ W.cell? ⟨B, 3, none⟩ = some d ∧ B < W.heap.size ∧ Below B w0 W ∧ Tab W) : Tab W := hS.2.2.2.2.2.2
theorem fmt_below {w0 W : World} {B : Nat} {a b c d : Value} (hS : W.cell? ⟨B, 0, none⟩ = some a ∧ W.cell? ⟨B, 1, none⟩ = some b ∧ W.cell? ⟨B, 2, none⟩ = some c ∧ W.cell? ⟨B, 3, none⟩ = some d ∧ B < W.heap.size ∧ Below B w0 W ∧ Tab W) : Below B w0 W := hS.2.2.2.2.2.1
end Go.Proofs.YtaccbmgbkalknabDoor
