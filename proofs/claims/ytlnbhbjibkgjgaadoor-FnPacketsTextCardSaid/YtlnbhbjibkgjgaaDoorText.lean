/-
  The text of a packet: what the model's l1Text returns. Conditions: the fields are at most 1000000.
-/
import Derived.Test.YtlnbhbjibkgjgaaDoorDec
import Derived.Deep.RegionHeld3
namespace Go.Proofs.YtlnbhbjibkgjgaaDoor
open Go.RowKit

theorem text_eq {A B C D : ByteArray} {la lb lc ld : List UInt8} (hA : A.data.toList = la) (hB : B.data.toList = lb) (hC : C.data.toList = lc) (hD : D.data.toList = ld) :
    (A ++ ⟨#[47]⟩ ++ B ++ ⟨#[58]⟩ ++ C ++ ⟨#[35]⟩ ++ D).data.toList = la ++ 47 :: (lb ++ 58 :: (lc ++ 35 :: ld)) := by
  subst hA hB hC hD
  simp
def textL (a b c d : Nat) : List UInt8 := decF 8 a ++ 47 :: (decF 8 b ++ 58 :: (decF 8 c ++ 35 :: decF 8 d))
theorem text_keep {w0 W w' : World} {B : Nat} {a b c d : Value} (hS : W.cell? ⟨B, 0, none⟩ = some a ∧ W.cell? ⟨B, 1, none⟩ = some b ∧ W.cell? ⟨B, 2, none⟩ = some c ∧ W.cell? ⟨B, 3, none⟩ = some d ∧ B < W.heap.size ∧ Below B w0 W) (h : Below W.heap.size W w') :
    w'.cell? ⟨B, 0, none⟩ = some a ∧ w'.cell? ⟨B, 1, none⟩ = some b ∧ w'.cell? ⟨B, 2, none⟩ = some c ∧ w'.cell? ⟨B, 3, none⟩ = some d ∧ B < w'.heap.size ∧ Below B w0 w' := by
  obtain ⟨h0, h1, h2, h3, hl, hb⟩ := hS
  exact ⟨((bcell h).1 B 0 hl).trans h0, ((bcell h).1 B 1 hl).trans h1, ((bcell h).1 B 2 hl).trans h2, ((bcell h).1 B 3 hl).trans h3, Nat.lt_of_lt_of_le hl h.size, hb.trans (h.mono (Nat.le_of_lt hl))⟩
theorem text_below {w0 W : World} {B : Nat} {a b c d : Value} (hS : W.cell? ⟨B, 0, none⟩ = some a ∧ W.cell? ⟨B, 1, none⟩ = some b ∧ W.cell? ⟨B, 2, none⟩ = some c ∧ W.cell? ⟨B, 3, none⟩ = some d ∧ B < W.heap.size ∧ Below B w0 W) : Below B w0 W := hS.2.2.2.2.2
theorem dec_ex (n : Nat) (hn : n ≤ 1000000) : ∃ A : ByteArray, A.size ≤ 8 ∧ A.data.toList = decF 8 n ∧ ∀ W : World, Calls Tryd.prog 59 #[.int .i64 (n : Int)] W fun e w' => e = .returned (.string A) ∧ Below W.heap.size W w' :=
  ⟨_, by show (decF 8 n).toArray.size ≤ 8; simpa using decF_len 8 n, rfl, fun W => l13Dec_any n W hn⟩
set_option maxRecDepth 100000 in
set_option maxHeartbeats 2000000 in
theorem l1Text_any (a b c d : Nat) (w : World) (ha : a ≤ 1000000) (hb : b ≤ 1000000) (hc : c ≤ 1000000) (hd : d ≤ 1000000) :
    Calls Tryd.prog 39 #[.agg #[.int .i64 (a : Int), .int .i64 (b : Int), .int .i64 (c : Int), .int .i64 (d : Int)]] w fun e w' => e = .returned (.string ⟨(textL a b c d).toArray⟩) ∧ Below w.heap.size w w' := by
  have hb0 : Below w.heap.size w (w.alloc (.cells #[.int .i64 (a : Int), .int .i64 (b : Int), .int .i64 (c : Int), .int .i64 (d : Int)] 24)).drew := (below_alloc (Below.refl w.heap.size w) _).drew
  obtain ⟨A, hA, eA, cA⟩ := dec_ex a ha
  obtain ⟨B, hB, eB, cB⟩ := dec_ex b hb
  obtain ⟨C, hC, eC, cC⟩ := dec_ex c hc
  obtain ⟨D, hD, eD, cD⟩ := dec_ex d hd
  have E := Lib.hid (And.intro eA (And.intro eB (And.intro eC eD)))
  have KA := Lib.hid cA
  have KB := Lib.hid cB
  have KC := Lib.hid cC
  have KD := Lib.hid cD
  clear eA eB eC eD cA cB cC cD ha hb hc hd
  have y1 : ¬ 9223372036854775807 < A.size + 1 := by omega
  have y2 : ¬ 9223372036854775807 < A.size + 1 + B.size := by omega
  have y3 : ¬ 9223372036854775807 < A.size + 1 + B.size + 1 := by omega
  have y4 : ¬ 9223372036854775807 < A.size + 1 + B.size + 1 + C.size := by omega
  have y5 : ¬ 9223372036854775807 < A.size + 1 + B.size + 1 + C.size + 1 := by omega
  have y6 : ¬ 9223372036854775807 < A.size + 1 + B.size + 1 + C.size + 1 + D.size := by omega
  go_enter Tryd.func39, Tryd.ntmps39
  go_wp2_with fail
  go_region_held3 (fun w' => w'.cell? ⟨w.heap.size, 0, none⟩ = some (.int .i64 (a : Int)) ∧ w'.cell? ⟨w.heap.size, 1, none⟩ = some (.int .i64 (b : Int)) ∧ w'.cell? ⟨w.heap.size, 2, none⟩ = some (.int .i64 (c : Int)) ∧ w'.cell? ⟨w.heap.size, 3, none⟩ = some (.int .i64 (d : Int)) ∧ w.heap.size < w'.heap.size ∧ Below w.heap.size w w')
    (first | go_keep | assumption | (go_split_ands; refine ⟨?_, ?_, ?_, ?_, ?_, ?_⟩ <;> assumption))
    ((go_at_call 59; (first | (with_reducible refine (KA.out _).mono ?_) | (with_reducible refine (KB.out _).mono ?_) | (with_reducible refine (KC.out _).mono ?_) | (with_reducible refine (KD.out _).mono ?_)); rintro e w' ⟨rfl, hbl⟩; have hSS := text_keep (B := w.heap.size) (w0 := w) (a := .int .i64 (a : Int)) (b := .int .i64 (b : Int)) (c := .int .i64 (c : Int)) (d := .int .i64 (d : Int)) (by assumption) hbl; clear hbl))
  have hfin := text_below (B := w.heap.size) (w0 := w) (a := .int .i64 (a : Int)) (b := .int .i64 (b : Int)) (c := .int .i64 (c : Int)) (d := .int .i64 (d : Int)) (by assumption)
  have HF := Lib.hid hfin
  clear hfin
  go_wp2
  go_ret
  have e := str_eq (text_eq E.out.1 E.out.2.1 E.out.2.2.1 E.out.2.2.2)
  have r := congrArg (fun x => Ending.returned (.string x)) e
  exact ⟨r, HF.out⟩
end Go.Proofs.YtlnbhbjibkgjgaaDoor
