/-
  The text of a packet: what the model's l1Text returns. Conditions: the fields are at most 1000000.
-/
import Derived.Test.YtaccbmgbkalknabDoorDec
import Derived.Deep.RegionHeld3
namespace Go.Proofs.YtaccbmgbkalknabDoor
open Go.RowKit

theorem text_eq {A B C D : ByteArray} {la lb lc ld : List UInt8} (hA : A.data.toList = la) (hB : B.data.toList = lb) (hC : C.data.toList = lc) (hD : D.data.toList = ld) :
    (A ++ ⟨#[47]⟩ ++ B ++ ⟨#[58]⟩ ++ C ++ ⟨#[35]⟩ ++ D).data.toList = la ++ 47 :: (lb ++ 58 :: (lc ++ 35 :: ld)) := by
  subst hA hB hC hD
  simp
def textL (a b c d : Nat) : List UInt8 := decF 8 a ++ 47 :: (decF 8 b ++ 58 :: (decF 8 c ++ 35 :: decF 8 d))
theorem text_keep {w0 W w' : World} {B : Nat} {a b c d : Value} (hS : W.cell? ⟨B, 0, none⟩ = some a ∧ W.cell? ⟨B, 1, none⟩ = some b ∧ W.cell? ⟨B, 2, none⟩ = some c ∧ W.cell? ⟨B, 3, none⟩ = some d ∧ B < W.heap.size ∧ Below B w0 W) (h : Below W.heap.size W w') :
    w'.cell? ⟨B, 0, none⟩ = some a ∧ w'.cell? ⟨B, 1, none⟩ = some b ∧ w'.cell? ⟨B, 2, none⟩ = some c ∧ w'.cell? ⟨B, 3, none⟩ = some d ∧ B < w'.heap.size ∧ Below B w0 w' := by
  obtain ⟨h0, h1, h2, h3, hl, hb⟩ := hS
  exact ⟨((bcell h).1 B 0 hl).trans h0, ((bcell h).1 B 1 hl).trans h1, ((bcell h).1 B 2 hl).trans h2, ((bcell h).1 B 3 hl).trans h3, Nat.lt_of_lt_of_le hl h.size, hb.trans (h.mono (Nat.le_of_lt hl))⟩
theorem text_below {w0 W : World} {B : Nat} {a b c d : Value} (hS : W.cell? ⟨B, 0, none⟩ = some a ∧ W.cell? ⟨B, 1, none⟩ = some b ∧ W.cell? ⟨B, 2, none⟩ = some c ∧ W.cell? ⟨B, 3, none⟩ = some d ∧ B < W.heap.size ∧ Below B w0 W) : Below B w0 W := hS.2.2.2.2.2
end Go.Proofs.YtaccbmgbkalknabDoor
