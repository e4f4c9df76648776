/-
  What the exact laws do with lanes: sizes, copies, comparison. Conditions: an argument has at most 1048576 robins, flows, packets and numbers. What the exact laws do with lanes: marks. Conditions: at most 1048576 robins, flows, packets and numbers.
  Conditions: each lemma says them.
-/
import Derived.Test.YtanaeebjcbbagaaKiZ1
import Derived.Test.YtanaeebjcbbagaaKhZ1
import Derived.Test.YtanaeebjcbbagaaKlZ1
namespace Go.Proofs.Ytanaeebjcbbagaa
open Go.RowKit
end Go.Proofs.Ytanaeebjcbbagaa
namespace Go.Proofs.Ytanaeebjcbbagaa
open Go.RowKit
structure In6 (hi : Nat) (vA vB vC : Value) (iv : Nat → Nat × Nat) : Prop where
  a : ∀ b, vA.ownBlock = some b → b < hi
  b : ∀ b, vB.ownBlock = some b → b < hi
  c : ∀ b, vC.ownBlock = some b → b < hi
  i : ∀ k, (iv k).2 ≤ hi
def LI (lo hi : Nat) (vA : Value) (n : Nat) (vB : Value) (m : Nat) (vC : Value) (o : Nat) (hs : List Rh) (iv : Nat → Nat × Nat) (l : Ln) (w : World) : Prop :=
  LO w lo vA n vB m vC o hs iv l ∧ In6 hi vA vB vC iv
section
variable {w w' : World} {lo hi n m o : Nat} {vA vB vC : Value} {hs : List Rh} {iv : Nat → Nat × Nat} {l : Ln}
theorem li_all (h : LO w lo vA n vB m vC o hs iv l) : LI lo w.heap.size vA n vB m vC o hs iv l w := ⟨h, fun b e => (h.r.row.lt b e).2, fun b e => (h.b.lt b e).2, fun b e => (h.c.lt b e).2, h.r.top⟩
theorem li_loc (h : LI lo hi vA n vB m vC o hs iv l w) (hs' : w.heap.size ≤ w'.heap.size) (hb : ∀ b, lo ≤ b → b < hi → w'.heap[b]? = w.heap[b]?) : LI lo hi vA n vB m vC o hs iv l w' :=
  ⟨⟨⟨own_loc h.1.r.row h.2.a hb, h.1.r.len, fun k hk q r e1 e2 => by
    obtain ⟨a1, a2, a3, fh, a4⟩ := h.1.r.all k hk q r e1 e2
    exact ⟨a1, a2, a3, fh, doi_loc (lo := (iv k).1) (hi := (iv k).2) a4 fun b h1 h2 => hb b (by omega) (by have := h.2.i k; omega)⟩, h.1.r.off, h.1.r.apart, fun k => Nat.le_trans (h.1.r.top k) hs'⟩,
    own_loc h.1.b h.2.b hb, own_loc h.1.c h.2.c hb, h.1.ab, h.1.ac, h.1.bc⟩, h.2⟩
theorem at_li (h : LI lo hi vA n vB m vC o hs iv l w) (hf : hi ≤ w.heap.size) : At lo hi (LI lo hi vA n vB m vC o hs iv l) w := ⟨h, hf, fun _ h1 h2 => li_loc h h1 h2⟩
theorem li_lr {A B C : Option Addr} {c d f : Nat} (h : LI lo hi (.slice A n c) n (.slice B m d) m (.slice C o f) o hs iv l w) (hn : n ≤ 4000000000) (hm : m ≤ 4000000000) (ho : o ≤ 4000000000) : LR w A n B m C o l := lo_lr h.1 hn hm ho
end
theorem fm_li {w3 w1 w2 : World} {L : List Iv} {s : Nat} {vA vB vC : Value} {n m o : Nat} {hs : List Rh} {iv : Nat → Nat × Nat} {l : Ln} (h : Fm w3 L w1) (hb : Below w1.heap.size w1 w2) (hD : LO w2 w1.heap.size vA n vB m vC o hs iv l) (e : w1.heap.size = s) : Fm w3 (L ++ [⟨s, w2.heap.size, LI s w2.heap.size vA n vB m vC o hs iv l⟩]) w2 := by
  subst e
  exact fm_at h hb (at_li (li_all hD) (Nat.le_refl _)) rfl
end Go.Proofs.Ytanaeebjcbbagaa
