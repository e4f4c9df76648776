/-
  What the exact laws know of flows: an argument's flows, flows that a call owns in an interval of blocks, marks. Conditions: none; every lemma says what it asks. What the exact laws do with robins: sizes, copies, comparison, marks. Conditions: an argument has at most 1048576 flows and packets.
  Conditions: each lemma says them.
-/
import Derived.Test.YtanaeebjcbbagaaKbZ1
import Derived.Test.YtanaeebjcbbagaaKeZ1
namespace Go.Proofs.Ytanaeebjcbbagaa
open Go.RowKit
def DOI (lo hi : Nat) (v : Value) (n : Nat) (hs : List Fh) (fs : List Flw) (w : World) : Prop :=
  DO w lo v n hs fs ∧ (∀ b, v.ownBlock = some b → b < hi) ∧ ∀ (k : Nat) (h : Fh), hs[k]? = some h → ∀ b, h.sl.ownBlock = some b → b < hi
theorem own_loc {w w' : World} {lo hi : Nat} {e : TypeId} {size : Nat} {v : Value} {n : Nat} {xs : List Value} (h : w.ownsRow lo e size v n xs) (hl : ∀ k, v.ownBlock = some k → k < hi) (hb : ∀ b, lo ≤ b → b < hi → w'.heap[b]? = w.heap[b]?) : w'.ownsRow lo e size v n xs := by
  refine ⟨h.1, ?_⟩
  rcases h.2 with hn | ⟨g, cap, cur, rfl, hg, hgg, rest⟩
  · exact .inl hn
  · exact .inr ⟨g, cap, cur, rfl, hg, (hb g hg (hl g rfl)).trans hgg, rest⟩
theorem doi_loc {w w' : World} {lo hi : Nat} {v : Value} {n : Nat} {hs : List Fh} {fs : List Flw} (D : DOI lo hi v n hs fs w) (hb : ∀ b, lo ≤ b → b < hi → w'.heap[b]? = w.heap[b]?) : DOI lo hi v n hs fs w' :=
  ⟨⟨own_loc D.1.row D.2.1 hb, D.1.len, fun k h f e1 e2 => by
    obtain ⟨a1, a2, a3, a4, a5⟩ := D.1.all k h f e1 e2
    exact ⟨a1, a2, a3, own_loc a4 (D.2.2 k h e1) hb, a5⟩, D.1.apart⟩, D.2⟩
end Go.Proofs.Ytanaeebjcbbagaa
namespace Go.Proofs.Ytanaeebjcbbagaa
open Go.RowKit
end Go.Proofs.Ytanaeebjcbbagaa
