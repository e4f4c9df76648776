/-
  Chapter 5: equality of flows and robins: what the program's functions and the model's return. Conditions: a flow has at most 4000000000 packets. Chapter 5: equality of robins: what the model's function returns. Conditions: a flow has at most 4000000000 packets. Appending rows of flows; slices.Clone of flows and of packets. Conditions: the rows have at most 4000000000 elements. Chapter 5: copies of robins: what the program's function returns. Conditions: a robin has at most 4000000000 flows, a flow at most 4000000000 packets. A region that draws its order, whose last operation waits for all oth
  Conditions: each lemma says them.
-/
import Derived.Test.YtiodhdcgfdlknaaKcZ2
import Derived.Test.YtiodhdcgfdlknaaKbZ2
import Derived.Test.YtiodhdcgfdlknaaKaZ2
import Derived.Lib.SliceRun
import Derived.Deep.RegionHeld3
namespace Go.Proofs.Ytiodhdcgfdlknaa
open Go.RowKit
end Go.Proofs.Ytiodhdcgfdlknaa
namespace Go.Proofs.Ytiodhdcgfdlknaa
open Go.RowKit
end Go.Proofs.Ytiodhdcgfdlknaa
namespace Go.Proofs.Ytiodhdcgfdlknaa
open Go.RowKit
theorem infoFlw : (Try.prog.info? 144).map (fun i => (i.zero, i.size, i.bytes)) = some (some (.agg #[.int .i64 0, .int .i64 0, .slice none 0 0]), 3, 40) := by kernel_rfl
end Go.Proofs.Ytiodhdcgfdlknaa
namespace Go.Proofs.Ytiodhdcgfdlknaa
open Go.RowKit
theorem do_cap {w : World} {lo : Nat} {A : Option Addr} {n c : Nat} {hs : List Fh} {fs : List Flw} (h : DO w lo (.slice A n c) n hs fs) : fs.length = n ∧ n ≤ c ∧ c ≤ maxLen := by
  obtain ⟨A', c', hv, h1, h2, -⟩ := own_form h.row
  obtain rfl : c = c' := by injection hv
  have := h.row.1
  rw [fcells_len, h.len] at this
  exact ⟨by omega, h1, h2⟩
theorem al_out {w : World} {g : Nat} {k : Nat} {u : Value} : ∀ {L : List Iv} {lo : Nat}, (∀ x ∈ L, x.hi ≤ g) → Al lo L w → Al lo L (w.setCell ⟨g, k, none⟩ u)
  | [], _, _, h => by simpa [Al] using h
  | x :: r, _, hx, ⟨h1, h3, h4, h5⟩ => ⟨h1, h3, at_chg h4 (chg_grown (g_set (g_refl w (some g)) (.inl rfl) u) (lo := g) (hi := g + 1) fun b e => by injection e with e; omega) (.inl (hx x (List.mem_cons_self ..))), al_out (fun y hy => hx y (List.mem_cons_of_mem _ hy)) h5⟩
theorem fm_out {w w1 : World} {L : List Iv} {g k : Nat} (h : Fm w L w1) (hx : ∀ x ∈ L, x.hi ≤ g) (hg : w.heap.size ≤ g) (u : Value) : Fm w L (w1.setCell ⟨g, k, none⟩ u) := ⟨h.below.setCell hg u, al_out hx h.al⟩
end Go.Proofs.Ytiodhdcgfdlknaa
namespace Go.Proofs.Ytiodhdcgfdlknaa
open Go.RowKit
end Go.Proofs.Ytiodhdcgfdlknaa
namespace Go.Proofs.Ytiodhdcgfdlknaa
open Go.RowKit
structure CS (w : World) (q : Int) (A : Option Addr) (n c : Nat) (Ao : Option Addr) (k co : Nat) (hs : List Fh) (fs : List Flw) (wr : World) : Prop where
  fm : Fm w [⟨w.heap.size, w.heap.size + 1, BoxP w.heap.size 127 #[.int .i64 q, (.slice A n c)]⟩, ⟨w.heap.size + 1, w.heap.size + 2, BoxP (w.heap.size + 1) 127 #[.int .i64 0, (.slice none 0 0)]⟩] wr
  out : Blk wr (w.heap.size + 3) 127 #[.int .i64 q, (.slice Ao k co)]
  fl : DO wr (w.heap.size + 2) (.slice Ao k co) k hs fs
  sep : ∀ b, Value.ownBlock (.slice Ao k co) = some b → b ≠ w.heap.size + 3
  seps : ∀ (j : Nat) (h : Fh), hs[j]? = some h → ∀ b, h.sl.ownBlock = some b → b ≠ w.heap.size + 3
end Go.Proofs.Ytiodhdcgfdlknaa
