/-
  What the exact laws of robins stand on: a robin and a list that a call hands back, in one interval of blocks; what the calls return. Conditions: none.
-/
import Derived.Test.YtehokkijfgiggaaFEy
import Derived.Test.YtehokkijfgiggaaLiftFlws
import Derived.Test.YtehokkijfgiggaaLift
import Derived.Test.YtehokkijfgiggaaR6
import Derived.Test.YtehokkijfgiggaaR7S
import Derived.Test.YtehokkijfgiggaaR8S
namespace Go.Proofs.Ytehokkijfgiggaa
open Go.RowKit

theorem doi_fr {lo hi : Nat} {A : Option Addr} {n c : Nat} {hs : List Fh} {fs : List Flw} {w : World} (D : DOI lo hi (.slice A n c) n hs fs w) (hn : n ≤ 4000000000) : FR w A n fs := do_fr D.1 hn
theorem doi_grown {lo hi : Nat} {v : Value} {n : Nat} {hs : List Fh} {fs : List Flw} {w w' : World} {row : Option Nat} (D : DOI lo hi v n hs fs w) (hg : w.grownBy w' row) (hr : ∀ b, row = some b → ¬ OwnS v (hs.map Fh.sl) b) : DOI lo hi v n hs fs w' :=
  ⟨do_grown D.1 hg (fun b e e2 => hr b e (.inl e2)) (fun _ h hk b e e2 => hr b e (.inr ⟨h.sl, List.mem_map.2 ⟨h, List.mem_of_getElem? hk, rfl⟩, e2⟩)), D.2⟩
theorem own_at {w w' : World} {lo : Nat} {e : TypeId} {size : Nat} {v : Value} {n : Nat} {xs : List Value} (h : w.ownsRow lo e size v n xs) (hb : ∀ b, v.ownBlock = some b → w'.heap[b]? = w.heap[b]?) : w'.ownsRow lo e size v n xs := by
  refine ⟨h.1, ?_⟩
  rcases h.2 with hn | ⟨g, cap, cur, rfl, hg, hgg, rest⟩
  · exact .inl hn
  · exact .inr ⟨g, cap, cur, rfl, hg, (hb g rfl).trans hgg, rest⟩
/-- a robin's flows and a list, in one interval of blocks, apart from each other -/
structure GP (lo hi : Nat) (v : Value) (n : Nat) (hs : List Fh) (fs : List Flw) (t : Value) (m : Nat) (ps : List Pkt) (w : World) : Prop where
  d : DOI lo hi v n hs fs w
  o : w.ownsRow lo 28 4 t m (pcells ps)
  oh : ∀ b, t.ownBlock = some b → b < hi
  sep : ∀ b, t.ownBlock = some b → ¬ OwnS v (hs.map Fh.sl) b
section
variable {lo hi : Nat} {v : Value} {n : Nat} {hs : List Fh} {fs : List Flw} {t : Value} {m : Nat} {ps : List Pkt} {w w' : World}
theorem at_gp (G : GP lo hi v n hs fs t m ps w) (hf : hi ≤ w.heap.size) : At lo hi (GP lo hi v n hs fs t m ps) w :=
  ⟨G, hf, fun _ _ hb => ⟨doi_loc G.d hb, own_loc G.o G.oh hb, G.oh, G.sep⟩⟩
theorem gp_mark_r {cur : List Fh} {gs : List Flw} (G : GP lo hi v n hs fs t m ps w) (hD : DOI lo hi v n cur gs w') (hsl : cur.map Fh.sl = hs.map Fh.sl) (hk : ∀ b, b < w.heap.size → ¬ OwnS v (hs.map Fh.sl) b → w'.heap[b]? = w.heap[b]?) : GP lo hi v n cur gs t m ps w' :=
  ⟨hD, own_at G.o fun b e => hk b (G.o.lt b e).2 (G.sep b e), G.oh, by rw [hsl]; exact G.sep⟩
theorem gp_mark_p {qs : List Pkt} (G : GP lo hi v n hs fs t m ps w) (hg : w.grownBy w' t.ownBlock) (ho : w'.ownsRow lo 28 4 t m (pcells qs)) : GP lo hi v n hs fs t m qs w' :=
  ⟨doi_grown G.d hg G.sep, ho, G.oh, G.sep⟩
end
/-! What the calls return -/
def NxS (w : World) (Q : Int) (gs : List Flw) (p : Pkt) (ok : Bool) (e : Ending) (w' : World) : Prop :=
  ∃ A n c, e = .returned (.tuple #[.agg #[.int .i64 Q, (.slice A n c)], .agg #[.int .i64 p.peer, .int .i64 p.lane, .int .i64 p.size, .int .i64 p.id], .bool ok]) ∧ FR w' A n gs ∧ Below w.heap.size w w'
def NxI (w : World) (Q : Int) (gs : List Flw) (p : Pkt) (ok : Bool) (e : Ending) (w' : World) : Prop :=
  ∃ A n c hs, e = .returned (.tuple #[.agg #[.int .i64 Q, (.slice A n c)], .agg #[.int .i64 p.peer, .int .i64 p.lane, .int .i64 p.size, .int .i64 p.id], .bool ok]) ∧ DO w' w.heap.size (.slice A n c) n hs gs ∧ Below w.heap.size w w'
def LsP (w : World) (ps : List Pkt) (ok : Bool) (e : Ending) (w' : World) : Prop :=
  ∃ At nt ct, e = .returned (.tuple #[.slice At nt ct, .bool ok]) ∧ nt = ps.length ∧ w'.ownsRow w.heap.size 28 4 (.slice At nt ct) nt (pcells ps) ∧ Below w.heap.size w w'
def RbS (w : World) (Q : Int) (gs : List Flw) (ps : List Pkt) (ok : Bool) (e : Ending) (w' : World) : Prop :=
  ∃ A n c At nt ct, e = .returned (.tuple #[.agg #[.int .i64 Q, (.slice A n c)], .slice At nt ct, .bool ok]) ∧ FR w' A n gs ∧ nt = ps.length ∧ w'.ownsRow w.heap.size 28 4 (.slice At nt ct) nt (pcells ps) ∧ Below w.heap.size w w'
def RbI (w : World) (Q : Int) (gs : List Flw) (ps : List Pkt) (ok : Bool) (e : Ending) (w' : World) : Prop :=
  ∃ A n c hs At nt ct, e = .returned (.tuple #[.agg #[.int .i64 Q, (.slice A n c)], .slice At nt ct, .bool ok]) ∧ nt = ps.length ∧ GP w.heap.size w'.heap.size (.slice A n c) n hs gs (.slice At nt ct) nt ps w' ∧ Below w.heap.size w w'
theorem lv_gp {lo : Nat} {A : Option Addr} {n c : Nat} {hs : List Fh} {fs : List Flw} {t : Value} {m : Nat} {ps : List Pkt} {w : World} (D : DO w lo (.slice A n c) n hs fs) (ho : w.ownsRow lo 28 4 t m (pcells ps)) (h1 : ∀ g, t.ownBlock = some g → Value.ownBlock (.slice A n c) ≠ some g) (h2 : ∀ (j : Nat) (h : Fh), hs[j]? = some h → ∀ g, t.ownBlock = some g → h.sl.ownBlock ≠ some g) : GP lo w.heap.size (.slice A n c) n hs fs t m ps w :=
  ⟨doi_all D, ho, fun b e => (ho.lt b e).2, fun b e hno => by
    rcases hno with h | ⟨u, hu, h⟩
    · exact h1 b e h
    · obtain ⟨q, hq, rfl⟩ := List.mem_map.1 hu
      obtain ⟨j, hj⟩ := List.getElem?_of_mem hq
      exact h2 j q hj b e h⟩
theorem tb_gp {lo l2 : Nat} {A : Option Addr} {n c : Nat} {hs : List Fh} {fs : List Flw} {t : Value} {m : Nat} {ps : List Pkt} {w : World} (D : DO w l2 (.slice A n c) n hs fs) (hl : lo ≤ l2) (ho : w.ownsRow lo 28 4 t m (pcells ps)) (h1 : ∀ g, t.ownBlock = some g → g < l2) : GP lo w.heap.size (.slice A n c) n hs fs t m ps w :=
  lv_gp (do_mono D hl) ho (fun g e e2 => by have := ((do_lo D).1 g e2).1; have := h1 g e; omega) (fun j h hj g e e2 => by have := ((do_lo D).2 j h hj g e2).1; have := h1 g e; omega)
theorem fm_doi {w3 w1 w2 : World} {L : List Iv} {s : Nat} {v : Value} {n : Nat} {hs : List Fh} {fs : List Flw} (h : Fm w3 L w1) (hb : Below w1.heap.size w1 w2) (hD : DO w2 w1.heap.size v n hs fs) (e : w1.heap.size = s) : Fm w3 (L ++ [⟨s, w2.heap.size, DOI s w2.heap.size v n hs fs⟩]) w2 := by
  subst e
  exact fm_at h hb (at_doi (doi_all hD) (Nat.le_refl _)) rfl
theorem fm_gp {w3 w1 w2 : World} {L : List Iv} {s : Nat} {v : Value} {n : Nat} {hs : List Fh} {fs : List Flw} {t : Value} {m : Nat} {ps : List Pkt} (h : Fm w3 L w1) (hb : Below w1.heap.size w1 w2) (hG : GP w1.heap.size w2.heap.size v n hs fs t m ps w2) (e : w1.heap.size = s) : Fm w3 (L ++ [⟨s, w2.heap.size, GP s w2.heap.size v n hs fs t m ps⟩]) w2 := by
  subst e
  exact fm_at h hb (at_gp hG (Nat.le_refl _)) rfl
/-- two boxes of two cells are read, one of them behind the frame's beginning -/
theorem fm_rd22 {w3 w1 : World} {L : List Iv} (h : Fm w3 L w1) {g0 : Nat} {t0 : TypeId} {x0 y0 : Value} (B : Blk w3 g0 t0 #[x0, y0]) (j : Nat) {a2 b2 g2 : Nat} {t2 : TypeId} {x2 y2 : Value} (hj : L[j]? = some ⟨a2, b2, BoxP g2 t2 #[x2, y2]⟩) :
    (w1.cell? ⟨g0, 0, none⟩ = some x0 ∧ w1.cell? ⟨g0, 1, none⟩ = some y0) ∧ (w1.cell? ⟨g2, 0, none⟩ = some x2 ∧ w1.cell? ⟨g2, 1, none⟩ = some y2) ∧ Fm w3 L w1 := by
  have B1 := blk_below B h.below (blk_lt B)
  have B2 : Blk w1 g2 t2 #[x2, y2] := fm_blk h j hj
  exact ⟨⟨blk_cell B1 0, blk_cell B1 1⟩, ⟨blk_cell B2 0, blk_cell B2 1⟩, h⟩
theorem wf_hi {x : Int} (h : (Lit.int .i64 x).wf = true) : x ≤ 9223372036854775807 := by
  simp only [Lit.wf, Bool.and_eq_true, decide_eq_true_eq] at h
  exact h.2
end Go.Proofs.Ytehokkijfgiggaa
