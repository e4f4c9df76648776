/-
  Words for the memory that the functions of this program read and make: blocks known whole, rows of numbers, packets in slices. Conditions: none; every lemma says what it asks. Rows and blocks of any element under stores elsewhere; an append of nothing. Conditions: none. The random source of the draws: open, pick, num. Conditions: the number of choices is at least 1, the counter is small. The draws of packets: what they return, whatever the bytes. Conditions: the source is as open leaves it, its counter is small. The draws of one packet: what they return, whatever the bytes. Conditions: the sou
  Conditions: each lemma says them.
-/
import Derived.Test.YtiodhdcgfdlknaaRows
import Derived.WalkKit
import Derived.ProofKit
import Derived.OpenShut
import Derived.ShutString
import Derived.ChangeOld
import Derived.Below
import Derived.IntWalk
import Derived.OwnWalk
import Derived.Lib.Hide
import Derived.Outline
import Derived.Deep.QuietTactic
import Derived.BigQuiet
import Derived.BigGuardPart
import Derived.RegionTactic
import Derived.Laws.OwnMore
import Derived.Laws.BitsAllLaws
import Derived.Laws.BitsLemmas
import Derived.Laws.StructEq
import Derived.Deep.Draws
import Derived.Deep.AppendLies
import Derived.Maps.AppendAt
import Derived.Deep.RegionLaw
namespace Go.Proofs.Ytiodhdcgfdlknaa
open Go.RowKit
theorem ret_int {k : IntKind} {a b : Int} (h : a = b) : Ending.returned (.int k a) = .returned (.int k b) := by rw [h]
theorem ret_bool {a b : Bool} (h : a = b) : Ending.returned (.bool a) = .returned (.bool b) := by rw [h]
theorem below_drewN {B : Nat} {a w : World} (h : Below B a w) (n : Nat) : Below B a (w.drewN n) := ⟨h.os, h.tape, h.output, h.size, h.block⟩
theorem bcell {W w1 : World} (hb : Below W.heap.size W w1) : (∀ b o, b < W.heap.size → w1.cell? ⟨b, o, none⟩ = W.cell? ⟨b, o, none⟩) ∧ (∀ b o, b < W.heap.size → w1.frozen? ⟨b, o, none⟩ = W.frozen? ⟨b, o, none⟩) :=
  ⟨fun b o h => hb.cell (p := ⟨b, o, none⟩) h, fun b o h => hb.frozen (p := ⟨b, o, none⟩) h⟩
theorem below_seq {a b c : World} (h : Below a.heap.size a b) (k : Below b.heap.size b c) : Below a.heap.size a c := h.trans (k.mono h.size)
theorem below_alloc {a b : World} (h : Below a.heap.size a b) (o : Obj) : Below a.heap.size a (b.alloc o) := h.alloc h.size o
theorem below_from {a b c : World} {n : Nat} (h : Below a.heap.size a b) (k : Below n b c) (hn : a.heap.size ≤ n) : Below a.heap.size a c := h.trans (k.mono hn)
theorem below_seq1 {a b c : World} {o : Obj} (h : Below a.heap.size a b) (k : Below (b.alloc o).heap.size (b.alloc o) c) : Below a.heap.size a c := below_seq (below_alloc h o) k
theorem below_seq2 {a b c : World} {o o2 : Obj} (h : Below a.heap.size a b) (k : Below ((b.alloc o).alloc o2).heap.size ((b.alloc o).alloc o2) c) : Below a.heap.size a c := below_seq (below_alloc (below_alloc h o) o2) k
theorem below_seq3 {a b c : World} {o o2 o3 : Obj} (h : Below a.heap.size a b) (k : Below (((b.alloc o).alloc o2).alloc o3).heap.size (((b.alloc o).alloc o2).alloc o3) c) : Below a.heap.size a c := below_seq (below_alloc (below_alloc (below_alloc h o) o2) o3) k
theorem below_seq4 {a b c : World} {o o2 o3 o4 : Obj} (h : Below a.heap.size a b) (k : Below ((((b.alloc o).alloc o2).alloc o3).alloc o4).heap.size ((((b.alloc o).alloc o2).alloc o3).alloc o4) c) : Below a.heap.size a c := below_seq (below_alloc (below_alloc (below_alloc (below_alloc h o) o2) o3) o4) k
theorem g_refl (w : World) (g : Option Nat) : w.grownBy w g := World.grownBy.refl w g
theorem g_set {a w : World} {g : Nat} (h : a.grownBy w (some g)) {p : Addr} (hp : p.block = g ∨ a.heap.size ≤ p.block) (u : Value) : a.grownBy (w.setCell p u) (some g) :=
  ⟨h.os, h.tape, h.output, by simpa [World.setCell] using h.size, fun i hi hne => (Below.heap_setCell w p u i (by
    rintro rfl
    rcases hp with hp | hp
    · exact hne (by rw [hp])
    · omega)).trans (h.block i hi hne)⟩
def Blk (w : World) (g : Nat) (t : TypeId) (cs : Array Value) : Prop := w.heap[g]? = some (.cells cs t (0, 0))
section
variable {w w' : World} {g : Nat} {t : TypeId} {cs : Array Value}
theorem blk_lt (h : Blk w g t cs) : g < w.heap.size := by
  rcases Nat.lt_or_ge g w.heap.size with hlt | hge
  · exact hlt
  · unfold Blk at h; rw [Array.getElem?_eq_none hge] at h; cases h
theorem blk_cell (h : Blk w g t cs) (i : Nat) : w.cell? ⟨g, i, none⟩ = cs[i]? := cell_of_row w g i cs t (0, 0) h
theorem blk_free (h : Blk w g t cs) (i : Nat) : w.frozen? ⟨g, i, none⟩ = false := by
  unfold Blk at h
  simp [World.frozen?, h]
theorem blk_new (w : World) (t : TypeId) (cs : Array Value) : Blk (w.alloc (.cells cs t)) w.heap.size t cs := heap_alloc_new w _
theorem blk_new2 (w : World) (o : Obj) (t : TypeId) (cs : Array Value) : Blk ((w.alloc o).alloc (.cells cs t)) (w.heap.size + 1) t cs := by simpa using blk_new (w.alloc o) t cs
theorem blk_alloc (h : Blk w g t cs) (o : Obj) : Blk (w.alloc o) g t cs := (Below.heap_alloc w o g (blk_lt h)).trans h
theorem blk_set (h : Blk w g t cs) (i : Nat) (u : Value) : Blk (w.setCell ⟨g, i, none⟩ u) g t (cs.setIfInBounds i u) := by
  unfold Blk at h ⊢
  simp [World.setCell, Array.getElem?_modify, h]
theorem blk_below {B : Nat} (h : Blk w g t cs) (hb : Below B w w') (hg : g < B) : Blk w' g t cs := (hb.block g hg).trans h
end
def IR (w : World) (A : Option Addr) (xs : List Int) : Prop :=
  0 < xs.length → ∃ b off, A = some ⟨b, off, none⟩ ∧ b < w.heap.size ∧ ∀ k x, xs[k]? = some x → w.cell? ⟨b, off + k, none⟩ = some (.int .i64 x)
theorem ir_below {w w' : World} {A : Option Addr} {xs : List Int} (h : IR w A xs) (hb : Below w.heap.size w w') : IR w' A xs := fun hn => by
  obtain ⟨b, off, e, hlt, hc⟩ := h hn
  exact ⟨b, off, e, Nat.lt_of_lt_of_le hlt hb.size, fun k x hk => ((bcell hb).1 b _ hlt).trans (hc k x hk)⟩
structure Pkt where
  peer : Int
  lane : Int
  size : Int
  id : Int
def pcells : List Pkt → List Value
  | [] => []
  | p :: r => .int .i64 p.peer :: .int .i64 p.lane :: .int .i64 p.size :: .int .i64 p.id :: pcells r
def vldB (p : Pkt) : Bool := decide (0 ≤ p.peer ∧ p.peer ≤ 7 ∧ 0 ≤ p.lane ∧ p.lane ≤ 3 ∧ 1 ≤ p.size ∧ p.size ≤ 100 ∧ 0 ≤ p.id ∧ p.id ≤ 9999)
theorem pcells_len (ps : List Pkt) : (pcells ps).length = ps.length * 4 := by
  induction ps with
  | nil => rfl
  | cons p r ih => simp only [pcells, List.length_cons, ih]; omega
theorem pcells_append (a b : List Pkt) : pcells (a ++ b) = pcells a ++ pcells b := by
  induction a with
  | nil => rfl
  | cons p r ih => simp only [pcells, List.cons_append, ih]
theorem pcells_get (ps : List Pkt) (k : Nat) (p : Pkt) (h : ps[k]? = some p) :
    (pcells ps)[k * 4]? = some (.int .i64 p.peer) ∧ (pcells ps)[k * 4 + 1]? = some (.int .i64 p.lane) ∧ (pcells ps)[k * 4 + 2]? = some (.int .i64 p.size) ∧ (pcells ps)[k * 4 + 3]? = some (.int .i64 p.id) := by
  induction ps generalizing k with
  | nil => simp at h
  | cons q r ih =>
    cases k with
    | zero =>
      simp only [List.getElem?_cons_zero, Option.some.injEq] at h
      subst h
      simp [pcells]
    | succ k =>
      have h' : r[k]? = some p := by simpa using h
      have := ih k h'
      have e : (k + 1) * 4 = k * 4 + 4 := by omega
      rw [e]
      simpa [pcells, Nat.add_right_comm] using this
theorem pcells_one (ps : List Pkt) : ∀ u ∈ pcells ps, u.oneCell' = true := by
  induction ps with
  | nil => intro u hu; cases hu
  | cons p r ih =>
    intro u hu
    simp only [pcells, List.mem_cons] at hu
    rcases hu with rfl | rfl | rfl | rfl | hu
    · rfl
    · rfl
    · rfl
    · rfl
    · exact ih u hu
def PAt (w : World) (b o : Nat) (p : Pkt) : Prop :=
  w.cell? ⟨b, o, none⟩ = some (.int .i64 p.peer) ∧ w.cell? ⟨b, o + 1, none⟩ = some (.int .i64 p.lane) ∧ w.cell? ⟨b, o + 2, none⟩ = some (.int .i64 p.size) ∧ w.cell? ⟨b, o + 3, none⟩ = some (.int .i64 p.id)
theorem pat_keep {w w' : World} {b o : Nat} {p : Pkt} (h : PAt w b o p) (hk : ∀ x, w'.cell? ⟨b, x, none⟩ = w.cell? ⟨b, x, none⟩) : PAt w' b o p :=
  ⟨(hk _).trans h.1, (hk _).trans h.2.1, (hk _).trans h.2.2.1, (hk _).trans h.2.2.2⟩
def PR (w : World) (A : Option Addr) (n : Nat) (ps : List Pkt) : Prop :=
  ps.length = n ∧ (0 < n → ∃ b off, A = some ⟨b, off, none⟩ ∧ b < w.heap.size ∧ ∀ k p, ps[k]? = some p → PAt w b (off + k * 4) p)
section
variable {w w' : World} {A : Option Addr} {n c : Nat} {ps : List Pkt}
theorem pr_keep (h : PR w A n ps) (hs : w.heap.size ≤ w'.heap.size) (hk : ∀ b x, b < w.heap.size → A.map (·.block) = some b → w'.cell? ⟨b, x, none⟩ = w.cell? ⟨b, x, none⟩) : PR w' A n ps :=
  ⟨h.1, fun hn => by
    obtain ⟨b, off, rfl, hb, hc⟩ := h.2 hn
    exact ⟨b, off, rfl, Nat.lt_of_lt_of_le hb hs, fun k p hp => pat_keep (hc k p hp) fun x => hk b x hb rfl⟩⟩
theorem pr_below (h : PR w A n ps) (hb : Below w.heap.size w w') : PR w' A n ps := pr_keep h hb.size fun b x hlt _ => (bcell hb).1 b x hlt
theorem pr_alloc (h : PR w A n ps) (o : Obj) : PR (w.alloc o) A n ps := pr_below h (below_alloc (Below.refl _ _) o)
theorem pr_at {k : Nat} (h : PR w A n ps) (hk : k < n) : ∃ b off p, A = some ⟨b, off, none⟩ ∧ b < w.heap.size ∧ ps[k]? = some p ∧ PAt w b (off + k * 4) p := by
  obtain ⟨b, off, e, hb, hc⟩ := h.2 (by omega)
  have hl : k < ps.length := by have := h.1; omega
  exact ⟨b, off, ps[k], e, hb, List.getElem?_eq_getElem hl, hc k _ (List.getElem?_eq_getElem hl)⟩
theorem pr_own {base : Nat} {e : TypeId} (h : w.ownsRow base e 4 (.slice A n c) n (pcells ps)) : PR w A n ps := by
  have hl : ps.length = n := by have := h.1; rw [pcells_len] at this; omega
  refine ⟨hl, fun hn => ?_⟩
  obtain ⟨g, cap, hv, _, hlt⟩ := h.form hn
  have hA : A = some ⟨g, 0, none⟩ := by injection hv
  subst hA
  refine ⟨g, 0, rfl, hlt, fun k p hp => ?_⟩
  have hc := h.cells (g := g) rfl
  have hg := pcells_get ps k p hp
  have ha : ∀ j, (⟨g, 0, none⟩ : Addr).add j = ⟨g, j, none⟩ := fun j => by unfold Addr.add; split <;> simp_all
  simp only [ha] at hc
  rw [Nat.zero_add]
  exact ⟨hc _ _ hg.1, hc _ _ hg.2.1, hc _ _ hg.2.2.1, hc _ _ hg.2.2.2⟩
end
theorem own_form {w : World} {base : Nat} {e : TypeId} {v : Value} {n size : Nat} {xs : List Value} (h : w.ownsRow base e size v n xs) :
    ∃ A c, v = .slice A n c ∧ n ≤ c ∧ c ≤ maxLen ∧ ∀ b, A.map (·.block) = some b → base ≤ b ∧ b < w.heap.size := by
  rcases h.2 with ⟨rfl, rfl⟩ | ⟨g, cap, cur, rfl, hb, hg, hn, hc, _⟩
  · exact ⟨none, 0, rfl, Nat.le_refl _, by unfold maxLen; omega, fun b hb => by cases hb⟩
  · refine ⟨_, _, rfl, hn, hc, fun b hb' => ?_⟩
    have e : g = b := by simpa using hb'
    subst e
    exact ⟨hb, blk_lt hg⟩
theorem own_block_none {w : World} {base : Nat} {e : TypeId} {v : Value} {n size g : Nat} {xs : List Value} (h : w.ownsRow base e size v n xs) (hg : g < base) : v.ownBlock = none ∨ v.ownBlock ≠ some g := by
  right
  intro hv
  have := h.lt g hv
  omega
theorem own_below {w w' : World} {base : Nat} {e : TypeId} {v : Value} {n size : Nat} {xs : List Value} (h : w.ownsRow base e size v n xs) (hb : Below w.heap.size w w') : w'.ownsRow base e size v n xs :=
  h.kept (row := none) ⟨hb.os, hb.tape, hb.output, hb.size, fun i hi _ => hb.block i hi⟩ (by
    rcases h.2 with ⟨rfl, _⟩ | ⟨g, cap, cur, rfl, _⟩
    · exact .inl rfl
    · exact .inr (by simp [Value.ownBlock]))
end Go.Proofs.Ytiodhdcgfdlknaa
namespace Go.Proofs.Ytiodhdcgfdlknaa
open Go.RowKit
theorem run_app_nil {P : Program} (w : World) (base : Nat) (t ty e : TypeId) (i : TypeInfo) (size : Nat) (ht : P.underlying t = some (.slice e)) (hi : P.info? e = some i)
    (v : Value) (n : Nat) (xs : List Value) (hown : w.ownsRow base e size v n xs) (c : Nat) : (Builtin.append_ #[t, t] ty #[v, .slice none 0 c]).run P w = .ok v w := by
  rcases hown.2 with ⟨rfl, rfl⟩ | ⟨g, cap, cur, rfl, _, _, hnc, _⟩
  · simp [Builtin.append_, run_underlying ht, sizeOf, typeInfo, hi, Builtin.lenOf, Builtin.firstCells]
  · simp [Builtin.append_, run_underlying ht, sizeOf, typeInfo, hi, Builtin.lenOf, Builtin.firstCells, hnc, storeCells]
theorem own_set_far {w : World} {base size : Nat} {e : TypeId} {v : Value} {n : Nat} {xs : List Value} (h : w.ownsRow base e size v n xs) {p : Addr} (hp : p.block < base) (u : Value) : (w.setCell p u).ownsRow base e size v n xs :=
  h.kept (g_set (g_refl w (some p.block)) (.inl rfl) u) (own_block_none h hp)
theorem own_set_ne {w : World} {base size : Nat} {e : TypeId} {v : Value} {n : Nat} {xs : List Value} (h : w.ownsRow base e size v n xs) {p : Addr} (hp : v.ownBlock ≠ some p.block) (u : Value) : (w.setCell p u).ownsRow base e size v n xs :=
  h.kept (g_set (g_refl w (some p.block)) (.inl rfl) u) (.inr hp)
theorem blk_at {w : World} {b : Nat} (hb : b = w.heap.size) (t : TypeId) (cs : Array Value) : Blk (w.alloc (.cells cs t)) b t cs := by subst hb; exact blk_new w t cs
theorem own_mono {w : World} {base b2 size : Nat} {e : TypeId} {v : Value} {n : Nat} {xs : List Value} (h : w.ownsRow base e size v n xs) (hb : b2 ≤ base) : w.ownsRow b2 e size v n xs :=
  ⟨h.1, h.2.imp id fun ⟨g, cap, cur, h1, h2, h3⟩ => ⟨g, cap, cur, h1, Nat.le_trans hb h2, h3⟩⟩
theorem blk_grownQ {w w' : World} {b : Nat} {t : TypeId} {cs : Array Value} {row : Option Nat} (h : Blk w b t cs) (hg : w.grownBy w' row) (hne : some b ≠ row) : Blk w' b t cs := (hg.block b (blk_lt h) hne).trans h
end Go.Proofs.Ytiodhdcgfdlknaa
namespace Go.Proofs.Ytiodhdcgfdlknaa
open Go.RowKit
end Go.Proofs.Ytiodhdcgfdlknaa
namespace Go.Proofs.Ytiodhdcgfdlknaa
open Go.RowKit
end Go.Proofs.Ytiodhdcgfdlknaa
namespace Go.Proofs.Ytiodhdcgfdlknaa
open Go.RowKit
end Go.Proofs.Ytiodhdcgfdlknaa
namespace Go.Proofs.Ytiodhdcgfdlknaa
open Go.RowKit
theorem pcells_set (ps : List Pkt) (k : Nat) (p : Pkt) :
    ((((pcells ps).set (k * 4) (.int .i64 p.peer)).set (k * 4 + 1) (.int .i64 p.lane)).set (k * 4 + 2) (.int .i64 p.size)).set (k * 4 + 3) (.int .i64 p.id) = pcells (ps.set k p) := by
  induction ps generalizing k with
  | nil => simp [pcells]
  | cons r l ih =>
    cases k with
    | zero => simp [pcells]
    | succ k =>
      have e : (k + 1) * 4 = k * 4 + 4 := by omega
      rw [e]
      simp only [pcells, List.set_cons_succ, Nat.add_right_comm _ 4, ← ih k]
theorem own_set_pkt {w : World} {base b n c : Nat} {e : TypeId} {ps : List Pkt} (h : w.ownsRow base e 4 (.slice (some ⟨b, 0, none⟩) n c) n (pcells ps)) (k : Nat) (p : Pkt) :
    ((((w.setCell ⟨b, k * 4, none⟩ (.int .i64 p.peer)).setCell ⟨b, k * 4 + 1, none⟩ (.int .i64 p.lane)).setCell ⟨b, k * 4 + 2, none⟩ (.int .i64 p.size)).setCell ⟨b, k * 4 + 3, none⟩ (.int .i64 p.id)).ownsRow base e 4 (.slice (some ⟨b, 0, none⟩) n c) n (pcells (ps.set k p)) := by
  have h1 := (h.stored (k * 4) (.int .i64 p.peer)).1
  have h2 := (h1.stored (k * 4 + 1) (.int .i64 p.lane)).1
  have h3 := (h2.stored (k * 4 + 2) (.int .i64 p.size)).1
  have h4 := (h3.stored (k * 4 + 3) (.int .i64 p.id)).1
  rw [pcells_set] at h4
  exact h4
end Go.Proofs.Ytiodhdcgfdlknaa
namespace Go.Proofs.Ytiodhdcgfdlknaa
open Go.RowKit
end Go.Proofs.Ytiodhdcgfdlknaa
