/-
  Words for the memory that the functions of this program read and make: blocks known whole, rows of numbers, packets in slices. Conditions: none; every lemma says what it asks.
-/
import Derived.Test.YtaccbmgbkalknabRows
import Derived.WalkKit
import Derived.ProofKit
import Derived.OpenShut
import Derived.ShutString
import Derived.ChangeOld
import Derived.Below
import Derived.IntWalk
import Derived.OwnWalk
import Derived.Lib.Hide
import Derived.Outline
import Derived.Deep.QuietTactic
import Derived.BigQuiet
import Derived.BigGuardPart
import Derived.RegionTactic
import Derived.Laws.OwnMore
import Derived.Laws.BitsAllLaws
import Derived.Laws.BitsLemmas
import Derived.Laws.StructEq
import Derived.Deep.Draws
import Derived.Deep.AppendLies
import Derived.Maps.AppendAt
namespace Go.Proofs.Ytaccbmgbkalknab
open Go.RowKit

theorem ret_int {k : IntKind} {a b : Int} (h : a = b) : Ending.returned (.int k a) = .returned (.int k b) := by rw [h]
theorem ret_bool {a b : Bool} (h : a = b) : Ending.returned (.bool a) = .returned (.bool b) := by rw [h]

/-! Worlds that only grew -/
theorem below_drewN {B : Nat} {a w : World} (h : Below B a w) (n : Nat) : Below B a (w.drewN n) := ⟨h.os, h.tape, h.output, h.size, h.block⟩
theorem bcell {W w1 : World} (hb : Below W.heap.size W w1) : (∀ b o, b < W.heap.size → w1.cell? ⟨b, o, none⟩ = W.cell? ⟨b, o, none⟩) ∧ (∀ b o, b < W.heap.size → w1.frozen? ⟨b, o, none⟩ = W.frozen? ⟨b, o, none⟩) :=
  ⟨fun b o h => hb.cell (p := ⟨b, o, none⟩) h, fun b o h => hb.frozen (p := ⟨b, o, none⟩) h⟩
theorem below_seq {a b c : World} (h : Below a.heap.size a b) (k : Below b.heap.size b c) : Below a.heap.size a c := h.trans (k.mono h.size)
theorem below_alloc {a b : World} (h : Below a.heap.size a b) (o : Obj) : Below a.heap.size a (b.alloc o) := h.alloc h.size o
theorem below_from {a b c : World} {n : Nat} (h : Below a.heap.size a b) (k : Below n b c) (hn : a.heap.size ≤ n) : Below a.heap.size a c := h.trans (k.mono hn)
theorem below_seq1 {a b c : World} {o : Obj} (h : Below a.heap.size a b) (k : Below (b.alloc o).heap.size (b.alloc o) c) : Below a.heap.size a c := below_seq (below_alloc h o) k
theorem below_seq2 {a b c : World} {o o2 : Obj} (h : Below a.heap.size a b) (k : Below ((b.alloc o).alloc o2).heap.size ((b.alloc o).alloc o2) c) : Below a.heap.size a c := below_seq (below_alloc (below_alloc h o) o2) k
theorem below_seq3 {a b c : World} {o o2 o3 : Obj} (h : Below a.heap.size a b) (k : Below (((b.alloc o).alloc o2).alloc o3).heap.size (((b.alloc o).alloc o2).alloc o3) c) : Below a.heap.size a c := below_seq (below_alloc (below_alloc (below_alloc h o) o2) o3) k
theorem below_seq4 {a b c : World} {o o2 o3 o4 : Obj} (h : Below a.heap.size a b) (k : Below ((((b.alloc o).alloc o2).alloc o3).alloc o4).heap.size ((((b.alloc o).alloc o2).alloc o3).alloc o4) c) : Below a.heap.size a c := below_seq (below_alloc (below_alloc (below_alloc (below_alloc h o) o2) o3) o4) k
theorem grown_below {a b : World} {g : Nat} (h : a.grownBy b (some g)) : Below g a b ∨ a.heap.size ≤ g := by
  rcases Nat.lt_or_ge g a.heap.size with hg | hg
  · exact .inl ⟨h.os, h.tape, h.output, h.size, fun k hk => h.block k (by omega) (fun e => by injection e with e; omega)⟩
  · exact .inr hg
theorem below_grown {B : Nat} {a b c : World} {g : Nat} (h : Below B a b) (hB : B ≤ b.heap.size) (k : b.grownBy c (some g)) (hg : B ≤ g) : Below B a c :=
  h.grown k hB (fun j e => by injection e with e; omega)

theorem g_refl (w : World) (g : Option Nat) : w.grownBy w g := World.grownBy.refl w g
theorem g_drewN {a w : World} {row : Option Nat} (h : a.grownBy w row) (n : Nat) : a.grownBy (w.drewN n) row := ⟨h.os, h.tape, h.output, h.size, h.block⟩
theorem g_alloc {a w : World} {row : Option Nat} (h : a.grownBy w row) (o : Obj) : a.grownBy (w.alloc o) row := h.trans (World.grownBy_alloc w o row)
theorem g_set {a w : World} {g : Nat} (h : a.grownBy w (some g)) {p : Addr} (hp : p.block = g ∨ a.heap.size ≤ p.block) (u : Value) : a.grownBy (w.setCell p u) (some g) :=
  ⟨h.os, h.tape, h.output, by simpa [World.setCell] using h.size, fun i hi hne => (Below.heap_setCell w p u i (by
    rintro rfl
    rcases hp with hp | hp
    · exact hne (by rw [hp])
    · omega)).trans (h.block i hi hne)⟩
theorem g_new {a w w' : World} {g j : Nat} (h : a.grownBy w (some g)) (k : w.grownBy w' (some j)) (hj : a.heap.size ≤ j) : a.grownBy w' (some g) :=
  ⟨k.os.trans h.os, k.tape.trans h.tape, k.output.trans h.output, Nat.le_trans h.size k.size, fun i hi hne =>
    (k.block i (Nat.lt_of_lt_of_le hi h.size) (fun e => by injection e with e; omega)).trans (h.block i hi hne)⟩
theorem g_below {a w w' : World} {g : Nat} (h : a.grownBy w (some g)) (k : Below w.heap.size w w') : a.grownBy w' (some g) :=
  ⟨k.os.trans h.os, k.tape.trans h.tape, k.output.trans h.output, Nat.le_trans h.size k.size, fun i hi hne => (k.block i (Nat.lt_of_lt_of_le hi h.size)).trans (h.block i hi hne)⟩
theorem g_none {a w w' : World} {g : Option Nat} (h : a.grownBy w g) (k : w.grownBy w' none) : a.grownBy w' g :=
  h.trans ⟨k.os, k.tape, k.output, k.size, fun i hi _ => k.block i hi (by simp)⟩
theorem g_cell {a w : World} {g : Nat} (h : a.grownBy w (some g)) {b o : Nat} (hb : b < a.heap.size) (hne : b ≠ g) : w.cell? ⟨b, o, none⟩ = a.cell? ⟨b, o, none⟩ :=
  h.cell_far ⟨b, o, none⟩ hb (fun e => hne (by injection e))

/-! A block that is known whole -/
def Blk (w : World) (g : Nat) (t : TypeId) (cs : Array Value) : Prop := w.heap[g]? = some (.cells cs t (0, 0))
section
variable {w w' : World} {g : Nat} {t : TypeId} {cs : Array Value}
theorem blk_lt (h : Blk w g t cs) : g < w.heap.size := by
  rcases Nat.lt_or_ge g w.heap.size with hlt | hge
  · exact hlt
  · unfold Blk at h; rw [Array.getElem?_eq_none hge] at h; cases h
theorem blk_cell (h : Blk w g t cs) (i : Nat) : w.cell? ⟨g, i, none⟩ = cs[i]? := cell_of_row w g i cs t (0, 0) h
theorem blk_free (h : Blk w g t cs) (i : Nat) : w.frozen? ⟨g, i, none⟩ = false := by
  unfold Blk at h
  simp [World.frozen?, h]
theorem blk_new (w : World) (t : TypeId) (cs : Array Value) : Blk (w.alloc (.cells cs t)) w.heap.size t cs := heap_alloc_new w _
theorem blk_new2 (w : World) (o : Obj) (t : TypeId) (cs : Array Value) : Blk ((w.alloc o).alloc (.cells cs t)) (w.heap.size + 1) t cs := by simpa using blk_new (w.alloc o) t cs
theorem blk_drewN (h : Blk w g t cs) (n : Nat) : Blk (w.drewN n) g t cs := h
theorem blk_alloc (h : Blk w g t cs) (o : Obj) : Blk (w.alloc o) g t cs := (Below.heap_alloc w o g (blk_lt h)).trans h
theorem blk_set (h : Blk w g t cs) (i : Nat) (u : Value) : Blk (w.setCell ⟨g, i, none⟩ u) g t (cs.setIfInBounds i u) := by
  unfold Blk at h ⊢
  simp [World.setCell, Array.getElem?_modify, h]
theorem blk_far (h : Blk w g t cs) {p : Addr} (hp : g ≠ p.block) (u : Value) : Blk (w.setCell p u) g t cs := (Below.heap_setCell w p u g hp).trans h
theorem blk_below {B : Nat} (h : Blk w g t cs) (hb : Below B w w') (hg : g < B) : Blk w' g t cs := (hb.block g hg).trans h
theorem blk_grown {r : Nat} (h : Blk w g t cs) (hb : w.grownBy w' (some r)) (hg : g ≠ r) : Blk w' g t cs := (hb.block g (blk_lt h) (fun e => hg (by injection e))).trans h
end

/-! A row of numbers -/
/-- the slice's place A holds the numbers xs -/
def IR (w : World) (A : Option Addr) (xs : List Int) : Prop :=
  0 < xs.length → ∃ b off, A = some ⟨b, off, none⟩ ∧ b < w.heap.size ∧ ∀ k x, xs[k]? = some x → w.cell? ⟨b, off + k, none⟩ = some (.int .i64 x)
theorem ir_new (w : World) (t : TypeId) (cs : Array Value) (xs : List Int) (h : cs.toList = xs.map (Value.int .i64)) : IR (w.alloc (.cells cs t)) (some ⟨w.heap.size, 0, none⟩) xs := fun _ =>
  ⟨w.heap.size, 0, rfl, by simp, fun k x hk => by
    rw [blk_cell (blk_new w t cs), Nat.zero_add, ← Array.getElem?_toList, h, List.getElem?_map, hk]; rfl⟩
theorem ir_below {w w' : World} {A : Option Addr} {xs : List Int} (h : IR w A xs) (hb : Below w.heap.size w w') : IR w' A xs := fun hn => by
  obtain ⟨b, off, e, hlt, hc⟩ := h hn
  exact ⟨b, off, e, Nat.lt_of_lt_of_le hlt hb.size, fun k x hk => ((bcell hb).1 b _ hlt).trans (hc k x hk)⟩

/-! Packets -/
structure Pkt where
  peer : Int
  lane : Int
  size : Int
  id : Int
def pktCells (p : Pkt) : List Value := [.int .i64 p.peer, .int .i64 p.lane, .int .i64 p.size, .int .i64 p.id]
def pcells : List Pkt → List Value
  | [] => []
  | p :: r => .int .i64 p.peer :: .int .i64 p.lane :: .int .i64 p.size :: .int .i64 p.id :: pcells r
def vldB (p : Pkt) : Bool := decide (0 ≤ p.peer ∧ p.peer ≤ 7 ∧ 0 ≤ p.lane ∧ p.lane ≤ 3 ∧ 1 ≤ p.size ∧ p.size ≤ 100 ∧ 0 ≤ p.id ∧ p.id ≤ 9999)
theorem pcells_len (ps : List Pkt) : (pcells ps).length = ps.length * 4 := by
  induction ps with
  | nil => rfl
  | cons p r ih => simp only [pcells, List.length_cons, ih]; omega
theorem pcells_append (a b : List Pkt) : pcells (a ++ b) = pcells a ++ pcells b := by
  induction a with
  | nil => rfl
  | cons p r ih => simp only [pcells, List.cons_append, ih]
theorem pcells_snoc (a : List Pkt) (p : Pkt) : pcells (a ++ [p]) = pcells a ++ [.int .i64 p.peer, .int .i64 p.lane, .int .i64 p.size, .int .i64 p.id] := pcells_append a [p]
theorem pcells_get (ps : List Pkt) (k : Nat) (p : Pkt) (h : ps[k]? = some p) :
    (pcells ps)[k * 4]? = some (.int .i64 p.peer) ∧ (pcells ps)[k * 4 + 1]? = some (.int .i64 p.lane) ∧ (pcells ps)[k * 4 + 2]? = some (.int .i64 p.size) ∧ (pcells ps)[k * 4 + 3]? = some (.int .i64 p.id) := by
  induction ps generalizing k with
  | nil => simp at h
  | cons q r ih =>
    cases k with
    | zero =>
      simp only [List.getElem?_cons_zero, Option.some.injEq] at h
      subst h
      simp [pcells]
    | succ k =>
      have h' : r[k]? = some p := by simpa using h
      have := ih k h'
      have e : (k + 1) * 4 = k * 4 + 4 := by omega
      rw [e]
      simpa [pcells, Nat.add_right_comm] using this
theorem pcells_one (ps : List Pkt) : ∀ u ∈ pcells ps, u.oneCell' = true := by
  induction ps with
  | nil => intro u hu; cases hu
  | cons p r ih =>
    intro u hu
    simp only [pcells, List.mem_cons] at hu
    rcases hu with rfl | rfl | rfl | rfl | hu
    · rfl
    · rfl
    · rfl
    · rfl
    · exact ih u hu

def PAt (w : World) (b o : Nat) (p : Pkt) : Prop :=
  w.cell? ⟨b, o, none⟩ = some (.int .i64 p.peer) ∧ w.cell? ⟨b, o + 1, none⟩ = some (.int .i64 p.lane) ∧ w.cell? ⟨b, o + 2, none⟩ = some (.int .i64 p.size) ∧ w.cell? ⟨b, o + 3, none⟩ = some (.int .i64 p.id)
theorem pat_keep {w w' : World} {b o : Nat} {p : Pkt} (h : PAt w b o p) (hk : ∀ x, w'.cell? ⟨b, x, none⟩ = w.cell? ⟨b, x, none⟩) : PAt w' b o p :=
  ⟨(hk _).trans h.1, (hk _).trans h.2.1, (hk _).trans h.2.2.1, (hk _).trans h.2.2.2⟩
theorem pat_new (w : World) (t : TypeId) (p : Pkt) : PAt (w.alloc (.cells #[.int .i64 p.peer, .int .i64 p.lane, .int .i64 p.size, .int .i64 p.id] t)) w.heap.size 0 p := by
  have h := blk_new w t #[.int .i64 p.peer, .int .i64 p.lane, .int .i64 p.size, .int .i64 p.id]
  exact ⟨blk_cell h 0, blk_cell h 1, blk_cell h 2, blk_cell h 3⟩

/-- the slice of n elements at A reads as the packets ps -/
def PR (w : World) (A : Option Addr) (n : Nat) (ps : List Pkt) : Prop :=
  ps.length = n ∧ (0 < n → ∃ b off, A = some ⟨b, off, none⟩ ∧ b < w.heap.size ∧ ∀ k p, ps[k]? = some p → PAt w b (off + k * 4) p)
section
variable {w w' : World} {A : Option Addr} {n c : Nat} {ps : List Pkt}
theorem pr_nil (w : World) (A : Option Addr) : PR w A 0 [] := ⟨rfl, fun h => absurd h (by omega)⟩
theorem pr_keep (h : PR w A n ps) (hs : w.heap.size ≤ w'.heap.size) (hk : ∀ b x, b < w.heap.size → A.map (·.block) = some b → w'.cell? ⟨b, x, none⟩ = w.cell? ⟨b, x, none⟩) : PR w' A n ps :=
  ⟨h.1, fun hn => by
    obtain ⟨b, off, rfl, hb, hc⟩ := h.2 hn
    exact ⟨b, off, rfl, Nat.lt_of_lt_of_le hb hs, fun k p hp => pat_keep (hc k p hp) fun x => hk b x hb rfl⟩⟩
theorem pr_below (h : PR w A n ps) (hb : Below w.heap.size w w') : PR w' A n ps := pr_keep h hb.size fun b x hlt _ => (bcell hb).1 b x hlt
theorem pr_alloc (h : PR w A n ps) (o : Obj) : PR (w.alloc o) A n ps := pr_below h (below_alloc (Below.refl _ _) o)
theorem pr_drewN (h : PR w A n ps) (k : Nat) : PR (w.drewN k) A n ps := h
theorem pr_at {k : Nat} (h : PR w A n ps) (hk : k < n) : ∃ b off p, A = some ⟨b, off, none⟩ ∧ b < w.heap.size ∧ ps[k]? = some p ∧ PAt w b (off + k * 4) p := by
  obtain ⟨b, off, e, hb, hc⟩ := h.2 (by omega)
  have hl : k < ps.length := by have := h.1; omega
  exact ⟨b, off, ps[k], e, hb, List.getElem?_eq_getElem hl, hc k _ (List.getElem?_eq_getElem hl)⟩
theorem pr_own {base : Nat} {e : TypeId} (h : w.ownsRow base e 4 (.slice A n c) n (pcells ps)) : PR w A n ps := by
  have hl : ps.length = n := by have := h.1; rw [pcells_len] at this; omega
  refine ⟨hl, fun hn => ?_⟩
  obtain ⟨g, cap, hv, _, hlt⟩ := h.form hn
  have hA : A = some ⟨g, 0, none⟩ := by injection hv
  subst hA
  refine ⟨g, 0, rfl, hlt, fun k p hp => ?_⟩
  have hc := h.cells (g := g) rfl
  have hg := pcells_get ps k p hp
  have ha : ∀ j, (⟨g, 0, none⟩ : Addr).add j = ⟨g, j, none⟩ := fun j => by unfold Addr.add; split <;> simp_all
  simp only [ha] at hc
  rw [Nat.zero_add]
  exact ⟨hc _ _ hg.1, hc _ _ hg.2.1, hc _ _ hg.2.2.1, hc _ _ hg.2.2.2⟩
theorem pr_take (h : PR w A n ps) {k : Nat} (hk : k ≤ n) : PR w A k (ps.take k) :=
  ⟨by rw [List.length_take, h.1]; omega, fun hn => by
    obtain ⟨b, off, e, hb, hc⟩ := h.2 (by omega)
    exact ⟨b, off, e, hb, fun j p hp => hc j p (by
      rw [List.getElem?_take] at hp
      split at hp
      · exact hp
      · cases hp)⟩⟩
theorem pr_drop (h : PR w A n ps) {k : Nat} (hk : k ≤ n) (hc : n ≤ c) : PR w (if c = k then A else A.map (·.add (k * 4))) (n - k) (ps.drop k) := by
  refine ⟨by rw [List.length_drop, h.1], fun hn => ?_⟩
  obtain ⟨b, off, rfl, hb, hcell⟩ := h.2 (by omega)
  rw [if_neg (by omega)]
  refine ⟨b, off + k * 4, ?_, hb, fun j p hp => ?_⟩
  · simp only [Option.map_some, Addr.add]
    split
    · rw [show k * 4 = 0 from by assumption, Nat.add_zero]
    · rfl
  · have := hcell (k + j) p (by rw [← hp, List.getElem?_drop])
    rw [show off + k * 4 + j * 4 = off + (k + j) * 4 from by omega]
    exact this
end
/-- an owned row of packets: its place -/
theorem own_form {w : World} {base : Nat} {e : TypeId} {v : Value} {n size : Nat} {xs : List Value} (h : w.ownsRow base e size v n xs) :
    ∃ A c, v = .slice A n c ∧ n ≤ c ∧ c ≤ maxLen ∧ ∀ b, A.map (·.block) = some b → base ≤ b ∧ b < w.heap.size := by
  rcases h.2 with ⟨rfl, rfl⟩ | ⟨g, cap, cur, rfl, hb, hg, hn, hc, _⟩
  · exact ⟨none, 0, rfl, Nat.le_refl _, by unfold maxLen; omega, fun b hb => by cases hb⟩
  · refine ⟨_, _, rfl, hn, hc, fun b hb' => ?_⟩
    have e : g = b := by simpa using hb'
    subst e
    exact ⟨hb, blk_lt hg⟩
theorem own_block_none {w : World} {base : Nat} {e : TypeId} {v : Value} {n size g : Nat} {xs : List Value} (h : w.ownsRow base e size v n xs) (hg : g < base) : v.ownBlock = none ∨ v.ownBlock ≠ some g := by
  right
  intro hv
  have := h.lt g hv
  omega
theorem own_below {w w' : World} {base : Nat} {e : TypeId} {v : Value} {n size : Nat} {xs : List Value} (h : w.ownsRow base e size v n xs) (hb : Below w.heap.size w w') : w'.ownsRow base e size v n xs :=
  h.kept (row := none) ⟨hb.os, hb.tape, hb.output, hb.size, fun i hi _ => hb.block i hi⟩ (by
    rcases h.2 with ⟨rfl, _⟩ | ⟨g, cap, cur, rfl, _⟩
    · exact .inl rfl
    · exact .inr (by simp [Value.ownBlock]))

/-! bits of numbers that are not negative -/
theorem xor_nat (x : Int) (h0 : 0 ≤ x) (h1 : x ≤ 4000000000) : ∃ k : Nat, bits .xor .i64 x (x / 64) = (k : Int) := by
  obtain ⟨a, rfl⟩ : ∃ a : Nat, x = a := ⟨x.toNat, by omega⟩
  have hb : (a : Int) / 64 = ((a / 64 : Nat) : Int) := by omega
  rw [hb]
  refine ⟨a ^^^ (a / 64), ?_⟩
  have hx : a ^^^ (a / 64) < 2 ^ 63 := Nat.xor_lt_two_pow (by omega) (by omega)
  have oi : ∀ y : Nat, y < 9223372036854775808 → (BitVec.ofInt 64 (y : Int)).toNat = y := fun y hy => by
    rw [BitVec.ofInt_natCast, BitVec.toNat_ofNat]; exact Nat.mod_eq_of_lt (by omega)
  show IntKind.i64.wrap ((BitVec.ofInt 64 (a : Int) ^^^ BitVec.ofInt 64 ((a / 64 : Nat) : Int)).toNat : Int) = _
  rw [BitVec.toNat_xor, oi _ (by omega), oi _ (by omega), IntKind.wrap_i64]
  omega
end Go.Proofs.Ytaccbmgbkalknab
