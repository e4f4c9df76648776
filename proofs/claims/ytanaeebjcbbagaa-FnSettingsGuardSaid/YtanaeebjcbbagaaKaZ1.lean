/-
  Words for the memory that the functions of this program read and make: blocks known whole, rows of numbers, packets in slices. Conditions: none; every lemma says what it asks. Rows and blocks of any element under stores elsewhere; an append of nothing. Conditions: none. The random source of the draws: open, pick, num. Conditions: the number of choices is at least 1, the counter is small. The draws of packets: what they return, whatever the bytes. Conditions: the source is as open leaves it, its counter is small. The draws of one packet: what they return, whatever the bytes. Conditions: the sou
  Conditions: each lemma says them.
-/
import Derived.Test.YtanaeebjcbbagaaRows
import Derived.WalkKit
import Derived.ProofKit
import Derived.OpenShut
import Derived.ShutString
import Derived.ChangeOld
import Derived.Below
import Derived.IntWalk
import Derived.OwnWalk
import Derived.Lib.Hide
import Derived.Outline
import Derived.Deep.QuietTactic
import Derived.BigQuiet
import Derived.BigGuardPart
import Derived.RegionTactic
import Derived.Laws.OwnMore
import Derived.Laws.BitsAllLaws
import Derived.Laws.BitsLemmas
import Derived.Laws.StructEq
import Derived.Deep.Draws
import Derived.Deep.AppendLies
import Derived.Maps.AppendAt
import Derived.Deep.RegionLaw
namespace Go.Proofs.Ytanaeebjcbbagaa
open Go.RowKit
theorem ret_int {k : IntKind} {a b : Int} (h : a = b) : Ending.returned (.int k a) = .returned (.int k b) := by rw [h]
theorem ret_bool {a b : Bool} (h : a = b) : Ending.returned (.bool a) = .returned (.bool b) := by rw [h]
theorem below_drewN {B : Nat} {a w : World} (h : Below B a w) (n : Nat) : Below B a (w.drewN n) := ⟨h.os, h.tape, h.output, h.size, h.block⟩
theorem bcell {W w1 : World} (hb : Below W.heap.size W w1) : (∀ b o, b < W.heap.size → w1.cell? ⟨b, o, none⟩ = W.cell? ⟨b, o, none⟩) ∧ (∀ b o, b < W.heap.size → w1.frozen? ⟨b, o, none⟩ = W.frozen? ⟨b, o, none⟩) :=
  ⟨fun b o h => hb.cell (p := ⟨b, o, none⟩) h, fun b o h => hb.frozen (p := ⟨b, o, none⟩) h⟩
theorem below_seq {a b c : World} (h : Below a.heap.size a b) (k : Below b.heap.size b c) : Below a.heap.size a c := h.trans (k.mono h.size)
theorem below_alloc {a b : World} (h : Below a.heap.size a b) (o : Obj) : Below a.heap.size a (b.alloc o) := h.alloc h.size o
theorem below_from {a b c : World} {n : Nat} (h : Below a.heap.size a b) (k : Below n b c) (hn : a.heap.size ≤ n) : Below a.heap.size a c := h.trans (k.mono hn)
theorem below_seq1 {a b c : World} {o : Obj} (h : Below a.heap.size a b) (k : Below (b.alloc o).heap.size (b.alloc o) c) : Below a.heap.size a c := below_seq (below_alloc h o) k
theorem below_seq2 {a b c : World} {o o2 : Obj} (h : Below a.heap.size a b) (k : Below ((b.alloc o).alloc o2).heap.size ((b.alloc o).alloc o2) c) : Below a.heap.size a c := below_seq (below_alloc (below_alloc h o) o2) k
theorem below_seq3 {a b c : World} {o o2 o3 : Obj} (h : Below a.heap.size a b) (k : Below (((b.alloc o).alloc o2).alloc o3).heap.size (((b.alloc o).alloc o2).alloc o3) c) : Below a.heap.size a c := below_seq (below_alloc (below_alloc (below_alloc h o) o2) o3) k
theorem below_seq4 {a b c : World} {o o2 o3 o4 : Obj} (h : Below a.heap.size a b) (k : Below ((((b.alloc o).alloc o2).alloc o3).alloc o4).heap.size ((((b.alloc o).alloc o2).alloc o3).alloc o4) c) : Below a.heap.size a c := below_seq (below_alloc (below_alloc (below_alloc (below_alloc h o) o2) o3) o4) k
theorem below_grown {B : Nat} {a b c : World} {g : Nat} (h : Below B a b) (hB : B ≤ b.heap.size) (k : b.grownBy c (some g)) (hg : B ≤ g) : Below B a c :=
  h.grown k hB (fun j e => by injection e with e; omega)
theorem g_refl (w : World) (g : Option Nat) : w.grownBy w g := World.grownBy.refl w g
theorem g_drewN {a w : World} {row : Option Nat} (h : a.grownBy w row) (n : Nat) : a.grownBy (w.drewN n) row := ⟨h.os, h.tape, h.output, h.size, h.block⟩
theorem g_alloc {a w : World} {row : Option Nat} (h : a.grownBy w row) (o : Obj) : a.grownBy (w.alloc o) row := h.trans (World.grownBy_alloc w o row)
theorem g_set {a w : World} {g : Nat} (h : a.grownBy w (some g)) {p : Addr} (hp : p.block = g ∨ a.heap.size ≤ p.block) (u : Value) : a.grownBy (w.setCell p u) (some g) :=
  ⟨h.os, h.tape, h.output, by simpa [World.setCell] using h.size, fun i hi hne => (Below.heap_setCell w p u i (by
    rintro rfl
    rcases hp with hp | hp
    · exact hne (by rw [hp])
    · omega)).trans (h.block i hi hne)⟩
theorem g_new {a w w' : World} {g j : Nat} (h : a.grownBy w (some g)) (k : w.grownBy w' (some j)) (hj : a.heap.size ≤ j) : a.grownBy w' (some g) :=
  ⟨k.os.trans h.os, k.tape.trans h.tape, k.output.trans h.output, Nat.le_trans h.size k.size, fun i hi hne =>
    (k.block i (Nat.lt_of_lt_of_le hi h.size) (fun e => by injection e with e; omega)).trans (h.block i hi hne)⟩
theorem g_none {a w w' : World} {g : Option Nat} (h : a.grownBy w g) (k : w.grownBy w' none) : a.grownBy w' g :=
  h.trans ⟨k.os, k.tape, k.output, k.size, fun i hi _ => k.block i hi (by simp)⟩
theorem g_cell {a w : World} {g : Nat} (h : a.grownBy w (some g)) {b o : Nat} (hb : b < a.heap.size) (hne : b ≠ g) : w.cell? ⟨b, o, none⟩ = a.cell? ⟨b, o, none⟩ :=
  h.cell_far ⟨b, o, none⟩ hb (fun e => hne (by injection e))
def Blk (w : World) (g : Nat) (t : TypeId) (cs : Array Value) : Prop := w.heap[g]? = some (.cells cs t (0, 0))
section
variable {w w' : World} {g : Nat} {t : TypeId} {cs : Array Value}
theorem blk_lt (h : Blk w g t cs) : g < w.heap.size := by
  rcases Nat.lt_or_ge g w.heap.size with hlt | hge
  · exact hlt
  · unfold Blk at h; rw [Array.getElem?_eq_none hge] at h; cases h
theorem blk_cell (h : Blk w g t cs) (i : Nat) : w.cell? ⟨g, i, none⟩ = cs[i]? := cell_of_row w g i cs t (0, 0) h
theorem blk_free (h : Blk w g t cs) (i : Nat) : w.frozen? ⟨g, i, none⟩ = false := by
  unfold Blk at h
  simp [World.frozen?, h]
theorem blk_new (w : World) (t : TypeId) (cs : Array Value) : Blk (w.alloc (.cells cs t)) w.heap.size t cs := heap_alloc_new w _
theorem blk_new2 (w : World) (o : Obj) (t : TypeId) (cs : Array Value) : Blk ((w.alloc o).alloc (.cells cs t)) (w.heap.size + 1) t cs := by simpa using blk_new (w.alloc o) t cs
theorem blk_alloc (h : Blk w g t cs) (o : Obj) : Blk (w.alloc o) g t cs := (Below.heap_alloc w o g (blk_lt h)).trans h
theorem blk_set (h : Blk w g t cs) (i : Nat) (u : Value) : Blk (w.setCell ⟨g, i, none⟩ u) g t (cs.setIfInBounds i u) := by
  unfold Blk at h ⊢
  simp [World.setCell, Array.getElem?_modify, h]
theorem blk_far (h : Blk w g t cs) {p : Addr} (hp : g ≠ p.block) (u : Value) : Blk (w.setCell p u) g t cs := (Below.heap_setCell w p u g hp).trans h
theorem blk_below {B : Nat} (h : Blk w g t cs) (hb : Below B w w') (hg : g < B) : Blk w' g t cs := (hb.block g hg).trans h
theorem blk_grown {r : Nat} (h : Blk w g t cs) (hb : w.grownBy w' (some r)) (hg : g ≠ r) : Blk w' g t cs := (hb.block g (blk_lt h) (fun e => hg (by injection e))).trans h
end
def IR (w : World) (A : Option Addr) (xs : List Int) : Prop :=
  0 < xs.length → ∃ b off, A = some ⟨b, off, none⟩ ∧ b < w.heap.size ∧ ∀ k x, xs[k]? = some x → w.cell? ⟨b, off + k, none⟩ = some (.int .i64 x)
theorem ir_below {w w' : World} {A : Option Addr} {xs : List Int} (h : IR w A xs) (hb : Below w.heap.size w w') : IR w' A xs := fun hn => by
  obtain ⟨b, off, e, hlt, hc⟩ := h hn
  exact ⟨b, off, e, Nat.lt_of_lt_of_le hlt hb.size, fun k x hk => ((bcell hb).1 b _ hlt).trans (hc k x hk)⟩
structure Pkt where
  peer : Int
  lane : Int
  size : Int
  id : Int
def pcells : List Pkt → List Value
  | [] => []
  | p :: r => .int .i64 p.peer :: .int .i64 p.lane :: .int .i64 p.size :: .int .i64 p.id :: pcells r
def vldB (p : Pkt) : Bool := decide (0 ≤ p.peer ∧ p.peer ≤ 7 ∧ 0 ≤ p.lane ∧ p.lane ≤ 3 ∧ 1 ≤ p.size ∧ p.size ≤ 100 ∧ 0 ≤ p.id ∧ p.id ≤ 9999)
theorem pcells_len (ps : List Pkt) : (pcells ps).length = ps.length * 4 := by
  induction ps with
  | nil => rfl
  | cons p r ih => simp only [pcells, List.length_cons, ih]; omega
theorem pcells_append (a b : List Pkt) : pcells (a ++ b) = pcells a ++ pcells b := by
  induction a with
  | nil => rfl
  | cons p r ih => simp only [pcells, List.cons_append, ih]
theorem pcells_get (ps : List Pkt) (k : Nat) (p : Pkt) (h : ps[k]? = some p) :
    (pcells ps)[k * 4]? = some (.int .i64 p.peer) ∧ (pcells ps)[k * 4 + 1]? = some (.int .i64 p.lane) ∧ (pcells ps)[k * 4 + 2]? = some (.int .i64 p.size) ∧ (pcells ps)[k * 4 + 3]? = some (.int .i64 p.id) := by
  induction ps generalizing k with
  | nil => simp at h
  | cons q r ih =>
    cases k with
    | zero =>
      simp only [List.getElem?_cons_zero, Option.some.injEq] at h
      subst h
      simp [pcells]
    | succ k =>
      have h' : r[k]? = some p := by simpa using h
      have := ih k h'
      have e : (k + 1) * 4 = k * 4 + 4 := by omega
      rw [e]
      simpa [pcells, Nat.add_right_comm] using this
theorem pcells_one (ps : List Pkt) : ∀ u ∈ pcells ps, u.oneCell' = true := by
  induction ps with
  | nil => intro u hu; cases hu
  | cons p r ih =>
    intro u hu
    simp only [pcells, List.mem_cons] at hu
    rcases hu with rfl | rfl | rfl | rfl | hu
    · rfl
    · rfl
    · rfl
    · rfl
    · exact ih u hu
def PAt (w : World) (b o : Nat) (p : Pkt) : Prop :=
  w.cell? ⟨b, o, none⟩ = some (.int .i64 p.peer) ∧ w.cell? ⟨b, o + 1, none⟩ = some (.int .i64 p.lane) ∧ w.cell? ⟨b, o + 2, none⟩ = some (.int .i64 p.size) ∧ w.cell? ⟨b, o + 3, none⟩ = some (.int .i64 p.id)
theorem pat_keep {w w' : World} {b o : Nat} {p : Pkt} (h : PAt w b o p) (hk : ∀ x, w'.cell? ⟨b, x, none⟩ = w.cell? ⟨b, x, none⟩) : PAt w' b o p :=
  ⟨(hk _).trans h.1, (hk _).trans h.2.1, (hk _).trans h.2.2.1, (hk _).trans h.2.2.2⟩
def PR (w : World) (A : Option Addr) (n : Nat) (ps : List Pkt) : Prop :=
  ps.length = n ∧ (0 < n → ∃ b off, A = some ⟨b, off, none⟩ ∧ b < w.heap.size ∧ ∀ k p, ps[k]? = some p → PAt w b (off + k * 4) p)
section
variable {w w' : World} {A : Option Addr} {n c : Nat} {ps : List Pkt}
theorem pr_keep (h : PR w A n ps) (hs : w.heap.size ≤ w'.heap.size) (hk : ∀ b x, b < w.heap.size → A.map (·.block) = some b → w'.cell? ⟨b, x, none⟩ = w.cell? ⟨b, x, none⟩) : PR w' A n ps :=
  ⟨h.1, fun hn => by
    obtain ⟨b, off, rfl, hb, hc⟩ := h.2 hn
    exact ⟨b, off, rfl, Nat.lt_of_lt_of_le hb hs, fun k p hp => pat_keep (hc k p hp) fun x => hk b x hb rfl⟩⟩
theorem pr_below (h : PR w A n ps) (hb : Below w.heap.size w w') : PR w' A n ps := pr_keep h hb.size fun b x hlt _ => (bcell hb).1 b x hlt
theorem pr_alloc (h : PR w A n ps) (o : Obj) : PR (w.alloc o) A n ps := pr_below h (below_alloc (Below.refl _ _) o)
theorem pr_at {k : Nat} (h : PR w A n ps) (hk : k < n) : ∃ b off p, A = some ⟨b, off, none⟩ ∧ b < w.heap.size ∧ ps[k]? = some p ∧ PAt w b (off + k * 4) p := by
  obtain ⟨b, off, e, hb, hc⟩ := h.2 (by omega)
  have hl : k < ps.length := by have := h.1; omega
  exact ⟨b, off, ps[k], e, hb, List.getElem?_eq_getElem hl, hc k _ (List.getElem?_eq_getElem hl)⟩
theorem pr_own {base : Nat} {e : TypeId} (h : w.ownsRow base e 4 (.slice A n c) n (pcells ps)) : PR w A n ps := by
  have hl : ps.length = n := by have := h.1; rw [pcells_len] at this; omega
  refine ⟨hl, fun hn => ?_⟩
  obtain ⟨g, cap, hv, _, hlt⟩ := h.form hn
  have hA : A = some ⟨g, 0, none⟩ := by injection hv
  subst hA
  refine ⟨g, 0, rfl, hlt, fun k p hp => ?_⟩
  have hc := h.cells (g := g) rfl
  have hg := pcells_get ps k p hp
  have ha : ∀ j, (⟨g, 0, none⟩ : Addr).add j = ⟨g, j, none⟩ := fun j => by unfold Addr.add; split <;> simp_all
  simp only [ha] at hc
  rw [Nat.zero_add]
  exact ⟨hc _ _ hg.1, hc _ _ hg.2.1, hc _ _ hg.2.2.1, hc _ _ hg.2.2.2⟩
end
theorem own_form {w : World} {base : Nat} {e : TypeId} {v : Value} {n size : Nat} {xs : List Value} (h : w.ownsRow base e size v n xs) :
    ∃ A c, v = .slice A n c ∧ n ≤ c ∧ c ≤ maxLen ∧ ∀ b, A.map (·.block) = some b → base ≤ b ∧ b < w.heap.size := by
  rcases h.2 with ⟨rfl, rfl⟩ | ⟨g, cap, cur, rfl, hb, hg, hn, hc, _⟩
  · exact ⟨none, 0, rfl, Nat.le_refl _, by unfold maxLen; omega, fun b hb => by cases hb⟩
  · refine ⟨_, _, rfl, hn, hc, fun b hb' => ?_⟩
    have e : g = b := by simpa using hb'
    subst e
    exact ⟨hb, blk_lt hg⟩
theorem own_block_none {w : World} {base : Nat} {e : TypeId} {v : Value} {n size g : Nat} {xs : List Value} (h : w.ownsRow base e size v n xs) (hg : g < base) : v.ownBlock = none ∨ v.ownBlock ≠ some g := by
  right
  intro hv
  have := h.lt g hv
  omega
theorem own_below {w w' : World} {base : Nat} {e : TypeId} {v : Value} {n size : Nat} {xs : List Value} (h : w.ownsRow base e size v n xs) (hb : Below w.heap.size w w') : w'.ownsRow base e size v n xs :=
  h.kept (row := none) ⟨hb.os, hb.tape, hb.output, hb.size, fun i hi _ => hb.block i hi⟩ (by
    rcases h.2 with ⟨rfl, _⟩ | ⟨g, cap, cur, rfl, _⟩
    · exact .inl rfl
    · exact .inr (by simp [Value.ownBlock]))
theorem xor_nat (x : Int) (h0 : 0 ≤ x) (h1 : x ≤ 4000000000) : ∃ k : Nat, bits .xor .i64 x (x / 64) = (k : Int) := by
  obtain ⟨a, rfl⟩ : ∃ a : Nat, x = a := ⟨x.toNat, by omega⟩
  have hb : (a : Int) / 64 = ((a / 64 : Nat) : Int) := by omega
  rw [hb]
  refine ⟨a ^^^ (a / 64), ?_⟩
  have hx : a ^^^ (a / 64) < 2 ^ 63 := Nat.xor_lt_two_pow (by omega) (by omega)
  have oi : ∀ y : Nat, y < 9223372036854775808 → (BitVec.ofInt 64 (y : Int)).toNat = y := fun y hy => by
    rw [BitVec.ofInt_natCast, BitVec.toNat_ofNat]; exact Nat.mod_eq_of_lt (by omega)
  show IntKind.i64.wrap ((BitVec.ofInt 64 (a : Int) ^^^ BitVec.ofInt 64 ((a / 64 : Nat) : Int)).toNat : Int) = _
  rw [BitVec.toNat_xor, oi _ (by omega), oi _ (by omega), IntKind.wrap_i64]
  omega
end Go.Proofs.Ytanaeebjcbbagaa
namespace Go.Proofs.Ytanaeebjcbbagaa
open Go.RowKit
theorem run_app_nil {P : Program} (w : World) (base : Nat) (t ty e : TypeId) (i : TypeInfo) (size : Nat) (ht : P.underlying t = some (.slice e)) (hi : P.info? e = some i)
    (v : Value) (n : Nat) (xs : List Value) (hown : w.ownsRow base e size v n xs) (c : Nat) : (Builtin.append_ #[t, t] ty #[v, .slice none 0 c]).run P w = .ok v w := by
  rcases hown.2 with ⟨rfl, rfl⟩ | ⟨g, cap, cur, rfl, _, _, hnc, _⟩
  · simp [Builtin.append_, run_underlying ht, sizeOf, typeInfo, hi, Builtin.lenOf, Builtin.firstCells]
  · simp [Builtin.append_, run_underlying ht, sizeOf, typeInfo, hi, Builtin.lenOf, Builtin.firstCells, hnc, storeCells]
theorem own_set_far {w : World} {base size : Nat} {e : TypeId} {v : Value} {n : Nat} {xs : List Value} (h : w.ownsRow base e size v n xs) {p : Addr} (hp : p.block < base) (u : Value) : (w.setCell p u).ownsRow base e size v n xs :=
  h.kept (g_set (g_refl w (some p.block)) (.inl rfl) u) (own_block_none h hp)
theorem own_set_ne {w : World} {base size : Nat} {e : TypeId} {v : Value} {n : Nat} {xs : List Value} (h : w.ownsRow base e size v n xs) {p : Addr} (hp : v.ownBlock ≠ some p.block) (u : Value) : (w.setCell p u).ownsRow base e size v n xs :=
  h.kept (g_set (g_refl w (some p.block)) (.inl rfl) u) (.inr hp)
theorem blk_at {w : World} {b : Nat} (hb : b = w.heap.size) (t : TypeId) (cs : Array Value) : Blk (w.alloc (.cells cs t)) b t cs := by subst hb; exact blk_new w t cs
theorem own_mono {w : World} {base b2 size : Nat} {e : TypeId} {v : Value} {n : Nat} {xs : List Value} (h : w.ownsRow base e size v n xs) (hb : b2 ≤ base) : w.ownsRow b2 e size v n xs :=
  ⟨h.1, h.2.imp id fun ⟨g, cap, cur, h1, h2, h3⟩ => ⟨g, cap, cur, h1, Nat.le_trans hb h2, h3⟩⟩
theorem blk_grownQ {w w' : World} {b : Nat} {t : TypeId} {cs : Array Value} {row : Option Nat} (h : Blk w b t cs) (hg : w.grownBy w' row) (hne : some b ≠ row) : Blk w' b t cs := (hg.block b (blk_lt h) hne).trans h
end Go.Proofs.Ytanaeebjcbbagaa
namespace Go.Proofs.Ytanaeebjcbbagaa
open Go.RowKit
def BR (w : World) (g : Nat) (A : Option Addr) (n : Nat) : Prop :=
  0 < n → ∃ b off, A = some ⟨b, off, none⟩ ∧ b < g ∧ ∀ k, k < n → ∃ x : Nat, x < 256 ∧ w.cell? ⟨b, off + k, none⟩ = some (.int .u8 (x : Int))
def RdAt (w : World) (g q : Nat) : Prop :=
  ∃ A n c p, Blk w g 93 #[.slice A n c, .int .i64 ((p : Nat) : Int)] ∧ n ≤ 2000 ∧ p ≤ q ∧ BR w g A n
theorem rd_lt {w : World} {g q : Nat} (h : RdAt w g q) : g < w.heap.size := by
  obtain ⟨A, n, c, p, hb, _⟩ := h
  exact blk_lt hb
theorem br_keep {w w' : World} {g n : Nat} {A : Option Addr} (h : BR w g A n) (hk : ∀ b x, b < g → w'.cell? ⟨b, x, none⟩ = w.cell? ⟨b, x, none⟩) : BR w' g A n := fun hn => by
  obtain ⟨b, off, e, hb, hc⟩ := h hn
  exact ⟨b, off, e, hb, fun k hk' => by
    obtain ⟨x, hx, hcx⟩ := hc k hk'
    exact ⟨x, hx, (hk b _ hb).trans hcx⟩⟩
theorem rd_below {w w' : World} {g q : Nat} (h : RdAt w g q) (hb : Below w.heap.size w w') : RdAt w' g q := by
  have hlt := rd_lt h
  obtain ⟨A, n, c, p, hB, hn, hp, hr⟩ := h
  exact ⟨A, n, c, p, blk_below hB hb hlt, hn, hp, br_keep hr fun b x hbg => (bcell hb).1 b x (by omega)⟩
theorem rd_alloc {w : World} {g q : Nat} (h : RdAt w g q) (o : Obj) : RdAt (w.alloc o) g q := rd_below h (below_alloc (Below.refl _ _) o)
theorem rd_more {w : World} {g q q' : Nat} (h : RdAt w g q) (hq : q ≤ q') : RdAt w g q' := by
  obtain ⟨A, n, c, p, hB, hn, hp, hr⟩ := h
  exact ⟨A, n, c, p, hB, hn, by omega, hr⟩
theorem rd_new {w w' : World} {g q j : Nat} (h : RdAt w g q) (hk : w.grownBy w' (some j)) (hj : g < j) : RdAt w' g q := by
  have hlt := rd_lt h
  obtain ⟨A, n, c, p, hB, hn, hp, hr⟩ := h
  exact ⟨A, n, c, p, blk_grown hB hk (by omega), hn, hp, br_keep hr fun b x hbg => g_cell hk (by omega) (by omega)⟩
theorem rd_set {w : World} {g q : Nat} (h : RdAt w g q) {p : Addr} (hp : g < p.block) (u : Value) : RdAt (w.setCell p u) g q := by
  obtain ⟨A, n, c, p', hB, hn, hp', hr⟩ := h
  exact ⟨A, n, c, p', blk_far hB (by omega) u, hn, hp', br_keep hr fun b x hbg => World.cell?_setCell_other w p ⟨b, x, none⟩ u (fun e => by subst e; simp at hp; omega)⟩
def PickPost (w : World) (g q : Nat) (m : Int) (e : Ending) (w' : World) : Prop :=
  ∃ k : Nat, e = .returned (.int .i64 (k : Int)) ∧ (k : Int) < m ∧ w.grownBy w' (some g) ∧ RdAt w' g q
theorem pick_end {w : World} {g n c p q j k : Nat} {m : Int} {A : Option Addr} {e : Ending} (hB : Blk w g 93 #[.slice A n c, .int .i64 (p : Int)]) (hn : n ≤ 2000) (hp : p ≤ q) (hr : BR w g A n)
    (he : e = .returned (.int .i64 (k : Int))) (hk : (k : Int) < m) : PickPost w g (q + 1) m e ((w.setCell ⟨g, 1, none⟩ (.int .i64 ((p : Int) + 1))).drewN j) := by
  refine ⟨k, he, hk, g_drewN (g_set (g_refl _ _) (.inl rfl) _) _, A, n, c, p + 1, blk_set hB 1 _, hn, by omega, ?_⟩
  exact br_keep hr fun b x hb => World.cell?_setCell_other w _ ⟨b, x, none⟩ _ (fun e => by injection e; omega)
set_option maxHeartbeats 1000000 in
theorem pick_any (g q : Nat) (m : Int) (w : World) (h : RdAt w g q) (hq : q ≤ 1000000) (hm : 1 ≤ m) :
    Calls Try.prog 58 #[.pointer (some ⟨g, 0, none⟩), .int .i64 m] w (PickPost w g (q + 1) m) := by
  have hg := rd_lt h
  obtain ⟨A, n, c, p, hB, hn2, hpq, hr⟩ := h
  have c0 : w.cell? ⟨g, 0, none⟩ = some (.slice A n c) := blk_cell hB 0
  have c1 : w.cell? ⟨g, 1, none⟩ = some (.int .i64 p) := blk_cell hB 1
  have f1 := blk_free hB 1
  have hp : p ≤ 1000000 := by omega
  have HB := Lib.hid hB
  clear hB
  by_cases hn0 : n = 0
  · subst hn0
    go_enter Try.func58, Try.ntmps58
    go_wp2
    go_ret
    exact pick_end (j := 0) (k := 0) HB.out hn2 hpq hr rfl (by omega)
  · have hn : 0 < n := by omega
    obtain ⟨b, off, rfl, hbg, hx⟩ := hr hn
    by_cases hpn : p < n
    · obtain ⟨x1, hx1, e1⟩ := hx p hpn
      have m0 : 0 ≤ (x1 : Int) % m := Int.emod_nonneg _ (by omega)
      have m1 : (x1 : Int) % m < m := Int.emod_lt_of_pos _ (by omega)
      have hne : b ≠ g := by omega
      clear hx
      have HR := Lib.hid hr
      clear hr
      go_enter Try.func58, Try.ntmps58
      go_wp2
      go_ret
      exact pick_end (j := 0) (k := ((x1 : Int) % m).toNat) HB.out hn2 hpq HR.out (ret_int (by omega)) (by omega)
    · obtain ⟨x1, hx1, e1⟩ := hx (p % n) (Nat.mod_lt _ hn)
      obtain ⟨x2, hx2, e2⟩ := hx ((p * 7 + 3) % n) (Nat.mod_lt _ hn)
      clear hx
      have HR := Lib.hid hr
      clear hr
      have m0 : 0 ≤ (p : Int) % (n : Int) := Int.emod_nonneg _ (by omega)
      have m1 : (p : Int) % (n : Int) < (n : Int) := Int.emod_lt_of_pos _ (by omega)
      have m2 : 0 ≤ ((p : Int) * 7 + 3) % (n : Int) := Int.emod_nonneg _ (by omega)
      have m3 : ((p : Int) * 7 + 3) % (n : Int) < (n : Int) := Int.emod_lt_of_pos _ (by omega)
      have d0 : 0 ≤ (p : Int) / (n : Int) := Int.ediv_nonneg (by omega) (by omega)
      have d1 : (p : Int) / (n : Int) ≤ 1000000 := Int.le_trans (Int.ediv_le_self _ (by omega)) (by omega)
      go_enter Try.func58, Try.ntmps58
      go_wp2
      go_quiet (fail)
      obtain ⟨y, hy⟩ := xor_nat ((x1 : Int) * 131 + x2 * 1117 + p * 29 + p / n * 53) (by omega) (by omega)
      have Hy := Lib.hid hy
      clear hy
      go_wp2
      have t1 : ((y : Int)).tmod m = ((y : Int) % m) := Int.tmod_eq_emod_of_nonneg (by omega)
      have t2 : 0 ≤ (y : Int) % m := Int.emod_nonneg _ (by omega)
      have t3 : (y : Int) % m < m := Int.emod_lt_of_pos _ (by omega)
      go_ret
      exact pick_end (k := ((y : Int) % m).toNat) HB.out hn2 hpq HR.out (ret_int (by rw [Hy.out, t1]; omega)) (by omega)
end Go.Proofs.Ytanaeebjcbbagaa
namespace Go.Proofs.Ytanaeebjcbbagaa
open Go.RowKit
def NumPost (w : World) (g q : Nat) (xs : List Int) (e : Ending) (w' : World) : Prop :=
  ∃ x : Int, x ∈ xs ∧ e = .returned (.int .i64 x) ∧ w.grownBy w' (some g) ∧ RdAt w' g q
set_option maxHeartbeats 400000 in
theorem num_any (g q b c : Nat) (xs : List Int) (w : World) (h : RdAt w g q) (hq : q ≤ 1000000) (hx : 0 < xs.length) (hg : g < b)
    (hc : ∀ k x, xs[k]? = some x → w.cell? ⟨b, k, none⟩ = some (.int .i64 x)) (hb : b < w.heap.size) :
    Calls Try.prog 36 #[.pointer (some ⟨g, 0, none⟩), .slice (some ⟨b, 0, none⟩) xs.length c] w (NumPost w g (q + 1) xs) := by
  obtain ⟨n, hn⟩ : ∃ n, n = xs.length := ⟨_, rfl⟩
  rw [← hn]
  have hx' : 0 < n := by omega
  have HN := Lib.hid hn
  clear hn hx
  have HC := Lib.hid hc
  clear hc
  go_enter Try.func36, Try.ntmps36
  go_wp2_with fail
  refine (pick_any g q _ _ h hq (by omega)).mono ?_
  rintro e w1 ⟨k, rfl, hk, hgr, hrd⟩
  have hkn : k < n := by omega
  have e1 : w1.cell? ⟨b, k, none⟩ = some (.int .i64 (xs[k]'(by rw [← HN.out]; exact hkn))) :=
    (g_cell hgr hb (by omega)).trans (HC.out k _ (List.getElem?_eq_getElem (by rw [← HN.out]; exact hkn)))
  have HG := Lib.hid hgr
  have HR := Lib.hid hrd
  clear hgr hrd h
  obtain ⟨x, hxx⟩ : ∃ x, x = xs[k]'(by rw [← HN.out]; exact hkn) := ⟨_, rfl⟩
  rw [← hxx] at e1
  have hmem : x ∈ xs := by rw [hxx]; exact List.getElem_mem _
  clear hxx
  go_wp2
  go_ret
  exact ⟨x, hmem, rfl, HG.out, HR.out⟩
def Bytes (w : World) (A : Option Addr) (n c : Nat) : Prop :=
  n ≤ c ∧ (0 < n → ∃ b off, A = some ⟨b, off, none⟩ ∧ b < w.heap.size ∧ ∀ k, k < n → ∃ x : Nat, x < 256 ∧ w.cell? ⟨b, off + k, none⟩ = some (.int .u8 (x : Int)))
theorem bytes_below {w w' : World} {A : Option Addr} {n c : Nat} (h : Bytes w A n c) (hb : Below w.heap.size w w') : Bytes w' A n c :=
  ⟨h.1, fun hn => by
    obtain ⟨b, off, e, hlt, hc⟩ := h.2 hn
    exact ⟨b, off, e, Nat.lt_of_lt_of_le hlt hb.size, fun k hk => by
      obtain ⟨x, hx, hcx⟩ := hc k hk
      exact ⟨x, hx, ((bcell hb).1 b _ hlt).trans hcx⟩⟩⟩
def OpenPost (w : World) (e : Ending) (w' : World) : Prop :=
  ∃ g : Nat, e = .returned (.pointer (some ⟨g, 0, none⟩)) ∧ w.heap.size ≤ g ∧ Below w.heap.size w w' ∧ RdAt w' g 0
theorem open_end (A : Option Addr) (n c : Nat) (w : World) (hn : n ≤ 2000) (h : 0 < n → ∃ b off, A = some ⟨b, off, none⟩ ∧ b < w.heap.size ∧ ∀ k, k < n → ∃ x : Nat, x < 256 ∧ w.cell? ⟨b, off + k, none⟩ = some (.int .u8 (x : Int))) :
    OpenPost w (.returned (.pointer (some ⟨w.heap.size, 0, none⟩))) (w.alloc (.cells #[.slice A n c, .int .i64 0] 93)) := by
  have hb : Below w.heap.size w (w.alloc (.cells #[.slice A n c, .int .i64 0] 93)) := below_alloc (Below.refl _ _) _
  refine ⟨w.heap.size, rfl, Nat.le_refl _, hb, A, n, c, 0, blk_new w _ _, hn, Nat.le_refl _, fun hn' => ?_⟩
  obtain ⟨b, off, e, hlt, hc⟩ := h hn'
  exact ⟨b, off, e, hlt, fun k hk => by
    obtain ⟨x, hx, hcx⟩ := hc k hk
    exact ⟨x, hx, ((bcell hb).1 b _ hlt).trans hcx⟩⟩
set_option maxHeartbeats 400000 in
theorem open_any (A : Option Addr) (n c : Nat) (w : World) (h : Bytes w A n c) :
    Calls Try.prog 24 #[.slice A n c] w (OpenPost w) := by
  obtain ⟨hnc, h⟩ := h
  have H := Lib.hid h
  clear h
  by_cases hn : n ≤ 2000
  · go_enter Try.func24, Try.ntmps24
    go_wp2
    go_ret
    exact open_end A n c w hn H.out
  · obtain ⟨b, off, rfl, hlt, hc⟩ := H.out (by omega)
    have HC := Lib.hid hc
    clear hc
    go_enter Try.func24, Try.ntmps24
    go_wp2
    go_ret
    exact open_end _ 2000 c w (by omega) fun _ => ⟨b, off, rfl, hlt, fun k hk => HC.out k (by omega)⟩
theorem lit_cells (w : World) (t : TypeId) (cs : Array Value) (xs : List Int) (b : Nat) (hb : b = w.heap.size) (h : cs.toList = xs.map (Value.int .i64)) :
    ∀ k x, xs[k]? = some x → (w.alloc (.cells cs t)).cell? ⟨b, k, none⟩ = some (.int .i64 x) := fun k x hk => by
  subst hb
  rw [blk_cell (blk_new w t cs), ← Array.getElem?_toList, h, List.getElem?_map, hk]; rfl
theorem num_lit (g q b n : Nat) (t : TypeId) (cs : Array Value) (xs : List Int) (w : World) (h : RdAt w g q) (hq : q ≤ 1000000) (hb : b = w.heap.size) (hx : xs.length = n ∧ 0 < n) (hcs : cs.toList = xs.map (Value.int .i64)) :
    Calls Try.prog 36 #[.pointer (some ⟨g, 0, none⟩), .slice (some ⟨b, 0, none⟩) n n] (w.alloc (.cells cs t)) (NumPost w g (q + 1) xs) := by
  subst hb
  obtain ⟨rfl, hx⟩ := hx
  refine (num_any g q w.heap.size _ xs (w.alloc (.cells cs t)) (rd_alloc h _) hq hx (rd_lt h) (lit_cells w t cs xs _ rfl hcs) (by simp)).mono ?_
  rintro e w1 ⟨x, hx, he, hg, hr⟩
  exact ⟨x, hx, he, (World.grownBy_alloc w _ _).trans hg, hr⟩
end Go.Proofs.Ytanaeebjcbbagaa
namespace Go.Proofs.Ytanaeebjcbbagaa
open Go.RowKit
end Go.Proofs.Ytanaeebjcbbagaa
namespace Go.Proofs.Ytanaeebjcbbagaa
open Go.RowKit
end Go.Proofs.Ytanaeebjcbbagaa
namespace Go.Proofs.Ytanaeebjcbbagaa
open Go.RowKit
end Go.Proofs.Ytanaeebjcbbagaa
