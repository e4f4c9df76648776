/-
  Chapter 4: accounts and shares as lists; plain mathematics. Conditions: none; every lemma says what it asks. Rows of numbers in memory: reading, copying, appending. Conditions: a row has at most 4000000000 numbers. The blocks that a call lays first (boxed parameters, results, local structs), known whole, and the numbers of the slice that came in. Conditions: none. Chapter 4: AccountValid and AccountSame; the model's. Conditions: the slice's length fits an int. Chapter 4: NewAccount, FreeFor, Reserve, Release; the model's. Conditions: a slice has at most 4000000000 numbers. Chapter 4: FairShare
  Conditions: each lemma says them.
-/
import Derived.Test.YtiodhdcgfdlknaaKaZ1
import Derived.Deep.RegionHeld3
import Derived.Deep.Slices
import Derived.Deep.Fields
import Derived.ChangeSame
import Derived.Lib.SmallJoins
namespace Go.Proofs.Ytiodhdcgfdlknaa
open Go.RowKit
end Go.Proofs.Ytiodhdcgfdlknaa
namespace Go.Proofs.Ytiodhdcgfdlknaa
open Go.RowKit
def icells (xs : List Int) : List Value := xs.map (fun x => Value.int .i64 x)
theorem icells_len (xs : List Int) : (icells xs).length = xs.length := List.length_map ..
theorem icells_get {xs : List Int} {k : Nat} {x : Int} (h : xs[k]? = some x) : (icells xs)[k]? = some (.int .i64 x) := by
  unfold icells; rw [List.getElem?_map, h]; rfl
theorem icells_set (xs : List Int) (k : Nat) (x : Int) : (icells xs).set k (.int .i64 x) = icells (xs.set k x) := by
  unfold icells; rw [List.map_set]
def NR (w : World) (A : Option Addr) (n : Nat) (xs : List Int) : Prop := xs.length = n ∧ IR w A xs
section
variable {w w' : World} {A : Option Addr} {n c : Nat} {xs : List Int}
theorem nr_nil (w : World) (A : Option Addr) : NR w A 0 [] := ⟨rfl, fun h => by simp at h⟩
theorem nr_below (h : NR w A n xs) (hb : Below w.heap.size w w') : NR w' A n xs := ⟨h.1, ir_below h.2 hb⟩
theorem nr_alloc (h : NR w A n xs) (o : Obj) : NR (w.alloc o) A n xs := nr_below h (below_alloc (Below.refl _ _) o)
theorem nr_at {k : Nat} (h : NR w A n xs) (hk : k < n) : ∃ b off x, A = some ⟨b, off, none⟩ ∧ b < w.heap.size ∧ xs[k]? = some x ∧ w.cell? ⟨b, off + k, none⟩ = some (.int .i64 x) := by
  have hl : k < xs.length := by rw [h.1]; exact hk
  obtain ⟨b, off, e, hb, hc⟩ := h.2 (by omega)
  exact ⟨b, off, xs[k], e, hb, List.getElem?_eq_getElem hl, hc k _ (List.getElem?_eq_getElem hl)⟩
theorem nr_own {base : Nat} {e : TypeId} (h : w.ownsRow base e 1 (.slice A n c) n (icells xs)) : NR w A n xs := by
  have hl : xs.length = n := by have := h.1; rw [icells_len] at this; omega
  refine ⟨hl, fun hn => ?_⟩
  obtain ⟨g, cap, hv, _, hlt⟩ := h.form (by omega)
  have hA : A = some ⟨g, 0, none⟩ := by injection hv
  subst hA
  refine ⟨g, 0, rfl, hlt, fun k x hk => ?_⟩
  have hc := h.cells (g := g) rfl
  have ha : ∀ j, (⟨g, 0, none⟩ : Addr).add j = ⟨g, j, none⟩ := fun j => by unfold Addr.add; split <;> simp_all
  simp only [ha] at hc
  rw [Nat.zero_add]
  exact hc _ _ (icells_get hk)
theorem nr_grown {row : Option Nat} (h : NR w A n xs) (hg : w.grownBy w' row) (hne : 0 < n → ∀ b, A.map (·.block) = some b → some b ≠ row) : NR w' A n xs :=
  ⟨h.1, fun hn => by
    obtain ⟨b, off, rfl, hb, hc⟩ := h.2 hn
    exact ⟨b, off, rfl, Nat.lt_of_lt_of_le hb hg.size, fun k x hk => (hg.cell_far ⟨b, off + k, none⟩ hb (hne (by rw [← h.1]; exact hn) b rfl)).trans (hc k x hk)⟩⟩
theorem nr_set (h : NR w A n xs) {p : Addr} (hp : 0 < n → ∀ b, A.map (·.block) = some b → b ≠ p.block) (u : Value) : NR (w.setCell p u) A n xs :=
  nr_grown h (g_set (g_refl w (some p.block)) (.inl rfl) u) (fun hn b hb e => hp hn b hb (by injection e))
theorem nr_old (h : NR w A n xs) : 0 < n → ∀ b, A.map (·.block) = some b → b < w.heap.size := fun hn b hb => by
  obtain ⟨b', off, rfl, hlt, _⟩ := h.2 (by rw [h.1]; exact hn)
  obtain rfl : b' = b := by simpa using hb
  exact hlt
end
theorem infoInt : (Try.prog.info? 3).map (fun i => (i.zero, i.size, i.bytes)) = some (some (.int .i64 0), 1, 8) := by kernel_rfl
theorem own_set_int {w : World} {base b n c : Nat} {e : TypeId} {xs : List Int} (h : w.ownsRow base e 1 (.slice (some ⟨b, 0, none⟩) n c) n (icells xs)) (k : Nat) (x : Int) :
    (w.setCell ⟨b, k, none⟩ (.int .i64 x)).ownsRow base e 1 (.slice (some ⟨b, 0, none⟩) n c) n (icells (xs.set k x)) := by
  have h1 := (h.stored k (.int .i64 x)).1
  rw [icells_set] at h1
  exact h1
end Go.Proofs.Ytiodhdcgfdlknaa
namespace Go.Proofs.Ytiodhdcgfdlknaa
open Go.RowKit
structure Fn (w : World) (bs : List (TypeId × Array Value)) (A : Option Addr) (n : Nat) (ps : List Int) (w' : World) : Prop where
  it : ∀ i t cs, bs[i]? = some (t, cs) → Blk w' (w.heap.size + i) t cs
  pr : NR w' A n ps
  below : Below w.heap.size w w'
  lt : w.heap.size + bs.length ≤ w'.heap.size
  old : 0 < n → ∀ x, A.map (·.block) = some x → x < w.heap.size
section
variable {w w1 w2 : World} {bs : List (TypeId × Array Value)} {A : Option Addr} {n : Nat} {ps : List Int}
theorem fn_zero (h : NR w A n ps) : Fn w [] A n ps w := ⟨fun i t cs h => by simp at h, h, Below.refl _ _, by simp, nr_old h⟩
theorem fn_push (h : Fn w bs A n ps w1) (hs : w1.heap.size = w.heap.size + bs.length) (t : TypeId) (cs : Array Value) : Fn w (bs ++ [(t, cs)]) A n ps (w1.alloc (.cells cs t)) :=
  ⟨fun i t' cs' hi => by
    rcases Nat.lt_or_ge i bs.length with hl | hl
    · rw [List.getElem?_append_left hl] at hi
      exact blk_alloc (h.it i t' cs' hi) _
    · rw [List.getElem?_append_right hl] at hi
      have h0 : i - bs.length = 0 := by
        rcases Nat.eq_zero_or_pos (i - bs.length) with e | e
        · exact e
        · rw [List.getElem?_eq_none (by simp; omega)] at hi; cases hi
      rw [h0] at hi
      obtain ⟨rfl, rfl⟩ : t = t' ∧ cs = cs' := by simpa using hi
      rw [show w.heap.size + i = w1.heap.size by omega]
      exact blk_new w1 _ _, nr_alloc h.pr _, below_alloc h.below _, by simp; omega, h.old⟩
theorem fn_one (h : NR w A n ps) (t : TypeId) (cs : Array Value) : Fn w [(t, cs)] A n ps (w.alloc (.cells cs t)) := fn_push (fn_zero h) (by simp) t cs
theorem fn_two (h : NR w A n ps) (t t2 : TypeId) (cs cs2 : Array Value) : Fn w [(t, cs), (t2, cs2)] A n ps ((w.alloc (.cells cs t)).alloc (.cells cs2 t2)) := fn_push (fn_one h t cs) (by simp) t2 cs2
theorem fn_three (h : NR w A n ps) (t t2 t3 : TypeId) (cs cs2 cs3 : Array Value) : Fn w [(t, cs), (t2, cs2), (t3, cs3)] A n ps (((w.alloc (.cells cs t)).alloc (.cells cs2 t2)).alloc (.cells cs3 t3)) := fn_push (fn_two h t t2 cs cs2) (by simp) t3 cs3
theorem fn_below (h : Fn w bs A n ps w1) (hb : Below w1.heap.size w1 w2) : Fn w bs A n ps w2 :=
  ⟨fun i t cs hi => blk_below (h.it i t cs hi) hb (blk_lt (h.it i t cs hi)), nr_below h.pr hb, below_seq h.below hb, Nat.le_trans h.lt hb.size, h.old⟩
end
end Go.Proofs.Ytiodhdcgfdlknaa
namespace Go.Proofs.Ytiodhdcgfdlknaa
open Go.RowKit
open Classical in
noncomputable def intsB (us vs : List Int) : Bool := decide (us = vs)
theorem ints_refl (us : List Int) : intsB us us = true := by simp [intsB]
theorem ints_yes {us vs : List Int} (h : us = vs) : true = intsB us vs := by simp [intsB, h]
theorem ints_no {us vs : List Int} (h : ¬ us = vs) : false = intsB us vs := by simp [intsB, h]
theorem takeI_step {us vs : List Int} {k : Nat} {x : Int} (h : us.take k = vs.take k) (hx : us[k]? = some x) (hy : vs[k]? = some x) : us.take (k + 1) = vs.take (k + 1) := by
  rw [List.take_add_one, List.take_add_one, h, hx, hy]
theorem takeI_all {us vs : List Int} {k : Nat} (h : us.take k = vs.take k) (h1 : us.length ≤ k) (h2 : vs.length ≤ k) : us = vs := by
  rw [List.take_of_length_le h1, List.take_of_length_le h2] at h; exact h
def InRel (us vs : List Int) (w : World) (n : Nat) (i : Value) (wr : World) : Prop :=
  ∃ k : Nat, k ≤ n ∧ i = .int .i64 (k : Int) ∧ us.take k = vs.take k ∧ Below w.heap.size w wr
set_option maxHeartbeats 1000000 in
theorem l4Ints_any (A A2 : Option Addr) (n c n2 c2 : Nat) (us vs : List Int) (w : World) (h : NR w A n us) (h2 : NR w A2 n2 vs) (hn : n ≤ 9223372036854775807) (hn2 : n2 ≤ 9223372036854775807) :
    Calls Try.prog 120 #[.slice A n c, .slice A2 n2 c2] w fun e w' => e = .returned (.bool (intsB us vs)) ∧ Below w.heap.size w w' := by
  have H := Lib.hid h
  have H2 := Lib.hid h2
  clear h h2
  by_cases hl : n = n2
  · subst hl
    go_enter Try.func120, Try.ntmps120
    go_wp2
    go_loopw [5] (fun i wr => InRel us vs w n i wr) (fun i _ => n - (intOf i).toNat)
    case atStart => exact ⟨0, Nat.zero_le _, rfl, by simp, Below.refl _ _⟩
    case round =>
      obtain ⟨k, hk, rfl, ht, hbl⟩ := hrel
      have HT := Lib.hid ht
      have HB := Lib.hid hbl
      clear ht
      by_cases hlt : k < n
      · obtain ⟨b, off, x, rfl, hb, hx, c0⟩ := nr_at (nr_below H.out hbl) hlt
        obtain ⟨b2, off2, y, rfl, hb2, hy, d0⟩ := nr_at (nr_below H2.out hbl) hlt
        have HX := Lib.hid hx
        have HY := Lib.hid hy
        have k0 : (0 : Int) ≤ (k : Int) := by omega
        have k1 : (k : Int) < (n : Int) := by omega
        clear hbl hx hy
        by_cases hxy : x = y
        · subst hxy
          go_wp2_with fail
          go_quiet (fail)
          go_wp2
          go_roundw
          case rel => exact ⟨k + 1, by omega, by go_num, takeI_step HT.out HX.out HY.out, below_drewN HB.out _⟩
          case measure => simp [intOf]; omega
        · have hne : (x != y) = true := by simp [hxy]
          have HN := Lib.hid hxy
          clear hxy
          go_wp2_with fail
          go_quiet (fail)
          go_wp2
          go_ret
          exact ⟨ret_bool (ints_no (by rintro rfl; have := HX.out; rw [HY.out] at this; injection this with this; exact HN.out this.symm)), below_drewN HB.out _⟩
      · obtain rfl : k = n := by omega
        clear hbl
        go_wp2
        go_ret
        exact ⟨ret_bool (ints_yes (takeI_all HT.out (by have := H.out.1; omega) (by have := H2.out.1; omega))), HB.out⟩
  · have hlb : ((n : Int) != (n2 : Int)) = true := by simp; omega
    have HL := Lib.hid hl
    clear hl
    go_enter Try.func120, Try.ntmps120
    go_wp2
    go_ret
    exact ⟨ret_bool (ints_no (by rintro rfl; exact HL.out (H.out.1.symm.trans H2.out.1))), Below.refl _ _⟩
noncomputable def asB (l1 e1 : Int) (us : List Int) (l2 e2 : Int) (vs : List Int) : Bool := decide (l1 = l2) && (decide (e1 = e2) && intsB us vs)
theorem as_refl (l e : Int) (us : List Int) : asB l e us l e us = true := by simp [asB, ints_refl]
theorem as_true {l1 e1 l2 e2 : Int} {us vs : List Int} (h : asB l1 e1 us l2 e2 vs = true) : l1 = l2 ∧ e1 = e2 ∧ us = vs := by
  simpa [asB, intsB] using h
set_option maxHeartbeats 1000000 in
theorem asS_any (l1 e1 l2 e2 : Int) (A A2 : Option Addr) (n c n2 c2 : Nat) (us vs : List Int) (w : World) (h : NR w A n us) (h2 : NR w A2 n2 vs) (hn : n ≤ 9223372036854775807) (hn2 : n2 ≤ 9223372036854775807) :
    Calls Try.prog 83 #[.agg #[.int .i64 l1, .int .i64 e1, (.slice A n c)], .agg #[.int .i64 l2, .int .i64 e2, (.slice A2 n2 c2)]] w fun e w' => e = .returned (.bool (asB l1 e1 us l2 e2 vs)) ∧ Below w.heap.size w w' := by
  have H := Lib.hid h
  have H2 := Lib.hid h2
  have B0 := Lib.hid (below_alloc (below_alloc (Below.refl w.heap.size w) (.cells #[.int .i64 l1, .int .i64 e1, (.slice A n c)] 35)) (.cells #[.int .i64 l2, .int .i64 e2, (.slice A2 n2 c2)] 35))
  clear h h2
  by_cases hl : l1 = l2
  · subst hl
    by_cases he : e1 = e2
    · subst he
      have HQ : Hid (asB l1 e1 us l1 e1 vs = intsB us vs) := Lib.hid (by simp [asB])
      go_enter Try.func83, Try.ntmps83
      go_wp2_with fail
      refine (l4Ints_any A A2 n c n2 c2 us vs _ (nr_alloc (nr_alloc H.out _) _) (nr_alloc (nr_alloc H2.out _) _) hn hn2).mono ?_
      rintro e w1 ⟨rfl, hb⟩
      have HB := Lib.hid (below_seq B0.out hb)
      clear hb
      go_wp2
      go_ret
      exact ⟨ret_bool HQ.out.symm, HB.out⟩
    · have HQ : Hid (asB l1 e1 us l1 e2 vs = false) := Lib.hid (by simp [asB, he])
      have hd : (e1 == e2) = false := by simp [he]
      clear he
      go_enter Try.func83, Try.ntmps83
      go_wp2
      go_ret
      exact ⟨ret_bool HQ.out.symm, B0.out⟩
  · have HQ : Hid (asB l1 e1 us l2 e2 vs = false) := Lib.hid (by simp [asB, hl])
    have hd : (l1 == l2) = false := by simp [hl]
    clear hl
    go_enter Try.func83, Try.ntmps83
    go_wp2
    go_ret
    exact ⟨ret_bool HQ.out.symm, B0.out⟩
end Go.Proofs.Ytiodhdcgfdlknaa
namespace Go.Proofs.Ytiodhdcgfdlknaa
open Go.RowKit
def ACopy (w : World) (lim each : Int) (n : Nat) (us : List Int) (e : Ending) (w' : World) : Prop :=
  ∃ A c, e = .returned (.agg #[.int .i64 lim, .int .i64 each, (.slice A n c)]) ∧ w'.ownsRow w.heap.size 3 1 (.slice A n c) n (icells us) ∧ Below w.heap.size w w'
theorem blk_threeA {w : World} {b : Nat} {t : TypeId} {x y z : Value} (h : Blk w b t #[x, y, z]) : (w.cell? ⟨b, 0, none⟩ = some x ∧ w.cell? ⟨b, 1, none⟩ = some y ∧ w.cell? ⟨b, 2, none⟩ = some z) ∧ w.frozen? ⟨b, 0, none⟩ = false ∧ w.frozen? ⟨b, 1, none⟩ = false ∧ w.frozen? ⟨b, 2, none⟩ = false :=
  ⟨⟨blk_cell h 0, blk_cell h 1, blk_cell h 2⟩, blk_free h 0, blk_free h 1, blk_free h 2⟩
end Go.Proofs.Ytiodhdcgfdlknaa
namespace Go.Proofs.Ytiodhdcgfdlknaa
open Go.RowKit
theorem zerosI (n : Nat) : (madeCells (Value.cells (.int .i64 0)) (n * 1)).toList = icells (List.replicate n 0) := by
  apply List.ext_getElem
  · simp [madeCells, icells]
  · intro i h1 h2
    simp [madeCells, icells, Value.cells, Nat.mod_one]
structure SH (w : World) (A : Option Addr) (n : Nat) (ws : List Int) (b : Nat) (out : List Int) (wr : World) : Prop where
  pr : NR wr A n ws
  own : wr.ownsRow w.heap.size 3 1 (.slice (some ⟨b, 0, none⟩) n n) n (icells out)
  below : Below w.heap.size w wr
  old : 0 < n → ∀ x, A.map (·.block) = some x → x < w.heap.size
  hb : w.heap.size ≤ b
theorem sh_set {w : World} {A : Option Addr} {n : Nat} {ws : List Int} {b : Nat} {out : List Int} {wr : World} (h : SH w A n ws b out wr) (k : Nat) (x : Int) : SH w A n ws b (out.set k x) (wr.setCell ⟨b, k, none⟩ (.int .i64 x)) :=
  ⟨nr_set h.pr (fun hn y hy => by have := h.old hn y hy; have := h.hb; simp; omega) _, own_set_int h.own k x, h.below.setCell h.hb _, h.old, h.hb⟩
end Go.Proofs.Ytiodhdcgfdlknaa
namespace Go.Proofs.Ytiodhdcgfdlknaa
open Go.RowKit
set_option maxHeartbeats 1000000 in
theorem eqIntS_any (A A2 : Option Addr) (n c n2 c2 : Nat) (us vs : List Int) (w : World) (h : NR w A n us) (h2 : NR w A2 n2 vs) (hn : n ≤ 9223372036854775807) (hn2 : n2 ≤ 9223372036854775807) :
    Calls Try.prog 31 #[.slice A n c, .slice A2 n2 c2] w fun e w' => e = .returned (.bool (intsB us vs)) ∧ Below w.heap.size w w' := by
  have H := Lib.hid h
  have H2 := Lib.hid h2
  clear h h2
  by_cases hl : n = n2
  · subst hl
    go_enter Try.func31, Try.ntmps31
    go_wp2
    go_loopw [5] (fun i wr => InRel us vs w n i wr) (fun i _ => n - (intOf i).toNat)
    case atStart => exact ⟨0, Nat.zero_le _, rfl, by simp, Below.refl _ _⟩
    case round =>
      obtain ⟨k, hk, rfl, ht, hbl⟩ := hrel
      have HT := Lib.hid ht
      have HB := Lib.hid hbl
      clear ht
      by_cases hlt : k < n
      · obtain ⟨b, off, x, rfl, hb, hx, c0⟩ := nr_at (nr_below H.out hbl) hlt
        obtain ⟨b2, off2, y, rfl, hb2, hy, d0⟩ := nr_at (nr_below H2.out hbl) hlt
        have HX := Lib.hid hx
        have HY := Lib.hid hy
        have k0 : (0 : Int) ≤ (k : Int) := by omega
        have k1 : (k : Int) < (n : Int) := by omega
        clear hbl hx hy
        by_cases hxy : x = y
        · subst hxy
          go_wp2_with fail
          go_quiet (fail)
          go_wp2
          go_roundw
          case rel => exact ⟨k + 1, by omega, by go_num, takeI_step HT.out HX.out HY.out, below_drewN HB.out _⟩
          case measure => simp [intOf]; omega
        · have hne : (x != y) = true := by simp [hxy]
          have HN := Lib.hid hxy
          clear hxy
          go_wp2_with fail
          go_quiet (fail)
          go_wp2
          go_ret
          exact ⟨ret_bool (ints_no (by rintro rfl; have := HX.out; rw [HY.out] at this; injection this with this; exact HN.out this.symm)), below_drewN HB.out _⟩
      · obtain rfl : k = n := by omega
        clear hbl
        go_wp2
        go_ret
        exact ⟨ret_bool (ints_yes (takeI_all HT.out (by have := H.out.1; omega) (by have := H2.out.1; omega))), HB.out⟩
  · have hlb : ((n : Int) != (n2 : Int)) = true := by simp; omega
    have HL := Lib.hid hl
    clear hl
    go_enter Try.func31, Try.ntmps31
    go_wp2
    go_ret
    exact ⟨ret_bool (ints_no (by rintro rfl; exact HL.out (H.out.1.symm.trans H2.out.1))), Below.refl _ _⟩
theorem szIntS_any (A : Option Addr) (n c : Nat) (left : Int) (w : World) (hn : n ≤ 9223372036854775807) (hl : 0 ≤ left ∧ left ≤ 1048576) :
    Calls Try.prog 39 #[.slice A n c, .int .i64 left] w fun e w' => e = .returned (.int .i64 (if left < n then -1 else left - n)) ∧ w = w' := by
  by_cases h : left < n
  · rw [if_pos h]
    have h1 : left - (n : Int) < 0 := by omega
    go_enter Try.func39, Try.ntmps39
    go_wp2
    go_ret
    exact ⟨rfl, rfl⟩
  · rw [if_neg h]
    have h1 : 0 ≤ left - (n : Int) := by omega
    go_enter Try.func39, Try.ntmps39
    go_wp2
    go_ret
    exact ⟨rfl, rfl⟩
def CopyI (w : World) (us : List Int) (n : Nat) (e : Ending) (w' : World) : Prop :=
  ∃ A2, e = .returned (.slice A2 n n) ∧ w'.ownsRow w.heap.size 3 1 (.slice A2 n n) n (icells us) ∧ Below w.heap.size w w'
theorem set_takeI {cur us : List Int} {k n : Nat} {x : Int} (hc : cur.length = n) (hk : k < n) (h : cur.take k = us.take k) (hx : us[k]? = some x) : (cur.set k x).take (k + 1) = us.take (k + 1) := by
  have h1 : (cur.set k x)[k]? = some x := by rw [List.getElem?_set_self (by omega)]
  rw [List.take_add_one, h1, List.take_set_of_le (Nat.le_refl _), h, List.take_add_one, hx]
def CopyIRel (w : World) (A : Option Addr) (us : List Int) (n b : Nat) (i : Value) (wr : World) : Prop :=
  ∃ (k : Nat) (cur : List Int), k ≤ n ∧ i = .int .i64 (k : Int) ∧ cur.length = n ∧ cur.take k = us.take k ∧ SH w A n us b cur wr
set_option maxHeartbeats 2000000 in
theorem toIntS_any (A : Option Addr) (n c : Nat) (us : List Int) (w : World) (h : NR w A n us) (hn : n ≤ 1048576) :
    Calls Try.prog 43 #[.slice A n c] w (CopyI w us n) := by
  have H := Lib.hid h
  have OLD := Lib.hid (nr_old h)
  clear h
  obtain ⟨i0, hi, hz0, hz1, hz2⟩ := info_parts infoInt
  go_enter Try.func43, Try.ntmps43
  go_wp2_with (refine wpList_make_full _ rfl (.tmp 6) (.tmp 6) 22 rfl w.heap.size 3 i0 _ 1 Try.underlying22 hi hz0 hz1 .i64 .i64 n n n rfl rfl rfl rfl (by rw [hz2]; omega) (by unfold maxLen; omega) (Nat.le_refl _) ?_; intro w1 ho1 hg1)
  have R0 : Hid (CopyIRel w A us n w.heap.size (.int .i64 0) w1) := Lib.hid (by
    rw [zerosI] at ho1
    exact ⟨0, _, Nat.zero_le _, rfl, List.length_replicate, by simp, nr_below H.out ⟨hg1.os, hg1.tape, hg1.output, hg1.size, fun i hi => hg1.block i hi (by simp)⟩, ho1, ⟨hg1.os, hg1.tape, hg1.output, hg1.size, fun i hi => hg1.block i hi (by simp)⟩, OLD.out, Nat.le_refl _⟩)
  clear ho1 hg1 hi hz0 hz1 hz2
  go_loopw [4] (fun i wr => CopyIRel w A us n w.heap.size i wr) (fun i _ => n - (intOf i).toNat)
  case atStart => exact R0.out
  case round =>
    obtain ⟨k, cur, hk, rfl, hl, ht, hS⟩ := hrel
    clear R0
    have HS := Lib.hid hS
    have HC := Lib.hid (And.intro hl ht)
    by_cases hlt : k < n
    · obtain ⟨b, off, x, rfl, hb, hx, c0⟩ := nr_at hS.pr hlt
      obtain ⟨b', off', y, e1, hb', hy, d0⟩ := nr_at (nr_own hS.own) hlt
      obtain ⟨rfl, rfl⟩ : w.heap.size = b' ∧ 0 = off' := by injection e1 with e1; injection e1 with a b; exact ⟨a, b⟩
      rw [Nat.zero_add] at d0
      have f0 := World.ownsRow.frozenAt hS.own k
      have HX := Lib.hid hx
      have k0 : (0 : Int) ≤ (k : Int) := by omega
      have k1 : (k : Int) < (n : Int) := by omega
      clear hS hl ht hx hy e1
      go_wp2
      go_roundw
      case rel => exact ⟨k + 1, _, by omega, by go_num, by rw [List.length_set]; exact HC.out.1, set_takeI HC.out.1 hlt HC.out.2 HX.out, sh_set HS.out k x⟩
      case measure => simp [intOf]; omega
    · obtain rfl : k = n := by omega
      have HE := Lib.hid (takeI_all ht (by omega) (by have := H.out.1; omega))
      clear hS hl ht
      go_wp2
      go_ret
      exact ⟨_, rfl, by have o := HS.out.own; rw [HE.out] at o; exact o, HS.out.below⟩
set_option maxHeartbeats 400000 in
theorem szAccount_any (lim each : Int) (A : Option Addr) (n c : Nat) (left : Int) (w : World) (hn : n ≤ 9223372036854775807) (hl : 0 ≤ left ∧ left ≤ 1048576) :
    Calls Try.prog 64 #[.agg #[.int .i64 lim, .int .i64 each, (.slice A n c)], .int .i64 left] w fun e w' => e = .returned (.int .i64 (if left < n then -1 else left - n)) ∧ Below w.heap.size w w' := by
  by_cases h : left < n
  · rw [if_pos h]
    go_enter Try.func64, Try.ntmps64
    go_wp2_with fail
    refine (szIntS_any A n c left _ hn hl).mono ?_
    rintro e w1 ⟨rfl, rfl⟩
    rw [if_pos h]
    go_wp2
    go_ret
    exact ⟨rfl, below_alloc (Below.refl _ _) _⟩
  · rw [if_neg h]
    have h1 : 0 ≤ left - (n : Int) := by omega
    have HH := Lib.hid h
    clear h
    go_enter Try.func64, Try.ntmps64
    go_wp2_with fail
    refine (szIntS_any A n c left _ hn hl).mono ?_
    rintro e w1 ⟨rfl, rfl⟩
    rw [if_neg (by have := HH.out; omega)]
    go_wp2
    go_ret
    exact ⟨rfl, below_alloc (Below.refl _ _) _⟩
set_option maxHeartbeats 1000000 in
theorem toAccount_any (lim each : Int) (A : Option Addr) (n c : Nat) (us : List Int) (w : World) (h : NR w A n us) (hn : n ≤ 1048576) :
    Calls Try.prog 73 #[.agg #[.int .i64 lim, .int .i64 each, (.slice A n c)]] w (ACopy w lim each n us) := by
  have F := Lib.hid (fn_three (t := 50) (t2 := 35) (t3 := 35) (cs := #[.int .i64 lim, .int .i64 each, (.slice A n c)]) (cs2 := #[.int .i64 0, .int .i64 0, (.slice none 0 0)]) (cs3 := #[.int .i64 lim, .int .i64 each, (.slice none 0 0)]) h)
  clear h
  go_enter Try.func73, Try.ntmps73
  go_wp2_with fail
  refine (toIntS_any A n c us _ F.out.pr hn).mono ?_
  rintro e w1 ⟨A2, rfl, ho, hb⟩
  have F2 := Lib.hid (fn_below F.out hb)
  have HO := Lib.hid ho
  have z1 := F2.out.lt
  simp at z1
  have z2 := hb.size
  simp at z2
  have y0 : w.heap.size < w1.heap.size := by omega
  have y1 : w.heap.size + 1 < w1.heap.size := by omega
  have y2 : w.heap.size + 1 + 1 < w1.heap.size := by omega
  have y3 : w.heap.size + 2 < w1.heap.size := by omega
  obtain ⟨⟨o0, o1, o2⟩, f0, f1, f2⟩ := blk_threeA (show Blk w1 (w.heap.size + 1) 35 #[.int .i64 0, .int .i64 0, (.slice none 0 0)] from F2.out.it 1 _ _ rfl)
  obtain ⟨⟨l0, l1, l2⟩, g0, g1, g2⟩ := blk_threeA (show Blk w1 (w.heap.size + 2) 35 #[.int .i64 lim, .int .i64 each, (.slice none 0 0)] from F2.out.it 2 _ _ rfl)
  have HB := Lib.hid F2.out.below
  clear F F2 ho hb
  go_wp2
  refine bodyPost_ret (v := .agg #[.int .i64 lim, .int .i64 each, (.slice A2 n n)]) (by simp [results, Try.results73, go_sem, o0, o1, o2]) rfl ⟨A2, n, rfl, ?_, ?_⟩
  · refine own_mono (b2 := w.heap.size) (base := w.heap.size + 3) ?_ (by omega)
    repeat with_reducible refine own_set_far ?_ (by simp <;> omega) _
    exact own_mono HO.out (by simp)
  · repeat refine Below.setCell ?_ (by simp <;> omega) _
    exact HB.out
set_option maxHeartbeats 400000 in
theorem eqAccount_same (lim each : Int) (A A2 : Option Addr) (n c n2 c2 : Nat) (us : List Int) (w : World) (h : NR w A n us) (h2 : NR w A2 n2 us) (hn : n ≤ 9223372036854775807) (hn2 : n2 ≤ 9223372036854775807) :
    Calls Try.prog 52 #[.agg #[.int .i64 lim, .int .i64 each, (.slice A n c)], .agg #[.int .i64 lim, .int .i64 each, (.slice A2 n2 c2)]] w fun e w' => e = .returned (.bool true) ∧ Below w.heap.size w w' := by
  have H := Lib.hid h
  have H2 := Lib.hid h2
  clear h h2
  go_enter Try.func52, Try.ntmps52
  go_wp2_with fail
  refine (eqIntS_any A A2 n c n2 c2 us us _ (nr_alloc (nr_alloc H.out _) _) (nr_alloc (nr_alloc H2.out _) _) hn hn2).mono ?_
  rintro e w1 ⟨rfl, hb⟩
  rw [← ints_yes rfl]
  have HB := Lib.hid (below_seq2 (Below.refl w.heap.size w) hb)
  clear hb
  go_wp2
  go_ret
  exact ⟨rfl, HB.out⟩
end Go.Proofs.Ytiodhdcgfdlknaa
namespace Go.Proofs.Ytiodhdcgfdlknaa
open Go.ChangeShapes Go.WideShapes Go.ChangeAt Go.RowKit Go.Deep
theorem list_ofI {P : Nat → Int → Prop} {n : Nat} (h : ∀ i, i < n → ∃ q, P i q) : ∃ ps : List Int, ps.length = n ∧ ∀ k p, ps[k]? = some p → P k p := by
  induction n with
  | zero => exact ⟨[], rfl, fun k p hp => by simp at hp⟩
  | succ n ih =>
    obtain ⟨ps, hl, hp⟩ := ih fun i hi => h i (by omega)
    obtain ⟨q, hq⟩ := h n (by omega)
    refine ⟨ps ++ [q], by simp [hl], fun k p hk => ?_⟩
    rcases Nat.lt_or_ge k n with hlt | hge
    · rw [List.getElem?_append_left (by omega)] at hk
      exact hp k p hk
    · rw [List.getElem?_append_right (by omega)] at hk
      have : k - ps.length = 0 := by
        rcases Nat.eq_zero_or_pos (k - ps.length) with h0 | h0
        · exact h0
        · rw [List.getElem?_eq_none (by simp; omega)] at hk; cases hk
      rw [this] at hk
      obtain rfl : q = p := by simpa using hk
      obtain rfl : k = n := by omega
      exact hq
theorem ints_open {H : Type} {enc : TypeId × Value → H} {W : World} {base : Nat} {sp : Nat → Bool} {hd : Bool} {a : Option Addr} {n c : Nat} {d : DataW H} {p : List MemPlace}
    (h : DataW.Trod enc Try.prog W base sp hd 22 (.slice a n c) d p) : ∃ us, NR W a n us ∧ n ≤ 9223372036854775807 := by
  obtain ⟨fuel, hf⟩ := h
  rcases open_slice Try.underlying22 hf with ⟨hcs, _⟩ | ⟨x, len, cap, m, nf, D, Pl, hcs, hb, hl, hm, hmm, hx, hi⟩
  · simp [Value.cells] at hcs
    obtain ⟨rfl, rfl, rfl⟩ := hcs
    exact ⟨[], nr_nil _ _, by omega⟩
  · simp [Value.cells] at hcs
    obtain ⟨rfl, rfl, rfl⟩ := hcs
    have hn : n ≤ m := by rw [hmm]; split <;> omega
    have hI : Try.prog.cellsOf 3 = 1 := by kernel_rfl
    rw [hI] at hi
    have hone : ∀ i, i < n → ∃ q : Int, W.cell? ((x.add (i * 1)).add 0) = some (.int .i64 q) := by
      intro i him
      obtain ⟨cs', hc, ht⟩ := hi i (by omega)
      obtain ⟨_, hcl, hat⟩ := World.cells?_some hc
      obtain ⟨q0, e0, _, _⟩ := DataW.trod_int Try.underlying3 ht
      refine ⟨q0, ?_⟩
      rw [hat (i := 0) (by omega), e0]
      rfl
    obtain ⟨us, hl1, hus⟩ := list_ofI hone
    refine ⟨us, ⟨hl1, fun hn0 => ?_⟩, by unfold maxLen at hm; omega⟩
    obtain ⟨b, off, spot⟩ := x
    obtain ⟨q, hq⟩ := hone 0 (by omega)
    have hspot : spot = none := by simpa [Addr.add] using World.cell?_spot hq
    subst hspot
    have ha : ∀ i j, ((⟨b, off, none⟩ : Addr).add i).add j = ⟨b, off + i + j, none⟩ := fun i j => by unfold Addr.add; split <;> split <;> simp_all
    refine ⟨b, off, rfl, World.block_lt_of_cell? W (a := ⟨b, off + 0 * 1 + 0, none⟩) (by rw [← ha]; exact hq), fun k p hp => ?_⟩
    have h0 := hus k p hp
    rw [ha] at h0
    simpa using h0
theorem ints_open1 {H : Type} {enc : TypeId × Value → H} {W : World} {base : Nat} {sp : Nat → Bool} {hd : Bool} {fuel : Nat} {v : Value} {y : DataW H × List MemPlace}
    (h : DataW.trod enc Try.prog W base sp hd fuel 22 [v] = some y) : ∃ a n c us, v = .slice a n c ∧ NR W a n us ∧ n ≤ 9223372036854775807 := by
  have h2 := h
  rcases open_slice Try.underlying22 h with ⟨hcs, _⟩ | ⟨x, len, cap, m, nf, D, Pl, hcs, _⟩
  · simp at hcs
    subst hcs
    obtain ⟨us, h1, h3⟩ := ints_open (a := none) (n := 0) (c := 0) (d := y.1) (p := y.2) ⟨fuel, h2⟩
    exact ⟨none, 0, 0, us, rfl, h1, h3⟩
  · simp at hcs
    subst hcs
    obtain ⟨us, h1, h3⟩ := ints_open (a := some x) (n := len) (c := cap) (d := y.1) (p := y.2) ⟨fuel, h2⟩
    exact ⟨some x, len, cap, us, rfl, h1, h3⟩
end Go.Proofs.Ytiodhdcgfdlknaa
