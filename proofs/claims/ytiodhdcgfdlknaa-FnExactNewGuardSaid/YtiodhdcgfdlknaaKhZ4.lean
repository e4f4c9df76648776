/-
  Chapter 4: accounts and shares as lists; plain mathematics. Conditions: none; every lemma says what it asks. Rows of numbers in memory: reading, copying, appending. Conditions: a row has at most 4000000000 numbers. The blocks that a call lays first (boxed parameters, results, local structs), known whole, and the numbers of the slice that came in. Conditions: none. Chapter 4: AccountValid and AccountSame; the model's. Conditions: the slice's length fits an int. Chapter 4: NewAccount, FreeFor, Reserve, Release; the model's. Conditions: a slice has at most 4000000000 numbers. Chapter 4: FairShare
  Conditions: each lemma says them.
-/
import Derived.Test.YtiodhdcgfdlknaaKaZ4
import Derived.Deep.RegionHeld3
import Derived.Deep.Slices
import Derived.Deep.Fields
import Derived.ChangeSame
import Derived.Lib.SmallJoins
namespace Go.Proofs.Ytiodhdcgfdlknaa
open Go.RowKit
def sumL : List Int → Int
  | [] => 0
  | x :: r => x + sumL r
theorem sumL_append (a b : List Int) : sumL (a ++ b) = sumL a + sumL b := by
  induction a with
  | nil => simp [sumL]
  | cons x r ih => simp only [List.cons_append, sumL, ih]; omega
theorem sumL_snoc (a : List Int) (x : Int) : sumL (a ++ [x]) = sumL a + x := by rw [sumL_append]; simp [sumL]
theorem sumL_take {xs : List Int} {k : Nat} {x : Int} (h : xs[k]? = some x) : sumL (xs.take (k + 1)) = sumL (xs.take k) + x := by
  rw [List.take_add_one, h]; exact sumL_snoc _ _
theorem sumL_bd {xs : List Int} {B : Int} (h : ∀ x ∈ xs, 0 ≤ x ∧ x ≤ B) : 0 ≤ sumL xs ∧ sumL xs ≤ B * xs.length := by
  induction xs with
  | nil => simp [sumL]
  | cons x r ih =>
    have h1 := h x (List.mem_cons_self ..)
    have h2 := ih fun y hy => h y (List.mem_cons_of_mem _ hy)
    simp only [sumL, List.length_cons]
    have : B * ((r.length + 1 : Nat) : Int) = B * r.length + B := by rw [Int.natCast_add, Int.mul_add]; simp
    omega
theorem sumL_take_bd {xs : List Int} {B : Int} (h : ∀ x ∈ xs, 0 ≤ x ∧ x ≤ B) (k : Nat) (hB : 0 ≤ B) : 0 ≤ sumL (xs.take k) ∧ sumL (xs.take k) ≤ B * xs.length := by
  have h1 := sumL_bd (xs := xs.take k) (B := B) fun x hx => h x (List.mem_of_mem_take hx)
  have h2 : ((xs.take k).length : Int) ≤ xs.length := by simp; omega
  have := Int.mul_le_mul_of_nonneg_left h2 hB
  omega
def acB (lim each : Int) (us : List Int) : Bool := us.all (fun x => decide (0 ≤ x ∧ x ≤ each)) && decide (1 ≤ lim ∧ lim ≤ 5000 ∧ 1 ≤ each ∧ each ≤ lim ∧ us.length = 8 ∧ sumL us ≤ lim)
theorem ac_of {lim each : Int} {us : List Int} (h : acB lim each us = true) : (∀ x ∈ us, 0 ≤ x ∧ x ≤ each) ∧ (1 ≤ lim ∧ lim ≤ 5000) ∧ (1 ≤ each ∧ each ≤ lim) ∧ us.length = 8 ∧ sumL us ≤ lim ∧ 0 ≤ sumL us := by
  simp only [acB, Bool.and_eq_true, decide_eq_true_eq, List.all_eq_true] at h
  obtain ⟨h1, h2, h3, h4, h5, h6, h7⟩ := h
  exact ⟨h1, ⟨h2, h3⟩, ⟨h4, h5⟩, h6, h7, (sumL_bd h1).1⟩
theorem ac_mk {lim each : Int} {us : List Int} (h1 : ∀ x ∈ us, 0 ≤ x ∧ x ≤ each) (h2 : 1 ≤ lim) (h3 : lim ≤ 5000) (h4 : 1 ≤ each) (h5 : each ≤ lim) (h6 : us.length = 8) (h7 : sumL us ≤ lim) : acB lim each us = true := by
  simp only [acB, Bool.and_eq_true, decide_eq_true_eq, List.all_eq_true]
  exact ⟨h1, h2, h3, h4, h5, h6, h7⟩
end Go.Proofs.Ytiodhdcgfdlknaa
namespace Go.Proofs.Ytiodhdcgfdlknaa
open Go.RowKit
def icells (xs : List Int) : List Value := xs.map (fun x => Value.int .i64 x)
theorem icells_len (xs : List Int) : (icells xs).length = xs.length := List.length_map ..
theorem icells_append (a b : List Int) : icells (a ++ b) = icells a ++ icells b := List.map_append ..
theorem icells_get {xs : List Int} {k : Nat} {x : Int} (h : xs[k]? = some x) : (icells xs)[k]? = some (.int .i64 x) := by
  unfold icells; rw [List.getElem?_map, h]; rfl
theorem icells_at {xs : List Int} {k : Nat} {u : Value} (h : (icells xs)[k]? = some u) : ∃ x, xs[k]? = some x ∧ u = .int .i64 x := by
  unfold icells at h
  rw [List.getElem?_map] at h
  rcases hx : xs[k]? with _ | x
  · rw [hx] at h; cases h
  · rw [hx] at h; exact ⟨x, rfl, by injection h with h; exact h.symm⟩
theorem icells_set (xs : List Int) (k : Nat) (x : Int) : (icells xs).set k (.int .i64 x) = icells (xs.set k x) := by
  unfold icells; rw [List.map_set]
theorem icells_one (xs : List Int) : ∀ u ∈ icells xs, u.oneCell' = true := by
  intro u hu
  obtain ⟨x, -, rfl⟩ := List.mem_map.1 hu
  rfl
def NR (w : World) (A : Option Addr) (n : Nat) (xs : List Int) : Prop := xs.length = n ∧ IR w A xs
section
variable {w w' : World} {A : Option Addr} {n c : Nat} {xs : List Int}
theorem nr_nil (w : World) (A : Option Addr) : NR w A 0 [] := ⟨rfl, fun h => by simp at h⟩
theorem nr_below (h : NR w A n xs) (hb : Below w.heap.size w w') : NR w' A n xs := ⟨h.1, ir_below h.2 hb⟩
theorem nr_alloc (h : NR w A n xs) (o : Obj) : NR (w.alloc o) A n xs := nr_below h (below_alloc (Below.refl _ _) o)
theorem nr_at {k : Nat} (h : NR w A n xs) (hk : k < n) : ∃ b off x, A = some ⟨b, off, none⟩ ∧ b < w.heap.size ∧ xs[k]? = some x ∧ w.cell? ⟨b, off + k, none⟩ = some (.int .i64 x) := by
  have hl : k < xs.length := by rw [h.1]; exact hk
  obtain ⟨b, off, e, hb, hc⟩ := h.2 (by omega)
  exact ⟨b, off, xs[k], e, hb, List.getElem?_eq_getElem hl, hc k _ (List.getElem?_eq_getElem hl)⟩
theorem nr_own {base : Nat} {e : TypeId} (h : w.ownsRow base e 1 (.slice A n c) n (icells xs)) : NR w A n xs := by
  have hl : xs.length = n := by have := h.1; rw [icells_len] at this; omega
  refine ⟨hl, fun hn => ?_⟩
  obtain ⟨g, cap, hv, _, hlt⟩ := h.form (by omega)
  have hA : A = some ⟨g, 0, none⟩ := by injection hv
  subst hA
  refine ⟨g, 0, rfl, hlt, fun k x hk => ?_⟩
  have hc := h.cells (g := g) rfl
  have ha : ∀ j, (⟨g, 0, none⟩ : Addr).add j = ⟨g, j, none⟩ := fun j => by unfold Addr.add; split <;> simp_all
  simp only [ha] at hc
  rw [Nat.zero_add]
  exact hc _ _ (icells_get hk)
theorem nr_grown {row : Option Nat} (h : NR w A n xs) (hg : w.grownBy w' row) (hne : 0 < n → ∀ b, A.map (·.block) = some b → some b ≠ row) : NR w' A n xs :=
  ⟨h.1, fun hn => by
    obtain ⟨b, off, rfl, hb, hc⟩ := h.2 hn
    exact ⟨b, off, rfl, Nat.lt_of_lt_of_le hb hg.size, fun k x hk => (hg.cell_far ⟨b, off + k, none⟩ hb (hne (by rw [← h.1]; exact hn) b rfl)).trans (hc k x hk)⟩⟩
theorem nr_set (h : NR w A n xs) {p : Addr} (hp : 0 < n → ∀ b, A.map (·.block) = some b → b ≠ p.block) (u : Value) : NR (w.setCell p u) A n xs :=
  nr_grown h (g_set (g_refl w (some p.block)) (.inl rfl) u) (fun hn b hb e => hp hn b hb (by injection e))
theorem nr_old (h : NR w A n xs) : 0 < n → ∀ b, A.map (·.block) = some b → b < w.heap.size := fun hn b hb => by
  obtain ⟨b', off, rfl, hlt, _⟩ := h.2 (by rw [h.1]; exact hn)
  obtain rfl : b' = b := by simpa using hb
  exact hlt
end
theorem infoInt : (Try.prog.info? 3).map (fun i => (i.zero, i.size, i.bytes)) = some (some (.int .i64 0), 1, 8) := by kernel_rfl
theorem own_emptyI {W : World} {b : Nat} (hb : b = W.heap.size) : (W.alloc (.cells #[] 3)).ownsRow W.heap.size 3 1 (.slice (some ⟨b, 0, none⟩) 0 0) 0 (icells []) := by
  subst hb
  exact ⟨rfl, .inr ⟨W.heap.size, 0, #[], rfl, Nat.le_refl _, blk_new W _ _, Nat.le_refl _, by unfold maxLen; omega, rfl, rfl⟩⟩
theorem own_set_int {w : World} {base b n c : Nat} {e : TypeId} {xs : List Int} (h : w.ownsRow base e 1 (.slice (some ⟨b, 0, none⟩) n c) n (icells xs)) (k : Nat) (x : Int) :
    (w.setCell ⟨b, k, none⟩ (.int .i64 x)).ownsRow base e 1 (.slice (some ⟨b, 0, none⟩) n c) n (icells (xs.set k x)) := by
  have h1 := (h.stored k (.int .i64 x)).1
  rw [icells_set] at h1
  exact h1
theorem run_app_ints (w : World) (ty : TypeId) (base : Nat) (v : Value) (n : Nat) (ps : List Int) (hown : w.ownsRow base 3 1 v n (icells ps))
    (A : Option Addr) (m c : Nat) (qs : List Int) (hr : NR w A m qs) (hn : n + m ≤ 4000000000) (hb : base ≤ w.heap.size) :
    ∃ v' w', (Builtin.append_ #[22, 22] ty #[v, .slice A m c]).run Try.prog w = .ok v' w' ∧ w'.ownsRow base 3 1 v' (n + m) (icells (ps ++ qs)) ∧ w.grownBy w' v.ownBlock ∧
      (v'.ownBlock = v.ownBlock ∨ v'.ownBlock = some w.heap.size) := by
  obtain ⟨i0, hi, hz0, hz1, hz2⟩ := info_parts infoInt
  by_cases h0 : A = none
  · subst h0
    have hm : m = 0 := by
      rcases Nat.eq_zero_or_pos m with hm | hm
      · exact hm
      · obtain ⟨b, off, e, _⟩ := hr.2 (by rw [hr.1]; exact hm)
        cases e
    subst hm
    have hq : qs = [] := List.eq_nil_of_length_eq_zero hr.1
    subst hq
    exact ⟨v, w, run_app_nil (P := Try.prog) w base 22 ty 3 i0 1 Try.underlying22 hi v n _ hown c, by simpa using hown, g_refl _ _, .inl rfl⟩
  · obtain ⟨ad, rfl⟩ : ∃ ad, A = some ad := by
      cases A with
      | none => exact absurd rfl h0
      | some ad => exact ⟨ad, rfl⟩
    obtain ⟨v', w', e1, e2, e3, _, e5⟩ := run_append_own_at (P := Try.prog) w base 22 ty 3 i0 _ 1 8 Try.underlying22 hi hz0 hz1 hz2 rfl (by decide) v n _ hown ad m c (icells qs) (by rw [icells_len, hr.1]; omega) (by
      intro j u hj
      obtain ⟨x, hx, rfl⟩ := icells_at hj
      have hjl : j < qs.length := by
        rcases Nat.lt_or_ge j qs.length with hl | hl
        · exact hl
        · rw [List.getElem?_eq_none hl] at hx; cases hx
      obtain ⟨b, off, e, hlt, hc⟩ := hr.2 (by omega)
      obtain rfl : ad = ⟨b, off, none⟩ := by injection e
      have ha : (⟨b, off, none⟩ : Addr).add j = ⟨b, off + j, none⟩ := by unfold Addr.add; split <;> simp_all
      rw [ha]
      exact hc j x hx) (icells_one qs) (by unfold maxLen; omega) (by omega) hb
    exact ⟨v', w', e1, by rw [icells_append]; exact e2, e3, e5⟩
theorem wpl_app_ints (w : World) {ops : Array Oper} {rest : List Oper} {o : Oper} {a : Act} {Q : Exit → Act → World → Prop} (hgd : o.guard = none) (s x : Operand)
    (ho : o.op = .call { callee := .builtin .append, args := #[s, x], argTypes := #[22, 22] })
    (base : Nat) (v : Value) (n : Nat) (ps : List Int) (hs : a.eval s = v) (hown : w.ownsRow base 3 1 v n (icells ps))
    (A : Option Addr) (m c : Nat) (qs : List Int) (hx : a.eval x = .slice A m c) (hr : NR w A m qs) (hn : n + m ≤ 4000000000) (hb : base ≤ w.heap.size)
    (h : ∀ v' w', w'.ownsRow base 3 1 v' (n + m) (icells (ps ++ qs)) → w.grownBy w' v.ownBlock → (v'.ownBlock = v.ownBlock ∨ v'.ownBlock = some w.heap.size) → wpList Try.prog ops Q rest (a.put o.dst v') w') :
    wpList Try.prog ops Q (o :: rest) a w := by
  refine wpList_plain hgd fun K hK => ?_
  obtain ⟨v', w', hr', h2, h3, h4⟩ := run_app_ints w o.type base v n ps hown A m c qs hr hn hb
  unfold Oper.wp execOp
  simp only [ho, resolve, invoke, builtin, Sem.run_bind, Sem.run_pure, Result.andThen_ok, List.map_toArray, List.map_cons, List.map_nil, hs, hx, hr']
  exact hK _ _ (h v' w' h2 h3 h4)
end Go.Proofs.Ytiodhdcgfdlknaa
namespace Go.Proofs.Ytiodhdcgfdlknaa
open Go.RowKit
structure Fn (w : World) (bs : List (TypeId × Array Value)) (A : Option Addr) (n : Nat) (ps : List Int) (w' : World) : Prop where
  it : ∀ i t cs, bs[i]? = some (t, cs) → Blk w' (w.heap.size + i) t cs
  pr : NR w' A n ps
  below : Below w.heap.size w w'
  lt : w.heap.size + bs.length ≤ w'.heap.size
  old : 0 < n → ∀ x, A.map (·.block) = some x → x < w.heap.size
section
variable {w w1 w2 : World} {bs : List (TypeId × Array Value)} {A : Option Addr} {n : Nat} {ps : List Int}
theorem fn_zero (h : NR w A n ps) : Fn w [] A n ps w := ⟨fun i t cs h => by simp at h, h, Below.refl _ _, by simp, nr_old h⟩
theorem fn_push (h : Fn w bs A n ps w1) (hs : w1.heap.size = w.heap.size + bs.length) (t : TypeId) (cs : Array Value) : Fn w (bs ++ [(t, cs)]) A n ps (w1.alloc (.cells cs t)) :=
  ⟨fun i t' cs' hi => by
    rcases Nat.lt_or_ge i bs.length with hl | hl
    · rw [List.getElem?_append_left hl] at hi
      exact blk_alloc (h.it i t' cs' hi) _
    · rw [List.getElem?_append_right hl] at hi
      have h0 : i - bs.length = 0 := by
        rcases Nat.eq_zero_or_pos (i - bs.length) with e | e
        · exact e
        · rw [List.getElem?_eq_none (by simp; omega)] at hi; cases hi
      rw [h0] at hi
      obtain ⟨rfl, rfl⟩ : t = t' ∧ cs = cs' := by simpa using hi
      rw [show w.heap.size + i = w1.heap.size by omega]
      exact blk_new w1 _ _, nr_alloc h.pr _, below_alloc h.below _, by simp; omega, h.old⟩
theorem fn_one (h : NR w A n ps) (t : TypeId) (cs : Array Value) : Fn w [(t, cs)] A n ps (w.alloc (.cells cs t)) := fn_push (fn_zero h) (by simp) t cs
theorem fn_two (h : NR w A n ps) (t t2 : TypeId) (cs cs2 : Array Value) : Fn w [(t, cs), (t2, cs2)] A n ps ((w.alloc (.cells cs t)).alloc (.cells cs2 t2)) := fn_push (fn_one h t cs) (by simp) t2 cs2
theorem fn_three (h : NR w A n ps) (t t2 t3 : TypeId) (cs cs2 cs3 : Array Value) : Fn w [(t, cs), (t2, cs2), (t3, cs3)] A n ps (((w.alloc (.cells cs t)).alloc (.cells cs2 t2)).alloc (.cells cs3 t3)) := fn_push (fn_two h t t2 cs cs2) (by simp) t3 cs3
theorem fn_below (h : Fn w bs A n ps w1) (hb : Below w1.heap.size w1 w2) : Fn w bs A n ps w2 :=
  ⟨fun i t cs hi => blk_below (h.it i t cs hi) hb (blk_lt (h.it i t cs hi)), nr_below h.pr hb, below_seq h.below hb, Nat.le_trans h.lt hb.size, h.old⟩
theorem fn_drewN (h : Fn w bs A n ps w1) (k : Nat) : Fn w bs A n ps (w1.drewN k) := ⟨h.it, h.pr, below_drewN h.below k, h.lt, h.old⟩
end
end Go.Proofs.Ytiodhdcgfdlknaa
namespace Go.Proofs.Ytiodhdcgfdlknaa
open Go.RowKit
set_option maxHeartbeats 400000 in
theorem l4Sum_any (A : Option Addr) (n c : Nat) (us : List Int) (w : World) (h : NR w A n us) (hb : ∀ x ∈ us, 0 ≤ x ∧ x ≤ 5000) (hn : n ≤ 64) :
    Calls Try.prog 96 #[.slice A n c] w fun e w' => e = .returned (.int .i64 (sumL us)) ∧ w' = w := by
  have H := Lib.hid h
  have HB := Lib.hid hb
  clear h hb
  go_enter Try.func96, Try.ntmps96
  go_wp2
  go_loop [3, 4] (fun s i => ∃ k : Nat, k ≤ n ∧ i = .int .i64 (k : Int) ∧ s = .int .i64 (sumL (us.take k))) (fun _ i => n - (intOf i).toNat)
  case atStart => exact ⟨0, Nat.zero_le _, rfl, rfl⟩
  case round =>
    obtain ⟨k, hk, rfl, rfl⟩ := hrel
    by_cases hlt : k < n
    · obtain ⟨b, off, x, rfl, hb, hx, c0⟩ := nr_at H.out hlt
      have HS := Lib.hid (sumL_take hx)
      obtain ⟨x0, x1⟩ := HB.out x (List.mem_of_getElem? hx)
      obtain ⟨s0, s1⟩ := sumL_take_bd HB.out k (by omega)
      have hl := H.out.1
      have s2 : sumL (us.take k) ≤ 320000 := by omega
      clear hx s1 hl
      go_wp2
      go_round
      case rel => exact ⟨k + 1, by omega, by go_num, by rw [HS.out]⟩
      case measure => simp [intOf]; omega
    · obtain rfl : k = n := by omega
      go_wp2
      go_ret
      exact ⟨ret_int (by rw [List.take_of_length_le (by have := H.out.1; omega)]), rfl⟩
def acBs (lim each : Int) (A : Option Addr) (n c : Nat) : List (TypeId × Array Value) := [(35, #[.int .i64 lim, .int .i64 each, (.slice A n c)])]
theorem fn_cell3 {w w1 : World} {t : TypeId} {x y z : Value} {r : List (TypeId × Array Value)} {A : Option Addr} {n : Nat} {ps : List Int} (h : Fn w ((t, #[x, y, z]) :: r) A n ps w1) : w1.cell? ⟨w.heap.size, 0, none⟩ = some x ∧ w1.cell? ⟨w.heap.size, 1, none⟩ = some y ∧ w1.cell? ⟨w.heap.size, 2, none⟩ = some z :=
  ⟨blk_cell (h.it 0 _ _ rfl) 0, blk_cell (h.it 0 _ _ rfl) 1, blk_cell (h.it 0 _ _ rfl) 2⟩
theorem ac_no {lim each : Int} {us : List Int} (h : ¬ (1 ≤ lim ∧ lim ≤ 5000 ∧ 1 ≤ each ∧ each ≤ lim ∧ us.length = 8)) : acB lim each us = false := by
  rcases hq : acB lim each us with _ | _
  · rfl
  · obtain ⟨-, h2, h3, h4, -⟩ := ac_of hq
    exact absurd ⟨h2.1, h2.2, h3.1, h3.2, h4⟩ h
theorem ac_bad {lim each x : Int} {us : List Int} {k : Nat} (hx : us[k]? = some x) (h : x < 0 ∨ each < x) : acB lim each us = false := by
  rcases hq : acB lim each us with _ | _
  · rfl
  · have := (ac_of hq).1 x (List.mem_of_getElem? hx)
    omega
def AcRel (w : World) (lim each : Int) (A : Option Addr) (c : Nat) (us : List Int) (i : Value) (wr : World) : Prop :=
  ∃ k : Nat, k ≤ 8 ∧ i = .int .i64 (k : Int) ∧ (∀ x ∈ us.take k, 0 ≤ x ∧ x ≤ each) ∧ Fn w (acBs lim each A 8 c) A 8 us wr
theorem mem_take_succ {us : List Int} {k : Nat} {x : Int} {P : Int → Prop} (h : ∀ y ∈ us.take k, P y) (hx : us[k]? = some x) (hp : P x) : ∀ y ∈ us.take (k + 1), P y := by
  intro y hy
  rw [List.take_add_one, hx] at hy
  rcases List.mem_append.1 hy with hy | hy
  · exact h y hy
  · simp at hy; subst hy; exact hp
set_option maxHeartbeats 2000000 in
theorem acS_any (lim each : Int) (A : Option Addr) (n c : Nat) (us : List Int) (w : World) (h : NR w A n us) (hn : n ≤ 9223372036854775807) :
    Calls Try.prog 42 #[.agg #[.int .i64 lim, .int .i64 each, (.slice A n c)]] w fun e w' => e = .returned (.bool (acB lim each us)) ∧ Below w.heap.size w w' := by
  have F := Lib.hid (fn_one h 35 #[.int .i64 lim, .int .i64 each, (.slice A n c)])
  have HL := Lib.hid h.1
  clear h
  by_cases hd : 1 ≤ lim ∧ lim ≤ 5000 ∧ 1 ≤ each ∧ each ≤ lim ∧ n = 8
  · obtain ⟨d1, d2, d3, d4, rfl⟩ := hd
    have R0 : Hid (AcRel w lim each A c us (.int .i64 0) (w.alloc (.cells #[.int .i64 lim, .int .i64 each, (.slice A 8 c)] 35))) := Lib.hid ⟨0, Nat.zero_le _, rfl, fun x hx => by simp at hx, F.out⟩
    clear F
    go_enter Try.func42, Try.ntmps42
    go_wp2
    go_loopw [3] (fun i wr => AcRel w lim each A c us i wr) (fun i _ => 8 - (intOf i).toNat)
    case atStart => exact R0.out
    case round =>
      obtain ⟨k, hk, rfl, hall, hF⟩ := hrel
      clear R0
      have HF := Lib.hid hF
      have HA := Lib.hid hall
      obtain ⟨q0, q1, q2⟩ := fn_cell3 hF
      clear hall
      by_cases hlt : k < 8
      · obtain ⟨b, off, x, rfl, hb, hx, c0⟩ := nr_at hF.pr hlt
        have HX := Lib.hid hx
        have k0 : (0 : Int) ≤ (k : Int) := by omega
        have k1 : (k : Int) < (8 : Int) := by omega
        clear hF hx
        by_cases hx0 : x < 0
        · go_wp2_with fail
          go_quiet (fail)
          go_wp2
          go_ret
          exact ⟨ret_bool (ac_bad HX.out (.inl hx0)).symm, (fn_drewN HF.out _).below⟩
        · have e0 : decide (x < 0) = false := by simp; omega
          by_cases hx1 : each < x
          · go_wp2_with fail
            go_quiet (fail)
            go_wp2
            go_ret
            exact ⟨ret_bool (ac_bad HX.out (.inr hx1)).symm, (fn_drewN HF.out _).below⟩
          · have e1 : decide (each < x) = false := by simp; omega
            have HXB := Lib.hid (show 0 ≤ x ∧ x ≤ each by omega)
            clear hx0 hx1
            go_wp2_with fail
            go_quiet (fail)
            go_wp2
            go_roundw
            case rel => exact ⟨k + 1, by omega, by go_num, mem_take_succ HA.out HX.out HXB.out, fn_drewN HF.out _⟩
            case measure => simp [intOf]; omega
      · obtain rfl : k = 8 := by omega
        have HALL : Hid (∀ x ∈ us, 0 ≤ x ∧ x ≤ 5000) := Lib.hid (fun x hx => by have := HA.out x (by rw [List.take_of_length_le (by have := HL.out; omega)]; exact hx); omega)
        have HE : Hid (acB lim each us = decide (sumL us ≤ lim)) := Lib.hid (by
          have h1 : ∀ x ∈ us, 0 ≤ x ∧ x ≤ each := fun x hx => HA.out x (by rw [List.take_of_length_le (by have := HL.out; omega)]; exact hx)
          rw [Bool.eq_iff_iff, decide_eq_true_eq]
          exact ⟨fun h => (ac_of h).2.2.2.2.1, fun h => ac_mk h1 d1 d2 d3 d4 HL.out h⟩)
        clear hF
        go_wp2_with fail
        go_quiet ((go_at_call 96; exact Calls.quiet_of_same (l4Sum_any A 8 c us _ HF.out.pr HALL.out (by omega))))
        go_wp2
        go_ret
        exact ⟨ret_bool HE.out.symm, (fn_drewN HF.out _).below⟩
  · have HE := Lib.hid (ac_no (us := us) (lim := lim) (each := each) (by rw [HL.out]; exact hd))
    obtain ⟨q0, q1, q2⟩ := fn_cell3 F.out
    have hor : lim < 1 ∨ (1 ≤ lim ∧ 5000 < lim) ∨ (1 ≤ lim ∧ lim ≤ 5000 ∧ each < 1) ∨ (1 ≤ lim ∧ lim ≤ 5000 ∧ 1 ≤ each ∧ lim < each) ∨ (1 ≤ lim ∧ lim ≤ 5000 ∧ 1 ≤ each ∧ each ≤ lim ∧ ¬ n = 8) := by omega
    clear hd
    rcases hor with d1 | ⟨d1, d2⟩ | ⟨d1, d2, d3⟩ | ⟨d1, d2, d3, d4⟩ | ⟨d1, d2, d3, d4, d5⟩
    · go_enter Try.func42, Try.ntmps42
      go_wp2
      all_goals
        go_ret
        exact ⟨ret_bool HE.out.symm, F.out.below⟩
    · go_enter Try.func42, Try.ntmps42
      go_wp2
      all_goals
        go_ret
        exact ⟨ret_bool HE.out.symm, F.out.below⟩
    · go_enter Try.func42, Try.ntmps42
      go_wp2
      all_goals
        go_ret
        exact ⟨ret_bool HE.out.symm, F.out.below⟩
    · go_enter Try.func42, Try.ntmps42
      go_wp2
      all_goals
        go_ret
        exact ⟨ret_bool HE.out.symm, F.out.below⟩
    · have d6 : ((n : Int) != 8) = true := by simp; omega
      go_enter Try.func42, Try.ntmps42
      go_wp2
      all_goals
        go_ret
        exact ⟨ret_bool HE.out.symm, F.out.below⟩
open Classical in
noncomputable def intsB (us vs : List Int) : Bool := decide (us = vs)
theorem ints_yes {us vs : List Int} (h : us = vs) : true = intsB us vs := by simp [intsB, h]
theorem ints_no {us vs : List Int} (h : ¬ us = vs) : false = intsB us vs := by simp [intsB, h]
theorem takeI_step {us vs : List Int} {k : Nat} {x : Int} (h : us.take k = vs.take k) (hx : us[k]? = some x) (hy : vs[k]? = some x) : us.take (k + 1) = vs.take (k + 1) := by
  rw [List.take_add_one, List.take_add_one, h, hx, hy]
theorem takeI_all {us vs : List Int} {k : Nat} (h : us.take k = vs.take k) (h1 : us.length ≤ k) (h2 : vs.length ≤ k) : us = vs := by
  rw [List.take_of_length_le h1, List.take_of_length_le h2] at h; exact h
def InRel (us vs : List Int) (w : World) (n : Nat) (i : Value) (wr : World) : Prop :=
  ∃ k : Nat, k ≤ n ∧ i = .int .i64 (k : Int) ∧ us.take k = vs.take k ∧ Below w.heap.size w wr
end Go.Proofs.Ytiodhdcgfdlknaa
namespace Go.Proofs.Ytiodhdcgfdlknaa
open Go.RowKit
def FAc (w : World) (lim each : Int) (A : Option Addr) (n c : Nat) (us : List Int) (w' : World) : Prop := Fn w (acBs lim each A n c) A n us w'
section
variable {w w1 w2 : World} {lim each : Int} {A : Option Addr} {n c : Nat} {us : List Int}
theorem fa_first (h : NR w A n us) : FAc w lim each A n c us (w.alloc (.cells #[.int .i64 lim, .int .i64 each, (.slice A n c)] 35)) := fn_one h _ _
theorem fa_cells (h : FAc w lim each A n c us w1) : (w1.cell? ⟨w.heap.size, 0, none⟩ = some (.int .i64 lim) ∧ w1.cell? ⟨w.heap.size, 1, none⟩ = some (.int .i64 each) ∧ w1.cell? ⟨w.heap.size, 2, none⟩ = some (.slice A n c)) ∧ FAc w lim each A n c us w1 :=
  ⟨fn_cell3 h, h⟩
theorem fa_pr (h : FAc w lim each A n c us w1) : NR w1 A n us := Fn.pr h
theorem fa_drewN (h : FAc w lim each A n c us w1) (k : Nat) : FAc w lim each A n c us (w1.drewN k) := fn_drewN h k
theorem fa_bel (h : FAc w lim each A n c us w1) : Below w.heap.size w w1 := Fn.below h
end
theorem blk_threeA {w : World} {b : Nat} {t : TypeId} {x y z : Value} (h : Blk w b t #[x, y, z]) : (w.cell? ⟨b, 0, none⟩ = some x ∧ w.cell? ⟨b, 1, none⟩ = some y ∧ w.cell? ⟨b, 2, none⟩ = some z) ∧ w.frozen? ⟨b, 0, none⟩ = false ∧ w.frozen? ⟨b, 1, none⟩ = false ∧ w.frozen? ⟨b, 2, none⟩ = false :=
  ⟨⟨blk_cell h 0, blk_cell h 1, blk_cell h 2⟩, blk_free h 0, blk_free h 1, blk_free h 2⟩
end Go.Proofs.Ytiodhdcgfdlknaa
namespace Go.Proofs.Ytiodhdcgfdlknaa
open Go.RowKit
theorem zerosI (n : Nat) : (madeCells (Value.cells (.int .i64 0)) (n * 1)).toList = icells (List.replicate n 0) := by
  apply List.ext_getElem
  · simp [madeCells, icells]
  · intro i h1 h2
    simp [madeCells, icells, Value.cells, Nat.mod_one]
structure SH (w : World) (A : Option Addr) (n : Nat) (ws : List Int) (b : Nat) (out : List Int) (wr : World) : Prop where
  pr : NR wr A n ws
  own : wr.ownsRow w.heap.size 3 1 (.slice (some ⟨b, 0, none⟩) n n) n (icells out)
  below : Below w.heap.size w wr
  old : 0 < n → ∀ x, A.map (·.block) = some x → x < w.heap.size
  hb : w.heap.size ≤ b
theorem sh_set {w : World} {A : Option Addr} {n : Nat} {ws : List Int} {b : Nat} {out : List Int} {wr : World} (h : SH w A n ws b out wr) (k : Nat) (x : Int) : SH w A n ws b (out.set k x) (wr.setCell ⟨b, k, none⟩ (.int .i64 x)) :=
  ⟨nr_set h.pr (fun hn y hy => by have := h.old hn y hy; have := h.hb; simp; omega) _, own_set_int h.own k x, h.below.setCell h.hb _, h.old, h.hb⟩
end Go.Proofs.Ytiodhdcgfdlknaa
namespace Go.Proofs.Ytiodhdcgfdlknaa
open Go.RowKit
set_option maxHeartbeats 1000000 in
theorem eqIntS_any (A A2 : Option Addr) (n c n2 c2 : Nat) (us vs : List Int) (w : World) (h : NR w A n us) (h2 : NR w A2 n2 vs) (hn : n ≤ 9223372036854775807) (hn2 : n2 ≤ 9223372036854775807) :
    Calls Try.prog 31 #[.slice A n c, .slice A2 n2 c2] w fun e w' => e = .returned (.bool (intsB us vs)) ∧ Below w.heap.size w w' := by
  have H := Lib.hid h
  have H2 := Lib.hid h2
  clear h h2
  by_cases hl : n = n2
  · subst hl
    go_enter Try.func31, Try.ntmps31
    go_wp2
    go_loopw [5] (fun i wr => InRel us vs w n i wr) (fun i _ => n - (intOf i).toNat)
    case atStart => exact ⟨0, Nat.zero_le _, rfl, by simp, Below.refl _ _⟩
    case round =>
      obtain ⟨k, hk, rfl, ht, hbl⟩ := hrel
      have HT := Lib.hid ht
      have HB := Lib.hid hbl
      clear ht
      by_cases hlt : k < n
      · obtain ⟨b, off, x, rfl, hb, hx, c0⟩ := nr_at (nr_below H.out hbl) hlt
        obtain ⟨b2, off2, y, rfl, hb2, hy, d0⟩ := nr_at (nr_below H2.out hbl) hlt
        have HX := Lib.hid hx
        have HY := Lib.hid hy
        have k0 : (0 : Int) ≤ (k : Int) := by omega
        have k1 : (k : Int) < (n : Int) := by omega
        clear hbl hx hy
        by_cases hxy : x = y
        · subst hxy
          go_wp2_with fail
          go_quiet (fail)
          go_wp2
          go_roundw
          case rel => exact ⟨k + 1, by omega, by go_num, takeI_step HT.out HX.out HY.out, below_drewN HB.out _⟩
          case measure => simp [intOf]; omega
        · have hne : (x != y) = true := by simp [hxy]
          have HN := Lib.hid hxy
          clear hxy
          go_wp2_with fail
          go_quiet (fail)
          go_wp2
          go_ret
          exact ⟨ret_bool (ints_no (by rintro rfl; have := HX.out; rw [HY.out] at this; injection this with this; exact HN.out this.symm)), below_drewN HB.out _⟩
      · obtain rfl : k = n := by omega
        clear hbl
        go_wp2
        go_ret
        exact ⟨ret_bool (ints_yes (takeI_all HT.out (by have := H.out.1; omega) (by have := H2.out.1; omega))), HB.out⟩
  · have hlb : ((n : Int) != (n2 : Int)) = true := by simp; omega
    have HL := Lib.hid hl
    clear hl
    go_enter Try.func31, Try.ntmps31
    go_wp2
    go_ret
    exact ⟨ret_bool (ints_no (by rintro rfl; exact HL.out (H.out.1.symm.trans H2.out.1))), Below.refl _ _⟩
theorem szIntS_any (A : Option Addr) (n c : Nat) (left : Int) (w : World) (hn : n ≤ 9223372036854775807) (hl : 0 ≤ left ∧ left ≤ 1048576) :
    Calls Try.prog 39 #[.slice A n c, .int .i64 left] w fun e w' => e = .returned (.int .i64 (if left < n then -1 else left - n)) ∧ w = w' := by
  by_cases h : left < n
  · rw [if_pos h]
    have h1 : left - (n : Int) < 0 := by omega
    go_enter Try.func39, Try.ntmps39
    go_wp2
    go_ret
    exact ⟨rfl, rfl⟩
  · rw [if_neg h]
    have h1 : 0 ≤ left - (n : Int) := by omega
    go_enter Try.func39, Try.ntmps39
    go_wp2
    go_ret
    exact ⟨rfl, rfl⟩
def CopyI (w : World) (us : List Int) (n : Nat) (e : Ending) (w' : World) : Prop :=
  ∃ A2, e = .returned (.slice A2 n n) ∧ w'.ownsRow w.heap.size 3 1 (.slice A2 n n) n (icells us) ∧ Below w.heap.size w w'
theorem set_takeI {cur us : List Int} {k n : Nat} {x : Int} (hc : cur.length = n) (hk : k < n) (h : cur.take k = us.take k) (hx : us[k]? = some x) : (cur.set k x).take (k + 1) = us.take (k + 1) := by
  have h1 : (cur.set k x)[k]? = some x := by rw [List.getElem?_set_self (by omega)]
  rw [List.take_add_one, h1, List.take_set_of_le (Nat.le_refl _), h, List.take_add_one, hx]
def CopyIRel (w : World) (A : Option Addr) (us : List Int) (n b : Nat) (i : Value) (wr : World) : Prop :=
  ∃ (k : Nat) (cur : List Int), k ≤ n ∧ i = .int .i64 (k : Int) ∧ cur.length = n ∧ cur.take k = us.take k ∧ SH w A n us b cur wr
set_option maxHeartbeats 2000000 in
theorem toIntS_any (A : Option Addr) (n c : Nat) (us : List Int) (w : World) (h : NR w A n us) (hn : n ≤ 1048576) :
    Calls Try.prog 43 #[.slice A n c] w (CopyI w us n) := by
  have H := Lib.hid h
  have OLD := Lib.hid (nr_old h)
  clear h
  obtain ⟨i0, hi, hz0, hz1, hz2⟩ := info_parts infoInt
  go_enter Try.func43, Try.ntmps43
  go_wp2_with (refine wpList_make_full _ rfl (.tmp 6) (.tmp 6) 22 rfl w.heap.size 3 i0 _ 1 Try.underlying22 hi hz0 hz1 .i64 .i64 n n n rfl rfl rfl rfl (by rw [hz2]; omega) (by unfold maxLen; omega) (Nat.le_refl _) ?_; intro w1 ho1 hg1)
  have R0 : Hid (CopyIRel w A us n w.heap.size (.int .i64 0) w1) := Lib.hid (by
    rw [zerosI] at ho1
    exact ⟨0, _, Nat.zero_le _, rfl, List.length_replicate, by simp, nr_below H.out ⟨hg1.os, hg1.tape, hg1.output, hg1.size, fun i hi => hg1.block i hi (by simp)⟩, ho1, ⟨hg1.os, hg1.tape, hg1.output, hg1.size, fun i hi => hg1.block i hi (by simp)⟩, OLD.out, Nat.le_refl _⟩)
  clear ho1 hg1 hi hz0 hz1 hz2
  go_loopw [4] (fun i wr => CopyIRel w A us n w.heap.size i wr) (fun i _ => n - (intOf i).toNat)
  case atStart => exact R0.out
  case round =>
    obtain ⟨k, cur, hk, rfl, hl, ht, hS⟩ := hrel
    clear R0
    have HS := Lib.hid hS
    have HC := Lib.hid (And.intro hl ht)
    by_cases hlt : k < n
    · obtain ⟨b, off, x, rfl, hb, hx, c0⟩ := nr_at hS.pr hlt
      obtain ⟨b', off', y, e1, hb', hy, d0⟩ := nr_at (nr_own hS.own) hlt
      obtain ⟨rfl, rfl⟩ : w.heap.size = b' ∧ 0 = off' := by injection e1 with e1; injection e1 with a b; exact ⟨a, b⟩
      rw [Nat.zero_add] at d0
      have f0 := World.ownsRow.frozenAt hS.own k
      have HX := Lib.hid hx
      have k0 : (0 : Int) ≤ (k : Int) := by omega
      have k1 : (k : Int) < (n : Int) := by omega
      clear hS hl ht hx hy e1
      go_wp2
      go_roundw
      case rel => exact ⟨k + 1, _, by omega, by go_num, by rw [List.length_set]; exact HC.out.1, set_takeI HC.out.1 hlt HC.out.2 HX.out, sh_set HS.out k x⟩
      case measure => simp [intOf]; omega
    · obtain rfl : k = n := by omega
      have HE := Lib.hid (takeI_all ht (by omega) (by have := H.out.1; omega))
      clear hS hl ht
      go_wp2
      go_ret
      exact ⟨_, rfl, by have o := HS.out.own; rw [HE.out] at o; exact o, HS.out.below⟩
def markI : Nat → Int → List Int
  | 0, _ => []
  | n + 1, k => k :: markI n (k + 1)
theorem markI_len (n : Nat) (k : Int) : (markI n k).length = n := by
  induction n generalizing k with
  | zero => rfl
  | succ n ih => simp [markI, ih]
theorem markI_get (n : Nat) (k : Int) (i : Nat) (h : i < n) : (markI n k)[i]? = some (k + i) := by
  induction n generalizing k i with
  | zero => omega
  | succ n ih =>
    cases i with
    | zero => simp [markI]
    | succ i =>
      have := ih (k + 1) i (by omega)
      simp only [markI, List.getElem?_cons_succ, this, Option.some.injEq]
      omega
def MarkIRel (w : World) (base b n c : Nat) (k0 : Int) (kv i : Value) (wr : World) : Prop :=
  ∃ (k : Nat) (x : Int) (cur : List Int), k ≤ n ∧ i = .int .i64 (k : Int) ∧ kv = .int .i64 x ∧ x = k0 + k ∧ cur.length = n ∧ cur.take k = (markI n k0).take k ∧ wr.ownsRow base 3 1 (.slice (some ⟨b, 0, none⟩) n c) n (icells cur) ∧ w.grownBy wr (some b)
def MarkIPost (w : World) (base : Nat) (A : Option Addr) (n c : Nat) (k0 : Int) (e : Ending) (w' : World) : Prop :=
  e = .returned (.int .i64 (k0 + n)) ∧ w'.ownsRow base 3 1 (.slice A n c) n (icells (markI n k0)) ∧ w.grownBy w' (Value.ownBlock (.slice A n c))
set_option maxHeartbeats 2000000 in
theorem markIntS_any (base : Nat) (A : Option Addr) (n c : Nat) (k0 : Int) (us : List Int) (w : World) (h : w.ownsRow base 3 1 (.slice A n c) n (icells us)) (hn : n ≤ 4000000000) (hk : 0 ≤ k0 ∧ k0 ≤ 100000000) :
    Calls Try.prog 32 #[.slice A n c, .int .i64 k0] w (MarkIPost w base A n c k0) := by
  by_cases h0 : n = 0
  · subst h0
    have hps : us = [] := List.eq_nil_of_length_eq_zero (by have := h.1; rw [icells_len] at this; omega)
    subst hps
    have H := Lib.hid h
    clear h
    go_enter Try.func32, Try.ntmps32
    go_wp2
    refine wp_loop_rounds 1 ?_
    rw [rounds_succ]
    go_wp2
    go_ret
    exact ⟨ret_int (by omega), H.out, g_refl _ _⟩
  · obtain ⟨b, c', hv, hbb, hlt⟩ := h.form (by omega)
    obtain ⟨rfl, rfl⟩ : A = some ⟨b, 0, none⟩ ∧ c = c' := by injection hv with a1 a2 a3; exact ⟨a1, a3⟩
    have hl0 : us.length = n := (nr_own h).1
    have HR : Hid (MarkIRel w base b n c k0 (.int .i64 k0) (.int .i64 0) w) := Lib.hid ⟨0, k0, us, Nat.zero_le _, rfl, rfl, by omega, hl0, by simp, h, g_refl _ _⟩
    clear h hv
    go_enter Try.func32, Try.ntmps32
    go_wp2
    go_loopw [1, 5] (fun kv i wr => MarkIRel w base b n c k0 kv i wr) (fun _ i _ => n - (intOf i).toNat)
    case atStart => exact HR.out
    case round =>
      obtain ⟨k, x, cur, hk', rfl, rfl, hx, hl, ht, ho, hgr⟩ := hrel
      clear HR
      have hx0 : 0 ≤ x ∧ x ≤ 5000000000 := by omega
      have HX := Lib.hid hx
      have HL := Lib.hid (And.intro hl ht)
      have HG := Lib.hid hgr
      clear hx hl ht hgr
      by_cases hlt : k < n
      · obtain ⟨b', off', y, e1, hb', hy, d0⟩ := nr_at (nr_own ho) hlt
        obtain ⟨rfl, rfl⟩ : b = b' ∧ 0 = off' := by injection e1 with e1; injection e1 with a b; exact ⟨a, b⟩
        rw [Nat.zero_add] at d0
        have f0 := World.ownsRow.frozenAt ho k
        have G := Lib.hid (own_set_int ho k x)
        have i0' : (0 : Int) ≤ (k : Int) := by omega
        have i1' : (k : Int) < (n : Int) := by omega
        clear ho e1 hy
        go_wp2
        go_roundw
        case rel => exact ⟨k + 1, _, _, by omega, by go_num, rfl, by have := HX.out; omega, by rw [List.length_set]; exact HL.out.1, set_takeI HL.out.1 hlt HL.out.2 (by rw [markI_get n k0 k hlt, HX.out]), G.out, g_set HG.out (.inl rfl) _⟩
        case measure => simp [intOf]; omega
      · obtain rfl : k = n := by omega
        have HE := Lib.hid (And.intro (takeI_all HL.out.2 (by have := HL.out.1; omega) (Nat.le_of_eq (markI_len _ _))) ho)
        clear ho
        go_wp2
        go_ret
        exact ⟨ret_int HX.out, by have e := HE.out.1; have o := HE.out.2; rw [e] at o; exact o, HG.out⟩
set_option maxHeartbeats 2000000 in
theorem heldIntS_any (A : Option Addr) (n c : Nat) (k0 : Int) (w : World) (h : NR w A n (markI n k0)) (hn : n ≤ 4000000000) (hk : 0 ≤ k0 ∧ k0 ≤ 100000000) :
    Calls Try.prog 33 #[.slice A n c, .int .i64 k0] w fun e w' => e = .returned (.int .i64 (k0 + n)) ∧ w = w' := by
  have H := Lib.hid h
  clear h
  go_enter Try.func33, Try.ntmps33
  go_wp2
  go_loop [1, 5] (fun kv i => ∃ (k : Nat) (x : Int), k ≤ n ∧ i = .int .i64 (k : Int) ∧ kv = .int .i64 x ∧ x = k0 + k) (fun _ i => n - (intOf i).toNat)
  case atStart => exact ⟨0, k0, Nat.zero_le _, rfl, rfl, by omega⟩
  case round =>
    obtain ⟨k, x, hk', rfl, rfl, hx⟩ := hrel
    have hx0 : 0 ≤ x ∧ x ≤ 5000000000 := by omega
    have HX := Lib.hid hx
    by_cases hlt : k < n
    · obtain ⟨b, off, y, rfl, hb, hy, c0⟩ := nr_at H.out hlt
      obtain rfl : y = x := by
        rw [markI_get n k0 k hlt, ← hx] at hy
        injection hy with hy
        exact hy.symm
      have i0' : (0 : Int) ≤ (k : Int) := by omega
      have i1' : (k : Int) < (n : Int) := by omega
      clear hx hy
      go_wp2
      go_round
      case rel => exact ⟨k + 1, _, by omega, by go_num, rfl, by have := HX.out; omega⟩
      case measure => simp [intOf]; omega
    · obtain rfl : k = n := by omega
      clear hx
      go_wp2
      go_ret
      exact ⟨ret_int HX.out, rfl⟩
set_option maxHeartbeats 400000 in
theorem eqAccount_same (lim each : Int) (A A2 : Option Addr) (n c n2 c2 : Nat) (us : List Int) (w : World) (h : NR w A n us) (h2 : NR w A2 n2 us) (hn : n ≤ 9223372036854775807) (hn2 : n2 ≤ 9223372036854775807) :
    Calls Try.prog 52 #[.agg #[.int .i64 lim, .int .i64 each, (.slice A n c)], .agg #[.int .i64 lim, .int .i64 each, (.slice A2 n2 c2)]] w fun e w' => e = .returned (.bool true) ∧ Below w.heap.size w w' := by
  have H := Lib.hid h
  have H2 := Lib.hid h2
  clear h h2
  go_enter Try.func52, Try.ntmps52
  go_wp2_with fail
  refine (eqIntS_any A A2 n c n2 c2 us us _ (nr_alloc (nr_alloc H.out _) _) (nr_alloc (nr_alloc H2.out _) _) hn hn2).mono ?_
  rintro e w1 ⟨rfl, hb⟩
  rw [← ints_yes rfl]
  have HB := Lib.hid (below_seq2 (Below.refl w.heap.size w) hb)
  clear hb
  go_wp2
  go_ret
  exact ⟨rfl, HB.out⟩
theorem g_allocA {w w' : World} {o : Obj} {row : Option Nat} (h : (w.alloc o).grownBy w' row) : w.grownBy w' row := (World.grownBy_alloc w o row).trans h
set_option maxHeartbeats 400000 in
theorem markAccount_any (lim each : Int) (base : Nat) (A : Option Addr) (n c : Nat) (k0 : Int) (us : List Int) (w : World) (h : w.ownsRow base 3 1 (.slice A n c) n (icells us)) (hn : n ≤ 4000000000) (hk : 0 ≤ k0 ∧ k0 ≤ 100000000) :
    Calls Try.prog 56 #[.agg #[.int .i64 lim, .int .i64 each, (.slice A n c)], .int .i64 k0] w (MarkIPost w base A n c k0) := by
  have H := Lib.hid h
  clear h
  go_enter Try.func56, Try.ntmps56
  go_wp2_with fail
  refine (markIntS_any base A n c k0 us _ (H.out.alloc _) hn hk).mono ?_
  rintro e w1 ⟨rfl, ho, hg⟩
  have HO := Lib.hid (And.intro ho (g_allocA hg))
  clear ho hg
  go_wp2
  go_ret
  exact ⟨rfl, HO.out.1, HO.out.2⟩
set_option maxHeartbeats 400000 in
theorem heldAccount_any (lim each : Int) (A : Option Addr) (n c : Nat) (k0 : Int) (w : World) (h : NR w A n (markI n k0)) (hn : n ≤ 4000000000) (hk : 0 ≤ k0 ∧ k0 ≤ 100000000) :
    Calls Try.prog 60 #[.agg #[.int .i64 lim, .int .i64 each, (.slice A n c)], .int .i64 k0] w fun e w' => e = .returned (.int .i64 (k0 + n)) ∧ Below w.heap.size w w' := by
  have H := Lib.hid h
  clear h
  have k1 : 0 ≤ k0 + (n : Int) := by omega
  go_enter Try.func60, Try.ntmps60
  go_wp2_with fail
  refine (heldIntS_any A n c k0 _ (nr_alloc H.out _) hn hk).mono ?_
  rintro e w1 ⟨rfl, rfl⟩
  go_wp2
  go_ret
  exact ⟨rfl, below_alloc (Below.refl _ _) _⟩
end Go.Proofs.Ytiodhdcgfdlknaa
namespace Go.Proofs.Ytiodhdcgfdlknaa
open Go.ChangeShapes Go.WideShapes Go.ChangeAt Go.RowKit Go.Deep
theorem list_ofI {P : Nat → Int → Prop} {n : Nat} (h : ∀ i, i < n → ∃ q, P i q) : ∃ ps : List Int, ps.length = n ∧ ∀ k p, ps[k]? = some p → P k p := by
  induction n with
  | zero => exact ⟨[], rfl, fun k p hp => by simp at hp⟩
  | succ n ih =>
    obtain ⟨ps, hl, hp⟩ := ih fun i hi => h i (by omega)
    obtain ⟨q, hq⟩ := h n (by omega)
    refine ⟨ps ++ [q], by simp [hl], fun k p hk => ?_⟩
    rcases Nat.lt_or_ge k n with hlt | hge
    · rw [List.getElem?_append_left (by omega)] at hk
      exact hp k p hk
    · rw [List.getElem?_append_right (by omega)] at hk
      have : k - ps.length = 0 := by
        rcases Nat.eq_zero_or_pos (k - ps.length) with h0 | h0
        · exact h0
        · rw [List.getElem?_eq_none (by simp; omega)] at hk; cases hk
      rw [this] at hk
      obtain rfl : q = p := by simpa using hk
      obtain rfl : k = n := by omega
      exact hq
theorem ints_open {H : Type} {enc : TypeId × Value → H} {W : World} {base : Nat} {sp : Nat → Bool} {hd : Bool} {a : Option Addr} {n c : Nat} {d : DataW H} {p : List MemPlace}
    (h : DataW.Trod enc Try.prog W base sp hd 22 (.slice a n c) d p) : ∃ us, NR W a n us ∧ n ≤ 9223372036854775807 := by
  obtain ⟨fuel, hf⟩ := h
  rcases open_slice Try.underlying22 hf with ⟨hcs, _⟩ | ⟨x, len, cap, m, nf, D, Pl, hcs, hb, hl, hm, hmm, hx, hi⟩
  · simp [Value.cells] at hcs
    obtain ⟨rfl, rfl, rfl⟩ := hcs
    exact ⟨[], nr_nil _ _, by omega⟩
  · simp [Value.cells] at hcs
    obtain ⟨rfl, rfl, rfl⟩ := hcs
    have hn : n ≤ m := by rw [hmm]; split <;> omega
    have hI : Try.prog.cellsOf 3 = 1 := by kernel_rfl
    rw [hI] at hi
    have hone : ∀ i, i < n → ∃ q : Int, W.cell? ((x.add (i * 1)).add 0) = some (.int .i64 q) := by
      intro i him
      obtain ⟨cs', hc, ht⟩ := hi i (by omega)
      obtain ⟨_, hcl, hat⟩ := World.cells?_some hc
      obtain ⟨q0, e0, _, _⟩ := DataW.trod_int Try.underlying3 ht
      refine ⟨q0, ?_⟩
      rw [hat (i := 0) (by omega), e0]
      rfl
    obtain ⟨us, hl1, hus⟩ := list_ofI hone
    refine ⟨us, ⟨hl1, fun hn0 => ?_⟩, by unfold maxLen at hm; omega⟩
    obtain ⟨b, off, spot⟩ := x
    obtain ⟨q, hq⟩ := hone 0 (by omega)
    have hspot : spot = none := by simpa [Addr.add] using World.cell?_spot hq
    subst hspot
    have ha : ∀ i j, ((⟨b, off, none⟩ : Addr).add i).add j = ⟨b, off + i + j, none⟩ := fun i j => by unfold Addr.add; split <;> split <;> simp_all
    refine ⟨b, off, rfl, World.block_lt_of_cell? W (a := ⟨b, off + 0 * 1 + 0, none⟩) (by rw [← ha]; exact hq), fun k p hp => ?_⟩
    have h0 := hus k p hp
    rw [ha] at h0
    simpa using h0
theorem ints_open1 {H : Type} {enc : TypeId × Value → H} {W : World} {base : Nat} {sp : Nat → Bool} {hd : Bool} {fuel : Nat} {v : Value} {y : DataW H × List MemPlace}
    (h : DataW.trod enc Try.prog W base sp hd fuel 22 [v] = some y) : ∃ a n c us, v = .slice a n c ∧ NR W a n us ∧ n ≤ 9223372036854775807 := by
  have h2 := h
  rcases open_slice Try.underlying22 h with ⟨hcs, _⟩ | ⟨x, len, cap, m, nf, D, Pl, hcs, _⟩
  · simp at hcs
    subst hcs
    obtain ⟨us, h1, h3⟩ := ints_open (a := none) (n := 0) (c := 0) (d := y.1) (p := y.2) ⟨fuel, h2⟩
    exact ⟨none, 0, 0, us, rfl, h1, h3⟩
  · simp at hcs
    subst hcs
    obtain ⟨us, h1, h3⟩ := ints_open (a := some x) (n := len) (c := cap) (d := y.1) (p := y.2) ⟨fuel, h2⟩
    exact ⟨some x, len, cap, us, rfl, h1, h3⟩
end Go.Proofs.Ytiodhdcgfdlknaa
