/-
  Chapter 4: accounts and shares as lists; plain mathematics. Conditions: none; every lemma says what it asks. Rows of numbers in memory: reading, copying, appending. Conditions: a row has at most 4000000000 numbers. The blocks that a call lays first (boxed parameters, results, local structs), known whole, and the numbers of the slice that came in. Conditions: none. Chapter 4: AccountValid and AccountSame; the model's. Conditions: the slice's length fits an int. Chapter 4: NewAccount, FreeFor, Reserve, Release; the model's. Conditions: a slice has at most 4000000000 numbers. Chapter 4: FairShare
  Conditions: each lemma says them.
-/
import Derived.Test.YtanaeebjcbbagaaKaZ1
import Derived.Deep.RegionHeld3
import Derived.Deep.Slices
import Derived.Deep.Fields
import Derived.ChangeSame
import Derived.Lib.SmallJoins
namespace Go.Proofs.Ytanaeebjcbbagaa
open Go.RowKit
def sumL : List Int → Int
  | [] => 0
  | x :: r => x + sumL r
theorem sumL_append (a b : List Int) : sumL (a ++ b) = sumL a + sumL b := by
  induction a with
  | nil => simp [sumL]
  | cons x r ih => simp only [List.cons_append, sumL, ih]; omega
theorem sumL_snoc (a : List Int) (x : Int) : sumL (a ++ [x]) = sumL a + x := by rw [sumL_append]; simp [sumL]
theorem sumL_take {xs : List Int} {k : Nat} {x : Int} (h : xs[k]? = some x) : sumL (xs.take (k + 1)) = sumL (xs.take k) + x := by
  rw [List.take_add_one, h]; exact sumL_snoc _ _
theorem sumL_bd {xs : List Int} {B : Int} (h : ∀ x ∈ xs, 0 ≤ x ∧ x ≤ B) : 0 ≤ sumL xs ∧ sumL xs ≤ B * xs.length := by
  induction xs with
  | nil => simp [sumL]
  | cons x r ih =>
    have h1 := h x (List.mem_cons_self ..)
    have h2 := ih fun y hy => h y (List.mem_cons_of_mem _ hy)
    simp only [sumL, List.length_cons]
    have : B * ((r.length + 1 : Nat) : Int) = B * r.length + B := by rw [Int.natCast_add, Int.mul_add]; simp
    omega
theorem sumL_take_bd {xs : List Int} {B : Int} (h : ∀ x ∈ xs, 0 ≤ x ∧ x ≤ B) (k : Nat) (hB : 0 ≤ B) : 0 ≤ sumL (xs.take k) ∧ sumL (xs.take k) ≤ B * xs.length := by
  have h1 := sumL_bd (xs := xs.take k) (B := B) fun x hx => h x (List.mem_of_mem_take hx)
  have h2 : ((xs.take k).length : Int) ≤ xs.length := by simp; omega
  have := Int.mul_le_mul_of_nonneg_left h2 hB
  omega
def acB (lim each : Int) (us : List Int) : Bool := us.all (fun x => decide (0 ≤ x ∧ x ≤ each)) && decide (1 ≤ lim ∧ lim ≤ 5000 ∧ 1 ≤ each ∧ each ≤ lim ∧ us.length = 8 ∧ sumL us ≤ lim)
theorem ac_of {lim each : Int} {us : List Int} (h : acB lim each us = true) : (∀ x ∈ us, 0 ≤ x ∧ x ≤ each) ∧ (1 ≤ lim ∧ lim ≤ 5000) ∧ (1 ≤ each ∧ each ≤ lim) ∧ us.length = 8 ∧ sumL us ≤ lim ∧ 0 ≤ sumL us := by
  simp only [acB, Bool.and_eq_true, decide_eq_true_eq, List.all_eq_true] at h
  obtain ⟨h1, h2, h3, h4, h5, h6, h7⟩ := h
  exact ⟨h1, ⟨h2, h3⟩, ⟨h4, h5⟩, h6, h7, (sumL_bd h1).1⟩
theorem ac_mk {lim each : Int} {us : List Int} (h1 : ∀ x ∈ us, 0 ≤ x ∧ x ≤ each) (h2 : 1 ≤ lim) (h3 : lim ≤ 5000) (h4 : 1 ≤ each) (h5 : each ≤ lim) (h6 : us.length = 8) (h7 : sumL us ≤ lim) : acB lim each us = true := by
  simp only [acB, Bool.and_eq_true, decide_eq_true_eq, List.all_eq_true]
  exact ⟨h1, h2, h3, h4, h5, h6, h7⟩
end Go.Proofs.Ytanaeebjcbbagaa
namespace Go.Proofs.Ytanaeebjcbbagaa
open Go.RowKit
def icells (xs : List Int) : List Value := xs.map (fun x => Value.int .i64 x)
theorem icells_len (xs : List Int) : (icells xs).length = xs.length := List.length_map ..
theorem icells_append (a b : List Int) : icells (a ++ b) = icells a ++ icells b := List.map_append ..
theorem icells_get {xs : List Int} {k : Nat} {x : Int} (h : xs[k]? = some x) : (icells xs)[k]? = some (.int .i64 x) := by
  unfold icells; rw [List.getElem?_map, h]; rfl
theorem icells_at {xs : List Int} {k : Nat} {u : Value} (h : (icells xs)[k]? = some u) : ∃ x, xs[k]? = some x ∧ u = .int .i64 x := by
  unfold icells at h
  rw [List.getElem?_map] at h
  rcases hx : xs[k]? with _ | x
  · rw [hx] at h; cases h
  · rw [hx] at h; exact ⟨x, rfl, by injection h with h; exact h.symm⟩
theorem icells_set (xs : List Int) (k : Nat) (x : Int) : (icells xs).set k (.int .i64 x) = icells (xs.set k x) := by
  unfold icells; rw [List.map_set]
theorem icells_one (xs : List Int) : ∀ u ∈ icells xs, u.oneCell' = true := by
  intro u hu
  obtain ⟨x, -, rfl⟩ := List.mem_map.1 hu
  rfl
def NR (w : World) (A : Option Addr) (n : Nat) (xs : List Int) : Prop := xs.length = n ∧ IR w A xs
section
variable {w w' : World} {A : Option Addr} {n c : Nat} {xs : List Int}
theorem nr_below (h : NR w A n xs) (hb : Below w.heap.size w w') : NR w' A n xs := ⟨h.1, ir_below h.2 hb⟩
theorem nr_alloc (h : NR w A n xs) (o : Obj) : NR (w.alloc o) A n xs := nr_below h (below_alloc (Below.refl _ _) o)
theorem nr_at {k : Nat} (h : NR w A n xs) (hk : k < n) : ∃ b off x, A = some ⟨b, off, none⟩ ∧ b < w.heap.size ∧ xs[k]? = some x ∧ w.cell? ⟨b, off + k, none⟩ = some (.int .i64 x) := by
  have hl : k < xs.length := by rw [h.1]; exact hk
  obtain ⟨b, off, e, hb, hc⟩ := h.2 (by omega)
  exact ⟨b, off, xs[k], e, hb, List.getElem?_eq_getElem hl, hc k _ (List.getElem?_eq_getElem hl)⟩
theorem nr_own {base : Nat} {e : TypeId} (h : w.ownsRow base e 1 (.slice A n c) n (icells xs)) : NR w A n xs := by
  have hl : xs.length = n := by have := h.1; rw [icells_len] at this; omega
  refine ⟨hl, fun hn => ?_⟩
  obtain ⟨g, cap, hv, _, hlt⟩ := h.form (by omega)
  have hA : A = some ⟨g, 0, none⟩ := by injection hv
  subst hA
  refine ⟨g, 0, rfl, hlt, fun k x hk => ?_⟩
  have hc := h.cells (g := g) rfl
  have ha : ∀ j, (⟨g, 0, none⟩ : Addr).add j = ⟨g, j, none⟩ := fun j => by unfold Addr.add; split <;> simp_all
  simp only [ha] at hc
  rw [Nat.zero_add]
  exact hc _ _ (icells_get hk)
theorem nr_grown {row : Option Nat} (h : NR w A n xs) (hg : w.grownBy w' row) (hne : 0 < n → ∀ b, A.map (·.block) = some b → some b ≠ row) : NR w' A n xs :=
  ⟨h.1, fun hn => by
    obtain ⟨b, off, rfl, hb, hc⟩ := h.2 hn
    exact ⟨b, off, rfl, Nat.lt_of_lt_of_le hb hg.size, fun k x hk => (hg.cell_far ⟨b, off + k, none⟩ hb (hne (by rw [← h.1]; exact hn) b rfl)).trans (hc k x hk)⟩⟩
theorem nr_set (h : NR w A n xs) {p : Addr} (hp : 0 < n → ∀ b, A.map (·.block) = some b → b ≠ p.block) (u : Value) : NR (w.setCell p u) A n xs :=
  nr_grown h (g_set (g_refl w (some p.block)) (.inl rfl) u) (fun hn b hb e => hp hn b hb (by injection e))
theorem nr_old (h : NR w A n xs) : 0 < n → ∀ b, A.map (·.block) = some b → b < w.heap.size := fun hn b hb => by
  obtain ⟨b', off, rfl, hlt, _⟩ := h.2 (by rw [h.1]; exact hn)
  obtain rfl : b' = b := by simpa using hb
  exact hlt
end
theorem infoInt : (Try.prog.info? 3).map (fun i => (i.zero, i.size, i.bytes)) = some (some (.int .i64 0), 1, 8) := by kernel_rfl
theorem own_emptyI {W : World} {b : Nat} (hb : b = W.heap.size) : (W.alloc (.cells #[] 3)).ownsRow W.heap.size 3 1 (.slice (some ⟨b, 0, none⟩) 0 0) 0 (icells []) := by
  subst hb
  exact ⟨rfl, .inr ⟨W.heap.size, 0, #[], rfl, Nat.le_refl _, blk_new W _ _, Nat.le_refl _, by unfold maxLen; omega, rfl, rfl⟩⟩
theorem own_set_int {w : World} {base b n c : Nat} {e : TypeId} {xs : List Int} (h : w.ownsRow base e 1 (.slice (some ⟨b, 0, none⟩) n c) n (icells xs)) (k : Nat) (x : Int) :
    (w.setCell ⟨b, k, none⟩ (.int .i64 x)).ownsRow base e 1 (.slice (some ⟨b, 0, none⟩) n c) n (icells (xs.set k x)) := by
  have h1 := (h.stored k (.int .i64 x)).1
  rw [icells_set] at h1
  exact h1
theorem run_app_ints (w : World) (ty : TypeId) (base : Nat) (v : Value) (n : Nat) (ps : List Int) (hown : w.ownsRow base 3 1 v n (icells ps))
    (A : Option Addr) (m c : Nat) (qs : List Int) (hr : NR w A m qs) (hn : n + m ≤ 4000000000) (hb : base ≤ w.heap.size) :
    ∃ v' w', (Builtin.append_ #[23, 23] ty #[v, .slice A m c]).run Try.prog w = .ok v' w' ∧ w'.ownsRow base 3 1 v' (n + m) (icells (ps ++ qs)) ∧ w.grownBy w' v.ownBlock ∧
      (v'.ownBlock = v.ownBlock ∨ v'.ownBlock = some w.heap.size) := by
  obtain ⟨i0, hi, hz0, hz1, hz2⟩ := info_parts infoInt
  by_cases h0 : A = none
  · subst h0
    have hm : m = 0 := by
      rcases Nat.eq_zero_or_pos m with hm | hm
      · exact hm
      · obtain ⟨b, off, e, _⟩ := hr.2 (by rw [hr.1]; exact hm)
        cases e
    subst hm
    have hq : qs = [] := List.eq_nil_of_length_eq_zero hr.1
    subst hq
    exact ⟨v, w, run_app_nil (P := Try.prog) w base 23 ty 3 i0 1 Try.underlying23 hi v n _ hown c, by simpa using hown, g_refl _ _, .inl rfl⟩
  · obtain ⟨ad, rfl⟩ : ∃ ad, A = some ad := by
      cases A with
      | none => exact absurd rfl h0
      | some ad => exact ⟨ad, rfl⟩
    obtain ⟨v', w', e1, e2, e3, _, e5⟩ := run_append_own_at (P := Try.prog) w base 23 ty 3 i0 _ 1 8 Try.underlying23 hi hz0 hz1 hz2 rfl (by decide) v n _ hown ad m c (icells qs) (by rw [icells_len, hr.1]; omega) (by
      intro j u hj
      obtain ⟨x, hx, rfl⟩ := icells_at hj
      have hjl : j < qs.length := by
        rcases Nat.lt_or_ge j qs.length with hl | hl
        · exact hl
        · rw [List.getElem?_eq_none hl] at hx; cases hx
      obtain ⟨b, off, e, hlt, hc⟩ := hr.2 (by omega)
      obtain rfl : ad = ⟨b, off, none⟩ := by injection e
      have ha : (⟨b, off, none⟩ : Addr).add j = ⟨b, off + j, none⟩ := by unfold Addr.add; split <;> simp_all
      rw [ha]
      exact hc j x hx) (icells_one qs) (by unfold maxLen; omega) (by omega) hb
    exact ⟨v', w', e1, by rw [icells_append]; exact e2, e3, e5⟩
theorem wpl_app_ints (w : World) {ops : Array Oper} {rest : List Oper} {o : Oper} {a : Act} {Q : Exit → Act → World → Prop} (hgd : o.guard = none) (s x : Operand)
    (ho : o.op = .call { callee := .builtin .append, args := #[s, x], argTypes := #[23, 23] })
    (base : Nat) (v : Value) (n : Nat) (ps : List Int) (hs : a.eval s = v) (hown : w.ownsRow base 3 1 v n (icells ps))
    (A : Option Addr) (m c : Nat) (qs : List Int) (hx : a.eval x = .slice A m c) (hr : NR w A m qs) (hn : n + m ≤ 4000000000) (hb : base ≤ w.heap.size)
    (h : ∀ v' w', w'.ownsRow base 3 1 v' (n + m) (icells (ps ++ qs)) → w.grownBy w' v.ownBlock → (v'.ownBlock = v.ownBlock ∨ v'.ownBlock = some w.heap.size) → wpList Try.prog ops Q rest (a.put o.dst v') w') :
    wpList Try.prog ops Q (o :: rest) a w := by
  refine wpList_plain hgd fun K hK => ?_
  obtain ⟨v', w', hr', h2, h3, h4⟩ := run_app_ints w o.type base v n ps hown A m c qs hr hn hb
  unfold Oper.wp execOp
  simp only [ho, resolve, invoke, builtin, Sem.run_bind, Sem.run_pure, Result.andThen_ok, List.map_toArray, List.map_cons, List.map_nil, hs, hx, hr']
  exact hK _ _ (h v' w' h2 h3 h4)
theorem int_single {w : World} {b : Nat} {t : TypeId} {x : Int} (h : Blk w b t #[.int .i64 x]) : NR w (some ⟨b, 0, none⟩) 1 [x] :=
  ⟨rfl, fun _ => ⟨b, 0, rfl, blk_lt h, fun k y hk => by
    have hk0 : k = 0 := by
      rcases Nat.eq_zero_or_pos k with e | e
      · exact e
      · rw [List.getElem?_eq_none (by simp; omega)] at hk; cases hk
    subst hk0
    obtain rfl : x = y := by simpa using hk
    exact blk_cell h 0⟩⟩
end Go.Proofs.Ytanaeebjcbbagaa
namespace Go.Proofs.Ytanaeebjcbbagaa
open Go.RowKit
structure Fn (w : World) (bs : List (TypeId × Array Value)) (A : Option Addr) (n : Nat) (ps : List Int) (w' : World) : Prop where
  it : ∀ i t cs, bs[i]? = some (t, cs) → Blk w' (w.heap.size + i) t cs
  pr : NR w' A n ps
  below : Below w.heap.size w w'
  lt : w.heap.size + bs.length ≤ w'.heap.size
  old : 0 < n → ∀ x, A.map (·.block) = some x → x < w.heap.size
section
variable {w w1 w2 : World} {bs : List (TypeId × Array Value)} {A : Option Addr} {n : Nat} {ps : List Int}
theorem fn_zero (h : NR w A n ps) : Fn w [] A n ps w := ⟨fun i t cs h => by simp at h, h, Below.refl _ _, by simp, nr_old h⟩
theorem fn_push (h : Fn w bs A n ps w1) (hs : w1.heap.size = w.heap.size + bs.length) (t : TypeId) (cs : Array Value) : Fn w (bs ++ [(t, cs)]) A n ps (w1.alloc (.cells cs t)) :=
  ⟨fun i t' cs' hi => by
    rcases Nat.lt_or_ge i bs.length with hl | hl
    · rw [List.getElem?_append_left hl] at hi
      exact blk_alloc (h.it i t' cs' hi) _
    · rw [List.getElem?_append_right hl] at hi
      have h0 : i - bs.length = 0 := by
        rcases Nat.eq_zero_or_pos (i - bs.length) with e | e
        · exact e
        · rw [List.getElem?_eq_none (by simp; omega)] at hi; cases hi
      rw [h0] at hi
      obtain ⟨rfl, rfl⟩ : t = t' ∧ cs = cs' := by simpa using hi
      rw [show w.heap.size + i = w1.heap.size by omega]
      exact blk_new w1 _ _, nr_alloc h.pr _, below_alloc h.below _, by simp; omega, h.old⟩
theorem fn_one (h : NR w A n ps) (t : TypeId) (cs : Array Value) : Fn w [(t, cs)] A n ps (w.alloc (.cells cs t)) := fn_push (fn_zero h) (by simp) t cs
theorem fn_drewN (h : Fn w bs A n ps w1) (k : Nat) : Fn w bs A n ps (w1.drewN k) := ⟨h.it, h.pr, below_drewN h.below k, h.lt, h.old⟩
end
end Go.Proofs.Ytanaeebjcbbagaa
namespace Go.Proofs.Ytanaeebjcbbagaa
open Go.RowKit
set_option maxHeartbeats 400000 in
theorem l4Sum_any (A : Option Addr) (n c : Nat) (us : List Int) (w : World) (h : NR w A n us) (hb : ∀ x ∈ us, 0 ≤ x ∧ x ≤ 5000) (hn : n ≤ 64) :
    Calls Try.prog 65 #[.slice A n c] w fun e w' => e = .returned (.int .i64 (sumL us)) ∧ w' = w := by
  have H := Lib.hid h
  have HB := Lib.hid hb
  clear h hb
  go_enter Try.func65, Try.ntmps65
  go_wp2
  go_loop [3, 4] (fun s i => ∃ k : Nat, k ≤ n ∧ i = .int .i64 (k : Int) ∧ s = .int .i64 (sumL (us.take k))) (fun _ i => n - (intOf i).toNat)
  case atStart => exact ⟨0, Nat.zero_le _, rfl, rfl⟩
  case round =>
    obtain ⟨k, hk, rfl, rfl⟩ := hrel
    by_cases hlt : k < n
    · obtain ⟨b, off, x, rfl, hb, hx, c0⟩ := nr_at H.out hlt
      have HS := Lib.hid (sumL_take hx)
      obtain ⟨x0, x1⟩ := HB.out x (List.mem_of_getElem? hx)
      obtain ⟨s0, s1⟩ := sumL_take_bd HB.out k (by omega)
      have hl := H.out.1
      have s2 : sumL (us.take k) ≤ 320000 := by omega
      clear hx s1 hl
      go_wp2
      go_round
      case rel => exact ⟨k + 1, by omega, by go_num, by rw [HS.out]⟩
      case measure => simp [intOf]; omega
    · obtain rfl : k = n := by omega
      go_wp2
      go_ret
      exact ⟨ret_int (by rw [List.take_of_length_le (by have := H.out.1; omega)]), rfl⟩
def acBs (lim each : Int) (A : Option Addr) (n c : Nat) : List (TypeId × Array Value) := [(32, #[.int .i64 lim, .int .i64 each, (.slice A n c)])]
theorem fn_cell3 {w w1 : World} {t : TypeId} {x y z : Value} {r : List (TypeId × Array Value)} {A : Option Addr} {n : Nat} {ps : List Int} (h : Fn w ((t, #[x, y, z]) :: r) A n ps w1) : w1.cell? ⟨w.heap.size, 0, none⟩ = some x ∧ w1.cell? ⟨w.heap.size, 1, none⟩ = some y ∧ w1.cell? ⟨w.heap.size, 2, none⟩ = some z :=
  ⟨blk_cell (h.it 0 _ _ rfl) 0, blk_cell (h.it 0 _ _ rfl) 1, blk_cell (h.it 0 _ _ rfl) 2⟩
theorem ac_no {lim each : Int} {us : List Int} (h : ¬ (1 ≤ lim ∧ lim ≤ 5000 ∧ 1 ≤ each ∧ each ≤ lim ∧ us.length = 8)) : acB lim each us = false := by
  rcases hq : acB lim each us with _ | _
  · rfl
  · obtain ⟨-, h2, h3, h4, -⟩ := ac_of hq
    exact absurd ⟨h2.1, h2.2, h3.1, h3.2, h4⟩ h
theorem ac_bad {lim each x : Int} {us : List Int} {k : Nat} (hx : us[k]? = some x) (h : x < 0 ∨ each < x) : acB lim each us = false := by
  rcases hq : acB lim each us with _ | _
  · rfl
  · have := (ac_of hq).1 x (List.mem_of_getElem? hx)
    omega
def AcRel (w : World) (lim each : Int) (A : Option Addr) (c : Nat) (us : List Int) (i : Value) (wr : World) : Prop :=
  ∃ k : Nat, k ≤ 8 ∧ i = .int .i64 (k : Int) ∧ (∀ x ∈ us.take k, 0 ≤ x ∧ x ≤ each) ∧ Fn w (acBs lim each A 8 c) A 8 us wr
theorem mem_take_succ {us : List Int} {k : Nat} {x : Int} {P : Int → Prop} (h : ∀ y ∈ us.take k, P y) (hx : us[k]? = some x) (hp : P x) : ∀ y ∈ us.take (k + 1), P y := by
  intro y hy
  rw [List.take_add_one, hx] at hy
  rcases List.mem_append.1 hy with hy | hy
  · exact h y hy
  · simp at hy; subst hy; exact hp
set_option maxHeartbeats 2000000 in
theorem acS_any (lim each : Int) (A : Option Addr) (n c : Nat) (us : List Int) (w : World) (h : NR w A n us) (hn : n ≤ 9223372036854775807) :
    Calls Try.prog 34 #[.agg #[.int .i64 lim, .int .i64 each, (.slice A n c)]] w fun e w' => e = .returned (.bool (acB lim each us)) ∧ Below w.heap.size w w' := by
  have F := Lib.hid (fn_one h 32 #[.int .i64 lim, .int .i64 each, (.slice A n c)])
  have HL := Lib.hid h.1
  clear h
  by_cases hd : 1 ≤ lim ∧ lim ≤ 5000 ∧ 1 ≤ each ∧ each ≤ lim ∧ n = 8
  · obtain ⟨d1, d2, d3, d4, rfl⟩ := hd
    have R0 : Hid (AcRel w lim each A c us (.int .i64 0) (w.alloc (.cells #[.int .i64 lim, .int .i64 each, (.slice A 8 c)] 32))) := Lib.hid ⟨0, Nat.zero_le _, rfl, fun x hx => by simp at hx, F.out⟩
    clear F
    go_enter Try.func34, Try.ntmps34
    go_wp2
    go_loopw [3] (fun i wr => AcRel w lim each A c us i wr) (fun i _ => 8 - (intOf i).toNat)
    case atStart => exact R0.out
    case round =>
      obtain ⟨k, hk, rfl, hall, hF⟩ := hrel
      clear R0
      have HF := Lib.hid hF
      have HA := Lib.hid hall
      obtain ⟨q0, q1, q2⟩ := fn_cell3 hF
      clear hall
      by_cases hlt : k < 8
      · obtain ⟨b, off, x, rfl, hb, hx, c0⟩ := nr_at hF.pr hlt
        have HX := Lib.hid hx
        have k0 : (0 : Int) ≤ (k : Int) := by omega
        have k1 : (k : Int) < (8 : Int) := by omega
        clear hF hx
        by_cases hx0 : x < 0
        · go_wp2_with fail
          go_quiet (fail)
          go_wp2
          go_ret
          exact ⟨ret_bool (ac_bad HX.out (.inl hx0)).symm, (fn_drewN HF.out _).below⟩
        · have e0 : decide (x < 0) = false := by simp; omega
          by_cases hx1 : each < x
          · go_wp2_with fail
            go_quiet (fail)
            go_wp2
            go_ret
            exact ⟨ret_bool (ac_bad HX.out (.inr hx1)).symm, (fn_drewN HF.out _).below⟩
          · have e1 : decide (each < x) = false := by simp; omega
            have HXB := Lib.hid (show 0 ≤ x ∧ x ≤ each by omega)
            clear hx0 hx1
            go_wp2_with fail
            go_quiet (fail)
            go_wp2
            go_roundw
            case rel => exact ⟨k + 1, by omega, by go_num, mem_take_succ HA.out HX.out HXB.out, fn_drewN HF.out _⟩
            case measure => simp [intOf]; omega
      · obtain rfl : k = 8 := by omega
        have HALL : Hid (∀ x ∈ us, 0 ≤ x ∧ x ≤ 5000) := Lib.hid (fun x hx => by have := HA.out x (by rw [List.take_of_length_le (by have := HL.out; omega)]; exact hx); omega)
        have HE : Hid (acB lim each us = decide (sumL us ≤ lim)) := Lib.hid (by
          have h1 : ∀ x ∈ us, 0 ≤ x ∧ x ≤ each := fun x hx => HA.out x (by rw [List.take_of_length_le (by have := HL.out; omega)]; exact hx)
          rw [Bool.eq_iff_iff, decide_eq_true_eq]
          exact ⟨fun h => (ac_of h).2.2.2.2.1, fun h => ac_mk h1 d1 d2 d3 d4 HL.out h⟩)
        clear hF
        go_wp2_with fail
        go_quiet ((go_at_call 65; exact Calls.quiet_of_same (l4Sum_any A 8 c us _ HF.out.pr HALL.out (by omega))))
        go_wp2
        go_ret
        exact ⟨ret_bool HE.out.symm, (fn_drewN HF.out _).below⟩
  · have HE := Lib.hid (ac_no (us := us) (lim := lim) (each := each) (by rw [HL.out]; exact hd))
    obtain ⟨q0, q1, q2⟩ := fn_cell3 F.out
    have hor : lim < 1 ∨ (1 ≤ lim ∧ 5000 < lim) ∨ (1 ≤ lim ∧ lim ≤ 5000 ∧ each < 1) ∨ (1 ≤ lim ∧ lim ≤ 5000 ∧ 1 ≤ each ∧ lim < each) ∨ (1 ≤ lim ∧ lim ≤ 5000 ∧ 1 ≤ each ∧ each ≤ lim ∧ ¬ n = 8) := by omega
    clear hd
    rcases hor with d1 | ⟨d1, d2⟩ | ⟨d1, d2, d3⟩ | ⟨d1, d2, d3, d4⟩ | ⟨d1, d2, d3, d4, d5⟩
    · go_enter Try.func34, Try.ntmps34
      go_wp2
      all_goals
        go_ret
        exact ⟨ret_bool HE.out.symm, F.out.below⟩
    · go_enter Try.func34, Try.ntmps34
      go_wp2
      all_goals
        go_ret
        exact ⟨ret_bool HE.out.symm, F.out.below⟩
    · go_enter Try.func34, Try.ntmps34
      go_wp2
      all_goals
        go_ret
        exact ⟨ret_bool HE.out.symm, F.out.below⟩
    · go_enter Try.func34, Try.ntmps34
      go_wp2
      all_goals
        go_ret
        exact ⟨ret_bool HE.out.symm, F.out.below⟩
    · have d6 : ((n : Int) != 8) = true := by simp; omega
      go_enter Try.func34, Try.ntmps34
      go_wp2
      all_goals
        go_ret
        exact ⟨ret_bool HE.out.symm, F.out.below⟩
open Classical in
noncomputable def intsB (us vs : List Int) : Bool := decide (us = vs)
theorem ints_refl (us : List Int) : intsB us us = true := by simp [intsB]
theorem ints_yes {us vs : List Int} (h : us = vs) : true = intsB us vs := by simp [intsB, h]
theorem ints_no {us vs : List Int} (h : ¬ us = vs) : false = intsB us vs := by simp [intsB, h]
theorem takeI_step {us vs : List Int} {k : Nat} {x : Int} (h : us.take k = vs.take k) (hx : us[k]? = some x) (hy : vs[k]? = some x) : us.take (k + 1) = vs.take (k + 1) := by
  rw [List.take_add_one, List.take_add_one, h, hx, hy]
theorem takeI_all {us vs : List Int} {k : Nat} (h : us.take k = vs.take k) (h1 : us.length ≤ k) (h2 : vs.length ≤ k) : us = vs := by
  rw [List.take_of_length_le h1, List.take_of_length_le h2] at h; exact h
def InRel (us vs : List Int) (w : World) (n : Nat) (i : Value) (wr : World) : Prop :=
  ∃ k : Nat, k ≤ n ∧ i = .int .i64 (k : Int) ∧ us.take k = vs.take k ∧ Below w.heap.size w wr
end Go.Proofs.Ytanaeebjcbbagaa
namespace Go.Proofs.Ytanaeebjcbbagaa
open Go.RowKit
def FAc (w : World) (lim each : Int) (A : Option Addr) (n c : Nat) (us : List Int) (w' : World) : Prop := Fn w (acBs lim each A n c) A n us w'
section
variable {w w1 w2 : World} {lim each : Int} {A : Option Addr} {n c : Nat} {us : List Int}
theorem fa_first (h : NR w A n us) : FAc w lim each A n c us (w.alloc (.cells #[.int .i64 lim, .int .i64 each, (.slice A n c)] 32)) := fn_one h _ _
theorem fa_cells (h : FAc w lim each A n c us w1) : (w1.cell? ⟨w.heap.size, 0, none⟩ = some (.int .i64 lim) ∧ w1.cell? ⟨w.heap.size, 1, none⟩ = some (.int .i64 each) ∧ w1.cell? ⟨w.heap.size, 2, none⟩ = some (.slice A n c)) ∧ FAc w lim each A n c us w1 :=
  ⟨fn_cell3 h, h⟩
theorem fa_pr (h : FAc w lim each A n c us w1) : NR w1 A n us := Fn.pr h
theorem fa_drewN (h : FAc w lim each A n c us w1) (k : Nat) : FAc w lim each A n c us (w1.drewN k) := fn_drewN h k
theorem fa_bel (h : FAc w lim each A n c us w1) : Below w.heap.size w w1 := Fn.below h
end
theorem blk_threeA {w : World} {b : Nat} {t : TypeId} {x y z : Value} (h : Blk w b t #[x, y, z]) : (w.cell? ⟨b, 0, none⟩ = some x ∧ w.cell? ⟨b, 1, none⟩ = some y ∧ w.cell? ⟨b, 2, none⟩ = some z) ∧ w.frozen? ⟨b, 0, none⟩ = false ∧ w.frozen? ⟨b, 1, none⟩ = false ∧ w.frozen? ⟨b, 2, none⟩ = false :=
  ⟨⟨blk_cell h 0, blk_cell h 1, blk_cell h 2⟩, blk_free h 0, blk_free h 1, blk_free h 2⟩
end Go.Proofs.Ytanaeebjcbbagaa
namespace Go.Proofs.Ytanaeebjcbbagaa
open Go.RowKit
theorem zerosI (n : Nat) : (madeCells (Value.cells (.int .i64 0)) (n * 1)).toList = icells (List.replicate n 0) := by
  apply List.ext_getElem
  · simp [madeCells, icells]
  · intro i h1 h2
    simp [madeCells, icells, Value.cells, Nat.mod_one]
end Go.Proofs.Ytanaeebjcbbagaa
namespace Go.Proofs.Ytanaeebjcbbagaa
open Go.RowKit
end Go.Proofs.Ytanaeebjcbbagaa
namespace Go.Proofs.Ytanaeebjcbbagaa
open Go.ChangeShapes Go.WideShapes Go.ChangeAt Go.RowKit Go.Deep
end Go.Proofs.Ytanaeebjcbbagaa
