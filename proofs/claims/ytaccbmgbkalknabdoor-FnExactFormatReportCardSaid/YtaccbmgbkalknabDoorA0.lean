/-
  Rows of numbers in memory: reading, copying, appending. Conditions: a row has at most 4000000000 numbers.
-/
import Derived.Test.YtaccbmgbkalknabDoorGn
import Derived.Test.YtaccbmgbkalknabDoorAm
namespace Go.Proofs.YtaccbmgbkalknabDoor
open Go.RowKit

def icells (xs : List Int) : List Value := xs.map (fun x => Value.int .i64 x)
theorem icells_len (xs : List Int) : (icells xs).length = xs.length := List.length_map ..
theorem icells_append (a b : List Int) : icells (a ++ b) = icells a ++ icells b := List.map_append ..
theorem icells_get {xs : List Int} {k : Nat} {x : Int} (h : xs[k]? = some x) : (icells xs)[k]? = some (.int .i64 x) := by
  unfold icells; rw [List.getElem?_map, h]; rfl
theorem icells_at {xs : List Int} {k : Nat} {u : Value} (h : (icells xs)[k]? = some u) : ∃ x, xs[k]? = some x ∧ u = .int .i64 x := by
  unfold icells at h
  rw [List.getElem?_map] at h
  rcases hx : xs[k]? with _ | x
  · rw [hx] at h; cases h
  · rw [hx] at h; exact ⟨x, rfl, by injection h with h; exact h.symm⟩
theorem icells_set (xs : List Int) (k : Nat) (x : Int) : (icells xs).set k (.int .i64 x) = icells (xs.set k x) := by
  unfold icells; rw [List.map_set]
theorem icells_one (xs : List Int) : ∀ u ∈ icells xs, u.oneCell' = true := by
  intro u hu
  obtain ⟨x, -, rfl⟩ := List.mem_map.1 hu
  rfl
/-- the slice of n elements at A holds the numbers xs -/
def NR (w : World) (A : Option Addr) (n : Nat) (xs : List Int) : Prop := xs.length = n ∧ IR w A xs
section
variable {w w' : World} {A : Option Addr} {n c : Nat} {xs : List Int}
theorem nr_nil (w : World) (A : Option Addr) : NR w A 0 [] := ⟨rfl, fun h => by simp at h⟩
theorem nr_below (h : NR w A n xs) (hb : Below w.heap.size w w') : NR w' A n xs := ⟨h.1, ir_below h.2 hb⟩
theorem nr_alloc (h : NR w A n xs) (o : Obj) : NR (w.alloc o) A n xs := nr_below h (below_alloc (Below.refl _ _) o)
theorem nr_drewN (h : NR w A n xs) (k : Nat) : NR (w.drewN k) A n xs := h
theorem nr_at {k : Nat} (h : NR w A n xs) (hk : k < n) : ∃ b off x, A = some ⟨b, off, none⟩ ∧ b < w.heap.size ∧ xs[k]? = some x ∧ w.cell? ⟨b, off + k, none⟩ = some (.int .i64 x) := by
  have hl : k < xs.length := by rw [h.1]; exact hk
  obtain ⟨b, off, e, hb, hc⟩ := h.2 (by omega)
  exact ⟨b, off, xs[k], e, hb, List.getElem?_eq_getElem hl, hc k _ (List.getElem?_eq_getElem hl)⟩
theorem nr_own {base : Nat} {e : TypeId} (h : w.ownsRow base e 1 (.slice A n c) n (icells xs)) : NR w A n xs := by
  have hl : xs.length = n := by have := h.1; rw [icells_len] at this; omega
  refine ⟨hl, fun hn => ?_⟩
  obtain ⟨g, cap, hv, _, hlt⟩ := h.form (by omega)
  have hA : A = some ⟨g, 0, none⟩ := by injection hv
  subst hA
  refine ⟨g, 0, rfl, hlt, fun k x hk => ?_⟩
  have hc := h.cells (g := g) rfl
  have ha : ∀ j, (⟨g, 0, none⟩ : Addr).add j = ⟨g, j, none⟩ := fun j => by unfold Addr.add; split <;> simp_all
  simp only [ha] at hc
  rw [Nat.zero_add]
  exact hc _ _ (icells_get hk)
theorem nr_grown {row : Option Nat} (h : NR w A n xs) (hg : w.grownBy w' row) (hne : 0 < n → ∀ b, A.map (·.block) = some b → some b ≠ row) : NR w' A n xs :=
  ⟨h.1, fun hn => by
    obtain ⟨b, off, rfl, hb, hc⟩ := h.2 hn
    exact ⟨b, off, rfl, Nat.lt_of_lt_of_le hb hg.size, fun k x hk => (hg.cell_far ⟨b, off + k, none⟩ hb (hne (by rw [← h.1]; exact hn) b rfl)).trans (hc k x hk)⟩⟩
theorem nr_set (h : NR w A n xs) {p : Addr} (hp : 0 < n → ∀ b, A.map (·.block) = some b → b ≠ p.block) (u : Value) : NR (w.setCell p u) A n xs :=
  nr_grown h (g_set (g_refl w (some p.block)) (.inl rfl) u) (fun hn b hb e => hp hn b hb (by injection e))
theorem nr_old (h : NR w A n xs) : 0 < n → ∀ b, A.map (·.block) = some b → b < w.heap.size := fun hn b hb => by
  obtain ⟨b', off, rfl, hlt, _⟩ := h.2 (by rw [h.1]; exact hn)
  obtain rfl : b' = b := by simpa using hb
  exact hlt
theorem nr_take (h : NR w A n xs) {k : Nat} (hk : k ≤ n) : NR w A k (xs.take k) :=
  ⟨by rw [List.length_take, h.1]; omega, fun hn => by
    obtain ⟨b, off, e, hb, hc⟩ := h.2 (by rw [List.length_take] at hn; omega)
    exact ⟨b, off, e, hb, fun j x hx => hc j x (by
      rw [List.getElem?_take] at hx
      split at hx
      · exact hx
      · cases hx)⟩⟩
end
theorem infoInt : (Tryd.prog.info? 3).map (fun i => (i.zero, i.size, i.bytes)) = some (some (.int .i64 0), 1, 8) := by kernel_rfl
theorem own_emptyI {W : World} {b : Nat} (hb : b = W.heap.size) : (W.alloc (.cells #[] 3)).ownsRow W.heap.size 3 1 (.slice (some ⟨b, 0, none⟩) 0 0) 0 (icells []) := by
  subst hb
  exact ⟨rfl, .inr ⟨W.heap.size, 0, #[], rfl, Nat.le_refl _, blk_new W _ _, Nat.le_refl _, by unfold maxLen; omega, rfl, rfl⟩⟩
/-- one cell of an owned row is stored -/
theorem own_set_int {w : World} {base b n c : Nat} {e : TypeId} {xs : List Int} (h : w.ownsRow base e 1 (.slice (some ⟨b, 0, none⟩) n c) n (icells xs)) (k : Nat) (x : Int) :
    (w.setCell ⟨b, k, none⟩ (.int .i64 x)).ownsRow base e 1 (.slice (some ⟨b, 0, none⟩) n c) n (icells (xs.set k x)) := by
  have h1 := (h.stored k (.int .i64 x)).1
  rw [icells_set] at h1
  exact h1
theorem run_app_ints (w : World) (ty : TypeId) (base : Nat) (v : Value) (n : Nat) (ps : List Int) (hown : w.ownsRow base 3 1 v n (icells ps))
    (A : Option Addr) (m c : Nat) (qs : List Int) (hr : NR w A m qs) (hn : n + m ≤ 4000000000) (hb : base ≤ w.heap.size) :
    ∃ v' w', (Builtin.append_ #[23, 23] ty #[v, .slice A m c]).run Tryd.prog w = .ok v' w' ∧ w'.ownsRow base 3 1 v' (n + m) (icells (ps ++ qs)) ∧ w.grownBy w' v.ownBlock ∧
      (v'.ownBlock = v.ownBlock ∨ v'.ownBlock = some w.heap.size) := by
  obtain ⟨i0, hi, hz0, hz1, hz2⟩ := info_parts infoInt
  by_cases h0 : A = none
  · subst h0
    have hm : m = 0 := by
      rcases Nat.eq_zero_or_pos m with hm | hm
      · exact hm
      · obtain ⟨b, off, e, _⟩ := hr.2 (by rw [hr.1]; exact hm)
        cases e
    subst hm
    have hq : qs = [] := List.eq_nil_of_length_eq_zero hr.1
    subst hq
    exact ⟨v, w, run_app_nil (P := Tryd.prog) w base 23 ty 3 i0 1 Tryd.underlying23 hi v n _ hown c, by simpa using hown, g_refl _ _, .inl rfl⟩
  · obtain ⟨ad, rfl⟩ : ∃ ad, A = some ad := by
      cases A with
      | none => exact absurd rfl h0
      | some ad => exact ⟨ad, rfl⟩
    obtain ⟨v', w', e1, e2, e3, _, e5⟩ := run_append_own_at (P := Tryd.prog) w base 23 ty 3 i0 _ 1 8 Tryd.underlying23 hi hz0 hz1 hz2 rfl (by decide) v n _ hown ad m c (icells qs) (by rw [icells_len, hr.1]; omega) (by
      intro j u hj
      obtain ⟨x, hx, rfl⟩ := icells_at hj
      have hjl : j < qs.length := by
        rcases Nat.lt_or_ge j qs.length with hl | hl
        · exact hl
        · rw [List.getElem?_eq_none hl] at hx; cases hx
      obtain ⟨b, off, e, hlt, hc⟩ := hr.2 (by omega)
      obtain rfl : ad = ⟨b, off, none⟩ := by injection e
      have ha : (⟨b, off, none⟩ : Addr).add j = ⟨b, off + j, none⟩ := by unfold Addr.add; split <;> simp_all
      rw [ha]
      exact hc j x hx) (icells_one qs) (by unfold maxLen; omega) (by omega) hb
    exact ⟨v', w', e1, by rw [icells_append]; exact e2, e3, e5⟩
/-- at the list of a plain region's operations -/
theorem wpl_app_ints (w : World) {ops : Array Oper} {rest : List Oper} {o : Oper} {a : Act} {Q : Exit → Act → World → Prop} (hgd : o.guard = none) (s x : Operand)
    (ho : o.op = .call { callee := .builtin .append, args := #[s, x], argTypes := #[23, 23] })
    (base : Nat) (v : Value) (n : Nat) (ps : List Int) (hs : a.eval s = v) (hown : w.ownsRow base 3 1 v n (icells ps))
    (A : Option Addr) (m c : Nat) (qs : List Int) (hx : a.eval x = .slice A m c) (hr : NR w A m qs) (hn : n + m ≤ 4000000000) (hb : base ≤ w.heap.size)
    (h : ∀ v' w', w'.ownsRow base 3 1 v' (n + m) (icells (ps ++ qs)) → w.grownBy w' v.ownBlock → (v'.ownBlock = v.ownBlock ∨ v'.ownBlock = some w.heap.size) → wpList Tryd.prog ops Q rest (a.put o.dst v') w') :
    wpList Tryd.prog ops Q (o :: rest) a w := by
  refine wpList_plain hgd fun K hK => ?_
  obtain ⟨v', w', hr', h2, h3, h4⟩ := run_app_ints w o.type base v n ps hown A m c qs hr hn hb
  unfold Oper.wp execOp
  simp only [ho, resolve, invoke, builtin, Sem.run_bind, Sem.run_pure, Result.andThen_ok, List.map_toArray, List.map_cons, List.map_nil, hs, hx, hr']
  exact hK _ _ (h v' w' h2 h3 h4)
/-- at a step of a region that draws -/
theorem step_app_ints (w : World) {ops : Array Oper} {o : Oper} {a : Act} {K : Act → World → Prop} {Q : Exit → Act → World → Prop} {E : Prop} (hgd : o.guard = none) (s x : Operand)
    (ho : o.op = .call { callee := .builtin .append, args := #[s, x], argTypes := #[23, 23] })
    (base : Nat) (v : Value) (n : Nat) (ps : List Int) (hs : a.eval s = v) (hown : w.ownsRow base 3 1 v n (icells ps))
    (A : Option Addr) (m c : Nat) (qs : List Int) (hx : a.eval x = .slice A m c) (hr : NR w A m qs) (hn : n + m ≤ 4000000000) (hb : base ≤ w.heap.size)
    (h : ∀ v' w', w'.ownsRow base 3 1 v' (n + m) (icells (ps ++ qs)) → w.grownBy w' v.ownBlock → (v'.ownBlock = v.ownBlock ∨ v'.ownBlock = some w.heap.size) → K (a.put o.dst v') w') :
    if Region.wanted o (yielded ops a.tmps) = true then Oper.wp Tryd.prog o a w K Q else E := by
  have hw : Region.wanted o (yielded ops a.tmps) = true := by simp [Region.wanted, hgd]
  rw [if_pos hw]
  obtain ⟨v', w', hr', h2, h3, h4⟩ := run_app_ints w o.type base v n ps hown A m c qs hr hn hb
  unfold Oper.wp execOp
  simp only [ho, resolve, invoke, builtin, Sem.run_bind, Sem.run_pure, Result.andThen_ok, List.map_toArray, List.map_cons, List.map_nil, hs, hx, hr']
  exact h v' w' h2 h3 h4
theorem int_single {w : World} {b : Nat} {t : TypeId} {x : Int} (h : Blk w b t #[.int .i64 x]) : NR w (some ⟨b, 0, none⟩) 1 [x] :=
  ⟨rfl, fun _ => ⟨b, 0, rfl, blk_lt h, fun k y hk => by
    have hk0 : k = 0 := by
      rcases Nat.eq_zero_or_pos k with e | e
      · exact e
      · rw [List.getElem?_eq_none (by simp; omega)] at hk; cases hk
    subst hk0
    obtain rfl : x = y := by simpa using hk
    exact blk_cell h 0⟩⟩
end Go.Proofs.YtaccbmgbkalknabDoor
