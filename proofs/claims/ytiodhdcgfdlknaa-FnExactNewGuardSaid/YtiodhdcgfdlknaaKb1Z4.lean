/-
  Rows of buckets: appends, copies, equality. Conditions: the rows have at most 4000000000 of them. Rows of scores: appends, copies, equality. Conditions: the rows have at most 4000000000 of them.
  Conditions: each lemma says them.
-/
import Derived.Test.YtiodhdcgfdlknaaKaZ4
import Derived.Test.YtiodhdcgfdlknaaKbZ4
import Derived.Lib.SliceRun
namespace Go.Proofs.Ytiodhdcgfdlknaa
open Go.RowKit
theorem infoPktB : (Try.prog.info? 32).map (fun i => (i.zero, i.size, i.bytes)) = some (some (.agg #[.int .i64 0, .int .i64 0, .int .i64 0, .int .i64 0]), 4, 32) := by kernel_rfl
theorem run_app_pktsB (w : World) (ty : TypeId) (base : Nat) (v : Value) (n : Nat) (ps : List Pkt) (hown : w.ownsRow base 32 4 v n (pcells ps))
    (A : Option Addr) (m c : Nat) (qs : List Pkt) (hr : PR w A m qs) (hn : n + m ≤ 4000000000) (hb : base ≤ w.heap.size) :
    ∃ v' w', (Builtin.append_ #[33, 33] ty #[v, .slice A m c]).run Try.prog w = .ok v' w' ∧ w'.ownsRow base 32 4 v' (n + m) (pcells (ps ++ qs)) ∧ w.grownBy w' v.ownBlock ∧
      (v'.ownBlock = v.ownBlock ∨ v'.ownBlock = some w.heap.size) := by
  obtain ⟨i0, hi, hz0, hz1, hz2⟩ := info_parts infoPktB
  by_cases h0 : A = none
  · subst h0
    have hm : m = 0 := by
      rcases Nat.eq_zero_or_pos m with hm | hm
      · exact hm
      · obtain ⟨b, off, e, _⟩ := hr.2 hm
        cases e
    subst hm
    have hq : qs = [] := List.eq_nil_of_length_eq_zero hr.1
    subst hq
    exact ⟨v, w, run_app_nil (P := Try.prog) w base 33 ty 32 i0 4 Try.underlying33 hi v n _ hown c, by simpa using hown, g_refl _ _, .inl rfl⟩
  · obtain ⟨ad, rfl⟩ : ∃ ad, A = some ad := by
      cases A with
      | none => exact absurd rfl h0
      | some ad => exact ⟨ad, rfl⟩
    obtain ⟨v', w', e1, e2, e3, _, e5⟩ := run_append_own_at (P := Try.prog) w base 33 ty 32 i0 _ 4 32 Try.underlying33 hi hz0 hz1 hz2 rfl (by decide) v n _ hown ad m c (pcells qs) (by rw [pcells_len, hr.1]) (by
      intro j u hj
      have hjl : j < m * 4 := by
        rcases Nat.lt_or_ge j (pcells qs).length with hl | hl
        · rw [pcells_len, hr.1] at hl; exact hl
        · rw [List.getElem?_eq_none hl] at hj; cases hj
      obtain ⟨b, off, e, hlt, hc⟩ := hr.2 (by omega)
      obtain rfl : ad = ⟨b, off, none⟩ := by injection e
      have ha : ∀ j, (⟨b, off, none⟩ : Addr).add j = ⟨b, off + j, none⟩ := fun j => by unfold Addr.add; split <;> simp_all
      rw [ha]
      have hk : j / 4 < qs.length := by rw [hr.1]; omega
      have hq := hc (j / 4) _ (List.getElem?_eq_getElem hk)
      have hp := pcells_get qs (j / 4) _ (List.getElem?_eq_getElem hk)
      have hcase : j = j / 4 * 4 ∨ j = j / 4 * 4 + 1 ∨ j = j / 4 * 4 + 2 ∨ j = j / 4 * 4 + 3 := by omega
      generalize j / 4 = k4 at hk hq hp hcase
      obtain ⟨q0, q1, q2, q3⟩ := hq
      obtain ⟨p0, p1, p2, p3⟩ := hp
      rcases hcase with e | e | e | e
      · subst e; rw [p0] at hj; have hj := Option.some.inj hj; rw [← hj]; exact q0
      · subst e; rw [p1] at hj; have hj := Option.some.inj hj; rw [← hj, ← Nat.add_assoc]; exact q1
      · subst e; rw [p2] at hj; have hj := Option.some.inj hj; rw [← hj, ← Nat.add_assoc]; exact q2
      · subst e; rw [p3] at hj; have hj := Option.some.inj hj; rw [← hj, ← Nat.add_assoc]; exact q3) (pcells_one qs) (by unfold maxLen; omega) (by omega) hb
    exact ⟨v', w', e1, by rw [pcells_append]; exact e2, e3, e5⟩
theorem wpl_app_pktsB (w : World) {ops : Array Oper} {rest : List Oper} {o : Oper} {a : Act} {Q : Exit → Act → World → Prop} (hgd : o.guard = none) (s x : Operand)
    (ho : o.op = .call { callee := .builtin .append, args := #[s, x], argTypes := #[33, 33] })
    (base : Nat) (v : Value) (n : Nat) (ps : List Pkt) (hs : a.eval s = v) (hown : w.ownsRow base 32 4 v n (pcells ps))
    (A : Option Addr) (m c : Nat) (qs : List Pkt) (hx : a.eval x = .slice A m c) (hr : PR w A m qs) (hn : n + m ≤ 4000000000) (hb : base ≤ w.heap.size)
    (h : ∀ v' w', w'.ownsRow base 32 4 v' (n + m) (pcells (ps ++ qs)) → w.grownBy w' v.ownBlock → (v'.ownBlock = v.ownBlock ∨ v'.ownBlock = some w.heap.size) → wpList Try.prog ops Q rest (a.put o.dst v') w') :
    wpList Try.prog ops Q (o :: rest) a w := by
  refine wpList_plain hgd fun K hK => ?_
  obtain ⟨v', w', hr', h2, h3, h4⟩ := run_app_pktsB w o.type base v n ps hown A m c qs hr hn hb
  unfold Oper.wp execOp
  simp only [ho, resolve, invoke, builtin, Sem.run_bind, Sem.run_pure, Result.andThen_ok, List.map_toArray, List.map_cons, List.map_nil, hs, hx, hr']
  exact hK _ _ (h v' w' h2 h3 h4)
end Go.Proofs.Ytiodhdcgfdlknaa
namespace Go.Proofs.Ytiodhdcgfdlknaa
open Go.RowKit
theorem infoPktS : (Try.prog.info? 84).map (fun i => (i.zero, i.size, i.bytes)) = some (some (.agg #[.int .i64 0, .int .i64 0, .int .i64 0, .int .i64 0]), 4, 32) := by kernel_rfl
theorem run_app_pktsS (w : World) (ty : TypeId) (base : Nat) (v : Value) (n : Nat) (ps : List Pkt) (hown : w.ownsRow base 84 4 v n (pcells ps))
    (A : Option Addr) (m c : Nat) (qs : List Pkt) (hr : PR w A m qs) (hn : n + m ≤ 4000000000) (hb : base ≤ w.heap.size) :
    ∃ v' w', (Builtin.append_ #[39, 39] ty #[v, .slice A m c]).run Try.prog w = .ok v' w' ∧ w'.ownsRow base 84 4 v' (n + m) (pcells (ps ++ qs)) ∧ w.grownBy w' v.ownBlock ∧
      (v'.ownBlock = v.ownBlock ∨ v'.ownBlock = some w.heap.size) := by
  obtain ⟨i0, hi, hz0, hz1, hz2⟩ := info_parts infoPktS
  by_cases h0 : A = none
  · subst h0
    have hm : m = 0 := by
      rcases Nat.eq_zero_or_pos m with hm | hm
      · exact hm
      · obtain ⟨b, off, e, _⟩ := hr.2 hm
        cases e
    subst hm
    have hq : qs = [] := List.eq_nil_of_length_eq_zero hr.1
    subst hq
    exact ⟨v, w, run_app_nil (P := Try.prog) w base 39 ty 84 i0 4 Try.underlying39 hi v n _ hown c, by simpa using hown, g_refl _ _, .inl rfl⟩
  · obtain ⟨ad, rfl⟩ : ∃ ad, A = some ad := by
      cases A with
      | none => exact absurd rfl h0
      | some ad => exact ⟨ad, rfl⟩
    obtain ⟨v', w', e1, e2, e3, _, e5⟩ := run_append_own_at (P := Try.prog) w base 39 ty 84 i0 _ 4 32 Try.underlying39 hi hz0 hz1 hz2 rfl (by decide) v n _ hown ad m c (pcells qs) (by rw [pcells_len, hr.1]) (by
      intro j u hj
      have hjl : j < m * 4 := by
        rcases Nat.lt_or_ge j (pcells qs).length with hl | hl
        · rw [pcells_len, hr.1] at hl; exact hl
        · rw [List.getElem?_eq_none hl] at hj; cases hj
      obtain ⟨b, off, e, hlt, hc⟩ := hr.2 (by omega)
      obtain rfl : ad = ⟨b, off, none⟩ := by injection e
      have ha : ∀ j, (⟨b, off, none⟩ : Addr).add j = ⟨b, off + j, none⟩ := fun j => by unfold Addr.add; split <;> simp_all
      rw [ha]
      have hk : j / 4 < qs.length := by rw [hr.1]; omega
      have hq := hc (j / 4) _ (List.getElem?_eq_getElem hk)
      have hp := pcells_get qs (j / 4) _ (List.getElem?_eq_getElem hk)
      have hcase : j = j / 4 * 4 ∨ j = j / 4 * 4 + 1 ∨ j = j / 4 * 4 + 2 ∨ j = j / 4 * 4 + 3 := by omega
      generalize j / 4 = k4 at hk hq hp hcase
      obtain ⟨q0, q1, q2, q3⟩ := hq
      obtain ⟨p0, p1, p2, p3⟩ := hp
      rcases hcase with e | e | e | e
      · subst e; rw [p0] at hj; have hj := Option.some.inj hj; rw [← hj]; exact q0
      · subst e; rw [p1] at hj; have hj := Option.some.inj hj; rw [← hj, ← Nat.add_assoc]; exact q1
      · subst e; rw [p2] at hj; have hj := Option.some.inj hj; rw [← hj, ← Nat.add_assoc]; exact q2
      · subst e; rw [p3] at hj; have hj := Option.some.inj hj; rw [← hj, ← Nat.add_assoc]; exact q3) (pcells_one qs) (by unfold maxLen; omega) (by omega) hb
    exact ⟨v', w', e1, by rw [pcells_append]; exact e2, e3, e5⟩
theorem wpl_app_pktsS (w : World) {ops : Array Oper} {rest : List Oper} {o : Oper} {a : Act} {Q : Exit → Act → World → Prop} (hgd : o.guard = none) (s x : Operand)
    (ho : o.op = .call { callee := .builtin .append, args := #[s, x], argTypes := #[39, 39] })
    (base : Nat) (v : Value) (n : Nat) (ps : List Pkt) (hs : a.eval s = v) (hown : w.ownsRow base 84 4 v n (pcells ps))
    (A : Option Addr) (m c : Nat) (qs : List Pkt) (hx : a.eval x = .slice A m c) (hr : PR w A m qs) (hn : n + m ≤ 4000000000) (hb : base ≤ w.heap.size)
    (h : ∀ v' w', w'.ownsRow base 84 4 v' (n + m) (pcells (ps ++ qs)) → w.grownBy w' v.ownBlock → (v'.ownBlock = v.ownBlock ∨ v'.ownBlock = some w.heap.size) → wpList Try.prog ops Q rest (a.put o.dst v') w') :
    wpList Try.prog ops Q (o :: rest) a w := by
  refine wpList_plain hgd fun K hK => ?_
  obtain ⟨v', w', hr', h2, h3, h4⟩ := run_app_pktsS w o.type base v n ps hown A m c qs hr hn hb
  unfold Oper.wp execOp
  simp only [ho, resolve, invoke, builtin, Sem.run_bind, Sem.run_pure, Result.andThen_ok, List.map_toArray, List.map_cons, List.map_nil, hs, hx, hr']
  exact hK _ _ (h v' w' h2 h3 h4)
end Go.Proofs.Ytiodhdcgfdlknaa
