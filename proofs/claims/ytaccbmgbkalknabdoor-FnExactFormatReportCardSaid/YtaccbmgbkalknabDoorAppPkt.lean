/-
  Appending one packet to a row of packets that the call owns. Conditions: the row has at most 4000000000 packets.
-/
import Derived.Test.YtaccbmgbkalknabDoorBase
import Derived.Test.YtaccbmgbkalknabDoorGn
namespace Go.Proofs.YtaccbmgbkalknabDoor
open Go.RowKit

theorem pcells_set (ps : List Pkt) (k : Nat) (p : Pkt) :
    ((((pcells ps).set (k * 4) (.int .i64 p.peer)).set (k * 4 + 1) (.int .i64 p.lane)).set (k * 4 + 2) (.int .i64 p.size)).set (k * 4 + 3) (.int .i64 p.id) = pcells (ps.set k p) := by
  induction ps generalizing k with
  | nil => simp [pcells]
  | cons r l ih =>
    cases k with
    | zero => simp [pcells]
    | succ k =>
      have e : (k + 1) * 4 = k * 4 + 4 := by omega
      rw [e]
      simp only [pcells, List.set_cons_succ, Nat.add_right_comm _ 4, ← ih k]
theorem own_set_pkt {w : World} {base b n c : Nat} {e : TypeId} {ps : List Pkt} (h : w.ownsRow base e 4 (.slice (some ⟨b, 0, none⟩) n c) n (pcells ps)) (k : Nat) (p : Pkt) :
    ((((w.setCell ⟨b, k * 4, none⟩ (.int .i64 p.peer)).setCell ⟨b, k * 4 + 1, none⟩ (.int .i64 p.lane)).setCell ⟨b, k * 4 + 2, none⟩ (.int .i64 p.size)).setCell ⟨b, k * 4 + 3, none⟩ (.int .i64 p.id)).ownsRow base e 4 (.slice (some ⟨b, 0, none⟩) n c) n (pcells (ps.set k p)) := by
  have h1 := (h.stored (k * 4) (.int .i64 p.peer)).1
  have h2 := (h1.stored (k * 4 + 1) (.int .i64 p.lane)).1
  have h3 := (h2.stored (k * 4 + 2) (.int .i64 p.size)).1
  have h4 := (h3.stored (k * 4 + 3) (.int .i64 p.id)).1
  rw [pcells_set] at h4
  exact h4
theorem infoPkt : (Tryd.prog.info? 47).map (fun i => (i.zero, i.size, i.bytes)) = some (some (.agg #[.int .i64 0, .int .i64 0, .int .i64 0, .int .i64 0]), 4, 32) := by kernel_rfl
theorem wp_app_pkt (w : World) {ops : Array Oper} {rest : List Oper} {o : Oper} {a : Act} {Q : Exit → Act → World → Prop} (hgd : o.guard = none) (s x : Operand)
    (ho : o.op = .call { callee := .builtin .append, args := #[s, x], argTypes := #[24, 24] })
    (base : Nat) (v : Value) (n : Nat) (ps : List Pkt) (p : Pkt) (hs : a.eval s = v) (hown : w.ownsRow base 47 4 v n (pcells ps))
    (bl : Nat) (hbl : bl = w.heap.size) (hx : a.eval x = .slice (some ⟨bl, 0, none⟩) 1 1) (hn : n ≤ 4000000000) (hb : base ≤ w.heap.size)
    (h : ∀ v' w', w'.ownsRow base 47 4 v' (n + 1) (pcells (ps ++ [p])) → (w.alloc (.cells #[.int .i64 p.peer, .int .i64 p.lane, .int .i64 p.size, .int .i64 p.id] 47)).grownBy w' v.ownBlock → wpList Tryd.prog ops Q rest (a.put o.dst v') w') :
    wpList Tryd.prog ops Q (o :: rest) a (w.alloc (.cells #[.int .i64 p.peer, .int .i64 p.lane, .int .i64 p.size, .int .i64 p.id] 47)) := by
  subst hbl
  obtain ⟨i0, hi, hz0, hz1, hz2⟩ := info_parts infoPkt
  refine wpList_append_own _ hgd s x 24 ho base 47 i0 _ 4 32 Tryd.underlying24 hi hz0 hz1 hz2 rfl (by decide) v n _ hs (hown.alloc _) ⟨w.heap.size, 0, none⟩ 1 1 [.int .i64 p.peer, .int .i64 p.lane, .int .i64 p.size, .int .i64 p.id] hx rfl ?_ ?_ ?_ ?_ ?_ ?_
  · intro j u hj
    have hB := blk_new w 47 #[.int .i64 p.peer, .int .i64 p.lane, .int .i64 p.size, .int .i64 p.id]
    have ha : (⟨w.heap.size, 0, none⟩ : Addr).add j = ⟨w.heap.size, j, none⟩ := by unfold Addr.add; split <;> simp_all
    rw [ha, blk_cell hB, ← hj, ← Array.getElem?_toList]
  · exact pcells_one [p]
  · unfold maxLen; omega
  · omega
  · simp; omega
  · intro v' w' hown' hg' _
    exact h v' w' (by rw [pcells_snoc]; exact hown') hg'
theorem own_empty {w w' : World} (h : Below (w.alloc (.cells #[] 47)).heap.size (w.alloc (.cells #[] 47)) w') : w'.ownsRow w.heap.size 47 4 (.slice (some ⟨w.heap.size, 0, none⟩) 0 0) 0 (pcells []) :=
  ⟨rfl, .inr ⟨w.heap.size, 0, #[], rfl, Nat.le_refl _, blk_below (blk_new w _ _) h (by simp), Nat.le_refl _, by unfold maxLen; omega, rfl, rfl⟩⟩
theorem wp_app_pkts (w : World) {ops : Array Oper} {rest : List Oper} {o : Oper} {a : Act} {Q : Exit → Act → World → Prop} (hgd : o.guard = none) (s x : Operand)
    (ho : o.op = .call { callee := .builtin .append, args := #[s, x], argTypes := #[24, 24] })
    (base : Nat) (v : Value) (n : Nat) (ps : List Pkt) (hs : a.eval s = v) (hown : w.ownsRow base 47 4 v n (pcells ps))
    (A : Option Addr) (m c : Nat) (qs : List Pkt) (hx : a.eval x = .slice A m c) (hr : PR w A m qs) (hn : n + m ≤ 4000000000) (hb : base ≤ w.heap.size)
    (h : ∀ v' w', w'.ownsRow base 47 4 v' (n + m) (pcells (ps ++ qs)) → w.grownBy w' v.ownBlock → wpList Tryd.prog ops Q rest (a.put o.dst v') w') :
    wpList Tryd.prog ops Q (o :: rest) a w := by
  obtain ⟨i0, hi, hz0, hz1, hz2⟩ := info_parts infoPkt
  by_cases h0 : A = none
  · subst h0
    have hm : m = 0 := by
      rcases Nat.eq_zero_or_pos m with hm | hm
      · exact hm
      · obtain ⟨b, off, e, _⟩ := hr.2 hm
        cases e
    subst hm
    have hq : qs = [] := List.eq_nil_of_length_eq_zero hr.1
    subst hq
    refine wpList_plain hgd fun K hK => ?_
    have hrun := run_app_nil (P := Tryd.prog) w base 24 o.type 47 i0 4 Tryd.underlying24 hi v n _ hown c
    unfold Oper.wp execOp
    simp only [ho, resolve, invoke, builtin, Sem.run_bind, Sem.run_pure, Result.andThen_ok, List.map_toArray, List.map_cons, List.map_nil, hs, hx, hrun]
    exact hK _ _ (h v w (by simpa using hown) (g_refl _ _))
  · obtain ⟨ad, rfl⟩ : ∃ ad, A = some ad := by
      cases A with
      | none => exact absurd rfl h0
      | some ad => exact ⟨ad, rfl⟩
    refine wpList_append_own _ hgd s x 24 ho base 47 i0 _ 4 32 Tryd.underlying24 hi hz0 hz1 hz2 rfl (by decide) v n _ hs hown ad m c (pcells qs) hx (by rw [pcells_len, hr.1]) ?_ (pcells_one qs) ?_ ?_ hb ?_
    · intro j u hj
      have hjl : j < m * 4 := by
        rcases Nat.lt_or_ge j (pcells qs).length with hl | hl
        · rw [pcells_len, hr.1] at hl; exact hl
        · rw [List.getElem?_eq_none hl] at hj; cases hj
      obtain ⟨b, off, e, hlt, hc⟩ := hr.2 (by omega)
      obtain rfl : ad = ⟨b, off, none⟩ := by injection e
      have ha : ∀ j, (⟨b, off, none⟩ : Addr).add j = ⟨b, off + j, none⟩ := fun j => by unfold Addr.add; split <;> simp_all
      rw [ha]
      have hk : j / 4 < qs.length := by rw [hr.1]; omega
      have hq := hc (j / 4) _ (List.getElem?_eq_getElem hk)
      have hp := pcells_get qs (j / 4) _ (List.getElem?_eq_getElem hk)
      have hcase : j = j / 4 * 4 ∨ j = j / 4 * 4 + 1 ∨ j = j / 4 * 4 + 2 ∨ j = j / 4 * 4 + 3 := by omega
      generalize j / 4 = k4 at hk hq hp hcase
      obtain ⟨q0, q1, q2, q3⟩ := hq
      obtain ⟨p0, p1, p2, p3⟩ := hp
      rcases hcase with e | e | e | e
      · subst e; rw [p0] at hj; have hj := Option.some.inj hj; rw [← hj]; exact q0
      · subst e; rw [p1] at hj; have hj := Option.some.inj hj; rw [← hj, ← Nat.add_assoc]; exact q1
      · subst e; rw [p2] at hj; have hj := Option.some.inj hj; rw [← hj, ← Nat.add_assoc]; exact q2
      · subst e; rw [p3] at hj; have hj := Option.some.inj hj; rw [← hj, ← Nat.add_assoc]; exact q3
    · unfold maxLen; omega
    · omega
    · intro v' w' hown' hg' _
      exact h v' w' (by rw [pcells_append]; exact hown') hg'
end Go.Proofs.YtaccbmgbkalknabDoor
