/-
  Appending rows of packets at a step of a region that draws its order; rows of packets under stores elsewhere. Conditions: the rows have at most 4000000000 packets.
-/
import Derived.Test.YtehokkijfgiggaaAppPkt
import Derived.Test.YtehokkijfgiggaaGn
import Derived.Deep.RegionLaw
namespace Go.Proofs.Ytehokkijfgiggaa
open Go.RowKit

theorem run_app_pkts (w : World) (ty : TypeId) (base : Nat) (v : Value) (n : Nat) (ps : List Pkt) (hown : w.ownsRow base 28 4 v n (pcells ps))
    (A : Option Addr) (m c : Nat) (qs : List Pkt) (hr : PR w A m qs) (hn : n + m ≤ 4000000000) (hb : base ≤ w.heap.size) :
    ∃ v' w', (Builtin.append_ #[32, 32] ty #[v, .slice A m c]).run Try.prog w = .ok v' w' ∧ w'.ownsRow base 28 4 v' (n + m) (pcells (ps ++ qs)) ∧ w.grownBy w' v.ownBlock ∧
      (v'.ownBlock = v.ownBlock ∨ v'.ownBlock = some w.heap.size) := by
  obtain ⟨i0, hi, hz0, hz1, hz2⟩ := info_parts infoPkt
  by_cases h0 : A = none
  · subst h0
    have hm : m = 0 := by
      rcases Nat.eq_zero_or_pos m with hm | hm
      · exact hm
      · obtain ⟨b, off, e, _⟩ := hr.2 hm
        cases e
    subst hm
    have hq : qs = [] := List.eq_nil_of_length_eq_zero hr.1
    subst hq
    exact ⟨v, w, run_app_nil (P := Try.prog) w base 32 ty 28 i0 4 Try.underlying32 hi v n _ hown c, by simpa using hown, g_refl _ _, .inl rfl⟩
  · obtain ⟨ad, rfl⟩ : ∃ ad, A = some ad := by
      cases A with
      | none => exact absurd rfl h0
      | some ad => exact ⟨ad, rfl⟩
    obtain ⟨v', w', e1, e2, e3, _, e5⟩ := run_append_own_at (P := Try.prog) w base 32 ty 28 i0 _ 4 32 Try.underlying32 hi hz0 hz1 hz2 rfl (by decide) v n _ hown ad m c (pcells qs) (by rw [pcells_len, hr.1]) (by
      intro j u hj
      have hjl : j < m * 4 := by
        rcases Nat.lt_or_ge j (pcells qs).length with hl | hl
        · rw [pcells_len, hr.1] at hl; exact hl
        · rw [List.getElem?_eq_none hl] at hj; cases hj
      obtain ⟨b, off, e, hlt, hc⟩ := hr.2 (by omega)
      obtain rfl : ad = ⟨b, off, none⟩ := by injection e
      have ha : ∀ j, (⟨b, off, none⟩ : Addr).add j = ⟨b, off + j, none⟩ := fun j => by unfold Addr.add; split <;> simp_all
      rw [ha]
      have hk : j / 4 < qs.length := by rw [hr.1]; omega
      have hq := hc (j / 4) _ (List.getElem?_eq_getElem hk)
      have hp := pcells_get qs (j / 4) _ (List.getElem?_eq_getElem hk)
      have hcase : j = j / 4 * 4 ∨ j = j / 4 * 4 + 1 ∨ j = j / 4 * 4 + 2 ∨ j = j / 4 * 4 + 3 := by omega
      generalize j / 4 = k4 at hk hq hp hcase
      obtain ⟨q0, q1, q2, q3⟩ := hq
      obtain ⟨p0, p1, p2, p3⟩ := hp
      rcases hcase with e | e | e | e
      · subst e; rw [p0] at hj; have hj := Option.some.inj hj; rw [← hj]; exact q0
      · subst e; rw [p1] at hj; have hj := Option.some.inj hj; rw [← hj, ← Nat.add_assoc]; exact q1
      · subst e; rw [p2] at hj; have hj := Option.some.inj hj; rw [← hj, ← Nat.add_assoc]; exact q2
      · subst e; rw [p3] at hj; have hj := Option.some.inj hj; rw [← hj, ← Nat.add_assoc]; exact q3) (pcells_one qs) (by unfold maxLen; omega) (by omega) hb
    exact ⟨v', w', e1, by rw [pcells_append]; exact e2, e3, e5⟩
/-- at the list of a plain region's operations -/
theorem wpl_app_pkts (w : World) {ops : Array Oper} {rest : List Oper} {o : Oper} {a : Act} {Q : Exit → Act → World → Prop} (hgd : o.guard = none) (s x : Operand)
    (ho : o.op = .call { callee := .builtin .append, args := #[s, x], argTypes := #[32, 32] })
    (base : Nat) (v : Value) (n : Nat) (ps : List Pkt) (hs : a.eval s = v) (hown : w.ownsRow base 28 4 v n (pcells ps))
    (A : Option Addr) (m c : Nat) (qs : List Pkt) (hx : a.eval x = .slice A m c) (hr : PR w A m qs) (hn : n + m ≤ 4000000000) (hb : base ≤ w.heap.size)
    (h : ∀ v' w', w'.ownsRow base 28 4 v' (n + m) (pcells (ps ++ qs)) → w.grownBy w' v.ownBlock → (v'.ownBlock = v.ownBlock ∨ v'.ownBlock = some w.heap.size) → wpList Try.prog ops Q rest (a.put o.dst v') w') :
    wpList Try.prog ops Q (o :: rest) a w := by
  refine wpList_plain hgd fun K hK => ?_
  obtain ⟨v', w', hr', h2, h3, h4⟩ := run_app_pkts w o.type base v n ps hown A m c qs hr hn hb
  unfold Oper.wp execOp
  simp only [ho, resolve, invoke, builtin, Sem.run_bind, Sem.run_pure, Result.andThen_ok, List.map_toArray, List.map_cons, List.map_nil, hs, hx, hr']
  exact hK _ _ (h v' w' h2 h3 h4)
/-- at a step of a region that draws -/
theorem step_app_pkts (w : World) {ops : Array Oper} {o : Oper} {a : Act} {K : Act → World → Prop} {Q : Exit → Act → World → Prop} {E : Prop} (hgd : o.guard = none) (s x : Operand)
    (ho : o.op = .call { callee := .builtin .append, args := #[s, x], argTypes := #[32, 32] })
    (base : Nat) (v : Value) (n : Nat) (ps : List Pkt) (hs : a.eval s = v) (hown : w.ownsRow base 28 4 v n (pcells ps))
    (A : Option Addr) (m c : Nat) (qs : List Pkt) (hx : a.eval x = .slice A m c) (hr : PR w A m qs) (hn : n + m ≤ 4000000000) (hb : base ≤ w.heap.size)
    (h : ∀ v' w', w'.ownsRow base 28 4 v' (n + m) (pcells (ps ++ qs)) → w.grownBy w' v.ownBlock → (v'.ownBlock = v.ownBlock ∨ v'.ownBlock = some w.heap.size) → K (a.put o.dst v') w') :
    if Region.wanted o (yielded ops a.tmps) = true then Oper.wp Try.prog o a w K Q else E := by
  have hw : Region.wanted o (yielded ops a.tmps) = true := by simp [Region.wanted, hgd]
  rw [if_pos hw]
  obtain ⟨v', w', hr', h2, h3, h4⟩ := run_app_pkts w o.type base v n ps hown A m c qs hr hn hb
  unfold Oper.wp execOp
  simp only [ho, resolve, invoke, builtin, Sem.run_bind, Sem.run_pure, Result.andThen_ok, List.map_toArray, List.map_cons, List.map_nil, hs, hx, hr']
  exact h v' w' h2 h3 h4
theorem pr_single {w : World} {b : Nat} {t : TypeId} {p : Pkt} (h : Blk w b t #[.int .i64 p.peer, .int .i64 p.lane, .int .i64 p.size, .int .i64 p.id]) : PR w (some ⟨b, 0, none⟩) 1 [p] :=
  ⟨rfl, fun _ => ⟨b, 0, rfl, blk_lt h, fun k q hk => by
    have hk0 : k = 0 := by
      rcases Nat.eq_zero_or_pos k with e | e
      · exact e
      · rw [List.getElem?_eq_none (by simp; omega)] at hk; cases hk
    subst hk0
    obtain rfl : p = q := by simpa using hk
    exact ⟨blk_cell h 0, blk_cell h 1, blk_cell h 2, blk_cell h 3⟩⟩⟩
theorem app_belowQ {w w1 w2 : World} {v : Value} {n : Nat} {xs : List Value} {e : TypeId} (ho : w1.ownsRow w.heap.size e 4 v n xs) (hb : Below w.heap.size w w1) (hg : w1.grownBy w2 v.ownBlock) (hs : w.heap.size ≤ w1.heap.size) : Below w.heap.size w w2 :=
  hb.grown hg hs fun k hk => (ho.lt k hk).1
theorem pr_set {w : World} {A : Option Addr} {n : Nat} {ps : List Pkt} (h : PR w A n ps) {p : Addr} (hp : 0 < n → ∀ b, A.map (·.block) = some b → b ≠ p.block) (u : Value) : PR (w.setCell p u) A n ps :=
  ⟨h.1, fun hn => by
    obtain ⟨b, off, rfl, hb, hc⟩ := h.2 hn
    have hne := hp hn b rfl
    exact ⟨b, off, rfl, by simpa using hb, fun k q hq => pat_keep (hc k q hq) fun x => World.cell?_setCell_other w p ⟨b, x, none⟩ u (fun e => hne (by rw [e]))⟩⟩
theorem pr_old {w : World} {A : Option Addr} {n : Nat} {ps : List Pkt} (h : PR w A n ps) : 0 < n → ∀ b, A.map (·.block) = some b → b < w.heap.size := fun hn b hb => by
  obtain ⟨b', off, rfl, hlt, _⟩ := h.2 hn
  obtain rfl : b' = b := by simpa using hb
  exact hlt
theorem pr_grown {w w' : World} {A : Option Addr} {n : Nat} {ps : List Pkt} {row : Option Nat} (h : PR w A n ps) (hg : w.grownBy w' row) (hne : 0 < n → ∀ b, A.map (·.block) = some b → some b ≠ row) : PR w' A n ps :=
  ⟨h.1, fun hn => by
    obtain ⟨b, off, rfl, hb, hc⟩ := h.2 hn
    exact ⟨b, off, rfl, Nat.lt_of_lt_of_le hb hg.size, fun k q hq => pat_keep (hc k q hq) fun x => hg.cell_far ⟨b, x, none⟩ hb (hne hn b rfl)⟩⟩
theorem own_emptyQ {W : World} {b : Nat} (hb : b = W.heap.size) : (W.alloc (.cells #[] 28)).ownsRow W.heap.size 28 4 (.slice (some ⟨b, 0, none⟩) 0 0) 0 (pcells []) := by
  subst hb
  exact own_empty (Below.refl _ _)
/-- what a call hands back that made a row of its own -/
def OwnPost (w : World) (n : Nat) (ps : List Pkt) (e : Ending) (w' : World) : Prop :=
  ∃ A c, e = .returned (.slice A n c) ∧ w'.ownsRow w.heap.size 28 4 (.slice A n c) n (pcells ps) ∧ Below w.heap.size w w'
end Go.Proofs.Ytehokkijfgiggaa
