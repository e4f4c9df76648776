/-
  Appending rows of flows; slices.Clone of flows and of packets. Conditions: the rows have at most 4000000000 elements.
-/
import Derived.Test.YtehokkijfgiggaaR0
import Derived.Test.YtehokkijfgiggaaStep
import Derived.Lib.SliceRun
namespace Go.Proofs.Ytehokkijfgiggaa
open Go.RowKit

theorem infoFlw : (Try.prog.info? 40).map (fun i => (i.zero, i.size, i.bytes)) = some (some (.agg #[.int .i64 0, .int .i64 0, .slice none 0 0]), 3, 40) := by kernel_rfl
theorem run_app_flws (w : World) (ty : TypeId) (base : Nat) (v : Value) (n : Nat) (ps : List Fh) (hown : w.ownsRow base 40 3 v n (fcells ps))
    (A : Option Addr) (m c : Nat) (qs : List Fh) (hr : HR w A m qs) (hn : n + m ≤ 4000000000) (hb : base ≤ w.heap.size) :
    ∃ v' w', (Builtin.append_ #[23, 23] ty #[v, .slice A m c]).run Try.prog w = .ok v' w' ∧ w'.ownsRow base 40 3 v' (n + m) (fcells (ps ++ qs)) ∧ w.grownBy w' v.ownBlock ∧
      (v'.ownBlock = v.ownBlock ∨ v'.ownBlock = some w.heap.size) := by
  obtain ⟨i0, hi, hz0, hz1, hz2⟩ := info_parts infoFlw
  by_cases h0 : A = none
  · subst h0
    have hm : m = 0 := by
      rcases Nat.eq_zero_or_pos m with hm | hm
      · exact hm
      · obtain ⟨b, off, e, _⟩ := hr.2 hm
        cases e
    subst hm
    have hq : qs = [] := List.eq_nil_of_length_eq_zero hr.1
    subst hq
    exact ⟨v, w, run_app_nil (P := Try.prog) w base 23 ty 40 i0 3 Try.underlying23 hi v n _ hown c, by simpa using hown, g_refl _ _, .inl rfl⟩
  · obtain ⟨ad, rfl⟩ : ∃ ad, A = some ad := by
      cases A with
      | none => exact absurd rfl h0
      | some ad => exact ⟨ad, rfl⟩
    obtain ⟨v', w', e1, e2, e3, _, e5⟩ := run_append_own_at (P := Try.prog) w base 23 ty 40 i0 _ 3 40 Try.underlying23 hi hz0 hz1 hz2 rfl (by decide) v n _ hown ad m c (fcells qs) (by rw [fcells_len, hr.1]) (by
      intro j u hj
      have hjl : j < m * 3 := by
        rcases Nat.lt_or_ge j (fcells qs).length with hl | hl
        · rw [fcells_len, hr.1] at hl; exact hl
        · rw [List.getElem?_eq_none hl] at hj; cases hj
      obtain ⟨b, off, e, hlt, hc⟩ := hr.2 (by omega)
      obtain rfl : ad = ⟨b, off, none⟩ := by injection e
      have ha : ∀ j, (⟨b, off, none⟩ : Addr).add j = ⟨b, off + j, none⟩ := fun j => by unfold Addr.add; split <;> simp_all
      rw [ha]
      have hk : j / 3 < qs.length := by rw [hr.1]; omega
      have hq := hc (j / 3) _ (List.getElem?_eq_getElem hk)
      have hp := fcells_get qs (j / 3) _ (List.getElem?_eq_getElem hk)
      have hcase : j = j / 3 * 3 ∨ j = j / 3 * 3 + 1 ∨ j = j / 3 * 3 + 2 := by omega
      generalize j / 3 = k3 at hk hq hp hcase
      obtain ⟨q0, q1, q2⟩ := hq
      obtain ⟨p0, p1, p2⟩ := hp
      rcases hcase with e | e | e
      · subst e; rw [p0] at hj; have hj := Option.some.inj hj; rw [← hj]; exact q0
      · subst e; rw [p1] at hj; have hj := Option.some.inj hj; rw [← hj, ← Nat.add_assoc]; exact q1
      · subst e; rw [p2] at hj; have hj := Option.some.inj hj; rw [← hj, ← Nat.add_assoc]; exact q2) (fcells_one qs) (by unfold maxLen; omega) (by omega) hb
    exact ⟨v', w', e1, by rw [fcells_append]; exact e2, e3, e5⟩
/-- at the list of a plain region's operations -/
theorem wpl_app_flws (w : World) {ops : Array Oper} {rest : List Oper} {o : Oper} {a : Act} {Q : Exit → Act → World → Prop} (hgd : o.guard = none) (s x : Operand)
    (ho : o.op = .call { callee := .builtin .append, args := #[s, x], argTypes := #[23, 23] })
    (base : Nat) (v : Value) (n : Nat) (ps : List Fh) (hs : a.eval s = v) (hown : w.ownsRow base 40 3 v n (fcells ps))
    (A : Option Addr) (m c : Nat) (qs : List Fh) (hx : a.eval x = .slice A m c) (hr : HR w A m qs) (hn : n + m ≤ 4000000000) (hb : base ≤ w.heap.size)
    (h : ∀ v' w', w'.ownsRow base 40 3 v' (n + m) (fcells (ps ++ qs)) → w.grownBy w' v.ownBlock → (v'.ownBlock = v.ownBlock ∨ v'.ownBlock = some w.heap.size) → wpList Try.prog ops Q rest (a.put o.dst v') w') :
    wpList Try.prog ops Q (o :: rest) a w := by
  refine wpList_plain hgd fun K hK => ?_
  obtain ⟨v', w', hr', h2, h3, h4⟩ := run_app_flws w o.type base v n ps hown A m c qs hr hn hb
  unfold Oper.wp execOp
  simp only [ho, resolve, invoke, builtin, Sem.run_bind, Sem.run_pure, Result.andThen_ok, List.map_toArray, List.map_cons, List.map_nil, hs, hx, hr']
  exact hK _ _ (h v' w' h2 h3 h4)
/-- at a step of a region that draws -/
theorem step_app_flws (w : World) {ops : Array Oper} {o : Oper} {a : Act} {K : Act → World → Prop} {Q : Exit → Act → World → Prop} {E : Prop} (hgd : o.guard = none) (s x : Operand)
    (ho : o.op = .call { callee := .builtin .append, args := #[s, x], argTypes := #[23, 23] })
    (base : Nat) (v : Value) (n : Nat) (ps : List Fh) (hs : a.eval s = v) (hown : w.ownsRow base 40 3 v n (fcells ps))
    (A : Option Addr) (m c : Nat) (qs : List Fh) (hx : a.eval x = .slice A m c) (hr : HR w A m qs) (hn : n + m ≤ 4000000000) (hb : base ≤ w.heap.size)
    (h : ∀ v' w', w'.ownsRow base 40 3 v' (n + m) (fcells (ps ++ qs)) → w.grownBy w' v.ownBlock → (v'.ownBlock = v.ownBlock ∨ v'.ownBlock = some w.heap.size) → K (a.put o.dst v') w') :
    if Region.wanted o (yielded ops a.tmps) = true then Oper.wp Try.prog o a w K Q else E := by
  have hw : Region.wanted o (yielded ops a.tmps) = true := by simp [Region.wanted, hgd]
  rw [if_pos hw]
  obtain ⟨v', w', hr', h2, h3, h4⟩ := run_app_flws w o.type base v n ps hown A m c qs hr hn hb
  unfold Oper.wp execOp
  simp only [ho, resolve, invoke, builtin, Sem.run_bind, Sem.run_pure, Result.andThen_ok, List.map_toArray, List.map_cons, List.map_nil, hs, hx, hr']
  exact h v' w' h2 h3 h4
theorem hr_single {w : World} {b : Nat} {t : TypeId} {h : Fh} (e : Blk w b t #[.int .i64 h.peer, .int .i64 h.dfc, .slice h.A h.n h.c]) : HR w (some ⟨b, 0, none⟩) 1 [h] :=
  ⟨rfl, fun _ => ⟨b, 0, rfl, blk_lt e, fun k q hk => by
    have hk0 : k = 0 := by
      rcases Nat.eq_zero_or_pos k with e | e
      · exact e
      · rw [List.getElem?_eq_none (by simp; omega)] at hk; cases hk
    subst hk0
    obtain rfl : h = q := by simpa using hk
    exact ⟨blk_cell e 0, blk_cell e 1, blk_cell e 2⟩⟩⟩
theorem own_emptyF {W : World} {b : Nat} (hb : b = W.heap.size) : (W.alloc (.cells #[] 40)).ownsRow W.heap.size 40 3 (.slice (some ⟨b, 0, none⟩) 0 0) 0 (fcells []) := by
  subst hb
  exact ⟨rfl, .inr ⟨W.heap.size, 0, #[], rfl, Nat.le_refl _, blk_new W _ _, Nat.le_refl _, by unfold maxLen; omega, rfl, rfl⟩⟩
set_option maxHeartbeats 1000000 in
theorem clone_any (A : Option Addr) (n c : Nat) (ps : List Pkt) (w : World) (h : PR w A n ps) (hn : n ≤ 4000000000) :
    Calls Try.prog 81 #[.slice A n c] w (OwnPost w n ps) := by
  cases A with
  | none =>
    have hm : n = 0 := by
      rcases Nat.eq_zero_or_pos n with hm | hm
      · exact hm
      · obtain ⟨b, off, e, _⟩ := h.2 hm
        cases e
    subst hm
    have hq : ps = [] := List.eq_nil_of_length_eq_zero h.1
    subst hq
    clear h
    have q23 : ∀ (w : World) (a : Option Addr) (n c n' c' : Nat), (binOp .eql 32 (.slice a n c) (.slice none n' c')).run Try.prog w = .ok (.bool a.isNone) w := fun w a n c n' c' => Lib.run_eql_slice_nil w _ _ a n c n' c' Try.underlying32
    go_enter Try.func81, Try.ntmps81
    go_wp2
    go_ret
    exact ⟨none, 0, rfl, World.ownsRow_nil _ _ _ _, Below.refl _ _⟩
  | some ad =>
    have H := Lib.hid h
    have O0 := Lib.hid (own_empty (w := w) (Below.refl _ _))
    clear h
    have q23 : ∀ (w : World) (a : Option Addr) (n c n' c' : Nat), (binOp .eql 32 (.slice a n c) (.slice none n' c')).run Try.prog w = .ok (.bool a.isNone) w := fun w a n c n' c' => Lib.run_eql_slice_nil w _ _ a n c n' c' Try.underlying32
    go_enter Try.func81, Try.ntmps81
    go_wp2_with (at_builtin; refine wp_app_pkts _ rfl (.tmp 5) (.tmp 6) rfl w.heap.size (.slice (some ⟨w.heap.size, 0, none⟩) 0 0) 0 [] rfl O0.out (some ad) n c ps rfl (pr_alloc H.out _) (by omega) (by simp) ?_; intro v1 w3 ho3 hg3; simp only [List.nil_append, Nat.zero_add] at ho3; have T3 := Lib.hid (app_belowQ O0.out (below_alloc (Below.refl _ _) _) hg3 (by simp)); clear hg3)
    obtain ⟨A2, c2, rfl, hmc, hcm, -⟩ := own_form ho3
    have O3 := Lib.hid ho3
    clear ho3
    go_wp2
    go_ret
    exact ⟨A2, c2, rfl, O3.out, T3.out⟩
/-- what a call hands back that made a row of flows of its own, whose packets are the old ones -/
def OwnPostF (w : World) (n : Nat) (hs : List Fh) (e : Ending) (w' : World) : Prop :=
  ∃ A c, e = .returned (.slice A n c) ∧ w'.ownsRow w.heap.size 40 3 (.slice A n c) n (fcells hs) ∧ Below w.heap.size w w'
set_option maxHeartbeats 1000000 in
theorem cloneF_any (A : Option Addr) (n c : Nat) (ps : List Fh) (w : World) (h : HR w A n ps) (hn : n ≤ 4000000000) :
    Calls Try.prog 77 #[.slice A n c] w (OwnPostF w n ps) := by
  cases A with
  | none =>
    have hm : n = 0 := by
      rcases Nat.eq_zero_or_pos n with hm | hm
      · exact hm
      · obtain ⟨b, off, e, _⟩ := h.2 hm
        cases e
    subst hm
    have hq : ps = [] := List.eq_nil_of_length_eq_zero h.1
    subst hq
    clear h
    have q23 : ∀ (w : World) (a : Option Addr) (n c n' c' : Nat), (binOp .eql 23 (.slice a n c) (.slice none n' c')).run Try.prog w = .ok (.bool a.isNone) w := fun w a n c n' c' => Lib.run_eql_slice_nil w _ _ a n c n' c' Try.underlying23
    go_enter Try.func77, Try.ntmps77
    go_wp2
    go_ret
    exact ⟨none, 0, rfl, World.ownsRow_nil _ _ _ _, Below.refl _ _⟩
  | some ad =>
    have H := Lib.hid h
    have O0 := Lib.hid (own_emptyF (W := w) rfl)
    clear h
    have q23 : ∀ (w : World) (a : Option Addr) (n c n' c' : Nat), (binOp .eql 23 (.slice a n c) (.slice none n' c')).run Try.prog w = .ok (.bool a.isNone) w := fun w a n c n' c' => Lib.run_eql_slice_nil w _ _ a n c n' c' Try.underlying23
    go_enter Try.func77, Try.ntmps77
    go_wp2_with (at_builtin; refine wpl_app_flws _ rfl (.tmp 5) (.tmp 6) rfl w.heap.size (.slice (some ⟨w.heap.size, 0, none⟩) 0 0) 0 [] rfl O0.out (some ad) n c ps rfl (hr_alloc H.out _) (by omega) (by simp) ?_; intro v1 w3 ho3 hg3 hat3; clear hat3; simp only [List.nil_append, Nat.zero_add] at ho3; have T3 := Lib.hid (app_belowG O0.out (below_alloc (Below.refl _ _) _) hg3 (by simp)); clear hg3)
    obtain ⟨A2, c2, rfl, hmc, hcm, -⟩ := own_form ho3
    have O3 := Lib.hid ho3
    clear ho3
    go_wp2
    go_ret
    exact ⟨A2, c2, rfl, O3.out, T3.out⟩
end Go.Proofs.Ytehokkijfgiggaa
