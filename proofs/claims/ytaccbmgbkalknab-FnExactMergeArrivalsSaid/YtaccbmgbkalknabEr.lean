/-
  Rows of arrivals in the memory: how they read, appends, stores. Conditions: the rows have at most 4000000000 arrivals.
-/
import Derived.Test.YtaccbmgbkalknabEm
import Derived.Test.YtaccbmgbkalknabGn
namespace Go.Proofs.Ytaccbmgbkalknab
open Go.RowKit

def acells : List Arr → List Value
  | [] => []
  | p :: r => .int .i64 p.t :: .int .i64 p.z :: acells r
theorem acells_len (ps : List Arr) : (acells ps).length = ps.length * 2 := by
  induction ps with
  | nil => rfl
  | cons p r ih => simp only [acells, List.length_cons, ih]; omega
theorem acells_append (a b : List Arr) : acells (a ++ b) = acells a ++ acells b := by
  induction a with
  | nil => rfl
  | cons p r ih => simp only [acells, List.cons_append, ih]
theorem acells_snoc (a : List Arr) (p : Arr) : acells (a ++ [p]) = acells a ++ [.int .i64 p.t, .int .i64 p.z] := acells_append a [p]
theorem acells_get (ps : List Arr) (k : Nat) (p : Arr) (h : ps[k]? = some p) :
    (acells ps)[k * 2]? = some (.int .i64 p.t) ∧ (acells ps)[k * 2 + 1]? = some (.int .i64 p.z) := by
  induction ps generalizing k with
  | nil => simp at h
  | cons q r ih =>
    cases k with
    | zero =>
      simp only [List.getElem?_cons_zero, Option.some.injEq] at h
      subst h
      simp [acells]
    | succ k =>
      have h' : r[k]? = some p := by simpa using h
      have := ih k h'
      have e : (k + 1) * 2 = k * 2 + 2 := by omega
      rw [e]
      simpa [acells, Nat.add_right_comm] using this
theorem acells_one (ps : List Arr) : ∀ u ∈ acells ps, u.oneCell' = true := by
  induction ps with
  | nil => intro u hu; cases hu
  | cons p r ih =>
    intro u hu
    simp only [acells, List.mem_cons] at hu
    rcases hu with rfl | rfl | hu
    · rfl
    · rfl
    · exact ih u hu
theorem acells_set (ps : List Arr) (k : Nat) (p : Arr) : ((acells ps).set (k * 2) (.int .i64 p.t)).set (k * 2 + 1) (.int .i64 p.z) = acells (ps.set k p) := by
  induction ps generalizing k with
  | nil => simp [acells]
  | cons r l ih =>
    cases k with
    | zero => simp [acells]
    | succ k =>
      have e : (k + 1) * 2 = k * 2 + 2 := by omega
      rw [e]
      simp only [acells, List.set_cons_succ, Nat.add_right_comm _ 2, ← ih k]
theorem set_self {α : Type} {l : List α} {k : Nat} {a : α} (h : l[k]? = some a) : l.set k a = l := by
  obtain ⟨hk, rfl⟩ := List.getElem?_eq_some_iff.1 h
  simp
theorem acells_setT (ps : List Arr) (k : Nat) (p : Arr) (x : Int) (h : ps[k]? = some p) : (acells ps).set (k * 2) (.int .i64 x) = acells (ps.set k ⟨x, p.z⟩) := by
  rw [← acells_set]
  symm
  apply set_self
  have := (acells_get ps k p h).2
  rw [List.getElem?_set_ne (by omega)]
  exact this
theorem acells_setZ (ps : List Arr) (k : Nat) (p : Arr) (x : Int) (h : ps[k]? = some p) : (acells ps).set (k * 2 + 1) (.int .i64 x) = acells (ps.set k ⟨p.t, x⟩) := by
  rw [← acells_set]
  congr 1
  symm
  exact set_self (acells_get ps k p h).1
def AAt (w : World) (b o : Nat) (p : Arr) : Prop :=
  w.cell? ⟨b, o, none⟩ = some (.int .i64 p.t) ∧ w.cell? ⟨b, o + 1, none⟩ = some (.int .i64 p.z)
theorem aat_keep {w w' : World} {b o : Nat} {p : Arr} (h : AAt w b o p) (hk : ∀ x, w'.cell? ⟨b, x, none⟩ = w.cell? ⟨b, x, none⟩) : AAt w' b o p :=
  ⟨(hk _).trans h.1, (hk _).trans h.2⟩
theorem aat_below {w w' : World} {b o : Nat} {p : Arr} (h : AAt w b o p) (hb : Below w.heap.size w w') (hlt : b < w.heap.size) : AAt w' b o p := aat_keep h fun x => (bcell hb).1 b x hlt
/-- the slice of n elements at A reads as the arrivals ps -/
def AR (w : World) (A : Option Addr) (n : Nat) (ps : List Arr) : Prop :=
  ps.length = n ∧ (0 < n → ∃ b off, A = some ⟨b, off, none⟩ ∧ b < w.heap.size ∧ ∀ k p, ps[k]? = some p → AAt w b (off + k * 2) p)
section
variable {w w' : World} {A : Option Addr} {n c : Nat} {ps : List Arr}
theorem ar_nil (w : World) (A : Option Addr) : AR w A 0 [] := ⟨rfl, fun h => absurd h (by omega)⟩
theorem ar_keep (h : AR w A n ps) (hs : w.heap.size ≤ w'.heap.size) (hk : ∀ b x, b < w.heap.size → A.map (·.block) = some b → w'.cell? ⟨b, x, none⟩ = w.cell? ⟨b, x, none⟩) : AR w' A n ps :=
  ⟨h.1, fun hn => by
    obtain ⟨b, off, rfl, hb, hc⟩ := h.2 hn
    exact ⟨b, off, rfl, Nat.lt_of_lt_of_le hb hs, fun k p hp => aat_keep (hc k p hp) fun x => hk b x hb rfl⟩⟩
theorem ar_below (h : AR w A n ps) (hb : Below w.heap.size w w') : AR w' A n ps := ar_keep h hb.size fun b x hlt _ => (bcell hb).1 b x hlt
theorem ar_alloc (h : AR w A n ps) (o : Obj) : AR (w.alloc o) A n ps := ar_below h (below_alloc (Below.refl _ _) o)
theorem ar_drewN (h : AR w A n ps) (k : Nat) : AR (w.drewN k) A n ps := h
theorem ar_at {k : Nat} (h : AR w A n ps) (hk : k < n) : ∃ b off p, A = some ⟨b, off, none⟩ ∧ b < w.heap.size ∧ ps[k]? = some p ∧ AAt w b (off + k * 2) p := by
  obtain ⟨b, off, e, hb, hc⟩ := h.2 (by omega)
  have hl : k < ps.length := by have := h.1; omega
  exact ⟨b, off, ps[k], e, hb, List.getElem?_eq_getElem hl, hc k _ (List.getElem?_eq_getElem hl)⟩
theorem ar_own {base : Nat} {e : TypeId} (h : w.ownsRow base e 2 (.slice A n c) n (acells ps)) : AR w A n ps := by
  have hl : ps.length = n := by have := h.1; rw [acells_len] at this; omega
  refine ⟨hl, fun hn => ?_⟩
  obtain ⟨g, cap, hv, _, hlt⟩ := h.form hn
  have hA : A = some ⟨g, 0, none⟩ := by injection hv
  subst hA
  refine ⟨g, 0, rfl, hlt, fun k p hp => ?_⟩
  have hc := h.cells (g := g) rfl
  have hg := acells_get ps k p hp
  have ha : ∀ j, (⟨g, 0, none⟩ : Addr).add j = ⟨g, j, none⟩ := fun j => by unfold Addr.add; split <;> simp_all
  simp only [ha] at hc
  rw [Nat.zero_add]
  exact ⟨hc _ _ hg.1, hc _ _ hg.2⟩
theorem ar_take (h : AR w A n ps) {k : Nat} (hk : k ≤ n) : AR w A k (ps.take k) :=
  ⟨by rw [List.length_take, h.1]; omega, fun hn => by
    obtain ⟨b, off, e, hb, hc⟩ := h.2 (by omega)
    exact ⟨b, off, e, hb, fun j p hp => hc j p (by
      rw [List.getElem?_take] at hp
      split at hp
      · exact hp
      · cases hp)⟩⟩
theorem ar_drop (h : AR w A n ps) {k : Nat} (hk : k ≤ n) (hc : n ≤ c) : AR w (if c = k then A else A.map (·.add (k * 2))) (n - k) (ps.drop k) := by
  refine ⟨by rw [List.length_drop, h.1], fun hn => ?_⟩
  obtain ⟨b, off, rfl, hb, hcell⟩ := h.2 (by omega)
  rw [if_neg (by omega)]
  refine ⟨b, off + k * 2, ?_, hb, fun j p hp => ?_⟩
  · simp only [Option.map_some, Addr.add]
    split
    · rw [show k * 2 = 0 from by assumption, Nat.add_zero]
    · rfl
  · have := hcell (k + j) p (by rw [← hp, List.getElem?_drop])
    rw [show off + k * 2 + j * 2 = off + (k + j) * 2 from by omega]
    exact this
theorem ar_dropA {b off : Nat} (h : AR w (some ⟨b, off, none⟩) n ps) {k : Nat} (hk : k ≤ n) : AR w (some ⟨b, off + k * 2, none⟩) (n - k) (ps.drop k) := by
  refine ⟨by rw [List.length_drop, h.1], fun hn => ?_⟩
  obtain ⟨b', off', e, hb, hcell⟩ := h.2 (by omega)
  obtain ⟨rfl, rfl⟩ : b = b' ∧ off = off' := by injection e with e; injection e with a b; exact ⟨a, b⟩
  refine ⟨b, off + k * 2, rfl, hb, fun j p hp => ?_⟩
  have := hcell (k + j) p (by rw [← hp, List.getElem?_drop])
  rw [show off + k * 2 + j * 2 = off + (k + j) * 2 from by omega]
  exact this
theorem ar_set (h : AR w A n ps) {p : Addr} (hp : 0 < n → ∀ b, A.map (·.block) = some b → b ≠ p.block) (u : Value) : AR (w.setCell p u) A n ps :=
  ⟨h.1, fun hn => by
    obtain ⟨b, off, rfl, hb, hc⟩ := h.2 hn
    have hne := hp hn b rfl
    exact ⟨b, off, rfl, by simpa using hb, fun k q hq => aat_keep (hc k q hq) fun x => World.cell?_setCell_other w p ⟨b, x, none⟩ u (fun e => hne (by rw [e]))⟩⟩
theorem ar_old (h : AR w A n ps) : 0 < n → ∀ b, A.map (·.block) = some b → b < w.heap.size := fun hn b hb => by
  obtain ⟨b', off, rfl, hlt, _⟩ := h.2 hn
  obtain rfl : b' = b := by simpa using hb
  exact hlt
theorem ar_grown {row : Option Nat} (h : AR w A n ps) (hg : w.grownBy w' row) (hne : 0 < n → ∀ b, A.map (·.block) = some b → some b ≠ row) : AR w' A n ps :=
  ⟨h.1, fun hn => by
    obtain ⟨b, off, rfl, hb, hc⟩ := h.2 hn
    exact ⟨b, off, rfl, Nat.lt_of_lt_of_le hb hg.size, fun k q hq => aat_keep (hc k q hq) fun x => hg.cell_far ⟨b, x, none⟩ hb (hne hn b rfl)⟩⟩
end
theorem ar_single {w : World} {b : Nat} {t : TypeId} {p : Arr} (h : Blk w b t #[.int .i64 p.t, .int .i64 p.z]) : AR w (some ⟨b, 0, none⟩) 1 [p] :=
  ⟨rfl, fun _ => ⟨b, 0, rfl, blk_lt h, fun k q hk => by
    have hk0 : k = 0 := by
      rcases Nat.eq_zero_or_pos k with e | e
      · exact e
      · rw [List.getElem?_eq_none (by simp; omega)] at hk; cases hk
    subst hk0
    obtain rfl : p = q := by simpa using hk
    exact ⟨blk_cell h 0, blk_cell h 1⟩⟩⟩
theorem infoArr : (Try.prog.info? 33).map (fun i => (i.zero, i.size, i.bytes)) = some (some (.agg #[.int .i64 0, .int .i64 0]), 2, 16) := by kernel_rfl
theorem own_emptyA {W : World} {b : Nat} (hb : b = W.heap.size) : (W.alloc (.cells #[] 33)).ownsRow W.heap.size 33 2 (.slice (some ⟨b, 0, none⟩) 0 0) 0 (acells []) := by
  subst hb
  exact ⟨rfl, .inr ⟨W.heap.size, 0, #[], rfl, Nat.le_refl _, blk_new W _ _, Nat.le_refl _, by unfold maxLen; omega, rfl, rfl⟩⟩
theorem own_set_arr {w : World} {base b n c : Nat} {e : TypeId} {ps : List Arr} (h : w.ownsRow base e 2 (.slice (some ⟨b, 0, none⟩) n c) n (acells ps)) (k : Nat) (p : Arr) :
    ((w.setCell ⟨b, k * 2, none⟩ (.int .i64 p.t)).setCell ⟨b, k * 2 + 1, none⟩ (.int .i64 p.z)).ownsRow base e 2 (.slice (some ⟨b, 0, none⟩) n c) n (acells (ps.set k p)) := by
  have h1 := (h.stored (k * 2) (.int .i64 p.t)).1
  have h2 := (h1.stored (k * 2 + 1) (.int .i64 p.z)).1
  rw [acells_set] at h2
  exact h2
theorem own_set_arrT {w : World} {base b n c : Nat} {e : TypeId} {ps : List Arr} (h : w.ownsRow base e 2 (.slice (some ⟨b, 0, none⟩) n c) n (acells ps)) (k : Nat) (p : Arr) (hk : ps[k]? = some p) (x : Int) :
    (w.setCell ⟨b, k * 2, none⟩ (.int .i64 x)).ownsRow base e 2 (.slice (some ⟨b, 0, none⟩) n c) n (acells (ps.set k ⟨x, p.z⟩)) := by
  have h1 := (h.stored (k * 2) (.int .i64 x)).1
  rw [acells_setT ps k p x hk] at h1
  exact h1
theorem own_set_arrZ {w : World} {base b n c : Nat} {e : TypeId} {ps : List Arr} (h : w.ownsRow base e 2 (.slice (some ⟨b, 0, none⟩) n c) n (acells ps)) (k : Nat) (p : Arr) (hk : ps[k]? = some p) (x : Int) :
    (w.setCell ⟨b, k * 2 + 1, none⟩ (.int .i64 x)).ownsRow base e 2 (.slice (some ⟨b, 0, none⟩) n c) n (acells (ps.set k ⟨p.t, x⟩)) := by
  have h1 := (h.stored (k * 2 + 1) (.int .i64 x)).1
  rw [acells_setZ ps k p x hk] at h1
  exact h1
theorem run_app_arrs (w : World) (ty : TypeId) (base : Nat) (v : Value) (n : Nat) (ps : List Arr) (hown : w.ownsRow base 33 2 v n (acells ps))
    (A : Option Addr) (m c : Nat) (qs : List Arr) (hr : AR w A m qs) (hn : n + m ≤ 4000000000) (hb : base ≤ w.heap.size) :
    ∃ v' w', (Builtin.append_ #[24, 24] ty #[v, .slice A m c]).run Try.prog w = .ok v' w' ∧ w'.ownsRow base 33 2 v' (n + m) (acells (ps ++ qs)) ∧ w.grownBy w' v.ownBlock ∧
      (v'.ownBlock = v.ownBlock ∨ v'.ownBlock = some w.heap.size) := by
  obtain ⟨i0, hi, hz0, hz1, hz2⟩ := info_parts infoArr
  by_cases h0 : A = none
  · subst h0
    have hm : m = 0 := by
      rcases Nat.eq_zero_or_pos m with hm | hm
      · exact hm
      · obtain ⟨b, off, e, _⟩ := hr.2 hm
        cases e
    subst hm
    have hq : qs = [] := List.eq_nil_of_length_eq_zero hr.1
    subst hq
    exact ⟨v, w, run_app_nil (P := Try.prog) w base 24 ty 33 i0 2 Try.underlying24 hi v n _ hown c, by simpa using hown, g_refl _ _, .inl rfl⟩
  · obtain ⟨ad, rfl⟩ : ∃ ad, A = some ad := by
      cases A with
      | none => exact absurd rfl h0
      | some ad => exact ⟨ad, rfl⟩
    obtain ⟨v', w', e1, e2, e3, _, e5⟩ := run_append_own_at (P := Try.prog) w base 24 ty 33 i0 _ 2 16 Try.underlying24 hi hz0 hz1 hz2 rfl (by decide) v n _ hown ad m c (acells qs) (by rw [acells_len, hr.1]) (by
      intro j u hj
      have hjl : j < m * 2 := by
        rcases Nat.lt_or_ge j (acells qs).length with hl | hl
        · rw [acells_len, hr.1] at hl; exact hl
        · rw [List.getElem?_eq_none hl] at hj; cases hj
      obtain ⟨b, off, e, hlt, hc⟩ := hr.2 (by omega)
      obtain rfl : ad = ⟨b, off, none⟩ := by injection e
      have ha : ∀ j, (⟨b, off, none⟩ : Addr).add j = ⟨b, off + j, none⟩ := fun j => by unfold Addr.add; split <;> simp_all
      rw [ha]
      have hk : j / 2 < qs.length := by rw [hr.1]; omega
      have hq := hc (j / 2) _ (List.getElem?_eq_getElem hk)
      have hp := acells_get qs (j / 2) _ (List.getElem?_eq_getElem hk)
      have hcase : j = j / 2 * 2 ∨ j = j / 2 * 2 + 1 := by omega
      generalize j / 2 = k4 at hk hq hp hcase
      obtain ⟨q0, q1⟩ := hq
      obtain ⟨p0, p1⟩ := hp
      rcases hcase with e | e
      · subst e; rw [p0] at hj; have hj := Option.some.inj hj; rw [← hj]; exact q0
      · subst e; rw [p1] at hj; have hj := Option.some.inj hj; rw [← hj, ← Nat.add_assoc]; exact q1) (acells_one qs) (by unfold maxLen; omega) (by omega) hb
    exact ⟨v', w', e1, by rw [acells_append]; exact e2, e3, e5⟩
/-- at the list of a plain region's operations -/
theorem wpl_app_arrs (w : World) {ops : Array Oper} {rest : List Oper} {o : Oper} {a : Act} {Q : Exit → Act → World → Prop} (hgd : o.guard = none) (s x : Operand)
    (ho : o.op = .call { callee := .builtin .append, args := #[s, x], argTypes := #[24, 24] })
    (base : Nat) (v : Value) (n : Nat) (ps : List Arr) (hs : a.eval s = v) (hown : w.ownsRow base 33 2 v n (acells ps))
    (A : Option Addr) (m c : Nat) (qs : List Arr) (hx : a.eval x = .slice A m c) (hr : AR w A m qs) (hn : n + m ≤ 4000000000) (hb : base ≤ w.heap.size)
    (h : ∀ v' w', w'.ownsRow base 33 2 v' (n + m) (acells (ps ++ qs)) → w.grownBy w' v.ownBlock → (v'.ownBlock = v.ownBlock ∨ v'.ownBlock = some w.heap.size) → wpList Try.prog ops Q rest (a.put o.dst v') w') :
    wpList Try.prog ops Q (o :: rest) a w := by
  refine wpList_plain hgd fun K hK => ?_
  obtain ⟨v', w', hr', h2, h3, h4⟩ := run_app_arrs w o.type base v n ps hown A m c qs hr hn hb
  unfold Oper.wp execOp
  simp only [ho, resolve, invoke, builtin, Sem.run_bind, Sem.run_pure, Result.andThen_ok, List.map_toArray, List.map_cons, List.map_nil, hs, hx, hr']
  exact hK _ _ (h v' w' h2 h3 h4)
/-- at a step of a region that draws -/
theorem step_app_arrs (w : World) {ops : Array Oper} {o : Oper} {a : Act} {K : Act → World → Prop} {Q : Exit → Act → World → Prop} {E : Prop} (hgd : o.guard = none) (s x : Operand)
    (ho : o.op = .call { callee := .builtin .append, args := #[s, x], argTypes := #[24, 24] })
    (base : Nat) (v : Value) (n : Nat) (ps : List Arr) (hs : a.eval s = v) (hown : w.ownsRow base 33 2 v n (acells ps))
    (A : Option Addr) (m c : Nat) (qs : List Arr) (hx : a.eval x = .slice A m c) (hr : AR w A m qs) (hn : n + m ≤ 4000000000) (hb : base ≤ w.heap.size)
    (h : ∀ v' w', w'.ownsRow base 33 2 v' (n + m) (acells (ps ++ qs)) → w.grownBy w' v.ownBlock → (v'.ownBlock = v.ownBlock ∨ v'.ownBlock = some w.heap.size) → K (a.put o.dst v') w') :
    if Region.wanted o (yielded ops a.tmps) = true then Oper.wp Try.prog o a w K Q else E := by
  have hw : Region.wanted o (yielded ops a.tmps) = true := by simp [Region.wanted, hgd]
  rw [if_pos hw]
  obtain ⟨v', w', hr', h2, h3, h4⟩ := run_app_arrs w o.type base v n ps hown A m c qs hr hn hb
  unfold Oper.wp execOp
  simp only [ho, resolve, invoke, builtin, Sem.run_bind, Sem.run_pure, Result.andThen_ok, List.map_toArray, List.map_cons, List.map_nil, hs, hx, hr']
  exact h v' w' h2 h3 h4
/-- an append of one arrival that was just laid -/
theorem wp_app_arr (w : World) {ops : Array Oper} {rest : List Oper} {o : Oper} {a : Act} {Q : Exit → Act → World → Prop} (hgd : o.guard = none) (s x : Operand)
    (ho : o.op = .call { callee := .builtin .append, args := #[s, x], argTypes := #[24, 24] })
    (base : Nat) (v : Value) (n : Nat) (ps : List Arr) (p : Arr) (hs : a.eval s = v) (hown : w.ownsRow base 33 2 v n (acells ps))
    (bl : Nat) (hbl : bl = w.heap.size) (hx : a.eval x = .slice (some ⟨bl, 0, none⟩) 1 1) (hn : n ≤ 2000000000) (hb : base ≤ w.heap.size)
    (h : ∀ v' w', w'.ownsRow base 33 2 v' (n + 1) (acells (ps ++ [p])) → (w.alloc (.cells #[.int .i64 p.t, .int .i64 p.z] 33)).grownBy w' v.ownBlock → wpList Try.prog ops Q rest (a.put o.dst v') w') :
    wpList Try.prog ops Q (o :: rest) a (w.alloc (.cells #[.int .i64 p.t, .int .i64 p.z] 33)) := by
  subst hbl
  exact wpl_app_arrs _ hgd s x ho base v n ps hs (hown.alloc _) _ 1 1 [p] hx (ar_single (blk_new w _ _)) (by omega) (by simp; omega) fun v' w' h1 h2 _ => h v' w' h1 h2
/-- what a call hands back that made a row of its own -/
def OwnA (w : World) (n : Nat) (ps : List Arr) (v : Value) (w' : World) : Prop :=
  ∃ A c, v = .slice A n c ∧ w'.ownsRow w.heap.size 33 2 (.slice A n c) n (acells ps) ∧ Below w.heap.size w w'
theorem app_belowA {w w1 w2 : World} {v : Value} {n : Nat} {xs : List Value} {e : TypeId} (ho : w1.ownsRow w.heap.size e 2 v n xs) (hb : Below w.heap.size w w1) (hg : w1.grownBy w2 v.ownBlock) (hs : w.heap.size ≤ w1.heap.size) : Below w.heap.size w w2 := app_belowG ho hb hg hs
end Go.Proofs.Ytaccbmgbkalknab
