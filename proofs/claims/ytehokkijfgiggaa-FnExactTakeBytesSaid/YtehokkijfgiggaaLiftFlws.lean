/-
  A slice of flows that comes in as an argument, as the walks know it. Conditions: none.
-/
import Derived.Test.YtehokkijfgiggaaLiftPkts
import Derived.Test.YtehokkijfgiggaaFEx
namespace Go.Proofs.Ytehokkijfgiggaa
open Go.ChangeShapes Go.WideShapes Go.ChangeAt Go.RowKit Go.Deep

theorem list_ofF {α : Type} {P : Nat → α → Prop} {n : Nat} (h : ∀ i, i < n → ∃ q, P i q) : ∃ ps : List α, ps.length = n ∧ ∀ k p, ps[k]? = some p → P k p := by
  induction n with
  | zero => exact ⟨[], rfl, fun k p hp => by simp at hp⟩
  | succ n ih =>
    obtain ⟨ps, hl, hp⟩ := ih fun i hi => h i (by omega)
    obtain ⟨q, hq⟩ := h n (by omega)
    refine ⟨ps ++ [q], by simp [hl], fun k p hk => ?_⟩
    rcases Nat.lt_or_ge k n with hlt | hge
    · rw [List.getElem?_append_left (by omega)] at hk
      exact hp k p hk
    · rw [List.getElem?_append_right (by omega)] at hk
      have : k - ps.length = 0 := by
        rcases Nat.eq_zero_or_pos (k - ps.length) with h0 | h0
        · exact h0
        · rw [List.getElem?_eq_none (by simp; omega)] at hk; cases hk
      rw [this] at hk
      obtain rfl : q = p := by simpa using hk
      obtain rfl : k = n := by omega
      exact hq
theorem third3 {α : Type} {cs : List α} (h : cs.length = 3) : ∃ v, (cs.drop 2).take 1 = [v] := by
  match cs, h with
  | [u0, u1, u2], _ => exact ⟨u2, rfl⟩
/-- one element: its header and its packets -/
structure OneF (W : World) (x : Addr) (i : Nat) (e : Fh × List Pkt) : Prop where
  c0 : W.cell? ((x.add (i * 3)).add 0) = some (.int .i64 e.1.peer)
  c1 : W.cell? ((x.add (i * 3)).add 1) = some (.int .i64 e.1.dfc)
  c2 : W.cell? ((x.add (i * 3)).add 2) = some (.slice e.1.A e.1.n e.1.c)
  pr : PR W e.1.A e.1.n e.2
  n0 : e.1.n ≤ 9223372036854775807
theorem flws_open {H : Type} {enc : TypeId × Value → H} {W : World} {base : Nat} {sp : Nat → Bool} {hd : Bool} {a : Option Addr} {n c : Nat} {d : DataW H} {p : List MemPlace}
    (h : DataW.Trod enc Try.prog W base sp hd 49 (.slice a n c) d p) : ∃ fs, FA W a n fs ∧ n ≤ 9223372036854775807 := by
  obtain ⟨fuel, hf⟩ := h
  rcases open_slice Try.underlying49 hf with ⟨hcs, _⟩ | ⟨x, len, cap, m, nf, D, Pl, hcs, hb, hl, hm, hmm, hx, hi⟩
  · simp [Value.cells] at hcs
    obtain ⟨rfl, rfl, rfl⟩ := hcs
    exact ⟨[], ⟨[], hr_nil _ _, rfl, fun k h f e => by simp at e⟩, by omega⟩
  · simp [Value.cells] at hcs
    obtain ⟨rfl, rfl, rfl⟩ := hcs
    have hn : n ≤ m := by rw [hmm]; split <;> omega
    have hC : Try.prog.cellsOf 98 = 3 := by kernel_rfl
    have hI : Try.prog.cellsOf 3 = 1 := by kernel_rfl
    have hS : Try.prog.cellsOf 96 = 1 := by kernel_rfl
    rw [hC] at hi
    have hone : ∀ i, i < n → ∃ q : Fh × List Pkt, OneF W x i q := by
      intro i him
      obtain ⟨cs', hc, ht⟩ := hi i (by omega)
      obtain ⟨_, hcl, hat⟩ := World.cells?_some hc
      obtain ⟨y0, y1, y2, nn, _, _, t0, t1, t2⟩ := trod_struct3 Try.underlying98 ht
      obtain ⟨q0, e0, _, _⟩ := DataW.trod_int Try.underlying3 t0
      obtain ⟨q1, e1, _, _⟩ := DataW.trod_int Try.underlying3 t1
      have g : ∀ (j : Nat) (v : Value), j < 3 → (cs'.drop j).take 1 = [v] → cs'[j]? = some v := by
        intro j v hj h
        have := congrArg (fun l : List Value => l[0]?) h
        simpa using this
      have e2 := third3 hcl
      obtain ⟨v2, e2⟩ := e2
      have t2' := t2
      simp only [hI, hS] at t2' e0 e1
      rw [e2] at t2'
      obtain ⟨a2, n2, c2, ps, rfl, hp2, hn2⟩ := pkts_open1 t2'
      refine ⟨(⟨q0, q1, a2, n2, c2⟩, ps), ?_, ?_, ?_, hp2, hn2⟩
      · rw [hat (i := 0) (by omega)]; exact g 0 _ (by omega) e0
      · rw [hat (i := 1) (by omega)]; exact g 1 _ (by omega) e1
      · rw [hat (i := 2) (by omega)]; exact g 2 _ (by omega) e2
    obtain ⟨es, hl1, hes⟩ := list_ofF hone
    refine ⟨es.map fun e => ⟨e.1.peer, e.1.dfc, e.2⟩, ⟨es.map Prod.fst, ⟨by rw [List.length_map, hl1], fun hn0 => ?_⟩, by rw [List.length_map, List.length_map], fun k h f e1 e2 => ?_⟩, by unfold maxLen at hm; omega⟩
    · obtain ⟨b, off, spot⟩ := x
      obtain ⟨q, hq⟩ := hone 0 hn0
      have hspot : spot = none := by simpa [Addr.add] using World.cell?_spot hq.c0
      subst hspot
      have ha : ∀ i j, ((⟨b, off, none⟩ : Addr).add i).add j = ⟨b, off + i + j, none⟩ := fun i j => by unfold Addr.add; split <;> split <;> simp_all
      refine ⟨b, off, rfl, World.block_lt_of_cell? W (a := ⟨b, off + 0 * 3 + 0, none⟩) (by rw [← ha]; exact hq.c0), fun k p hp => ?_⟩
      rw [List.getElem?_map] at hp
      rcases he : es[k]? with _ | e
      · rw [he] at hp; cases hp
      · rw [he] at hp
        obtain rfl := Option.some.inj hp
        have h1 := hes k e he
        have g0 := h1.c0
        have g1 := h1.c1
        have g2 := h1.c2
        rw [ha] at g0 g1 g2
        exact ⟨g0, g1, g2⟩
    · rw [List.getElem?_map] at e1 e2
      rcases he : es[k]? with _ | e
      · rw [he] at e1; cases e1
      · rw [he] at e1 e2
        obtain rfl := Option.some.inj e1
        obtain rfl := Option.some.inj e2
        have h1 := hes k e he
        exact ⟨rfl, rfl, h1.pr, h1.n0⟩
/-- the same, for a field's one cell -/
theorem flws_open1 {H : Type} {enc : TypeId × Value → H} {W : World} {base : Nat} {sp : Nat → Bool} {hd : Bool} {fuel : Nat} {v : Value} {y : DataW H × List MemPlace}
    (h : DataW.trod enc Try.prog W base sp hd fuel 49 [v] = some y) : ∃ a n c fs, v = .slice a n c ∧ FA W a n fs ∧ n ≤ 9223372036854775807 := by
  have h2 := h
  rcases open_slice Try.underlying49 h with ⟨hcs, _⟩ | ⟨x, len, cap, m, nf, D, Pl, hcs, _⟩
  · simp at hcs
    subst hcs
    obtain ⟨ps, h1, h3⟩ := flws_open (a := none) (n := 0) (c := 0) (d := y.1) (p := y.2) ⟨fuel, h2⟩
    exact ⟨none, 0, 0, ps, rfl, h1, h3⟩
  · simp at hcs
    subst hcs
    obtain ⟨ps, h1, h3⟩ := flws_open (a := some x) (n := len) (c := cap) (d := y.1) (p := y.2) ⟨fuel, h2⟩
    exact ⟨some x, len, cap, ps, rfl, h1, h3⟩
end Go.Proofs.Ytehokkijfgiggaa
