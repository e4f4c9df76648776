/-
  A slice of packets that comes in as an argument, as the walks know it. Conditions: none.
-/
import Derived.Test.YtaccbmgbkalknabDoorBase
import Derived.Deep.Slices
import Derived.Deep.Fields
import Derived.ChangeSame
import Derived.Lib.SmallJoins
namespace Go.Proofs.YtaccbmgbkalknabDoor
open Go.ChangeShapes Go.WideShapes Go.ChangeAt Go.RowKit Go.Deep

theorem list_of {P : Nat → Pkt → Prop} {n : Nat} (h : ∀ i, i < n → ∃ q, P i q) : ∃ ps : List Pkt, ps.length = n ∧ ∀ k p, ps[k]? = some p → P k p := by
  induction n with
  | zero => exact ⟨[], rfl, fun k p hp => by simp at hp⟩
  | succ n ih =>
    obtain ⟨ps, hl, hp⟩ := ih fun i hi => h i (by omega)
    obtain ⟨q, hq⟩ := h n (by omega)
    refine ⟨ps ++ [q], by simp [hl], fun k p hk => ?_⟩
    rcases Nat.lt_or_ge k n with hlt | hge
    · rw [List.getElem?_append_left (by omega)] at hk
      exact hp k p hk
    · rw [List.getElem?_append_right (by omega)] at hk
      have : k - ps.length = 0 := by
        rcases Nat.eq_zero_or_pos (k - ps.length) with h0 | h0
        · exact h0
        · rw [List.getElem?_eq_none (by simp; omega)] at hk; cases hk
      rw [this] at hk
      obtain rfl : q = p := by simpa using hk
      obtain rfl : k = n := by omega
      exact hq
theorem pkts_open {H : Type} {enc : TypeId × Value → H} {W : World} {base : Nat} {sp : Nat → Bool} {hd : Bool} {a : Option Addr} {n c : Nat} {d : DataW H} {p : List MemPlace}
    (h : DataW.Trod enc Tryd.prog W base sp hd 31 (.slice a n c) d p) : ∃ ps, PR W a n ps ∧ n ≤ 9223372036854775807 := by
  obtain ⟨fuel, hf⟩ := h
  rcases open_slice Tryd.underlying31 hf with ⟨hcs, _⟩ | ⟨x, len, cap, m, nf, D, Pl, hcs, hb, hl, hm, hmm, hx, hi⟩
  · simp [Value.cells] at hcs
    obtain ⟨rfl, rfl, rfl⟩ := hcs
    exact ⟨[], pr_nil _ _, by omega⟩
  · simp [Value.cells] at hcs
    obtain ⟨rfl, rfl, rfl⟩ := hcs
    have hn : n ≤ m := by rw [hmm]; split <;> omega
    have hC : Tryd.prog.cellsOf 50 = 4 := by kernel_rfl
    have hI : Tryd.prog.cellsOf 3 = 1 := by kernel_rfl
    rw [hC] at hi
    have hone : ∀ i, i < n → ∃ q : Pkt, W.cell? ((x.add (i * 4)).add 0) = some (.int .i64 q.peer) ∧ W.cell? ((x.add (i * 4)).add 1) = some (.int .i64 q.lane) ∧ W.cell? ((x.add (i * 4)).add 2) = some (.int .i64 q.size) ∧ W.cell? ((x.add (i * 4)).add 3) = some (.int .i64 q.id) := by
      intro i him
      obtain ⟨cs', hc, ht⟩ := hi i (by omega)
      obtain ⟨_, hcl, hat⟩ := World.cells?_some hc
      obtain ⟨y0, y1, y2, y3, nn, _, _, t0, t1, t2, t3⟩ := Go.Joins.trod_struct4 Tryd.underlying50 ht
      obtain ⟨q0, e0, _, _⟩ := DataW.trod_int Tryd.underlying3 t0
      obtain ⟨q1, e1, _, _⟩ := DataW.trod_int Tryd.underlying3 t1
      obtain ⟨q2, e2, _, _⟩ := DataW.trod_int Tryd.underlying3 t2
      obtain ⟨q3, e3, _, _⟩ := DataW.trod_int Tryd.underlying3 t3
      have g : ∀ (j : Nat) (v : Value), j < 4 → (cs'.drop j).take (Tryd.prog.cellsOf 3) = [v] → cs'[j]? = some v := by
        intro j v hj h
        rw [hI] at h
        have := congrArg (fun l : List Value => l[0]?) h
        simpa using this
      refine ⟨⟨q0, q1, q2, q3⟩, ?_, ?_, ?_, ?_⟩
      · rw [hat (i := 0) (by omega)]; exact g 0 _ (by omega) e0
      · rw [hat (i := 1) (by omega)]; exact g 1 _ (by omega) e1
      · rw [hat (i := 2) (by omega)]; exact g 2 _ (by omega) e2
      · rw [hat (i := 3) (by omega)]; exact g 3 _ (by omega) e3
    obtain ⟨ps, hl1, hps⟩ := list_of hone
    refine ⟨ps, ⟨hl1, fun hn0 => ?_⟩, by unfold maxLen at hm; omega⟩
    obtain ⟨b, off, spot⟩ := x
    obtain ⟨q, hq, _⟩ := hone 0 hn0
    have hspot : spot = none := by simpa [Addr.add] using World.cell?_spot hq
    subst hspot
    have ha : ∀ i j, ((⟨b, off, none⟩ : Addr).add i).add j = ⟨b, off + i + j, none⟩ := fun i j => by unfold Addr.add; split <;> split <;> simp_all
    refine ⟨b, off, rfl, World.block_lt_of_cell? W (a := ⟨b, off + 0 * 4 + 0, none⟩) (by rw [← ha]; exact hq), fun k p hp => ?_⟩
    obtain ⟨h0, h1, h2, h3⟩ := hps k p hp
    rw [ha] at h0 h1 h2 h3
    exact ⟨h0, h1, h2, h3⟩
/-- the same, for a field's one cell -/
theorem pkts_open1 {H : Type} {enc : TypeId × Value → H} {W : World} {base : Nat} {sp : Nat → Bool} {hd : Bool} {fuel : Nat} {v : Value} {y : DataW H × List MemPlace}
    (h : DataW.trod enc Tryd.prog W base sp hd fuel 31 [v] = some y) : ∃ a n c ps, v = .slice a n c ∧ PR W a n ps ∧ n ≤ 9223372036854775807 := by
  have h2 := h
  rcases open_slice Tryd.underlying31 h with ⟨hcs, _⟩ | ⟨x, len, cap, m, nf, D, Pl, hcs, _⟩
  · simp at hcs
    subst hcs
    obtain ⟨ps, h1, h3⟩ := pkts_open (a := none) (n := 0) (c := 0) (d := y.1) (p := y.2) ⟨fuel, h2⟩
    exact ⟨none, 0, 0, ps, rfl, h1, h3⟩
  · simp at hcs
    subst hcs
    obtain ⟨ps, h1, h3⟩ := pkts_open (a := some x) (n := len) (c := cap) (d := y.1) (p := y.2) ⟨fuel, h2⟩
    exact ⟨some x, len, cap, ps, rfl, h1, h3⟩
end Go.Proofs.YtaccbmgbkalknabDoor
