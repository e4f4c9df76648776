/-
  A text's pieces between spaces. Conditions: none; each lemma says what it asks.
-/
import Derived.Test.YtlnbhbjibkgjgaaDoorJoinInj
import Derived.Lib.SplitLaws
import Derived.Lib.IndexBytes
namespace Go.Proofs.YtlnbhbjibkgjgaaDoor
open Go.RowKit

def pcs : List UInt8 → List (List UInt8)
  | [] => [[]]
  | x :: r => if x = 32 then [] :: pcs r else match pcs r with
    | h :: t => (x :: h) :: t
    | [] => [[x]]
theorem pcs_no : ∀ (l : List UInt8), (∀ x ∈ l, x ≠ 32) → pcs l = [l] := by
  intro l
  induction l with
  | nil => intro _; rfl
  | cons x r ih =>
    intro h
    rw [pcs, if_neg (h x (by simp)), ih (fun y hy => h y (by simp [hy]))]
theorem pcs_at : ∀ (l r : List UInt8), (∀ x ∈ l, x ≠ 32) → pcs (l ++ 32 :: r) = l :: pcs r := by
  intro l r
  induction l with
  | nil => intro _; rw [List.nil_append, pcs, if_pos rfl]
  | cons x s ih =>
    intro h
    rw [List.cons_append, pcs, if_neg (h x (by simp)), ih (fun y hy => h y (by simp [hy]))]
theorem pcs_len : ∀ (l : List UInt8), (pcs l).length = l.count 32 + 1 := by
  intro l
  induction l with
  | nil => rfl
  | cons x r ih =>
    rw [pcs]
    by_cases h : x = 32
    · rw [if_pos h, h, List.count_cons_self, List.length_cons, ih]
    · rw [if_neg h, List.count_cons_of_ne (fun e => h (by simpa using e)), ← ih]
      rcases hp : pcs r with _ | ⟨a, t⟩
      · rw [hp] at ih; simp at ih
      · rfl
/-- a text and a first place of a space -/
theorem pcs_cases (l : List UInt8) : (∀ x ∈ l, x ≠ 32) ∨ ∃ a b, l = a ++ 32 :: b ∧ ∀ x ∈ a, x ≠ 32 := by
  induction l with
  | nil => exact .inl (by simp)
  | cons x r ih =>
    by_cases h : x = 32
    · exact .inr ⟨[], r, by rw [h]; rfl, by simp⟩
    · rcases ih with hn | ⟨a, b, e, ha⟩
      · exact .inl (fun y hy => by
          rcases List.mem_cons.1 hy with rfl | hy
          · exact h
          · exact hn y hy)
      · exact .inr ⟨x :: a, b, by rw [e]; rfl, fun y hy => by
          rcases List.mem_cons.1 hy with rfl | hy
          · exact h
          · exact ha y hy⟩
theorem join_cons2 (a b : List UInt8) (t : List (List UInt8)) : Lib.join (a :: b :: t) [32] = a ++ 32 :: Lib.join (b :: t) [32] := by
  simp only [Lib.join_cons, Lib.joinTail, List.map_cons, List.flatten_cons]
  simp
theorem join_pcs : ∀ (n : Nat) (l : List UInt8), l.length ≤ n → Lib.join (pcs l) [32] = l := by
  intro n
  induction n with
  | zero =>
    intro l hl
    have : l = [] := List.eq_nil_of_length_eq_zero (by omega)
    subst this
    exact Lib.join_one _ _
  | succ n ih =>
    intro l hl
    rcases pcs_cases l with h | ⟨a, b, e, ha⟩
    · rw [pcs_no l h, Lib.join_one]
    · subst e
      rw [pcs_at a b ha]
      have hb : b.length ≤ n := by simp at hl; omega
      have := ih b hb
      have hlen := pcs_len b
      rcases hp : pcs b with _ | ⟨x, t⟩
      · rw [hp] at hlen; simp at hlen
      · rw [join_cons2, ← hp, this]
theorem pcs_join : ∀ (ps : List Pkt), ps ≠ [] → allVld ps → pcs (joinT ps) = ps.map textP := by
  intro ps
  induction ps with
  | nil => intro h; exact absurd rfl h
  | cons p r ih =>
    intro _ hv
    have hn := textP_no (hv p (by simp))
    rcases r with _ | ⟨q, r⟩
    · rw [joinT_one, pcs_no _ hn]; rfl
    · rw [joinT_cons, pcs_at _ _ hn, ih (by simp) (fun x hx => hv x (by simp at hx ⊢; exact .inr hx))]; rfl

def pieces (s : ByteArray) : List ByteArray := (pcs s.data.toList).map fun l => ⟨l.toArray⟩
theorem pieces_len (s : ByteArray) : (pieces s).length = s.data.toList.count 32 + 1 := by rw [pieces, List.length_map, pcs_len]
theorem first_split {s : ByteArray} {i : Nat} (h : First s 32 i) : s.data.toList = s.data.toList.take i ++ 32 :: s.data.toList.drop (i + 1) ∧ ∀ x ∈ s.data.toList.take i, x ≠ 32 := by
  have hl : i < s.data.toList.length := by rw [len_bytes]; exact first_lt h
  have e : s.data.toList[i] = 32 := by have := h.1; rw [List.getElem?_eq_getElem hl] at this; exact Option.some.inj this
  refine ⟨?_, fun x hx => ?_⟩
  · rw [← e, ← List.drop_eq_getElem_cons hl, List.take_append_drop]
  · obtain ⟨j, hj, rfl⟩ := List.mem_iff_getElem.1 hx
    rw [List.length_take] at hj
    have hji : j < i := by omega
    have := h.2 j hji
    rw [List.getElem_take]
    intro e2
    exact this (by rw [List.getElem?_eq_getElem (by omega), e2])
theorem never_no {s : ByteArray} (h : Never s 32) : ∀ x ∈ s.data.toList, x ≠ 32 := fun x hx e => by
  obtain ⟨j, hj, rfl⟩ := List.mem_iff_getElem.1 hx
  exact h j (by rw [List.getElem?_eq_getElem hj, e])
theorem split_data : ∀ (k : Nat) (s : ByteArray), Lib.countB s ⟨#[32]⟩ = k → (Lib.splitB ⟨#[32]⟩ 0 k s).map (·.data.toList) = pcs s.data.toList := by
  intro k
  induction k with
  | zero =>
    intro s hk
    have hc : s.data.toList.count 32 = 0 := by rw [← Lib.count_one]; exact hk
    rw [Lib.splitB_zero, pcs_no]
    · rfl
    · intro x hx e
      subst e
      have := List.count_pos_iff.2 hx
      omega
  | succ k ih =>
    intro s hk
    rcases index_first s 32 with ⟨hi, hn⟩ | ⟨i, hi, hf⟩
    · exfalso
      have : s.data.toList.count 32 = k + 1 := by rw [← Lib.count_one]; exact hk
      have h32 : 32 ∈ s.data.toList := List.count_pos_iff.1 (by omega)
      exact never_no hn 32 h32 rfl
    · have hix : Lib.indexB s ⟨#[32]⟩ = (i : Int) := by
        show Lib.index s.data.toList [32] = _
        rw [Lib.index_one]; exact hi
      have hc := Lib.countB_hit s ⟨#[32]⟩ i (by decide) hix
      rw [hk] at hc
      have hs1 : (ByteArray.mk #[32]).size = 1 := rfl
      rw [hs1] at hc
      rw [Lib.splitB_hit _ _ _ _ i hix, List.map_cons, hs1, ih _ (by omega), Lib.extract_to_end, Nat.add_zero, Lib.extract_from_zero]
      obtain ⟨e, hno⟩ := first_split hf
      conv => rhs; rw [e]
      rw [pcs_at _ _ hno]
theorem map_str {xs ys : List ByteArray} (h : xs.map (·.data.toList) = ys.map (·.data.toList)) : xs = ys := by
  induction xs generalizing ys with
  | nil => rcases ys with _ | ⟨y, t⟩
           · rfl
           · simp at h
  | cons x r ih =>
    rcases ys with _ | ⟨y, t⟩
    · simp at h
    · simp only [List.map_cons, List.cons.injEq] at h
      rw [ih h.2, (str_eq h.1).trans (str_eq rfl).symm]
theorem split_pieces (s : ByteArray) : Lib.splitB ⟨#[32]⟩ 0 (Lib.countB s ⟨#[32]⟩) s = pieces s := by
  apply map_str
  rw [split_data _ s rfl, pieces, List.map_map]
  conv => lhs; rw [← List.map_id (pcs s.data.toList)]
  rfl
/-! what a text of packets reads as -/
noncomputable def okPs (s : ByteArray) : Bool := decide (s.size = 0) || (decide ((pieces s).length ≤ 64) && (pieces s).all okT)
noncomputable def pktsOf (s : ByteArray) : List Pkt := if s.size = 0 then [] else (pieces s).map pktOf
theorem okPs_empty {s : ByteArray} (h : s.size = 0) : okPs s = true ∧ pktsOf s = [] := by
  refine ⟨?_, if_pos h⟩
  rw [okPs, decide_eq_true h]; rfl
theorem okPs_yes {s : ByteArray} (h0 : ¬ s.size = 0) (h1 : (pieces s).length ≤ 64) (h2 : (pieces s).all okT = true) : okPs s = true ∧ pktsOf s = (pieces s).map pktOf := by
  refine ⟨?_, if_neg h0⟩
  rw [okPs, decide_eq_true h1, h2, Bool.and_true, Bool.or_true]
theorem okPs_long {s : ByteArray} (h0 : ¬ s.size = 0) (h1 : 64 < (pieces s).length) : okPs s = false := by
  rw [okPs, decide_eq_false h0, decide_eq_false (by omega), Bool.false_and, Bool.or_false]
theorem okPs_bad {s : ByteArray} (h0 : ¬ s.size = 0) {k : Nat} {t : ByteArray} (h1 : (pieces s)[k]? = some t) (h2 : okT t = false) : okPs s = false := by
  have : (pieces s).all okT = false := by
    rw [List.all_eq_false]
    exact ⟨t, List.mem_of_getElem? h1, by rw [h2]; exact Bool.false_ne_true⟩
  rw [okPs, decide_eq_false h0, this, Bool.and_false, Bool.or_false]
theorem okPs_of {s : ByteArray} (h : okPs s = true) (h0 : ¬ s.size = 0) : (pieces s).length ≤ 64 ∧ (pieces s).all okT = true := by
  rw [okPs, decide_eq_false h0, Bool.false_or, Bool.and_eq_true, decide_eq_true_eq] at h
  exact h
theorem okT_vld {t : ByteArray} (h : okT t = true) : vldB (pktOf t) = true := by
  simp only [okT, Bool.and_eq_true] at h
  exact h.2
theorem okT_text {t : ByteArray} (h : okT t = true) : textP (pktOf t) = t.data.toList := by
  obtain ⟨a, b, c, d, e, hv, hs⟩ := text_nat h
  rw [e, hs]
  rfl
theorem pkts_vld {s : ByteArray} (h : okPs s = true) : allVld (pktsOf s) ∧ (pktsOf s).length ≤ 64 := by
  by_cases h0 : s.size = 0
  · rw [(okPs_empty h0).2]
    exact ⟨(fun p hp => by cases hp), by simp⟩
  · obtain ⟨h1, h2⟩ := okPs_of h h0
    rw [(okPs_yes h0 h1 h2).2]
    refine ⟨fun p hp => ?_, by rw [List.length_map]; exact h1⟩
    obtain ⟨t, ht, rfl⟩ := List.mem_map.1 hp
    exact okT_vld (List.all_eq_true.1 h2 t ht)
/-- what reads as packets is the packets' text -/
theorem pkts_text {s : ByteArray} (h : okPs s = true) : strJ (pktsOf s) = s := by
  by_cases h0 : s.size = 0
  · rw [(okPs_empty h0).2]
    have : s.data.toList = [] := List.eq_nil_of_length_eq_zero (by rw [len_bytes]; exact h0)
    exact ((str_eq this).trans (str_eq (s := strJ []) rfl).symm).symm
  · obtain ⟨h1, h2⟩ := okPs_of h h0
    rw [(okPs_yes h0 h1 h2).2]
    refine (str_eq (l := s.data.toList) ?_).trans (str_eq rfl).symm
    show Lib.join (((pieces s).map pktOf).map textP) [32] = _
    have e : ((pieces s).map pktOf).map textP = pcs s.data.toList := by
      rw [List.map_map, pieces, List.map_map]
      conv => rhs; rw [← List.map_id (pcs s.data.toList)]
      apply List.map_congr_left
      intro l hl
      have hm : (⟨l.toArray⟩ : ByteArray) ∈ pieces s := List.mem_map.2 ⟨l, hl, rfl⟩
      exact okT_text (List.all_eq_true.1 h2 _ hm)
    rw [e, join_pcs _ _ (Nat.le_refl _)]
/-- packets are read back -/
theorem pkts_back {ps : List Pkt} (hv : allVld ps) (hl : ps.length ≤ 64) : okPs (strJ ps) = true ∧ pktsOf (strJ ps) = ps := by
  rcases hp : ps with _ | ⟨p, r⟩
  · exact okPs_empty rfl
  · rw [← hp]
    have hne : ps ≠ [] := by rw [hp]; simp
    have e : pieces (strJ ps) = ps.map strP := by
      show (pcs (joinT ps)).map _ = _
      rw [pcs_join ps hne hv, List.map_map]; rfl
    have h0 : ¬ (strJ ps).size = 0 := by
      intro h
      have h2 := join_pcs _ (joinT ps) (Nat.le_refl _)
      have : joinT ps = [] := List.eq_nil_of_length_eq_zero (by have := len_bytes (strJ ps); rw [h] at this; exact this)
      rw [hp] at this
      rcases r with _ | ⟨q, r⟩
      · rw [joinT_one] at this; exact textP_pos p this
      · rw [joinT_cons] at this
        have := congrArg List.length this
        simp at this
    have h2 : (pieces (strJ ps)).all okT = true := by
      rw [e, List.all_eq_true]
      intro t ht
      obtain ⟨q, hq, rfl⟩ := List.mem_map.1 ht
      exact (pkt_of_str (hv q hq)).1
    have := okPs_yes h0 (by rw [e, List.length_map]; exact hl) h2
    refine ⟨this.1, this.2.trans ?_⟩
    rw [e, List.map_map]
    conv => rhs; rw [← List.map_id ps]
    apply List.map_congr_left
    intro q hq
    exact (pkt_of_str (hv q hq)).2
end Go.Proofs.YtlnbhbjibkgjgaaDoor
