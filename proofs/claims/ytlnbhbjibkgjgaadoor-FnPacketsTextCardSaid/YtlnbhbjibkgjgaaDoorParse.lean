/-
  What a packet's text is, on lists of bytes: plain mathematics. Conditions: every lemma says what it asks.
-/
import Derived.Test.YtlnbhbjibkgjgaaDoorNum
import Derived.Test.YtlnbhbjibkgjgaaDoorCut
import Derived.Test.YtlnbhbjibkgjgaaDoorText
namespace Go.Proofs.YtlnbhbjibkgjgaaDoor
open Go.RowKit

theorem fold_ge_pow (l : List UInt8) (a : Nat) (h : 1 ≤ a) : 10 ^ l.length ≤ l.foldl (fun n c => n * 10 + (c.toNat - 48)) a := by
  induction l generalizing a with
  | nil => simpa using h
  | cons c r ih =>
    rw [List.foldl_cons, List.length_cons]
    have h1 : 10 * a ≤ a * 10 + (c.toNat - 48) := by omega
    have h2 := ih 1 (Nat.le_refl _)
    have mono : ∀ (l : List UInt8) (x y k : Nat), k * x ≤ y → k * l.foldl (fun n c => n * 10 + (c.toNat - 48)) x ≤ l.foldl (fun n c => n * 10 + (c.toNat - 48)) y + k * l.foldl (fun n c => n * 10 + (c.toNat - 48)) x := fun _ _ _ _ _ => Nat.le_add_left _ _
    have key : ∀ (r : List UInt8) (b : Nat), b * 10 ^ r.length ≤ r.foldl (fun n c => n * 10 + (c.toNat - 48)) b := by
      intro r
      induction r with
      | nil => intro b; simp
      | cons d r ih2 =>
        intro b
        rw [List.foldl_cons, List.length_cons, Nat.pow_succ]
        refine Nat.le_trans ?_ (ih2 (b * 10 + (d.toNat - 48)))
        rw [Nat.mul_comm (10 ^ r.length) 10, ← Nat.mul_assoc]
        exact Nat.mul_le_mul_right _ (by omega)
    have := key r (a * 10 + (c.toNat - 48))
    refine Nat.le_trans ?_ this
    rw [Nat.pow_succ, Nat.mul_comm]
    exact Nat.mul_le_mul_right _ (by omega)
/-- digits, the first of which is no nought, or one digit -/
def Canon (l : List UInt8) : Prop := 0 < l.length ∧ l.all dig = true ∧ (l.head? = some 48 → l.length = 1)
theorem canon_of {l : List UInt8} (h : numOk l = true) : Canon l := by
  rw [numOk, Bool.and_eq_true, decide_eq_true_eq] at h
  refine ⟨h.1.1, h.2, fun hh => ?_⟩
  have := h.1.2.2
  have h1 := h.1.1
  rcases Nat.lt_or_ge 1 l.length with hl | hl
  · exact absurd ⟨hh, hl⟩ this
  · omega
theorem head_pos {c : UInt8} {r : List UInt8} (h : Canon (c :: r)) (hr : r ≠ []) : 1 ≤ c.toNat - 48 := by
  have hd := h.2.1
  rw [List.all_cons, Bool.and_eq_true] at hd
  have h1 : 48 ≤ c.toNat := by have := hd.1; simp only [dig, decide_eq_true_eq] at this; omega
  have h2 : ¬ c.toNat = 48 := by
    intro e
    have hc : c = 48 := UInt8.toNat_inj.1 (by rw [e]; rfl)
    have := h.2.2 (by rw [hc]; rfl)
    simp at this
    exact hr (by simpa using this)
  omega
theorem val_low {l : List UInt8} (h : Canon l) (h2 : 1 < l.length) : 10 ^ (l.length - 1) ≤ valL l := by
  rcases l with _ | ⟨c, r⟩
  · simp at h2
  · have hr : r ≠ [] := by rintro rfl; simp at h2
    have := fold_ge_pow r (0 * 10 + (c.toNat - 48)) (by have := head_pos h hr; omega)
    simpa [valL] using this
theorem canon_len {l : List UInt8} (h : Canon l) (hv : valL l ≤ 1000000) : l.length ≤ 8 := by
  rcases Nat.lt_or_ge 8 l.length with hl | hl
  · have h1 := val_low h (by omega)
    have h2 : 10 ^ 8 ≤ 10 ^ (l.length - 1) := Nat.pow_le_pow_right (by omega) (by omega)
    have h3 : (10 : Nat) ^ 8 = 100000000 := rfl
    omega
  · exact hl
theorem dec_val : ∀ (f : Nat) (l : List UInt8), Canon l → l.length ≤ f → decF f (valL l) = l := by
  intro f
  induction f with
  | zero => intro l h hl; have := h.1; omega
  | succ f ih =>
    intro l h hl
    obtain ⟨r, c, rfl⟩ : ∃ r c, l = r ++ [c] := by
      have hne : l ≠ [] := by rintro rfl; have := h.1; simp at this
      exact ⟨l.dropLast, l.getLast hne, (List.dropLast_concat_getLast hne).symm⟩
    have hd := h.2.1
    rw [List.all_append, Bool.and_eq_true] at hd
    have hc : 48 ≤ c.toNat ∧ c.toNat ≤ 57 := by have := hd.2; simpa [dig] using this
    have hb : 48 + UInt8.ofNat (c.toNat - 48) = c := by
      apply UInt8.toNat_inj.1
      rw [UInt8.toNat_add, UInt8.toNat_ofNat']
      show (48 + (c.toNat - 48) % 2 ^ 8) % 2 ^ 8 = c.toNat
      omega
    rw [valL_snoc]
    rcases r with _ | ⟨x, r⟩
    · have e : valL [] * 10 + (c.toNat - 48) = c.toNat - 48 := by simp [valL]
      rw [e, decF_last (by omega), hb]; rfl
    · have hx := head_pos h (by simp)
      have hcr : Canon (x :: r) := ⟨by simp, hd.1, fun hh => by
        have := h.2.2 (by simpa using hh)
        simp at this⟩
      have hv : 1 ≤ valL (x :: r) := by
        have := fold_ge r (0 * 10 + (x.toNat - 48))
        have e : valL (x :: r) = r.foldl (fun n c => n * 10 + (c.toNat - 48)) (0 * 10 + (x.toNat - 48)) := rfl
        omega
      rw [decF, if_neg (by omega), show (valL (x :: r) * 10 + (c.toNat - 48)) / 10 = valL (x :: r) from by omega, show (valL (x :: r) * 10 + (c.toNat - 48)) % 10 = c.toNat - 48 from by omega, ih (x :: r) hcr (by simp at hl ⊢; omega), hb]

/-! cuts as functions -/
open Classical in
noncomputable def cutF (s : ByteArray) (c : UInt8) : ByteArray × ByteArray × Bool :=
  if h : ∃ i, First s c i then (s.extract 0 h.choose, s.extract (h.choose + 1) s.size, true) else (s, ⟨#[]⟩, false)
theorem cutF_yes {s : ByteArray} {c : UInt8} {i : Nat} (h : First s c i) : cutF s c = (s.extract 0 i, s.extract (i + 1) s.size, true) := by
  have hx : ∃ i, First s c i := ⟨i, h⟩
  have e : hx.choose = i := first_uniq hx.choose_spec h
  rw [cutF, dif_pos hx, e]
theorem cutF_no {s : ByteArray} {c : UInt8} (h : Never s c) : cutF s c = (s, ⟨#[]⟩, false) := by
  rw [cutF, dif_neg (fun ⟨i, hi⟩ => h i hi.1)]
theorem cut_cases (s : ByteArray) (c : UInt8) : (∃ i, First s c i) ∨ Never s c := by
  rcases index_first s c with ⟨_, h⟩ | ⟨i, _, h⟩
  · exact .inr h
  · exact .inl ⟨i, h⟩
theorem ext_data (s : ByteArray) (a b : Nat) : (s.extract a b).data.toList = (s.data.toList.take b).drop a := by
  simp [ByteArray.data_extract, List.drop_take]
theorem cut_split {s : ByteArray} {c : UInt8} (h : (cutF s c).2.2 = true) : s.data.toList = (cutF s c).1.data.toList ++ c :: (cutF s c).2.1.data.toList := by
  rcases cut_cases s c with ⟨i, hi⟩ | hn
  · rw [cutF_yes hi]
    have hl := first_lt hi
    have hl' : i < s.data.toList.length := by rw [len_bytes]; exact hl
    have e : s.data.toList[i] = c := by have := hi.1; rw [List.getElem?_eq_getElem hl'] at this; injection this
    simp only [ext_data, List.drop_zero]
    have ht : s.data.toList.take s.size = s.data.toList := List.take_of_length_le (by rw [len_bytes]; exact Nat.le_refl _)
    rw [ht, ← e, ← List.drop_eq_getElem_cons hl', List.take_append_drop]
  · rw [cutF_no hn] at h; cases h
theorem cut_empty (c : UInt8) : cutF ⟨#[]⟩ c = (⟨#[]⟩, ⟨#[]⟩, false) := cutF_no fun j => by simp

structure Parts where
  a : ByteArray
  b : ByteArray
  c : ByteArray
  d : ByteArray
noncomputable def partsOf (s : ByteArray) : Parts :=
  ⟨(cutF s 47).1, (cutF (cutF s 47).2.1 58).1, (cutF (cutF (cutF s 47).2.1 58).2.1 35).1, (cutF (cutF (cutF s 47).2.1 58).2.1 35).2.1⟩
noncomputable def pktOf (s : ByteArray) : Pkt :=
  ⟨numV (partsOf s).a.data.toList, numV (partsOf s).b.data.toList, numV (partsOf s).c.data.toList, numV (partsOf s).d.data.toList⟩
noncomputable def okT (s : ByteArray) : Bool :=
  numOk (partsOf s).a.data.toList && numOk (partsOf s).b.data.toList && numOk (partsOf s).c.data.toList && numOk (partsOf s).d.data.toList && vldB (pktOf s)
theorem num_nil : numOk (ByteArray.mk #[]).data.toList = false := rfl
theorem ok_found {s : ByteArray} (h : okT s = true) : (cutF s 47).2.2 = true ∧ (cutF (cutF s 47).2.1 58).2.2 = true ∧ (cutF (cutF (cutF s 47).2.1 58).2.1 35).2.2 = true := by
  simp only [okT, Bool.and_eq_true] at h
  obtain ⟨⟨⟨⟨ha, hb⟩, hc⟩, hd⟩, hv⟩ := h
  refine ⟨?_, ?_, ?_⟩
  · rcases cut_cases s 47 with ⟨i, hi⟩ | hn
    · rw [cutF_yes hi]
    · exfalso
      have e : (partsOf s).b = ⟨#[]⟩ := by simp only [partsOf, cutF_no hn, cut_empty]
      rw [e, num_nil] at hb; cases hb
  · rcases cut_cases (cutF s 47).2.1 58 with ⟨i, hi⟩ | hn
    · rw [cutF_yes hi]
    · exfalso
      have e : (partsOf s).c = ⟨#[]⟩ := by simp only [partsOf, cutF_no hn, cut_empty]
      rw [e, num_nil] at hc; cases hc
  · rcases cut_cases (cutF (cutF s 47).2.1 58).2.1 35 with ⟨i, hi⟩ | hn
    · rw [cutF_yes hi]
    · exfalso
      have e : (partsOf s).d = ⟨#[]⟩ := by simp only [partsOf, cutF_no hn]
      rw [e, num_nil] at hd; cases hd
theorem dec_of {l : List UInt8} (h : numOk l = true) (hv : numV l ≤ 9999) : decF 8 (valL l) = l := by
  have hc := canon_of h
  rw [numV_yes h] at hv
  exact dec_val 8 l hc (canon_len hc (by omega))
theorem text_of {s : ByteArray} (h : okT s = true) :
    textL (valL (partsOf s).a.data.toList) (valL (partsOf s).b.data.toList) (valL (partsOf s).c.data.toList) (valL (partsOf s).d.data.toList) = s.data.toList := by
  obtain ⟨f1, f2, f3⟩ := ok_found h
  simp only [okT, Bool.and_eq_true] at h
  obtain ⟨⟨⟨⟨ha, hb⟩, hc⟩, hd⟩, hv⟩ := h
  have hv' : 0 ≤ (pktOf s).peer ∧ (pktOf s).peer ≤ 7 ∧ 0 ≤ (pktOf s).lane ∧ (pktOf s).lane ≤ 3 ∧ 1 ≤ (pktOf s).size ∧ (pktOf s).size ≤ 100 ∧ 0 ≤ (pktOf s).id ∧ (pktOf s).id ≤ 9999 := by
    simpa only [vldB, decide_eq_true_eq] using hv
  obtain ⟨_, v1, _, v2, _, v3, _, v4⟩ := hv'
  rw [textL, dec_of ha (by show (pktOf s).peer ≤ 9999; omega), dec_of hb (by show (pktOf s).lane ≤ 9999; omega), dec_of hc (by show (pktOf s).size ≤ 9999; omega), dec_of hd v4]
  rw [cut_split f1, cut_split f2, cut_split f3]
  rfl
end Go.Proofs.YtlnbhbjibkgjgaaDoor
