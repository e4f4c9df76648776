/-
  A packet's text is read back. Conditions: the packet is valid.
-/
import Derived.Test.YtlnbhbjibkgjgaaDoorParseW
import Derived.Test.YtlnbhbjibkgjgaaDoorFmtS
namespace Go.Proofs.YtlnbhbjibkgjgaaDoor
open Go.RowKit

theorem dg_val : ∀ k : Fin 10, (48 + UInt8.ofNat k.val).toNat = 48 + k.val := by decide
theorem dg {k : Nat} (h : k < 10) : (48 + UInt8.ofNat k).toNat = 48 + k := dg_val ⟨k, h⟩
theorem dec_dig : ∀ (f n : Nat), n < 10 ^ f → (decF f n).all dig = true := by
  intro f
  induction f with
  | zero => intro n _; rfl
  | succ f ih =>
    intro n h
    rw [decF]
    split
    · rename_i hn
      simp only [List.all_cons, List.all_nil, Bool.and_true, dig, decide_eq_true_eq]
      rw [dg hn]; omega
    · have h1 : n / 10 < 10 ^ f := by rw [Nat.pow_succ] at h; omega
      have h2 : n % 10 < 10 := Nat.mod_lt _ (by omega)
      rw [List.all_append, ih _ h1]
      simp only [List.all_cons, List.all_nil, Bool.and_true, Bool.true_and, dig, decide_eq_true_eq]
      rw [dg h2]; omega
theorem dec_back : ∀ (f n : Nat), n < 10 ^ (f + 1) → valL (decF (f + 1) n) = n ∧ 0 < (decF (f + 1) n).length ∧ (1 ≤ n → (decF (f + 1) n).head? ≠ some 48) ∧ (n < 10 → (decF (f + 1) n).length = 1) := by
  intro f
  induction f with
  | zero =>
    intro n h
    have hn : n < 10 := by simpa using h
    rw [decF, if_pos hn]
    refine ⟨?_, by simp, fun h1 hh => ?_, fun _ => rfl⟩
    · show 0 * 10 + ((48 + UInt8.ofNat n).toNat - 48) = n
      rw [dg hn]; omega
    · have e : 48 + UInt8.ofNat n = 48 := by simpa using hh
      have := dg hn
      rw [e] at this
      simp at this
      omega
  | succ f ih =>
    intro n h
    rw [decF]
    split
    · rename_i hn
      refine ⟨?_, by simp, fun h1 hh => ?_, fun _ => rfl⟩
      · show 0 * 10 + ((48 + UInt8.ofNat n).toNat - 48) = n
        rw [dg hn]; omega
      · have e : 48 + UInt8.ofNat n = 48 := by simpa using hh
        have := dg hn
        rw [e] at this
        simp at this
        omega
    · rename_i hn
      have h1 : n / 10 < 10 ^ (f + 1) := by rw [Nat.pow_succ] at h; omega
      have h2 : n % 10 < 10 := Nat.mod_lt _ (by omega)
      obtain ⟨a, b, c, -⟩ := ih (n / 10) h1
      refine ⟨?_, by simp, fun _ => ?_, fun h => absurd h hn⟩
      · rw [valL_snoc, a, dg h2]; omega
      · rw [List.head?_append]
        have c1 := c (by omega)
        rcases hd : (decF (f + 1) (n / 10)).head? with _ | x
        · exfalso
          rw [List.head?_eq_none_iff] at hd
          rw [hd] at b; simp at b
        · rw [hd] at c1; simpa using c1
theorem dec_num {n : Nat} (h : n < 100000000) : numOk (decF 8 n) = true ∧ numV (decF 8 n) = (n : Int) ∧ (decF 8 n).all dig = true := by
  have h8 : n < 10 ^ (7 + 1) := by have : (10 : Nat) ^ (7 + 1) = 100000000 := rfl; omega
  obtain ⟨a, b, c, d⟩ := dec_back 7 n h8
  have e := dec_dig 8 n h8
  have l := decF_len 8 n
  have ok : numOk (decF 8 n) = true := by
    rw [numOk, e, Bool.and_true, decide_eq_true_eq]
    refine ⟨b, by omega, fun ⟨h1, h2⟩ => ?_⟩
    rcases Nat.lt_or_ge n 10 with hn | hn
    · have := d hn
      rw [this] at h2
      omega
    · exact c (by omega) h1
  exact ⟨ok, by rw [numV_yes ok, a], e⟩
theorem cut_at (l r : List UInt8) (c : UInt8) (h : ∀ x ∈ l, x ≠ c) : cutF ⟨(l ++ c :: r).toArray⟩ c = (⟨l.toArray⟩, ⟨r.toArray⟩, true) := by
  have hf : First ⟨(l ++ c :: r).toArray⟩ c l.length := by
    refine ⟨by simp, fun j hj => ?_⟩
    simp only [List.getElem?_append_left hj]
    rw [List.getElem?_eq_getElem hj]
    intro e
    exact h _ (List.getElem_mem hj) (by injection e)
  rw [cutF_yes hf]
  have hs : (ByteArray.mk (l ++ c :: r).toArray).size = (l ++ c :: r).length := by show (l ++ c :: r).toArray.size = _; simp
  have e1 : (ByteArray.mk (l ++ c :: r).toArray).extract 0 l.length = ⟨l.toArray⟩ := str_eq (by rw [ext_data]; simp)
  have e2 : (ByteArray.mk (l ++ c :: r).toArray).extract (l.length + 1) (ByteArray.mk (l ++ c :: r).toArray).size = ⟨r.toArray⟩ := str_eq (by
    rw [ext_data, hs]
    show ((l ++ c :: r).take (l ++ c :: r).length).drop (l.length + 1) = r
    rw [List.take_length]
    simp)
  rw [e1, e2]
theorem dig_ne {l : List UInt8} (h : l.all dig = true) (c : UInt8) (hc : c.toNat < 48 ∨ 57 < c.toNat) : ∀ x ∈ l, x ≠ c := by
  intro x hx e
  have := List.all_eq_true.1 h x hx
  simp only [dig, decide_eq_true_eq] at this
  subst e
  omega
theorem parts_back {a b c d : Nat} (ha : a < 100000000) (hb : b < 100000000) (hc : c < 100000000) :
    partsOf ⟨(textL a b c d).toArray⟩ = ⟨⟨(decF 8 a).toArray⟩, ⟨(decF 8 b).toArray⟩, ⟨(decF 8 c).toArray⟩, ⟨(decF 8 d).toArray⟩⟩ := by
  have c1 := cut_at (decF 8 a) (decF 8 b ++ 58 :: (decF 8 c ++ 35 :: decF 8 d)) 47 (dig_ne (dec_num ha).2.2 47 (by decide))
  have c2 := cut_at (decF 8 b) (decF 8 c ++ 35 :: decF 8 d) 58 (dig_ne (dec_num hb).2.2 58 (by decide))
  have c3 := cut_at (decF 8 c) (decF 8 d) 35 (dig_ne (dec_num hc).2.2 35 (by decide))
  simp only [partsOf, textL, c1, c2, c3]
theorem pkt_back {a b c d : Nat} (hv : vldB ⟨a, b, c, d⟩ = true) : okT ⟨(textL a b c d).toArray⟩ = true ∧ pktOf ⟨(textL a b c d).toArray⟩ = ⟨a, b, c, d⟩ := by
  have h := vld_nat hv
  have hp := parts_back (a := a) (b := b) (c := c) (d := d) (by omega) (by omega) (by omega)
  have n1 := dec_num (n := a) (by omega)
  have n2 := dec_num (n := b) (by omega)
  have n3 := dec_num (n := c) (by omega)
  have n4 := dec_num (n := d) (by omega)
  have hk : pktOf ⟨(textL a b c d).toArray⟩ = ⟨a, b, c, d⟩ := by simp only [pktOf, hp, n1.2.1, n2.2.1, n3.2.1, n4.2.1]
  refine ⟨?_, hk⟩
  rw [okT, hk, hv, hp]
  simp only [n1.1, n2.1, n3.1, n4.1, Bool.and_self]
theorem ok_empty : okT ⟨#[]⟩ = false := by
  rcases h : okT ⟨#[]⟩ with _ | _
  · rfl
  · have := (ok_found h).1
    rw [cut_empty] at this
    cases this
/-- what reads as a packet is a packet's text -/
theorem text_nat {s : ByteArray} (h : okT s = true) : ∃ a b c d : Nat, pktOf s = ⟨a, b, c, d⟩ ∧ vldB ⟨a, b, c, d⟩ = true ∧ s = ⟨(textL a b c d).toArray⟩ := by
  have h0 := h
  simp only [okT, Bool.and_eq_true] at h
  obtain ⟨⟨⟨⟨ha, hb⟩, hc⟩, hd⟩, hv⟩ := h
  have e : pktOf s = ⟨(valL (partsOf s).a.data.toList : Nat), (valL (partsOf s).b.data.toList : Nat), (valL (partsOf s).c.data.toList : Nat), (valL (partsOf s).d.data.toList : Nat)⟩ := by
    simp only [pktOf, numV_yes ha, numV_yes hb, numV_yes hc, numV_yes hd]
  exact ⟨_, _, _, _, e, by rw [← e]; exact hv, str_eq (text_of h0).symm⟩
theorem parseI_yes {s : ByteArray} (p : Pkt) (w : World) (hs : s.size ≤ 9223372036854775807) (h : okT s = true) (hp : pktOf s = p) :
    Calls Tryd.prog 12 #[.string s] w fun e w' => e = .returned (.tuple #[.agg #[.int .i64 p.peer, .int .i64 p.lane, .int .i64 p.size, .int .i64 p.id], .bool true]) ∧ Below w.heap.size w w' := by
  subst hp
  refine (parseI_any s w hs).mono ?_
  rintro e w' ⟨⟨_, he⟩ | ⟨h', _⟩, hb⟩
  · exact ⟨he, hb⟩
  · rw [h] at h'; cases h'
theorem parseI_no {s : ByteArray} (w : World) (hs : s.size ≤ 9223372036854775807) (h : okT s = false) :
    Calls Tryd.prog 12 #[.string s] w fun e w' => e = .returned (.tuple #[.agg #[.int .i64 0, .int .i64 0, .int .i64 0, .int .i64 0], .bool false]) ∧ Below w.heap.size w w' := by
  refine (parseI_any s w hs).mono ?_
  rintro e w' ⟨⟨h', _⟩ | ⟨_, he⟩, hb⟩
  · rw [h] at h'; cases h'
  · exact ⟨he, hb⟩
theorem parseS_yes {s : ByteArray} (p : Pkt) (w : World) (hs : s.size ≤ 9223372036854775807) (h : okT s = true) (hp : pktOf s = p) :
    Calls Tryd.prog 17 #[.string s] w fun e w' => e = .returned (.tuple #[.agg #[.int .i64 p.peer, .int .i64 p.lane, .int .i64 p.size, .int .i64 p.id], .bool true]) ∧ Below w.heap.size w w' := by
  subst hp
  refine (parseS_any s w hs).mono ?_
  rintro e w' ⟨⟨_, he⟩ | ⟨h', _⟩, hb⟩
  · exact ⟨he, hb⟩
  · rw [h] at h'; cases h'
theorem parseS_no {s : ByteArray} (w : World) (hs : s.size ≤ 9223372036854775807) (h : okT s = false) :
    Calls Tryd.prog 17 #[.string s] w fun e w' => e = .returned (.tuple #[.agg #[.int .i64 0, .int .i64 0, .int .i64 0, .int .i64 0], .bool false]) ∧ Below w.heap.size w w' := by
  refine (parseS_any s w hs).mono ?_
  rintro e w' ⟨⟨h', _⟩ | ⟨_, he⟩, hb⟩
  · rw [h] at h'; cases h'
  · exact ⟨he, hb⟩
end Go.Proofs.YtlnbhbjibkgjgaaDoor
