/-
  Valid packets are known by their texts. Conditions: the packets are valid.
-/
import Derived.Test.YtlnbhbjibkgjgaaDoorFmts
import Derived.Test.YtlnbhbjibkgjgaaDoorBack
import Derived.Test.YtlnbhbjibkgjgaaDoorDrawSame
namespace Go.Proofs.YtlnbhbjibkgjgaaDoor
open Go.RowKit

theorem pkt_of_str {p : Pkt} (h : vldB p = true) : okT (strP p) = true ∧ pktOf (strP p) = p := by
  have e := nat_of h
  have := pkt_back (a := p.peer.toNat) (b := p.lane.toNat) (c := p.size.toNat) (d := p.id.toNat) (by rw [← e]; exact h)
  exact ⟨this.1, this.2.trans e.symm⟩
theorem textP_inj {p q : Pkt} (hp : vldB p = true) (hq : vldB q = true) (h : textP p = textP q) : p = q := by
  have e : strP p = strP q := by unfold strP; rw [h]
  rw [← (pkt_of_str hp).2, ← (pkt_of_str hq).2, e]
theorem textP_no {p : Pkt} (h : vldB p = true) : ∀ x ∈ textP p, x ≠ 32 := by
  have hv : p.peer.toNat ≤ 7 ∧ p.lane.toNat ≤ 3 ∧ p.size.toNat ≤ 100 ∧ p.id.toNat ≤ 9999 := by
    simp only [vldB, decide_eq_true_eq] at h
    omega
  have n1 := dig_ne (dec_num (n := p.peer.toNat) (by omega)).2.2 32 (by decide)
  have n2 := dig_ne (dec_num (n := p.lane.toNat) (by omega)).2.2 32 (by decide)
  have n3 := dig_ne (dec_num (n := p.size.toNat) (by omega)).2.2 32 (by decide)
  have n4 := dig_ne (dec_num (n := p.id.toNat) (by omega)).2.2 32 (by decide)
  intro x hx
  simp only [textP, textL, List.mem_append, List.mem_cons] at hx
  rcases hx with hx | rfl | hx | rfl | hx | rfl | hx
  · exact n1 x hx
  · decide
  · exact n2 x hx
  · decide
  · exact n3 x hx
  · decide
  · exact n4 x hx
theorem textP_pos (p : Pkt) : textP p ≠ [] := by
  unfold textP textL
  intro h
  have := congrArg List.length h
  simp at this
theorem joinT_cons (p q : Pkt) (r : List Pkt) : joinT (p :: q :: r) = textP p ++ 32 :: joinT (q :: r) := by
  simp only [joinT, List.map_cons, Lib.join_cons, Lib.joinTail, List.map_cons, List.flatten_cons]
  simp
theorem sep_eq {l l' a a' : List UInt8} (h : l ++ 32 :: a = l' ++ 32 :: a') (hl : ∀ x ∈ l, x ≠ 32) (hl' : ∀ x ∈ l', x ≠ 32) : l = l' ∧ a = a' := by
  induction l generalizing l' with
  | nil =>
    rcases l' with _ | ⟨y, s⟩
    · exact ⟨rfl, by simpa using h⟩
    · exfalso
      simp only [List.nil_append, List.cons_append, List.cons.injEq] at h
      exact hl' y (by simp) h.1.symm
  | cons x r ih =>
    rcases l' with _ | ⟨y, s⟩
    · exfalso
      simp only [List.nil_append, List.cons_append, List.cons.injEq] at h
      exact hl x (by simp) h.1
    · simp only [List.cons_append, List.cons.injEq] at h
      have := ih h.2 (fun z hz => hl z (by simp [hz])) (fun z hz => hl' z (by simp [hz]))
      exact ⟨by rw [h.1, this.1], this.2⟩
theorem sep_no {l l' a : List UInt8} (h : l = l' ++ 32 :: a) (hl : ∀ x ∈ l, x ≠ 32) : False := hl 32 (by rw [h]; simp) rfl
theorem joinT_inj : ∀ (ps qs : List Pkt), allVld ps → allVld qs → joinT ps = joinT qs → ps = qs := by
  intro ps
  induction ps with
  | nil =>
    intro qs _ _ h
    rcases qs with _ | ⟨q, _ | ⟨q2, s⟩⟩
    · rfl
    · exfalso; rw [joinT_one] at h; exact textP_pos q h.symm
    · exfalso; rw [joinT_cons] at h; have := congrArg List.length h; simp [joinT_nil] at this
  | cons p r ih =>
    intro qs hp hq h
    have hpv := hp p (by simp)
    have hpn := textP_no hpv
    rcases r with _ | ⟨p2, r⟩
    · rcases qs with _ | ⟨q, _ | ⟨q2, s⟩⟩
      · exfalso; rw [joinT_one] at h; exact textP_pos p h
      · rw [joinT_one, joinT_one] at h
        rw [textP_inj hpv (hq q (by simp)) h]
      · exfalso; rw [joinT_one, joinT_cons] at h; exact sep_no h hpn
    · rcases qs with _ | ⟨q, _ | ⟨q2, s⟩⟩
      · exfalso; rw [joinT_cons] at h; have := congrArg List.length h; simp [joinT_nil] at this
      · exfalso; rw [joinT_one, joinT_cons] at h; exact sep_no h.symm (textP_no (hq q (by simp)))
      · rw [joinT_cons, joinT_cons] at h
        have := sep_eq h hpn (textP_no (hq q (by simp)))
        rw [textP_inj hpv (hq q (by simp)) this.1, ih (q2 :: s) (fun x hx => hp x (by simp at hx ⊢; exact .inr hx)) (fun x hx => hq x (by simp at hx ⊢; exact .inr hx)) this.2]
theorem strJ_inj {ps qs : List Pkt} (hp : allVld ps) (hq : allVld qs) (h : strJ ps = strJ qs) : ps = qs := by
  have e : (strJ ps).data.toList = (strJ qs).data.toList := by rw [h]
  exact joinT_inj ps qs hp hq e
theorem ok_vld {ps : List Pkt} (h : allVld ps) (hl : ps.length ≤ 64) : okB ps = true := by
  have : ps.all vldB = true := List.all_eq_true.2 h
  simp [okB, hl, this]
end Go.Proofs.YtlnbhbjibkgjgaaDoor
