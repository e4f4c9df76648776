/-
  Chapter 1: equality of lists: what the program's function and the model's return. Conditions: the slices' lengths fit an int.
-/
import Derived.Test.YtehokkijfgiggaaBase
namespace Go.Proofs.Ytehokkijfgiggaa
open Go.RowKit

open Classical in
noncomputable def sameB (ps qs : List Pkt) : Bool := decide (ps = qs)
theorem same_yes {ps qs : List Pkt} (h : ps = qs) : true = sameB ps qs := by simp [sameB, h]
theorem same_no {ps qs : List Pkt} (h : ps ≠ qs) : false = sameB ps qs := by simp [sameB, h]
theorem same_iff {ps qs : List Pkt} : sameB ps qs = true ↔ ps = qs := by simp [sameB]
theorem pkt_ext {p q : Pkt} (h0 : p.peer = q.peer) (h1 : p.lane = q.lane) (h2 : p.size = q.size) (h3 : p.id = q.id) : p = q := by
  cases p; cases q; simp_all
theorem pkt_cases (p q : Pkt) : p = q ∨ (p.peer == q.peer) = false ∨ ((p.peer == q.peer) = true ∧ (p.lane == q.lane) = false) ∨ ((p.peer == q.peer) = true ∧ (p.lane == q.lane) = true ∧ (p.size == q.size) = false) ∨
    ((p.peer == q.peer) = true ∧ (p.lane == q.lane) = true ∧ (p.size == q.size) = true ∧ (p.id == q.id) = false) := by
  simp only [beq_iff_eq, beq_eq_false_iff_ne]
  by_cases h0 : p.peer = q.peer
  · by_cases h1 : p.lane = q.lane
    · by_cases h2 : p.size = q.size
      · by_cases h3 : p.id = q.id
        · exact .inl (pkt_ext h0 h1 h2 h3)
        · exact .inr (.inr (.inr (.inr ⟨h0, h1, h2, h3⟩)))
      · exact .inr (.inr (.inr (.inl ⟨h0, h1, h2⟩)))
    · exact .inr (.inr (.inl ⟨h0, h1⟩))
  · exact .inr (.inl h0)
def EqRel (ps qs : List Pkt) (w : World) (n : Nat) (i : Value) (wr : World) : Prop :=
  ∃ k : Nat, k ≤ n ∧ i = .int .i64 (k : Int) ∧ ps.take k = qs.take k ∧ Below w.heap.size w wr
theorem take_step {ps qs : List Pkt} {k : Nat} {p q : Pkt} (h : ps.take k = qs.take k) (hp : ps[k]? = some p) (hq : qs[k]? = some q) (he : p = q) : ps.take (k + 1) = qs.take (k + 1) := by
  rw [List.take_add_one, List.take_add_one, hp, hq, h, he]
theorem take_ne {ps qs : List Pkt} {k : Nat} {p q : Pkt} (hp : ps[k]? = some p) (hq : qs[k]? = some q) (he : p ≠ q) : ps ≠ qs := by
  rintro rfl
  rw [hp] at hq
  exact he (by injection hq)
theorem take_all {ps qs : List Pkt} {n : Nat} (h : ps.take n = qs.take n) (hp : ps.length ≤ n) (hq : qs.length ≤ n) : ps = qs := by
  rw [List.take_of_length_le hp, List.take_of_length_le hq] at h
  exact h
set_option maxHeartbeats 2000000 in
theorem eqI_any (A A2 : Option Addr) (n c n2 c2 : Nat) (ps qs : List Pkt) (w : World) (h : PR w A n ps) (h2 : PR w A2 n2 qs) (hn : n ≤ 9223372036854775807) (hn2 : n2 ≤ 9223372036854775807) :
    Calls Try.prog 55 #[.slice A n c, .slice A2 n2 c2] w fun e w' => e = .returned (.bool (sameB ps qs)) ∧ Below w.heap.size w w' := by
  have H := Lib.hid h
  have H2 := Lib.hid h2
  clear h h2
  by_cases hl : n = n2
  · subst hl
    go_enter Try.func55, Try.ntmps55
    go_wp2
    go_loopw [13] (fun i wr => EqRel ps qs w n i wr) (fun i _ => n - (intOf i).toNat)
    case atStart => exact ⟨0, Nat.zero_le _, rfl, by simp, Below.refl _ _⟩
    case round =>
      obtain ⟨k, hk, rfl, ht, hbl⟩ := hrel
      have HT := Lib.hid ht
      clear ht
      by_cases hlt : k < n
      · obtain ⟨b, off, p, rfl, hb, hp, c0, c1, c2, c3⟩ := pr_at (pr_below H.out hbl) hlt
        obtain ⟨b2, off2, q, rfl, hb2, hq, d0, d1, d2, d3⟩ := pr_at (pr_below H2.out hbl) hlt
        have HP := Lib.hid hp
        have HQ := Lib.hid hq
        have HB := Lib.hid hbl
        clear hp hq hbl
        have hcase : p = q ∨ (p.peer == q.peer) = false ∨ ((p.peer == q.peer) = true ∧ (p.lane == q.lane) = false) ∨ ((p.peer == q.peer) = true ∧ (p.lane == q.lane) = true ∧ (p.size == q.size) = false) ∨
            ((p.peer == q.peer) = true ∧ (p.lane == q.lane) = true ∧ (p.size == q.size) = true ∧ (p.id == q.id) = false) := pkt_cases p q
        rcases hcase with rfl | e0 | ⟨e0, e1⟩ | ⟨e0, e1, e2⟩ | ⟨e0, e1, e2, e3⟩
        · go_wp2
          go_quiet (fail)
          go_wp2
          go_roundw
          case rel => exact ⟨k + 1, by omega, by go_num, take_step HT.out HP.out HQ.out rfl, below_drewN HB.out _⟩
          case measure => simp [intOf]; omega
        all_goals
          go_wp2
          go_quiet (fail)
          go_wp2
          go_ret
          exact ⟨ret_bool (same_no (take_ne HP.out HQ.out (by rintro rfl; simp at *))), below_drewN HB.out _⟩
      · obtain rfl : k = n := by omega
        have HB := Lib.hid hbl
        clear hbl
        go_wp2
        go_ret
        exact ⟨ret_bool (same_yes (take_all HT.out (by have := H.out.1; omega) (by have := H2.out.1; omega))), HB.out⟩
  · have hlb : ((n : Int) == (n2 : Int)) = false := by simp; omega
    have HL := Lib.hid hl
    clear hl
    go_enter Try.func55, Try.ntmps55
    go_wp2
    go_ret
    exact ⟨ret_bool (same_no (by rintro rfl; exact HL.out (H.out.1.symm.trans H2.out.1))), Below.refl _ _⟩
set_option maxHeartbeats 400000 in
theorem sameI_any (A A2 : Option Addr) (n c n2 c2 : Nat) (ps qs : List Pkt) (w : World) (h : PR w A n ps) (h2 : PR w A2 n2 qs) (hn : n ≤ 9223372036854775807) (hn2 : n2 ≤ 9223372036854775807) :
    Calls Try.prog 22 #[.slice A n c, .slice A2 n2 c2] w fun e w' => e = .returned (.bool (sameB ps qs)) ∧ Below w.heap.size w w' := by
  have H := Lib.hid h
  have H2 := Lib.hid h2
  clear h h2
  go_enter Try.func22, Try.ntmps22
  go_wp2_with fail
  refine (eqI_any A A2 n c n2 c2 ps qs _ H.out H2.out hn hn2).mono ?_
  rintro e w1 ⟨rfl, hb⟩
  go_wp2
  go_ret
  exact ⟨rfl, hb⟩
set_option maxHeartbeats 2000000 in
theorem sameS_any (A A2 : Option Addr) (n c n2 c2 : Nat) (ps qs : List Pkt) (w : World) (h : PR w A n ps) (h2 : PR w A2 n2 qs) (hn : n ≤ 9223372036854775807) (hn2 : n2 ≤ 9223372036854775807) :
    Calls Try.prog 73 #[.slice A n c, .slice A2 n2 c2] w fun e w' => e = .returned (.bool (sameB ps qs)) ∧ Below w.heap.size w w' := by
  have H := Lib.hid h
  have H2 := Lib.hid h2
  clear h h2
  by_cases hl : n = n2
  · subst hl
    go_enter Try.func73, Try.ntmps73
    go_wp2
    go_loopw [5] (fun i wr => EqRel ps qs w n i wr) (fun i _ => n - (intOf i).toNat)
    case atStart => exact ⟨0, Nat.zero_le _, rfl, by simp, Below.refl _ _⟩
    case round =>
      obtain ⟨k, hk, rfl, ht, hbl⟩ := hrel
      have HT := Lib.hid ht
      clear ht
      by_cases hlt : k < n
      · obtain ⟨b, off, p, rfl, hb, hp, c0, c1, c2, c3⟩ := pr_at (pr_below H.out hbl) hlt
        obtain ⟨b2, off2, q, rfl, hb2, hq, d0, d1, d2, d3⟩ := pr_at (pr_below H2.out hbl) hlt
        have HP := Lib.hid hp
        have HQ := Lib.hid hq
        have HB := Lib.hid hbl
        clear hp hq hbl
        rcases pkt_cases p q with rfl | e0 | ⟨e0, e1⟩ | ⟨e0, e1, e2⟩ | ⟨e0, e1, e2, e3⟩
        · go_wp2
          go_quiet (fail)
          go_wp2
          go_roundw
          case rel => exact ⟨k + 1, by omega, by go_num, take_step HT.out HP.out HQ.out rfl, below_drewN HB.out _⟩
          case measure => simp [intOf]; omega
        all_goals
          go_wp2
          go_quiet (fail)
          go_wp2
          go_ret
          exact ⟨ret_bool (same_no (take_ne HP.out HQ.out (by rintro rfl; simp at *))), below_drewN HB.out _⟩
      · obtain rfl : k = n := by omega
        have HB := Lib.hid hbl
        clear hbl
        go_wp2
        go_ret
        exact ⟨ret_bool (same_yes (take_all HT.out (by have := H.out.1; omega) (by have := H2.out.1; omega))), HB.out⟩
  · have hlb : ((n : Int) == (n2 : Int)) = false := by simp; omega
    have HL := Lib.hid hl
    clear hl
    go_enter Try.func73, Try.ntmps73
    go_wp2
    go_ret
    exact ⟨ret_bool (same_no (by rintro rfl; exact HL.out (H.out.1.symm.trans H2.out.1))), Below.refl _ _⟩
end Go.Proofs.Ytehokkijfgiggaa
