/-
  Rows of buckets: appends, copies, equality. Conditions: the rows have at most 4000000000 of them. Rows of scores: appends, copies, equality. Conditions: the rows have at most 4000000000 of them.
  Conditions: each lemma says them.
-/
import Derived.Test.YtiodhdcgfdlknaaKaZ1
import Derived.Test.YtiodhdcgfdlknaaKbZ1
import Derived.Lib.SliceRun
namespace Go.Proofs.Ytiodhdcgfdlknaa
open Go.RowKit
theorem infoPktB : (Try.prog.info? 32).map (fun i => (i.zero, i.size, i.bytes)) = some (some (.agg #[.int .i64 0, .int .i64 0, .int .i64 0, .int .i64 0]), 4, 32) := by kernel_rfl
set_option maxRecDepth 100000 in
set_option maxHeartbeats 2000000 in
theorem eqI_anyB (A A2 : Option Addr) (n c n2 c2 : Nat) (ps qs : List Pkt) (w : World) (h : PR w A n ps) (h2 : PR w A2 n2 qs) (hn : n ≤ 9223372036854775807) (hn2 : n2 ≤ 9223372036854775807) :
    Calls Try.prog 85 #[.slice A n c, .slice A2 n2 c2] w fun e w' => e = .returned (.bool (sameB ps qs)) ∧ Below w.heap.size w w' := by
  have H := Lib.hid h
  have H2 := Lib.hid h2
  clear h h2
  by_cases hl : n = n2
  · subst hl
    go_enter Try.func85, Try.ntmps85
    go_wp2
    go_loopw [13] (fun i wr => EqRel ps qs w n i wr) (fun i _ => n - (intOf i).toNat)
    case atStart => exact ⟨0, Nat.zero_le _, rfl, by simp, Below.refl _ _⟩
    case round =>
      obtain ⟨k, hk, rfl, ht, hbl⟩ := hrel
      have HT := Lib.hid ht
      clear ht
      by_cases hlt : k < n
      · obtain ⟨b, off, p, rfl, hb, hp, c0, c1, c2, c3⟩ := pr_at (pr_below H.out hbl) hlt
        obtain ⟨b2, off2, q, rfl, hb2, hq, d0, d1, d2, d3⟩ := pr_at (pr_below H2.out hbl) hlt
        have HP := Lib.hid hp
        have HQ := Lib.hid hq
        have HB := Lib.hid hbl
        clear hp hq hbl
        have hcase : p = q ∨ (p.peer == q.peer) = false ∨ ((p.peer == q.peer) = true ∧ (p.lane == q.lane) = false) ∨ ((p.peer == q.peer) = true ∧ (p.lane == q.lane) = true ∧ (p.size == q.size) = false) ∨
            ((p.peer == q.peer) = true ∧ (p.lane == q.lane) = true ∧ (p.size == q.size) = true ∧ (p.id == q.id) = false) := pkt_cases p q
        rcases hcase with rfl | e0 | ⟨e0, e1⟩ | ⟨e0, e1, e2⟩ | ⟨e0, e1, e2, e3⟩
        · go_wp2
          go_quiet (fail)
          go_wp2
          go_roundw
          case rel => exact ⟨k + 1, by omega, by go_num, take_step HT.out HP.out HQ.out rfl, below_drewN HB.out _⟩
          case measure => simp [intOf]; omega
        all_goals
          go_wp2
          go_quiet (fail)
          go_wp2
          go_ret
          exact ⟨ret_bool (same_no (take_ne HP.out HQ.out (by rintro rfl; simp at *))), below_drewN HB.out _⟩
      · obtain rfl : k = n := by omega
        have HB := Lib.hid hbl
        clear hbl
        go_wp2
        go_ret
        exact ⟨ret_bool (same_yes (take_all HT.out (by have := H.out.1; omega) (by have := H2.out.1; omega))), HB.out⟩
  · have hlb : ((n : Int) == (n2 : Int)) = false := by simp; omega
    have HL := Lib.hid hl
    clear hl
    go_enter Try.func85, Try.ntmps85
    go_wp2
    go_ret
    exact ⟨ret_bool (same_no (by rintro rfl; exact HL.out (H.out.1.symm.trans H2.out.1))), Below.refl _ _⟩
end Go.Proofs.Ytiodhdcgfdlknaa
namespace Go.Proofs.Ytiodhdcgfdlknaa
open Go.RowKit
theorem infoPktS : (Try.prog.info? 84).map (fun i => (i.zero, i.size, i.bytes)) = some (some (.agg #[.int .i64 0, .int .i64 0, .int .i64 0, .int .i64 0]), 4, 32) := by kernel_rfl
set_option maxRecDepth 100000 in
set_option maxHeartbeats 2000000 in
theorem eqI_anyS (A A2 : Option Addr) (n c n2 c2 : Nat) (ps qs : List Pkt) (w : World) (h : PR w A n ps) (h2 : PR w A2 n2 qs) (hn : n ≤ 9223372036854775807) (hn2 : n2 ≤ 9223372036854775807) :
    Calls Try.prog 88 #[.slice A n c, .slice A2 n2 c2] w fun e w' => e = .returned (.bool (sameB ps qs)) ∧ Below w.heap.size w w' := by
  have H := Lib.hid h
  have H2 := Lib.hid h2
  clear h h2
  by_cases hl : n = n2
  · subst hl
    go_enter Try.func88, Try.ntmps88
    go_wp2
    go_loopw [13] (fun i wr => EqRel ps qs w n i wr) (fun i _ => n - (intOf i).toNat)
    case atStart => exact ⟨0, Nat.zero_le _, rfl, by simp, Below.refl _ _⟩
    case round =>
      obtain ⟨k, hk, rfl, ht, hbl⟩ := hrel
      have HT := Lib.hid ht
      clear ht
      by_cases hlt : k < n
      · obtain ⟨b, off, p, rfl, hb, hp, c0, c1, c2, c3⟩ := pr_at (pr_below H.out hbl) hlt
        obtain ⟨b2, off2, q, rfl, hb2, hq, d0, d1, d2, d3⟩ := pr_at (pr_below H2.out hbl) hlt
        have HP := Lib.hid hp
        have HQ := Lib.hid hq
        have HB := Lib.hid hbl
        clear hp hq hbl
        have hcase : p = q ∨ (p.peer == q.peer) = false ∨ ((p.peer == q.peer) = true ∧ (p.lane == q.lane) = false) ∨ ((p.peer == q.peer) = true ∧ (p.lane == q.lane) = true ∧ (p.size == q.size) = false) ∨
            ((p.peer == q.peer) = true ∧ (p.lane == q.lane) = true ∧ (p.size == q.size) = true ∧ (p.id == q.id) = false) := pkt_cases p q
        rcases hcase with rfl | e0 | ⟨e0, e1⟩ | ⟨e0, e1, e2⟩ | ⟨e0, e1, e2, e3⟩
        · go_wp2
          go_quiet (fail)
          go_wp2
          go_roundw
          case rel => exact ⟨k + 1, by omega, by go_num, take_step HT.out HP.out HQ.out rfl, below_drewN HB.out _⟩
          case measure => simp [intOf]; omega
        all_goals
          go_wp2
          go_quiet (fail)
          go_wp2
          go_ret
          exact ⟨ret_bool (same_no (take_ne HP.out HQ.out (by rintro rfl; simp at *))), below_drewN HB.out _⟩
      · obtain rfl : k = n := by omega
        have HB := Lib.hid hbl
        clear hbl
        go_wp2
        go_ret
        exact ⟨ret_bool (same_yes (take_all HT.out (by have := H.out.1; omega) (by have := H2.out.1; omega))), HB.out⟩
  · have hlb : ((n : Int) == (n2 : Int)) = false := by simp; omega
    have HL := Lib.hid hl
    clear hl
    go_enter Try.func88, Try.ntmps88
    go_wp2
    go_ret
    exact ⟨ret_bool (same_no (by rintro rfl; exact HL.out (H.out.1.symm.trans H2.out.1))), Below.refl _ _⟩
end Go.Proofs.Ytiodhdcgfdlknaa
