/-
  What the exact laws do with rows of buckets. Conditions: a list has at most 1048576 of them. What the exact laws do with rows of scores. Conditions: a list has at most 1048576 of them. A slice of buckets that comes in as an argument. Conditions: none. A slice of scores that comes in as an argument. Conditions: none.
  Conditions: each lemma says them.
-/
import Derived.Test.YtiodhdcgfdlknaaKb1Z2
import Derived.Test.YtiodhdcgfdlknaaKbZ2
import Derived.StillTailTactics
import Derived.Deep.Slices
import Derived.Deep.Fields
import Derived.ChangeSame
import Derived.Lib.SmallJoins
namespace Go.Proofs.Ytiodhdcgfdlknaa
open Go.RowKit
theorem szPacketS_anyB (A : Option Addr) (n c : Nat) (left : Int) (w : World) (hn : n ≤ 9223372036854775807) (hl : 0 ≤ left ∧ left ≤ 1048576) :
    Calls Try.prog 63 #[.slice A n c, .int .i64 left] w fun e w' => e = .returned (.int .i64 (if left < n then -1 else left - n)) ∧ w = w' := by
  by_cases h : left < n
  · rw [if_pos h]
    have h1 : left - (n : Int) < 0 := by omega
    go_enter Try.func63, Try.ntmps63
    go_wp2
    go_ret
    exact ⟨rfl, rfl⟩
  · rw [if_neg h]
    have h1 : 0 ≤ left - (n : Int) := by omega
    go_enter Try.func63, Try.ntmps63
    go_wp2
    go_ret
    exact ⟨rfl, rfl⟩
set_option maxRecDepth 100000 in
set_option maxHeartbeats 400000 in
theorem toPacket_anyB (p : Pkt) (w : World) :
    Calls Try.prog 71 #[.agg #[.int .i64 p.peer, .int .i64 p.lane, .int .i64 p.size, .int .i64 p.id]] w fun e w' => e = .returned (.agg #[.int .i64 p.peer, .int .i64 p.lane, .int .i64 p.size, .int .i64 p.id]) ∧ Below w.heap.size w w' := by
  go_enter Try.func71, Try.ntmps71
  go_wp2
  refine bodyPost_ret (v := .agg #[.int .i64 p.peer, .int .i64 p.lane, .int .i64 p.size, .int .i64 p.id]) (by simp [results, Try.results71, go_sem]) rfl ⟨rfl, ?_⟩
  exact below_alloc (below_alloc (below_alloc (Below.refl _ _) _) _) _
def CopyRelB (w : World) (ps : List Pkt) (n : Nat) (i : Value) (wr : World) : Prop :=
  ∃ (k : Nat) (cur : List Pkt), k ≤ n ∧ i = .int .i64 (k : Int) ∧ cur.length = n ∧ cur.take k = ps.take k ∧ wr.ownsRow w.heap.size 32 4 (.slice (some ⟨w.heap.size, 0, none⟩) n n) n (pcells cur) ∧ Below w.heap.size w wr
def CopyPostB (w : World) (ps : List Pkt) (n : Nat) (e : Ending) (w' : World) : Prop :=
  e = .returned (.slice (some ⟨w.heap.size, 0, none⟩) n n) ∧ w'.ownsRow w.heap.size 32 4 (.slice (some ⟨w.heap.size, 0, none⟩) n n) n (pcells ps) ∧ Below w.heap.size w w'
set_option maxRecDepth 100000 in
set_option maxHeartbeats 2000000 in
theorem toPacketS_anyB (A : Option Addr) (n c : Nat) (ps : List Pkt) (w : World) (h : PR w A n ps) (hn : n ≤ 1048576) :
    Calls Try.prog 72 #[.slice A n c] w (CopyPostB w ps n) := by
  have H := Lib.hid h
  clear h
  obtain ⟨i0, hi, hz0, hz1, hz2⟩ := info_parts infoPktB
  go_enter Try.func72, Try.ntmps72
  go_wp2_with (refine wpList_make_full _ rfl (.tmp 6) (.tmp 6) 33 rfl w.heap.size 32 i0 _ 4 Try.underlying33 hi hz0 hz1 .i64 .i64 n n n rfl rfl rfl rfl (by rw [hz2]; omega) (by unfold maxLen; omega) (Nat.le_refl _) ?_; intro w1 ho1 hg1)
  have R0 : CopyRelB w ps n (.int .i64 0) w1 := by
    rw [zeros] at ho1
    exact ⟨0, _, Nat.zero_le _, rfl, List.length_replicate, by simp, ho1, ⟨hg1.os, hg1.tape, hg1.output, hg1.size, fun i hi => hg1.block i hi (by simp)⟩⟩
  have HR := Lib.hid R0
  clear R0 ho1 hg1 hi hz0 hz1 hz2
  go_loopw [4] (fun i wr => CopyRelB w ps n i wr) (fun i _ => n - (intOf i).toNat)
  case atStart => exact HR.out
  case round =>
    obtain ⟨k, cur, hk, rfl, hl, ht, ho, hbl⟩ := hrel
    clear HR
    by_cases hlt : k < n
    · obtain ⟨b, off, p, rfl, hb, hp, c0, c1, c2, c3⟩ := pr_at (pr_below H.out hbl) hlt
      have HP := Lib.hid (And.intro hp (And.intro hl ht))
      have HB := Lib.hid hbl
      have HO := Lib.hid ho
      clear hp hbl ho hl ht
      go_wp2_with fail
      refine (toPacket_anyB p _).mono ?_
      rintro e w2 ⟨rfl, hb2⟩
      have ho2 := own_below HO.out hb2
      have HB2 := Lib.hid (HB.out.trans (hb2.mono HB.out.size))
      clear hb2 c0 c1 c2 c3
      obtain ⟨b', off', p2, e1, e2, e3, e4⟩ := pr_at (k := k) (pr_own ho2) hlt
      obtain ⟨rfl, rfl⟩ : w.heap.size = b' ∧ 0 = off' := by injection e1 with e1; injection e1 with a b; exact ⟨a, b⟩
      obtain ⟨c0, c1, c2, c3⟩ := e4
      rw [Nat.zero_add] at c0 c1 c2 c3
      clear e1 e2 e3
      have f0 := World.ownsRow.frozenAt ho2 (k * 4)
      have f1 := World.ownsRow.frozenAt ho2 (k * 4 + 1)
      have f2 := World.ownsRow.frozenAt ho2 (k * 4 + 2)
      have f3 := World.ownsRow.frozenAt ho2 (k * 4 + 3)
      have G := Lib.hid (own_set_pkt ho2 k p)
      clear ho2
      go_wp2
      go_roundw
      case rel => exact ⟨k + 1, _, by omega, by go_num, by rw [List.length_set]; exact HP.out.2.1, set_take HP.out.2.1 hlt HP.out.2.2 HP.out.1, G.out, (((HB2.out.setCell (Nat.le_refl _) _).setCell (Nat.le_refl _) _).setCell (Nat.le_refl _) _).setCell (Nat.le_refl _) _⟩
      case measure => simp [intOf]; omega
    · obtain rfl : k = n := by omega
      have HE := Lib.hid (And.intro (take_all ht (by have := H.out.1; omega) (by have := H.out.1; omega)) (And.intro ho hbl))
      clear ht ho hbl
      go_wp2
      go_ret
      exact ⟨rfl, by have e := HE.out.1; have o := HE.out.2.1; rw [e] at o; exact o, HE.out.2.2⟩
set_option maxRecDepth 100000 in
set_option maxHeartbeats 1000000 in
theorem eqPacket_anyB (p q : Pkt) (w : World) :
    Calls Try.prog 50 #[.agg #[.int .i64 p.peer, .int .i64 p.lane, .int .i64 p.size, .int .i64 p.id], .agg #[.int .i64 q.peer, .int .i64 q.lane, .int .i64 q.size, .int .i64 q.id]] w fun e w' => e = .returned (.bool (pktB p q)) ∧ Below w.heap.size w w' := by
  have hb := below_alloc (below_alloc (Below.refl w.heap.size w) (.cells #[.int .i64 p.peer, .int .i64 p.lane, .int .i64 p.size, .int .i64 p.id] 32)) (.cells #[.int .i64 q.peer, .int .i64 q.lane, .int .i64 q.size, .int .i64 q.id] 32)
  rcases pkt_cases p q with rfl | e0 | ⟨e0, e1⟩ | ⟨e0, e1, e2⟩ | ⟨e0, e1, e2, e3⟩
  · go_enter Try.func50, Try.ntmps50
    go_wp2
    go_ret
    exact ⟨ret_bool (pktB_yes rfl), hb⟩
  all_goals
    go_enter Try.func50, Try.ntmps50
    go_wp2
    go_ret
    exact ⟨ret_bool (pktB_no (by rintro rfl; simp at *)), hb⟩
set_option maxRecDepth 100000 in
set_option maxHeartbeats 2000000 in
theorem eqPacketS_anyB (A A2 : Option Addr) (n c n2 c2 : Nat) (ps qs : List Pkt) (w : World) (h : PR w A n ps) (h2 : PR w A2 n2 qs) (hn : n ≤ 9223372036854775807) (hn2 : n2 ≤ 9223372036854775807) :
    Calls Try.prog 51 #[.slice A n c, .slice A2 n2 c2] w fun e w' => e = .returned (.bool (sameB ps qs)) ∧ Below w.heap.size w w' := by
  have H := Lib.hid h
  have H2 := Lib.hid h2
  clear h h2
  by_cases hl : n = n2
  · subst hl
    go_enter Try.func51, Try.ntmps51
    go_wp2
    go_loopw [5] (fun i wr => EqRel ps qs w n i wr) (fun i _ => n - (intOf i).toNat)
    case atStart => exact ⟨0, Nat.zero_le _, rfl, by simp, Below.refl _ _⟩
    case round =>
      obtain ⟨k, hk, rfl, ht, hbl⟩ := hrel
      have HT := Lib.hid ht
      clear ht
      by_cases hlt : k < n
      · obtain ⟨b, off, p, rfl, hb, hp, c0, c1, c2, c3⟩ := pr_at (pr_below H.out hbl) hlt
        obtain ⟨b2, off2, q, rfl, hb2, hq, d0, d1, d2, d3⟩ := pr_at (pr_below H2.out hbl) hlt
        have HP := Lib.hid hp
        have HQ := Lib.hid hq
        have HB := Lib.hid hbl
        clear hp hq hbl
        have k0 : (0 : Int) ≤ (k : Int) := by omega
        have k1 : (k : Int) < (n : Int) := by omega
        go_wp2_with fail
        go_still_tail 8, (by kernel_rfl)
        change wpList _ _ _ _ _ wr.drew
        go_wp2_with fail
        refine (eqPacket_anyB p q _).mono ?_
        rintro e w1 ⟨rfl, hb1⟩
        have HB1 := Lib.hid (below_seq (HB.out.drew) hb1)
        clear hb1 c0 c1 c2 c3 d0 d1 d2 d3
        by_cases hpq : p = q
        · rw [← pktB_yes hpq]
          have HE := Lib.hid hpq
          clear hpq
          go_wp2
          go_roundw
          case rel => exact ⟨k + 1, by omega, by go_num, take_step HT.out HP.out HQ.out HE.out, HB1.out⟩
          case measure => simp [intOf]; omega
        · rw [← pktB_no hpq]
          have HE := Lib.hid hpq
          clear hpq
          go_wp2
          go_ret
          exact ⟨ret_bool (same_no (take_ne HP.out HQ.out HE.out)), HB1.out⟩
      · obtain rfl : k = n := by omega
        have HB := Lib.hid hbl
        clear hbl
        go_wp2
        go_ret
        exact ⟨ret_bool (same_yes (take_all HT.out (by have := H.out.1; omega) (by have := H2.out.1; omega))), HB.out⟩
  · have hlb : ((n : Int) == (n2 : Int)) = false := by simp; omega
    have HL := Lib.hid hl
    clear hl
    go_enter Try.func51, Try.ntmps51
    go_wp2
    go_ret
    exact ⟨ret_bool (same_no (by rintro rfl; exact HL.out (H.out.1.symm.trans H2.out.1))), Below.refl _ _⟩
def MarkRelB (w : World) (base b n c : Nat) (k0 : Int) (kv i : Value) (wr : World) : Prop :=
  ∃ (k : Nat) (x : Int) (cur : List Pkt), k ≤ n ∧ i = .int .i64 (k : Int) ∧ kv = .int .i64 x ∧ x = k0 + 4 * k ∧ cur.length = n ∧ cur.take k = (markL n k0).take k ∧ wr.ownsRow base 32 4 (.slice (some ⟨b, 0, none⟩) n c) n (pcells cur) ∧ w.grownBy wr (some b)
def MarkPostB (w : World) (base : Nat) (A : Option Addr) (n c : Nat) (k0 : Int) (e : Ending) (w' : World) : Prop :=
  e = .returned (.int .i64 (k0 + 4 * n)) ∧ w'.ownsRow base 32 4 (.slice A n c) n (pcells (markL n k0)) ∧ w.grownBy w' (Value.ownBlock (.slice A n c))
set_option maxRecDepth 100000 in
set_option maxHeartbeats 2000000 in
theorem markPacketS_anyB (base : Nat) (A : Option Addr) (n c : Nat) (k0 : Int) (ps : List Pkt) (w : World) (h : w.ownsRow base 32 4 (.slice A n c) n (pcells ps)) (hn : n ≤ 4000000000) (hk : 0 ≤ k0 ∧ k0 ≤ 100000000) :
    Calls Try.prog 55 #[.slice A n c, .int .i64 k0] w (MarkPostB w base A n c k0) := by
  by_cases h0 : n = 0
  · subst h0
    have hps : ps = [] := List.eq_nil_of_length_eq_zero (by have := h.1; rw [pcells_len] at this; omega)
    subst hps
    have H := Lib.hid h
    clear h
    go_enter Try.func55, Try.ntmps55
    go_wp2
    refine wp_loop_rounds 1 ?_
    rw [rounds_succ]
    go_wp2
    go_ret
    exact ⟨ret_int (by omega), H.out, g_refl _ _⟩
  · obtain ⟨b, c', hv, hbb, hlt⟩ := h.form (by omega)
    obtain ⟨rfl, rfl⟩ : A = some ⟨b, 0, none⟩ ∧ c = c' := by injection hv with a1 a2 a3; exact ⟨a1, a3⟩
    have hl0 : ps.length = n := (pr_own h).1
    have R0 : MarkRelB w base b n c k0 (.int .i64 k0) (.int .i64 0) w := ⟨0, k0, ps, Nat.zero_le _, rfl, rfl, by omega, hl0, by simp, h, g_refl _ _⟩
    have HR := Lib.hid R0
    clear R0 h hv
    go_enter Try.func55, Try.ntmps55
    go_wp2
    go_loopw [1, 5] (fun kv i wr => MarkRelB w base b n c k0 kv i wr) (fun _ i _ => n - (intOf i).toNat)
    case atStart => exact HR.out
    case round =>
      obtain ⟨k, x, cur, hk', rfl, rfl, hx, hl, ht, ho, hgr⟩ := hrel
      clear HR
      have hx0 : 0 ≤ x ∧ x ≤ 17000000000 := by omega
      have HX := Lib.hid hx
      have HL := Lib.hid (And.intro hl ht)
      have HG := Lib.hid hgr
      clear hx hl ht hgr
      by_cases hlt : k < n
      · obtain ⟨b', off', p2, e1, e2, e3, e4⟩ := pr_at (k := k) (pr_own ho) hlt
        obtain ⟨rfl, rfl⟩ : b = b' ∧ 0 = off' := by injection e1 with e1; injection e1 with a b; exact ⟨a, b⟩
        obtain ⟨c0, c1, c2, c3⟩ := e4
        rw [Nat.zero_add] at c0 c1 c2 c3
        clear e1 e2 e3
        have f0 := World.ownsRow.frozenAt ho (k * 4)
        have f1 := World.ownsRow.frozenAt ho (k * 4 + 1)
        have f2 := World.ownsRow.frozenAt ho (k * 4 + 2)
        have f3 := World.ownsRow.frozenAt ho (k * 4 + 3)
        have G := Lib.hid (own_set_pkt ho k ⟨x, x + 1, x + 1 + 1, x + 1 + 1 + 1⟩)
        clear ho
        go_wp2
        go_roundw
        case rel => exact ⟨k + 1, _, _, by omega, by go_num, rfl, by have := HX.out; omega, by rw [List.length_set]; exact HL.out.1, set_take HL.out.1 hlt HL.out.2 (by rw [markL_get n k0 k hlt, HX.out, Option.some.injEq, Pkt.mk.injEq]; omega), G.out, g_set (g_set (g_set (g_set HG.out (.inl rfl) _) (.inl rfl) _) (.inl rfl) _) (.inl rfl) _⟩
        case measure => simp [intOf]; omega
      · obtain rfl : k = n := by omega
        have HE := Lib.hid (And.intro (take_all HL.out.2 (by have := HL.out.1; omega) (Nat.le_of_eq (markL_len _ _))) ho)
        clear ho
        go_wp2
        go_ret
        exact ⟨ret_int HX.out, by have e := HE.out.1; have o := HE.out.2; rw [e] at o; exact o, HG.out⟩
end Go.Proofs.Ytiodhdcgfdlknaa
namespace Go.Proofs.Ytiodhdcgfdlknaa
open Go.RowKit
theorem szPacketS_anyS (A : Option Addr) (n c : Nat) (left : Int) (w : World) (hn : n ≤ 9223372036854775807) (hl : 0 ≤ left ∧ left ≤ 1048576) :
    Calls Try.prog 66 #[.slice A n c, .int .i64 left] w fun e w' => e = .returned (.int .i64 (if left < n then -1 else left - n)) ∧ w = w' := by
  by_cases h : left < n
  · rw [if_pos h]
    have h1 : left - (n : Int) < 0 := by omega
    go_enter Try.func66, Try.ntmps66
    go_wp2
    go_ret
    exact ⟨rfl, rfl⟩
  · rw [if_neg h]
    have h1 : 0 ≤ left - (n : Int) := by omega
    go_enter Try.func66, Try.ntmps66
    go_wp2
    go_ret
    exact ⟨rfl, rfl⟩
set_option maxRecDepth 100000 in
set_option maxHeartbeats 400000 in
theorem toPacket_anyS (p : Pkt) (w : World) :
    Calls Try.prog 113 #[.agg #[.int .i64 p.peer, .int .i64 p.lane, .int .i64 p.size, .int .i64 p.id]] w fun e w' => e = .returned (.agg #[.int .i64 p.peer, .int .i64 p.lane, .int .i64 p.size, .int .i64 p.id]) ∧ Below w.heap.size w w' := by
  go_enter Try.func113, Try.ntmps113
  go_wp2
  refine bodyPost_ret (v := .agg #[.int .i64 p.peer, .int .i64 p.lane, .int .i64 p.size, .int .i64 p.id]) (by simp [results, Try.results113, go_sem]) rfl ⟨rfl, ?_⟩
  exact below_alloc (below_alloc (below_alloc (Below.refl _ _) _) _) _
def CopyRelS (w : World) (ps : List Pkt) (n : Nat) (i : Value) (wr : World) : Prop :=
  ∃ (k : Nat) (cur : List Pkt), k ≤ n ∧ i = .int .i64 (k : Int) ∧ cur.length = n ∧ cur.take k = ps.take k ∧ wr.ownsRow w.heap.size 84 4 (.slice (some ⟨w.heap.size, 0, none⟩) n n) n (pcells cur) ∧ Below w.heap.size w wr
def CopyPostS (w : World) (ps : List Pkt) (n : Nat) (e : Ending) (w' : World) : Prop :=
  e = .returned (.slice (some ⟨w.heap.size, 0, none⟩) n n) ∧ w'.ownsRow w.heap.size 84 4 (.slice (some ⟨w.heap.size, 0, none⟩) n n) n (pcells ps) ∧ Below w.heap.size w w'
set_option maxRecDepth 100000 in
set_option maxHeartbeats 2000000 in
theorem toPacketS_anyS (A : Option Addr) (n c : Nat) (ps : List Pkt) (w : World) (h : PR w A n ps) (hn : n ≤ 1048576) :
    Calls Try.prog 75 #[.slice A n c] w (CopyPostS w ps n) := by
  have H := Lib.hid h
  clear h
  obtain ⟨i0, hi, hz0, hz1, hz2⟩ := info_parts infoPktS
  go_enter Try.func75, Try.ntmps75
  go_wp2_with (refine wpList_make_full _ rfl (.tmp 6) (.tmp 6) 39 rfl w.heap.size 84 i0 _ 4 Try.underlying39 hi hz0 hz1 .i64 .i64 n n n rfl rfl rfl rfl (by rw [hz2]; omega) (by unfold maxLen; omega) (Nat.le_refl _) ?_; intro w1 ho1 hg1)
  have R0 : CopyRelS w ps n (.int .i64 0) w1 := by
    rw [zeros] at ho1
    exact ⟨0, _, Nat.zero_le _, rfl, List.length_replicate, by simp, ho1, ⟨hg1.os, hg1.tape, hg1.output, hg1.size, fun i hi => hg1.block i hi (by simp)⟩⟩
  have HR := Lib.hid R0
  clear R0 ho1 hg1 hi hz0 hz1 hz2
  go_loopw [4] (fun i wr => CopyRelS w ps n i wr) (fun i _ => n - (intOf i).toNat)
  case atStart => exact HR.out
  case round =>
    obtain ⟨k, cur, hk, rfl, hl, ht, ho, hbl⟩ := hrel
    clear HR
    by_cases hlt : k < n
    · obtain ⟨b, off, p, rfl, hb, hp, c0, c1, c2, c3⟩ := pr_at (pr_below H.out hbl) hlt
      have HP := Lib.hid (And.intro hp (And.intro hl ht))
      have HB := Lib.hid hbl
      have HO := Lib.hid ho
      clear hp hbl ho hl ht
      go_wp2_with fail
      refine (toPacket_anyS p _).mono ?_
      rintro e w2 ⟨rfl, hb2⟩
      have ho2 := own_below HO.out hb2
      have HB2 := Lib.hid (HB.out.trans (hb2.mono HB.out.size))
      clear hb2 c0 c1 c2 c3
      obtain ⟨b', off', p2, e1, e2, e3, e4⟩ := pr_at (k := k) (pr_own ho2) hlt
      obtain ⟨rfl, rfl⟩ : w.heap.size = b' ∧ 0 = off' := by injection e1 with e1; injection e1 with a b; exact ⟨a, b⟩
      obtain ⟨c0, c1, c2, c3⟩ := e4
      rw [Nat.zero_add] at c0 c1 c2 c3
      clear e1 e2 e3
      have f0 := World.ownsRow.frozenAt ho2 (k * 4)
      have f1 := World.ownsRow.frozenAt ho2 (k * 4 + 1)
      have f2 := World.ownsRow.frozenAt ho2 (k * 4 + 2)
      have f3 := World.ownsRow.frozenAt ho2 (k * 4 + 3)
      have G := Lib.hid (own_set_pkt ho2 k p)
      clear ho2
      go_wp2
      go_roundw
      case rel => exact ⟨k + 1, _, by omega, by go_num, by rw [List.length_set]; exact HP.out.2.1, set_take HP.out.2.1 hlt HP.out.2.2 HP.out.1, G.out, (((HB2.out.setCell (Nat.le_refl _) _).setCell (Nat.le_refl _) _).setCell (Nat.le_refl _) _).setCell (Nat.le_refl _) _⟩
      case measure => simp [intOf]; omega
    · obtain rfl : k = n := by omega
      have HE := Lib.hid (And.intro (take_all ht (by have := H.out.1; omega) (by have := H.out.1; omega)) (And.intro ho hbl))
      clear ht ho hbl
      go_wp2
      go_ret
      exact ⟨rfl, by have e := HE.out.1; have o := HE.out.2.1; rw [e] at o; exact o, HE.out.2.2⟩
set_option maxRecDepth 100000 in
set_option maxHeartbeats 1000000 in
theorem eqPacket_anyS (p q : Pkt) (w : World) :
    Calls Try.prog 102 #[.agg #[.int .i64 p.peer, .int .i64 p.lane, .int .i64 p.size, .int .i64 p.id], .agg #[.int .i64 q.peer, .int .i64 q.lane, .int .i64 q.size, .int .i64 q.id]] w fun e w' => e = .returned (.bool (pktB p q)) ∧ Below w.heap.size w w' := by
  have hb := below_alloc (below_alloc (Below.refl w.heap.size w) (.cells #[.int .i64 p.peer, .int .i64 p.lane, .int .i64 p.size, .int .i64 p.id] 84)) (.cells #[.int .i64 q.peer, .int .i64 q.lane, .int .i64 q.size, .int .i64 q.id] 84)
  rcases pkt_cases p q with rfl | e0 | ⟨e0, e1⟩ | ⟨e0, e1, e2⟩ | ⟨e0, e1, e2, e3⟩
  · go_enter Try.func102, Try.ntmps102
    go_wp2
    go_ret
    exact ⟨ret_bool (pktB_yes rfl), hb⟩
  all_goals
    go_enter Try.func102, Try.ntmps102
    go_wp2
    go_ret
    exact ⟨ret_bool (pktB_no (by rintro rfl; simp at *)), hb⟩
set_option maxRecDepth 100000 in
set_option maxHeartbeats 2000000 in
theorem eqPacketS_anyS (A A2 : Option Addr) (n c n2 c2 : Nat) (ps qs : List Pkt) (w : World) (h : PR w A n ps) (h2 : PR w A2 n2 qs) (hn : n ≤ 9223372036854775807) (hn2 : n2 ≤ 9223372036854775807) :
    Calls Try.prog 54 #[.slice A n c, .slice A2 n2 c2] w fun e w' => e = .returned (.bool (sameB ps qs)) ∧ Below w.heap.size w w' := by
  have H := Lib.hid h
  have H2 := Lib.hid h2
  clear h h2
  by_cases hl : n = n2
  · subst hl
    go_enter Try.func54, Try.ntmps54
    go_wp2
    go_loopw [5] (fun i wr => EqRel ps qs w n i wr) (fun i _ => n - (intOf i).toNat)
    case atStart => exact ⟨0, Nat.zero_le _, rfl, by simp, Below.refl _ _⟩
    case round =>
      obtain ⟨k, hk, rfl, ht, hbl⟩ := hrel
      have HT := Lib.hid ht
      clear ht
      by_cases hlt : k < n
      · obtain ⟨b, off, p, rfl, hb, hp, c0, c1, c2, c3⟩ := pr_at (pr_below H.out hbl) hlt
        obtain ⟨b2, off2, q, rfl, hb2, hq, d0, d1, d2, d3⟩ := pr_at (pr_below H2.out hbl) hlt
        have HP := Lib.hid hp
        have HQ := Lib.hid hq
        have HB := Lib.hid hbl
        clear hp hq hbl
        have k0 : (0 : Int) ≤ (k : Int) := by omega
        have k1 : (k : Int) < (n : Int) := by omega
        go_wp2_with fail
        go_still_tail 8, (by kernel_rfl)
        change wpList _ _ _ _ _ wr.drew
        go_wp2_with fail
        refine (eqPacket_anyS p q _).mono ?_
        rintro e w1 ⟨rfl, hb1⟩
        have HB1 := Lib.hid (below_seq (HB.out.drew) hb1)
        clear hb1 c0 c1 c2 c3 d0 d1 d2 d3
        by_cases hpq : p = q
        · rw [← pktB_yes hpq]
          have HE := Lib.hid hpq
          clear hpq
          go_wp2
          go_roundw
          case rel => exact ⟨k + 1, by omega, by go_num, take_step HT.out HP.out HQ.out HE.out, HB1.out⟩
          case measure => simp [intOf]; omega
        · rw [← pktB_no hpq]
          have HE := Lib.hid hpq
          clear hpq
          go_wp2
          go_ret
          exact ⟨ret_bool (same_no (take_ne HP.out HQ.out HE.out)), HB1.out⟩
      · obtain rfl : k = n := by omega
        have HB := Lib.hid hbl
        clear hbl
        go_wp2
        go_ret
        exact ⟨ret_bool (same_yes (take_all HT.out (by have := H.out.1; omega) (by have := H2.out.1; omega))), HB.out⟩
  · have hlb : ((n : Int) == (n2 : Int)) = false := by simp; omega
    have HL := Lib.hid hl
    clear hl
    go_enter Try.func54, Try.ntmps54
    go_wp2
    go_ret
    exact ⟨ret_bool (same_no (by rintro rfl; exact HL.out (H.out.1.symm.trans H2.out.1))), Below.refl _ _⟩
def MarkRelS (w : World) (base b n c : Nat) (k0 : Int) (kv i : Value) (wr : World) : Prop :=
  ∃ (k : Nat) (x : Int) (cur : List Pkt), k ≤ n ∧ i = .int .i64 (k : Int) ∧ kv = .int .i64 x ∧ x = k0 + 4 * k ∧ cur.length = n ∧ cur.take k = (markL n k0).take k ∧ wr.ownsRow base 84 4 (.slice (some ⟨b, 0, none⟩) n c) n (pcells cur) ∧ w.grownBy wr (some b)
def MarkPostS (w : World) (base : Nat) (A : Option Addr) (n c : Nat) (k0 : Int) (e : Ending) (w' : World) : Prop :=
  e = .returned (.int .i64 (k0 + 4 * n)) ∧ w'.ownsRow base 84 4 (.slice A n c) n (pcells (markL n k0)) ∧ w.grownBy w' (Value.ownBlock (.slice A n c))
set_option maxRecDepth 100000 in
set_option maxHeartbeats 2000000 in
theorem markPacketS_anyS (base : Nat) (A : Option Addr) (n c : Nat) (k0 : Int) (ps : List Pkt) (w : World) (h : w.ownsRow base 84 4 (.slice A n c) n (pcells ps)) (hn : n ≤ 4000000000) (hk : 0 ≤ k0 ∧ k0 ≤ 100000000) :
    Calls Try.prog 58 #[.slice A n c, .int .i64 k0] w (MarkPostS w base A n c k0) := by
  by_cases h0 : n = 0
  · subst h0
    have hps : ps = [] := List.eq_nil_of_length_eq_zero (by have := h.1; rw [pcells_len] at this; omega)
    subst hps
    have H := Lib.hid h
    clear h
    go_enter Try.func58, Try.ntmps58
    go_wp2
    refine wp_loop_rounds 1 ?_
    rw [rounds_succ]
    go_wp2
    go_ret
    exact ⟨ret_int (by omega), H.out, g_refl _ _⟩
  · obtain ⟨b, c', hv, hbb, hlt⟩ := h.form (by omega)
    obtain ⟨rfl, rfl⟩ : A = some ⟨b, 0, none⟩ ∧ c = c' := by injection hv with a1 a2 a3; exact ⟨a1, a3⟩
    have hl0 : ps.length = n := (pr_own h).1
    have R0 : MarkRelS w base b n c k0 (.int .i64 k0) (.int .i64 0) w := ⟨0, k0, ps, Nat.zero_le _, rfl, rfl, by omega, hl0, by simp, h, g_refl _ _⟩
    have HR := Lib.hid R0
    clear R0 h hv
    go_enter Try.func58, Try.ntmps58
    go_wp2
    go_loopw [1, 5] (fun kv i wr => MarkRelS w base b n c k0 kv i wr) (fun _ i _ => n - (intOf i).toNat)
    case atStart => exact HR.out
    case round =>
      obtain ⟨k, x, cur, hk', rfl, rfl, hx, hl, ht, ho, hgr⟩ := hrel
      clear HR
      have hx0 : 0 ≤ x ∧ x ≤ 17000000000 := by omega
      have HX := Lib.hid hx
      have HL := Lib.hid (And.intro hl ht)
      have HG := Lib.hid hgr
      clear hx hl ht hgr
      by_cases hlt : k < n
      · obtain ⟨b', off', p2, e1, e2, e3, e4⟩ := pr_at (k := k) (pr_own ho) hlt
        obtain ⟨rfl, rfl⟩ : b = b' ∧ 0 = off' := by injection e1 with e1; injection e1 with a b; exact ⟨a, b⟩
        obtain ⟨c0, c1, c2, c3⟩ := e4
        rw [Nat.zero_add] at c0 c1 c2 c3
        clear e1 e2 e3
        have f0 := World.ownsRow.frozenAt ho (k * 4)
        have f1 := World.ownsRow.frozenAt ho (k * 4 + 1)
        have f2 := World.ownsRow.frozenAt ho (k * 4 + 2)
        have f3 := World.ownsRow.frozenAt ho (k * 4 + 3)
        have G := Lib.hid (own_set_pkt ho k ⟨x, x + 1, x + 1 + 1, x + 1 + 1 + 1⟩)
        clear ho
        go_wp2
        go_roundw
        case rel => exact ⟨k + 1, _, _, by omega, by go_num, rfl, by have := HX.out; omega, by rw [List.length_set]; exact HL.out.1, set_take HL.out.1 hlt HL.out.2 (by rw [markL_get n k0 k hlt, HX.out, Option.some.injEq, Pkt.mk.injEq]; omega), G.out, g_set (g_set (g_set (g_set HG.out (.inl rfl) _) (.inl rfl) _) (.inl rfl) _) (.inl rfl) _⟩
        case measure => simp [intOf]; omega
      · obtain rfl : k = n := by omega
        have HE := Lib.hid (And.intro (take_all HL.out.2 (by have := HL.out.1; omega) (Nat.le_of_eq (markL_len _ _))) ho)
        clear ho
        go_wp2
        go_ret
        exact ⟨ret_int HX.out, by have e := HE.out.1; have o := HE.out.2; rw [e] at o; exact o, HG.out⟩
end Go.Proofs.Ytiodhdcgfdlknaa
namespace Go.Proofs.Ytiodhdcgfdlknaa
open Go.ChangeShapes Go.WideShapes Go.ChangeAt Go.RowKit Go.Deep
theorem pkts_openB {H : Type} {enc : TypeId × Value → H} {W : World} {base : Nat} {sp : Nat → Bool} {hd : Bool} {a : Option Addr} {n c : Nat} {d : DataW H} {p : List MemPlace}
    (h : DataW.Trod enc Try.prog W base sp hd 49 (.slice a n c) d p) : ∃ ps, PR W a n ps ∧ n ≤ 9223372036854775807 := by
  obtain ⟨fuel, hf⟩ := h
  rcases open_slice Try.underlying49 hf with ⟨hcs, _⟩ | ⟨x, len, cap, m, nf, D, Pl, hcs, hb, hl, hm, hmm, hx, hi⟩
  · simp [Value.cells] at hcs
    obtain ⟨rfl, rfl, rfl⟩ := hcs
    exact ⟨[], pr_nil _ _, by omega⟩
  · simp [Value.cells] at hcs
    obtain ⟨rfl, rfl, rfl⟩ := hcs
    have hn : n ≤ m := by rw [hmm]; split <;> omega
    have hC : Try.prog.cellsOf 48 = 4 := by kernel_rfl
    have hI : Try.prog.cellsOf 3 = 1 := by kernel_rfl
    rw [hC] at hi
    have hone : ∀ i, i < n → ∃ q : Pkt, W.cell? ((x.add (i * 4)).add 0) = some (.int .i64 q.peer) ∧ W.cell? ((x.add (i * 4)).add 1) = some (.int .i64 q.lane) ∧ W.cell? ((x.add (i * 4)).add 2) = some (.int .i64 q.size) ∧ W.cell? ((x.add (i * 4)).add 3) = some (.int .i64 q.id) := by
      intro i him
      obtain ⟨cs', hc, ht⟩ := hi i (by omega)
      obtain ⟨_, hcl, hat⟩ := World.cells?_some hc
      obtain ⟨y0, y1, y2, y3, nn, _, _, t0, t1, t2, t3⟩ := Go.Joins.trod_struct4 Try.underlying48 ht
      obtain ⟨q0, e0, _, _⟩ := DataW.trod_int Try.underlying3 t0
      obtain ⟨q1, e1, _, _⟩ := DataW.trod_int Try.underlying3 t1
      obtain ⟨q2, e2, _, _⟩ := DataW.trod_int Try.underlying3 t2
      obtain ⟨q3, e3, _, _⟩ := DataW.trod_int Try.underlying3 t3
      have g : ∀ (j : Nat) (v : Value), j < 4 → (cs'.drop j).take (Try.prog.cellsOf 3) = [v] → cs'[j]? = some v := by
        intro j v hj h
        rw [hI] at h
        have := congrArg (fun l : List Value => l[0]?) h
        simpa using this
      refine ⟨⟨q0, q1, q2, q3⟩, ?_, ?_, ?_, ?_⟩
      · rw [hat (i := 0) (by omega)]; exact g 0 _ (by omega) e0
      · rw [hat (i := 1) (by omega)]; exact g 1 _ (by omega) e1
      · rw [hat (i := 2) (by omega)]; exact g 2 _ (by omega) e2
      · rw [hat (i := 3) (by omega)]; exact g 3 _ (by omega) e3
    obtain ⟨ps, hl1, hps⟩ := list_of hone
    refine ⟨ps, ⟨hl1, fun hn0 => ?_⟩, by unfold maxLen at hm; omega⟩
    obtain ⟨b, off, spot⟩ := x
    obtain ⟨q, hq, _⟩ := hone 0 hn0
    have hspot : spot = none := by simpa [Addr.add] using World.cell?_spot hq
    subst hspot
    have ha : ∀ i j, ((⟨b, off, none⟩ : Addr).add i).add j = ⟨b, off + i + j, none⟩ := fun i j => by unfold Addr.add; split <;> split <;> simp_all
    refine ⟨b, off, rfl, World.block_lt_of_cell? W (a := ⟨b, off + 0 * 4 + 0, none⟩) (by rw [← ha]; exact hq), fun k p hp => ?_⟩
    obtain ⟨h0, h1, h2, h3⟩ := hps k p hp
    rw [ha] at h0 h1 h2 h3
    exact ⟨h0, h1, h2, h3⟩
theorem pkts_open1B {H : Type} {enc : TypeId × Value → H} {W : World} {base : Nat} {sp : Nat → Bool} {hd : Bool} {fuel : Nat} {v : Value} {y : DataW H × List MemPlace}
    (h : DataW.trod enc Try.prog W base sp hd fuel 49 [v] = some y) : ∃ a n c ps, v = .slice a n c ∧ PR W a n ps ∧ n ≤ 9223372036854775807 := by
  have h2 := h
  rcases open_slice Try.underlying49 h with ⟨hcs, _⟩ | ⟨x, len, cap, m, nf, D, Pl, hcs, _⟩
  · simp at hcs
    subst hcs
    obtain ⟨ps, h1, h3⟩ := pkts_openB (a := none) (n := 0) (c := 0) (d := y.1) (p := y.2) ⟨fuel, h2⟩
    exact ⟨none, 0, 0, ps, rfl, h1, h3⟩
  · simp at hcs
    subst hcs
    obtain ⟨ps, h1, h3⟩ := pkts_openB (a := some x) (n := len) (c := cap) (d := y.1) (p := y.2) ⟨fuel, h2⟩
    exact ⟨some x, len, cap, ps, rfl, h1, h3⟩
end Go.Proofs.Ytiodhdcgfdlknaa
namespace Go.Proofs.Ytiodhdcgfdlknaa
open Go.ChangeShapes Go.WideShapes Go.ChangeAt Go.RowKit Go.Deep
theorem pkts_openS {H : Type} {enc : TypeId × Value → H} {W : World} {base : Nat} {sp : Nat → Bool} {hd : Bool} {a : Option Addr} {n c : Nat} {d : DataW H} {p : List MemPlace}
    (h : DataW.Trod enc Try.prog W base sp hd 54 (.slice a n c) d p) : ∃ ps, PR W a n ps ∧ n ≤ 9223372036854775807 := by
  obtain ⟨fuel, hf⟩ := h
  rcases open_slice Try.underlying54 hf with ⟨hcs, _⟩ | ⟨x, len, cap, m, nf, D, Pl, hcs, hb, hl, hm, hmm, hx, hi⟩
  · simp [Value.cells] at hcs
    obtain ⟨rfl, rfl, rfl⟩ := hcs
    exact ⟨[], pr_nil _ _, by omega⟩
  · simp [Value.cells] at hcs
    obtain ⟨rfl, rfl, rfl⟩ := hcs
    have hn : n ≤ m := by rw [hmm]; split <;> omega
    have hC : Try.prog.cellsOf 147 = 4 := by kernel_rfl
    have hI : Try.prog.cellsOf 3 = 1 := by kernel_rfl
    rw [hC] at hi
    have hone : ∀ i, i < n → ∃ q : Pkt, W.cell? ((x.add (i * 4)).add 0) = some (.int .i64 q.peer) ∧ W.cell? ((x.add (i * 4)).add 1) = some (.int .i64 q.lane) ∧ W.cell? ((x.add (i * 4)).add 2) = some (.int .i64 q.size) ∧ W.cell? ((x.add (i * 4)).add 3) = some (.int .i64 q.id) := by
      intro i him
      obtain ⟨cs', hc, ht⟩ := hi i (by omega)
      obtain ⟨_, hcl, hat⟩ := World.cells?_some hc
      obtain ⟨y0, y1, y2, y3, nn, _, _, t0, t1, t2, t3⟩ := Go.Joins.trod_struct4 Try.underlying147 ht
      obtain ⟨q0, e0, _, _⟩ := DataW.trod_int Try.underlying3 t0
      obtain ⟨q1, e1, _, _⟩ := DataW.trod_int Try.underlying3 t1
      obtain ⟨q2, e2, _, _⟩ := DataW.trod_int Try.underlying3 t2
      obtain ⟨q3, e3, _, _⟩ := DataW.trod_int Try.underlying3 t3
      have g : ∀ (j : Nat) (v : Value), j < 4 → (cs'.drop j).take (Try.prog.cellsOf 3) = [v] → cs'[j]? = some v := by
        intro j v hj h
        rw [hI] at h
        have := congrArg (fun l : List Value => l[0]?) h
        simpa using this
      refine ⟨⟨q0, q1, q2, q3⟩, ?_, ?_, ?_, ?_⟩
      · rw [hat (i := 0) (by omega)]; exact g 0 _ (by omega) e0
      · rw [hat (i := 1) (by omega)]; exact g 1 _ (by omega) e1
      · rw [hat (i := 2) (by omega)]; exact g 2 _ (by omega) e2
      · rw [hat (i := 3) (by omega)]; exact g 3 _ (by omega) e3
    obtain ⟨ps, hl1, hps⟩ := list_of hone
    refine ⟨ps, ⟨hl1, fun hn0 => ?_⟩, by unfold maxLen at hm; omega⟩
    obtain ⟨b, off, spot⟩ := x
    obtain ⟨q, hq, _⟩ := hone 0 hn0
    have hspot : spot = none := by simpa [Addr.add] using World.cell?_spot hq
    subst hspot
    have ha : ∀ i j, ((⟨b, off, none⟩ : Addr).add i).add j = ⟨b, off + i + j, none⟩ := fun i j => by unfold Addr.add; split <;> split <;> simp_all
    refine ⟨b, off, rfl, World.block_lt_of_cell? W (a := ⟨b, off + 0 * 4 + 0, none⟩) (by rw [← ha]; exact hq), fun k p hp => ?_⟩
    obtain ⟨h0, h1, h2, h3⟩ := hps k p hp
    rw [ha] at h0 h1 h2 h3
    exact ⟨h0, h1, h2, h3⟩
theorem pkts_open1S {H : Type} {enc : TypeId × Value → H} {W : World} {base : Nat} {sp : Nat → Bool} {hd : Bool} {fuel : Nat} {v : Value} {y : DataW H × List MemPlace}
    (h : DataW.trod enc Try.prog W base sp hd fuel 54 [v] = some y) : ∃ a n c ps, v = .slice a n c ∧ PR W a n ps ∧ n ≤ 9223372036854775807 := by
  have h2 := h
  rcases open_slice Try.underlying54 h with ⟨hcs, _⟩ | ⟨x, len, cap, m, nf, D, Pl, hcs, _⟩
  · simp at hcs
    subst hcs
    obtain ⟨ps, h1, h3⟩ := pkts_openS (a := none) (n := 0) (c := 0) (d := y.1) (p := y.2) ⟨fuel, h2⟩
    exact ⟨none, 0, 0, ps, rfl, h1, h3⟩
  · simp at hcs
    subst hcs
    obtain ⟨ps, h1, h3⟩ := pkts_openS (a := some x) (n := len) (c := cap) (d := y.1) (p := y.2) ⟨fuel, h2⟩
    exact ⟨some x, len, cap, ps, rfl, h1, h3⟩
end Go.Proofs.Ytiodhdcgfdlknaa
