/-
  What the exact laws do with packets: copies, comparison, marks. Conditions: a list has at most 1048576 packets.
-/
import Derived.Test.YtaccbmgbkalknabDoorBase
import Derived.Test.YtaccbmgbkalknabDoorAppPkt
import Derived.Test.YtaccbmgbkalknabDoorC1c
import Derived.StillTailTactics
namespace Go.Proofs.YtaccbmgbkalknabDoor
open Go.RowKit

open Classical in
noncomputable def pktB (p q : Pkt) : Bool := decide (p = q)
theorem pktB_yes {p q : Pkt} (h : p = q) : true = pktB p q := by simp [pktB, h]
theorem pktB_no {p q : Pkt} (h : p ≠ q) : false = pktB p q := by simp [pktB, h]
theorem pat_below {w w' : World} {b o : Nat} {p : Pkt} (h : PAt w b o p) (hb : Below w.heap.size w w') (hlt : b < w.heap.size) : PAt w' b o p := pat_keep h fun x => (bcell hb).1 b x hlt
set_option maxRecDepth 100000 in
set_option maxHeartbeats 400000 in
theorem toPacket_any (p : Pkt) (w : World) :
    Calls Tryd.prog 24 #[.agg #[.int .i64 p.peer, .int .i64 p.lane, .int .i64 p.size, .int .i64 p.id]] w fun e w' => e = .returned (.agg #[.int .i64 p.peer, .int .i64 p.lane, .int .i64 p.size, .int .i64 p.id]) ∧ Below w.heap.size w w' := by
  go_enter Tryd.func24, Tryd.ntmps24
  go_wp2
  refine bodyPost_ret (v := .agg #[.int .i64 p.peer, .int .i64 p.lane, .int .i64 p.size, .int .i64 p.id]) (by simp [results, Tryd.results24, go_sem]) rfl ⟨rfl, ?_⟩
  exact below_alloc (below_alloc (below_alloc (Below.refl _ _) _) _) _
set_option maxRecDepth 100000 in
set_option maxHeartbeats 1000000 in
theorem eqPacket_any (p q : Pkt) (w : World) :
    Calls Tryd.prog 25 #[.agg #[.int .i64 p.peer, .int .i64 p.lane, .int .i64 p.size, .int .i64 p.id], .agg #[.int .i64 q.peer, .int .i64 q.lane, .int .i64 q.size, .int .i64 q.id]] w fun e w' => e = .returned (.bool (pktB p q)) ∧ Below w.heap.size w w' := by
  have hb := below_alloc (below_alloc (Below.refl w.heap.size w) (.cells #[.int .i64 p.peer, .int .i64 p.lane, .int .i64 p.size, .int .i64 p.id] 47)) (.cells #[.int .i64 q.peer, .int .i64 q.lane, .int .i64 q.size, .int .i64 q.id] 47)
  rcases pkt_cases p q with rfl | e0 | ⟨e0, e1⟩ | ⟨e0, e1, e2⟩ | ⟨e0, e1, e2, e3⟩
  · go_enter Tryd.func25, Tryd.ntmps25
    go_wp2
    go_ret
    exact ⟨ret_bool (pktB_yes rfl), hb⟩
  all_goals
    go_enter Tryd.func25, Tryd.ntmps25
    go_wp2
    go_ret
    exact ⟨ret_bool (pktB_no (by rintro rfl; simp at *)), hb⟩
theorem szPacketS_any (A : Option Addr) (n c : Nat) (left : Int) (w : World) (hn : n ≤ 9223372036854775807) (hl : 0 ≤ left ∧ left ≤ 1048576) :
    Calls Tryd.prog 10 #[.slice A n c, .int .i64 left] w fun e w' => e = .returned (.int .i64 (if left < n then -1 else left - n)) ∧ w = w' := by
  by_cases h : left < n
  · rw [if_pos h]
    have h1 : left - (n : Int) < 0 := by omega
    go_enter Tryd.func10, Tryd.ntmps10
    go_wp2
    go_ret
    exact ⟨rfl, rfl⟩
  · rw [if_neg h]
    have h1 : 0 ≤ left - (n : Int) := by omega
    go_enter Tryd.func10, Tryd.ntmps10
    go_wp2
    go_ret
    exact ⟨rfl, rfl⟩
set_option maxRecDepth 100000 in
set_option maxHeartbeats 2000000 in
theorem eqPacketS_any (A A2 : Option Addr) (n c n2 c2 : Nat) (ps qs : List Pkt) (w : World) (h : PR w A n ps) (h2 : PR w A2 n2 qs) (hn : n ≤ 9223372036854775807) (hn2 : n2 ≤ 9223372036854775807) :
    Calls Tryd.prog 14 #[.slice A n c, .slice A2 n2 c2] w fun e w' => e = .returned (.bool (sameB ps qs)) ∧ Below w.heap.size w w' := by
  have H := Lib.hid h
  have H2 := Lib.hid h2
  clear h h2
  by_cases hl : n = n2
  · subst hl
    go_enter Tryd.func14, Tryd.ntmps14
    go_wp2
    go_loopw [5] (fun i wr => EqRel ps qs w n i wr) (fun i _ => n - (intOf i).toNat)
    case atStart => exact ⟨0, Nat.zero_le _, rfl, by simp, Below.refl _ _⟩
    case round =>
      obtain ⟨k, hk, rfl, ht, hbl⟩ := hrel
      have HT := Lib.hid ht
      clear ht
      by_cases hlt : k < n
      · obtain ⟨b, off, p, rfl, hb, hp, c0, c1, c2, c3⟩ := pr_at (pr_below H.out hbl) hlt
        obtain ⟨b2, off2, q, rfl, hb2, hq, d0, d1, d2, d3⟩ := pr_at (pr_below H2.out hbl) hlt
        have HP := Lib.hid hp
        have HQ := Lib.hid hq
        have HB := Lib.hid hbl
        clear hp hq hbl
        have k0 : (0 : Int) ≤ (k : Int) := by omega
        have k1 : (k : Int) < (n : Int) := by omega
        go_wp2_with fail
        go_still_tail 8, (by kernel_rfl)
        change wpList _ _ _ _ _ wr.drew
        go_wp2_with fail
        refine (eqPacket_any p q _).mono ?_
        rintro e w1 ⟨rfl, hb1⟩
        have HB1 := Lib.hid (below_seq (HB.out.drew) hb1)
        clear hb1 c0 c1 c2 c3 d0 d1 d2 d3
        by_cases hpq : p = q
        · rw [← pktB_yes hpq]
          have HE := Lib.hid hpq
          clear hpq
          go_wp2
          go_roundw
          case rel => exact ⟨k + 1, by omega, by go_num, take_step HT.out HP.out HQ.out HE.out, HB1.out⟩
          case measure => simp [intOf]; omega
        · rw [← pktB_no hpq]
          have HE := Lib.hid hpq
          clear hpq
          go_wp2
          go_ret
          exact ⟨ret_bool (same_no (take_ne HP.out HQ.out HE.out)), HB1.out⟩
      · obtain rfl : k = n := by omega
        have HB := Lib.hid hbl
        clear hbl
        go_wp2
        go_ret
        exact ⟨ret_bool (same_yes (take_all HT.out (by have := H.out.1; omega) (by have := H2.out.1; omega))), HB.out⟩
  · have hlb : ((n : Int) == (n2 : Int)) = false := by simp; omega
    have HL := Lib.hid hl
    clear hl
    go_enter Tryd.func14, Tryd.ntmps14
    go_wp2
    go_ret
    exact ⟨ret_bool (same_no (by rintro rfl; exact HL.out (H.out.1.symm.trans H2.out.1))), Below.refl _ _⟩
def zeroP : Pkt := ⟨0, 0, 0, 0⟩
theorem zeros (n : Nat) : (madeCells (Value.cells (.agg #[.int .i64 0, .int .i64 0, .int .i64 0, .int .i64 0])) (n * 4)).toList = pcells (List.replicate n zeroP) := by
  have h1 : ∀ m, (madeCells (Value.cells (.agg #[.int .i64 0, .int .i64 0, .int .i64 0, .int .i64 0])) m).toList = List.replicate m (.int .i64 0) := by
    intro m
    apply List.ext_getElem
    · simp [madeCells]
    · intro i h1 h2
      simp only [madeCells, Value.cells, List.getElem_replicate, Array.getElem_toList, Array.getElem_map, Array.getElem_range]
      have : i % 4 = 0 ∨ i % 4 = 1 ∨ i % 4 = 2 ∨ i % 4 = 3 := by omega
      have hs : (#[Value.int .i64 0, Value.int .i64 0, Value.int .i64 0, Value.int .i64 0] : Array Value).size = 4 := rfl
      rw [hs]
      rcases this with e | e | e | e <;> rw [e] <;> rfl
  have h2 : ∀ m, pcells (List.replicate m zeroP) = List.replicate (m * 4) (.int .i64 0) := by
    intro m
    induction m with
    | zero => rfl
    | succ m ih =>
      rw [show (m + 1) * 4 = m * 4 + 1 + 1 + 1 + 1 from by omega]
      simp only [List.replicate_succ, pcells, ih]
      rfl
  rw [h1, h2]
theorem set_take {cur ps : List Pkt} {k n : Nat} {p : Pkt} (hc : cur.length = n) (hk : k < n) (h : cur.take k = ps.take k) (hp : ps[k]? = some p) : (cur.set k p).take (k + 1) = ps.take (k + 1) := by
  have h1 : (cur.set k p)[k]? = some p := by rw [List.getElem?_set_self (by omega)]
  rw [List.take_add_one, h1, List.take_set_of_le (Nat.le_refl _), h, List.take_add_one, hp]
def CopyRel (w : World) (ps : List Pkt) (n : Nat) (i : Value) (wr : World) : Prop :=
  ∃ (k : Nat) (cur : List Pkt), k ≤ n ∧ i = .int .i64 (k : Int) ∧ cur.length = n ∧ cur.take k = ps.take k ∧ wr.ownsRow w.heap.size 47 4 (.slice (some ⟨w.heap.size, 0, none⟩) n n) n (pcells cur) ∧ Below w.heap.size w wr
def CopyPost (w : World) (ps : List Pkt) (n : Nat) (e : Ending) (w' : World) : Prop :=
  e = .returned (.slice (some ⟨w.heap.size, 0, none⟩) n n) ∧ w'.ownsRow w.heap.size 47 4 (.slice (some ⟨w.heap.size, 0, none⟩) n n) n (pcells ps) ∧ Below w.heap.size w w'
set_option maxRecDepth 100000 in
set_option maxHeartbeats 2000000 in
theorem toPacketS_any (A : Option Addr) (n c : Nat) (ps : List Pkt) (w : World) (h : PR w A n ps) (hn : n ≤ 1048576) :
    Calls Tryd.prog 12 #[.slice A n c] w (CopyPost w ps n) := by
  have H := Lib.hid h
  clear h
  obtain ⟨i0, hi, hz0, hz1, hz2⟩ := info_parts infoPkt
  go_enter Tryd.func12, Tryd.ntmps12
  go_wp2_with (refine wpList_make_full _ rfl (.tmp 6) (.tmp 6) 24 rfl w.heap.size 47 i0 _ 4 Tryd.underlying24 hi hz0 hz1 .i64 .i64 n n n rfl rfl rfl rfl (by rw [hz2]; omega) (by unfold maxLen; omega) (Nat.le_refl _) ?_; intro w1 ho1 hg1)
  have R0 : CopyRel w ps n (.int .i64 0) w1 := by
    rw [zeros] at ho1
    exact ⟨0, _, Nat.zero_le _, rfl, List.length_replicate, by simp, ho1, ⟨hg1.os, hg1.tape, hg1.output, hg1.size, fun i hi => hg1.block i hi (by simp)⟩⟩
  have HR := Lib.hid R0
  clear R0 ho1 hg1 hi hz0 hz1 hz2
  go_loopw [4] (fun i wr => CopyRel w ps n i wr) (fun i _ => n - (intOf i).toNat)
  case atStart => exact HR.out
  case round =>
    obtain ⟨k, cur, hk, rfl, hl, ht, ho, hbl⟩ := hrel
    clear HR
    by_cases hlt : k < n
    · obtain ⟨b, off, p, rfl, hb, hp, c0, c1, c2, c3⟩ := pr_at (pr_below H.out hbl) hlt
      have HP := Lib.hid (And.intro hp (And.intro hl ht))
      have HB := Lib.hid hbl
      have HO := Lib.hid ho
      clear hp hbl ho hl ht
      go_wp2_with fail
      refine (toPacket_any p _).mono ?_
      rintro e w2 ⟨rfl, hb2⟩
      have ho2 := own_below HO.out hb2
      have HB2 := Lib.hid (HB.out.trans (hb2.mono HB.out.size))
      clear hb2 c0 c1 c2 c3
      obtain ⟨b', off', p2, e1, e2, e3, e4⟩ := pr_at (k := k) (pr_own ho2) hlt
      obtain ⟨rfl, rfl⟩ : w.heap.size = b' ∧ 0 = off' := by injection e1 with e1; injection e1 with a b; exact ⟨a, b⟩
      obtain ⟨c0, c1, c2, c3⟩ := e4
      rw [Nat.zero_add] at c0 c1 c2 c3
      clear e1 e2 e3
      have f0 := World.ownsRow.frozenAt ho2 (k * 4)
      have f1 := World.ownsRow.frozenAt ho2 (k * 4 + 1)
      have f2 := World.ownsRow.frozenAt ho2 (k * 4 + 2)
      have f3 := World.ownsRow.frozenAt ho2 (k * 4 + 3)
      have G := Lib.hid (own_set_pkt ho2 k p)
      clear ho2
      go_wp2
      go_roundw
      case rel => exact ⟨k + 1, _, by omega, by go_num, by rw [List.length_set]; exact HP.out.2.1, set_take HP.out.2.1 hlt HP.out.2.2 HP.out.1, G.out, (((HB2.out.setCell (Nat.le_refl _) _).setCell (Nat.le_refl _) _).setCell (Nat.le_refl _) _).setCell (Nat.le_refl _) _⟩
      case measure => simp [intOf]; omega
    · obtain rfl : k = n := by omega
      have HE := Lib.hid (And.intro (take_all ht (by have := H.out.1; omega) (by have := H.out.1; omega)) (And.intro ho hbl))
      clear ht ho hbl
      go_wp2
      go_ret
      exact ⟨rfl, by have e := HE.out.1; have o := HE.out.2.1; rw [e] at o; exact o, HE.out.2.2⟩
end Go.Proofs.YtaccbmgbkalknabDoor
