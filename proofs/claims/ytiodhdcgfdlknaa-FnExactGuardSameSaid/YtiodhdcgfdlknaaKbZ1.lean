/-
  Chapter 1: validity, sizes: what the program's functions and the model's return. Conditions: a slice's length fits an int. Chapter 1: packets of a peer, equality: what the program's functions and the model's return. Conditions: the slice has at most 4000000000 packets. Chapter 1: equality of lists: what the program's function and the model's return. Conditions: the slices' lengths fit an int. A slice of bytes that comes in as an argument, as the walks know it. Conditions: none. A slice of packets that comes in as an argument, as the walks know it. Conditions: none. What the exact laws do with 
  Conditions: each lemma says them.
-/
import Derived.Test.YtiodhdcgfdlknaaKaZ1
import Derived.Deep.Slices
import Derived.Deep.Fields
import Derived.ChangeSame
import Derived.Lib.SmallJoins
import Derived.StillTailTactics
import Derived.Deep.RegionLaw
namespace Go.Proofs.Ytiodhdcgfdlknaa
open Go.RowKit
end Go.Proofs.Ytiodhdcgfdlknaa
namespace Go.Proofs.Ytiodhdcgfdlknaa
open Go.RowKit
end Go.Proofs.Ytiodhdcgfdlknaa
namespace Go.Proofs.Ytiodhdcgfdlknaa
open Go.RowKit
open Classical in
noncomputable def sameB (ps qs : List Pkt) : Bool := decide (ps = qs)
theorem same_yes {ps qs : List Pkt} (h : ps = qs) : true = sameB ps qs := by simp [sameB, h]
theorem same_no {ps qs : List Pkt} (h : ps ≠ qs) : false = sameB ps qs := by simp [sameB, h]
theorem same_iff {ps qs : List Pkt} : sameB ps qs = true ↔ ps = qs := by simp [sameB]
theorem pkt_ext {p q : Pkt} (h0 : p.peer = q.peer) (h1 : p.lane = q.lane) (h2 : p.size = q.size) (h3 : p.id = q.id) : p = q := by
  cases p; cases q; simp_all
theorem pkt_cases (p q : Pkt) : p = q ∨ (p.peer == q.peer) = false ∨ ((p.peer == q.peer) = true ∧ (p.lane == q.lane) = false) ∨ ((p.peer == q.peer) = true ∧ (p.lane == q.lane) = true ∧ (p.size == q.size) = false) ∨
    ((p.peer == q.peer) = true ∧ (p.lane == q.lane) = true ∧ (p.size == q.size) = true ∧ (p.id == q.id) = false) := by
  simp only [beq_iff_eq, beq_eq_false_iff_ne]
  by_cases h0 : p.peer = q.peer
  · by_cases h1 : p.lane = q.lane
    · by_cases h2 : p.size = q.size
      · by_cases h3 : p.id = q.id
        · exact .inl (pkt_ext h0 h1 h2 h3)
        · exact .inr (.inr (.inr (.inr ⟨h0, h1, h2, h3⟩)))
      · exact .inr (.inr (.inr (.inl ⟨h0, h1, h2⟩)))
    · exact .inr (.inr (.inl ⟨h0, h1⟩))
  · exact .inr (.inl h0)
def EqRel (ps qs : List Pkt) (w : World) (n : Nat) (i : Value) (wr : World) : Prop :=
  ∃ k : Nat, k ≤ n ∧ i = .int .i64 (k : Int) ∧ ps.take k = qs.take k ∧ Below w.heap.size w wr
theorem take_step {ps qs : List Pkt} {k : Nat} {p q : Pkt} (h : ps.take k = qs.take k) (hp : ps[k]? = some p) (hq : qs[k]? = some q) (he : p = q) : ps.take (k + 1) = qs.take (k + 1) := by
  rw [List.take_add_one, List.take_add_one, hp, hq, h, he]
theorem take_ne {ps qs : List Pkt} {k : Nat} {p q : Pkt} (hp : ps[k]? = some p) (hq : qs[k]? = some q) (he : p ≠ q) : ps ≠ qs := by
  rintro rfl
  rw [hp] at hq
  exact he (by injection hq)
theorem take_all {ps qs : List Pkt} {n : Nat} (h : ps.take n = qs.take n) (hp : ps.length ≤ n) (hq : qs.length ≤ n) : ps = qs := by
  rw [List.take_of_length_le hp, List.take_of_length_le hq] at h
  exact h
set_option maxHeartbeats 2000000 in
theorem eqI_any (A A2 : Option Addr) (n c n2 c2 : Nat) (ps qs : List Pkt) (w : World) (h : PR w A n ps) (h2 : PR w A2 n2 qs) (hn : n ≤ 9223372036854775807) (hn2 : n2 ≤ 9223372036854775807) :
    Calls Try.prog 187 #[.slice A n c, .slice A2 n2 c2] w fun e w' => e = .returned (.bool (sameB ps qs)) ∧ Below w.heap.size w w' := by
  have H := Lib.hid h
  have H2 := Lib.hid h2
  clear h h2
  by_cases hl : n = n2
  · subst hl
    go_enter Try.func187, Try.ntmps187
    go_wp2
    go_loopw [13] (fun i wr => EqRel ps qs w n i wr) (fun i _ => n - (intOf i).toNat)
    case atStart => exact ⟨0, Nat.zero_le _, rfl, by simp, Below.refl _ _⟩
    case round =>
      obtain ⟨k, hk, rfl, ht, hbl⟩ := hrel
      have HT := Lib.hid ht
      clear ht
      by_cases hlt : k < n
      · obtain ⟨b, off, p, rfl, hb, hp, c0, c1, c2, c3⟩ := pr_at (pr_below H.out hbl) hlt
        obtain ⟨b2, off2, q, rfl, hb2, hq, d0, d1, d2, d3⟩ := pr_at (pr_below H2.out hbl) hlt
        have HP := Lib.hid hp
        have HQ := Lib.hid hq
        have HB := Lib.hid hbl
        clear hp hq hbl
        have hcase : p = q ∨ (p.peer == q.peer) = false ∨ ((p.peer == q.peer) = true ∧ (p.lane == q.lane) = false) ∨ ((p.peer == q.peer) = true ∧ (p.lane == q.lane) = true ∧ (p.size == q.size) = false) ∨
            ((p.peer == q.peer) = true ∧ (p.lane == q.lane) = true ∧ (p.size == q.size) = true ∧ (p.id == q.id) = false) := pkt_cases p q
        rcases hcase with rfl | e0 | ⟨e0, e1⟩ | ⟨e0, e1, e2⟩ | ⟨e0, e1, e2, e3⟩
        · go_wp2
          go_quiet (fail)
          go_wp2
          go_roundw
          case rel => exact ⟨k + 1, by omega, by go_num, take_step HT.out HP.out HQ.out rfl, below_drewN HB.out _⟩
          case measure => simp [intOf]; omega
        all_goals
          go_wp2
          go_quiet (fail)
          go_wp2
          go_ret
          exact ⟨ret_bool (same_no (take_ne HP.out HQ.out (by rintro rfl; simp at *))), below_drewN HB.out _⟩
      · obtain rfl : k = n := by omega
        have HB := Lib.hid hbl
        clear hbl
        go_wp2
        go_ret
        exact ⟨ret_bool (same_yes (take_all HT.out (by have := H.out.1; omega) (by have := H2.out.1; omega))), HB.out⟩
  · have hlb : ((n : Int) == (n2 : Int)) = false := by simp; omega
    have HL := Lib.hid hl
    clear hl
    go_enter Try.func187, Try.ntmps187
    go_wp2
    go_ret
    exact ⟨ret_bool (same_no (by rintro rfl; exact HL.out (H.out.1.symm.trans H2.out.1))), Below.refl _ _⟩
set_option maxHeartbeats 400000 in
theorem sameI_any (A A2 : Option Addr) (n c n2 c2 : Nat) (ps qs : List Pkt) (w : World) (h : PR w A n ps) (h2 : PR w A2 n2 qs) (hn : n ≤ 9223372036854775807) (hn2 : n2 ≤ 9223372036854775807) :
    Calls Try.prog 167 #[.slice A n c, .slice A2 n2 c2] w fun e w' => e = .returned (.bool (sameB ps qs)) ∧ Below w.heap.size w w' := by
  have H := Lib.hid h
  have H2 := Lib.hid h2
  clear h h2
  go_enter Try.func167, Try.ntmps167
  go_wp2_with fail
  refine (eqI_any A A2 n c n2 c2 ps qs _ H.out H2.out hn hn2).mono ?_
  rintro e w1 ⟨rfl, hb⟩
  go_wp2
  go_ret
  exact ⟨rfl, hb⟩
set_option maxHeartbeats 2000000 in
theorem sameS_any (A A2 : Option Addr) (n c n2 c2 : Nat) (ps qs : List Pkt) (w : World) (h : PR w A n ps) (h2 : PR w A2 n2 qs) (hn : n ≤ 9223372036854775807) (hn2 : n2 ≤ 9223372036854775807) :
    Calls Try.prog 141 #[.slice A n c, .slice A2 n2 c2] w fun e w' => e = .returned (.bool (sameB ps qs)) ∧ Below w.heap.size w w' := by
  have H := Lib.hid h
  have H2 := Lib.hid h2
  clear h h2
  by_cases hl : n = n2
  · subst hl
    go_enter Try.func141, Try.ntmps141
    go_wp2
    go_loopw [5] (fun i wr => EqRel ps qs w n i wr) (fun i _ => n - (intOf i).toNat)
    case atStart => exact ⟨0, Nat.zero_le _, rfl, by simp, Below.refl _ _⟩
    case round =>
      obtain ⟨k, hk, rfl, ht, hbl⟩ := hrel
      have HT := Lib.hid ht
      clear ht
      by_cases hlt : k < n
      · obtain ⟨b, off, p, rfl, hb, hp, c0, c1, c2, c3⟩ := pr_at (pr_below H.out hbl) hlt
        obtain ⟨b2, off2, q, rfl, hb2, hq, d0, d1, d2, d3⟩ := pr_at (pr_below H2.out hbl) hlt
        have HP := Lib.hid hp
        have HQ := Lib.hid hq
        have HB := Lib.hid hbl
        clear hp hq hbl
        rcases pkt_cases p q with rfl | e0 | ⟨e0, e1⟩ | ⟨e0, e1, e2⟩ | ⟨e0, e1, e2, e3⟩
        · go_wp2
          go_quiet (fail)
          go_wp2
          go_roundw
          case rel => exact ⟨k + 1, by omega, by go_num, take_step HT.out HP.out HQ.out rfl, below_drewN HB.out _⟩
          case measure => simp [intOf]; omega
        all_goals
          go_wp2
          go_quiet (fail)
          go_wp2
          go_ret
          exact ⟨ret_bool (same_no (take_ne HP.out HQ.out (by rintro rfl; simp at *))), below_drewN HB.out _⟩
      · obtain rfl : k = n := by omega
        have HB := Lib.hid hbl
        clear hbl
        go_wp2
        go_ret
        exact ⟨ret_bool (same_yes (take_all HT.out (by have := H.out.1; omega) (by have := H2.out.1; omega))), HB.out⟩
  · have hlb : ((n : Int) == (n2 : Int)) = false := by simp; omega
    have HL := Lib.hid hl
    clear hl
    go_enter Try.func141, Try.ntmps141
    go_wp2
    go_ret
    exact ⟨ret_bool (same_no (by rintro rfl; exact HL.out (H.out.1.symm.trans H2.out.1))), Below.refl _ _⟩
end Go.Proofs.Ytiodhdcgfdlknaa
namespace Go.Proofs.Ytiodhdcgfdlknaa
open Go.ChangeShapes Go.WideShapes Go.ChangeAt Go.RowKit
end Go.Proofs.Ytiodhdcgfdlknaa
namespace Go.Proofs.Ytiodhdcgfdlknaa
open Go.ChangeShapes Go.WideShapes Go.ChangeAt Go.RowKit Go.Deep
theorem list_of {P : Nat → Pkt → Prop} {n : Nat} (h : ∀ i, i < n → ∃ q, P i q) : ∃ ps : List Pkt, ps.length = n ∧ ∀ k p, ps[k]? = some p → P k p := by
  induction n with
  | zero => exact ⟨[], rfl, fun k p hp => by simp at hp⟩
  | succ n ih =>
    obtain ⟨ps, hl, hp⟩ := ih fun i hi => h i (by omega)
    obtain ⟨q, hq⟩ := h n (by omega)
    refine ⟨ps ++ [q], by simp [hl], fun k p hk => ?_⟩
    rcases Nat.lt_or_ge k n with hlt | hge
    · rw [List.getElem?_append_left (by omega)] at hk
      exact hp k p hk
    · rw [List.getElem?_append_right (by omega)] at hk
      have : k - ps.length = 0 := by
        rcases Nat.eq_zero_or_pos (k - ps.length) with h0 | h0
        · exact h0
        · rw [List.getElem?_eq_none (by simp; omega)] at hk; cases hk
      rw [this] at hk
      obtain rfl : q = p := by simpa using hk
      obtain rfl : k = n := by omega
      exact hq
theorem pkts_open {H : Type} {enc : TypeId × Value → H} {W : World} {base : Nat} {sp : Nat → Bool} {hd : Bool} {a : Option Addr} {n c : Nat} {d : DataW H} {p : List MemPlace}
    (h : DataW.Trod enc Try.prog W base sp hd 221 (.slice a n c) d p) : ∃ ps, PR W a n ps ∧ n ≤ 9223372036854775807 := by
  obtain ⟨fuel, hf⟩ := h
  rcases open_slice Try.underlying221 hf with ⟨hcs, _⟩ | ⟨x, len, cap, m, nf, D, Pl, hcs, hb, hl, hm, hmm, hx, hi⟩
  · simp [Value.cells] at hcs
    obtain ⟨rfl, rfl, rfl⟩ := hcs
    exact ⟨[], pr_nil _ _, by omega⟩
  · simp [Value.cells] at hcs
    obtain ⟨rfl, rfl, rfl⟩ := hcs
    have hn : n ≤ m := by rw [hmm]; split <;> omega
    have hC : Try.prog.cellsOf 242 = 4 := by kernel_rfl
    have hI : Try.prog.cellsOf 3 = 1 := by kernel_rfl
    rw [hC] at hi
    have hone : ∀ i, i < n → ∃ q : Pkt, W.cell? ((x.add (i * 4)).add 0) = some (.int .i64 q.peer) ∧ W.cell? ((x.add (i * 4)).add 1) = some (.int .i64 q.lane) ∧ W.cell? ((x.add (i * 4)).add 2) = some (.int .i64 q.size) ∧ W.cell? ((x.add (i * 4)).add 3) = some (.int .i64 q.id) := by
      intro i him
      obtain ⟨cs', hc, ht⟩ := hi i (by omega)
      obtain ⟨_, hcl, hat⟩ := World.cells?_some hc
      obtain ⟨y0, y1, y2, y3, nn, _, _, t0, t1, t2, t3⟩ := Go.Joins.trod_struct4 Try.underlying242 ht
      obtain ⟨q0, e0, _, _⟩ := DataW.trod_int Try.underlying3 t0
      obtain ⟨q1, e1, _, _⟩ := DataW.trod_int Try.underlying3 t1
      obtain ⟨q2, e2, _, _⟩ := DataW.trod_int Try.underlying3 t2
      obtain ⟨q3, e3, _, _⟩ := DataW.trod_int Try.underlying3 t3
      have g : ∀ (j : Nat) (v : Value), j < 4 → (cs'.drop j).take (Try.prog.cellsOf 3) = [v] → cs'[j]? = some v := by
        intro j v hj h
        rw [hI] at h
        have := congrArg (fun l : List Value => l[0]?) h
        simpa using this
      refine ⟨⟨q0, q1, q2, q3⟩, ?_, ?_, ?_, ?_⟩
      · rw [hat (i := 0) (by omega)]; exact g 0 _ (by omega) e0
      · rw [hat (i := 1) (by omega)]; exact g 1 _ (by omega) e1
      · rw [hat (i := 2) (by omega)]; exact g 2 _ (by omega) e2
      · rw [hat (i := 3) (by omega)]; exact g 3 _ (by omega) e3
    obtain ⟨ps, hl1, hps⟩ := list_of hone
    refine ⟨ps, ⟨hl1, fun hn0 => ?_⟩, by unfold maxLen at hm; omega⟩
    obtain ⟨b, off, spot⟩ := x
    obtain ⟨q, hq, _⟩ := hone 0 hn0
    have hspot : spot = none := by simpa [Addr.add] using World.cell?_spot hq
    subst hspot
    have ha : ∀ i j, ((⟨b, off, none⟩ : Addr).add i).add j = ⟨b, off + i + j, none⟩ := fun i j => by unfold Addr.add; split <;> split <;> simp_all
    refine ⟨b, off, rfl, World.block_lt_of_cell? W (a := ⟨b, off + 0 * 4 + 0, none⟩) (by rw [← ha]; exact hq), fun k p hp => ?_⟩
    obtain ⟨h0, h1, h2, h3⟩ := hps k p hp
    rw [ha] at h0 h1 h2 h3
    exact ⟨h0, h1, h2, h3⟩
theorem pkts_open1 {H : Type} {enc : TypeId × Value → H} {W : World} {base : Nat} {sp : Nat → Bool} {hd : Bool} {fuel : Nat} {v : Value} {y : DataW H × List MemPlace}
    (h : DataW.trod enc Try.prog W base sp hd fuel 221 [v] = some y) : ∃ a n c ps, v = .slice a n c ∧ PR W a n ps ∧ n ≤ 9223372036854775807 := by
  have h2 := h
  rcases open_slice Try.underlying221 h with ⟨hcs, _⟩ | ⟨x, len, cap, m, nf, D, Pl, hcs, _⟩
  · simp at hcs
    subst hcs
    obtain ⟨ps, h1, h3⟩ := pkts_open (a := none) (n := 0) (c := 0) (d := y.1) (p := y.2) ⟨fuel, h2⟩
    exact ⟨none, 0, 0, ps, rfl, h1, h3⟩
  · simp at hcs
    subst hcs
    obtain ⟨ps, h1, h3⟩ := pkts_open (a := some x) (n := len) (c := cap) (d := y.1) (p := y.2) ⟨fuel, h2⟩
    exact ⟨some x, len, cap, ps, rfl, h1, h3⟩
end Go.Proofs.Ytiodhdcgfdlknaa
namespace Go.Proofs.Ytiodhdcgfdlknaa
open Go.RowKit
open Classical in
noncomputable def pktB (p q : Pkt) : Bool := decide (p = q)
theorem pktB_yes {p q : Pkt} (h : p = q) : true = pktB p q := by simp [pktB, h]
theorem pktB_no {p q : Pkt} (h : p ≠ q) : false = pktB p q := by simp [pktB, h]
set_option maxRecDepth 100000 in
set_option maxHeartbeats 400000 in
theorem toPacket_any (p : Pkt) (w : World) :
    Calls Try.prog 211 #[.agg #[.int .i64 p.peer, .int .i64 p.lane, .int .i64 p.size, .int .i64 p.id]] w fun e w' => e = .returned (.agg #[.int .i64 p.peer, .int .i64 p.lane, .int .i64 p.size, .int .i64 p.id]) ∧ Below w.heap.size w w' := by
  go_enter Try.func211, Try.ntmps211
  go_wp2
  refine bodyPost_ret (v := .agg #[.int .i64 p.peer, .int .i64 p.lane, .int .i64 p.size, .int .i64 p.id]) (by simp [results, Try.results211, go_sem]) rfl ⟨rfl, ?_⟩
  exact below_alloc (below_alloc (below_alloc (Below.refl _ _) _) _) _
set_option maxRecDepth 100000 in
set_option maxHeartbeats 1000000 in
theorem eqPacket_any (p q : Pkt) (w : World) :
    Calls Try.prog 210 #[.agg #[.int .i64 p.peer, .int .i64 p.lane, .int .i64 p.size, .int .i64 p.id], .agg #[.int .i64 q.peer, .int .i64 q.lane, .int .i64 q.size, .int .i64 q.id]] w fun e w' => e = .returned (.bool (pktB p q)) ∧ Below w.heap.size w w' := by
  have hb := below_alloc (below_alloc (Below.refl w.heap.size w) (.cells #[.int .i64 p.peer, .int .i64 p.lane, .int .i64 p.size, .int .i64 p.id] 74)) (.cells #[.int .i64 q.peer, .int .i64 q.lane, .int .i64 q.size, .int .i64 q.id] 74)
  rcases pkt_cases p q with rfl | e0 | ⟨e0, e1⟩ | ⟨e0, e1, e2⟩ | ⟨e0, e1, e2, e3⟩
  · go_enter Try.func210, Try.ntmps210
    go_wp2
    go_ret
    exact ⟨ret_bool (pktB_yes rfl), hb⟩
  all_goals
    go_enter Try.func210, Try.ntmps210
    go_wp2
    go_ret
    exact ⟨ret_bool (pktB_no (by rintro rfl; simp at *)), hb⟩
theorem szPacketS_any (A : Option Addr) (n c : Nat) (left : Int) (w : World) (hn : n ≤ 9223372036854775807) (hl : 0 ≤ left ∧ left ≤ 1048576) :
    Calls Try.prog 203 #[.slice A n c, .int .i64 left] w fun e w' => e = .returned (.int .i64 (if left < n then -1 else left - n)) ∧ w = w' := by
  by_cases h : left < n
  · rw [if_pos h]
    have h1 : left - (n : Int) < 0 := by omega
    go_enter Try.func203, Try.ntmps203
    go_wp2
    go_ret
    exact ⟨rfl, rfl⟩
  · rw [if_neg h]
    have h1 : 0 ≤ left - (n : Int) := by omega
    go_enter Try.func203, Try.ntmps203
    go_wp2
    go_ret
    exact ⟨rfl, rfl⟩
set_option maxRecDepth 100000 in
set_option maxHeartbeats 2000000 in
theorem eqPacketS_any (A A2 : Option Addr) (n c n2 c2 : Nat) (ps qs : List Pkt) (w : World) (h : PR w A n ps) (h2 : PR w A2 n2 qs) (hn : n ≤ 9223372036854775807) (hn2 : n2 ≤ 9223372036854775807) :
    Calls Try.prog 202 #[.slice A n c, .slice A2 n2 c2] w fun e w' => e = .returned (.bool (sameB ps qs)) ∧ Below w.heap.size w w' := by
  have H := Lib.hid h
  have H2 := Lib.hid h2
  clear h h2
  by_cases hl : n = n2
  · subst hl
    go_enter Try.func202, Try.ntmps202
    go_wp2
    go_loopw [5] (fun i wr => EqRel ps qs w n i wr) (fun i _ => n - (intOf i).toNat)
    case atStart => exact ⟨0, Nat.zero_le _, rfl, by simp, Below.refl _ _⟩
    case round =>
      obtain ⟨k, hk, rfl, ht, hbl⟩ := hrel
      have HT := Lib.hid ht
      clear ht
      by_cases hlt : k < n
      · obtain ⟨b, off, p, rfl, hb, hp, c0, c1, c2, c3⟩ := pr_at (pr_below H.out hbl) hlt
        obtain ⟨b2, off2, q, rfl, hb2, hq, d0, d1, d2, d3⟩ := pr_at (pr_below H2.out hbl) hlt
        have HP := Lib.hid hp
        have HQ := Lib.hid hq
        have HB := Lib.hid hbl
        clear hp hq hbl
        have k0 : (0 : Int) ≤ (k : Int) := by omega
        have k1 : (k : Int) < (n : Int) := by omega
        go_wp2_with fail
        go_still_tail 8, (by kernel_rfl)
        change wpList _ _ _ _ _ wr.drew
        go_wp2_with fail
        refine (eqPacket_any p q _).mono ?_
        rintro e w1 ⟨rfl, hb1⟩
        have HB1 := Lib.hid (below_seq (HB.out.drew) hb1)
        clear hb1 c0 c1 c2 c3 d0 d1 d2 d3
        by_cases hpq : p = q
        · rw [← pktB_yes hpq]
          have HE := Lib.hid hpq
          clear hpq
          go_wp2
          go_roundw
          case rel => exact ⟨k + 1, by omega, by go_num, take_step HT.out HP.out HQ.out HE.out, HB1.out⟩
          case measure => simp [intOf]; omega
        · rw [← pktB_no hpq]
          have HE := Lib.hid hpq
          clear hpq
          go_wp2
          go_ret
          exact ⟨ret_bool (same_no (take_ne HP.out HQ.out HE.out)), HB1.out⟩
      · obtain rfl : k = n := by omega
        have HB := Lib.hid hbl
        clear hbl
        go_wp2
        go_ret
        exact ⟨ret_bool (same_yes (take_all HT.out (by have := H.out.1; omega) (by have := H2.out.1; omega))), HB.out⟩
  · have hlb : ((n : Int) == (n2 : Int)) = false := by simp; omega
    have HL := Lib.hid hl
    clear hl
    go_enter Try.func202, Try.ntmps202
    go_wp2
    go_ret
    exact ⟨ret_bool (same_no (by rintro rfl; exact HL.out (H.out.1.symm.trans H2.out.1))), Below.refl _ _⟩
def zeroP : Pkt := ⟨0, 0, 0, 0⟩
theorem zeros (n : Nat) : (madeCells (Value.cells (.agg #[.int .i64 0, .int .i64 0, .int .i64 0, .int .i64 0])) (n * 4)).toList = pcells (List.replicate n zeroP) := by
  have h1 : ∀ m, (madeCells (Value.cells (.agg #[.int .i64 0, .int .i64 0, .int .i64 0, .int .i64 0])) m).toList = List.replicate m (.int .i64 0) := by
    intro m
    apply List.ext_getElem
    · simp [madeCells]
    · intro i h1 h2
      simp only [madeCells, Value.cells, List.getElem_replicate, Array.getElem_toList, Array.getElem_map, Array.getElem_range]
      have : i % 4 = 0 ∨ i % 4 = 1 ∨ i % 4 = 2 ∨ i % 4 = 3 := by omega
      have hs : (#[Value.int .i64 0, Value.int .i64 0, Value.int .i64 0, Value.int .i64 0] : Array Value).size = 4 := rfl
      rw [hs]
      rcases this with e | e | e | e <;> rw [e] <;> rfl
  have h2 : ∀ m, pcells (List.replicate m zeroP) = List.replicate (m * 4) (.int .i64 0) := by
    intro m
    induction m with
    | zero => rfl
    | succ m ih =>
      rw [show (m + 1) * 4 = m * 4 + 1 + 1 + 1 + 1 from by omega]
      simp only [List.replicate_succ, pcells, ih]
      rfl
  rw [h1, h2]
theorem set_take {cur ps : List Pkt} {k n : Nat} {p : Pkt} (hc : cur.length = n) (hk : k < n) (h : cur.take k = ps.take k) (hp : ps[k]? = some p) : (cur.set k p).take (k + 1) = ps.take (k + 1) := by
  have h1 : (cur.set k p)[k]? = some p := by rw [List.getElem?_set_self (by omega)]
  rw [List.take_add_one, h1, List.take_set_of_le (Nat.le_refl _), h, List.take_add_one, hp]
def CopyRel (w : World) (ps : List Pkt) (n : Nat) (i : Value) (wr : World) : Prop :=
  ∃ (k : Nat) (cur : List Pkt), k ≤ n ∧ i = .int .i64 (k : Int) ∧ cur.length = n ∧ cur.take k = ps.take k ∧ wr.ownsRow w.heap.size 74 4 (.slice (some ⟨w.heap.size, 0, none⟩) n n) n (pcells cur) ∧ Below w.heap.size w wr
def CopyPost (w : World) (ps : List Pkt) (n : Nat) (e : Ending) (w' : World) : Prop :=
  e = .returned (.slice (some ⟨w.heap.size, 0, none⟩) n n) ∧ w'.ownsRow w.heap.size 74 4 (.slice (some ⟨w.heap.size, 0, none⟩) n n) n (pcells ps) ∧ Below w.heap.size w w'
set_option maxRecDepth 100000 in
set_option maxHeartbeats 2000000 in
theorem toPacketS_any (A : Option Addr) (n c : Nat) (ps : List Pkt) (w : World) (h : PR w A n ps) (hn : n ≤ 1048576) :
    Calls Try.prog 204 #[.slice A n c] w (CopyPost w ps n) := by
  have H := Lib.hid h
  clear h
  obtain ⟨i0, hi, hz0, hz1, hz2⟩ := info_parts infoPkt
  go_enter Try.func204, Try.ntmps204
  go_wp2_with (refine wpList_make_full _ rfl (.tmp 6) (.tmp 6) 121 rfl w.heap.size 74 i0 _ 4 Try.underlying121 hi hz0 hz1 .i64 .i64 n n n rfl rfl rfl rfl (by rw [hz2]; omega) (by unfold maxLen; omega) (Nat.le_refl _) ?_; intro w1 ho1 hg1)
  have R0 : CopyRel w ps n (.int .i64 0) w1 := by
    rw [zeros] at ho1
    exact ⟨0, _, Nat.zero_le _, rfl, List.length_replicate, by simp, ho1, ⟨hg1.os, hg1.tape, hg1.output, hg1.size, fun i hi => hg1.block i hi (by simp)⟩⟩
  have HR := Lib.hid R0
  clear R0 ho1 hg1 hi hz0 hz1 hz2
  go_loopw [4] (fun i wr => CopyRel w ps n i wr) (fun i _ => n - (intOf i).toNat)
  case atStart => exact HR.out
  case round =>
    obtain ⟨k, cur, hk, rfl, hl, ht, ho, hbl⟩ := hrel
    clear HR
    by_cases hlt : k < n
    · obtain ⟨b, off, p, rfl, hb, hp, c0, c1, c2, c3⟩ := pr_at (pr_below H.out hbl) hlt
      have HP := Lib.hid (And.intro hp (And.intro hl ht))
      have HB := Lib.hid hbl
      have HO := Lib.hid ho
      clear hp hbl ho hl ht
      go_wp2_with fail
      refine (toPacket_any p _).mono ?_
      rintro e w2 ⟨rfl, hb2⟩
      have ho2 := own_below HO.out hb2
      have HB2 := Lib.hid (HB.out.trans (hb2.mono HB.out.size))
      clear hb2 c0 c1 c2 c3
      obtain ⟨b', off', p2, e1, e2, e3, e4⟩ := pr_at (k := k) (pr_own ho2) hlt
      obtain ⟨rfl, rfl⟩ : w.heap.size = b' ∧ 0 = off' := by injection e1 with e1; injection e1 with a b; exact ⟨a, b⟩
      obtain ⟨c0, c1, c2, c3⟩ := e4
      rw [Nat.zero_add] at c0 c1 c2 c3
      clear e1 e2 e3
      have f0 := World.ownsRow.frozenAt ho2 (k * 4)
      have f1 := World.ownsRow.frozenAt ho2 (k * 4 + 1)
      have f2 := World.ownsRow.frozenAt ho2 (k * 4 + 2)
      have f3 := World.ownsRow.frozenAt ho2 (k * 4 + 3)
      have G := Lib.hid (own_set_pkt ho2 k p)
      clear ho2
      go_wp2
      go_roundw
      case rel => exact ⟨k + 1, _, by omega, by go_num, by rw [List.length_set]; exact HP.out.2.1, set_take HP.out.2.1 hlt HP.out.2.2 HP.out.1, G.out, (((HB2.out.setCell (Nat.le_refl _) _).setCell (Nat.le_refl _) _).setCell (Nat.le_refl _) _).setCell (Nat.le_refl _) _⟩
      case measure => simp [intOf]; omega
    · obtain rfl : k = n := by omega
      have HE := Lib.hid (And.intro (take_all ht (by have := H.out.1; omega) (by have := H.out.1; omega)) (And.intro ho hbl))
      clear ht ho hbl
      go_wp2
      go_ret
      exact ⟨rfl, by have e := HE.out.1; have o := HE.out.2.1; rw [e] at o; exact o, HE.out.2.2⟩
end Go.Proofs.Ytiodhdcgfdlknaa
namespace Go.Proofs.Ytiodhdcgfdlknaa
open Go.RowKit
end Go.Proofs.Ytiodhdcgfdlknaa
namespace Go.Proofs.Ytiodhdcgfdlknaa
open Go.RowKit
theorem pr_old {w : World} {A : Option Addr} {n : Nat} {ps : List Pkt} (h : PR w A n ps) : 0 < n → ∀ b, A.map (·.block) = some b → b < w.heap.size := fun hn b hb => by
  obtain ⟨b', off, rfl, hlt, _⟩ := h.2 hn
  obtain rfl : b' = b := by simpa using hb
  exact hlt
end Go.Proofs.Ytiodhdcgfdlknaa
namespace Go.Proofs.Ytiodhdcgfdlknaa
open Go.RowKit
structure At (lo hi : Nat) (P : World → Prop) (w : World) : Prop where
  it : P w
  fit : hi ≤ w.heap.size
  loc : ∀ w', w.heap.size ≤ w'.heap.size → (∀ b, lo ≤ b → b < hi → w'.heap[b]? = w.heap[b]?) → P w'
structure Chg (lo hi : Nat) (w w' : World) : Prop where
  os : w'.os = w.os
  tape : w'.tape = w.tape
  output : w'.output = w.output
  size : w.heap.size ≤ w'.heap.size
  block : ∀ k, k < w.heap.size → (k < lo ∨ hi ≤ k) → w'.heap[k]? = w.heap[k]?
theorem chg_grown {lo hi : Nat} {w w' : World} {row : Option Nat} (h : w.grownBy w' row) (hr : ∀ b, row = some b → lo ≤ b ∧ b < hi) : Chg lo hi w w' :=
  ⟨h.os, h.tape, h.output, h.size, fun k hk ho => h.block k hk (fun e => by have := hr k e.symm; omega)⟩
theorem chg_below {lo hi : Nat} {w w' : World} (h : Below w.heap.size w w') : Chg lo hi w w' := ⟨h.os, h.tape, h.output, h.size, fun k hk _ => h.block k hk⟩
theorem below_chg {B lo hi : Nat} {a w w' : World} (h : Below B a w) (hB : B ≤ w.heap.size) (hc : Chg lo hi w w') (hl : B ≤ lo) : Below B a w' :=
  h.trans ⟨hc.os, hc.tape, hc.output, hc.size, fun k hk => hc.block k (by omega) (.inl (by omega))⟩
section
variable {lo hi : Nat} {P Q : World → Prop} {w w' : World}
theorem at_chg {l2 h2 : Nat} (h : At lo hi P w) (hc : Chg l2 h2 w w') (hd : hi ≤ l2 ∨ h2 ≤ lo) : At lo hi P w' := by
  have hf := h.fit
  have e : ∀ b, lo ≤ b → b < hi → w'.heap[b]? = w.heap[b]? := fun b h1 h3 => hc.block b (by omega) (by omega)
  exact ⟨h.loc w' hc.size e, Nat.le_trans hf hc.size, fun w2 hs hb => h.loc w2 (Nat.le_trans hc.size hs) fun b h1 h3 => (hb b h1 h3).trans (e b h1 h3)⟩
theorem at_below (h : At lo hi P w) (hb : Below w.heap.size w w') : At lo hi P w' := at_chg (l2 := hi) (h2 := hi) h (chg_below hb) (.inl (Nat.le_refl _))
theorem at_mono {l2 h2 : Nat} (h : At lo hi P w) (h1 : l2 ≤ lo) (h3 : hi ≤ h2) (h4 : h2 ≤ w.heap.size) : At l2 h2 P w := ⟨h.it, h4, fun w2 hs hb => h.loc w2 hs fun b a c => hb b (by omega) (by omega)⟩
end
def BoxP (b : Nat) (t : TypeId) (cs : Array Value) (w : World) : Prop := Blk w b t cs
def OwnP (lo hi : Nat) (e : TypeId) (size : Nat) (v : Value) (n : Nat) (xs : List Value) (w : World) : Prop := w.ownsRow lo e size v n xs ∧ ∀ k, v.ownBlock = some k → lo ≤ k ∧ k < hi
theorem at_box {w : World} {b : Nat} {t : TypeId} {cs : Array Value} (h : Blk w b t cs) : At b (b + 1) (BoxP b t cs) w :=
  ⟨h, blk_lt h, fun _ _ hb => (hb b (Nat.le_refl _) (Nat.lt_succ_self _)).trans h⟩
theorem at_own {w : World} {lo hi : Nat} {e : TypeId} {size : Nat} {v : Value} {n : Nat} {xs : List Value} (h : w.ownsRow lo e size v n xs) (hf : hi ≤ w.heap.size) (hl : ∀ k, v.ownBlock = some k → k < hi) : At lo hi (OwnP lo hi e size v n xs) w := by
  refine ⟨⟨h, fun k hk => ⟨(h.lt k hk).1, hl k hk⟩⟩, hf, fun _ hs hb => ⟨⟨h.1, ?_⟩, fun k hk => ⟨(h.lt k hk).1, hl k hk⟩⟩⟩
  rcases h.2 with hn | ⟨g, cap, cur, rfl, hg, hgg, rest⟩
  · exact .inl hn
  · exact .inr ⟨g, cap, cur, rfl, hg, (hb g hg (hl g rfl)).trans hgg, rest⟩
theorem at_own_all {w : World} {lo : Nat} {e : TypeId} {size : Nat} {v : Value} {n : Nat} {xs : List Value} (h : w.ownsRow lo e size v n xs) : At lo w.heap.size (OwnP lo w.heap.size e size v n xs) w :=
  at_own h (Nat.le_refl _) fun k hk => (h.lt k hk).2
structure Iv where
  lo : Nat
  hi : Nat
  P : World → Prop
def Al : Nat → List Iv → World → Prop
  | lo, [], w => lo ≤ w.heap.size
  | lo, x :: r, w => lo ≤ x.lo ∧ x.lo ≤ x.hi ∧ At x.lo x.hi x.P w ∧ Al x.hi r w
theorem al_chg {w w' : World} {l2 h2 : Nat} (hc : Chg l2 h2 w w') : ∀ {L : List Iv} {lo : Nat}, h2 ≤ lo → Al lo L w → Al lo L w'
  | [], _, _, h => Nat.le_trans h hc.size
  | _ :: _, _, hl, ⟨h1, h3, h4, h5⟩ => ⟨h1, h3, at_chg h4 hc (.inr (by omega)), al_chg hc (by omega) h5⟩
theorem al_below {w w' : World} (hb : Below w.heap.size w w') {L : List Iv} {lo : Nat} (h : Al lo L w) : Al lo L w' := al_chg (l2 := 0) (h2 := 0) (chg_below hb) (Nat.zero_le _) h
theorem al_get {w : World} : ∀ {L : List Iv} {lo : Nat} (i : Nat) {a b : Nat} {P : World → Prop}, Al lo L w → L[i]? = some ⟨a, b, P⟩ → At a b P w ∧ lo ≤ a ∧ a ≤ b
  | [], _, _, _, _, _, _, h => by simp at h
  | x :: r, _, 0, _, _, _, ⟨h1, h3, h4, h5⟩, h => by
    have h' := Option.some.inj (show some x = some _ from h)
    subst h'
    exact ⟨h4, h1, h3⟩
  | x :: r, _, i + 1, _, _, _, ⟨h1, h3, h4, h5⟩, h => by
    have := al_get i h5 (by simpa using h)
    exact ⟨this.1, by omega, this.2.2⟩
theorem al_snoc {w w' : World} (hb : Below w.heap.size w w') {a b : Nat} {P : World → Prop} (ha : w.heap.size ≤ a) (hab : a ≤ b) (hP : At a b P w') : ∀ {L : List Iv} {lo : Nat}, Al lo L w → Al lo (L ++ [⟨a, b, P⟩]) w'
  | [], _, h => ⟨Nat.le_trans h ha, hab, hP, hP.fit⟩
  | _ :: _, _, ⟨h1, h3, h4, h5⟩ => ⟨h1, h3, at_below h4 hb, al_snoc hb ha hab hP h5⟩
theorem al_put {w w' : World} : ∀ {L : List Iv} {lo : Nat} (i : Nat) {a b : Nat} {P Q : World → Prop}, Al lo L w → L[i]? = some ⟨a, b, P⟩ → Chg a b w w' → At a b Q w' → Al lo (L.set i ⟨a, b, Q⟩) w'
  | [], _, _, _, _, _, _, _, h, _, _ => by simp at h
  | x :: r, _, 0, a, b, _, Q, ⟨h1, h3, h4, h5⟩, h, hc, hq => by
    have h' := Option.some.inj (show some x = some _ from h)
    subst h'
    exact ⟨h1, h3, hq, al_chg hc (Nat.le_refl _) h5⟩
  | x :: r, _, i + 1, a, b, _, Q, ⟨h1, h3, h4, h5⟩, h, hc, hq => by
    have hg := al_get i h5 (by simpa using h)
    exact ⟨h1, h3, at_chg h4 hc (.inl hg.2.1), al_put i h5 (by simpa using h) hc hq⟩
structure Fm (w : World) (L : List Iv) (w' : World) : Prop where
  below : Below w.heap.size w w'
  al : Al w.heap.size L w'
section
variable {w w1 w2 : World} {L : List Iv}
theorem fm_zero (w : World) : Fm w [] w := ⟨Below.refl _ _, Nat.le_refl _⟩
theorem fm_below (h : Fm w L w1) (hb : Below w1.heap.size w1 w2) : Fm w L w2 := ⟨below_seq h.below hb, al_below hb h.al⟩
theorem fm_drew (h : Fm w L w1) : Fm w L w1.drew := fm_below h (Below.refl _ _).drew
theorem fm_alloc (h : Fm w L w1) (o : Obj) : Fm w L (w1.alloc o) := fm_below h (below_alloc (Below.refl _ _) o)
theorem fm_box (h : Fm w L w1) (t : TypeId) (cs : Array Value) : Fm w (L ++ [⟨w1.heap.size, w1.heap.size + 1, BoxP w1.heap.size t cs⟩]) (w1.alloc (.cells cs t)) :=
  ⟨below_alloc h.below _, al_snoc (below_alloc (Below.refl _ _) _) (Nat.le_refl _) (Nat.le_succ _) (at_box (blk_new w1 t cs)) h.al⟩
theorem fm_get (h : Fm w L w1) (i : Nat) {a b : Nat} {P : World → Prop} (hi : L[i]? = some ⟨a, b, P⟩) : P w1 := (al_get i h.al hi).1.it
theorem fm_put (h : Fm w L w1) (i : Nat) {a b : Nat} {P Q : World → Prop} (hi : L[i]? = some ⟨a, b, P⟩) (hc : Chg a b w1 w2) (hq : At a b Q w2) : Fm w (L.set i ⟨a, b, Q⟩) w2 := by
  have hg := al_get i h.al hi
  exact ⟨below_chg h.below h.below.size hc hg.2.1, al_put i h.al hi hc hq⟩
theorem fm_blk {a b g : Nat} {t : TypeId} {cs : Array Value} (h : Fm w L w1) (i : Nat) (hi : L[i]? = some ⟨a, b, BoxP g t cs⟩) : Blk w1 g t cs := fm_get h i hi
end
end Go.Proofs.Ytiodhdcgfdlknaa
