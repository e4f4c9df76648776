/-
  Chapter 1: validity, sizes: what the program's functions and the model's return. Conditions: a slice's length fits an int. Chapter 1: packets of a peer, equality: what the program's functions and the model's return. Conditions: the slice has at most 4000000000 packets. Chapter 1: equality of lists: what the program's function and the model's return. Conditions: the slices' lengths fit an int. A slice of bytes that comes in as an argument, as the walks know it. Conditions: none. A slice of packets that comes in as an argument, as the walks know it. Conditions: none. What the exact laws do with 
  Conditions: each lemma says them.
-/
import Derived.Test.YtiodhdcgfdlknaaKaZ4
import Derived.Deep.Slices
import Derived.Deep.Fields
import Derived.ChangeSame
import Derived.Lib.SmallJoins
import Derived.StillTailTactics
import Derived.Deep.RegionLaw
namespace Go.Proofs.Ytiodhdcgfdlknaa
open Go.RowKit
def inB (n lo hi : Int) : Bool := decide (lo ≤ n ∧ n ≤ hi)
theorem within_any (n lo hi : Int) (w : World) :
    Calls Try.prog 76 #[.int .i64 n, .int .i64 lo, .int .i64 hi] w fun e w' => e = .returned (.bool (inB n lo hi)) ∧ w = w' := by
  by_cases h1 : lo ≤ n
  · by_cases h2 : n ≤ hi
    · go_enter Try.func76, Try.ntmps76
      go_wp2
      go_ret
      exact ⟨ret_bool (by simp [inB, h1, h2]), rfl⟩
    · go_enter Try.func76, Try.ntmps76
      go_wp2
      go_ret
      exact ⟨ret_bool (by simp [inB, h2]), rfl⟩
  · go_enter Try.func76, Try.ntmps76
    go_wp2
    go_ret
    exact ⟨ret_bool (by simp only [inB, eq_comm (a := false), decide_eq_false_iff_not]; omega), rfl⟩
theorem vldB_eq (p : Pkt) : vldB p = (inB p.peer 0 7 && inB p.lane 0 3 && inB p.size 1 100 && inB p.id 0 9999) := by
  rw [Bool.eq_iff_iff]
  simp only [vldB, inB, Bool.and_eq_true, decide_eq_true_eq]
  omega
set_option maxHeartbeats 1000000 in
theorem vldI_any (p : Pkt) (w : World) :
    Calls Try.prog 147 #[.agg #[.int .i64 p.peer, .int .i64 p.lane, .int .i64 p.size, .int .i64 p.id]] w fun e w' => e = .returned (.bool (vldB p)) ∧ Below w.heap.size w w' := by
  have hb := below_alloc (Below.refl w.heap.size w) (.cells #[.int .i64 p.peer, .int .i64 p.lane, .int .i64 p.size, .int .i64 p.id] 74)
  rcases h1 : inB p.peer 0 7 with _ | _
  · go_enter Try.func147, Try.ntmps147
    go_wp2_with (go_at_call 76; refine (within_any _ _ _ _).mono ?_; rintro e w' ⟨rfl, rfl⟩)
    go_ret
    exact ⟨ret_bool (by rw [vldB_eq, h1]; rfl), hb⟩
  · rcases h2 : inB p.lane 0 3 with _ | _
    · go_enter Try.func147, Try.ntmps147
      go_wp2_with (go_at_call 76; refine (within_any _ _ _ _).mono ?_; rintro e w' ⟨rfl, rfl⟩)
      go_ret
      exact ⟨ret_bool (by rw [vldB_eq, h1, h2]; rfl), hb⟩
    · rcases h3 : inB p.size 1 100 with _ | _
      · go_enter Try.func147, Try.ntmps147
        go_wp2_with (go_at_call 76; refine (within_any _ _ _ _).mono ?_; rintro e w' ⟨rfl, rfl⟩)
        go_ret
        exact ⟨ret_bool (by rw [vldB_eq, h1, h2, h3]; rfl), hb⟩
      · rcases h4 : inB p.id 0 9999 with _ | _
        · go_enter Try.func147, Try.ntmps147
          go_wp2_with (go_at_call 76; refine (within_any _ _ _ _).mono ?_; rintro e w' ⟨rfl, rfl⟩)
          go_ret
          exact ⟨ret_bool (by rw [vldB_eq, h1, h2, h3, h4]; rfl), hb⟩
        · go_enter Try.func147, Try.ntmps147
          go_wp2_with (go_at_call 76; refine (within_any _ _ _ _).mono ?_; rintro e w' ⟨rfl, rfl⟩)
          go_ret
          exact ⟨ret_bool (by rw [vldB_eq, h1, h2, h3, h4]; rfl), hb⟩
def okB (ps : List Pkt) : Bool := decide (ps.length ≤ 64) && ps.all vldB
theorem take_snoc {α : Type} (l : List α) (k : Nat) (x : α) (h : l[k]? = some x) : l.take (k + 1) = l.take k ++ [x] := by
  rw [List.take_add_one, h]; rfl
theorem all_snoc (l : List Pkt) (k : Nat) (x : Pkt) (h : l[k]? = some x) (ha : (l.take k).all vldB = true) (hx : vldB x = true) : (l.take (k + 1)).all vldB = true := by
  rw [take_snoc l k x h, List.all_append, ha]
  simp [hx]
theorem all_fails (l : List Pkt) (k : Nat) (x : Pkt) (h : l[k]? = some x) (hx : vldB x = false) : l.all vldB = false := by
  rw [List.all_eq_false]
  exact ⟨x, List.mem_of_getElem? h, by simp [hx]⟩
theorem ok_bad {ps : List Pkt} {k : Nat} {p : Pkt} (h : ps[k]? = some p) (hx : vldB p = false) : false = okB ps := by
  rw [okB, all_fails ps k p h hx, Bool.and_false]
theorem ok_yes {ps : List Pkt} {k : Nat} (hl : ps.length ≤ 64) (hk : ps.length ≤ k) (h : (ps.take k).all vldB = true) : true = okB ps := by
  rw [List.take_of_length_le hk] at h
  simp [okB, hl, h]
theorem ok_long {ps : List Pkt} (h : 64 < ps.length) : false = okB ps := by
  have : decide (ps.length ≤ 64) = false := by simp; omega
  rw [okB, this, Bool.false_and]
def ValidRel (w : World) (ps : List Pkt) (n : Nat) (i : Value) (wr : World) : Prop :=
  ∃ k : Nat, k ≤ n ∧ i = .int .i64 (k : Int) ∧ (ps.take k).all vldB = true ∧ Below w.heap.size w wr
set_option maxHeartbeats 1000000 in
theorem okI_any (A : Option Addr) (n c : Nat) (ps : List Pkt) (w : World) (h : PR w A n ps) (hn : n ≤ 9223372036854775807) :
    Calls Try.prog 128 #[.slice A n c] w fun e w' => e = .returned (.bool (okB ps)) ∧ Below w.heap.size w w' := by
  by_cases h64 : n ≤ 64
  · go_enter Try.func128, Try.ntmps128
    go_wp2
    go_loopw [10] (fun i wr => ValidRel w ps n i wr) (fun i _ => n - (intOf i).toNat)
    case atStart => exact ⟨0, Nat.zero_le _, rfl, by simp, Below.refl _ _⟩
    case round =>
      obtain ⟨k, hk, rfl, hv, hbl⟩ := hrel
      have HV := Lib.hid hv
      clear hv
      by_cases hlt : k < n
      · obtain ⟨b, off, p, rfl, hb, hp, c0, c1, c2, c3⟩ := pr_at (pr_below h hbl) hlt
        have HP := Lib.hid hp
        have H := Lib.hid h
        have HB := Lib.hid hbl
        clear hp h hbl
        go_wp2_with fail
        refine (vldI_any p _).mono ?_
        rintro e w1 ⟨rfl, hb1⟩
        have HB1 := Lib.hid (below_seq (below_alloc HB.out _) hb1)
        clear hb1 HB c0 c1 c2 c3
        rcases hv : vldB p with _ | _
        · go_wp2
          go_ret
          exact ⟨ret_bool (ok_bad HP.out hv), HB1.out⟩
        · go_wp2
          go_roundw
          case rel => exact ⟨k + 1, by omega, by go_num, all_snoc ps k p HP.out HV.out hv, HB1.out⟩
          case measure => simp [intOf]; omega
      · obtain rfl : k = n := by omega
        have H := Lib.hid h
        clear h
        go_wp2
        go_ret
        exact ⟨ret_bool (ok_yes (by have := H.out.1; omega) (by have := H.out.1; omega) HV.out), hbl⟩
  · have H := Lib.hid h
    clear h
    go_enter Try.func128, Try.ntmps128
    go_wp2
    go_ret
    exact ⟨ret_bool (ok_long (by have := H.out.1; omega)), Below.refl _ _⟩
end Go.Proofs.Ytiodhdcgfdlknaa
namespace Go.Proofs.Ytiodhdcgfdlknaa
open Go.RowKit
end Go.Proofs.Ytiodhdcgfdlknaa
namespace Go.Proofs.Ytiodhdcgfdlknaa
open Go.RowKit
open Classical in
noncomputable def sameB (ps qs : List Pkt) : Bool := decide (ps = qs)
theorem same_yes {ps qs : List Pkt} (h : ps = qs) : true = sameB ps qs := by simp [sameB, h]
theorem same_no {ps qs : List Pkt} (h : ps ≠ qs) : false = sameB ps qs := by simp [sameB, h]
theorem pkt_ext {p q : Pkt} (h0 : p.peer = q.peer) (h1 : p.lane = q.lane) (h2 : p.size = q.size) (h3 : p.id = q.id) : p = q := by
  cases p; cases q; simp_all
theorem pkt_cases (p q : Pkt) : p = q ∨ (p.peer == q.peer) = false ∨ ((p.peer == q.peer) = true ∧ (p.lane == q.lane) = false) ∨ ((p.peer == q.peer) = true ∧ (p.lane == q.lane) = true ∧ (p.size == q.size) = false) ∨
    ((p.peer == q.peer) = true ∧ (p.lane == q.lane) = true ∧ (p.size == q.size) = true ∧ (p.id == q.id) = false) := by
  simp only [beq_iff_eq, beq_eq_false_iff_ne]
  by_cases h0 : p.peer = q.peer
  · by_cases h1 : p.lane = q.lane
    · by_cases h2 : p.size = q.size
      · by_cases h3 : p.id = q.id
        · exact .inl (pkt_ext h0 h1 h2 h3)
        · exact .inr (.inr (.inr (.inr ⟨h0, h1, h2, h3⟩)))
      · exact .inr (.inr (.inr (.inl ⟨h0, h1, h2⟩)))
    · exact .inr (.inr (.inl ⟨h0, h1⟩))
  · exact .inr (.inl h0)
def EqRel (ps qs : List Pkt) (w : World) (n : Nat) (i : Value) (wr : World) : Prop :=
  ∃ k : Nat, k ≤ n ∧ i = .int .i64 (k : Int) ∧ ps.take k = qs.take k ∧ Below w.heap.size w wr
theorem take_step {ps qs : List Pkt} {k : Nat} {p q : Pkt} (h : ps.take k = qs.take k) (hp : ps[k]? = some p) (hq : qs[k]? = some q) (he : p = q) : ps.take (k + 1) = qs.take (k + 1) := by
  rw [List.take_add_one, List.take_add_one, hp, hq, h, he]
theorem take_ne {ps qs : List Pkt} {k : Nat} {p q : Pkt} (hp : ps[k]? = some p) (hq : qs[k]? = some q) (he : p ≠ q) : ps ≠ qs := by
  rintro rfl
  rw [hp] at hq
  exact he (by injection hq)
theorem take_all {ps qs : List Pkt} {n : Nat} (h : ps.take n = qs.take n) (hp : ps.length ≤ n) (hq : qs.length ≤ n) : ps = qs := by
  rw [List.take_of_length_le hp, List.take_of_length_le hq] at h
  exact h
end Go.Proofs.Ytiodhdcgfdlknaa
namespace Go.Proofs.Ytiodhdcgfdlknaa
open Go.ChangeShapes Go.WideShapes Go.ChangeAt Go.RowKit
end Go.Proofs.Ytiodhdcgfdlknaa
namespace Go.Proofs.Ytiodhdcgfdlknaa
open Go.ChangeShapes Go.WideShapes Go.ChangeAt Go.RowKit Go.Deep
end Go.Proofs.Ytiodhdcgfdlknaa
namespace Go.Proofs.Ytiodhdcgfdlknaa
open Go.RowKit
open Classical in
noncomputable def pktB (p q : Pkt) : Bool := decide (p = q)
theorem pktB_yes {p q : Pkt} (h : p = q) : true = pktB p q := by simp [pktB, h]
theorem pktB_no {p q : Pkt} (h : p ≠ q) : false = pktB p q := by simp [pktB, h]
set_option maxRecDepth 100000 in
set_option maxHeartbeats 1000000 in
theorem eqPacket_any (p q : Pkt) (w : World) :
    Calls Try.prog 210 #[.agg #[.int .i64 p.peer, .int .i64 p.lane, .int .i64 p.size, .int .i64 p.id], .agg #[.int .i64 q.peer, .int .i64 q.lane, .int .i64 q.size, .int .i64 q.id]] w fun e w' => e = .returned (.bool (pktB p q)) ∧ Below w.heap.size w w' := by
  have hb := below_alloc (below_alloc (Below.refl w.heap.size w) (.cells #[.int .i64 p.peer, .int .i64 p.lane, .int .i64 p.size, .int .i64 p.id] 74)) (.cells #[.int .i64 q.peer, .int .i64 q.lane, .int .i64 q.size, .int .i64 q.id] 74)
  rcases pkt_cases p q with rfl | e0 | ⟨e0, e1⟩ | ⟨e0, e1, e2⟩ | ⟨e0, e1, e2, e3⟩
  · go_enter Try.func210, Try.ntmps210
    go_wp2
    go_ret
    exact ⟨ret_bool (pktB_yes rfl), hb⟩
  all_goals
    go_enter Try.func210, Try.ntmps210
    go_wp2
    go_ret
    exact ⟨ret_bool (pktB_no (by rintro rfl; simp at *)), hb⟩
set_option maxRecDepth 100000 in
set_option maxHeartbeats 2000000 in
theorem eqPacketS_any (A A2 : Option Addr) (n c n2 c2 : Nat) (ps qs : List Pkt) (w : World) (h : PR w A n ps) (h2 : PR w A2 n2 qs) (hn : n ≤ 9223372036854775807) (hn2 : n2 ≤ 9223372036854775807) :
    Calls Try.prog 202 #[.slice A n c, .slice A2 n2 c2] w fun e w' => e = .returned (.bool (sameB ps qs)) ∧ Below w.heap.size w w' := by
  have H := Lib.hid h
  have H2 := Lib.hid h2
  clear h h2
  by_cases hl : n = n2
  · subst hl
    go_enter Try.func202, Try.ntmps202
    go_wp2
    go_loopw [5] (fun i wr => EqRel ps qs w n i wr) (fun i _ => n - (intOf i).toNat)
    case atStart => exact ⟨0, Nat.zero_le _, rfl, by simp, Below.refl _ _⟩
    case round =>
      obtain ⟨k, hk, rfl, ht, hbl⟩ := hrel
      have HT := Lib.hid ht
      clear ht
      by_cases hlt : k < n
      · obtain ⟨b, off, p, rfl, hb, hp, c0, c1, c2, c3⟩ := pr_at (pr_below H.out hbl) hlt
        obtain ⟨b2, off2, q, rfl, hb2, hq, d0, d1, d2, d3⟩ := pr_at (pr_below H2.out hbl) hlt
        have HP := Lib.hid hp
        have HQ := Lib.hid hq
        have HB := Lib.hid hbl
        clear hp hq hbl
        have k0 : (0 : Int) ≤ (k : Int) := by omega
        have k1 : (k : Int) < (n : Int) := by omega
        go_wp2_with fail
        go_still_tail 8, (by kernel_rfl)
        change wpList _ _ _ _ _ wr.drew
        go_wp2_with fail
        refine (eqPacket_any p q _).mono ?_
        rintro e w1 ⟨rfl, hb1⟩
        have HB1 := Lib.hid (below_seq (HB.out.drew) hb1)
        clear hb1 c0 c1 c2 c3 d0 d1 d2 d3
        by_cases hpq : p = q
        · rw [← pktB_yes hpq]
          have HE := Lib.hid hpq
          clear hpq
          go_wp2
          go_roundw
          case rel => exact ⟨k + 1, by omega, by go_num, take_step HT.out HP.out HQ.out HE.out, HB1.out⟩
          case measure => simp [intOf]; omega
        · rw [← pktB_no hpq]
          have HE := Lib.hid hpq
          clear hpq
          go_wp2
          go_ret
          exact ⟨ret_bool (same_no (take_ne HP.out HQ.out HE.out)), HB1.out⟩
      · obtain rfl : k = n := by omega
        have HB := Lib.hid hbl
        clear hbl
        go_wp2
        go_ret
        exact ⟨ret_bool (same_yes (take_all HT.out (by have := H.out.1; omega) (by have := H2.out.1; omega))), HB.out⟩
  · have hlb : ((n : Int) == (n2 : Int)) = false := by simp; omega
    have HL := Lib.hid hl
    clear hl
    go_enter Try.func202, Try.ntmps202
    go_wp2
    go_ret
    exact ⟨ret_bool (same_no (by rintro rfl; exact HL.out (H.out.1.symm.trans H2.out.1))), Below.refl _ _⟩
def zeroP : Pkt := ⟨0, 0, 0, 0⟩
theorem zeros (n : Nat) : (madeCells (Value.cells (.agg #[.int .i64 0, .int .i64 0, .int .i64 0, .int .i64 0])) (n * 4)).toList = pcells (List.replicate n zeroP) := by
  have h1 : ∀ m, (madeCells (Value.cells (.agg #[.int .i64 0, .int .i64 0, .int .i64 0, .int .i64 0])) m).toList = List.replicate m (.int .i64 0) := by
    intro m
    apply List.ext_getElem
    · simp [madeCells]
    · intro i h1 h2
      simp only [madeCells, Value.cells, List.getElem_replicate, Array.getElem_toList, Array.getElem_map, Array.getElem_range]
      have : i % 4 = 0 ∨ i % 4 = 1 ∨ i % 4 = 2 ∨ i % 4 = 3 := by omega
      have hs : (#[Value.int .i64 0, Value.int .i64 0, Value.int .i64 0, Value.int .i64 0] : Array Value).size = 4 := rfl
      rw [hs]
      rcases this with e | e | e | e <;> rw [e] <;> rfl
  have h2 : ∀ m, pcells (List.replicate m zeroP) = List.replicate (m * 4) (.int .i64 0) := by
    intro m
    induction m with
    | zero => rfl
    | succ m ih =>
      rw [show (m + 1) * 4 = m * 4 + 1 + 1 + 1 + 1 from by omega]
      simp only [List.replicate_succ, pcells, ih]
      rfl
  rw [h1, h2]
theorem set_take {cur ps : List Pkt} {k n : Nat} {p : Pkt} (hc : cur.length = n) (hk : k < n) (h : cur.take k = ps.take k) (hp : ps[k]? = some p) : (cur.set k p).take (k + 1) = ps.take (k + 1) := by
  have h1 : (cur.set k p)[k]? = some p := by rw [List.getElem?_set_self (by omega)]
  rw [List.take_add_one, h1, List.take_set_of_le (Nat.le_refl _), h, List.take_add_one, hp]
def markL : Nat → Int → List Pkt
  | 0, _ => []
  | n + 1, k => ⟨k, k + 1, k + 2, k + 3⟩ :: markL n (k + 4)
theorem markL_len (n : Nat) (k : Int) : (markL n k).length = n := by
  induction n generalizing k with
  | zero => rfl
  | succ n ih => simp [markL, ih]
theorem markL_get (n : Nat) (k : Int) (i : Nat) (h : i < n) : (markL n k)[i]? = some ⟨k + 4 * i, k + 4 * i + 1, k + 4 * i + 2, k + 4 * i + 3⟩ := by
  induction n generalizing k i with
  | zero => omega
  | succ n ih =>
    cases i with
    | zero => simp [markL]
    | succ i =>
      have := ih (k + 4) i (by omega)
      simp only [markL, List.getElem?_cons_succ, this, Option.some.injEq, Pkt.mk.injEq]
      omega
def MarkRel (w : World) (base b n c : Nat) (k0 : Int) (kv i : Value) (wr : World) : Prop :=
  ∃ (k : Nat) (x : Int) (cur : List Pkt), k ≤ n ∧ i = .int .i64 (k : Int) ∧ kv = .int .i64 x ∧ x = k0 + 4 * k ∧ cur.length = n ∧ cur.take k = (markL n k0).take k ∧ wr.ownsRow base 74 4 (.slice (some ⟨b, 0, none⟩) n c) n (pcells cur) ∧ w.grownBy wr (some b)
def MarkPost (w : World) (base : Nat) (A : Option Addr) (n c : Nat) (k0 : Int) (e : Ending) (w' : World) : Prop :=
  e = .returned (.int .i64 (k0 + 4 * n)) ∧ w'.ownsRow base 74 4 (.slice A n c) n (pcells (markL n k0)) ∧ w.grownBy w' (Value.ownBlock (.slice A n c))
set_option maxRecDepth 100000 in
set_option maxHeartbeats 2000000 in
theorem markPacketS_any (base : Nat) (A : Option Addr) (n c : Nat) (k0 : Int) (ps : List Pkt) (w : World) (h : w.ownsRow base 74 4 (.slice A n c) n (pcells ps)) (hn : n ≤ 4000000000) (hk : 0 ≤ k0 ∧ k0 ≤ 100000000) :
    Calls Try.prog 160 #[.slice A n c, .int .i64 k0] w (MarkPost w base A n c k0) := by
  by_cases h0 : n = 0
  · subst h0
    have hps : ps = [] := List.eq_nil_of_length_eq_zero (by have := h.1; rw [pcells_len] at this; omega)
    subst hps
    have H := Lib.hid h
    clear h
    go_enter Try.func160, Try.ntmps160
    go_wp2
    refine wp_loop_rounds 1 ?_
    rw [rounds_succ]
    go_wp2
    go_ret
    exact ⟨ret_int (by omega), H.out, g_refl _ _⟩
  · obtain ⟨b, c', hv, hbb, hlt⟩ := h.form (by omega)
    obtain ⟨rfl, rfl⟩ : A = some ⟨b, 0, none⟩ ∧ c = c' := by injection hv with a1 a2 a3; exact ⟨a1, a3⟩
    have hl0 : ps.length = n := (pr_own h).1
    have R0 : MarkRel w base b n c k0 (.int .i64 k0) (.int .i64 0) w := ⟨0, k0, ps, Nat.zero_le _, rfl, rfl, by omega, hl0, by simp, h, g_refl _ _⟩
    have HR := Lib.hid R0
    clear R0 h hv
    go_enter Try.func160, Try.ntmps160
    go_wp2
    go_loopw [1, 5] (fun kv i wr => MarkRel w base b n c k0 kv i wr) (fun _ i _ => n - (intOf i).toNat)
    case atStart => exact HR.out
    case round =>
      obtain ⟨k, x, cur, hk', rfl, rfl, hx, hl, ht, ho, hgr⟩ := hrel
      clear HR
      have hx0 : 0 ≤ x ∧ x ≤ 17000000000 := by omega
      have HX := Lib.hid hx
      have HL := Lib.hid (And.intro hl ht)
      have HG := Lib.hid hgr
      clear hx hl ht hgr
      by_cases hlt : k < n
      · obtain ⟨b', off', p2, e1, e2, e3, e4⟩ := pr_at (k := k) (pr_own ho) hlt
        obtain ⟨rfl, rfl⟩ : b = b' ∧ 0 = off' := by injection e1 with e1; injection e1 with a b; exact ⟨a, b⟩
        obtain ⟨c0, c1, c2, c3⟩ := e4
        rw [Nat.zero_add] at c0 c1 c2 c3
        clear e1 e2 e3
        have f0 := World.ownsRow.frozenAt ho (k * 4)
        have f1 := World.ownsRow.frozenAt ho (k * 4 + 1)
        have f2 := World.ownsRow.frozenAt ho (k * 4 + 2)
        have f3 := World.ownsRow.frozenAt ho (k * 4 + 3)
        have G := Lib.hid (own_set_pkt ho k ⟨x, x + 1, x + 1 + 1, x + 1 + 1 + 1⟩)
        clear ho
        go_wp2
        go_roundw
        case rel => exact ⟨k + 1, _, _, by omega, by go_num, rfl, by have := HX.out; omega, by rw [List.length_set]; exact HL.out.1, set_take HL.out.1 hlt HL.out.2 (by rw [markL_get n k0 k hlt, HX.out, Option.some.injEq, Pkt.mk.injEq]; omega), G.out, g_set (g_set (g_set (g_set HG.out (.inl rfl) _) (.inl rfl) _) (.inl rfl) _) (.inl rfl) _⟩
        case measure => simp [intOf]; omega
      · obtain rfl : k = n := by omega
        have HE := Lib.hid (And.intro (take_all HL.out.2 (by have := HL.out.1; omega) (Nat.le_of_eq (markL_len _ _))) ho)
        clear ho
        go_wp2
        go_ret
        exact ⟨ret_int HX.out, by have e := HE.out.1; have o := HE.out.2; rw [e] at o; exact o, HG.out⟩
set_option maxRecDepth 100000 in
set_option maxHeartbeats 2000000 in
theorem heldPacketS_any (A : Option Addr) (n c : Nat) (k0 : Int) (w : World) (h : PR w A n (markL n k0)) (hn : n ≤ 4000000000) (hk : 0 ≤ k0 ∧ k0 ≤ 100000000) :
    Calls Try.prog 161 #[.slice A n c, .int .i64 k0] w fun e w' => e = .returned (.int .i64 (k0 + 4 * n)) ∧ w = w' := by
  have H := Lib.hid h
  clear h
  go_enter Try.func161, Try.ntmps161
  go_wp2
  go_loop [1, 5] (fun kv i => ∃ (k : Nat) (x : Int), k ≤ n ∧ i = .int .i64 (k : Int) ∧ kv = .int .i64 x ∧ x = k0 + 4 * k) (fun _ i => n - (intOf i).toNat)
  case atStart => exact ⟨0, k0, Nat.zero_le _, rfl, rfl, by omega⟩
  case round =>
    obtain ⟨k, x, hk', rfl, rfl, hx⟩ := hrel
    have hx0 : 0 ≤ x ∧ x ≤ 17000000000 := by omega
    have HX := Lib.hid hx
    by_cases hlt : k < n
    · obtain ⟨b, off, p, rfl, hb, hp, c0, c1, c2, c3⟩ := pr_at H.out hlt
      obtain rfl : p = ⟨x, x + 1, x + 1 + 1, x + 1 + 1 + 1⟩ := by
        rw [markL_get n k0 k hlt, ← hx] at hp
        injection hp with hp
        rw [← hp, Pkt.mk.injEq]
        omega
      clear hx hp
      go_wp2
      go_round
      case rel => exact ⟨k + 1, _, by omega, by go_num, rfl, by have := HX.out; omega⟩
      case measure => simp [intOf]; omega
    · obtain rfl : k = n := by omega
      clear hx
      go_wp2
      go_ret
      exact ⟨ret_int HX.out, rfl⟩
end Go.Proofs.Ytiodhdcgfdlknaa
namespace Go.Proofs.Ytiodhdcgfdlknaa
open Go.RowKit
end Go.Proofs.Ytiodhdcgfdlknaa
namespace Go.Proofs.Ytiodhdcgfdlknaa
open Go.RowKit
theorem pr_single {w : World} {b : Nat} {t : TypeId} {p : Pkt} (h : Blk w b t #[.int .i64 p.peer, .int .i64 p.lane, .int .i64 p.size, .int .i64 p.id]) : PR w (some ⟨b, 0, none⟩) 1 [p] :=
  ⟨rfl, fun _ => ⟨b, 0, rfl, blk_lt h, fun k q hk => by
    have hk0 : k = 0 := by
      rcases Nat.eq_zero_or_pos k with e | e
      · exact e
      · rw [List.getElem?_eq_none (by simp; omega)] at hk; cases hk
    subst hk0
    obtain rfl : p = q := by simpa using hk
    exact ⟨blk_cell h 0, blk_cell h 1, blk_cell h 2, blk_cell h 3⟩⟩⟩
theorem pr_old {w : World} {A : Option Addr} {n : Nat} {ps : List Pkt} (h : PR w A n ps) : 0 < n → ∀ b, A.map (·.block) = some b → b < w.heap.size := fun hn b hb => by
  obtain ⟨b', off, rfl, hlt, _⟩ := h.2 hn
  obtain rfl : b' = b := by simpa using hb
  exact hlt
end Go.Proofs.Ytiodhdcgfdlknaa
namespace Go.Proofs.Ytiodhdcgfdlknaa
open Go.RowKit
structure At (lo hi : Nat) (P : World → Prop) (w : World) : Prop where
  it : P w
  fit : hi ≤ w.heap.size
  loc : ∀ w', w.heap.size ≤ w'.heap.size → (∀ b, lo ≤ b → b < hi → w'.heap[b]? = w.heap[b]?) → P w'
structure Chg (lo hi : Nat) (w w' : World) : Prop where
  os : w'.os = w.os
  tape : w'.tape = w.tape
  output : w'.output = w.output
  size : w.heap.size ≤ w'.heap.size
  block : ∀ k, k < w.heap.size → (k < lo ∨ hi ≤ k) → w'.heap[k]? = w.heap[k]?
theorem chg_grown {lo hi : Nat} {w w' : World} {row : Option Nat} (h : w.grownBy w' row) (hr : ∀ b, row = some b → lo ≤ b ∧ b < hi) : Chg lo hi w w' :=
  ⟨h.os, h.tape, h.output, h.size, fun k hk ho => h.block k hk (fun e => by have := hr k e.symm; omega)⟩
theorem chg_below {lo hi : Nat} {w w' : World} (h : Below w.heap.size w w') : Chg lo hi w w' := ⟨h.os, h.tape, h.output, h.size, fun k hk _ => h.block k hk⟩
theorem chg_trans {lo hi : Nat} {w w' w2 : World} (h : Chg lo hi w w') (k : Chg lo hi w' w2) : Chg lo hi w w2 :=
  ⟨k.os.trans h.os, k.tape.trans h.tape, k.output.trans h.output, Nat.le_trans h.size k.size, fun i hi ho => (k.block i (Nat.lt_of_lt_of_le hi h.size) ho).trans (h.block i hi ho)⟩
theorem chg_mono {lo hi lo2 hi2 : Nat} {w w' : World} (h : Chg lo hi w w') (h1 : lo2 ≤ lo) (h2 : hi ≤ hi2) : Chg lo2 hi2 w w' :=
  ⟨h.os, h.tape, h.output, h.size, fun k hk ho => h.block k hk (by omega)⟩
theorem below_chg {B lo hi : Nat} {a w w' : World} (h : Below B a w) (hB : B ≤ w.heap.size) (hc : Chg lo hi w w') (hl : B ≤ lo) : Below B a w' :=
  h.trans ⟨hc.os, hc.tape, hc.output, hc.size, fun k hk => hc.block k (by omega) (.inl (by omega))⟩
section
variable {lo hi : Nat} {P Q : World → Prop} {w w' : World}
theorem at_chg {l2 h2 : Nat} (h : At lo hi P w) (hc : Chg l2 h2 w w') (hd : hi ≤ l2 ∨ h2 ≤ lo) : At lo hi P w' := by
  have hf := h.fit
  have e : ∀ b, lo ≤ b → b < hi → w'.heap[b]? = w.heap[b]? := fun b h1 h3 => hc.block b (by omega) (by omega)
  exact ⟨h.loc w' hc.size e, Nat.le_trans hf hc.size, fun w2 hs hb => h.loc w2 (Nat.le_trans hc.size hs) fun b h1 h3 => (hb b h1 h3).trans (e b h1 h3)⟩
theorem at_below (h : At lo hi P w) (hb : Below w.heap.size w w') : At lo hi P w' := at_chg (l2 := hi) (h2 := hi) h (chg_below hb) (.inl (Nat.le_refl _))
theorem at_mono {l2 h2 : Nat} (h : At lo hi P w) (h1 : l2 ≤ lo) (h3 : hi ≤ h2) (h4 : h2 ≤ w.heap.size) : At l2 h2 P w := ⟨h.it, h4, fun w2 hs hb => h.loc w2 hs fun b a c => hb b (by omega) (by omega)⟩
end
def BoxP (b : Nat) (t : TypeId) (cs : Array Value) (w : World) : Prop := Blk w b t cs
def OwnP (lo hi : Nat) (e : TypeId) (size : Nat) (v : Value) (n : Nat) (xs : List Value) (w : World) : Prop := w.ownsRow lo e size v n xs ∧ ∀ k, v.ownBlock = some k → lo ≤ k ∧ k < hi
theorem at_box {w : World} {b : Nat} {t : TypeId} {cs : Array Value} (h : Blk w b t cs) : At b (b + 1) (BoxP b t cs) w :=
  ⟨h, blk_lt h, fun _ _ hb => (hb b (Nat.le_refl _) (Nat.lt_succ_self _)).trans h⟩
theorem at_own {w : World} {lo hi : Nat} {e : TypeId} {size : Nat} {v : Value} {n : Nat} {xs : List Value} (h : w.ownsRow lo e size v n xs) (hf : hi ≤ w.heap.size) (hl : ∀ k, v.ownBlock = some k → k < hi) : At lo hi (OwnP lo hi e size v n xs) w := by
  refine ⟨⟨h, fun k hk => ⟨(h.lt k hk).1, hl k hk⟩⟩, hf, fun _ hs hb => ⟨⟨h.1, ?_⟩, fun k hk => ⟨(h.lt k hk).1, hl k hk⟩⟩⟩
  rcases h.2 with hn | ⟨g, cap, cur, rfl, hg, hgg, rest⟩
  · exact .inl hn
  · exact .inr ⟨g, cap, cur, rfl, hg, (hb g hg (hl g rfl)).trans hgg, rest⟩
theorem at_own_all {w : World} {lo : Nat} {e : TypeId} {size : Nat} {v : Value} {n : Nat} {xs : List Value} (h : w.ownsRow lo e size v n xs) : At lo w.heap.size (OwnP lo w.heap.size e size v n xs) w :=
  at_own h (Nat.le_refl _) fun k hk => (h.lt k hk).2
structure Iv where
  lo : Nat
  hi : Nat
  P : World → Prop
def Al : Nat → List Iv → World → Prop
  | lo, [], w => lo ≤ w.heap.size
  | lo, x :: r, w => lo ≤ x.lo ∧ x.lo ≤ x.hi ∧ At x.lo x.hi x.P w ∧ Al x.hi r w
theorem al_chg {w w' : World} {l2 h2 : Nat} (hc : Chg l2 h2 w w') : ∀ {L : List Iv} {lo : Nat}, h2 ≤ lo → Al lo L w → Al lo L w'
  | [], _, _, h => Nat.le_trans h hc.size
  | _ :: _, _, hl, ⟨h1, h3, h4, h5⟩ => ⟨h1, h3, at_chg h4 hc (.inr (by omega)), al_chg hc (by omega) h5⟩
theorem al_below {w w' : World} (hb : Below w.heap.size w w') {L : List Iv} {lo : Nat} (h : Al lo L w) : Al lo L w' := al_chg (l2 := 0) (h2 := 0) (chg_below hb) (Nat.zero_le _) h
theorem al_lo {w : World} : ∀ {L : List Iv} {lo : Nat}, Al lo L w → lo ≤ w.heap.size
  | [], _, h => h
  | _ :: _, _, ⟨h1, h3, h4, _⟩ => by have := h4.fit; omega
theorem al_get {w : World} : ∀ {L : List Iv} {lo : Nat} (i : Nat) {a b : Nat} {P : World → Prop}, Al lo L w → L[i]? = some ⟨a, b, P⟩ → At a b P w ∧ lo ≤ a ∧ a ≤ b
  | [], _, _, _, _, _, _, h => by simp at h
  | x :: r, _, 0, _, _, _, ⟨h1, h3, h4, h5⟩, h => by
    have h' := Option.some.inj (show some x = some _ from h)
    subst h'
    exact ⟨h4, h1, h3⟩
  | x :: r, _, i + 1, _, _, _, ⟨h1, h3, h4, h5⟩, h => by
    have := al_get i h5 (by simpa using h)
    exact ⟨this.1, by omega, this.2.2⟩
theorem al_snoc {w w' : World} (hb : Below w.heap.size w w') {a b : Nat} {P : World → Prop} (ha : w.heap.size ≤ a) (hab : a ≤ b) (hP : At a b P w') : ∀ {L : List Iv} {lo : Nat}, Al lo L w → Al lo (L ++ [⟨a, b, P⟩]) w'
  | [], _, h => ⟨Nat.le_trans h ha, hab, hP, hP.fit⟩
  | _ :: _, _, ⟨h1, h3, h4, h5⟩ => ⟨h1, h3, at_below h4 hb, al_snoc hb ha hab hP h5⟩
theorem al_put {w w' : World} : ∀ {L : List Iv} {lo : Nat} (i : Nat) {a b : Nat} {P Q : World → Prop}, Al lo L w → L[i]? = some ⟨a, b, P⟩ → Chg a b w w' → At a b Q w' → Al lo (L.set i ⟨a, b, Q⟩) w'
  | [], _, _, _, _, _, _, _, h, _, _ => by simp at h
  | x :: r, _, 0, a, b, _, Q, ⟨h1, h3, h4, h5⟩, h, hc, hq => by
    have h' := Option.some.inj (show some x = some _ from h)
    subst h'
    exact ⟨h1, h3, hq, al_chg hc (Nat.le_refl _) h5⟩
  | x :: r, _, i + 1, a, b, _, Q, ⟨h1, h3, h4, h5⟩, h, hc, hq => by
    have hg := al_get i h5 (by simpa using h)
    exact ⟨h1, h3, at_chg h4 hc (.inl hg.2.1), al_put i h5 (by simpa using h) hc hq⟩
structure Fm (w : World) (L : List Iv) (w' : World) : Prop where
  below : Below w.heap.size w w'
  al : Al w.heap.size L w'
section
variable {w w1 w2 : World} {L : List Iv}
theorem fm_zero (w : World) : Fm w [] w := ⟨Below.refl _ _, Nat.le_refl _⟩
theorem fm_below (h : Fm w L w1) (hb : Below w1.heap.size w1 w2) : Fm w L w2 := ⟨below_seq h.below hb, al_below hb h.al⟩
theorem fm_drew (h : Fm w L w1) : Fm w L w1.drew := fm_below h (Below.refl _ _).drew
theorem fm_alloc (h : Fm w L w1) (o : Obj) : Fm w L (w1.alloc o) := fm_below h (below_alloc (Below.refl _ _) o)
theorem fm_box (h : Fm w L w1) (t : TypeId) (cs : Array Value) : Fm w (L ++ [⟨w1.heap.size, w1.heap.size + 1, BoxP w1.heap.size t cs⟩]) (w1.alloc (.cells cs t)) :=
  ⟨below_alloc h.below _, al_snoc (below_alloc (Below.refl _ _) _) (Nat.le_refl _) (Nat.le_succ _) (at_box (blk_new w1 t cs)) h.al⟩
theorem fm_own {s : Nat} {e : TypeId} {size : Nat} {v : Value} {n : Nat} {xs : List Value} (h : Fm w L w1) (hb : Below w1.heap.size w1 w2) (ho : w2.ownsRow w1.heap.size e size v n xs) (hs : w1.heap.size = s) : Fm w (L ++ [⟨s, w2.heap.size, OwnP s w2.heap.size e size v n xs⟩]) w2 := by
  subst hs
  exact ⟨below_seq h.below hb, al_snoc hb (Nat.le_refl _) hb.size (at_own_all ho) h.al⟩
theorem fm_at {s : Nat} {P : World → Prop} (h : Fm w L w1) (hb : Below w1.heap.size w1 w2) (hP : At w1.heap.size w2.heap.size P w2) (hs : w1.heap.size = s) : Fm w (L ++ [⟨s, w2.heap.size, P⟩]) w2 := by
  subst hs
  exact ⟨below_seq h.below hb, al_snoc hb (Nat.le_refl _) hb.size hP h.al⟩
theorem fm_get (h : Fm w L w1) (i : Nat) {a b : Nat} {P : World → Prop} (hi : L[i]? = some ⟨a, b, P⟩) : P w1 := (al_get i h.al hi).1.it
theorem fm_put (h : Fm w L w1) (i : Nat) {a b : Nat} {P Q : World → Prop} (hi : L[i]? = some ⟨a, b, P⟩) (hc : Chg a b w1 w2) (hq : At a b Q w2) : Fm w (L.set i ⟨a, b, Q⟩) w2 := by
  have hg := al_get i h.al hi
  exact ⟨below_chg h.below h.below.size hc hg.2.1, al_put i h.al hi hc hq⟩
theorem fm_mark {a b : Nat} {e : TypeId} {size : Nat} {v : Value} {n : Nat} {xs ys : List Value} (h : Fm w L w1) (i : Nat) (hi : L[i]? = some ⟨a, b, OwnP a b e size v n xs⟩) (hg : w1.grownBy w2 v.ownBlock) (ho : w2.ownsRow a e size v n ys) : Fm w (L.set i ⟨a, b, OwnP a b e size v n ys⟩) w2 := by
  have hk := al_get i h.al hi
  have hl := hk.1.it.2
  exact fm_put h i hi (chg_grown hg fun b e => hl b e) (at_own ho (Nat.le_trans hk.1.fit hg.size) fun k e => (hl k e).2)
theorem fm_row {a b : Nat} {e : TypeId} {size : Nat} {v : Value} {n : Nat} {xs : List Value} (h : Fm w L w1) (i : Nat) (hi : L[i]? = some ⟨a, b, OwnP a b e size v n xs⟩) : w1.ownsRow a e size v n xs := (fm_get h i hi).1
theorem fm_blk {a b g : Nat} {t : TypeId} {cs : Array Value} (h : Fm w L w1) (i : Nat) (hi : L[i]? = some ⟨a, b, BoxP g t cs⟩) : Blk w1 g t cs := fm_get h i hi
theorem fm_lt (h : Fm w L w1) (i : Nat) {a b : Nat} {P : World → Prop} (hi : L[i]? = some ⟨a, b, P⟩) : w.heap.size ≤ a ∧ a ≤ b ∧ b ≤ w1.heap.size := by
  have := al_get i h.al hi
  exact ⟨this.2.1, this.2.2, this.1.fit⟩
end
end Go.Proofs.Ytiodhdcgfdlknaa
