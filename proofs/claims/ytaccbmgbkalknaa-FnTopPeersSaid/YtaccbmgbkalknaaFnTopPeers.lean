/-
  The law FnTopPeers returns true at every argument: the top peers have no less than those behind them, and than those left out. Conditions: none.
-/
import Derived.Test.YtaccbmgbkalknaaLift
import Derived.Test.YtaccbmgbkalknaaYd
import Derived.Test.YtaccbmgbkalknaaYL
import Derived.Test.YtaccbmgbkalknaaMay
import Derived.Test.YtaccbmgbkalknaaLifts
import Derived.Test.YtaccbmgbkalknaaMake
namespace Go.Proofs.Ytaccbmgbkalknaa.fnTopPeers
open Go.ChangeShapes Go.WideShapes Go.ChangeAt Go.RowKit

def bcells (bs : List Bool) : List Value := bs.map (fun x => Value.bool x)
theorem infoBool : (Try.prog.info? 4).map (fun i => (i.zero, i.size, i.bytes)) = some (some (.bool false), 1, 1) := by kernel_rfl
theorem zerosB (n : Nat) : (madeCells (Value.cells (.bool false)) (n * 1)).toList = bcells (List.replicate n false) := by
  apply List.ext_getElem
  · simp [madeCells, bcells]
  · intro i h1 h2
    simp [madeCells, bcells, Value.cells, Nat.mod_one]
theorem own_set_bool {w : World} {base b n c : Nat} {e : TypeId} {bs : List Bool} (h : w.ownsRow base e 1 (.slice (some ⟨b, 0, none⟩) n c) n (bcells bs)) (k : Nat) (x : Bool) :
    (w.setCell ⟨b, k, none⟩ (.bool x)).ownsRow base e 1 (.slice (some ⟨b, 0, none⟩) n c) n (bcells (bs.set k x)) := by
  have h1 := (h.stored k (.bool x)).1
  rwa [show (bcells bs).set k (.bool x) = bcells (bs.set k x) by unfold bcells; rw [List.map_set]] at h1
theorem bool_at {w : World} {base b n c : Nat} {e : TypeId} {bs : List Bool} (h : w.ownsRow base e 1 (.slice (some ⟨b, 0, none⟩) n c) n (bcells bs)) {k : Nat} {v : Bool} (hk : bs[k]? = some v) : w.cell? ⟨b, k, none⟩ = some (.bool v) := by
  have hc := h.cells (g := b) rfl
  have ha : ∀ j, (⟨b, 0, none⟩ : Addr).add j = ⟨b, j, none⟩ := fun j => by unfold Addr.add; split <;> simp_all
  simp only [ha] at hc
  exact hc _ _ (by unfold bcells; rw [List.getElem?_map, hk]; rfl)
/-- those that are chosen -/
def ChB (n k : Nat) (R : List Int) (bs : List Bool) : Prop := bs.length = n ∧ ∀ j, j < n → bs[j]? = some (decide ((j : Int) ∈ R.take k))
theorem ch_zero (n : Nat) (R : List Int) : ChB n 0 R (List.replicate n false) := ⟨List.length_replicate, fun j hj => by simp [hj]⟩
theorem ch_step {n k t : Nat} {R : List Int} {bs : List Bool} (h : ChB n k R bs) (ht : R[k]? = some (t : Int)) (htn : t < n) : ChB n (k + 1) R (bs.set t true) := by
  refine ⟨by rw [List.length_set]; exact h.1, fun j hj => ?_⟩
  rw [List.take_add_one, ht]
  by_cases e : t = j
  · subst e
    rw [List.getElem?_set_self (by rw [h.1]; exact htn)]
    simp
  · rw [List.getElem?_set_ne e, h.2 j hj]
    congr 1
    rw [decide_eq_decide]
    simp only [Option.toList_some, List.mem_append, List.mem_singleton]
    constructor
    · exact fun h => .inl h
    · rintro (h | h)
      · exact h
      · omega
def T1 (w w4 : World) (A1 A2 : Option Addr) (n m b : Nat) (us R : List Int) (i : Value) (wr : World) : Prop :=
  ∃ (k : Nat) (bs : List Bool), k ≤ m ∧ i = .int .i64 (k : Int) ∧ ChB n k R bs ∧ NR wr A1 n us ∧ NR wr A2 m R ∧ wr.ownsRow w4.heap.size 4 1 (.slice (some ⟨b, 0, none⟩) n n) n (bcells bs) ∧ Below w4.heap.size w4 wr ∧ Below w.heap.size w wr
def T2 (w : World) (A1 A2 : Option Addr) (n m b base : Nat) (us R : List Int) (i : Value) (wr : World) : Prop :=
  ∃ (k : Nat) (bs : List Bool), k ≤ n ∧ i = .int .i64 (k : Int) ∧ ChB n m R bs ∧ NR wr A1 n us ∧ NR wr A2 m R ∧ wr.ownsRow base 4 1 (.slice (some ⟨b, 0, none⟩) n n) n (bcells bs) ∧ Below w.heap.size w wr
theorem last_le {us R : List Int} {q m j : Nat} {z : Int} (hR : R = (topL us).take q) (hm : R.length = m + 1) (hz : R[m]? = some z) (hj : j < us.length) (hn : ¬ (j : Int) ∈ R) : keyOf us j ≤ keyOf us z := by
  have h1 : (j : Int) ∈ topL us := top_mem.2 ⟨by omega, by omega⟩
  obtain ⟨i, hi⟩ := List.mem_iff_getElem?.1 h1
  have hq : m < q ∧ m + 1 ≤ (topL us).length := by rw [hR, List.length_take] at hm; omega
  have h2 : m < i := by
    rcases Nat.lt_or_ge i (m + 1) with h | h
    · exfalso
      refine hn (List.mem_of_getElem? (i := i) ?_)
      rw [hR, List.getElem?_take, if_pos (by omega)]
      exact hi
    · exact h
  have h3 : (topL us)[m]? = some z := by rw [hR, List.getElem?_take, if_pos hq.1] at hz; exact hz
  exact desc_le (top_desc us) h2 h3 hi
set_option maxRecDepth 20000 in
set_option maxHeartbeats 8000000 in
theorem walk (A : Option Addr) (n c : Nat) (w : World) (h : Bytes w A n c) :
    Calls Try.prog 6 #[.slice A n c] w fun e w' => e = .returned (.bool true) ∧ Below w.heap.size w w' := by
  have HB := Lib.hid h
  clear h
  by_cases hbig : ¬ n ≤ 1048576
  · go_enter Try.func6, Try.ntmps6
    go_wp2
    go_ret
    exact ⟨rfl, Below.refl _ _⟩
  have hbig' : n ≤ 1048576 := by omega
  clear hbig
  go_enter Try.func6, Try.ntmps6
  go_wp2_with fail
  refine (drawTop_any A n c _ HB.out).mono ?_
  rintro e w1 ⟨A1, n1, c1, us, x, rfl, hn9, hnc, hcm, hx1, hr, hb⟩
  obtain ⟨hc1, hf1⟩ := bcell hb
  have B1 := Lib.hid (show Below w.heap.size w w1 from (by first | exact below_seq (Below.refl w.heap.size w) hb | exact below_seq1 (Below.refl w.heap.size w) hb | exact below_seq2 (Below.refl w.heap.size w) hb | exact below_seq3 (Below.refl w.heap.size w) hb | exact below_seq4 (Below.refl w.heap.size w) hb))
  have R1 := Lib.hid hb
  have hz1 := hb.size
  try simp at hz1
  clear hb
  have Q1 := Lib.hid hr
  clear hr
  rcases hk : tpB us x with _ | _
  · have HK := Lib.hid hk
    clear hk
    go_wp2_with fail
    refine (tpI_rd A1 n1 c1 us [] x false _ Q1.out (by omega) (by rw [tpL, HK.out]; rfl) HK.out).mono ?_
    rintro e w2 ⟨A2, n2, c2, rfl, hn2, hnc2, hr2, hb⟩
    obtain ⟨hc2, hf2⟩ := bcell hb
    have B2 := Lib.hid (show Below w.heap.size w w2 from (by first | exact below_seq B1.out hb | exact below_seq1 B1.out hb | exact below_seq2 B1.out hb | exact below_seq3 B1.out hb | exact below_seq4 B1.out hb))
    have R2 := Lib.hid hb
    have hz2 := hb.size
    try simp at hz2
    clear hb
    try have y20 : w.heap.size < w2.heap.size := by omega
    try have y20a : w.heap.size + 1 < w2.heap.size := by omega
    try have y20b : w.heap.size < w2.heap.size + 1 + 1 := by omega
    try have y20c : w.heap.size + 1 < w2.heap.size + 1 + 1 := by omega
    try have y21 : w1.heap.size < w2.heap.size := by omega
    try have y21a : w1.heap.size + 1 < w2.heap.size := by omega
    try have y21b : w1.heap.size < w2.heap.size + 1 + 1 := by omega
    try have y21c : w1.heap.size + 1 < w2.heap.size + 1 + 1 := by omega
    obtain rfl : n2 = 0 := hn2
    have X2 := Lib.hid hr2
    clear hr2
    have Q2 := Lib.hid (nr_below Q1.out R2.out)
    go_wp2_with fail
    refine (tpS_rd A1 n1 c1 us [] x false _ Q2.out (by omega) (by rw [tpL, HK.out]; rfl) HK.out).mono ?_
    rintro e w3 ⟨A3, n3, c3, rfl, hn3, hnc3, hr3, hb⟩
    obtain ⟨hc3, hf3⟩ := bcell hb
    have B3 := Lib.hid (show Below w.heap.size w w3 from (by first | exact below_seq B2.out hb | exact below_seq1 B2.out hb | exact below_seq2 B2.out hb | exact below_seq3 B2.out hb | exact below_seq4 B2.out hb))
    have R3 := Lib.hid hb
    have hz3 := hb.size
    try simp at hz3
    clear hb
    try have y30 : w.heap.size < w3.heap.size := by omega
    try have y30a : w.heap.size + 1 < w3.heap.size := by omega
    try have y30b : w.heap.size < w3.heap.size + 1 + 1 := by omega
    try have y30c : w.heap.size + 1 < w3.heap.size + 1 + 1 := by omega
    try have y31 : w1.heap.size < w3.heap.size := by omega
    try have y31a : w1.heap.size + 1 < w3.heap.size := by omega
    try have y31b : w1.heap.size < w3.heap.size + 1 + 1 := by omega
    try have y31c : w1.heap.size + 1 < w3.heap.size + 1 + 1 := by omega
    try have y32 : w2.heap.size < w3.heap.size := by omega
    try have y32a : w2.heap.size + 1 < w3.heap.size := by omega
    try have y32b : w2.heap.size < w3.heap.size + 1 + 1 := by omega
    try have y32c : w2.heap.size + 1 < w3.heap.size + 1 + 1 := by omega
    obtain rfl : n3 = 0 := hn3
    have X3 := Lib.hid hr3
    clear hr3
    have Q3 := Lib.hid (nr_below Q2.out R3.out)
    have Y2 := Lib.hid (nr_below X2.out R3.out)
    go_wp2_with fail
    refine (tgI_same A2 A3 0 c2 0 c3 [] _ Y2.out X3.out (by omega) (by omega)).mono ?_
    rintro e w4 ⟨rfl, hb⟩
    obtain ⟨hc4, hf4⟩ := bcell hb
    have B4 := Lib.hid (show Below w.heap.size w w4 from (by first | exact below_seq B3.out hb | exact below_seq1 B3.out hb | exact below_seq2 B3.out hb | exact below_seq3 B3.out hb | exact below_seq4 B3.out hb))
    have R4 := Lib.hid hb
    have hz4 := hb.size
    try simp at hz4
    clear hb
    try have y40 : w.heap.size < w4.heap.size := by omega
    try have y40a : w.heap.size + 1 < w4.heap.size := by omega
    try have y40b : w.heap.size < w4.heap.size + 1 + 1 := by omega
    try have y40c : w.heap.size + 1 < w4.heap.size + 1 + 1 := by omega
    try have y41 : w1.heap.size < w4.heap.size := by omega
    try have y41a : w1.heap.size + 1 < w4.heap.size := by omega
    try have y41b : w1.heap.size < w4.heap.size + 1 + 1 := by omega
    try have y41c : w1.heap.size + 1 < w4.heap.size + 1 + 1 := by omega
    try have y42 : w2.heap.size < w4.heap.size := by omega
    try have y42a : w2.heap.size + 1 < w4.heap.size := by omega
    try have y42b : w2.heap.size < w4.heap.size + 1 + 1 := by omega
    try have y42c : w2.heap.size + 1 < w4.heap.size + 1 + 1 := by omega
    try have y43 : w3.heap.size < w4.heap.size := by omega
    try have y43a : w3.heap.size + 1 < w4.heap.size := by omega
    try have y43b : w3.heap.size < w4.heap.size + 1 + 1 := by omega
    try have y43c : w3.heap.size + 1 < w4.heap.size + 1 + 1 := by omega
    have Z2 := Lib.hid (nr_below Y2.out R4.out)
    have Z3 := Lib.hid (nr_below X3.out R4.out)
    go_wp2_with fail
    refine (tgI_same A2 A3 0 c2 0 c3 [] _ Z2.out Z3.out (by omega) (by omega)).mono ?_
    rintro e w5 ⟨rfl, hb⟩
    obtain ⟨hc5, hf5⟩ := bcell hb
    have B5 := Lib.hid (show Below w.heap.size w w5 from (by first | exact below_seq B4.out hb | exact below_seq1 B4.out hb | exact below_seq2 B4.out hb | exact below_seq3 B4.out hb | exact below_seq4 B4.out hb))
    have R5 := Lib.hid hb
    have hz5 := hb.size
    try simp at hz5
    clear hb
    try have y50 : w.heap.size < w5.heap.size := by omega
    try have y50a : w.heap.size + 1 < w5.heap.size := by omega
    try have y50b : w.heap.size < w5.heap.size + 1 + 1 := by omega
    try have y50c : w.heap.size + 1 < w5.heap.size + 1 + 1 := by omega
    try have y51 : w1.heap.size < w5.heap.size := by omega
    try have y51a : w1.heap.size + 1 < w5.heap.size := by omega
    try have y51b : w1.heap.size < w5.heap.size + 1 + 1 := by omega
    try have y51c : w1.heap.size + 1 < w5.heap.size + 1 + 1 := by omega
    try have y52 : w2.heap.size < w5.heap.size := by omega
    try have y52a : w2.heap.size + 1 < w5.heap.size := by omega
    try have y52b : w2.heap.size < w5.heap.size + 1 + 1 := by omega
    try have y52c : w2.heap.size + 1 < w5.heap.size + 1 + 1 := by omega
    try have y53 : w3.heap.size < w5.heap.size := by omega
    try have y53a : w3.heap.size + 1 < w5.heap.size := by omega
    try have y53b : w3.heap.size < w5.heap.size + 1 + 1 := by omega
    try have y53c : w3.heap.size + 1 < w5.heap.size + 1 + 1 := by omega
    try have y54 : w4.heap.size < w5.heap.size := by omega
    try have y54a : w4.heap.size + 1 < w5.heap.size := by omega
    try have y54b : w4.heap.size < w5.heap.size + 1 + 1 := by omega
    try have y54c : w4.heap.size + 1 < w5.heap.size + 1 + 1 := by omega
    go_wp2
    all_goals
      go_ret
      refine ⟨rfl, ?_⟩
      repeat refine below_alloc ?_ _
      exact B5.out
  · have HK := Lib.hid hk
    clear hk
    obtain ⟨R, hR⟩ : ∃ R, tpL us x = R := ⟨_, rfl⟩
    obtain ⟨q, rfl⟩ : ∃ q : Nat, x = (q : Int) := ⟨x.toNat, by have := HK.out; simp only [tpB, Bool.and_eq_true, decide_eq_true_eq] at this; omega⟩
    have HE : Hid (R = (topL us).take q) := Lib.hid (by rw [← hR, tpL, HK.out]; rfl)
    have HSH : Hid (shB us = true) := Lib.hid (by have := HK.out; simp only [tpB, Bool.and_eq_true] at this; exact this.1)
    have HR := Lib.hid hR
    obtain ⟨m, hm⟩ : ∃ m, R.length = m := ⟨_, rfl⟩
    have hmq : m = min q n1 := by rw [← hm, HE.out, List.length_take, top_len, Q1.out.1]
    have hm1 : m ≤ n1 := by omega
    have HLN := Lib.hid hm
    clear hR hm
    have HMQ := Lib.hid hmq
    clear hmq
    go_wp2_with fail
    refine (tpI_rd A1 n1 c1 us R (q : Int) true _ Q1.out (by omega) HR.out HK.out).mono ?_
    rintro e w2 ⟨A2, n2, c2, rfl, hn2, hnc2, hr2, hb⟩
    obtain ⟨hc2, hf2⟩ := bcell hb
    have B2 := Lib.hid (show Below w.heap.size w w2 from (by first | exact below_seq B1.out hb | exact below_seq1 B1.out hb | exact below_seq2 B1.out hb | exact below_seq3 B1.out hb | exact below_seq4 B1.out hb))
    have R2 := Lib.hid hb
    have hz2 := hb.size
    try simp at hz2
    clear hb
    try have y20 : w.heap.size < w2.heap.size := by omega
    try have y20a : w.heap.size + 1 < w2.heap.size := by omega
    try have y20b : w.heap.size < w2.heap.size + 1 + 1 := by omega
    try have y20c : w.heap.size + 1 < w2.heap.size + 1 + 1 := by omega
    try have y21 : w1.heap.size < w2.heap.size := by omega
    try have y21a : w1.heap.size + 1 < w2.heap.size := by omega
    try have y21b : w1.heap.size < w2.heap.size + 1 + 1 := by omega
    try have y21c : w1.heap.size + 1 < w2.heap.size + 1 + 1 := by omega
    obtain rfl : m = n2 := (hn2.trans HLN.out).symm
    clear hn2
    have X2 := Lib.hid hr2
    clear hr2
    have Q2 := Lib.hid (nr_below Q1.out R2.out)
    go_wp2_with fail
    refine (tpS_rd A1 n1 c1 us R (q : Int) true _ Q2.out (by omega) HR.out HK.out).mono ?_
    rintro e w3 ⟨A3, n3, c3, rfl, hn3, hnc3, hr3, hb⟩
    obtain ⟨hc3, hf3⟩ := bcell hb
    have B3 := Lib.hid (show Below w.heap.size w w3 from (by first | exact below_seq B2.out hb | exact below_seq1 B2.out hb | exact below_seq2 B2.out hb | exact below_seq3 B2.out hb | exact below_seq4 B2.out hb))
    have R3 := Lib.hid hb
    have hz3 := hb.size
    try simp at hz3
    clear hb
    try have y30 : w.heap.size < w3.heap.size := by omega
    try have y30a : w.heap.size + 1 < w3.heap.size := by omega
    try have y30b : w.heap.size < w3.heap.size + 1 + 1 := by omega
    try have y30c : w.heap.size + 1 < w3.heap.size + 1 + 1 := by omega
    try have y31 : w1.heap.size < w3.heap.size := by omega
    try have y31a : w1.heap.size + 1 < w3.heap.size := by omega
    try have y31b : w1.heap.size < w3.heap.size + 1 + 1 := by omega
    try have y31c : w1.heap.size + 1 < w3.heap.size + 1 + 1 := by omega
    try have y32 : w2.heap.size < w3.heap.size := by omega
    try have y32a : w2.heap.size + 1 < w3.heap.size := by omega
    try have y32b : w2.heap.size < w3.heap.size + 1 + 1 := by omega
    try have y32c : w2.heap.size + 1 < w3.heap.size + 1 + 1 := by omega
    obtain rfl : m = n3 := (hn3.trans HLN.out).symm
    clear hn3
    have X3 := Lib.hid hr3
    clear hr3
    have Q3 := Lib.hid (nr_below Q2.out R3.out)
    have Y2 := Lib.hid (nr_below X2.out R3.out)
    go_wp2_with fail
    refine (tgI_same A2 A3 m c2 m c3 R _ Y2.out X3.out (by omega) (by omega)).mono ?_
    rintro e w4 ⟨rfl, hb⟩
    obtain ⟨hc4, hf4⟩ := bcell hb
    have B4 := Lib.hid (show Below w.heap.size w w4 from (by first | exact below_seq B3.out hb | exact below_seq1 B3.out hb | exact below_seq2 B3.out hb | exact below_seq3 B3.out hb | exact below_seq4 B3.out hb))
    have R4 := Lib.hid hb
    have hz4 := hb.size
    try simp at hz4
    clear hb
    try have y40 : w.heap.size < w4.heap.size := by omega
    try have y40a : w.heap.size + 1 < w4.heap.size := by omega
    try have y40b : w.heap.size < w4.heap.size + 1 + 1 := by omega
    try have y40c : w.heap.size + 1 < w4.heap.size + 1 + 1 := by omega
    try have y41 : w1.heap.size < w4.heap.size := by omega
    try have y41a : w1.heap.size + 1 < w4.heap.size := by omega
    try have y41b : w1.heap.size < w4.heap.size + 1 + 1 := by omega
    try have y41c : w1.heap.size + 1 < w4.heap.size + 1 + 1 := by omega
    try have y42 : w2.heap.size < w4.heap.size := by omega
    try have y42a : w2.heap.size + 1 < w4.heap.size := by omega
    try have y42b : w2.heap.size < w4.heap.size + 1 + 1 := by omega
    try have y42c : w2.heap.size + 1 < w4.heap.size + 1 + 1 := by omega
    try have y43 : w3.heap.size < w4.heap.size := by omega
    try have y43a : w3.heap.size + 1 < w4.heap.size := by omega
    try have y43b : w3.heap.size < w4.heap.size + 1 + 1 := by omega
    try have y43c : w3.heap.size + 1 < w4.heap.size + 1 + 1 := by omega
    have Z2 := Lib.hid (nr_below Y2.out R4.out)
    have Q4 := Lib.hid (nr_below Q3.out R4.out)
    have HND : Hid (R.Nodup) := Lib.hid (by rw [HE.out]; exact (List.take_sublist _ _).nodup (top_nodup us))
    have HDE : Hid (∀ i j x y, i < j → R[i]? = some x → R[j]? = some y → keyOf us y ≤ keyOf us x) := Lib.hid (fun i j x y hij hx hy => by
      rw [HE.out, List.getElem?_take] at hx hy
      split at hx
      · split at hy
        · exact desc_le (top_desc us) hij hx hy
        · cases hy
      · cases hx)
    have HIN : Hid (∀ z ∈ R, 0 ≤ z ∧ z < (n1 : Int)) := Lib.hid (fun z hz => by
      have := top_mem.1 (List.mem_of_mem_take (by rw [← HE.out]; exact hz))
      rw [Q1.out.1] at this
      exact this)
    obtain ⟨i0, hi, hz0, hz1, hz2⟩ := info_parts infoBool
    go_wp2_with (refine wpList_make_full _ rfl (.tmp 54) (.tmp 54) 38 rfl w4.heap.size 4 i0 _ 1 Try.underlying38 hi hz0 hz1 .i64 .i64 n1 n1 n1 rfl rfl rfl rfl (by rw [hz2]; omega) (by unfold maxLen; omega) (Nat.le_refl _) ?_
                 intro w5 ho5 hg5
                 have b5 : Below w4.heap.size w4 w5 := ⟨hg5.os, hg5.tape, hg5.output, hg5.size, fun i hi => hg5.block i hi (by simp)⟩
                 have R0 : Hid (T1 w w4 A1 A2 n1 m w4.heap.size us R (.int .i64 0) w5) := Lib.hid (by
                   rw [zerosB] at ho5
                   exact ⟨0, _, Nat.zero_le _, rfl, ch_zero _ _, nr_below Q4.out b5, nr_below Z2.out b5, ho5, b5, below_seq B4.out b5⟩)
                 have z45 : w4.heap.size ≤ w5.heap.size := hg5.size
                 clear ho5 hg5 b5)
    clear hi hz0 hz1 hz2
    go_loopw [10] (fun i wr => T1 w w4 A1 A2 n1 m w4.heap.size us R i wr) (fun i _ => m - (intOf i).toNat)
    case atStart => exact R0.out
    case round =>
      obtain ⟨k, bs, hk, rfl, hch, hn1, hn2, ho, hb4, hbw⟩ := hrel
      clear R0
      have HCH := Lib.hid hch
      have N1 := Lib.hid hn1
      have N2 := Lib.hid hn2
      have HO := Lib.hid ho
      have HB4 := Lib.hid hb4
      have HBW := Lib.hid hbw
      have zb := hb4.size
      have zo := ho.lt w4.heap.size rfl
      clear hb4 hbw
      by_cases hlt : k < m
      · obtain ⟨b2, o2, z, rfl, hb2, hz, c2'⟩ := nr_at hn2 hlt
        obtain ⟨t, rfl, t0, t1⟩ := nat_of (x := z) (lo := 0) (hi := (n1 : Int) - 1) (by omega) (by have := HIN.out z (List.mem_of_getElem? hz); omega)
        have htn : t < n1 := by omega
        have HZ := Lib.hid hz
        have hno : ¬ (t : Int) ∈ R.take k := fun hm => by
          obtain ⟨i, hi⟩ := List.mem_iff_getElem?.1 hm
          rw [List.getElem?_take] at hi
          split at hi
          · rename_i hik
            have h1 := (List.getElem?_inj (i := i) (j := k) (by rw [HLN.out]; omega) HND.out).1 (by rw [hi, hz])
            omega
          · cases hi
        have hb := hch.2 t htn
        rw [decide_eq_false hno] at hb
        have d0 := bool_at ho hb
        have f0 := World.ownsRow.frozenAt ho t
        obtain ⟨b1, o1, u, rfl, hb1, hu, c1'⟩ := nr_at (k := t) hn1 htn
        have HU := Lib.hid hu
        have k1 : (k : Int) < (m : Int) := by omega
        have k0 : (0 : Int) ≤ (k : Int) := by omega
        have t2 : (t : Int) < (n1 : Int) := by omega
        clear hch hn2 ho hz hno hb hu
        have NEXT : Hid (∀ W : World, NR W (some ⟨b1, o1, none⟩) n1 us → NR W (some ⟨b2, o2, none⟩) m R → W.ownsRow w4.heap.size 4 1 (.slice (some ⟨w4.heap.size, 0, none⟩) n1 n1) n1 (bcells bs) → Below w4.heap.size w4 W → Below w.heap.size w W →
            T1 w w4 (some ⟨b1, o1, none⟩) (some ⟨b2, o2, none⟩) n1 m w4.heap.size us R (.int .i64 ((k : Int) + 1)) (W.setCell ⟨w4.heap.size, t, none⟩ (.bool true))) := Lib.hid (fun W h1 h2 h3 h4 h5 => ⟨k + 1, bs.set t true, by omega, by go_num, ch_step HCH.out HZ.out htn, nr_set h1 (fun _ x hx => by
              have := nr_old Q4.out (by omega) x hx; simp; omega) _, nr_set h2 (fun _ x hx => by have := nr_old Z2.out (by omega) x hx; simp; omega) _, own_set_bool h3 t true, h4.setCell (Nat.le_refl _) _, h5.setCell (by simp; omega) _⟩)
        by_cases hk0 : k = 0
        · subst hk0
          rw [Nat.add_zero] at c2'
          have k9 : (0 : Int) < (m : Int) := by omega
          clear hn1 k0 k1
          go_wp2_with fail
          go_quiet (fail)
          go_wp2
          go_roundw
          case rel => exact NEXT.out _ (nr_drewN N1.out _) (nr_drewN N2.out _) (own_below HO.out (below_drewN (Below.refl _ _) _)) (below_drewN HB4.out _) (below_drewN HBW.out _)
          case measure => simp [intOf]; omega
        · obtain ⟨p, rfl⟩ : ∃ p, k = p + 1 := ⟨k - 1, by omega⟩
          obtain ⟨b3, o3, y, e3, hb3, hy, c3'⟩ := nr_at (k := p) N2.out (by omega)
          obtain ⟨rfl, rfl⟩ : b2 = b3 ∧ o2 = o3 := by injection e3 with e1; injection e1 with a b; exact ⟨a, b⟩
          obtain ⟨s, rfl, s0, s1⟩ := nat_of (x := y) (lo := 0) (hi := (n1 : Int) - 1) (by omega) (by have := HIN.out y (List.mem_of_getElem? hy); omega)
          obtain ⟨b3, o3, v, e4, hb4, hv, c4'⟩ := nr_at (k := s) hn1 (by omega)
          obtain ⟨rfl, rfl⟩ : b1 = b3 ∧ o1 = o3 := by injection e4 with e1; injection e1 with a b; exact ⟨a, b⟩
          have huv : u ≤ v := by
            have := HDE.out p (p + 1) _ _ (by omega) hy HZ.out
            rwa [key_at HU.out, key_at hv] at this
          have hd : decide (v < u) = false := decide_eq_false (by omega)
          have s2 : (s : Int) < (n1 : Int) := by omega
          have p1 : (p : Int) + 1 < (m : Int) := by omega
          have p2 : (p : Int) < (m : Int) := by omega
          have p3 : (0 : Int) ≤ (p : Int) := by omega
          have p4 : (0 : Int) < (p : Int) + 1 := by omega
          have hwp : IntKind.i64.wrap (p : Int) = (p : Int) := by rw [IntKind.wrap_i64]; omega
          clear hn1 e3 e4 hy hv huv
          go_wp2_with fail
          go_quiet (fail)
          go_wp2
          go_roundw
          case rel => exact NEXT.out _ (nr_drewN N1.out _) (nr_drewN N2.out _) (own_below HO.out (below_drewN (Below.refl _ _) _)) (below_drewN HB4.out _) (below_drewN HBW.out _)
          case measure => simp [intOf]; omega
      · obtain rfl : m = k := by omega
        have R1 : Hid (T2 w A1 A2 n1 m w4.heap.size w4.heap.size us R (.int .i64 0) wr) := Lib.hid ⟨0, bs, Nat.zero_le _, rfl, HCH.out, N1.out, N2.out, HO.out, HBW.out⟩
        clear hch hn1 hn2 ho HCH N1 N2 HO HB4 HBW
        go_wp2
        go_loopw [11] (fun i wr => T2 w A1 A2 n1 m w4.heap.size w4.heap.size us R i wr) (fun i _ => n1 - (intOf i).toNat)
        case atStart => exact R1.out
        case round =>
          obtain ⟨j, bs, hj, rfl, hch, hn1, hn2, ho, hbw⟩ := hrel
          clear R1
          have HCH := Lib.hid hch
          have N1 := Lib.hid hn1
          have N2 := Lib.hid hn2
          have HO := Lib.hid ho
          have HBW := Lib.hid hbw
          clear hbw
          have FIN : Hid ((m = q ∧ q ≤ n1) ∨ (m = n1 ∧ n1 < q)) := Lib.hid (by have := HMQ.out; omega)
          by_cases hjm : j < n1 ∧ 0 < m
          · obtain ⟨p, rfl⟩ : ∃ p, m = p + 1 := ⟨m - 1, by omega⟩
            have hjn := hjm.1
            clear hjm
            have hb := hch.2 j hjn
            rw [List.take_of_length_le (by rw [HLN.out]; exact Nat.le_refl _)] at hb
            have j1 : (j : Int) < (n1 : Int) := by omega
            have j0 : (0 : Int) ≤ (j : Int) := by omega
            have m1 : (0 : Int) < (p : Int) + 1 := by omega
            have NEXT : Hid (∀ W : World, NR W A1 n1 us → NR W A2 (p + 1) R → W.ownsRow w4.heap.size 4 1 (.slice (some ⟨w4.heap.size, 0, none⟩) n1 n1) n1 (bcells bs) → Below w.heap.size w W →
                T2 w A1 A2 n1 (p + 1) w4.heap.size w4.heap.size us R (.int .i64 ((j : Int) + 1)) W) := Lib.hid (fun W h1 h2 h3 h4 => ⟨j + 1, bs, by omega, by go_num, HCH.out, h1, h2, h3, h4⟩)
            by_cases hin : (j : Int) ∈ R
            · rw [decide_eq_true hin] at hb
              have d0 := bool_at ho hb
              clear hch hn1 hn2 ho hb hin
              go_wp2_with fail
              go_quiet (fail)
              go_wp2
              go_roundw
              case rel => exact NEXT.out _ (nr_drewN N1.out _) (nr_drewN N2.out _) (own_below HO.out (below_drewN (Below.refl _ _) _)) (below_drewN HBW.out _)
              case measure => simp [intOf]; omega
            · rw [decide_eq_false hin] at hb
              have d0 := bool_at ho hb
              obtain ⟨b2, o2, z, rfl, hb2, hz, c2'⟩ := nr_at (k := p) hn2 (by omega)
              obtain ⟨t, rfl, t0, t1⟩ := nat_of (x := z) (lo := 0) (hi := (n1 : Int) - 1) (by omega) (by have := HIN.out z (List.mem_of_getElem? hz); omega)
              obtain ⟨b1, o1, u, rfl, hb1, hu, c1'⟩ := nr_at (k := j) hn1 hjn
              obtain ⟨b3, o3, v, e4, hb4, hv, c4'⟩ := nr_at (k := t) hn1 (by omega)
              obtain ⟨rfl, rfl⟩ : b1 = b3 ∧ o1 = o3 := by injection e4 with e1; injection e1 with a b; exact ⟨a, b⟩
              have huv : u ≤ v := by
                have := last_le HE.out HLN.out hz (by rw [Q1.out.1]; exact hjn) hin
                rwa [key_at hu, key_at hv] at this
              have hd : decide (v < u) = false := decide_eq_false (by omega)
              have t2 : (t : Int) < (n1 : Int) := by omega
              have p1 : (p : Int) < (p : Int) + 1 := by omega
              have p3 : (0 : Int) ≤ (p : Int) := by omega
              have hwp : IntKind.i64.wrap (p : Int) = (p : Int) := by rw [IntKind.wrap_i64]; omega
              clear hch hn1 hn2 ho hb hin hz hu e4 hv huv
              go_wp2_with fail
              go_quiet (fail)
              go_wp2
              go_roundw
              case rel => exact NEXT.out _ (nr_drewN N1.out _) (nr_drewN N2.out _) (own_below HO.out (below_drewN (Below.refl _ _) _)) (below_drewN HBW.out _)
              case measure => simp [intOf]; omega
          · clear hch hn1 hn2 ho
            rcases FIN.out with ⟨e1, e2⟩ | ⟨e1, e2⟩
            · subst e1
              by_cases hj1 : j < n1
              · have hm0 : m = 0 := by omega
                subst hm0
                have j1 : (j : Int) < (n1 : Int) := by omega
                go_wp2
                go_ret
                exact ⟨rfl, HBW.out⟩
              · have j1 : ¬ (j : Int) < (n1 : Int) := by omega
                go_wp2
                go_ret
                exact ⟨rfl, HBW.out⟩
            · have HE1 := Lib.hid e1
              have q1 : (n1 : Int) < (q : Int) := by omega
              have q2 : ((n1 : Int) == (q : Int)) = false := by rw [beq_eq_false_iff_ne]; omega
              subst e1
              have j1 : ¬ (j : Int) < (m : Int) := by omega
              go_wp2
              go_ret
              exact ⟨rfl, HBW.out⟩
theorem own : ownKnob Try.prog.godebug = none := by kernel_rfl
theorem laidOut : laidOutB Try.prog = true := by kernel_rfl
set_option maxRecDepth 100000 in
theorem lifted (os : Os) (started : os.Started) (H : Type) (enc : TypeId × Value → H) :
    ReturnsInHanded {} Try.checked os 6 .any (Rows.fnTopPeersSpec.pre6 enc Try.prog Try.f6 Rows.fnTopPeersRow.domain false) (Rows.fnTopPeersSpec.post enc Try.prog Try.f6 false true false false) := by
  refine returnsInHanded_of_change (C := Try.checked) own started (by kernel_rfl) Try.func6
    (ChangeSpec.witness6 (enc := enc) (C := Try.checked) false ⟨#[], #[.slice none 0 0], []⟩ 8 (by kernel_rfl) (by kernel_rfl) (by kernel_rfl) (by kernel_rfl)) ?_
  intro W base args ds gs before hval0 hW _ _
  have hval : ∀ (j : Nat) t v, Try.f6.params[j]? = some t → args[j]? = some v → Value.okWide Try.prog W .any base t v := hval0
  have hW' := hW
  obtain ⟨p, q, hA0, hV, rfl, _, _⟩ := hW
  have hA : DataW.TrodAll enc Try.prog W 0 (fun _ => true) true Try.f6.params.toList args.toList ds p := hA0
  rw [Try.params6] at hA hval
  obtain ⟨v0, vs0, d0, ds0, p0, q0, hargs, rfl, rfl, h0, r0⟩ := trodAll_cons hA
  obtain ⟨rfl, rfl, rfl⟩ := trodAll_nil r0
  obtain rfl : args = #[v0] := by cases args; simp_all
  obtain ⟨rfl, rfl⟩ := trodVars_none hV
  have lt0 : ∀ x ∈ p0, x.block < W.heap.size := by obtain ⟨m, hm⟩ := h0; exact DataW.trod_lt m _ _ _ hm
  obtain ⟨a0, n0, c0, rfl⟩ := okWide_slice Try.underlying22 (hval 0 22 v0 rfl rfl)
  have w0 : Bytes W a0 n0 c0 := bytes_open h0
  clear hA0 hval0
  refine (walk a0 n0 c0 W w0).mono fun e W' ⟨he, bel⟩ => ?_
  subst he
  exact ⟨_, rfl, _, _, _, [], _, [], hW', trodAll_mk1 (shut_bool Try.underlying4 _), (trodAll_cons_mk (Below.trod laidOut (by kernel_rfl) (of_decide_eq_true (by kernel_rfl)) h0 bel lt0) trodAll_mk0), rfl, bel.frame _, fun h => by cases h⟩
theorem over : Rows.fnTopPeersRow.holds Try.pinned (OpenSpec.ofChange Rows.fnTopPeersSpec) :=
  OpenClaim.holds_of_wide 6 Try.f6 rfl rfl rfl rfl rfl rfl rfl ⟨rfl, rfl, rfl, rfl, rfl⟩ rfl rfl rfl rfl rfl (by kernel_rfl) Try.func6 (by unfold joinedFacts; rw [mayEnter, liftsFinal, makeIs]; kernel_rfl)
    (of_decide_eq_true (by kernel_rfl)) (by unfold Func.isWrapper; first | (rw [if_pos (by decide +kernel)]; kernel_rfl) | (rw [if_neg (by decide +kernel)]; exact ⟨rfl, rfl⟩))
    (fun os started H enc _ => lifted os started H enc)
/-- the given statement -/
theorem proved : Rows.FnTopPeersSaid := over
end Go.Proofs.Ytaccbmgbkalknaa.fnTopPeers
