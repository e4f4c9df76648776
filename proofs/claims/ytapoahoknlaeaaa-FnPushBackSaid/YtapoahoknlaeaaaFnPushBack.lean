/-
  The law FnPushBack returns true at every argument: a packet that is let in stands at the end, and its bytes are taken from the room. Conditions: none.
-/
import Derived.Test.YtapoahoknlaeaaaQL
import Derived.Test.YtapoahoknlaeaaaQ3S
namespace Go.Proofs.Ytapoahoknlaeaaa.fnPushBack
open Go.ChangeShapes Go.WideShapes Go.ChangeAt Go.RowKit

structure PB (w : World) (lim : Int) (b1 b2 : Nat) (A1 : Option Addr) (n1 c1 : Nat) (ps : List Pkt) (p : Pkt) (A2 : Option Addr) (n2 c2 : Nat) (rs : List Pkt) (w' : World) : Prop where
  x1 : Blk w' b1 25 #[.int .i64 lim, (.slice A1 n1 c1)]
  p1 : Blk w' (b1 + 1) 27 #[.int .i64 p.peer, .int .i64 p.lane, .int .i64 p.size, .int .i64 p.id]
  x2 : Blk w' b2 25 #[.int .i64 lim, (.slice A2 n2 c2)]
  q : PR w' A1 n1 ps
  r : PR w' A2 n2 rs
  b : Below w.heap.size w w'
section
variable {w w1 w2 : World} {lim : Int} {b1 b2 : Nat} {A1 : Option Addr} {n1 c1 : Nat} {ps : List Pkt} {p : Pkt} {A2 : Option Addr} {n2 c2 : Nat} {rs : List Pkt}
theorem pb_below (h : PB w lim b1 b2 A1 n1 c1 ps p A2 n2 c2 rs w1) (hb : Below w1.heap.size w1 w2) : PB w lim b1 b2 A1 n1 c1 ps p A2 n2 c2 rs w2 :=
  ⟨blk_below h.x1 hb (blk_lt h.x1), blk_below h.p1 hb (blk_lt h.p1), blk_below h.x2 hb (blk_lt h.x2), pr_below h.q hb, pr_below h.r hb, below_seq h.b hb⟩
theorem pb_drew (h : PB w lim b1 b2 A1 n1 c1 ps p A2 n2 c2 rs w1) : PB w lim b1 b2 A1 n1 c1 ps p A2 n2 c2 rs w1.drew :=
  ⟨h.x1, h.p1, h.x2, h.q, h.r, h.b.drew⟩
theorem pb_cells {b off : Nat} (h : PB w lim b1 b2 A1 n1 c1 ps p (some ⟨b, off, none⟩) (n1 + 1) c2 (ps ++ [p]) w1) : (w1.cell? ⟨b1, 1, none⟩ = some (.slice A1 n1 c1) ∧ w1.cell? ⟨b1 + 1, 0, none⟩ = some (.int .i64 p.peer) ∧ w1.cell? ⟨b1 + 1, 1, none⟩ = some (.int .i64 p.lane) ∧ w1.cell? ⟨b1 + 1, 2, none⟩ = some (.int .i64 p.size) ∧ w1.cell? ⟨b1 + 1, 3, none⟩ = some (.int .i64 p.id)) ∧
    (w1.cell? ⟨b2, 0, none⟩ = some (.int .i64 lim) ∧ w1.cell? ⟨b2, 1, none⟩ = some (.slice (some ⟨b, off, none⟩) (n1 + 1) c2)) ∧
    (w1.cell? ⟨b, off + n1 * 4, none⟩ = some (.int .i64 p.peer) ∧ w1.cell? ⟨b, off + n1 * 4 + 1, none⟩ = some (.int .i64 p.lane) ∧ w1.cell? ⟨b, off + n1 * 4 + 2, none⟩ = some (.int .i64 p.size) ∧ w1.cell? ⟨b, off + n1 * 4 + 3, none⟩ = some (.int .i64 p.id)) ∧
    PB w lim b1 b2 A1 n1 c1 ps p (some ⟨b, off, none⟩) (n1 + 1) c2 (ps ++ [p]) w1 := by
  obtain ⟨b', off', p', e, -, hp, hc⟩ := pr_at (k := n1) h.r (by omega)
  injection e with e
  injection e with e1 e2
  subst e1
  subst e2
  have hl := h.q.1
  obtain rfl : p = p' := by
    rw [← hl, List.getElem?_concat_length] at hp; injection hp
  exact ⟨⟨blk_cell h.x1 1, blk_cell h.p1 0, blk_cell h.p1 1, blk_cell h.p1 2, blk_cell h.p1 3⟩, ⟨blk_cell h.x2 0, blk_cell h.x2 1⟩, hc, h⟩
end
set_option maxHeartbeats 2000000 in
theorem walk (A : Option Addr) (n c : Nat) (w : World) (h : Bytes w A n c) :
    Calls Try.prog 3 #[.slice A n c] w fun e w' => e = .returned (.bool true) ∧ Below w.heap.size w w' := by
  have HB := Lib.hid h
  clear h
  by_cases hbig : ¬ n ≤ 1048576
  · go_enter Try.func3, Try.ntmps3
    go_wp2
    go_ret
    exact ⟨rfl, Below.refl _ _⟩
  have hbig' : n ≤ 1048576 := by omega
  clear hbig
  go_enter Try.func3, Try.ntmps3
  go_wp2_with fail
  refine (drawPushBack_any A n c _ HB.out).mono ?_
  rintro e w1 ⟨lim, A1, n1, c1, ps, p, rfl, hn1, ho, hb⟩
  obtain ⟨hc1, hf1⟩ := bcell hb
  have B1 := Lib.hid (show Below w.heap.size w w1 from (by first | exact below_seq (Below.refl w.heap.size w) hb | exact below_seq1 (Below.refl w.heap.size w) hb | exact below_seq2 (Below.refl w.heap.size w) hb | exact below_seq3 (Below.refl w.heap.size w) hb | exact below_seq4 (Below.refl w.heap.size w) hb))
  have R1 := Lib.hid hb
  have hz1 := hb.size
  try simp at hz1
  clear hb
  have Q := Lib.hid (pr_own ho)
  clear ho
  rcases hk : pushOk lim ps p with _ | _
  · have HK := Lib.hid hk
    clear hk
    go_wp2_with fail
    refine (pushI_no lim A1 n1 c1 ps p _ (by first | with_reducible exact Q.out | with_reducible exact pr_alloc Q.out _ | with_reducible exact pr_alloc (pr_alloc Q.out _) _ | with_reducible exact pr_alloc (pr_alloc (pr_alloc Q.out _) _) _) (by omega) HK.out).mono ?_
    rintro e w2 ⟨A2, n2, c2, rfl, hn2, ho2, hb⟩
    obtain ⟨hc2, hf2⟩ := bcell hb
    have B2 := Lib.hid (show Below w.heap.size w w2 from (by first | exact below_seq B1.out hb | exact below_seq1 B1.out hb | exact below_seq2 B1.out hb | exact below_seq3 B1.out hb | exact below_seq4 B1.out hb))
    have R2 := Lib.hid hb
    have hz2 := hb.size
    try simp at hz2
    clear hb
    try have y20 : w.heap.size < w2.heap.size := by omega
    try have y20a : w.heap.size + 1 < w2.heap.size := by omega
    try have y20b : w.heap.size < w2.heap.size + 1 + 1 := by omega
    try have y20c : w.heap.size + 1 < w2.heap.size + 1 + 1 := by omega
    try have y21 : w1.heap.size < w2.heap.size := by omega
    try have y21a : w1.heap.size + 1 < w2.heap.size := by omega
    try have y21b : w1.heap.size < w2.heap.size + 1 + 1 := by omega
    try have y21c : w1.heap.size + 1 < w2.heap.size + 1 + 1 := by omega
    obtain rfl : n2 = 0 := hn2
    have X := Lib.hid (pr_own ho2)
    clear ho2
    replace Q := Lib.hid (show PR w2 _ _ _ from (by first | with_reducible exact pr_below Q.out R2.out | with_reducible exact pr_below (pr_alloc Q.out _) R2.out | with_reducible exact pr_below (pr_alloc (pr_alloc Q.out _) _) R2.out | with_reducible exact pr_below (pr_alloc (pr_alloc (pr_alloc Q.out _) _) _) R2.out))
    go_wp2_with fail
    refine (pushS_no lim A1 n1 c1 ps p _ (by first | with_reducible exact Q.out | with_reducible exact pr_alloc Q.out _ | with_reducible exact pr_alloc (pr_alloc Q.out _) _ | with_reducible exact pr_alloc (pr_alloc (pr_alloc Q.out _) _) _) (by omega) HK.out).mono ?_
    rintro e w3 ⟨A3, n3, c3, rfl, hn3, ho3, hb⟩
    obtain ⟨hc3, hf3⟩ := bcell hb
    have B3 := Lib.hid (show Below w.heap.size w w3 from (by first | exact below_seq B2.out hb | exact below_seq1 B2.out hb | exact below_seq2 B2.out hb | exact below_seq3 B2.out hb | exact below_seq4 B2.out hb))
    have R3 := Lib.hid hb
    have hz3 := hb.size
    try simp at hz3
    clear hb
    try have y30 : w.heap.size < w3.heap.size := by omega
    try have y30a : w.heap.size + 1 < w3.heap.size := by omega
    try have y30b : w.heap.size < w3.heap.size + 1 + 1 := by omega
    try have y30c : w.heap.size + 1 < w3.heap.size + 1 + 1 := by omega
    try have y31 : w1.heap.size < w3.heap.size := by omega
    try have y31a : w1.heap.size + 1 < w3.heap.size := by omega
    try have y31b : w1.heap.size < w3.heap.size + 1 + 1 := by omega
    try have y31c : w1.heap.size + 1 < w3.heap.size + 1 + 1 := by omega
    try have y32 : w2.heap.size < w3.heap.size := by omega
    try have y32a : w2.heap.size + 1 < w3.heap.size := by omega
    try have y32b : w2.heap.size < w3.heap.size + 1 + 1 := by omega
    try have y32c : w2.heap.size + 1 < w3.heap.size + 1 + 1 := by omega
    obtain rfl : n3 = 0 := hn3
    have Y := Lib.hid (pr_own ho3)
    replace X := Lib.hid (show PR w3 _ _ _ from (by first | with_reducible exact pr_below X.out R3.out | with_reducible exact pr_below (pr_alloc X.out _) R3.out | with_reducible exact pr_below (pr_alloc (pr_alloc X.out _) _) R3.out | with_reducible exact pr_below (pr_alloc (pr_alloc (pr_alloc X.out _) _) _) R3.out))
    clear ho3
    go_wp2_with fail
    refine (sameQI_any 0 0 A2 A3 0 c2 0 c3 [] [] _ (by first | with_reducible exact X.out | with_reducible exact pr_alloc X.out _ | with_reducible exact pr_alloc (pr_alloc X.out _) _ | with_reducible exact pr_alloc (pr_alloc (pr_alloc X.out _) _) _) (by first | with_reducible exact Y.out | with_reducible exact pr_alloc Y.out _ | with_reducible exact pr_alloc (pr_alloc Y.out _) _ | with_reducible exact pr_alloc (pr_alloc (pr_alloc Y.out _) _) _) (by omega) (by omega)).mono ?_
    rintro e w4 ⟨rfl, hb⟩
    obtain ⟨hc4, hf4⟩ := bcell hb
    have B4 := Lib.hid (show Below w.heap.size w w4 from (by first | exact below_seq B3.out hb | exact below_seq1 B3.out hb | exact below_seq2 B3.out hb | exact below_seq3 B3.out hb | exact below_seq4 B3.out hb))
    have R4 := Lib.hid hb
    have hz4 := hb.size
    try simp at hz4
    clear hb
    try have y40 : w.heap.size < w4.heap.size := by omega
    try have y40a : w.heap.size + 1 < w4.heap.size := by omega
    try have y40b : w.heap.size < w4.heap.size + 1 + 1 := by omega
    try have y40c : w.heap.size + 1 < w4.heap.size + 1 + 1 := by omega
    try have y41 : w1.heap.size < w4.heap.size := by omega
    try have y41a : w1.heap.size + 1 < w4.heap.size := by omega
    try have y41b : w1.heap.size < w4.heap.size + 1 + 1 := by omega
    try have y41c : w1.heap.size + 1 < w4.heap.size + 1 + 1 := by omega
    try have y42 : w2.heap.size < w4.heap.size := by omega
    try have y42a : w2.heap.size + 1 < w4.heap.size := by omega
    try have y42b : w2.heap.size < w4.heap.size + 1 + 1 := by omega
    try have y42c : w2.heap.size + 1 < w4.heap.size + 1 + 1 := by omega
    try have y43 : w3.heap.size < w4.heap.size := by omega
    try have y43a : w3.heap.size + 1 < w4.heap.size := by omega
    try have y43b : w3.heap.size < w4.heap.size + 1 + 1 := by omega
    try have y43c : w3.heap.size + 1 < w4.heap.size + 1 + 1 := by omega
    rw [qs_refl]
    replace X := Lib.hid (show PR w4 _ _ _ from (by first | with_reducible exact pr_below X.out R4.out | with_reducible exact pr_below (pr_alloc X.out _) R4.out | with_reducible exact pr_below (pr_alloc (pr_alloc X.out _) _) R4.out | with_reducible exact pr_below (pr_alloc (pr_alloc (pr_alloc X.out _) _) _) R4.out))
    replace Y := Lib.hid (show PR w4 _ _ _ from (by first | with_reducible exact pr_below Y.out R4.out | with_reducible exact pr_below (pr_alloc Y.out _) R4.out | with_reducible exact pr_below (pr_alloc (pr_alloc Y.out _) _) R4.out | with_reducible exact pr_below (pr_alloc (pr_alloc (pr_alloc Y.out _) _) _) R4.out))
    go_wp2_with fail
    refine (sameQI_any 0 0 A2 A3 0 c2 0 c3 [] [] _ (by first | with_reducible exact X.out | with_reducible exact pr_alloc X.out _ | with_reducible exact pr_alloc (pr_alloc X.out _) _ | with_reducible exact pr_alloc (pr_alloc (pr_alloc X.out _) _) _) (by first | with_reducible exact Y.out | with_reducible exact pr_alloc Y.out _ | with_reducible exact pr_alloc (pr_alloc Y.out _) _ | with_reducible exact pr_alloc (pr_alloc (pr_alloc Y.out _) _) _) (by omega) (by omega)).mono ?_
    rintro e w5 ⟨rfl, hb⟩
    obtain ⟨hc5, hf5⟩ := bcell hb
    have B5 := Lib.hid (show Below w.heap.size w w5 from (by first | exact below_seq B4.out hb | exact below_seq1 B4.out hb | exact below_seq2 B4.out hb | exact below_seq3 B4.out hb | exact below_seq4 B4.out hb))
    have R5 := Lib.hid hb
    have hz5 := hb.size
    try simp at hz5
    clear hb
    try have y50 : w.heap.size < w5.heap.size := by omega
    try have y50a : w.heap.size + 1 < w5.heap.size := by omega
    try have y50b : w.heap.size < w5.heap.size + 1 + 1 := by omega
    try have y50c : w.heap.size + 1 < w5.heap.size + 1 + 1 := by omega
    try have y51 : w1.heap.size < w5.heap.size := by omega
    try have y51a : w1.heap.size + 1 < w5.heap.size := by omega
    try have y51b : w1.heap.size < w5.heap.size + 1 + 1 := by omega
    try have y51c : w1.heap.size + 1 < w5.heap.size + 1 + 1 := by omega
    try have y52 : w2.heap.size < w5.heap.size := by omega
    try have y52a : w2.heap.size + 1 < w5.heap.size := by omega
    try have y52b : w2.heap.size < w5.heap.size + 1 + 1 := by omega
    try have y52c : w2.heap.size + 1 < w5.heap.size + 1 + 1 := by omega
    try have y53 : w3.heap.size < w5.heap.size := by omega
    try have y53a : w3.heap.size + 1 < w5.heap.size := by omega
    try have y53b : w3.heap.size < w5.heap.size + 1 + 1 := by omega
    try have y53c : w3.heap.size + 1 < w5.heap.size + 1 + 1 := by omega
    try have y54 : w4.heap.size < w5.heap.size := by omega
    try have y54a : w4.heap.size + 1 < w5.heap.size := by omega
    try have y54b : w4.heap.size < w5.heap.size + 1 + 1 := by omega
    try have y54c : w4.heap.size + 1 < w5.heap.size + 1 + 1 := by omega
    rw [qs_refl]
    go_wp2
    all_goals
      go_ret
      refine ⟨rfl, ?_⟩
      repeat refine below_alloc ?_ _
      exact B5.out
  obtain ⟨hq, hv⟩ := pushOk_of hk
  have HK := Lib.hid hk
  have n64 := (qv_of hq).2.2.2.2.2
  have HQ := Lib.hid hq
  have HV := Lib.hid hv
  have HLQ := Lib.hid Q.out.1
  have hm : (pushP lim ps p).length ≤ 65 := by
    rcases hi : inQ lim ps p with _ | _
    · rw [(push_full hk hi).2.2]; omega
    · rw [(push_in hk hi).2.2]; simp; omega
  have HM := Lib.hid hm
  obtain ⟨v0, v1⟩ := vld_size hv
  have n164 : n1 ≤ 64 := by have := Q.out.1; omega
  obtain ⟨q1, q2, q3, q4, q5, q6⟩ := qv_of hq
  obtain ⟨a, ha⟩ : ∃ a, a = roomN lim ps := ⟨_, rfl⟩
  have a0 : 0 ≤ a := by rw [ha, room_yes hq]; omega
  have a1 : a ≤ 1000 := by rw [ha, room_yes hq]; omega
  have has : Hid (a = lim - sizeSum ps) := Lib.hid (by rw [ha, room_yes hq])
  have HA := Lib.hid ha
  clear hk hm n64 hq hv q1 q4 q5 q6 ha
  have P1 := Lib.hid (show Blk ((w1.alloc (.cells #[.int .i64 lim, (.slice A1 n1 c1)] 25)).alloc (.cells #[.int .i64 p.peer, .int .i64 p.lane, .int .i64 p.size, .int .i64 p.id] 27)) w1.heap.size 25 #[.int .i64 lim, (.slice A1 n1 c1)] from blk_alloc (blk_new _ _ _) _)
  have P2 := Lib.hid (show Blk ((w1.alloc (.cells #[.int .i64 lim, (.slice A1 n1 c1)] 25)).alloc (.cells #[.int .i64 p.peer, .int .i64 p.lane, .int .i64 p.size, .int .i64 p.id] 27)) (w1.heap.size + 1) 27 #[.int .i64 p.peer, .int .i64 p.lane, .int .i64 p.size, .int .i64 p.id] from blk_new2 _ _ _ _)
  go_wp2_with fail
  refine (pushI_yes lim A1 n1 c1 ps p _ (by first | with_reducible exact Q.out | with_reducible exact pr_alloc Q.out _ | with_reducible exact pr_alloc (pr_alloc Q.out _) _ | with_reducible exact pr_alloc (pr_alloc (pr_alloc Q.out _) _) _) (by omega) HK.out).mono ?_
  rintro e w2 ⟨A2, n2, c2, rfl, hn2, ho2, hb⟩
  obtain ⟨hc2, hf2⟩ := bcell hb
  have B2 := Lib.hid (show Below w.heap.size w w2 from (by first | exact below_seq B1.out hb | exact below_seq1 B1.out hb | exact below_seq2 B1.out hb | exact below_seq3 B1.out hb | exact below_seq4 B1.out hb))
  have R2 := Lib.hid hb
  have hz2 := hb.size
  try simp at hz2
  clear hb
  try have y20 : w.heap.size < w2.heap.size := by omega
  try have y20a : w.heap.size + 1 < w2.heap.size := by omega
  try have y20b : w.heap.size < w2.heap.size + 1 + 1 := by omega
  try have y20c : w.heap.size + 1 < w2.heap.size + 1 + 1 := by omega
  try have y21 : w1.heap.size < w2.heap.size := by omega
  try have y21a : w1.heap.size + 1 < w2.heap.size := by omega
  try have y21b : w1.heap.size < w2.heap.size + 1 + 1 := by omega
  try have y21c : w1.heap.size + 1 < w2.heap.size + 1 + 1 := by omega
  replace P1 := Lib.hid (blk_below P1.out R2.out (blk_lt P1.out))
  replace P2 := Lib.hid (blk_below P2.out R2.out (blk_lt P2.out))
  have P3 := Lib.hid (blk_new w2 25 #[.int .i64 lim, (.slice A2 n2 c2)])
  have hl2 : n2 ≤ 65 := by have := HM.out; omega
  have X := Lib.hid (pr_own ho2)
  have hc2' := (own_cap ho2).1
  clear ho2 hn2
  replace Q := Lib.hid (show PR w2 _ _ _ from (by first | with_reducible exact pr_below Q.out R2.out | with_reducible exact pr_below (pr_alloc Q.out _) R2.out | with_reducible exact pr_below (pr_alloc (pr_alloc Q.out _) _) R2.out | with_reducible exact pr_below (pr_alloc (pr_alloc (pr_alloc Q.out _) _) _) R2.out))
  go_wp2_with fail
  refine (pushS_yes lim A1 n1 c1 ps p _ (by first | with_reducible exact Q.out | with_reducible exact pr_alloc Q.out _ | with_reducible exact pr_alloc (pr_alloc Q.out _) _ | with_reducible exact pr_alloc (pr_alloc (pr_alloc Q.out _) _) _) (by omega) HK.out).mono ?_
  rintro e w3 ⟨A3, n3, c3, rfl, hn3, ho3, hb⟩
  obtain ⟨hc3, hf3⟩ := bcell hb
  have B3 := Lib.hid (show Below w.heap.size w w3 from (by first | exact below_seq B2.out hb | exact below_seq1 B2.out hb | exact below_seq2 B2.out hb | exact below_seq3 B2.out hb | exact below_seq4 B2.out hb))
  have R3 := Lib.hid hb
  have hz3 := hb.size
  try simp at hz3
  clear hb
  try have y30 : w.heap.size < w3.heap.size := by omega
  try have y30a : w.heap.size + 1 < w3.heap.size := by omega
  try have y30b : w.heap.size < w3.heap.size + 1 + 1 := by omega
  try have y30c : w.heap.size + 1 < w3.heap.size + 1 + 1 := by omega
  try have y31 : w1.heap.size < w3.heap.size := by omega
  try have y31a : w1.heap.size + 1 < w3.heap.size := by omega
  try have y31b : w1.heap.size < w3.heap.size + 1 + 1 := by omega
  try have y31c : w1.heap.size + 1 < w3.heap.size + 1 + 1 := by omega
  try have y32 : w2.heap.size < w3.heap.size := by omega
  try have y32a : w2.heap.size + 1 < w3.heap.size := by omega
  try have y32b : w2.heap.size < w3.heap.size + 1 + 1 := by omega
  try have y32c : w2.heap.size + 1 < w3.heap.size + 1 + 1 := by omega
  replace P1 := Lib.hid (blk_below (blk_alloc P1.out _) R3.out (blk_lt (blk_alloc P1.out _)))
  replace P2 := Lib.hid (blk_below (blk_alloc P2.out _) R3.out (blk_lt (blk_alloc P2.out _)))
  replace P3 := Lib.hid (blk_below P3.out R3.out (blk_lt P3.out))
  have hl3 : n3 ≤ 65 := by have := HM.out; omega
  have Y := Lib.hid (pr_own ho3)
  replace X := Lib.hid (show PR w3 _ _ _ from (by first | with_reducible exact pr_below X.out R3.out | with_reducible exact pr_below (pr_alloc X.out _) R3.out | with_reducible exact pr_below (pr_alloc (pr_alloc X.out _) _) R3.out | with_reducible exact pr_below (pr_alloc (pr_alloc (pr_alloc X.out _) _) _) R3.out))
  replace Q := Lib.hid (show PR w3 _ _ _ from (by first | with_reducible exact pr_below Q.out R3.out | with_reducible exact pr_below (pr_alloc Q.out _) R3.out | with_reducible exact pr_below (pr_alloc (pr_alloc Q.out _) _) R3.out | with_reducible exact pr_below (pr_alloc (pr_alloc (pr_alloc Q.out _) _) _) R3.out))
  clear ho3 hn3
  go_wp2_with fail
  refine (sameQI_any lim lim A2 A3 n2 c2 n3 c3 _ _ _ (by first | with_reducible exact X.out | with_reducible exact pr_alloc X.out _ | with_reducible exact pr_alloc (pr_alloc X.out _) _ | with_reducible exact pr_alloc (pr_alloc (pr_alloc X.out _) _) _) (by first | with_reducible exact Y.out | with_reducible exact pr_alloc Y.out _ | with_reducible exact pr_alloc (pr_alloc Y.out _) _ | with_reducible exact pr_alloc (pr_alloc (pr_alloc Y.out _) _) _) (by omega) (by omega)).mono ?_
  rintro e w4 ⟨rfl, hb⟩
  obtain ⟨hc4, hf4⟩ := bcell hb
  have B4 := Lib.hid (show Below w.heap.size w w4 from (by first | exact below_seq B3.out hb | exact below_seq1 B3.out hb | exact below_seq2 B3.out hb | exact below_seq3 B3.out hb | exact below_seq4 B3.out hb))
  have R4 := Lib.hid hb
  have hz4 := hb.size
  try simp at hz4
  clear hb
  try have y40 : w.heap.size < w4.heap.size := by omega
  try have y40a : w.heap.size + 1 < w4.heap.size := by omega
  try have y40b : w.heap.size < w4.heap.size + 1 + 1 := by omega
  try have y40c : w.heap.size + 1 < w4.heap.size + 1 + 1 := by omega
  try have y41 : w1.heap.size < w4.heap.size := by omega
  try have y41a : w1.heap.size + 1 < w4.heap.size := by omega
  try have y41b : w1.heap.size < w4.heap.size + 1 + 1 := by omega
  try have y41c : w1.heap.size + 1 < w4.heap.size + 1 + 1 := by omega
  try have y42 : w2.heap.size < w4.heap.size := by omega
  try have y42a : w2.heap.size + 1 < w4.heap.size := by omega
  try have y42b : w2.heap.size < w4.heap.size + 1 + 1 := by omega
  try have y42c : w2.heap.size + 1 < w4.heap.size + 1 + 1 := by omega
  try have y43 : w3.heap.size < w4.heap.size := by omega
  try have y43a : w3.heap.size + 1 < w4.heap.size := by omega
  try have y43b : w3.heap.size < w4.heap.size + 1 + 1 := by omega
  try have y43c : w3.heap.size + 1 < w4.heap.size + 1 + 1 := by omega
  rw [qs_refl]
  replace P1 := Lib.hid (blk_below (blk_alloc P1.out _) R4.out (blk_lt (blk_alloc P1.out _)))
  replace P2 := Lib.hid (blk_below (blk_alloc P2.out _) R4.out (blk_lt (blk_alloc P2.out _)))
  replace P3 := Lib.hid (blk_below (blk_alloc P3.out _) R4.out (blk_lt (blk_alloc P3.out _)))
  replace X := Lib.hid (show PR w4 _ _ _ from (by first | with_reducible exact pr_below X.out R4.out | with_reducible exact pr_below (pr_alloc X.out _) R4.out | with_reducible exact pr_below (pr_alloc (pr_alloc X.out _) _) R4.out | with_reducible exact pr_below (pr_alloc (pr_alloc (pr_alloc X.out _) _) _) R4.out))
  replace Q := Lib.hid (show PR w4 _ _ _ from (by first | with_reducible exact pr_below Q.out R4.out | with_reducible exact pr_below (pr_alloc Q.out _) R4.out | with_reducible exact pr_below (pr_alloc (pr_alloc Q.out _) _) R4.out | with_reducible exact pr_below (pr_alloc (pr_alloc (pr_alloc Q.out _) _) _) R4.out))
  clear Y
  go_wp2_with fail
  refine (roomI_any lim A1 n1 c1 ps _ (by first | with_reducible exact Q.out | with_reducible exact pr_alloc Q.out _ | with_reducible exact pr_alloc (pr_alloc Q.out _) _ | with_reducible exact pr_alloc (pr_alloc (pr_alloc Q.out _) _) _) (by omega)).mono ?_
  rintro e w5 ⟨rfl, hb⟩
  obtain ⟨hc5, hf5⟩ := bcell hb
  have B5 := Lib.hid (show Below w.heap.size w w5 from (by first | exact below_seq B4.out hb | exact below_seq1 B4.out hb | exact below_seq2 B4.out hb | exact below_seq3 B4.out hb | exact below_seq4 B4.out hb))
  have R5 := Lib.hid hb
  have hz5 := hb.size
  try simp at hz5
  clear hb
  try have y50 : w.heap.size < w5.heap.size := by omega
  try have y50a : w.heap.size + 1 < w5.heap.size := by omega
  try have y50b : w.heap.size < w5.heap.size + 1 + 1 := by omega
  try have y50c : w.heap.size + 1 < w5.heap.size + 1 + 1 := by omega
  try have y51 : w1.heap.size < w5.heap.size := by omega
  try have y51a : w1.heap.size + 1 < w5.heap.size := by omega
  try have y51b : w1.heap.size < w5.heap.size + 1 + 1 := by omega
  try have y51c : w1.heap.size + 1 < w5.heap.size + 1 + 1 := by omega
  try have y52 : w2.heap.size < w5.heap.size := by omega
  try have y52a : w2.heap.size + 1 < w5.heap.size := by omega
  try have y52b : w2.heap.size < w5.heap.size + 1 + 1 := by omega
  try have y52c : w2.heap.size + 1 < w5.heap.size + 1 + 1 := by omega
  try have y53 : w3.heap.size < w5.heap.size := by omega
  try have y53a : w3.heap.size + 1 < w5.heap.size := by omega
  try have y53b : w3.heap.size < w5.heap.size + 1 + 1 := by omega
  try have y53c : w3.heap.size + 1 < w5.heap.size + 1 + 1 := by omega
  try have y54 : w4.heap.size < w5.heap.size := by omega
  try have y54a : w4.heap.size + 1 < w5.heap.size := by omega
  try have y54b : w4.heap.size < w5.heap.size + 1 + 1 := by omega
  try have y54c : w4.heap.size + 1 < w5.heap.size + 1 + 1 := by omega
  rw [HQ.out, ← HA.out]
  replace P1 := Lib.hid (blk_below P1.out R5.out (blk_lt P1.out))
  replace P2 := Lib.hid (blk_below P2.out R5.out (blk_lt P2.out))
  replace P3 := Lib.hid (blk_below P3.out R5.out (blk_lt P3.out))
  replace X := Lib.hid (show PR w5 _ _ _ from (by first | with_reducible exact pr_below X.out R5.out | with_reducible exact pr_below (pr_alloc X.out _) R5.out | with_reducible exact pr_below (pr_alloc (pr_alloc X.out _) _) R5.out | with_reducible exact pr_below (pr_alloc (pr_alloc (pr_alloc X.out _) _) _) R5.out))
  replace Q := Lib.hid (show PR w5 _ _ _ from (by first | with_reducible exact pr_below Q.out R5.out | with_reducible exact pr_below (pr_alloc Q.out _) R5.out | with_reducible exact pr_below (pr_alloc (pr_alloc Q.out _) _) R5.out | with_reducible exact pr_below (pr_alloc (pr_alloc (pr_alloc Q.out _) _) _) R5.out))
  rcases hi : inQ lim ps p with _ | _
  · have HI := Lib.hid (push_full HK.out hi)
    rw [HI.out.2.2] at X
    rw [HI.out.1]
    have hor : n1 = 64 ∨ a < p.size := by
      have := HLQ.out
      have := has.out
      simp only [inQ, decide_eq_false_iff_not] at hi
      omega
    clear hi P1 P2 P3
    go_wp2_with fail
    refine (sameQI_any lim lim A2 A1 n2 c2 n1 c1 ps ps _ (by first | with_reducible exact X.out | with_reducible exact pr_alloc X.out _ | with_reducible exact pr_alloc (pr_alloc X.out _) _ | with_reducible exact pr_alloc (pr_alloc (pr_alloc X.out _) _) _) (by first | with_reducible exact Q.out | with_reducible exact pr_alloc Q.out _ | with_reducible exact pr_alloc (pr_alloc Q.out _) _ | with_reducible exact pr_alloc (pr_alloc (pr_alloc Q.out _) _) _) (by omega) (by omega)).mono ?_
    rintro e w6 ⟨rfl, hb⟩
    obtain ⟨hc6, hf6⟩ := bcell hb
    have B6 := Lib.hid (show Below w.heap.size w w6 from (by first | exact below_seq B5.out hb | exact below_seq1 B5.out hb | exact below_seq2 B5.out hb | exact below_seq3 B5.out hb | exact below_seq4 B5.out hb))
    have R6 := Lib.hid hb
    have hz6 := hb.size
    try simp at hz6
    clear hb
    try have y60 : w.heap.size < w6.heap.size := by omega
    try have y60a : w.heap.size + 1 < w6.heap.size := by omega
    try have y60b : w.heap.size < w6.heap.size + 1 + 1 := by omega
    try have y60c : w.heap.size + 1 < w6.heap.size + 1 + 1 := by omega
    try have y61 : w1.heap.size < w6.heap.size := by omega
    try have y61a : w1.heap.size + 1 < w6.heap.size := by omega
    try have y61b : w1.heap.size < w6.heap.size + 1 + 1 := by omega
    try have y61c : w1.heap.size + 1 < w6.heap.size + 1 + 1 := by omega
    try have y62 : w2.heap.size < w6.heap.size := by omega
    try have y62a : w2.heap.size + 1 < w6.heap.size := by omega
    try have y62b : w2.heap.size < w6.heap.size + 1 + 1 := by omega
    try have y62c : w2.heap.size + 1 < w6.heap.size + 1 + 1 := by omega
    try have y63 : w3.heap.size < w6.heap.size := by omega
    try have y63a : w3.heap.size + 1 < w6.heap.size := by omega
    try have y63b : w3.heap.size < w6.heap.size + 1 + 1 := by omega
    try have y63c : w3.heap.size + 1 < w6.heap.size + 1 + 1 := by omega
    try have y64 : w4.heap.size < w6.heap.size := by omega
    try have y64a : w4.heap.size + 1 < w6.heap.size := by omega
    try have y64b : w4.heap.size < w6.heap.size + 1 + 1 := by omega
    try have y64c : w4.heap.size + 1 < w6.heap.size + 1 + 1 := by omega
    try have y65 : w5.heap.size < w6.heap.size := by omega
    try have y65a : w5.heap.size + 1 < w6.heap.size := by omega
    try have y65b : w5.heap.size < w6.heap.size + 1 + 1 := by omega
    try have y65c : w5.heap.size + 1 < w6.heap.size + 1 + 1 := by omega
    rw [qs_refl]
    by_cases h64 : n1 = 64
    · have e1 : ((n1 : Int) == 64) = true := by simp [h64]
      clear h64 hor
      go_wp2
      all_goals
        go_ret
        refine ⟨rfl, ?_⟩
        repeat refine below_alloc ?_ _
        exact B6.out
    · have hlt : a < p.size := by omega
      have e2 : decide (a < p.size) = true := by simp [hlt]
      clear h64 hor
      go_wp2
      all_goals
        go_ret
        refine ⟨rfl, ?_⟩
        repeat refine below_alloc ?_ _
        exact B6.out
  · have HI := Lib.hid (push_in HK.out hi)
    have HX : Hid (qvB lim (ps ++ [p]) = true) := Lib.hid (by rw [qv_push HQ.out HV.out]; exact hi)
    rw [HI.out.2.2] at X
    rw [HI.out.1]
    have hx := X.out.1
    simp at hx
    have h2 : n2 = n1 + 1 := by have := HLQ.out; omega
    subst h2
    obtain ⟨b, hb2⟩ : ∃ b, b = roomN lim (ps ++ [p]) := ⟨_, rfl⟩
    have hab : a - p.size = b := by
      rw [hb2, room_yes HX.out, has.out, sizeSum_append]; simp only [sizeSum]; omega
    have b0 : 0 ≤ b := by rw [hb2, room_yes HX.out]; have := (qv_of HX.out).2.2.2.1; omega
    have hwr : IntKind.i64.wrap (a - p.size) = b := by rw [hab]; exact IntWalk.i64_in _ (by omega)
    have HBb := Lib.hid hb2
    clear hi hx hb2 hab
    go_wp2_with fail
    refine (roomI_any lim A2 (n1 + 1) c2 (ps ++ [p]) _ (by first | with_reducible exact X.out | with_reducible exact pr_alloc X.out _ | with_reducible exact pr_alloc (pr_alloc X.out _) _ | with_reducible exact pr_alloc (pr_alloc (pr_alloc X.out _) _) _) (by omega)).mono ?_
    rintro e w6 ⟨rfl, hb⟩
    obtain ⟨hc6, hf6⟩ := bcell hb
    have B6 := Lib.hid (show Below w.heap.size w w6 from (by first | exact below_seq B5.out hb | exact below_seq1 B5.out hb | exact below_seq2 B5.out hb | exact below_seq3 B5.out hb | exact below_seq4 B5.out hb))
    have R6 := Lib.hid hb
    have hz6 := hb.size
    try simp at hz6
    clear hb
    try have y60 : w.heap.size < w6.heap.size := by omega
    try have y60a : w.heap.size + 1 < w6.heap.size := by omega
    try have y60b : w.heap.size < w6.heap.size + 1 + 1 := by omega
    try have y60c : w.heap.size + 1 < w6.heap.size + 1 + 1 := by omega
    try have y61 : w1.heap.size < w6.heap.size := by omega
    try have y61a : w1.heap.size + 1 < w6.heap.size := by omega
    try have y61b : w1.heap.size < w6.heap.size + 1 + 1 := by omega
    try have y61c : w1.heap.size + 1 < w6.heap.size + 1 + 1 := by omega
    try have y62 : w2.heap.size < w6.heap.size := by omega
    try have y62a : w2.heap.size + 1 < w6.heap.size := by omega
    try have y62b : w2.heap.size < w6.heap.size + 1 + 1 := by omega
    try have y62c : w2.heap.size + 1 < w6.heap.size + 1 + 1 := by omega
    try have y63 : w3.heap.size < w6.heap.size := by omega
    try have y63a : w3.heap.size + 1 < w6.heap.size := by omega
    try have y63b : w3.heap.size < w6.heap.size + 1 + 1 := by omega
    try have y63c : w3.heap.size + 1 < w6.heap.size + 1 + 1 := by omega
    try have y64 : w4.heap.size < w6.heap.size := by omega
    try have y64a : w4.heap.size + 1 < w6.heap.size := by omega
    try have y64b : w4.heap.size < w6.heap.size + 1 + 1 := by omega
    try have y64c : w4.heap.size + 1 < w6.heap.size + 1 + 1 := by omega
    try have y65 : w5.heap.size < w6.heap.size := by omega
    try have y65a : w5.heap.size + 1 < w6.heap.size := by omega
    try have y65b : w5.heap.size < w6.heap.size + 1 + 1 := by omega
    try have y65c : w5.heap.size + 1 < w6.heap.size + 1 + 1 := by omega
    rw [HX.out, ← HBb.out]
    replace P1 := Lib.hid (blk_below P1.out R6.out (blk_lt P1.out))
    replace P2 := Lib.hid (blk_below P2.out R6.out (blk_lt P2.out))
    replace P3 := Lib.hid (blk_below P3.out R6.out (blk_lt P3.out))
    replace X := Lib.hid (show PR w6 _ _ _ from (by first | with_reducible exact pr_below X.out R6.out | with_reducible exact pr_below (pr_alloc X.out _) R6.out | with_reducible exact pr_below (pr_alloc (pr_alloc X.out _) _) R6.out | with_reducible exact pr_below (pr_alloc (pr_alloc (pr_alloc X.out _) _) _) R6.out))
    replace Q := Lib.hid (show PR w6 _ _ _ from (by first | with_reducible exact pr_below Q.out R6.out | with_reducible exact pr_below (pr_alloc Q.out _) R6.out | with_reducible exact pr_below (pr_alloc (pr_alloc Q.out _) _) R6.out | with_reducible exact pr_below (pr_alloc (pr_alloc (pr_alloc Q.out _) _) _) R6.out))
    obtain ⟨bb, oo, p', rfl, hbb, -, -⟩ := pr_at (k := n1) X.out (by omega)
    have HS := Lib.hid (show PB w lim w1.heap.size w2.heap.size A1 n1 c1 ps p (some ⟨bb, oo, none⟩) (n1 + 1) c2 (ps ++ [p]) w6 from ⟨P1.out, P2.out, P3.out, Q.out, X.out, B6.out⟩)
    have HT : Hid (∀ W, PR W (some ⟨bb, oo, none⟩) (n1 + 1) (ps ++ [p]) → PR W (some ⟨bb, oo, none⟩) n1 ps) := Lib.hid (fun W h => by
      have h3 := pr_take h (k := n1) (by omega)
      have h4 := HLQ.out
      rwa [List.take_append_of_le_length (by omega), List.take_of_length_le (by omega)] at h3)
    have x1 : IntKind.i64.wrap (((n1 + 1 : Nat) : Int) - 1) = (n1 : Int) := by rw [show ((n1 + 1 : Nat) : Int) - 1 = (n1 : Int) by omega]; exact IntWalk.i64_in _ (by omega)
    have x2 : (n1 : Int) < ((n1 + 1 : Nat) : Int) := by omega
    have x3 : (n1 : Int) ≤ (c2 : Int) := by omega
    have x4 : (0 : Int) ≤ (n1 : Int) := by omega
    have x5 : (n1 : Int) < (n1 : Int) + 1 := by omega
    have x6 : (n1 : Int) ≤ (n1 : Int) + 1 := by omega
    clear P1 P2 P3 Q X hc2' hbb
    have hS := pb_cells (pb_drew HS.out)
    go_wp2_with fail
    go_region_held3 (fun w' => (w'.cell? ⟨w1.heap.size, 1, none⟩ = some (.slice A1 n1 c1) ∧ w'.cell? ⟨w1.heap.size + 1, 0, none⟩ = some (.int .i64 p.peer) ∧ w'.cell? ⟨w1.heap.size + 1, 1, none⟩ = some (.int .i64 p.lane) ∧ w'.cell? ⟨w1.heap.size + 1, 2, none⟩ = some (.int .i64 p.size) ∧ w'.cell? ⟨w1.heap.size + 1, 3, none⟩ = some (.int .i64 p.id)) ∧
    (w'.cell? ⟨w2.heap.size, 0, none⟩ = some (.int .i64 lim) ∧ w'.cell? ⟨w2.heap.size, 1, none⟩ = some (.slice (some ⟨bb, oo, none⟩) (n1 + 1) c2)) ∧
    (w'.cell? ⟨bb, oo + n1 * 4, none⟩ = some (.int .i64 p.peer) ∧ w'.cell? ⟨bb, oo + n1 * 4 + 1, none⟩ = some (.int .i64 p.lane) ∧ w'.cell? ⟨bb, oo + n1 * 4 + 2, none⟩ = some (.int .i64 p.size) ∧ w'.cell? ⟨bb, oo + n1 * 4 + 3, none⟩ = some (.int .i64 p.id)) ∧
    PB w lim w1.heap.size w2.heap.size A1 n1 c1 ps p (some ⟨bb, oo, none⟩) (n1 + 1) c2 (ps ++ [p]) w')
      (first
        | (with_reducible assumption)
        | fail)
      (first
        | (go_at_call 20
           refine (qvI_any lim (some ⟨bb, oo, none⟩) (n1 + 1) c2 (ps ++ [p]) _ (pb_drew HS.out).r (by omega)).mono ?_
           rintro e w7 ⟨rfl, hb7⟩
           rw [HX.out]
           have HS7 := Lib.hid (pb_below (pb_drew HS.out) hb7)
           have hS7 := pb_cells HS7.out
           clear hb7)
        | (go_at_call 21
           refine (sameI_any (some ⟨bb, oo, none⟩) A1 n1 c2 n1 c1 ps ps _ (HT.out _ HS7.out.r) HS7.out.q (by omega) (by omega)).mono ?_
           rintro e w8 ⟨rfl, hb8⟩
           rw [← same_yes (by rfl)]
           have HS8 := Lib.hid (pb_below HS7.out hb8)
           have hS8 := pb_cells HS8.out
           clear hb8))
    all_goals
      go_wp2
      go_ret
      exact ⟨rfl, HS8.out.b⟩
theorem own : ownKnob Try.prog.godebug = none := by kernel_rfl
theorem laidOut : laidOutB Try.prog = true := by kernel_rfl
set_option maxRecDepth 100000 in
theorem lifted (os : Os) (started : os.Started) (H : Type) (enc : TypeId × Value → H) :
    ReturnsInHanded {} Try.checked os 3 .any (Rows.fnPushBackSpec.pre6 enc Try.prog Try.f3 Rows.fnPushBackRow.domain false) (Rows.fnPushBackSpec.post enc Try.prog Try.f3 false true false false) := by
  refine returnsInHanded_of_change (C := Try.checked) own started (by kernel_rfl) Try.func3
    (ChangeSpec.witness6 (enc := enc) (C := Try.checked) false ⟨#[], #[.slice none 0 0], []⟩ 8 (by kernel_rfl) (by kernel_rfl) (by kernel_rfl) (by kernel_rfl)) ?_
  intro W base args ds gs before hval0 hW _ _
  have hval : ∀ (j : Nat) t v, Try.f3.params[j]? = some t → args[j]? = some v → Value.okWide Try.prog W .any base t v := hval0
  have hW' := hW
  obtain ⟨p, q, hA0, hV, rfl, _, _⟩ := hW
  have hA : DataW.TrodAll enc Try.prog W 0 (fun _ => true) true Try.f3.params.toList args.toList ds p := hA0
  rw [Try.params3] at hA hval
  obtain ⟨v0, vs0, d0, ds0, p0, q0, hargs, rfl, rfl, h0, r0⟩ := trodAll_cons hA
  obtain ⟨rfl, rfl, rfl⟩ := trodAll_nil r0
  obtain rfl : args = #[v0] := by cases args; simp_all
  obtain ⟨rfl, rfl⟩ := trodVars_none hV
  have lt0 : ∀ x ∈ p0, x.block < W.heap.size := by obtain ⟨m, hm⟩ := h0; exact DataW.trod_lt m _ _ _ hm
  obtain ⟨a0, n0, c0, rfl⟩ := okWide_slice Try.underlying22 (hval 0 22 v0 rfl rfl)
  have w0 : Bytes W a0 n0 c0 := bytes_open h0
  clear hA0 hval0
  refine (walk a0 n0 c0 W w0).mono fun e W' ⟨he, bel⟩ => ?_
  subst he
  exact ⟨_, rfl, _, _, _, [], _, [], hW', trodAll_mk1 (shut_bool Try.underlying4 _), (trodAll_cons_mk (Below.trod laidOut (by kernel_rfl) (of_decide_eq_true (by kernel_rfl)) h0 bel lt0) trodAll_mk0), rfl, bel.frame _, fun h => by cases h⟩
theorem over : Rows.fnPushBackRow.holds Try.pinned (OpenSpec.ofChange Rows.fnPushBackSpec) :=
  OpenClaim.holds_of_wide 3 Try.f3 rfl rfl rfl rfl rfl rfl rfl ⟨rfl, rfl, rfl, rfl, rfl⟩ rfl rfl rfl rfl rfl (by kernel_rfl) Try.func3 (by kernel_rfl)
    (of_decide_eq_true (by kernel_rfl)) (by unfold Func.isWrapper; first | (rw [if_pos (by decide +kernel)]; kernel_rfl) | (rw [if_neg (by decide +kernel)]; exact ⟨rfl, rfl⟩))
    (fun os started H enc _ => lifted os started H enc)
/-- the given statement -/
theorem proved : Rows.FnPushBackSaid := over
end Go.Proofs.Ytapoahoknlaeaaa.fnPushBack
