/-
  The law FnNextOfLanes returns true at every argument: the next packet of the lanes is the next one of the lane in turn. Conditions: none.
-/
import Derived.Test.YtkmoiphcpmhacaaKb
import Derived.Test.YtkmoiphcpmhacaaKy
import Derived.Test.YtkmoiphcpmhacaaKw
import Derived.Test.YtkmoiphcpmhacaaMay
import Derived.Test.YtkmoiphcpmhacaaLifts
import Derived.Test.YtkmoiphcpmhacaaMake
namespace Go.Proofs.Ytkmoiphcpmhacaa.fnNextOfLanes
open Go.ChangeShapes Go.WideShapes Go.ChangeAt Go.RowKit

theorem nl_rd {w w' : World} {l : Ln} {i : Nat} {e : Ending} (hk : NoOk l i) (h : NlPost w l e w') : e = .returned (.tuple #[.int .i64 (i : Int), .bool true]) ∧ Below w.heap.size w w' := by
  refine ⟨?_, h.2⟩
  rcases h.1 with ⟨j, -, hj, rfl⟩ | ⟨hn, -⟩
  · rw [turn_uniq hj hk.2]
  · exact absurd ⟨hk.1, i, hk.2⟩ hn
theorem nl_rdno {w w' : World} {l : Ln} {e : Ending} (hk : ¬ ∃ i, NoOk l i) (h : NlPost w l e w') : e = .returned (.tuple #[.int .i64 0, .bool false]) ∧ Below w.heap.size w w' := by
  refine ⟨?_, h.2⟩
  rcases h.1 with ⟨j, hv, hj, rfl⟩ | ⟨hn, rfl⟩
  · exact absurd ⟨j, hv, hj⟩ hk
  · rfl
theorem no_cells {w : World} {g1 g2 bA oA bC oC : Nat} {v1 v2 x0 x1 y0 y1 : Value} (r1 : w.cell? ⟨g1, 0, none⟩ = some v1) (r2 : w.cell? ⟨g2, 0, none⟩ = some v2) (e0 : w.cell? ⟨bA, oA, none⟩ = some x0) (e1 : w.cell? ⟨bA, oA + 1, none⟩ = some x1) (f0 : w.cell? ⟨bC, oC, none⟩ = some y0) (f1 : w.cell? ⟨bC, oC + 1, none⟩ = some y1) (h1 : g1 < w.heap.size) (h2 : g2 < w.heap.size) (hA : bA < w.heap.size) (hC : bC < w.heap.size) (w' : World) (hb : Below w.heap.size w w') :
    w'.cell? ⟨g1, 0, none⟩ = some v1 ∧ w'.cell? ⟨g2, 0, none⟩ = some v2 ∧ w'.cell? ⟨bA, oA, none⟩ = some x0 ∧ w'.cell? ⟨bA, oA + 1, none⟩ = some x1 ∧ w'.cell? ⟨bC, oC, none⟩ = some y0 ∧ w'.cell? ⟨bC, oC + 1, none⟩ = some y1 := by
  have c := (bcell hb).1
  exact ⟨(c _ _ h1).trans r1, (c _ _ h2).trans r2, (c _ _ hA).trans e0, (c _ _ hA).trans e1, (c _ _ hC).trans f0, (c _ _ hC).trans f1⟩
def NoOut (w : World) (vs : Array Value) (i : Value) (wr : World) : Prop := ∃ k : Nat, k ≤ 4 ∧ i = .int .i64 (k : Int) ∧ Below w.heap.size w wr ∧ Blk wr (w.heap.size + 1) 29 vs
set_option maxRecDepth 100000 in
set_option maxHeartbeats 8000000 in
theorem walk (A : Option Addr) (n c : Nat) (w : World) (h : Bytes w A n c) :
    Calls Try.prog 3 #[.slice A n c] w fun e w' => e = .returned (.bool true) ∧ Below w.heap.size w w' := by
  have HB := Lib.hid h
  clear h
  by_cases hbig : ¬ n ≤ 1048576
  · go_enter Try.func3, Try.ntmps3
    go_wp2
    go_ret
    exact ⟨rfl, Below.refl _ _⟩
  have hbig' : n ≤ 1048576 := by omega
  clear hbig
  go_enter Try.func3, Try.ntmps3
  go_wp2_with fail
  refine (drawNextOfLanes_any A n c _ HB.out).mono ?_
  rintro e w1 ⟨A1, n1, c1, J1, d1, C1, f1, l, rfl, hl, hb⟩
  obtain ⟨hc1, hf1⟩ := bcell hb
  have B1 := Lib.hid (show Below w.heap.size w w1 from (by first | exact below_seq (Below.refl w.heap.size w) hb | exact below_seq1 (Below.refl w.heap.size w) hb | exact below_seq2 (Below.refl w.heap.size w) hb | exact below_seq3 (Below.refl w.heap.size w) hb | exact below_seq4 (Below.refl w.heap.size w) hb))
  have R1 := Lib.hid hb
  have hz1 := hb.size
  try simp at hz1
  clear hb
  have H := Lib.hid hl
  clear hl
  by_cases hk : ∃ i, NoOk l i
  · obtain ⟨i, hk⟩ := hk
    have HOK := Lib.hid hk
    obtain ⟨r, x, y, hr, hne, hcx, hwy, hRL, hi4, x0, xy, y1, y9⟩ := turn_get hk.1 hk.2
    have HG := Lib.hid hr
    have HX := Lib.hid hcx
    have HY := Lib.hid hwy
    have HNE := Lib.hid hne
    have HRL := Lib.hid hRL
    obtain ⟨l2, hl2⟩ : ∃ l2, l2 = nxN l i := ⟨_, rfl⟩
    obtain ⟨pp, sz, pid, hP⟩ : ∃ pp sz pid, (⟨pp, (i : Int), sz, pid⟩ : Pkt) = nxQ l i := ⟨(nxQ l i).peer, (nxQ l i).size, (nxQ l i).id, by rw [← (lv_next hk.1 hk.2).2]⟩
    have HL2 := Lib.hid hl2
    have HP := Lib.hid hP
    clear hk hr hcx hwy hne hRL hl2 hP
    have i0 : (0 : Int) ≤ (i : Int) := by omega
    have i4 : (i : Int) < (4 : Int) := by omega
    go_wp2_with fail
    refine (noI_rd A1 n1 c1 J1 4 d1 C1 4 f1 l _ (by first | with_reducible exact H.out | with_reducible exact lr_alloc H.out _ | with_reducible exact lr_alloc (lr_alloc H.out _) _ | with_reducible exact lr_alloc (lr_alloc (lr_alloc H.out _) _) _) i HOK.out).mono ?_
    rintro e w2 ⟨A2, n2, c2, J2, m2, d2, C2, o2, f2, rfl, hx, hb⟩
    obtain ⟨hc2, hf2⟩ := bcell hb
    have B2 := Lib.hid (show Below w.heap.size w w2 from (by first | exact below_seq B1.out hb | exact below_seq1 B1.out hb | exact below_seq2 B1.out hb | exact below_seq3 B1.out hb | exact below_seq4 B1.out hb))
    have R2 := Lib.hid hb
    have hz2 := hb.size
    try simp at hz2
    clear hb
    try have y20 : w.heap.size < w2.heap.size := by omega
    try have y20a : w.heap.size + 1 < w2.heap.size := by omega
    try have y20b : w.heap.size < w2.heap.size + 1 + 1 := by omega
    try have y20c : w.heap.size + 1 < w2.heap.size + 1 + 1 := by omega
    try have y21 : w1.heap.size < w2.heap.size := by omega
    try have y21a : w1.heap.size + 1 < w2.heap.size := by omega
    try have y21b : w1.heap.size < w2.heap.size + 1 + 1 := by omega
    try have y21c : w1.heap.size + 1 < w2.heap.size + 1 + 1 := by omega
    rw [← HL2.out] at hx
    rw [← HP.out]
    have X := Lib.hid hx
    clear hx
    replace H := Lib.hid (show LR w2 _ _ _ _ _ _ _ from (by first | with_reducible exact lr_below H.out R2.out | with_reducible exact lr_below (lr_alloc H.out _) R2.out | with_reducible exact lr_below (lr_alloc (lr_alloc H.out _) _) R2.out | with_reducible exact lr_below (lr_alloc (lr_alloc (lr_alloc H.out _) _) _) R2.out))
    go_wp2_with fail
    refine (noS_rd A1 n1 c1 J1 4 d1 C1 4 f1 l _ (by first | with_reducible exact H.out | with_reducible exact lr_alloc H.out _ | with_reducible exact lr_alloc (lr_alloc H.out _) _ | with_reducible exact lr_alloc (lr_alloc (lr_alloc H.out _) _) _) i HOK.out).mono ?_
    rintro e w3 ⟨A3, n3, c3, J3, m3, d3, C3, o3, f3, rfl, hx, hb⟩
    obtain ⟨hc3, hf3⟩ := bcell hb
    have B3 := Lib.hid (show Below w.heap.size w w3 from (by first | exact below_seq B2.out hb | exact below_seq1 B2.out hb | exact below_seq2 B2.out hb | exact below_seq3 B2.out hb | exact below_seq4 B2.out hb))
    have R3 := Lib.hid hb
    have hz3 := hb.size
    try simp at hz3
    clear hb
    try have y30 : w.heap.size < w3.heap.size := by omega
    try have y30a : w.heap.size + 1 < w3.heap.size := by omega
    try have y30b : w.heap.size < w3.heap.size + 1 + 1 := by omega
    try have y30c : w.heap.size + 1 < w3.heap.size + 1 + 1 := by omega
    try have y31 : w1.heap.size < w3.heap.size := by omega
    try have y31a : w1.heap.size + 1 < w3.heap.size := by omega
    try have y31b : w1.heap.size < w3.heap.size + 1 + 1 := by omega
    try have y31c : w1.heap.size + 1 < w3.heap.size + 1 + 1 := by omega
    try have y32 : w2.heap.size < w3.heap.size := by omega
    try have y32a : w2.heap.size + 1 < w3.heap.size := by omega
    try have y32b : w2.heap.size < w3.heap.size + 1 + 1 := by omega
    try have y32c : w2.heap.size + 1 < w3.heap.size + 1 + 1 := by omega
    rw [← HL2.out] at hx
    rw [← HP.out]
    have Y := Lib.hid hx
    clear hx
    replace H := Lib.hid (show LR w3 _ _ _ _ _ _ _ from (by first | with_reducible exact lr_below H.out R3.out | with_reducible exact lr_below (lr_alloc H.out _) R3.out | with_reducible exact lr_below (lr_alloc (lr_alloc H.out _) _) R3.out | with_reducible exact lr_below (lr_alloc (lr_alloc (lr_alloc H.out _) _) _) R3.out))
    replace X := Lib.hid (show LR w3 _ _ _ _ _ _ _ from (by first | with_reducible exact lr_below X.out R3.out | with_reducible exact lr_below (lr_alloc X.out _) R3.out | with_reducible exact lr_below (lr_alloc (lr_alloc X.out _) _) R3.out | with_reducible exact lr_below (lr_alloc (lr_alloc (lr_alloc X.out _) _) _) R3.out))
    go_wp2_with fail
    refine (sameLI_any A2 n2 c2 J2 m2 d2 C2 o2 f2 l2 A3 n3 c3 J3 m3 d3 C3 o3 f3 l2 _ (by first | with_reducible exact X.out | with_reducible exact lr_alloc X.out _ | with_reducible exact lr_alloc (lr_alloc X.out _) _ | with_reducible exact lr_alloc (lr_alloc (lr_alloc X.out _) _) _) (by first | with_reducible exact Y.out | with_reducible exact lr_alloc Y.out _ | with_reducible exact lr_alloc (lr_alloc Y.out _) _ | with_reducible exact lr_alloc (lr_alloc (lr_alloc Y.out _) _) _)).mono ?_
    rintro e w4 ⟨rfl, hb⟩
    obtain ⟨hc4, hf4⟩ := bcell hb
    have B4 := Lib.hid (show Below w.heap.size w w4 from (by first | exact below_seq B3.out hb | exact below_seq1 B3.out hb | exact below_seq2 B3.out hb | exact below_seq3 B3.out hb | exact below_seq4 B3.out hb))
    have R4 := Lib.hid hb
    have hz4 := hb.size
    try simp at hz4
    clear hb
    try have y40 : w.heap.size < w4.heap.size := by omega
    try have y40a : w.heap.size + 1 < w4.heap.size := by omega
    try have y40b : w.heap.size < w4.heap.size + 1 + 1 := by omega
    try have y40c : w.heap.size + 1 < w4.heap.size + 1 + 1 := by omega
    try have y41 : w1.heap.size < w4.heap.size := by omega
    try have y41a : w1.heap.size + 1 < w4.heap.size := by omega
    try have y41b : w1.heap.size < w4.heap.size + 1 + 1 := by omega
    try have y41c : w1.heap.size + 1 < w4.heap.size + 1 + 1 := by omega
    try have y42 : w2.heap.size < w4.heap.size := by omega
    try have y42a : w2.heap.size + 1 < w4.heap.size := by omega
    try have y42b : w2.heap.size < w4.heap.size + 1 + 1 := by omega
    try have y42c : w2.heap.size + 1 < w4.heap.size + 1 + 1 := by omega
    try have y43 : w3.heap.size < w4.heap.size := by omega
    try have y43a : w3.heap.size + 1 < w4.heap.size := by omega
    try have y43b : w3.heap.size < w4.heap.size + 1 + 1 := by omega
    try have y43c : w3.heap.size + 1 < w4.heap.size + 1 + 1 := by omega
    rw [ls_refl]
    replace H := Lib.hid (show LR w4 _ _ _ _ _ _ _ from (by first | with_reducible exact lr_below H.out R4.out | with_reducible exact lr_below (lr_alloc H.out _) R4.out | with_reducible exact lr_below (lr_alloc (lr_alloc H.out _) _) R4.out | with_reducible exact lr_below (lr_alloc (lr_alloc (lr_alloc H.out _) _) _) R4.out))
    replace X := Lib.hid (show LR w4 _ _ _ _ _ _ _ from (by first | with_reducible exact lr_below X.out R4.out | with_reducible exact lr_below (lr_alloc X.out _) R4.out | with_reducible exact lr_below (lr_alloc (lr_alloc X.out _) _) R4.out | with_reducible exact lr_below (lr_alloc (lr_alloc (lr_alloc X.out _) _) _) R4.out))
    clear Y

    have HV2 := Lib.hid (show LV l2 by rw [HL2.out]; exact (lv_next HOK.out.1 HOK.out.2).1)
    obtain rfl : n1 = 4 := (lr_four H.out HOK.out.1).1
    obtain rfl : n2 = 4 := (lr_four X.out HV2.out).1
    have HRS := Lib.hid (show ∀ (k : Nat) (r r' : Rb), k ≠ i → l.rs[k]? = some r → l2.rs[k]? = some r' → r' = r from fun k r r' hk h1 h2 => by
      rw [HL2.out, next_rs h1, if_neg hk] at h2
      exact (Option.some.inj h2).symm)
    go_wp2_with fail
    refine ((nlI_any A1 4 c1 J1 4 d1 C1 4 f1 l _ (by first | with_reducible exact H.out | with_reducible exact lr_alloc H.out _ | with_reducible exact lr_alloc (lr_alloc H.out _) _ | with_reducible exact lr_alloc (lr_alloc (lr_alloc H.out _) _) _)).mono fun _ _ h => nl_rd HOK.out h).mono ?_
    rintro e w5 ⟨rfl, hb⟩
    obtain ⟨hc5, hf5⟩ := bcell hb
    have B5 := Lib.hid (show Below w.heap.size w w5 from (by first | exact below_seq B4.out hb | exact below_seq1 B4.out hb | exact below_seq2 B4.out hb | exact below_seq3 B4.out hb | exact below_seq4 B4.out hb))
    have R5 := Lib.hid hb
    have hz5 := hb.size
    try simp at hz5
    clear hb
    try have y50 : w.heap.size < w5.heap.size := by omega
    try have y50a : w.heap.size + 1 < w5.heap.size := by omega
    try have y50b : w.heap.size < w5.heap.size + 1 + 1 := by omega
    try have y50c : w.heap.size + 1 < w5.heap.size + 1 + 1 := by omega
    try have y51 : w1.heap.size < w5.heap.size := by omega
    try have y51a : w1.heap.size + 1 < w5.heap.size := by omega
    try have y51b : w1.heap.size < w5.heap.size + 1 + 1 := by omega
    try have y51c : w1.heap.size + 1 < w5.heap.size + 1 + 1 := by omega
    try have y52 : w2.heap.size < w5.heap.size := by omega
    try have y52a : w2.heap.size + 1 < w5.heap.size := by omega
    try have y52b : w2.heap.size < w5.heap.size + 1 + 1 := by omega
    try have y52c : w2.heap.size + 1 < w5.heap.size + 1 + 1 := by omega
    try have y53 : w3.heap.size < w5.heap.size := by omega
    try have y53a : w3.heap.size + 1 < w5.heap.size := by omega
    try have y53b : w3.heap.size < w5.heap.size + 1 + 1 := by omega
    try have y53c : w3.heap.size + 1 < w5.heap.size + 1 + 1 := by omega
    try have y54 : w4.heap.size < w5.heap.size := by omega
    try have y54a : w4.heap.size + 1 < w5.heap.size := by omega
    try have y54b : w4.heap.size < w5.heap.size + 1 + 1 := by omega
    try have y54c : w4.heap.size + 1 < w5.heap.size + 1 + 1 := by omega
    replace H := Lib.hid (show LR w5 _ _ _ _ _ _ _ from (by first | with_reducible exact lr_below H.out R5.out | with_reducible exact lr_below (lr_alloc H.out _) R5.out | with_reducible exact lr_below (lr_alloc (lr_alloc H.out _) _) R5.out | with_reducible exact lr_below (lr_alloc (lr_alloc (lr_alloc H.out _) _) _) R5.out))
    replace X := Lib.hid (show LR w5 _ _ _ _ _ _ _ from (by first | with_reducible exact lr_below X.out R5.out | with_reducible exact lr_below (lr_alloc X.out _) R5.out | with_reducible exact lr_below (lr_alloc (lr_alloc X.out _) _) R5.out | with_reducible exact lr_below (lr_alloc (lr_alloc (lr_alloc X.out _) _) _) R5.out))
    obtain ⟨bA, oA, r6, A8, n8, c8, rfl, hbA, hr6, e0, e1, hfr⟩ := rr_at H.out.r hi4
    obtain rfl : r = r6 := Option.some.inj (HG.out.symm.trans hr6)
    have HFR := Lib.hid hfr
    clear hr6 hfr
    go_wp2_with fail
    refine (npI_yes r.q A8 n8 c8 r.fs _ HFR.out ⟨HRL.out.rv, HNE.out⟩).mono ?_
    rintro e w6 ⟨A9, n9, c9, hs9, rfl, hD, hb⟩
    obtain ⟨hc6, hf6⟩ := bcell hb
    have B6 := Lib.hid (show Below w.heap.size w w6 from (by first | exact below_seq B5.out hb | exact below_seq1 B5.out hb | exact below_seq2 B5.out hb | exact below_seq3 B5.out hb | exact below_seq4 B5.out hb))
    have R6 := Lib.hid hb
    have hz6 := hb.size
    try simp at hz6
    clear hb
    try have y60 : w.heap.size < w6.heap.size := by omega
    try have y60a : w.heap.size + 1 < w6.heap.size := by omega
    try have y60b : w.heap.size < w6.heap.size + 1 + 1 := by omega
    try have y60c : w.heap.size + 1 < w6.heap.size + 1 + 1 := by omega
    try have y61 : w1.heap.size < w6.heap.size := by omega
    try have y61a : w1.heap.size + 1 < w6.heap.size := by omega
    try have y61b : w1.heap.size < w6.heap.size + 1 + 1 := by omega
    try have y61c : w1.heap.size + 1 < w6.heap.size + 1 + 1 := by omega
    try have y62 : w2.heap.size < w6.heap.size := by omega
    try have y62a : w2.heap.size + 1 < w6.heap.size := by omega
    try have y62b : w2.heap.size < w6.heap.size + 1 + 1 := by omega
    try have y62c : w2.heap.size + 1 < w6.heap.size + 1 + 1 := by omega
    try have y63 : w3.heap.size < w6.heap.size := by omega
    try have y63a : w3.heap.size + 1 < w6.heap.size := by omega
    try have y63b : w3.heap.size < w6.heap.size + 1 + 1 := by omega
    try have y63c : w3.heap.size + 1 < w6.heap.size + 1 + 1 := by omega
    try have y64 : w4.heap.size < w6.heap.size := by omega
    try have y64a : w4.heap.size + 1 < w6.heap.size := by omega
    try have y64b : w4.heap.size < w6.heap.size + 1 + 1 := by omega
    try have y64c : w4.heap.size + 1 < w6.heap.size + 1 + 1 := by omega
    try have y65 : w5.heap.size < w6.heap.size := by omega
    try have y65a : w5.heap.size + 1 < w6.heap.size := by omega
    try have y65b : w5.heap.size < w6.heap.size + 1 + 1 := by omega
    try have y65c : w5.heap.size + 1 < w6.heap.size + 1 + 1 := by omega
    rw [← nxQ_eq HG.out, ← HP.out]
    replace H := Lib.hid (show LR w6 _ _ _ _ _ _ _ from (by first | with_reducible exact lr_below H.out R6.out | with_reducible exact lr_below (lr_alloc H.out _) R6.out | with_reducible exact lr_below (lr_alloc (lr_alloc H.out _) _) R6.out | with_reducible exact lr_below (lr_alloc (lr_alloc (lr_alloc H.out _) _) _) R6.out))
    replace X := Lib.hid (show LR w6 _ _ _ _ _ _ _ from (by first | with_reducible exact lr_below X.out R6.out | with_reducible exact lr_below (lr_alloc X.out _) R6.out | with_reducible exact lr_below (lr_alloc (lr_alloc X.out _) _) R6.out | with_reducible exact lr_below (lr_alloc (lr_alloc (lr_alloc X.out _) _) _) R6.out))
    clear hD e0 e1 HFR
    go_wp2_with fail
    go_loopw [15] (fun i2 wr => NoOut w6 #[.int .i64 pp, (.int .i64 (i : Int)), .int .i64 sz, .int .i64 pid] i2 wr) (fun i _ => 4 - (intOf i).toNat)
    case atStart => exact ⟨0, by omega, rfl, below_alloc (below_alloc (Below.refl _ _) _) _, blk_new2 _ _ _ _⟩
    case round =>
      obtain ⟨k, hk4, rfl, hbl, hblk⟩ := hrel
      have HBl := Lib.hid hbl
      have HK := Lib.hid hblk
      have zk := blk_lt hblk
      clear hbl hblk
      obtain ⟨hcx, hfx⟩ := bcell HBl.out
      have hzx := HBl.out.size
      have yx0 : w.heap.size < wr.heap.size := by omega
      have yx1 : w1.heap.size < wr.heap.size := by omega
      try have yx1a : w1.heap.size + 1 < wr.heap.size := by omega
      have yx2 : w2.heap.size < wr.heap.size := by omega
      try have yx2a : w2.heap.size + 1 < wr.heap.size := by omega
      have yx3 : w3.heap.size < wr.heap.size := by omega
      try have yx3a : w3.heap.size + 1 < wr.heap.size := by omega
      have yx4 : w4.heap.size < wr.heap.size := by omega
      try have yx4a : w4.heap.size + 1 < wr.heap.size := by omega
      have yx5 : w5.heap.size < wr.heap.size := by omega
      try have yx5a : w5.heap.size + 1 < wr.heap.size := by omega
      have yx6 : w6.heap.size < wr.heap.size := by omega
      try have yx6a : w6.heap.size + 1 < wr.heap.size := by omega
      by_cases hlt : k < 4
      · obtain ⟨bB, oB, r', A11, n11, c11, e3, hbB, hr', e0', e1', hfr'⟩ := rr_at (lr_below H.out HBl.out).r hlt
        obtain ⟨rfl, rfl⟩ : bA = bB ∧ oA = oB := by injection e3 with e3; injection e3 with a1 a2; exact ⟨a1, a2⟩
        obtain ⟨bC, oC, r'', A12, n12, c12, rfl, hbC, hr'', e0'', e1'', hfr''⟩ := rr_at (lr_below X.out HBl.out).r hlt
        have HFR := Lib.hid hfr'
        have HFR' := Lib.hid hfr''
        have k0 : (0 : Int) ≤ (k : Int) := by omega
        have k1 : (k : Int) < (4 : Int) := by omega
        clear e3 hfr' hfr''
        by_cases hki : k = i
        · have hne : ((k : Int) != (i : Int)) = false := by simp; omega
          clear hki hr' hr''
          go_wp2_with fail
          go_region
          all_goals
            go_wp2
            go_roundw
            case rel => exact ⟨k + 1, by omega, by go_num, by first | exact below_drewN HBl.out _ | exact HBl.out.drew, by first | exact blk_below HK.out (below_drewN (Below.refl _ _) _) zk | exact blk_below HK.out (Below.refl _ _).drew zk⟩
            case measure => simp [intOf]; omega
        · have hne : ((k : Int) != (i : Int)) = true := by simp; omega
          obtain rfl := HRS.out k r' r'' hki hr' hr''
          clear hki hr' hr''
          have r1 : wr.cell? ⟨w1.heap.size, 0, none⟩ = some (.slice (some ⟨bA, oA, none⟩) 4 c1) := by go_simp
          have r2 : wr.cell? ⟨w2.heap.size, 0, none⟩ = some (.slice (some ⟨bC, oC, none⟩) 4 c2) := by go_simp
          have CS := Lib.hid (no_cells r1 r2 e0' e1' e0'' e1'' yx1 yx2 hbB hbC)
          have hS := And.intro (CS.out _ (Below.drew (Below.refl wr.heap.size wr))) (Below.drew (Below.refl wr.heap.size wr))
          clear r1 r2
          go_wp2_with fail
          refine wp_region_held_drew (S := (fun w' : World => (w'.cell? ⟨w1.heap.size, 0, none⟩ = some (.slice (some ⟨bA, oA, none⟩) 4 c1) ∧ w'.cell? ⟨w2.heap.size, 0, none⟩ = some (.slice (some ⟨bC, oC, none⟩) 4 c2) ∧ w'.cell? ⟨bA, oA + k * 2, none⟩ = some (.int .i64 r''.q) ∧ w'.cell? ⟨bA, oA + k * 2 + 1, none⟩ = some (.slice A11 n11 c11) ∧ w'.cell? ⟨bC, oC + k * 2, none⟩ = some (.int .i64 r''.q) ∧ w'.cell? ⟨bC, oC + k * 2 + 1, none⟩ = some (.slice A12 n12 c12)) ∧ Below wr.heap.size wr w')) (by kernel_rfl) hS (fun hH => ?_)
          refine wpAnyH_take (i := 0) (oi := { dst := some 83, op := Op.move (Operand.tmp 15), type := 3, pos := "laws.go:1270", after := #[], guard := none }) (v := ?_) rfl (by kernel_rfl) (by kernel_rfl) (by kernel_rfl) (fun _ _ _ h => h) (Or.inl ⟨by rfl, ?_⟩) hS ?_
          rotate_left
          · (intro w9 hSw; (try dsimp only at hSw); go_simp; try with_reducible rfl)
          try simp only [Act.put, List.setIfInBounds_toArray, List.set_cons_zero, List.set_cons_succ]
          refine wpAnyH_take (i := 1) (oi := { dst := some 84, op := Op.move (Operand.tmp 10), type := 3, pos := "laws.go:1270", after := #[], guard := none }) (v := ?_) rfl (by kernel_rfl) (by kernel_rfl) (by kernel_rfl) (fun _ _ _ h => h) (Or.inl ⟨by rfl, ?_⟩) hS ?_
          rotate_left
          · (intro w9 hSw; (try dsimp only at hSw); go_simp; try with_reducible rfl)
          try simp only [Act.put, List.setIfInBounds_toArray, List.set_cons_zero, List.set_cons_succ]
          refine wpAnyH_take (i := 2) (oi := { dst := some 85, op := Op.binOp BinOp.neq 3 (Operand.tmp 83) (Operand.tmp 84) 3, type := 4, pos := "laws.go:1270", after := #[{ on := 0, ground := Ground.data }, { on := 1, ground := Ground.data }], guard := none }) (v := ?_) rfl (by kernel_rfl) (by kernel_rfl) (by kernel_rfl) (fun _ _ _ h => h) (Or.inl ⟨by rfl, ?_⟩) hS ?_
          rotate_left
          · (intro w9 hSw; (try dsimp only at hSw); go_simp; try with_reducible rfl)
          try simp only [Act.put, List.setIfInBounds_toArray, List.set_cons_zero, List.set_cons_succ]
          refine wpAnyH_take (i := 3) (oi := { dst := some 86, op := Op.move (Operand.tmp 85), type := 4, pos := "laws.go:1270", after := #[{ on := 2, ground := Ground.data }], guard := none }) (v := ?_) rfl (by kernel_rfl) (by kernel_rfl) (by kernel_rfl) (fun _ _ _ h => h) (Or.inl ⟨by rfl, ?_⟩) hS ?_
          rotate_left
          · (intro w9 hSw; (try dsimp only at hSw); go_simp; try with_reducible rfl)
          try simp only [Act.put, List.setIfInBounds_toArray, List.set_cons_zero, List.set_cons_succ]
          refine wpAnyH_take (i := 4) (oi := { dst := some 87, op := Op.fieldAddr 26 (Operand.tmp 4) 0, type := 0, pos := "laws.go:1270", after := #[{ on := 3, ground := Ground.guard }], guard := some (3, true) }) (v := ?_) rfl (by kernel_rfl) (by kernel_rfl) (by kernel_rfl) (fun _ _ _ h => h) (Or.inl ⟨by rfl, ?_⟩) hS ?_
          rotate_left
          · (intro w9 hSw; (try dsimp only at hSw); go_simp; try with_reducible rfl)
          try simp only [Act.put, List.setIfInBounds_toArray, List.set_cons_zero, List.set_cons_succ]
          refine wpAnyH_take (i := 5) (oi := { dst := some 88, op := Op.load 23 (Operand.tmp 87), type := 23, pos := "laws.go:1270", after := #[{ on := 4, ground := Ground.data }, { on := 3, ground := Ground.guard }], guard := some (3, true) }) (v := ?_) rfl (by kernel_rfl) (by kernel_rfl) (by kernel_rfl) (fun _ _ _ h => h) (Or.inl ⟨by rfl, ?_⟩) hS ?_
          rotate_left
          · (intro w9 hSw; (try dsimp only at hSw); go_simp; try with_reducible rfl)
          try simp only [Act.put, List.setIfInBounds_toArray, List.set_cons_zero, List.set_cons_succ]
          refine wpAnyH_take (i := 6) (oi := { dst := some 89, op := Op.move (Operand.tmp 15), type := 3, pos := "laws.go:1270", after := #[{ on := 3, ground := Ground.guard }], guard := some (3, true) }) (v := ?_) rfl (by kernel_rfl) (by kernel_rfl) (by kernel_rfl) (fun _ _ _ h => h) (Or.inl ⟨by rfl, ?_⟩) hS ?_
          rotate_left
          · (intro w9 hSw; (try dsimp only at hSw); go_simp; try with_reducible rfl)
          try simp only [Act.put, List.setIfInBounds_toArray, List.set_cons_zero, List.set_cons_succ]
          refine wpAnyH_take (i := 7) (oi := { dst := some 90, op := Op.indexAddr 23 (Operand.tmp 88) (Operand.tmp 89), type := 0, pos := "laws.go:1270", after := #[{ on := 5, ground := Ground.data }, { on := 6, ground := Ground.data }, { on := 3, ground := Ground.guard }], guard := some (3, true) }) (v := ?_) rfl (by kernel_rfl) (by kernel_rfl) (by kernel_rfl) (fun _ _ _ h => h) (Or.inl ⟨by rfl, ?_⟩) hS ?_
          rotate_left
          · (intro w9 hSw; (try dsimp only at hSw); go_simp; try with_reducible rfl)
          try simp only [Act.put, List.setIfInBounds_toArray, List.set_cons_zero, List.set_cons_succ]
          refine wpAnyH_take (i := 8) (oi := { dst := some 91, op := Op.load 37 (Operand.tmp 90), type := 37, pos := "laws.go:1270", after := #[{ on := 7, ground := Ground.data }, { on := 3, ground := Ground.guard }], guard := some (3, true) }) (v := ?_) rfl (by kernel_rfl) (by kernel_rfl) (by kernel_rfl) (fun _ _ _ h => h) (Or.inl ⟨by rfl, ?_⟩) hS ?_
          rotate_left
          · (intro w9 hSw; (try dsimp only at hSw); go_simp; try with_reducible rfl)
          try simp only [Act.put, List.setIfInBounds_toArray, List.set_cons_zero, List.set_cons_succ]
          refine wpAnyH_take (i := 9) (oi := { dst := some 92, op := Op.fieldAddr 26 (Operand.tmp 3) 0, type := 0, pos := "laws.go:1270", after := #[{ on := 3, ground := Ground.guard }], guard := some (3, true) }) (v := ?_) rfl (by kernel_rfl) (by kernel_rfl) (by kernel_rfl) (fun _ _ _ h => h) (Or.inl ⟨by rfl, ?_⟩) hS ?_
          rotate_left
          · (intro w9 hSw; (try dsimp only at hSw); go_simp; try with_reducible rfl)
          try simp only [Act.put, List.setIfInBounds_toArray, List.set_cons_zero, List.set_cons_succ]
          refine wpAnyH_take (i := 10) (oi := { dst := some 93, op := Op.load 23 (Operand.tmp 92), type := 23, pos := "laws.go:1270", after := #[{ on := 9, ground := Ground.data }, { on := 3, ground := Ground.guard }], guard := some (3, true) }) (v := ?_) rfl (by kernel_rfl) (by kernel_rfl) (by kernel_rfl) (fun _ _ _ h => h) (Or.inl ⟨by rfl, ?_⟩) hS ?_
          rotate_left
          · (intro w9 hSw; (try dsimp only at hSw); go_simp; try with_reducible rfl)
          try simp only [Act.put, List.setIfInBounds_toArray, List.set_cons_zero, List.set_cons_succ]
          refine wpAnyH_take (i := 11) (oi := { dst := some 94, op := Op.move (Operand.tmp 15), type := 3, pos := "laws.go:1270", after := #[{ on := 3, ground := Ground.guard }], guard := some (3, true) }) (v := ?_) rfl (by kernel_rfl) (by kernel_rfl) (by kernel_rfl) (fun _ _ _ h => h) (Or.inl ⟨by rfl, ?_⟩) hS ?_
          rotate_left
          · (intro w9 hSw; (try dsimp only at hSw); go_simp; try with_reducible rfl)
          try simp only [Act.put, List.setIfInBounds_toArray, List.set_cons_zero, List.set_cons_succ]
          refine wpAnyH_take (i := 12) (oi := { dst := some 95, op := Op.indexAddr 23 (Operand.tmp 93) (Operand.tmp 94), type := 0, pos := "laws.go:1270", after := #[{ on := 10, ground := Ground.data }, { on := 11, ground := Ground.data }, { on := 3, ground := Ground.guard }], guard := some (3, true) }) (v := ?_) rfl (by kernel_rfl) (by kernel_rfl) (by kernel_rfl) (fun _ _ _ h => h) (Or.inl ⟨by rfl, ?_⟩) hS ?_
          rotate_left
          · (intro w9 hSw; (try dsimp only at hSw); go_simp; try with_reducible rfl)
          try simp only [Act.put, List.setIfInBounds_toArray, List.set_cons_zero, List.set_cons_succ]
          refine wpAnyH_take (i := 13) (oi := { dst := some 96, op := Op.load 37 (Operand.tmp 95), type := 37, pos := "laws.go:1270", after := #[{ on := 12, ground := Ground.data }, { on := 3, ground := Ground.guard }], guard := some (3, true) }) (v := ?_) rfl (by kernel_rfl) (by kernel_rfl) (by kernel_rfl) (fun _ _ _ h => h) (Or.inl ⟨by rfl, ?_⟩) hS ?_
          rotate_left
          · (intro w9 hSw; (try dsimp only at hSw); go_simp; try with_reducible rfl)
          try simp only [Act.put, List.setIfInBounds_toArray, List.set_cons_zero, List.set_cons_succ]
          refine wpAnyH_ready (rs := [14]) (by kernel_rfl) (by simp) ?_
          refine AllReadyH.cons (o := { dst := some 97, op := Op.call { callee := Callee.value (Operand.func 21), args := #[Operand.tmp 91, Operand.tmp 96], argTypes := #[37, 37] }, type := 4, pos := "laws.go:1270", after := #[{ on := 8, ground := Ground.data }, { on := 13, ground := Ground.data }, { on := 3, ground := Ground.chain }, { on := 3, ground := Ground.guard }], guard := some (3, true) }) rfl (fun K hK => ?_) AllReadyH.nil
          go_simp
          go_at_call 21
          refine (sameRI_any r''.q r''.q A12 A11 n12 c12 n11 c11 r''.fs r''.fs _ (fr_drewF HFR'.out) (fr_drewF HFR.out)).mono ?_
          rintro e w9 ⟨rfl, hb9⟩
          rw [rs_refl]
          have D9 := Lib.hid (show Below wr.heap.size wr w9 from below_seq (Below.drew (Below.refl _ _)) hb9)
          have B9 := Lib.hid (below_seq HBl.out D9.out)
          have K9 := Lib.hid (blk_below HK.out D9.out zk)
          have hS9 := And.intro (CS.out _ D9.out) D9.out
          clear hb9
          refine hK.out _ _ hS9 (fun hH => ?_)
          clear hK K
          try simp only [Act.put, List.setIfInBounds_toArray, List.set_cons_zero, List.set_cons_succ]
          refine wpAnyH_take (i := 15) (oi := { dst := some 98, op := Op.unOp UnOp.not 4 (Operand.tmp 97), type := 4, pos := "laws.go:1270", after := #[{ on := 14, ground := Ground.data }, { on := 3, ground := Ground.guard }], guard := some (3, true) }) (v := ?_) rfl (by kernel_rfl) (by kernel_rfl) (by kernel_rfl) (fun _ _ _ h => h) (Or.inl ⟨by rfl, ?_⟩) hS9 ?_
          rotate_left
          · (intro w9 hSw; (try dsimp only at hSw); go_simp; try with_reducible rfl)
          try simp only [Act.put, List.setIfInBounds_toArray, List.set_cons_zero, List.set_cons_succ]
          refine wpAnyH_take (i := 16) (oi := { dst := some 99, op := Op.pick (Operand.tmp 86) (Operand.tmp 98) (Operand.const (Value.bool false)), type := 4, pos := "laws.go:1270", after := #[{ on := 3, ground := Ground.data }, { on := 15, ground := Ground.data }], guard := none }) (v := ?_) rfl (by kernel_rfl) (by kernel_rfl) (by kernel_rfl) (fun _ _ _ h => h) (Or.inl ⟨by rfl, ?_⟩) hS9 ?_
          rotate_left
          · (intro w9 hSw; (try dsimp only at hSw); go_simp; try with_reducible rfl)
          try simp only [Act.put, List.setIfInBounds_toArray, List.set_cons_zero, List.set_cons_succ]
          refine wpAnyH_done (by kernel_rfl) ?_ _
          go_wp2
          go_roundw
          case rel => exact ⟨k + 1, by omega, by go_num, B9.out, K9.out⟩
          case measure => simp [intOf]; omega
      · obtain rfl : k = 4 := by omega
        have Bx := Lib.hid (below_seq B6.out HBl.out)
        replace X := Lib.hid (lr_below X.out HBl.out)
        have hii : ((i : Int) == (i : Int)) = true := by simp
        clear HBl H
        go_wp2_with fail
        refine (lanI_any A2 4 c2 J2 m2 d2 C2 o2 f2 l2 _ (by first | with_reducible exact X.out | with_reducible exact lr_alloc X.out _ | with_reducible exact lr_alloc (lr_alloc X.out _) _ | with_reducible exact lr_alloc (lr_alloc (lr_alloc X.out _) _) _)).mono ?_
        rintro e w7 ⟨rfl, hb⟩
        obtain ⟨hc7, hf7⟩ := bcell hb
        have B7 := Lib.hid (show Below w.heap.size w w7 from (by first | exact below_seq Bx.out hb | exact below_seq1 Bx.out hb | exact below_seq2 Bx.out hb | exact below_seq3 Bx.out hb | exact below_seq4 Bx.out hb))
        have R7 := Lib.hid hb
        have hz7 := hb.size
        try simp at hz7
        clear hb
        try have y70 : w.heap.size < w7.heap.size := by omega
        try have y70a : w.heap.size + 1 < w7.heap.size := by omega
        try have y70b : w.heap.size < w7.heap.size + 1 + 1 := by omega
        try have y70c : w.heap.size + 1 < w7.heap.size + 1 + 1 := by omega
        try have y71 : w1.heap.size < w7.heap.size := by omega
        try have y71a : w1.heap.size + 1 < w7.heap.size := by omega
        try have y71b : w1.heap.size < w7.heap.size + 1 + 1 := by omega
        try have y71c : w1.heap.size + 1 < w7.heap.size + 1 + 1 := by omega
        try have y72 : w2.heap.size < w7.heap.size := by omega
        try have y72a : w2.heap.size + 1 < w7.heap.size := by omega
        try have y72b : w2.heap.size < w7.heap.size + 1 + 1 := by omega
        try have y72c : w2.heap.size + 1 < w7.heap.size + 1 + 1 := by omega
        try have y73 : w3.heap.size < w7.heap.size := by omega
        try have y73a : w3.heap.size + 1 < w7.heap.size := by omega
        try have y73b : w3.heap.size < w7.heap.size + 1 + 1 := by omega
        try have y73c : w3.heap.size + 1 < w7.heap.size + 1 + 1 := by omega
        try have y74 : w4.heap.size < w7.heap.size := by omega
        try have y74a : w4.heap.size + 1 < w7.heap.size := by omega
        try have y74b : w4.heap.size < w7.heap.size + 1 + 1 := by omega
        try have y74c : w4.heap.size + 1 < w7.heap.size + 1 + 1 := by omega
        try have y75 : w5.heap.size < w7.heap.size := by omega
        try have y75a : w5.heap.size + 1 < w7.heap.size := by omega
        try have y75b : w5.heap.size < w7.heap.size + 1 + 1 := by omega
        try have y75c : w5.heap.size + 1 < w7.heap.size + 1 + 1 := by omega
        try have y76 : w6.heap.size < w7.heap.size := by omega
        try have y76a : w6.heap.size + 1 < w7.heap.size := by omega
        try have y76b : w6.heap.size < w7.heap.size + 1 + 1 := by omega
        try have y76c : w6.heap.size + 1 < w7.heap.size + 1 + 1 := by omega
        rw [lv_yes HV2.out]
        have yk : w6.heap.size + 1 < wr.heap.size := by omega
        have K := Lib.hid (show Blk wr ((w6.heap.size + 1)) 29 #[.int .i64 pp, (.int .i64 (i : Int)), .int .i64 sz, .int .i64 pid] from (HK.out))
        have Kc0 : World.cell? wr ⟨(w6.heap.size + 1), 0, none⟩ = some (.int .i64 pp) := blk_cell K.out 0
        have Kf0 : World.frozen? wr ⟨(w6.heap.size + 1), 0, none⟩ = false := blk_free K.out 0
        have Kc1 : World.cell? wr ⟨(w6.heap.size + 1), 1, none⟩ = some ((.int .i64 (i : Int))) := blk_cell K.out 1
        have Kf1 : World.frozen? wr ⟨(w6.heap.size + 1), 1, none⟩ = false := blk_free K.out 1
        have Kc2 : World.cell? wr ⟨(w6.heap.size + 1), 2, none⟩ = some (.int .i64 sz) := blk_cell K.out 2
        have Kf2 : World.frozen? wr ⟨(w6.heap.size + 1), 2, none⟩ = false := blk_free K.out 2
        have Kc3 : World.cell? wr ⟨(w6.heap.size + 1), 3, none⟩ = some (.int .i64 pid) := blk_cell K.out 3
        have Kf3 : World.frozen? wr ⟨(w6.heap.size + 1), 3, none⟩ = false := blk_free K.out 3
        go_wp2
        all_goals
          go_ret
          refine ⟨rfl, ?_⟩
          repeat (first | with_reducible refine below_alloc ?_ _ | with_reducible refine Below.drew ?_ | with_reducible refine below_drewN ?_ _)
          exact B7.out

  · have HK := Lib.hid hk
    clear hk
    go_wp2_with fail
    refine (noI_rdno A1 n1 c1 J1 4 d1 C1 4 f1 l _ (by first | with_reducible exact H.out | with_reducible exact lr_alloc H.out _ | with_reducible exact lr_alloc (lr_alloc H.out _) _ | with_reducible exact lr_alloc (lr_alloc (lr_alloc H.out _) _) _) HK.out).mono ?_
    rintro e w2 ⟨A2, n2, c2, J2, m2, d2, C2, o2, f2, rfl, hx, hb⟩
    obtain ⟨hc2, hf2⟩ := bcell hb
    have B2 := Lib.hid (show Below w.heap.size w w2 from (by first | exact below_seq B1.out hb | exact below_seq1 B1.out hb | exact below_seq2 B1.out hb | exact below_seq3 B1.out hb | exact below_seq4 B1.out hb))
    have R2 := Lib.hid hb
    have hz2 := hb.size
    try simp at hz2
    clear hb
    try have y20 : w.heap.size < w2.heap.size := by omega
    try have y20a : w.heap.size + 1 < w2.heap.size := by omega
    try have y20b : w.heap.size < w2.heap.size + 1 + 1 := by omega
    try have y20c : w.heap.size + 1 < w2.heap.size + 1 + 1 := by omega
    try have y21 : w1.heap.size < w2.heap.size := by omega
    try have y21a : w1.heap.size + 1 < w2.heap.size := by omega
    try have y21b : w1.heap.size < w2.heap.size + 1 + 1 := by omega
    try have y21c : w1.heap.size + 1 < w2.heap.size + 1 + 1 := by omega
    have X := Lib.hid hx
    clear hx
    replace H := Lib.hid (show LR w2 _ _ _ _ _ _ _ from (by first | with_reducible exact lr_below H.out R2.out | with_reducible exact lr_below (lr_alloc H.out _) R2.out | with_reducible exact lr_below (lr_alloc (lr_alloc H.out _) _) R2.out | with_reducible exact lr_below (lr_alloc (lr_alloc (lr_alloc H.out _) _) _) R2.out))
    go_wp2_with fail
    refine (noS_rdno A1 n1 c1 J1 4 d1 C1 4 f1 l _ (by first | with_reducible exact H.out | with_reducible exact lr_alloc H.out _ | with_reducible exact lr_alloc (lr_alloc H.out _) _ | with_reducible exact lr_alloc (lr_alloc (lr_alloc H.out _) _) _) HK.out).mono ?_
    rintro e w3 ⟨A3, n3, c3, J3, m3, d3, C3, o3, f3, rfl, hx, hb⟩
    obtain ⟨hc3, hf3⟩ := bcell hb
    have B3 := Lib.hid (show Below w.heap.size w w3 from (by first | exact below_seq B2.out hb | exact below_seq1 B2.out hb | exact below_seq2 B2.out hb | exact below_seq3 B2.out hb | exact below_seq4 B2.out hb))
    have R3 := Lib.hid hb
    have hz3 := hb.size
    try simp at hz3
    clear hb
    try have y30 : w.heap.size < w3.heap.size := by omega
    try have y30a : w.heap.size + 1 < w3.heap.size := by omega
    try have y30b : w.heap.size < w3.heap.size + 1 + 1 := by omega
    try have y30c : w.heap.size + 1 < w3.heap.size + 1 + 1 := by omega
    try have y31 : w1.heap.size < w3.heap.size := by omega
    try have y31a : w1.heap.size + 1 < w3.heap.size := by omega
    try have y31b : w1.heap.size < w3.heap.size + 1 + 1 := by omega
    try have y31c : w1.heap.size + 1 < w3.heap.size + 1 + 1 := by omega
    try have y32 : w2.heap.size < w3.heap.size := by omega
    try have y32a : w2.heap.size + 1 < w3.heap.size := by omega
    try have y32b : w2.heap.size < w3.heap.size + 1 + 1 := by omega
    try have y32c : w2.heap.size + 1 < w3.heap.size + 1 + 1 := by omega
    have Y := Lib.hid hx
    clear hx
    replace X := Lib.hid (show LR w3 _ _ _ _ _ _ _ from (by first | with_reducible exact lr_below X.out R3.out | with_reducible exact lr_below (lr_alloc X.out _) R3.out | with_reducible exact lr_below (lr_alloc (lr_alloc X.out _) _) R3.out | with_reducible exact lr_below (lr_alloc (lr_alloc (lr_alloc X.out _) _) _) R3.out))
    go_wp2_with fail
    refine (sameLI_any A2 n2 c2 J2 m2 d2 C2 o2 f2 lnZ A3 n3 c3 J3 m3 d3 C3 o3 f3 lnZ _ (by first | with_reducible exact X.out | with_reducible exact lr_alloc X.out _ | with_reducible exact lr_alloc (lr_alloc X.out _) _ | with_reducible exact lr_alloc (lr_alloc (lr_alloc X.out _) _) _) (by first | with_reducible exact Y.out | with_reducible exact lr_alloc Y.out _ | with_reducible exact lr_alloc (lr_alloc Y.out _) _ | with_reducible exact lr_alloc (lr_alloc (lr_alloc Y.out _) _) _)).mono ?_
    rintro e w4 ⟨rfl, hb⟩
    obtain ⟨hc4, hf4⟩ := bcell hb
    have B4 := Lib.hid (show Below w.heap.size w w4 from (by first | exact below_seq B3.out hb | exact below_seq1 B3.out hb | exact below_seq2 B3.out hb | exact below_seq3 B3.out hb | exact below_seq4 B3.out hb))
    have R4 := Lib.hid hb
    have hz4 := hb.size
    try simp at hz4
    clear hb
    try have y40 : w.heap.size < w4.heap.size := by omega
    try have y40a : w.heap.size + 1 < w4.heap.size := by omega
    try have y40b : w.heap.size < w4.heap.size + 1 + 1 := by omega
    try have y40c : w.heap.size + 1 < w4.heap.size + 1 + 1 := by omega
    try have y41 : w1.heap.size < w4.heap.size := by omega
    try have y41a : w1.heap.size + 1 < w4.heap.size := by omega
    try have y41b : w1.heap.size < w4.heap.size + 1 + 1 := by omega
    try have y41c : w1.heap.size + 1 < w4.heap.size + 1 + 1 := by omega
    try have y42 : w2.heap.size < w4.heap.size := by omega
    try have y42a : w2.heap.size + 1 < w4.heap.size := by omega
    try have y42b : w2.heap.size < w4.heap.size + 1 + 1 := by omega
    try have y42c : w2.heap.size + 1 < w4.heap.size + 1 + 1 := by omega
    try have y43 : w3.heap.size < w4.heap.size := by omega
    try have y43a : w3.heap.size + 1 < w4.heap.size := by omega
    try have y43b : w3.heap.size < w4.heap.size + 1 + 1 := by omega
    try have y43c : w3.heap.size + 1 < w4.heap.size + 1 + 1 := by omega
    rw [ls_refl]
    replace X := Lib.hid (show LR w4 _ _ _ _ _ _ _ from (by first | with_reducible exact lr_below X.out R4.out | with_reducible exact lr_below (lr_alloc X.out _) R4.out | with_reducible exact lr_below (lr_alloc (lr_alloc X.out _) _) R4.out | with_reducible exact lr_below (lr_alloc (lr_alloc (lr_alloc X.out _) _) _) R4.out))
    replace Y := Lib.hid (show LR w4 _ _ _ _ _ _ _ from (by first | with_reducible exact lr_below Y.out R4.out | with_reducible exact lr_below (lr_alloc Y.out _) R4.out | with_reducible exact lr_below (lr_alloc (lr_alloc Y.out _) _) R4.out | with_reducible exact lr_below (lr_alloc (lr_alloc (lr_alloc Y.out _) _) _) R4.out))
    go_wp2_with fail
    refine (sameLI_any A2 n2 c2 J2 m2 d2 C2 o2 f2 lnZ A3 n3 c3 J3 m3 d3 C3 o3 f3 lnZ _ (by first | with_reducible exact X.out | with_reducible exact lr_alloc X.out _ | with_reducible exact lr_alloc (lr_alloc X.out _) _ | with_reducible exact lr_alloc (lr_alloc (lr_alloc X.out _) _) _) (by first | with_reducible exact Y.out | with_reducible exact lr_alloc Y.out _ | with_reducible exact lr_alloc (lr_alloc Y.out _) _ | with_reducible exact lr_alloc (lr_alloc (lr_alloc Y.out _) _) _)).mono ?_
    rintro e w5 ⟨rfl, hb⟩
    obtain ⟨hc5, hf5⟩ := bcell hb
    have B5 := Lib.hid (show Below w.heap.size w w5 from (by first | exact below_seq B4.out hb | exact below_seq1 B4.out hb | exact below_seq2 B4.out hb | exact below_seq3 B4.out hb | exact below_seq4 B4.out hb))
    have R5 := Lib.hid hb
    have hz5 := hb.size
    try simp at hz5
    clear hb
    try have y50 : w.heap.size < w5.heap.size := by omega
    try have y50a : w.heap.size + 1 < w5.heap.size := by omega
    try have y50b : w.heap.size < w5.heap.size + 1 + 1 := by omega
    try have y50c : w.heap.size + 1 < w5.heap.size + 1 + 1 := by omega
    try have y51 : w1.heap.size < w5.heap.size := by omega
    try have y51a : w1.heap.size + 1 < w5.heap.size := by omega
    try have y51b : w1.heap.size < w5.heap.size + 1 + 1 := by omega
    try have y51c : w1.heap.size + 1 < w5.heap.size + 1 + 1 := by omega
    try have y52 : w2.heap.size < w5.heap.size := by omega
    try have y52a : w2.heap.size + 1 < w5.heap.size := by omega
    try have y52b : w2.heap.size < w5.heap.size + 1 + 1 := by omega
    try have y52c : w2.heap.size + 1 < w5.heap.size + 1 + 1 := by omega
    try have y53 : w3.heap.size < w5.heap.size := by omega
    try have y53a : w3.heap.size + 1 < w5.heap.size := by omega
    try have y53b : w3.heap.size < w5.heap.size + 1 + 1 := by omega
    try have y53c : w3.heap.size + 1 < w5.heap.size + 1 + 1 := by omega
    try have y54 : w4.heap.size < w5.heap.size := by omega
    try have y54a : w4.heap.size + 1 < w5.heap.size := by omega
    try have y54b : w4.heap.size < w5.heap.size + 1 + 1 := by omega
    try have y54c : w4.heap.size + 1 < w5.heap.size + 1 + 1 := by omega
    rw [ls_refl]
    go_wp2
    all_goals
      go_ret
      refine ⟨rfl, ?_⟩
      repeat refine below_alloc ?_ _
      exact B5.out
theorem own : ownKnob Try.prog.godebug = none := by kernel_rfl
theorem laidOut : laidOutB Try.prog = true := by kernel_rfl
set_option maxRecDepth 100000 in
theorem lifted (os : Os) (started : os.Started) (H : Type) (enc : TypeId × Value → H) :
    ReturnsInHanded {} Try.checked os 3 .any (Rows.fnNextOfLanesSpec.pre6 enc Try.prog Try.f3 Rows.fnNextOfLanesRow.domain false) (Rows.fnNextOfLanesSpec.post enc Try.prog Try.f3 false true false false) := by
  refine returnsInHanded_of_change (C := Try.checked) own started (by kernel_rfl) Try.func3
    (ChangeSpec.witness6 (enc := enc) (C := Try.checked) false ⟨#[], #[.slice none 0 0], []⟩ 8 (by kernel_rfl) (by kernel_rfl) (by kernel_rfl) (by kernel_rfl)) ?_
  intro W base args ds gs before hval0 hW _ _
  have hval : ∀ (j : Nat) t v, Try.f3.params[j]? = some t → args[j]? = some v → Value.okWide Try.prog W .any base t v := hval0
  have hW' := hW
  obtain ⟨p, q, hA0, hV, rfl, _, _⟩ := hW
  have hA : DataW.TrodAll enc Try.prog W 0 (fun _ => true) true Try.f3.params.toList args.toList ds p := hA0
  rw [Try.params3] at hA hval
  obtain ⟨v0, vs0, d0, ds0, p0, q0, hargs, rfl, rfl, h0, r0⟩ := trodAll_cons hA
  obtain ⟨rfl, rfl, rfl⟩ := trodAll_nil r0
  obtain rfl : args = #[v0] := by cases args; simp_all
  obtain ⟨rfl, rfl⟩ := trodVars_none hV
  have lt0 : ∀ x ∈ p0, x.block < W.heap.size := by obtain ⟨m, hm⟩ := h0; exact DataW.trod_lt m _ _ _ hm
  obtain ⟨a0, n0, c0, rfl⟩ := okWide_slice Try.underlying22 (hval 0 22 v0 rfl rfl)
  have w0 : Bytes W a0 n0 c0 := bytes_open h0
  clear hA0 hval0
  refine (walk a0 n0 c0 W w0).mono fun e W' ⟨he, bel⟩ => ?_
  subst he
  exact ⟨_, rfl, _, _, _, [], _, [], hW', trodAll_mk1 (shut_bool Try.underlying4 _), (trodAll_cons_mk (Below.trod laidOut (by kernel_rfl) (of_decide_eq_true (by kernel_rfl)) h0 bel lt0) trodAll_mk0), rfl, bel.frame _, fun h => by cases h⟩
theorem over : Rows.fnNextOfLanesRow.holds Try.pinned (OpenSpec.ofChange Rows.fnNextOfLanesSpec) :=
  OpenClaim.holds_of_wide 3 Try.f3 rfl rfl rfl rfl rfl rfl rfl ⟨rfl, rfl, rfl, rfl, rfl⟩ rfl rfl rfl rfl rfl (by kernel_rfl) Try.func3 (by unfold joinedFacts; rw [mayEnter, liftsFinal, makeIs]; kernel_rfl)
    (of_decide_eq_true (by kernel_rfl)) (by unfold Func.isWrapper; first | (rw [if_pos (by decide +kernel)]; kernel_rfl) | (rw [if_neg (by decide +kernel)]; exact ⟨rfl, rfl⟩))
    (fun os started H enc _ => lifted os started H enc)
/-- the given statement -/
theorem proved : Rows.FnNextOfLanesSaid := over
end Go.Proofs.Ytkmoiphcpmhacaa.fnNextOfLanes
