/-
  The law FnNoStarving returns true at every argument: within twice the weights each lane with packets is served. Conditions: none.
-/
import Derived.Test.YtkmoiphcpmhacaaKb
import Derived.Test.YtkmoiphcpmhacaaKy
import Derived.Test.YtkmoiphcpmhacaaKw
import Derived.Test.YtkmoiphcpmhacaaMay
import Derived.Test.YtkmoiphcpmhacaaLifts
import Derived.Test.YtkmoiphcpmhacaaMake
namespace Go.Proofs.Ytkmoiphcpmhacaa.fnNoStarving
open Go.ChangeShapes Go.WideShapes Go.ChangeAt Go.RowKit

theorem nl_rd {w w' : World} {l : Ln} {i : Nat} {e : Ending} (hk : NoOk l i) (h : NlPost w l e w') : e = .returned (.tuple #[.int .i64 (i : Int), .bool true]) ∧ Below w.heap.size w w' := by
  refine ⟨?_, h.2⟩
  rcases h.1 with ⟨j, -, hj, rfl⟩ | ⟨hn, -⟩
  · rw [turn_uniq hj hk.2]
  · exact absurd ⟨hk.1, i, hk.2⟩ hn
theorem nl_rdno {w w' : World} {l : Ln} {e : Ending} (hk : ¬ ∃ i, NoOk l i) (h : NlPost w l e w') : e = .returned (.tuple #[.int .i64 0, .bool false]) ∧ Below w.heap.size w w' := by
  refine ⟨?_, h.2⟩
  rcases h.1 with ⟨j, hv, hj, rfl⟩ | ⟨hn, rfl⟩
  · exact absurd ⟨j, hv, hj⟩ hk
  · rfl
theorem ws_part {l : Ln} (hv : LV l) (k : Nat) : 0 ≤ sumL (l.ws.take k) ∧ sumL (l.ws.take k) ≤ 36 := by
  have h := sumL_take_bd (xs := l.ws) (B := 9) (fun x hx => by
    have := (lv_nonneg hv).2 x hx
    omega) k (by omega)
  rw [hv.n1] at h
  omega
theorem any_step {ps : List Pkt} {k : Nat} {p : Pkt} (h : ps[k]? = some p) (i : Int) : ((ps.take (k + 1)).any fun p => p.lane == i) = (((ps.take k).any fun p => p.lane == i) || (p.lane == i)) := by
  rw [List.take_add_one, h, List.any_append]
  simp
def LcOut (w : World) (i : Value) (wr : World) : Prop := ∃ k : Nat, k ≤ 4 ∧ i = .int .i64 (k : Int) ∧ Below w.heap.size w wr
def NsSum (w : World) (ws : List Int) (s i : Value) (wr : World) : Prop := ∃ k : Nat, k ≤ 4 ∧ s = .int .i64 (2 * sumL (ws.take k)) ∧ i = .int .i64 (k : Int) ∧ wr = w
def NsIn (w : World) (ps : List Pkt) (i : Int) (n : Nat) (v j : Value) (wx : World) : Prop :=
  ∃ k : Nat, k ≤ n ∧ v = .bool ((ps.take k).any fun p => p.lane == i) ∧ j = .int .i64 (k : Int) ∧ wx = w
set_option maxRecDepth 100000 in
set_option maxHeartbeats 8000000 in
theorem walk (A : Option Addr) (n c : Nat) (w : World) (h : Bytes w A n c) :
    Calls Try.prog 4 #[.slice A n c] w fun e w' => e = .returned (.bool true) ∧ Below w.heap.size w w' := by
  have HB := Lib.hid h
  clear h
  by_cases hbig : ¬ n ≤ 1048576
  · go_enter Try.func4, Try.ntmps4
    go_wp2
    go_ret
    exact ⟨rfl, Below.refl _ _⟩
  have hbig' : n ≤ 1048576 := by omega
  clear hbig
  go_enter Try.func4, Try.ntmps4
  go_wp2_with fail
  refine (drawNextLane_any A n c _ HB.out).mono ?_
  rintro e w1 ⟨A1, n1, c1, J1, d1, C1, f1, l, rfl, hl, hb⟩
  obtain ⟨hc1, hf1⟩ := bcell hb
  have B1 := Lib.hid (show Below w.heap.size w w1 from (by first | exact below_seq (Below.refl w.heap.size w) hb | exact below_seq1 (Below.refl w.heap.size w) hb | exact below_seq2 (Below.refl w.heap.size w) hb | exact below_seq3 (Below.refl w.heap.size w) hb | exact below_seq4 (Below.refl w.heap.size w) hb))
  have R1 := Lib.hid hb
  have hz1 := hb.size
  try simp at hz1
  clear hb
  have H := Lib.hid hl
  clear hl
  by_cases hk : ∃ i, NoOk l i
  · obtain ⟨i, hk⟩ := hk
    have HOK := Lib.hid hk
    have HV := Lib.hid hk.1
    clear hk
    go_wp2_with fail
    refine ((nlI_any A1 n1 c1 J1 4 d1 C1 4 f1 l _ (by first | with_reducible exact H.out | with_reducible exact lr_alloc H.out _ | with_reducible exact lr_alloc (lr_alloc H.out _) _ | with_reducible exact lr_alloc (lr_alloc (lr_alloc H.out _) _) _)).mono fun _ _ h => nl_rd HOK.out h).mono ?_
    rintro e w2 ⟨rfl, hb⟩
    obtain ⟨hc2, hf2⟩ := bcell hb
    have B2 := Lib.hid (show Below w.heap.size w w2 from (by first | exact below_seq B1.out hb | exact below_seq1 B1.out hb | exact below_seq2 B1.out hb | exact below_seq3 B1.out hb | exact below_seq4 B1.out hb))
    have R2 := Lib.hid hb
    have hz2 := hb.size
    try simp at hz2
    clear hb
    try have y20 : w.heap.size < w2.heap.size := by omega
    try have y20a : w.heap.size + 1 < w2.heap.size := by omega
    try have y20b : w.heap.size < w2.heap.size + 1 + 1 := by omega
    try have y20c : w.heap.size + 1 < w2.heap.size + 1 + 1 := by omega
    try have y21 : w1.heap.size < w2.heap.size := by omega
    try have y21a : w1.heap.size + 1 < w2.heap.size := by omega
    try have y21b : w1.heap.size < w2.heap.size + 1 + 1 := by omega
    try have y21c : w1.heap.size + 1 < w2.heap.size + 1 + 1 := by omega
    replace H := Lib.hid (show LR w2 _ _ _ _ _ _ _ from (by first | with_reducible exact lr_below H.out R2.out | with_reducible exact lr_below (lr_alloc H.out _) R2.out | with_reducible exact lr_below (lr_alloc (lr_alloc H.out _) _) R2.out | with_reducible exact lr_below (lr_alloc (lr_alloc (lr_alloc H.out _) _) _) R2.out))
    go_wp2_with fail
    refine ((nlS_any A1 n1 c1 J1 4 d1 C1 4 f1 l _ (by first | with_reducible exact H.out | with_reducible exact lr_alloc H.out _ | with_reducible exact lr_alloc (lr_alloc H.out _) _ | with_reducible exact lr_alloc (lr_alloc (lr_alloc H.out _) _) _)).mono fun _ _ h => nl_rd HOK.out h).mono ?_
    rintro e w3 ⟨rfl, hb⟩
    obtain ⟨hc3, hf3⟩ := bcell hb
    have B3 := Lib.hid (show Below w.heap.size w w3 from (by first | exact below_seq B2.out hb | exact below_seq1 B2.out hb | exact below_seq2 B2.out hb | exact below_seq3 B2.out hb | exact below_seq4 B2.out hb))
    have R3 := Lib.hid hb
    have hz3 := hb.size
    try simp at hz3
    clear hb
    try have y30 : w.heap.size < w3.heap.size := by omega
    try have y30a : w.heap.size + 1 < w3.heap.size := by omega
    try have y30b : w.heap.size < w3.heap.size + 1 + 1 := by omega
    try have y30c : w.heap.size + 1 < w3.heap.size + 1 + 1 := by omega
    try have y31 : w1.heap.size < w3.heap.size := by omega
    try have y31a : w1.heap.size + 1 < w3.heap.size := by omega
    try have y31b : w1.heap.size < w3.heap.size + 1 + 1 := by omega
    try have y31c : w1.heap.size + 1 < w3.heap.size + 1 + 1 := by omega
    try have y32 : w2.heap.size < w3.heap.size := by omega
    try have y32a : w2.heap.size + 1 < w3.heap.size := by omega
    try have y32b : w2.heap.size < w3.heap.size + 1 + 1 := by omega
    try have y32c : w2.heap.size + 1 < w3.heap.size + 1 + 1 := by omega
    replace H := Lib.hid (show LR w3 _ _ _ _ _ _ _ from (by first | with_reducible exact lr_below H.out R3.out | with_reducible exact lr_below (lr_alloc H.out _) R3.out | with_reducible exact lr_below (lr_alloc (lr_alloc H.out _) _) R3.out | with_reducible exact lr_below (lr_alloc (lr_alloc (lr_alloc H.out _) _) _) R3.out))
    go_wp2_with fail
    go_loopw [8, 9] (fun s i wr => NsSum w3 l.ws s i wr) (fun _ i _ => 4 - (intOf i).toNat)
    case atStart => exact ⟨0, by omega, by simp [sumL], rfl, rfl⟩
    case round =>
      obtain ⟨k, hk4, rfl, rfl, rfl⟩ := hrel
      have hs := ws_part HV.out k
      by_cases hlt : k < 4
      · obtain ⟨b1, o1, y, rfl, hb1, hv1, c01⟩ := nr_at H.out.wt hlt
        have ht := sumL_take hv1
        have hy := HV.out.wt k y hv1
        have k0 : (0 : Int) ≤ (k : Int) := by omega
        have k1 : (k : Int) < (4 : Int) := by omega
        obtain ⟨S, hS⟩ : ∃ S, S = sumL (l.ws.take k) := ⟨_, rfl⟩
        rw [← hS] at ht hs ⊢
        clear hS hv1
        have hw1 : IntKind.i64.wrap (2 * y) = 2 * y := IntWalk.i64_in _ (by omega)
        have hw2 : IntKind.i64.wrap (2 * S + 2 * y) = 2 * S + 2 * y := IntWalk.i64_in _ (by omega)
        have HT := Lib.hid ht
        clear ht hs hy
        go_wp2
        go_roundw
        case rel => exact ⟨k + 1, by omega, by rw [HT.out]; exact congrArg _ (by omega), by go_num, rfl⟩
        case measure => simp [intOf]; omega
      · obtain rfl : k = 4 := by omega
        have hall : l.ws.take 4 = l.ws := List.take_of_length_le (by have := HV.out.n1; omega)
        rw [hall] at hs ⊢
        obtain ⟨b, hb⟩ : ∃ b : Nat, (b : Int) = 2 * sumL l.ws := ⟨(2 * sumL l.ws).toNat, by omega⟩
        have HB2 := Lib.hid hb
        rw [← hb]
        clear hb hs hall
        go_wp2_with fail
        refine (ctI_rd A1 n1 c1 J1 4 d1 C1 4 f1 l _ (by first | with_reducible exact H.out | with_reducible exact lr_alloc H.out _ | with_reducible exact lr_alloc (lr_alloc H.out _) _ | with_reducible exact lr_alloc (lr_alloc (lr_alloc H.out _) _) _) HV.out).mono ?_
        rintro e w4 ⟨A4, n4, c4, rfl, hn4, hu, hb⟩
        obtain ⟨hc4, hf4⟩ := bcell hb
        have B4 := Lib.hid (show Below w.heap.size w w4 from (by first | exact below_seq B3.out hb | exact below_seq1 B3.out hb | exact below_seq2 B3.out hb | exact below_seq3 B3.out hb | exact below_seq4 B3.out hb))
        have R4 := Lib.hid hb
        have hz4 := hb.size
        try simp at hz4
        clear hb
        try have y40 : w.heap.size < w4.heap.size := by omega
        try have y40a : w.heap.size + 1 < w4.heap.size := by omega
        try have y40b : w.heap.size < w4.heap.size + 1 + 1 := by omega
        try have y40c : w.heap.size + 1 < w4.heap.size + 1 + 1 := by omega
        try have y41 : w1.heap.size < w4.heap.size := by omega
        try have y41a : w1.heap.size + 1 < w4.heap.size := by omega
        try have y41b : w1.heap.size < w4.heap.size + 1 + 1 := by omega
        try have y41c : w1.heap.size + 1 < w4.heap.size + 1 + 1 := by omega
        try have y42 : w2.heap.size < w4.heap.size := by omega
        try have y42a : w2.heap.size + 1 < w4.heap.size := by omega
        try have y42b : w2.heap.size < w4.heap.size + 1 + 1 := by omega
        try have y42c : w2.heap.size + 1 < w4.heap.size + 1 + 1 := by omega
        try have y43 : w3.heap.size < w4.heap.size := by omega
        try have y43a : w3.heap.size + 1 < w4.heap.size := by omega
        try have y43b : w3.heap.size < w4.heap.size + 1 + 1 := by omega
        try have y43c : w3.heap.size + 1 < w4.heap.size + 1 + 1 := by omega
        obtain rfl : n4 = 4 := by rw [hn4, cnts_len, HV.out.n0]
        have U := Lib.hid hu
        clear hu hn4
        replace H := Lib.hid (show LR w4 _ _ _ _ _ _ _ from (by first | with_reducible exact lr_below H.out R4.out | with_reducible exact lr_below (lr_alloc H.out _) R4.out | with_reducible exact lr_below (lr_alloc (lr_alloc H.out _) _) R4.out | with_reducible exact lr_below (lr_alloc (lr_alloc (lr_alloc H.out _) _) _) R4.out))
        go_wp2_with fail
        refine (tkI_rd A1 n1 c1 J1 4 d1 C1 4 f1 l _ (by first | with_reducible exact H.out | with_reducible exact lr_alloc H.out _ | with_reducible exact lr_alloc (lr_alloc H.out _) _ | with_reducible exact lr_alloc (lr_alloc (lr_alloc H.out _) _) _) b HV.out).mono ?_
        rintro e w5 ⟨A5, n5, c5, J5, m5, d5, C5, o5, f5, D5, t5, e5, rfl, hx, hp, q5, hb⟩
        obtain ⟨hc5, hf5⟩ := bcell hb
        have B5 := Lib.hid (show Below w.heap.size w w5 from (by first | exact below_seq B4.out hb | exact below_seq1 B4.out hb | exact below_seq2 B4.out hb | exact below_seq3 B4.out hb | exact below_seq4 B4.out hb))
        have R5 := Lib.hid hb
        have hz5 := hb.size
        try simp at hz5
        clear hb
        try have y50 : w.heap.size < w5.heap.size := by omega
        try have y50a : w.heap.size + 1 < w5.heap.size := by omega
        try have y50b : w.heap.size < w5.heap.size + 1 + 1 := by omega
        try have y50c : w.heap.size + 1 < w5.heap.size + 1 + 1 := by omega
        try have y51 : w1.heap.size < w5.heap.size := by omega
        try have y51a : w1.heap.size + 1 < w5.heap.size := by omega
        try have y51b : w1.heap.size < w5.heap.size + 1 + 1 := by omega
        try have y51c : w1.heap.size + 1 < w5.heap.size + 1 + 1 := by omega
        try have y52 : w2.heap.size < w5.heap.size := by omega
        try have y52a : w2.heap.size + 1 < w5.heap.size := by omega
        try have y52b : w2.heap.size < w5.heap.size + 1 + 1 := by omega
        try have y52c : w2.heap.size + 1 < w5.heap.size + 1 + 1 := by omega
        try have y53 : w3.heap.size < w5.heap.size := by omega
        try have y53a : w3.heap.size + 1 < w5.heap.size := by omega
        try have y53b : w3.heap.size < w5.heap.size + 1 + 1 := by omega
        try have y53c : w3.heap.size + 1 < w5.heap.size + 1 + 1 := by omega
        try have y54 : w4.heap.size < w5.heap.size := by omega
        try have y54a : w4.heap.size + 1 < w5.heap.size := by omega
        try have y54b : w4.heap.size < w5.heap.size + 1 + 1 := by omega
        try have y54c : w4.heap.size + 1 < w5.heap.size + 1 + 1 := by omega
        obtain ⟨ps, hps⟩ : ∃ ps, ps = (tkN b l).2 := ⟨_, rfl⟩
        rw [← hps] at hp
        have HPS := Lib.hid hps
        have G := Lib.hid hp
        have G4 := Lib.hid hp.1
        clear hx hp hps
        replace U := Lib.hid (show NR w5 _ _ _ from (by first | with_reducible exact nr_below U.out R5.out | with_reducible exact nr_below (nr_alloc U.out _) R5.out | with_reducible exact nr_below (nr_alloc (nr_alloc U.out _) _) R5.out | with_reducible exact nr_below (nr_alloc (nr_alloc (nr_alloc U.out _) _) _) R5.out))
        clear H
        go_wp2_with fail
        go_loopw [15] (fun i wr => LcOut w5 i wr) (fun i _ => 4 - (intOf i).toNat)
        case atStart => exact ⟨0, by omega, rfl, below_alloc (Below.refl _ _) _⟩
        case round =>
          obtain ⟨k, hk4, rfl, hbl⟩ := hrel
          have HBl := Lib.hid hbl
          clear hbl
          by_cases hlt : k < 4
          · obtain ⟨r, hr⟩ := get_of (xs := l.rs) (k := k) (by have := HV.out.n0; omega)
            have hns := no_starve HV.out hr HB2.out
            rw [← HPS.out] at hns
            have hcu := cnts_get hr
            obtain ⟨b1, o1, x1, rfl, hb1, hv1, c01⟩ := nr_at (nr_below U.out HBl.out) hlt
            obtain rfl : (total r.fs : Int) = x1 := Option.some.inj (hcu.symm.trans hv1)
            obtain ⟨T1, hT1⟩ : ∃ T1 : Int, T1 = (total r.fs : Int) := ⟨_, rfl⟩
            have HNS := Lib.hid (show (ps.any fun p => p.lane == (k : Int)) = decide (0 < T1) by
              rw [Bool.eq_iff_iff, List.any_eq_true, decide_eq_true_eq, hT1]
              constructor
              · rintro ⟨p, hp, h⟩
                have := hns.1 ⟨p, hp, by simpa using h⟩
                omega
              · intro h
                obtain ⟨p, hp, h⟩ := hns.2 (by omega)
                exact ⟨p, hp, by simp [h]⟩)
            rw [← hT1] at c01
            have C1' := Lib.hid c01
            clear hr hns hcu hv1 hT1 c01
            go_wp2_with fail
            go_loopw [16, 17] (fun v j wx => NsIn wr ps (k : Int) t5 v j wx) (fun _ j _ => t5 - (intOf j).toNat)
            case atStart => exact ⟨0, by omega, by simp, rfl, rfl⟩
            case round =>
              obtain ⟨j, hj, rfl, rfl, rfl⟩ := hrel
              by_cases hjt : j < t5
              · obtain ⟨b, off, p, rfl, hb, hp, d0, d1, d2', d3⟩ := pr_at (pr_below G.out HBl.out) hjt
                have hst := Lib.hid (any_step hp (k : Int))
                have j0 : (0 : Int) ≤ (j : Int) := by omega
                have j1 : (j : Int) < (t5 : Int) := by omega
                obtain ⟨S, hS⟩ : ∃ S, S = ((ps.take j).any fun p => p.lane == (k : Int)) := ⟨_, rfl⟩
                have HSS := Lib.hid hS
                rw [← hS]
                clear hS hp
                rcases S with _ | _
                · obtain ⟨z, hz⟩ : ∃ z, z = (p.lane == (k : Int)) := ⟨_, rfl⟩
                  have hst2 := Lib.hid (show ((ps.take (j + 1)).any fun p => p.lane == (k : Int)) = z by rw [hst.out, ← HSS.out, hz]; rfl)
                  have hz' := hz.symm
                  clear hz hst HSS
                  go_wp2
                  go_roundw
                  case rel => exact ⟨j + 1, by omega, by rw [hst2.out], by go_num, rfl⟩
                  case measure => simp [intOf]; omega
                · have hst2 := Lib.hid (show ((ps.take (j + 1)).any fun p => p.lane == (k : Int)) = true by rw [hst.out, ← HSS.out]; rfl)
                  clear hst HSS
                  go_wp2
                  go_roundw
                  case rel => exact ⟨j + 1, by omega, by rw [hst2.out], by go_num, rfl⟩
                  case measure => simp [intOf]; omega
              · obtain rfl : j = t5 := by omega
                have hall : ps.take j = ps := List.take_of_length_le (by have := G4.out; omega)
                rw [hall, HNS.out]
                clear hall
                have k0 : (0 : Int) ≤ (k : Int) := by omega
                have k1 : (k : Int) < (4 : Int) := by omega
                have cc1 := C1'.out
                by_cases hT : 0 < T1
                · have dT : decide (0 < T1) = true := by simp [hT]
                  have dT2 : decide (T1 > 0) = true := by simp [hT]
                  clear hT
                  go_wp2
                  go_roundw
                  case rel => exact ⟨k + 1, by omega, by go_num, HBl.out⟩
                  case measure => simp [intOf]; omega
                · have dT : decide (0 < T1) = false := by simp; omega
                  have dT2 : decide (T1 > 0) = false := by simp; omega
                  clear hT
                  go_wp2
                  go_roundw
                  case rel => exact ⟨k + 1, by omega, by go_num, HBl.out⟩
                  case measure => simp [intOf]; omega
          · obtain rfl : k = 4 := by omega
            have Bx := Lib.hid (below_seq B5.out HBl.out)
            go_wp2
            all_goals
              go_ret
              refine ⟨rfl, ?_⟩
              repeat (first | with_reducible refine below_alloc ?_ _ | with_reducible refine Below.drew ?_ | with_reducible refine below_drewN ?_ _)
              exact Bx.out
  · have HK := Lib.hid hk
    clear hk
    go_wp2_with fail
    refine ((nlI_any A1 n1 c1 J1 4 d1 C1 4 f1 l _ (by first | with_reducible exact H.out | with_reducible exact lr_alloc H.out _ | with_reducible exact lr_alloc (lr_alloc H.out _) _ | with_reducible exact lr_alloc (lr_alloc (lr_alloc H.out _) _) _)).mono fun _ _ h => nl_rdno HK.out h).mono ?_
    rintro e w2 ⟨rfl, hb⟩
    obtain ⟨hc2, hf2⟩ := bcell hb
    have B2 := Lib.hid (show Below w.heap.size w w2 from (by first | exact below_seq B1.out hb | exact below_seq1 B1.out hb | exact below_seq2 B1.out hb | exact below_seq3 B1.out hb | exact below_seq4 B1.out hb))
    have R2 := Lib.hid hb
    have hz2 := hb.size
    try simp at hz2
    clear hb
    try have y20 : w.heap.size < w2.heap.size := by omega
    try have y20a : w.heap.size + 1 < w2.heap.size := by omega
    try have y20b : w.heap.size < w2.heap.size + 1 + 1 := by omega
    try have y20c : w.heap.size + 1 < w2.heap.size + 1 + 1 := by omega
    try have y21 : w1.heap.size < w2.heap.size := by omega
    try have y21a : w1.heap.size + 1 < w2.heap.size := by omega
    try have y21b : w1.heap.size < w2.heap.size + 1 + 1 := by omega
    try have y21c : w1.heap.size + 1 < w2.heap.size + 1 + 1 := by omega
    replace H := Lib.hid (show LR w2 _ _ _ _ _ _ _ from (by first | with_reducible exact lr_below H.out R2.out | with_reducible exact lr_below (lr_alloc H.out _) R2.out | with_reducible exact lr_below (lr_alloc (lr_alloc H.out _) _) R2.out | with_reducible exact lr_below (lr_alloc (lr_alloc (lr_alloc H.out _) _) _) R2.out))
    go_wp2_with fail
    refine ((nlS_any A1 n1 c1 J1 4 d1 C1 4 f1 l _ (by first | with_reducible exact H.out | with_reducible exact lr_alloc H.out _ | with_reducible exact lr_alloc (lr_alloc H.out _) _ | with_reducible exact lr_alloc (lr_alloc (lr_alloc H.out _) _) _)).mono fun _ _ h => nl_rdno HK.out h).mono ?_
    rintro e w3 ⟨rfl, hb⟩
    obtain ⟨hc3, hf3⟩ := bcell hb
    have B3 := Lib.hid (show Below w.heap.size w w3 from (by first | exact below_seq B2.out hb | exact below_seq1 B2.out hb | exact below_seq2 B2.out hb | exact below_seq3 B2.out hb | exact below_seq4 B2.out hb))
    have R3 := Lib.hid hb
    have hz3 := hb.size
    try simp at hz3
    clear hb
    try have y30 : w.heap.size < w3.heap.size := by omega
    try have y30a : w.heap.size + 1 < w3.heap.size := by omega
    try have y30b : w.heap.size < w3.heap.size + 1 + 1 := by omega
    try have y30c : w.heap.size + 1 < w3.heap.size + 1 + 1 := by omega
    try have y31 : w1.heap.size < w3.heap.size := by omega
    try have y31a : w1.heap.size + 1 < w3.heap.size := by omega
    try have y31b : w1.heap.size < w3.heap.size + 1 + 1 := by omega
    try have y31c : w1.heap.size + 1 < w3.heap.size + 1 + 1 := by omega
    try have y32 : w2.heap.size < w3.heap.size := by omega
    try have y32a : w2.heap.size + 1 < w3.heap.size := by omega
    try have y32b : w2.heap.size < w3.heap.size + 1 + 1 := by omega
    try have y32c : w2.heap.size + 1 < w3.heap.size + 1 + 1 := by omega
    go_wp2
    all_goals
      go_ret
      refine ⟨rfl, ?_⟩
      repeat refine below_alloc ?_ _
      exact B3.out
theorem own : ownKnob Try.prog.godebug = none := by kernel_rfl
theorem laidOut : laidOutB Try.prog = true := by kernel_rfl
set_option maxRecDepth 100000 in
theorem lifted (os : Os) (started : os.Started) (H : Type) (enc : TypeId × Value → H) :
    ReturnsInHanded {} Try.checked os 4 .any (Rows.fnNoStarvingSpec.pre6 enc Try.prog Try.f4 Rows.fnNoStarvingRow.domain false) (Rows.fnNoStarvingSpec.post enc Try.prog Try.f4 false true false false) := by
  refine returnsInHanded_of_change (C := Try.checked) own started (by kernel_rfl) Try.func4
    (ChangeSpec.witness6 (enc := enc) (C := Try.checked) false ⟨#[], #[.slice none 0 0], []⟩ 8 (by kernel_rfl) (by kernel_rfl) (by kernel_rfl) (by kernel_rfl)) ?_
  intro W base args ds gs before hval0 hW _ _
  have hval : ∀ (j : Nat) t v, Try.f4.params[j]? = some t → args[j]? = some v → Value.okWide Try.prog W .any base t v := hval0
  have hW' := hW
  obtain ⟨p, q, hA0, hV, rfl, _, _⟩ := hW
  have hA : DataW.TrodAll enc Try.prog W 0 (fun _ => true) true Try.f4.params.toList args.toList ds p := hA0
  rw [Try.params4] at hA hval
  obtain ⟨v0, vs0, d0, ds0, p0, q0, hargs, rfl, rfl, h0, r0⟩ := trodAll_cons hA
  obtain ⟨rfl, rfl, rfl⟩ := trodAll_nil r0
  obtain rfl : args = #[v0] := by cases args; simp_all
  obtain ⟨rfl, rfl⟩ := trodVars_none hV
  have lt0 : ∀ x ∈ p0, x.block < W.heap.size := by obtain ⟨m, hm⟩ := h0; exact DataW.trod_lt m _ _ _ hm
  obtain ⟨a0, n0, c0, rfl⟩ := okWide_slice Try.underlying22 (hval 0 22 v0 rfl rfl)
  have w0 : Bytes W a0 n0 c0 := bytes_open h0
  clear hA0 hval0
  refine (walk a0 n0 c0 W w0).mono fun e W' ⟨he, bel⟩ => ?_
  subst he
  exact ⟨_, rfl, _, _, _, [], _, [], hW', trodAll_mk1 (shut_bool Try.underlying4 _), (trodAll_cons_mk (Below.trod laidOut (by kernel_rfl) (of_decide_eq_true (by kernel_rfl)) h0 bel lt0) trodAll_mk0), rfl, bel.frame _, fun h => by cases h⟩
theorem over : Rows.fnNoStarvingRow.holds Try.pinned (OpenSpec.ofChange Rows.fnNoStarvingSpec) :=
  OpenClaim.holds_of_wide 4 Try.f4 rfl rfl rfl rfl rfl rfl rfl ⟨rfl, rfl, rfl, rfl, rfl⟩ rfl rfl rfl rfl rfl (by kernel_rfl) Try.func4 (by unfold joinedFacts; rw [mayEnter, liftsFinal, makeIs]; kernel_rfl)
    (of_decide_eq_true (by kernel_rfl)) (by unfold Func.isWrapper; first | (rw [if_pos (by decide +kernel)]; kernel_rfl) | (rw [if_neg (by decide +kernel)]; exact ⟨rfl, rfl⟩))
    (fun os started H enc _ => lifted os started H enc)
/-- the given statement -/
theorem proved : Rows.FnNoStarvingSaid := over
end Go.Proofs.Ytkmoiphcpmhacaa.fnNoStarving
