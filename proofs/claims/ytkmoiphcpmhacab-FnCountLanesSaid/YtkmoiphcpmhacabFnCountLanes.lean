/-
  The law FnCountLanes returns true at every argument: the counts tell whether a packet is next. Conditions: none.
-/
import Derived.Test.YtkmoiphcpmhacabKb
import Derived.Test.YtkmoiphcpmhacabKy
import Derived.Test.YtkmoiphcpmhacabKw
import Derived.Test.YtkmoiphcpmhacabMay
import Derived.Test.YtkmoiphcpmhacabLifts
import Derived.Test.YtkmoiphcpmhacabMake
import Derived.Test.YtkmoiphcpmhacabKh
namespace Go.Proofs.Ytkmoiphcpmhacab.fnCountLanes
open Go.ChangeShapes Go.WideShapes Go.ChangeAt Go.RowKit

theorem nl_rd {w w' : World} {l : Ln} {i : Nat} {e : Ending} (hk : NoOk l i) (h : NlPost w l e w') : e = .returned (.tuple #[.int .i64 (i : Int), .bool true]) ∧ Below w.heap.size w w' := by
  refine ⟨?_, h.2⟩
  rcases h.1 with ⟨j, -, hj, rfl⟩ | ⟨hn, -⟩
  · rw [turn_uniq hj hk.2]
  · exact absurd ⟨hk.1, i, hk.2⟩ hn
theorem nl_rdno {w w' : World} {l : Ln} {e : Ending} (hk : ¬ ∃ i, NoOk l i) (h : NlPost w l e w') : e = .returned (.tuple #[.int .i64 0, .bool false]) ∧ Below w.heap.size w w' := by
  refine ⟨?_, h.2⟩
  rcases h.1 with ⟨j, hv, hj, rfl⟩ | ⟨hn, rfl⟩
  · exact absurd ⟨j, hv, hj⟩ hk
  · rfl
theorem tot_none {l : Ln} (h : Empty6 l) : totN l = 0 := by
  unfold totN
  have : ∀ rs : List Rb, (∀ r ∈ rs, r.fs = []) → (rs.map fun r => total r.fs).sum = 0 := by
    intro rs
    induction rs with
    | nil => intro _; rfl
    | cons a t ih => intro hh; simp [hh a (by simp), total, ih fun r hr => hh r (by simp [hr])]
  exact this l.rs h
theorem sum_cnts (rs : List Rb) : sumL (rs.map fun r => (total r.fs : Int)) = ((rs.map fun r => total r.fs).sum : Nat) := by
  induction rs with
  | nil => rfl
  | cons a t ih => simp only [List.map_cons, sumL, List.sum_cons, ih]; omega
theorem sum_all {l : Ln} (hv : LV l) : sumL ((cnts l).take 4) = (totN l : Int) := by
  rw [List.take_of_length_le (by rw [cnts_len, hv.n0]; omega)]
  exact sum_cnts l.rs
theorem sum_part {l : Ln} (hv : LV l) (k : Nat) : 0 ≤ sumL ((cnts l).take k) ∧ sumL ((cnts l).take k) ≤ 2048 := by
  have h := sumL_take_bd (xs := cnts l) (B := 512) (fun x hx => by
    obtain ⟨r, hr, rfl⟩ := List.mem_map.1 hx
    obtain ⟨j, hj⟩ := List.getElem?_of_mem hr
    have h1 := (hv.rb j r hj).rv
    have := total_le h1
    have := rv_len h1
    omega) k (by omega)
  rw [cnts_len, hv.n0] at h
  omega
theorem ct_rdno {w w' : World} {l : Ln} {e : Ending} (h : CtPost w l e w') (hv : ¬ LV l) : RdCt w [] false e w' := by
  obtain ⟨A, n, c, rfl, ho, hb⟩ := h
  have e1 := lv_no hv
  have e2 : cntR l = [] := by simp [cntR, e1]
  rw [e2] at ho
  exact ⟨A, n, c, by rw [e1], (nr_own ho).1.symm, nr_own ho, hb⟩
def CkSum (w : World) (us : List Int) (s i : Value) (wr : World) : Prop :=
  ∃ k : Nat, k ≤ 4 ∧ s = .int .i64 (sumL (us.take k)) ∧ i = .int .i64 (k : Int) ∧ wr = w
set_option maxRecDepth 100000 in
set_option maxHeartbeats 8000000 in
theorem walk (A : Option Addr) (n c : Nat) (w : World) (h : Bytes w A n c) :
    Calls Try.prog 8 #[.slice A n c] w fun e w' => e = .returned (.bool true) ∧ Below w.heap.size w w' := by
  have HB := Lib.hid h
  clear h
  by_cases hbig : ¬ n ≤ 1048576
  · go_enter Try.func8, Try.ntmps8
    go_wp2
    go_ret
    exact ⟨rfl, Below.refl _ _⟩
  have hbig' : n ≤ 1048576 := by omega
  clear hbig
  go_enter Try.func8, Try.ntmps8
  go_wp2_with fail
  refine (drawCountLanes_any A n c _ HB.out).mono ?_
  rintro e w1 ⟨A1, n1, c1, J1, d1, C1, f1, l, rfl, hl, hb⟩
  obtain ⟨hc1, hf1⟩ := bcell hb
  have B1 := Lib.hid (show Below w.heap.size w w1 from (by first | exact below_seq (Below.refl w.heap.size w) hb | exact below_seq1 (Below.refl w.heap.size w) hb | exact below_seq2 (Below.refl w.heap.size w) hb | exact below_seq3 (Below.refl w.heap.size w) hb | exact below_seq4 (Below.refl w.heap.size w) hb))
  have R1 := Lib.hid hb
  have hz1 := hb.size
  try simp at hz1
  clear hb
  have H := Lib.hid hl
  clear hl
  by_cases hk : LV l
  · have HV := Lib.hid hk
    clear hk
    go_wp2_with fail
    refine (ctI_rd A1 n1 c1 J1 4 d1 C1 4 f1 l _ (by first | with_reducible exact H.out | with_reducible exact lr_alloc H.out _ | with_reducible exact lr_alloc (lr_alloc H.out _) _ | with_reducible exact lr_alloc (lr_alloc (lr_alloc H.out _) _) _) HV.out).mono ?_
    rintro e w2 ⟨A2, n2, c2, rfl, hn2, hu, hb⟩
    obtain ⟨hc2, hf2⟩ := bcell hb
    have B2 := Lib.hid (show Below w.heap.size w w2 from (by first | exact below_seq B1.out hb | exact below_seq1 B1.out hb | exact below_seq2 B1.out hb | exact below_seq3 B1.out hb | exact below_seq4 B1.out hb))
    have R2 := Lib.hid hb
    have hz2 := hb.size
    try simp at hz2
    clear hb
    try have y20 : w.heap.size < w2.heap.size := by omega
    try have y20a : w.heap.size + 1 < w2.heap.size := by omega
    try have y20b : w.heap.size < w2.heap.size + 1 + 1 := by omega
    try have y20c : w.heap.size + 1 < w2.heap.size + 1 + 1 := by omega
    try have y21 : w1.heap.size < w2.heap.size := by omega
    try have y21a : w1.heap.size + 1 < w2.heap.size := by omega
    try have y21b : w1.heap.size < w2.heap.size + 1 + 1 := by omega
    try have y21c : w1.heap.size + 1 < w2.heap.size + 1 + 1 := by omega
    obtain rfl : n2 = 4 := by rw [hn2, cnts_len, HV.out.n0]
    have U := Lib.hid hu
    clear hu hn2
    replace H := Lib.hid (show LR w2 _ _ _ _ _ _ _ from (by first | with_reducible exact lr_below H.out R2.out | with_reducible exact lr_below (lr_alloc H.out _) R2.out | with_reducible exact lr_below (lr_alloc (lr_alloc H.out _) _) R2.out | with_reducible exact lr_below (lr_alloc (lr_alloc (lr_alloc H.out _) _) _) R2.out))
    go_wp2_with fail
    refine (ctS_rd A1 n1 c1 J1 4 d1 C1 4 f1 l _ (by first | with_reducible exact H.out | with_reducible exact lr_alloc H.out _ | with_reducible exact lr_alloc (lr_alloc H.out _) _ | with_reducible exact lr_alloc (lr_alloc (lr_alloc H.out _) _) _) HV.out).mono ?_
    rintro e w3 ⟨A3, n3, c3, rfl, hn3, hu, hb⟩
    obtain ⟨hc3, hf3⟩ := bcell hb
    have B3 := Lib.hid (show Below w.heap.size w w3 from (by first | exact below_seq B2.out hb | exact below_seq1 B2.out hb | exact below_seq2 B2.out hb | exact below_seq3 B2.out hb | exact below_seq4 B2.out hb))
    have R3 := Lib.hid hb
    have hz3 := hb.size
    try simp at hz3
    clear hb
    try have y30 : w.heap.size < w3.heap.size := by omega
    try have y30a : w.heap.size + 1 < w3.heap.size := by omega
    try have y30b : w.heap.size < w3.heap.size + 1 + 1 := by omega
    try have y30c : w.heap.size + 1 < w3.heap.size + 1 + 1 := by omega
    try have y31 : w1.heap.size < w3.heap.size := by omega
    try have y31a : w1.heap.size + 1 < w3.heap.size := by omega
    try have y31b : w1.heap.size < w3.heap.size + 1 + 1 := by omega
    try have y31c : w1.heap.size + 1 < w3.heap.size + 1 + 1 := by omega
    try have y32 : w2.heap.size < w3.heap.size := by omega
    try have y32a : w2.heap.size + 1 < w3.heap.size := by omega
    try have y32b : w2.heap.size < w3.heap.size + 1 + 1 := by omega
    try have y32c : w2.heap.size + 1 < w3.heap.size + 1 + 1 := by omega
    obtain rfl : n3 = 4 := by rw [hn3, cnts_len, HV.out.n0]
    have V := Lib.hid hu
    clear hu hn3
    replace H := Lib.hid (show LR w3 _ _ _ _ _ _ _ from (by first | with_reducible exact lr_below H.out R3.out | with_reducible exact lr_below (lr_alloc H.out _) R3.out | with_reducible exact lr_below (lr_alloc (lr_alloc H.out _) _) R3.out | with_reducible exact lr_below (lr_alloc (lr_alloc (lr_alloc H.out _) _) _) R3.out))
    replace U := Lib.hid (show NR w3 _ _ _ from (by first | with_reducible exact nr_below U.out R3.out | with_reducible exact nr_below (nr_alloc U.out _) R3.out | with_reducible exact nr_below (nr_alloc (nr_alloc U.out _) _) R3.out | with_reducible exact nr_below (nr_alloc (nr_alloc (nr_alloc U.out _) _) _) R3.out))
    go_wp2_with fail
    refine (tgInts_any A2 A3 4 c2 4 c3 (cnts l) (cnts l) _ U.out V.out (by omega) (by omega)).mono ?_
    rintro e w4 ⟨rfl, hb⟩
    obtain ⟨hc4, hf4⟩ := bcell hb
    have B4 := Lib.hid (show Below w.heap.size w w4 from (by first | exact below_seq B3.out hb | exact below_seq1 B3.out hb | exact below_seq2 B3.out hb | exact below_seq3 B3.out hb | exact below_seq4 B3.out hb))
    have R4 := Lib.hid hb
    have hz4 := hb.size
    try simp at hz4
    clear hb
    try have y40 : w.heap.size < w4.heap.size := by omega
    try have y40a : w.heap.size + 1 < w4.heap.size := by omega
    try have y40b : w.heap.size < w4.heap.size + 1 + 1 := by omega
    try have y40c : w.heap.size + 1 < w4.heap.size + 1 + 1 := by omega
    try have y41 : w1.heap.size < w4.heap.size := by omega
    try have y41a : w1.heap.size + 1 < w4.heap.size := by omega
    try have y41b : w1.heap.size < w4.heap.size + 1 + 1 := by omega
    try have y41c : w1.heap.size + 1 < w4.heap.size + 1 + 1 := by omega
    try have y42 : w2.heap.size < w4.heap.size := by omega
    try have y42a : w2.heap.size + 1 < w4.heap.size := by omega
    try have y42b : w2.heap.size < w4.heap.size + 1 + 1 := by omega
    try have y42c : w2.heap.size + 1 < w4.heap.size + 1 + 1 := by omega
    try have y43 : w3.heap.size < w4.heap.size := by omega
    try have y43a : w3.heap.size + 1 < w4.heap.size := by omega
    try have y43b : w3.heap.size < w4.heap.size + 1 + 1 := by omega
    try have y43c : w3.heap.size + 1 < w4.heap.size + 1 + 1 := by omega
    rw [ints_refl]
    replace H := Lib.hid (show LR w4 _ _ _ _ _ _ _ from (by first | with_reducible exact lr_below H.out R4.out | with_reducible exact lr_below (lr_alloc H.out _) R4.out | with_reducible exact lr_below (lr_alloc (lr_alloc H.out _) _) R4.out | with_reducible exact lr_below (lr_alloc (lr_alloc (lr_alloc H.out _) _) _) R4.out))
    replace U := Lib.hid (show NR w4 _ _ _ from (by first | with_reducible exact nr_below U.out R4.out | with_reducible exact nr_below (nr_alloc U.out _) R4.out | with_reducible exact nr_below (nr_alloc (nr_alloc U.out _) _) R4.out | with_reducible exact nr_below (nr_alloc (nr_alloc (nr_alloc U.out _) _) _) R4.out))
    clear V
    go_wp2_with fail
    go_loopw [8, 9] (fun s i wr => CkSum w4 (cnts l) s i wr) (fun _ i _ => 4 - (intOf i).toNat)
    case atStart => exact ⟨0, by omega, by simp [sumL], rfl, rfl⟩
    case round =>
      obtain ⟨k, hk4, rfl, rfl, rfl⟩ := hrel
      have hs1 := sum_part HV.out k
      have htl := tot_le HV.out
      by_cases hlt : k < 4
      · obtain ⟨b1, o1, x1, rfl, hb1, hv1, c01⟩ := nr_at U.out hlt
        have ht1 := sumL_take hv1
        have hs1' := sum_part HV.out (k + 1)
        have k0 : (0 : Int) ≤ (k : Int) := by omega
        have k1 : (k : Int) < (4 : Int) := by omega
        obtain ⟨S1, hS1⟩ : ∃ S, S = sumL ((cnts l).take k) := ⟨_, rfl⟩
        rw [← hS1] at ht1 hs1 ⊢
        clear hS1 hv1
        have hw1 : IntKind.i64.wrap (S1 + x1) = S1 + x1 := IntWalk.i64_in _ (by omega)
        have R1' := Lib.hid ht1
        clear ht1 hs1 hs1'
        go_wp2
        go_roundw
        case rel => exact ⟨k + 1, by omega, by rw [R1'.out], by go_num, rfl⟩
        case measure => simp [intOf]; omega
      · obtain rfl : k = 4 := by omega
        rw [sum_all HV.out]
        clear hs1
        by_cases hno : ∃ i, NoOk l i
        · obtain ⟨i, hi⟩ := hno
          have HOK := Lib.hid hi
          obtain ⟨ri, -, -, hri, hnei, -, -, hRLi, hi4, -⟩ := turn_get hi.1 hi.2
          have hTi : 0 < total ri.fs := by
            rcases Nat.eq_zero_or_pos (total ri.fs) with h | h
            · exact absurd (total_zero hRLi.rv h) hnei
            · exact h
          have hTT : 0 < totN l := by
            rcases Nat.eq_zero_or_pos (totN l) with h | h
            · exact absurd (tot_empty h HV.out ri (List.mem_of_getElem? hri)) hnei
            · exact h
          obtain ⟨T, hT⟩ : ∃ T : Int, T = (totN l : Int) := ⟨_, rfl⟩
          rw [← hT]
          have dT : decide (0 < T) = true := by simp; omega
          have dT2 : decide (T > 0) = true := by simp; omega
          have HRI := Lib.hid hri
          have HTI := Lib.hid hTi
          obtain ⟨pp, hpp⟩ : ∃ pp, pp = nxQ l i := ⟨_, rfl⟩
          clear hT hi hri hnei hRLi hTi hTT htl
          go_wp2_with fail
          refine (noI_rd A1 n1 c1 J1 4 d1 C1 4 f1 l _ (by first | with_reducible exact H.out | with_reducible exact lr_alloc H.out _ | with_reducible exact lr_alloc (lr_alloc H.out _) _ | with_reducible exact lr_alloc (lr_alloc (lr_alloc H.out _) _) _) i HOK.out).mono ?_
          rintro e w5 ⟨A5, n5, c5, J5, m5, d5, C5, o5, f5, rfl, hx, hb⟩
          obtain ⟨hc5, hf5⟩ := bcell hb
          have B5 := Lib.hid (show Below w.heap.size w w5 from (by first | exact below_seq B4.out hb | exact below_seq1 B4.out hb | exact below_seq2 B4.out hb | exact below_seq3 B4.out hb | exact below_seq4 B4.out hb))
          have R5 := Lib.hid hb
          have hz5 := hb.size
          try simp at hz5
          clear hb
          try have y50 : w.heap.size < w5.heap.size := by omega
          try have y50a : w.heap.size + 1 < w5.heap.size := by omega
          try have y50b : w.heap.size < w5.heap.size + 1 + 1 := by omega
          try have y50c : w.heap.size + 1 < w5.heap.size + 1 + 1 := by omega
          try have y51 : w1.heap.size < w5.heap.size := by omega
          try have y51a : w1.heap.size + 1 < w5.heap.size := by omega
          try have y51b : w1.heap.size < w5.heap.size + 1 + 1 := by omega
          try have y51c : w1.heap.size + 1 < w5.heap.size + 1 + 1 := by omega
          try have y52 : w2.heap.size < w5.heap.size := by omega
          try have y52a : w2.heap.size + 1 < w5.heap.size := by omega
          try have y52b : w2.heap.size < w5.heap.size + 1 + 1 := by omega
          try have y52c : w2.heap.size + 1 < w5.heap.size + 1 + 1 := by omega
          try have y53 : w3.heap.size < w5.heap.size := by omega
          try have y53a : w3.heap.size + 1 < w5.heap.size := by omega
          try have y53b : w3.heap.size < w5.heap.size + 1 + 1 := by omega
          try have y53c : w3.heap.size + 1 < w5.heap.size + 1 + 1 := by omega
          try have y54 : w4.heap.size < w5.heap.size := by omega
          try have y54a : w4.heap.size + 1 < w5.heap.size := by omega
          try have y54b : w4.heap.size < w5.heap.size + 1 + 1 := by omega
          try have y54c : w4.heap.size + 1 < w5.heap.size + 1 + 1 := by omega
          rw [← hpp]
          clear hx hpp
          replace H := Lib.hid (show LR w5 _ _ _ _ _ _ _ from (by first | with_reducible exact lr_below H.out R5.out | with_reducible exact lr_below (lr_alloc H.out _) R5.out | with_reducible exact lr_below (lr_alloc (lr_alloc H.out _) _) R5.out | with_reducible exact lr_below (lr_alloc (lr_alloc (lr_alloc H.out _) _) _) R5.out))
          replace U := Lib.hid (show NR w5 _ _ _ from (by first | with_reducible exact nr_below U.out R5.out | with_reducible exact nr_below (nr_alloc U.out _) R5.out | with_reducible exact nr_below (nr_alloc (nr_alloc U.out _) _) R5.out | with_reducible exact nr_below (nr_alloc (nr_alloc (nr_alloc U.out _) _) _) R5.out))
          go_wp2_with fail
          refine ((nlI_any A1 n1 c1 J1 4 d1 C1 4 f1 l _ (by first | with_reducible exact H.out | with_reducible exact lr_alloc H.out _ | with_reducible exact lr_alloc (lr_alloc H.out _) _ | with_reducible exact lr_alloc (lr_alloc (lr_alloc H.out _) _) _)).mono fun _ _ h => nl_rd HOK.out h).mono ?_
          rintro e w6 ⟨rfl, hb⟩
          obtain ⟨hc6, hf6⟩ := bcell hb
          have B6 := Lib.hid (show Below w.heap.size w w6 from (by first | exact below_seq B5.out hb | exact below_seq1 B5.out hb | exact below_seq2 B5.out hb | exact below_seq3 B5.out hb | exact below_seq4 B5.out hb))
          have R6 := Lib.hid hb
          have hz6 := hb.size
          try simp at hz6
          clear hb
          try have y60 : w.heap.size < w6.heap.size := by omega
          try have y60a : w.heap.size + 1 < w6.heap.size := by omega
          try have y60b : w.heap.size < w6.heap.size + 1 + 1 := by omega
          try have y60c : w.heap.size + 1 < w6.heap.size + 1 + 1 := by omega
          try have y61 : w1.heap.size < w6.heap.size := by omega
          try have y61a : w1.heap.size + 1 < w6.heap.size := by omega
          try have y61b : w1.heap.size < w6.heap.size + 1 + 1 := by omega
          try have y61c : w1.heap.size + 1 < w6.heap.size + 1 + 1 := by omega
          try have y62 : w2.heap.size < w6.heap.size := by omega
          try have y62a : w2.heap.size + 1 < w6.heap.size := by omega
          try have y62b : w2.heap.size < w6.heap.size + 1 + 1 := by omega
          try have y62c : w2.heap.size + 1 < w6.heap.size + 1 + 1 := by omega
          try have y63 : w3.heap.size < w6.heap.size := by omega
          try have y63a : w3.heap.size + 1 < w6.heap.size := by omega
          try have y63b : w3.heap.size < w6.heap.size + 1 + 1 := by omega
          try have y63c : w3.heap.size + 1 < w6.heap.size + 1 + 1 := by omega
          try have y64 : w4.heap.size < w6.heap.size := by omega
          try have y64a : w4.heap.size + 1 < w6.heap.size := by omega
          try have y64b : w4.heap.size < w6.heap.size + 1 + 1 := by omega
          try have y64c : w4.heap.size + 1 < w6.heap.size + 1 + 1 := by omega
          try have y65 : w5.heap.size < w6.heap.size := by omega
          try have y65a : w5.heap.size + 1 < w6.heap.size := by omega
          try have y65b : w5.heap.size < w6.heap.size + 1 + 1 := by omega
          try have y65c : w5.heap.size + 1 < w6.heap.size + 1 + 1 := by omega
          replace U := Lib.hid (show NR w6 _ _ _ from (by first | with_reducible exact nr_below U.out R6.out | with_reducible exact nr_below (nr_alloc U.out _) R6.out | with_reducible exact nr_below (nr_alloc (nr_alloc U.out _) _) R6.out | with_reducible exact nr_below (nr_alloc (nr_alloc (nr_alloc U.out _) _) _) R6.out))
          have hcu := cnts_get HRI.out
          obtain ⟨b1, o1, x1, rfl, hb1, hv1, c01⟩ := nr_at U.out hi4
          obtain rfl : (total ri.fs : Int) = x1 := Option.some.inj (hcu.symm.trans hv1)
          obtain ⟨T1, hT1⟩ : ∃ T1 : Int, T1 = (total ri.fs : Int) := ⟨_, rfl⟩
          have hT1p : 0 < T1 := by have := HTI.out; omega
          rw [← hT1] at c01
          have k0 : (0 : Int) ≤ (i : Int) := by omega
          have k1 : (i : Int) < (4 : Int) := by omega
          have dU : decide (0 < T1) = true := by simp [hT1p]
          have dU2 : decide (T1 > 0) = true := by simp [hT1p]
          clear hcu hv1 hT1 hT1p
          go_wp2
          all_goals
            go_ret
            refine ⟨rfl, ?_⟩
            repeat (first | with_reducible refine below_alloc ?_ _ | with_reducible refine Below.drew ?_ | with_reducible refine below_drewN ?_ _)
            exact B6.out
        · have HN := Lib.hid hno
          have htz : totN l = 0 := by
            rcases turn_or l with ⟨i, hi⟩ | he
            · exact absurd ⟨i, HV.out, hi⟩ hno
            · exact tot_none he
          rw [htz]
          clear hno htz htl
          go_wp2_with fail
          refine (noI_rdno A1 n1 c1 J1 4 d1 C1 4 f1 l _ (by first | with_reducible exact H.out | with_reducible exact lr_alloc H.out _ | with_reducible exact lr_alloc (lr_alloc H.out _) _ | with_reducible exact lr_alloc (lr_alloc (lr_alloc H.out _) _) _) HN.out).mono ?_
          rintro e w5 ⟨A5, n5, c5, J5, m5, d5, C5, o5, f5, rfl, hx, hb⟩
          obtain ⟨hc5, hf5⟩ := bcell hb
          have B5 := Lib.hid (show Below w.heap.size w w5 from (by first | exact below_seq B4.out hb | exact below_seq1 B4.out hb | exact below_seq2 B4.out hb | exact below_seq3 B4.out hb | exact below_seq4 B4.out hb))
          have R5 := Lib.hid hb
          have hz5 := hb.size
          try simp at hz5
          clear hb
          try have y50 : w.heap.size < w5.heap.size := by omega
          try have y50a : w.heap.size + 1 < w5.heap.size := by omega
          try have y50b : w.heap.size < w5.heap.size + 1 + 1 := by omega
          try have y50c : w.heap.size + 1 < w5.heap.size + 1 + 1 := by omega
          try have y51 : w1.heap.size < w5.heap.size := by omega
          try have y51a : w1.heap.size + 1 < w5.heap.size := by omega
          try have y51b : w1.heap.size < w5.heap.size + 1 + 1 := by omega
          try have y51c : w1.heap.size + 1 < w5.heap.size + 1 + 1 := by omega
          try have y52 : w2.heap.size < w5.heap.size := by omega
          try have y52a : w2.heap.size + 1 < w5.heap.size := by omega
          try have y52b : w2.heap.size < w5.heap.size + 1 + 1 := by omega
          try have y52c : w2.heap.size + 1 < w5.heap.size + 1 + 1 := by omega
          try have y53 : w3.heap.size < w5.heap.size := by omega
          try have y53a : w3.heap.size + 1 < w5.heap.size := by omega
          try have y53b : w3.heap.size < w5.heap.size + 1 + 1 := by omega
          try have y53c : w3.heap.size + 1 < w5.heap.size + 1 + 1 := by omega
          try have y54 : w4.heap.size < w5.heap.size := by omega
          try have y54a : w4.heap.size + 1 < w5.heap.size := by omega
          try have y54b : w4.heap.size < w5.heap.size + 1 + 1 := by omega
          try have y54c : w4.heap.size + 1 < w5.heap.size + 1 + 1 := by omega
          clear hx
          replace H := Lib.hid (show LR w5 _ _ _ _ _ _ _ from (by first | with_reducible exact lr_below H.out R5.out | with_reducible exact lr_below (lr_alloc H.out _) R5.out | with_reducible exact lr_below (lr_alloc (lr_alloc H.out _) _) R5.out | with_reducible exact lr_below (lr_alloc (lr_alloc (lr_alloc H.out _) _) _) R5.out))
          go_wp2_with fail
          refine ((nlI_any A1 n1 c1 J1 4 d1 C1 4 f1 l _ (by first | with_reducible exact H.out | with_reducible exact lr_alloc H.out _ | with_reducible exact lr_alloc (lr_alloc H.out _) _ | with_reducible exact lr_alloc (lr_alloc (lr_alloc H.out _) _) _)).mono fun _ _ h => nl_rdno HN.out h).mono ?_
          rintro e w6 ⟨rfl, hb⟩
          obtain ⟨hc6, hf6⟩ := bcell hb
          have B6 := Lib.hid (show Below w.heap.size w w6 from (by first | exact below_seq B5.out hb | exact below_seq1 B5.out hb | exact below_seq2 B5.out hb | exact below_seq3 B5.out hb | exact below_seq4 B5.out hb))
          have R6 := Lib.hid hb
          have hz6 := hb.size
          try simp at hz6
          clear hb
          try have y60 : w.heap.size < w6.heap.size := by omega
          try have y60a : w.heap.size + 1 < w6.heap.size := by omega
          try have y60b : w.heap.size < w6.heap.size + 1 + 1 := by omega
          try have y60c : w.heap.size + 1 < w6.heap.size + 1 + 1 := by omega
          try have y61 : w1.heap.size < w6.heap.size := by omega
          try have y61a : w1.heap.size + 1 < w6.heap.size := by omega
          try have y61b : w1.heap.size < w6.heap.size + 1 + 1 := by omega
          try have y61c : w1.heap.size + 1 < w6.heap.size + 1 + 1 := by omega
          try have y62 : w2.heap.size < w6.heap.size := by omega
          try have y62a : w2.heap.size + 1 < w6.heap.size := by omega
          try have y62b : w2.heap.size < w6.heap.size + 1 + 1 := by omega
          try have y62c : w2.heap.size + 1 < w6.heap.size + 1 + 1 := by omega
          try have y63 : w3.heap.size < w6.heap.size := by omega
          try have y63a : w3.heap.size + 1 < w6.heap.size := by omega
          try have y63b : w3.heap.size < w6.heap.size + 1 + 1 := by omega
          try have y63c : w3.heap.size + 1 < w6.heap.size + 1 + 1 := by omega
          try have y64 : w4.heap.size < w6.heap.size := by omega
          try have y64a : w4.heap.size + 1 < w6.heap.size := by omega
          try have y64b : w4.heap.size < w6.heap.size + 1 + 1 := by omega
          try have y64c : w4.heap.size + 1 < w6.heap.size + 1 + 1 := by omega
          try have y65 : w5.heap.size < w6.heap.size := by omega
          try have y65a : w5.heap.size + 1 < w6.heap.size := by omega
          try have y65b : w5.heap.size < w6.heap.size + 1 + 1 := by omega
          try have y65c : w5.heap.size + 1 < w6.heap.size + 1 + 1 := by omega
          go_wp2
          all_goals
            go_ret
            refine ⟨rfl, ?_⟩
            repeat (first | with_reducible refine below_alloc ?_ _ | with_reducible refine Below.drew ?_ | with_reducible refine below_drewN ?_ _)
            exact B6.out
  · have HK := Lib.hid hk
    clear hk
    go_wp2_with fail
    refine ((ctI_any A1 n1 c1 J1 4 d1 C1 4 f1 l _ (by first | with_reducible exact H.out | with_reducible exact lr_alloc H.out _ | with_reducible exact lr_alloc (lr_alloc H.out _) _ | with_reducible exact lr_alloc (lr_alloc (lr_alloc H.out _) _) _)).mono fun _ _ h => ct_rdno h HK.out).mono ?_
    rintro e w2 ⟨A2, n2, c2, rfl, hn2, hu, hb⟩
    obtain ⟨hc2, hf2⟩ := bcell hb
    have B2 := Lib.hid (show Below w.heap.size w w2 from (by first | exact below_seq B1.out hb | exact below_seq1 B1.out hb | exact below_seq2 B1.out hb | exact below_seq3 B1.out hb | exact below_seq4 B1.out hb))
    have R2 := Lib.hid hb
    have hz2 := hb.size
    try simp at hz2
    clear hb
    try have y20 : w.heap.size < w2.heap.size := by omega
    try have y20a : w.heap.size + 1 < w2.heap.size := by omega
    try have y20b : w.heap.size < w2.heap.size + 1 + 1 := by omega
    try have y20c : w.heap.size + 1 < w2.heap.size + 1 + 1 := by omega
    try have y21 : w1.heap.size < w2.heap.size := by omega
    try have y21a : w1.heap.size + 1 < w2.heap.size := by omega
    try have y21b : w1.heap.size < w2.heap.size + 1 + 1 := by omega
    try have y21c : w1.heap.size + 1 < w2.heap.size + 1 + 1 := by omega
    obtain rfl : n2 = 0 := hn2
    have U := Lib.hid hu
    clear hu
    replace H := Lib.hid (show LR w2 _ _ _ _ _ _ _ from (by first | with_reducible exact lr_below H.out R2.out | with_reducible exact lr_below (lr_alloc H.out _) R2.out | with_reducible exact lr_below (lr_alloc (lr_alloc H.out _) _) R2.out | with_reducible exact lr_below (lr_alloc (lr_alloc (lr_alloc H.out _) _) _) R2.out))
    go_wp2_with fail
    refine ((ctS_any A1 n1 c1 J1 4 d1 C1 4 f1 l _ (by first | with_reducible exact H.out | with_reducible exact lr_alloc H.out _ | with_reducible exact lr_alloc (lr_alloc H.out _) _ | with_reducible exact lr_alloc (lr_alloc (lr_alloc H.out _) _) _)).mono fun _ _ h => ct_rdno h HK.out).mono ?_
    rintro e w3 ⟨A3, n3, c3, rfl, hn3, hu, hb⟩
    obtain ⟨hc3, hf3⟩ := bcell hb
    have B3 := Lib.hid (show Below w.heap.size w w3 from (by first | exact below_seq B2.out hb | exact below_seq1 B2.out hb | exact below_seq2 B2.out hb | exact below_seq3 B2.out hb | exact below_seq4 B2.out hb))
    have R3 := Lib.hid hb
    have hz3 := hb.size
    try simp at hz3
    clear hb
    try have y30 : w.heap.size < w3.heap.size := by omega
    try have y30a : w.heap.size + 1 < w3.heap.size := by omega
    try have y30b : w.heap.size < w3.heap.size + 1 + 1 := by omega
    try have y30c : w.heap.size + 1 < w3.heap.size + 1 + 1 := by omega
    try have y31 : w1.heap.size < w3.heap.size := by omega
    try have y31a : w1.heap.size + 1 < w3.heap.size := by omega
    try have y31b : w1.heap.size < w3.heap.size + 1 + 1 := by omega
    try have y31c : w1.heap.size + 1 < w3.heap.size + 1 + 1 := by omega
    try have y32 : w2.heap.size < w3.heap.size := by omega
    try have y32a : w2.heap.size + 1 < w3.heap.size := by omega
    try have y32b : w2.heap.size < w3.heap.size + 1 + 1 := by omega
    try have y32c : w2.heap.size + 1 < w3.heap.size + 1 + 1 := by omega
    obtain rfl : n3 = 0 := hn3
    have V := Lib.hid hu
    clear hu
    replace U := Lib.hid (show NR w3 _ _ _ from (by first | with_reducible exact nr_below U.out R3.out | with_reducible exact nr_below (nr_alloc U.out _) R3.out | with_reducible exact nr_below (nr_alloc (nr_alloc U.out _) _) R3.out | with_reducible exact nr_below (nr_alloc (nr_alloc (nr_alloc U.out _) _) _) R3.out))
    go_wp2_with fail
    refine (tgInts_any A2 A3 0 c2 0 c3 [] [] _ U.out V.out (by omega) (by omega)).mono ?_
    rintro e w4 ⟨rfl, hb⟩
    obtain ⟨hc4, hf4⟩ := bcell hb
    have B4 := Lib.hid (show Below w.heap.size w w4 from (by first | exact below_seq B3.out hb | exact below_seq1 B3.out hb | exact below_seq2 B3.out hb | exact below_seq3 B3.out hb | exact below_seq4 B3.out hb))
    have R4 := Lib.hid hb
    have hz4 := hb.size
    try simp at hz4
    clear hb
    try have y40 : w.heap.size < w4.heap.size := by omega
    try have y40a : w.heap.size + 1 < w4.heap.size := by omega
    try have y40b : w.heap.size < w4.heap.size + 1 + 1 := by omega
    try have y40c : w.heap.size + 1 < w4.heap.size + 1 + 1 := by omega
    try have y41 : w1.heap.size < w4.heap.size := by omega
    try have y41a : w1.heap.size + 1 < w4.heap.size := by omega
    try have y41b : w1.heap.size < w4.heap.size + 1 + 1 := by omega
    try have y41c : w1.heap.size + 1 < w4.heap.size + 1 + 1 := by omega
    try have y42 : w2.heap.size < w4.heap.size := by omega
    try have y42a : w2.heap.size + 1 < w4.heap.size := by omega
    try have y42b : w2.heap.size < w4.heap.size + 1 + 1 := by omega
    try have y42c : w2.heap.size + 1 < w4.heap.size + 1 + 1 := by omega
    try have y43 : w3.heap.size < w4.heap.size := by omega
    try have y43a : w3.heap.size + 1 < w4.heap.size := by omega
    try have y43b : w3.heap.size < w4.heap.size + 1 + 1 := by omega
    try have y43c : w3.heap.size + 1 < w4.heap.size + 1 + 1 := by omega
    rw [ints_refl]
    replace U := Lib.hid (show NR w4 _ _ _ from (by first | with_reducible exact nr_below U.out R4.out | with_reducible exact nr_below (nr_alloc U.out _) R4.out | with_reducible exact nr_below (nr_alloc (nr_alloc U.out _) _) R4.out | with_reducible exact nr_below (nr_alloc (nr_alloc (nr_alloc U.out _) _) _) R4.out))
    replace V := Lib.hid (show NR w4 _ _ _ from (by first | with_reducible exact nr_below V.out R4.out | with_reducible exact nr_below (nr_alloc V.out _) R4.out | with_reducible exact nr_below (nr_alloc (nr_alloc V.out _) _) R4.out | with_reducible exact nr_below (nr_alloc (nr_alloc (nr_alloc V.out _) _) _) R4.out))
    go_wp2_with fail
    refine (tgInts_any A2 A3 0 c2 0 c3 [] [] _ U.out V.out (by omega) (by omega)).mono ?_
    rintro e w5 ⟨rfl, hb⟩
    obtain ⟨hc5, hf5⟩ := bcell hb
    have B5 := Lib.hid (show Below w.heap.size w w5 from (by first | exact below_seq B4.out hb | exact below_seq1 B4.out hb | exact below_seq2 B4.out hb | exact below_seq3 B4.out hb | exact below_seq4 B4.out hb))
    have R5 := Lib.hid hb
    have hz5 := hb.size
    try simp at hz5
    clear hb
    try have y50 : w.heap.size < w5.heap.size := by omega
    try have y50a : w.heap.size + 1 < w5.heap.size := by omega
    try have y50b : w.heap.size < w5.heap.size + 1 + 1 := by omega
    try have y50c : w.heap.size + 1 < w5.heap.size + 1 + 1 := by omega
    try have y51 : w1.heap.size < w5.heap.size := by omega
    try have y51a : w1.heap.size + 1 < w5.heap.size := by omega
    try have y51b : w1.heap.size < w5.heap.size + 1 + 1 := by omega
    try have y51c : w1.heap.size + 1 < w5.heap.size + 1 + 1 := by omega
    try have y52 : w2.heap.size < w5.heap.size := by omega
    try have y52a : w2.heap.size + 1 < w5.heap.size := by omega
    try have y52b : w2.heap.size < w5.heap.size + 1 + 1 := by omega
    try have y52c : w2.heap.size + 1 < w5.heap.size + 1 + 1 := by omega
    try have y53 : w3.heap.size < w5.heap.size := by omega
    try have y53a : w3.heap.size + 1 < w5.heap.size := by omega
    try have y53b : w3.heap.size < w5.heap.size + 1 + 1 := by omega
    try have y53c : w3.heap.size + 1 < w5.heap.size + 1 + 1 := by omega
    try have y54 : w4.heap.size < w5.heap.size := by omega
    try have y54a : w4.heap.size + 1 < w5.heap.size := by omega
    try have y54b : w4.heap.size < w5.heap.size + 1 + 1 := by omega
    try have y54c : w4.heap.size + 1 < w5.heap.size + 1 + 1 := by omega
    rw [ints_refl]
    go_wp2
    all_goals
      go_ret
      refine ⟨rfl, ?_⟩
      repeat refine below_alloc ?_ _
      exact B5.out
theorem own : ownKnob Try.prog.godebug = none := by kernel_rfl
theorem laidOut : laidOutB Try.prog = true := by kernel_rfl
set_option maxRecDepth 100000 in
theorem lifted (os : Os) (started : os.Started) (H : Type) (enc : TypeId × Value → H) :
    ReturnsInHanded {} Try.checked os 8 .any (Rows.fnCountLanesSpec.pre6 enc Try.prog Try.f8 Rows.fnCountLanesRow.domain false) (Rows.fnCountLanesSpec.post enc Try.prog Try.f8 false true false false) := by
  refine returnsInHanded_of_change (C := Try.checked) own started (by kernel_rfl) Try.func8
    (ChangeSpec.witness6 (enc := enc) (C := Try.checked) false ⟨#[], #[.slice none 0 0], []⟩ 8 (by kernel_rfl) (by kernel_rfl) (by kernel_rfl) (by kernel_rfl)) ?_
  intro W base args ds gs before hval0 hW _ _
  have hval : ∀ (j : Nat) t v, Try.f8.params[j]? = some t → args[j]? = some v → Value.okWide Try.prog W .any base t v := hval0
  have hW' := hW
  obtain ⟨p, q, hA0, hV, rfl, _, _⟩ := hW
  have hA : DataW.TrodAll enc Try.prog W 0 (fun _ => true) true Try.f8.params.toList args.toList ds p := hA0
  rw [Try.params8] at hA hval
  obtain ⟨v0, vs0, d0, ds0, p0, q0, hargs, rfl, rfl, h0, r0⟩ := trodAll_cons hA
  obtain ⟨rfl, rfl, rfl⟩ := trodAll_nil r0
  obtain rfl : args = #[v0] := by cases args; simp_all
  obtain ⟨rfl, rfl⟩ := trodVars_none hV
  have lt0 : ∀ x ∈ p0, x.block < W.heap.size := by obtain ⟨m, hm⟩ := h0; exact DataW.trod_lt m _ _ _ hm
  obtain ⟨a0, n0, c0, rfl⟩ := okWide_slice Try.underlying22 (hval 0 22 v0 rfl rfl)
  have w0 : Bytes W a0 n0 c0 := bytes_open h0
  clear hA0 hval0
  refine (walk a0 n0 c0 W w0).mono fun e W' ⟨he, bel⟩ => ?_
  subst he
  exact ⟨_, rfl, _, _, _, [], _, [], hW', trodAll_mk1 (shut_bool Try.underlying4 _), (trodAll_cons_mk (Below.trod laidOut (by kernel_rfl) (of_decide_eq_true (by kernel_rfl)) h0 bel lt0) trodAll_mk0), rfl, bel.frame _, fun h => by cases h⟩
theorem over : Rows.fnCountLanesRow.holds Try.pinned (OpenSpec.ofChange Rows.fnCountLanesSpec) :=
  OpenClaim.holds_of_wide 8 Try.f8 rfl rfl rfl rfl rfl rfl rfl ⟨rfl, rfl, rfl, rfl, rfl⟩ rfl rfl rfl rfl rfl (by kernel_rfl) Try.func8 (by unfold joinedFacts; rw [mayEnter, liftsFinal, makeIs]; kernel_rfl)
    (of_decide_eq_true (by kernel_rfl)) (by unfold Func.isWrapper; first | (rw [if_pos (by decide +kernel)]; kernel_rfl) | (rw [if_neg (by decide +kernel)]; exact ⟨rfl, rfl⟩))
    (fun os started H enc _ => lifted os started H enc)
/-- the given statement -/
theorem proved : Rows.FnCountLanesSaid := over
end Go.Proofs.Ytkmoiphcpmhacab.fnCountLanes
