/-
  The law FnReserveTwo returns true at every argument: reserving twice is reserving both at once. Conditions: none.
-/
import Derived.Test.YtkbjelchihdajaaLift
import Derived.Test.YtkbjelchihdajaaAI
import Derived.Test.YtkbjelchihdajaaAl
namespace Go.Proofs.Ytkbjelchihdajaa.fnReserveTwo
open Go.ChangeShapes Go.WideShapes Go.ChangeAt Go.RowKit

set_option maxHeartbeats 2000000 in
theorem walk (A : Option Addr) (n c : Nat) (w : World) (h : Bytes w A n c) :
    Calls Try.prog 11 #[.slice A n c] w fun e w' => e = .returned (.bool true) ∧ Below w.heap.size w w' := by
  have HB := Lib.hid h
  clear h
  by_cases hbig : ¬ n ≤ 1048576
  · go_enter Try.func11, Try.ntmps11
    go_wp2
    go_ret
    exact ⟨rfl, Below.refl _ _⟩
  have hbig' : n ≤ 1048576 := by omega
  clear hbig
  go_enter Try.func11, Try.ntmps11
  go_wp2_with fail
  refine (drawReserve_any A n c _ HB.out).mono ?_
  rintro e w1 ⟨lim, each, A1, n1, c1, us, x, b, rfl, hn1, hx, hbb, ho, hb⟩
  obtain ⟨hc1, hf1⟩ := bcell hb
  have B1 := Lib.hid (show Below w.heap.size w w1 from (by first | exact below_seq (Below.refl w.heap.size w) hb | exact below_seq1 (Below.refl w.heap.size w) hb | exact below_seq2 (Below.refl w.heap.size w) hb | exact below_seq3 (Below.refl w.heap.size w) hb | exact below_seq4 (Below.refl w.heap.size w) hb))
  have R1 := Lib.hid hb
  have hz1 := hb.size
  try simp at hz1
  clear hb
  have Q := Lib.hid (nr_own ho)
  clear ho hx
  rcases hk : rsOk lim each us x b with _ | _
  · have HK := Lib.hid hk
    clear hk
    go_wp2_with fail
    refine (rsvI_no lim each A1 n1 c1 us x b _ (by first | with_reducible exact Q.out | with_reducible exact nr_alloc Q.out _ | with_reducible exact nr_alloc (nr_alloc Q.out _) _ | with_reducible exact nr_alloc (nr_alloc (nr_alloc Q.out _) _) _) (by omega) HK.out).mono ?_
    rintro e w2 ⟨A2, n2, c2, rfl, hn2, ho2, hb⟩
    obtain ⟨hc2, hf2⟩ := bcell hb
    have B2 := Lib.hid (show Below w.heap.size w w2 from (by first | exact below_seq B1.out hb | exact below_seq1 B1.out hb | exact below_seq2 B1.out hb | exact below_seq3 B1.out hb | exact below_seq4 B1.out hb))
    have R2 := Lib.hid hb
    have hz2 := hb.size
    try simp at hz2
    clear hb
    try have y20 : w.heap.size < w2.heap.size := by omega
    try have y20a : w.heap.size + 1 < w2.heap.size := by omega
    try have y20b : w.heap.size < w2.heap.size + 1 + 1 := by omega
    try have y20c : w.heap.size + 1 < w2.heap.size + 1 + 1 := by omega
    try have y21 : w1.heap.size < w2.heap.size := by omega
    try have y21a : w1.heap.size + 1 < w2.heap.size := by omega
    try have y21b : w1.heap.size < w2.heap.size + 1 + 1 := by omega
    try have y21c : w1.heap.size + 1 < w2.heap.size + 1 + 1 := by omega
    obtain rfl : n2 = 0 := hn2
    have X := Lib.hid (nr_own ho2)
    clear ho2
    replace Q := Lib.hid (show NR w2 _ _ _ from (by first | with_reducible exact nr_below Q.out R2.out | with_reducible exact nr_below (nr_alloc Q.out _) R2.out | with_reducible exact nr_below (nr_alloc (nr_alloc Q.out _) _) R2.out | with_reducible exact nr_below (nr_alloc (nr_alloc (nr_alloc Q.out _) _) _) R2.out))
    go_wp2_with fail
    refine (rsvS_no lim each A1 n1 c1 us x b _ (by first | with_reducible exact Q.out | with_reducible exact nr_alloc Q.out _ | with_reducible exact nr_alloc (nr_alloc Q.out _) _ | with_reducible exact nr_alloc (nr_alloc (nr_alloc Q.out _) _) _) (by omega) HK.out).mono ?_
    rintro e w3 ⟨A3, n3, c3, rfl, hn3, ho3, hb⟩
    obtain ⟨hc3, hf3⟩ := bcell hb
    have B3 := Lib.hid (show Below w.heap.size w w3 from (by first | exact below_seq B2.out hb | exact below_seq1 B2.out hb | exact below_seq2 B2.out hb | exact below_seq3 B2.out hb | exact below_seq4 B2.out hb))
    have R3 := Lib.hid hb
    have hz3 := hb.size
    try simp at hz3
    clear hb
    try have y30 : w.heap.size < w3.heap.size := by omega
    try have y30a : w.heap.size + 1 < w3.heap.size := by omega
    try have y30b : w.heap.size < w3.heap.size + 1 + 1 := by omega
    try have y30c : w.heap.size + 1 < w3.heap.size + 1 + 1 := by omega
    try have y31 : w1.heap.size < w3.heap.size := by omega
    try have y31a : w1.heap.size + 1 < w3.heap.size := by omega
    try have y31b : w1.heap.size < w3.heap.size + 1 + 1 := by omega
    try have y31c : w1.heap.size + 1 < w3.heap.size + 1 + 1 := by omega
    try have y32 : w2.heap.size < w3.heap.size := by omega
    try have y32a : w2.heap.size + 1 < w3.heap.size := by omega
    try have y32b : w2.heap.size < w3.heap.size + 1 + 1 := by omega
    try have y32c : w2.heap.size + 1 < w3.heap.size + 1 + 1 := by omega
    obtain rfl : n3 = 0 := hn3
    have Y := Lib.hid (nr_own ho3)
    replace X := Lib.hid (show NR w3 _ _ _ from (by first | with_reducible exact nr_below X.out R3.out | with_reducible exact nr_below (nr_alloc X.out _) R3.out | with_reducible exact nr_below (nr_alloc (nr_alloc X.out _) _) R3.out | with_reducible exact nr_below (nr_alloc (nr_alloc (nr_alloc X.out _) _) _) R3.out))
    clear ho3
    go_wp2_with fail
    refine (asI_any 0 0 0 0 A2 A3 0 c2 0 c3 [] [] _ (by first | with_reducible exact X.out | with_reducible exact nr_alloc X.out _ | with_reducible exact nr_alloc (nr_alloc X.out _) _ | with_reducible exact nr_alloc (nr_alloc (nr_alloc X.out _) _) _) (by first | with_reducible exact Y.out | with_reducible exact nr_alloc Y.out _ | with_reducible exact nr_alloc (nr_alloc Y.out _) _ | with_reducible exact nr_alloc (nr_alloc (nr_alloc Y.out _) _) _) (by omega) (by omega)).mono ?_
    rintro e w4 ⟨rfl, hb⟩
    obtain ⟨hc4, hf4⟩ := bcell hb
    have B4 := Lib.hid (show Below w.heap.size w w4 from (by first | exact below_seq B3.out hb | exact below_seq1 B3.out hb | exact below_seq2 B3.out hb | exact below_seq3 B3.out hb | exact below_seq4 B3.out hb))
    have R4 := Lib.hid hb
    have hz4 := hb.size
    try simp at hz4
    clear hb
    try have y40 : w.heap.size < w4.heap.size := by omega
    try have y40a : w.heap.size + 1 < w4.heap.size := by omega
    try have y40b : w.heap.size < w4.heap.size + 1 + 1 := by omega
    try have y40c : w.heap.size + 1 < w4.heap.size + 1 + 1 := by omega
    try have y41 : w1.heap.size < w4.heap.size := by omega
    try have y41a : w1.heap.size + 1 < w4.heap.size := by omega
    try have y41b : w1.heap.size < w4.heap.size + 1 + 1 := by omega
    try have y41c : w1.heap.size + 1 < w4.heap.size + 1 + 1 := by omega
    try have y42 : w2.heap.size < w4.heap.size := by omega
    try have y42a : w2.heap.size + 1 < w4.heap.size := by omega
    try have y42b : w2.heap.size < w4.heap.size + 1 + 1 := by omega
    try have y42c : w2.heap.size + 1 < w4.heap.size + 1 + 1 := by omega
    try have y43 : w3.heap.size < w4.heap.size := by omega
    try have y43a : w3.heap.size + 1 < w4.heap.size := by omega
    try have y43b : w3.heap.size < w4.heap.size + 1 + 1 := by omega
    try have y43c : w3.heap.size + 1 < w4.heap.size + 1 + 1 := by omega
    rw [as_refl]
    replace X := Lib.hid (show NR w4 _ _ _ from (by first | with_reducible exact nr_below X.out R4.out | with_reducible exact nr_below (nr_alloc X.out _) R4.out | with_reducible exact nr_below (nr_alloc (nr_alloc X.out _) _) R4.out | with_reducible exact nr_below (nr_alloc (nr_alloc (nr_alloc X.out _) _) _) R4.out))
    replace Y := Lib.hid (show NR w4 _ _ _ from (by first | with_reducible exact nr_below Y.out R4.out | with_reducible exact nr_below (nr_alloc Y.out _) R4.out | with_reducible exact nr_below (nr_alloc (nr_alloc Y.out _) _) R4.out | with_reducible exact nr_below (nr_alloc (nr_alloc (nr_alloc Y.out _) _) _) R4.out))
    go_wp2_with fail
    refine (asI_any 0 0 0 0 A2 A3 0 c2 0 c3 [] [] _ (by first | with_reducible exact X.out | with_reducible exact nr_alloc X.out _ | with_reducible exact nr_alloc (nr_alloc X.out _) _ | with_reducible exact nr_alloc (nr_alloc (nr_alloc X.out _) _) _) (by first | with_reducible exact Y.out | with_reducible exact nr_alloc Y.out _ | with_reducible exact nr_alloc (nr_alloc Y.out _) _ | with_reducible exact nr_alloc (nr_alloc (nr_alloc Y.out _) _) _) (by omega) (by omega)).mono ?_
    rintro e w5 ⟨rfl, hb⟩
    obtain ⟨hc5, hf5⟩ := bcell hb
    have B5 := Lib.hid (show Below w.heap.size w w5 from (by first | exact below_seq B4.out hb | exact below_seq1 B4.out hb | exact below_seq2 B4.out hb | exact below_seq3 B4.out hb | exact below_seq4 B4.out hb))
    have R5 := Lib.hid hb
    have hz5 := hb.size
    try simp at hz5
    clear hb
    try have y50 : w.heap.size < w5.heap.size := by omega
    try have y50a : w.heap.size + 1 < w5.heap.size := by omega
    try have y50b : w.heap.size < w5.heap.size + 1 + 1 := by omega
    try have y50c : w.heap.size + 1 < w5.heap.size + 1 + 1 := by omega
    try have y51 : w1.heap.size < w5.heap.size := by omega
    try have y51a : w1.heap.size + 1 < w5.heap.size := by omega
    try have y51b : w1.heap.size < w5.heap.size + 1 + 1 := by omega
    try have y51c : w1.heap.size + 1 < w5.heap.size + 1 + 1 := by omega
    try have y52 : w2.heap.size < w5.heap.size := by omega
    try have y52a : w2.heap.size + 1 < w5.heap.size := by omega
    try have y52b : w2.heap.size < w5.heap.size + 1 + 1 := by omega
    try have y52c : w2.heap.size + 1 < w5.heap.size + 1 + 1 := by omega
    try have y53 : w3.heap.size < w5.heap.size := by omega
    try have y53a : w3.heap.size + 1 < w5.heap.size := by omega
    try have y53b : w3.heap.size < w5.heap.size + 1 + 1 := by omega
    try have y53c : w3.heap.size + 1 < w5.heap.size + 1 + 1 := by omega
    try have y54 : w4.heap.size < w5.heap.size := by omega
    try have y54a : w4.heap.size + 1 < w5.heap.size := by omega
    try have y54b : w4.heap.size < w5.heap.size + 1 + 1 := by omega
    try have y54c : w4.heap.size + 1 < w5.heap.size + 1 + 1 := by omega
    rw [as_refl]
    go_wp2
    all_goals
      go_ret
      refine ⟨rfl, ?_⟩
      repeat refine below_alloc ?_ _
      exact B5.out
  · obtain ⟨hq, hxp, hb0⟩ := rsOk_of hk
    obtain ⟨k, rfl, hk8⟩ := k_of hxp
    obtain ⟨u, hu⟩ := ac_at hq hk8
    obtain ⟨a1, a2, a3, a4, a5, a6⟩ := ac_of hq
    obtain ⟨u0, u1, u2⟩ := ac_get hq hu
    have hfl := free_le (lim := lim) (each := each) (u := u) (us := us)
    have n8 : n1 = 8 := by have := Q.out.1; omega
    subst n8
    have HK := Lib.hid hk
    have HQ := Lib.hid hq
    have HU := Lib.hid hu
    have HP := Lib.hid hxp
    have HL := Lib.hid a4
    obtain ⟨f, hf⟩ : ∃ f, freeN lim each us u = f := ⟨_, rfl⟩
    by_cases hlt : b ≤ freeN lim each us u
    · have hbf : b ≤ f := by omega
      have HLT := Lib.hid hlt
      have HA2 := Lib.hid (ac_set hq hu (y := u + b) (by omega) (by omega) (by omega))
      have HU2 := Lib.hid (get_set hu (u + b))
      have HL2 : Hid ((us.set k (u + b)).length = 8) := Lib.hid (by rw [List.length_set]; exact a4)
      obtain ⟨d, hd⟩ : ∃ d, b / 2 = d := ⟨_, rfl⟩
      have d0 : 0 ≤ d := by omega
      have d1 : d ≤ b := by omega
      have td : b.tdiv 2 = d := by rw [Int.tdiv_eq_ediv_of_nonneg hb0]; exact hd
      have dw : IntKind.i64.wrap d = d := IntWalk.i64_in _ (by omega)
      have HY := Lib.hid (ac_set hq hu (y := u + d) (by omega) (by omega) (by omega))
      have HU3 := Lib.hid (get_set hu (u + d))
      have HK3 : Hid (rsOk lim each us (k : Int) d = true) := Lib.hid (by simp [rsOk, frOk, hq, hxp, d0])
      have HL3 : Hid (d ≤ freeN lim each us u) := Lib.hid (by omega)
      have HK4 : Hid (rsOk lim each (us.set k (u + d)) (k : Int) (b - d) = true) := Lib.hid (by simp [rsOk, frOk, HY.out, hxp]; omega)
      have HL4 : Hid (b - d ≤ freeN lim each (us.set k (u + d)) (u + d)) := Lib.hid (by rw [free_less hu]; omega)
      have HE : Hid ((us.set k (u + d)).set k (u + d + (b - d)) = us.set k (u + b)) := Lib.hid (by rw [set_two, show u + d + (b - d) = u + b by omega])
      have HLS : Hid ((us.set k (u + d)).length = 8) := Lib.hid (by rw [List.length_set]; exact a4)
      clear hk hq hu hxp hlt hf hfl a1 a4 a5 a6 hd
      go_wp2_with fail
      refine (rsvI_in lim each A1 8 c1 us k u b _ (by first | with_reducible exact Q.out | with_reducible exact nr_alloc Q.out _ | with_reducible exact nr_alloc (nr_alloc Q.out _) _ | with_reducible exact nr_alloc (nr_alloc (nr_alloc Q.out _) _) _) HK.out HU.out HLT.out).mono ?_
      rintro e w2 ⟨A2, n2, c2, rfl, hn2, ho2, hb⟩
      obtain ⟨hc2, hf2⟩ := bcell hb
      have B2 := Lib.hid (show Below w.heap.size w w2 from (by first | exact below_seq B1.out hb | exact below_seq1 B1.out hb | exact below_seq2 B1.out hb | exact below_seq3 B1.out hb | exact below_seq4 B1.out hb))
      have R2 := Lib.hid hb
      have hz2 := hb.size
      try simp at hz2
      clear hb
      try have y20 : w.heap.size < w2.heap.size := by omega
      try have y20a : w.heap.size + 1 < w2.heap.size := by omega
      try have y20b : w.heap.size < w2.heap.size + 1 + 1 := by omega
      try have y20c : w.heap.size + 1 < w2.heap.size + 1 + 1 := by omega
      try have y21 : w1.heap.size < w2.heap.size := by omega
      try have y21a : w1.heap.size + 1 < w2.heap.size := by omega
      try have y21b : w1.heap.size < w2.heap.size + 1 + 1 := by omega
      try have y21c : w1.heap.size + 1 < w2.heap.size + 1 + 1 := by omega
      obtain rfl : n2 = 8 := hn2.trans HL2.out
      have X := Lib.hid (nr_own ho2)
      clear ho2 hn2
      replace Q := Lib.hid (show NR w2 _ _ _ from (by first | with_reducible exact nr_below Q.out R2.out | with_reducible exact nr_below (nr_alloc Q.out _) R2.out | with_reducible exact nr_below (nr_alloc (nr_alloc Q.out _) _) R2.out | with_reducible exact nr_below (nr_alloc (nr_alloc (nr_alloc Q.out _) _) _) R2.out))
      go_wp2_with fail
      refine (rsvS_in lim each A1 8 c1 us k u b _ (by first | with_reducible exact Q.out | with_reducible exact nr_alloc Q.out _ | with_reducible exact nr_alloc (nr_alloc Q.out _) _ | with_reducible exact nr_alloc (nr_alloc (nr_alloc Q.out _) _) _) HK.out HU.out HLT.out).mono ?_
      rintro e w3 ⟨A3, n3, c3, rfl, hn3, ho3, hb⟩
      obtain ⟨hc3, hf3⟩ := bcell hb
      have B3 := Lib.hid (show Below w.heap.size w w3 from (by first | exact below_seq B2.out hb | exact below_seq1 B2.out hb | exact below_seq2 B2.out hb | exact below_seq3 B2.out hb | exact below_seq4 B2.out hb))
      have R3 := Lib.hid hb
      have hz3 := hb.size
      try simp at hz3
      clear hb
      try have y30 : w.heap.size < w3.heap.size := by omega
      try have y30a : w.heap.size + 1 < w3.heap.size := by omega
      try have y30b : w.heap.size < w3.heap.size + 1 + 1 := by omega
      try have y30c : w.heap.size + 1 < w3.heap.size + 1 + 1 := by omega
      try have y31 : w1.heap.size < w3.heap.size := by omega
      try have y31a : w1.heap.size + 1 < w3.heap.size := by omega
      try have y31b : w1.heap.size < w3.heap.size + 1 + 1 := by omega
      try have y31c : w1.heap.size + 1 < w3.heap.size + 1 + 1 := by omega
      try have y32 : w2.heap.size < w3.heap.size := by omega
      try have y32a : w2.heap.size + 1 < w3.heap.size := by omega
      try have y32b : w2.heap.size < w3.heap.size + 1 + 1 := by omega
      try have y32c : w2.heap.size + 1 < w3.heap.size + 1 + 1 := by omega
      obtain rfl : n3 = 8 := hn3.trans HL2.out
      have Y := Lib.hid (nr_own ho3)
      replace X := Lib.hid (show NR w3 _ _ _ from (by first | with_reducible exact nr_below X.out R3.out | with_reducible exact nr_below (nr_alloc X.out _) R3.out | with_reducible exact nr_below (nr_alloc (nr_alloc X.out _) _) R3.out | with_reducible exact nr_below (nr_alloc (nr_alloc (nr_alloc X.out _) _) _) R3.out))
      replace Q := Lib.hid (show NR w3 _ _ _ from (by first | with_reducible exact nr_below Q.out R3.out | with_reducible exact nr_below (nr_alloc Q.out _) R3.out | with_reducible exact nr_below (nr_alloc (nr_alloc Q.out _) _) R3.out | with_reducible exact nr_below (nr_alloc (nr_alloc (nr_alloc Q.out _) _) _) R3.out))
      clear ho3 hn3
      go_wp2_with fail
      refine (asI_any lim each lim each A2 A3 8 c2 8 c3 _ _ _ (by first | with_reducible exact X.out | with_reducible exact nr_alloc X.out _ | with_reducible exact nr_alloc (nr_alloc X.out _) _ | with_reducible exact nr_alloc (nr_alloc (nr_alloc X.out _) _) _) (by first | with_reducible exact Y.out | with_reducible exact nr_alloc Y.out _ | with_reducible exact nr_alloc (nr_alloc Y.out _) _ | with_reducible exact nr_alloc (nr_alloc (nr_alloc Y.out _) _) _) (by omega) (by omega)).mono ?_
      rintro e w4 ⟨rfl, hb⟩
      obtain ⟨hc4, hf4⟩ := bcell hb
      have B4 := Lib.hid (show Below w.heap.size w w4 from (by first | exact below_seq B3.out hb | exact below_seq1 B3.out hb | exact below_seq2 B3.out hb | exact below_seq3 B3.out hb | exact below_seq4 B3.out hb))
      have R4 := Lib.hid hb
      have hz4 := hb.size
      try simp at hz4
      clear hb
      try have y40 : w.heap.size < w4.heap.size := by omega
      try have y40a : w.heap.size + 1 < w4.heap.size := by omega
      try have y40b : w.heap.size < w4.heap.size + 1 + 1 := by omega
      try have y40c : w.heap.size + 1 < w4.heap.size + 1 + 1 := by omega
      try have y41 : w1.heap.size < w4.heap.size := by omega
      try have y41a : w1.heap.size + 1 < w4.heap.size := by omega
      try have y41b : w1.heap.size < w4.heap.size + 1 + 1 := by omega
      try have y41c : w1.heap.size + 1 < w4.heap.size + 1 + 1 := by omega
      try have y42 : w2.heap.size < w4.heap.size := by omega
      try have y42a : w2.heap.size + 1 < w4.heap.size := by omega
      try have y42b : w2.heap.size < w4.heap.size + 1 + 1 := by omega
      try have y42c : w2.heap.size + 1 < w4.heap.size + 1 + 1 := by omega
      try have y43 : w3.heap.size < w4.heap.size := by omega
      try have y43a : w3.heap.size + 1 < w4.heap.size := by omega
      try have y43b : w3.heap.size < w4.heap.size + 1 + 1 := by omega
      try have y43c : w3.heap.size + 1 < w4.heap.size + 1 + 1 := by omega
      rw [as_refl]
      replace X := Lib.hid (show NR w4 _ _ _ from (by first | with_reducible exact nr_below X.out R4.out | with_reducible exact nr_below (nr_alloc X.out _) R4.out | with_reducible exact nr_below (nr_alloc (nr_alloc X.out _) _) R4.out | with_reducible exact nr_below (nr_alloc (nr_alloc (nr_alloc X.out _) _) _) R4.out))
      replace Y := Lib.hid (show NR w4 _ _ _ from (by first | with_reducible exact nr_below Y.out R4.out | with_reducible exact nr_below (nr_alloc Y.out _) R4.out | with_reducible exact nr_below (nr_alloc (nr_alloc Y.out _) _) R4.out | with_reducible exact nr_below (nr_alloc (nr_alloc (nr_alloc Y.out _) _) _) R4.out))
      replace Q := Lib.hid (show NR w4 _ _ _ from (by first | with_reducible exact nr_below Q.out R4.out | with_reducible exact nr_below (nr_alloc Q.out _) R4.out | with_reducible exact nr_below (nr_alloc (nr_alloc Q.out _) _) R4.out | with_reducible exact nr_below (nr_alloc (nr_alloc (nr_alloc Q.out _) _) _) R4.out))
      go_wp2_with fail
      refine (rsvI_in lim each A1 8 c1 us k u d _ (by first | with_reducible exact Q.out | with_reducible exact nr_alloc Q.out _ | with_reducible exact nr_alloc (nr_alloc Q.out _) _ | with_reducible exact nr_alloc (nr_alloc (nr_alloc Q.out _) _) _) HK3.out HU.out HL3.out).mono ?_
      rintro e w5 ⟨A5, n5, c5, rfl, hn5, ho5, hb⟩
      obtain ⟨hc5, hf5⟩ := bcell hb
      have B5 := Lib.hid (show Below w.heap.size w w5 from (by first | exact below_seq B4.out hb | exact below_seq1 B4.out hb | exact below_seq2 B4.out hb | exact below_seq3 B4.out hb | exact below_seq4 B4.out hb))
      have R5 := Lib.hid hb
      have hz5 := hb.size
      try simp at hz5
      clear hb
      try have y50 : w.heap.size < w5.heap.size := by omega
      try have y50a : w.heap.size + 1 < w5.heap.size := by omega
      try have y50b : w.heap.size < w5.heap.size + 1 + 1 := by omega
      try have y50c : w.heap.size + 1 < w5.heap.size + 1 + 1 := by omega
      try have y51 : w1.heap.size < w5.heap.size := by omega
      try have y51a : w1.heap.size + 1 < w5.heap.size := by omega
      try have y51b : w1.heap.size < w5.heap.size + 1 + 1 := by omega
      try have y51c : w1.heap.size + 1 < w5.heap.size + 1 + 1 := by omega
      try have y52 : w2.heap.size < w5.heap.size := by omega
      try have y52a : w2.heap.size + 1 < w5.heap.size := by omega
      try have y52b : w2.heap.size < w5.heap.size + 1 + 1 := by omega
      try have y52c : w2.heap.size + 1 < w5.heap.size + 1 + 1 := by omega
      try have y53 : w3.heap.size < w5.heap.size := by omega
      try have y53a : w3.heap.size + 1 < w5.heap.size := by omega
      try have y53b : w3.heap.size < w5.heap.size + 1 + 1 := by omega
      try have y53c : w3.heap.size + 1 < w5.heap.size + 1 + 1 := by omega
      try have y54 : w4.heap.size < w5.heap.size := by omega
      try have y54a : w4.heap.size + 1 < w5.heap.size := by omega
      try have y54b : w4.heap.size < w5.heap.size + 1 + 1 := by omega
      try have y54c : w4.heap.size + 1 < w5.heap.size + 1 + 1 := by omega
      obtain rfl : n5 = 8 := hn5.trans HLS.out
      have Z := Lib.hid (nr_own ho5)
      replace X := Lib.hid (show NR w5 _ _ _ from (by first | with_reducible exact nr_below X.out R5.out | with_reducible exact nr_below (nr_alloc X.out _) R5.out | with_reducible exact nr_below (nr_alloc (nr_alloc X.out _) _) R5.out | with_reducible exact nr_below (nr_alloc (nr_alloc (nr_alloc X.out _) _) _) R5.out))
      clear ho5 hn5
      go_wp2_with fail
      refine (rsvI_in lim each A5 8 c5 _ k (u + d) (b - d) _ (by first | with_reducible exact Z.out | with_reducible exact nr_alloc Z.out _ | with_reducible exact nr_alloc (nr_alloc Z.out _) _ | with_reducible exact nr_alloc (nr_alloc (nr_alloc Z.out _) _) _) HK4.out HU3.out HL4.out).mono ?_
      rintro e w6 ⟨A6, n6, c6, rfl, hn6, ho6, hb⟩
      obtain ⟨hc6, hf6⟩ := bcell hb
      have B6 := Lib.hid (show Below w.heap.size w w6 from (by first | exact below_seq B5.out hb | exact below_seq1 B5.out hb | exact below_seq2 B5.out hb | exact below_seq3 B5.out hb | exact below_seq4 B5.out hb))
      have R6 := Lib.hid hb
      have hz6 := hb.size
      try simp at hz6
      clear hb
      try have y60 : w.heap.size < w6.heap.size := by omega
      try have y60a : w.heap.size + 1 < w6.heap.size := by omega
      try have y60b : w.heap.size < w6.heap.size + 1 + 1 := by omega
      try have y60c : w.heap.size + 1 < w6.heap.size + 1 + 1 := by omega
      try have y61 : w1.heap.size < w6.heap.size := by omega
      try have y61a : w1.heap.size + 1 < w6.heap.size := by omega
      try have y61b : w1.heap.size < w6.heap.size + 1 + 1 := by omega
      try have y61c : w1.heap.size + 1 < w6.heap.size + 1 + 1 := by omega
      try have y62 : w2.heap.size < w6.heap.size := by omega
      try have y62a : w2.heap.size + 1 < w6.heap.size := by omega
      try have y62b : w2.heap.size < w6.heap.size + 1 + 1 := by omega
      try have y62c : w2.heap.size + 1 < w6.heap.size + 1 + 1 := by omega
      try have y63 : w3.heap.size < w6.heap.size := by omega
      try have y63a : w3.heap.size + 1 < w6.heap.size := by omega
      try have y63b : w3.heap.size < w6.heap.size + 1 + 1 := by omega
      try have y63c : w3.heap.size + 1 < w6.heap.size + 1 + 1 := by omega
      try have y64 : w4.heap.size < w6.heap.size := by omega
      try have y64a : w4.heap.size + 1 < w6.heap.size := by omega
      try have y64b : w4.heap.size < w6.heap.size + 1 + 1 := by omega
      try have y64c : w4.heap.size + 1 < w6.heap.size + 1 + 1 := by omega
      try have y65 : w5.heap.size < w6.heap.size := by omega
      try have y65a : w5.heap.size + 1 < w6.heap.size := by omega
      try have y65b : w5.heap.size < w6.heap.size + 1 + 1 := by omega
      try have y65c : w5.heap.size + 1 < w6.heap.size + 1 + 1 := by omega
      rw [HE.out] at ho6 hn6
      obtain rfl : n6 = 8 := hn6.trans HL2.out
      have V := Lib.hid (nr_own ho6)
      replace X := Lib.hid (show NR w6 _ _ _ from (by first | with_reducible exact nr_below X.out R6.out | with_reducible exact nr_below (nr_alloc X.out _) R6.out | with_reducible exact nr_below (nr_alloc (nr_alloc X.out _) _) R6.out | with_reducible exact nr_below (nr_alloc (nr_alloc (nr_alloc X.out _) _) _) R6.out))
      clear ho6 hn6
      go_wp2_with fail
      refine (asI_any lim each lim each A6 A2 8 c6 8 c2 _ _ _ (by first | with_reducible exact V.out | with_reducible exact nr_alloc V.out _ | with_reducible exact nr_alloc (nr_alloc V.out _) _ | with_reducible exact nr_alloc (nr_alloc (nr_alloc V.out _) _) _) (by first | with_reducible exact X.out | with_reducible exact nr_alloc X.out _ | with_reducible exact nr_alloc (nr_alloc X.out _) _ | with_reducible exact nr_alloc (nr_alloc (nr_alloc X.out _) _) _) (by omega) (by omega)).mono ?_
      rintro e w7 ⟨rfl, hb⟩
      obtain ⟨hc7, hf7⟩ := bcell hb
      have B7 := Lib.hid (show Below w.heap.size w w7 from (by first | exact below_seq B6.out hb | exact below_seq1 B6.out hb | exact below_seq2 B6.out hb | exact below_seq3 B6.out hb | exact below_seq4 B6.out hb))
      have R7 := Lib.hid hb
      have hz7 := hb.size
      try simp at hz7
      clear hb
      try have y70 : w.heap.size < w7.heap.size := by omega
      try have y70a : w.heap.size + 1 < w7.heap.size := by omega
      try have y70b : w.heap.size < w7.heap.size + 1 + 1 := by omega
      try have y70c : w.heap.size + 1 < w7.heap.size + 1 + 1 := by omega
      try have y71 : w1.heap.size < w7.heap.size := by omega
      try have y71a : w1.heap.size + 1 < w7.heap.size := by omega
      try have y71b : w1.heap.size < w7.heap.size + 1 + 1 := by omega
      try have y71c : w1.heap.size + 1 < w7.heap.size + 1 + 1 := by omega
      try have y72 : w2.heap.size < w7.heap.size := by omega
      try have y72a : w2.heap.size + 1 < w7.heap.size := by omega
      try have y72b : w2.heap.size < w7.heap.size + 1 + 1 := by omega
      try have y72c : w2.heap.size + 1 < w7.heap.size + 1 + 1 := by omega
      try have y73 : w3.heap.size < w7.heap.size := by omega
      try have y73a : w3.heap.size + 1 < w7.heap.size := by omega
      try have y73b : w3.heap.size < w7.heap.size + 1 + 1 := by omega
      try have y73c : w3.heap.size + 1 < w7.heap.size + 1 + 1 := by omega
      try have y74 : w4.heap.size < w7.heap.size := by omega
      try have y74a : w4.heap.size + 1 < w7.heap.size := by omega
      try have y74b : w4.heap.size < w7.heap.size + 1 + 1 := by omega
      try have y74c : w4.heap.size + 1 < w7.heap.size + 1 + 1 := by omega
      try have y75 : w5.heap.size < w7.heap.size := by omega
      try have y75a : w5.heap.size + 1 < w7.heap.size := by omega
      try have y75b : w5.heap.size < w7.heap.size + 1 + 1 := by omega
      try have y75c : w5.heap.size + 1 < w7.heap.size + 1 + 1 := by omega
      try have y76 : w6.heap.size < w7.heap.size := by omega
      try have y76a : w6.heap.size + 1 < w7.heap.size := by omega
      try have y76b : w6.heap.size < w7.heap.size + 1 + 1 := by omega
      try have y76c : w6.heap.size + 1 < w7.heap.size + 1 + 1 := by omega
      rw [as_refl]
      go_wp2
      all_goals
        go_ret
        refine ⟨rfl, ?_⟩
        repeat refine below_alloc ?_ _
        exact B7.out
    · have HLT := Lib.hid (show freeN lim each us u < b by omega)
      clear hk hq hu hxp hlt hf hfl a1 a4 a5 a6
      go_wp2_with fail
      refine (rsvI_full lim each A1 8 c1 us k u b _ (by first | with_reducible exact Q.out | with_reducible exact nr_alloc Q.out _ | with_reducible exact nr_alloc (nr_alloc Q.out _) _ | with_reducible exact nr_alloc (nr_alloc (nr_alloc Q.out _) _) _) HK.out HU.out HLT.out).mono ?_
      rintro e w2 ⟨A2, n2, c2, rfl, hn2, ho2, hb⟩
      obtain ⟨hc2, hf2⟩ := bcell hb
      have B2 := Lib.hid (show Below w.heap.size w w2 from (by first | exact below_seq B1.out hb | exact below_seq1 B1.out hb | exact below_seq2 B1.out hb | exact below_seq3 B1.out hb | exact below_seq4 B1.out hb))
      have R2 := Lib.hid hb
      have hz2 := hb.size
      try simp at hz2
      clear hb
      try have y20 : w.heap.size < w2.heap.size := by omega
      try have y20a : w.heap.size + 1 < w2.heap.size := by omega
      try have y20b : w.heap.size < w2.heap.size + 1 + 1 := by omega
      try have y20c : w.heap.size + 1 < w2.heap.size + 1 + 1 := by omega
      try have y21 : w1.heap.size < w2.heap.size := by omega
      try have y21a : w1.heap.size + 1 < w2.heap.size := by omega
      try have y21b : w1.heap.size < w2.heap.size + 1 + 1 := by omega
      try have y21c : w1.heap.size + 1 < w2.heap.size + 1 + 1 := by omega
      obtain rfl : n2 = 8 := hn2.trans HL.out
      have X := Lib.hid (nr_own ho2)
      clear ho2 hn2
      replace Q := Lib.hid (show NR w2 _ _ _ from (by first | with_reducible exact nr_below Q.out R2.out | with_reducible exact nr_below (nr_alloc Q.out _) R2.out | with_reducible exact nr_below (nr_alloc (nr_alloc Q.out _) _) R2.out | with_reducible exact nr_below (nr_alloc (nr_alloc (nr_alloc Q.out _) _) _) R2.out))
      go_wp2_with fail
      refine (rsvS_full lim each A1 8 c1 us k u b _ (by first | with_reducible exact Q.out | with_reducible exact nr_alloc Q.out _ | with_reducible exact nr_alloc (nr_alloc Q.out _) _ | with_reducible exact nr_alloc (nr_alloc (nr_alloc Q.out _) _) _) HK.out HU.out HLT.out).mono ?_
      rintro e w3 ⟨A3, n3, c3, rfl, hn3, ho3, hb⟩
      obtain ⟨hc3, hf3⟩ := bcell hb
      have B3 := Lib.hid (show Below w.heap.size w w3 from (by first | exact below_seq B2.out hb | exact below_seq1 B2.out hb | exact below_seq2 B2.out hb | exact below_seq3 B2.out hb | exact below_seq4 B2.out hb))
      have R3 := Lib.hid hb
      have hz3 := hb.size
      try simp at hz3
      clear hb
      try have y30 : w.heap.size < w3.heap.size := by omega
      try have y30a : w.heap.size + 1 < w3.heap.size := by omega
      try have y30b : w.heap.size < w3.heap.size + 1 + 1 := by omega
      try have y30c : w.heap.size + 1 < w3.heap.size + 1 + 1 := by omega
      try have y31 : w1.heap.size < w3.heap.size := by omega
      try have y31a : w1.heap.size + 1 < w3.heap.size := by omega
      try have y31b : w1.heap.size < w3.heap.size + 1 + 1 := by omega
      try have y31c : w1.heap.size + 1 < w3.heap.size + 1 + 1 := by omega
      try have y32 : w2.heap.size < w3.heap.size := by omega
      try have y32a : w2.heap.size + 1 < w3.heap.size := by omega
      try have y32b : w2.heap.size < w3.heap.size + 1 + 1 := by omega
      try have y32c : w2.heap.size + 1 < w3.heap.size + 1 + 1 := by omega
      obtain rfl : n3 = 8 := hn3.trans HL.out
      have Y := Lib.hid (nr_own ho3)
      replace X := Lib.hid (show NR w3 _ _ _ from (by first | with_reducible exact nr_below X.out R3.out | with_reducible exact nr_below (nr_alloc X.out _) R3.out | with_reducible exact nr_below (nr_alloc (nr_alloc X.out _) _) R3.out | with_reducible exact nr_below (nr_alloc (nr_alloc (nr_alloc X.out _) _) _) R3.out))
      replace Q := Lib.hid (show NR w3 _ _ _ from (by first | with_reducible exact nr_below Q.out R3.out | with_reducible exact nr_below (nr_alloc Q.out _) R3.out | with_reducible exact nr_below (nr_alloc (nr_alloc Q.out _) _) R3.out | with_reducible exact nr_below (nr_alloc (nr_alloc (nr_alloc Q.out _) _) _) R3.out))
      clear ho3 hn3
      go_wp2_with fail
      refine (asI_any lim each lim each A2 A3 8 c2 8 c3 us us _ (by first | with_reducible exact X.out | with_reducible exact nr_alloc X.out _ | with_reducible exact nr_alloc (nr_alloc X.out _) _ | with_reducible exact nr_alloc (nr_alloc (nr_alloc X.out _) _) _) (by first | with_reducible exact Y.out | with_reducible exact nr_alloc Y.out _ | with_reducible exact nr_alloc (nr_alloc Y.out _) _ | with_reducible exact nr_alloc (nr_alloc (nr_alloc Y.out _) _) _) (by omega) (by omega)).mono ?_
      rintro e w4 ⟨rfl, hb⟩
      obtain ⟨hc4, hf4⟩ := bcell hb
      have B4 := Lib.hid (show Below w.heap.size w w4 from (by first | exact below_seq B3.out hb | exact below_seq1 B3.out hb | exact below_seq2 B3.out hb | exact below_seq3 B3.out hb | exact below_seq4 B3.out hb))
      have R4 := Lib.hid hb
      have hz4 := hb.size
      try simp at hz4
      clear hb
      try have y40 : w.heap.size < w4.heap.size := by omega
      try have y40a : w.heap.size + 1 < w4.heap.size := by omega
      try have y40b : w.heap.size < w4.heap.size + 1 + 1 := by omega
      try have y40c : w.heap.size + 1 < w4.heap.size + 1 + 1 := by omega
      try have y41 : w1.heap.size < w4.heap.size := by omega
      try have y41a : w1.heap.size + 1 < w4.heap.size := by omega
      try have y41b : w1.heap.size < w4.heap.size + 1 + 1 := by omega
      try have y41c : w1.heap.size + 1 < w4.heap.size + 1 + 1 := by omega
      try have y42 : w2.heap.size < w4.heap.size := by omega
      try have y42a : w2.heap.size + 1 < w4.heap.size := by omega
      try have y42b : w2.heap.size < w4.heap.size + 1 + 1 := by omega
      try have y42c : w2.heap.size + 1 < w4.heap.size + 1 + 1 := by omega
      try have y43 : w3.heap.size < w4.heap.size := by omega
      try have y43a : w3.heap.size + 1 < w4.heap.size := by omega
      try have y43b : w3.heap.size < w4.heap.size + 1 + 1 := by omega
      try have y43c : w3.heap.size + 1 < w4.heap.size + 1 + 1 := by omega
      rw [as_refl]
      replace X := Lib.hid (show NR w4 _ _ _ from (by first | with_reducible exact nr_below X.out R4.out | with_reducible exact nr_below (nr_alloc X.out _) R4.out | with_reducible exact nr_below (nr_alloc (nr_alloc X.out _) _) R4.out | with_reducible exact nr_below (nr_alloc (nr_alloc (nr_alloc X.out _) _) _) R4.out))
      replace Y := Lib.hid (show NR w4 _ _ _ from (by first | with_reducible exact nr_below Y.out R4.out | with_reducible exact nr_below (nr_alloc Y.out _) R4.out | with_reducible exact nr_below (nr_alloc (nr_alloc Y.out _) _) R4.out | with_reducible exact nr_below (nr_alloc (nr_alloc (nr_alloc Y.out _) _) _) R4.out))
      replace Q := Lib.hid (show NR w4 _ _ _ from (by first | with_reducible exact nr_below Q.out R4.out | with_reducible exact nr_below (nr_alloc Q.out _) R4.out | with_reducible exact nr_below (nr_alloc (nr_alloc Q.out _) _) R4.out | with_reducible exact nr_below (nr_alloc (nr_alloc (nr_alloc Q.out _) _) _) R4.out))
      go_wp2_with fail
      refine (asI_any lim each lim each A2 A3 8 c2 8 c3 us us _ (by first | with_reducible exact X.out | with_reducible exact nr_alloc X.out _ | with_reducible exact nr_alloc (nr_alloc X.out _) _ | with_reducible exact nr_alloc (nr_alloc (nr_alloc X.out _) _) _) (by first | with_reducible exact Y.out | with_reducible exact nr_alloc Y.out _ | with_reducible exact nr_alloc (nr_alloc Y.out _) _ | with_reducible exact nr_alloc (nr_alloc (nr_alloc Y.out _) _) _) (by omega) (by omega)).mono ?_
      rintro e w5 ⟨rfl, hb⟩
      obtain ⟨hc5, hf5⟩ := bcell hb
      have B5 := Lib.hid (show Below w.heap.size w w5 from (by first | exact below_seq B4.out hb | exact below_seq1 B4.out hb | exact below_seq2 B4.out hb | exact below_seq3 B4.out hb | exact below_seq4 B4.out hb))
      have R5 := Lib.hid hb
      have hz5 := hb.size
      try simp at hz5
      clear hb
      try have y50 : w.heap.size < w5.heap.size := by omega
      try have y50a : w.heap.size + 1 < w5.heap.size := by omega
      try have y50b : w.heap.size < w5.heap.size + 1 + 1 := by omega
      try have y50c : w.heap.size + 1 < w5.heap.size + 1 + 1 := by omega
      try have y51 : w1.heap.size < w5.heap.size := by omega
      try have y51a : w1.heap.size + 1 < w5.heap.size := by omega
      try have y51b : w1.heap.size < w5.heap.size + 1 + 1 := by omega
      try have y51c : w1.heap.size + 1 < w5.heap.size + 1 + 1 := by omega
      try have y52 : w2.heap.size < w5.heap.size := by omega
      try have y52a : w2.heap.size + 1 < w5.heap.size := by omega
      try have y52b : w2.heap.size < w5.heap.size + 1 + 1 := by omega
      try have y52c : w2.heap.size + 1 < w5.heap.size + 1 + 1 := by omega
      try have y53 : w3.heap.size < w5.heap.size := by omega
      try have y53a : w3.heap.size + 1 < w5.heap.size := by omega
      try have y53b : w3.heap.size < w5.heap.size + 1 + 1 := by omega
      try have y53c : w3.heap.size + 1 < w5.heap.size + 1 + 1 := by omega
      try have y54 : w4.heap.size < w5.heap.size := by omega
      try have y54a : w4.heap.size + 1 < w5.heap.size := by omega
      try have y54b : w4.heap.size < w5.heap.size + 1 + 1 := by omega
      try have y54c : w4.heap.size + 1 < w5.heap.size + 1 + 1 := by omega
      rw [as_refl]
      go_wp2
      all_goals
        go_ret
        refine ⟨rfl, ?_⟩
        repeat refine below_alloc ?_ _
        exact B5.out
theorem own : ownKnob Try.prog.godebug = none := by kernel_rfl
theorem laidOut : laidOutB Try.prog = true := by kernel_rfl
set_option maxRecDepth 100000 in
theorem lifted (os : Os) (started : os.Started) (H : Type) (enc : TypeId × Value → H) :
    ReturnsInHanded {} Try.checked os 11 .any (Rows.fnReserveTwoSpec.pre6 enc Try.prog Try.f11 Rows.fnReserveTwoRow.domain false) (Rows.fnReserveTwoSpec.post enc Try.prog Try.f11 false true false false) := by
  refine returnsInHanded_of_change (C := Try.checked) own started (by kernel_rfl) Try.func11
    (ChangeSpec.witness6 (enc := enc) (C := Try.checked) false ⟨#[], #[.slice none 0 0], []⟩ 8 (by kernel_rfl) (by kernel_rfl) (by kernel_rfl) (by kernel_rfl)) ?_
  intro W base args ds gs before hval0 hW _ _
  have hval : ∀ (j : Nat) t v, Try.f11.params[j]? = some t → args[j]? = some v → Value.okWide Try.prog W .any base t v := hval0
  have hW' := hW
  obtain ⟨p, q, hA0, hV, rfl, _, _⟩ := hW
  have hA : DataW.TrodAll enc Try.prog W 0 (fun _ => true) true Try.f11.params.toList args.toList ds p := hA0
  rw [Try.params11] at hA hval
  obtain ⟨v0, vs0, d0, ds0, p0, q0, hargs, rfl, rfl, h0, r0⟩ := trodAll_cons hA
  obtain ⟨rfl, rfl, rfl⟩ := trodAll_nil r0
  obtain rfl : args = #[v0] := by cases args; simp_all
  obtain ⟨rfl, rfl⟩ := trodVars_none hV
  have lt0 : ∀ x ∈ p0, x.block < W.heap.size := by obtain ⟨m, hm⟩ := h0; exact DataW.trod_lt m _ _ _ hm
  obtain ⟨a0, n0, c0, rfl⟩ := okWide_slice Try.underlying22 (hval 0 22 v0 rfl rfl)
  have w0 : Bytes W a0 n0 c0 := bytes_open h0
  clear hA0 hval0
  refine (walk a0 n0 c0 W w0).mono fun e W' ⟨he, bel⟩ => ?_
  subst he
  exact ⟨_, rfl, _, _, _, [], _, [], hW', trodAll_mk1 (shut_bool Try.underlying4 _), (trodAll_cons_mk (Below.trod laidOut (by kernel_rfl) (of_decide_eq_true (by kernel_rfl)) h0 bel lt0) trodAll_mk0), rfl, bel.frame _, fun h => by cases h⟩
theorem over : Rows.fnReserveTwoRow.holds Try.pinned (OpenSpec.ofChange Rows.fnReserveTwoSpec) :=
  OpenClaim.holds_of_wide 11 Try.f11 rfl rfl rfl rfl rfl rfl rfl ⟨rfl, rfl, rfl, rfl, rfl⟩ rfl rfl rfl rfl rfl (by kernel_rfl) Try.func11 (by kernel_rfl)
    (of_decide_eq_true (by kernel_rfl)) (by unfold Func.isWrapper; first | (rw [if_pos (by decide +kernel)]; kernel_rfl) | (rw [if_neg (by decide +kernel)]; exact ⟨rfl, rfl⟩))
    (fun os started H enc _ => lifted os started H enc)
/-- the given statement -/
theorem proved : Rows.FnReserveTwoSaid := over
end Go.Proofs.Ytkbjelchihdajaa.fnReserveTwo
