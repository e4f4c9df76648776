/-
  The law FnReserveOther returns true at every argument: what one peer reserves takes no more than that from what others may use. Conditions: none.
-/
import Derived.Test.YtkbjelchihdajaaLift
import Derived.Test.YtkbjelchihdajaaAI
import Derived.Test.YtkbjelchihdajaaAl
namespace Go.Proofs.Ytkbjelchihdajaa.fnReserveOther
open Go.ChangeShapes Go.WideShapes Go.ChangeAt Go.RowKit

def RoRel (w : World) (A1 A2 : Option Addr) (us vs : List Int) (i : Value) (wr : World) : Prop :=
  ∃ p : Nat, p ≤ 8 ∧ i = .int .i64 (p : Int) ∧ NR wr A1 8 us ∧ NR wr A2 8 vs ∧ Below w.heap.size w wr
theorem ro_free {lim each u v b : Int} {us : List Int} {k p : Nat} (hu : us[k]? = some u) (hv : us[p]? = some v) (hb : 0 ≤ b) : ∃ v', (us.set k (u + b))[p]? = some v' ∧ (p ≠ k → v' = v) ∧ freeN lim each (us.set k (u + b)) v' ≤ freeN lim each us v ∧ freeN lim each us v - freeN lim each (us.set k (u + b)) v' ≤ b := by
  by_cases h : p = k
  · subst h
    rw [hu] at hv
    obtain rfl := Option.some.inj hv
    refine ⟨u + b, get_set hu _, fun h => absurd rfl h, ?_⟩
    rw [free_less hu]
    omega
  · refine ⟨v, by rw [List.getElem?_set_ne (fun h2 => h h2.symm)]; exact hv, fun _ => rfl, ?_⟩
    rw [freeN, freeN, sumL_set hu]
    split <;> split <;> omega
set_option maxHeartbeats 2000000 in
theorem walk (A : Option Addr) (n c : Nat) (w : World) (h : Bytes w A n c) :
    Calls Try.prog 12 #[.slice A n c] w fun e w' => e = .returned (.bool true) ∧ Below w.heap.size w w' := by
  have HB := Lib.hid h
  clear h
  by_cases hbig : ¬ n ≤ 1048576
  · go_enter Try.func12, Try.ntmps12
    go_wp2
    go_ret
    exact ⟨rfl, Below.refl _ _⟩
  have hbig' : n ≤ 1048576 := by omega
  clear hbig
  go_enter Try.func12, Try.ntmps12
  go_wp2_with fail
  refine (drawReserve_any A n c _ HB.out).mono ?_
  rintro e w1 ⟨lim, each, A1, n1, c1, us, x, b, rfl, hn1, hx, hbb, ho, hb⟩
  obtain ⟨hc1, hf1⟩ := bcell hb
  have B1 := Lib.hid (show Below w.heap.size w w1 from (by first | exact below_seq (Below.refl w.heap.size w) hb | exact below_seq1 (Below.refl w.heap.size w) hb | exact below_seq2 (Below.refl w.heap.size w) hb | exact below_seq3 (Below.refl w.heap.size w) hb | exact below_seq4 (Below.refl w.heap.size w) hb))
  have R1 := Lib.hid hb
  have hz1 := hb.size
  try simp at hz1
  clear hb
  have Q := Lib.hid (nr_own ho)
  clear ho hx
  rcases hk : rsOk lim each us x b with _ | _
  · have HK := Lib.hid hk
    clear hk
    go_wp2_with fail
    refine (rsvI_no lim each A1 n1 c1 us x b _ (by first | with_reducible exact Q.out | with_reducible exact nr_alloc Q.out _ | with_reducible exact nr_alloc (nr_alloc Q.out _) _ | with_reducible exact nr_alloc (nr_alloc (nr_alloc Q.out _) _) _) (by omega) HK.out).mono ?_
    rintro e w2 ⟨A2, n2, c2, rfl, hn2, ho2, hb⟩
    obtain ⟨hc2, hf2⟩ := bcell hb
    have B2 := Lib.hid (show Below w.heap.size w w2 from (by first | exact below_seq B1.out hb | exact below_seq1 B1.out hb | exact below_seq2 B1.out hb | exact below_seq3 B1.out hb | exact below_seq4 B1.out hb))
    have R2 := Lib.hid hb
    have hz2 := hb.size
    try simp at hz2
    clear hb
    try have y20 : w.heap.size < w2.heap.size := by omega
    try have y20a : w.heap.size + 1 < w2.heap.size := by omega
    try have y20b : w.heap.size < w2.heap.size + 1 + 1 := by omega
    try have y20c : w.heap.size + 1 < w2.heap.size + 1 + 1 := by omega
    try have y21 : w1.heap.size < w2.heap.size := by omega
    try have y21a : w1.heap.size + 1 < w2.heap.size := by omega
    try have y21b : w1.heap.size < w2.heap.size + 1 + 1 := by omega
    try have y21c : w1.heap.size + 1 < w2.heap.size + 1 + 1 := by omega
    obtain rfl : n2 = 0 := hn2
    have X := Lib.hid (nr_own ho2)
    clear ho2
    replace Q := Lib.hid (show NR w2 _ _ _ from (by first | with_reducible exact nr_below Q.out R2.out | with_reducible exact nr_below (nr_alloc Q.out _) R2.out | with_reducible exact nr_below (nr_alloc (nr_alloc Q.out _) _) R2.out | with_reducible exact nr_below (nr_alloc (nr_alloc (nr_alloc Q.out _) _) _) R2.out))
    go_wp2_with fail
    refine (rsvS_no lim each A1 n1 c1 us x b _ (by first | with_reducible exact Q.out | with_reducible exact nr_alloc Q.out _ | with_reducible exact nr_alloc (nr_alloc Q.out _) _ | with_reducible exact nr_alloc (nr_alloc (nr_alloc Q.out _) _) _) (by omega) HK.out).mono ?_
    rintro e w3 ⟨A3, n3, c3, rfl, hn3, ho3, hb⟩
    obtain ⟨hc3, hf3⟩ := bcell hb
    have B3 := Lib.hid (show Below w.heap.size w w3 from (by first | exact below_seq B2.out hb | exact below_seq1 B2.out hb | exact below_seq2 B2.out hb | exact below_seq3 B2.out hb | exact below_seq4 B2.out hb))
    have R3 := Lib.hid hb
    have hz3 := hb.size
    try simp at hz3
    clear hb
    try have y30 : w.heap.size < w3.heap.size := by omega
    try have y30a : w.heap.size + 1 < w3.heap.size := by omega
    try have y30b : w.heap.size < w3.heap.size + 1 + 1 := by omega
    try have y30c : w.heap.size + 1 < w3.heap.size + 1 + 1 := by omega
    try have y31 : w1.heap.size < w3.heap.size := by omega
    try have y31a : w1.heap.size + 1 < w3.heap.size := by omega
    try have y31b : w1.heap.size < w3.heap.size + 1 + 1 := by omega
    try have y31c : w1.heap.size + 1 < w3.heap.size + 1 + 1 := by omega
    try have y32 : w2.heap.size < w3.heap.size := by omega
    try have y32a : w2.heap.size + 1 < w3.heap.size := by omega
    try have y32b : w2.heap.size < w3.heap.size + 1 + 1 := by omega
    try have y32c : w2.heap.size + 1 < w3.heap.size + 1 + 1 := by omega
    obtain rfl : n3 = 0 := hn3
    have Y := Lib.hid (nr_own ho3)
    replace X := Lib.hid (show NR w3 _ _ _ from (by first | with_reducible exact nr_below X.out R3.out | with_reducible exact nr_below (nr_alloc X.out _) R3.out | with_reducible exact nr_below (nr_alloc (nr_alloc X.out _) _) R3.out | with_reducible exact nr_below (nr_alloc (nr_alloc (nr_alloc X.out _) _) _) R3.out))
    clear ho3
    go_wp2_with fail
    refine (asI_any 0 0 0 0 A2 A3 0 c2 0 c3 [] [] _ (by first | with_reducible exact X.out | with_reducible exact nr_alloc X.out _ | with_reducible exact nr_alloc (nr_alloc X.out _) _ | with_reducible exact nr_alloc (nr_alloc (nr_alloc X.out _) _) _) (by first | with_reducible exact Y.out | with_reducible exact nr_alloc Y.out _ | with_reducible exact nr_alloc (nr_alloc Y.out _) _ | with_reducible exact nr_alloc (nr_alloc (nr_alloc Y.out _) _) _) (by omega) (by omega)).mono ?_
    rintro e w4 ⟨rfl, hb⟩
    obtain ⟨hc4, hf4⟩ := bcell hb
    have B4 := Lib.hid (show Below w.heap.size w w4 from (by first | exact below_seq B3.out hb | exact below_seq1 B3.out hb | exact below_seq2 B3.out hb | exact below_seq3 B3.out hb | exact below_seq4 B3.out hb))
    have R4 := Lib.hid hb
    have hz4 := hb.size
    try simp at hz4
    clear hb
    try have y40 : w.heap.size < w4.heap.size := by omega
    try have y40a : w.heap.size + 1 < w4.heap.size := by omega
    try have y40b : w.heap.size < w4.heap.size + 1 + 1 := by omega
    try have y40c : w.heap.size + 1 < w4.heap.size + 1 + 1 := by omega
    try have y41 : w1.heap.size < w4.heap.size := by omega
    try have y41a : w1.heap.size + 1 < w4.heap.size := by omega
    try have y41b : w1.heap.size < w4.heap.size + 1 + 1 := by omega
    try have y41c : w1.heap.size + 1 < w4.heap.size + 1 + 1 := by omega
    try have y42 : w2.heap.size < w4.heap.size := by omega
    try have y42a : w2.heap.size + 1 < w4.heap.size := by omega
    try have y42b : w2.heap.size < w4.heap.size + 1 + 1 := by omega
    try have y42c : w2.heap.size + 1 < w4.heap.size + 1 + 1 := by omega
    try have y43 : w3.heap.size < w4.heap.size := by omega
    try have y43a : w3.heap.size + 1 < w4.heap.size := by omega
    try have y43b : w3.heap.size < w4.heap.size + 1 + 1 := by omega
    try have y43c : w3.heap.size + 1 < w4.heap.size + 1 + 1 := by omega
    rw [as_refl]
    replace X := Lib.hid (show NR w4 _ _ _ from (by first | with_reducible exact nr_below X.out R4.out | with_reducible exact nr_below (nr_alloc X.out _) R4.out | with_reducible exact nr_below (nr_alloc (nr_alloc X.out _) _) R4.out | with_reducible exact nr_below (nr_alloc (nr_alloc (nr_alloc X.out _) _) _) R4.out))
    replace Y := Lib.hid (show NR w4 _ _ _ from (by first | with_reducible exact nr_below Y.out R4.out | with_reducible exact nr_below (nr_alloc Y.out _) R4.out | with_reducible exact nr_below (nr_alloc (nr_alloc Y.out _) _) R4.out | with_reducible exact nr_below (nr_alloc (nr_alloc (nr_alloc Y.out _) _) _) R4.out))
    go_wp2_with fail
    refine (asI_any 0 0 0 0 A2 A3 0 c2 0 c3 [] [] _ (by first | with_reducible exact X.out | with_reducible exact nr_alloc X.out _ | with_reducible exact nr_alloc (nr_alloc X.out _) _ | with_reducible exact nr_alloc (nr_alloc (nr_alloc X.out _) _) _) (by first | with_reducible exact Y.out | with_reducible exact nr_alloc Y.out _ | with_reducible exact nr_alloc (nr_alloc Y.out _) _ | with_reducible exact nr_alloc (nr_alloc (nr_alloc Y.out _) _) _) (by omega) (by omega)).mono ?_
    rintro e w5 ⟨rfl, hb⟩
    obtain ⟨hc5, hf5⟩ := bcell hb
    have B5 := Lib.hid (show Below w.heap.size w w5 from (by first | exact below_seq B4.out hb | exact below_seq1 B4.out hb | exact below_seq2 B4.out hb | exact below_seq3 B4.out hb | exact below_seq4 B4.out hb))
    have R5 := Lib.hid hb
    have hz5 := hb.size
    try simp at hz5
    clear hb
    try have y50 : w.heap.size < w5.heap.size := by omega
    try have y50a : w.heap.size + 1 < w5.heap.size := by omega
    try have y50b : w.heap.size < w5.heap.size + 1 + 1 := by omega
    try have y50c : w.heap.size + 1 < w5.heap.size + 1 + 1 := by omega
    try have y51 : w1.heap.size < w5.heap.size := by omega
    try have y51a : w1.heap.size + 1 < w5.heap.size := by omega
    try have y51b : w1.heap.size < w5.heap.size + 1 + 1 := by omega
    try have y51c : w1.heap.size + 1 < w5.heap.size + 1 + 1 := by omega
    try have y52 : w2.heap.size < w5.heap.size := by omega
    try have y52a : w2.heap.size + 1 < w5.heap.size := by omega
    try have y52b : w2.heap.size < w5.heap.size + 1 + 1 := by omega
    try have y52c : w2.heap.size + 1 < w5.heap.size + 1 + 1 := by omega
    try have y53 : w3.heap.size < w5.heap.size := by omega
    try have y53a : w3.heap.size + 1 < w5.heap.size := by omega
    try have y53b : w3.heap.size < w5.heap.size + 1 + 1 := by omega
    try have y53c : w3.heap.size + 1 < w5.heap.size + 1 + 1 := by omega
    try have y54 : w4.heap.size < w5.heap.size := by omega
    try have y54a : w4.heap.size + 1 < w5.heap.size := by omega
    try have y54b : w4.heap.size < w5.heap.size + 1 + 1 := by omega
    try have y54c : w4.heap.size + 1 < w5.heap.size + 1 + 1 := by omega
    rw [as_refl]
    go_wp2
    all_goals
      go_ret
      refine ⟨rfl, ?_⟩
      repeat refine below_alloc ?_ _
      exact B5.out
  · obtain ⟨hq, hxp, hb0⟩ := rsOk_of hk
    obtain ⟨k, rfl, hk8⟩ := k_of hxp
    obtain ⟨u, hu⟩ := ac_at hq hk8
    obtain ⟨a1, a2, a3, a4, a5, a6⟩ := ac_of hq
    obtain ⟨u0, u1, u2⟩ := ac_get hq hu
    have hfl := free_le (lim := lim) (each := each) (u := u) (us := us)
    have n8 : n1 = 8 := by have := Q.out.1; omega
    subst n8
    have HK := Lib.hid hk
    have HQ := Lib.hid hq
    have HU := Lib.hid hu
    have HP := Lib.hid hxp
    have HL := Lib.hid a4
    obtain ⟨f, hf⟩ : ∃ f, freeN lim each us u = f := ⟨_, rfl⟩
    by_cases hlt : b ≤ freeN lim each us u
    · have hbf : b ≤ f := by omega
      have HLT := Lib.hid hlt
      obtain ⟨vs, hvs⟩ : ∃ vs, vs = us.set k (u + b) := ⟨_, rfl⟩
      have HA2 : Hid (acB lim each vs = true) := Lib.hid (by rw [hvs]; exact ac_set hq hu (y := u + b) (by omega) (by omega) (by omega))
      have HL2 : Hid (vs.length = 8) := Lib.hid (by rw [hvs, List.length_set]; exact a4)
      have HV := Lib.hid hvs
      clear hk hq hu hxp hlt hf hfl a1 a4 a5 a6 hvs
      go_wp2_with fail
      refine (rsvI_in lim each A1 8 c1 us k u b _ (by first | with_reducible exact Q.out | with_reducible exact nr_alloc Q.out _ | with_reducible exact nr_alloc (nr_alloc Q.out _) _ | with_reducible exact nr_alloc (nr_alloc (nr_alloc Q.out _) _) _) HK.out HU.out HLT.out).mono ?_
      rintro e w2 ⟨A2, n2, c2, rfl, hn2, ho2, hb⟩
      obtain ⟨hc2, hf2⟩ := bcell hb
      have B2 := Lib.hid (show Below w.heap.size w w2 from (by first | exact below_seq B1.out hb | exact below_seq1 B1.out hb | exact below_seq2 B1.out hb | exact below_seq3 B1.out hb | exact below_seq4 B1.out hb))
      have R2 := Lib.hid hb
      have hz2 := hb.size
      try simp at hz2
      clear hb
      try have y20 : w.heap.size < w2.heap.size := by omega
      try have y20a : w.heap.size + 1 < w2.heap.size := by omega
      try have y20b : w.heap.size < w2.heap.size + 1 + 1 := by omega
      try have y20c : w.heap.size + 1 < w2.heap.size + 1 + 1 := by omega
      try have y21 : w1.heap.size < w2.heap.size := by omega
      try have y21a : w1.heap.size + 1 < w2.heap.size := by omega
      try have y21b : w1.heap.size < w2.heap.size + 1 + 1 := by omega
      try have y21c : w1.heap.size + 1 < w2.heap.size + 1 + 1 := by omega
      rw [← HV.out] at ho2 hn2
      obtain rfl : n2 = 8 := hn2.trans HL2.out
      have X := Lib.hid (nr_own ho2)
      clear ho2 hn2
      replace Q := Lib.hid (show NR w2 _ _ _ from (by first | with_reducible exact nr_below Q.out R2.out | with_reducible exact nr_below (nr_alloc Q.out _) R2.out | with_reducible exact nr_below (nr_alloc (nr_alloc Q.out _) _) R2.out | with_reducible exact nr_below (nr_alloc (nr_alloc (nr_alloc Q.out _) _) _) R2.out))
      go_wp2_with fail
      refine (rsvS_in lim each A1 8 c1 us k u b _ (by first | with_reducible exact Q.out | with_reducible exact nr_alloc Q.out _ | with_reducible exact nr_alloc (nr_alloc Q.out _) _ | with_reducible exact nr_alloc (nr_alloc (nr_alloc Q.out _) _) _) HK.out HU.out HLT.out).mono ?_
      rintro e w3 ⟨A3, n3, c3, rfl, hn3, ho3, hb⟩
      obtain ⟨hc3, hf3⟩ := bcell hb
      have B3 := Lib.hid (show Below w.heap.size w w3 from (by first | exact below_seq B2.out hb | exact below_seq1 B2.out hb | exact below_seq2 B2.out hb | exact below_seq3 B2.out hb | exact below_seq4 B2.out hb))
      have R3 := Lib.hid hb
      have hz3 := hb.size
      try simp at hz3
      clear hb
      try have y30 : w.heap.size < w3.heap.size := by omega
      try have y30a : w.heap.size + 1 < w3.heap.size := by omega
      try have y30b : w.heap.size < w3.heap.size + 1 + 1 := by omega
      try have y30c : w.heap.size + 1 < w3.heap.size + 1 + 1 := by omega
      try have y31 : w1.heap.size < w3.heap.size := by omega
      try have y31a : w1.heap.size + 1 < w3.heap.size := by omega
      try have y31b : w1.heap.size < w3.heap.size + 1 + 1 := by omega
      try have y31c : w1.heap.size + 1 < w3.heap.size + 1 + 1 := by omega
      try have y32 : w2.heap.size < w3.heap.size := by omega
      try have y32a : w2.heap.size + 1 < w3.heap.size := by omega
      try have y32b : w2.heap.size < w3.heap.size + 1 + 1 := by omega
      try have y32c : w2.heap.size + 1 < w3.heap.size + 1 + 1 := by omega
      rw [← HV.out] at ho3 hn3
      obtain rfl : n3 = 8 := hn3.trans HL2.out
      have Y := Lib.hid (nr_own ho3)
      replace X := Lib.hid (show NR w3 _ _ _ from (by first | with_reducible exact nr_below X.out R3.out | with_reducible exact nr_below (nr_alloc X.out _) R3.out | with_reducible exact nr_below (nr_alloc (nr_alloc X.out _) _) R3.out | with_reducible exact nr_below (nr_alloc (nr_alloc (nr_alloc X.out _) _) _) R3.out))
      replace Q := Lib.hid (show NR w3 _ _ _ from (by first | with_reducible exact nr_below Q.out R3.out | with_reducible exact nr_below (nr_alloc Q.out _) R3.out | with_reducible exact nr_below (nr_alloc (nr_alloc Q.out _) _) R3.out | with_reducible exact nr_below (nr_alloc (nr_alloc (nr_alloc Q.out _) _) _) R3.out))
      clear ho3 hn3
      go_wp2_with fail
      refine (asI_any lim each lim each A2 A3 8 c2 8 c3 _ _ _ (by first | with_reducible exact X.out | with_reducible exact nr_alloc X.out _ | with_reducible exact nr_alloc (nr_alloc X.out _) _ | with_reducible exact nr_alloc (nr_alloc (nr_alloc X.out _) _) _) (by first | with_reducible exact Y.out | with_reducible exact nr_alloc Y.out _ | with_reducible exact nr_alloc (nr_alloc Y.out _) _ | with_reducible exact nr_alloc (nr_alloc (nr_alloc Y.out _) _) _) (by omega) (by omega)).mono ?_
      rintro e w4 ⟨rfl, hb⟩
      obtain ⟨hc4, hf4⟩ := bcell hb
      have B4 := Lib.hid (show Below w.heap.size w w4 from (by first | exact below_seq B3.out hb | exact below_seq1 B3.out hb | exact below_seq2 B3.out hb | exact below_seq3 B3.out hb | exact below_seq4 B3.out hb))
      have R4 := Lib.hid hb
      have hz4 := hb.size
      try simp at hz4
      clear hb
      try have y40 : w.heap.size < w4.heap.size := by omega
      try have y40a : w.heap.size + 1 < w4.heap.size := by omega
      try have y40b : w.heap.size < w4.heap.size + 1 + 1 := by omega
      try have y40c : w.heap.size + 1 < w4.heap.size + 1 + 1 := by omega
      try have y41 : w1.heap.size < w4.heap.size := by omega
      try have y41a : w1.heap.size + 1 < w4.heap.size := by omega
      try have y41b : w1.heap.size < w4.heap.size + 1 + 1 := by omega
      try have y41c : w1.heap.size + 1 < w4.heap.size + 1 + 1 := by omega
      try have y42 : w2.heap.size < w4.heap.size := by omega
      try have y42a : w2.heap.size + 1 < w4.heap.size := by omega
      try have y42b : w2.heap.size < w4.heap.size + 1 + 1 := by omega
      try have y42c : w2.heap.size + 1 < w4.heap.size + 1 + 1 := by omega
      try have y43 : w3.heap.size < w4.heap.size := by omega
      try have y43a : w3.heap.size + 1 < w4.heap.size := by omega
      try have y43b : w3.heap.size < w4.heap.size + 1 + 1 := by omega
      try have y43c : w3.heap.size + 1 < w4.heap.size + 1 + 1 := by omega
      rw [as_refl]
      replace X := Lib.hid (show NR w4 _ _ _ from (by first | with_reducible exact nr_below X.out R4.out | with_reducible exact nr_below (nr_alloc X.out _) R4.out | with_reducible exact nr_below (nr_alloc (nr_alloc X.out _) _) R4.out | with_reducible exact nr_below (nr_alloc (nr_alloc (nr_alloc X.out _) _) _) R4.out))
      replace Q := Lib.hid (show NR w4 _ _ _ from (by first | with_reducible exact nr_below Q.out R4.out | with_reducible exact nr_below (nr_alloc Q.out _) R4.out | with_reducible exact nr_below (nr_alloc (nr_alloc Q.out _) _) R4.out | with_reducible exact nr_below (nr_alloc (nr_alloc (nr_alloc Q.out _) _) _) R4.out))
      have y41' : w1.heap.size < w4.heap.size := by omega
      have y42' : w2.heap.size < w4.heap.size := by omega
      go_wp2_with fail
      go_loopw [12] (fun i wr => RoRel w4 A1 A2 us vs i wr) (fun i _ => 8 - (intOf i).toNat)
      case atStart => exact ⟨0, by omega, rfl, Q.out, X.out, Below.refl _ _⟩
      case round =>
        obtain ⟨p, hp8, rfl, hp, hx, hbl⟩ := hrel
        have HPQ := Lib.hid hp
        have HPX := Lib.hid hx
        have HBl := Lib.hid hbl
        obtain ⟨hcr, hfr⟩ := bcell hbl
        have hzr := hbl.size
        clear hp hx hbl
        by_cases hlt : p < 8
        · obtain ⟨v, hv⟩ := ac_at HQ.out hlt
          obtain ⟨v', hv', h1, h2, h3⟩ := ro_free (lim := lim) (each := each) HU.out hv hb0
          rw [← HV.out] at hv' h2 h3
          have hg0 := free_nonneg HQ.out hv
          have hg1 := free_nonneg HA2.out hv'
          have hg2 := (free_le (lim := lim) (each := each) (u := v) (us := us)).1
          obtain ⟨v0, v1, -⟩ := ac_get HQ.out hv
          have HPR : Hid (prB (p : Int) = true) := Lib.hid (by simp [prB]; omega)
          obtain ⟨g, hg⟩ : ∃ g, freeN lim each us v = g := ⟨_, rfl⟩
          obtain ⟨g', hg'⟩ : ∃ g', freeN lim each vs v' = g' := ⟨_, rfl⟩
          rw [hg, hg'] at h3
          rw [hg, hg'] at h2
          rw [hg] at hg0 hg2
          rw [hg'] at hg1
          have HV1 := Lib.hid hv
          have HV2 := Lib.hid hv'
          have HG := Lib.hid hg
          have HG' := Lib.hid hg'
          have HH := Lib.hid h1
          clear hv hv' hg hg' h1
          go_wp2_with fail
          refine (freeI_yes lim each A1 8 c1 us p v _ HPQ.out HQ.out HPR.out HV1.out).mono ?_
          rintro e w5 ⟨rfl, hb5⟩
          rw [HG.out]
          have HPX5 := Lib.hid (nr_below HPX.out hb5)
          have HPQ5 := Lib.hid (nr_below HPQ.out hb5)
          have HB5 := Lib.hid (below_seq HBl.out hb5)
          obtain ⟨hc5, hf5⟩ := bcell hb5
          have hz5 := hb5.size
          have y51' : w1.heap.size < wr.heap.size := by omega
          have y52' : w2.heap.size < wr.heap.size := by omega
          clear hb5
          go_wp2_with fail
          refine (freeI_yes lim each A2 8 c2 vs p v' _ HPX5.out HA2.out HPR.out HV2.out).mono ?_
          rintro e w6 ⟨rfl, hb6⟩
          rw [HG'.out]
          have HPX6 := Lib.hid (nr_below HPX5.out hb6)
          have HPQ6 := Lib.hid (nr_below HPQ5.out hb6)
          have HB6 := Lib.hid (below_seq HB5.out hb6)
          obtain ⟨hc6, hf6⟩ := bcell hb6
          have hz6 := hb6.size
          have y61' : w1.heap.size < w5.heap.size := by omega
          have y62' : w2.heap.size < w5.heap.size := by omega
          clear hb6
          have d1 : decide (g < g') = false := by simp; omega
          have d2 : decide (b < g - g') = false := by simp; omega
          obtain ⟨b1, o1, e1, c01, -⟩ := nr_at' HPQ6.out HV1.out
          obtain ⟨b2, o2, e2, c02, -⟩ := nr_at' HPX6.out HV2.out
          subst e1 e2
          by_cases hpk : p = k
          · have d3 : ((p : Int) != (k : Int)) = false := by simp [hpk]
            clear hpk
            go_wp2_with fail
            go_quiet (fail)
            go_wp2
            go_roundw
            case rel => exact ⟨p + 1, by omega, by go_num, nr_drewN HPQ6.out _, nr_drewN HPX6.out _, below_drewN HB6.out _⟩
            case measure => simp [intOf]; omega
          · have d3 : ((p : Int) != (k : Int)) = true := by simp; omega
            have d4 : (v' != v) = false := by simp [HH.out hpk]
            clear hpk
            go_wp2_with fail
            go_quiet (fail)
            go_wp2
            go_roundw
            case rel => exact ⟨p + 1, by omega, by go_num, nr_drewN HPQ6.out _, nr_drewN HPX6.out _, below_drewN HB6.out _⟩
            case measure => simp [intOf]; omega
        · obtain rfl : p = 8 := by omega
          have HBB := Lib.hid (below_seq B4.out HBl.out)
          clear hcr hfr
          go_wp2
          go_ret
          exact ⟨ret_bool (by simp), HBB.out⟩
    · have hbf : f < b := by omega
      have HLT := Lib.hid (show freeN lim each us u < b by omega)
      have HF := Lib.hid hf
      clear hk hq hu hxp hlt hf hfl a1 a4 a5 a6
      go_wp2_with fail
      refine (rsvI_full lim each A1 8 c1 us k u b _ (by first | with_reducible exact Q.out | with_reducible exact nr_alloc Q.out _ | with_reducible exact nr_alloc (nr_alloc Q.out _) _ | with_reducible exact nr_alloc (nr_alloc (nr_alloc Q.out _) _) _) HK.out HU.out HLT.out).mono ?_
      rintro e w2 ⟨A2, n2, c2, rfl, hn2, ho2, hb⟩
      obtain ⟨hc2, hf2⟩ := bcell hb
      have B2 := Lib.hid (show Below w.heap.size w w2 from (by first | exact below_seq B1.out hb | exact below_seq1 B1.out hb | exact below_seq2 B1.out hb | exact below_seq3 B1.out hb | exact below_seq4 B1.out hb))
      have R2 := Lib.hid hb
      have hz2 := hb.size
      try simp at hz2
      clear hb
      try have y20 : w.heap.size < w2.heap.size := by omega
      try have y20a : w.heap.size + 1 < w2.heap.size := by omega
      try have y20b : w.heap.size < w2.heap.size + 1 + 1 := by omega
      try have y20c : w.heap.size + 1 < w2.heap.size + 1 + 1 := by omega
      try have y21 : w1.heap.size < w2.heap.size := by omega
      try have y21a : w1.heap.size + 1 < w2.heap.size := by omega
      try have y21b : w1.heap.size < w2.heap.size + 1 + 1 := by omega
      try have y21c : w1.heap.size + 1 < w2.heap.size + 1 + 1 := by omega
      obtain rfl : n2 = 8 := hn2.trans HL.out
      have X := Lib.hid (nr_own ho2)
      clear ho2 hn2
      replace Q := Lib.hid (show NR w2 _ _ _ from (by first | with_reducible exact nr_below Q.out R2.out | with_reducible exact nr_below (nr_alloc Q.out _) R2.out | with_reducible exact nr_below (nr_alloc (nr_alloc Q.out _) _) R2.out | with_reducible exact nr_below (nr_alloc (nr_alloc (nr_alloc Q.out _) _) _) R2.out))
      go_wp2_with fail
      refine (rsvS_full lim each A1 8 c1 us k u b _ (by first | with_reducible exact Q.out | with_reducible exact nr_alloc Q.out _ | with_reducible exact nr_alloc (nr_alloc Q.out _) _ | with_reducible exact nr_alloc (nr_alloc (nr_alloc Q.out _) _) _) HK.out HU.out HLT.out).mono ?_
      rintro e w3 ⟨A3, n3, c3, rfl, hn3, ho3, hb⟩
      obtain ⟨hc3, hf3⟩ := bcell hb
      have B3 := Lib.hid (show Below w.heap.size w w3 from (by first | exact below_seq B2.out hb | exact below_seq1 B2.out hb | exact below_seq2 B2.out hb | exact below_seq3 B2.out hb | exact below_seq4 B2.out hb))
      have R3 := Lib.hid hb
      have hz3 := hb.size
      try simp at hz3
      clear hb
      try have y30 : w.heap.size < w3.heap.size := by omega
      try have y30a : w.heap.size + 1 < w3.heap.size := by omega
      try have y30b : w.heap.size < w3.heap.size + 1 + 1 := by omega
      try have y30c : w.heap.size + 1 < w3.heap.size + 1 + 1 := by omega
      try have y31 : w1.heap.size < w3.heap.size := by omega
      try have y31a : w1.heap.size + 1 < w3.heap.size := by omega
      try have y31b : w1.heap.size < w3.heap.size + 1 + 1 := by omega
      try have y31c : w1.heap.size + 1 < w3.heap.size + 1 + 1 := by omega
      try have y32 : w2.heap.size < w3.heap.size := by omega
      try have y32a : w2.heap.size + 1 < w3.heap.size := by omega
      try have y32b : w2.heap.size < w3.heap.size + 1 + 1 := by omega
      try have y32c : w2.heap.size + 1 < w3.heap.size + 1 + 1 := by omega
      obtain rfl : n3 = 8 := hn3.trans HL.out
      have Y := Lib.hid (nr_own ho3)
      replace X := Lib.hid (show NR w3 _ _ _ from (by first | with_reducible exact nr_below X.out R3.out | with_reducible exact nr_below (nr_alloc X.out _) R3.out | with_reducible exact nr_below (nr_alloc (nr_alloc X.out _) _) R3.out | with_reducible exact nr_below (nr_alloc (nr_alloc (nr_alloc X.out _) _) _) R3.out))
      replace Q := Lib.hid (show NR w3 _ _ _ from (by first | with_reducible exact nr_below Q.out R3.out | with_reducible exact nr_below (nr_alloc Q.out _) R3.out | with_reducible exact nr_below (nr_alloc (nr_alloc Q.out _) _) R3.out | with_reducible exact nr_below (nr_alloc (nr_alloc (nr_alloc Q.out _) _) _) R3.out))
      clear ho3 hn3
      go_wp2_with fail
      refine (asI_any lim each lim each A2 A3 8 c2 8 c3 us us _ (by first | with_reducible exact X.out | with_reducible exact nr_alloc X.out _ | with_reducible exact nr_alloc (nr_alloc X.out _) _ | with_reducible exact nr_alloc (nr_alloc (nr_alloc X.out _) _) _) (by first | with_reducible exact Y.out | with_reducible exact nr_alloc Y.out _ | with_reducible exact nr_alloc (nr_alloc Y.out _) _ | with_reducible exact nr_alloc (nr_alloc (nr_alloc Y.out _) _) _) (by omega) (by omega)).mono ?_
      rintro e w4 ⟨rfl, hb⟩
      obtain ⟨hc4, hf4⟩ := bcell hb
      have B4 := Lib.hid (show Below w.heap.size w w4 from (by first | exact below_seq B3.out hb | exact below_seq1 B3.out hb | exact below_seq2 B3.out hb | exact below_seq3 B3.out hb | exact below_seq4 B3.out hb))
      have R4 := Lib.hid hb
      have hz4 := hb.size
      try simp at hz4
      clear hb
      try have y40 : w.heap.size < w4.heap.size := by omega
      try have y40a : w.heap.size + 1 < w4.heap.size := by omega
      try have y40b : w.heap.size < w4.heap.size + 1 + 1 := by omega
      try have y40c : w.heap.size + 1 < w4.heap.size + 1 + 1 := by omega
      try have y41 : w1.heap.size < w4.heap.size := by omega
      try have y41a : w1.heap.size + 1 < w4.heap.size := by omega
      try have y41b : w1.heap.size < w4.heap.size + 1 + 1 := by omega
      try have y41c : w1.heap.size + 1 < w4.heap.size + 1 + 1 := by omega
      try have y42 : w2.heap.size < w4.heap.size := by omega
      try have y42a : w2.heap.size + 1 < w4.heap.size := by omega
      try have y42b : w2.heap.size < w4.heap.size + 1 + 1 := by omega
      try have y42c : w2.heap.size + 1 < w4.heap.size + 1 + 1 := by omega
      try have y43 : w3.heap.size < w4.heap.size := by omega
      try have y43a : w3.heap.size + 1 < w4.heap.size := by omega
      try have y43b : w3.heap.size < w4.heap.size + 1 + 1 := by omega
      try have y43c : w3.heap.size + 1 < w4.heap.size + 1 + 1 := by omega
      rw [as_refl]
      replace X := Lib.hid (show NR w4 _ _ _ from (by first | with_reducible exact nr_below X.out R4.out | with_reducible exact nr_below (nr_alloc X.out _) R4.out | with_reducible exact nr_below (nr_alloc (nr_alloc X.out _) _) R4.out | with_reducible exact nr_below (nr_alloc (nr_alloc (nr_alloc X.out _) _) _) R4.out))
      replace Y := Lib.hid (show NR w4 _ _ _ from (by first | with_reducible exact nr_below Y.out R4.out | with_reducible exact nr_below (nr_alloc Y.out _) R4.out | with_reducible exact nr_below (nr_alloc (nr_alloc Y.out _) _) R4.out | with_reducible exact nr_below (nr_alloc (nr_alloc (nr_alloc Y.out _) _) _) R4.out))
      go_wp2_with fail
      refine (asI_any lim each lim each A2 A3 8 c2 8 c3 us us _ (by first | with_reducible exact X.out | with_reducible exact nr_alloc X.out _ | with_reducible exact nr_alloc (nr_alloc X.out _) _ | with_reducible exact nr_alloc (nr_alloc (nr_alloc X.out _) _) _) (by first | with_reducible exact Y.out | with_reducible exact nr_alloc Y.out _ | with_reducible exact nr_alloc (nr_alloc Y.out _) _ | with_reducible exact nr_alloc (nr_alloc (nr_alloc Y.out _) _) _) (by omega) (by omega)).mono ?_
      rintro e w5 ⟨rfl, hb⟩
      obtain ⟨hc5, hf5⟩ := bcell hb
      have B5 := Lib.hid (show Below w.heap.size w w5 from (by first | exact below_seq B4.out hb | exact below_seq1 B4.out hb | exact below_seq2 B4.out hb | exact below_seq3 B4.out hb | exact below_seq4 B4.out hb))
      have R5 := Lib.hid hb
      have hz5 := hb.size
      try simp at hz5
      clear hb
      try have y50 : w.heap.size < w5.heap.size := by omega
      try have y50a : w.heap.size + 1 < w5.heap.size := by omega
      try have y50b : w.heap.size < w5.heap.size + 1 + 1 := by omega
      try have y50c : w.heap.size + 1 < w5.heap.size + 1 + 1 := by omega
      try have y51 : w1.heap.size < w5.heap.size := by omega
      try have y51a : w1.heap.size + 1 < w5.heap.size := by omega
      try have y51b : w1.heap.size < w5.heap.size + 1 + 1 := by omega
      try have y51c : w1.heap.size + 1 < w5.heap.size + 1 + 1 := by omega
      try have y52 : w2.heap.size < w5.heap.size := by omega
      try have y52a : w2.heap.size + 1 < w5.heap.size := by omega
      try have y52b : w2.heap.size < w5.heap.size + 1 + 1 := by omega
      try have y52c : w2.heap.size + 1 < w5.heap.size + 1 + 1 := by omega
      try have y53 : w3.heap.size < w5.heap.size := by omega
      try have y53a : w3.heap.size + 1 < w5.heap.size := by omega
      try have y53b : w3.heap.size < w5.heap.size + 1 + 1 := by omega
      try have y53c : w3.heap.size + 1 < w5.heap.size + 1 + 1 := by omega
      try have y54 : w4.heap.size < w5.heap.size := by omega
      try have y54a : w4.heap.size + 1 < w5.heap.size := by omega
      try have y54b : w4.heap.size < w5.heap.size + 1 + 1 := by omega
      try have y54c : w4.heap.size + 1 < w5.heap.size + 1 + 1 := by omega
      rw [as_refl]
      go_wp2
      all_goals
        go_ret
        refine ⟨rfl, ?_⟩
        repeat refine below_alloc ?_ _
        exact B5.out
theorem own : ownKnob Try.prog.godebug = none := by kernel_rfl
theorem laidOut : laidOutB Try.prog = true := by kernel_rfl
set_option maxRecDepth 100000 in
theorem lifted (os : Os) (started : os.Started) (H : Type) (enc : TypeId × Value → H) :
    ReturnsInHanded {} Try.checked os 12 .any (Rows.fnReserveOtherSpec.pre6 enc Try.prog Try.f12 Rows.fnReserveOtherRow.domain false) (Rows.fnReserveOtherSpec.post enc Try.prog Try.f12 false true false false) := by
  refine returnsInHanded_of_change (C := Try.checked) own started (by kernel_rfl) Try.func12
    (ChangeSpec.witness6 (enc := enc) (C := Try.checked) false ⟨#[], #[.slice none 0 0], []⟩ 8 (by kernel_rfl) (by kernel_rfl) (by kernel_rfl) (by kernel_rfl)) ?_
  intro W base args ds gs before hval0 hW _ _
  have hval : ∀ (j : Nat) t v, Try.f12.params[j]? = some t → args[j]? = some v → Value.okWide Try.prog W .any base t v := hval0
  have hW' := hW
  obtain ⟨p, q, hA0, hV, rfl, _, _⟩ := hW
  have hA : DataW.TrodAll enc Try.prog W 0 (fun _ => true) true Try.f12.params.toList args.toList ds p := hA0
  rw [Try.params12] at hA hval
  obtain ⟨v0, vs0, d0, ds0, p0, q0, hargs, rfl, rfl, h0, r0⟩ := trodAll_cons hA
  obtain ⟨rfl, rfl, rfl⟩ := trodAll_nil r0
  obtain rfl : args = #[v0] := by cases args; simp_all
  obtain ⟨rfl, rfl⟩ := trodVars_none hV
  have lt0 : ∀ x ∈ p0, x.block < W.heap.size := by obtain ⟨m, hm⟩ := h0; exact DataW.trod_lt m _ _ _ hm
  obtain ⟨a0, n0, c0, rfl⟩ := okWide_slice Try.underlying22 (hval 0 22 v0 rfl rfl)
  have w0 : Bytes W a0 n0 c0 := bytes_open h0
  clear hA0 hval0
  refine (walk a0 n0 c0 W w0).mono fun e W' ⟨he, bel⟩ => ?_
  subst he
  exact ⟨_, rfl, _, _, _, [], _, [], hW', trodAll_mk1 (shut_bool Try.underlying4 _), (trodAll_cons_mk (Below.trod laidOut (by kernel_rfl) (of_decide_eq_true (by kernel_rfl)) h0 bel lt0) trodAll_mk0), rfl, bel.frame _, fun h => by cases h⟩
theorem over : Rows.fnReserveOtherRow.holds Try.pinned (OpenSpec.ofChange Rows.fnReserveOtherSpec) :=
  OpenClaim.holds_of_wide 12 Try.f12 rfl rfl rfl rfl rfl rfl rfl ⟨rfl, rfl, rfl, rfl, rfl⟩ rfl rfl rfl rfl rfl (by kernel_rfl) Try.func12 (by kernel_rfl)
    (of_decide_eq_true (by kernel_rfl)) (by unfold Func.isWrapper; first | (rw [if_pos (by decide +kernel)]; kernel_rfl) | (rw [if_neg (by decide +kernel)]; exact ⟨rfl, rfl⟩))
    (fun os started H enc _ => lifted os started H enc)
/-- the given statement -/
theorem proved : Rows.FnReserveOtherSaid := over
end Go.Proofs.Ytkbjelchihdajaa.fnReserveOther
