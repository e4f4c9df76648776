/-
  The law FnReleaseAll returns true at every argument: an account is emptied by releasing what each peer uses. Conditions: none.
-/
import Derived.Test.YtkbjelchihdajaaLift
import Derived.Test.YtkbjelchihdajaaAI
import Derived.Test.YtkbjelchihdajaaAl
namespace Go.Proofs.Ytkbjelchihdajaa.fnReleaseAll
open Go.ChangeShapes Go.WideShapes Go.ChangeAt Go.RowKit

def RaRel (w : World) (g1 g2 : Nat) (lim each : Int) (A1 : Option Addr) (c1 : Nat) (i : Value) (wr : World) : Prop :=
  ∃ (p : Nat) (A : Option Addr) (c : Nat) (us : List Int), p ≤ 8 ∧ i = .int .i64 (p : Int) ∧ acB lim each us = true ∧ (∀ j < p, us[j]? = some 0) ∧ NR wr A 8 us ∧ Blk wr g1 25 #[.int .i64 lim, .int .i64 each, (.slice A1 8 c1)] ∧ Blk wr g2 25 #[.int .i64 lim, .int .i64 each, (.slice A 8 c)] ∧ (0 < 8 → ∀ b, A.map (·.block) = some b → b ≠ g2) ∧ Below w.heap.size w wr
def RaMid (w : World) (g1 g2 : Nat) (lim each : Int) (A1 : Option Addr) (c1 p : Nat) (a b : Value) (wx : World) : Prop :=
  ∃ (g3 : Nat) (A : Option Addr) (c : Nat) (us : List Int) (x y z : Value), a = .pointer (some ⟨g3, 0, none⟩) ∧ b = .bool true ∧ acB lim each us = true ∧ (∀ j < p + 1, us[j]? = some 0) ∧ NR wx A 8 us ∧ Blk wx g3 25 #[.int .i64 lim, .int .i64 each, (.slice A 8 c)] ∧ Blk wx g1 25 #[.int .i64 lim, .int .i64 each, (.slice A1 8 c1)] ∧ Blk wx g2 25 #[x, y, z] ∧ (0 < 8 → ∀ b, A.map (·.block) = some b → b ≠ g2) ∧ Below w.heap.size w wx ∧ g2 < g3
section
variable {w wr w5 : World} {g1 g2 g3 p : Nat} {lim each : Int} {A1 A A5 : Option Addr} {c1 c c5 base : Nat} {us : List Int}
theorem own_ne (ho : w5.ownsRow base 3 1 (.slice A5 8 c5) 8 (icells us)) {g : Nat} (hg : g < base) : 0 < 8 → ∀ b, A5.map (·.block) = some b → b ≠ g := fun _ b hb e => by
  have h1 := (ho.lt b (by cases A5 <;> simp_all [Value.ownBlock])).1
  omega
theorem ra_new (hk1 : Blk wr g1 25 #[.int .i64 lim, .int .i64 each, (.slice A1 8 c1)]) (hk2 : Blk wr g2 25 #[.int .i64 lim, .int .i64 each, (.slice A 8 c)]) (hw : Below w.heap.size w wr) (hb : Below wr.heap.size wr w5) (ho : w5.ownsRow base 3 1 (.slice A5 8 c5) 8 (icells us)) (hbase : wr.heap.size ≤ base) (hac : acB lim each us = true) (hz : ∀ j < p + 1, us[j]? = some 0) :
    RaMid w g1 g2 lim each A1 c1 p (.pointer (some ⟨w5.heap.size, 0, none⟩)) (.bool true) (w5.alloc (.cells #[.int .i64 lim, .int .i64 each, (.slice A5 8 c5)] 25)) :=
  ⟨w5.heap.size, A5, c5, us, _, _, _, rfl, rfl, hac, hz, nr_alloc (nr_own ho) _, blk_new _ _ _, blk_alloc (blk_below hk1 hb (blk_lt hk1)) _, blk_alloc (blk_below hk2 hb (blk_lt hk2)) _, own_ne ho (Nat.lt_of_lt_of_le (blk_lt hk2) hbase), below_alloc (below_seq hw hb) _, by have := blk_lt hk2; have := hb.size; omega⟩
theorem ra_set {x y z : Value} (hk1 : Blk wr g1 25 #[.int .i64 lim, .int .i64 each, (.slice A1 8 c1)]) (hk2 : Blk wr g2 25 #[.int .i64 lim, .int .i64 each, (.slice A 8 c)]) (hw : Below w.heap.size w wr) (hb : Below wr.heap.size wr w5) (hg : wr.heap.size ≤ g3) (hn : Blk w5 g3 25 #[x, y, z]) (ho : w5.ownsRow base 3 1 (.slice A5 8 c5) 8 (icells us)) (hbase : g3 < base) (hac : acB lim each us = true) (hz : ∀ j < p + 1, us[j]? = some 0) :
    RaMid w g1 g2 lim each A1 c1 p (.pointer (some ⟨g3, 0, none⟩)) (.bool true) (((w5.setCell ⟨g3, 0, none⟩ (.int .i64 lim)).setCell ⟨g3, 1, none⟩ (.int .i64 each)).setCell ⟨g3, 2, none⟩ (.slice A5 8 c5)) := by
  have h2 := blk_lt hk2
  have h1 := blk_lt hk1
  have hws := hw.size
  have hne := own_ne ho hbase
  refine ⟨g3, A5, c5, us, .int .i64 lim, .int .i64 each, .slice A 8 c, rfl, rfl, hac, hz, nr_set (nr_set (nr_set (nr_own ho) hne _) hne _) hne _, ?_, ?_, ?_, own_ne ho (by omega), Below.setCell (Below.setCell (Below.setCell (below_seq hw hb) (by simp; omega) _) (by simp; omega) _) (by simp; omega) _, by omega⟩
  · exact blk_set (blk_set (blk_set hn 0 _) 1 _) 2 _
  · exact blk_grown (blk_grown (blk_grown (blk_below hk1 hb h1) (g_set (g_refl _ _) (.inl rfl) _) (show _ ≠ g3 by omega)) (g_set (g_refl _ _) (.inl rfl) _) (show _ ≠ g3 by omega)) (g_set (g_refl _ _) (.inl rfl) _) (show _ ≠ g3 by omega)
  · exact blk_grown (blk_grown (blk_grown (blk_below hk2 hb h2) (g_set (g_refl _ _) (.inl rfl) _) (show _ ≠ g3 by omega)) (g_set (g_refl _ _) (.inl rfl) _) (show _ ≠ g3 by omega)) (g_set (g_refl _ _) (.inl rfl) _) (show _ ≠ g3 by omega)
theorem ra_cells {wr w' : World} {x y z v : Value} {g b o : Nat} (hk : Blk wr g 25 #[x, y, z]) (hc : wr.cell? ⟨b, o, none⟩ = some v) (hb : b < wr.heap.size) (h : Below wr.heap.size wr w') : (w'.cell? ⟨g, 0, none⟩ = some x ∧ w'.cell? ⟨g, 1, none⟩ = some y ∧ w'.cell? ⟨g, 2, none⟩ = some z ∧ w'.cell? ⟨b, o, none⟩ = some v) ∧ Below wr.heap.size wr w' := by
  obtain ⟨h1, h2, h3⟩ := (blk_three (blk_below hk h (blk_lt hk))).1
  exact ⟨⟨h1, h2, h3, (h.cell (p := ⟨b, o, none⟩) hb).trans hc⟩, h⟩
end
theorem snd_of {a b : Prop} (h : a ∧ b) : b := h.2
theorem all_zero {us : List Int} (hl : us.length = 8) (h : ∀ j < 8, us[j]? = some 0) : us = List.replicate 8 0 := by
  apply List.ext_getElem?
  intro i
  rcases Nat.lt_or_ge i 8 with hi | hi
  · rw [h i hi, List.getElem?_replicate, if_pos hi]
  · rw [List.getElem?_eq_none (by omega), List.getElem?_eq_none (by simp; omega)]
set_option maxHeartbeats 2000000 in
theorem walk (A : Option Addr) (n c : Nat) (w : World) (h : Bytes w A n c) :
    Calls Try.prog 13 #[.slice A n c] w fun e w' => e = .returned (.bool true) ∧ Below w.heap.size w w' := by
  have HB := Lib.hid h
  clear h
  by_cases hbig : ¬ n ≤ 1048576
  · go_enter Try.func13, Try.ntmps13
    go_wp2
    go_ret
    exact ⟨rfl, Below.refl _ _⟩
  have hbig' : n ≤ 1048576 := by omega
  clear hbig
  go_enter Try.func13, Try.ntmps13
  go_wp2_with fail
  refine (drawRelease_any A n c _ HB.out).mono ?_
  rintro e w1 ⟨lim, each, A1, n1, c1, us, x, b, rfl, hn1, hx, hbb, ho, hb⟩
  obtain ⟨hc1, hf1⟩ := bcell hb
  have B1 := Lib.hid (show Below w.heap.size w w1 from (by first | exact below_seq (Below.refl w.heap.size w) hb | exact below_seq1 (Below.refl w.heap.size w) hb | exact below_seq2 (Below.refl w.heap.size w) hb | exact below_seq3 (Below.refl w.heap.size w) hb | exact below_seq4 (Below.refl w.heap.size w) hb))
  have R1 := Lib.hid hb
  have hz1 := hb.size
  try simp at hz1
  clear hb
  have Q := Lib.hid (nr_own ho)
  clear ho hx
  rcases hk : rsOk lim each us x b with _ | _
  · have HK := Lib.hid hk
    clear hk
    go_wp2_with fail
    refine (relI_no3 lim each A1 n1 c1 us x b _ (by first | with_reducible exact Q.out | with_reducible exact nr_alloc Q.out _ | with_reducible exact nr_alloc (nr_alloc Q.out _) _ | with_reducible exact nr_alloc (nr_alloc (nr_alloc Q.out _) _) _) (by omega) HK.out).mono ?_
    rintro e w2 ⟨A2, n2, c2, rfl, hn2, ho2, hb⟩
    obtain ⟨hc2, hf2⟩ := bcell hb
    have B2 := Lib.hid (show Below w.heap.size w w2 from (by first | exact below_seq B1.out hb | exact below_seq1 B1.out hb | exact below_seq2 B1.out hb | exact below_seq3 B1.out hb | exact below_seq4 B1.out hb))
    have R2 := Lib.hid hb
    have hz2 := hb.size
    try simp at hz2
    clear hb
    try have y20 : w.heap.size < w2.heap.size := by omega
    try have y20a : w.heap.size + 1 < w2.heap.size := by omega
    try have y20b : w.heap.size < w2.heap.size + 1 + 1 := by omega
    try have y20c : w.heap.size + 1 < w2.heap.size + 1 + 1 := by omega
    try have y21 : w1.heap.size < w2.heap.size := by omega
    try have y21a : w1.heap.size + 1 < w2.heap.size := by omega
    try have y21b : w1.heap.size < w2.heap.size + 1 + 1 := by omega
    try have y21c : w1.heap.size + 1 < w2.heap.size + 1 + 1 := by omega
    obtain rfl : n2 = 0 := hn2
    have X := Lib.hid (nr_own ho2)
    clear ho2
    replace Q := Lib.hid (show NR w2 _ _ _ from (by first | with_reducible exact nr_below Q.out R2.out | with_reducible exact nr_below (nr_alloc Q.out _) R2.out | with_reducible exact nr_below (nr_alloc (nr_alloc Q.out _) _) R2.out | with_reducible exact nr_below (nr_alloc (nr_alloc (nr_alloc Q.out _) _) _) R2.out))
    go_wp2_with fail
    refine (relS_no3 lim each A1 n1 c1 us x b _ (by first | with_reducible exact Q.out | with_reducible exact nr_alloc Q.out _ | with_reducible exact nr_alloc (nr_alloc Q.out _) _ | with_reducible exact nr_alloc (nr_alloc (nr_alloc Q.out _) _) _) (by omega) HK.out).mono ?_
    rintro e w3 ⟨A3, n3, c3, rfl, hn3, ho3, hb⟩
    obtain ⟨hc3, hf3⟩ := bcell hb
    have B3 := Lib.hid (show Below w.heap.size w w3 from (by first | exact below_seq B2.out hb | exact below_seq1 B2.out hb | exact below_seq2 B2.out hb | exact below_seq3 B2.out hb | exact below_seq4 B2.out hb))
    have R3 := Lib.hid hb
    have hz3 := hb.size
    try simp at hz3
    clear hb
    try have y30 : w.heap.size < w3.heap.size := by omega
    try have y30a : w.heap.size + 1 < w3.heap.size := by omega
    try have y30b : w.heap.size < w3.heap.size + 1 + 1 := by omega
    try have y30c : w.heap.size + 1 < w3.heap.size + 1 + 1 := by omega
    try have y31 : w1.heap.size < w3.heap.size := by omega
    try have y31a : w1.heap.size + 1 < w3.heap.size := by omega
    try have y31b : w1.heap.size < w3.heap.size + 1 + 1 := by omega
    try have y31c : w1.heap.size + 1 < w3.heap.size + 1 + 1 := by omega
    try have y32 : w2.heap.size < w3.heap.size := by omega
    try have y32a : w2.heap.size + 1 < w3.heap.size := by omega
    try have y32b : w2.heap.size < w3.heap.size + 1 + 1 := by omega
    try have y32c : w2.heap.size + 1 < w3.heap.size + 1 + 1 := by omega
    obtain rfl : n3 = 0 := hn3
    have Y := Lib.hid (nr_own ho3)
    replace X := Lib.hid (show NR w3 _ _ _ from (by first | with_reducible exact nr_below X.out R3.out | with_reducible exact nr_below (nr_alloc X.out _) R3.out | with_reducible exact nr_below (nr_alloc (nr_alloc X.out _) _) R3.out | with_reducible exact nr_below (nr_alloc (nr_alloc (nr_alloc X.out _) _) _) R3.out))
    clear ho3
    go_wp2_with fail
    refine (asI_any 0 0 0 0 A2 A3 0 c2 0 c3 [] [] _ (by first | with_reducible exact X.out | with_reducible exact nr_alloc X.out _ | with_reducible exact nr_alloc (nr_alloc X.out _) _ | with_reducible exact nr_alloc (nr_alloc (nr_alloc X.out _) _) _) (by first | with_reducible exact Y.out | with_reducible exact nr_alloc Y.out _ | with_reducible exact nr_alloc (nr_alloc Y.out _) _ | with_reducible exact nr_alloc (nr_alloc (nr_alloc Y.out _) _) _) (by omega) (by omega)).mono ?_
    rintro e w4 ⟨rfl, hb⟩
    obtain ⟨hc4, hf4⟩ := bcell hb
    have B4 := Lib.hid (show Below w.heap.size w w4 from (by first | exact below_seq B3.out hb | exact below_seq1 B3.out hb | exact below_seq2 B3.out hb | exact below_seq3 B3.out hb | exact below_seq4 B3.out hb))
    have R4 := Lib.hid hb
    have hz4 := hb.size
    try simp at hz4
    clear hb
    try have y40 : w.heap.size < w4.heap.size := by omega
    try have y40a : w.heap.size + 1 < w4.heap.size := by omega
    try have y40b : w.heap.size < w4.heap.size + 1 + 1 := by omega
    try have y40c : w.heap.size + 1 < w4.heap.size + 1 + 1 := by omega
    try have y41 : w1.heap.size < w4.heap.size := by omega
    try have y41a : w1.heap.size + 1 < w4.heap.size := by omega
    try have y41b : w1.heap.size < w4.heap.size + 1 + 1 := by omega
    try have y41c : w1.heap.size + 1 < w4.heap.size + 1 + 1 := by omega
    try have y42 : w2.heap.size < w4.heap.size := by omega
    try have y42a : w2.heap.size + 1 < w4.heap.size := by omega
    try have y42b : w2.heap.size < w4.heap.size + 1 + 1 := by omega
    try have y42c : w2.heap.size + 1 < w4.heap.size + 1 + 1 := by omega
    try have y43 : w3.heap.size < w4.heap.size := by omega
    try have y43a : w3.heap.size + 1 < w4.heap.size := by omega
    try have y43b : w3.heap.size < w4.heap.size + 1 + 1 := by omega
    try have y43c : w3.heap.size + 1 < w4.heap.size + 1 + 1 := by omega
    rw [as_refl]
    replace X := Lib.hid (show NR w4 _ _ _ from (by first | with_reducible exact nr_below X.out R4.out | with_reducible exact nr_below (nr_alloc X.out _) R4.out | with_reducible exact nr_below (nr_alloc (nr_alloc X.out _) _) R4.out | with_reducible exact nr_below (nr_alloc (nr_alloc (nr_alloc X.out _) _) _) R4.out))
    replace Y := Lib.hid (show NR w4 _ _ _ from (by first | with_reducible exact nr_below Y.out R4.out | with_reducible exact nr_below (nr_alloc Y.out _) R4.out | with_reducible exact nr_below (nr_alloc (nr_alloc Y.out _) _) R4.out | with_reducible exact nr_below (nr_alloc (nr_alloc (nr_alloc Y.out _) _) _) R4.out))
    go_wp2_with fail
    refine (asI_any 0 0 0 0 A2 A3 0 c2 0 c3 [] [] _ (by first | with_reducible exact X.out | with_reducible exact nr_alloc X.out _ | with_reducible exact nr_alloc (nr_alloc X.out _) _ | with_reducible exact nr_alloc (nr_alloc (nr_alloc X.out _) _) _) (by first | with_reducible exact Y.out | with_reducible exact nr_alloc Y.out _ | with_reducible exact nr_alloc (nr_alloc Y.out _) _ | with_reducible exact nr_alloc (nr_alloc (nr_alloc Y.out _) _) _) (by omega) (by omega)).mono ?_
    rintro e w5 ⟨rfl, hb⟩
    obtain ⟨hc5, hf5⟩ := bcell hb
    have B5 := Lib.hid (show Below w.heap.size w w5 from (by first | exact below_seq B4.out hb | exact below_seq1 B4.out hb | exact below_seq2 B4.out hb | exact below_seq3 B4.out hb | exact below_seq4 B4.out hb))
    have R5 := Lib.hid hb
    have hz5 := hb.size
    try simp at hz5
    clear hb
    try have y50 : w.heap.size < w5.heap.size := by omega
    try have y50a : w.heap.size + 1 < w5.heap.size := by omega
    try have y50b : w.heap.size < w5.heap.size + 1 + 1 := by omega
    try have y50c : w.heap.size + 1 < w5.heap.size + 1 + 1 := by omega
    try have y51 : w1.heap.size < w5.heap.size := by omega
    try have y51a : w1.heap.size + 1 < w5.heap.size := by omega
    try have y51b : w1.heap.size < w5.heap.size + 1 + 1 := by omega
    try have y51c : w1.heap.size + 1 < w5.heap.size + 1 + 1 := by omega
    try have y52 : w2.heap.size < w5.heap.size := by omega
    try have y52a : w2.heap.size + 1 < w5.heap.size := by omega
    try have y52b : w2.heap.size < w5.heap.size + 1 + 1 := by omega
    try have y52c : w2.heap.size + 1 < w5.heap.size + 1 + 1 := by omega
    try have y53 : w3.heap.size < w5.heap.size := by omega
    try have y53a : w3.heap.size + 1 < w5.heap.size := by omega
    try have y53b : w3.heap.size < w5.heap.size + 1 + 1 := by omega
    try have y53c : w3.heap.size + 1 < w5.heap.size + 1 + 1 := by omega
    try have y54 : w4.heap.size < w5.heap.size := by omega
    try have y54a : w4.heap.size + 1 < w5.heap.size := by omega
    try have y54b : w4.heap.size < w5.heap.size + 1 + 1 := by omega
    try have y54c : w4.heap.size + 1 < w5.heap.size + 1 + 1 := by omega
    rw [as_refl]
    go_wp2
    all_goals
      go_ret
      refine ⟨rfl, ?_⟩
      repeat refine below_alloc ?_ _
      exact B5.out
  · obtain ⟨hq, hxp, hb0⟩ := rsOk_of hk
    obtain ⟨k, rfl, hk8⟩ := k_of hxp
    obtain ⟨u, hu⟩ := ac_at hq hk8
    obtain ⟨a1, a2, a3, a4, a5, a6⟩ := ac_of hq
    obtain ⟨u0, u1, u2⟩ := ac_get hq hu
    have hfl := free_le (lim := lim) (each := each) (u := u) (us := us)
    have n8 : n1 = 8 := by have := Q.out.1; omega
    subst n8
    have HK := Lib.hid hk
    have HQ := Lib.hid hq
    have HU := Lib.hid hu
    have HP := Lib.hid hxp
    have HL := Lib.hid a4
    by_cases hlt : b ≤ u
    · have HA2 := Lib.hid (ac_set hq hu (y := u - b) (by omega) (by omega) (by omega))
      have HU2 := Lib.hid (get_set hu (u - b))
      have HL2 : Hid ((us.set k (u - b)).length = 8) := Lib.hid (by rw [List.length_set]; exact a4)
      clear hk hq hu hxp hfl a1 a4 a5 a6
      go_wp2_with fail
      refine (relI_yes lim each A1 8 c1 us k u b _ (by first | with_reducible exact Q.out | with_reducible exact nr_alloc Q.out _ | with_reducible exact nr_alloc (nr_alloc Q.out _) _ | with_reducible exact nr_alloc (nr_alloc (nr_alloc Q.out _) _) _) HK.out HU.out hlt).mono ?_
      rintro e w2 ⟨A2, n2, c2, rfl, hn2, ho2, hb⟩
      obtain ⟨hc2, hf2⟩ := bcell hb
      have B2 := Lib.hid (show Below w.heap.size w w2 from (by first | exact below_seq B1.out hb | exact below_seq1 B1.out hb | exact below_seq2 B1.out hb | exact below_seq3 B1.out hb | exact below_seq4 B1.out hb))
      have R2 := Lib.hid hb
      have hz2 := hb.size
      try simp at hz2
      clear hb
      try have y20 : w.heap.size < w2.heap.size := by omega
      try have y20a : w.heap.size + 1 < w2.heap.size := by omega
      try have y20b : w.heap.size < w2.heap.size + 1 + 1 := by omega
      try have y20c : w.heap.size + 1 < w2.heap.size + 1 + 1 := by omega
      try have y21 : w1.heap.size < w2.heap.size := by omega
      try have y21a : w1.heap.size + 1 < w2.heap.size := by omega
      try have y21b : w1.heap.size < w2.heap.size + 1 + 1 := by omega
      try have y21c : w1.heap.size + 1 < w2.heap.size + 1 + 1 := by omega
      obtain rfl : n2 = 8 := hn2.trans HL2.out
      have X := Lib.hid (nr_own ho2)
      clear ho2 hn2
      have HO2 := Lib.hid (nr_old X.out)
      replace Q := Lib.hid (show NR w2 _ _ _ from (by first | with_reducible exact nr_below Q.out R2.out | with_reducible exact nr_below (nr_alloc Q.out _) R2.out | with_reducible exact nr_below (nr_alloc (nr_alloc Q.out _) _) R2.out | with_reducible exact nr_below (nr_alloc (nr_alloc (nr_alloc Q.out _) _) _) R2.out))
      go_wp2_with fail
      refine (relS_yes lim each A1 8 c1 us k u b _ (by first | with_reducible exact Q.out | with_reducible exact nr_alloc Q.out _ | with_reducible exact nr_alloc (nr_alloc Q.out _) _ | with_reducible exact nr_alloc (nr_alloc (nr_alloc Q.out _) _) _) HK.out HU.out hlt).mono ?_
      rintro e w3 ⟨A3, n3, c3, rfl, hn3, ho3, hb⟩
      obtain ⟨hc3, hf3⟩ := bcell hb
      have B3 := Lib.hid (show Below w.heap.size w w3 from (by first | exact below_seq B2.out hb | exact below_seq1 B2.out hb | exact below_seq2 B2.out hb | exact below_seq3 B2.out hb | exact below_seq4 B2.out hb))
      have R3 := Lib.hid hb
      have hz3 := hb.size
      try simp at hz3
      clear hb
      try have y30 : w.heap.size < w3.heap.size := by omega
      try have y30a : w.heap.size + 1 < w3.heap.size := by omega
      try have y30b : w.heap.size < w3.heap.size + 1 + 1 := by omega
      try have y30c : w.heap.size + 1 < w3.heap.size + 1 + 1 := by omega
      try have y31 : w1.heap.size < w3.heap.size := by omega
      try have y31a : w1.heap.size + 1 < w3.heap.size := by omega
      try have y31b : w1.heap.size < w3.heap.size + 1 + 1 := by omega
      try have y31c : w1.heap.size + 1 < w3.heap.size + 1 + 1 := by omega
      try have y32 : w2.heap.size < w3.heap.size := by omega
      try have y32a : w2.heap.size + 1 < w3.heap.size := by omega
      try have y32b : w2.heap.size < w3.heap.size + 1 + 1 := by omega
      try have y32c : w2.heap.size + 1 < w3.heap.size + 1 + 1 := by omega
      obtain rfl : n3 = 8 := hn3.trans HL2.out
      have Y := Lib.hid (nr_own ho3)
      replace X := Lib.hid (show NR w3 _ _ _ from (by first | with_reducible exact nr_below X.out R3.out | with_reducible exact nr_below (nr_alloc X.out _) R3.out | with_reducible exact nr_below (nr_alloc (nr_alloc X.out _) _) R3.out | with_reducible exact nr_below (nr_alloc (nr_alloc (nr_alloc X.out _) _) _) R3.out))
      replace Q := Lib.hid (show NR w3 _ _ _ from (by first | with_reducible exact nr_below Q.out R3.out | with_reducible exact nr_below (nr_alloc Q.out _) R3.out | with_reducible exact nr_below (nr_alloc (nr_alloc Q.out _) _) R3.out | with_reducible exact nr_below (nr_alloc (nr_alloc (nr_alloc Q.out _) _) _) R3.out))
      clear ho3 hn3
      go_wp2_with fail
      refine (asI_any lim each lim each A2 A3 8 c2 8 c3 _ _ _ (by first | with_reducible exact X.out | with_reducible exact nr_alloc X.out _ | with_reducible exact nr_alloc (nr_alloc X.out _) _ | with_reducible exact nr_alloc (nr_alloc (nr_alloc X.out _) _) _) (by first | with_reducible exact Y.out | with_reducible exact nr_alloc Y.out _ | with_reducible exact nr_alloc (nr_alloc Y.out _) _ | with_reducible exact nr_alloc (nr_alloc (nr_alloc Y.out _) _) _) (by omega) (by omega)).mono ?_
      rintro e w4 ⟨rfl, hb⟩
      obtain ⟨hc4, hf4⟩ := bcell hb
      have B4 := Lib.hid (show Below w.heap.size w w4 from (by first | exact below_seq B3.out hb | exact below_seq1 B3.out hb | exact below_seq2 B3.out hb | exact below_seq3 B3.out hb | exact below_seq4 B3.out hb))
      have R4 := Lib.hid hb
      have hz4 := hb.size
      try simp at hz4
      clear hb
      try have y40 : w.heap.size < w4.heap.size := by omega
      try have y40a : w.heap.size + 1 < w4.heap.size := by omega
      try have y40b : w.heap.size < w4.heap.size + 1 + 1 := by omega
      try have y40c : w.heap.size + 1 < w4.heap.size + 1 + 1 := by omega
      try have y41 : w1.heap.size < w4.heap.size := by omega
      try have y41a : w1.heap.size + 1 < w4.heap.size := by omega
      try have y41b : w1.heap.size < w4.heap.size + 1 + 1 := by omega
      try have y41c : w1.heap.size + 1 < w4.heap.size + 1 + 1 := by omega
      try have y42 : w2.heap.size < w4.heap.size := by omega
      try have y42a : w2.heap.size + 1 < w4.heap.size := by omega
      try have y42b : w2.heap.size < w4.heap.size + 1 + 1 := by omega
      try have y42c : w2.heap.size + 1 < w4.heap.size + 1 + 1 := by omega
      try have y43 : w3.heap.size < w4.heap.size := by omega
      try have y43a : w3.heap.size + 1 < w4.heap.size := by omega
      try have y43b : w3.heap.size < w4.heap.size + 1 + 1 := by omega
      try have y43c : w3.heap.size + 1 < w4.heap.size + 1 + 1 := by omega
      rw [as_refl]
      replace X := Lib.hid (show NR w4 _ _ _ from (by first | with_reducible exact nr_below X.out R4.out | with_reducible exact nr_below (nr_alloc X.out _) R4.out | with_reducible exact nr_below (nr_alloc (nr_alloc X.out _) _) R4.out | with_reducible exact nr_below (nr_alloc (nr_alloc (nr_alloc X.out _) _) _) R4.out))
      have K1 := blk_below (blk_alloc (blk_below (blk_alloc (blk_below (blk_new w1 25 #[.int .i64 lim, .int .i64 each, (.slice A1 8 c1)]) R2.out (by simp)) _) R3.out (by simp; omega)) _) R4.out (by simp; omega)
      have K2 := blk_below (blk_alloc (blk_below (blk_new w2 25 #[.int .i64 lim, .int .i64 each, (.slice A2 8 c2)]) R3.out (by simp)) _) R4.out (by simp; omega)
      have R0 : Hid (RaRel w2 w1.heap.size w2.heap.size lim each A1 c1 (.int .i64 0) w4) := Lib.hid ⟨0, A2, c2, _, by omega, rfl, HA2.out, fun j hj => by omega, X.out, K1, K2, fun h8 b hb e => by have := HO2.out h8 b hb; omega, below_seq1 (below_seq1 (Below.refl _ _) R3.out) R4.out⟩
      have hg12 : w1.heap.size < w2.heap.size := by omega
      have hg1 : w.heap.size ≤ w1.heap.size := by omega
      have hg4 : w2.heap.size < w4.heap.size := by omega
      clear K1 K2
      go_wp2_with fail
      go_loopw [10] (fun i wr => RaRel w2 w1.heap.size w2.heap.size lim each A1 c1 i wr) (fun i _ => 8 - (intOf i).toNat)
      case atStart => exact R0.out
      case round =>
        obtain ⟨p, Ax, cx, vs, hp8, rfl, hac, hz, hnr, hk1, hk2, hne, hbl⟩ := hrel
        have HAC := Lib.hid hac
        have HZ := Lib.hid hz
        have HNR := Lib.hid hnr
        have HK1 := Lib.hid hk1
        have HK2 := Lib.hid hk2
        have HNE := Lib.hid hne
        have HBl := Lib.hid hbl
        have hzr := hbl.size
        clear hac hz hnr hk1 hk2 hne hbl R0
        by_cases hlt8 : p < 8
        · obtain ⟨v, hv⟩ := ac_at HAC.out hlt8
          obtain ⟨v0, v1, -⟩ := ac_get HAC.out hv
          have hsum := (ac_of HAC.out).2.2.2.2.1
          have h0s := (ac_get HAC.out hv).2.2
          have HRS : Hid (rsOk lim each vs (p : Int) v = true) := Lib.hid (by
            have hpp : prB (p : Int) = true := by simp [prB]; omega
            simp [rsOk, frOk, HAC.out, hpp, v0])
          have HAC2 := Lib.hid (ac_set HAC.out hv (y := v - v) (by omega) (by omega) (by omega))
          have HL82 : Hid ((vs.set p (v - v)).length = 8) := Lib.hid (by rw [List.length_set]; exact (ac_of HAC.out).2.2.2.1)
          have HZ2 : Hid (∀ j < p + 1, (vs.set p (v - v))[j]? = some 0) := Lib.hid (fun j hj => by
            by_cases hjp : j = p
            · subst hjp; rw [get_set hv]; simp
            · rw [List.getElem?_set_ne (fun h => hjp h.symm)]; exact HZ.out j (by omega))
          obtain ⟨⟨q0, q1, q2⟩, f0, f1, f2⟩ := blk_three HK2.out
          obtain ⟨b2, o2, e2, c02, -⟩ := nr_at' HNR.out hv
          have HV := Lib.hid hv
          clear hsum h0s hv
          subst e2
          have C2 := Lib.hid c02
          have hb2 : b2 < wr.heap.size := nr_old HNR.out (by omega) b2 rfl
          go_upto_region 11 with fail
          go_cut [11, 12] from 59 to 76 (fun a b wx => RaMid w2 w1.heap.size w2.heap.size lim each A1 c1 p a b wx)
          case first =>
            have hS := ra_cells HK2.out C2.out hb2 (Below.drew (Below.refl _ _))
            go_region_held3 (fun w' => (w'.cell? ⟨w2.heap.size, 0, none⟩ = some (.int .i64 lim) ∧ w'.cell? ⟨w2.heap.size, 1, none⟩ = some (.int .i64 each) ∧ w'.cell? ⟨w2.heap.size, 2, none⟩ = some (.slice (some ⟨b2, o2, none⟩) 8 cx) ∧ w'.cell? ⟨b2, o2 + p, none⟩ = some (.int .i64 v)) ∧ Below wr.heap.size wr w')
              (first
                | (with_reducible assumption)
                | (with_reducible exact ra_cells HK2.out C2.out hb2 (Below.drew (below_alloc (Below.refl _ _) _)))
                | (with_reducible exact ra_cells HK2.out C2.out hb2 (below_alloc B5.out _))
                | (refine ra_cells HK2.out C2.out hb2 ?_; with_reducible refine Below.setCell ?_ ?_ _; with_reducible refine Below.setCell ?_ ?_ _; with_reducible refine Below.setCell ?_ ?_ _; with_reducible exact B5.out; all_goals (simp <;> omega))
                | fail)
              (first
                | (go_at_call 20
                   refine (relI_yes lim each (some ⟨b2, o2, none⟩) 8 cx vs p v v _ (nr_below HNR.out (snd_of (by with_reducible assumption))) HRS.out HV.out (Int.le_refl _)).mono ?_
                   rintro e w5 ⟨A5, n5, c5, rfl, hn5, ho5, hb5⟩
                   obtain rfl : n5 = 8 := hn5.trans HL82.out
                   clear hn5
                   have hb0 : Below wr.heap.size wr _ := snd_of (by with_reducible assumption)
                   have B5 := Lib.hid (show Below wr.heap.size wr w5 from below_from hb0 hb5 (by first | exact Nat.le_refl _ | (have := hb0.size; simp at this; omega) | (simp; omega) | simp))
                   have O5 := Lib.hid ho5
                   have hS5 := ra_cells HK2.out C2.out hb2 B5.out
                   have z5 := hb5.size
                   try simp at z5
                   first | (have o0 := (show Blk (wr.alloc (.cells #[.int .i64 0, .int .i64 0, (.slice none 0 0)] 25)).drew wr.heap.size 25 #[.int .i64 0, .int .i64 0, (.slice none 0 0)] from blk_new wr _ _); have o2 := blk_below o0 hb5 (blk_lt o0); obtain ⟨⟨nn0, nn1, nn2⟩, nf0, nf1, nf2⟩ := blk_three o2; have nB := Lib.hid o2; clear o0 o2) | skip
                   clear hb5 ho5))
            all_goals
              go_wp2_with fail
              go_meet
              first
                | exact ra_new HK1.out HK2.out HBl.out B5.out O5.out (by first | omega | (simp; omega) | simp) HAC2.out HZ2.out
                | exact ra_set HK1.out HK2.out HBl.out B5.out (by first | omega | (simp; omega) | simp) nB.out O5.out (by first | omega | (simp; omega) | simp) HAC2.out HZ2.out
          case rest =>
          obtain ⟨g3, A5, c5, us5, x5, y5, z5, rfl, rfl, hac, hz, hnr, hk3, hk1, hk2, hne, hbl, hg3⟩ := hcut
          have HAC5 := Lib.hid hac
          have HZ5 := Lib.hid hz
          have HNR5 := Lib.hid hnr
          have HK15 := Lib.hid hk1
          have HK25 := Lib.hid hk2
          have HNE5 := Lib.hid hne
          have HB5 := Lib.hid hbl
          have hzc := hbl.size
          have hlt1 := blk_lt hk1
          have hlt2 := blk_lt hk2
          have hlt3 := blk_lt hk3
          obtain ⟨⟨p0, p1, p2⟩, -⟩ := blk_three hk3
          obtain ⟨⟨m0, m1, m2⟩, l0, l1, l2⟩ := blk_three hk2
          clear hac hz hnr hk1 hk2 hk3 hne hbl q0 q1 q2 f0 f1 f2 c02
          go_wp2
          go_roundw
          case rel =>
            refine ⟨p + 1, A5, c5, us5, by omega, by go_num, HAC5.out, HZ5.out, nr_set (nr_set (nr_set HNR5.out HNE5.out _) HNE5.out _) HNE5.out _, ?_, ?_, HNE5.out, Below.setCell (Below.setCell (Below.setCell HB5.out (by simp) _) (by simp) _) (by simp) _⟩
            · exact blk_grown (blk_grown (blk_grown HK15.out (g_set (g_refl _ _) (.inl rfl) _) (show _ ≠ w2.heap.size by omega)) (g_set (g_refl _ _) (.inl rfl) _) (show _ ≠ w2.heap.size by omega)) (g_set (g_refl _ _) (.inl rfl) _) (show _ ≠ w2.heap.size by omega)
            · exact blk_set (blk_set (blk_set HK25.out 0 _) 1 _) 2 _
          case measure => simp [intOf]; omega
        · obtain rfl : p = 8 := by omega
          have HE : Hid (vs = List.replicate 8 0) := Lib.hid (all_zero (ac_of HAC.out).2.2.2.1 HZ.out)
          have HACZ : Hid (acB lim each (List.replicate 8 0) = true) := Lib.hid (by rw [← HE.out]; exact HAC.out)
          obtain ⟨⟨q0, q1, q2⟩, -⟩ := blk_three HK1.out
          have hltr := blk_lt HK1.out
          go_wp2_with fail
          refine (newI_yes lim each _ HACZ.out).mono ?_
          rintro e w5 ⟨A5, n5, c5, rfl, hn5, ho5, hb5⟩
          obtain rfl : n5 = 8 := hn5
          try clear hn5
          have HN5 := Lib.hid (nr_own ho5)
          have HNX := Lib.hid (nr_below HNR.out hb5)
          obtain ⟨⟨m0, m1, m2⟩, -⟩ := blk_three (blk_below HK2.out hb5 (blk_lt HK2.out))
          have hlt25 := blk_lt (blk_below HK2.out hb5 (blk_lt HK2.out))
          have HB5 := Lib.hid (below_seq (below_seq B2.out HBl.out) hb5)
          clear ho5 hb5
          go_wp2_with fail
          refine (asI_any lim each lim each Ax A5 8 cx 8 c5 vs (List.replicate 8 0) _ (nr_alloc HNX.out _) (nr_alloc HN5.out _) (by omega) (by omega)).mono ?_
          rintro e w6 ⟨rfl, hb6⟩
          rw [HE.out, as_refl]
          have HB6 := Lib.hid (below_seq1 HB5.out hb6)
          clear hb6
          go_wp2
          go_ret
          exact ⟨ret_bool (by simp), HB6.out⟩
    · have hlt2 : u < b := by omega
      clear hk hq hu hxp hfl a1 a4 a5 a6 hlt
      go_wp2_with fail
      refine (relI_more lim each A1 8 c1 us k u b _ (by first | with_reducible exact Q.out | with_reducible exact nr_alloc Q.out _ | with_reducible exact nr_alloc (nr_alloc Q.out _) _ | with_reducible exact nr_alloc (nr_alloc (nr_alloc Q.out _) _) _) HK.out HU.out hlt2).mono ?_
      rintro e w2 ⟨A2, n2, c2, rfl, hn2, ho2, hb⟩
      obtain ⟨hc2, hf2⟩ := bcell hb
      have B2 := Lib.hid (show Below w.heap.size w w2 from (by first | exact below_seq B1.out hb | exact below_seq1 B1.out hb | exact below_seq2 B1.out hb | exact below_seq3 B1.out hb | exact below_seq4 B1.out hb))
      have R2 := Lib.hid hb
      have hz2 := hb.size
      try simp at hz2
      clear hb
      try have y20 : w.heap.size < w2.heap.size := by omega
      try have y20a : w.heap.size + 1 < w2.heap.size := by omega
      try have y20b : w.heap.size < w2.heap.size + 1 + 1 := by omega
      try have y20c : w.heap.size + 1 < w2.heap.size + 1 + 1 := by omega
      try have y21 : w1.heap.size < w2.heap.size := by omega
      try have y21a : w1.heap.size + 1 < w2.heap.size := by omega
      try have y21b : w1.heap.size < w2.heap.size + 1 + 1 := by omega
      try have y21c : w1.heap.size + 1 < w2.heap.size + 1 + 1 := by omega
      obtain rfl : n2 = 0 := hn2
      have X := Lib.hid (nr_own ho2)
      clear ho2
      replace Q := Lib.hid (show NR w2 _ _ _ from (by first | with_reducible exact nr_below Q.out R2.out | with_reducible exact nr_below (nr_alloc Q.out _) R2.out | with_reducible exact nr_below (nr_alloc (nr_alloc Q.out _) _) R2.out | with_reducible exact nr_below (nr_alloc (nr_alloc (nr_alloc Q.out _) _) _) R2.out))
      go_wp2_with fail
      refine (relS_more lim each A1 8 c1 us k u b _ (by first | with_reducible exact Q.out | with_reducible exact nr_alloc Q.out _ | with_reducible exact nr_alloc (nr_alloc Q.out _) _ | with_reducible exact nr_alloc (nr_alloc (nr_alloc Q.out _) _) _) HK.out HU.out hlt2).mono ?_
      rintro e w3 ⟨A3, n3, c3, rfl, hn3, ho3, hb⟩
      obtain ⟨hc3, hf3⟩ := bcell hb
      have B3 := Lib.hid (show Below w.heap.size w w3 from (by first | exact below_seq B2.out hb | exact below_seq1 B2.out hb | exact below_seq2 B2.out hb | exact below_seq3 B2.out hb | exact below_seq4 B2.out hb))
      have R3 := Lib.hid hb
      have hz3 := hb.size
      try simp at hz3
      clear hb
      try have y30 : w.heap.size < w3.heap.size := by omega
      try have y30a : w.heap.size + 1 < w3.heap.size := by omega
      try have y30b : w.heap.size < w3.heap.size + 1 + 1 := by omega
      try have y30c : w.heap.size + 1 < w3.heap.size + 1 + 1 := by omega
      try have y31 : w1.heap.size < w3.heap.size := by omega
      try have y31a : w1.heap.size + 1 < w3.heap.size := by omega
      try have y31b : w1.heap.size < w3.heap.size + 1 + 1 := by omega
      try have y31c : w1.heap.size + 1 < w3.heap.size + 1 + 1 := by omega
      try have y32 : w2.heap.size < w3.heap.size := by omega
      try have y32a : w2.heap.size + 1 < w3.heap.size := by omega
      try have y32b : w2.heap.size < w3.heap.size + 1 + 1 := by omega
      try have y32c : w2.heap.size + 1 < w3.heap.size + 1 + 1 := by omega
      obtain rfl : n3 = 0 := hn3
      have Y := Lib.hid (nr_own ho3)
      replace X := Lib.hid (show NR w3 _ _ _ from (by first | with_reducible exact nr_below X.out R3.out | with_reducible exact nr_below (nr_alloc X.out _) R3.out | with_reducible exact nr_below (nr_alloc (nr_alloc X.out _) _) R3.out | with_reducible exact nr_below (nr_alloc (nr_alloc (nr_alloc X.out _) _) _) R3.out))
      clear ho3
      go_wp2_with fail
      refine (asI_any 0 0 0 0 A2 A3 0 c2 0 c3 [] [] _ (by first | with_reducible exact X.out | with_reducible exact nr_alloc X.out _ | with_reducible exact nr_alloc (nr_alloc X.out _) _ | with_reducible exact nr_alloc (nr_alloc (nr_alloc X.out _) _) _) (by first | with_reducible exact Y.out | with_reducible exact nr_alloc Y.out _ | with_reducible exact nr_alloc (nr_alloc Y.out _) _ | with_reducible exact nr_alloc (nr_alloc (nr_alloc Y.out _) _) _) (by omega) (by omega)).mono ?_
      rintro e w4 ⟨rfl, hb⟩
      obtain ⟨hc4, hf4⟩ := bcell hb
      have B4 := Lib.hid (show Below w.heap.size w w4 from (by first | exact below_seq B3.out hb | exact below_seq1 B3.out hb | exact below_seq2 B3.out hb | exact below_seq3 B3.out hb | exact below_seq4 B3.out hb))
      have R4 := Lib.hid hb
      have hz4 := hb.size
      try simp at hz4
      clear hb
      try have y40 : w.heap.size < w4.heap.size := by omega
      try have y40a : w.heap.size + 1 < w4.heap.size := by omega
      try have y40b : w.heap.size < w4.heap.size + 1 + 1 := by omega
      try have y40c : w.heap.size + 1 < w4.heap.size + 1 + 1 := by omega
      try have y41 : w1.heap.size < w4.heap.size := by omega
      try have y41a : w1.heap.size + 1 < w4.heap.size := by omega
      try have y41b : w1.heap.size < w4.heap.size + 1 + 1 := by omega
      try have y41c : w1.heap.size + 1 < w4.heap.size + 1 + 1 := by omega
      try have y42 : w2.heap.size < w4.heap.size := by omega
      try have y42a : w2.heap.size + 1 < w4.heap.size := by omega
      try have y42b : w2.heap.size < w4.heap.size + 1 + 1 := by omega
      try have y42c : w2.heap.size + 1 < w4.heap.size + 1 + 1 := by omega
      try have y43 : w3.heap.size < w4.heap.size := by omega
      try have y43a : w3.heap.size + 1 < w4.heap.size := by omega
      try have y43b : w3.heap.size < w4.heap.size + 1 + 1 := by omega
      try have y43c : w3.heap.size + 1 < w4.heap.size + 1 + 1 := by omega
      rw [as_refl]
      replace X := Lib.hid (show NR w4 _ _ _ from (by first | with_reducible exact nr_below X.out R4.out | with_reducible exact nr_below (nr_alloc X.out _) R4.out | with_reducible exact nr_below (nr_alloc (nr_alloc X.out _) _) R4.out | with_reducible exact nr_below (nr_alloc (nr_alloc (nr_alloc X.out _) _) _) R4.out))
      replace Y := Lib.hid (show NR w4 _ _ _ from (by first | with_reducible exact nr_below Y.out R4.out | with_reducible exact nr_below (nr_alloc Y.out _) R4.out | with_reducible exact nr_below (nr_alloc (nr_alloc Y.out _) _) R4.out | with_reducible exact nr_below (nr_alloc (nr_alloc (nr_alloc Y.out _) _) _) R4.out))
      go_wp2_with fail
      refine (asI_any 0 0 0 0 A2 A3 0 c2 0 c3 [] [] _ (by first | with_reducible exact X.out | with_reducible exact nr_alloc X.out _ | with_reducible exact nr_alloc (nr_alloc X.out _) _ | with_reducible exact nr_alloc (nr_alloc (nr_alloc X.out _) _) _) (by first | with_reducible exact Y.out | with_reducible exact nr_alloc Y.out _ | with_reducible exact nr_alloc (nr_alloc Y.out _) _ | with_reducible exact nr_alloc (nr_alloc (nr_alloc Y.out _) _) _) (by omega) (by omega)).mono ?_
      rintro e w5 ⟨rfl, hb⟩
      obtain ⟨hc5, hf5⟩ := bcell hb
      have B5 := Lib.hid (show Below w.heap.size w w5 from (by first | exact below_seq B4.out hb | exact below_seq1 B4.out hb | exact below_seq2 B4.out hb | exact below_seq3 B4.out hb | exact below_seq4 B4.out hb))
      have R5 := Lib.hid hb
      have hz5 := hb.size
      try simp at hz5
      clear hb
      try have y50 : w.heap.size < w5.heap.size := by omega
      try have y50a : w.heap.size + 1 < w5.heap.size := by omega
      try have y50b : w.heap.size < w5.heap.size + 1 + 1 := by omega
      try have y50c : w.heap.size + 1 < w5.heap.size + 1 + 1 := by omega
      try have y51 : w1.heap.size < w5.heap.size := by omega
      try have y51a : w1.heap.size + 1 < w5.heap.size := by omega
      try have y51b : w1.heap.size < w5.heap.size + 1 + 1 := by omega
      try have y51c : w1.heap.size + 1 < w5.heap.size + 1 + 1 := by omega
      try have y52 : w2.heap.size < w5.heap.size := by omega
      try have y52a : w2.heap.size + 1 < w5.heap.size := by omega
      try have y52b : w2.heap.size < w5.heap.size + 1 + 1 := by omega
      try have y52c : w2.heap.size + 1 < w5.heap.size + 1 + 1 := by omega
      try have y53 : w3.heap.size < w5.heap.size := by omega
      try have y53a : w3.heap.size + 1 < w5.heap.size := by omega
      try have y53b : w3.heap.size < w5.heap.size + 1 + 1 := by omega
      try have y53c : w3.heap.size + 1 < w5.heap.size + 1 + 1 := by omega
      try have y54 : w4.heap.size < w5.heap.size := by omega
      try have y54a : w4.heap.size + 1 < w5.heap.size := by omega
      try have y54b : w4.heap.size < w5.heap.size + 1 + 1 := by omega
      try have y54c : w4.heap.size + 1 < w5.heap.size + 1 + 1 := by omega
      rw [as_refl]
      go_wp2
      all_goals
        go_ret
        refine ⟨rfl, ?_⟩
        repeat refine below_alloc ?_ _
        exact B5.out
theorem own : ownKnob Try.prog.godebug = none := by kernel_rfl
theorem laidOut : laidOutB Try.prog = true := by kernel_rfl
set_option maxRecDepth 100000 in
theorem lifted (os : Os) (started : os.Started) (H : Type) (enc : TypeId × Value → H) :
    ReturnsInHanded {} Try.checked os 13 .any (Rows.fnReleaseAllSpec.pre6 enc Try.prog Try.f13 Rows.fnReleaseAllRow.domain false) (Rows.fnReleaseAllSpec.post enc Try.prog Try.f13 false true false false) := by
  refine returnsInHanded_of_change (C := Try.checked) own started (by kernel_rfl) Try.func13
    (ChangeSpec.witness6 (enc := enc) (C := Try.checked) false ⟨#[], #[.slice none 0 0], []⟩ 8 (by kernel_rfl) (by kernel_rfl) (by kernel_rfl) (by kernel_rfl)) ?_
  intro W base args ds gs before hval0 hW _ _
  have hval : ∀ (j : Nat) t v, Try.f13.params[j]? = some t → args[j]? = some v → Value.okWide Try.prog W .any base t v := hval0
  have hW' := hW
  obtain ⟨p, q, hA0, hV, rfl, _, _⟩ := hW
  have hA : DataW.TrodAll enc Try.prog W 0 (fun _ => true) true Try.f13.params.toList args.toList ds p := hA0
  rw [Try.params13] at hA hval
  obtain ⟨v0, vs0, d0, ds0, p0, q0, hargs, rfl, rfl, h0, r0⟩ := trodAll_cons hA
  obtain ⟨rfl, rfl, rfl⟩ := trodAll_nil r0
  obtain rfl : args = #[v0] := by cases args; simp_all
  obtain ⟨rfl, rfl⟩ := trodVars_none hV
  have lt0 : ∀ x ∈ p0, x.block < W.heap.size := by obtain ⟨m, hm⟩ := h0; exact DataW.trod_lt m _ _ _ hm
  obtain ⟨a0, n0, c0, rfl⟩ := okWide_slice Try.underlying22 (hval 0 22 v0 rfl rfl)
  have w0 : Bytes W a0 n0 c0 := bytes_open h0
  clear hA0 hval0
  refine (walk a0 n0 c0 W w0).mono fun e W' ⟨he, bel⟩ => ?_
  subst he
  exact ⟨_, rfl, _, _, _, [], _, [], hW', trodAll_mk1 (shut_bool Try.underlying4 _), (trodAll_cons_mk (Below.trod laidOut (by kernel_rfl) (of_decide_eq_true (by kernel_rfl)) h0 bel lt0) trodAll_mk0), rfl, bel.frame _, fun h => by cases h⟩
theorem over : Rows.fnReleaseAllRow.holds Try.pinned (OpenSpec.ofChange Rows.fnReleaseAllSpec) :=
  OpenClaim.holds_of_wide 13 Try.f13 rfl rfl rfl rfl rfl rfl rfl ⟨rfl, rfl, rfl, rfl, rfl⟩ rfl rfl rfl rfl rfl (by kernel_rfl) Try.func13 (by kernel_rfl)
    (of_decide_eq_true (by kernel_rfl)) (by unfold Func.isWrapper; first | (rw [if_pos (by decide +kernel)]; kernel_rfl) | (rw [if_neg (by decide +kernel)]; exact ⟨rfl, rfl⟩))
    (fun os started H enc _ => lifted os started H enc)
/-- the given statement -/
theorem proved : Rows.FnReleaseAllSaid := over
end Go.Proofs.Ytkbjelchihdajaa.fnReleaseAll
