/-
  Chapter 4: validity, equality, what is free, a copy with a change; the program's. Conditions: a slice's length fits an int; what is copied has at most 4000000000 numbers. Chapter 4: what is free, Reserve, Release, NewAccount; the program's. Conditions: a slice has at most 4000000000 numbers.
  Conditions: each lemma says them.
-/
import Derived.Test.YtanaeebjcbbagaaKhaZ1
import Derived.Test.YtanaeebjcbbagaaKbZ1
import Derived.Lib.SliceRun
namespace Go.Proofs.Ytanaeebjcbbagaa
open Go.RowKit
def allB (lo hi : Int) (us : List Int) : Bool := us.all (fun x => inB x lo hi)
theorem all_of {lo hi : Int} {us : List Int} (h : allB lo hi us = true) : ∀ x ∈ us, lo ≤ x ∧ x ≤ hi := by
  simpa [allB, inB, List.all_eq_true] using h
theorem all_bad {lo hi x : Int} {us : List Int} {k : Nat} (hx : us[k]? = some x) (h : inB x lo hi = false) : allB lo hi us = false := by
  rcases hq : allB lo hi us with _ | _
  · rfl
  · have := all_of hq x (List.mem_of_getElem? hx)
    simp [inB] at h
    omega
theorem all_mk {lo hi : Int} {us : List Int} (h : ∀ x ∈ us, inB x lo hi = true) : allB lo hi us = true := by
  simpa [allB, List.all_eq_true] using h
theorem inB_yes {x lo hi : Int} (h : lo ≤ x ∧ x ≤ hi) : inB x lo hi = true := by simp only [inB, decide_eq_true_eq]; exact h
set_option maxHeartbeats 1000000 in
theorem allW_any (A : Option Addr) (n c : Nat) (us : List Int) (lo hi : Int) (w : World) (h : NR w A n us) (hn : n ≤ 9223372036854775807) :
    Calls Try.prog 74 #[.slice A n c, .int .i64 lo, .int .i64 hi] w fun e w' => e = .returned (.bool (allB lo hi us)) ∧ w' = w := by
  have H := Lib.hid h
  clear h
  go_enter Try.func74, Try.ntmps74
  go_wp2
  go_loop [11] (fun i => ∃ k : Nat, k ≤ n ∧ i = .int .i64 (k : Int) ∧ ∀ x ∈ us.take k, inB x lo hi = true) (fun i => n - (intOf i).toNat)
  case atStart => exact ⟨0, Nat.zero_le _, rfl, fun x hx => by simp at hx⟩
  case round =>
    obtain ⟨k, hk, rfl, hall⟩ := hrel
    have HA := Lib.hid hall
    clear hall
    by_cases hlt : k < n
    · obtain ⟨b, off, x, rfl, hb, hx, c0⟩ := nr_at H.out hlt
      have HX := Lib.hid hx
      have k0 : (0 : Int) ≤ (k : Int) := by omega
      have k1 : (k : Int) < (n : Int) := by omega
      clear hx
      rcases hin : inB x lo hi with _ | _
      · have HI := Lib.hid hin
        go_wp2_with (go_at_call 43; refine (within_any _ _ _ _).mono ?_; rintro e w' ⟨rfl, rfl⟩; rw [HI.out])
        go_ret
        exact ⟨ret_bool (all_bad HX.out HI.out).symm, rfl⟩
      · have HI := Lib.hid hin
        go_wp2_with (go_at_call 43; refine (within_any _ _ _ _).mono ?_; rintro e w' ⟨rfl, rfl⟩; rw [HI.out])
        go_round
        case rel => exact ⟨k + 1, by omega, by go_num, mem_take_succ (P := fun x => inB x lo hi = true) HA.out HX.out HI.out⟩
        case measure => simp [intOf]; omega
    · obtain rfl : k = n := by omega
      have HE : Hid (allB lo hi us = true) := Lib.hid (all_mk fun x hx => HA.out x (by rw [List.take_of_length_le (by have := H.out.1; omega)]; exact hx))
      go_wp2
      go_ret
      exact ⟨ret_bool HE.out.symm, rfl⟩
theorem allW_is (A : Option Addr) (n c : Nat) (us : List Int) (lo hi : Int) (v : Bool) (w : World) (h : NR w A n us) (hn : n ≤ 9223372036854775807) (hv : allB lo hi us = v) :
    Calls Try.prog 74 #[.slice A n c, .int .i64 lo, .int .i64 hi] w fun e w' => e = .returned (.bool v) ∧ w' = w := by
  subst hv
  exact allW_any A n c us lo hi w h hn
set_option maxHeartbeats 1000000 in
theorem sumI_is (A : Option Addr) (n c : Nat) (us : List Int) (S : Int) (w : World) (h : NR w A n us) (hb : ∀ x ∈ us, 0 ≤ x ∧ x ≤ 5000) (hn : n ≤ 64) (hS : sumL us = S) :
    Calls Try.prog 75 #[.slice A n c] w fun e w' => e = .returned (.int .i64 S) ∧ w' = w := by
  subst hS
  have H := Lib.hid h
  have HB := Lib.hid hb
  clear h hb
  go_enter Try.func75, Try.ntmps75
  go_wp2
  go_loop [3, 8] (fun s i => ∃ k : Nat, k ≤ n ∧ i = .int .i64 (k : Int) ∧ s = .int .i64 (sumL (us.take k))) (fun _ i => n - (intOf i).toNat)
  case atStart => exact ⟨0, Nat.zero_le _, rfl, rfl⟩
  case round =>
    obtain ⟨k, hk, rfl, rfl⟩ := hrel
    by_cases hlt : k < n
    · obtain ⟨b, off, x, rfl, hb, hx, c0⟩ := nr_at H.out hlt
      have HS := Lib.hid (sumL_take hx)
      obtain ⟨x0, x1⟩ := HB.out x (List.mem_of_getElem? hx)
      obtain ⟨s0, s1⟩ := sumL_take_bd HB.out k (by omega)
      have hl := H.out.1
      have s2 : sumL (us.take k) ≤ 320000 := by omega
      clear hx s1 hl
      go_wp2
      go_round
      case rel => exact ⟨k + 1, by omega, by go_num, by rw [HS.out]⟩
      case measure => simp [intOf]; omega
    · obtain rfl : k = n := by omega
      go_wp2
      go_ret
      exact ⟨ret_int (by rw [List.take_of_length_le (by have := H.out.1; omega)]), rfl⟩
theorem ac_all {lim each : Int} {us : List Int} (h : allB 0 each us = false) : acB lim each us = false := by
  rcases hq : acB lim each us with _ | _
  · rfl
  · rw [all_mk fun x hx => inB_yes ((ac_of hq).1 x hx)] at h; cases h
set_option maxHeartbeats 2000000 in
theorem acI_any (lim each : Int) (A : Option Addr) (n c : Nat) (us : List Int) (w : World) (h : NR w A n us) (hn : n ≤ 9223372036854775807) :
    Calls Try.prog 46 #[.agg #[.int .i64 lim, .int .i64 each, (.slice A n c)]] w fun e w' => e = .returned (.bool (acB lim each us)) ∧ Below w.heap.size w w' := by
  have F := Lib.hid (fa_first (lim := lim) (each := each) (c := c) h)
  have HL := Lib.hid h.1
  obtain ⟨⟨q0, q1, q2⟩, -⟩ := fa_cells F.out
  clear h
  rcases h1 : inB lim 1 5000 with _ | _
  · have HI := Lib.hid h1
    have HE : Hid (acB lim each us = false) := Lib.hid (ac_no fun hd => by have := inB_yes (x := lim) (lo := 1) (hi := 5000) ⟨hd.1, hd.2.1⟩; rw [h1] at this; cases this)
    clear h1
    go_enter Try.func46, Try.ntmps46
    go_wp2_with (go_at_call 43; refine (within_any _ _ _ _).mono ?_; rintro e w' ⟨rfl, rfl⟩; rw [HI.out])
    go_ret
    exact ⟨ret_bool HE.out.symm, fa_bel F.out⟩
  · rcases h2 : inB each 1 lim with _ | _
    · have HI := Lib.hid (And.intro h1 h2)
      have HE : Hid (acB lim each us = false) := Lib.hid (ac_no fun hd => by have := inB_yes (x := each) (lo := 1) (hi := lim) ⟨hd.2.2.1, hd.2.2.2.1⟩; rw [h2] at this; cases this)
      clear h1 h2
      go_enter Try.func46, Try.ntmps46
      go_wp2_with (go_at_call 43; refine (within_any _ _ _ _).mono ?_; rintro e w' ⟨rfl, rfl⟩; first | rw [HI.out.1] | rw [HI.out.2])
      go_ret
      exact ⟨ret_bool HE.out.symm, fa_bel F.out⟩
    · have HI := Lib.hid (And.intro h1 h2)
      have hl : 1 ≤ lim ∧ lim ≤ 5000 := by simpa [inB] using h1
      have he : 1 ≤ each ∧ each ≤ lim := by simpa [inB] using h2
      clear h1 h2
      by_cases h8 : n = 8
      · subst h8
        rcases h3 : allB 0 each us with _ | _
        · have H3 := Lib.hid h3
          have HE := Lib.hid (ac_all (lim := lim) h3)
          clear h3
          go_enter Try.func46, Try.ntmps46
          go_wp2_with (first | (go_at_call 43; refine (within_any _ _ _ _).mono ?_; rintro e w' ⟨rfl, rfl⟩; first | rw [HI.out.1] | rw [HI.out.2]) | fail)
          go_quiet ((go_at_call 74; exact Calls.quiet_of_same (allW_is A 8 c us 0 each _ _ (fa_pr (fa_drewN F.out _)) (by omega) H3.out)))
          go_wp2
          go_ret
          exact ⟨ret_bool HE.out.symm, fa_bel (fa_drewN F.out _)⟩
        · have H3 := Lib.hid h3
          have HALL : Hid (∀ x ∈ us, 0 ≤ x ∧ x ≤ 5000) := Lib.hid (fun x hx => by have := all_of h3 x hx; omega)
          obtain ⟨S, hS⟩ : ∃ S, sumL us = S := ⟨_, rfl⟩
          have HS := Lib.hid hS
          have HE : Hid (acB lim each us = decide (S ≤ lim)) := Lib.hid (by
            rw [Bool.eq_iff_iff, decide_eq_true_eq, ← hS]
            exact ⟨fun h => (ac_of h).2.2.2.2.1, fun h => ac_mk (all_of h3) hl.1 hl.2 he.1 he.2 HL.out h⟩)
          clear h3 hS
          go_enter Try.func46, Try.ntmps46
          go_wp2_with (first | (go_at_call 43; refine (within_any _ _ _ _).mono ?_; rintro e w' ⟨rfl, rfl⟩; first | rw [HI.out.1] | rw [HI.out.2]) | fail)
          go_quiet ((first | (go_at_call 74; exact Calls.quiet_of_same (allW_is A 8 c us 0 each _ _ (fa_pr (fa_drewN F.out _)) (by omega) H3.out)) | (go_at_call 75; exact Calls.quiet_of_same (sumI_is A 8 c us S _ (fa_pr (fa_drewN F.out _)) HALL.out (by omega) HS.out))))
          go_wp2
          go_ret
          exact ⟨ret_bool HE.out.symm, fa_bel (fa_drewN F.out _)⟩
      · have HE : Hid (acB lim each us = false) := Lib.hid (ac_no fun hd => h8 (HL.out.symm.trans hd.2.2.2.2))
        have d6 : ((n : Int) == 8) = false := by simp; omega
        go_enter Try.func46, Try.ntmps46
        go_wp2_with (first | (go_at_call 43; refine (within_any _ _ _ _).mono ?_; rintro e w' ⟨rfl, rfl⟩; first | rw [HI.out.1] | rw [HI.out.2]) | fail)
        go_quiet (fail)
        go_wp2
        go_ret
        exact ⟨ret_bool HE.out.symm, fa_bel (fa_drewN F.out _)⟩
set_option maxHeartbeats 2000000 in
theorem eqII_any (A A2 : Option Addr) (n c n2 c2 : Nat) (us vs : List Int) (w : World) (h : NR w A n us) (h2 : NR w A2 n2 vs) (hn : n ≤ 9223372036854775807) (hn2 : n2 ≤ 9223372036854775807) :
    Calls Try.prog 48 #[.slice A n c, .slice A2 n2 c2] w fun e w' => e = .returned (.bool (intsB us vs)) ∧ Below w.heap.size w w' := by
  have H := Lib.hid h
  have H2 := Lib.hid h2
  clear h h2
  by_cases hl : n = n2
  · subst hl
    go_enter Try.func48, Try.ntmps48
    go_wp2
    go_loopw [13] (fun i wr => InRel us vs w n i wr) (fun i _ => n - (intOf i).toNat)
    case atStart => exact ⟨0, Nat.zero_le _, rfl, by simp, Below.refl _ _⟩
    case round =>
      obtain ⟨k, hk, rfl, ht, hbl⟩ := hrel
      have HT := Lib.hid ht
      have HB := Lib.hid hbl
      clear ht
      by_cases hlt : k < n
      · obtain ⟨b, off, x, rfl, hb, hx, c0⟩ := nr_at (nr_below H.out hbl) hlt
        obtain ⟨b2, off2, y, rfl, hb2, hy, d0⟩ := nr_at (nr_below H2.out hbl) hlt
        have HX := Lib.hid hx
        have HY := Lib.hid hy
        have k0 : (0 : Int) ≤ (k : Int) := by omega
        have k1 : (k : Int) < (n : Int) := by omega
        clear hbl hx hy
        by_cases hxy : x = y
        · subst hxy
          go_wp2_with fail
          go_quiet (fail)
          go_wp2
          go_roundw
          case rel => exact ⟨k + 1, by omega, by go_num, takeI_step HT.out HX.out HY.out, below_drewN HB.out _⟩
          case measure => simp [intOf]; omega
        · have hne : (x != y) = true := by simp [hxy]
          have HN := Lib.hid hxy
          clear hxy
          go_wp2_with fail
          go_quiet (fail)
          go_wp2
          go_ret
          exact ⟨ret_bool (ints_no (by rintro rfl; have := HX.out; rw [HY.out] at this; injection this with this; exact HN.out this.symm)), below_drewN HB.out _⟩
      · obtain rfl : k = n := by omega
        clear hbl
        go_wp2
        go_ret
        exact ⟨ret_bool (ints_yes (takeI_all HT.out (by have := H.out.1; omega) (by have := H2.out.1; omega))), HB.out⟩
  · have hlb : ((n : Int) != (n2 : Int)) = true := by simp; omega
    have HL := Lib.hid hl
    clear hl
    go_enter Try.func48, Try.ntmps48
    go_wp2
    go_ret
    exact ⟨ret_bool (ints_no (by rintro rfl; exact HL.out (H.out.1.symm.trans H2.out.1))), Below.refl _ _⟩
end Go.Proofs.Ytanaeebjcbbagaa
namespace Go.Proofs.Ytanaeebjcbbagaa
open Go.RowKit
set_option maxHeartbeats 2000000 in
theorem newI_no (lim each : Int) (w : World) (hk : acB lim each (List.replicate 8 0) = false) :
    Calls Try.prog 28 #[.int .i64 lim, .int .i64 each] w (APost1 w 0 0 [] false) := by
  obtain ⟨m, hm⟩ : ∃ m : Nat, m = 8 := ⟨_, rfl⟩
  rw [← hm] at hk
  have HK := Lib.hid hk
  have HM := Lib.hid hm
  have HL8 := Lib.hid (show (8 : Int) = (m : Int) by omega)
  have hm8 : m ≤ 8 := by omega
  clear hk hm
  obtain ⟨i0, hi, hz0, hz1, hz2⟩ := info_parts infoInt
  have HSZ := Lib.hid (show (w.alloc (.cells #[.int .i64 0, .int .i64 0, (.slice none 0 0)] 32)).heap.size = w.heap.size + 1 by simp)
  go_enter Try.func28, Try.ntmps28
  go_wp2_with (refine wpList_make_full _ rfl (.const (.int .i64 8)) (.const (.int .i64 8)) 23 rfl (w.heap.size + 1) 3 i0 _ 1 Try.underlying23 hi hz0 hz1 .i64 .i64 8 8 m rfl rfl HL8.out HL8.out (by rw [hz2]; omega) (by unfold maxLen; omega) (by simp) ?_
               intro w1 ho1 hg1
               rw [zerosI, HSZ.out] at ho1
               have hb1 := Lib.hid (show Below w.heap.size w w1 from by
                 have hb : Below (w.alloc (.cells #[.int .i64 0, .int .i64 0, (.slice none 0 0)] 32)).heap.size (w.alloc (.cells #[.int .i64 0, .int .i64 0, (.slice none 0 0)] 32)) w1 := ⟨hg1.os, hg1.tape, hg1.output, hg1.size, fun i hi => hg1.block i hi (by simp)⟩
                 exact below_from (below_alloc (Below.refl _ _) _) hb (by simp))
               have Z1 := Lib.hid (blk_grownQ (blk_new w 32 #[.int .i64 0, .int .i64 0, (.slice none 0 0)]) hg1 (by simp))
               have O1 := Lib.hid ho1
               have z1 := hg1.size
               simp at z1
               clear ho1 hg1)
  refine (acI_any lim each _ m m (List.replicate m 0) _ (nr_alloc (nr_own O1.out) _) (by omega)).mono ?_
  rintro e w2 ⟨rfl, hb2⟩
  rw [HK.out]
  have B2 := Lib.hid (below_from (below_alloc hb1.out _) hb2 (by simp; omega))
  obtain ⟨⟨o0, o1, o2⟩, f0, f1, f2⟩ := blk_threeA (blk_below (blk_alloc Z1.out _) hb2 (by simp; omega))
  clear hb2
  go_wp2
  refine bodyPost_ret (v := .tuple #[.agg #[.int .i64 0, .int .i64 0, (.slice none 0 0)], .bool false]) (by simp [results, Try.results28, go_sem, o0, o1, o2]) rfl (apost1_mk rfl (World.ownsRow_nil _ _ _ _) ?_)
  repeat refine Below.setCell ?_ (by simp <;> omega) _
  exact B2.out
set_option maxHeartbeats 2000000 in
theorem newI_yes (lim each : Int) (w : World) (hk : acB lim each (List.replicate 8 0) = true) :
    Calls Try.prog 28 #[.int .i64 lim, .int .i64 each] w (APost1 w lim each (List.replicate 8 0) true) := by
  obtain ⟨m, hm⟩ : ∃ m : Nat, m = 8 := ⟨_, rfl⟩
  rw [← hm] at hk
  have HK := Lib.hid hk
  have HM := Lib.hid hm
  have HL8 := Lib.hid (show (8 : Int) = (m : Int) by omega)
  have hm8 : m ≤ 8 := by omega
  clear hk hm
  obtain ⟨i0, hi, hz0, hz1, hz2⟩ := info_parts infoInt
  have HSZ := Lib.hid (show (w.alloc (.cells #[.int .i64 0, .int .i64 0, (.slice none 0 0)] 32)).heap.size = w.heap.size + 1 by simp)
  go_enter Try.func28, Try.ntmps28
  go_wp2_with (refine wpList_make_full _ rfl (.const (.int .i64 8)) (.const (.int .i64 8)) 23 rfl (w.heap.size + 1) 3 i0 _ 1 Try.underlying23 hi hz0 hz1 .i64 .i64 8 8 m rfl rfl HL8.out HL8.out (by rw [hz2]; omega) (by unfold maxLen; omega) (by simp) ?_
               intro w1 ho1 hg1
               rw [zerosI, HSZ.out] at ho1
               have hb1 := Lib.hid (show Below w.heap.size w w1 from by
                 have hb : Below (w.alloc (.cells #[.int .i64 0, .int .i64 0, (.slice none 0 0)] 32)).heap.size (w.alloc (.cells #[.int .i64 0, .int .i64 0, (.slice none 0 0)] 32)) w1 := ⟨hg1.os, hg1.tape, hg1.output, hg1.size, fun i hi => hg1.block i hi (by simp)⟩
                 exact below_from (below_alloc (Below.refl _ _) _) hb (by simp))
               have Z1 := Lib.hid (blk_grownQ (blk_new w 32 #[.int .i64 0, .int .i64 0, (.slice none 0 0)]) hg1 (by simp))
               have O1 := Lib.hid ho1
               have z1 := hg1.size
               simp at z1
               clear ho1 hg1)
  refine (acI_any lim each _ m m (List.replicate m 0) _ (nr_alloc (nr_own O1.out) _) (by omega)).mono ?_
  rintro e w2 ⟨rfl, hb2⟩
  rw [HK.out]
  have B2 := Lib.hid (below_from (below_alloc hb1.out _) hb2 (by simp; omega))
  have O2 := Lib.hid (own_below (O1.out.alloc _) hb2)
  obtain ⟨⟨o0, o1, o2⟩, f0, f1, f2⟩ := blk_threeA (blk_below (blk_alloc Z1.out _) hb2 (by simp; omega))
  obtain ⟨⟨l0, l1, l2⟩, -⟩ := blk_threeA (blk_below (blk_new w1 32 #[.int .i64 lim, .int .i64 each, (.slice (some ⟨w.heap.size + 1, 0, none⟩) m m)]) hb2 (by simp))
  have z2 := hb2.size
  simp at z2
  clear hb2
  go_wp2
  refine bodyPost_ret (v := .tuple #[.agg #[.int .i64 lim, .int .i64 each, (.slice (some ⟨w.heap.size + 1, 0, none⟩) m m)], .bool true]) (by simp [results, Try.results28, go_sem, o0, o1, o2]) rfl (apost1_mk rfl ?_ ?_)
  · rw [← HM.out]
    exact own_mono (own_set_far (own_set_far (own_set_far O2.out (by simp) _) (by simp) _) (by simp) _) (by omega)
  · repeat refine Below.setCell ?_ (by simp <;> omega) _
    exact B2.out
end Go.Proofs.Ytanaeebjcbbagaa
