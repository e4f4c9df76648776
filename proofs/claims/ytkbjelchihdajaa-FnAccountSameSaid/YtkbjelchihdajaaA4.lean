/-
  Chapter 4: NewAccount, FairShares and OverShare; the model's. Conditions: a slice's length fits an int.
-/
import Derived.Test.YtkbjelchihdajaaA3
import Derived.Test.YtkbjelchihdajaaA2r
namespace Go.Proofs.Ytkbjelchihdajaa
open Go.RowKit

set_option maxHeartbeats 2000000 in
theorem newS_no (lim each : Int) (w : World) (hk : acB lim each (List.replicate 8 0) = false) :
    Calls Try.prog 35 #[.int .i64 lim, .int .i64 each] w (APost1 w 0 0 [] false) := by
  obtain ⟨m, hm⟩ : ∃ m : Nat, m = 8 := ⟨_, rfl⟩
  rw [← hm] at hk
  have HK := Lib.hid hk
  have HM := Lib.hid hm
  have HL8 := Lib.hid (show (8 : Int) = (m : Int) by omega)
  have hm8 : m ≤ 8 := by omega
  clear hk hm
  obtain ⟨i0, hi, hz0, hz1, hz2⟩ := info_parts infoInt
  have HSZ := Lib.hid (show (w.alloc (.cells #[.int .i64 0, .int .i64 0, (.slice none 0 0)] 25)).heap.size = w.heap.size + 1 by simp)
  go_enter Try.func35, Try.ntmps35
  go_wp2_with (refine wpList_make_full _ rfl (.const (.int .i64 8)) (.const (.int .i64 8)) 23 rfl (w.heap.size + 1) 3 i0 _ 1 Try.underlying23 hi hz0 hz1 .i64 .i64 8 8 m rfl rfl HL8.out HL8.out (by rw [hz2]; omega) (by unfold maxLen; omega) (by simp) ?_
               intro w1 ho1 hg1
               rw [zerosI, HSZ.out] at ho1
               have hb1 := Lib.hid (show Below w.heap.size w w1 from by
                 have hb : Below (w.alloc (.cells #[.int .i64 0, .int .i64 0, (.slice none 0 0)] 25)).heap.size (w.alloc (.cells #[.int .i64 0, .int .i64 0, (.slice none 0 0)] 25)) w1 := ⟨hg1.os, hg1.tape, hg1.output, hg1.size, fun i hi => hg1.block i hi (by simp)⟩
                 exact below_from (below_alloc (Below.refl _ _) _) hb (by simp))
               have Z1 := Lib.hid (blk_grownQ (blk_new w 25 #[.int .i64 0, .int .i64 0, (.slice none 0 0)]) hg1 (by simp))
               have O1 := Lib.hid ho1
               have z1 := hg1.size
               simp at z1
               clear ho1 hg1)
  refine (acS_any lim each _ m m (List.replicate m 0) _ (nr_alloc (nr_own O1.out) _) (by omega)).mono ?_
  rintro e w2 ⟨rfl, hb2⟩
  rw [HK.out]
  have B2 := Lib.hid (below_from (below_alloc hb1.out _) hb2 (by simp; omega))
  obtain ⟨⟨o0, o1, o2⟩, f0, f1, f2⟩ := blk_three (blk_below (blk_alloc Z1.out _) hb2 (by simp; omega))
  clear hb2
  go_wp2
  refine bodyPost_ret (v := .tuple #[.agg #[.int .i64 0, .int .i64 0, (.slice none 0 0)], .bool false]) (by simp [results, Try.results35, go_sem, o0, o1, o2]) rfl (apost1_mk rfl (World.ownsRow_nil _ _ _ _) ?_)
  repeat refine Below.setCell ?_ (by simp <;> omega) _
  exact B2.out
set_option maxHeartbeats 2000000 in
theorem newS_yes (lim each : Int) (w : World) (hk : acB lim each (List.replicate 8 0) = true) :
    Calls Try.prog 35 #[.int .i64 lim, .int .i64 each] w (APost1 w lim each (List.replicate 8 0) true) := by
  obtain ⟨m, hm⟩ : ∃ m : Nat, m = 8 := ⟨_, rfl⟩
  rw [← hm] at hk
  have HK := Lib.hid hk
  have HM := Lib.hid hm
  have HL8 := Lib.hid (show (8 : Int) = (m : Int) by omega)
  have hm8 : m ≤ 8 := by omega
  clear hk hm
  obtain ⟨i0, hi, hz0, hz1, hz2⟩ := info_parts infoInt
  have HSZ := Lib.hid (show (w.alloc (.cells #[.int .i64 0, .int .i64 0, (.slice none 0 0)] 25)).heap.size = w.heap.size + 1 by simp)
  go_enter Try.func35, Try.ntmps35
  go_wp2_with (refine wpList_make_full _ rfl (.const (.int .i64 8)) (.const (.int .i64 8)) 23 rfl (w.heap.size + 1) 3 i0 _ 1 Try.underlying23 hi hz0 hz1 .i64 .i64 8 8 m rfl rfl HL8.out HL8.out (by rw [hz2]; omega) (by unfold maxLen; omega) (by simp) ?_
               intro w1 ho1 hg1
               rw [zerosI, HSZ.out] at ho1
               have hb1 := Lib.hid (show Below w.heap.size w w1 from by
                 have hb : Below (w.alloc (.cells #[.int .i64 0, .int .i64 0, (.slice none 0 0)] 25)).heap.size (w.alloc (.cells #[.int .i64 0, .int .i64 0, (.slice none 0 0)] 25)) w1 := ⟨hg1.os, hg1.tape, hg1.output, hg1.size, fun i hi => hg1.block i hi (by simp)⟩
                 exact below_from (below_alloc (Below.refl _ _) _) hb (by simp))
               have Z1 := Lib.hid (blk_grownQ (blk_new w 25 #[.int .i64 0, .int .i64 0, (.slice none 0 0)]) hg1 (by simp))
               have O1 := Lib.hid ho1
               have z1 := hg1.size
               simp at z1
               clear ho1 hg1)
  refine (acS_any lim each _ m m (List.replicate m 0) _ (nr_alloc (nr_own O1.out) _) (by omega)).mono ?_
  rintro e w2 ⟨rfl, hb2⟩
  rw [HK.out]
  have B2 := Lib.hid (below_from (below_alloc hb1.out _) hb2 (by simp; omega))
  have O2 := Lib.hid (own_below (O1.out.alloc _) hb2)
  obtain ⟨⟨o0, o1, o2⟩, f0, f1, f2⟩ := blk_three (blk_below (blk_alloc Z1.out _) hb2 (by simp; omega))
  obtain ⟨⟨l0, l1, l2⟩, -⟩ := blk_three (blk_below (blk_new w1 25 #[.int .i64 lim, .int .i64 each, (.slice (some ⟨w.heap.size + 1, 0, none⟩) m m)]) hb2 (by simp))
  have z2 := hb2.size
  simp at z2
  clear hb2
  go_wp2
  refine bodyPost_ret (v := .tuple #[.agg #[.int .i64 lim, .int .i64 each, (.slice (some ⟨w.heap.size + 1, 0, none⟩) m m)], .bool true]) (by simp [results, Try.results35, go_sem, o0, o1, o2]) rfl (apost1_mk rfl ?_ ?_)
  · rw [← HM.out]
    exact own_mono (own_set_far (own_set_far (own_set_far O2.out (by simp) _) (by simp) _) (by simp) _) (by omega)
  · repeat refine Below.setCell ?_ (by simp <;> omega) _
    exact B2.out
def wantsB (ws : List Int) : Bool := decide (ws.length ≤ 16) && ws.all (fun x => decide (0 ≤ x ∧ x ≤ 5000))
theorem wants_of {ws : List Int} (h : wantsB ws = true) : ws.length ≤ 16 ∧ ∀ x ∈ ws, 0 ≤ x ∧ x ≤ 5000 := by
  simpa [wantsB, List.all_eq_true] using h
theorem wants_bad {ws : List Int} {k : Nat} {x : Int} (hx : ws[k]? = some x) (h : x < 0 ∨ 5000 < x) : wantsB ws = false := by
  rcases hq : wantsB ws with _ | _
  · rfl
  · have := (wants_of hq).2 x (List.mem_of_getElem? hx); omega
theorem wants_long {ws : List Int} (h : ¬ ws.length ≤ 16) : wantsB ws = false := by simp [wantsB, h]
set_option maxHeartbeats 1000000 in
theorem l4Wants_any (A : Option Addr) (n c : Nat) (ws : List Int) (w : World) (h : NR w A n ws) (hn : n ≤ 9223372036854775807) :
    Calls Try.prog 52 #[.slice A n c] w fun e w' => e = .returned (.bool (wantsB ws)) ∧ w' = w := by
  have H := Lib.hid h
  clear h
  go_enter Try.func52, Try.ntmps52
  go_wp2
  go_loop [3] (fun i => ∃ k : Nat, k ≤ n ∧ k ≤ 17 ∧ i = .int .i64 (k : Int) ∧ ∀ x ∈ ws.take k, 0 ≤ x ∧ x ≤ 5000) (fun i => 17 - (intOf i).toNat)
  case atStart => exact ⟨0, Nat.zero_le _, by omega, rfl, fun x hx => by simp at hx⟩
  case round =>
    obtain ⟨k, hk, hk17, rfl, hall⟩ := hrel
    have HA := Lib.hid hall
    clear hall
    by_cases hlt : k < n
    · by_cases h16 : k ≤ 16
      · obtain ⟨b, off, x, rfl, hb, hx, c0⟩ := nr_at H.out hlt
        have HX := Lib.hid hx
        have k0 : (0 : Int) ≤ (k : Int) := by omega
        have k1 : (k : Int) < (n : Int) := by omega
        clear hx
        by_cases hx0 : x < 0
        · go_wp2
          all_goals
            go_ret
            exact ⟨ret_bool (wants_bad HX.out (.inl (by omega))).symm, rfl⟩
        · have e0 : decide (x < 0) = false := by simp; omega
          by_cases hx1 : 5000 < x
          · go_wp2
            all_goals
              go_ret
              exact ⟨ret_bool (wants_bad HX.out (.inr (by omega))).symm, rfl⟩
          · have e1 : decide (5000 < x) = false := by simp; omega
            have HXB := Lib.hid (show 0 ≤ x ∧ x ≤ 5000 by omega)
            clear hx0 hx1
            go_wp2
            go_round
            case rel => exact ⟨k + 1, by omega, by omega, by go_num, mem_take_succ HA.out HX.out HXB.out⟩
            case measure => simp [intOf]; omega
      · have hn16 : ¬ n ≤ 16 := by omega
        have d1 : decide ((n : Int) ≤ 16) = false := by simp; omega
        have d2 : decide ((k : Int) ≤ 16) = false := by simp; omega
        have HE := Lib.hid (wants_long (ws := ws) (by have := H.out.1; omega))
        go_wp2
        all_goals
          go_ret
          exact ⟨ret_bool HE.out.symm, rfl⟩
    · obtain rfl : k = n := by omega
      have HE : Hid (wantsB ws = decide ((k : Int) ≤ 16)) := Lib.hid (by
        rw [Bool.eq_iff_iff, decide_eq_true_eq]
        refine ⟨fun h => by have := (wants_of h).1; have := H.out.1; omega, fun h => ?_⟩
        simp only [wantsB, Bool.and_eq_true, decide_eq_true_eq, List.all_eq_true]
        exact ⟨by have := H.out.1; omega, fun x hx => HA.out x (by rw [List.take_of_length_le (by have := H.out.1; omega)]; exact hx)⟩)
      go_wp2
      go_ret
      exact ⟨ret_bool HE.out.symm, rfl⟩
/-- a list of numbers and a bool are handed back; the numbers are the call's own -/
def LPost (w : World) (xs : List Int) (ok : Bool) (e : Ending) (w' : World) : Prop :=
  ∃ A n c, e = .returned (.tuple #[.slice A n c, .bool ok]) ∧ n = xs.length ∧ w'.ownsRow w.heap.size 3 1 (.slice A n c) n (icells xs) ∧ Below w.heap.size w w'
theorem lpost_mk {w w' : World} {xs : List Int} {ok : Bool} {e : Ending} {A : Option Addr} {n c : Nat} (he : e = .returned (.tuple #[.slice A n c, .bool ok])) (ho : w'.ownsRow w.heap.size 3 1 (.slice A n c) n (icells xs)) (hb : Below w.heap.size w w') : LPost w xs ok e w' :=
  ⟨A, n, c, he, ((nr_own ho).1).symm, ho, hb⟩
open Classical in
noncomputable def shareL (ws : List Int) (b : Int) : List Int := Classical.epsilon (fun s => IsShare ws b s)
theorem share_is {ws : List Int} {b : Int} {s : List Int} (h : IsShare ws b s) : s = shareL ws b := share_unique h (Classical.epsilon_spec (p := fun s => IsShare ws b s) ⟨s, h⟩)
theorem share_ok {ws : List Int} {b : Int} {s : List Int} (h : IsShare ws b s) : IsShare ws b (shareL ws b) := by rw [← share_is h]; exact h
def fairB (ws : List Int) (b : Int) : Bool := wantsB ws && decide (0 ≤ b ∧ b ≤ 5000)
theorem fair_no {ws : List Int} {b : Int} (h : fairB ws b = false) : wantsB ws = false ∨ (wantsB ws = true ∧ (b < 0 ∨ (0 ≤ b ∧ 5000 < b))) := by
  rcases hq : wantsB ws with _ | _
  · exact .inl rfl
  · refine .inr ⟨rfl, ?_⟩
    simp [fairB, hq] at h
    omega
theorem fair_of {ws : List Int} {b : Int} (h : fairB ws b = true) : wantsB ws = true ∧ 0 ≤ b ∧ b ≤ 5000 := by simpa [fairB] using h
set_option maxHeartbeats 1000000 in
theorem fairS_no (A : Option Addr) (n c : Nat) (ws : List Int) (b : Int) (w : World) (h : NR w A n ws) (hn : n ≤ 9223372036854775807) (hk : fairB ws b = false) :
    Calls Try.prog 28 #[.slice A n c, .int .i64 b] w (LPost w [] false) := by
  have H := Lib.hid h
  clear h
  rcases fair_no hk with hq | ⟨hq, h0 | ⟨h0, h1⟩⟩
  · have HQ := Lib.hid hq
    clear hk hq
    go_enter Try.func28, Try.ntmps28
    go_wp2_with fail
    refine (l4Wants_any A n c ws _ H.out hn).mono ?_
    rintro e w1 ⟨rfl, rfl⟩
    rw [HQ.out]
    go_wp2
    go_ret2
    exact lpost_mk rfl (own_emptyI rfl) (below_alloc (Below.refl _ _) _)
  · have HQ := Lib.hid hq
    clear hk hq
    go_enter Try.func28, Try.ntmps28
    go_wp2_with fail
    refine (l4Wants_any A n c ws _ H.out hn).mono ?_
    rintro e w1 ⟨rfl, rfl⟩
    rw [HQ.out]
    go_wp2
    go_ret2
    exact lpost_mk rfl (own_emptyI rfl) (below_alloc (Below.refl _ _) _)
  · have HQ := Lib.hid hq
    have e0 : decide (b < 0) = false := by simp; omega
    clear hk hq
    go_enter Try.func28, Try.ntmps28
    go_wp2_with fail
    refine (l4Wants_any A n c ws _ H.out hn).mono ?_
    rintro e w1 ⟨rfl, rfl⟩
    rw [HQ.out]
    go_wp2
    go_ret2
    exact lpost_mk rfl (own_emptyI rfl) (below_alloc (Below.refl _ _) _)
set_option maxHeartbeats 1000000 in
theorem fairS_yes (A : Option Addr) (n c : Nat) (ws : List Int) (b : Int) (w : World) (h : NR w A n ws) (hk : fairB ws b = true) :
    Calls Try.prog 28 #[.slice A n c, .int .i64 b] w fun e w' => LPost w (shareL ws b) true e w' ∧ IsShare ws b (shareL ws b) := by
  have H := Lib.hid h
  obtain ⟨hq, b0, b1⟩ := fair_of hk
  have n16 : n ≤ 16 := by have := (wants_of hq).1; have := h.1; omega
  have HW := Lib.hid (wants_of hq).2
  have HQ := Lib.hid hq
  have e0 : decide (b < 0) = false := by simp; omega
  have e1 : decide (5000 < b) = false := by simp; omega
  clear h hk hq
  go_enter Try.func28, Try.ntmps28
  go_wp2_with fail
  refine (l4Wants_any A n c ws _ H.out (by omega)).mono ?_
  rintro e w1 ⟨rfl, rfl⟩
  rw [HQ.out]
  go_wp2_with fail
  refine (l4Shares_any A n c ws b _ H.out HW.out (by omega) ⟨b0, b1⟩).mono ?_
  rintro e w2 ⟨A2, s, rfl, hs, ho, hb⟩
  have HS := Lib.hid hs
  have HO := Lib.hid (And.intro ho hb)
  clear hs ho hb
  go_wp2
  go_ret2
  exact ⟨lpost_mk rfl (by rw [← share_is HS.out]; exact HO.out.1) HO.out.2, share_ok HS.out⟩
end Go.Proofs.Ytkbjelchihdajaa
