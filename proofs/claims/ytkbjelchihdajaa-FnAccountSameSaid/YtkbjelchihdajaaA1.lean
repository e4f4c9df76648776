/-
  Chapter 4: AccountValid and AccountSame; the model's. Conditions: the slice's length fits an int.
-/
import Derived.Test.YtkbjelchihdajaaFn
namespace Go.Proofs.Ytkbjelchihdajaa
open Go.RowKit

set_option maxHeartbeats 400000 in
theorem l4Sum_any (A : Option Addr) (n c : Nat) (us : List Int) (w : World) (h : NR w A n us) (hb : ∀ x ∈ us, 0 ≤ x ∧ x ≤ 5000) (hn : n ≤ 64) :
    Calls Try.prog 54 #[.slice A n c] w fun e w' => e = .returned (.int .i64 (sumL us)) ∧ w' = w := by
  have H := Lib.hid h
  have HB := Lib.hid hb
  clear h hb
  go_enter Try.func54, Try.ntmps54
  go_wp2
  go_loop [3, 4] (fun s i => ∃ k : Nat, k ≤ n ∧ i = .int .i64 (k : Int) ∧ s = .int .i64 (sumL (us.take k))) (fun _ i => n - (intOf i).toNat)
  case atStart => exact ⟨0, Nat.zero_le _, rfl, rfl⟩
  case round =>
    obtain ⟨k, hk, rfl, rfl⟩ := hrel
    by_cases hlt : k < n
    · obtain ⟨b, off, x, rfl, hb, hx, c0⟩ := nr_at H.out hlt
      have HS := Lib.hid (sumL_take hx)
      obtain ⟨x0, x1⟩ := HB.out x (List.mem_of_getElem? hx)
      obtain ⟨s0, s1⟩ := sumL_take_bd HB.out k (by omega)
      have hl := H.out.1
      have s2 : sumL (us.take k) ≤ 320000 := by omega
      clear hx s1 hl
      go_wp2
      go_round
      case rel => exact ⟨k + 1, by omega, by go_num, by rw [HS.out]⟩
      case measure => simp [intOf]; omega
    · obtain rfl : k = n := by omega
      go_wp2
      go_ret
      exact ⟨ret_int (by rw [List.take_of_length_le (by have := H.out.1; omega)]), rfl⟩
theorem l4Sum_is (A : Option Addr) (n c : Nat) (us : List Int) (S : Int) (w : World) (h : NR w A n us) (hb : ∀ x ∈ us, 0 ≤ x ∧ x ≤ 5000) (hn : n ≤ 64) (hS : sumL us = S) :
    Calls Try.prog 54 #[.slice A n c] w fun e w' => e = .returned (.int .i64 S) ∧ w' = w := by
  subst hS
  exact l4Sum_any A n c us w h hb hn
def acBs (lim each : Int) (A : Option Addr) (n c : Nat) : List (TypeId × Array Value) := [(25, #[.int .i64 lim, .int .i64 each, (.slice A n c)])]
theorem fn_cell3 {w w1 : World} {t : TypeId} {x y z : Value} {r : List (TypeId × Array Value)} {A : Option Addr} {n : Nat} {ps : List Int} (h : Fn w ((t, #[x, y, z]) :: r) A n ps w1) : w1.cell? ⟨w.heap.size, 0, none⟩ = some x ∧ w1.cell? ⟨w.heap.size, 1, none⟩ = some y ∧ w1.cell? ⟨w.heap.size, 2, none⟩ = some z :=
  ⟨blk_cell (h.it 0 _ _ rfl) 0, blk_cell (h.it 0 _ _ rfl) 1, blk_cell (h.it 0 _ _ rfl) 2⟩
theorem ac_no {lim each : Int} {us : List Int} (h : ¬ (1 ≤ lim ∧ lim ≤ 5000 ∧ 1 ≤ each ∧ each ≤ lim ∧ us.length = 8)) : acB lim each us = false := by
  rcases hq : acB lim each us with _ | _
  · rfl
  · obtain ⟨-, h2, h3, h4, -⟩ := ac_of hq
    exact absurd ⟨h2.1, h2.2, h3.1, h3.2, h4⟩ h
theorem ac_bad {lim each x : Int} {us : List Int} {k : Nat} (hx : us[k]? = some x) (h : x < 0 ∨ each < x) : acB lim each us = false := by
  rcases hq : acB lim each us with _ | _
  · rfl
  · have := (ac_of hq).1 x (List.mem_of_getElem? hx)
    omega
def AcRel (w : World) (lim each : Int) (A : Option Addr) (c : Nat) (us : List Int) (i : Value) (wr : World) : Prop :=
  ∃ k : Nat, k ≤ 8 ∧ i = .int .i64 (k : Int) ∧ (∀ x ∈ us.take k, 0 ≤ x ∧ x ≤ each) ∧ Fn w (acBs lim each A 8 c) A 8 us wr
theorem mem_take_succ {us : List Int} {k : Nat} {x : Int} {P : Int → Prop} (h : ∀ y ∈ us.take k, P y) (hx : us[k]? = some x) (hp : P x) : ∀ y ∈ us.take (k + 1), P y := by
  intro y hy
  rw [List.take_add_one, hx] at hy
  rcases List.mem_append.1 hy with hy | hy
  · exact h y hy
  · simp at hy; subst hy; exact hp
set_option maxHeartbeats 2000000 in
theorem acS_any (lim each : Int) (A : Option Addr) (n c : Nat) (us : List Int) (w : World) (h : NR w A n us) (hn : n ≤ 9223372036854775807) :
    Calls Try.prog 38 #[.agg #[.int .i64 lim, .int .i64 each, (.slice A n c)]] w fun e w' => e = .returned (.bool (acB lim each us)) ∧ Below w.heap.size w w' := by
  have F := Lib.hid (fn_one h 25 #[.int .i64 lim, .int .i64 each, (.slice A n c)])
  have HL := Lib.hid h.1
  clear h
  by_cases hd : 1 ≤ lim ∧ lim ≤ 5000 ∧ 1 ≤ each ∧ each ≤ lim ∧ n = 8
  · obtain ⟨d1, d2, d3, d4, rfl⟩ := hd
    have R0 : Hid (AcRel w lim each A c us (.int .i64 0) (w.alloc (.cells #[.int .i64 lim, .int .i64 each, (.slice A 8 c)] 25))) := Lib.hid ⟨0, Nat.zero_le _, rfl, fun x hx => by simp at hx, F.out⟩
    clear F
    go_enter Try.func38, Try.ntmps38
    go_wp2
    go_loopw [3] (fun i wr => AcRel w lim each A c us i wr) (fun i _ => 8 - (intOf i).toNat)
    case atStart => exact R0.out
    case round =>
      obtain ⟨k, hk, rfl, hall, hF⟩ := hrel
      clear R0
      have HF := Lib.hid hF
      have HA := Lib.hid hall
      obtain ⟨q0, q1, q2⟩ := fn_cell3 hF
      clear hall
      by_cases hlt : k < 8
      · obtain ⟨b, off, x, rfl, hb, hx, c0⟩ := nr_at hF.pr hlt
        have HX := Lib.hid hx
        have k0 : (0 : Int) ≤ (k : Int) := by omega
        have k1 : (k : Int) < (8 : Int) := by omega
        clear hF hx
        by_cases hx0 : x < 0
        · go_wp2_with fail
          go_quiet (fail)
          go_wp2
          go_ret
          exact ⟨ret_bool (ac_bad HX.out (.inl hx0)).symm, (fn_drewN HF.out _).below⟩
        · have e0 : decide (x < 0) = false := by simp; omega
          by_cases hx1 : each < x
          · go_wp2_with fail
            go_quiet (fail)
            go_wp2
            go_ret
            exact ⟨ret_bool (ac_bad HX.out (.inr hx1)).symm, (fn_drewN HF.out _).below⟩
          · have e1 : decide (each < x) = false := by simp; omega
            have HXB := Lib.hid (show 0 ≤ x ∧ x ≤ each by omega)
            clear hx0 hx1
            go_wp2_with fail
            go_quiet (fail)
            go_wp2
            go_roundw
            case rel => exact ⟨k + 1, by omega, by go_num, mem_take_succ HA.out HX.out HXB.out, fn_drewN HF.out _⟩
            case measure => simp [intOf]; omega
      · obtain rfl : k = 8 := by omega
        have HALL : Hid (∀ x ∈ us, 0 ≤ x ∧ x ≤ 5000) := Lib.hid (fun x hx => by have := HA.out x (by rw [List.take_of_length_le (by have := HL.out; omega)]; exact hx); omega)
        have HE : Hid (acB lim each us = decide (sumL us ≤ lim)) := Lib.hid (by
          have h1 : ∀ x ∈ us, 0 ≤ x ∧ x ≤ each := fun x hx => HA.out x (by rw [List.take_of_length_le (by have := HL.out; omega)]; exact hx)
          rw [Bool.eq_iff_iff, decide_eq_true_eq]
          exact ⟨fun h => (ac_of h).2.2.2.2.1, fun h => ac_mk h1 d1 d2 d3 d4 HL.out h⟩)
        clear hF
        go_wp2_with fail
        go_quiet ((go_at_call 54; exact Calls.quiet_of_same (l4Sum_any A 8 c us _ HF.out.pr HALL.out (by omega))))
        go_wp2
        go_ret
        exact ⟨ret_bool HE.out.symm, (fn_drewN HF.out _).below⟩
  · have HE := Lib.hid (ac_no (us := us) (lim := lim) (each := each) (by rw [HL.out]; exact hd))
    obtain ⟨q0, q1, q2⟩ := fn_cell3 F.out
    have hor : lim < 1 ∨ (1 ≤ lim ∧ 5000 < lim) ∨ (1 ≤ lim ∧ lim ≤ 5000 ∧ each < 1) ∨ (1 ≤ lim ∧ lim ≤ 5000 ∧ 1 ≤ each ∧ lim < each) ∨ (1 ≤ lim ∧ lim ≤ 5000 ∧ 1 ≤ each ∧ each ≤ lim ∧ ¬ n = 8) := by omega
    clear hd
    rcases hor with d1 | ⟨d1, d2⟩ | ⟨d1, d2, d3⟩ | ⟨d1, d2, d3, d4⟩ | ⟨d1, d2, d3, d4, d5⟩
    · go_enter Try.func38, Try.ntmps38
      go_wp2
      all_goals
        go_ret
        exact ⟨ret_bool HE.out.symm, F.out.below⟩
    · go_enter Try.func38, Try.ntmps38
      go_wp2
      all_goals
        go_ret
        exact ⟨ret_bool HE.out.symm, F.out.below⟩
    · go_enter Try.func38, Try.ntmps38
      go_wp2
      all_goals
        go_ret
        exact ⟨ret_bool HE.out.symm, F.out.below⟩
    · go_enter Try.func38, Try.ntmps38
      go_wp2
      all_goals
        go_ret
        exact ⟨ret_bool HE.out.symm, F.out.below⟩
    · have d6 : ((n : Int) != 8) = true := by simp; omega
      go_enter Try.func38, Try.ntmps38
      go_wp2
      all_goals
        go_ret
        exact ⟨ret_bool HE.out.symm, F.out.below⟩
open Classical in
noncomputable def intsB (us vs : List Int) : Bool := decide (us = vs)
theorem ints_refl (us : List Int) : intsB us us = true := by simp [intsB]
theorem ints_yes {us vs : List Int} (h : us = vs) : true = intsB us vs := by simp [intsB, h]
theorem ints_no {us vs : List Int} (h : ¬ us = vs) : false = intsB us vs := by simp [intsB, h]
theorem takeI_step {us vs : List Int} {k : Nat} {x : Int} (h : us.take k = vs.take k) (hx : us[k]? = some x) (hy : vs[k]? = some x) : us.take (k + 1) = vs.take (k + 1) := by
  rw [List.take_add_one, List.take_add_one, h, hx, hy]
theorem takeI_all {us vs : List Int} {k : Nat} (h : us.take k = vs.take k) (h1 : us.length ≤ k) (h2 : vs.length ≤ k) : us = vs := by
  rw [List.take_of_length_le h1, List.take_of_length_le h2] at h; exact h
def InRel (us vs : List Int) (w : World) (n : Nat) (i : Value) (wr : World) : Prop :=
  ∃ k : Nat, k ≤ n ∧ i = .int .i64 (k : Int) ∧ us.take k = vs.take k ∧ Below w.heap.size w wr
set_option maxHeartbeats 1000000 in
theorem l4Ints_any (A A2 : Option Addr) (n c n2 c2 : Nat) (us vs : List Int) (w : World) (h : NR w A n us) (h2 : NR w A2 n2 vs) (hn : n ≤ 9223372036854775807) (hn2 : n2 ≤ 9223372036854775807) :
    Calls Try.prog 57 #[.slice A n c, .slice A2 n2 c2] w fun e w' => e = .returned (.bool (intsB us vs)) ∧ Below w.heap.size w w' := by
  have H := Lib.hid h
  have H2 := Lib.hid h2
  clear h h2
  by_cases hl : n = n2
  · subst hl
    go_enter Try.func57, Try.ntmps57
    go_wp2
    go_loopw [5] (fun i wr => InRel us vs w n i wr) (fun i _ => n - (intOf i).toNat)
    case atStart => exact ⟨0, Nat.zero_le _, rfl, by simp, Below.refl _ _⟩
    case round =>
      obtain ⟨k, hk, rfl, ht, hbl⟩ := hrel
      have HT := Lib.hid ht
      have HB := Lib.hid hbl
      clear ht
      by_cases hlt : k < n
      · obtain ⟨b, off, x, rfl, hb, hx, c0⟩ := nr_at (nr_below H.out hbl) hlt
        obtain ⟨b2, off2, y, rfl, hb2, hy, d0⟩ := nr_at (nr_below H2.out hbl) hlt
        have HX := Lib.hid hx
        have HY := Lib.hid hy
        have k0 : (0 : Int) ≤ (k : Int) := by omega
        have k1 : (k : Int) < (n : Int) := by omega
        clear hbl hx hy
        by_cases hxy : x = y
        · subst hxy
          go_wp2_with fail
          go_quiet (fail)
          go_wp2
          go_roundw
          case rel => exact ⟨k + 1, by omega, by go_num, takeI_step HT.out HX.out HY.out, below_drewN HB.out _⟩
          case measure => simp [intOf]; omega
        · have hne : (x != y) = true := by simp [hxy]
          have HN := Lib.hid hxy
          clear hxy
          go_wp2_with fail
          go_quiet (fail)
          go_wp2
          go_ret
          exact ⟨ret_bool (ints_no (by rintro rfl; have := HX.out; rw [HY.out] at this; injection this with this; exact HN.out this.symm)), below_drewN HB.out _⟩
      · obtain rfl : k = n := by omega
        clear hbl
        go_wp2
        go_ret
        exact ⟨ret_bool (ints_yes (takeI_all HT.out (by have := H.out.1; omega) (by have := H2.out.1; omega))), HB.out⟩
  · have hlb : ((n : Int) != (n2 : Int)) = true := by simp; omega
    have HL := Lib.hid hl
    clear hl
    go_enter Try.func57, Try.ntmps57
    go_wp2
    go_ret
    exact ⟨ret_bool (ints_no (by rintro rfl; exact HL.out (H.out.1.symm.trans H2.out.1))), Below.refl _ _⟩
noncomputable def asB (l1 e1 : Int) (us : List Int) (l2 e2 : Int) (vs : List Int) : Bool := decide (l1 = l2) && (decide (e1 = e2) && intsB us vs)
theorem as_refl (l e : Int) (us : List Int) : asB l e us l e us = true := by simp [asB, ints_refl]
theorem as_true {l1 e1 l2 e2 : Int} {us vs : List Int} (h : asB l1 e1 us l2 e2 vs = true) : l1 = l2 ∧ e1 = e2 ∧ us = vs := by
  simpa [asB, intsB] using h
theorem as_sym {l1 e1 l2 e2 : Int} {us vs : List Int} (h : asB l1 e1 us l2 e2 vs = false) : asB l2 e2 vs l1 e1 us = false := by
  rcases hq : asB l2 e2 vs l1 e1 us with _ | _
  · rfl
  · obtain ⟨rfl, rfl, rfl⟩ := as_true hq
    rw [as_refl] at h; exact h
set_option maxHeartbeats 1000000 in
theorem asS_any (l1 e1 l2 e2 : Int) (A A2 : Option Addr) (n c n2 c2 : Nat) (us vs : List Int) (w : World) (h : NR w A n us) (h2 : NR w A2 n2 vs) (hn : n ≤ 9223372036854775807) (hn2 : n2 ≤ 9223372036854775807) :
    Calls Try.prog 37 #[.agg #[.int .i64 l1, .int .i64 e1, (.slice A n c)], .agg #[.int .i64 l2, .int .i64 e2, (.slice A2 n2 c2)]] w fun e w' => e = .returned (.bool (asB l1 e1 us l2 e2 vs)) ∧ Below w.heap.size w w' := by
  have H := Lib.hid h
  have H2 := Lib.hid h2
  have B0 := Lib.hid (below_alloc (below_alloc (Below.refl w.heap.size w) (.cells #[.int .i64 l1, .int .i64 e1, (.slice A n c)] 25)) (.cells #[.int .i64 l2, .int .i64 e2, (.slice A2 n2 c2)] 25))
  clear h h2
  by_cases hl : l1 = l2
  · subst hl
    by_cases he : e1 = e2
    · subst he
      have HQ : Hid (asB l1 e1 us l1 e1 vs = intsB us vs) := Lib.hid (by simp [asB])
      go_enter Try.func37, Try.ntmps37
      go_wp2_with fail
      refine (l4Ints_any A A2 n c n2 c2 us vs _ (nr_alloc (nr_alloc H.out _) _) (nr_alloc (nr_alloc H2.out _) _) hn hn2).mono ?_
      rintro e w1 ⟨rfl, hb⟩
      have HB := Lib.hid (below_seq B0.out hb)
      clear hb
      go_wp2
      go_ret
      exact ⟨ret_bool HQ.out.symm, HB.out⟩
    · have HQ : Hid (asB l1 e1 us l1 e2 vs = false) := Lib.hid (by simp [asB, he])
      have hd : (e1 == e2) = false := by simp [he]
      clear he
      go_enter Try.func37, Try.ntmps37
      go_wp2
      go_ret
      exact ⟨ret_bool HQ.out.symm, B0.out⟩
  · have HQ : Hid (asB l1 e1 us l2 e2 vs = false) := Lib.hid (by simp [asB, hl])
    have hd : (l1 == l2) = false := by simp [hl]
    clear hl
    go_enter Try.func37, Try.ntmps37
    go_wp2
    go_ret
    exact ⟨ret_bool HQ.out.symm, B0.out⟩
end Go.Proofs.Ytkbjelchihdajaa
