/-
  Chapter 11: shares, fairness: what the program's functions and the model's return. Conditions: a slice's length fits an int.
-/
import Derived.Test.YtaccbmgbkalknaaY1
namespace Go.Proofs.Ytaccbmgbkalknaa
open Go.RowKit

theorem sh_of {us : List Int} (h : shB us = true) : us.length ≤ 16 ∧ ∀ x ∈ us, 0 ≤ x ∧ x ≤ 100000 := by
  simpa [shB, List.all_eq_true] using h
theorem sh_mk {us : List Int} (h1 : us.length ≤ 16) (h2 : ∀ x ∈ us, 0 ≤ x ∧ x ≤ 100000) : shB us = true := by
  simp only [shB, Bool.and_eq_true, decide_eq_true_eq, List.all_eq_true]; exact ⟨h1, h2⟩
theorem sh_bad {us : List Int} {k : Nat} {x : Int} (hx : us[k]? = some x) (h : ¬(0 ≤ x ∧ x ≤ 100000)) : shB us = false := by
  rcases hq : shB us with _ | _
  · rfl
  · exact absurd ((sh_of hq).2 x (List.mem_of_getElem? hx)) h
theorem sh_long {us : List Int} (h : 16 < us.length) : shB us = false := by
  rcases hq : shB us with _ | _
  · rfl
  · have := (sh_of hq).1; omega
/-- what fairness is, and whether there is one -/
def frV (us : List Int) : Int := if shB us = true then frN us else 0
theorem sq_step {us : List Int} {k : Nat} {x : Int} (hv : ∀ x ∈ us, 0 ≤ x ∧ x ≤ 100000) (hl : us.length ≤ 16) (hx : us[k]? = some x) :
    (0 ≤ x ∧ x ≤ 100000) ∧ (0 ≤ x * x ∧ x * x ≤ 10000000000) ∧ (0 ≤ sumL (us.take k) ∧ sumL (us.take k) ≤ 1600000) ∧ (0 ≤ sqL (us.take k) ∧ sqL (us.take k) ≤ 160000000000) := by
  have h1 := hv x (List.mem_of_getElem? hx)
  have h2 : x * x ≤ 100000 * 100000 := Int.mul_le_mul h1.2 h1.2 h1.1 (by omega)
  have h3 := sumL_take_bd hv k (by omega)
  have h4 := sqL_bd (xs := us.take k) (B := 100000) fun y hy => hv y (List.mem_of_mem_take hy)
  have h5 : ((us.take k).length : Int) ≤ 16 := by simp; omega
  have h6 := sqn x
  refine ⟨h1, ⟨h6, by omega⟩, ⟨h3.1, by omega⟩, h4.1, by omega⟩
theorem sq_all {us : List Int} (hv : ∀ x ∈ us, 0 ≤ x ∧ x ≤ 100000) (hl : us.length ≤ 16) :
    (0 ≤ sumL us ∧ sumL us ≤ 1600000) ∧ (0 ≤ sqL us ∧ sqL us ≤ 160000000000) ∧ (0 ≤ 1000 * sumL us * sumL us ∧ 1000 * sumL us * sumL us ≤ 2560000000000000) ∧ (0 ≤ (us.length : Int) * sqL us ∧ (us.length : Int) * sqL us ≤ 2560000000000) := by
  have h3 := sumL_bd hv
  have h4 := sqL_bd hv
  have h5 : (us.length : Int) ≤ 16 := by omega
  have h6 : sumL us ≤ 1600000 := by omega
  have h7 : sqL us ≤ 160000000000 := by omega
  have h8 : sumL us * sumL us ≤ 1600000 * 1600000 := Int.mul_le_mul h6 h6 h3.1 (by omega)
  have h9 := sqn (sumL us)
  have h10 : (us.length : Int) * sqL us ≤ 16 * 160000000000 := Int.mul_le_mul h5 h7 h4.1 (by omega)
  have h11 : 0 ≤ (us.length : Int) * sqL us := Int.mul_nonneg (by omega) h4.1
  have h12 : 1000 * sumL us * sumL us = 1000 * (sumL us * sumL us) := Int.mul_assoc ..
  refine ⟨⟨h3.1, h6⟩, ⟨h4.1, h7⟩, ⟨by omega, by omega⟩, h11, by omega⟩
theorem shI_any (A : Option Addr) (n c : Nat) (us : List Int) (w : World) (h : NR w A n us) (hn : n ≤ 9223372036854775807) :
    Calls Try.prog 47 #[.slice A n c] w fun e w' => e = .returned (.bool (shB us)) ∧ w = w' := by
  have H := Lib.hid h
  clear h
  by_cases h16 : n ≤ 16
  · have h1 : (n : Int) ≤ 16 := by omega
    obtain ⟨v, hv⟩ : ∃ v, allD 0 100000 us = v := ⟨_, rfl⟩
    have HV := Lib.hid hv
    clear hv
    go_enter Try.func47, Try.ntmps47
    go_wp2_with (go_at_call 39; refine (allD_is A n c us 0 100000 v _ H.out hn HV.out).mono ?_; rintro e w' ⟨rfl, rfl⟩)
    go_ret
    exact ⟨ret_bool (by rw [← HV.out, shB, decide_eq_true (by have := H.out.1; omega)]; rfl), rfl⟩
  · have h1 : decide ((n : Int) ≤ 16) = false := by simp; omega
    go_enter Try.func47, Try.ntmps47
    go_wp2
    go_ret
    exact ⟨ret_bool (sh_long (by have := H.out.1; omega)).symm, rfl⟩
theorem shI_is (A : Option Addr) (n c : Nat) (us : List Int) (v : Bool) (w : World) (h : NR w A n us) (hn : n ≤ 9223372036854775807) (hv : shB us = v) :
    Calls Try.prog 47 #[.slice A n c] w fun e w' => e = .returned (.bool v) ∧ w = w' := by
  subst hv
  exact shI_any A n c us w h hn
set_option maxHeartbeats 2000000 in
theorem shS_any (A : Option Addr) (n c : Nat) (us : List Int) (v : Bool) (w : World) (h : NR w A n us) (hn : n ≤ 9223372036854775807) (hv : shB us = v) :
    Calls Try.prog 49 #[.slice A n c] w fun e w' => e = .returned (.bool v) ∧ w = w' := by
  have H := Lib.hid h
  have HV := Lib.hid hv
  clear h hv
  go_enter Try.func49, Try.ntmps49
  go_wp2
  go_loop [3] (fun i => ∃ k : Nat, k ≤ n ∧ k ≤ 17 ∧ i = .int .i64 (k : Int) ∧ ∀ x ∈ us.take k, 0 ≤ x ∧ x ≤ 100000) (fun i => n - (intOf i).toNat)
  case atStart => exact ⟨0, Nat.zero_le _, by omega, rfl, fun x hx => by simp at hx⟩
  case round =>
    obtain ⟨k, hk, hk17, rfl, hall⟩ := hrel
    have HA := Lib.hid hall
    clear hall
    by_cases hlt : k < n
    · have k0 : (0 : Int) ≤ (k : Int) := by omega
      have k1 : (k : Int) < (n : Int) := by omega
      by_cases h16 : k ≤ 16
      · have k2 : (k : Int) ≤ 16 := by omega
        obtain ⟨b, off, x, rfl, hb, hx, c0⟩ := nr_at H.out hlt
        have HX := Lib.hid hx
        by_cases h1 : x < 0
        · have HE := Lib.hid (sh_bad hx (by omega))
          clear hx
          go_wp2
          go_ret
          exact ⟨ret_bool (by rw [← HV.out, HE.out]), rfl⟩
        · by_cases h5 : 100000 < x
          · have HE := Lib.hid (sh_bad hx (by omega))
            clear hx
            go_wp2
            go_ret
            exact ⟨ret_bool (by rw [← HV.out, HE.out]), rfl⟩
          · clear hx
            go_wp2
            go_round
            case rel => exact ⟨k + 1, by omega, by omega, by go_num, memT_succ (P := fun x => 0 ≤ x ∧ x ≤ 100000) HA.out HX.out ⟨by omega, by omega⟩⟩
            case measure => simp [intOf]; omega
      · have k2 : decide ((k : Int) ≤ 16) = false := by simp; omega
        have k3 : ¬ (n : Int) ≤ 16 := by omega
        go_wp2
        go_ret
        exact ⟨ret_bool (by rw [← HV.out, sh_long (by have := H.out.1; omega)]), rfl⟩
    · obtain rfl : k = n := by omega
      have HM : Hid (decide ((k : Int) ≤ 16) = shB us) := Lib.hid (by
        have hl := H.out.1
        by_cases h16 : k ≤ 16
        · rw [sh_mk (by omega) (fun x hx => HA.out x (by rw [List.take_of_length_le (by omega)]; exact hx))]; simp <;> omega
        · rw [sh_long (by omega)]; simp <;> omega)
      go_wp2
      go_ret
      exact ⟨ret_bool (by rw [HM.out, HV.out]), rfl⟩
set_option maxHeartbeats 1000000 in
theorem sumY_is (A : Option Addr) (n c : Nat) (us : List Int) (S : Int) (w : World) (h : NR w A n us) (hv : ∀ x ∈ us, 0 ≤ x ∧ x ≤ 100000) (hn : n ≤ 16) (hS : sumL us = S) :
    Calls Try.prog 48 #[.slice A n c] w fun e w' => e = .returned (.int .i64 S) ∧ w = w' := by
  subst hS
  have H := Lib.hid h
  have HB := Lib.hid hv
  clear h hv
  go_enter Try.func48, Try.ntmps48
  go_wp2
  go_loop [3, 8] (fun s i => ∃ k : Nat, k ≤ n ∧ i = .int .i64 (k : Int) ∧ s = .int .i64 (sumL (us.take k))) (fun _ i => n - (intOf i).toNat)
  case atStart => exact ⟨0, Nat.zero_le _, rfl, rfl⟩
  case round =>
    obtain ⟨k, hk, rfl, rfl⟩ := hrel
    by_cases hlt : k < n
    · obtain ⟨b, off, x, rfl, hb, hx, c0⟩ := nr_at H.out hlt
      have HS := Lib.hid (sumL_take hx)
      obtain ⟨⟨x0, x1⟩, -, ⟨s0, s1⟩, -⟩ := sq_step HB.out (by have := H.out.1; omega) hx
      clear hx
      go_wp2
      go_round
      case rel => exact ⟨k + 1, by omega, by go_num, by rw [HS.out]⟩
      case measure => simp [intOf]; omega
    · obtain rfl : k = n := by omega
      go_wp2
      go_ret
      exact ⟨ret_int (by rw [List.take_of_length_le (by have := H.out.1; omega)]), rfl⟩
set_option maxHeartbeats 2000000 in
theorem frI_any (A : Option Addr) (n c : Nat) (us : List Int) (F : Int) (ok : Bool) (w : World) (h : NR w A n us) (hn : n ≤ 9223372036854775807) (hF : frV us = F) (hok : shB us = ok) :
    Calls Try.prog 24 #[.slice A n c] w fun e w' => e = .returned (.tuple #[.int .i64 F, .bool ok]) ∧ Below w.heap.size w w' := by
  have H := Lib.hid h
  have HK := Lib.hid hok
  have HF := Lib.hid hF
  clear h hF
  rcases hk : ok with _ | _
  · subst hk
    obtain rfl : F = 0 := by rw [← HF.out, frV, HK.out]; rfl
    clear hok
    go_enter Try.func24, Try.ntmps24
    go_wp2_with (go_at_call 47; refine (shI_is A n c us false _ H.out hn HK.out).mono ?_; rintro e w' ⟨rfl, rfl⟩)
    go_ret2
    exact ⟨rfl, Below.refl _ _⟩
  · subst hk
    obtain ⟨hl, hv⟩ := sh_of hok
    have hn16 : n ≤ 16 := by have := H.out.1; omega
    have HV := Lib.hid hv
    have HF2 : Hid (F = frN us) := Lib.hid (by rw [← HF.out, frV, HK.out]; rfl)
    clear hok hv
    obtain ⟨⟨s0, s1⟩, ⟨q0, q1⟩, ⟨p0, p1⟩, ⟨m0, m1⟩⟩ := sq_all HV.out hl
    rw [H.out.1] at m0 m1
    clear hl
    obtain ⟨S, hS⟩ : ∃ S, sumL us = S := ⟨_, rfl⟩
    obtain ⟨Q, hQ⟩ : ∃ Q, sqL us = Q := ⟨_, rfl⟩
    rw [hS] at s0 s1 p0 p1
    rw [hQ] at q0 q1 m0 m1
    have HS := Lib.hid hS
    have HQ := Lib.hid hQ
    clear hS hQ
    go_enter Try.func24, Try.ntmps24
    go_wp2_with (go_at_call 47; refine (shI_is A n c us true _ H.out hn HK.out).mono ?_; rintro e w' ⟨rfl, rfl⟩)
    go_loop [4, 13] (fun s i => ∃ k : Nat, k ≤ n ∧ i = .int .i64 (k : Int) ∧ s = .int .i64 (sqL (us.take k))) (fun _ i => n - (intOf i).toNat)
    case atStart => exact ⟨0, Nat.zero_le _, rfl, rfl⟩
    case round =>
      obtain ⟨k, hk, rfl, rfl⟩ := hrel
      by_cases hlt : k < n
      · obtain ⟨b, off, x, rfl, hb, hx, c0⟩ := nr_at H.out hlt
        have HSQ := Lib.hid (sqL_take hx)
        obtain ⟨⟨x0, x1⟩, ⟨x2, x3⟩, -, ⟨t0, t1⟩⟩ := sq_step HV.out (by have := H.out.1; omega) hx
        clear hx
        go_wp2
        go_round
        case rel => exact ⟨k + 1, by omega, by go_num, by rw [HSQ.out]⟩
        case measure => simp [intOf]; omega
      · obtain rfl : k = n := by omega
        rw [List.take_of_length_le (by have := H.out.1; omega), HQ.out]
        by_cases hq : Q = 0
        · subst hq
          go_wp2
          go_ret2
          exact ⟨by rw [HF2.out, frN, HQ.out]; rfl, Below.refl _ _⟩
        · have hq' : (Q == 0) = false := by simpa using hq
          have hd : ((k : Int) * Q == 0) = false := by
            have := den_pos (l := us) (by rw [HQ.out]; exact hq)
            rw [H.out.1, HQ.out] at this
            rw [beq_eq_false_iff_ne]; omega
          have hd' : ¬ (k : Int) * Q = 0 := by simpa using hd
          have HD : Hid (F = (1000 * S * S).tdiv ((k : Int) * Q)) := Lib.hid (by rw [HF2.out, frN, HQ.out, HS.out, H.out.1, if_neg hq, Int.tdiv_eq_ediv_of_nonneg p0])
          have t0 : 0 ≤ (1000 * S * S).tdiv ((k : Int) * Q) := by rw [Int.tdiv_eq_ediv_of_nonneg p0]; exact Int.ediv_nonneg p0 m0
          have t1 : (1000 * S * S).tdiv ((k : Int) * Q) ≤ 2560000000000000 := by rw [Int.tdiv_eq_ediv_of_nonneg p0]; exact Int.le_trans (Int.ediv_le_self _ p0) p1
          clear hq
          go_wp2_with (go_at_call 48; refine (sumY_is A k c us S _ H.out HV.out hn16 HS.out).mono ?_; rintro e w' ⟨rfl, rfl⟩)
          go_ret2
          exact ⟨by rw [HD.out]; rfl, Below.refl _ _⟩
set_option maxHeartbeats 2000000 in
theorem frS_any (A : Option Addr) (n c : Nat) (us : List Int) (F : Int) (ok : Bool) (w : World) (h : NR w A n us) (hn : n ≤ 9223372036854775807) (hF : frV us = F) (hok : shB us = ok) :
    Calls Try.prog 25 #[.slice A n c] w fun e w' => e = .returned (.tuple #[.int .i64 F, .bool ok]) ∧ Below w.heap.size w w' := by
  have H := Lib.hid h
  have HK := Lib.hid hok
  have HF := Lib.hid hF
  clear h hF
  rcases hk : ok with _ | _
  · subst hk
    obtain rfl : F = 0 := by rw [← HF.out, frV, HK.out]; rfl
    clear hok
    go_enter Try.func25, Try.ntmps25
    go_wp2_with (go_at_call 49; refine (shS_any A n c us false _ H.out hn HK.out).mono ?_; rintro e w' ⟨rfl, rfl⟩)
    go_ret2
    exact ⟨rfl, Below.refl _ _⟩
  · subst hk
    obtain ⟨hl, hv⟩ := sh_of hok
    have hn16 : n ≤ 16 := by have := H.out.1; omega
    have HV := Lib.hid hv
    have HF2 : Hid (F = frN us) := Lib.hid (by rw [← HF.out, frV, HK.out]; rfl)
    clear hok hv
    obtain ⟨⟨s0, s1⟩, ⟨q0, q1⟩, ⟨p0, p1⟩, ⟨m0, m1⟩⟩ := sq_all HV.out hl
    rw [H.out.1] at m0 m1
    clear hl
    obtain ⟨S, hS⟩ : ∃ S, sumL us = S := ⟨_, rfl⟩
    obtain ⟨Q, hQ⟩ : ∃ Q, sqL us = Q := ⟨_, rfl⟩
    rw [hS] at s0 s1 p0 p1
    rw [hQ] at q0 q1 m0 m1
    have HS := Lib.hid hS
    have HQ := Lib.hid hQ
    clear hS hQ
    go_enter Try.func25, Try.ntmps25
    go_wp2_with (go_at_call 49; refine (shS_any A n c us true _ H.out hn HK.out).mono ?_; rintro e w' ⟨rfl, rfl⟩)
    go_loopw [4, 5, 6] (fun s q i wr => Below w.heap.size w wr ∧ ∃ k : Nat, k ≤ n ∧ i = .int .i64 (k : Int) ∧ s = .int .i64 (sumL (us.take k)) ∧ q = .int .i64 (sqL (us.take k))) (fun _ _ i _ => n - (intOf i).toNat)
    case atStart => exact ⟨Below.refl _ _, 0, Nat.zero_le _, rfl, rfl, rfl⟩
    case round =>
      obtain ⟨hbl, k, hk, rfl, rfl, rfl⟩ := hrel
      have HBL := Lib.hid hbl
      clear hbl
      by_cases hlt : k < n
      · obtain ⟨b, off, x, rfl, hb, hx, c0⟩ := nr_at (nr_below H.out HBL.out) hlt
        have HSQ := Lib.hid (sqL_take hx)
        have HSU := Lib.hid (sumL_take hx)
        obtain ⟨⟨x0, x1⟩, ⟨x2, x3⟩, ⟨u0, u1⟩, ⟨t0, t1⟩⟩ := sq_step HV.out (by have := H.out.1; omega) hx
        have k0 : (0 : Int) ≤ (k : Int) := by omega
        have k1 : (k : Int) < (n : Int) := by omega
        clear hx
        go_wp2_with fail
        go_quiet (fail)
        go_wp2
        go_roundw
        case rel => exact ⟨below_drewN HBL.out _, k + 1, by omega, by go_num, by rw [HSU.out], by rw [HSQ.out]⟩
        case measure => simp [intOf]; omega
      · obtain rfl : k = n := by omega
        rw [List.take_of_length_le (by have := H.out.1; omega), HQ.out, HS.out]
        by_cases hq : Q = 0
        · subst hq
          go_wp2
          go_ret2
          exact ⟨by rw [HF2.out, frN, HQ.out]; rfl, HBL.out⟩
        · have hq' : (Q == 0) = false := by simpa using hq
          have hd : ((k : Int) * Q == 0) = false := by
            have := den_pos (l := us) (by rw [HQ.out]; exact hq)
            rw [H.out.1, HQ.out] at this
            rw [beq_eq_false_iff_ne]; omega
          have hd' : ¬ (k : Int) * Q = 0 := by simpa using hd
          have HD : Hid (F = (1000 * S * S).tdiv ((k : Int) * Q)) := Lib.hid (by rw [HF2.out, frN, HQ.out, HS.out, H.out.1, if_neg hq, Int.tdiv_eq_ediv_of_nonneg p0])
          have t0 : 0 ≤ (1000 * S * S).tdiv ((k : Int) * Q) := by rw [Int.tdiv_eq_ediv_of_nonneg p0]; exact Int.ediv_nonneg p0 m0
          have t1 : (1000 * S * S).tdiv ((k : Int) * Q) ≤ 2560000000000000 := by rw [Int.tdiv_eq_ediv_of_nonneg p0]; exact Int.le_trans (Int.ediv_le_self _ p0) p1
          clear hq
          go_wp2
          go_ret2
          exact ⟨by rw [HD.out]; rfl, HBL.out⟩
end Go.Proofs.Ytaccbmgbkalknaa
