/-
  Chapter 4: FairShares and OverShare; the program's. Conditions: a slice's length fits an int.
-/
import Derived.Test.YtkbjelchihdajaaAI2
import Derived.Lib.MinMax
namespace Go.Proofs.Ytkbjelchihdajaa
open Go.RowKit

theorem allW_eq (A : Option Addr) (n c : Nat) (us : List Int) (lo hi : Int) (w : World) (h : NR w A n us) (hn : n ≤ 9223372036854775807) :
    Calls Try.prog 48 #[.slice A n c, .int .i64 lo, .int .i64 hi] w fun e w' => e = .returned (.bool (allB lo hi us)) ∧ w = w' :=
  (allW_any A n c us lo hi w h hn).mono fun _ _ h => ⟨h.1, h.2.symm⟩
theorem sumI_eq (A : Option Addr) (n c : Nat) (us : List Int) (S : Int) (w : World) (h : NR w A n us) (hb : ∀ x ∈ us, 0 ≤ x ∧ x ≤ 5000) (hn : n ≤ 64) (hS : sumL us = S) :
    Calls Try.prog 46 #[.slice A n c] w fun e w' => e = .returned (.int .i64 S) ∧ w = w' :=
  (sumI_is A n c us S w h hb hn hS).mono fun _ _ h => ⟨h.1, h.2.symm⟩
theorem wants_all {ws : List Int} (h : ws.length ≤ 16) : wantsB ws = allB 0 5000 ws := by simp [wantsB, allB, inB, h]
set_option maxHeartbeats 1000000 in
theorem fairI_no (A : Option Addr) (n c : Nat) (ws : List Int) (b : Int) (w : World) (h : NR w A n ws) (hn : n ≤ 9223372036854775807) (hk : fairB ws b = false) :
    Calls Try.prog 27 #[.slice A n c, .int .i64 b] w (LPost w [] false) := by
  have H := Lib.hid h
  by_cases h16 : n ≤ 16
  · have HW := Lib.hid (wants_all (ws := ws) (by have := h.1; omega))
    have d16 : decide (16 < (n : Int)) = false := by simp; omega
    rcases ha : allB 0 5000 ws with _ | _
    · have HA := Lib.hid ha
      clear h hk ha
      go_enter Try.func27, Try.ntmps27
      go_wp2_with (go_at_call 48; refine (allW_eq A n c ws 0 5000 _ H.out hn).mono ?_; rintro e w' ⟨rfl, rfl⟩; rw [HA.out])
      go_ret2
      exact lpost_mk rfl (World.ownsRow_nil _ _ _ _) (Below.refl _ _)
    · have HA := Lib.hid ha
      have hb : inB b 0 5000 = false := by
        rcases fair_no hk with hq | ⟨-, hq⟩
        · rw [HW.out, ha] at hq; cases hq
        · exact inB_no (by omega)
      have HI := Lib.hid hb
      clear h hk ha hb
      go_enter Try.func27, Try.ntmps27
      go_wp2_with (first | (go_at_call 48; refine (allW_eq A n c ws 0 5000 _ H.out hn).mono ?_; rintro e w' ⟨rfl, rfl⟩; rw [HA.out]) | (go_at_call 47; refine (within_any _ _ _ _).mono ?_; rintro e w' ⟨rfl, rfl⟩; rw [HI.out]))
      go_ret2
      exact lpost_mk rfl (World.ownsRow_nil _ _ _ _) (Below.refl _ _)
  · have g16 : (16 : Int) < (n : Int) := by omega
    have d16 : decide ((16 : Int) < (n : Int)) = true := by simp; omega
    clear h hk
    go_enter Try.func27, Try.ntmps27
    go_wp2
    go_ret2
    exact lpost_mk rfl (World.ownsRow_nil _ _ _ _) (Below.refl _ _)
theorem dealt_pos {ws : List Int} {T z : Int} {s : List Int} (h : Dealt ws T s z) (hz : 0 < z) (hT : T ≤ sumL ws) : 0 < ws.length := by
  obtain ⟨-, h1, r, k, rfl, -⟩ := h
  cases ws with
  | nil => simp [lev, sumL] at h1 hT; omega
  | cons x ws => simp
theorem dealt_bd {ws : List Int} {T z : Int} {s : List Int} (h : Dealt ws T s z) (hv : ∀ x ∈ ws, 0 ≤ x ∧ x ≤ 5000) : 0 ≤ z ∧ z ≤ T := by
  obtain ⟨h0, h1, r, k, rfl, -⟩ := h
  have := lev_bd (r := r) (k := k) hv
  omega
def FOut (w : World) (A : Option Addr) (n : Nat) (ws : List Int) (T : Int) (lf : Value) (wr : World) : Prop :=
  ∃ (s : List Int) (z : Int), lf = .int .i64 z ∧ Dealt ws T s z ∧ SH w A n ws w.heap.size s wr
def FIn (w : World) (A : Option Addr) (n : Nat) (ws : List Int) (T z0 : Int) (r q : Nat) (lf i : Value) (wr : World) : Prop :=
  ∃ (k : Nat) (s : List Int) (z : Int), k ≤ n ∧ i = .int .i64 (k : Int) ∧ lf = .int .i64 z ∧ z ≤ z0 ∧ Deals ws T r q k s z ∧ SH w A n ws w.heap.size s wr
theorem min3_run {P : Program} (w : World) (ts : Array TypeId) (t : TypeId) (x y z : Int) : (Builtin.min_ ts t #[.int .i64 x, .int .i64 y, .int .i64 z]).run P w = .ok (.int .i64 (min (min x y) z)) w := by
  have e : ∀ a b : Int, (if b < a then b else a) = min a b := fun a b => by
    rw [Int.min_def]
    split <;> split <;> omega
  simp [Builtin.min_, Builtin.min2, e]
set_option maxHeartbeats 4000000 in
theorem fairI_yes (A : Option Addr) (n c : Nat) (ws : List Int) (b : Int) (w : World) (h : NR w A n ws) (hk : fairB ws b = true) :
    Calls Try.prog 27 #[.slice A n c, .int .i64 b] w fun e w' => LPost w (shareL ws b) true e w' ∧ IsShare ws b (shareL ws b) := by
  have H := Lib.hid h
  have HL := Lib.hid h.1
  have OLD := Lib.hid (nr_old h)
  obtain ⟨hq, b0, b1⟩ := fair_of hk
  obtain ⟨hw1, hw2⟩ := wants_of hq
  have n16 : n ≤ 16 := by have := h.1; omega
  have HV := Lib.hid hw2
  have HA : Hid (allB 0 5000 ws = true) := Lib.hid (by rw [← wants_all hw1]; exact hq)
  have HI := Lib.hid (inB_yes (x := b) (lo := 0) (hi := 5000) ⟨b0, b1⟩)
  obtain ⟨S, hS⟩ : ∃ S, sumL ws = S := ⟨_, rfl⟩
  have S0 : 0 ≤ S := by rw [← hS]; exact (sumL_bd hw2).1
  have S1 : S ≤ 80000 := by have := (sumL_bd hw2).2; rw [hS] at this; omega
  have HS := Lib.hid hS
  obtain ⟨T, hT⟩ : ∃ T, min b S = T := ⟨_, rfl⟩
  have T0 : 0 ≤ T := by omega
  have T1 : T ≤ 5000 := by omega
  have T2 : T ≤ S := by omega
  have HT := Lib.hid hT
  have HD : Hid (∀ (s : List Int) (z : Int), Dealt ws T s z → ¬ 0 < z → IsShare ws b s) := Lib.hid (fun s z hd hz => dealt_done (by rw [hS, hT]; exact hd) hz)
  have d16 : decide (16 < (n : Int)) = false := by simp; omega
  clear h hk hq hw1 hw2 hS
  obtain ⟨i0, hi, hz0, hz1, hz2⟩ := info_parts infoInt
  go_enter Try.func27, Try.ntmps27
  go_wp2_with (first
    | (go_at_call 48; refine (allW_eq A n c ws 0 5000 _ H.out (by omega)).mono ?_; rintro e w' ⟨rfl, rfl⟩; rw [HA.out])
    | (go_at_call 47; refine (within_any _ _ _ _).mono ?_; rintro e w' ⟨rfl, rfl⟩; rw [HI.out])
    | (refine wpList_make_full _ rfl (.tmp 26) (.tmp 26) 23 rfl w.heap.size 3 i0 _ 1 Try.underlying23 hi hz0 hz1 .i64 .i64 n n n rfl rfl rfl rfl (by rw [hz2]; omega) (by unfold maxLen; omega) (Nat.le_refl _) ?_
       intro w1 ho1 hg1
       have R1 : Hid (SH w A n ws w.heap.size (List.replicate n 0) w1) := Lib.hid (by
         rw [zerosI] at ho1
         exact ⟨nr_below H.out ⟨hg1.os, hg1.tape, hg1.output, hg1.size, fun i hi => hg1.block i hi (by simp)⟩, ho1, ⟨hg1.os, hg1.tape, hg1.output, hg1.size, fun i hi => hg1.block i hi (by simp)⟩, OLD.out, Nat.le_refl _⟩)
       clear ho1 hg1)
    | (go_at_call 46; refine (sumI_eq A n c ws S _ R1.out.pr HV.out (by omega) HS.out).mono ?_; rintro e w' ⟨rfl, rfl⟩))
  have R0 : Hid (FOut w A n ws T (.int .i64 T) w1) := Lib.hid (by
    refine ⟨List.replicate n 0, T, rfl, ?_, R1.out⟩
    rw [← HL.out]
    exact dealt_start (fun x hx => (HV.out x hx).1) T0)
  go_loopw [7] (fun lf wr => FOut w A n ws T lf wr) (fun lf _ => (intOf lf).toNat)
  case atStart => exact R0.out
  case round =>
    obtain ⟨s, z, rfl, hd, hS⟩ := hrel
    clear R0 R1
    have SS := Lib.hid hS
    have DD := Lib.hid hd
    obtain ⟨z0, z1⟩ := dealt_bd hd HV.out
    by_cases hz : 0 < z
    · have hn0 : 0 < n := by have := dealt_pos hd hz (by rw [HS.out]; exact T2); have := HL.out; omega
      have hne : (n : Int) ≠ 0 := by omega
      obtain ⟨d, hdv⟩ : ∃ d, z / (n : Int) = d := ⟨_, rfl⟩
      have td : z.tdiv (n : Int) = d := by rw [Int.tdiv_eq_ediv_of_nonneg z0]; exact hdv
      have d0 : 0 ≤ d := by rw [← hdv]; exact Int.ediv_nonneg z0 (by omega)
      have dn : d * (n : Int) ≤ z := by rw [← hdv]; exact Int.ediv_mul_le z hne
      have d1 : d ≤ 5000 := by rw [← hdv]; have := Int.ediv_le_self (n : Int) z0; omega
      have dw : IntKind.i64.wrap d = d := IntWalk.i64_in _ (by omega)
      obtain ⟨q, hq⟩ : ∃ q : Nat, (q : Int) = max d 1 := ⟨(max d 1).toNat, by omega⟩
      have q1 : 1 ≤ q := by omega
      obtain ⟨r, hr⟩ := deals_start hd hz (q := q) (by
        rcases Int.lt_or_le d 1 with hl | hl
        · exact .inl (by omega)
        · refine .inr ?_
          rw [HL.out, Int.natCast_mul, show (q : Int) = d by omega, Int.mul_comm]
          exact dn)
      have HQ := Lib.hid (And.intro hq q1)
      have HEND : Hid (∀ (s' : List Int) (y : Int), Deals ws T r q ws.length s' y → Dealt ws T s' y ∧ y < z) := Lib.hid (fun s' y h => deals_end h q1 (deals_first hr) (deals_bd hr).2 hz (by rw [HS.out]; exact T2))
      have R2 : Hid (FIn w A n ws T z r q (.int .i64 z) (.int .i64 0) wr) := Lib.hid ⟨0, s, z, Nat.zero_le _, rfl, rfl, Int.le_refl _, hr, hS⟩
      clear hd hS hdv dn hr hq
      go_wp2
      go_loopw [7, 41] (fun lf i wr => FIn w A n ws T z r q lf i wr) (fun _ i _ => n - (intOf i).toNat)
      case atStart => exact R2.out
      case round =>
        obtain ⟨k, s', y, hk, rfl, rfl, yz, hD, hS⟩ := hrel
        clear R2 SS DD
        have SS := Lib.hid hS
        have HDL := Lib.hid hD
        have y0 := (deals_bd hD).1
        by_cases hlt : k < n
        · obtain ⟨b1, off, v, rfl, hb1, hv, c0⟩ := nr_at hS.pr hlt
          obtain ⟨b', off', x, e1, hb', hx, c1⟩ := nr_at (nr_own hS.own) hlt
          obtain ⟨rfl, rfl⟩ : w.heap.size = b' ∧ 0 = off' := by injection e1 with e1; injection e1 with a b; exact ⟨a, b⟩
          rw [Nat.zero_add] at c1
          obtain ⟨v0, v1⟩ := HV.out v (List.mem_of_getElem? hv)
          obtain ⟨m, hm⟩ : ∃ m, min (min (v - x) (max d 1)) y = m := ⟨_, rfl⟩
          have hmq : m = min (min (v - x) (q : Int)) y := by rw [HQ.out.1]; exact hm.symm
          have HST := Lib.hid (deals_step hD HQ.out.2 hv hx hmq)
          obtain ⟨x1, m0, my, x0, xm⟩ := deals_more hD hv hx hmq
          have k0 : (0 : Int) ≤ (k : Int) := by omega
          have k1 : (k : Int) < (n : Int) := by omega
          have w1 : IntKind.i64.wrap (v - x) = v - x := IntWalk.i64_in _ (by omega)
          have w2 : IntKind.i64.wrap (x + m) = x + m := IntWalk.i64_in _ (by omega)
          have w3 : IntKind.i64.wrap (y - m) = y - m := IntWalk.i64_in _ (by omega)
          have q3 : ∀ (w : World) (ts : Array TypeId) (t : TypeId) (x y z : Int), (Builtin.min_ ts t #[.int .i64 x, .int .i64 y, .int .i64 z]).run Try.prog w = .ok (.int .i64 (min (min x y) z)) w := min3_run
          have f0 := World.ownsRow.frozenAt hS.own k
          clear hS hD hv hx e1 hmq
          go_wp2
          go_roundw
          case rel => exact ⟨k + 1, _, _, by omega, by go_num, rfl, by omega, HST.out, sh_set SS.out k (x + m)⟩
          case measure => simp [intOf]; omega
        · obtain rfl : k = n := by omega
          have HE := Lib.hid (HEND.out s' y (by rw [HL.out]; exact hD))
          have hyz := HE.out.2
          clear hS hD
          go_wp2
          go_roundw
          case rel => exact ⟨s', y, rfl, HE.out.1, SS.out⟩
          case measure => simp [intOf]; omega
    · have IS := Lib.hid (HD.out s z DD.out (by omega))
      clear hd hS
      go_wp2
      go_ret2
      exact ⟨lpost_mk rfl (by rw [← share_is IS.out]; exact SS.out.own) SS.out.below, share_ok IS.out⟩
set_option maxHeartbeats 1000000 in
theorem overI_no (lim each : Int) (A : Option Addr) (n c : Nat) (us : List Int) (w : World) (h : NR w A n us) (hn : n ≤ 9223372036854775807) (hk : acB lim each us = false) :
    Calls Try.prog 31 #[.agg #[.int .i64 lim, .int .i64 each, (.slice A n c)]] w (LPost w [] false) := by
  have F0 := Lib.hid (fa_first (lim := lim) (each := each) (c := c) h)
  have HK := Lib.hid hk
  clear h hk
  go_enter Try.func31, Try.ntmps31
  go_wp2_with fail
  refine (acI_any lim each A n c us _ (fa_pr F0.out) hn).mono ?_
  rintro e w1 ⟨rfl, hb⟩
  rw [HK.out]
  have F1 := Lib.hid (fa_below F0.out hb)
  clear hb
  go_wp2
  go_ret2
  exact lpost_mk rfl (World.ownsRow_nil _ _ _ _) (fa_bel F1.out)
theorem fairI_is (A : Option Addr) (n c : Nat) (ws : List Int) (b : Int) (w : World) (h : NR w A n ws) (hk : fairB ws b = true) :
    Calls Try.prog 27 #[.slice A n c, .int .i64 b] w fun e w' => ∃ sA s m c2, e = .returned (.tuple #[.slice sA m c2, .bool true]) ∧ m = s.length ∧ IsShare ws b s ∧ w'.ownsRow w.heap.size 3 1 (.slice sA m c2) m (icells s) ∧ Below w.heap.size w w' := by
  refine (fairI_yes A n c ws b w h hk).mono ?_
  rintro e w' ⟨⟨A2, m, c2, rfl, hm, ho, hb⟩, hs⟩
  exact ⟨A2, _, m, c2, rfl, hm, hs, ho, hb⟩
set_option maxHeartbeats 4000000 in
theorem overI_yes (lim each : Int) (A : Option Addr) (n c : Nat) (us : List Int) (w : World) (h : NR w A n us) (hk : acB lim each us = true) :
    Calls Try.prog 31 #[.agg #[.int .i64 lim, .int .i64 each, (.slice A n c)]] w fun e w' => LPost w (overL us) true e w' ∧ IsShare us (sumL us / 2) (halfL us) := by
  have F0 := Lib.hid (fa_first (lim := lim) (each := each) (c := c) h)
  obtain ⟨a1, a2, a3, a4, a5, a6⟩ := ac_of hk
  have n8 : n = 8 := by have := h.1; omega
  have HK := Lib.hid hk
  have H5 := Lib.hid (ac_5000 hk)
  have HL8 := Lib.hid a4
  obtain ⟨S, hS⟩ : ∃ S, sumL us = S := ⟨_, rfl⟩
  rw [hS] at a5 a6
  have HS := Lib.hid hS
  have S1 : S ≤ 5000 := by omega
  have HF : Hid (fairB us (S / 2) = true) := Lib.hid (by
    have e1 : wantsB us = true := by simp only [wantsB, Bool.and_eq_true, decide_eq_true_eq, List.all_eq_true]; exact ⟨by omega, ac_5000 hk⟩
    simp [fairB, e1]; omega)
  have td : S.tdiv 2 = S / 2 := Int.tdiv_eq_ediv_of_nonneg a6
  have d0 : 0 ≤ S / 2 := by omega
  have d1 : S / 2 ≤ 5000 := by omega
  have dw : IntKind.i64.wrap (S / 2) = S / 2 := IntWalk.i64_in _ (by omega)
  subst n8
  clear h hk a1 a2 a3 a4 hS a5
  go_enter Try.func31, Try.ntmps31
  go_wp2_with fail
  refine (acI_any lim each A 8 c us _ (fa_pr F0.out) (by omega)).mono ?_
  rintro e w1 ⟨rfl, hb⟩
  rw [HK.out]
  have F1 := Lib.hid (fa_below F0.out hb)
  have hS := fa_cells (fa_drew F1.out)
  clear hb F0
  go_wp2_with fail
  go_region_held3 (fun w' => (w'.cell? ⟨w.heap.size, 0, none⟩ = some (.int .i64 lim) ∧ w'.cell? ⟨w.heap.size, 1, none⟩ = some (.int .i64 each) ∧ w'.cell? ⟨w.heap.size, 2, none⟩ = some (.slice A 8 c)) ∧ FA w lim each A 8 c us w')
    (first
      | (with_reducible assumption)
      | fail)
    (first
      | (go_at_call 27
         refine (fairI_is A 8 c us (S / 2) _ (fa_pr (fa_drew F1.out)) HF.out).mono ?_
         rintro e w3 ⟨sA, s, m3, c3, rfl, hm3, hs, ho3, hb3⟩
         have IS := Lib.hid hs
         have M3 := Lib.hid hm3
         have O3 := Lib.hid ho3
         have F3 := Lib.hid (fa_below (fa_drew F1.out) hb3)
         have hS3 := fa_cells F3.out
         clear hb3 ho3 hs hm3)
      | (go_at_call 46
         refine (sumI_eq A 8 c us S _ (fa_pr (fa_drew F1.out)) H5.out (by omega) HS.out).mono ?_
         rintro e w2 ⟨rfl, rfl⟩))
  all_goals
    have hsl : s.length = 8 := by
      obtain ⟨⟨r, k, e⟩, -, -⟩ := IS.out
      rw [e, lev_len]
      exact HL8.out
    obtain rfl : m3 = 8 := by rw [M3.out]; exact hsl
    have HSL := Lib.hid hsl
    have R0 : Hid (OvRel w lim each A c us sA s (.slice none 0 0) (.int .i64 0) w3) := Lib.hid ⟨0, 0, _, 0, Nat.zero_le _, Nat.le_refl _, rfl, rfl, F3.out, nr_own O3.out, World.ownsRow_nil _ _ _ _, fun b e e2 => (by cases e2)⟩
    obtain ⟨⟨q0, q1, q2⟩, -⟩ := fa_cells F3.out
    clear hS hS3 hsl
    go_wp2_with fail
    go_loopw [6, 25] (fun ov i wr => OvRel w lim each A c us sA s ov i wr) (fun _ i _ => 8 - (intOf i).toNat)
    case atStart => exact R0.out
    case round =>
      obtain ⟨k, m, Ao, co, hk8, hm, rfl, rfl, hO⟩ := hrel
      clear R0 q0 q1 q2
      have HO := Lib.hid hO
      by_cases hlt : k < 8
      · obtain ⟨b, off, u, rfl, hb, hu, c0⟩ := nr_at (fa_pr hO.fr) hlt
        obtain ⟨b2, off2, x, rfl, hb2, hx, e0⟩ := nr_at hO.sp hlt
        have HU := Lib.hid hu
        have HX := Lib.hid hx
        have k0 : (0 : Int) ≤ (k : Int) := by omega
        have k1 : (k : Int) < (8 : Int) := by omega
        have zl := fa_lt hO.fr
        clear hO hu hx
        by_cases hux : x < u
        · have HLT := Lib.hid hux
          go_wp2_with (at_builtin
                       refine wpl_app_ints _ rfl (.tmp 36) (.tmp 38) rfl (w.heap.size + 1) (.slice Ao m co) m (overN us s k) rfl (HO.out.own.alloc _) (some ⟨wr.heap.size, 0, none⟩) 1 1 [(k : Int)] rfl (int_single (blk_at (by simp) _ _)) (by omega) (by simp; omega) ?_
                       intro v7 w7 ho7 hg7 hat7
                       obtain ⟨A7, c7, rfl, -, -, -⟩ := own_form ho7
                       have O7 := Lib.hid (os_app (os_alloc HO.out _) hg7 ho7 hat7)
                       clear hg7 ho7 hat7 c0 e0)
          go_roundw
          case rel => exact ⟨k + 1, m + 1, A7, c7, by omega, by omega, by go_num, rfl, by rw [over_yes HU.out HX.out HLT.out]; exact O7.out⟩
          case measure => simp [intOf]; omega
        · have hd : decide (x < u) = false := by simp; omega
          have HLT := Lib.hid (show ¬ x < u by omega)
          clear hux
          go_wp2
          go_roundw
          case rel => exact ⟨k + 1, m, Ao, co, by omega, by omega, by go_num, rfl, by rw [over_no HU.out HX.out (by have := HLT.out; omega)]; exact HO.out⟩
          case measure => simp [intOf]; omega
      · obtain rfl : k = 8 := by omega
        have hsh : s = halfL us := by rw [halfL, HS.out]; exact share_is IS.out
        have HSH := Lib.hid hsh
        clear hO hsh
        go_wp2
        go_ret2
        exact ⟨lpost_mk rfl (by rw [overL, ← HSH.out]; exact own_mono HO.out.own (by omega)) (fa_bel HO.out.fr), by rw [← HSH.out, HS.out]; exact IS.out⟩
end Go.Proofs.Ytkbjelchihdajaa
