/-
  Chapter 10: the greatest backlog, LeastBurst, WorstDelay: what the program's functions and the model's return. Conditions: a slice's length fits an int; the backlog is asked of valid arrivals at a valid rate.
-/
import Derived.Test.YtclgmmnidkppmabE1
import Derived.RegionTactic
import Derived.BigQuiet
namespace Go.Proofs.Ytclgmmnidkppmab
open Go.RowKit

theorem rprod {r a b : Int} (hr : 0 ≤ r ∧ r ≤ 1000) (h : 0 ≤ b ∧ b ≤ a ∧ a ≤ 10000) : 0 ≤ r * (a - b) ∧ r * (a - b) ≤ 10000000 := by
  refine ⟨Int.mul_nonneg hr.1 (by omega), ?_⟩
  have := Int.mul_le_mul hr.2 (show a - b ≤ 10000 by omega) (by omega) (by omega)
  omega
theorem bl_step {r W N M V M' : Int} {ps : List Arr} {k : Nat} {p : Arr} (h : back r ps = mbl r W N M (ps.drop k)) (hp : ps[k]? = some p) (hV : nxt r W N p = V) (hM : mx M V = M') : back r ps = mbl r V p.t M' (ps.drop (k + 1)) := by
  rw [h, drop_at hp]
  simp only [mbl]
  rw [hV, hM]
theorem av_next {N : Int} {ps : List Arr} {k : Nat} {p : Arr} (h : avL N (ps.drop k) = true) (hp : ps[k]? = some p) : N ≤ p.t ∧ p.t ≤ 10000 ∧ 1 ≤ p.z ∧ p.z ≤ 100 ∧ avL p.t (ps.drop (k + 1)) = true := by
  rw [drop_at hp] at h
  exact av_cons.1 h
theorem bl_done {r W N M : Int} {ps : List Arr} {k : Nat} (h : back r ps = mbl r W N M (ps.drop k)) (hk : ps.length ≤ k) : M = back r ps := by
  rw [h, drop_end hk]; rfl
def BlRel (w : World) (ps : List Arr) (r : Int) (n : Nat) (m wv nv i : Value) (wr : World) : Prop :=
  ∃ (k : Nat) (W N M : Int), k ≤ n ∧ i = .int .i64 (k : Int) ∧ m = .int .i64 M ∧ wv = .int .i64 W ∧ nv = .int .i64 N ∧ back r ps = mbl r W N M (ps.drop k) ∧ avL N (ps.drop k) = true ∧
    0 ≤ N ∧ N ≤ 10000 ∧ 0 ≤ W ∧ W ≤ 100 * k ∧ 0 ≤ M ∧ M ≤ 100 * k ∧ Below w.heap.size w wr
set_option maxHeartbeats 1000000 in
theorem blI_any (A : Option Addr) (n c : Nat) (ps : List Arr) (r : Int) (w : World) (h : AR w A n ps) (hv : avB ps = true) (hr : 0 ≤ r ∧ r ≤ 1000) :
    Calls Try.prog 46 #[.slice A n c, .int .i64 r] w fun e w' => e = .returned (.int .i64 (back r ps)) ∧ Below w.heap.size w w' := by
  have H := Lib.hid h
  have hn : n ≤ 32 := by have := (av_of hv).1; have := h.1; omega
  have V0 := Lib.hid (av_of hv).2
  clear h hv
  go_enter Try.func46, Try.ntmps46
  go_wp2
  go_loopw [5, 6, 7, 12] (fun m wv nv i wr => BlRel w ps r n m wv nv i wr) (fun _ _ _ i _ => n - (intOf i).toNat)
  case atStart => exact ⟨0, 0, 0, 0, Nat.zero_le _, rfl, rfl, rfl, rfl, rfl, V0.out, by omega, by omega, by omega, by omega, by omega, by omega, Below.refl _ _⟩
  case round =>
    obtain ⟨k, W, N, M, hk, rfl, rfl, rfl, rfl, he, hav, n0, n1, w0, w1, m0, m1, hbl⟩ := hrel
    have HE := Lib.hid he
    clear he
    by_cases hlt : k < n
    · obtain ⟨b, off, p, rfl, hb, hp, c0, c1⟩ := ar_at (ar_below H.out hbl) hlt
      obtain ⟨t0, t1, z0, z1, hav'⟩ := av_next hav hp
      obtain ⟨p0, p1⟩ := rprod (r := r) (a := p.t) (b := N) hr (by omega)
      have HP := Lib.hid hp
      have HB := Lib.hid hbl
      have HA := Lib.hid hav'
      have ez : nxt r W N p = (if W - r * (p.t - N) ≤ 0 then 0 else W - r * (p.t - N)) + p.z := rfl
      have EZ := Lib.hid ez
      clear hp hbl hav hav' ez
      by_cases hu : W - r * (p.t - N) ≤ 0
      · by_cases hm : M ≤ p.z
        · go_wp2
          go_roundw
          case rel => exact ⟨k + 1, _, _, _, by omega, by go_num, rfl, rfl, rfl, bl_step HE.out HP.out (by rw [EZ.out]; split <;> omega) (by unfold mx; split <;> omega), HA.out, by omega, by omega, by omega, by omega, by omega, by omega, below_alloc HB.out _⟩
          case measure => simp [intOf]; omega
        · have hm' : p.z < M := by omega
          go_wp2
          go_roundw
          case rel => exact ⟨k + 1, _, _, _, by omega, by go_num, rfl, rfl, rfl, bl_step HE.out HP.out (by rw [EZ.out]; split <;> omega) (by unfold mx; split <;> omega), HA.out, by omega, by omega, by omega, by omega, by omega, by omega, below_alloc HB.out _⟩
          case measure => simp [intOf]; omega
      · have hu' : 0 < W - r * (p.t - N) := by omega
        by_cases hm : M ≤ W - r * (p.t - N) + p.z
        · go_wp2
          go_roundw
          case rel => exact ⟨k + 1, _, _, _, by omega, by go_num, rfl, rfl, rfl, bl_step HE.out HP.out (by rw [EZ.out]; split <;> omega) (by unfold mx; split <;> omega), HA.out, by omega, by omega, by omega, by omega, by omega, by omega, below_alloc HB.out _⟩
          case measure => simp [intOf]; omega
        · have hm' : W - r * (p.t - N) + p.z < M := by omega
          go_wp2
          go_roundw
          case rel => exact ⟨k + 1, _, _, _, by omega, by go_num, rfl, rfl, rfl, bl_step HE.out HP.out (by rw [EZ.out]; split <;> omega) (by unfold mx; split <;> omega), HA.out, by omega, by omega, by omega, by omega, by omega, by omega, below_alloc HB.out _⟩
          case measure => simp [intOf]; omega
    · obtain rfl : k = n := by omega
      have HB := Lib.hid hbl
      clear hbl
      go_wp2
      go_ret
      exact ⟨ret_int (bl_done HE.out (by have := H.out.1; omega)), HB.out⟩
def lbB (ps : List Arr) (r : Int) : Bool := avB ps && inB r 0 1000
noncomputable def lbN (ps : List Arr) (r : Int) : Int := if lbB ps r = true then mx (back r ps) 1 else 0
theorem lb_of {ps : List Arr} {r : Int} (h : lbB ps r = true) : avB ps = true ∧ 0 ≤ r ∧ r ≤ 1000 := by
  simp only [lbB, Bool.and_eq_true] at h
  exact ⟨h.1, inB_of h.2⟩
theorem lbN_yes {ps : List Arr} {r : Int} (h : lbB ps r = true) : lbN ps r = mx (back r ps) 1 := if_pos h
theorem lbN_no {ps : List Arr} {r : Int} (h : lbB ps r = false) : lbN ps r = 0 := if_neg (by rw [h]; exact Bool.false_ne_true)
set_option maxHeartbeats 1000000 in
theorem lbI_any (A : Option Addr) (n c : Nat) (ps : List Arr) (r : Int) (w : World) (h : AR w A n ps) (hn : n ≤ 9223372036854775807) :
    Calls Try.prog 21 #[.slice A n c, .int .i64 r] w fun e w' => e = .returned (.tuple #[.int .i64 (lbN ps r), .bool (lbB ps r)]) ∧ Below w.heap.size w w' := by
  have H := Lib.hid h
  clear h
  rcases h1 : avB ps with _ | _
  · have HK := Lib.hid (show lbB ps r = false by rw [lbB, h1, Bool.false_and])
    go_enter Try.func21, Try.ntmps21
    go_wp2_with (go_at_call 15; refine (avI_any A n c ps _ H.out hn).mono ?_; rintro e w1 ⟨rfl, hb1⟩; have B1 := Lib.hid hb1; clear hb1)
    go_ret2
    exact ⟨ret_two (lbN_no HK.out).symm HK.out.symm, B1.out⟩
  · rcases h2 : inB r 0 1000 with _ | _
    · have HK := Lib.hid (show lbB ps r = false by rw [lbB, h2, Bool.and_false])
      go_enter Try.func21, Try.ntmps21
      go_wp2_with (first | (go_at_call 15; refine (avI_any A n c ps _ H.out hn).mono ?_; rintro e w1 ⟨rfl, hb1⟩; have B1 := Lib.hid hb1; clear hb1) | (go_at_call 41; refine (within_any _ _ _ _).mono ?_; rintro e w' ⟨rfl, rfl⟩))
      go_ret2
      exact ⟨ret_two (lbN_no HK.out).symm HK.out.symm, B1.out⟩
    · have HK := Lib.hid (show lbB ps r = true by rw [lbB, h1, h2]; rfl)
      have HV := Lib.hid h1
      have hr := inB_of h2
      obtain ⟨X, hX⟩ : ∃ X, X = back r ps := ⟨_, rfl⟩
      have HX := Lib.hid hX
      clear hX
      by_cases hx : X < 1
      · go_enter Try.func21, Try.ntmps21
        go_wp2_with (first | (go_at_call 15; refine (avI_any A n c ps _ H.out hn).mono ?_; rintro e w1 ⟨rfl, hb1⟩; have B1 := Lib.hid hb1; clear hb1) | (go_at_call 41; refine (within_any _ _ _ _).mono ?_; rintro e w' ⟨rfl, rfl⟩) | (go_at_call 46; refine (blI_any A n c ps r _ (ar_below H.out B1.out) HV.out hr).mono ?_; rintro e w2 ⟨rfl, hb2⟩; rw [← HX.out]; have B2 := Lib.hid (below_seq B1.out hb2); clear hb2))
        go_ret2
        exact ⟨ret_two (by rw [lbN_yes HK.out, ← HX.out, mx, if_pos (by omega)]) HK.out.symm, B2.out⟩
      · have hx' : 1 ≤ X := by omega
        go_enter Try.func21, Try.ntmps21
        go_wp2_with (first | (go_at_call 15; refine (avI_any A n c ps _ H.out hn).mono ?_; rintro e w1 ⟨rfl, hb1⟩; have B1 := Lib.hid hb1; clear hb1) | (go_at_call 41; refine (within_any _ _ _ _).mono ?_; rintro e w' ⟨rfl, rfl⟩) | (go_at_call 46; refine (blI_any A n c ps r _ (ar_below H.out B1.out) HV.out hr).mono ?_; rintro e w2 ⟨rfl, hb2⟩; rw [← HX.out]; have B2 := Lib.hid (below_seq B1.out hb2); clear hb2))
        go_ret2
        exact ⟨ret_two (by rw [lbN_yes HK.out, ← HX.out]; unfold mx; split <;> omega) HK.out.symm, B2.out⟩
def LbRel (w : World) (ps : List Arr) (r : Int) (n : Nat) (m i : Value) (wr : World) : Prop :=
  ∃ (k : Nat) (M : Int), k ≤ n ∧ i = .int .i64 (k : Int) ∧ m = .int .i64 M ∧ lbS r 1 ps = lbS r M (ps.drop k) ∧ Below w.heap.size w wr
def Lb1Rel (w : World) (ps : List Arr) (r t0 : Int) (n k0 : Nat) (R : Int) (m s i : Value) (wr : World) : Prop :=
  ∃ (k : Nat) (M S : Int), k0 ≤ k ∧ k ≤ n ∧ i = .int .i64 (k : Int) ∧ m = .int .i64 M ∧ s = .int .i64 S ∧ R = lb1 r t0 S M (ps.drop k) ∧ 0 ≤ S ∧ S ≤ 100 * k ∧ Below w.heap.size w wr
theorem ord_at {lo : Int} {ps : List Arr} {i k : Nat} {a b : Arr} (h : avL lo ps = true) (hi : ps[i]? = some a) (hk : ps[k]? = some b) (hle : i ≤ k) : a.t ≤ b.t := by
  have h1 := av_drop h i
  rw [drop_at hi] at h1
  have h2 := av_cons.1 h1
  rcases Nat.eq_or_lt_of_le hle with e | e
  · subst e
    rw [hi] at hk
    obtain rfl := Option.some.inj hk
    exact Int.le_refl _
  · have h3 : (ps.drop (i + 1))[k - (i + 1)]? = some b := by rw [List.getElem?_drop, show i + 1 + (k - (i + 1)) = k by omega]; exact hk
    exact (av_at h2.2.2.2.2 h3).1
theorem lb1_step {r t0 S M S' M' R : Int} {ps : List Arr} {k : Nat} {p : Arr} (h : R = lb1 r t0 S M (ps.drop k)) (hp : ps[k]? = some p) (hS : S + p.z = S') (hM : mx M (S' - r * (p.t - t0)) = M') : R = lb1 r t0 S' M' (ps.drop (k + 1)) := by
  rw [h, drop_at hp]
  simp only [lb1]
  rw [hS, hM]
set_option maxHeartbeats 2000000 in
theorem lbS_any (A : Option Addr) (n c : Nat) (ps : List Arr) (r : Int) (w : World) (h : AR w A n ps) (hn : n ≤ 9223372036854775807) :
    Calls Try.prog 28 #[.slice A n c, .int .i64 r] w fun e w' => e = .returned (.tuple #[.int .i64 (lbN ps r), .bool (lbB ps r)]) ∧ Below w.heap.size w w' := by
  have H := Lib.hid h
  clear h
  rcases h1 : avB ps with _ | _
  · have HK := Lib.hid (show lbB ps r = false by rw [lbB, h1, Bool.false_and])
    go_enter Try.func28, Try.ntmps28
    go_wp2_with (go_at_call 16; refine (avS_any A n c ps _ H.out hn).mono ?_; rintro e w1 ⟨rfl, hb1⟩; have B1 := Lib.hid hb1; clear hb1)
    go_ret2
    exact ⟨ret_two (lbN_no HK.out).symm HK.out.symm, B1.out⟩
  · by_cases h2 : r < 0
    · have HK := Lib.hid (show lbB ps r = false by rw [lbB, inB, decide_eq_false (by omega), Bool.and_false])
      go_enter Try.func28, Try.ntmps28
      go_wp2_with (go_at_call 16; refine (avS_any A n c ps _ H.out hn).mono ?_; rintro e w1 ⟨rfl, hb1⟩; have B1 := Lib.hid hb1; clear hb1)
      go_ret2
      exact ⟨ret_two (lbN_no HK.out).symm HK.out.symm, B1.out⟩
    · by_cases h3 : 1000 < r
      · have HK := Lib.hid (show lbB ps r = false by rw [lbB, inB, decide_eq_false (by omega), Bool.and_false])
        go_enter Try.func28, Try.ntmps28
        go_wp2_with (go_at_call 16; refine (avS_any A n c ps _ H.out hn).mono ?_; rintro e w1 ⟨rfl, hb1⟩; have B1 := Lib.hid hb1; clear hb1)
        go_ret2
        exact ⟨ret_two (lbN_no HK.out).symm HK.out.symm, B1.out⟩
      · have HK := Lib.hid (show lbB ps r = true by rw [lbB, h1, inB, decide_eq_true (by omega)]; rfl)
        have V0 := Lib.hid (av_of h1).2
        have hn32 : n ≤ 32 := by have := (av_of h1).1; have := H.out.1; omega
        have d2 : decide (r < 0) = false := decide_eq_false h2
        have d3 : decide (1000 < r) = false := decide_eq_false h3
        go_enter Try.func28, Try.ntmps28
        go_wp2_with fail
        refine (avS_any A n c ps _ H.out hn).mono ?_
        rintro e w1 ⟨rfl, hb1⟩
        rw [h1]
        have H1 := Lib.hid (ar_below H.out hb1)
        have B1 := Lib.hid hb1
        clear hb1
        go_wp2
        go_loopw [6, 7] (fun m i wr => LbRel w ps r n m i wr) (fun _ i _ => n - (intOf i).toNat)
        case atStart => exact ⟨0, 1, Nat.zero_le _, rfl, rfl, rfl, B1.out⟩
        case round =>
          obtain ⟨k, M, hk, rfl, rfl, he, hbl⟩ := hrel
          have HE := Lib.hid he
          have HB := Lib.hid hbl
          clear he hbl
          by_cases hlt : k < n
          · obtain ⟨b, off, p, rfl, hb, hp, c0, c1⟩ := ar_at (ar_below H.out HB.out) hlt
            have HP := Lib.hid hp
            have hb0 : b < w.heap.size := by
              obtain ⟨b', off', e', hb', _⟩ := H.out.2 (by omega)
              injection e' with e'
              injection e' with e1 e2
              omega
            clear hp c1 c0 hb
            go_wp2
            go_loopw [6, 8, 9] (fun m s i wr => Lb1Rel w ps r p.t n k (lb1 r p.t 0 M (ps.drop k)) m s i wr) (fun _ _ i _ => n - (intOf i).toNat)
            case atStart => exact ⟨k, M, 0, Nat.le_refl _, hk, rfl, rfl, rfl, rfl, by omega, by omega, HB.out⟩
            case round =>
              obtain ⟨k2, M2, S2, hk2, hk3, rfl, rfl, rfl, he2, s0, s1, hbl2⟩ := hrel
              have HE2 := Lib.hid he2
              have HB2 := Lib.hid hbl2
              clear he2 hbl2
              by_cases hlt2 : k2 < n
              · obtain ⟨b2, off2, q, e2, hb2, hq, d0, d1⟩ := ar_at (k := k2) (ar_below H.out HB2.out) hlt2
                obtain ⟨rfl, rfl⟩ : b = b2 ∧ off = off2 := by injection e2 with e2; injection e2 with a b; exact ⟨a, b⟩
                obtain ⟨b3, off3, q3, e3, hb3, hq3, c0, _⟩ := ar_at (k := k) (ar_below H.out HB2.out) hlt
                obtain ⟨rfl, rfl⟩ : b = b3 ∧ off = off3 := by injection e3 with e3; injection e3 with a b; exact ⟨a, b⟩
                obtain rfl : p = q3 := by have := HP.out; rw [hq3] at this; exact (Option.some.inj this).symm
                have a1 := av_at V0.out HP.out
                have a2 := av_at V0.out hq
                have a3 := ord_at V0.out HP.out hq hk2
                obtain ⟨p0, p1⟩ := rprod (r := r) (a := q.t) (b := p.t) ⟨by omega, by omega⟩ (by omega)
                have HQ := Lib.hid hq
                clear hq hq3 e2 e3 hb3
                by_cases hm : M2 < S2 + q.z - r * (q.t - p.t)
                · go_wp2_with fail
                  go_quiet (fail)
                  go_wp2
                  go_roundw
                  case rel => exact ⟨k2 + 1, _, _, by omega, by omega, by go_num, rfl, rfl, lb1_step HE2.out HQ.out rfl (by unfold mx; split <;> omega), by omega, by omega, below_drewN HB2.out _⟩
                  case measure => simp [intOf]; omega
                · have hm' : S2 + q.z - r * (q.t - p.t) ≤ M2 := by omega
                  go_wp2_with fail
                  go_quiet (fail)
                  go_wp2
                  go_roundw
                  case rel => exact ⟨k2 + 1, _, _, by omega, by omega, by go_num, rfl, rfl, lb1_step HE2.out HQ.out rfl (by unfold mx; split <;> omega), by omega, by omega, below_drewN HB2.out _⟩
                  case measure => simp [intOf]; omega
              · obtain rfl : k2 = n := by omega
                go_wp2
                go_roundw
                case rel => exact ⟨k + 1, M2, by omega, by go_num, rfl, by rw [HE.out, drop_at HP.out, lbS, ← drop_at HP.out, HE2.out, drop_end (by have := H.out.1; omega)]; rfl, HB2.out⟩
                case measure => simp [intOf]; omega
          · obtain rfl : k = n := by omega
            go_wp2
            go_ret2
            have hfin : M = lbN ps r := by
              rw [lbN_yes HK.out, ← lb_eq (by omega) V0.out, HE.out, drop_end (by have := H.out.1; omega)]; rfl
            exact ⟨ret_two hfin HK.out.symm, HB.out⟩
def wdB (ps : List Arr) (r : Int) : Bool := avB ps && inB r 1 1000
def wdN (ps : List Arr) (r : Int) : Int := if wdB ps r = true then wors r ps else 0
theorem wd_of {ps : List Arr} {r : Int} (h : wdB ps r = true) : avB ps = true ∧ 1 ≤ r ∧ r ≤ 1000 := by
  simp only [wdB, Bool.and_eq_true] at h
  exact ⟨h.1, inB_of h.2⟩
theorem wdN_yes {ps : List Arr} {r : Int} (h : wdB ps r = true) : wdN ps r = wors r ps := if_pos h
theorem wdN_no {ps : List Arr} {r : Int} (h : wdB ps r = false) : wdN ps r = 0 := if_neg (by rw [h]; exact Bool.false_ne_true)
set_option maxHeartbeats 1000000 in
theorem wdI_any (A : Option Addr) (n c : Nat) (ps : List Arr) (r : Int) (w : World) (h : AR w A n ps) (hn : n ≤ 9223372036854775807) :
    Calls Try.prog 37 #[.slice A n c, .int .i64 r] w fun e w' => e = .returned (.tuple #[.int .i64 (wdN ps r), .bool (wdB ps r)]) ∧ Below w.heap.size w w' := by
  have H := Lib.hid h
  clear h
  rcases h1 : avB ps with _ | _
  · have HK := Lib.hid (show wdB ps r = false by rw [wdB, h1, Bool.false_and])
    go_enter Try.func37, Try.ntmps37
    go_wp2_with (go_at_call 15; refine (avI_any A n c ps _ H.out hn).mono ?_; rintro e w1 ⟨rfl, hb1⟩; have B1 := Lib.hid hb1; clear hb1)
    go_ret2
    exact ⟨ret_two (wdN_no HK.out).symm HK.out.symm, B1.out⟩
  · rcases h2 : inB r 1 1000 with _ | _
    · have HK := Lib.hid (show wdB ps r = false by rw [wdB, h2, Bool.and_false])
      go_enter Try.func37, Try.ntmps37
      go_wp2_with (first | (go_at_call 15; refine (avI_any A n c ps _ H.out hn).mono ?_; rintro e w1 ⟨rfl, hb1⟩; have B1 := Lib.hid hb1; clear hb1) | (go_at_call 41; refine (within_any _ _ _ _).mono ?_; rintro e w' ⟨rfl, rfl⟩))
      go_ret2
      exact ⟨ret_two (wdN_no HK.out).symm HK.out.symm, B1.out⟩
    · have HK := Lib.hid (show wdB ps r = true by rw [wdB, h1, h2]; rfl)
      have HV := Lib.hid h1
      have hr := inB_of h2
      have hr0 : (r == 0) = false := by simp; omega
      have bd := back_bd (r := r) (by omega) h1
      obtain ⟨X, hX⟩ : ∃ X, X = back r ps := ⟨_, rfl⟩
      rw [← hX] at bd
      have x0 : 0 ≤ X + r - 1 := by omega
      have x1 : X ≤ 3200 := by omega
      have x2 : 0 ≤ X := by omega
      have HX := Lib.hid hX
      clear hX bd
      go_enter Try.func37, Try.ntmps37
      go_wp2_with (first | (go_at_call 15; refine (avI_any A n c ps _ H.out hn).mono ?_; rintro e w1 ⟨rfl, hb1⟩; have B1 := Lib.hid hb1; clear hb1) | (go_at_call 41; refine (within_any _ _ _ _).mono ?_; rintro e w' ⟨rfl, rfl⟩) | (go_at_call 46; refine (blI_any A n c ps r _ (ar_below H.out B1.out) HV.out (by omega)).mono ?_; rintro e w2 ⟨rfl, hb2⟩; rw [← HX.out]; have B2 := Lib.hid (below_seq B1.out hb2); clear hb2))
      go_ret2
      exact ⟨ret_two (by rw [wdN_yes HK.out, wors, ← HX.out]) HK.out.symm, B2.out⟩
def WdRel (w : World) (ps : List Arr) (r : Int) (n : Nat) (f m i : Value) (wr : World) : Prop :=
  ∃ (k : Nat) (F M : Int), k ≤ n ∧ i = .int .i64 (k : Int) ∧ f = .int .i64 F ∧ m = .int .i64 M ∧ wdS r 0 0 ps = wdS r F M (ps.drop k) ∧ 0 ≤ F ∧ F ≤ 10000000 + 100 * k ∧ Below w.heap.size w wr
theorem wd_step {r F M F' M' S R : Int} {ps : List Arr} {k : Nat} {p : Arr} (h : R = wdS r F M (ps.drop k)) (hp : ps[k]? = some p) (hS : mx (p.t * r) F = S) (hF : S + p.z = F') (hM : mx M ((F' - p.t * r + r - 1) / r) = M') : R = wdS r F' M' (ps.drop (k + 1)) := by
  rw [h, drop_at hp]
  simp only [wdS]
  rw [hS, hF, hM]
set_option maxHeartbeats 2000000 in
theorem wdS_any (A : Option Addr) (n c : Nat) (ps : List Arr) (r : Int) (w : World) (h : AR w A n ps) (hn : n ≤ 9223372036854775807) :
    Calls Try.prog 36 #[.slice A n c, .int .i64 r] w fun e w' => e = .returned (.tuple #[.int .i64 (wdN ps r), .bool (wdB ps r)]) ∧ Below w.heap.size w w' := by
  have H := Lib.hid h
  clear h
  rcases h1 : avB ps with _ | _
  · have HK := Lib.hid (show wdB ps r = false by rw [wdB, h1, Bool.false_and])
    go_enter Try.func36, Try.ntmps36
    go_wp2_with (go_at_call 16; refine (avS_any A n c ps _ H.out hn).mono ?_; rintro e w1 ⟨rfl, hb1⟩; have B1 := Lib.hid hb1; clear hb1)
    go_ret2
    exact ⟨ret_two (wdN_no HK.out).symm HK.out.symm, B1.out⟩
  · by_cases h2 : r < 1
    · have HK := Lib.hid (show wdB ps r = false by rw [wdB, inB, decide_eq_false (by omega), Bool.and_false])
      go_enter Try.func36, Try.ntmps36
      go_wp2_with (go_at_call 16; refine (avS_any A n c ps _ H.out hn).mono ?_; rintro e w1 ⟨rfl, hb1⟩; have B1 := Lib.hid hb1; clear hb1)
      go_ret2
      exact ⟨ret_two (wdN_no HK.out).symm HK.out.symm, B1.out⟩
    · by_cases h3 : 1000 < r
      · have HK := Lib.hid (show wdB ps r = false by rw [wdB, inB, decide_eq_false (by omega), Bool.and_false])
        have d2 : decide (r < 1) = false := decide_eq_false h2
        go_enter Try.func36, Try.ntmps36
        go_wp2_with (go_at_call 16; refine (avS_any A n c ps _ H.out hn).mono ?_; rintro e w1 ⟨rfl, hb1⟩; have B1 := Lib.hid hb1; clear hb1)
        go_ret2
        exact ⟨ret_two (wdN_no HK.out).symm HK.out.symm, B1.out⟩
      · have HK := Lib.hid (show wdB ps r = true by rw [wdB, h1, inB, decide_eq_true (by omega)]; rfl)
        have V0 := Lib.hid (av_of h1).2
        have hn32 : n ≤ 32 := by have := (av_of h1).1; have := H.out.1; omega
        have d2 : decide (r < 1) = false := decide_eq_false h2
        have d3 : decide (1000 < r) = false := decide_eq_false h3
        have hr0 : (r == 0) = false := by simp; omega
        go_enter Try.func36, Try.ntmps36
        go_wp2_with fail
        refine (avS_any A n c ps _ H.out hn).mono ?_
        rintro e w1 ⟨rfl, hb1⟩
        rw [h1]
        have B1 := Lib.hid hb1
        clear hb1
        go_wp2
        go_loopw [6, 7, 8] (fun f m i wr => WdRel w ps r n f m i wr) (fun _ _ i _ => n - (intOf i).toNat)
        case atStart => exact ⟨0, 0, 0, Nat.zero_le _, rfl, rfl, rfl, rfl, by omega, by omega, B1.out⟩
        case round =>
          obtain ⟨k, F, M, hk, rfl, rfl, rfl, he, f0, f1, hbl⟩ := hrel
          have HE := Lib.hid he
          have HB := Lib.hid hbl
          clear he hbl
          by_cases hlt : k < n
          · obtain ⟨b, off, p, rfl, hb, hp, c0, c1⟩ := ar_at (ar_below H.out HB.out) hlt
            have HP := Lib.hid hp
            have a1 := av_at V0.out hp
            have p0 : 0 ≤ p.t * r := Int.mul_nonneg (by omega) (by omega)
            have p1 : p.t * r ≤ 10000000 := by
              have := Int.mul_le_mul (show p.t ≤ 10000 by omega) (show r ≤ 1000 by omega) (by omega) (by omega)
              omega
            clear hp
            by_cases hf : p.t * r < F
            · have n0 : 0 ≤ F + p.z - p.t * r + r - 1 := by omega
              by_cases hm : M < (F + p.z - p.t * r + r - 1) / r
              · go_wp2
                go_roundw
                case rel => exact ⟨k + 1, _, _, by omega, by go_num, rfl, rfl, wd_step HE.out HP.out (S := F) (by unfold mx; split <;> omega) rfl (by unfold mx; split <;> omega), by omega, by omega, HB.out⟩
                case measure => simp [intOf]; omega
              · have hm' : (F + p.z - p.t * r + r - 1) / r ≤ M := by omega
                go_wp2
                go_roundw
                case rel => exact ⟨k + 1, _, _, by omega, by go_num, rfl, rfl, wd_step HE.out HP.out (S := F) (by unfold mx; split <;> omega) rfl (by unfold mx; split <;> omega), by omega, by omega, HB.out⟩
                case measure => simp [intOf]; omega
            · have hf' : F ≤ p.t * r := by omega
              have n0 : 0 ≤ p.t * r + p.z - p.t * r + r - 1 := by omega
              by_cases hm : M < (p.t * r + p.z - p.t * r + r - 1) / r
              · go_wp2
                go_roundw
                case rel => exact ⟨k + 1, _, _, by omega, by go_num, rfl, rfl, wd_step HE.out HP.out (S := p.t * r) (by unfold mx; split <;> omega) rfl (by unfold mx; split <;> omega), by omega, by omega, HB.out⟩
                case measure => simp [intOf]; omega
              · have hm' : (p.t * r + p.z - p.t * r + r - 1) / r ≤ M := by omega
                go_wp2
                go_roundw
                case rel => exact ⟨k + 1, _, _, by omega, by go_num, rfl, rfl, wd_step HE.out HP.out (S := p.t * r) (by unfold mx; split <;> omega) rfl (by unfold mx; split <;> omega), by omega, by omega, HB.out⟩
                case measure => simp [intOf]; omega
          · obtain rfl : k = n := by omega
            go_wp2
            go_ret2
            have hfin : M = wdN ps r := by
              rw [wdN_yes HK.out, ← wors_eq (by omega), HE.out, drop_end (by have := H.out.1; omega)]; rfl
            exact ⟨ret_two hfin HK.out.symm, HB.out⟩
end Go.Proofs.Ytclgmmnidkppmab
