/-
  Chapter 10: validity of arrivals, the bucket for them: what the program's functions and the model's return. Conditions: a slice's length fits an int.
-/
import Derived.Test.YtaccbmgbkalknabEr
namespace Go.Proofs.Ytaccbmgbkalknab
open Go.RowKit

theorem av_len {ps : List Arr} (h : 32 < ps.length) : avB ps = false := by
  have : decide (ps.length ≤ 32) = false := by rw [decide_eq_false_iff_not]; omega
  rw [avB, this, Bool.false_and]
theorem av_short {ps : List Arr} (h : ps.length ≤ 32) : avB ps = avL 0 ps := by
  rw [avB, decide_eq_true h, Bool.true_and]
theorem av_bad {lo x : Int} {ps : List Arr} {k : Nat} {p : Arr} (hv : avL lo ps = avL x (ps.drop k)) (hp : ps[k]? = some p) (h : ¬(x ≤ p.t ∧ p.t ≤ 10000 ∧ 1 ≤ p.z ∧ p.z ≤ 100)) : avL lo ps = false := by
  rw [hv, drop_at hp, Bool.eq_false_iff]
  intro h2
  have := av_cons.1 h2
  exact h ⟨this.1, this.2.1, this.2.2.1, this.2.2.2.1⟩
theorem av_go {lo x : Int} {ps : List Arr} {k : Nat} {p : Arr} (hv : avL lo ps = avL x (ps.drop k)) (hp : ps[k]? = some p) (h : x ≤ p.t ∧ p.t ≤ 10000 ∧ 1 ≤ p.z ∧ p.z ≤ 100) : avL lo ps = avL p.t (ps.drop (k + 1)) := by
  rw [hv, drop_at hp, Bool.eq_iff_iff, av_cons]
  exact ⟨fun h2 => h2.2.2.2.2, fun h2 => ⟨h.1, h.2.1, h.2.2.1, h.2.2.2, h2⟩⟩
theorem av_done {lo x : Int} {ps : List Arr} {k : Nat} (hv : avL lo ps = avL x (ps.drop k)) (hk : ps.length ≤ k) : avL lo ps = true := by
  rw [hv, drop_end hk]; rfl
theorem bad_false {ps : List Arr} (h : avL 0 ps = false) : false = avB ps := by rw [avB, h, Bool.and_false]
theorem inB_of {n lo hi : Int} (h : inB n lo hi = true) : lo ≤ n ∧ n ≤ hi := by simpa [inB] using h
theorem inB_no {n lo hi : Int} (h : inB n lo hi = false) : ¬(lo ≤ n ∧ n ≤ hi) := by rwa [inB, decide_eq_false_iff_not] at h
def AvRel (w : World) (ps : List Arr) (n : Nat) (lo i : Value) (wr : World) : Prop :=
  ∃ (k : Nat) (x : Int), k ≤ n ∧ i = .int .i64 (k : Int) ∧ lo = .int .i64 x ∧ avL 0 ps = avL x (ps.drop k) ∧ Below w.heap.size w wr
set_option maxHeartbeats 1000000 in
theorem avI_any (A : Option Addr) (n c : Nat) (ps : List Arr) (w : World) (h : AR w A n ps) (hn : n ≤ 9223372036854775807) :
    Calls Try.prog 13 #[.slice A n c] w fun e w' => e = .returned (.bool (avB ps)) ∧ Below w.heap.size w w' := by
  have H := Lib.hid h
  clear h
  by_cases h32 : n ≤ 32
  · go_enter Try.func13, Try.ntmps13
    go_wp2
    go_loopw [3, 11] (fun lo i wr => AvRel w ps n lo i wr) (fun _ i _ => n - (intOf i).toNat)
    case atStart => exact ⟨0, 0, Nat.zero_le _, rfl, rfl, rfl, Below.refl _ _⟩
    case round =>
      obtain ⟨k, x, hk, rfl, rfl, hv, hbl⟩ := hrel
      have HV := Lib.hid hv
      clear hv
      by_cases hlt : k < n
      · obtain ⟨b, off, p, rfl, hb, hp, c0, c1⟩ := ar_at (ar_below H.out hbl) hlt
        have HP := Lib.hid hp
        have HB := Lib.hid hbl
        clear hp hbl
        rcases h1 : inB p.t x 10000 with _ | _
        · go_wp2_with (go_at_call 19; refine (within_any _ _ _ _).mono ?_; rintro e w' ⟨rfl, rfl⟩)
          go_ret
          exact ⟨ret_bool (bad_false (av_bad HV.out HP.out (by have := inB_no h1; omega))), below_alloc HB.out _⟩
        · rcases h2 : inB p.z 1 100 with _ | _
          · go_wp2_with (go_at_call 19; refine (within_any _ _ _ _).mono ?_; rintro e w' ⟨rfl, rfl⟩)
            go_ret
            exact ⟨ret_bool (bad_false (av_bad HV.out HP.out (by have := inB_no h2; omega))), below_alloc HB.out _⟩
          · go_wp2_with (go_at_call 19; refine (within_any _ _ _ _).mono ?_; rintro e w' ⟨rfl, rfl⟩)
            go_roundw
            case rel => exact ⟨k + 1, p.t, by omega, by go_num, rfl, av_go HV.out HP.out (by have := inB_of h1; have := inB_of h2; omega), below_alloc HB.out _⟩
            case measure => simp [intOf]; omega
      · obtain rfl : k = n := by omega
        have HB := Lib.hid hbl
        clear hbl
        go_wp2
        go_ret
        exact ⟨ret_bool (by have := H.out.1; rw [av_short (by omega), av_done HV.out (by omega)]), HB.out⟩
  · go_enter Try.func13, Try.ntmps13
    go_wp2
    go_ret
    exact ⟨ret_bool (av_len (by have := H.out.1; omega)).symm, Below.refl _ _⟩
/-- the time ahead of place k -/
def lastT (ps : List Arr) : Nat → Int
  | 0 => 0
  | k + 1 => match ps[k]? with
    | some p => p.t
    | none => 0
theorem lastT_at {ps : List Arr} {k : Nat} {p : Arr} (h : ps[k]? = some p) : lastT ps (k + 1) = p.t := by simp [lastT, h]
def AvS (w : World) (ps : List Arr) (n : Nat) (i : Value) (wr : World) : Prop :=
  ∃ k : Nat, k ≤ n ∧ k ≤ 33 ∧ i = .int .i64 (k : Int) ∧ avL 0 ps = avL (lastT ps k) (ps.drop k) ∧ 0 ≤ lastT ps k ∧ Below w.heap.size w wr
set_option maxHeartbeats 4000000 in
theorem avS_any (A : Option Addr) (n c : Nat) (ps : List Arr) (w : World) (h : AR w A n ps) (hn : n ≤ 9223372036854775807) :
    Calls Try.prog 11 #[.slice A n c] w fun e w' => e = .returned (.bool (avB ps)) ∧ Below w.heap.size w w' := by
  have H := Lib.hid h
  clear h
  go_enter Try.func11, Try.ntmps11
  go_wp2
  go_loopw [3] (fun i wr => AvS w ps n i wr) (fun i _ => n - (intOf i).toNat)
  case atStart => exact ⟨0, Nat.zero_le _, by omega, rfl, rfl, Int.le_refl _, Below.refl _ _⟩
  case round =>
    obtain ⟨k, hk, hk33, rfl, hv, hl0, hbl⟩ := hrel
    have HV := Lib.hid hv
    have HL0 := Lib.hid hl0
    clear hv hl0
    by_cases hlt : k < n
    · by_cases h32 : k ≤ 32
      · obtain ⟨b, off, p, rfl, hb, hp, c0, c1⟩ := ar_at (ar_below H.out hbl) hlt
        have HP := Lib.hid hp
        clear hp
        rcases k with _ | m
        · have HB := Lib.hid hbl
          clear hbl
          have HT : Hid (lastT ps 0 = 0) := Lib.hid rfl
          rw [Nat.zero_mul, Nat.add_zero] at c0 c1
          by_cases a0 : p.t < 0
          · have g0 : decide (p.t < 0) = true := decide_eq_true a0
            go_wp2_with fail
            go_quiet (fail)
            go_wp2
            go_ret
            exact ⟨ret_bool (bad_false (av_bad HV.out HP.out (by have := HT.out; have := HL0.out; omega))), by first | exact below_drewN (below_alloc HB.out _) _ | exact below_alloc HB.out _⟩
          have g0 : decide (p.t < 0) = false := decide_eq_false a0
          by_cases a1 : 10000 < p.t
          · have g1 : decide (10000 < p.t) = true := decide_eq_true a1
            go_wp2_with fail
            go_quiet (fail)
            go_wp2
            go_ret
            exact ⟨ret_bool (bad_false (av_bad HV.out HP.out (by have := HT.out; have := HL0.out; omega))), by first | exact below_drewN (below_alloc HB.out _) _ | exact below_alloc HB.out _⟩
          have g1 : decide (10000 < p.t) = false := decide_eq_false a1
          by_cases a2 : p.z < 1
          · have g2 : decide (p.z < 1) = true := decide_eq_true a2
            go_wp2_with fail
            go_quiet (fail)
            go_wp2
            go_ret
            exact ⟨ret_bool (bad_false (av_bad HV.out HP.out (by have := HT.out; have := HL0.out; omega))), by first | exact below_drewN (below_alloc HB.out _) _ | exact below_alloc HB.out _⟩
          have g2 : decide (p.z < 1) = false := decide_eq_false a2
          by_cases a3 : 100 < p.z
          · have g3 : decide (100 < p.z) = true := decide_eq_true a3
            go_wp2_with fail
            go_quiet (fail)
            go_wp2
            go_ret
            exact ⟨ret_bool (bad_false (av_bad HV.out HP.out (by have := HT.out; have := HL0.out; omega))), by first | exact below_drewN (below_alloc HB.out _) _ | exact below_alloc HB.out _⟩
          have g3 : decide (100 < p.z) = false := decide_eq_false a3
          go_wp2_with fail
          go_quiet (fail)
          go_wp2
          go_roundw
          case rel => exact ⟨0 + 1, by omega, by omega, by go_num, by rw [lastT_at HP.out]; exact av_go HV.out HP.out (by have := HT.out; have := HL0.out; omega), by rw [lastT_at HP.out]; omega, by first | exact below_drewN (below_alloc HB.out _) _ | exact below_alloc HB.out _⟩
          case measure => simp [intOf]; omega
        · obtain ⟨b2, off2, q, e2, hb2, hq, d0, d1⟩ := ar_at (k := m) (ar_below H.out hbl) (by omega)
          obtain ⟨rfl, rfl⟩ : b = b2 ∧ off = off2 := by injection e2 with e2; injection e2 with a b; exact ⟨a, b⟩
          have HB := Lib.hid hbl
          have HT := Lib.hid (lastT_at hq)
          clear hbl e2 hb2 hq d1
          have m0 : (0 : Int) < (m : Int) + 1 := by omega
          have m1 : (m : Int) + 1 < (n : Int) := by omega
          have m2 : (m : Int) + 1 ≤ 32 := by omega
          by_cases a0 : p.t < 0
          · have g0 : decide (p.t < 0) = true := decide_eq_true a0
            go_wp2_with fail
            go_quiet (fail)
            go_wp2
            go_ret
            exact ⟨ret_bool (bad_false (av_bad HV.out HP.out (by have := HT.out; have := HL0.out; omega))), by first | exact below_drewN (below_alloc HB.out _) _ | exact below_alloc HB.out _⟩
          have g0 : decide (p.t < 0) = false := decide_eq_false a0
          by_cases a1 : 10000 < p.t
          · have g1 : decide (10000 < p.t) = true := decide_eq_true a1
            go_wp2_with fail
            go_quiet (fail)
            go_wp2
            go_ret
            exact ⟨ret_bool (bad_false (av_bad HV.out HP.out (by have := HT.out; have := HL0.out; omega))), by first | exact below_drewN (below_alloc HB.out _) _ | exact below_alloc HB.out _⟩
          have g1 : decide (10000 < p.t) = false := decide_eq_false a1
          by_cases a2 : p.z < 1
          · have g2 : decide (p.z < 1) = true := decide_eq_true a2
            go_wp2_with fail
            go_quiet (fail)
            go_wp2
            go_ret
            exact ⟨ret_bool (bad_false (av_bad HV.out HP.out (by have := HT.out; have := HL0.out; omega))), by first | exact below_drewN (below_alloc HB.out _) _ | exact below_alloc HB.out _⟩
          have g2 : decide (p.z < 1) = false := decide_eq_false a2
          by_cases a3 : 100 < p.z
          · have g3 : decide (100 < p.z) = true := decide_eq_true a3
            go_wp2_with fail
            go_quiet (fail)
            go_wp2
            go_ret
            exact ⟨ret_bool (bad_false (av_bad HV.out HP.out (by have := HT.out; have := HL0.out; omega))), by first | exact below_drewN (below_alloc HB.out _) _ | exact below_alloc HB.out _⟩
          have g3 : decide (100 < p.z) = false := decide_eq_false a3
          by_cases a4 : p.t < q.t
          · have g4 : decide (p.t < q.t) = true := decide_eq_true a4
            go_wp2_with fail
            go_quiet (fail)
            go_wp2
            go_ret
            exact ⟨ret_bool (bad_false (av_bad HV.out HP.out (by have := HT.out; have := HL0.out; omega))), by first | exact below_drewN (below_alloc HB.out _) _ | exact below_alloc HB.out _⟩
          have g4 : decide (p.t < q.t) = false := decide_eq_false a4
          go_wp2_with fail
          go_quiet (fail)
          go_wp2
          go_roundw
          case rel => exact ⟨m + 1 + 1, by omega, by omega, by go_num, by rw [lastT_at HP.out]; exact av_go HV.out HP.out (by have := HT.out; have := HL0.out; omega), by rw [lastT_at HP.out]; omega, by first | exact below_drewN (below_alloc HB.out _) _ | exact below_alloc HB.out _⟩
          case measure => simp [intOf]; omega
      · obtain rfl : k = 33 := by omega
        have m3 : (33 : Int) < (n : Int) := by omega
        have HB := Lib.hid hbl
        clear hbl
        go_wp2
        go_ret
        exact ⟨ret_bool (by have := H.out.1; rw [av_len (by omega), decide_eq_false_iff_not]; omega), HB.out⟩
    · obtain rfl : k = n := by omega
      have HB := Lib.hid hbl
      clear hbl
      go_wp2
      go_ret
      exact ⟨ret_bool (by have := H.out.1; rw [avB, av_done HV.out (by omega), Bool.and_true, decide_eq_decide]; omega), HB.out⟩
end Go.Proofs.Ytaccbmgbkalknab
