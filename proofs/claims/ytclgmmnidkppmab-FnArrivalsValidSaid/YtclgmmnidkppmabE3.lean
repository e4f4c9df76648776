/-
  Chapter 10: PeakOf: what the program's function and the model's return. Conditions: a slice's length fits an int.
-/
import Derived.Test.YtclgmmnidkppmabE2
import Derived.Deep.RegionHeld3
import Derived.Deep.DeepCutAuto
namespace Go.Proofs.Ytclgmmnidkppmab
open Go.RowKit

def BbRel (w : World) (ps : List Arr) (e : Int) (n : Nat) (R : Int) (s i : Value) (wr : World) : Prop :=
  ∃ (k : Nat) (S : Int), k ≤ n ∧ i = .int .i64 (k : Int) ∧ s = .int .i64 S ∧ R = bb e S (ps.drop k) ∧ 0 ≤ S ∧ S ≤ 100 * k ∧ Below w.heap.size w wr
theorem bb_step {e S R : Int} {ps : List Arr} {k : Nat} {p : Arr} (h : R = bb e S (ps.drop k)) (hp : ps[k]? = some p) {S' : Int} (hS : (if p.t < e then S + p.z else S) = S') : R = bb e S' (ps.drop (k + 1)) := by
  rw [h, drop_at hp]
  simp only [bb]
  rw [hS]
set_option maxHeartbeats 1000000 in
theorem bbI_any (A : Option Addr) (n c : Nat) (ps : List Arr) (e : Int) (lo : Int) (w : World) (h : AR w A n ps) (hn : n ≤ 32) (hv : avL lo ps = true) :
    Calls Try.prog 47 #[.slice A n c, .int .i64 e] w fun o w' => o = .returned (.int .i64 (pk1 e 0 ps)) ∧ Below w.heap.size w w' := by
  have H := Lib.hid h
  have V0 := Lib.hid hv
  obtain ⟨R, hR⟩ : ∃ R, R = bb e 0 ps := ⟨_, rfl⟩
  have HR := Lib.hid hR
  have HF := Lib.hid (show R = pk1 e 0 ps by rw [hR, bb_pk hv])
  clear h hv hR
  go_enter Try.func47, Try.ntmps47
  go_wp2
  go_loopw [5, 10] (fun s i wr => BbRel w ps e n R s i wr) (fun _ i _ => n - (intOf i).toNat)
  case atStart => exact ⟨0, 0, Nat.zero_le _, rfl, rfl, HR.out, by omega, by omega, Below.refl _ _⟩
  case round =>
    obtain ⟨k, S, hk, rfl, rfl, he, s0, s1, hbl⟩ := hrel
    have HE := Lib.hid he
    clear he
    by_cases hlt : k < n
    · obtain ⟨b, off, p, rfl, hb, hp, c0, c1⟩ := ar_at (ar_below H.out hbl) hlt
      have a1 := av_at V0.out hp
      have HP := Lib.hid hp
      have HB := Lib.hid hbl
      clear hp hbl
      by_cases ht : p.t < e
      · go_wp2
        go_roundw
        case rel => exact ⟨k + 1, _, by omega, by go_num, rfl, bb_step HE.out HP.out (if_pos (by omega)), by omega, by omega, below_alloc HB.out _⟩
        case measure => simp [intOf]; omega
      · have ht' : e ≤ p.t := by omega
        go_wp2
        go_roundw
        case rel => exact ⟨k + 1, _, by omega, by go_num, rfl, bb_step HE.out HP.out (if_neg (by omega)), by omega, by omega, below_alloc HB.out _⟩
        case measure => simp [intOf]; omega
    · obtain rfl : k = n := by omega
      have HB := Lib.hid hbl
      clear hbl
      go_wp2
      go_ret
      exact ⟨ret_int (by rw [← HF.out, HE.out, drop_end (by have := H.out.1; omega)]; rfl), HB.out⟩
def pkB (ps : List Arr) (d : Int) : Bool := avB ps && inB d 1 10001
def pkN (ps : List Arr) (d : Int) : Int := if pkB ps d = true then peak d ps else 0
theorem pk_of {ps : List Arr} {d : Int} (h : pkB ps d = true) : avB ps = true ∧ 1 ≤ d ∧ d ≤ 10001 := by
  simp only [pkB, Bool.and_eq_true] at h
  exact ⟨h.1, inB_of h.2⟩
theorem pkN_yes {ps : List Arr} {d : Int} (h : pkB ps d = true) : pkN ps d = peak d ps := if_pos h
theorem pkN_no {ps : List Arr} {d : Int} (h : pkB ps d = false) : pkN ps d = 0 := if_neg (by rw [h]; exact Bool.false_ne_true)
def PkRel (w : World) (ps : List Arr) (d : Int) (n : Nat) (m i : Value) (wr : World) : Prop :=
  ∃ (k : Nat) (M : Int), k ≤ n ∧ i = .int .i64 (k : Int) ∧ m = .int .i64 M ∧ peak d ps = pkS d M (ps.drop k) ∧ Below w.heap.size w wr
theorem pk_step {d M M' : Int} {ps : List Arr} {k : Nat} {p : Arr} (h : peak d ps = pkS d M (ps.drop k)) (hp : ps[k]? = some p) (hM : mx M (pk1 (p.t + d) 0 (ps.drop k)) = M') : peak d ps = pkS d M' (ps.drop (k + 1)) := by
  rw [h, drop_at hp]
  rw [drop_at hp] at hM
  simp only [pkS]
  rw [hM]
set_option maxHeartbeats 2000000 in
theorem pkI_any (A : Option Addr) (n c : Nat) (ps : List Arr) (d : Int) (w : World) (h : AR w A n ps) (hn : n ≤ 9223372036854775807) (hnc : n ≤ c) :
    Calls Try.prog 22 #[.slice A n c, .int .i64 d] w fun e w' => e = .returned (.tuple #[.int .i64 (pkN ps d), .bool (pkB ps d)]) ∧ Below w.heap.size w w' := by
  have H := Lib.hid h
  clear h
  rcases h1 : avB ps with _ | _
  · have HK := Lib.hid (show pkB ps d = false by rw [pkB, h1, Bool.false_and])
    go_enter Try.func22, Try.ntmps22
    go_wp2_with (go_at_call 15; refine (avI_any A n c ps _ H.out hn).mono ?_; rintro e w1 ⟨rfl, hb1⟩; have B1 := Lib.hid hb1; clear hb1)
    go_ret2
    exact ⟨ret_two (pkN_no HK.out).symm HK.out.symm, B1.out⟩
  · rcases h2 : inB d 1 10001 with _ | _
    · have HK := Lib.hid (show pkB ps d = false by rw [pkB, h2, Bool.and_false])
      go_enter Try.func22, Try.ntmps22
      go_wp2_with (first | (go_at_call 15; refine (avI_any A n c ps _ H.out hn).mono ?_; rintro e w1 ⟨rfl, hb1⟩; have B1 := Lib.hid hb1; clear hb1) | (go_at_call 41; refine (within_any _ _ _ _).mono ?_; rintro e w' ⟨rfl, rfl⟩))
      go_ret2
      exact ⟨ret_two (pkN_no HK.out).symm HK.out.symm, B1.out⟩
    · have HK := Lib.hid (show pkB ps d = true by rw [pkB, h1, h2]; rfl)
      have V0 := Lib.hid (av_of h1).2
      have hn32 : n ≤ 32 := by have := (av_of h1).1; have := H.out.1; omega
      have hd := inB_of h2
      go_enter Try.func22, Try.ntmps22
      go_wp2_with fail
      refine (avI_any A n c ps _ H.out hn).mono ?_
      rintro e w1 ⟨rfl, hb1⟩
      rw [h1]
      have B1 := Lib.hid hb1
      clear hb1
      go_wp2_with (go_at_call 41; refine (within_any _ _ _ _).mono ?_; rintro e w' ⟨rfl, rfl⟩)
      go_loopw [6, 19] (fun m i wr => PkRel w ps d n m i wr) (fun _ i _ => n - (intOf i).toNat)
      case atStart => exact ⟨0, 0, Nat.zero_le _, rfl, rfl, rfl, B1.out⟩
      case round =>
        obtain ⟨k, M, hk, rfl, rfl, he, hbl⟩ := hrel
        have HE := Lib.hid he
        have HB := Lib.hid hbl
        clear he hbl
        by_cases hlt : k < n
        · obtain ⟨b, off, p, rfl, hb, hp, c0, c1⟩ := ar_at (ar_below H.out HB.out) hlt
          have a1 := av_at V0.out hp
          have HP := Lib.hid hp
          have hck : c ≠ k := by omega
          have HD := Lib.hid (ar_dropA (ar_below H.out HB.out) (Nat.le_of_lt hlt))
          have VD := Lib.hid (av_drop V0.out k)
          obtain ⟨X, hX⟩ : ∃ X, X = pk1 (p.t + d) 0 (ps.drop k) := ⟨_, rfl⟩
          have HX := Lib.hid hX
          clear hp hX
          have hS : ((wr.alloc (.cells #[.int .i64 p.t, .int .i64 p.z] 50)).drew).cell? ⟨wr.heap.size, 0, none⟩ = some (.int .i64 p.t) ∧ Below w.heap.size w (wr.alloc (.cells #[.int .i64 p.t, .int .i64 p.z] 50)).drew ∧ AR (wr.alloc (.cells #[.int .i64 p.t, .int .i64 p.z] 50)).drew (some ⟨b, off + k * 2, none⟩) (n - k) (ps.drop k) := ⟨blk_cell (blk_new wr _ _) 0, (below_alloc HB.out _).drew, ar_alloc HD.out _⟩
          have hnk : n - k ≤ 32 := by omega
          have yw : IntKind.i64.wrap (p.t + d) = p.t + d := IntWalk.i64_in _ (by omega)
          by_cases hm : M < X
          all_goals
            go_wp2_with fail
            refine wp_region_held_drew (S := fun w' => w'.cell? ⟨wr.heap.size, 0, none⟩ = some (.int .i64 p.t) ∧ Below w.heap.size w w' ∧ AR w' (some ⟨b, off + k * 2, none⟩) (n - k) (ps.drop k)) (by kernel_rfl) hS (fun hH => ?_)
            refine wpAnyH_take (i := 0) (oi := { dst := some 24, op := Op.move (Operand.tmp 6), type := 3, pos := "l10_envelopes.go:113", after := #[], guard := none }) (v := ?_) rfl (by kernel_rfl) (by kernel_rfl) (by kernel_rfl) (fun _ _ _ h => h) (Or.inl ⟨by rfl, ?_⟩) hS ?_
            rotate_left
            · (intro w9 hSw; (try dsimp only at hSw); go_simp; try with_reducible rfl)
            try simp only [Act.put, List.setIfInBounds_toArray, List.set_cons_zero, List.set_cons_succ]
            refine wpAnyH_take (i := 1) (oi := { dst := some 25, op := Op.move (Operand.tmp 0), type := 23, pos := "l10_envelopes.go:113", after := #[], guard := none }) (v := ?_) rfl (by kernel_rfl) (by kernel_rfl) (by kernel_rfl) (fun _ _ _ h => h) (Or.inl ⟨by rfl, ?_⟩) hS ?_
            rotate_left
            · (intro w9 hSw; (try dsimp only at hSw); go_simp; try with_reducible rfl)
            try simp only [Act.put, List.setIfInBounds_toArray, List.set_cons_zero, List.set_cons_succ]
            refine wpAnyH_take (i := 2) (oi := { dst := some 26, op := Op.move (Operand.tmp 7), type := 3, pos := "l10_envelopes.go:113", after := #[], guard := none }) (v := ?_) rfl (by kernel_rfl) (by kernel_rfl) (by kernel_rfl) (fun _ _ _ h => h) (Or.inl ⟨by rfl, ?_⟩) hS ?_
            rotate_left
            · (intro w9 hSw; (try dsimp only at hSw); go_simp; try with_reducible rfl)
            try simp only [Act.put, List.setIfInBounds_toArray, List.set_cons_zero, List.set_cons_succ]
            refine wpAnyH_take (i := 3) (oi := { dst := some 27, op := Op.slice 23 (Operand.tmp 25) (some (Operand.tmp 26)) none none, type := 23, pos := "l10_envelopes.go:113", after := #[{ on := 1, ground := Ground.data }, { on := 2, ground := Ground.data }], guard := none }) (v := ?_) rfl (by kernel_rfl) (by kernel_rfl) (by kernel_rfl) (fun _ _ _ h => h) (Or.inl ⟨by rfl, ?_⟩) hS ?_
            rotate_left
            · (intro w9 hSw; (try dsimp only at hSw); go_simp; try with_reducible rfl)
            try simp only [Act.put, List.setIfInBounds_toArray, List.set_cons_zero, List.set_cons_succ]
            refine wpAnyH_take (i := 4) (oi := { dst := some 28, op := Op.fieldAddr 50 (Operand.tmp 8) 0, type := 0, pos := "l10_envelopes.go:113", after := #[], guard := none }) (v := ?_) rfl (by kernel_rfl) (by kernel_rfl) (by kernel_rfl) (fun _ _ _ h => h) (Or.inl ⟨by rfl, ?_⟩) hS ?_
            rotate_left
            · (intro w9 hSw; (try dsimp only at hSw); go_simp; try with_reducible rfl)
            try simp only [Act.put, List.setIfInBounds_toArray, List.set_cons_zero, List.set_cons_succ]
            refine wpAnyH_take (i := 5) (oi := { dst := some 29, op := Op.load 3 (Operand.tmp 28), type := 3, pos := "l10_envelopes.go:113", after := #[{ on := 4, ground := Ground.data }], guard := none }) (v := ?_) rfl (by kernel_rfl) (by kernel_rfl) (by kernel_rfl) (fun _ _ _ h => h) (Or.inl ⟨by rfl, ?_⟩) hS ?_
            rotate_left
            · (intro w9 hSw; (try dsimp only at hSw); go_simp; try with_reducible rfl)
            try simp only [Act.put, List.setIfInBounds_toArray, List.set_cons_zero, List.set_cons_succ]
            refine wpAnyH_take (i := 6) (oi := { dst := some 30, op := Op.move (Operand.tmp 1), type := 3, pos := "l10_envelopes.go:113", after := #[], guard := none }) (v := ?_) rfl (by kernel_rfl) (by kernel_rfl) (by kernel_rfl) (fun _ _ _ h => h) (Or.inl ⟨by rfl, ?_⟩) hS ?_
            rotate_left
            · (intro w9 hSw; (try dsimp only at hSw); go_simp; try with_reducible rfl)
            try simp only [Act.put, List.setIfInBounds_toArray, List.set_cons_zero, List.set_cons_succ]
            refine wpAnyH_take (i := 7) (oi := { dst := some 31, op := Op.binOp BinOp.add 3 (Operand.tmp 29) (Operand.tmp 30) 3, type := 3, pos := "l10_envelopes.go:113", after := #[{ on := 5, ground := Ground.data }, { on := 6, ground := Ground.data }], guard := none }) (v := ?_) rfl (by kernel_rfl) (by kernel_rfl) (by kernel_rfl) (fun _ _ _ h => h) (Or.inl ⟨by rfl, ?_⟩) hS ?_
            rotate_left
            · (intro w9 hSw; (try dsimp only at hSw); go_simp; try with_reducible rfl)
            try simp only [Act.put, List.setIfInBounds_toArray, List.set_cons_zero, List.set_cons_succ]
            refine wpAnyH_ready (rs := [8]) (by kernel_rfl) (by simp) ?_
            refine AllReadyH.cons (o := { dst := some 32, op := Op.call { callee := Callee.value (Operand.func 47), args := #[Operand.tmp 27, Operand.tmp 31], argTypes := #[23, 3] }, type := 3, pos := "l10_envelopes.go:113", after := #[{ on := 3, ground := Ground.data }, { on := 7, ground := Ground.data }], guard := none }) rfl (fun K hK => ?_) AllReadyH.nil
            go_simp
            go_at_call 47
            refine (bbI_any _ (n - k) (c - k) (ps.drop k) (p.t + d) 0 _ hS.2.2 hnk VD.out).mono ?_
            rintro e w3 ⟨rfl, hb3⟩
            rw [← HX.out]
            have hS3 : w3.cell? ⟨wr.heap.size, 0, none⟩ = some (.int .i64 p.t) ∧ Below w.heap.size w w3 ∧ AR w3 (some ⟨b, off + k * 2, none⟩) (n - k) (ps.drop k) := ⟨((bcell hb3).1 _ 0 (by simp)).trans hS.1, below_seq hS.2.1 hb3, ar_below hS.2.2 hb3⟩
            have HS3 := Lib.hid hS3
            clear hb3
            refine hK.out _ _ hS3 (fun hH => ?_)
            clear hK K
            try simp only [Act.put, List.setIfInBounds_toArray, List.set_cons_zero, List.set_cons_succ]
            refine wpAnyH_take (i := 9) (oi := { dst := some 33, op := Op.call { callee := Callee.builtin Builtin.max, args := #[Operand.tmp 24, Operand.tmp 32], argTypes := #[3, 3] }, type := 3, pos := "l10_envelopes.go:113", after := #[{ on := 0, ground := Ground.data }, { on := 8, ground := Ground.data }], guard := none }) (v := ?_) rfl (by kernel_rfl) (by kernel_rfl) (by kernel_rfl) (fun _ _ _ h => h) (Or.inl ⟨by rfl, ?_⟩) hS3 ?_
            rotate_left
            · (intro w9 hSw; (try dsimp only at hSw); go_simp; try with_reducible rfl)
            try simp only [Act.put, List.setIfInBounds_toArray, List.set_cons_zero, List.set_cons_succ]
            refine wpAnyH_take (i := 10) (oi := { dst := some 6, op := Op.assign (Operand.tmp 33), type := 3, pos := "l10_envelopes.go:113", after := #[{ on := 9, ground := Ground.data }, { on := 8, ground := Ground.chain }, { on := 0, ground := Ground.phase }, { on := 1, ground := Ground.phase }, { on := 2, ground := Ground.phase }, { on := 3, ground := Ground.phase }, { on := 4, ground := Ground.phase }, { on := 5, ground := Ground.phase }, { on := 6, ground := Ground.phase }, { on := 7, ground := Ground.phase }, { on := 8, ground := Ground.phase }, { on := 9, ground := Ground.phase }], guard := none }) (v := ?_) rfl (by kernel_rfl) (by kernel_rfl) (by kernel_rfl) (fun _ _ _ h => h) (Or.inl ⟨by rfl, ?_⟩) hS3 ?_
            rotate_left
            · (intro w9 hSw; (try dsimp only at hSw); go_simp; try with_reducible rfl)
            try simp only [Act.put, List.setIfInBounds_toArray, List.set_cons_zero, List.set_cons_succ]
            refine wpAnyH_done (by kernel_rfl) ?_ _
            go_wp2
            go_roundw
            case rel => exact ⟨k + 1, _, by omega, by go_num, rfl, pk_step HE.out HP.out (by rw [← HX.out]; unfold mx; split <;> omega), HS3.out.2.1⟩
            case measure => simp [intOf]; omega
        · obtain rfl : k = n := by omega
          go_wp2
          go_ret2
          exact ⟨ret_two (by rw [pkN_yes HK.out, HE.out, drop_end (by have := H.out.1; omega)]; rfl) HK.out.symm, HB.out⟩
def PkIn (w : World) (ps : List Arr) (e : Int) (n k0 : Nat) (R : Int) (s i : Value) (wr : World) : Prop :=
  ∃ (k : Nat) (S : Int), k0 ≤ k ∧ k ≤ n ∧ i = .int .i64 (k : Int) ∧ s = .int .i64 S ∧ R = pk1 e S (ps.drop k) ∧ 0 ≤ S ∧ S ≤ 100 * k ∧ Below w.heap.size w wr
theorem pk1_go {e S R : Int} {ps : List Arr} {k : Nat} {p : Arr} (h : R = pk1 e S (ps.drop k)) (hp : ps[k]? = some p) (ht : p.t < e) : R = pk1 e (S + p.z) (ps.drop (k + 1)) := by
  rw [h, drop_at hp]
  simp only [pk1]
  rw [if_pos ht]
theorem pk1_stop {e S R : Int} {ps : List Arr} {k : Nat} {p : Arr} (h : R = pk1 e S (ps.drop k)) (hp : ps[k]? = some p) (ht : e ≤ p.t) : R = S := by
  rw [h, drop_at hp]
  simp only [pk1]
  rw [if_neg (by omega)]
theorem pk1_end {e S R : Int} {ps : List Arr} {k : Nat} (h : R = pk1 e S (ps.drop k)) (hk : ps.length ≤ k) : R = S := by
  rw [h, drop_end hk]; rfl
set_option maxHeartbeats 2000000 in
theorem pkS_any (A : Option Addr) (n c : Nat) (ps : List Arr) (d : Int) (w : World) (h : AR w A n ps) (hn : n ≤ 9223372036854775807) :
    Calls Try.prog 35 #[.slice A n c, .int .i64 d] w fun e w' => e = .returned (.tuple #[.int .i64 (pkN ps d), .bool (pkB ps d)]) ∧ Below w.heap.size w w' := by
  have H := Lib.hid h
  clear h
  rcases h1 : avB ps with _ | _
  · have HK := Lib.hid (show pkB ps d = false by rw [pkB, h1, Bool.false_and])
    go_enter Try.func35, Try.ntmps35
    go_wp2_with (go_at_call 16; refine (avS_any A n c ps _ H.out hn).mono ?_; rintro e w1 ⟨rfl, hb1⟩; have B1 := Lib.hid hb1; clear hb1)
    go_ret2
    exact ⟨ret_two (pkN_no HK.out).symm HK.out.symm, B1.out⟩
  · by_cases h2 : d < 1
    · have HK := Lib.hid (show pkB ps d = false by rw [pkB, inB, decide_eq_false (by omega), Bool.and_false])
      go_enter Try.func35, Try.ntmps35
      go_wp2_with (go_at_call 16; refine (avS_any A n c ps _ H.out hn).mono ?_; rintro e w1 ⟨rfl, hb1⟩; have B1 := Lib.hid hb1; clear hb1)
      go_ret2
      exact ⟨ret_two (pkN_no HK.out).symm HK.out.symm, B1.out⟩
    · by_cases h3 : 10001 < d
      · have HK := Lib.hid (show pkB ps d = false by rw [pkB, inB, decide_eq_false (by omega), Bool.and_false])
        have d2 : decide (d < 1) = false := decide_eq_false h2
        go_enter Try.func35, Try.ntmps35
        go_wp2_with (go_at_call 16; refine (avS_any A n c ps _ H.out hn).mono ?_; rintro e w1 ⟨rfl, hb1⟩; have B1 := Lib.hid hb1; clear hb1)
        go_ret2
        exact ⟨ret_two (pkN_no HK.out).symm HK.out.symm, B1.out⟩
      · have HK := Lib.hid (show pkB ps d = true by rw [pkB, h1, inB, decide_eq_true (by omega)]; rfl)
        have V0 := Lib.hid (av_of h1).2
        have hn32 : n ≤ 32 := by have := (av_of h1).1; have := H.out.1; omega
        have d2 : decide (d < 1) = false := decide_eq_false h2
        have d3 : decide (10001 < d) = false := decide_eq_false h3
        go_enter Try.func35, Try.ntmps35
        go_wp2_with fail
        refine (avS_any A n c ps _ H.out hn).mono ?_
        rintro e w1 ⟨rfl, hb1⟩
        rw [h1]
        have B1 := Lib.hid hb1
        clear hb1
        go_wp2
        go_loopw [6, 7] (fun m i wr => PkRel w ps d n m i wr) (fun _ i _ => n - (intOf i).toNat)
        case atStart => exact ⟨0, 0, Nat.zero_le _, rfl, rfl, rfl, B1.out⟩
        case round =>
          obtain ⟨k, M, hk, rfl, rfl, he, hbl⟩ := hrel
          have HE := Lib.hid he
          have HB := Lib.hid hbl
          clear he hbl
          by_cases hlt : k < n
          · obtain ⟨b, off, p, rfl, hb, hp, c0, c1⟩ := ar_at (ar_below H.out HB.out) hlt
            have HP := Lib.hid hp
            have a1 := av_at V0.out hp
            have yw : IntKind.i64.wrap (p.t + d) = p.t + d := IntWalk.i64_in _ (by omega)
            clear hp c1 c0 hb
            go_wp2
            go_loopw [8, 9] (fun s i wr => PkIn w ps (p.t + d) n k (pk1 (p.t + d) 0 (ps.drop k)) s i wr) (fun _ i _ => n - (intOf i).toNat)
            case atStart => exact ⟨k, 0, Nat.le_refl _, hk, rfl, rfl, rfl, by omega, by omega, HB.out⟩
            case round =>
              obtain ⟨k2, S, hk2, hk3, rfl, rfl, he2, s0, s1, hbl2⟩ := hrel
              have HE2 := Lib.hid he2
              have HB2 := Lib.hid hbl2
              clear he2 hbl2
              by_cases hlt2 : k2 < n
              · obtain ⟨b2, off2, q, e2, hb2, hq, d0, d1⟩ := ar_at (k := k2) (ar_below H.out HB2.out) hlt2
                obtain ⟨rfl, rfl⟩ : b = b2 ∧ off = off2 := by injection e2 with e2; injection e2 with a b; exact ⟨a, b⟩
                obtain ⟨b3, off3, q3, e3, hb3, hq3, c0, _⟩ := ar_at (k := k) (ar_below H.out HB2.out) hlt
                obtain ⟨rfl, rfl⟩ : b = b3 ∧ off = off3 := by injection e3 with e3; injection e3 with a b; exact ⟨a, b⟩
                obtain rfl : p = q3 := by have := HP.out; rw [hq3] at this; exact (Option.some.inj this).symm
                have a2 := av_at V0.out hq
                have HQ := Lib.hid hq
                clear hq hq3 e2 e3 hb3
                have k2n : (k2 : Int) < (n : Int) := by omega
                have kn : (k : Int) < (n : Int) := by omega
                by_cases ht : q.t < p.t + d
                · have g0 : decide (q.t < p.t + d) = true := decide_eq_true ht
                  go_wp2_with fail
                  go_quiet (fail)
                  go_wp2
                  go_roundw
                  case rel => exact ⟨k2 + 1, _, by omega, by omega, by go_num, rfl, pk1_go HE2.out HQ.out (by omega), by omega, by omega, below_drewN HB2.out _⟩
                  case measure => simp [intOf]; omega
                · have g0 : decide (q.t < p.t + d) = false := decide_eq_false ht
                  have HR := Lib.hid (pk1_stop HE2.out HQ.out (by omega))
                  by_cases hm : M < S
                  · go_wp2_with fail
                    go_quiet (fail)
                    go_wp2
                    go_roundw
                    case rel => exact ⟨k + 1, _, by omega, by go_num, rfl, pk_step HE.out HP.out (by rw [HR.out]; unfold mx; split <;> omega), by first | exact HB2.out | exact below_drewN HB2.out _⟩
                    case measure => simp [intOf]; omega
                  · have hm' : S ≤ M := by omega
                    go_wp2_with fail
                    go_quiet (fail)
                    go_wp2
                    go_roundw
                    case rel => exact ⟨k + 1, _, by omega, by go_num, rfl, pk_step HE.out HP.out (by rw [HR.out]; unfold mx; split <;> omega), by first | exact HB2.out | exact below_drewN HB2.out _⟩
                    case measure => simp [intOf]; omega
              · obtain rfl : k2 = n := by omega
                have HR := Lib.hid (pk1_end HE2.out (by have := H.out.1; omega))
                by_cases hm : M < S
                · go_wp2_with fail
                  go_quiet (fail)
                  go_wp2
                  go_roundw
                  case rel => exact ⟨k + 1, _, by omega, by go_num, rfl, pk_step HE.out HP.out (by rw [HR.out]; unfold mx; split <;> omega), by first | exact HB2.out | exact below_drewN HB2.out _⟩
                  case measure => simp [intOf]; omega
                · have hm' : S ≤ M := by omega
                  go_wp2_with fail
                  go_quiet (fail)
                  go_wp2
                  go_roundw
                  case rel => exact ⟨k + 1, _, by omega, by go_num, rfl, pk_step HE.out HP.out (by rw [HR.out]; unfold mx; split <;> omega), by first | exact HB2.out | exact below_drewN HB2.out _⟩
                  case measure => simp [intOf]; omega
          · obtain rfl : k = n := by omega
            go_wp2
            go_ret2
            exact ⟨ret_two (by rw [pkN_yes HK.out, HE.out, drop_end (by have := H.out.1; omega)]; rfl) HK.out.symm, HB.out⟩
end Go.Proofs.Ytclgmmnidkppmab
