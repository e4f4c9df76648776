/-
  Chapter 10: the library's stable sort of fewer than 20 arrivals: insertion. Conditions: the row is owned; the arrivals are valid each.
-/
import Derived.Test.YtaccbmgbkalknabEg
import Derived.Test.YtaccbmgbkalknabEr
import Derived.RegionTactic
import Derived.BigQuiet
import Derived.Deep.RegionHeld3
namespace Go.Proofs.Ytaccbmgbkalknab
open Go.RowKit

def AllV (l : List Arr) : Prop := ∀ z ∈ l, 0 ≤ z.t ∧ z.t ≤ 10000 ∧ 1 ≤ z.z ∧ z.z ≤ 100
theorem allv_of {lo : Int} {l : List Arr} (h : avL lo l = true) (h0 : 0 ≤ lo) : AllV l := by
  induction l generalizing lo with
  | nil => intro z hz; cases hz
  | cons a r ih =>
    have h1 := av_cons.1 h
    intro z hz
    rcases List.mem_cons.1 hz with e | e
    · subst e; omega
    · exact ih h1.2.2.2.2 (by omega) z e
theorem fin_allv {s l : List Arr} (hs : avL 0 s = true) (hl : AllV l) : avL 0 (finA s l) = true := by
  induction l generalizing s with
  | nil => exact hs
  | cons x l ih =>
    have := hl x (by simp)
    exact ih (insA_val hs ⟨this.1, this.2⟩) fun z hz => hl z (by simp [hz])
theorem take_fin {l : List Arr} {i : Nat} {x : Arr} (h : l[i]? = some x) : finA [] (l.take (i + 1)) = insA x (finA [] (l.take i)) := by
  rw [List.take_add_one, h, finA_append]
  rfl
theorem le_last {lo : Int} {A B : List Arr} {y : Arr} (h : avL lo (A ++ [y] ++ B) = true) : ∀ z ∈ A ++ [y], z.t ≤ y.t := by
  induction A generalizing lo with
  | nil =>
    intro z hz
    obtain rfl : z = y := by simpa using hz
    exact Int.le_refl _
  | cons a A ih =>
    have h1 := av_cons.1 h
    intro z hz
    rcases List.mem_cons.1 hz with e | e
    · subst e
      have h3 : y ∈ A ++ [y] ++ B := by simp
      obtain ⟨k, hk⟩ := List.mem_iff_getElem?.1 h3
      exact (av_at h1.2.2.2.2 hk).1
    · exact ih h1.2.2.2.2 z e
theorem swap_mid {A C : List Arr} {x y : Arr} : ((A ++ y :: x :: C).set (A.length + 1) y).set A.length x = A ++ x :: y :: C := by
  induction A with
  | nil => rfl
  | cons a A ih => simp
theorem at_mid {A C : List Arr} {x y : Arr} : (A ++ y :: x :: C)[A.length]? = some y ∧ (A ++ y :: x :: C)[A.length + 1]? = some x := by
  induction A with
  | nil => exact ⟨rfl, rfl⟩
  | cons a A ih => simp
theorem own_drewN0 {w : World} {base size : Nat} {e : TypeId} {v : Value} {n : Nat} {xs : List Value} (h : w.ownsRow base e size v n xs) (k : Nat) : (w.drewN k).ownsRow base e size v n xs := own_below h (below_drewN (Below.refl _ _) k)
def cmpV (x y : Int) : Int := if x < y then -1 else if y < x then 1 else 0
theorem nan_any (x : Int) (w : World) : Calls Try.prog 22 #[.int .i64 x] w fun e w' => e = .returned (.bool false) ∧ w = w' := by
  go_enter Try.func22, Try.ntmps22
  go_wp2
  go_ret
  exact ⟨by simp, rfl⟩
theorem cmpI_any (x y : Int) (w : World) : Calls Try.prog 17 #[.int .i64 x, .int .i64 y] w fun e w' => e = .returned (.int .i64 (cmpV x y)) ∧ w = w' := by
  by_cases h1 : x < y
  · go_enter Try.func17, Try.ntmps17
    go_wp2_with (go_at_call 22; refine (nan_any _ _).mono ?_; rintro e w' ⟨rfl, rfl⟩)
    go_ret
    exact ⟨ret_int (by unfold cmpV; rw [if_pos h1]), rfl⟩
  · by_cases h2 : y < x
    · go_enter Try.func17, Try.ntmps17
      go_wp2_with (go_at_call 22; refine (nan_any _ _).mono ?_; rintro e w' ⟨rfl, rfl⟩)
      go_ret
      exact ⟨ret_int (by unfold cmpV; rw [if_neg (by omega), if_pos h2]), rfl⟩
    · go_enter Try.func17, Try.ntmps17
      go_wp2_with (go_at_call 22; refine (nan_any _ _).mono ?_; rintro e w' ⟨rfl, rfl⟩)
      go_ret
      exact ⟨ret_int (by unfold cmpV; rw [if_neg (by omega), if_neg (by omega)]), rfl⟩
set_option maxHeartbeats 400000 in
theorem cmpA_any (p q : Arr) (V : Int) (w : World) (hV : cmpV p.t q.t = V) : Calls Try.prog 16 #[.agg #[.int .i64 p.t, .int .i64 p.z], .agg #[.int .i64 q.t, .int .i64 q.z]] w fun e w' => e = .returned (.int .i64 V) ∧ Below w.heap.size w w' := by
  have B0 := Lib.hid (below_alloc (below_alloc (Below.refl w.heap.size w) (.cells #[.int .i64 p.t, .int .i64 p.z] 33)) (.cells #[.int .i64 q.t, .int .i64 q.z] 33))
  subst hV
  go_enter Try.func16, Try.ntmps16
  go_wp2_with fail
  refine (cmpI_any p.t q.t _).mono ?_
  rintro e w1 ⟨rfl, rfl⟩
  go_wp2
  go_ret
  exact ⟨rfl, B0.out⟩
def SoOut (w : World) (base b n c : Nat) (l : List Arr) (vi : Value) (wr : World) : Prop :=
  ∃ i : Nat, 1 ≤ i ∧ i ≤ n ∧ vi = .int .i64 (i : Int) ∧ wr.ownsRow base 33 2 (.slice (some ⟨b, 0, none⟩) n c) n (acells (finA [] (l.take i) ++ l.drop i)) ∧ w.grownBy wr (some b)
def SoIn (w : World) (base b n c i : Nat) (S R : List Arr) (x : Arr) (vj : Value) (wr : World) : Prop :=
  ∃ (j : Nat) (A B : List Arr), vj = .int .i64 (j : Int) ∧ A.length = j ∧ j ≤ i ∧ A ++ B = S ∧ (∀ z ∈ B, x.t < z.t) ∧ wr.ownsRow base 33 2 (.slice (some ⟨b, 0, none⟩) n c) n (acells (A ++ x :: B ++ R)) ∧ w.grownBy wr (some b)
set_option maxHeartbeats 4000000 in
theorem insI_any (base b n c : Nat) (l : List Arr) (w : World) (ho : w.ownsRow base 33 2 (.slice (some ⟨b, 0, none⟩) n c) n (acells l)) (hn : 1 ≤ n ∧ n ≤ 1000) (hl : AllV l) :
    Calls Try.prog 23 #[.slice (some ⟨b, 0, none⟩) n c, .int .i64 0, .int .i64 (n : Int), .func (.func 16) #[] #[]] w fun e w' =>
      e = .returned (.tuple #[]) ∧ w'.ownsRow base 33 2 (.slice (some ⟨b, 0, none⟩) n c) n (acells (finA [] l)) ∧ w.grownBy w' (some b) := by
  have hlen : l.length = n := (ar_own ho).1
  have R0 : SoOut w base b n c l (.int .i64 1) w := by
    refine ⟨1, Nat.le_refl _, hn.1, rfl, ?_, g_refl _ _⟩
    have : finA [] (l.take 1) ++ l.drop 1 = l := by
      rcases l with _ | ⟨x, r⟩
      · simp at hlen; omega
      · rfl
    rw [this]
    exact ho
  have HR0 := Lib.hid R0
  have HL := Lib.hid hl
  have HLN := Lib.hid hlen
  clear R0 ho hl hlen
  go_enter Try.func23, Try.ntmps23
  go_wp2
  go_loopw [8] (fun vi wr => SoOut w base b n c l vi wr) (fun vi _ => n - (intOf vi).toNat)
  case atStart => exact HR0.out
  case round =>
    obtain ⟨i, hi1, hin, rfl, hoi, hgi⟩ := hrel
    clear HR0
    by_cases hlt : i < n
    · have hltz : (i : Int) < (n : Int) := by omega
      obtain ⟨x, hx⟩ : ∃ x, l[i]? = some x := ⟨_, List.getElem?_eq_getElem (by rw [HLN.out]; exact hlt)⟩
      have HX := Lib.hid hx
      have HSV := Lib.hid (fin_allv (s := []) (l := l.take i) rfl (fun z hz => HL.out z (List.mem_of_mem_take hz)))
      have hSl : (finA [] (l.take i)).length = i := by
        rw [finA_len, List.length_take, HLN.out]
        simp
        omega
      obtain ⟨S, hS⟩ : ∃ S, S = finA [] (l.take i) := ⟨_, rfl⟩
      obtain ⟨R, hR⟩ : ∃ R, R = l.drop (i + 1) := ⟨_, rfl⟩
      rw [← hS] at hSl hoi
      have HSS := Lib.hid hS
      have HRR := Lib.hid hR
      have R1 : SoIn w base b n c i S R x (.int .i64 (i : Int)) wr := ⟨i, S, [], rfl, hSl, Nat.le_refl _, by simp, fun z hz => (by cases hz), by rw [drop_at hx, ← hR] at hoi; simpa using hoi, hgi⟩
      have HR1 := Lib.hid R1
      -- the end of the inner loop
      have OUT := Lib.hid (fun (A B : List Arr) (W : World) (e : A ++ B = S) (hA : ∀ z ∈ A, z.t ≤ x.t) (hB : ∀ z ∈ B, x.t < z.t) (ho : W.ownsRow base 33 2 (.slice (some ⟨b, 0, none⟩) n c) n (acells (A ++ x :: B ++ R))) (hg : w.grownBy W (some b)) =>
        (show SoOut w base b n c l (.int .i64 ((i : Int) + 1)) W from ⟨i + 1, by omega, by omega, by go_num, by rw [take_fin HX.out, ← HSS.out, ← e, insA_at hA hB, ← HRR.out]; exact ho, hg⟩))
      clear R1 hx hS hR hSl hoi hgi
      go_wp2
      go_loopw [9] (fun vj wr2 => SoIn w base b n c i S R x vj wr2) (fun vj _ => (intOf vj).toNat)
      case atStart => exact HR1.out
      case round =>
        obtain ⟨j, A, B, rfl, hAl, hji, hAB, hB, hoj, hgj⟩ := hrel
        clear HR1
        rcases List.eq_nil_or_concat A with hA0 | ⟨A', y, hA0⟩
        · subst hA0
          obtain rfl : j = 0 := by simpa using hAl.symm
          have HO := Lib.hid (OUT.out [] B wr hAB (fun z hz => by cases hz) hB hoj hgj)
          clear hoj hgj hAB hB
          go_wp2_with fail
          go_quiet (fail)
          go_wp2
          go_roundw
          case rel =>
            obtain ⟨i', q1, q2, q3, q4, q5⟩ := HO.out
            exact ⟨i', q1, q2, q3, own_drewN0 q4 _, g_drewN q5 _⟩
          case measure => simp [intOf]; omega
        · subst hA0
          obtain ⟨m, rfl⟩ : ∃ m, j = m + 1 := ⟨A'.length, by simp at hAl; omega⟩
          have hAl' : A'.length = m := by simpa using hAl
          have hcur : A' ++ [y] ++ x :: B ++ R = A' ++ y :: x :: (B ++ R) := by simp
          simp only [List.concat_eq_append] at hoj hAB
          rw [hcur] at hoj
          have HOJ := Lib.hid hoj
          have HGJ := Lib.hid hgj
          have HAB := Lib.hid hAB
          have HB := Lib.hid hB
          have HAL := Lib.hid hAl'
          obtain ⟨b1, o1, y1, e1, e2, hy, d0, d1⟩ := ar_at (k := m) (ar_own hoj) (by omega)
          obtain ⟨rfl, rfl⟩ : b = b1 ∧ 0 = o1 := by injection e1 with e1; injection e1 with a b; exact ⟨a, b⟩
          obtain rfl : y = y1 := by rw [← hAl', at_mid.1] at hy; exact Option.some.inj hy
          obtain ⟨b1, o1, x1, e3, e4, hx1, c0, c1⟩ := ar_at (k := m + 1) (ar_own hoj) (by omega)
          obtain ⟨rfl, rfl⟩ : b = b1 ∧ 0 = o1 := by injection e3 with e1; injection e1 with a b; exact ⟨a, b⟩
          obtain rfl : x = x1 := by rw [← hAl', at_mid.2] at hx1; exact Option.some.inj hx1
          rw [Nat.zero_add] at c0 c1 d0 d1
          have hbl : b < wr.heap.size := e2
          have m0 : (0 : Int) < (m : Int) + 1 := by omega
          have m1 : (m : Int) + 1 < (n : Int) := by omega
          have m2 : (m : Int) < (n : Int) := by omega
          have p0 : (0 : Int) ≤ (m : Int) + 1 := by omega
          have p1 : (0 : Int) ≤ (m : Int) := by omega
          have hwp : IntKind.i64.wrap (m : Int) = (m : Int) := by rw [IntKind.wrap_i64]; omega
          have hS0 : wr.drew.cell? ⟨b, (m + 1) * 2, none⟩ = some (.int .i64 x.t) ∧ wr.drew.cell? ⟨b, (m + 1) * 2 + 1, none⟩ = some (.int .i64 x.z) ∧ wr.drew.cell? ⟨b, m * 2, none⟩ = some (.int .i64 y.t) ∧ wr.drew.cell? ⟨b, m * 2 + 1, none⟩ = some (.int .i64 y.z) ∧ Below wr.heap.size wr wr.drew := ⟨c0, c1, d0, d1, (Below.refl _ _).drew⟩
          obtain ⟨V, hV⟩ : ∃ V, cmpV x.t y.t = V := ⟨_, rfl⟩
          have HV := Lib.hid hV
          clear hoj hgj hAB hB hAl hAl' hcur e1 e2 e3 e4 hy hx1
          by_cases hxy : x.t < y.t
          · have hV0 : V < 0 := by rw [← hV]; unfold cmpV; rw [if_pos hxy]; omega
            have HXY := Lib.hid hxy
            clear hV hxy
            go_wp2_with fail
            refine wp_region_held_drew (S := fun w' => w'.cell? ⟨b, (m + 1) * 2, none⟩ = some (.int .i64 x.t) ∧ w'.cell? ⟨b, (m + 1) * 2 + 1, none⟩ = some (.int .i64 x.z) ∧ w'.cell? ⟨b, m * 2, none⟩ = some (.int .i64 y.t) ∧ w'.cell? ⟨b, m * 2 + 1, none⟩ = some (.int .i64 y.z) ∧ Below wr.heap.size wr w') (by kernel_rfl) hS0 (fun hH => ?_)
            refine wpAnyH_take (i := 0) (oi := { dst := some 18, op := Op.move (Operand.tmp 9), type := 3, pos := "zsortanyfunc.go:12", after := #[], guard := none }) (v := ?_) rfl (by kernel_rfl) (by kernel_rfl) (by kernel_rfl) (fun _ _ _ h => h) (Or.inl ⟨by rfl, ?_⟩) hS0 ?_
            rotate_left
            · (intro w9 hSw; (try dsimp only at hSw); go_simp; try with_reducible rfl)
            try simp only [Act.put, List.setIfInBounds_toArray, List.set_cons_zero, List.set_cons_succ]
            refine wpAnyH_take (i := 1) (oi := { dst := some 19, op := Op.move (Operand.tmp 1), type := 3, pos := "zsortanyfunc.go:12", after := #[], guard := none }) (v := ?_) rfl (by kernel_rfl) (by kernel_rfl) (by kernel_rfl) (fun _ _ _ h => h) (Or.inl ⟨by rfl, ?_⟩) hS0 ?_
            rotate_left
            · (intro w9 hSw; (try dsimp only at hSw); go_simp; try with_reducible rfl)
            try simp only [Act.put, List.setIfInBounds_toArray, List.set_cons_zero, List.set_cons_succ]
            refine wpAnyH_take (i := 2) (oi := { dst := some 20, op := Op.binOp BinOp.gtr 3 (Operand.tmp 18) (Operand.tmp 19) 3, type := 4, pos := "zsortanyfunc.go:12", after := #[{ on := 0, ground := Ground.data }, { on := 1, ground := Ground.data }], guard := none }) (v := ?_) rfl (by kernel_rfl) (by kernel_rfl) (by kernel_rfl) (fun _ _ _ h => h) (Or.inl ⟨by rfl, ?_⟩) hS0 ?_
            rotate_left
            · (intro w9 hSw; (try dsimp only at hSw); go_simp; try with_reducible rfl)
            try simp only [Act.put, List.setIfInBounds_toArray, List.set_cons_zero, List.set_cons_succ]
            refine wpAnyH_take (i := 3) (oi := { dst := some 21, op := Op.move (Operand.tmp 20), type := 4, pos := "zsortanyfunc.go:12", after := #[{ on := 2, ground := Ground.data }], guard := none }) (v := ?_) rfl (by kernel_rfl) (by kernel_rfl) (by kernel_rfl) (fun _ _ _ h => h) (Or.inl ⟨by rfl, ?_⟩) hS0 ?_
            rotate_left
            · (intro w9 hSw; (try dsimp only at hSw); go_simp; try with_reducible rfl)
            try simp only [Act.put, List.setIfInBounds_toArray, List.set_cons_zero, List.set_cons_succ]
            refine wpAnyH_take (i := 4) (oi := { dst := some 22, op := Op.move (Operand.tmp 3), type := 39, pos := "zsortanyfunc.go:12", after := #[{ on := 3, ground := Ground.guard }], guard := some (3, true) }) (v := ?_) rfl (by kernel_rfl) (by kernel_rfl) (by kernel_rfl) (fun _ _ _ h => h) (Or.inl ⟨by rfl, ?_⟩) hS0 ?_
            rotate_left
            · (intro w9 hSw; (try dsimp only at hSw); go_simp; try with_reducible rfl)
            try simp only [Act.put, List.setIfInBounds_toArray, List.set_cons_zero, List.set_cons_succ]
            refine wpAnyH_take (i := 5) (oi := { dst := some 23, op := Op.move (Operand.tmp 0), type := 24, pos := "zsortanyfunc.go:12", after := #[{ on := 3, ground := Ground.guard }], guard := some (3, true) }) (v := ?_) rfl (by kernel_rfl) (by kernel_rfl) (by kernel_rfl) (fun _ _ _ h => h) (Or.inl ⟨by rfl, ?_⟩) hS0 ?_
            rotate_left
            · (intro w9 hSw; (try dsimp only at hSw); go_simp; try with_reducible rfl)
            try simp only [Act.put, List.setIfInBounds_toArray, List.set_cons_zero, List.set_cons_succ]
            refine wpAnyH_take (i := 6) (oi := { dst := some 24, op := Op.move (Operand.tmp 9), type := 3, pos := "zsortanyfunc.go:12", after := #[{ on := 3, ground := Ground.guard }], guard := some (3, true) }) (v := ?_) rfl (by kernel_rfl) (by kernel_rfl) (by kernel_rfl) (fun _ _ _ h => h) (Or.inl ⟨by rfl, ?_⟩) hS0 ?_
            rotate_left
            · (intro w9 hSw; (try dsimp only at hSw); go_simp; try with_reducible rfl)
            try simp only [Act.put, List.setIfInBounds_toArray, List.set_cons_zero, List.set_cons_succ]
            refine wpAnyH_take (i := 7) (oi := { dst := some 25, op := Op.indexAddr 24 (Operand.tmp 23) (Operand.tmp 24), type := 0, pos := "zsortanyfunc.go:12", after := #[{ on := 5, ground := Ground.data }, { on := 6, ground := Ground.data }, { on := 3, ground := Ground.guard }], guard := some (3, true) }) (v := ?_) rfl (by kernel_rfl) (by kernel_rfl) (by kernel_rfl) (fun _ _ _ h => h) (Or.inl ⟨by rfl, ?_⟩) hS0 ?_
            rotate_left
            · (intro w9 hSw; (try dsimp only at hSw); go_simp; try with_reducible rfl)
            try simp only [Act.put, List.setIfInBounds_toArray, List.set_cons_zero, List.set_cons_succ]
            refine wpAnyH_take (i := 8) (oi := { dst := some 26, op := Op.load 33 (Operand.tmp 25), type := 33, pos := "zsortanyfunc.go:12", after := #[{ on := 7, ground := Ground.data }, { on := 3, ground := Ground.guard }], guard := some (3, true) }) (v := ?_) rfl (by kernel_rfl) (by kernel_rfl) (by kernel_rfl) (fun _ _ _ h => h) (Or.inl ⟨by rfl, ?_⟩) hS0 ?_
            rotate_left
            · (intro w9 hSw; (try dsimp only at hSw); go_simp; try with_reducible rfl)
            try simp only [Act.put, List.setIfInBounds_toArray, List.set_cons_zero, List.set_cons_succ]
            refine wpAnyH_take (i := 9) (oi := { dst := some 27, op := Op.move (Operand.tmp 0), type := 24, pos := "zsortanyfunc.go:12", after := #[{ on := 3, ground := Ground.guard }], guard := some (3, true) }) (v := ?_) rfl (by kernel_rfl) (by kernel_rfl) (by kernel_rfl) (fun _ _ _ h => h) (Or.inl ⟨by rfl, ?_⟩) hS0 ?_
            rotate_left
            · (intro w9 hSw; (try dsimp only at hSw); go_simp; try with_reducible rfl)
            try simp only [Act.put, List.setIfInBounds_toArray, List.set_cons_zero, List.set_cons_succ]
            refine wpAnyH_take (i := 10) (oi := { dst := some 28, op := Op.move (Operand.tmp 9), type := 3, pos := "zsortanyfunc.go:12", after := #[{ on := 3, ground := Ground.guard }], guard := some (3, true) }) (v := ?_) rfl (by kernel_rfl) (by kernel_rfl) (by kernel_rfl) (fun _ _ _ h => h) (Or.inl ⟨by rfl, ?_⟩) hS0 ?_
            rotate_left
            · (intro w9 hSw; (try dsimp only at hSw); go_simp; try with_reducible rfl)
            try simp only [Act.put, List.setIfInBounds_toArray, List.set_cons_zero, List.set_cons_succ]
            refine wpAnyH_take (i := 11) (oi := { dst := some 29, op := Op.binOp BinOp.sub 3 (Operand.tmp 28) (Operand.const (Value.int IntKind.i64 1)) 3, type := 3, pos := "zsortanyfunc.go:12", after := #[{ on := 10, ground := Ground.data }, { on := 3, ground := Ground.guard }], guard := some (3, true) }) (v := ?_) rfl (by kernel_rfl) (by kernel_rfl) (by kernel_rfl) (fun _ _ _ h => h) (Or.inl ⟨by rfl, ?_⟩) hS0 ?_
            rotate_left
            · (intro w9 hSw; (try dsimp only at hSw); go_simp; try with_reducible rfl)
            try simp only [Act.put, List.setIfInBounds_toArray, List.set_cons_zero, List.set_cons_succ]
            refine wpAnyH_take (i := 12) (oi := { dst := some 30, op := Op.indexAddr 24 (Operand.tmp 27) (Operand.tmp 29), type := 0, pos := "zsortanyfunc.go:12", after := #[{ on := 9, ground := Ground.data }, { on := 11, ground := Ground.data }, { on := 3, ground := Ground.guard }], guard := some (3, true) }) (v := ?_) rfl (by kernel_rfl) (by kernel_rfl) (by kernel_rfl) (fun _ _ _ h => h) (Or.inl ⟨by rfl, ?_⟩) hS0 ?_
            rotate_left
            · (intro w9 hSw; (try dsimp only at hSw); go_simp; try with_reducible rfl)
            try simp only [Act.put, List.setIfInBounds_toArray, List.set_cons_zero, List.set_cons_succ]
            refine wpAnyH_take (i := 13) (oi := { dst := some 31, op := Op.load 33 (Operand.tmp 30), type := 33, pos := "zsortanyfunc.go:12", after := #[{ on := 12, ground := Ground.data }, { on := 3, ground := Ground.guard }], guard := some (3, true) }) (v := ?_) rfl (by kernel_rfl) (by kernel_rfl) (by kernel_rfl) (fun _ _ _ h => h) (Or.inl ⟨by rfl, ?_⟩) hS0 ?_
            rotate_left
            · (intro w9 hSw; (try dsimp only at hSw); go_simp; try with_reducible rfl)
            try simp only [Act.put, List.setIfInBounds_toArray, List.set_cons_zero, List.set_cons_succ]
            refine wpAnyH_ready (rs := [14]) (by kernel_rfl) (by simp) ?_
            refine AllReadyH.cons (o := { dst := some 32, op := Op.call { callee := Callee.value (Operand.tmp 22), args := #[Operand.tmp 26, Operand.tmp 31], argTypes := #[33, 33] }, type := 3, pos := "zsortanyfunc.go:12", after := #[{ on := 4, ground := Ground.data }, { on := 8, ground := Ground.data }, { on := 13, ground := Ground.data }, { on := 3, ground := Ground.chain }, { on := 3, ground := Ground.guard }], guard := some (3, true) }) rfl (fun K hK => ?_) AllReadyH.nil
            go_simp
            go_at_call 16
            refine (cmpA_any x y V _ HV.out).mono ?_
            rintro e w3 ⟨rfl, hb3⟩
            have hS3 : w3.cell? ⟨b, (m + 1) * 2, none⟩ = some (.int .i64 x.t) ∧ w3.cell? ⟨b, (m + 1) * 2 + 1, none⟩ = some (.int .i64 x.z) ∧ w3.cell? ⟨b, m * 2, none⟩ = some (.int .i64 y.t) ∧ w3.cell? ⟨b, m * 2 + 1, none⟩ = some (.int .i64 y.z) ∧ Below wr.heap.size wr w3 := ⟨((bcell hb3).1 _ _ hbl).trans c0, ((bcell hb3).1 _ _ hbl).trans c1, ((bcell hb3).1 _ _ hbl).trans d0, ((bcell hb3).1 _ _ hbl).trans d1, below_seq hS0.2.2.2.2 hb3⟩
            have HS3 := Lib.hid hS3
            clear hb3
            refine hK.out _ _ hS3 (fun hH => ?_)
            clear hK K
            try simp only [Act.put, List.setIfInBounds_toArray, List.set_cons_zero, List.set_cons_succ]
            refine wpAnyH_take (i := 15) (oi := { dst := some 33, op := Op.binOp BinOp.lss 3 (Operand.tmp 32) (Operand.const (Value.int IntKind.i64 0)) 3, type := 4, pos := "zsortanyfunc.go:12", after := #[{ on := 14, ground := Ground.data }, { on := 3, ground := Ground.guard }], guard := some (3, true) }) (v := ?_) rfl (by kernel_rfl) (by kernel_rfl) (by kernel_rfl) (fun _ _ _ h => h) (Or.inl ⟨by rfl, ?_⟩) hS3 ?_
            rotate_left
            · (intro w9 hSw; (try dsimp only at hSw); go_simp; try with_reducible rfl)
            try simp only [Act.put, List.setIfInBounds_toArray, List.set_cons_zero, List.set_cons_succ]
            refine wpAnyH_take (i := 16) (oi := { dst := some 34, op := Op.pick (Operand.tmp 21) (Operand.tmp 33) (Operand.const (Value.bool false)), type := 4, pos := "zsortanyfunc.go:12", after := #[{ on := 3, ground := Ground.data }, { on := 15, ground := Ground.data }], guard := none }) (v := ?_) rfl (by kernel_rfl) (by kernel_rfl) (by kernel_rfl) (fun _ _ _ h => h) (Or.inl ⟨by rfl, ?_⟩) hS3 ?_
            rotate_left
            · (intro w9 hSw; (try dsimp only at hSw); go_simp; try with_reducible rfl)
            try simp only [Act.put, List.setIfInBounds_toArray, List.set_cons_zero, List.set_cons_succ]
            refine wpAnyH_done (by kernel_rfl) ?_ _
            have ho3 := own_below HOJ.out HS3.out.2.2.2.2
            obtain ⟨s0, s1, s2, s3, -⟩ := HS3.out
            have f0 := World.ownsRow.frozenAt ho3 ((m + 1) * 2)
            have f1 := World.ownsRow.frozenAt ho3 ((m + 1) * 2 + 1)
            have f2 := World.ownsRow.frozenAt ho3 (m * 2)
            have f3 := World.ownsRow.frozenAt ho3 (m * 2 + 1)
            have O3 := Lib.hid ho3
            clear ho3 hS3 hH c0 c1 d0 d1 hS0
            go_wp2_with fail
            go_region
            go_wp2
            go_roundw
            case rel =>
              refine ⟨m, A', y :: B, rfl, HAL.out, by omega, by rw [← HAB.out]; simp, fun z hz => ?_, ?_, g_drewN (g_set (g_set (g_set (g_set (g_below HGJ.out HS3.out.2.2.2.2) (.inl rfl) _) (.inl rfl) _) (.inl rfl) _) (.inl rfl) _) 1⟩
              · rcases List.mem_cons.1 hz with e | e
                · subst e; exact HXY.out
                · exact HB.out z e
              · have h5 := own_set_arr (own_set_arr O3.out (m + 1) y) m x
                rw [← HAL.out, swap_mid, HAL.out] at h5
                have h6 := World.ownsRow.drew h5
                simpa using h6
            case measure => simp [intOf]
          · have hV0 : 0 ≤ V := by rw [← hV]; unfold cmpV; rw [if_neg hxy]; split <;> omega
            have HO := Lib.hid (fun W h1 h2 => OUT.out (A' ++ [y]) B W HAB.out (fun z hz => by
              have := le_last (A := A') (B := B) (y := y) (lo := 0) (by rw [HAB.out, HSS.out]; exact HSV.out) z hz
              omega) HB.out h1 h2)
            clear hV hxy
            go_wp2_with fail
            refine wp_region_held_drew (S := fun w' => w'.cell? ⟨b, (m + 1) * 2, none⟩ = some (.int .i64 x.t) ∧ w'.cell? ⟨b, (m + 1) * 2 + 1, none⟩ = some (.int .i64 x.z) ∧ w'.cell? ⟨b, m * 2, none⟩ = some (.int .i64 y.t) ∧ w'.cell? ⟨b, m * 2 + 1, none⟩ = some (.int .i64 y.z) ∧ Below wr.heap.size wr w') (by kernel_rfl) hS0 (fun hH => ?_)
            refine wpAnyH_take (i := 0) (oi := { dst := some 18, op := Op.move (Operand.tmp 9), type := 3, pos := "zsortanyfunc.go:12", after := #[], guard := none }) (v := ?_) rfl (by kernel_rfl) (by kernel_rfl) (by kernel_rfl) (fun _ _ _ h => h) (Or.inl ⟨by rfl, ?_⟩) hS0 ?_
            rotate_left
            · (intro w9 hSw; (try dsimp only at hSw); go_simp; try with_reducible rfl)
            try simp only [Act.put, List.setIfInBounds_toArray, List.set_cons_zero, List.set_cons_succ]
            refine wpAnyH_take (i := 1) (oi := { dst := some 19, op := Op.move (Operand.tmp 1), type := 3, pos := "zsortanyfunc.go:12", after := #[], guard := none }) (v := ?_) rfl (by kernel_rfl) (by kernel_rfl) (by kernel_rfl) (fun _ _ _ h => h) (Or.inl ⟨by rfl, ?_⟩) hS0 ?_
            rotate_left
            · (intro w9 hSw; (try dsimp only at hSw); go_simp; try with_reducible rfl)
            try simp only [Act.put, List.setIfInBounds_toArray, List.set_cons_zero, List.set_cons_succ]
            refine wpAnyH_take (i := 2) (oi := { dst := some 20, op := Op.binOp BinOp.gtr 3 (Operand.tmp 18) (Operand.tmp 19) 3, type := 4, pos := "zsortanyfunc.go:12", after := #[{ on := 0, ground := Ground.data }, { on := 1, ground := Ground.data }], guard := none }) (v := ?_) rfl (by kernel_rfl) (by kernel_rfl) (by kernel_rfl) (fun _ _ _ h => h) (Or.inl ⟨by rfl, ?_⟩) hS0 ?_
            rotate_left
            · (intro w9 hSw; (try dsimp only at hSw); go_simp; try with_reducible rfl)
            try simp only [Act.put, List.setIfInBounds_toArray, List.set_cons_zero, List.set_cons_succ]
            refine wpAnyH_take (i := 3) (oi := { dst := some 21, op := Op.move (Operand.tmp 20), type := 4, pos := "zsortanyfunc.go:12", after := #[{ on := 2, ground := Ground.data }], guard := none }) (v := ?_) rfl (by kernel_rfl) (by kernel_rfl) (by kernel_rfl) (fun _ _ _ h => h) (Or.inl ⟨by rfl, ?_⟩) hS0 ?_
            rotate_left
            · (intro w9 hSw; (try dsimp only at hSw); go_simp; try with_reducible rfl)
            try simp only [Act.put, List.setIfInBounds_toArray, List.set_cons_zero, List.set_cons_succ]
            refine wpAnyH_take (i := 4) (oi := { dst := some 22, op := Op.move (Operand.tmp 3), type := 39, pos := "zsortanyfunc.go:12", after := #[{ on := 3, ground := Ground.guard }], guard := some (3, true) }) (v := ?_) rfl (by kernel_rfl) (by kernel_rfl) (by kernel_rfl) (fun _ _ _ h => h) (Or.inl ⟨by rfl, ?_⟩) hS0 ?_
            rotate_left
            · (intro w9 hSw; (try dsimp only at hSw); go_simp; try with_reducible rfl)
            try simp only [Act.put, List.setIfInBounds_toArray, List.set_cons_zero, List.set_cons_succ]
            refine wpAnyH_take (i := 5) (oi := { dst := some 23, op := Op.move (Operand.tmp 0), type := 24, pos := "zsortanyfunc.go:12", after := #[{ on := 3, ground := Ground.guard }], guard := some (3, true) }) (v := ?_) rfl (by kernel_rfl) (by kernel_rfl) (by kernel_rfl) (fun _ _ _ h => h) (Or.inl ⟨by rfl, ?_⟩) hS0 ?_
            rotate_left
            · (intro w9 hSw; (try dsimp only at hSw); go_simp; try with_reducible rfl)
            try simp only [Act.put, List.setIfInBounds_toArray, List.set_cons_zero, List.set_cons_succ]
            refine wpAnyH_take (i := 6) (oi := { dst := some 24, op := Op.move (Operand.tmp 9), type := 3, pos := "zsortanyfunc.go:12", after := #[{ on := 3, ground := Ground.guard }], guard := some (3, true) }) (v := ?_) rfl (by kernel_rfl) (by kernel_rfl) (by kernel_rfl) (fun _ _ _ h => h) (Or.inl ⟨by rfl, ?_⟩) hS0 ?_
            rotate_left
            · (intro w9 hSw; (try dsimp only at hSw); go_simp; try with_reducible rfl)
            try simp only [Act.put, List.setIfInBounds_toArray, List.set_cons_zero, List.set_cons_succ]
            refine wpAnyH_take (i := 7) (oi := { dst := some 25, op := Op.indexAddr 24 (Operand.tmp 23) (Operand.tmp 24), type := 0, pos := "zsortanyfunc.go:12", after := #[{ on := 5, ground := Ground.data }, { on := 6, ground := Ground.data }, { on := 3, ground := Ground.guard }], guard := some (3, true) }) (v := ?_) rfl (by kernel_rfl) (by kernel_rfl) (by kernel_rfl) (fun _ _ _ h => h) (Or.inl ⟨by rfl, ?_⟩) hS0 ?_
            rotate_left
            · (intro w9 hSw; (try dsimp only at hSw); go_simp; try with_reducible rfl)
            try simp only [Act.put, List.setIfInBounds_toArray, List.set_cons_zero, List.set_cons_succ]
            refine wpAnyH_take (i := 8) (oi := { dst := some 26, op := Op.load 33 (Operand.tmp 25), type := 33, pos := "zsortanyfunc.go:12", after := #[{ on := 7, ground := Ground.data }, { on := 3, ground := Ground.guard }], guard := some (3, true) }) (v := ?_) rfl (by kernel_rfl) (by kernel_rfl) (by kernel_rfl) (fun _ _ _ h => h) (Or.inl ⟨by rfl, ?_⟩) hS0 ?_
            rotate_left
            · (intro w9 hSw; (try dsimp only at hSw); go_simp; try with_reducible rfl)
            try simp only [Act.put, List.setIfInBounds_toArray, List.set_cons_zero, List.set_cons_succ]
            refine wpAnyH_take (i := 9) (oi := { dst := some 27, op := Op.move (Operand.tmp 0), type := 24, pos := "zsortanyfunc.go:12", after := #[{ on := 3, ground := Ground.guard }], guard := some (3, true) }) (v := ?_) rfl (by kernel_rfl) (by kernel_rfl) (by kernel_rfl) (fun _ _ _ h => h) (Or.inl ⟨by rfl, ?_⟩) hS0 ?_
            rotate_left
            · (intro w9 hSw; (try dsimp only at hSw); go_simp; try with_reducible rfl)
            try simp only [Act.put, List.setIfInBounds_toArray, List.set_cons_zero, List.set_cons_succ]
            refine wpAnyH_take (i := 10) (oi := { dst := some 28, op := Op.move (Operand.tmp 9), type := 3, pos := "zsortanyfunc.go:12", after := #[{ on := 3, ground := Ground.guard }], guard := some (3, true) }) (v := ?_) rfl (by kernel_rfl) (by kernel_rfl) (by kernel_rfl) (fun _ _ _ h => h) (Or.inl ⟨by rfl, ?_⟩) hS0 ?_
            rotate_left
            · (intro w9 hSw; (try dsimp only at hSw); go_simp; try with_reducible rfl)
            try simp only [Act.put, List.setIfInBounds_toArray, List.set_cons_zero, List.set_cons_succ]
            refine wpAnyH_take (i := 11) (oi := { dst := some 29, op := Op.binOp BinOp.sub 3 (Operand.tmp 28) (Operand.const (Value.int IntKind.i64 1)) 3, type := 3, pos := "zsortanyfunc.go:12", after := #[{ on := 10, ground := Ground.data }, { on := 3, ground := Ground.guard }], guard := some (3, true) }) (v := ?_) rfl (by kernel_rfl) (by kernel_rfl) (by kernel_rfl) (fun _ _ _ h => h) (Or.inl ⟨by rfl, ?_⟩) hS0 ?_
            rotate_left
            · (intro w9 hSw; (try dsimp only at hSw); go_simp; try with_reducible rfl)
            try simp only [Act.put, List.setIfInBounds_toArray, List.set_cons_zero, List.set_cons_succ]
            refine wpAnyH_take (i := 12) (oi := { dst := some 30, op := Op.indexAddr 24 (Operand.tmp 27) (Operand.tmp 29), type := 0, pos := "zsortanyfunc.go:12", after := #[{ on := 9, ground := Ground.data }, { on := 11, ground := Ground.data }, { on := 3, ground := Ground.guard }], guard := some (3, true) }) (v := ?_) rfl (by kernel_rfl) (by kernel_rfl) (by kernel_rfl) (fun _ _ _ h => h) (Or.inl ⟨by rfl, ?_⟩) hS0 ?_
            rotate_left
            · (intro w9 hSw; (try dsimp only at hSw); go_simp; try with_reducible rfl)
            try simp only [Act.put, List.setIfInBounds_toArray, List.set_cons_zero, List.set_cons_succ]
            refine wpAnyH_take (i := 13) (oi := { dst := some 31, op := Op.load 33 (Operand.tmp 30), type := 33, pos := "zsortanyfunc.go:12", after := #[{ on := 12, ground := Ground.data }, { on := 3, ground := Ground.guard }], guard := some (3, true) }) (v := ?_) rfl (by kernel_rfl) (by kernel_rfl) (by kernel_rfl) (fun _ _ _ h => h) (Or.inl ⟨by rfl, ?_⟩) hS0 ?_
            rotate_left
            · (intro w9 hSw; (try dsimp only at hSw); go_simp; try with_reducible rfl)
            try simp only [Act.put, List.setIfInBounds_toArray, List.set_cons_zero, List.set_cons_succ]
            refine wpAnyH_ready (rs := [14]) (by kernel_rfl) (by simp) ?_
            refine AllReadyH.cons (o := { dst := some 32, op := Op.call { callee := Callee.value (Operand.tmp 22), args := #[Operand.tmp 26, Operand.tmp 31], argTypes := #[33, 33] }, type := 3, pos := "zsortanyfunc.go:12", after := #[{ on := 4, ground := Ground.data }, { on := 8, ground := Ground.data }, { on := 13, ground := Ground.data }, { on := 3, ground := Ground.chain }, { on := 3, ground := Ground.guard }], guard := some (3, true) }) rfl (fun K hK => ?_) AllReadyH.nil
            go_simp
            go_at_call 16
            refine (cmpA_any x y V _ HV.out).mono ?_
            rintro e w3 ⟨rfl, hb3⟩
            have hS3 : w3.cell? ⟨b, (m + 1) * 2, none⟩ = some (.int .i64 x.t) ∧ w3.cell? ⟨b, (m + 1) * 2 + 1, none⟩ = some (.int .i64 x.z) ∧ w3.cell? ⟨b, m * 2, none⟩ = some (.int .i64 y.t) ∧ w3.cell? ⟨b, m * 2 + 1, none⟩ = some (.int .i64 y.z) ∧ Below wr.heap.size wr w3 := ⟨((bcell hb3).1 _ _ hbl).trans c0, ((bcell hb3).1 _ _ hbl).trans c1, ((bcell hb3).1 _ _ hbl).trans d0, ((bcell hb3).1 _ _ hbl).trans d1, below_seq hS0.2.2.2.2 hb3⟩
            have HS3 := Lib.hid hS3
            clear hb3
            refine hK.out _ _ hS3 (fun hH => ?_)
            clear hK K
            try simp only [Act.put, List.setIfInBounds_toArray, List.set_cons_zero, List.set_cons_succ]
            refine wpAnyH_take (i := 15) (oi := { dst := some 33, op := Op.binOp BinOp.lss 3 (Operand.tmp 32) (Operand.const (Value.int IntKind.i64 0)) 3, type := 4, pos := "zsortanyfunc.go:12", after := #[{ on := 14, ground := Ground.data }, { on := 3, ground := Ground.guard }], guard := some (3, true) }) (v := ?_) rfl (by kernel_rfl) (by kernel_rfl) (by kernel_rfl) (fun _ _ _ h => h) (Or.inl ⟨by rfl, ?_⟩) hS3 ?_
            rotate_left
            · (intro w9 hSw; (try dsimp only at hSw); go_simp; try with_reducible rfl)
            try simp only [Act.put, List.setIfInBounds_toArray, List.set_cons_zero, List.set_cons_succ]
            refine wpAnyH_take (i := 16) (oi := { dst := some 34, op := Op.pick (Operand.tmp 21) (Operand.tmp 33) (Operand.const (Value.bool false)), type := 4, pos := "zsortanyfunc.go:12", after := #[{ on := 3, ground := Ground.data }, { on := 15, ground := Ground.data }], guard := none }) (v := ?_) rfl (by kernel_rfl) (by kernel_rfl) (by kernel_rfl) (fun _ _ _ h => h) (Or.inl ⟨by rfl, ?_⟩) hS3 ?_
            rotate_left
            · (intro w9 hSw; (try dsimp only at hSw); go_simp; try with_reducible rfl)
            try simp only [Act.put, List.setIfInBounds_toArray, List.set_cons_zero, List.set_cons_succ]
            refine wpAnyH_done (by kernel_rfl) ?_ _
            go_wp2
            go_roundw
            case rel =>
              obtain ⟨i', q1, q2, q3, q4, q5⟩ := HO.out w3 (by have := own_below HOJ.out hS3.2.2.2.2; simpa using this) (g_below HGJ.out hS3.2.2.2.2)
              exact ⟨i', q1, q2, q3, q4, q5⟩
            case measure => simp [intOf]; omega
    · obtain rfl : i = n := by omega
      have HO := Lib.hid (And.intro hoi hgi)
      clear hoi hgi
      go_wp2
      go_end0
      refine ⟨rfl, ?_, HO.out.2⟩
      have := HO.out.1
      rw [List.drop_of_length_le (by rw [HLN.out]; exact Nat.le_refl _), List.append_nil, List.take_of_length_le (by rw [HLN.out]; exact Nat.le_refl _)] at this
      exact this
set_option maxHeartbeats 1000000 in
theorem stableI_any (base b n c : Nat) (l : List Arr) (w : World) (ho : w.ownsRow base 33 2 (.slice (some ⟨b, 0, none⟩) n c) n (acells l)) (hn : 1 ≤ n ∧ n < 20) (hl : AllV l) :
    Calls Try.prog 21 #[.slice (some ⟨b, 0, none⟩) n c, .int .i64 (n : Int), .func (.func 16) #[] #[]] w fun e w' =>
      e = .returned (.tuple #[]) ∧ w'.ownsRow base 33 2 (.slice (some ⟨b, 0, none⟩) n c) n (acells (finA [] l)) ∧ w.grownBy w' (some b) := by
  have HO := Lib.hid ho
  have HL := Lib.hid hl
  have n1 : (n : Int) < 20 := by omega
  have n2 : ¬((20 : Int) ≤ (n : Int)) := by omega
  have n3 : ¬((20 : Int) < (n : Int)) := by omega
  have n4 : decide ((20 : Int) ≤ (n : Int)) = false := decide_eq_false n2
  have n5 : decide ((20 : Int) < (n : Int)) = false := decide_eq_false n3
  clear ho hl
  go_enter Try.func21, Try.ntmps21
  go_wp2
  refine wp_loop_rounds 1 ?_
  rw [rounds_succ]
  go_wp2_with (go_at_call 23; refine (insI_any base b n c l _ HO.out (by omega) HL.out).mono ?_; rintro e w1 ⟨rfl, ho1, hg1⟩; have O1 := Lib.hid (And.intro ho1 hg1); clear ho1 hg1)
  refine wp_loop_rounds 1 ?_
  rw [rounds_succ]
  go_wp2
  go_end0
  exact ⟨rfl, O1.out.1, O1.out.2⟩
theorem sortI_any (base b n c : Nat) (l : List Arr) (w : World) (ho : w.ownsRow base 33 2 (.slice (some ⟨b, 0, none⟩) n c) n (acells l)) (hn : 1 ≤ n ∧ n < 20) (hl : AllV l) :
    Calls Try.prog 15 #[.slice (some ⟨b, 0, none⟩) n c, .func (.func 16) #[] #[]] w fun e w' =>
      e = .returned (.tuple #[]) ∧ w'.ownsRow base 33 2 (.slice (some ⟨b, 0, none⟩) n c) n (acells (finA [] l)) ∧ w.grownBy w' (some b) := by
  have HO := Lib.hid ho
  have HL := Lib.hid hl
  clear ho hl
  go_enter Try.func15, Try.ntmps15
  go_wp2_with (go_at_call 21; refine (stableI_any base b n c l _ HO.out hn HL.out).mono ?_; rintro e w1 ⟨rfl, ho1, hg1⟩; have O1 := Lib.hid (And.intro ho1 hg1); clear ho1 hg1)
  go_end0
  exact ⟨rfl, O1.out.1, O1.out.2⟩
/-- nothing to sort -/
theorem sortI_nil (A : Option Addr) (c : Nat) (w : World) :
    Calls Try.prog 15 #[.slice A 0 c, .func (.func 16) #[] #[]] w fun e w' => e = .returned (.tuple #[]) ∧ w = w' := by
  have hi : ∀ W : World, Calls Try.prog 23 #[.slice A 0 c, .int .i64 0, .int .i64 0, .func (.func 16) #[] #[]] W fun e w' => e = .returned (.tuple #[]) ∧ W = w' := fun W => by
    go_enter Try.func23, Try.ntmps23
    go_wp2
    refine wp_loop_rounds 1 ?_
    rw [rounds_succ]
    go_wp2
    go_end0
    exact ⟨rfl, rfl⟩
  have hs : ∀ W : World, Calls Try.prog 21 #[.slice A 0 c, .int .i64 0, .func (.func 16) #[] #[]] W fun e w' => e = .returned (.tuple #[]) ∧ W = w' := fun W => by
    go_enter Try.func21, Try.ntmps21
    go_wp2
    refine wp_loop_rounds 1 ?_
    rw [rounds_succ]
    go_wp2_with (go_at_call 23; refine (hi _).mono ?_; rintro e w' ⟨rfl, rfl⟩)
    refine wp_loop_rounds 1 ?_
    rw [rounds_succ]
    go_wp2
    go_end0
    exact ⟨rfl, rfl⟩
  go_enter Try.func15, Try.ntmps15
  go_wp2_with (go_at_call 21; refine (hs _).mono ?_; rintro e w' ⟨rfl, rfl⟩)
  go_end0
  exact ⟨rfl, rfl⟩
end Go.Proofs.Ytaccbmgbkalknab
