/-
  Chapter 10: the library's insertion sort of a part of a row of arrivals. Conditions: the row is owned; the arrivals are valid each.
-/
import Derived.Test.YtaccbmgbkalknabEw
namespace Go.Proofs.Ytaccbmgbkalknab
open Go.RowKit

def SxOut (w : World) (base b N c a : Nat) (P Q l : List Arr) (vi : Value) (wr : World) : Prop :=
  ∃ I i : Nat, 1 ≤ i ∧ i ≤ l.length ∧ I = a + i ∧ vi = .int .i64 (I : Int) ∧ RowA wr base b N c (P ++ (finA [] (l.take i) ++ l.drop i) ++ Q) ∧ w.grownBy wr (some b)
def SxIn (w : World) (base b N c a i : Nat) (P Q S R : List Arr) (x : Arr) (vj : Value) (wr : World) : Prop :=
  ∃ (J j : Nat) (A B : List Arr), J = a + j ∧ vj = .int .i64 (J : Int) ∧ A.length = j ∧ j ≤ i ∧ A ++ B = S ∧ (∀ z ∈ B, x.t < z.t) ∧ RowA wr base b N c (P ++ (A ++ x :: B ++ R) ++ Q) ∧ w.grownBy wr (some b)
set_option maxRecDepth 4000 in
set_option maxHeartbeats 4000000 in
theorem insX_any (base b N c a bb : Nat) (P l Q : List Arr) (w : World) (ho : RowA w base b N c (P ++ l ++ Q)) (hN : N ≤ 1000) (ha : P.length = a) (hlb : a + l.length = bb) (hab : a < bb) (hl : AllV l) :
    Calls Try.prog 23 #[.slice (some ⟨b, 0, none⟩) N c, .int .i64 (a : Int), .int .i64 (bb : Int), .func (.func 16) #[] #[]] w fun e w' =>
      e = .returned (.tuple #[]) ∧ RowA w' base b N c (P ++ finA [] l ++ Q) ∧ w.grownBy w' (some b) := by
  have hwl := (ar_own ho).1
  have hbN : bb ≤ N := by simp at hwl; omega
  have R0 : SxOut w base b N c a P Q l (.int .i64 ((a + 1 : Nat) : Int)) w := by
    refine ⟨a + 1, 1, Nat.le_refl _, by omega, rfl, rfl, ?_, g_refl _ _⟩
    have : finA [] (l.take 1) ++ l.drop 1 = l := by
      rcases l with _ | ⟨x, r⟩
      · simp at hlb; omega
      · rfl
    rw [this]
    exact ho
  have HR0 := Lib.hid R0
  have HL := Lib.hid hl
  have HLN := Lib.hid hlb
  have HPL := Lib.hid ha
  have e0 : ((a + 1 : Nat) : Int) = (a : Int) + 1 := by omega
  rw [e0] at HR0
  clear R0 ho hl hlb hwl e0 ha
  go_enter Try.func23, Try.ntmps23
  go_wp2
  go_loopw [8] (fun vi wr => SxOut w base b N c a P Q l vi wr) (fun vi _ => bb - (intOf vi).toNat)
  case atStart => exact HR0.out
  case round =>
    obtain ⟨I, i, hi1, hin, hI, rfl, hoi, hgi⟩ := hrel
    clear HR0
    by_cases hlt : I < bb
    · have hltz : (I : Int) < (bb : Int) := by omega
      have hil : i < l.length := by have := HLN.out; omega
      obtain ⟨x, hx⟩ : ∃ x, l[i]? = some x := ⟨_, List.getElem?_eq_getElem hil⟩
      have HX := Lib.hid hx
      have HSV := Lib.hid (fin_allv (s := []) (l := l.take i) rfl (fun z hz => HL.out z (List.mem_of_mem_take hz)))
      have hSl : (finA [] (l.take i)).length = i := by
        rw [finA_len, List.length_take]
        simp
        omega
      obtain ⟨S, hS⟩ : ∃ S, S = finA [] (l.take i) := ⟨_, rfl⟩
      obtain ⟨R, hR⟩ : ∃ R, R = l.drop (i + 1) := ⟨_, rfl⟩
      rw [← hS] at hSl hoi
      have HSS := Lib.hid hS
      have HRR := Lib.hid hR
      have HI := Lib.hid hI
      have R1 : SxIn w base b N c a i P Q S R x (.int .i64 (I : Int)) wr := ⟨I, i, S, [], hI, rfl, hSl, Nat.le_refl _, by simp, fun z hz => (by cases hz), by rw [drop_at hx, ← hR] at hoi; simpa using hoi, hgi⟩
      have HR1 := Lib.hid R1
      have OUT := Lib.hid (fun (A B : List Arr) (W : World) (e : A ++ B = S) (hA : ∀ z ∈ A, z.t ≤ x.t) (hB : ∀ z ∈ B, x.t < z.t) (ho : RowA W base b N c (P ++ (A ++ x :: B ++ R) ++ Q)) (hg : w.grownBy W (some b)) =>
        (show SxOut w base b N c a P Q l (.int .i64 ((I : Int) + 1)) W from ⟨I + 1, i + 1, by omega, by omega, by omega, by go_num, by rw [take_fin HX.out, ← HSS.out, ← e, insA_at hA hB, ← HRR.out]; exact ho, hg⟩))
      have IB := Lib.hid (show I < N by omega)
      clear R1 hx hS hR hSl hoi hgi hI
      go_wp2
      go_loopw [9] (fun vj wr2 => SxIn w base b N c a i P Q S R x vj wr2) (fun vj _ => (intOf vj).toNat)
      case atStart => exact HR1.out
      case round =>
        obtain ⟨J, j, A, B, hJ, rfl, hAl, hji, hAB, hB, hoj, hgj⟩ := hrel
        clear HR1
        rcases List.eq_nil_or_concat A with hA0 | ⟨A', y, hA0⟩
        · subst hA0
          obtain rfl : j = 0 := by simpa using hAl.symm
          obtain rfl : J = a := by omega
          have HO := Lib.hid (OUT.out [] B wr hAB (fun z hz => by cases hz) hB hoj hgj)
          have hirr : decide ((J : Int) < (J : Int)) = false := decide_eq_false (by omega)
          clear hoj hgj hAB hB hJ
          go_wp2_with fail
          go_quiet (fail)
          go_wp2
          go_roundw
          case rel =>
            obtain ⟨I', i', q1, q2, q3, q4, q5, q6⟩ := HO.out
            exact ⟨I', i', q1, q2, q3, q4, own_drewN0 q5 _, g_drewN q6 _⟩
          case measure => simp [intOf]; omega
        · subst hA0
          obtain ⟨p, rfl⟩ : ∃ p, j = p + 1 := ⟨A'.length, by simp at hAl; omega⟩
          obtain ⟨m, rfl⟩ : ∃ m, J = m + 1 := ⟨a + p, by omega⟩
          have hma : m = a + p := by omega
          have hAl' : (P ++ A').length = m := by rw [List.length_append, HPL.out]; simp at hAl; omega
          have hcur : P ++ (A' ++ [y] ++ x :: B ++ R) ++ Q = (P ++ A') ++ y :: x :: (B ++ R ++ Q) := by simp
          simp only [List.concat_eq_append] at hoj hAB
          rw [hcur] at hoj
          have HOJ := Lib.hid hoj
          have HGJ := Lib.hid hgj
          have HAB := Lib.hid hAB
          have HB := Lib.hid hB
          have HAL := Lib.hid hAl'
          have HMA := Lib.hid hma
          have hmN : m + 1 < N := by have := IB.out; have := HI.out; omega
          obtain ⟨b1, o1, y1, e1, e2, hy, d0, d1⟩ := ar_at (k := m) (ar_own hoj) (by omega)
          obtain ⟨rfl, rfl⟩ : b = b1 ∧ 0 = o1 := by injection e1 with e1; injection e1 with a b; exact ⟨a, b⟩
          obtain rfl : y = y1 := by rw [← hAl', at_mid.1] at hy; exact Option.some.inj hy
          obtain ⟨b1, o1, x1, e3, e4, hx1, c0, c1⟩ := ar_at (k := m + 1) (ar_own hoj) (by omega)
          obtain ⟨rfl, rfl⟩ : b = b1 ∧ 0 = o1 := by injection e3 with e1; injection e1 with a b; exact ⟨a, b⟩
          obtain rfl : x = x1 := by rw [← hAl', at_mid.2] at hx1; exact Option.some.inj hx1
          rw [Nat.zero_add] at c0 c1 d0 d1
          have hbl : b < wr.heap.size := e2
          have m0 : (a : Int) < (m : Int) + 1 := by omega
          have m1 : (m : Int) + 1 < (N : Int) := by omega
          have m2 : (m : Int) < (N : Int) := by omega
          have p0 : (0 : Int) ≤ (m : Int) + 1 := by omega
          have p1 : (0 : Int) ≤ (m : Int) := by omega
          have hwp : IntKind.i64.wrap (m : Int) = (m : Int) := by rw [IntKind.wrap_i64]; omega
          have hS0 : wr.drew.cell? ⟨b, (m + 1) * 2, none⟩ = some (.int .i64 x.t) ∧ wr.drew.cell? ⟨b, (m + 1) * 2 + 1, none⟩ = some (.int .i64 x.z) ∧ wr.drew.cell? ⟨b, m * 2, none⟩ = some (.int .i64 y.t) ∧ wr.drew.cell? ⟨b, m * 2 + 1, none⟩ = some (.int .i64 y.z) ∧ Below wr.heap.size wr wr.drew := ⟨c0, c1, d0, d1, (Below.refl _ _).drew⟩
          obtain ⟨V, hV⟩ : ∃ V, cmpV x.t y.t = V := ⟨_, rfl⟩
          have HV := Lib.hid hV
          clear hoj hgj hAB hB hAl hAl' hcur e1 e2 e3 e4 hy hx1 hma hJ
          by_cases hxy : x.t < y.t
          · have hV0 : V < 0 := by rw [← hV]; unfold cmpV; rw [if_pos hxy]; omega
            have HXY := Lib.hid hxy
            clear hV hxy
            go_wp2_with fail
            refine wp_region_held_drew (S := fun w' => w'.cell? ⟨b, (m + 1) * 2, none⟩ = some (.int .i64 x.t) ∧ w'.cell? ⟨b, (m + 1) * 2 + 1, none⟩ = some (.int .i64 x.z) ∧ w'.cell? ⟨b, m * 2, none⟩ = some (.int .i64 y.t) ∧ w'.cell? ⟨b, m * 2 + 1, none⟩ = some (.int .i64 y.z) ∧ Below wr.heap.size wr w') (by kernel_rfl) hS0 (fun hH => ?_)
            refine wpAnyH_take (i := 0) (oi := { dst := some 18, op := Op.move (Operand.tmp 9), type := 3, pos := "zsortanyfunc.go:12", after := #[], guard := none }) (v := ?_) rfl (by kernel_rfl) (by kernel_rfl) (by kernel_rfl) (fun _ _ _ h => h) (Or.inl ⟨by rfl, ?_⟩) hS0 ?_
            rotate_left
            · (intro w9 hSw; (try dsimp only at hSw); go_simp; try with_reducible rfl)
            try simp only [Act.put, List.setIfInBounds_toArray, List.set_cons_zero, List.set_cons_succ]
            refine wpAnyH_take (i := 1) (oi := { dst := some 19, op := Op.move (Operand.tmp 1), type := 3, pos := "zsortanyfunc.go:12", after := #[], guard := none }) (v := ?_) rfl (by kernel_rfl) (by kernel_rfl) (by kernel_rfl) (fun _ _ _ h => h) (Or.inl ⟨by rfl, ?_⟩) hS0 ?_
            rotate_left
            · (intro w9 hSw; (try dsimp only at hSw); go_simp; try with_reducible rfl)
            try simp only [Act.put, List.setIfInBounds_toArray, List.set_cons_zero, List.set_cons_succ]
            refine wpAnyH_take (i := 2) (oi := { dst := some 20, op := Op.binOp BinOp.gtr 3 (Operand.tmp 18) (Operand.tmp 19) 3, type := 4, pos := "zsortanyfunc.go:12", after := #[{ on := 0, ground := Ground.data }, { on := 1, ground := Ground.data }], guard := none }) (v := ?_) rfl (by kernel_rfl) (by kernel_rfl) (by kernel_rfl) (fun _ _ _ h => h) (Or.inl ⟨by rfl, ?_⟩) hS0 ?_
            rotate_left
            · (intro w9 hSw; (try dsimp only at hSw); go_simp; try with_reducible rfl)
            try simp only [Act.put, List.setIfInBounds_toArray, List.set_cons_zero, List.set_cons_succ]
            refine wpAnyH_take (i := 3) (oi := { dst := some 21, op := Op.move (Operand.tmp 20), type := 4, pos := "zsortanyfunc.go:12", after := #[{ on := 2, ground := Ground.data }], guard := none }) (v := ?_) rfl (by kernel_rfl) (by kernel_rfl) (by kernel_rfl) (fun _ _ _ h => h) (Or.inl ⟨by rfl, ?_⟩) hS0 ?_
            rotate_left
            · (intro w9 hSw; (try dsimp only at hSw); go_simp; try with_reducible rfl)
            try simp only [Act.put, List.setIfInBounds_toArray, List.set_cons_zero, List.set_cons_succ]
            refine wpAnyH_take (i := 4) (oi := { dst := some 22, op := Op.move (Operand.tmp 3), type := 39, pos := "zsortanyfunc.go:12", after := #[{ on := 3, ground := Ground.guard }], guard := some (3, true) }) (v := ?_) rfl (by kernel_rfl) (by kernel_rfl) (by kernel_rfl) (fun _ _ _ h => h) (Or.inl ⟨by rfl, ?_⟩) hS0 ?_
            rotate_left
            · (intro w9 hSw; (try dsimp only at hSw); go_simp; try with_reducible rfl)
            try simp only [Act.put, List.setIfInBounds_toArray, List.set_cons_zero, List.set_cons_succ]
            refine wpAnyH_take (i := 5) (oi := { dst := some 23, op := Op.move (Operand.tmp 0), type := 24, pos := "zsortanyfunc.go:12", after := #[{ on := 3, ground := Ground.guard }], guard := some (3, true) }) (v := ?_) rfl (by kernel_rfl) (by kernel_rfl) (by kernel_rfl) (fun _ _ _ h => h) (Or.inl ⟨by rfl, ?_⟩) hS0 ?_
            rotate_left
            · (intro w9 hSw; (try dsimp only at hSw); go_simp; try with_reducible rfl)
            try simp only [Act.put, List.setIfInBounds_toArray, List.set_cons_zero, List.set_cons_succ]
            refine wpAnyH_take (i := 6) (oi := { dst := some 24, op := Op.move (Operand.tmp 9), type := 3, pos := "zsortanyfunc.go:12", after := #[{ on := 3, ground := Ground.guard }], guard := some (3, true) }) (v := ?_) rfl (by kernel_rfl) (by kernel_rfl) (by kernel_rfl) (fun _ _ _ h => h) (Or.inl ⟨by rfl, ?_⟩) hS0 ?_
            rotate_left
            · (intro w9 hSw; (try dsimp only at hSw); go_simp; try with_reducible rfl)
            try simp only [Act.put, List.setIfInBounds_toArray, List.set_cons_zero, List.set_cons_succ]
            refine wpAnyH_take (i := 7) (oi := { dst := some 25, op := Op.indexAddr 24 (Operand.tmp 23) (Operand.tmp 24), type := 0, pos := "zsortanyfunc.go:12", after := #[{ on := 5, ground := Ground.data }, { on := 6, ground := Ground.data }, { on := 3, ground := Ground.guard }], guard := some (3, true) }) (v := ?_) rfl (by kernel_rfl) (by kernel_rfl) (by kernel_rfl) (fun _ _ _ h => h) (Or.inl ⟨by rfl, ?_⟩) hS0 ?_
            rotate_left
            · (intro w9 hSw; (try dsimp only at hSw); go_simp; try with_reducible rfl)
            try simp only [Act.put, List.setIfInBounds_toArray, List.set_cons_zero, List.set_cons_succ]
            refine wpAnyH_take (i := 8) (oi := { dst := some 26, op := Op.load 33 (Operand.tmp 25), type := 33, pos := "zsortanyfunc.go:12", after := #[{ on := 7, ground := Ground.data }, { on := 3, ground := Ground.guard }], guard := some (3, true) }) (v := ?_) rfl (by kernel_rfl) (by kernel_rfl) (by kernel_rfl) (fun _ _ _ h => h) (Or.inl ⟨by rfl, ?_⟩) hS0 ?_
            rotate_left
            · (intro w9 hSw; (try dsimp only at hSw); go_simp; try with_reducible rfl)
            try simp only [Act.put, List.setIfInBounds_toArray, List.set_cons_zero, List.set_cons_succ]
            refine wpAnyH_take (i := 9) (oi := { dst := some 27, op := Op.move (Operand.tmp 0), type := 24, pos := "zsortanyfunc.go:12", after := #[{ on := 3, ground := Ground.guard }], guard := some (3, true) }) (v := ?_) rfl (by kernel_rfl) (by kernel_rfl) (by kernel_rfl) (fun _ _ _ h => h) (Or.inl ⟨by rfl, ?_⟩) hS0 ?_
            rotate_left
            · (intro w9 hSw; (try dsimp only at hSw); go_simp; try with_reducible rfl)
            try simp only [Act.put, List.setIfInBounds_toArray, List.set_cons_zero, List.set_cons_succ]
            refine wpAnyH_take (i := 10) (oi := { dst := some 28, op := Op.move (Operand.tmp 9), type := 3, pos := "zsortanyfunc.go:12", after := #[{ on := 3, ground := Ground.guard }], guard := some (3, true) }) (v := ?_) rfl (by kernel_rfl) (by kernel_rfl) (by kernel_rfl) (fun _ _ _ h => h) (Or.inl ⟨by rfl, ?_⟩) hS0 ?_
            rotate_left
            · (intro w9 hSw; (try dsimp only at hSw); go_simp; try with_reducible rfl)
            try simp only [Act.put, List.setIfInBounds_toArray, List.set_cons_zero, List.set_cons_succ]
            refine wpAnyH_take (i := 11) (oi := { dst := some 29, op := Op.binOp BinOp.sub 3 (Operand.tmp 28) (Operand.const (Value.int IntKind.i64 1)) 3, type := 3, pos := "zsortanyfunc.go:12", after := #[{ on := 10, ground := Ground.data }, { on := 3, ground := Ground.guard }], guard := some (3, true) }) (v := ?_) rfl (by kernel_rfl) (by kernel_rfl) (by kernel_rfl) (fun _ _ _ h => h) (Or.inl ⟨by rfl, ?_⟩) hS0 ?_
            rotate_left
            · (intro w9 hSw; (try dsimp only at hSw); go_simp; try with_reducible rfl)
            try simp only [Act.put, List.setIfInBounds_toArray, List.set_cons_zero, List.set_cons_succ]
            refine wpAnyH_take (i := 12) (oi := { dst := some 30, op := Op.indexAddr 24 (Operand.tmp 27) (Operand.tmp 29), type := 0, pos := "zsortanyfunc.go:12", after := #[{ on := 9, ground := Ground.data }, { on := 11, ground := Ground.data }, { on := 3, ground := Ground.guard }], guard := some (3, true) }) (v := ?_) rfl (by kernel_rfl) (by kernel_rfl) (by kernel_rfl) (fun _ _ _ h => h) (Or.inl ⟨by rfl, ?_⟩) hS0 ?_
            rotate_left
            · (intro w9 hSw; (try dsimp only at hSw); go_simp; try with_reducible rfl)
            try simp only [Act.put, List.setIfInBounds_toArray, List.set_cons_zero, List.set_cons_succ]
            refine wpAnyH_take (i := 13) (oi := { dst := some 31, op := Op.load 33 (Operand.tmp 30), type := 33, pos := "zsortanyfunc.go:12", after := #[{ on := 12, ground := Ground.data }, { on := 3, ground := Ground.guard }], guard := some (3, true) }) (v := ?_) rfl (by kernel_rfl) (by kernel_rfl) (by kernel_rfl) (fun _ _ _ h => h) (Or.inl ⟨by rfl, ?_⟩) hS0 ?_
            rotate_left
            · (intro w9 hSw; (try dsimp only at hSw); go_simp; try with_reducible rfl)
            try simp only [Act.put, List.setIfInBounds_toArray, List.set_cons_zero, List.set_cons_succ]
            refine wpAnyH_ready (rs := [14]) (by kernel_rfl) (by simp) ?_
            refine AllReadyH.cons (o := { dst := some 32, op := Op.call { callee := Callee.value (Operand.tmp 22), args := #[Operand.tmp 26, Operand.tmp 31], argTypes := #[33, 33] }, type := 3, pos := "zsortanyfunc.go:12", after := #[{ on := 4, ground := Ground.data }, { on := 8, ground := Ground.data }, { on := 13, ground := Ground.data }, { on := 3, ground := Ground.chain }, { on := 3, ground := Ground.guard }], guard := some (3, true) }) rfl (fun K hK => ?_) AllReadyH.nil
            go_simp
            go_at_call 16
            refine (cmpA_any x y V _ HV.out).mono ?_
            rintro e w3 ⟨rfl, hb3⟩
            have hS3 : w3.cell? ⟨b, (m + 1) * 2, none⟩ = some (.int .i64 x.t) ∧ w3.cell? ⟨b, (m + 1) * 2 + 1, none⟩ = some (.int .i64 x.z) ∧ w3.cell? ⟨b, m * 2, none⟩ = some (.int .i64 y.t) ∧ w3.cell? ⟨b, m * 2 + 1, none⟩ = some (.int .i64 y.z) ∧ Below wr.heap.size wr w3 := ⟨((bcell hb3).1 _ _ hbl).trans c0, ((bcell hb3).1 _ _ hbl).trans c1, ((bcell hb3).1 _ _ hbl).trans d0, ((bcell hb3).1 _ _ hbl).trans d1, below_seq hS0.2.2.2.2 hb3⟩
            have HS3 := Lib.hid hS3
            clear hb3
            refine hK.out _ _ hS3 (fun hH => ?_)
            clear hK K
            try simp only [Act.put, List.setIfInBounds_toArray, List.set_cons_zero, List.set_cons_succ]
            refine wpAnyH_take (i := 15) (oi := { dst := some 33, op := Op.binOp BinOp.lss 3 (Operand.tmp 32) (Operand.const (Value.int IntKind.i64 0)) 3, type := 4, pos := "zsortanyfunc.go:12", after := #[{ on := 14, ground := Ground.data }, { on := 3, ground := Ground.guard }], guard := some (3, true) }) (v := ?_) rfl (by kernel_rfl) (by kernel_rfl) (by kernel_rfl) (fun _ _ _ h => h) (Or.inl ⟨by rfl, ?_⟩) hS3 ?_
            rotate_left
            · (intro w9 hSw; (try dsimp only at hSw); go_simp; try with_reducible rfl)
            try simp only [Act.put, List.setIfInBounds_toArray, List.set_cons_zero, List.set_cons_succ]
            refine wpAnyH_take (i := 16) (oi := { dst := some 34, op := Op.pick (Operand.tmp 21) (Operand.tmp 33) (Operand.const (Value.bool false)), type := 4, pos := "zsortanyfunc.go:12", after := #[{ on := 3, ground := Ground.data }, { on := 15, ground := Ground.data }], guard := none }) (v := ?_) rfl (by kernel_rfl) (by kernel_rfl) (by kernel_rfl) (fun _ _ _ h => h) (Or.inl ⟨by rfl, ?_⟩) hS3 ?_
            rotate_left
            · (intro w9 hSw; (try dsimp only at hSw); go_simp; try with_reducible rfl)
            try simp only [Act.put, List.setIfInBounds_toArray, List.set_cons_zero, List.set_cons_succ]
            refine wpAnyH_done (by kernel_rfl) ?_ _
            have ho3 := own_below HOJ.out HS3.out.2.2.2.2
            obtain ⟨s0, s1, s2, s3, -⟩ := HS3.out
            have f0 := World.ownsRow.frozenAt ho3 ((m + 1) * 2)
            have f1 := World.ownsRow.frozenAt ho3 ((m + 1) * 2 + 1)
            have f2 := World.ownsRow.frozenAt ho3 (m * 2)
            have f3 := World.ownsRow.frozenAt ho3 (m * 2 + 1)
            have O3 := Lib.hid ho3
            clear ho3 hS3 hH c0 c1 d0 d1 hS0
            go_wp2_with fail
            go_region
            go_wp2
            go_roundw
            case rel =>
              refine ⟨m, p, A', y :: B, HMA.out, rfl, by have := HAL.out; rw [List.length_append, HPL.out] at this; have := HMA.out; omega, by omega, by rw [← HAB.out]; simp, fun z hz => ?_, ?_, g_drewN (g_set (g_set (g_set (g_set (g_below HGJ.out HS3.out.2.2.2.2) (.inl rfl) _) (.inl rfl) _) (.inl rfl) _) (.inl rfl) _) 1⟩
              · rcases List.mem_cons.1 hz with e | e
                · subst e; exact HXY.out
                · exact HB.out z e
              · have h5 := own_set_arr (own_set_arr O3.out (m + 1) y) m x
                rw [← HAL.out, swap_mid, HAL.out] at h5
                have h6 := World.ownsRow.drew h5
                simpa using h6
            case measure => simp [intOf]
          · have hV0 : 0 ≤ V := by rw [← hV]; unfold cmpV; rw [if_neg hxy]; split <;> omega
            have HO := Lib.hid (fun W h1 h2 => OUT.out (A' ++ [y]) B W HAB.out (fun z hz => by
              have := le_last (A := A') (B := B) (y := y) (lo := 0) (by rw [HAB.out, HSS.out]; exact HSV.out) z hz
              omega) HB.out h1 h2)
            clear hV hxy
            go_wp2_with fail
            refine wp_region_held_drew (S := fun w' => w'.cell? ⟨b, (m + 1) * 2, none⟩ = some (.int .i64 x.t) ∧ w'.cell? ⟨b, (m + 1) * 2 + 1, none⟩ = some (.int .i64 x.z) ∧ w'.cell? ⟨b, m * 2, none⟩ = some (.int .i64 y.t) ∧ w'.cell? ⟨b, m * 2 + 1, none⟩ = some (.int .i64 y.z) ∧ Below wr.heap.size wr w') (by kernel_rfl) hS0 (fun hH => ?_)
            refine wpAnyH_take (i := 0) (oi := { dst := some 18, op := Op.move (Operand.tmp 9), type := 3, pos := "zsortanyfunc.go:12", after := #[], guard := none }) (v := ?_) rfl (by kernel_rfl) (by kernel_rfl) (by kernel_rfl) (fun _ _ _ h => h) (Or.inl ⟨by rfl, ?_⟩) hS0 ?_
            rotate_left
            · (intro w9 hSw; (try dsimp only at hSw); go_simp; try with_reducible rfl)
            try simp only [Act.put, List.setIfInBounds_toArray, List.set_cons_zero, List.set_cons_succ]
            refine wpAnyH_take (i := 1) (oi := { dst := some 19, op := Op.move (Operand.tmp 1), type := 3, pos := "zsortanyfunc.go:12", after := #[], guard := none }) (v := ?_) rfl (by kernel_rfl) (by kernel_rfl) (by kernel_rfl) (fun _ _ _ h => h) (Or.inl ⟨by rfl, ?_⟩) hS0 ?_
            rotate_left
            · (intro w9 hSw; (try dsimp only at hSw); go_simp; try with_reducible rfl)
            try simp only [Act.put, List.setIfInBounds_toArray, List.set_cons_zero, List.set_cons_succ]
            refine wpAnyH_take (i := 2) (oi := { dst := some 20, op := Op.binOp BinOp.gtr 3 (Operand.tmp 18) (Operand.tmp 19) 3, type := 4, pos := "zsortanyfunc.go:12", after := #[{ on := 0, ground := Ground.data }, { on := 1, ground := Ground.data }], guard := none }) (v := ?_) rfl (by kernel_rfl) (by kernel_rfl) (by kernel_rfl) (fun _ _ _ h => h) (Or.inl ⟨by rfl, ?_⟩) hS0 ?_
            rotate_left
            · (intro w9 hSw; (try dsimp only at hSw); go_simp; try with_reducible rfl)
            try simp only [Act.put, List.setIfInBounds_toArray, List.set_cons_zero, List.set_cons_succ]
            refine wpAnyH_take (i := 3) (oi := { dst := some 21, op := Op.move (Operand.tmp 20), type := 4, pos := "zsortanyfunc.go:12", after := #[{ on := 2, ground := Ground.data }], guard := none }) (v := ?_) rfl (by kernel_rfl) (by kernel_rfl) (by kernel_rfl) (fun _ _ _ h => h) (Or.inl ⟨by rfl, ?_⟩) hS0 ?_
            rotate_left
            · (intro w9 hSw; (try dsimp only at hSw); go_simp; try with_reducible rfl)
            try simp only [Act.put, List.setIfInBounds_toArray, List.set_cons_zero, List.set_cons_succ]
            refine wpAnyH_take (i := 4) (oi := { dst := some 22, op := Op.move (Operand.tmp 3), type := 39, pos := "zsortanyfunc.go:12", after := #[{ on := 3, ground := Ground.guard }], guard := some (3, true) }) (v := ?_) rfl (by kernel_rfl) (by kernel_rfl) (by kernel_rfl) (fun _ _ _ h => h) (Or.inl ⟨by rfl, ?_⟩) hS0 ?_
            rotate_left
            · (intro w9 hSw; (try dsimp only at hSw); go_simp; try with_reducible rfl)
            try simp only [Act.put, List.setIfInBounds_toArray, List.set_cons_zero, List.set_cons_succ]
            refine wpAnyH_take (i := 5) (oi := { dst := some 23, op := Op.move (Operand.tmp 0), type := 24, pos := "zsortanyfunc.go:12", after := #[{ on := 3, ground := Ground.guard }], guard := some (3, true) }) (v := ?_) rfl (by kernel_rfl) (by kernel_rfl) (by kernel_rfl) (fun _ _ _ h => h) (Or.inl ⟨by rfl, ?_⟩) hS0 ?_
            rotate_left
            · (intro w9 hSw; (try dsimp only at hSw); go_simp; try with_reducible rfl)
            try simp only [Act.put, List.setIfInBounds_toArray, List.set_cons_zero, List.set_cons_succ]
            refine wpAnyH_take (i := 6) (oi := { dst := some 24, op := Op.move (Operand.tmp 9), type := 3, pos := "zsortanyfunc.go:12", after := #[{ on := 3, ground := Ground.guard }], guard := some (3, true) }) (v := ?_) rfl (by kernel_rfl) (by kernel_rfl) (by kernel_rfl) (fun _ _ _ h => h) (Or.inl ⟨by rfl, ?_⟩) hS0 ?_
            rotate_left
            · (intro w9 hSw; (try dsimp only at hSw); go_simp; try with_reducible rfl)
            try simp only [Act.put, List.setIfInBounds_toArray, List.set_cons_zero, List.set_cons_succ]
            refine wpAnyH_take (i := 7) (oi := { dst := some 25, op := Op.indexAddr 24 (Operand.tmp 23) (Operand.tmp 24), type := 0, pos := "zsortanyfunc.go:12", after := #[{ on := 5, ground := Ground.data }, { on := 6, ground := Ground.data }, { on := 3, ground := Ground.guard }], guard := some (3, true) }) (v := ?_) rfl (by kernel_rfl) (by kernel_rfl) (by kernel_rfl) (fun _ _ _ h => h) (Or.inl ⟨by rfl, ?_⟩) hS0 ?_
            rotate_left
            · (intro w9 hSw; (try dsimp only at hSw); go_simp; try with_reducible rfl)
            try simp only [Act.put, List.setIfInBounds_toArray, List.set_cons_zero, List.set_cons_succ]
            refine wpAnyH_take (i := 8) (oi := { dst := some 26, op := Op.load 33 (Operand.tmp 25), type := 33, pos := "zsortanyfunc.go:12", after := #[{ on := 7, ground := Ground.data }, { on := 3, ground := Ground.guard }], guard := some (3, true) }) (v := ?_) rfl (by kernel_rfl) (by kernel_rfl) (by kernel_rfl) (fun _ _ _ h => h) (Or.inl ⟨by rfl, ?_⟩) hS0 ?_
            rotate_left
            · (intro w9 hSw; (try dsimp only at hSw); go_simp; try with_reducible rfl)
            try simp only [Act.put, List.setIfInBounds_toArray, List.set_cons_zero, List.set_cons_succ]
            refine wpAnyH_take (i := 9) (oi := { dst := some 27, op := Op.move (Operand.tmp 0), type := 24, pos := "zsortanyfunc.go:12", after := #[{ on := 3, ground := Ground.guard }], guard := some (3, true) }) (v := ?_) rfl (by kernel_rfl) (by kernel_rfl) (by kernel_rfl) (fun _ _ _ h => h) (Or.inl ⟨by rfl, ?_⟩) hS0 ?_
            rotate_left
            · (intro w9 hSw; (try dsimp only at hSw); go_simp; try with_reducible rfl)
            try simp only [Act.put, List.setIfInBounds_toArray, List.set_cons_zero, List.set_cons_succ]
            refine wpAnyH_take (i := 10) (oi := { dst := some 28, op := Op.move (Operand.tmp 9), type := 3, pos := "zsortanyfunc.go:12", after := #[{ on := 3, ground := Ground.guard }], guard := some (3, true) }) (v := ?_) rfl (by kernel_rfl) (by kernel_rfl) (by kernel_rfl) (fun _ _ _ h => h) (Or.inl ⟨by rfl, ?_⟩) hS0 ?_
            rotate_left
            · (intro w9 hSw; (try dsimp only at hSw); go_simp; try with_reducible rfl)
            try simp only [Act.put, List.setIfInBounds_toArray, List.set_cons_zero, List.set_cons_succ]
            refine wpAnyH_take (i := 11) (oi := { dst := some 29, op := Op.binOp BinOp.sub 3 (Operand.tmp 28) (Operand.const (Value.int IntKind.i64 1)) 3, type := 3, pos := "zsortanyfunc.go:12", after := #[{ on := 10, ground := Ground.data }, { on := 3, ground := Ground.guard }], guard := some (3, true) }) (v := ?_) rfl (by kernel_rfl) (by kernel_rfl) (by kernel_rfl) (fun _ _ _ h => h) (Or.inl ⟨by rfl, ?_⟩) hS0 ?_
            rotate_left
            · (intro w9 hSw; (try dsimp only at hSw); go_simp; try with_reducible rfl)
            try simp only [Act.put, List.setIfInBounds_toArray, List.set_cons_zero, List.set_cons_succ]
            refine wpAnyH_take (i := 12) (oi := { dst := some 30, op := Op.indexAddr 24 (Operand.tmp 27) (Operand.tmp 29), type := 0, pos := "zsortanyfunc.go:12", after := #[{ on := 9, ground := Ground.data }, { on := 11, ground := Ground.data }, { on := 3, ground := Ground.guard }], guard := some (3, true) }) (v := ?_) rfl (by kernel_rfl) (by kernel_rfl) (by kernel_rfl) (fun _ _ _ h => h) (Or.inl ⟨by rfl, ?_⟩) hS0 ?_
            rotate_left
            · (intro w9 hSw; (try dsimp only at hSw); go_simp; try with_reducible rfl)
            try simp only [Act.put, List.setIfInBounds_toArray, List.set_cons_zero, List.set_cons_succ]
            refine wpAnyH_take (i := 13) (oi := { dst := some 31, op := Op.load 33 (Operand.tmp 30), type := 33, pos := "zsortanyfunc.go:12", after := #[{ on := 12, ground := Ground.data }, { on := 3, ground := Ground.guard }], guard := some (3, true) }) (v := ?_) rfl (by kernel_rfl) (by kernel_rfl) (by kernel_rfl) (fun _ _ _ h => h) (Or.inl ⟨by rfl, ?_⟩) hS0 ?_
            rotate_left
            · (intro w9 hSw; (try dsimp only at hSw); go_simp; try with_reducible rfl)
            try simp only [Act.put, List.setIfInBounds_toArray, List.set_cons_zero, List.set_cons_succ]
            refine wpAnyH_ready (rs := [14]) (by kernel_rfl) (by simp) ?_
            refine AllReadyH.cons (o := { dst := some 32, op := Op.call { callee := Callee.value (Operand.tmp 22), args := #[Operand.tmp 26, Operand.tmp 31], argTypes := #[33, 33] }, type := 3, pos := "zsortanyfunc.go:12", after := #[{ on := 4, ground := Ground.data }, { on := 8, ground := Ground.data }, { on := 13, ground := Ground.data }, { on := 3, ground := Ground.chain }, { on := 3, ground := Ground.guard }], guard := some (3, true) }) rfl (fun K hK => ?_) AllReadyH.nil
            go_simp
            go_at_call 16
            refine (cmpA_any x y V _ HV.out).mono ?_
            rintro e w3 ⟨rfl, hb3⟩
            have hS3 : w3.cell? ⟨b, (m + 1) * 2, none⟩ = some (.int .i64 x.t) ∧ w3.cell? ⟨b, (m + 1) * 2 + 1, none⟩ = some (.int .i64 x.z) ∧ w3.cell? ⟨b, m * 2, none⟩ = some (.int .i64 y.t) ∧ w3.cell? ⟨b, m * 2 + 1, none⟩ = some (.int .i64 y.z) ∧ Below wr.heap.size wr w3 := ⟨((bcell hb3).1 _ _ hbl).trans c0, ((bcell hb3).1 _ _ hbl).trans c1, ((bcell hb3).1 _ _ hbl).trans d0, ((bcell hb3).1 _ _ hbl).trans d1, below_seq hS0.2.2.2.2 hb3⟩
            have HS3 := Lib.hid hS3
            clear hb3
            refine hK.out _ _ hS3 (fun hH => ?_)
            clear hK K
            try simp only [Act.put, List.setIfInBounds_toArray, List.set_cons_zero, List.set_cons_succ]
            refine wpAnyH_take (i := 15) (oi := { dst := some 33, op := Op.binOp BinOp.lss 3 (Operand.tmp 32) (Operand.const (Value.int IntKind.i64 0)) 3, type := 4, pos := "zsortanyfunc.go:12", after := #[{ on := 14, ground := Ground.data }, { on := 3, ground := Ground.guard }], guard := some (3, true) }) (v := ?_) rfl (by kernel_rfl) (by kernel_rfl) (by kernel_rfl) (fun _ _ _ h => h) (Or.inl ⟨by rfl, ?_⟩) hS3 ?_
            rotate_left
            · (intro w9 hSw; (try dsimp only at hSw); go_simp; try with_reducible rfl)
            try simp only [Act.put, List.setIfInBounds_toArray, List.set_cons_zero, List.set_cons_succ]
            refine wpAnyH_take (i := 16) (oi := { dst := some 34, op := Op.pick (Operand.tmp 21) (Operand.tmp 33) (Operand.const (Value.bool false)), type := 4, pos := "zsortanyfunc.go:12", after := #[{ on := 3, ground := Ground.data }, { on := 15, ground := Ground.data }], guard := none }) (v := ?_) rfl (by kernel_rfl) (by kernel_rfl) (by kernel_rfl) (fun _ _ _ h => h) (Or.inl ⟨by rfl, ?_⟩) hS3 ?_
            rotate_left
            · (intro w9 hSw; (try dsimp only at hSw); go_simp; try with_reducible rfl)
            try simp only [Act.put, List.setIfInBounds_toArray, List.set_cons_zero, List.set_cons_succ]
            refine wpAnyH_done (by kernel_rfl) ?_ _
            go_wp2
            go_roundw
            case rel =>
              obtain ⟨I', i', q1, q2, q3, q4, q5, q6⟩ := HO.out w3 (by have := own_below HOJ.out hS3.2.2.2.2; simpa using this) (g_below HGJ.out hS3.2.2.2.2)
              exact ⟨I', i', q1, q2, q3, q4, q5, q6⟩
            case measure => simp [intOf]; omega
    · obtain rfl : i = l.length := by have := HLN.out; omega
      have HO := Lib.hid (And.intro hoi hgi)
      clear hoi hgi
      go_wp2
      go_end0
      refine ⟨rfl, ?_, HO.out.2⟩
      have := HO.out.1
      rw [List.drop_of_length_le (Nat.le_refl _), List.append_nil, List.take_of_length_le (Nat.le_refl _)] at this
      exact this
end Go.Proofs.Ytaccbmgbkalknab
