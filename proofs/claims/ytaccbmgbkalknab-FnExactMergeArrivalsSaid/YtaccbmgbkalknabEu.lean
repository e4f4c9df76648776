/-
  Chapter 10: the library's merging in place: a first run of one. Conditions: both runs are valid, the row is owned.
-/
import Derived.Test.YtaccbmgbkalknabEs
namespace Go.Proofs.Ytaccbmgbkalknab
open Go.RowKit

def Sy1 (w : World) (base b0 N c m : Nat) (l Y : List Arr) (x : Arr) (iv jv : Value) (wr : World) : Prop :=
  ∃ (I J i j : Nat), iv = .int .i64 (I : Int) ∧ jv = .int .i64 (J : Int) ∧ Hid (I = m + i ∧ J = m + j) ∧ i ≤ j ∧ j ≤ Y.length ∧ (∀ t y, Y[t]? = some y → t < i → y.t < x.t) ∧ (∀ t y, Y[t]? = some y → j ≤ t → x.t ≤ y.t) ∧ RowA wr base b0 N c l ∧ w.grownBy wr (some b0)
def Sy2 (w : World) (base b0 N c a i : Nat) (P Y1 Y2 Q : List Arr) (x : Arr) (kv : Value) (wr : World) : Prop :=
  ∃ (k : Nat), kv = .int .i64 ((a + k : Nat) : Int) ∧ k ≤ i ∧ RowA wr base b0 N c (P ++ Y1.take k ++ x :: (Y1.drop k ++ Y2 ++ Q)) ∧ w.grownBy wr (some b0)
set_option maxRecDepth 4000 in
set_option maxHeartbeats 4000000 in
theorem sy_one (base b0 N c a m bb : Nat) (P Y Q : List Arr) (x : Arr) (w : World) (ho : RowA w base b0 N c (P ++ [x] ++ Y ++ Q)) (hN : N ≤ 1000) (ha : P.length = a) (hX : a + 1 = m) (hY : m + Y.length = bb) (sy : avL 0 Y = true) :
    Calls Try.prog 24 #[.slice (some ⟨b0, 0, none⟩) N c, .int .i64 (a : Int), .int .i64 (m : Int), .int .i64 (bb : Int), .func (.func 16) #[] #[]] w fun e w' =>
      e = .returned (.tuple #[]) ∧ RowA w' base b0 N c (P ++ finA [x] Y ++ Q) ∧ w.grownBy w' (some b0) := by
  have hlen := (ar_own ho).1
  have hbn : bb ≤ N := by simp at hlen; omega
  have k1 : (m : Int) - (a : Int) = 1 := by omega
  have SY := Lib.hid sy
  have HA := Lib.hid (And.intro ha (And.intro hX hY))
  have R0 : Sy1 w base b0 N c m (P ++ [x] ++ Y ++ Q) Y x (.int .i64 (m : Int)) (.int .i64 (bb : Int)) w := ⟨m, bb, 0, Y.length, rfl, rfl, Lib.hid ⟨rfl, hY.symm⟩, Nat.zero_le _, Nat.le_refl _, fun t y _ h => absurd h (Nat.not_lt_zero _), fun t y h1 h2 => by
    obtain ⟨h3, -⟩ := List.getElem?_eq_some_iff.1 h1
    omega, ho, g_refl _ _⟩
  have HR0 := Lib.hid R0
  have ma : a + 1 ≤ 1000 := by omega
  have mb : bb ≤ 1000 := by omega
  have am : (a : Int) < (N : Int) := by omega
  clear R0 ho hlen ha hX hY sy
  go_enter Try.func24, Try.ntmps24
  go_wp2
  go_loopw [10, 11] (fun iv jv wr => Sy1 w base b0 N c m (P ++ [x] ++ Y ++ Q) Y x iv jv wr) (fun iv jv _ => (intOf jv).toNat - (intOf iv).toNat)
  case atStart => exact HR0.out
  case round =>
    obtain ⟨I, J, i, j, rfl, rfl, HIJ, hij, hjl, hlo, hhi, ho, hg⟩ := hrel
    have IJ1 : I ≤ 1000 ∧ J ≤ 1000 := by have := HIJ.out; have := HA.out.2.2; omega
    have HO := Lib.hid ho
    have HG := Lib.hid hg
    have HLO := Lib.hid hlo
    have HHI := Lib.hid hhi
    have hyl : m + Y.length = bb := HA.out.2.2
    clear HR0 ho hg hlo hhi
    by_cases hlt : i < j
    · obtain ⟨h, hh⟩ : ∃ h, h = (I + J) / 2 := ⟨_, rfl⟩
      obtain ⟨h', hh'⟩ : ∃ h', h' = h - m := ⟨_, rfl⟩
      have eh : ((I : Int) + (J : Int)) / 2 = (h : Int) := by omega
      have eh1 : h = m + h' := by have := HIJ.out; omega
      have eh2 : i ≤ h' ∧ h' < j := by have := HIJ.out; omega
      obtain ⟨y, hy⟩ : ∃ y, Y[h']? = some y := ⟨_, List.getElem?_eq_getElem (show h' < Y.length by omega)⟩
      have hrow : RowA wr base b0 N c (P ++ x :: (Y.take h' ++ y :: (Y.drop (h' + 1) ++ Q))) := by
        have h1 := HO.out
        have h2 : Y = Y.take h' ++ y :: Y.drop (h' + 1) := by rw [← drop_at hy, List.take_append_drop]
        rw [h2] at h1
        simpa using h1
      have hl2 : a + 1 + (Y.take h').length = h := by rw [List.length_take]; have := HA.out.2.1; omega
      obtain ⟨⟨c0, c1, c2, c3⟩, -, hp1, hq1⟩ := row_two hrow HA.out.1 hl2
      obtain ⟨b1, o1, z1, e3, hbl, -⟩ := ar_at (ar_own hrow) hp1
      obtain ⟨rfl, rfl⟩ : b0 = b1 ∧ 0 = o1 := by injection e3 with e1; injection e1 with a b; exact ⟨a, b⟩
      obtain ⟨V, hV⟩ : ∃ V, cmpV y.t x.t = V := ⟨_, rfl⟩
      have HV := Lib.hid hV
      have HY := Lib.hid hy
      have HH := Lib.hid (And.intro eh1 eh2)
      have ij : (I : Int) < (J : Int) := by have := HIJ.out; omega
      have s0 : (0 : Int) ≤ (I : Int) + (J : Int) := by omega
      have s1 : (I : Int) + (J : Int) ≤ 2002 := by omega
      have hz : (h : Int) < (N : Int) := by omega
      clear hrow hl2 e3 hh hh' hy hyl
      by_cases hyx : y.t < x.t
      · have hV0 : V < 0 := by rw [← hV]; unfold cmpV; rw [if_pos hyx]; omega
        have HYX := Lib.hid hyx
        clear hV hyx eh1 eh2
        have hS0 : wr.drew.cell? ⟨b0, a * 2, none⟩ = some (.int .i64 x.t) ∧ wr.drew.cell? ⟨b0, a * 2 + 1, none⟩ = some (.int .i64 x.z) ∧ wr.drew.cell? ⟨b0, h * 2, none⟩ = some (.int .i64 y.t) ∧ wr.drew.cell? ⟨b0, h * 2 + 1, none⟩ = some (.int .i64 y.z) ∧ Below wr.heap.size wr wr.drew := ⟨c0, c1, c2, c3, (Below.refl _ _).drew⟩
        go_wp2_with fail
        refine wp_region_held_drew (S := fun w' => w'.cell? ⟨b0, a * 2, none⟩ = some (.int .i64 x.t) ∧ w'.cell? ⟨b0, a * 2 + 1, none⟩ = some (.int .i64 x.z) ∧ w'.cell? ⟨b0, h * 2, none⟩ = some (.int .i64 y.t) ∧ w'.cell? ⟨b0, h * 2 + 1, none⟩ = some (.int .i64 y.z) ∧ Below wr.heap.size wr w') (by kernel_rfl) hS0 (fun hH => ?_)
        refine wpAnyH_take (i := 0) (oi := { dst := some 40, op := Op.move (Operand.tmp 4), type := 39, pos := "zsortanyfunc.go:390", after := #[], guard := none }) (v := ?_) rfl (by kernel_rfl) (by kernel_rfl) (by kernel_rfl) (fun _ _ _ h => h) (Or.inl ⟨by rfl, ?_⟩) hS0 ?_
        rotate_left
        · (intro w9 hSw; (try dsimp only at hSw); go_simp; try with_reducible rfl)
        try simp only [Act.put, List.setIfInBounds_toArray, List.set_cons_zero, List.set_cons_succ]
        refine wpAnyH_take (i := 1) (oi := { dst := some 41, op := Op.move (Operand.tmp 0), type := 24, pos := "zsortanyfunc.go:390", after := #[], guard := none }) (v := ?_) rfl (by kernel_rfl) (by kernel_rfl) (by kernel_rfl) (fun _ _ _ h => h) (Or.inl ⟨by rfl, ?_⟩) hS0 ?_
        rotate_left
        · (intro w9 hSw; (try dsimp only at hSw); go_simp; try with_reducible rfl)
        try simp only [Act.put, List.setIfInBounds_toArray, List.set_cons_zero, List.set_cons_succ]
        refine wpAnyH_take (i := 2) (oi := { dst := some 42, op := Op.move (Operand.tmp 12), type := 3, pos := "zsortanyfunc.go:390", after := #[], guard := none }) (v := ?_) rfl (by kernel_rfl) (by kernel_rfl) (by kernel_rfl) (fun _ _ _ h => h) (Or.inl ⟨by rfl, ?_⟩) hS0 ?_
        rotate_left
        · (intro w9 hSw; (try dsimp only at hSw); go_simp; try with_reducible rfl)
        try simp only [Act.put, List.setIfInBounds_toArray, List.set_cons_zero, List.set_cons_succ]
        refine wpAnyH_take (i := 3) (oi := { dst := some 43, op := Op.indexAddr 24 (Operand.tmp 41) (Operand.tmp 42), type := 0, pos := "zsortanyfunc.go:390", after := #[{ on := 1, ground := Ground.data }, { on := 2, ground := Ground.data }], guard := none }) (v := ?_) rfl (by kernel_rfl) (by kernel_rfl) (by kernel_rfl) (fun _ _ _ h => h) (Or.inl ⟨by rfl, ?_⟩) hS0 ?_
        rotate_left
        · (intro w9 hSw; (try dsimp only at hSw); go_simp; try with_reducible rfl)
        try simp only [Act.put, List.setIfInBounds_toArray, List.set_cons_zero, List.set_cons_succ]
        refine wpAnyH_take (i := 4) (oi := { dst := some 44, op := Op.load 33 (Operand.tmp 43), type := 33, pos := "zsortanyfunc.go:390", after := #[{ on := 3, ground := Ground.data }], guard := none }) (v := ?_) rfl (by kernel_rfl) (by kernel_rfl) (by kernel_rfl) (fun _ _ _ h => h) (Or.inl ⟨by rfl, ?_⟩) hS0 ?_
        rotate_left
        · (intro w9 hSw; (try dsimp only at hSw); go_simp; try with_reducible rfl)
        try simp only [Act.put, List.setIfInBounds_toArray, List.set_cons_zero, List.set_cons_succ]
        refine wpAnyH_take (i := 5) (oi := { dst := some 45, op := Op.move (Operand.tmp 0), type := 24, pos := "zsortanyfunc.go:390", after := #[], guard := none }) (v := ?_) rfl (by kernel_rfl) (by kernel_rfl) (by kernel_rfl) (fun _ _ _ h => h) (Or.inl ⟨by rfl, ?_⟩) hS0 ?_
        rotate_left
        · (intro w9 hSw; (try dsimp only at hSw); go_simp; try with_reducible rfl)
        try simp only [Act.put, List.setIfInBounds_toArray, List.set_cons_zero, List.set_cons_succ]
        refine wpAnyH_take (i := 6) (oi := { dst := some 46, op := Op.move (Operand.tmp 1), type := 3, pos := "zsortanyfunc.go:390", after := #[], guard := none }) (v := ?_) rfl (by kernel_rfl) (by kernel_rfl) (by kernel_rfl) (fun _ _ _ h => h) (Or.inl ⟨by rfl, ?_⟩) hS0 ?_
        rotate_left
        · (intro w9 hSw; (try dsimp only at hSw); go_simp; try with_reducible rfl)
        try simp only [Act.put, List.setIfInBounds_toArray, List.set_cons_zero, List.set_cons_succ]
        refine wpAnyH_take (i := 7) (oi := { dst := some 47, op := Op.indexAddr 24 (Operand.tmp 45) (Operand.tmp 46), type := 0, pos := "zsortanyfunc.go:390", after := #[{ on := 5, ground := Ground.data }, { on := 6, ground := Ground.data }], guard := none }) (v := ?_) rfl (by kernel_rfl) (by kernel_rfl) (by kernel_rfl) (fun _ _ _ h => h) (Or.inl ⟨by rfl, ?_⟩) hS0 ?_
        rotate_left
        · (intro w9 hSw; (try dsimp only at hSw); go_simp; try with_reducible rfl)
        try simp only [Act.put, List.setIfInBounds_toArray, List.set_cons_zero, List.set_cons_succ]
        refine wpAnyH_take (i := 8) (oi := { dst := some 48, op := Op.load 33 (Operand.tmp 47), type := 33, pos := "zsortanyfunc.go:390", after := #[{ on := 7, ground := Ground.data }], guard := none }) (v := ?_) rfl (by kernel_rfl) (by kernel_rfl) (by kernel_rfl) (fun _ _ _ h => h) (Or.inl ⟨by rfl, ?_⟩) hS0 ?_
        rotate_left
        · (intro w9 hSw; (try dsimp only at hSw); go_simp; try with_reducible rfl)
        try simp only [Act.put, List.setIfInBounds_toArray, List.set_cons_zero, List.set_cons_succ]
        refine wpAnyH_ready (rs := [9]) (by kernel_rfl) (by simp) ?_
        refine AllReadyH.cons (o := { dst := some 49, op := Op.call { callee := Callee.value (Operand.tmp 40), args := #[Operand.tmp 44, Operand.tmp 48], argTypes := #[33, 33] }, type := 3, pos := "zsortanyfunc.go:390", after := #[{ on := 0, ground := Ground.data }, { on := 4, ground := Ground.data }, { on := 8, ground := Ground.data }], guard := none }) rfl (fun K hK => ?_) AllReadyH.nil
        go_simp
        go_at_call 16
        refine (cmpA_any y x V _ HV.out).mono ?_
        rintro e w3 ⟨rfl, hb3⟩
        have hS3 : w3.cell? ⟨b0, a * 2, none⟩ = some (.int .i64 x.t) ∧ w3.cell? ⟨b0, a * 2 + 1, none⟩ = some (.int .i64 x.z) ∧ w3.cell? ⟨b0, h * 2, none⟩ = some (.int .i64 y.t) ∧ w3.cell? ⟨b0, h * 2 + 1, none⟩ = some (.int .i64 y.z) ∧ Below wr.heap.size wr w3 := ⟨((bcell hb3).1 _ _ hbl).trans c0, ((bcell hb3).1 _ _ hbl).trans c1, ((bcell hb3).1 _ _ hbl).trans c2, ((bcell hb3).1 _ _ hbl).trans c3, below_seq hS0.2.2.2.2 hb3⟩
        have HS3 := Lib.hid hS3
        clear hb3
        refine hK.out _ _ hS3 (fun hH => ?_)
        clear hK K
        try simp only [Act.put, List.setIfInBounds_toArray, List.set_cons_zero, List.set_cons_succ]
        refine wpAnyH_take (i := 10) (oi := { dst := some 50, op := Op.binOp BinOp.lss 3 (Operand.tmp 49) (Operand.const (Value.int IntKind.i64 0)) 3, type := 4, pos := "zsortanyfunc.go:390", after := #[{ on := 9, ground := Ground.data }], guard := none }) (v := ?_) rfl (by kernel_rfl) (by kernel_rfl) (by kernel_rfl) (fun _ _ _ h => h) (Or.inl ⟨by rfl, ?_⟩) hS3 ?_
        rotate_left
        · (intro w9 hSw; (try dsimp only at hSw); go_simp; try with_reducible rfl)
        try simp only [Act.put, List.setIfInBounds_toArray, List.set_cons_zero, List.set_cons_succ]
        refine wpAnyH_done (by kernel_rfl) ?_ _
        go_wp2
        go_roundw
        case rel =>
          obtain ⟨q1, q2, q3⟩ := HH.out
          refine ⟨h + 1, J, h' + 1, j, by go_num, rfl, Lib.hid ⟨by omega, HIJ.out.2⟩, by omega, hjl, fun t z hz ht => ?_, HHI.out, own_below HO.out HS3.out.2.2.2.2, g_below HG.out HS3.out.2.2.2.2⟩
          have := av_pair SY.out hz HY.out (by omega)
          have := HYX.out
          omega
        case measure => (have := HH.out); (have := HIJ.out); simp [intOf]; omega
      · have hV0 : 0 ≤ V := by rw [← hV]; unfold cmpV; rw [if_neg hyx]; split <;> omega
        have HYX := Lib.hid hyx
        clear hV hyx eh1 eh2
        have hS0 : wr.drew.cell? ⟨b0, a * 2, none⟩ = some (.int .i64 x.t) ∧ wr.drew.cell? ⟨b0, a * 2 + 1, none⟩ = some (.int .i64 x.z) ∧ wr.drew.cell? ⟨b0, h * 2, none⟩ = some (.int .i64 y.t) ∧ wr.drew.cell? ⟨b0, h * 2 + 1, none⟩ = some (.int .i64 y.z) ∧ Below wr.heap.size wr wr.drew := ⟨c0, c1, c2, c3, (Below.refl _ _).drew⟩
        go_wp2_with fail
        refine wp_region_held_drew (S := fun w' => w'.cell? ⟨b0, a * 2, none⟩ = some (.int .i64 x.t) ∧ w'.cell? ⟨b0, a * 2 + 1, none⟩ = some (.int .i64 x.z) ∧ w'.cell? ⟨b0, h * 2, none⟩ = some (.int .i64 y.t) ∧ w'.cell? ⟨b0, h * 2 + 1, none⟩ = some (.int .i64 y.z) ∧ Below wr.heap.size wr w') (by kernel_rfl) hS0 (fun hH => ?_)
        refine wpAnyH_take (i := 0) (oi := { dst := some 40, op := Op.move (Operand.tmp 4), type := 39, pos := "zsortanyfunc.go:390", after := #[], guard := none }) (v := ?_) rfl (by kernel_rfl) (by kernel_rfl) (by kernel_rfl) (fun _ _ _ h => h) (Or.inl ⟨by rfl, ?_⟩) hS0 ?_
        rotate_left
        · (intro w9 hSw; (try dsimp only at hSw); go_simp; try with_reducible rfl)
        try simp only [Act.put, List.setIfInBounds_toArray, List.set_cons_zero, List.set_cons_succ]
        refine wpAnyH_take (i := 1) (oi := { dst := some 41, op := Op.move (Operand.tmp 0), type := 24, pos := "zsortanyfunc.go:390", after := #[], guard := none }) (v := ?_) rfl (by kernel_rfl) (by kernel_rfl) (by kernel_rfl) (fun _ _ _ h => h) (Or.inl ⟨by rfl, ?_⟩) hS0 ?_
        rotate_left
        · (intro w9 hSw; (try dsimp only at hSw); go_simp; try with_reducible rfl)
        try simp only [Act.put, List.setIfInBounds_toArray, List.set_cons_zero, List.set_cons_succ]
        refine wpAnyH_take (i := 2) (oi := { dst := some 42, op := Op.move (Operand.tmp 12), type := 3, pos := "zsortanyfunc.go:390", after := #[], guard := none }) (v := ?_) rfl (by kernel_rfl) (by kernel_rfl) (by kernel_rfl) (fun _ _ _ h => h) (Or.inl ⟨by rfl, ?_⟩) hS0 ?_
        rotate_left
        · (intro w9 hSw; (try dsimp only at hSw); go_simp; try with_reducible rfl)
        try simp only [Act.put, List.setIfInBounds_toArray, List.set_cons_zero, List.set_cons_succ]
        refine wpAnyH_take (i := 3) (oi := { dst := some 43, op := Op.indexAddr 24 (Operand.tmp 41) (Operand.tmp 42), type := 0, pos := "zsortanyfunc.go:390", after := #[{ on := 1, ground := Ground.data }, { on := 2, ground := Ground.data }], guard := none }) (v := ?_) rfl (by kernel_rfl) (by kernel_rfl) (by kernel_rfl) (fun _ _ _ h => h) (Or.inl ⟨by rfl, ?_⟩) hS0 ?_
        rotate_left
        · (intro w9 hSw; (try dsimp only at hSw); go_simp; try with_reducible rfl)
        try simp only [Act.put, List.setIfInBounds_toArray, List.set_cons_zero, List.set_cons_succ]
        refine wpAnyH_take (i := 4) (oi := { dst := some 44, op := Op.load 33 (Operand.tmp 43), type := 33, pos := "zsortanyfunc.go:390", after := #[{ on := 3, ground := Ground.data }], guard := none }) (v := ?_) rfl (by kernel_rfl) (by kernel_rfl) (by kernel_rfl) (fun _ _ _ h => h) (Or.inl ⟨by rfl, ?_⟩) hS0 ?_
        rotate_left
        · (intro w9 hSw; (try dsimp only at hSw); go_simp; try with_reducible rfl)
        try simp only [Act.put, List.setIfInBounds_toArray, List.set_cons_zero, List.set_cons_succ]
        refine wpAnyH_take (i := 5) (oi := { dst := some 45, op := Op.move (Operand.tmp 0), type := 24, pos := "zsortanyfunc.go:390", after := #[], guard := none }) (v := ?_) rfl (by kernel_rfl) (by kernel_rfl) (by kernel_rfl) (fun _ _ _ h => h) (Or.inl ⟨by rfl, ?_⟩) hS0 ?_
        rotate_left
        · (intro w9 hSw; (try dsimp only at hSw); go_simp; try with_reducible rfl)
        try simp only [Act.put, List.setIfInBounds_toArray, List.set_cons_zero, List.set_cons_succ]
        refine wpAnyH_take (i := 6) (oi := { dst := some 46, op := Op.move (Operand.tmp 1), type := 3, pos := "zsortanyfunc.go:390", after := #[], guard := none }) (v := ?_) rfl (by kernel_rfl) (by kernel_rfl) (by kernel_rfl) (fun _ _ _ h => h) (Or.inl ⟨by rfl, ?_⟩) hS0 ?_
        rotate_left
        · (intro w9 hSw; (try dsimp only at hSw); go_simp; try with_reducible rfl)
        try simp only [Act.put, List.setIfInBounds_toArray, List.set_cons_zero, List.set_cons_succ]
        refine wpAnyH_take (i := 7) (oi := { dst := some 47, op := Op.indexAddr 24 (Operand.tmp 45) (Operand.tmp 46), type := 0, pos := "zsortanyfunc.go:390", after := #[{ on := 5, ground := Ground.data }, { on := 6, ground := Ground.data }], guard := none }) (v := ?_) rfl (by kernel_rfl) (by kernel_rfl) (by kernel_rfl) (fun _ _ _ h => h) (Or.inl ⟨by rfl, ?_⟩) hS0 ?_
        rotate_left
        · (intro w9 hSw; (try dsimp only at hSw); go_simp; try with_reducible rfl)
        try simp only [Act.put, List.setIfInBounds_toArray, List.set_cons_zero, List.set_cons_succ]
        refine wpAnyH_take (i := 8) (oi := { dst := some 48, op := Op.load 33 (Operand.tmp 47), type := 33, pos := "zsortanyfunc.go:390", after := #[{ on := 7, ground := Ground.data }], guard := none }) (v := ?_) rfl (by kernel_rfl) (by kernel_rfl) (by kernel_rfl) (fun _ _ _ h => h) (Or.inl ⟨by rfl, ?_⟩) hS0 ?_
        rotate_left
        · (intro w9 hSw; (try dsimp only at hSw); go_simp; try with_reducible rfl)
        try simp only [Act.put, List.setIfInBounds_toArray, List.set_cons_zero, List.set_cons_succ]
        refine wpAnyH_ready (rs := [9]) (by kernel_rfl) (by simp) ?_
        refine AllReadyH.cons (o := { dst := some 49, op := Op.call { callee := Callee.value (Operand.tmp 40), args := #[Operand.tmp 44, Operand.tmp 48], argTypes := #[33, 33] }, type := 3, pos := "zsortanyfunc.go:390", after := #[{ on := 0, ground := Ground.data }, { on := 4, ground := Ground.data }, { on := 8, ground := Ground.data }], guard := none }) rfl (fun K hK => ?_) AllReadyH.nil
        go_simp
        go_at_call 16
        refine (cmpA_any y x V _ HV.out).mono ?_
        rintro e w3 ⟨rfl, hb3⟩
        have hS3 : w3.cell? ⟨b0, a * 2, none⟩ = some (.int .i64 x.t) ∧ w3.cell? ⟨b0, a * 2 + 1, none⟩ = some (.int .i64 x.z) ∧ w3.cell? ⟨b0, h * 2, none⟩ = some (.int .i64 y.t) ∧ w3.cell? ⟨b0, h * 2 + 1, none⟩ = some (.int .i64 y.z) ∧ Below wr.heap.size wr w3 := ⟨((bcell hb3).1 _ _ hbl).trans c0, ((bcell hb3).1 _ _ hbl).trans c1, ((bcell hb3).1 _ _ hbl).trans c2, ((bcell hb3).1 _ _ hbl).trans c3, below_seq hS0.2.2.2.2 hb3⟩
        have HS3 := Lib.hid hS3
        clear hb3
        refine hK.out _ _ hS3 (fun hH => ?_)
        clear hK K
        try simp only [Act.put, List.setIfInBounds_toArray, List.set_cons_zero, List.set_cons_succ]
        refine wpAnyH_take (i := 10) (oi := { dst := some 50, op := Op.binOp BinOp.lss 3 (Operand.tmp 49) (Operand.const (Value.int IntKind.i64 0)) 3, type := 4, pos := "zsortanyfunc.go:390", after := #[{ on := 9, ground := Ground.data }], guard := none }) (v := ?_) rfl (by kernel_rfl) (by kernel_rfl) (by kernel_rfl) (fun _ _ _ h => h) (Or.inl ⟨by rfl, ?_⟩) hS3 ?_
        rotate_left
        · (intro w9 hSw; (try dsimp only at hSw); go_simp; try with_reducible rfl)
        try simp only [Act.put, List.setIfInBounds_toArray, List.set_cons_zero, List.set_cons_succ]
        refine wpAnyH_done (by kernel_rfl) ?_ _
        go_wp2
        go_roundw
        case rel =>
          obtain ⟨q1, q2, q3⟩ := HH.out
          refine ⟨I, h, i, h', rfl, rfl, Lib.hid ⟨HIJ.out.1, q1⟩, by omega, by omega, HLO.out, fun t z hz ht => ?_, own_below HO.out HS3.out.2.2.2.2, g_below HG.out HS3.out.2.2.2.2⟩
          have := av_pair SY.out HY.out hz ht
          have := HYX.out
          omega
        case measure => (have := HH.out); (have := HIJ.out); simp [intOf]; omega
    · obtain rfl : i = j := by omega
      obtain rfl : I = J := by have := HIJ.out; omega
      obtain ⟨Y1, hY1⟩ : ∃ Y1, Y1 = Y.take i := ⟨_, rfl⟩
      obtain ⟨Y2, hY2⟩ : ∃ Y2, Y2 = Y.drop i := ⟨_, rfl⟩
      have hy12 : Y = Y1 ++ Y2 := by rw [hY1, hY2, List.take_append_drop]
      have hl1 : Y1.length = i := by rw [hY1, List.length_take]; omega
      have R1 : Sy2 w base b0 N c a i P Y1 Y2 Q x (.int .i64 (a : Int)) wr := ⟨0, rfl, Nat.zero_le _, by have := HO.out; rw [hy12] at this; simpa using this, HG.out⟩
      have HR1 := Lib.hid R1
      have HRES := Lib.hid (show finA [x] Y = Y1 ++ x :: Y2 by
        have h1 := SY.out
        rw [hy12] at h1 ⊢
        refine finA_one h1 (fun y hy => ?_) (fun y hy => ?_)
        · obtain ⟨t, ht⟩ := List.mem_iff_getElem?.1 hy
          obtain ⟨h5, -⟩ := List.getElem?_eq_some_iff.1 ht
          exact HLO.out t y (by rw [hy12, List.getElem?_append_left h5]; exact ht) (by omega)
        · obtain ⟨t, ht⟩ := List.mem_iff_getElem?.1 hy
          exact HHI.out (i + t) y (by rw [hy12, List.getElem?_append_right (by omega), show i + t - Y1.length = t by omega]; exact ht) (by omega))
      have HL1 := Lib.hid hl1
      obtain ⟨F, hF⟩ : ∃ F, F = a + i := ⟨_, rfl⟩
      have HF := Lib.hid hF
      have e5 : (I : Int) - 1 = (F : Int) := by have := HA.out.2.1; have := HIJ.out; omega
      clear hF
      have HYL := Lib.hid (And.intro hjl hyl)
      clear R1 hY1 hY2 hy12 hl1 hlt hij hjl hyl
      go_wp2
      go_loopw [13] (fun kv wr => Sy2 w base b0 N c a i P Y1 Y2 Q x kv wr) (fun kv _ => (a + i) - (intOf kv).toNat)
      case atStart => exact HR1.out
      case round =>
        obtain ⟨k, rfl, hk, ho, hg⟩ := hrel
        clear HR1
        by_cases hlt : k < i
        · obtain ⟨y, hy⟩ : ∃ y, Y1[k]? = some y := ⟨_, List.getElem?_eq_getElem (show k < Y1.length by rw [HL1.out]; exact hlt)⟩
          have hl3 : (P ++ Y1.take k).length = a + k := by rw [List.length_append, HA.out.1, List.length_take, HL1.out]; omega
          have ho' : RowA wr base b0 N c ((P ++ Y1.take k) ++ x :: ([] ++ y :: (Y1.drop (k + 1) ++ Y2 ++ Q))) := by
            rw [drop_at hy] at ho
            simpa using ho
          have hl4 : a + k + 1 + ([] : List Arr).length = a + k + 1 := rfl
          obtain ⟨⟨c0, c1, c2, c3⟩, ⟨f0, f1, f2, f3⟩, hp1, hq1⟩ := row_two ho' hl3 hl4
          have hsw := row_swap ho' hl3 hl4
          have HS := Lib.hid (World.ownsRow.drew hsw)
          obtain ⟨u, hu⟩ : ∃ u, u = a + k := ⟨_, rfl⟩
          have HG := Lib.hid (g_drew (g_swap (a1 := u * 2) (a2 := u * 2 + 1) (a3 := (u + 1) * 2) (a4 := (u + 1) * 2 + 1) (u1 := .int .i64 y.t) (u2 := .int .i64 y.z) (u3 := .int .i64 x.t) (u4 := .int .i64 x.z) hg))
          have HY := Lib.hid hy
          have kz : (u : Int) < (F : Int) := by have := HF.out; omega
          rw [← hu] at c0 c1 c2 c3 f0 f1 f2 f3 hp1 hq1 HS
          have uz : (u : Int) < (N : Int) := by omega
          have uz2 : (u : Int) + 1 < (N : Int) := by omega
          have uz3 : (0 : Int) ≤ (u : Int) + 1 := by omega
          have HU := Lib.hid hu
          rw [show a + k = u from hu.symm]
          clear ho ho' hsw hg hl3 hl4 hy hu
          go_wp2_with fail
          go_region
          go_wp2
          go_roundw
          case rel =>
            refine ⟨k + 1, by have := HU.out; go_num, by omega, ?_, HG.out⟩
            have h7 := HS.out
            rw [take_snoc _ _ _ HY.out]
            simpa using h7
          case measure => (have := HU.out); simp [intOf]; omega
        · obtain rfl : k = i := by omega
          have e6 := HF.out
          subst e6
          have HO2 := Lib.hid (show RowA wr base b0 N c (P ++ finA [x] Y ++ Q) by
            rw [HRES.out]
            rw [List.take_of_length_le (by rw [HL1.out]; exact Nat.le_refl _), List.drop_of_length_le (by rw [HL1.out]; exact Nat.le_refl _)] at ho
            simpa using ho)
          have HG2 := Lib.hid hg
          clear ho hg
          go_wp2
          (try simp only [Exit.inBlock, Exit.then])
          refine bodyPost_ret (results_none rfl _ _ _) rfl ⟨rfl, by first | exact HO2.out | (have := HO2.out; simpa using this), HG2.out⟩
end Go.Proofs.Ytaccbmgbkalknab
