/-
  Chapter 10: the library's merging in place: a second run of one. Conditions: both runs are valid, the row is owned.
-/
import Derived.Test.YtaccbmgbkalknabEu
namespace Go.Proofs.Ytaccbmgbkalknab
open Go.RowKit

def Sy3 (w : World) (base b0 N c a : Nat) (l X : List Arr) (y : Arr) (iv jv : Value) (wr : World) : Prop :=
  ∃ (I J i j : Nat), iv = .int .i64 (I : Int) ∧ jv = .int .i64 (J : Int) ∧ Hid (I = a + i ∧ J = a + j) ∧ i ≤ j ∧ j ≤ X.length ∧ (∀ t x, X[t]? = some x → t < i → x.t ≤ y.t) ∧ (∀ t x, X[t]? = some x → j ≤ t → y.t < x.t) ∧ RowA wr base b0 N c l ∧ w.grownBy wr (some b0)
def Sy4 (w : World) (base b0 N c F : Nat) (P X1 X2 Q : List Arr) (y : Arr) (kv : Value) (wr : World) : Prop :=
  ∃ (K k : Nat), kv = .int .i64 (K : Int) ∧ Hid (K = F + k) ∧ k ≤ X2.length ∧ RowA wr base b0 N c (P ++ X1 ++ X2.take k ++ y :: (X2.drop k ++ Q)) ∧ w.grownBy wr (some b0)
set_option maxRecDepth 4000 in
set_option maxHeartbeats 4000000 in
theorem sy_last (base b0 N c a m bb : Nat) (P X Q : List Arr) (y : Arr) (w : World) (ho : RowA w base b0 N c (P ++ X ++ [y] ++ Q)) (hN : N ≤ 1000) (ha : P.length = a) (hX : a + X.length = m) (hY : m + 1 = bb) (h2 : 2 ≤ X.length) (sx : avL 0 X = true) :
    Calls Try.prog 24 #[.slice (some ⟨b0, 0, none⟩) N c, .int .i64 (a : Int), .int .i64 (m : Int), .int .i64 (bb : Int), .func (.func 16) #[] #[]] w fun e w' =>
      e = .returned (.tuple #[]) ∧ RowA w' base b0 N c (P ++ finA X [y] ++ Q) ∧ w.grownBy w' (some b0) := by
  have hlen := (ar_own ho).1
  have hbn : bb ≤ N := by simp at hlen; omega
  obtain ⟨d1, hd1⟩ : ∃ d1, d1 = m - a := ⟨_, rfl⟩
  have k0 : (m : Int) - (a : Int) = (d1 : Int) := by omega
  have k2 : ((d1 : Int) == 1) = false := by simp; omega
  have k1 : (bb : Int) - (m : Int) = 1 := by omega
  have SX := Lib.hid sx
  have HA := Lib.hid (And.intro ha (And.intro hX hY))
  have R0 : Sy3 w base b0 N c a (P ++ X ++ [y] ++ Q) X y (.int .i64 (a : Int)) (.int .i64 (m : Int)) w := ⟨a, m, 0, X.length, rfl, rfl, Lib.hid ⟨rfl, hX.symm⟩, Nat.zero_le _, Nat.le_refl _, fun t y _ h => absurd h (Nat.not_lt_zero _), fun t y h1 h2 => by
    obtain ⟨h3, -⟩ := List.getElem?_eq_some_iff.1 h1
    omega, ho, g_refl _ _⟩
  have HR0 := Lib.hid R0
  have mb : bb ≤ 1000 := by omega
  have am : (m : Int) < (N : Int) := by omega
  have HD := Lib.hid hd1
  clear R0 ho hlen ha hX hY sx hd1
  go_enter Try.func24, Try.ntmps24
  go_wp2
  go_loopw [14, 15] (fun iv jv wr => Sy3 w base b0 N c a (P ++ X ++ [y] ++ Q) X y iv jv wr) (fun iv jv _ => (intOf jv).toNat - (intOf iv).toNat)
  case atStart => exact HR0.out
  case round =>
    obtain ⟨I, J, i, j, rfl, rfl, HIJ, hij, hjl, hlo, hhi, ho, hg⟩ := hrel
    have IJ1 : I ≤ 1000 ∧ J ≤ 1000 := by have := HIJ.out; have := HA.out.2; omega
    have HO := Lib.hid ho
    have HG := Lib.hid hg
    have HLO := Lib.hid hlo
    have HHI := Lib.hid hhi
    have hxl : a + X.length = m := HA.out.2.1
    clear HR0 ho hg hlo hhi
    by_cases hlt : i < j
    · obtain ⟨h, hh⟩ : ∃ h, h = (I + J) / 2 := ⟨_, rfl⟩
      obtain ⟨h', hh'⟩ : ∃ h', h' = h - a := ⟨_, rfl⟩
      have eh : ((I : Int) + (J : Int)) / 2 = (h : Int) := by omega
      have eh1 : h = a + h' := by have := HIJ.out; omega
      have eh2 : i ≤ h' ∧ h' < j := by have := HIJ.out; omega
      obtain ⟨x, hx⟩ : ∃ x, X[h']? = some x := ⟨_, List.getElem?_eq_getElem (show h' < X.length by omega)⟩
      have hrow : RowA wr base b0 N c ((P ++ X.take h') ++ x :: (X.drop (h' + 1) ++ y :: Q)) := by
        have h1 := HO.out
        have h2 : X = X.take h' ++ x :: X.drop (h' + 1) := by rw [← drop_at hx, List.take_append_drop]
        rw [h2] at h1
        simpa using h1
      have hl1 : (P ++ X.take h').length = h := by rw [List.length_append, HA.out.1, List.length_take]; omega
      have hl2 : h + 1 + (X.drop (h' + 1)).length = m := by rw [List.length_drop]; omega
      obtain ⟨⟨c0, c1, c2, c3⟩, -, hp1, hq1⟩ := row_two hrow hl1 hl2
      obtain ⟨b1, o1, z1, e3, hbl, -⟩ := ar_at (ar_own hrow) hp1
      obtain ⟨rfl, rfl⟩ : b0 = b1 ∧ 0 = o1 := by injection e3 with e1; injection e1 with a b; exact ⟨a, b⟩
      obtain ⟨V, hV⟩ : ∃ V, cmpV y.t x.t = V := ⟨_, rfl⟩
      have HV := Lib.hid hV
      have HXX := Lib.hid hx
      have HH := Lib.hid (And.intro eh1 eh2)
      have ij : (I : Int) < (J : Int) := by have := HIJ.out; omega
      have s0 : (0 : Int) ≤ (I : Int) + (J : Int) := by omega
      have s1 : (I : Int) + (J : Int) ≤ 2002 := by omega
      have hz : (h : Int) < (N : Int) := by omega
      clear hrow hl1 hl2 e3 hh hh' hx hxl
      by_cases hyx : y.t < x.t
      · have hV0 : V < 0 := by rw [← hV]; unfold cmpV; rw [if_pos hyx]; omega
        have gV : decide (V < 0) = true := decide_eq_true hV0
        have HYX := Lib.hid hyx
        clear hV hyx eh1 eh2
        have hS0 : wr.drew.cell? ⟨b0, h * 2, none⟩ = some (.int .i64 x.t) ∧ wr.drew.cell? ⟨b0, h * 2 + 1, none⟩ = some (.int .i64 x.z) ∧ wr.drew.cell? ⟨b0, m * 2, none⟩ = some (.int .i64 y.t) ∧ wr.drew.cell? ⟨b0, m * 2 + 1, none⟩ = some (.int .i64 y.z) ∧ Below wr.heap.size wr wr.drew := ⟨c0, c1, c2, c3, (Below.refl _ _).drew⟩
        go_wp2_with fail
        refine wp_region_held_drew (S := fun w' => w'.cell? ⟨b0, h * 2, none⟩ = some (.int .i64 x.t) ∧ w'.cell? ⟨b0, h * 2 + 1, none⟩ = some (.int .i64 x.z) ∧ w'.cell? ⟨b0, m * 2, none⟩ = some (.int .i64 y.t) ∧ w'.cell? ⟨b0, m * 2 + 1, none⟩ = some (.int .i64 y.z) ∧ Below wr.heap.size wr w') (by kernel_rfl) hS0 (fun hH => ?_)
        refine wpAnyH_take (i := 0) (oi := { dst := some 92, op := Op.move (Operand.tmp 4), type := 39, pos := "zsortanyfunc.go:414", after := #[], guard := none }) (v := ?_) rfl (by kernel_rfl) (by kernel_rfl) (by kernel_rfl) (fun _ _ _ h => h) (Or.inl ⟨by rfl, ?_⟩) hS0 ?_
        rotate_left
        · (intro w9 hSw; (try dsimp only at hSw); go_simp; try with_reducible rfl)
        try simp only [Act.put, List.setIfInBounds_toArray, List.set_cons_zero, List.set_cons_succ]
        refine wpAnyH_take (i := 1) (oi := { dst := some 93, op := Op.move (Operand.tmp 0), type := 24, pos := "zsortanyfunc.go:414", after := #[], guard := none }) (v := ?_) rfl (by kernel_rfl) (by kernel_rfl) (by kernel_rfl) (fun _ _ _ h => h) (Or.inl ⟨by rfl, ?_⟩) hS0 ?_
        rotate_left
        · (intro w9 hSw; (try dsimp only at hSw); go_simp; try with_reducible rfl)
        try simp only [Act.put, List.setIfInBounds_toArray, List.set_cons_zero, List.set_cons_succ]
        refine wpAnyH_take (i := 2) (oi := { dst := some 94, op := Op.move (Operand.tmp 2), type := 3, pos := "zsortanyfunc.go:414", after := #[], guard := none }) (v := ?_) rfl (by kernel_rfl) (by kernel_rfl) (by kernel_rfl) (fun _ _ _ h => h) (Or.inl ⟨by rfl, ?_⟩) hS0 ?_
        rotate_left
        · (intro w9 hSw; (try dsimp only at hSw); go_simp; try with_reducible rfl)
        try simp only [Act.put, List.setIfInBounds_toArray, List.set_cons_zero, List.set_cons_succ]
        refine wpAnyH_take (i := 3) (oi := { dst := some 95, op := Op.indexAddr 24 (Operand.tmp 93) (Operand.tmp 94), type := 0, pos := "zsortanyfunc.go:414", after := #[{ on := 1, ground := Ground.data }, { on := 2, ground := Ground.data }], guard := none }) (v := ?_) rfl (by kernel_rfl) (by kernel_rfl) (by kernel_rfl) (fun _ _ _ h => h) (Or.inl ⟨by rfl, ?_⟩) hS0 ?_
        rotate_left
        · (intro w9 hSw; (try dsimp only at hSw); go_simp; try with_reducible rfl)
        try simp only [Act.put, List.setIfInBounds_toArray, List.set_cons_zero, List.set_cons_succ]
        refine wpAnyH_take (i := 4) (oi := { dst := some 96, op := Op.load 33 (Operand.tmp 95), type := 33, pos := "zsortanyfunc.go:414", after := #[{ on := 3, ground := Ground.data }], guard := none }) (v := ?_) rfl (by kernel_rfl) (by kernel_rfl) (by kernel_rfl) (fun _ _ _ h => h) (Or.inl ⟨by rfl, ?_⟩) hS0 ?_
        rotate_left
        · (intro w9 hSw; (try dsimp only at hSw); go_simp; try with_reducible rfl)
        try simp only [Act.put, List.setIfInBounds_toArray, List.set_cons_zero, List.set_cons_succ]
        refine wpAnyH_take (i := 5) (oi := { dst := some 97, op := Op.move (Operand.tmp 0), type := 24, pos := "zsortanyfunc.go:414", after := #[], guard := none }) (v := ?_) rfl (by kernel_rfl) (by kernel_rfl) (by kernel_rfl) (fun _ _ _ h => h) (Or.inl ⟨by rfl, ?_⟩) hS0 ?_
        rotate_left
        · (intro w9 hSw; (try dsimp only at hSw); go_simp; try with_reducible rfl)
        try simp only [Act.put, List.setIfInBounds_toArray, List.set_cons_zero, List.set_cons_succ]
        refine wpAnyH_take (i := 6) (oi := { dst := some 98, op := Op.move (Operand.tmp 16), type := 3, pos := "zsortanyfunc.go:414", after := #[], guard := none }) (v := ?_) rfl (by kernel_rfl) (by kernel_rfl) (by kernel_rfl) (fun _ _ _ h => h) (Or.inl ⟨by rfl, ?_⟩) hS0 ?_
        rotate_left
        · (intro w9 hSw; (try dsimp only at hSw); go_simp; try with_reducible rfl)
        try simp only [Act.put, List.setIfInBounds_toArray, List.set_cons_zero, List.set_cons_succ]
        refine wpAnyH_take (i := 7) (oi := { dst := some 99, op := Op.indexAddr 24 (Operand.tmp 97) (Operand.tmp 98), type := 0, pos := "zsortanyfunc.go:414", after := #[{ on := 5, ground := Ground.data }, { on := 6, ground := Ground.data }], guard := none }) (v := ?_) rfl (by kernel_rfl) (by kernel_rfl) (by kernel_rfl) (fun _ _ _ h => h) (Or.inl ⟨by rfl, ?_⟩) hS0 ?_
        rotate_left
        · (intro w9 hSw; (try dsimp only at hSw); go_simp; try with_reducible rfl)
        try simp only [Act.put, List.setIfInBounds_toArray, List.set_cons_zero, List.set_cons_succ]
        refine wpAnyH_take (i := 8) (oi := { dst := some 100, op := Op.load 33 (Operand.tmp 99), type := 33, pos := "zsortanyfunc.go:414", after := #[{ on := 7, ground := Ground.data }], guard := none }) (v := ?_) rfl (by kernel_rfl) (by kernel_rfl) (by kernel_rfl) (fun _ _ _ h => h) (Or.inl ⟨by rfl, ?_⟩) hS0 ?_
        rotate_left
        · (intro w9 hSw; (try dsimp only at hSw); go_simp; try with_reducible rfl)
        try simp only [Act.put, List.setIfInBounds_toArray, List.set_cons_zero, List.set_cons_succ]
        refine wpAnyH_ready (rs := [9]) (by kernel_rfl) (by simp) ?_
        refine AllReadyH.cons (o := { dst := some 101, op := Op.call { callee := Callee.value (Operand.tmp 92), args := #[Operand.tmp 96, Operand.tmp 100], argTypes := #[33, 33] }, type := 3, pos := "zsortanyfunc.go:414", after := #[{ on := 0, ground := Ground.data }, { on := 4, ground := Ground.data }, { on := 8, ground := Ground.data }], guard := none }) rfl (fun K hK => ?_) AllReadyH.nil
        go_simp
        go_at_call 16
        refine (cmpA_any y x V _ HV.out).mono ?_
        rintro e w3 ⟨rfl, hb3⟩
        have hS3 : w3.cell? ⟨b0, h * 2, none⟩ = some (.int .i64 x.t) ∧ w3.cell? ⟨b0, h * 2 + 1, none⟩ = some (.int .i64 x.z) ∧ w3.cell? ⟨b0, m * 2, none⟩ = some (.int .i64 y.t) ∧ w3.cell? ⟨b0, m * 2 + 1, none⟩ = some (.int .i64 y.z) ∧ Below wr.heap.size wr w3 := ⟨((bcell hb3).1 _ _ hbl).trans c0, ((bcell hb3).1 _ _ hbl).trans c1, ((bcell hb3).1 _ _ hbl).trans c2, ((bcell hb3).1 _ _ hbl).trans c3, below_seq hS0.2.2.2.2 hb3⟩
        have HS3 := Lib.hid hS3
        clear hb3
        refine hK.out _ _ hS3 (fun hH => ?_)
        clear hK K
        try simp only [Act.put, List.setIfInBounds_toArray, List.set_cons_zero, List.set_cons_succ]
        refine wpAnyH_take (i := 10) (oi := { dst := some 102, op := Op.binOp BinOp.lss 3 (Operand.tmp 101) (Operand.const (Value.int IntKind.i64 0)) 3, type := 4, pos := "zsortanyfunc.go:414", after := #[{ on := 9, ground := Ground.data }], guard := none }) (v := ?_) rfl (by kernel_rfl) (by kernel_rfl) (by kernel_rfl) (fun _ _ _ h => h) (Or.inl ⟨by rfl, ?_⟩) hS3 ?_
        rotate_left
        · (intro w9 hSw; (try dsimp only at hSw); go_simp; try with_reducible rfl)
        try simp only [Act.put, List.setIfInBounds_toArray, List.set_cons_zero, List.set_cons_succ]
        refine wpAnyH_take (i := 11) (oi := { dst := some 103, op := Op.unOp UnOp.not 4 (Operand.tmp 102), type := 4, pos := "zsortanyfunc.go:414", after := #[{ on := 10, ground := Ground.data }], guard := none }) (v := ?_) rfl (by kernel_rfl) (by kernel_rfl) (by kernel_rfl) (fun _ _ _ h => h) (Or.inl ⟨by rfl, ?_⟩) hS3 ?_
        rotate_left
        · (intro w9 hSw; (try dsimp only at hSw); go_simp; try with_reducible rfl)
        try simp only [Act.put, List.setIfInBounds_toArray, List.set_cons_zero, List.set_cons_succ]
        refine wpAnyH_done (by kernel_rfl) ?_ _
        go_wp2
        go_roundw
        case rel =>
          obtain ⟨q1, q2, q3⟩ := HH.out
          refine ⟨I, h, i, h', rfl, rfl, Lib.hid ⟨HIJ.out.1, q1⟩, by omega, by omega, HLO.out, fun t z hz ht => ?_, own_below HO.out HS3.out.2.2.2.2, g_below HG.out HS3.out.2.2.2.2⟩
          have := av_pair SX.out HXX.out hz ht
          have := HYX.out
          omega
        case measure => (have := HH.out); (have := HIJ.out); simp [intOf]; omega
      · have hV0 : 0 ≤ V := by rw [← hV]; unfold cmpV; rw [if_neg hyx]; split <;> omega
        have gV : decide (V < 0) = false := decide_eq_false (by omega)
        have HYX := Lib.hid hyx
        clear hV hyx eh1 eh2
        have hS0 : wr.drew.cell? ⟨b0, h * 2, none⟩ = some (.int .i64 x.t) ∧ wr.drew.cell? ⟨b0, h * 2 + 1, none⟩ = some (.int .i64 x.z) ∧ wr.drew.cell? ⟨b0, m * 2, none⟩ = some (.int .i64 y.t) ∧ wr.drew.cell? ⟨b0, m * 2 + 1, none⟩ = some (.int .i64 y.z) ∧ Below wr.heap.size wr wr.drew := ⟨c0, c1, c2, c3, (Below.refl _ _).drew⟩
        go_wp2_with fail
        refine wp_region_held_drew (S := fun w' => w'.cell? ⟨b0, h * 2, none⟩ = some (.int .i64 x.t) ∧ w'.cell? ⟨b0, h * 2 + 1, none⟩ = some (.int .i64 x.z) ∧ w'.cell? ⟨b0, m * 2, none⟩ = some (.int .i64 y.t) ∧ w'.cell? ⟨b0, m * 2 + 1, none⟩ = some (.int .i64 y.z) ∧ Below wr.heap.size wr w') (by kernel_rfl) hS0 (fun hH => ?_)
        refine wpAnyH_take (i := 0) (oi := { dst := some 92, op := Op.move (Operand.tmp 4), type := 39, pos := "zsortanyfunc.go:414", after := #[], guard := none }) (v := ?_) rfl (by kernel_rfl) (by kernel_rfl) (by kernel_rfl) (fun _ _ _ h => h) (Or.inl ⟨by rfl, ?_⟩) hS0 ?_
        rotate_left
        · (intro w9 hSw; (try dsimp only at hSw); go_simp; try with_reducible rfl)
        try simp only [Act.put, List.setIfInBounds_toArray, List.set_cons_zero, List.set_cons_succ]
        refine wpAnyH_take (i := 1) (oi := { dst := some 93, op := Op.move (Operand.tmp 0), type := 24, pos := "zsortanyfunc.go:414", after := #[], guard := none }) (v := ?_) rfl (by kernel_rfl) (by kernel_rfl) (by kernel_rfl) (fun _ _ _ h => h) (Or.inl ⟨by rfl, ?_⟩) hS0 ?_
        rotate_left
        · (intro w9 hSw; (try dsimp only at hSw); go_simp; try with_reducible rfl)
        try simp only [Act.put, List.setIfInBounds_toArray, List.set_cons_zero, List.set_cons_succ]
        refine wpAnyH_take (i := 2) (oi := { dst := some 94, op := Op.move (Operand.tmp 2), type := 3, pos := "zsortanyfunc.go:414", after := #[], guard := none }) (v := ?_) rfl (by kernel_rfl) (by kernel_rfl) (by kernel_rfl) (fun _ _ _ h => h) (Or.inl ⟨by rfl, ?_⟩) hS0 ?_
        rotate_left
        · (intro w9 hSw; (try dsimp only at hSw); go_simp; try with_reducible rfl)
        try simp only [Act.put, List.setIfInBounds_toArray, List.set_cons_zero, List.set_cons_succ]
        refine wpAnyH_take (i := 3) (oi := { dst := some 95, op := Op.indexAddr 24 (Operand.tmp 93) (Operand.tmp 94), type := 0, pos := "zsortanyfunc.go:414", after := #[{ on := 1, ground := Ground.data }, { on := 2, ground := Ground.data }], guard := none }) (v := ?_) rfl (by kernel_rfl) (by kernel_rfl) (by kernel_rfl) (fun _ _ _ h => h) (Or.inl ⟨by rfl, ?_⟩) hS0 ?_
        rotate_left
        · (intro w9 hSw; (try dsimp only at hSw); go_simp; try with_reducible rfl)
        try simp only [Act.put, List.setIfInBounds_toArray, List.set_cons_zero, List.set_cons_succ]
        refine wpAnyH_take (i := 4) (oi := { dst := some 96, op := Op.load 33 (Operand.tmp 95), type := 33, pos := "zsortanyfunc.go:414", after := #[{ on := 3, ground := Ground.data }], guard := none }) (v := ?_) rfl (by kernel_rfl) (by kernel_rfl) (by kernel_rfl) (fun _ _ _ h => h) (Or.inl ⟨by rfl, ?_⟩) hS0 ?_
        rotate_left
        · (intro w9 hSw; (try dsimp only at hSw); go_simp; try with_reducible rfl)
        try simp only [Act.put, List.setIfInBounds_toArray, List.set_cons_zero, List.set_cons_succ]
        refine wpAnyH_take (i := 5) (oi := { dst := some 97, op := Op.move (Operand.tmp 0), type := 24, pos := "zsortanyfunc.go:414", after := #[], guard := none }) (v := ?_) rfl (by kernel_rfl) (by kernel_rfl) (by kernel_rfl) (fun _ _ _ h => h) (Or.inl ⟨by rfl, ?_⟩) hS0 ?_
        rotate_left
        · (intro w9 hSw; (try dsimp only at hSw); go_simp; try with_reducible rfl)
        try simp only [Act.put, List.setIfInBounds_toArray, List.set_cons_zero, List.set_cons_succ]
        refine wpAnyH_take (i := 6) (oi := { dst := some 98, op := Op.move (Operand.tmp 16), type := 3, pos := "zsortanyfunc.go:414", after := #[], guard := none }) (v := ?_) rfl (by kernel_rfl) (by kernel_rfl) (by kernel_rfl) (fun _ _ _ h => h) (Or.inl ⟨by rfl, ?_⟩) hS0 ?_
        rotate_left
        · (intro w9 hSw; (try dsimp only at hSw); go_simp; try with_reducible rfl)
        try simp only [Act.put, List.setIfInBounds_toArray, List.set_cons_zero, List.set_cons_succ]
        refine wpAnyH_take (i := 7) (oi := { dst := some 99, op := Op.indexAddr 24 (Operand.tmp 97) (Operand.tmp 98), type := 0, pos := "zsortanyfunc.go:414", after := #[{ on := 5, ground := Ground.data }, { on := 6, ground := Ground.data }], guard := none }) (v := ?_) rfl (by kernel_rfl) (by kernel_rfl) (by kernel_rfl) (fun _ _ _ h => h) (Or.inl ⟨by rfl, ?_⟩) hS0 ?_
        rotate_left
        · (intro w9 hSw; (try dsimp only at hSw); go_simp; try with_reducible rfl)
        try simp only [Act.put, List.setIfInBounds_toArray, List.set_cons_zero, List.set_cons_succ]
        refine wpAnyH_take (i := 8) (oi := { dst := some 100, op := Op.load 33 (Operand.tmp 99), type := 33, pos := "zsortanyfunc.go:414", after := #[{ on := 7, ground := Ground.data }], guard := none }) (v := ?_) rfl (by kernel_rfl) (by kernel_rfl) (by kernel_rfl) (fun _ _ _ h => h) (Or.inl ⟨by rfl, ?_⟩) hS0 ?_
        rotate_left
        · (intro w9 hSw; (try dsimp only at hSw); go_simp; try with_reducible rfl)
        try simp only [Act.put, List.setIfInBounds_toArray, List.set_cons_zero, List.set_cons_succ]
        refine wpAnyH_ready (rs := [9]) (by kernel_rfl) (by simp) ?_
        refine AllReadyH.cons (o := { dst := some 101, op := Op.call { callee := Callee.value (Operand.tmp 92), args := #[Operand.tmp 96, Operand.tmp 100], argTypes := #[33, 33] }, type := 3, pos := "zsortanyfunc.go:414", after := #[{ on := 0, ground := Ground.data }, { on := 4, ground := Ground.data }, { on := 8, ground := Ground.data }], guard := none }) rfl (fun K hK => ?_) AllReadyH.nil
        go_simp
        go_at_call 16
        refine (cmpA_any y x V _ HV.out).mono ?_
        rintro e w3 ⟨rfl, hb3⟩
        have hS3 : w3.cell? ⟨b0, h * 2, none⟩ = some (.int .i64 x.t) ∧ w3.cell? ⟨b0, h * 2 + 1, none⟩ = some (.int .i64 x.z) ∧ w3.cell? ⟨b0, m * 2, none⟩ = some (.int .i64 y.t) ∧ w3.cell? ⟨b0, m * 2 + 1, none⟩ = some (.int .i64 y.z) ∧ Below wr.heap.size wr w3 := ⟨((bcell hb3).1 _ _ hbl).trans c0, ((bcell hb3).1 _ _ hbl).trans c1, ((bcell hb3).1 _ _ hbl).trans c2, ((bcell hb3).1 _ _ hbl).trans c3, below_seq hS0.2.2.2.2 hb3⟩
        have HS3 := Lib.hid hS3
        clear hb3
        refine hK.out _ _ hS3 (fun hH => ?_)
        clear hK K
        try simp only [Act.put, List.setIfInBounds_toArray, List.set_cons_zero, List.set_cons_succ]
        refine wpAnyH_take (i := 10) (oi := { dst := some 102, op := Op.binOp BinOp.lss 3 (Operand.tmp 101) (Operand.const (Value.int IntKind.i64 0)) 3, type := 4, pos := "zsortanyfunc.go:414", after := #[{ on := 9, ground := Ground.data }], guard := none }) (v := ?_) rfl (by kernel_rfl) (by kernel_rfl) (by kernel_rfl) (fun _ _ _ h => h) (Or.inl ⟨by rfl, ?_⟩) hS3 ?_
        rotate_left
        · (intro w9 hSw; (try dsimp only at hSw); go_simp; try with_reducible rfl)
        try simp only [Act.put, List.setIfInBounds_toArray, List.set_cons_zero, List.set_cons_succ]
        refine wpAnyH_take (i := 11) (oi := { dst := some 103, op := Op.unOp UnOp.not 4 (Operand.tmp 102), type := 4, pos := "zsortanyfunc.go:414", after := #[{ on := 10, ground := Ground.data }], guard := none }) (v := ?_) rfl (by kernel_rfl) (by kernel_rfl) (by kernel_rfl) (fun _ _ _ h => h) (Or.inl ⟨by rfl, ?_⟩) hS3 ?_
        rotate_left
        · (intro w9 hSw; (try dsimp only at hSw); go_simp; try with_reducible rfl)
        try simp only [Act.put, List.setIfInBounds_toArray, List.set_cons_zero, List.set_cons_succ]
        refine wpAnyH_done (by kernel_rfl) ?_ _
        go_wp2
        go_roundw
        case rel =>
          obtain ⟨q1, q2, q3⟩ := HH.out
          refine ⟨h + 1, J, h' + 1, j, by go_num, rfl, Lib.hid ⟨by omega, HIJ.out.2⟩, by omega, hjl, fun t z hz ht => ?_, HHI.out, own_below HO.out HS3.out.2.2.2.2, g_below HG.out HS3.out.2.2.2.2⟩
          have := av_pair SX.out hz HXX.out (by omega)
          have := HYX.out
          omega
        case measure => (have := HH.out); (have := HIJ.out); simp [intOf]; omega
    · obtain rfl : i = j := by omega
      obtain rfl : I = J := by have := HIJ.out; omega
      obtain ⟨X1, hX1⟩ : ∃ X1, X1 = X.take i := ⟨_, rfl⟩
      obtain ⟨X2, hX2⟩ : ∃ X2, X2 = X.drop i := ⟨_, rfl⟩
      have hx12 : X = X1 ++ X2 := by rw [hX1, hX2, List.take_append_drop]
      have hl1 : X1.length = i := by rw [hX1, List.length_take]; omega
      have hl2 : I + X2.length = m := by rw [hX2, List.length_drop]; have := HIJ.out; omega
      have R1 : Sy4 w base b0 N c I P X1 X2 Q y (.int .i64 (m : Int)) wr := ⟨m, X2.length, rfl, Lib.hid hl2.symm, Nat.le_refl _, by have := HO.out; rw [hx12] at this; simpa using this, HG.out⟩
      have HR1 := Lib.hid R1
      have HRES := Lib.hid (show finA X [y] = X1 ++ y :: X2 by
        show insA y X = _
        rw [hx12]
        refine insA_at (fun z hz => ?_) (fun z hz => ?_)
        · obtain ⟨t, ht⟩ := List.mem_iff_getElem?.1 hz
          obtain ⟨h5, -⟩ := List.getElem?_eq_some_iff.1 ht
          exact HLO.out t z (by rw [hx12, List.getElem?_append_left h5]; exact ht) (by omega)
        · obtain ⟨t, ht⟩ := List.mem_iff_getElem?.1 hz
          exact HHI.out (i + t) z (by rw [hx12, List.getElem?_append_right (by omega), show i + t - X1.length = t by omega]; exact ht) (by omega))
      have HL1 := Lib.hid (And.intro hl1 hl2)
      clear R1 hX1 hX2 hx12 hl1 hl2 hlt hij hjl hxl
      go_wp2
      go_loopw [17] (fun kv wr => Sy4 w base b0 N c I P X1 X2 Q y kv wr) (fun kv _ => (intOf kv).toNat)
      case atStart => exact HR1.out
      case round =>
        obtain ⟨K, k, rfl, HK, hk, ho, hg⟩ := hrel
        clear HR1
        rcases k with _ | k
        · obtain rfl : K = I := HK.out
          have HO2 := Lib.hid (show RowA wr base b0 N c (P ++ finA X [y] ++ Q) by
            rw [HRES.out]
            simpa using ho)
          have HG2 := Lib.hid hg
          clear ho hg
          go_wp2
          (try simp only [Exit.inBlock, Exit.then])
          refine bodyPost_ret (results_none rfl _ _ _) rfl ⟨rfl, by first | exact HO2.out | (have := HO2.out; simpa using this), HG2.out⟩
        · obtain ⟨x, hx⟩ : ∃ x, X2[k]? = some x := ⟨_, List.getElem?_eq_getElem (show k < X2.length by omega)⟩
          obtain ⟨u, hu⟩ : ∃ u, u = I + k := ⟨_, rfl⟩
          obtain rfl : K = u + 1 := by have := HK.out; omega
          have hl3 : (P ++ X1 ++ X2.take k).length = u := by
            have h5 := HL1.out.1
            have h6 := HIJ.out.1
            rw [List.length_append, List.length_append, HA.out.1, List.length_take, h5]
            omega
          have ho' : RowA wr base b0 N c ((P ++ X1 ++ X2.take k) ++ x :: ([] ++ y :: (X2.drop (k + 1) ++ Q))) := by
            rw [take_snoc _ _ _ hx] at ho
            simpa using ho
          have hl4 : u + 1 + ([] : List Arr).length = u + 1 := rfl
          obtain ⟨⟨c0, c1, c2, c3⟩, ⟨f0, f1, f2, f3⟩, hp1, hq1⟩ := row_two ho' hl3 hl4
          have hsw := own_set_arr (own_set_arr ho' (u + 1) x) u y
          rw [show (((P ++ X1 ++ X2.take k) ++ x :: ([] ++ y :: (X2.drop (k + 1) ++ Q))).set (u + 1) x).set u y = (P ++ X1 ++ X2.take k) ++ y :: ([] ++ x :: (X2.drop (k + 1) ++ Q)) by
            rw [← hl3]; exact swap_mid] at hsw
          have HS := Lib.hid (World.ownsRow.drew hsw)
          have HG := Lib.hid (g_drew (g_swap (a1 := (u + 1) * 2) (a2 := (u + 1) * 2 + 1) (a3 := u * 2) (a4 := u * 2 + 1) (u1 := .int .i64 x.t) (u2 := .int .i64 x.z) (u3 := .int .i64 y.t) (u4 := .int .i64 y.z) hg))
          have HXX := Lib.hid (And.intro hx hu)
          have kz : (I : Int) < (u : Int) + 1 := by omega
          have uz : (u : Int) < (N : Int) := by omega
          have uz2 : (u : Int) + 1 < (N : Int) := by omega
          have uz3 : (0 : Int) ≤ (u : Int) + 1 := by omega
          have uz4 : IntKind.i64.wrap (u : Int) = (u : Int) := IntWalk.i64_in _ (by omega)
          clear ho ho' hsw hg hl3 hl4 hx hu
          go_wp2_with fail
          go_region
          go_wp2
          go_roundw
          case rel =>
            refine ⟨u, k, rfl, Lib.hid HXX.out.2, by omega, ?_, HG.out⟩
            have h7 := HS.out
            rw [drop_at HXX.out.1]
            simpa using h7
          case measure => simp [intOf]
end Go.Proofs.Ytaccbmgbkalknab
