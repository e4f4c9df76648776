/-
  Chapter 10: the library's merging in place: the cut in two halves. Conditions: both runs are valid, the row is owned; shorter rows are merged as the contract says.
-/
import Derived.Test.YtaccbmgbkalknabEv
import Derived.Deep.Cut
import Derived.Deep.CutRange
namespace Go.Proofs.Ytaccbmgbkalknab
open Go.RowKit

/-- merging rows of at most k -/
def SymOk (k : Nat) : Prop :=
  ∀ (base b0 N c a m bb : Nat) (P X Y Q : List Arr) (w : World), RowA w base b0 N c (P ++ X ++ Y ++ Q) → N ≤ 1000 → P.length = a → a + X.length = m → m + Y.length = bb → a < m → m < bb → bb - a ≤ k → avL 0 X = true → avL 0 Y = true →
    Calls Try.prog 24 #[.slice (some ⟨b0, 0, none⟩) N c, .int .i64 (a : Int), .int .i64 (m : Int), .int .i64 (bb : Int), .func (.func 16) #[] #[]] w fun e w' =>
      e = .returned (.tuple #[]) ∧ RowA w' base b0 N c (P ++ finA X Y ++ Q) ∧ w.grownBy w' (some b0)
def Sy5 (w : World) (base b0 N c a m n s0 r0 : Nat) (l X Y : List Arr) (iv jv : Value) (wr : World) : Prop :=
  ∃ (s r : Nat), iv = .int .i64 (s : Int) ∧ jv = .int .i64 (r : Int) ∧ s0 ≤ s ∧ s ≤ r ∧ r ≤ r0 ∧ Hid (s = s0 ∨ ∃ x y, X[s - 1 - a]? = some x ∧ Y[n - s - m]? = some y ∧ x.t ≤ y.t) ∧ Hid (r = r0 ∨ ∃ x y, X[r - a]? = some x ∧ Y[n - 1 - r - m]? = some y ∧ y.t < x.t) ∧ RowA wr base b0 N c l ∧ w.grownBy wr (some b0)
theorem av_dropW {l : List Arr} (h : avL 0 l = true) (k : Nat) : avL 0 (l.drop k) = true := by
  induction k generalizing l with
  | zero => exact h
  | succ k ih =>
    rcases l with _ | ⟨x, r⟩
    · exact h
    · have h1 := av_cons.1 h
      have h2 : ∀ (lo : Int) (q : List Arr), avL lo q = true → 0 ≤ lo → avL 0 q = true := fun lo q hq h0 => by
        rcases q with _ | ⟨y, t⟩
        · rfl
        · have h3 := av_cons.1 hq
          exact av_cons.2 ⟨by omega, h3.2⟩
      exact ih (h2 x.t r h1.2.2.2.2 h1.1)
theorem av_takeW {lo : Int} {l : List Arr} (h : avL lo l = true) (k : Nat) : avL lo (l.take k) = true := by
  induction k generalizing l lo with
  | zero => rfl
  | succ k ih =>
    rcases l with _ | ⟨x, r⟩
    · exact h
    · have h1 := av_cons.1 h
      exact av_cons.2 ⟨h1.1, h1.2.1, h1.2.2.1, h1.2.2.2.1, ih h1.2.2.2.2⟩
/-- the cut's two halves -/
theorem cut_of {a m bb n s s0 r0 mid : Nat} {X Y : List Arr} (hX : a + X.length = m) (hY : m + Y.length = bb) (hn : n = mid + m) (sx : avL 0 X = true) (sy : avL 0 Y = true) (b1 : a ≤ s0) (b2 : s0 ≤ s) (b3 : s ≤ r0) (b5 : r0 ≤ mid) (c1 : s0 = a ∨ n = s0 + bb) (c2 : r0 = m ∨ r0 = mid)
    (g1 : s = s0 ∨ ∃ x y, X[s - 1 - a]? = some x ∧ Y[n - s - m]? = some y ∧ x.t ≤ y.t) (g2 : s = r0 ∨ ∃ x y, X[s - a]? = some x ∧ Y[n - 1 - s - m]? = some y ∧ y.t < x.t) :
    finA X Y = finA (X.take (s - a)) (Y.take (mid - s)) ++ finA (X.drop (s - a)) (Y.drop (mid - s)) := by
  have e1 : n - s - m = mid - s := by omega
  have hs := finA_split (X1 := X.take (s - a)) (X2 := X.drop (s - a)) (Y1 := Y.take (mid - s)) (Y2 := Y.drop (mid - s)) ?_ ?_ ?_
  · rwa [List.take_append_drop, List.take_append_drop] at hs
  · intro x hx y hy
    obtain ⟨i, hi⟩ := List.mem_iff_getElem?.1 hx
    obtain ⟨j, hj⟩ := List.mem_iff_getElem?.1 hy
    rw [List.getElem?_take] at hi
    split at hi
    · rename_i hlt
      rw [List.getElem?_drop] at hj
      rcases g1 with e | ⟨x', y', h1, h2, h3⟩
      · exfalso
        obtain ⟨h4, -⟩ := List.getElem?_eq_some_iff.1 hj
        rcases c1 with e2 | e2 <;> omega
      · rw [e1] at h2
        have h4 := av_pair sx hi h1 (by omega)
        have h5 := av_pair sy h2 hj (by omega)
        omega
    · cases hi
  · intro y hy x hx
    obtain ⟨j, hj⟩ := List.mem_iff_getElem?.1 hy
    obtain ⟨i, hi⟩ := List.mem_iff_getElem?.1 hx
    rw [List.getElem?_take] at hj
    split at hj
    · rename_i hlt
      rw [List.getElem?_drop] at hi
      rcases g2 with e | ⟨x', y', h1, h2, h3⟩
      · exfalso
        obtain ⟨h4, -⟩ := List.getElem?_eq_some_iff.1 hi
        rcases c2 with e2 | e2 <;> omega
      · have h4 := av_pair sx h1 hi (by omega)
        have h5 := av_pair sy hj h2 (by omega)
        omega
    · cases hj
  · intro y hy z hz
    obtain ⟨i, hi⟩ := List.mem_iff_getElem?.1 hy
    obtain ⟨j, hj⟩ := List.mem_iff_getElem?.1 hz
    rw [List.getElem?_take] at hi
    split at hi
    · rw [List.getElem?_drop] at hj
      exact av_pair sy hi hj (by omega)
    · cases hi
set_option maxRecDepth 8000 in
set_option maxHeartbeats 4000000 in
theorem sy_cutA (k : Nat) (IH : SymOk k) (base b0 N c a m bb mid n : Nat) (P X Y Q : List Arr) (w : World) (ho : RowA w base b0 N c (P ++ X ++ Y ++ Q)) (hN : N ≤ 1000) (ha : P.length = a) (hX : a + X.length = m) (hY : m + Y.length = bb) (h1 : a + 2 ≤ m) (h2 : m + 2 ≤ bb) (hk : bb - a ≤ k + 1) (sx : avL 0 X = true) (sy : avL 0 Y = true)
    (hmid : mid = (a + bb) / 2) (hn : n = mid + m) (hbr : mid < m) (s0 : Nat) (hs0' : s0 + bb = n) :
    Calls Try.prog 24 #[.slice (some ⟨b0, 0, none⟩) N c, .int .i64 (a : Int), .int .i64 (m : Int), .int .i64 (bb : Int), .func (.func 16) #[] #[]] w fun e w' =>
      e = .returned (.tuple #[]) ∧ RowA w' base b0 N c (P ++ finA X Y ++ Q) ∧ w.grownBy w' (some b0) := by
  have hlen := (ar_own ho).1
  have hbn : bb ≤ N := by simp at hlen; omega
  obtain ⟨d1, hd1⟩ : ∃ d1, d1 = m - a := ⟨_, rfl⟩
  obtain ⟨d2, hd2⟩ : ∃ d2, d2 = bb - m := ⟨_, rfl⟩
  obtain ⟨p, hp⟩ : ∃ p, p = n - 1 := ⟨_, rfl⟩
  have k0 : (m : Int) - (a : Int) = (d1 : Int) := by omega
  have k1 : ((d1 : Int) == 1) = false := by simp; omega
  have k2 : (bb : Int) - (m : Int) = (d2 : Int) := by omega
  have k3 : ((d2 : Int) == 1) = false := by simp; omega
  have k4 : ((a : Int) + (bb : Int)) / 2 = (mid : Int) := by omega
  have k5 : (mid : Int) + (m : Int) = (n : Int) := by omega
  have k6 : (n : Int) - 1 = (p : Int) := by omega
  have k7 : (0 : Int) ≤ (a : Int) + (bb : Int) := by omega
  have k8 : (a : Int) + (bb : Int) ≤ 2002 := by omega
  have k9 : n ≤ 2000 := by omega
  have hs0 : s0 + bb = n := hs0'
  have f1 : (mid : Int) < (m : Int) := by omega
  have f2 : (n : Int) - (bb : Int) = (s0 : Int) := by omega
  have hb : a ≤ s0 ∧ s0 ≤ mid ∧ mid ≤ m ∧ mid ≤ mid ∧ n ≤ s0 + bb := by omega
  have SXY := Lib.hid (And.intro sx sy)
  have HA := Lib.hid (And.intro ha (And.intro hX hY))
  have HM := Lib.hid (And.intro hmid (And.intro hn hp))
  have R0 : Sy5 w base b0 N c a m n s0 mid (P ++ X ++ Y ++ Q) X Y (.int .i64 (s0 : Int)) (.int .i64 (mid : Int)) w := ⟨s0, mid, rfl, rfl, Nat.le_refl _, hb.2.1, Nat.le_refl _, Lib.hid (.inl rfl), Lib.hid (.inl rfl), ho, g_refl _ _⟩
  have HR0 := Lib.hid R0
  have HB := Lib.hid hb
  have HBR := Lib.hid (And.intro hbr (And.intro hk (And.intro hd1 hd2)))
  clear R0 ho hlen sx sy hmid hn hp hd1 hd2 hb hk
  go_enter Try.func24, Try.ntmps24
  go_wp2
  go_loopw [20, 21] (fun iv jv wr => Sy5 w base b0 N c a m n s0 mid (P ++ X ++ Y ++ Q) X Y iv jv wr) (fun iv jv _ => (intOf jv).toNat - (intOf iv).toNat)
  case atStart => exact HR0.out
  case round =>
    obtain ⟨s, r, rfl, rfl, hs, hsr, hr, G1, G2, ho, hg⟩ := hrel
    have HO := Lib.hid ho
    have HG := Lib.hid hg
    have hrm : r ≤ 1000 ∧ s ≤ 1000 := by have := HB.out; have := HBR.out.1; omega
    clear HR0 ho hg
    by_cases hlt : s < r
    · obtain ⟨h, hh⟩ : ∃ h, h = (s + r) / 2 := ⟨_, rfl⟩
      obtain ⟨q, hq⟩ : ∃ q, q = p - h := ⟨_, rfl⟩
      have eh : ((s : Int) + (r : Int)) / 2 = (h : Int) := by omega
      have ebd : a ≤ h ∧ h < m ∧ m ≤ q ∧ q < bb ∧ s ≤ h ∧ h < r ∧ q + h = p := by
        have := HB.out
        have := HM.out
        omega
      have eq : (p : Int) - (h : Int) = (q : Int) := by omega
      obtain ⟨x, hx⟩ : ∃ x, X[h - a]? = some x := ⟨_, List.getElem?_eq_getElem (show h - a < X.length by omega)⟩
      obtain ⟨y, hy⟩ : ∃ y, Y[q - m]? = some y := ⟨_, List.getElem?_eq_getElem (show q - m < Y.length by omega)⟩
      have hrow : RowA wr base b0 N c ((P ++ X.take (h - a)) ++ x :: ((X.drop (h - a + 1) ++ Y.take (q - m)) ++ y :: (Y.drop (q - m + 1) ++ Q))) := by
        have h3 := HO.out
        have h4 : X = X.take (h - a) ++ x :: X.drop (h - a + 1) := by rw [← drop_at hx, List.take_append_drop]
        have h5 : Y = Y.take (q - m) ++ y :: Y.drop (q - m + 1) := by rw [← drop_at hy, List.take_append_drop]
        rw [h4, h5] at h3
        simpa using h3
      have hl1 : (P ++ X.take (h - a)).length = h := by rw [List.length_append, ha, List.length_take]; omega
      have hl2 : h + 1 + (X.drop (h - a + 1) ++ Y.take (q - m)).length = q := by rw [List.length_append, List.length_drop, List.length_take]; omega
      obtain ⟨⟨c0, c1, c2, c3⟩, -, hp1, hq1⟩ := row_two hrow hl1 hl2
      obtain ⟨b1, o1, z1, e3, hbl, -⟩ := ar_at (ar_own hrow) hp1
      obtain ⟨rfl, rfl⟩ : b0 = b1 ∧ 0 = o1 := by injection e3 with e1; injection e1 with a b; exact ⟨a, b⟩
      obtain ⟨V, hV⟩ : ∃ V, cmpV y.t x.t = V := ⟨_, rfl⟩
      have HV := Lib.hid hV
      have HXY := Lib.hid (And.intro hx hy)
      have HE := Lib.hid ebd
      have ij : (s : Int) < (r : Int) := by omega
      have s1 : (0 : Int) ≤ (s : Int) + (r : Int) := by omega
      have s2 : (s : Int) + (r : Int) ≤ 2002 := by omega
      have hz : (h : Int) < (N : Int) := by omega
      have qz : (q : Int) < (N : Int) := by omega
      have qm : q ≤ 1000 := by omega
      have hm : h ≤ 1000 := by omega
      have pm : p ≤ 2000 := by omega
      have qw : IntKind.i64.wrap (q : Int) = (q : Int) := IntWalk.i64_in _ (by omega)
      clear hrow hl1 hl2 e3 hh hq hx hy ebd
      by_cases hyx : y.t < x.t
      · have hV0 : V < 0 := by rw [← hV]; unfold cmpV; rw [if_pos hyx]; omega
        have gV : decide (V < 0) = true := decide_eq_true hV0
        have HYX := Lib.hid hyx
        clear hV hyx
        have hS0 : wr.drew.cell? ⟨b0, h * 2, none⟩ = some (.int .i64 x.t) ∧ wr.drew.cell? ⟨b0, h * 2 + 1, none⟩ = some (.int .i64 x.z) ∧ wr.drew.cell? ⟨b0, q * 2, none⟩ = some (.int .i64 y.t) ∧ wr.drew.cell? ⟨b0, q * 2 + 1, none⟩ = some (.int .i64 y.z) ∧ Below wr.heap.size wr wr.drew := ⟨c0, c1, c2, c3, (Below.refl _ _).drew⟩
        go_wp2_with fail
        refine wp_region_held_drew (S := fun w' => w'.cell? ⟨b0, h * 2, none⟩ = some (.int .i64 x.t) ∧ w'.cell? ⟨b0, h * 2 + 1, none⟩ = some (.int .i64 x.z) ∧ w'.cell? ⟨b0, q * 2, none⟩ = some (.int .i64 y.t) ∧ w'.cell? ⟨b0, q * 2 + 1, none⟩ = some (.int .i64 y.z) ∧ Below wr.heap.size wr w') (by kernel_rfl) hS0 (fun hH => ?_)
        refine wpAnyH_take (i := 0) (oi := { dst := some 158, op := Op.move (Operand.tmp 4), type := 39, pos := "zsortanyfunc.go:441", after := #[], guard := none }) (v := ?_) rfl (by kernel_rfl) (by kernel_rfl) (by kernel_rfl) (fun _ _ _ h => h) (Or.inl ⟨by rfl, ?_⟩) hS0 ?_
        rotate_left
        · (intro w9 hSw; (try dsimp only at hSw); go_simp; try with_reducible rfl)
        try simp only [Act.put, List.setIfInBounds_toArray, List.set_cons_zero, List.set_cons_succ]
        refine wpAnyH_take (i := 1) (oi := { dst := some 159, op := Op.move (Operand.tmp 0), type := 24, pos := "zsortanyfunc.go:441", after := #[], guard := none }) (v := ?_) rfl (by kernel_rfl) (by kernel_rfl) (by kernel_rfl) (fun _ _ _ h => h) (Or.inl ⟨by rfl, ?_⟩) hS0 ?_
        rotate_left
        · (intro w9 hSw; (try dsimp only at hSw); go_simp; try with_reducible rfl)
        try simp only [Act.put, List.setIfInBounds_toArray, List.set_cons_zero, List.set_cons_succ]
        refine wpAnyH_take (i := 2) (oi := { dst := some 160, op := Op.move (Operand.tmp 22), type := 3, pos := "zsortanyfunc.go:441", after := #[], guard := none }) (v := ?_) rfl (by kernel_rfl) (by kernel_rfl) (by kernel_rfl) (fun _ _ _ h => h) (Or.inl ⟨by rfl, ?_⟩) hS0 ?_
        rotate_left
        · (intro w9 hSw; (try dsimp only at hSw); go_simp; try with_reducible rfl)
        try simp only [Act.put, List.setIfInBounds_toArray, List.set_cons_zero, List.set_cons_succ]
        refine wpAnyH_take (i := 3) (oi := { dst := some 161, op := Op.move (Operand.tmp 23), type := 3, pos := "zsortanyfunc.go:441", after := #[], guard := none }) (v := ?_) rfl (by kernel_rfl) (by kernel_rfl) (by kernel_rfl) (fun _ _ _ h => h) (Or.inl ⟨by rfl, ?_⟩) hS0 ?_
        rotate_left
        · (intro w9 hSw; (try dsimp only at hSw); go_simp; try with_reducible rfl)
        try simp only [Act.put, List.setIfInBounds_toArray, List.set_cons_zero, List.set_cons_succ]
        refine wpAnyH_take (i := 4) (oi := { dst := some 162, op := Op.binOp BinOp.sub 3 (Operand.tmp 160) (Operand.tmp 161) 3, type := 3, pos := "zsortanyfunc.go:441", after := #[{ on := 2, ground := Ground.data }, { on := 3, ground := Ground.data }], guard := none }) (v := ?_) rfl (by kernel_rfl) (by kernel_rfl) (by kernel_rfl) (fun _ _ _ h => h) (Or.inl ⟨by rfl, ?_⟩) hS0 ?_
        rotate_left
        · (intro w9 hSw; (try dsimp only at hSw); go_simp; try with_reducible rfl)
        try simp only [Act.put, List.setIfInBounds_toArray, List.set_cons_zero, List.set_cons_succ]
        refine wpAnyH_take (i := 5) (oi := { dst := some 163, op := Op.indexAddr 24 (Operand.tmp 159) (Operand.tmp 162), type := 0, pos := "zsortanyfunc.go:441", after := #[{ on := 1, ground := Ground.data }, { on := 4, ground := Ground.data }], guard := none }) (v := ?_) rfl (by kernel_rfl) (by kernel_rfl) (by kernel_rfl) (fun _ _ _ h => h) (Or.inl ⟨by rfl, ?_⟩) hS0 ?_
        rotate_left
        · (intro w9 hSw; (try dsimp only at hSw); go_simp; try with_reducible rfl)
        try simp only [Act.put, List.setIfInBounds_toArray, List.set_cons_zero, List.set_cons_succ]
        refine wpAnyH_take (i := 6) (oi := { dst := some 164, op := Op.load 33 (Operand.tmp 163), type := 33, pos := "zsortanyfunc.go:441", after := #[{ on := 5, ground := Ground.data }], guard := none }) (v := ?_) rfl (by kernel_rfl) (by kernel_rfl) (by kernel_rfl) (fun _ _ _ h => h) (Or.inl ⟨by rfl, ?_⟩) hS0 ?_
        rotate_left
        · (intro w9 hSw; (try dsimp only at hSw); go_simp; try with_reducible rfl)
        try simp only [Act.put, List.setIfInBounds_toArray, List.set_cons_zero, List.set_cons_succ]
        refine wpAnyH_take (i := 7) (oi := { dst := some 165, op := Op.move (Operand.tmp 0), type := 24, pos := "zsortanyfunc.go:441", after := #[], guard := none }) (v := ?_) rfl (by kernel_rfl) (by kernel_rfl) (by kernel_rfl) (fun _ _ _ h => h) (Or.inl ⟨by rfl, ?_⟩) hS0 ?_
        rotate_left
        · (intro w9 hSw; (try dsimp only at hSw); go_simp; try with_reducible rfl)
        try simp only [Act.put, List.setIfInBounds_toArray, List.set_cons_zero, List.set_cons_succ]
        refine wpAnyH_take (i := 8) (oi := { dst := some 166, op := Op.move (Operand.tmp 23), type := 3, pos := "zsortanyfunc.go:441", after := #[], guard := none }) (v := ?_) rfl (by kernel_rfl) (by kernel_rfl) (by kernel_rfl) (fun _ _ _ h => h) (Or.inl ⟨by rfl, ?_⟩) hS0 ?_
        rotate_left
        · (intro w9 hSw; (try dsimp only at hSw); go_simp; try with_reducible rfl)
        try simp only [Act.put, List.setIfInBounds_toArray, List.set_cons_zero, List.set_cons_succ]
        refine wpAnyH_take (i := 9) (oi := { dst := some 167, op := Op.indexAddr 24 (Operand.tmp 165) (Operand.tmp 166), type := 0, pos := "zsortanyfunc.go:441", after := #[{ on := 7, ground := Ground.data }, { on := 8, ground := Ground.data }], guard := none }) (v := ?_) rfl (by kernel_rfl) (by kernel_rfl) (by kernel_rfl) (fun _ _ _ h => h) (Or.inl ⟨by rfl, ?_⟩) hS0 ?_
        rotate_left
        · (intro w9 hSw; (try dsimp only at hSw); go_simp; try with_reducible rfl)
        try simp only [Act.put, List.setIfInBounds_toArray, List.set_cons_zero, List.set_cons_succ]
        refine wpAnyH_take (i := 10) (oi := { dst := some 168, op := Op.load 33 (Operand.tmp 167), type := 33, pos := "zsortanyfunc.go:441", after := #[{ on := 9, ground := Ground.data }], guard := none }) (v := ?_) rfl (by kernel_rfl) (by kernel_rfl) (by kernel_rfl) (fun _ _ _ h => h) (Or.inl ⟨by rfl, ?_⟩) hS0 ?_
        rotate_left
        · (intro w9 hSw; (try dsimp only at hSw); go_simp; try with_reducible rfl)
        try simp only [Act.put, List.setIfInBounds_toArray, List.set_cons_zero, List.set_cons_succ]
        refine wpAnyH_ready (rs := [11]) (by kernel_rfl) (by simp) ?_
        refine AllReadyH.cons (o := { dst := some 169, op := Op.call { callee := Callee.value (Operand.tmp 158), args := #[Operand.tmp 164, Operand.tmp 168], argTypes := #[33, 33] }, type := 3, pos := "zsortanyfunc.go:441", after := #[{ on := 0, ground := Ground.data }, { on := 6, ground := Ground.data }, { on := 10, ground := Ground.data }], guard := none }) rfl (fun K hK => ?_) AllReadyH.nil
        go_simp
        go_at_call 16
        refine (cmpA_any y x V _ HV.out).mono ?_
        rintro e w3 ⟨rfl, hb3⟩
        have hS3 : w3.cell? ⟨b0, h * 2, none⟩ = some (.int .i64 x.t) ∧ w3.cell? ⟨b0, h * 2 + 1, none⟩ = some (.int .i64 x.z) ∧ w3.cell? ⟨b0, q * 2, none⟩ = some (.int .i64 y.t) ∧ w3.cell? ⟨b0, q * 2 + 1, none⟩ = some (.int .i64 y.z) ∧ Below wr.heap.size wr w3 := ⟨((bcell hb3).1 _ _ hbl).trans c0, ((bcell hb3).1 _ _ hbl).trans c1, ((bcell hb3).1 _ _ hbl).trans c2, ((bcell hb3).1 _ _ hbl).trans c3, below_seq hS0.2.2.2.2 hb3⟩
        have HS3 := Lib.hid hS3
        clear hb3
        refine hK.out _ _ hS3 (fun hH => ?_)
        clear hK K
        try simp only [Act.put, List.setIfInBounds_toArray, List.set_cons_zero, List.set_cons_succ]
        refine wpAnyH_take (i := 12) (oi := { dst := some 170, op := Op.binOp BinOp.lss 3 (Operand.tmp 169) (Operand.const (Value.int IntKind.i64 0)) 3, type := 4, pos := "zsortanyfunc.go:441", after := #[{ on := 11, ground := Ground.data }], guard := none }) (v := ?_) rfl (by kernel_rfl) (by kernel_rfl) (by kernel_rfl) (fun _ _ _ h => h) (Or.inl ⟨by rfl, ?_⟩) hS3 ?_
        rotate_left
        · (intro w9 hSw; (try dsimp only at hSw); go_simp; try with_reducible rfl)
        try simp only [Act.put, List.setIfInBounds_toArray, List.set_cons_zero, List.set_cons_succ]
        refine wpAnyH_take (i := 13) (oi := { dst := some 171, op := Op.unOp UnOp.not 4 (Operand.tmp 170), type := 4, pos := "zsortanyfunc.go:441", after := #[{ on := 12, ground := Ground.data }], guard := none }) (v := ?_) rfl (by kernel_rfl) (by kernel_rfl) (by kernel_rfl) (fun _ _ _ h => h) (Or.inl ⟨by rfl, ?_⟩) hS3 ?_
        rotate_left
        · (intro w9 hSw; (try dsimp only at hSw); go_simp; try with_reducible rfl)
        try simp only [Act.put, List.setIfInBounds_toArray, List.set_cons_zero, List.set_cons_succ]
        refine wpAnyH_done (by kernel_rfl) ?_ _
        go_wp2
        go_roundw
        case rel =>
          have h6 := HE.out
          refine ⟨s, h, rfl, rfl, hs, by omega, by omega, G1, Lib.hid (.inr ⟨x, y, HXY.out.1, ?_, HYX.out⟩), own_below HO.out HS3.out.2.2.2.2, g_below HG.out HS3.out.2.2.2.2⟩
          rw [show n - 1 - h - m = q - m by have := HM.out; omega]
          exact HXY.out.2
        case measure => (have := HE.out); simp [intOf]; omega
      · have hV0 : 0 ≤ V := by rw [← hV]; unfold cmpV; rw [if_neg hyx]; split <;> omega
        have gV : decide (V < 0) = false := decide_eq_false (by omega)
        have HYX := Lib.hid hyx
        clear hV hyx
        have hS0 : wr.drew.cell? ⟨b0, h * 2, none⟩ = some (.int .i64 x.t) ∧ wr.drew.cell? ⟨b0, h * 2 + 1, none⟩ = some (.int .i64 x.z) ∧ wr.drew.cell? ⟨b0, q * 2, none⟩ = some (.int .i64 y.t) ∧ wr.drew.cell? ⟨b0, q * 2 + 1, none⟩ = some (.int .i64 y.z) ∧ Below wr.heap.size wr wr.drew := ⟨c0, c1, c2, c3, (Below.refl _ _).drew⟩
        go_wp2_with fail
        refine wp_region_held_drew (S := fun w' => w'.cell? ⟨b0, h * 2, none⟩ = some (.int .i64 x.t) ∧ w'.cell? ⟨b0, h * 2 + 1, none⟩ = some (.int .i64 x.z) ∧ w'.cell? ⟨b0, q * 2, none⟩ = some (.int .i64 y.t) ∧ w'.cell? ⟨b0, q * 2 + 1, none⟩ = some (.int .i64 y.z) ∧ Below wr.heap.size wr w') (by kernel_rfl) hS0 (fun hH => ?_)
        refine wpAnyH_take (i := 0) (oi := { dst := some 158, op := Op.move (Operand.tmp 4), type := 39, pos := "zsortanyfunc.go:441", after := #[], guard := none }) (v := ?_) rfl (by kernel_rfl) (by kernel_rfl) (by kernel_rfl) (fun _ _ _ h => h) (Or.inl ⟨by rfl, ?_⟩) hS0 ?_
        rotate_left
        · (intro w9 hSw; (try dsimp only at hSw); go_simp; try with_reducible rfl)
        try simp only [Act.put, List.setIfInBounds_toArray, List.set_cons_zero, List.set_cons_succ]
        refine wpAnyH_take (i := 1) (oi := { dst := some 159, op := Op.move (Operand.tmp 0), type := 24, pos := "zsortanyfunc.go:441", after := #[], guard := none }) (v := ?_) rfl (by kernel_rfl) (by kernel_rfl) (by kernel_rfl) (fun _ _ _ h => h) (Or.inl ⟨by rfl, ?_⟩) hS0 ?_
        rotate_left
        · (intro w9 hSw; (try dsimp only at hSw); go_simp; try with_reducible rfl)
        try simp only [Act.put, List.setIfInBounds_toArray, List.set_cons_zero, List.set_cons_succ]
        refine wpAnyH_take (i := 2) (oi := { dst := some 160, op := Op.move (Operand.tmp 22), type := 3, pos := "zsortanyfunc.go:441", after := #[], guard := none }) (v := ?_) rfl (by kernel_rfl) (by kernel_rfl) (by kernel_rfl) (fun _ _ _ h => h) (Or.inl ⟨by rfl, ?_⟩) hS0 ?_
        rotate_left
        · (intro w9 hSw; (try dsimp only at hSw); go_simp; try with_reducible rfl)
        try simp only [Act.put, List.setIfInBounds_toArray, List.set_cons_zero, List.set_cons_succ]
        refine wpAnyH_take (i := 3) (oi := { dst := some 161, op := Op.move (Operand.tmp 23), type := 3, pos := "zsortanyfunc.go:441", after := #[], guard := none }) (v := ?_) rfl (by kernel_rfl) (by kernel_rfl) (by kernel_rfl) (fun _ _ _ h => h) (Or.inl ⟨by rfl, ?_⟩) hS0 ?_
        rotate_left
        · (intro w9 hSw; (try dsimp only at hSw); go_simp; try with_reducible rfl)
        try simp only [Act.put, List.setIfInBounds_toArray, List.set_cons_zero, List.set_cons_succ]
        refine wpAnyH_take (i := 4) (oi := { dst := some 162, op := Op.binOp BinOp.sub 3 (Operand.tmp 160) (Operand.tmp 161) 3, type := 3, pos := "zsortanyfunc.go:441", after := #[{ on := 2, ground := Ground.data }, { on := 3, ground := Ground.data }], guard := none }) (v := ?_) rfl (by kernel_rfl) (by kernel_rfl) (by kernel_rfl) (fun _ _ _ h => h) (Or.inl ⟨by rfl, ?_⟩) hS0 ?_
        rotate_left
        · (intro w9 hSw; (try dsimp only at hSw); go_simp; try with_reducible rfl)
        try simp only [Act.put, List.setIfInBounds_toArray, List.set_cons_zero, List.set_cons_succ]
        refine wpAnyH_take (i := 5) (oi := { dst := some 163, op := Op.indexAddr 24 (Operand.tmp 159) (Operand.tmp 162), type := 0, pos := "zsortanyfunc.go:441", after := #[{ on := 1, ground := Ground.data }, { on := 4, ground := Ground.data }], guard := none }) (v := ?_) rfl (by kernel_rfl) (by kernel_rfl) (by kernel_rfl) (fun _ _ _ h => h) (Or.inl ⟨by rfl, ?_⟩) hS0 ?_
        rotate_left
        · (intro w9 hSw; (try dsimp only at hSw); go_simp; try with_reducible rfl)
        try simp only [Act.put, List.setIfInBounds_toArray, List.set_cons_zero, List.set_cons_succ]
        refine wpAnyH_take (i := 6) (oi := { dst := some 164, op := Op.load 33 (Operand.tmp 163), type := 33, pos := "zsortanyfunc.go:441", after := #[{ on := 5, ground := Ground.data }], guard := none }) (v := ?_) rfl (by kernel_rfl) (by kernel_rfl) (by kernel_rfl) (fun _ _ _ h => h) (Or.inl ⟨by rfl, ?_⟩) hS0 ?_
        rotate_left
        · (intro w9 hSw; (try dsimp only at hSw); go_simp; try with_reducible rfl)
        try simp only [Act.put, List.setIfInBounds_toArray, List.set_cons_zero, List.set_cons_succ]
        refine wpAnyH_take (i := 7) (oi := { dst := some 165, op := Op.move (Operand.tmp 0), type := 24, pos := "zsortanyfunc.go:441", after := #[], guard := none }) (v := ?_) rfl (by kernel_rfl) (by kernel_rfl) (by kernel_rfl) (fun _ _ _ h => h) (Or.inl ⟨by rfl, ?_⟩) hS0 ?_
        rotate_left
        · (intro w9 hSw; (try dsimp only at hSw); go_simp; try with_reducible rfl)
        try simp only [Act.put, List.setIfInBounds_toArray, List.set_cons_zero, List.set_cons_succ]
        refine wpAnyH_take (i := 8) (oi := { dst := some 166, op := Op.move (Operand.tmp 23), type := 3, pos := "zsortanyfunc.go:441", after := #[], guard := none }) (v := ?_) rfl (by kernel_rfl) (by kernel_rfl) (by kernel_rfl) (fun _ _ _ h => h) (Or.inl ⟨by rfl, ?_⟩) hS0 ?_
        rotate_left
        · (intro w9 hSw; (try dsimp only at hSw); go_simp; try with_reducible rfl)
        try simp only [Act.put, List.setIfInBounds_toArray, List.set_cons_zero, List.set_cons_succ]
        refine wpAnyH_take (i := 9) (oi := { dst := some 167, op := Op.indexAddr 24 (Operand.tmp 165) (Operand.tmp 166), type := 0, pos := "zsortanyfunc.go:441", after := #[{ on := 7, ground := Ground.data }, { on := 8, ground := Ground.data }], guard := none }) (v := ?_) rfl (by kernel_rfl) (by kernel_rfl) (by kernel_rfl) (fun _ _ _ h => h) (Or.inl ⟨by rfl, ?_⟩) hS0 ?_
        rotate_left
        · (intro w9 hSw; (try dsimp only at hSw); go_simp; try with_reducible rfl)
        try simp only [Act.put, List.setIfInBounds_toArray, List.set_cons_zero, List.set_cons_succ]
        refine wpAnyH_take (i := 10) (oi := { dst := some 168, op := Op.load 33 (Operand.tmp 167), type := 33, pos := "zsortanyfunc.go:441", after := #[{ on := 9, ground := Ground.data }], guard := none }) (v := ?_) rfl (by kernel_rfl) (by kernel_rfl) (by kernel_rfl) (fun _ _ _ h => h) (Or.inl ⟨by rfl, ?_⟩) hS0 ?_
        rotate_left
        · (intro w9 hSw; (try dsimp only at hSw); go_simp; try with_reducible rfl)
        try simp only [Act.put, List.setIfInBounds_toArray, List.set_cons_zero, List.set_cons_succ]
        refine wpAnyH_ready (rs := [11]) (by kernel_rfl) (by simp) ?_
        refine AllReadyH.cons (o := { dst := some 169, op := Op.call { callee := Callee.value (Operand.tmp 158), args := #[Operand.tmp 164, Operand.tmp 168], argTypes := #[33, 33] }, type := 3, pos := "zsortanyfunc.go:441", after := #[{ on := 0, ground := Ground.data }, { on := 6, ground := Ground.data }, { on := 10, ground := Ground.data }], guard := none }) rfl (fun K hK => ?_) AllReadyH.nil
        go_simp
        go_at_call 16
        refine (cmpA_any y x V _ HV.out).mono ?_
        rintro e w3 ⟨rfl, hb3⟩
        have hS3 : w3.cell? ⟨b0, h * 2, none⟩ = some (.int .i64 x.t) ∧ w3.cell? ⟨b0, h * 2 + 1, none⟩ = some (.int .i64 x.z) ∧ w3.cell? ⟨b0, q * 2, none⟩ = some (.int .i64 y.t) ∧ w3.cell? ⟨b0, q * 2 + 1, none⟩ = some (.int .i64 y.z) ∧ Below wr.heap.size wr w3 := ⟨((bcell hb3).1 _ _ hbl).trans c0, ((bcell hb3).1 _ _ hbl).trans c1, ((bcell hb3).1 _ _ hbl).trans c2, ((bcell hb3).1 _ _ hbl).trans c3, below_seq hS0.2.2.2.2 hb3⟩
        have HS3 := Lib.hid hS3
        clear hb3
        refine hK.out _ _ hS3 (fun hH => ?_)
        clear hK K
        try simp only [Act.put, List.setIfInBounds_toArray, List.set_cons_zero, List.set_cons_succ]
        refine wpAnyH_take (i := 12) (oi := { dst := some 170, op := Op.binOp BinOp.lss 3 (Operand.tmp 169) (Operand.const (Value.int IntKind.i64 0)) 3, type := 4, pos := "zsortanyfunc.go:441", after := #[{ on := 11, ground := Ground.data }], guard := none }) (v := ?_) rfl (by kernel_rfl) (by kernel_rfl) (by kernel_rfl) (fun _ _ _ h => h) (Or.inl ⟨by rfl, ?_⟩) hS3 ?_
        rotate_left
        · (intro w9 hSw; (try dsimp only at hSw); go_simp; try with_reducible rfl)
        try simp only [Act.put, List.setIfInBounds_toArray, List.set_cons_zero, List.set_cons_succ]
        refine wpAnyH_take (i := 13) (oi := { dst := some 171, op := Op.unOp UnOp.not 4 (Operand.tmp 170), type := 4, pos := "zsortanyfunc.go:441", after := #[{ on := 12, ground := Ground.data }], guard := none }) (v := ?_) rfl (by kernel_rfl) (by kernel_rfl) (by kernel_rfl) (fun _ _ _ h => h) (Or.inl ⟨by rfl, ?_⟩) hS3 ?_
        rotate_left
        · (intro w9 hSw; (try dsimp only at hSw); go_simp; try with_reducible rfl)
        try simp only [Act.put, List.setIfInBounds_toArray, List.set_cons_zero, List.set_cons_succ]
        refine wpAnyH_done (by kernel_rfl) ?_ _
        go_wp2
        go_roundw
        case rel =>
          have h6 := HE.out
          refine ⟨h + 1, r, by go_num, rfl, by omega, by omega, hr, Lib.hid (.inr ⟨x, y, ?_, ?_, by have := HYX.out; omega⟩), G2, own_below HO.out HS3.out.2.2.2.2, g_below HG.out HS3.out.2.2.2.2⟩
          · rw [show h + 1 - 1 - a = h - a by omega]
            exact HXY.out.1
          · rw [show n - (h + 1) - m = q - m by have := HM.out; omega]
            exact HXY.out.2
        case measure => (have := HE.out); simp [intOf]; omega
    · obtain rfl : s = r := by omega
      have HCUT := Lib.hid (cut_of (s := s) (s0 := s0) (r0 := mid) hX hY HM.out.2.1 SXY.out.1 SXY.out.2 HB.out.1 hs hr HB.out.2.2.2.1 (.inr (by omega)) (.inr rfl) G1.out G2.out)
      have SPL : X = X.take (s - a) ++ X.drop (s - a) ∧ Y = Y.take (mid - s) ++ Y.drop (mid - s) := ⟨(List.take_append_drop _ _).symm, (List.take_append_drop _ _).symm⟩
      obtain ⟨e, he⟩ : ∃ e, e = n - s := ⟨_, rfl⟩
      have ebd : a ≤ s ∧ s ≤ mid ∧ s ≤ m ∧ m ≤ e ∧ mid ≤ e ∧ e ≤ bb ∧ e + s = mid + m ∧ mid < bb ∧ a < mid ∧ mid - a ≤ k ∧ bb - mid ≤ k ∧ n = e + s := by
        have q1 := HB.out
        have q2 := HM.out
        have q3 := HBR.out
        omega
      have LEN : (X.take (s - a)).length = s - a ∧ (X.drop (s - a)).length = m - s ∧ (Y.take (mid - s)).length = mid - s ∧ (Y.drop (mid - s)).length = bb - e := by
        rw [List.length_take, List.length_drop, List.length_take, List.length_drop]
        omega
      have VAL : avL 0 (X.take (s - a)) = true ∧ avL 0 (X.drop (s - a)) = true ∧ avL 0 (Y.take (mid - s)) = true ∧ avL 0 (Y.drop (mid - s)) = true := ⟨av_takeW SXY.out.1 _, av_dropW SXY.out.1 _, av_takeW SXY.out.2 _, av_dropW SXY.out.2 _⟩
      have HO1 : RowA wr base b0 N c (P ++ X.take (s - a) ++ X.drop (s - a) ++ Y.take (mid - s) ++ (Y.drop (mid - s) ++ Q)) := by
        have := HO.out
        rw [SPL.1, SPL.2] at this
        simp only [List.append_assoc] at this ⊢
        exact this
      obtain ⟨X1, hX1⟩ : ∃ X1, X1 = X.take (s - a) := ⟨_, rfl⟩
      obtain ⟨X2, hX2⟩ : ∃ X2, X2 = X.drop (s - a) := ⟨_, rfl⟩
      obtain ⟨Y1, hY1⟩ : ∃ Y1, Y1 = Y.take (mid - s) := ⟨_, rfl⟩
      obtain ⟨Y2, hY2⟩ : ∃ Y2, Y2 = Y.drop (mid - s) := ⟨_, rfl⟩
      rw [← hX1, ← hX2, ← hY1, ← hY2] at HCUT LEN VAL HO1
      have x1 : (n : Int) - (s : Int) = (e : Int) := by omega
      have HL := Lib.hid LEN
      have HVL := Lib.hid VAL
      have HO2 := Lib.hid HO1
      have EB := Lib.hid ebd
      clear SPL LEN VAL HO1 ebd hX1 hX2 hY1 hY2 HO SXY G1 G2 hs hsr hr he
      go_upto_region 39 with fail
      go_cut [20, 185] from 178 to 185 (fun s20 sd wx => s20 = .int .i64 (s : Int) ∧ sd = .bool (decide (s < m ∧ m < e)) ∧ wx = wr)
      case first =>
        by_cases c1 : s < m
        · have g1 : (s : Int) < (m : Int) := by omega
          by_cases c2 : m < e
          · have g2 : (m : Int) < (e : Int) := by omega
            have HC := Lib.hid (show decide (s < m ∧ m < e) = true from decide_eq_true ⟨c1, c2⟩)
            go_wp2_with fail
            go_meet
            case rel => exact ⟨rfl, by rw [HC.out], rfl⟩
          · have g2 : decide ((m : Int) < (e : Int)) = false := decide_eq_false (by omega)
            have g2' : ¬ (m : Int) < (e : Int) := by omega
            have HC := Lib.hid (show decide (s < m ∧ m < e) = false from decide_eq_false (fun h => c2 h.2))
            go_wp2_with fail
            go_meet
            case rel => exact ⟨rfl, by rw [HC.out], rfl⟩
        · have g1 : decide ((s : Int) < (m : Int)) = false := decide_eq_false (by omega)
          have g1' : ¬ (s : Int) < (m : Int) := by omega
          have HC := Lib.hid (show decide (s < m ∧ m < e) = false from decide_eq_false (fun h => c1 h.1))
          go_wp2_with fail
          go_meet
          case rel => exact ⟨rfl, by rw [HC.out], rfl⟩
      case rest =>
        obtain ⟨rfl, rfl, rfl⟩ := hcut
        go_upto_if 185 with fail
        go_cut [20] from 178 to 191 (fun s20 wx => s20 = .int .i64 (s : Int) ∧ RowA wx base b0 N c (P ++ X1 ++ Y1 ++ (X2 ++ Y2 ++ Q)) ∧ w.grownBy wx (some b0))
        case first =>
          by_cases cc : s < m ∧ m < e
          · rw [decide_eq_true cc]
            have CC := Lib.hid cc
            clear cc
            go_wp2_with (go_at_call 25
                         refine (roI_any base b0 N c s m e _ (P ++ X1) X2 Y1 (Y2 ++ Q) _ (by have := HO2.out; simpa using this) hN (by rw [List.length_append]; have := HL.out; have := EB.out; omega) (by have := HL.out; have := CC.out; omega) (by have := HL.out; have := EB.out; omega) CC.out.1 CC.out.2).mono ?_
                         rintro e' w1 ⟨rfl, ho1, hg1⟩
                         have O1 := Lib.hid ho1
                         have GG1 := Lib.hid (HG.out.trans hg1)
                         clear ho1 hg1)
            go_meet
            case rel => exact ⟨rfl, by have := O1.out; simp only [List.append_assoc] at this ⊢; exact this, GG1.out⟩
          · rw [decide_eq_false cc]
            have HE : Hid (X2 = [] ∨ Y1 = []) := Lib.hid (by
              have h1 := HL.out
              have h2 := EB.out
              by_cases h3 : s < m
              · exact .inr (List.eq_nil_of_length_eq_zero (by omega))
              · exact .inl (List.eq_nil_of_length_eq_zero (by omega)))
            clear cc
            go_wp2_with fail
            go_meet
            case rel =>
              refine ⟨rfl, ?_, HG.out⟩
              have h4 := HO2.out
              rcases HE.out with h3 | h3
              · rw [h3] at h4 ⊢; simpa using h4
              · rw [h3] at h4 ⊢; simpa using h4
        case rest =>
          obtain ⟨rfl, o3, g3⟩ := hcut
          have O3 := Lib.hid o3
          have G3 := Lib.hid g3
          clear o3 g3
          go_upto_region 41 with fail
          go_cut [20, 199] from 192 to 199 (fun s20 sd wx => s20 = .int .i64 (s : Int) ∧ sd = .bool (decide (a < s ∧ s < mid)) ∧ wx = wc)
          case first =>
            by_cases c1 : a < s
            · have g1 : (a : Int) < (s : Int) := by omega
              by_cases c2 : s < mid
              · have g2 : (s : Int) < (mid : Int) := by omega
                have HC := Lib.hid (show decide (a < s ∧ s < mid) = true from decide_eq_true ⟨c1, c2⟩)
                go_wp2_with fail
                go_meet
                case rel => exact ⟨rfl, by rw [HC.out], rfl⟩
              · have g2 : decide ((s : Int) < (mid : Int)) = false := decide_eq_false (by omega)
                have g2' : ¬ (s : Int) < (mid : Int) := by omega
                have HC := Lib.hid (show decide (a < s ∧ s < mid) = false from decide_eq_false (fun h => c2 h.2))
                go_wp2_with fail
                go_meet
                case rel => exact ⟨rfl, by rw [HC.out], rfl⟩
            · have g1 : decide ((a : Int) < (s : Int)) = false := decide_eq_false (by omega)
              have g1' : ¬ (a : Int) < (s : Int) := by omega
              have HC := Lib.hid (show decide (a < s ∧ s < mid) = false from decide_eq_false (fun h => c1 h.1))
              go_wp2_with fail
              go_meet
              case rel => exact ⟨rfl, by rw [HC.out], rfl⟩
          case rest =>
            obtain ⟨rfl, rfl, rfl⟩ := hcut
            go_upto_if 199 with fail
            go_cut [20] from 192 to 205 (fun s20 wx => s20 = .int .i64 (s : Int) ∧ RowA wx base b0 N c (P ++ finA X1 Y1 ++ X2 ++ Y2 ++ Q) ∧ w.grownBy wx (some b0))
            case first =>
              by_cases cc : a < s ∧ s < mid
              · rw [decide_eq_true cc]
                have CC := Lib.hid cc
                clear cc
                go_wp2_with (go_at_call 24
                             refine (IH base b0 N c a s mid P X1 Y1 (X2 ++ Y2 ++ Q) _ O3.out hN ha (by have := HL.out; have := CC.out; omega) (by have := HL.out; have := CC.out; omega) CC.out.1 CC.out.2 (by have := EB.out; omega) HVL.out.1 HVL.out.2.2.1).mono ?_
                             rintro e' w1 ⟨rfl, ho1, hg1⟩
                             have O4 := Lib.hid ho1
                             have G4 := Lib.hid (G3.out.trans hg1)
                             clear ho1 hg1)
                go_meet
                case rel => exact ⟨rfl, by have := O4.out; simp only [List.append_assoc] at this ⊢; exact this, G4.out⟩
              · rw [decide_eq_false cc]
                have HE : Hid (finA X1 Y1 = X1 ++ Y1) := Lib.hid (by
                  have h1 := HL.out
                  have h2 := EB.out
                  by_cases h3 : a < s
                  · have h4 : Y1 = [] := List.eq_nil_of_length_eq_zero (by omega)
                    rw [h4]; simp [finA]
                  · have h4 : X1 = [] := List.eq_nil_of_length_eq_zero (by omega)
                    rw [h4, finA_nil HVL.out.2.2.1]; rfl)
                clear cc
                go_wp2_with fail
                go_meet
                case rel => exact ⟨rfl, by have := O3.out; rw [HE.out]; simp only [List.append_assoc] at this ⊢; exact this, G3.out⟩
            case rest =>
              obtain ⟨rfl, o5, g5⟩ := hcut
              have O5 := Lib.hid o5
              have G5 := Lib.hid g5
              have hlA : (P ++ finA X1 Y1).length = mid := by rw [List.length_append, finA_len]; have := HL.out; have := EB.out; omega
              have HLA := Lib.hid hlA
              clear o5 g5 hlA
              go_upto_region 43 with fail
              go_cut [20, 213] from 206 to 213 (fun s20 sd wx => s20 = .int .i64 (s : Int) ∧ sd = .bool (decide (mid < e ∧ e < bb)) ∧ wx = wc)
              case first =>
                by_cases c1 : mid < e
                · have g1 : (mid : Int) < (e : Int) := by omega
                  by_cases c2 : e < bb
                  · have g2 : (e : Int) < (bb : Int) := by omega
                    have HC := Lib.hid (show decide (mid < e ∧ e < bb) = true from decide_eq_true ⟨c1, c2⟩)
                    go_wp2_with fail
                    go_meet
                    case rel => exact ⟨rfl, by rw [HC.out], rfl⟩
                  · have g2 : decide ((e : Int) < (bb : Int)) = false := decide_eq_false (by omega)
                    have g2' : ¬ (e : Int) < (bb : Int) := by omega
                    have HC := Lib.hid (show decide (mid < e ∧ e < bb) = false from decide_eq_false (fun h => c2 h.2))
                    go_wp2_with fail
                    go_meet
                    case rel => exact ⟨rfl, by rw [HC.out], rfl⟩
                · have g1 : decide ((mid : Int) < (e : Int)) = false := decide_eq_false (by omega)
                  have g1' : ¬ (mid : Int) < (e : Int) := by omega
                  have HC := Lib.hid (show decide (mid < e ∧ e < bb) = false from decide_eq_false (fun h => c1 h.1))
                  go_wp2_with fail
                  go_meet
                  case rel => exact ⟨rfl, by rw [HC.out], rfl⟩
              case rest =>
                obtain ⟨rfl, rfl, rfl⟩ := hcut
                by_cases cc : mid < e ∧ e < bb
                · rw [decide_eq_true cc]
                  have CC := Lib.hid cc
                  clear cc
                  go_wp2_with (go_at_call 24
                               refine (IH base b0 N c mid e bb (P ++ finA X1 Y1) X2 Y2 Q _ O5.out hN HLA.out (by have := HL.out; have := EB.out; omega) (by have := HL.out; have := EB.out; omega) CC.out.1 CC.out.2 (by have := EB.out; omega) HVL.out.2.1 HVL.out.2.2.2).mono ?_
                               rintro e' w1 ⟨rfl, ho1, hg1⟩
                               have O6 := Lib.hid ho1
                               have G6 := Lib.hid (G5.out.trans hg1)
                               clear ho1 hg1)
                  go_end0
                  exact ⟨rfl, by rw [HCUT.out]; have := O6.out; simp only [List.append_assoc] at this ⊢; exact this, G6.out⟩
                · rw [decide_eq_false cc]
                  have HE : Hid (finA X2 Y2 = X2 ++ Y2) := Lib.hid (by
                    have h1 := HL.out
                    have h2 := EB.out
                    by_cases h3 : mid < e
                    · have h4 : Y2 = [] := List.eq_nil_of_length_eq_zero (by omega)
                      rw [h4]; simp [finA]
                    · have h4 : X2 = [] := List.eq_nil_of_length_eq_zero (by omega)
                      rw [h4, finA_nil HVL.out.2.2.2]; rfl)
                  clear cc
                  go_wp2
                  go_end0
                  exact ⟨rfl, by rw [HCUT.out, HE.out]; have := O5.out; simp only [List.append_assoc] at this ⊢; exact this, G5.out⟩
set_option maxRecDepth 8000 in
set_option maxHeartbeats 4000000 in
theorem sy_cutB (k : Nat) (IH : SymOk k) (base b0 N c a m bb mid n : Nat) (P X Y Q : List Arr) (w : World) (ho : RowA w base b0 N c (P ++ X ++ Y ++ Q)) (hN : N ≤ 1000) (ha : P.length = a) (hX : a + X.length = m) (hY : m + Y.length = bb) (h1 : a + 2 ≤ m) (h2 : m + 2 ≤ bb) (hk : bb - a ≤ k + 1) (sx : avL 0 X = true) (sy : avL 0 Y = true)
    (hmid : mid = (a + bb) / 2) (hn : n = mid + m) (hbr : m ≤ mid) :
    Calls Try.prog 24 #[.slice (some ⟨b0, 0, none⟩) N c, .int .i64 (a : Int), .int .i64 (m : Int), .int .i64 (bb : Int), .func (.func 16) #[] #[]] w fun e w' =>
      e = .returned (.tuple #[]) ∧ RowA w' base b0 N c (P ++ finA X Y ++ Q) ∧ w.grownBy w' (some b0) := by
  have hlen := (ar_own ho).1
  have hbn : bb ≤ N := by simp at hlen; omega
  obtain ⟨d1, hd1⟩ : ∃ d1, d1 = m - a := ⟨_, rfl⟩
  obtain ⟨d2, hd2⟩ : ∃ d2, d2 = bb - m := ⟨_, rfl⟩
  obtain ⟨p, hp⟩ : ∃ p, p = n - 1 := ⟨_, rfl⟩
  have k0 : (m : Int) - (a : Int) = (d1 : Int) := by omega
  have k1 : ((d1 : Int) == 1) = false := by simp; omega
  have k2 : (bb : Int) - (m : Int) = (d2 : Int) := by omega
  have k3 : ((d2 : Int) == 1) = false := by simp; omega
  have k4 : ((a : Int) + (bb : Int)) / 2 = (mid : Int) := by omega
  have k5 : (mid : Int) + (m : Int) = (n : Int) := by omega
  have k6 : (n : Int) - 1 = (p : Int) := by omega
  have k7 : (0 : Int) ≤ (a : Int) + (bb : Int) := by omega
  have k8 : (a : Int) + (bb : Int) ≤ 2002 := by omega
  have k9 : n ≤ 2000 := by omega
  have f1 : ¬((mid : Int) < (m : Int)) := by omega
  have f2 : decide ((mid : Int) < (m : Int)) = false := decide_eq_false f1
  have hb : a ≤ a ∧ a ≤ m ∧ m ≤ m ∧ m ≤ mid ∧ n ≤ a + bb := by omega
  have SXY := Lib.hid (And.intro sx sy)
  have HA := Lib.hid (And.intro ha (And.intro hX hY))
  have HM := Lib.hid (And.intro hmid (And.intro hn hp))
  have R0 : Sy5 w base b0 N c a m n a m (P ++ X ++ Y ++ Q) X Y (.int .i64 (a : Int)) (.int .i64 (m : Int)) w := ⟨a, m, rfl, rfl, Nat.le_refl _, hb.2.1, Nat.le_refl _, Lib.hid (.inl rfl), Lib.hid (.inl rfl), ho, g_refl _ _⟩
  have HR0 := Lib.hid R0
  have HB := Lib.hid hb
  have HBR := Lib.hid (And.intro hbr (And.intro hk (And.intro hd1 hd2)))
  clear R0 ho hlen sx sy hmid hn hp hd1 hd2 hb hk
  go_enter Try.func24, Try.ntmps24
  go_wp2
  go_loopw [20, 21] (fun iv jv wr => Sy5 w base b0 N c a m n a m (P ++ X ++ Y ++ Q) X Y iv jv wr) (fun iv jv _ => (intOf jv).toNat - (intOf iv).toNat)
  case atStart => exact HR0.out
  case round =>
    obtain ⟨s, r, rfl, rfl, hs, hsr, hr, G1, G2, ho, hg⟩ := hrel
    have HO := Lib.hid ho
    have HG := Lib.hid hg
    have hrm : r ≤ 1000 ∧ s ≤ 1000 := by have := HB.out; have := HBR.out.1; omega
    clear HR0 ho hg
    by_cases hlt : s < r
    · obtain ⟨h, hh⟩ : ∃ h, h = (s + r) / 2 := ⟨_, rfl⟩
      obtain ⟨q, hq⟩ : ∃ q, q = p - h := ⟨_, rfl⟩
      have eh : ((s : Int) + (r : Int)) / 2 = (h : Int) := by omega
      have ebd : a ≤ h ∧ h < m ∧ m ≤ q ∧ q < bb ∧ s ≤ h ∧ h < r ∧ q + h = p := by
        have := HB.out
        have := HM.out
        omega
      have eq : (p : Int) - (h : Int) = (q : Int) := by omega
      obtain ⟨x, hx⟩ : ∃ x, X[h - a]? = some x := ⟨_, List.getElem?_eq_getElem (show h - a < X.length by omega)⟩
      obtain ⟨y, hy⟩ : ∃ y, Y[q - m]? = some y := ⟨_, List.getElem?_eq_getElem (show q - m < Y.length by omega)⟩
      have hrow : RowA wr base b0 N c ((P ++ X.take (h - a)) ++ x :: ((X.drop (h - a + 1) ++ Y.take (q - m)) ++ y :: (Y.drop (q - m + 1) ++ Q))) := by
        have h3 := HO.out
        have h4 : X = X.take (h - a) ++ x :: X.drop (h - a + 1) := by rw [← drop_at hx, List.take_append_drop]
        have h5 : Y = Y.take (q - m) ++ y :: Y.drop (q - m + 1) := by rw [← drop_at hy, List.take_append_drop]
        rw [h4, h5] at h3
        simpa using h3
      have hl1 : (P ++ X.take (h - a)).length = h := by rw [List.length_append, ha, List.length_take]; omega
      have hl2 : h + 1 + (X.drop (h - a + 1) ++ Y.take (q - m)).length = q := by rw [List.length_append, List.length_drop, List.length_take]; omega
      obtain ⟨⟨c0, c1, c2, c3⟩, -, hp1, hq1⟩ := row_two hrow hl1 hl2
      obtain ⟨b1, o1, z1, e3, hbl, -⟩ := ar_at (ar_own hrow) hp1
      obtain ⟨rfl, rfl⟩ : b0 = b1 ∧ 0 = o1 := by injection e3 with e1; injection e1 with a b; exact ⟨a, b⟩
      obtain ⟨V, hV⟩ : ∃ V, cmpV y.t x.t = V := ⟨_, rfl⟩
      have HV := Lib.hid hV
      have HXY := Lib.hid (And.intro hx hy)
      have HE := Lib.hid ebd
      have ij : (s : Int) < (r : Int) := by omega
      have s1 : (0 : Int) ≤ (s : Int) + (r : Int) := by omega
      have s2 : (s : Int) + (r : Int) ≤ 2002 := by omega
      have hz : (h : Int) < (N : Int) := by omega
      have qz : (q : Int) < (N : Int) := by omega
      have qm : q ≤ 1000 := by omega
      have hm : h ≤ 1000 := by omega
      have pm : p ≤ 2000 := by omega
      have qw : IntKind.i64.wrap (q : Int) = (q : Int) := IntWalk.i64_in _ (by omega)
      clear hrow hl1 hl2 e3 hh hq hx hy ebd
      by_cases hyx : y.t < x.t
      · have hV0 : V < 0 := by rw [← hV]; unfold cmpV; rw [if_pos hyx]; omega
        have gV : decide (V < 0) = true := decide_eq_true hV0
        have HYX := Lib.hid hyx
        clear hV hyx
        have hS0 : wr.drew.cell? ⟨b0, h * 2, none⟩ = some (.int .i64 x.t) ∧ wr.drew.cell? ⟨b0, h * 2 + 1, none⟩ = some (.int .i64 x.z) ∧ wr.drew.cell? ⟨b0, q * 2, none⟩ = some (.int .i64 y.t) ∧ wr.drew.cell? ⟨b0, q * 2 + 1, none⟩ = some (.int .i64 y.z) ∧ Below wr.heap.size wr wr.drew := ⟨c0, c1, c2, c3, (Below.refl _ _).drew⟩
        go_wp2_with fail
        refine wp_region_held_drew (S := fun w' => w'.cell? ⟨b0, h * 2, none⟩ = some (.int .i64 x.t) ∧ w'.cell? ⟨b0, h * 2 + 1, none⟩ = some (.int .i64 x.z) ∧ w'.cell? ⟨b0, q * 2, none⟩ = some (.int .i64 y.t) ∧ w'.cell? ⟨b0, q * 2 + 1, none⟩ = some (.int .i64 y.z) ∧ Below wr.heap.size wr w') (by kernel_rfl) hS0 (fun hH => ?_)
        refine wpAnyH_take (i := 0) (oi := { dst := some 158, op := Op.move (Operand.tmp 4), type := 39, pos := "zsortanyfunc.go:441", after := #[], guard := none }) (v := ?_) rfl (by kernel_rfl) (by kernel_rfl) (by kernel_rfl) (fun _ _ _ h => h) (Or.inl ⟨by rfl, ?_⟩) hS0 ?_
        rotate_left
        · (intro w9 hSw; (try dsimp only at hSw); go_simp; try with_reducible rfl)
        try simp only [Act.put, List.setIfInBounds_toArray, List.set_cons_zero, List.set_cons_succ]
        refine wpAnyH_take (i := 1) (oi := { dst := some 159, op := Op.move (Operand.tmp 0), type := 24, pos := "zsortanyfunc.go:441", after := #[], guard := none }) (v := ?_) rfl (by kernel_rfl) (by kernel_rfl) (by kernel_rfl) (fun _ _ _ h => h) (Or.inl ⟨by rfl, ?_⟩) hS0 ?_
        rotate_left
        · (intro w9 hSw; (try dsimp only at hSw); go_simp; try with_reducible rfl)
        try simp only [Act.put, List.setIfInBounds_toArray, List.set_cons_zero, List.set_cons_succ]
        refine wpAnyH_take (i := 2) (oi := { dst := some 160, op := Op.move (Operand.tmp 22), type := 3, pos := "zsortanyfunc.go:441", after := #[], guard := none }) (v := ?_) rfl (by kernel_rfl) (by kernel_rfl) (by kernel_rfl) (fun _ _ _ h => h) (Or.inl ⟨by rfl, ?_⟩) hS0 ?_
        rotate_left
        · (intro w9 hSw; (try dsimp only at hSw); go_simp; try with_reducible rfl)
        try simp only [Act.put, List.setIfInBounds_toArray, List.set_cons_zero, List.set_cons_succ]
        refine wpAnyH_take (i := 3) (oi := { dst := some 161, op := Op.move (Operand.tmp 23), type := 3, pos := "zsortanyfunc.go:441", after := #[], guard := none }) (v := ?_) rfl (by kernel_rfl) (by kernel_rfl) (by kernel_rfl) (fun _ _ _ h => h) (Or.inl ⟨by rfl, ?_⟩) hS0 ?_
        rotate_left
        · (intro w9 hSw; (try dsimp only at hSw); go_simp; try with_reducible rfl)
        try simp only [Act.put, List.setIfInBounds_toArray, List.set_cons_zero, List.set_cons_succ]
        refine wpAnyH_take (i := 4) (oi := { dst := some 162, op := Op.binOp BinOp.sub 3 (Operand.tmp 160) (Operand.tmp 161) 3, type := 3, pos := "zsortanyfunc.go:441", after := #[{ on := 2, ground := Ground.data }, { on := 3, ground := Ground.data }], guard := none }) (v := ?_) rfl (by kernel_rfl) (by kernel_rfl) (by kernel_rfl) (fun _ _ _ h => h) (Or.inl ⟨by rfl, ?_⟩) hS0 ?_
        rotate_left
        · (intro w9 hSw; (try dsimp only at hSw); go_simp; try with_reducible rfl)
        try simp only [Act.put, List.setIfInBounds_toArray, List.set_cons_zero, List.set_cons_succ]
        refine wpAnyH_take (i := 5) (oi := { dst := some 163, op := Op.indexAddr 24 (Operand.tmp 159) (Operand.tmp 162), type := 0, pos := "zsortanyfunc.go:441", after := #[{ on := 1, ground := Ground.data }, { on := 4, ground := Ground.data }], guard := none }) (v := ?_) rfl (by kernel_rfl) (by kernel_rfl) (by kernel_rfl) (fun _ _ _ h => h) (Or.inl ⟨by rfl, ?_⟩) hS0 ?_
        rotate_left
        · (intro w9 hSw; (try dsimp only at hSw); go_simp; try with_reducible rfl)
        try simp only [Act.put, List.setIfInBounds_toArray, List.set_cons_zero, List.set_cons_succ]
        refine wpAnyH_take (i := 6) (oi := { dst := some 164, op := Op.load 33 (Operand.tmp 163), type := 33, pos := "zsortanyfunc.go:441", after := #[{ on := 5, ground := Ground.data }], guard := none }) (v := ?_) rfl (by kernel_rfl) (by kernel_rfl) (by kernel_rfl) (fun _ _ _ h => h) (Or.inl ⟨by rfl, ?_⟩) hS0 ?_
        rotate_left
        · (intro w9 hSw; (try dsimp only at hSw); go_simp; try with_reducible rfl)
        try simp only [Act.put, List.setIfInBounds_toArray, List.set_cons_zero, List.set_cons_succ]
        refine wpAnyH_take (i := 7) (oi := { dst := some 165, op := Op.move (Operand.tmp 0), type := 24, pos := "zsortanyfunc.go:441", after := #[], guard := none }) (v := ?_) rfl (by kernel_rfl) (by kernel_rfl) (by kernel_rfl) (fun _ _ _ h => h) (Or.inl ⟨by rfl, ?_⟩) hS0 ?_
        rotate_left
        · (intro w9 hSw; (try dsimp only at hSw); go_simp; try with_reducible rfl)
        try simp only [Act.put, List.setIfInBounds_toArray, List.set_cons_zero, List.set_cons_succ]
        refine wpAnyH_take (i := 8) (oi := { dst := some 166, op := Op.move (Operand.tmp 23), type := 3, pos := "zsortanyfunc.go:441", after := #[], guard := none }) (v := ?_) rfl (by kernel_rfl) (by kernel_rfl) (by kernel_rfl) (fun _ _ _ h => h) (Or.inl ⟨by rfl, ?_⟩) hS0 ?_
        rotate_left
        · (intro w9 hSw; (try dsimp only at hSw); go_simp; try with_reducible rfl)
        try simp only [Act.put, List.setIfInBounds_toArray, List.set_cons_zero, List.set_cons_succ]
        refine wpAnyH_take (i := 9) (oi := { dst := some 167, op := Op.indexAddr 24 (Operand.tmp 165) (Operand.tmp 166), type := 0, pos := "zsortanyfunc.go:441", after := #[{ on := 7, ground := Ground.data }, { on := 8, ground := Ground.data }], guard := none }) (v := ?_) rfl (by kernel_rfl) (by kernel_rfl) (by kernel_rfl) (fun _ _ _ h => h) (Or.inl ⟨by rfl, ?_⟩) hS0 ?_
        rotate_left
        · (intro w9 hSw; (try dsimp only at hSw); go_simp; try with_reducible rfl)
        try simp only [Act.put, List.setIfInBounds_toArray, List.set_cons_zero, List.set_cons_succ]
        refine wpAnyH_take (i := 10) (oi := { dst := some 168, op := Op.load 33 (Operand.tmp 167), type := 33, pos := "zsortanyfunc.go:441", after := #[{ on := 9, ground := Ground.data }], guard := none }) (v := ?_) rfl (by kernel_rfl) (by kernel_rfl) (by kernel_rfl) (fun _ _ _ h => h) (Or.inl ⟨by rfl, ?_⟩) hS0 ?_
        rotate_left
        · (intro w9 hSw; (try dsimp only at hSw); go_simp; try with_reducible rfl)
        try simp only [Act.put, List.setIfInBounds_toArray, List.set_cons_zero, List.set_cons_succ]
        refine wpAnyH_ready (rs := [11]) (by kernel_rfl) (by simp) ?_
        refine AllReadyH.cons (o := { dst := some 169, op := Op.call { callee := Callee.value (Operand.tmp 158), args := #[Operand.tmp 164, Operand.tmp 168], argTypes := #[33, 33] }, type := 3, pos := "zsortanyfunc.go:441", after := #[{ on := 0, ground := Ground.data }, { on := 6, ground := Ground.data }, { on := 10, ground := Ground.data }], guard := none }) rfl (fun K hK => ?_) AllReadyH.nil
        go_simp
        go_at_call 16
        refine (cmpA_any y x V _ HV.out).mono ?_
        rintro e w3 ⟨rfl, hb3⟩
        have hS3 : w3.cell? ⟨b0, h * 2, none⟩ = some (.int .i64 x.t) ∧ w3.cell? ⟨b0, h * 2 + 1, none⟩ = some (.int .i64 x.z) ∧ w3.cell? ⟨b0, q * 2, none⟩ = some (.int .i64 y.t) ∧ w3.cell? ⟨b0, q * 2 + 1, none⟩ = some (.int .i64 y.z) ∧ Below wr.heap.size wr w3 := ⟨((bcell hb3).1 _ _ hbl).trans c0, ((bcell hb3).1 _ _ hbl).trans c1, ((bcell hb3).1 _ _ hbl).trans c2, ((bcell hb3).1 _ _ hbl).trans c3, below_seq hS0.2.2.2.2 hb3⟩
        have HS3 := Lib.hid hS3
        clear hb3
        refine hK.out _ _ hS3 (fun hH => ?_)
        clear hK K
        try simp only [Act.put, List.setIfInBounds_toArray, List.set_cons_zero, List.set_cons_succ]
        refine wpAnyH_take (i := 12) (oi := { dst := some 170, op := Op.binOp BinOp.lss 3 (Operand.tmp 169) (Operand.const (Value.int IntKind.i64 0)) 3, type := 4, pos := "zsortanyfunc.go:441", after := #[{ on := 11, ground := Ground.data }], guard := none }) (v := ?_) rfl (by kernel_rfl) (by kernel_rfl) (by kernel_rfl) (fun _ _ _ h => h) (Or.inl ⟨by rfl, ?_⟩) hS3 ?_
        rotate_left
        · (intro w9 hSw; (try dsimp only at hSw); go_simp; try with_reducible rfl)
        try simp only [Act.put, List.setIfInBounds_toArray, List.set_cons_zero, List.set_cons_succ]
        refine wpAnyH_take (i := 13) (oi := { dst := some 171, op := Op.unOp UnOp.not 4 (Operand.tmp 170), type := 4, pos := "zsortanyfunc.go:441", after := #[{ on := 12, ground := Ground.data }], guard := none }) (v := ?_) rfl (by kernel_rfl) (by kernel_rfl) (by kernel_rfl) (fun _ _ _ h => h) (Or.inl ⟨by rfl, ?_⟩) hS3 ?_
        rotate_left
        · (intro w9 hSw; (try dsimp only at hSw); go_simp; try with_reducible rfl)
        try simp only [Act.put, List.setIfInBounds_toArray, List.set_cons_zero, List.set_cons_succ]
        refine wpAnyH_done (by kernel_rfl) ?_ _
        go_wp2
        go_roundw
        case rel =>
          have h6 := HE.out
          refine ⟨s, h, rfl, rfl, hs, by omega, by omega, G1, Lib.hid (.inr ⟨x, y, HXY.out.1, ?_, HYX.out⟩), own_below HO.out HS3.out.2.2.2.2, g_below HG.out HS3.out.2.2.2.2⟩
          rw [show n - 1 - h - m = q - m by have := HM.out; omega]
          exact HXY.out.2
        case measure => (have := HE.out); simp [intOf]; omega
      · have hV0 : 0 ≤ V := by rw [← hV]; unfold cmpV; rw [if_neg hyx]; split <;> omega
        have gV : decide (V < 0) = false := decide_eq_false (by omega)
        have HYX := Lib.hid hyx
        clear hV hyx
        have hS0 : wr.drew.cell? ⟨b0, h * 2, none⟩ = some (.int .i64 x.t) ∧ wr.drew.cell? ⟨b0, h * 2 + 1, none⟩ = some (.int .i64 x.z) ∧ wr.drew.cell? ⟨b0, q * 2, none⟩ = some (.int .i64 y.t) ∧ wr.drew.cell? ⟨b0, q * 2 + 1, none⟩ = some (.int .i64 y.z) ∧ Below wr.heap.size wr wr.drew := ⟨c0, c1, c2, c3, (Below.refl _ _).drew⟩
        go_wp2_with fail
        refine wp_region_held_drew (S := fun w' => w'.cell? ⟨b0, h * 2, none⟩ = some (.int .i64 x.t) ∧ w'.cell? ⟨b0, h * 2 + 1, none⟩ = some (.int .i64 x.z) ∧ w'.cell? ⟨b0, q * 2, none⟩ = some (.int .i64 y.t) ∧ w'.cell? ⟨b0, q * 2 + 1, none⟩ = some (.int .i64 y.z) ∧ Below wr.heap.size wr w') (by kernel_rfl) hS0 (fun hH => ?_)
        refine wpAnyH_take (i := 0) (oi := { dst := some 158, op := Op.move (Operand.tmp 4), type := 39, pos := "zsortanyfunc.go:441", after := #[], guard := none }) (v := ?_) rfl (by kernel_rfl) (by kernel_rfl) (by kernel_rfl) (fun _ _ _ h => h) (Or.inl ⟨by rfl, ?_⟩) hS0 ?_
        rotate_left
        · (intro w9 hSw; (try dsimp only at hSw); go_simp; try with_reducible rfl)
        try simp only [Act.put, List.setIfInBounds_toArray, List.set_cons_zero, List.set_cons_succ]
        refine wpAnyH_take (i := 1) (oi := { dst := some 159, op := Op.move (Operand.tmp 0), type := 24, pos := "zsortanyfunc.go:441", after := #[], guard := none }) (v := ?_) rfl (by kernel_rfl) (by kernel_rfl) (by kernel_rfl) (fun _ _ _ h => h) (Or.inl ⟨by rfl, ?_⟩) hS0 ?_
        rotate_left
        · (intro w9 hSw; (try dsimp only at hSw); go_simp; try with_reducible rfl)
        try simp only [Act.put, List.setIfInBounds_toArray, List.set_cons_zero, List.set_cons_succ]
        refine wpAnyH_take (i := 2) (oi := { dst := some 160, op := Op.move (Operand.tmp 22), type := 3, pos := "zsortanyfunc.go:441", after := #[], guard := none }) (v := ?_) rfl (by kernel_rfl) (by kernel_rfl) (by kernel_rfl) (fun _ _ _ h => h) (Or.inl ⟨by rfl, ?_⟩) hS0 ?_
        rotate_left
        · (intro w9 hSw; (try dsimp only at hSw); go_simp; try with_reducible rfl)
        try simp only [Act.put, List.setIfInBounds_toArray, List.set_cons_zero, List.set_cons_succ]
        refine wpAnyH_take (i := 3) (oi := { dst := some 161, op := Op.move (Operand.tmp 23), type := 3, pos := "zsortanyfunc.go:441", after := #[], guard := none }) (v := ?_) rfl (by kernel_rfl) (by kernel_rfl) (by kernel_rfl) (fun _ _ _ h => h) (Or.inl ⟨by rfl, ?_⟩) hS0 ?_
        rotate_left
        · (intro w9 hSw; (try dsimp only at hSw); go_simp; try with_reducible rfl)
        try simp only [Act.put, List.setIfInBounds_toArray, List.set_cons_zero, List.set_cons_succ]
        refine wpAnyH_take (i := 4) (oi := { dst := some 162, op := Op.binOp BinOp.sub 3 (Operand.tmp 160) (Operand.tmp 161) 3, type := 3, pos := "zsortanyfunc.go:441", after := #[{ on := 2, ground := Ground.data }, { on := 3, ground := Ground.data }], guard := none }) (v := ?_) rfl (by kernel_rfl) (by kernel_rfl) (by kernel_rfl) (fun _ _ _ h => h) (Or.inl ⟨by rfl, ?_⟩) hS0 ?_
        rotate_left
        · (intro w9 hSw; (try dsimp only at hSw); go_simp; try with_reducible rfl)
        try simp only [Act.put, List.setIfInBounds_toArray, List.set_cons_zero, List.set_cons_succ]
        refine wpAnyH_take (i := 5) (oi := { dst := some 163, op := Op.indexAddr 24 (Operand.tmp 159) (Operand.tmp 162), type := 0, pos := "zsortanyfunc.go:441", after := #[{ on := 1, ground := Ground.data }, { on := 4, ground := Ground.data }], guard := none }) (v := ?_) rfl (by kernel_rfl) (by kernel_rfl) (by kernel_rfl) (fun _ _ _ h => h) (Or.inl ⟨by rfl, ?_⟩) hS0 ?_
        rotate_left
        · (intro w9 hSw; (try dsimp only at hSw); go_simp; try with_reducible rfl)
        try simp only [Act.put, List.setIfInBounds_toArray, List.set_cons_zero, List.set_cons_succ]
        refine wpAnyH_take (i := 6) (oi := { dst := some 164, op := Op.load 33 (Operand.tmp 163), type := 33, pos := "zsortanyfunc.go:441", after := #[{ on := 5, ground := Ground.data }], guard := none }) (v := ?_) rfl (by kernel_rfl) (by kernel_rfl) (by kernel_rfl) (fun _ _ _ h => h) (Or.inl ⟨by rfl, ?_⟩) hS0 ?_
        rotate_left
        · (intro w9 hSw; (try dsimp only at hSw); go_simp; try with_reducible rfl)
        try simp only [Act.put, List.setIfInBounds_toArray, List.set_cons_zero, List.set_cons_succ]
        refine wpAnyH_take (i := 7) (oi := { dst := some 165, op := Op.move (Operand.tmp 0), type := 24, pos := "zsortanyfunc.go:441", after := #[], guard := none }) (v := ?_) rfl (by kernel_rfl) (by kernel_rfl) (by kernel_rfl) (fun _ _ _ h => h) (Or.inl ⟨by rfl, ?_⟩) hS0 ?_
        rotate_left
        · (intro w9 hSw; (try dsimp only at hSw); go_simp; try with_reducible rfl)
        try simp only [Act.put, List.setIfInBounds_toArray, List.set_cons_zero, List.set_cons_succ]
        refine wpAnyH_take (i := 8) (oi := { dst := some 166, op := Op.move (Operand.tmp 23), type := 3, pos := "zsortanyfunc.go:441", after := #[], guard := none }) (v := ?_) rfl (by kernel_rfl) (by kernel_rfl) (by kernel_rfl) (fun _ _ _ h => h) (Or.inl ⟨by rfl, ?_⟩) hS0 ?_
        rotate_left
        · (intro w9 hSw; (try dsimp only at hSw); go_simp; try with_reducible rfl)
        try simp only [Act.put, List.setIfInBounds_toArray, List.set_cons_zero, List.set_cons_succ]
        refine wpAnyH_take (i := 9) (oi := { dst := some 167, op := Op.indexAddr 24 (Operand.tmp 165) (Operand.tmp 166), type := 0, pos := "zsortanyfunc.go:441", after := #[{ on := 7, ground := Ground.data }, { on := 8, ground := Ground.data }], guard := none }) (v := ?_) rfl (by kernel_rfl) (by kernel_rfl) (by kernel_rfl) (fun _ _ _ h => h) (Or.inl ⟨by rfl, ?_⟩) hS0 ?_
        rotate_left
        · (intro w9 hSw; (try dsimp only at hSw); go_simp; try with_reducible rfl)
        try simp only [Act.put, List.setIfInBounds_toArray, List.set_cons_zero, List.set_cons_succ]
        refine wpAnyH_take (i := 10) (oi := { dst := some 168, op := Op.load 33 (Operand.tmp 167), type := 33, pos := "zsortanyfunc.go:441", after := #[{ on := 9, ground := Ground.data }], guard := none }) (v := ?_) rfl (by kernel_rfl) (by kernel_rfl) (by kernel_rfl) (fun _ _ _ h => h) (Or.inl ⟨by rfl, ?_⟩) hS0 ?_
        rotate_left
        · (intro w9 hSw; (try dsimp only at hSw); go_simp; try with_reducible rfl)
        try simp only [Act.put, List.setIfInBounds_toArray, List.set_cons_zero, List.set_cons_succ]
        refine wpAnyH_ready (rs := [11]) (by kernel_rfl) (by simp) ?_
        refine AllReadyH.cons (o := { dst := some 169, op := Op.call { callee := Callee.value (Operand.tmp 158), args := #[Operand.tmp 164, Operand.tmp 168], argTypes := #[33, 33] }, type := 3, pos := "zsortanyfunc.go:441", after := #[{ on := 0, ground := Ground.data }, { on := 6, ground := Ground.data }, { on := 10, ground := Ground.data }], guard := none }) rfl (fun K hK => ?_) AllReadyH.nil
        go_simp
        go_at_call 16
        refine (cmpA_any y x V _ HV.out).mono ?_
        rintro e w3 ⟨rfl, hb3⟩
        have hS3 : w3.cell? ⟨b0, h * 2, none⟩ = some (.int .i64 x.t) ∧ w3.cell? ⟨b0, h * 2 + 1, none⟩ = some (.int .i64 x.z) ∧ w3.cell? ⟨b0, q * 2, none⟩ = some (.int .i64 y.t) ∧ w3.cell? ⟨b0, q * 2 + 1, none⟩ = some (.int .i64 y.z) ∧ Below wr.heap.size wr w3 := ⟨((bcell hb3).1 _ _ hbl).trans c0, ((bcell hb3).1 _ _ hbl).trans c1, ((bcell hb3).1 _ _ hbl).trans c2, ((bcell hb3).1 _ _ hbl).trans c3, below_seq hS0.2.2.2.2 hb3⟩
        have HS3 := Lib.hid hS3
        clear hb3
        refine hK.out _ _ hS3 (fun hH => ?_)
        clear hK K
        try simp only [Act.put, List.setIfInBounds_toArray, List.set_cons_zero, List.set_cons_succ]
        refine wpAnyH_take (i := 12) (oi := { dst := some 170, op := Op.binOp BinOp.lss 3 (Operand.tmp 169) (Operand.const (Value.int IntKind.i64 0)) 3, type := 4, pos := "zsortanyfunc.go:441", after := #[{ on := 11, ground := Ground.data }], guard := none }) (v := ?_) rfl (by kernel_rfl) (by kernel_rfl) (by kernel_rfl) (fun _ _ _ h => h) (Or.inl ⟨by rfl, ?_⟩) hS3 ?_
        rotate_left
        · (intro w9 hSw; (try dsimp only at hSw); go_simp; try with_reducible rfl)
        try simp only [Act.put, List.setIfInBounds_toArray, List.set_cons_zero, List.set_cons_succ]
        refine wpAnyH_take (i := 13) (oi := { dst := some 171, op := Op.unOp UnOp.not 4 (Operand.tmp 170), type := 4, pos := "zsortanyfunc.go:441", after := #[{ on := 12, ground := Ground.data }], guard := none }) (v := ?_) rfl (by kernel_rfl) (by kernel_rfl) (by kernel_rfl) (fun _ _ _ h => h) (Or.inl ⟨by rfl, ?_⟩) hS3 ?_
        rotate_left
        · (intro w9 hSw; (try dsimp only at hSw); go_simp; try with_reducible rfl)
        try simp only [Act.put, List.setIfInBounds_toArray, List.set_cons_zero, List.set_cons_succ]
        refine wpAnyH_done (by kernel_rfl) ?_ _
        go_wp2
        go_roundw
        case rel =>
          have h6 := HE.out
          refine ⟨h + 1, r, by go_num, rfl, by omega, by omega, hr, Lib.hid (.inr ⟨x, y, ?_, ?_, by have := HYX.out; omega⟩), G2, own_below HO.out HS3.out.2.2.2.2, g_below HG.out HS3.out.2.2.2.2⟩
          · rw [show h + 1 - 1 - a = h - a by omega]
            exact HXY.out.1
          · rw [show n - (h + 1) - m = q - m by have := HM.out; omega]
            exact HXY.out.2
        case measure => (have := HE.out); simp [intOf]; omega
    · obtain rfl : s = r := by omega
      have HCUT := Lib.hid (cut_of (s := s) (s0 := a) (r0 := m) hX hY HM.out.2.1 SXY.out.1 SXY.out.2 HB.out.1 hs hr HB.out.2.2.2.1 (.inl rfl) (.inl rfl) G1.out G2.out)
      have SPL : X = X.take (s - a) ++ X.drop (s - a) ∧ Y = Y.take (mid - s) ++ Y.drop (mid - s) := ⟨(List.take_append_drop _ _).symm, (List.take_append_drop _ _).symm⟩
      obtain ⟨e, he⟩ : ∃ e, e = n - s := ⟨_, rfl⟩
      have ebd : a ≤ s ∧ s ≤ mid ∧ s ≤ m ∧ m ≤ e ∧ mid ≤ e ∧ e ≤ bb ∧ e + s = mid + m ∧ mid < bb ∧ a < mid ∧ mid - a ≤ k ∧ bb - mid ≤ k ∧ n = e + s := by
        have q1 := HB.out
        have q2 := HM.out
        have q3 := HBR.out
        omega
      have LEN : (X.take (s - a)).length = s - a ∧ (X.drop (s - a)).length = m - s ∧ (Y.take (mid - s)).length = mid - s ∧ (Y.drop (mid - s)).length = bb - e := by
        rw [List.length_take, List.length_drop, List.length_take, List.length_drop]
        omega
      have VAL : avL 0 (X.take (s - a)) = true ∧ avL 0 (X.drop (s - a)) = true ∧ avL 0 (Y.take (mid - s)) = true ∧ avL 0 (Y.drop (mid - s)) = true := ⟨av_takeW SXY.out.1 _, av_dropW SXY.out.1 _, av_takeW SXY.out.2 _, av_dropW SXY.out.2 _⟩
      have HO1 : RowA wr base b0 N c (P ++ X.take (s - a) ++ X.drop (s - a) ++ Y.take (mid - s) ++ (Y.drop (mid - s) ++ Q)) := by
        have := HO.out
        rw [SPL.1, SPL.2] at this
        simp only [List.append_assoc] at this ⊢
        exact this
      obtain ⟨X1, hX1⟩ : ∃ X1, X1 = X.take (s - a) := ⟨_, rfl⟩
      obtain ⟨X2, hX2⟩ : ∃ X2, X2 = X.drop (s - a) := ⟨_, rfl⟩
      obtain ⟨Y1, hY1⟩ : ∃ Y1, Y1 = Y.take (mid - s) := ⟨_, rfl⟩
      obtain ⟨Y2, hY2⟩ : ∃ Y2, Y2 = Y.drop (mid - s) := ⟨_, rfl⟩
      rw [← hX1, ← hX2, ← hY1, ← hY2] at HCUT LEN VAL HO1
      have x1 : (n : Int) - (s : Int) = (e : Int) := by omega
      have HL := Lib.hid LEN
      have HVL := Lib.hid VAL
      have HO2 := Lib.hid HO1
      have EB := Lib.hid ebd
      clear SPL LEN VAL HO1 ebd hX1 hX2 hY1 hY2 HO SXY G1 G2 hs hsr hr he
      go_upto_region 39 with fail
      go_cut [20, 185] from 178 to 185 (fun s20 sd wx => s20 = .int .i64 (s : Int) ∧ sd = .bool (decide (s < m ∧ m < e)) ∧ wx = wr)
      case first =>
        by_cases c1 : s < m
        · have g1 : (s : Int) < (m : Int) := by omega
          by_cases c2 : m < e
          · have g2 : (m : Int) < (e : Int) := by omega
            have HC := Lib.hid (show decide (s < m ∧ m < e) = true from decide_eq_true ⟨c1, c2⟩)
            go_wp2_with fail
            go_meet
            case rel => exact ⟨rfl, by rw [HC.out], rfl⟩
          · have g2 : decide ((m : Int) < (e : Int)) = false := decide_eq_false (by omega)
            have g2' : ¬ (m : Int) < (e : Int) := by omega
            have HC := Lib.hid (show decide (s < m ∧ m < e) = false from decide_eq_false (fun h => c2 h.2))
            go_wp2_with fail
            go_meet
            case rel => exact ⟨rfl, by rw [HC.out], rfl⟩
        · have g1 : decide ((s : Int) < (m : Int)) = false := decide_eq_false (by omega)
          have g1' : ¬ (s : Int) < (m : Int) := by omega
          have HC := Lib.hid (show decide (s < m ∧ m < e) = false from decide_eq_false (fun h => c1 h.1))
          go_wp2_with fail
          go_meet
          case rel => exact ⟨rfl, by rw [HC.out], rfl⟩
      case rest =>
        obtain ⟨rfl, rfl, rfl⟩ := hcut
        go_upto_if 185 with fail
        go_cut [20] from 178 to 191 (fun s20 wx => s20 = .int .i64 (s : Int) ∧ RowA wx base b0 N c (P ++ X1 ++ Y1 ++ (X2 ++ Y2 ++ Q)) ∧ w.grownBy wx (some b0))
        case first =>
          by_cases cc : s < m ∧ m < e
          · rw [decide_eq_true cc]
            have CC := Lib.hid cc
            clear cc
            go_wp2_with (go_at_call 25
                         refine (roI_any base b0 N c s m e _ (P ++ X1) X2 Y1 (Y2 ++ Q) _ (by have := HO2.out; simpa using this) hN (by rw [List.length_append]; have := HL.out; have := EB.out; omega) (by have := HL.out; have := CC.out; omega) (by have := HL.out; have := EB.out; omega) CC.out.1 CC.out.2).mono ?_
                         rintro e' w1 ⟨rfl, ho1, hg1⟩
                         have O1 := Lib.hid ho1
                         have GG1 := Lib.hid (HG.out.trans hg1)
                         clear ho1 hg1)
            go_meet
            case rel => exact ⟨rfl, by have := O1.out; simp only [List.append_assoc] at this ⊢; exact this, GG1.out⟩
          · rw [decide_eq_false cc]
            have HE : Hid (X2 = [] ∨ Y1 = []) := Lib.hid (by
              have h1 := HL.out
              have h2 := EB.out
              by_cases h3 : s < m
              · exact .inr (List.eq_nil_of_length_eq_zero (by omega))
              · exact .inl (List.eq_nil_of_length_eq_zero (by omega)))
            clear cc
            go_wp2_with fail
            go_meet
            case rel =>
              refine ⟨rfl, ?_, HG.out⟩
              have h4 := HO2.out
              rcases HE.out with h3 | h3
              · rw [h3] at h4 ⊢; simpa using h4
              · rw [h3] at h4 ⊢; simpa using h4
        case rest =>
          obtain ⟨rfl, o3, g3⟩ := hcut
          have O3 := Lib.hid o3
          have G3 := Lib.hid g3
          clear o3 g3
          go_upto_region 41 with fail
          go_cut [20, 199] from 192 to 199 (fun s20 sd wx => s20 = .int .i64 (s : Int) ∧ sd = .bool (decide (a < s ∧ s < mid)) ∧ wx = wc)
          case first =>
            by_cases c1 : a < s
            · have g1 : (a : Int) < (s : Int) := by omega
              by_cases c2 : s < mid
              · have g2 : (s : Int) < (mid : Int) := by omega
                have HC := Lib.hid (show decide (a < s ∧ s < mid) = true from decide_eq_true ⟨c1, c2⟩)
                go_wp2_with fail
                go_meet
                case rel => exact ⟨rfl, by rw [HC.out], rfl⟩
              · have g2 : decide ((s : Int) < (mid : Int)) = false := decide_eq_false (by omega)
                have g2' : ¬ (s : Int) < (mid : Int) := by omega
                have HC := Lib.hid (show decide (a < s ∧ s < mid) = false from decide_eq_false (fun h => c2 h.2))
                go_wp2_with fail
                go_meet
                case rel => exact ⟨rfl, by rw [HC.out], rfl⟩
            · have g1 : decide ((a : Int) < (s : Int)) = false := decide_eq_false (by omega)
              have g1' : ¬ (a : Int) < (s : Int) := by omega
              have HC := Lib.hid (show decide (a < s ∧ s < mid) = false from decide_eq_false (fun h => c1 h.1))
              go_wp2_with fail
              go_meet
              case rel => exact ⟨rfl, by rw [HC.out], rfl⟩
          case rest =>
            obtain ⟨rfl, rfl, rfl⟩ := hcut
            go_upto_if 199 with fail
            go_cut [20] from 192 to 205 (fun s20 wx => s20 = .int .i64 (s : Int) ∧ RowA wx base b0 N c (P ++ finA X1 Y1 ++ X2 ++ Y2 ++ Q) ∧ w.grownBy wx (some b0))
            case first =>
              by_cases cc : a < s ∧ s < mid
              · rw [decide_eq_true cc]
                have CC := Lib.hid cc
                clear cc
                go_wp2_with (go_at_call 24
                             refine (IH base b0 N c a s mid P X1 Y1 (X2 ++ Y2 ++ Q) _ O3.out hN ha (by have := HL.out; have := CC.out; omega) (by have := HL.out; have := CC.out; omega) CC.out.1 CC.out.2 (by have := EB.out; omega) HVL.out.1 HVL.out.2.2.1).mono ?_
                             rintro e' w1 ⟨rfl, ho1, hg1⟩
                             have O4 := Lib.hid ho1
                             have G4 := Lib.hid (G3.out.trans hg1)
                             clear ho1 hg1)
                go_meet
                case rel => exact ⟨rfl, by have := O4.out; simp only [List.append_assoc] at this ⊢; exact this, G4.out⟩
              · rw [decide_eq_false cc]
                have HE : Hid (finA X1 Y1 = X1 ++ Y1) := Lib.hid (by
                  have h1 := HL.out
                  have h2 := EB.out
                  by_cases h3 : a < s
                  · have h4 : Y1 = [] := List.eq_nil_of_length_eq_zero (by omega)
                    rw [h4]; simp [finA]
                  · have h4 : X1 = [] := List.eq_nil_of_length_eq_zero (by omega)
                    rw [h4, finA_nil HVL.out.2.2.1]; rfl)
                clear cc
                go_wp2_with fail
                go_meet
                case rel => exact ⟨rfl, by have := O3.out; rw [HE.out]; simp only [List.append_assoc] at this ⊢; exact this, G3.out⟩
            case rest =>
              obtain ⟨rfl, o5, g5⟩ := hcut
              have O5 := Lib.hid o5
              have G5 := Lib.hid g5
              have hlA : (P ++ finA X1 Y1).length = mid := by rw [List.length_append, finA_len]; have := HL.out; have := EB.out; omega
              have HLA := Lib.hid hlA
              clear o5 g5 hlA
              go_upto_region 43 with fail
              go_cut [20, 213] from 206 to 213 (fun s20 sd wx => s20 = .int .i64 (s : Int) ∧ sd = .bool (decide (mid < e ∧ e < bb)) ∧ wx = wc)
              case first =>
                by_cases c1 : mid < e
                · have g1 : (mid : Int) < (e : Int) := by omega
                  by_cases c2 : e < bb
                  · have g2 : (e : Int) < (bb : Int) := by omega
                    have HC := Lib.hid (show decide (mid < e ∧ e < bb) = true from decide_eq_true ⟨c1, c2⟩)
                    go_wp2_with fail
                    go_meet
                    case rel => exact ⟨rfl, by rw [HC.out], rfl⟩
                  · have g2 : decide ((e : Int) < (bb : Int)) = false := decide_eq_false (by omega)
                    have g2' : ¬ (e : Int) < (bb : Int) := by omega
                    have HC := Lib.hid (show decide (mid < e ∧ e < bb) = false from decide_eq_false (fun h => c2 h.2))
                    go_wp2_with fail
                    go_meet
                    case rel => exact ⟨rfl, by rw [HC.out], rfl⟩
                · have g1 : decide ((mid : Int) < (e : Int)) = false := decide_eq_false (by omega)
                  have g1' : ¬ (mid : Int) < (e : Int) := by omega
                  have HC := Lib.hid (show decide (mid < e ∧ e < bb) = false from decide_eq_false (fun h => c1 h.1))
                  go_wp2_with fail
                  go_meet
                  case rel => exact ⟨rfl, by rw [HC.out], rfl⟩
              case rest =>
                obtain ⟨rfl, rfl, rfl⟩ := hcut
                by_cases cc : mid < e ∧ e < bb
                · rw [decide_eq_true cc]
                  have CC := Lib.hid cc
                  clear cc
                  go_wp2_with (go_at_call 24
                               refine (IH base b0 N c mid e bb (P ++ finA X1 Y1) X2 Y2 Q _ O5.out hN HLA.out (by have := HL.out; have := EB.out; omega) (by have := HL.out; have := EB.out; omega) CC.out.1 CC.out.2 (by have := EB.out; omega) HVL.out.2.1 HVL.out.2.2.2).mono ?_
                               rintro e' w1 ⟨rfl, ho1, hg1⟩
                               have O6 := Lib.hid ho1
                               have G6 := Lib.hid (G5.out.trans hg1)
                               clear ho1 hg1)
                  go_end0
                  exact ⟨rfl, by rw [HCUT.out]; have := O6.out; simp only [List.append_assoc] at this ⊢; exact this, G6.out⟩
                · rw [decide_eq_false cc]
                  have HE : Hid (finA X2 Y2 = X2 ++ Y2) := Lib.hid (by
                    have h1 := HL.out
                    have h2 := EB.out
                    by_cases h3 : mid < e
                    · have h4 : Y2 = [] := List.eq_nil_of_length_eq_zero (by omega)
                      rw [h4]; simp [finA]
                    · have h4 : X2 = [] := List.eq_nil_of_length_eq_zero (by omega)
                      rw [h4, finA_nil HVL.out.2.2.2]; rfl)
                  clear cc
                  go_wp2
                  go_end0
                  exact ⟨rfl, by rw [HCUT.out, HE.out]; have := O5.out; simp only [List.append_assoc] at this ⊢; exact this, G5.out⟩
end Go.Proofs.Ytaccbmgbkalknab
