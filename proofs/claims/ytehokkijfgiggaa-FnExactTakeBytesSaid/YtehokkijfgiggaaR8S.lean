/-
  Chapter 5: WaitingOf and LeaveRobin: what the model's functions return. Conditions: none.
-/
import Derived.Test.YtehokkijfgiggaaR8
namespace Go.Proofs.Ytehokkijfgiggaa
open Go.RowKit

set_option maxHeartbeats 2000000 in
theorem woS_no (q : Int) (A : Option Addr) (n c : Nat) (fs : List Flw) (x : Int) (w : World) (h : FR w A n fs) (hk : ¬ LvOk q fs x) :
    Calls Try.prog 34 #[.agg #[.int .i64 q, (.slice A n c)], .int .i64 x] w (TaNo w) := by
  have H := Lib.hid h
  have B0 := Lib.hid (below_alloc (Below.refl w.heap.size w) (.cells #[.int .i64 q, (.slice A n c)] 25))
  obtain ⟨v, hv⟩ : ∃ v, rvB q fs = v := ⟨_, rfl⟩
  have hb : v = false ∨ (v = true ∧ x < 0) ∨ (v = true ∧ 0 ≤ x ∧ 8 ≤ x) := by
    rcases v with _ | _
    · exact .inl rfl
    · have := fun h => hk ⟨rv_iff.1 hv, h⟩
      rcases Int.lt_or_le x 0 with hx | hx
      · exact .inr (.inl ⟨rfl, hx⟩)
      · exact .inr (.inr ⟨rfl, hx, by rcases Int.lt_or_le 7 x with h | h; exact h; exact absurd ⟨hx, h⟩ this⟩)
  have HR := Lib.hid hv
  clear h hk hv
  rcases hb with rfl | ⟨rfl, hx⟩ | ⟨rfl, hx, hx2⟩
  · go_enter Try.func34, Try.ntmps34
    go_wp2_with (go_at_call 36
                 refine (rvS_any q A n c fs _ (fr_allocF H.out _)).mono ?_
                 rintro e w1 ⟨rfl, hb1⟩
                 rw [HR.out]
                 have B1 := Lib.hid (below_seq B0.out hb1)
                 clear hb1)
    go_ret2
    exact ⟨_, 0, rfl, own_mono (own_emptyQ rfl) (B1.out.size), below_alloc B1.out _⟩
  · have hd : decide (x < 0) = true := decide_eq_true hx
    go_enter Try.func34, Try.ntmps34
    go_wp2_with (go_at_call 36
                 refine (rvS_any q A n c fs _ (fr_allocF H.out _)).mono ?_
                 rintro e w1 ⟨rfl, hb1⟩
                 rw [HR.out]
                 have B1 := Lib.hid (below_seq B0.out hb1)
                 clear hb1)
    go_ret2
    exact ⟨_, 0, rfl, own_mono (own_emptyQ rfl) (B1.out.size), below_alloc B1.out _⟩
  · have hd : decide (x < 0) = false := decide_eq_false (by omega)
    have hd2 : decide (8 ≤ x) = true := decide_eq_true hx2
    go_enter Try.func34, Try.ntmps34
    go_wp2_with (go_at_call 36
                 refine (rvS_any q A n c fs _ (fr_allocF H.out _)).mono ?_
                 rintro e w1 ⟨rfl, hb1⟩
                 rw [HR.out]
                 have B1 := Lib.hid (below_seq B0.out hb1)
                 clear hb1)
    go_ret2
    exact ⟨_, 0, rfl, own_mono (own_emptyQ rfl) (B1.out.size), below_alloc B1.out _⟩
set_option maxHeartbeats 2000000 in
theorem woS_yes (q : Int) (A : Option Addr) (n c : Nat) (fs : List Flw) (x : Int) (w : World) (h : FR w A n fs) (hk : LvOk q fs x) :
    Calls Try.prog 34 #[.agg #[.int .i64 q, (.slice A n c)], .int .i64 x] w (WoYes w fs x) := by
  have H := Lib.hid h
  have F := Lib.hid (fm_one w 25 #[.int .i64 q, (.slice A n c)])
  have HR := Lib.hid (rv_yes hk.1)
  have hl := (fr_lenF h).1
  have h8 := rv_len hk.1
  have hd1 : decide (x < 0) = false := decide_eq_false (by have := hk.2; omega)
  have hd2 : decide (8 ≤ x) = false := decide_eq_false (by have := hk.2; omega)
  clear h hk
  by_cases hlt : fix fs x < fs.length
  · obtain ⟨f, hf, hw, hp⟩ := leave_some hlt
    obtain ⟨k, hk⟩ : ∃ k, k = fix fs x := ⟨_, rfl⟩
    rw [← hk] at hf hp hlt
    have HF := Lib.hid hf
    have HW := Lib.hid hw
    have HP := Lib.hid hp
    have hkn : k < n := by omega
    have hkn0 : (0 : Int) ≤ (k : Int) := by omega
    have hkn1 : (k : Int) < (n : Int) := by omega
    have hd : decide ((k : Int) < 0) = false := decide_eq_false (by omega)
    clear hf hw hp hk hl
    go_enter Try.func34, Try.ntmps34
    go_wp2_with (first
      | (go_at_call 36
         refine (rvS_any q A n c fs _ (fr_allocF H.out _)).mono ?_
         rintro e w1 ⟨rfl, hb1⟩
         rw [HR.out]
         have F1 := Lib.hid (fm_below F.out hb1)
         obtain ⟨g0, g1, -⟩ := blk_two (fm_blk F1.out 0 rfl)
         clear hb1)
      | (go_at_call 68
         refine (findS_any q A n c fs x _ (fr_belowF H.out F1.out.below)).mono ?_
         rintro e w2 ⟨rfl, hb2⟩
         rw [HP.out]
         have F2 := Lib.hid (fm_below F1.out hb2)
         clear hb2 g0 g1
         obtain ⟨g0, g1, -⟩ := blk_two (fm_blk F2.out 0 rfl)
         have zg0 := blk_lt (fm_blk F2.out 0 rfl)
         obtain ⟨b, off, f', A1, n1, c1, hA, hbl, hf', c0, c1', c2', hpr, hc1, hn1⟩ := fr_cells (fr_belowF H.out F2.out.below) hkn
         obtain rfl := hA
         obtain rfl : f = f' := (by have := HF.out; rw [hf'] at this; exact (Option.some.inj this).symm)
         have PP := Lib.hid hpr
         have O2 := Lib.hid (own_emptyQ (W := w2) rfl)
         clear hpr hf')
      | (at_builtin
         refine wpl_app_pkts _ rfl (.tmp 25) (.tmp 31) rfl w2.heap.size (.slice (some ⟨w2.heap.size, 0, none⟩) 0 0) 0 [] rfl O2.out A1 n1 c1 f.ws rfl (pr_alloc PP.out _) (by omega) (by simp) ?_
         intro v3 w3 ho3 hg3 hat3
         simp only [List.nil_append, Nat.zero_add] at ho3
         obtain ⟨A3, c3, rfl, -, -, -⟩ := own_form ho3
         have B3 := Lib.hid (below_seq F2.out.below (app_belowQ O2.out (below_alloc (Below.refl _ _) _) hg3 (by simp)))
         have O3 := Lib.hid (own_mono (b2 := w.heap.size) ho3 (F2.out.below.size))
         clear ho3 hg3 hat3))
    go_ret2
    exact ⟨A3, n1, c3, rfl, by rw [HW.out]; exact PP.out.1.symm, by rw [HW.out]; exact O3.out, B3.out⟩
  · obtain ⟨-, hW, hP⟩ := leave_none hlt
    have HW := Lib.hid hW
    have HP := Lib.hid hP
    clear hW hP hlt
    go_enter Try.func34, Try.ntmps34
    go_wp2_with (first
      | (go_at_call 36
         refine (rvS_any q A n c fs _ (fr_allocF H.out _)).mono ?_
         rintro e w1 ⟨rfl, hb1⟩
         rw [HR.out]
         have F1 := Lib.hid (fm_below F.out hb1)
         obtain ⟨g0, g1, -⟩ := blk_two (fm_blk F1.out 0 rfl)
         clear hb1)
      | (go_at_call 68
         refine (findS_any q A n c fs x _ (fr_belowF H.out F1.out.below)).mono ?_
         rintro e w2 ⟨rfl, hb2⟩
         rw [HP.out]
         have F2 := Lib.hid (fm_below F1.out hb2)
         clear hb2 g0 g1))
    go_ret2
    exact ⟨_, 0, 0, rfl, by rw [HW.out]; rfl, by rw [HW.out]; exact own_mono (own_emptyQ rfl) F2.out.below.size, below_alloc F2.out.below _⟩
theorem lv_hold {w : World} {R : Nat} {q : Int} {A : Option Addr} {n c : Nat} (B : Blk w R 25 #[.int .i64 q, (.slice A n c)]) : w.cell? ⟨R, 0, none⟩ = some (.int .i64 q) ∧ w.cell? ⟨R, 1, none⟩ = some (.slice A n c) := ⟨blk_cell B 0, blk_cell B 1⟩
theorem do_wl2 {w : World} {lo : Nat} {A : Option Addr} {n c : Nat} {hs : List Fh} {fs : List Flw} (D : DO w lo (.slice A n c) n hs fs) : WL w (fun b => lo ≤ b ∧ b < w.heap.size) hs fs := by
  refine ⟨D.len, fun k h f h1 h2 => ?_⟩
  obtain ⟨e1, e2, e3, e4, -⟩ := D.all k h f h1 h2
  obtain ⟨A2, c2, hv2, hc2, -, hA2⟩ := own_form e4
  obtain ⟨h3, rfl⟩ : h.A = A2 ∧ h.c = c2 := by unfold Fh.sl at hv2; injection hv2 with a1 a2 a3; exact ⟨a1, a3⟩
  exact ⟨e1, e2, pr_own (A := h.A) (n := h.n) (c := h.c) e4, hc2, e3, fun _ b hb => hA2 b (by rw [← h3]; exact hb)⟩
set_option maxHeartbeats 2000000 in
theorem lvS_no (q : Int) (A : Option Addr) (n c : Nat) (fs : List Flw) (x : Int) (w : World) (h : FR w A n fs) (hk : ¬ LvOk q fs x) :
    Calls Try.prog 47 #[.agg #[.int .i64 q, (.slice A n c)], .int .i64 x] w (TbNo w) := by
  have H := Lib.hid h
  have HK := Lib.hid hk
  have F := Lib.hid (show Fm w (bx2 w q A n c) _ from fm_two w 25 25 #[.int .i64 q, (.slice A n c)] #[.int .i64 0, (.slice none 0 0)])
  clear h hk
  go_enter Try.func47, Try.ntmps47
  go_wp2_with (go_at_call 34
               refine (woS_no q A n c fs x _ (fr_belowF H.out F.out.below) HK.out).mono ?_
               rintro e w1 ⟨At, ct, rfl, ho, hb1⟩
               have F1 := Lib.hid (fm_below F.out hb1)
               obtain ⟨o0, o1, of0, of1⟩ := blk_two (fm_blk F1.out 1 rfl)
               have zb := blk_lt (fm_blk F1.out 1 rfl)
               clear ho hb1)
  have BB := blk_alloc (blk_set (blk_set (show Blk w1 (w.heap.size + 1) 25 #[.int .i64 0, (.slice none 0 0)] from fm_blk F1.out 1 rfl) 0 (.int .i64 0)) 1 (.slice none 0 0)) (.cells #[] 28)
  obtain ⟨e0, e1, -, -⟩ := blk_two (x := .int .i64 0) (y := .slice none 0 0) BB
  refine bodyPost_ret (v := .tuple #[.agg #[.int .i64 0, (.slice none 0 0)], .slice (some ⟨w1.heap.size, 0, none⟩) 0 0, .bool false]) (by simp [results, Try.results47, go_sem, e0, e1]) rfl ⟨_, 0, rfl, own_mono (own_emptyQ (by simp)) (by simp; omega), ?_⟩
  refine below_alloc ?_ _
  iterate 2 (with_reducible refine Below.setCell ?_ (by simp <;> omega) _)
  exact F1.out.below
set_option maxHeartbeats 4000000 in
theorem lvS_yes (q : Int) (A : Option Addr) (n c : Nat) (fs : List Flw) (x : Int) (w : World) (h : FR w A n fs) (hk : LvOk q fs x) :
    Calls Try.prog 47 #[.agg #[.int .i64 q, (.slice A n c)], .int .i64 x] w (LvYesS w q fs x) := by
  have H := Lib.hid h
  have HK := Lib.hid hk
  have F := Lib.hid (show Fm w (bx2 w q A n c) _ from fm_two w 25 25 #[.int .i64 q, (.slice A n c)] #[.int .i64 0, (.slice none 0 0)])
  have h8 := rv_len hk.1
  clear h hk
  by_cases hlt : fix fs x < fs.length
  · obtain ⟨f, hf, hw, hp⟩ := leave_some hlt
    obtain ⟨k, hk⟩ : ∃ k, k = fix fs x := ⟨_, rfl⟩
    rw [← hk] at hf hp hlt
    have HP := Lib.hid hp
    have HL : Hid (leaveL fs x = fs.eraseIdx k) := Lib.hid (by rw [hk]; rfl)
    have hd : decide (0 ≤ (k : Int)) = true := decide_eq_true (by omega)
    clear hf hw hp hk
    go_enter Try.func47, Try.ntmps47
    go_wp2_with (first
      | (go_at_call 34
         refine (woS_yes q A n c fs x _ (fr_belowF H.out F.out.below) HK.out).mono ?_
         rintro e w1 ⟨At, nt, ct, rfl, hnt, ho, hb1⟩
         have F1 := Lib.hid (fm_below F.out hb1)
         have O1 := Lib.hid (own_mono (b2 := w.heap.size + 2) ho (by simp))
         have NT := Lib.hid hnt
         obtain ⟨g0, g1, -⟩ := blk_two (fm_blk F1.out 0 rfl)
         clear ho hb1 hnt)
      | (go_at_call 60
         refine (copyRS_any q A n c fs _ (fr_belowF H.out F1.out.below)).mono ?_
         rintro e w2 ⟨A2, n2, c2, hs2, rfl, rfl, hnc, hcm, hD, hb2⟩
         have F2 := Lib.hid (fm_below F1.out hb2)
         have O2 := Lib.hid (own_below O1.out hb2)
         have D2 := Lib.hid hD
         have Z2 := Lib.hid hb2.size
         have NC := Lib.hid (And.intro hnc hcm)
         clear hb2 hD g0 g1 hnc hcm
         obtain ⟨g0, g1, -⟩ := blk_two (fm_blk F2.out 0 rfl)
         have zg0 := blk_lt (fm_blk F2.out 0 rfl))
      | (go_at_call 68
         refine (findS_any q A n c fs x _ (fr_belowF H.out (below_alloc F2.out.below _))).mono ?_
         rintro e w3 ⟨rfl, hb3⟩
         rw [HP.out]
         have T3 := Lib.hid (below_seq1 (Below.refl _ _) hb3)
         have F3 := Lib.hid (fm_below F2.out T3.out)
         have B3 := Lib.hid (blk_below (blk_new w2 25 #[.int .i64 q, (.slice A2 fs.length c2)]) hb3 (by simp))
         clear hb3 g0 g1))
    obtain ⟨g, cap, hv, hg1, hg2⟩ := D2.out.row.form (by omega)
    obtain ⟨rfl, rfl⟩ : A2 = some ⟨g, 0, none⟩ ∧ c2 = cap := by injection hv with a1 a2 a3; exact ⟨a1, a3⟩
    have D3 := Lib.hid (do_below D2.out T3.out)
    have O3 := Lib.hid (own_below O2.out T3.out)
    have zR := blk_lt B3.out
    have hnc := NC.out.1
    have x5 : ((k : Int) + 1).toNat = k + 1 := by omega
    have x6 : IntKind.i64.wrap ((k : Int) + 1) = (k : Int) + 1 := IntWalk.i64_in _ (by omega)
    have x7 : (k : Int) + 1 ≤ (fs.length : Int) := by omega
    have x8 : k + 1 ≤ fs.length := by omega
    have x9 : k ≤ c2 := by omega
    have x10 : (0 : Int) ≤ (k : Int) + 1 := by omega
    have x11 : (0 : Int) ≤ (k : Int) := by omega
    obtain ⟨A9, hA9, hP9⟩ : ∃ A9, (if c2 = k + 1 then (some ⟨g, 0, none⟩ : Option Addr) else some ⟨g, (k + 1) * 3, none⟩) = some A9 ∧ Hid (∀ W, HR W (some ⟨g, 0, none⟩) fs.length hs2 → HR W (some A9) (fs.length - (k + 1)) (hs2.drop (k + 1))) := by
      by_cases hc1 : c2 = k + 1
      · refine ⟨_, if_pos hc1, Lib.hid fun W hW => ?_⟩
        have := hr_drop hW x8 hnc
        rw [if_pos hc1] at this
        exact this
      · refine ⟨_, if_neg hc1, Lib.hid fun W hW => ?_⟩
        have := hr_drop hW x8 hnc
        rw [if_neg hc1] at this
        simpa [Addr.add] using this
    have HR3 := Lib.hid (hr_own D3.out.row)
    have hS0 := lv_hold (blk_below B3.out (Below.refl _ _).drew zR)
    clear hv hg1 hg2 zg0
    go_wp2_with fail
    refine held_start (S := (fun w' => w'.cell? ⟨w2.heap.size, 0, none⟩ = some (.int .i64 q) ∧ w'.cell? ⟨w2.heap.size, 1, none⟩ = some (.slice (some ⟨g, 0, none⟩) fs.length c2))) 13 (by kernel_rfl) ?_
    refine held_take (i := 1) (oi := { dst := some 29, op := Op.fieldAddr 25 (Operand.tmp 9) 1, type := 0, pos := "l5_robins.go:175", after := #[], guard := none }) (v := ?_) rfl (by kernel_rfl) (by kernel_rfl) (by kernel_rfl) (by kernel_rfl) (fun _ _ _ h => h) (Or.inl ⟨by rfl, ?_⟩) hS0 ?_
    rotate_left
    · (intro w9 hSw; (try dsimp only at hSw); go_simp; try with_reducible rfl)
    try simp only [Act.put, List.setIfInBounds_toArray, List.set_cons_zero, List.set_cons_succ]
    refine held_take (i := 2) (oi := { dst := some 30, op := Op.load 23 (Operand.tmp 29), type := 23, pos := "l5_robins.go:175", after := #[{ on := 1, ground := Ground.data }], guard := none }) (v := ?_) rfl (by kernel_rfl) (by kernel_rfl) (by kernel_rfl) (by kernel_rfl) (fun _ _ _ h => h) (Or.inl ⟨by rfl, ?_⟩) hS0 ?_
    rotate_left
    · (intro w9 hSw; (try dsimp only at hSw); go_simp; try with_reducible rfl)
    try simp only [Act.put, List.setIfInBounds_toArray, List.set_cons_zero, List.set_cons_succ]
    refine held_take (i := 3) (oi := { dst := some 31, op := Op.move (Operand.tmp 10), type := 3, pos := "l5_robins.go:175", after := #[], guard := none }) (v := ?_) rfl (by kernel_rfl) (by kernel_rfl) (by kernel_rfl) (by kernel_rfl) (fun _ _ _ h => h) (Or.inl ⟨by rfl, ?_⟩) hS0 ?_
    rotate_left
    · (intro w9 hSw; (try dsimp only at hSw); go_simp; try with_reducible rfl)
    try simp only [Act.put, List.setIfInBounds_toArray, List.set_cons_zero, List.set_cons_succ]
    refine held_take (i := 4) (oi := { dst := some 32, op := Op.slice 23 (Operand.tmp 30) none (some (Operand.tmp 31)) none, type := 23, pos := "l5_robins.go:175", after := #[{ on := 2, ground := Ground.data }, { on := 3, ground := Ground.data }], guard := none }) (v := ?_) rfl (by kernel_rfl) (by kernel_rfl) (by kernel_rfl) (by kernel_rfl) (fun _ _ _ h => h) (Or.inl ⟨by rfl, ?_⟩) hS0 ?_
    rotate_left
    · (intro w9 hSw; (try dsimp only at hSw); go_simp; try with_reducible rfl)
    try simp only [Act.put, List.setIfInBounds_toArray, List.set_cons_zero, List.set_cons_succ]
    refine held_take (i := 6) (oi := { dst := some 34, op := Op.fieldAddr 25 (Operand.tmp 9) 1, type := 0, pos := "l5_robins.go:175", after := #[], guard := none }) (v := ?_) rfl (by kernel_rfl) (by kernel_rfl) (by kernel_rfl) (by kernel_rfl) (fun _ _ _ h => h) (Or.inl ⟨by rfl, ?_⟩) hS0 ?_
    rotate_left
    · (intro w9 hSw; (try dsimp only at hSw); go_simp; try with_reducible rfl)
    try simp only [Act.put, List.setIfInBounds_toArray, List.set_cons_zero, List.set_cons_succ]
    refine held_take (i := 7) (oi := { dst := some 35, op := Op.load 23 (Operand.tmp 34), type := 23, pos := "l5_robins.go:175", after := #[{ on := 6, ground := Ground.data }], guard := none }) (v := ?_) rfl (by kernel_rfl) (by kernel_rfl) (by kernel_rfl) (by kernel_rfl) (fun _ _ _ h => h) (Or.inl ⟨by rfl, ?_⟩) hS0 ?_
    rotate_left
    · (intro w9 hSw; (try dsimp only at hSw); go_simp; try with_reducible rfl)
    try simp only [Act.put, List.setIfInBounds_toArray, List.set_cons_zero, List.set_cons_succ]
    refine held_take (i := 8) (oi := { dst := some 36, op := Op.move (Operand.tmp 10), type := 3, pos := "l5_robins.go:175", after := #[], guard := none }) (v := ?_) rfl (by kernel_rfl) (by kernel_rfl) (by kernel_rfl) (by kernel_rfl) (fun _ _ _ h => h) (Or.inl ⟨by rfl, ?_⟩) hS0 ?_
    rotate_left
    · (intro w9 hSw; (try dsimp only at hSw); go_simp; try with_reducible rfl)
    try simp only [Act.put, List.setIfInBounds_toArray, List.set_cons_zero, List.set_cons_succ]
    refine held_take (i := 9) (oi := { dst := some 37, op := Op.binOp BinOp.add 3 (Operand.tmp 36) (Operand.const (Value.int IntKind.i64 1)) 3, type := 3, pos := "l5_robins.go:175", after := #[{ on := 8, ground := Ground.data }], guard := none }) (v := ?_) rfl (by kernel_rfl) (by kernel_rfl) (by kernel_rfl) (by kernel_rfl) (fun _ _ _ h => h) (Or.inl ⟨by rfl, ?_⟩) hS0 ?_
    rotate_left
    · (intro w9 hSw; (try dsimp only at hSw); go_simp; try with_reducible rfl)
    try simp only [Act.put, List.setIfInBounds_toArray, List.set_cons_zero, List.set_cons_succ]
    refine held_take (i := 10) (oi := { dst := some 38, op := Op.slice 23 (Operand.tmp 35) (some (Operand.tmp 37)) none none, type := 23, pos := "l5_robins.go:175", after := #[{ on := 7, ground := Ground.data }, { on := 9, ground := Ground.data }], guard := none }) (v := ?_) rfl (by kernel_rfl) (by kernel_rfl) (by kernel_rfl) (by kernel_rfl) (fun _ _ _ h => h) (Or.inl ⟨by rfl, ?_⟩) hS0 ?_
    rotate_left
    · (intro w9 hSw; (try dsimp only at hSw); go_simp; try with_reducible rfl)
    try simp only [Act.put, List.setIfInBounds_toArray, List.set_cons_zero, List.set_cons_succ]
    refine held_one (i := 0) (o := { dst := some 28, op := Op.buildSlice 23 0 #[], type := 23, pos := "l5_robins.go:175", after := #[], guard := none }) (by kernel_rfl) rfl (fun K hK => ?_)
    go_simp
    have T1 := Lib.hid (show Below w3.heap.size w3 _ from (below_alloc (Below.refl _ _) (.cells #[] 40)).drew)
    have hS1 := lv_hold (blk_below B3.out T1.out zR)
    refine hK.out _ _ (.inr hS1) ?_
    clear hK K
    try simp only [Act.put, List.setIfInBounds_toArray, List.set_cons_zero, List.set_cons_succ]
    refine held_one (i := 5) (o := { dst := some 33, op := Op.call { callee := Callee.builtin Builtin.append, args := #[Operand.tmp 28, Operand.tmp 32], argTypes := #[23, 23] }, type := 23, pos := "l5_robins.go:175", after := #[{ on := 0, ground := Ground.data }, { on := 4, ground := Ground.data }], guard := none }) (by kernel_rfl) rfl (fun K hK => ?_)
    refine step_app_flws _ rfl (.tmp 28) (.tmp 32) rfl w3.heap.size (.slice (some ⟨w3.heap.size, 0, none⟩) 0 0) 0 [] rfl (World.ownsRow.drew (own_emptyF (W := w3) (b := w3.heap.size) rfl)) (some ⟨g, 0, none⟩) k c2 (hs2.take k) rfl (hr_take (hr_below HR3.out T1.out) (by omega)) (by omega) (by simp) ?_
    intro v5 w5 ho5 hg5 hat5
    simp only [List.nil_append, Nat.zero_add] at ho5
    have T5 := Lib.hid (T1.out.grown hg5 T1.out.size fun b e => by simp [Value.ownBlock] at e; omega)
    obtain ⟨A5, c5, rfl, -, -, -⟩ := own_form ho5
    have O5 := Lib.hid ho5
    have hS5 := lv_hold (blk_below B3.out T5.out zR)
    clear hg5 hat5 ho5
    refine hK.out _ _ (.inr hS5) ?_
    clear hK K
    try simp only [Act.put, List.setIfInBounds_toArray, List.set_cons_zero, List.set_cons_succ]
    refine held_one (i := 11) (o := { dst := some 39, op := Op.call { callee := Callee.builtin Builtin.append, args := #[Operand.tmp 33, Operand.tmp 38], argTypes := #[23, 23] }, type := 23, pos := "l5_robins.go:175", after := #[{ on := 5, ground := Ground.data }, { on := 10, ground := Ground.data }, { on := 5, ground := Ground.chain }], guard := none }) (by kernel_rfl) rfl (fun K hK => ?_)
    refine step_app_flws _ rfl (.tmp 33) (.tmp 38) rfl w3.heap.size (.slice A5 k c5) k (hs2.take k) rfl O5.out (some A9) (fs.length - (k + 1)) (c2 - (k + 1)) (hs2.drop (k + 1)) rfl (hP9.out _ (hr_below HR3.out T5.out)) (by omega) T5.out.size ?_
    intro v7 w7 ho7 hg7 hat7
    obtain ⟨A7, c7, rfl, -, -, -⟩ := own_form ho7
    have T7 := Lib.hid (T5.out.grown hg7 T5.out.size fun b e => (O5.out.lt b e).1)
    have O7 := Lib.hid ho7
    obtain ⟨l0', l1', lf0', lf1'⟩ := blk_two (blk_below B3.out T7.out zR)
    have hS7 := lv_hold (blk_below B3.out T7.out zR)
    clear hg7 hat7 ho7
    refine hK.out _ _ (.inr hS7) ?_
    clear hK K
    try simp only [Act.put, List.setIfInBounds_toArray, List.set_cons_zero, List.set_cons_succ]
    refine held_take (i := 12) (oi := { dst := some 40, op := Op.fieldAddr 25 (Operand.tmp 9) 1, type := 0, pos := "l5_robins.go:175", after := #[{ on := 0, ground := Ground.phase }, { on := 1, ground := Ground.phase }, { on := 2, ground := Ground.phase }, { on := 3, ground := Ground.phase }, { on := 4, ground := Ground.phase }, { on := 5, ground := Ground.phase }, { on := 6, ground := Ground.phase }, { on := 7, ground := Ground.phase }, { on := 8, ground := Ground.phase }, { on := 9, ground := Ground.phase }, { on := 10, ground := Ground.phase }, { on := 11, ground := Ground.phase }], guard := none }) (v := ?_) rfl (by kernel_rfl) (by kernel_rfl) (by kernel_rfl) (by kernel_rfl) (fun _ _ _ h => h) (Or.inl ⟨by rfl, ?_⟩) hS7 ?_
    rotate_left
    · (intro w9 hSw; (try dsimp only at hSw); go_simp; try with_reducible rfl)
    try simp only [Act.put, List.setIfInBounds_toArray, List.set_cons_zero, List.set_cons_succ]
    refine held_one (i := 13) (o := { dst := none, op := Op.store 23 (Operand.tmp 40) (Operand.tmp 39), type := 0, pos := "l5_robins.go:175", after := #[{ on := 12, ground := Ground.data }, { on := 11, ground := Ground.data }, { on := 11, ground := Ground.chain }, { on := 0, ground := Ground.phase }, { on := 1, ground := Ground.phase }, { on := 2, ground := Ground.phase }, { on := 3, ground := Ground.phase }, { on := 4, ground := Ground.phase }, { on := 5, ground := Ground.phase }, { on := 6, ground := Ground.phase }, { on := 7, ground := Ground.phase }, { on := 8, ground := Ground.phase }, { on := 9, ground := Ground.phase }, { on := 10, ground := Ground.phase }, { on := 11, ground := Ground.phase }], guard := none }) (by kernel_rfl) rfl (fun K hK => ?_)
    go_simp
    refine hK.out _ _ (.inl rfl) ?_
    clear hK K
    try simp only [Act.put, List.setIfInBounds_toArray, List.set_cons_zero, List.set_cons_succ]
    refine held_done (by kernel_rfl) ?_ _
    clear hS0 hS1 hS5 hS7 l0' l1' lf0' lf1'
    have zw1 : w.heap.size + 2 ≤ w1.heap.size := by have := blk_lt (fm_blk F1.out 1 rfl); omega
    have zw2 : w1.heap.size ≤ w2.heap.size := by have := Z2.out; omega
    have hz3 := T3.out.size
    have F8 := Lib.hid (fm_below F3.out T7.out)
    obtain ⟨o0, o1, of0, of1⟩ := blk_two (fm_blk F8.out 1 rfl)
    have zb8 := blk_lt (fm_blk F8.out 1 rfl)
    have B8 := Lib.hid (blk_below B3.out T7.out zR)
    obtain ⟨l0, l1, -, -⟩ := blk_two B8.out
    have zR8 := blk_lt B8.out
    have zn : w.heap.size + 1 < w2.heap.size := by omega
    have X8 : Hid (FRX w7 (fun b => (w1.heap.size ≤ b ∧ b < w2.heap.size) ∨ w3.heap.size ≤ b) A7 (k + (fs.length - (k + 1))) (leaveL fs x)) := Lib.hid (by
      rw [HL.out]
      have hw := (do_frx D2.out (by omega))
      obtain ⟨hs', e1, -, -, -⟩ := hw
      refine ⟨_, hr_own O7.out, fun _ b hb => .inr ?_, ?_, by omega⟩
      · obtain ⟨A', c', hv, -, -, hA⟩ := own_form O7.out
        obtain rfl : A7 = A' := by injection hv
        exact (hA b hb).1
      · rw [← List.eraseIdx_eq_take_drop_succ]
        exact wl_erase (wl_mono (wl_below (do_wl2 D2.out) (T3.out.trans (T7.out.mono hz3))) fun b hb => .inl hb) k)
    go_wp2_with fail
    refine bodyPost_ret (v := .tuple #[.agg #[.int .i64 q, (.slice A7 (k + (fs.length - (k + 1))) c7)], .slice At nt ct, .bool true]) (by simp [results, Try.results47, go_sem, o0, o1]) rfl ⟨A7, _, c7, At, nt, ct, rfl, ?_, NT.out, ?_, ?_⟩
    · refine frx_fr (X := fun b => (w1.heap.size ≤ b ∧ b < w2.heap.size) ∨ w3.heap.size ≤ b) ?_
      iterate 3 (with_reducible refine frx_set ?_ (fun hx => by simp at hx; omega) _)
      exact X8.out
    · refine own_mono (base := w.heap.size + 2) ?_ (by omega)
      iterate 2 (with_reducible refine own_set_far ?_ (by simp <;> omega) _)
      refine own_set_ne (own_below O3.out T7.out) (fun e => ?_) _
      have := (O1.out.lt _ e).2
      simp at this
      omega
    · iterate 3 (with_reducible refine Below.setCell ?_ (by simp <;> omega) _)
      exact F8.out.below
  · obtain ⟨hL, -, hP⟩ := leave_none hlt
    have HL := Lib.hid hL
    have HP := Lib.hid hP
    clear hL hP hlt
    go_enter Try.func47, Try.ntmps47
    go_wp2_with (first
      | (go_at_call 34
         refine (woS_yes q A n c fs x _ (fr_belowF H.out F.out.below) HK.out).mono ?_
         rintro e w1 ⟨At, nt, ct, rfl, hnt, ho, hb1⟩
         have F1 := Lib.hid (fm_below F.out hb1)
         have O1 := Lib.hid (own_mono (b2 := w.heap.size + 2) ho (by simp))
         have NT := Lib.hid hnt
         obtain ⟨g0, g1, -⟩ := blk_two (fm_blk F1.out 0 rfl)
         clear ho hb1 hnt)
      | (go_at_call 60
         refine (copyRS_any q A n c fs _ (fr_belowF H.out F1.out.below)).mono ?_
         rintro e w2 ⟨A2, n2, c2, hs2, rfl, hn2, -, -, hD, hb2⟩
         have F2 := Lib.hid (fm_below F1.out hb2)
         have O2 := Lib.hid (own_below O1.out hb2)
         have D2 := Lib.hid (do_frx hD (by omega))
         have Z2 := Lib.hid hb2.size
         clear hb2 hD g0 g1 hn2
         obtain ⟨g0, g1, -⟩ := blk_two (fm_blk F2.out 0 rfl)
         have zg0 := blk_lt (fm_blk F2.out 0 rfl))
      | (go_at_call 68
         refine (findS_any q A n c fs x _ (fr_belowF H.out (below_alloc F2.out.below _))).mono ?_
         rintro e w3 ⟨rfl, hb3⟩
         rw [HP.out]
         have T3 := Lib.hid (below_seq1 (Below.refl _ _) hb3)
         have F3 := Lib.hid (fm_below F2.out T3.out)
         have B3 := Lib.hid (blk_below (blk_new w2 25 #[.int .i64 q, (.slice A2 n2 c2)]) hb3 (by simp))
         obtain ⟨l0, l1, -, -⟩ := blk_two B3.out
         obtain ⟨o0, o1, of0, of1⟩ := blk_two (fm_blk F3.out 1 rfl)
         have zR := blk_lt B3.out
         have zb3 := blk_lt (fm_blk F3.out 1 rfl)
         have zw1 : w.heap.size + 2 ≤ w1.heap.size := (by have := blk_lt (fm_blk F1.out 1 rfl); omega)
         clear hb3 g0 g1))
    refine bodyPost_ret (v := .tuple #[.agg #[.int .i64 q, (.slice A2 n2 c2)], .slice At nt ct, .bool true]) (by simp [results, Try.results47, go_sem, o0, o1]) rfl ⟨A2, _, c2, At, nt, ct, rfl, ?_, NT.out, ?_, ?_⟩
    · rw [HL.out]
      refine frx_fr (X := fun b => w1.heap.size ≤ b ∧ b < w2.heap.size) ?_
      iterate 2 (with_reducible refine frx_set ?_ (fun hx => by simp at hx; omega) _)
      exact frx_below D2.out T3.out
    · refine own_mono (base := w.heap.size + 2) ?_ (by omega)
      iterate 2 (with_reducible refine own_set_far ?_ (by simp <;> omega) _)
      exact own_below O2.out T3.out
    · iterate 2 (with_reducible refine Below.setCell ?_ (by simp <;> omega) _)
      exact F3.out.below
end Go.Proofs.Ytehokkijfgiggaa
