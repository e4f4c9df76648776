/-
  Chapter 5: JoinRobin: what the model's function returns. Conditions: none.
-/
import Derived.Test.YtehokkijfgiggaaR9
namespace Go.Proofs.Ytehokkijfgiggaa
open Go.RowKit

set_option maxHeartbeats 4000000 in
theorem jnS_no (q : Int) (A : Option Addr) (n c : Nat) (fs : List Flw) (p : Pkt) (w : World) (h : FR w A n fs) (hk : ¬ joinOk q fs p) :
    Calls Try.prog 32 #[.agg #[.int .i64 q, (.slice A n c)], .agg #[.int .i64 p.peer, .int .i64 p.lane, .int .i64 p.size, .int .i64 p.id]] w (JnNo w) := by
  have H := Lib.hid h
  have F := Lib.hid (show Fm w (bx3p w q A n c p) _ from fm_three w 25 28 25 #[.int .i64 q, (.slice A n c)] #[.int .i64 p.peer, .int .i64 p.lane, .int .i64 p.size, .int .i64 p.id] #[.int .i64 0, (.slice none 0 0)])
  obtain ⟨v, hv⟩ : ∃ v, rvB q fs = v := ⟨_, rfl⟩
  obtain ⟨u, hu⟩ : ∃ u, vldB p = u := ⟨_, rfl⟩
  have HR := Lib.hid hv
  have HVP := Lib.hid hu
  have hl := (fr_lenF h).1
  rcases v with _ | _
  · clear h hk hv hu
    go_enter Try.func32, Try.ntmps32
    go_wp2_with (first
    | (go_at_call 36
       refine (rvS_any q A n c fs _ (fr_belowF H.out F.out.below)).mono ?_
       rintro e w1 ⟨rfl, hb1⟩
       rw [HR.out]
       have F1 := Lib.hid (fm_below F.out hb1)
       obtain ⟨⟨k0, k1, k2, k3⟩, -⟩ := blk_fourR (fm_blk F1.out 1 rfl)
       obtain ⟨o0, o1, of0, of1⟩ := blk_two (fm_blk F1.out 2 rfl)
       obtain ⟨g0, g1, -⟩ := blk_two (fm_blk F1.out 0 rfl)
       have zk := blk_lt (fm_blk F1.out 1 rfl)
       clear hb1))
    refine bodyPost_ret (v := .tuple #[.agg #[.int .i64 0, (.slice none 0 0)], .bool false]) (by simp [results, Try.results32, go_sem, o0, o1]) rfl ⟨rfl, ?_⟩
    iterate 2 (with_reducible refine Below.setCell ?_ (by simp <;> omega) _)
    exact F1.out.below
  rcases u with _ | _
  · clear h hk hv hu
    go_enter Try.func32, Try.ntmps32
    go_wp2_with (first
    | (go_at_call 36
       refine (rvS_any q A n c fs _ (fr_belowF H.out F.out.below)).mono ?_
       rintro e w1 ⟨rfl, hb1⟩
       rw [HR.out]
       have F1 := Lib.hid (fm_below F.out hb1)
       obtain ⟨⟨k0, k1, k2, k3⟩, -⟩ := blk_fourR (fm_blk F1.out 1 rfl)
       obtain ⟨o0, o1, of0, of1⟩ := blk_two (fm_blk F1.out 2 rfl)
       obtain ⟨g0, g1, -⟩ := blk_two (fm_blk F1.out 0 rfl)
       have zk := blk_lt (fm_blk F1.out 1 rfl)
       clear hb1)
    | (go_at_call 67
       refine (vldS_any p _).mono ?_
       rintro e w1b ⟨rfl, hb1⟩
       rw [HVP.out]
       have F1b := Lib.hid (fm_below F1.out hb1)
       clear hb1 k0 k1 k2 k3 o0 o1 of0 of1 g0 g1 zk
       obtain ⟨⟨k0, k1, k2, k3⟩, -⟩ := blk_fourR (fm_blk F1b.out 1 rfl)
       obtain ⟨o0, o1, of0, of1⟩ := blk_two (fm_blk F1b.out 2 rfl)
       obtain ⟨g0, g1, -⟩ := blk_two (fm_blk F1b.out 0 rfl)
       have zk := blk_lt (fm_blk F1b.out 1 rfl)))
    refine bodyPost_ret (v := .tuple #[.agg #[.int .i64 0, (.slice none 0 0)], .bool false]) (by simp [results, Try.results32, go_sem, o0, o1]) rfl ⟨rfl, ?_⟩
    iterate 2 (with_reducible refine Below.setCell ?_ (by simp <;> omega) _)
    exact F1b.out.below
  obtain ⟨k, f, hf, hp, h64⟩ := join_dec (rv_iff.1 hv) hu hk
  have h8 := rv_len (rv_iff.1 hv)
  have HF := Lib.hid hf
  have HP := Lib.hid hp
  have HW := Lib.hid h64
  have hlt : k < fs.length := by
    rcases Nat.lt_or_ge k fs.length with h | h
    · exact h
    · rw [List.getElem?_eq_none h] at hf; cases hf
  have hd : decide ((k : Int) < 0) = false := decide_eq_false (by omega)
  have hkn : k < n := by omega
  have hkn0 : (0 : Int) ≤ (k : Int) := by omega
  have hkn1 : (k : Int) < (n : Int) := by omega
  have hkn2 : (k : Int) < (fs.length : Int) := by omega
  clear h hk hv hu hf hp h64 hl
  go_enter Try.func32, Try.ntmps32
  go_wp2_with (first
    | (go_at_call 36
       refine (rvS_any q A n c fs _ (fr_belowF H.out F.out.below)).mono ?_
       rintro e w1 ⟨rfl, hb1⟩
       rw [HR.out]
       have F1 := Lib.hid (fm_below F.out hb1)
       obtain ⟨⟨k0, k1, k2, k3⟩, -⟩ := blk_fourR (fm_blk F1.out 1 rfl)
       obtain ⟨o0, o1, of0, of1⟩ := blk_two (fm_blk F1.out 2 rfl)
       obtain ⟨g0, g1, -⟩ := blk_two (fm_blk F1.out 0 rfl)
       have zk := blk_lt (fm_blk F1.out 1 rfl)
       clear hb1)
    | (go_at_call 67
       refine (vldS_any p _).mono ?_
       rintro e w1b ⟨rfl, hb1⟩
       rw [HVP.out]
       have F1b := Lib.hid (fm_below F1.out hb1)
       clear hb1 k0 k1 k2 k3 o0 o1 of0 of1 g0 g1 zk
       obtain ⟨⟨k0, k1, k2, k3⟩, -⟩ := blk_fourR (fm_blk F1b.out 1 rfl)
       obtain ⟨o0, o1, of0, of1⟩ := blk_two (fm_blk F1b.out 2 rfl)
       obtain ⟨g0, g1, -⟩ := blk_two (fm_blk F1b.out 0 rfl)
       have zk := blk_lt (fm_blk F1b.out 1 rfl))
    | (go_at_call 60
       refine (copyRS_any q A n c fs _ (fr_belowF H.out F1b.out.below)).mono ?_
       rintro e w2 ⟨A2, n2, c2, hs2, rfl, rfl, -, -, hD, hb2⟩
       have F2 := Lib.hid (fm_below F1b.out hb2)
       have D2 := Lib.hid hD
       have Z2 := Lib.hid hb2.size
       clear hb2 hD k0 k1 k2 k3 o0 o1 of0 of1 g0 g1 zk
       obtain ⟨⟨k0, k1, k2, k3⟩, -⟩ := blk_fourR (fm_blk F2.out 1 rfl)
       obtain ⟨g0, g1, -⟩ := blk_two (fm_blk F2.out 0 rfl)
       have zk := blk_lt (fm_blk F2.out 1 rfl)
       have zg0 := blk_lt (fm_blk F2.out 0 rfl))
    | (go_at_call 68
       refine (findS_any q A n c fs p.peer _ (fr_belowF H.out (below_alloc F2.out.below _))).mono ?_
       rintro e w3 ⟨rfl, hb3⟩
       rw [HP.out]
       have T3 := Lib.hid (below_seq1 (Below.refl _ _) hb3)
       have F3 := Lib.hid (fm_below F2.out T3.out)
       have D3 := Lib.hid (do_below D2.out T3.out)
       have B3 := Lib.hid (blk_below (blk_new w2 25 #[.int .i64 q, (.slice A2 fs.length c2)]) hb3 (by simp))
       obtain ⟨l0, l1, lf0, lf1⟩ := blk_two B3.out
       obtain ⟨o0, o1, of0, of1⟩ := blk_two (fm_blk F3.out 2 rfl)
       have zR := blk_lt B3.out
       have zo := blk_lt (fm_blk F3.out 2 rfl)
       clear hb3 k0 k1 k2 k3 g0 g1 zk zg0
       obtain ⟨⟨k0, k1, k2, k3⟩, -⟩ := blk_fourR (fm_blk F3.out 1 rfl)
       obtain ⟨g0, g1, -⟩ := blk_two (fm_blk F3.out 0 rfl)
       have zk := blk_lt (fm_blk F3.out 1 rfl)
       have zg0 := blk_lt (fm_blk F3.out 0 rfl)
       obtain ⟨b, off, f', A1, n1, c1, hA, hbl, hf', c0, c1', c2', hpr, hc1, hn1⟩ := fr_cells (fr_belowF H.out F3.out.below) hkn
       obtain rfl := hA
       obtain rfl : f = f' := (by have := HF.out; rw [hf'] at this; exact (Option.some.inj this).symm)
       have e64 : ((n1 : Int) == 64) = true := (by have h1 := hpr.1; rw [HW.out] at h1; simp; omega)
       clear hpr hf'))
  refine bodyPost_ret (v := .tuple #[.agg #[.int .i64 0, (.slice none 0 0)], .bool false]) (by simp [results, Try.results32, go_sem, o0, o1]) rfl ⟨rfl, ?_⟩
  iterate 2 (with_reducible refine Below.setCell ?_ (by simp <;> omega) _)
  exact F3.out.below
set_option maxHeartbeats 8000000 in
theorem jnS_yes (q : Int) (A : Option Addr) (n c : Nat) (fs : List Flw) (p : Pkt) (w : World) (h : FR w A n fs) (hk : joinOk q fs p) :
    Calls Try.prog 32 #[.agg #[.int .i64 q, (.slice A n c)], .agg #[.int .i64 p.peer, .int .i64 p.lane, .int .i64 p.size, .int .i64 p.id]] w (JnYes w q fs p) := by
  have H := Lib.hid h
  have F := Lib.hid (show Fm w (bx3p w q A n c p) _ from fm_three w 25 28 25 #[.int .i64 q, (.slice A n c)] #[.int .i64 p.peer, .int .i64 p.lane, .int .i64 p.size, .int .i64 p.id] #[.int .i64 0, (.slice none 0 0)])
  have HR := Lib.hid (rv_yes hk.1)
  have HVP := Lib.hid hk.2.1
  have hl := (fr_lenF h).1
  have h8 := rv_len hk.1
  by_cases hlt : fix fs p.peer < fs.length
  · obtain ⟨f, hf, hw, hp⟩ := leave_some hlt
    have h64 := hk.2.2
    rw [hw] at h64
    obtain ⟨k, hkk⟩ : ∃ k, k = fix fs p.peer := ⟨_, rfl⟩
    have HJ : Hid (joinL fs p = fs.set k ⟨f.peer, f.dfc, f.ws ++ [p]⟩) := Lib.hid (by rw [hkk]; exact join_old hf)
    rw [← hkk] at hf hp hlt
    have HF := Lib.hid hf
    have HP := Lib.hid hp
    have HW := Lib.hid h64
    have hd : decide ((k : Int) < 0) = false := decide_eq_false (by omega)
    have hkn : k < n := by omega
    have hkn0 : (0 : Int) ≤ (k : Int) := by omega
    have hkn1 : (k : Int) < (n : Int) := by omega
    have hkn2 : (k : Int) < (fs.length : Int) := by omega
    clear h hk hf hp h64 hl hw hkk
    go_enter Try.func32, Try.ntmps32
    go_wp2_with (first
      | (go_at_call 36
         refine (rvS_any q A n c fs _ (fr_belowF H.out F.out.below)).mono ?_
         rintro e w1 ⟨rfl, hb1⟩
         rw [HR.out]
         have F1 := Lib.hid (fm_below F.out hb1)
         obtain ⟨⟨k0, k1, k2, k3⟩, -⟩ := blk_fourR (fm_blk F1.out 1 rfl)
         obtain ⟨o0, o1, of0, of1⟩ := blk_two (fm_blk F1.out 2 rfl)
         obtain ⟨g0, g1, -⟩ := blk_two (fm_blk F1.out 0 rfl)
         have zk := blk_lt (fm_blk F1.out 1 rfl)
         clear hb1)
      | (go_at_call 67
         refine (vldS_any p _).mono ?_
         rintro e w1b ⟨rfl, hb1⟩
         rw [HVP.out]
         have F1b := Lib.hid (fm_below F1.out hb1)
         clear hb1 k0 k1 k2 k3 o0 o1 of0 of1 g0 g1 zk
         obtain ⟨⟨k0, k1, k2, k3⟩, -⟩ := blk_fourR (fm_blk F1b.out 1 rfl)
         obtain ⟨o0, o1, of0, of1⟩ := blk_two (fm_blk F1b.out 2 rfl)
         obtain ⟨g0, g1, -⟩ := blk_two (fm_blk F1b.out 0 rfl)
         have zk := blk_lt (fm_blk F1b.out 1 rfl))
      | (go_at_call 60
         refine (copyRS_any q A n c fs _ (fr_belowF H.out F1b.out.below)).mono ?_
         rintro e w2 ⟨A2, n2, c2, hs2, rfl, rfl, -, -, hD, hb2⟩
         have F2 := Lib.hid (fm_below F1b.out hb2)
         have D2 := Lib.hid hD
         have Z2 := Lib.hid hb2.size
         clear hb2 hD k0 k1 k2 k3 o0 o1 of0 of1 g0 g1 zk
         obtain ⟨⟨k0, k1, k2, k3⟩, -⟩ := blk_fourR (fm_blk F2.out 1 rfl)
         obtain ⟨g0, g1, -⟩ := blk_two (fm_blk F2.out 0 rfl)
         have zk := blk_lt (fm_blk F2.out 1 rfl)
         have zg0 := blk_lt (fm_blk F2.out 0 rfl))
      | (go_at_call 68
         refine (findS_any q A n c fs p.peer _ (fr_belowF H.out (below_alloc F2.out.below _))).mono ?_
         rintro e w3 ⟨rfl, hb3⟩
         rw [HP.out]
         have T3 := Lib.hid (below_seq1 (Below.refl _ _) hb3)
         have F3 := Lib.hid (fm_below F2.out T3.out)
         have D3 := Lib.hid (do_below D2.out T3.out)
         have B3 := Lib.hid (blk_below (blk_new w2 25 #[.int .i64 q, (.slice A2 fs.length c2)]) hb3 (by simp))
         obtain ⟨l0, l1, lf0, lf1⟩ := blk_two B3.out
         obtain ⟨o0, o1, of0, of1⟩ := blk_two (fm_blk F3.out 2 rfl)
         have zR := blk_lt B3.out
         have zo := blk_lt (fm_blk F3.out 2 rfl)
         clear hb3 k0 k1 k2 k3 g0 g1 zk zg0
         obtain ⟨⟨k0, k1, k2, k3⟩, -⟩ := blk_fourR (fm_blk F3.out 1 rfl)
         obtain ⟨g0, g1, -⟩ := blk_two (fm_blk F3.out 0 rfl)
         have zk := blk_lt (fm_blk F3.out 1 rfl)
         have zg0 := blk_lt (fm_blk F3.out 0 rfl)
         obtain ⟨g, cap, hv, hg1, hg2⟩ := D3.out.row.form (by omega)
         obtain ⟨rfl, rfl⟩ : A2 = some ⟨g, 0, none⟩ ∧ c2 = cap := (by injection hv with a1 a2 a3; exact ⟨a1, a3⟩)
         obtain ⟨b', off', hk, e1, hb', hhk, c0, c1, c2'⟩ := hr_at (k := k) (hr_own D3.out.row) hlt
         obtain ⟨rfl, rfl⟩ : g = b' ∧ 0 = off' := (by injection e1 with e1; injection e1 with a1 a2; exact ⟨a1, a2⟩)
         simp only [Nat.zero_add] at c0 c1 c2'
         have HH := Lib.hid hhk
         obtain ⟨b, off, f', A1, n1, c1n, hA, hbl, hf', s0, s1, s2, hpr, hc1n, hn1⟩ := fr_cells (fr_belowF H.out F3.out.below) hkn
         obtain rfl := hA
         obtain rfl : f = f' := (by have := HF.out; rw [hf'] at this; exact (Option.some.inj this).symm)
         have e64 : ((n1 : Int) == 64) = false := (by have h1 := hpr.1; have := HW.out; simp; omega)
         clear hv e1 hhk hpr hf'))
    have f0 := World.ownsRow.frozenAt D3.out.row (k * 3 + 2)
    have hw1 : w.heap.size + 3 ≤ w1b.heap.size := by have := blk_lt (fm_blk F1b.out 2 rfl); omega
    have hlo2 : w1b.heap.size ≤ w2.heap.size := by have := Z2.out; omega
    have zg : g < w3.heap.size := hb'
    have HA := Lib.hid (D3.out.all k hk f HH.out HF.out)
    have zl : w2.heap.size < w3.heap.size := zR
    have hn4 : hk.n < 64 := (by have h1 := HA.out.2.2.2.1.1; have := HW.out; rw [pcells_len] at h1; omega)
    have hS0 := jn_holdS (D3.out) HH.out B3.out (show Blk w3 (w.heap.size + 1) 28 #[.int .i64 p.peer, .int .i64 p.lane, .int .i64 p.size, .int .i64 p.id] from fm_blk F3.out 1 rfl)
    refine held_start (S := (fun w' => w'.cell? ⟨g, k * 3 + 2, none⟩ = some (.slice hk.A hk.n hk.c) ∧ (w'.cell? ⟨w2.heap.size, 0, none⟩ = some (.int .i64 q) ∧ w'.cell? ⟨w2.heap.size, 1, none⟩ = some (.slice (some ⟨g, 0, none⟩) fs.length c2)) ∧ (w'.cell? ⟨w.heap.size + 1, 0, none⟩ = some (.int .i64 p.peer) ∧ w'.cell? ⟨w.heap.size + 1, 1, none⟩ = some (.int .i64 p.lane) ∧ w'.cell? ⟨w.heap.size + 1, 2, none⟩ = some (.int .i64 p.size) ∧ w'.cell? ⟨w.heap.size + 1, 3, none⟩ = some (.int .i64 p.id)))) 14 (by kernel_rfl) ?_
    refine held_take (i := 0) (oi := { dst := some 45, op := Op.fieldAddr 25 (Operand.tmp 6) 1, type := 0, pos := "l5_robins.go:80", after := #[], guard := none }) (v := ?_) rfl (by kernel_rfl) (by kernel_rfl) (by kernel_rfl) (by kernel_rfl) (fun _ _ _ h => h) (Or.inl ⟨by rfl, ?_⟩) hS0 ?_
    rotate_left
    · (intro w9 hSw; (try dsimp only at hSw); go_simp; try with_reducible rfl)
    try simp only [Act.put, List.setIfInBounds_toArray, List.set_cons_zero, List.set_cons_succ]
    refine held_take (i := 1) (oi := { dst := some 46, op := Op.load 23 (Operand.tmp 45), type := 23, pos := "l5_robins.go:80", after := #[{ on := 0, ground := Ground.data }], guard := none }) (v := ?_) rfl (by kernel_rfl) (by kernel_rfl) (by kernel_rfl) (by kernel_rfl) (fun _ _ _ h => h) (Or.inl ⟨by rfl, ?_⟩) hS0 ?_
    rotate_left
    · (intro w9 hSw; (try dsimp only at hSw); go_simp; try with_reducible rfl)
    try simp only [Act.put, List.setIfInBounds_toArray, List.set_cons_zero, List.set_cons_succ]
    refine held_take (i := 2) (oi := { dst := some 47, op := Op.move (Operand.tmp 7), type := 3, pos := "l5_robins.go:80", after := #[], guard := none }) (v := ?_) rfl (by kernel_rfl) (by kernel_rfl) (by kernel_rfl) (by kernel_rfl) (fun _ _ _ h => h) (Or.inl ⟨by rfl, ?_⟩) hS0 ?_
    rotate_left
    · (intro w9 hSw; (try dsimp only at hSw); go_simp; try with_reducible rfl)
    try simp only [Act.put, List.setIfInBounds_toArray, List.set_cons_zero, List.set_cons_succ]
    refine held_take (i := 3) (oi := { dst := some 48, op := Op.fieldAddr 25 (Operand.tmp 6) 1, type := 0, pos := "l5_robins.go:80", after := #[], guard := none }) (v := ?_) rfl (by kernel_rfl) (by kernel_rfl) (by kernel_rfl) (by kernel_rfl) (fun _ _ _ h => h) (Or.inl ⟨by rfl, ?_⟩) hS0 ?_
    rotate_left
    · (intro w9 hSw; (try dsimp only at hSw); go_simp; try with_reducible rfl)
    try simp only [Act.put, List.setIfInBounds_toArray, List.set_cons_zero, List.set_cons_succ]
    refine held_take (i := 4) (oi := { dst := some 49, op := Op.load 23 (Operand.tmp 48), type := 23, pos := "l5_robins.go:80", after := #[{ on := 3, ground := Ground.data }], guard := none }) (v := ?_) rfl (by kernel_rfl) (by kernel_rfl) (by kernel_rfl) (by kernel_rfl) (fun _ _ _ h => h) (Or.inl ⟨by rfl, ?_⟩) hS0 ?_
    rotate_left
    · (intro w9 hSw; (try dsimp only at hSw); go_simp; try with_reducible rfl)
    try simp only [Act.put, List.setIfInBounds_toArray, List.set_cons_zero, List.set_cons_succ]
    refine held_take (i := 5) (oi := { dst := some 50, op := Op.move (Operand.tmp 7), type := 3, pos := "l5_robins.go:80", after := #[], guard := none }) (v := ?_) rfl (by kernel_rfl) (by kernel_rfl) (by kernel_rfl) (by kernel_rfl) (fun _ _ _ h => h) (Or.inl ⟨by rfl, ?_⟩) hS0 ?_
    rotate_left
    · (intro w9 hSw; (try dsimp only at hSw); go_simp; try with_reducible rfl)
    try simp only [Act.put, List.setIfInBounds_toArray, List.set_cons_zero, List.set_cons_succ]
    refine held_take (i := 6) (oi := { dst := some 51, op := Op.indexAddr 23 (Operand.tmp 49) (Operand.tmp 50), type := 0, pos := "l5_robins.go:80", after := #[{ on := 4, ground := Ground.data }, { on := 5, ground := Ground.data }], guard := none }) (v := ?_) rfl (by kernel_rfl) (by kernel_rfl) (by kernel_rfl) (by kernel_rfl) (fun _ _ _ h => h) (Or.inl ⟨by rfl, ?_⟩) hS0 ?_
    rotate_left
    · (intro w9 hSw; (try dsimp only at hSw); go_simp; try with_reducible rfl)
    try simp only [Act.put, List.setIfInBounds_toArray, List.set_cons_zero, List.set_cons_succ]
    refine held_take (i := 7) (oi := { dst := some 52, op := Op.fieldAddr 40 (Operand.tmp 51) 2, type := 0, pos := "l5_robins.go:80", after := #[{ on := 6, ground := Ground.data }], guard := none }) (v := ?_) rfl (by kernel_rfl) (by kernel_rfl) (by kernel_rfl) (by kernel_rfl) (fun _ _ _ h => h) (Or.inl ⟨by rfl, ?_⟩) hS0 ?_
    rotate_left
    · (intro w9 hSw; (try dsimp only at hSw); go_simp; try with_reducible rfl)
    try simp only [Act.put, List.setIfInBounds_toArray, List.set_cons_zero, List.set_cons_succ]
    refine held_take (i := 8) (oi := { dst := some 53, op := Op.load 32 (Operand.tmp 52), type := 32, pos := "l5_robins.go:80", after := #[{ on := 7, ground := Ground.data }], guard := none }) (v := ?_) rfl (by kernel_rfl) (by kernel_rfl) (by kernel_rfl) (by kernel_rfl) (fun _ _ _ h => h) (Or.inl ⟨by rfl, ?_⟩) hS0 ?_
    rotate_left
    · (intro w9 hSw; (try dsimp only at hSw); go_simp; try with_reducible rfl)
    try simp only [Act.put, List.setIfInBounds_toArray, List.set_cons_zero, List.set_cons_succ]
    refine held_take (i := 9) (oi := { dst := some 54, op := Op.load 28 (Operand.tmp 3), type := 28, pos := "l5_robins.go:80", after := #[], guard := none }) (v := ?_) rfl (by kernel_rfl) (by kernel_rfl) (by kernel_rfl) (by kernel_rfl) (fun _ _ _ h => h) (Or.inl ⟨by rfl, ?_⟩) hS0 ?_
    rotate_left
    · (intro w9 hSw; (try dsimp only at hSw); go_simp; try with_reducible rfl)
    try simp only [Act.put, List.setIfInBounds_toArray, List.set_cons_zero, List.set_cons_succ]
    refine held_one (i := 10) (o := { dst := some 55, op := Op.buildSlice 32 1 #[(0, Operand.tmp 54)], type := 32, pos := "l5_robins.go:80", after := #[{ on := 9, ground := Ground.data }], guard := none }) (by kernel_rfl) rfl (fun K hK => ?_)
    go_simp
    have T1 := Lib.hid (show Below w3.heap.size w3 _ from (below_alloc (Below.refl _ _) (.cells #[.int .i64 p.peer, .int .i64 p.lane, .int .i64 p.size, .int .i64 p.id] 28)).drew)
    have hS1 := jn_holdS (do_below D3.out T1.out) HH.out (blk_below B3.out T1.out zR) (blk_below (show Blk w3 (w.heap.size + 1) 28 #[.int .i64 p.peer, .int .i64 p.lane, .int .i64 p.size, .int .i64 p.id] from fm_blk F3.out 1 rfl) T1.out zk)
    refine hK.out _ _ (.inr hS1) ?_
    clear hK K
    try simp only [Act.put, List.setIfInBounds_toArray, List.set_cons_zero, List.set_cons_succ]
    refine held_one (i := 11) (o := { dst := some 56, op := Op.call { callee := Callee.builtin Builtin.append, args := #[Operand.tmp 53, Operand.tmp 55], argTypes := #[32, 32] }, type := 32, pos := "l5_robins.go:80", after := #[{ on := 8, ground := Ground.data }, { on := 10, ground := Ground.data }], guard := none }) (by kernel_rfl) rfl (fun K hK => ?_)
    refine step_app_pkts _ rfl (.tmp 53) (.tmp 55) rfl w1b.heap.size (.slice hk.A hk.n hk.c) hk.n f.ws rfl (World.ownsRow.drew (World.ownsRow.alloc HA.out.2.2.2.1 _)) (some ⟨w3.heap.size, 0, none⟩) 1 1 [p] rfl (pr_drewN (pr_single (blk_at rfl _ _)) 1) (by omega) (by simp; omega) ?_
    intro v5 w5 ho5 hg5 hat5
    obtain ⟨A5, c5, rfl, -, -, -⟩ := own_form ho5
    have hg5' : w3.grownBy w5 hk.sl.ownBlock := (World.grownBy_alloc w3 (.cells #[.int .i64 p.peer, .int .i64 p.lane, .int .i64 p.size, .int .i64 p.id] 28) _).trans (show (w3.alloc (.cells #[.int .i64 p.peer, .int .i64 p.lane, .int .i64 p.size, .int .i64 p.id] 28)).grownBy w5 _ from ⟨hg5.os, hg5.tape, hg5.output, hg5.size, hg5.block⟩)
    have D5 := Lib.hid (do_put D3.out HH.out HF.out (by omega) hg5' ho5 (hat5.imp id fun h => ⟨_, h, by simp⟩))
    have NB := Lib.hid (show ∀ b, hk.sl.ownBlock = some b → w1b.heap.size ≤ b ∧ b < w2.heap.size ∧ b ≠ g from fun b e => ⟨(HA.out.2.2.2.1.lt b e).1, ((D2.out.all k hk f HH.out HF.out).2.2.2.1.lt b e).2, fun h => HA.out.2.2.2.2 b e (by rw [h]; rfl)⟩)
    have F5 := Lib.hid (fm_grownO F3.out hg5' fun b e => ⟨by have := NB.out b e; omega, bx3p_hi (by have := NB.out b e; omega)⟩)
    have B5 := Lib.hid (blk_grownQ B3.out hg5' fun e => by have := (NB.out _ e.symm).2.1; omega)
    have C5 := Lib.hid (show w5.cell? ⟨g, k * 3 + 2, none⟩ = some (.slice hk.A hk.n hk.c) from (hg5'.cell_far ⟨g, k * 3 + 2, none⟩ zg fun e => (NB.out g e.symm).2.2 rfl).trans c2')
    have E5 := Lib.hid (show w5.frozen? ⟨g, k * 3 + 2, none⟩ = false from (froz_far hg5' zg fun e => (NB.out g e.symm).2.2 rfl).trans f0)
    have c5' := C5.out
    have e5' := E5.out
    have hS5 := And.intro C5.out (And.intro (lv_hold B5.out) (blk_fourR (fm_blk F5.out 1 rfl)).1)
    have zg5 : g < w5.heap.size := Nat.lt_of_lt_of_le zg hg5'.size
    clear hg5 hat5 ho5 hg5'
    refine hK.out _ _ (.inr hS5) ?_
    clear hK K
    try simp only [Act.put, List.setIfInBounds_toArray, List.set_cons_zero, List.set_cons_succ]
    refine held_one (i := 12) (o := { dst := some 57, op := Op.indexAddr 23 (Operand.tmp 46) (Operand.tmp 47), type := 0, pos := "l5_robins.go:80", after := #[{ on := 1, ground := Ground.data }, { on := 2, ground := Ground.data }, { on := 0, ground := Ground.phase }, { on := 1, ground := Ground.phase }, { on := 2, ground := Ground.phase }, { on := 3, ground := Ground.phase }, { on := 4, ground := Ground.phase }, { on := 5, ground := Ground.phase }, { on := 6, ground := Ground.phase }, { on := 7, ground := Ground.phase }, { on := 8, ground := Ground.phase }, { on := 9, ground := Ground.phase }, { on := 10, ground := Ground.phase }, { on := 11, ground := Ground.phase }], guard := none }) (by kernel_rfl) rfl (fun K hK => ?_)
    go_simp
    refine hK.out _ _ (.inr hS5) ?_
    clear hK K
    try simp only [Act.put, List.setIfInBounds_toArray, List.set_cons_zero, List.set_cons_succ]
    refine held_take (i := 13) (oi := { dst := some 58, op := Op.fieldAddr 40 (Operand.tmp 57) 2, type := 0, pos := "l5_robins.go:80", after := #[{ on := 12, ground := Ground.data }, { on := 0, ground := Ground.phase }, { on := 1, ground := Ground.phase }, { on := 2, ground := Ground.phase }, { on := 3, ground := Ground.phase }, { on := 4, ground := Ground.phase }, { on := 5, ground := Ground.phase }, { on := 6, ground := Ground.phase }, { on := 7, ground := Ground.phase }, { on := 8, ground := Ground.phase }, { on := 9, ground := Ground.phase }, { on := 10, ground := Ground.phase }, { on := 11, ground := Ground.phase }], guard := none }) (v := ?_) rfl (by kernel_rfl) (by kernel_rfl) (by kernel_rfl) (by kernel_rfl) (fun _ _ _ h => h) (Or.inl ⟨by rfl, ?_⟩) hS5 ?_
    rotate_left
    · (intro w9 hSw; (try dsimp only at hSw); go_simp; try with_reducible rfl)
    try simp only [Act.put, List.setIfInBounds_toArray, List.set_cons_zero, List.set_cons_succ]
    refine held_one (i := 14) (o := { dst := none, op := Op.store 32 (Operand.tmp 58) (Operand.tmp 56), type := 0, pos := "l5_robins.go:80", after := #[{ on := 13, ground := Ground.data }, { on := 11, ground := Ground.data }, { on := 11, ground := Ground.chain }, { on := 0, ground := Ground.phase }, { on := 1, ground := Ground.phase }, { on := 2, ground := Ground.phase }, { on := 3, ground := Ground.phase }, { on := 4, ground := Ground.phase }, { on := 5, ground := Ground.phase }, { on := 6, ground := Ground.phase }, { on := 7, ground := Ground.phase }, { on := 8, ground := Ground.phase }, { on := 9, ground := Ground.phase }, { on := 10, ground := Ground.phase }, { on := 11, ground := Ground.phase }], guard := none }) (by kernel_rfl) rfl (fun K hK => ?_)
    go_simp
    refine hK.out _ _ (.inl rfl) ?_
    clear hK K
    try simp only [Act.put, List.setIfInBounds_toArray, List.set_cons_zero, List.set_cons_succ]
    refine held_done (by kernel_rfl) ?_ _
    clear hS0 hS1 hS5 c0 c1 c2' l0 l1 lf0 lf1 o0 o1 of0 of1 zR zk zo k0 k1 k2 k3 g0 g1 zg0
    obtain ⟨o0, o1, of0, of1⟩ := blk_two (fm_blk F5.out 2 rfl)
    obtain ⟨l0, l1, -, -⟩ := blk_two B5.out
    have zo := blk_lt (fm_blk F5.out 2 rfl)
    have zR := blk_lt B5.out
    have hgl := (D3.out.row.lt g rfl)
    have hg2' := (D2.out.row.lt g rfl).2
    go_wp2_with fail
    refine bodyPost_ret (v := .tuple #[.agg #[.int .i64 q, (.slice (some ⟨g, 0, none⟩) fs.length c2)], .bool true]) (by simp [results, Try.results32, go_sem, o0, o1]) rfl ⟨_, _, _, hs2.set k ⟨hk.peer, hk.dfc, A5, hk.n + 1, c5⟩, rfl, ?_, ?_⟩
    · rw [HJ.out]
      refine do_mono (lo := w1b.heap.size) ?_ (by omega)
      iterate 2 (with_reducible refine do_far ?_ (by simp <;> omega) _)
      exact D5.out
    · iterate 3 (with_reducible refine Below.setCell ?_ (by simp <;> omega) _)
      exact F5.out.below
  · obtain ⟨-, -, hp⟩ := leave_none hlt
    have HJ := Lib.hid (join_new (p := p) hlt)
    have HP := Lib.hid hp
    clear h hk hp hlt hl
    go_enter Try.func32, Try.ntmps32
    go_wp2_with (first
      | (go_at_call 36
         refine (rvS_any q A n c fs _ (fr_belowF H.out F.out.below)).mono ?_
         rintro e w1 ⟨rfl, hb1⟩
         rw [HR.out]
         have F1 := Lib.hid (fm_below F.out hb1)
         obtain ⟨⟨k0, k1, k2, k3⟩, -⟩ := blk_fourR (fm_blk F1.out 1 rfl)
         obtain ⟨o0, o1, of0, of1⟩ := blk_two (fm_blk F1.out 2 rfl)
         obtain ⟨g0, g1, -⟩ := blk_two (fm_blk F1.out 0 rfl)
         have zk := blk_lt (fm_blk F1.out 1 rfl)
         clear hb1)
      | (go_at_call 67
         refine (vldS_any p _).mono ?_
         rintro e w1b ⟨rfl, hb1⟩
         rw [HVP.out]
         have F1b := Lib.hid (fm_below F1.out hb1)
         clear hb1 k0 k1 k2 k3 o0 o1 of0 of1 g0 g1 zk
         obtain ⟨⟨k0, k1, k2, k3⟩, -⟩ := blk_fourR (fm_blk F1b.out 1 rfl)
         obtain ⟨o0, o1, of0, of1⟩ := blk_two (fm_blk F1b.out 2 rfl)
         obtain ⟨g0, g1, -⟩ := blk_two (fm_blk F1b.out 0 rfl)
         have zk := blk_lt (fm_blk F1b.out 1 rfl))
      | (go_at_call 60
         refine (copyRS_any q A n c fs _ (fr_belowF H.out F1b.out.below)).mono ?_
         rintro e w2 ⟨A2, n2, c2, hs2, rfl, rfl, -, -, hD, hb2⟩
         have F2 := Lib.hid (fm_below F1b.out hb2)
         have D2 := Lib.hid hD
         have Z2 := Lib.hid hb2.size
         clear hb2 hD k0 k1 k2 k3 o0 o1 of0 of1 g0 g1 zk
         obtain ⟨⟨k0, k1, k2, k3⟩, -⟩ := blk_fourR (fm_blk F2.out 1 rfl)
         obtain ⟨g0, g1, -⟩ := blk_two (fm_blk F2.out 0 rfl)
         have zk := blk_lt (fm_blk F2.out 1 rfl)
         have zg0 := blk_lt (fm_blk F2.out 0 rfl))
      | (go_at_call 68
         refine (findS_any q A n c fs p.peer _ (fr_belowF H.out (below_alloc F2.out.below _))).mono ?_
         rintro e w3 ⟨rfl, hb3⟩
         rw [HP.out]
         have T3 := Lib.hid (below_seq1 (Below.refl _ _) hb3)
         have F3 := Lib.hid (fm_below F2.out T3.out)
         have D3 := Lib.hid (do_below D2.out T3.out)
         have B3 := Lib.hid (blk_below (blk_new w2 25 #[.int .i64 q, (.slice A2 fs.length c2)]) hb3 (by simp))
         obtain ⟨l0, l1, lf0, lf1⟩ := blk_two B3.out
         obtain ⟨o0, o1, of0, of1⟩ := blk_two (fm_blk F3.out 2 rfl)
         have zR := blk_lt B3.out
         have zo := blk_lt (fm_blk F3.out 2 rfl)
         clear hb3 k0 k1 k2 k3 g0 g1 zk zg0
         obtain ⟨⟨k0, k1, k2, k3⟩, -⟩ := blk_fourR (fm_blk F3.out 1 rfl)
         obtain ⟨g0, g1, -⟩ := blk_two (fm_blk F3.out 0 rfl)
         have zk := blk_lt (fm_blk F3.out 1 rfl)
         have zg0 := blk_lt (fm_blk F3.out 0 rfl))
      | (at_builtin
         refine wpl_app_flws _ rfl (.tmp 26) (.tmp 32) rfl w1b.heap.size (.slice A2 fs.length c2) fs.length hs2 rfl ((D3.out.row.alloc _).alloc _) (some ⟨w3.heap.size + 1, 0, none⟩) 1 1 [⟨p.peer, 0, some ⟨w3.heap.size, 0, none⟩, 1, 1⟩] rfl (hr_single (blk_at (by simp) _ _)) (by omega) (by have := Z2.out; have := T3.out.size; simp; omega) ?_
         intro v5 w5 ho5 hg5 hat5
         obtain ⟨A5, c5, rfl, -, -, -⟩ := own_form ho5
         have D5 := Lib.hid (do_snoc (f := ⟨p.peer, 0, [p]⟩) D3.out (below_alloc (below_alloc (Below.refl _ _) (.cells #[.int .i64 p.peer, .int .i64 p.lane, .int .i64 p.size, .int .i64 p.id] 28)) (.cells #[.int .i64 p.peer, .int .i64 0, (.slice (some ⟨w3.heap.size, 0, none⟩) 1 1)] 40)) ((World.ownsRow_lit w3 _ 1 (Nat.le_refl _) (by unfold maxLen; omega) rfl).alloc _) (Nat.le_refl _) (by omega) (by have := Z2.out; have := T3.out.size; omega) ho5 hg5 hat5)
         have hg5' := (g_alloc (g_alloc (g_refl w3 (Value.ownBlock (.slice A2 fs.length c2))) (.cells #[.int .i64 p.peer, .int .i64 p.lane, .int .i64 p.size, .int .i64 p.id] 28)) (.cells #[.int .i64 p.peer, .int .i64 0, (.slice (some ⟨w3.heap.size, 0, none⟩) 1 1)] 40)).trans hg5
         have hw1 : w.heap.size + 3 ≤ w1b.heap.size := (by have := blk_lt (fm_blk F1b.out 2 rfl); omega)
         have F5 := Lib.hid (fm_grownO F3.out hg5' fun b e => ⟨by have := (D3.out.row.lt b e).1; omega, bx3p_hi (by have := (D3.out.row.lt b e).1; omega)⟩)
         have B5 := Lib.hid (blk_grownQ B3.out hg5' fun e => by have := (D2.out.row.lt _ e.symm).2; omega)
         have AT := Lib.hid (show ∀ b, Value.ownBlock (.slice A5 (fs.length + 1) c5) = some b → b ≠ w2.heap.size from fun b e => (by
           rcases hat5 with h | h
           · have := (D2.out.row.lt b (h.symm.trans e)).2; omega
           · rw [h] at e; injection e with e; simp at e; omega))
         clear hg5 hat5 ho5 hg5' l0 l1 lf0 lf1 o0 o1 of0 of1
         obtain ⟨l0, l1, lf0, lf1⟩ := blk_two B5.out
         obtain ⟨o0, o1, of0, of1⟩ := blk_two (fm_blk F5.out 2 rfl)
         have zR5 := blk_lt B5.out
         have zo5 := blk_lt (fm_blk F5.out 2 rfl)
         have zw2 : w1b.heap.size ≤ w2.heap.size := Z2.out
         have zn : w.heap.size + 1 + 1 < w2.heap.size := by omega
         have zn1 : ¬ w2.heap.size = w.heap.size + 1 + 1 := by omega
         have zn2 : ¬ w2.heap.size = w.heap.size + 2 := by omega))
    have zw2 : w1b.heap.size ≤ w2.heap.size := Z2.out
    have zn : w.heap.size + 2 < w2.heap.size := by omega
    refine bodyPost_ret (v := .tuple #[.agg #[.int .i64 q, (.slice A5 (fs.length + 1) c5)], .bool true]) (by simp [results, Try.results32, go_sem, o0, o1]) rfl ⟨_, _, _, hs2 ++ [⟨p.peer, 0, some ⟨w3.heap.size, 0, none⟩, 1, 1⟩], rfl, ?_, ?_⟩
    · rw [HJ.out]
      refine do_mono (lo := w1b.heap.size) ?_ (by omega)
      iterate 2 (with_reducible refine do_far ?_ (by simp <;> omega) _)
      exact do_ne D5.out (fun b e => by have := AT.out b e; simpa using this) (fun j h hj b e => by
        rcases Nat.lt_or_ge j hs2.length with hlt | hge
        · rw [List.getElem?_append_left hlt] at hj
          have := ((D2.out.all j h _ hj (List.getElem?_eq_getElem (by rw [← D2.out.len]; exact hlt))).2.2.2.1.lt b e).2
          simp; omega
        · rw [List.getElem?_append_right hge] at hj
          have h0 : j - hs2.length = 0 := by
            rcases Nat.eq_zero_or_pos (j - hs2.length) with e0 | e0
            · exact e0
            · rw [List.getElem?_eq_none (by simp; omega)] at hj; cases hj
          rw [h0] at hj
          obtain rfl : (⟨p.peer, 0, some ⟨w3.heap.size, 0, none⟩, 1, 1⟩ : Fh) = h := Option.some.inj hj
          have e' : w3.heap.size = b := Option.some.inj e
          simp; omega) _
    · iterate 3 (with_reducible refine Below.setCell ?_ (by simp <;> omega) _)
      exact F5.out.below
end Go.Proofs.Ytehokkijfgiggaa
