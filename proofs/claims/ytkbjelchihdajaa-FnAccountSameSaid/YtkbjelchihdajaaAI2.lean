/-
  Chapter 4: what is free, Reserve, Release, NewAccount; the program's. Conditions: a slice has at most 4000000000 numbers.
-/
import Derived.Test.YtkbjelchihdajaaAI1
namespace Go.Proofs.Ytkbjelchihdajaa
open Go.RowKit

set_option maxHeartbeats 1000000 in
theorem freeI_no (lim each : Int) (A : Option Addr) (n c : Nat) (us : List Int) (x : Int) (w : World) (h : NR w A n us) (hn : n ≤ 9223372036854775807) (hk : frOk lim each us x = false) :
    Calls Try.prog 19 #[.agg #[.int .i64 lim, .int .i64 each, (.slice A n c)], .int .i64 x] w fun e w' => e = .returned (.tuple #[.int .i64 0, .bool false]) ∧ Below w.heap.size w w' := by
  have F0 := Lib.hid (fa_first (lim := lim) (each := each) (c := c) h)
  have HK := Lib.hid hk
  clear h hk
  go_enter Try.func19, Try.ntmps19
  go_wp2_with fail
  refine (hasI_any lim each A n c us x _ (fa_pr F0.out) hn).mono ?_
  rintro e w1 ⟨rfl, hb⟩
  rw [HK.out]
  have F1 := Lib.hid (fa_below F0.out hb)
  clear hb
  go_wp2
  go_ret2
  exact ⟨rfl, fa_bel F1.out⟩
set_option maxHeartbeats 2000000 in
theorem freeI_yes (lim each : Int) (A : Option Addr) (n c : Nat) (us : List Int) (k : Nat) (u : Int) (w : World) (h : NR w A n us) (hv : acB lim each us = true) (hk : prB (k : Int) = true) (hu : us[k]? = some u) :
    Calls Try.prog 19 #[.agg #[.int .i64 lim, .int .i64 each, (.slice A n c)], .int .i64 (k : Int)] w fun e w' => e = .returned (.tuple #[.int .i64 (freeN lim each us u), .bool true]) ∧ Below w.heap.size w w' := by
  have F0 := Lib.hid (fa_first (lim := lim) (each := each) (c := c) h)
  obtain ⟨a1, a2, a3, a4, a5, a6⟩ := ac_of hv
  obtain ⟨u0, u1, u2⟩ := ac_get hv hu
  have HK : Hid (frOk lim each us (k : Int) = true) := Lib.hid (by simp [frOk, hv, hk])
  have hl := h.1
  have h5 := Lib.hid (ac_5000 hv)
  obtain ⟨S, hS⟩ : ∃ S, sumL us = S := ⟨_, rfl⟩
  rw [hS] at a5 a6 u2
  have HS := Lib.hid hS
  have kn : k < n := by
    rcases Nat.lt_or_ge k us.length with hl' | hl'
    · omega
    · rw [List.getElem?_eq_none hl'] at hu; cases hu
  have n8 : n ≤ 64 := by omega
  have HF : Hid (freeN lim each us u = if each - u < lim - S then each - u else lim - S) := Lib.hid (by rw [freeN, hS])
  have HU := Lib.hid hu
  clear h hv hk hu a1 a4 hl hS
  go_enter Try.func19, Try.ntmps19
  go_wp2_with fail
  refine (hasI_any lim each A n c us k _ (fa_pr F0.out) (by omega)).mono ?_
  rintro e w1 ⟨rfl, hb⟩
  rw [HK.out]
  have F1 := Lib.hid (fa_below F0.out hb)
  clear hb F0
  obtain ⟨b, off, u', rfl, hb, hx, c0⟩ := nr_at (fa_pr F1.out) kn
  obtain rfl : u = u' := by have := HU.out; rw [this] at hx; injection hx
  obtain ⟨⟨q0, q1, q2⟩, -⟩ := fa_cells F1.out
  have k0 : (0 : Int) ≤ (k : Int) := by omega
  have k1 : (k : Int) < (n : Int) := by omega
  have y1 : IntKind.i64.wrap (lim - S) = lim - S := IntWalk.i64_in _ (by omega)
  have y2 : IntKind.i64.wrap (each - u) = each - u := IntWalk.i64_in _ (by omega)
  clear hx hb
  by_cases hlt : each - u < lim - S
  · go_wp2_with fail
    go_quiet ((go_at_call 46; exact Calls.quiet_of_same (sumI_is _ n c us S _ (fa_pr (fa_drewN F1.out _)) h5.out n8 HS.out)))
    go_wp2
    go_ret2
    exact ⟨ret_two (by rw [HF.out, if_pos hlt]) rfl, fa_bel (fa_drewN F1.out _)⟩
  · have HLT := Lib.hid hlt
    go_wp2_with fail
    go_quiet ((go_at_call 46; exact Calls.quiet_of_same (sumI_is _ n c us S _ (fa_pr (fa_drewN F1.out _)) h5.out n8 HS.out)))
    go_wp2
    go_ret2
    exact ⟨ret_two (by rw [HF.out, if_neg (by have := HLT.out; omega)]) rfl, fa_bel (fa_drewN F1.out _)⟩
def OwnI (w : World) (n : Nat) (us : List Int) (e : Ending) (w' : World) : Prop :=
  ∃ A c, e = .returned (.slice A n c) ∧ w'.ownsRow w.heap.size 3 1 (.slice A n c) n (icells us) ∧ Below w.heap.size w w'
theorem nr_none {w : World} {n : Nat} {us : List Int} (h : NR w none n us) : n = 0 ∧ us = [] := by
  have hm : n = 0 := by
    rcases Nat.eq_zero_or_pos n with hm | hm
    · exact hm
    · obtain ⟨b, off, e, _⟩ := h.2 (by rw [h.1]; exact hm)
      cases e
  subst hm
  exact ⟨rfl, List.eq_nil_of_length_eq_zero h.1⟩
theorem app_belowI {w w1 w2 : World} {v : Value} {n : Nat} {xs : List Value} (ho : w1.ownsRow w.heap.size 3 1 v n xs) (hb : Below w.heap.size w w1) (hg : w1.grownBy w2 v.ownBlock) : Below w.heap.size w w2 :=
  hb.grown hg hb.size fun k hk => (ho.lt k hk).1
set_option maxHeartbeats 1000000 in
theorem cloneI_any (A : Option Addr) (n c : Nat) (us : List Int) (w : World) (h : NR w A n us) (hn : n ≤ 4000000000) :
    Calls Try.prog 58 #[.slice A n c] w (OwnI w n us) := by
  cases A with
  | none =>
    obtain ⟨rfl, rfl⟩ := nr_none h
    clear h
    have q23 : ∀ (w : World) (a : Option Addr) (n c n' c' : Nat), (binOp .eql 23 (.slice a n c) (.slice none n' c')).run Try.prog w = .ok (.bool a.isNone) w := fun w a n c n' c' => Lib.run_eql_slice_nil w _ _ a n c n' c' Try.underlying23
    go_enter Try.func58, Try.ntmps58
    go_wp2
    go_ret
    exact ⟨none, 0, rfl, World.ownsRow_nil _ _ _ _, Below.refl _ _⟩
  | some ad =>
    have H := Lib.hid h
    have O0 := Lib.hid (own_emptyI (W := w) (b := w.heap.size) rfl)
    clear h
    have q23 : ∀ (w : World) (a : Option Addr) (n c n' c' : Nat), (binOp .eql 23 (.slice a n c) (.slice none n' c')).run Try.prog w = .ok (.bool a.isNone) w := fun w a n c n' c' => Lib.run_eql_slice_nil w _ _ a n c n' c' Try.underlying23
    go_enter Try.func58, Try.ntmps58
    go_wp2_with (at_builtin; refine wpl_app_ints _ rfl (.tmp 5) (.tmp 6) rfl w.heap.size (.slice (some ⟨w.heap.size, 0, none⟩) 0 0) 0 [] rfl O0.out (some ad) n c us rfl (nr_alloc H.out _) (by omega) (by simp) ?_; intro v1 w3 ho3 hg3 hat3; simp only [List.nil_append, Nat.zero_add] at ho3; have T3 := Lib.hid (app_belowI O0.out (below_alloc (Below.refl _ _) _) hg3); clear hg3 hat3)
    obtain ⟨A2, c2, rfl, hmc, hcm, -⟩ := own_form ho3
    have O3 := Lib.hid ho3
    clear ho3
    go_wp2
    go_ret
    exact ⟨A2, c2, rfl, O3.out, T3.out⟩
theorem own_end {w w3 : World} {base n m : Nat} {v : Value} {xs : List Value} {bs : List (TypeId × Array Value)} {A : Option Addr} {us : List Int} (h : Fn w bs A m us w3) (ho : w3.ownsRow base 3 1 v n xs) (h2 : w.heap.size + 2 ≤ base) (u0 u1 u2 : Value) :
    (((w3.setCell ⟨w.heap.size + 1, 0, none⟩ u0).setCell ⟨w.heap.size + 1, 1, none⟩ u1).setCell ⟨w.heap.size + 1, 2, none⟩ u2).ownsRow w.heap.size 3 1 v n xs ∧
    Below w.heap.size w (((w3.setCell ⟨w.heap.size + 1, 0, none⟩ u0).setCell ⟨w.heap.size + 1, 1, none⟩ u1).setCell ⟨w.heap.size + 1, 2, none⟩ u2) :=
  ⟨own_mono (own_set_far (own_set_far (own_set_far ho (by simp; omega) _) (by simp; omega) _) (by simp; omega) _) (by omega), Below.setCell (Below.setCell (Below.setCell h.below (by simp) _) (by simp) _) (by simp) _⟩
set_option maxHeartbeats 2000000 in
theorem useI_any (lim each : Int) (A : Option Addr) (n c : Nat) (us : List Int) (k : Nat) (u b : Int) (w : World) (h : NR w A n us) (hn : n ≤ 4000000000) (hu : us[k]? = some u) (hb1 : -100000 ≤ u + b ∧ u + b ≤ 100000) :
    Calls Try.prog 40 #[.agg #[.int .i64 lim, .int .i64 each, (.slice A n c)], .int .i64 (k : Int), .int .i64 b] w (ACopy w lim each n (us.set k (u + b))) := by
  have F0 := Lib.hid (rs_first h lim each c)
  have HU := Lib.hid hu
  have kn : k < n := by
    rcases Nat.lt_or_ge k us.length with hl' | hl'
    · have := h.1; omega
    · rw [List.getElem?_eq_none hl'] at hu; cases hu
  clear h hu
  go_enter Try.func40, Try.ntmps40
  go_wp2_with fail
  refine (cloneI_any A n c us _ F0.out.pr hn).mono ?_
  rintro e w1 ⟨A2, c2, rfl, ho, hb⟩
  obtain ⟨b3, c3', hv3, hb3a, hb3b⟩ := ho.form (by omega)
  obtain ⟨rfl, rfl⟩ : A2 = some ⟨b3, 0, none⟩ ∧ c2 = c3' := by injection hv3 with e1 e2 e3; exact ⟨e1, e3⟩
  have F := Lib.hid (fn_below F0.out hb)
  have O1 := Lib.hid (show w1.ownsRow (w.heap.size + 2) 3 1 (.slice (some ⟨b3, 0, none⟩) n c2) n (icells us) from own_mono ho (by simp))
  have hbb : w.heap.size + 2 ≤ b3 := by simp at hb3a; omega
  obtain ⟨b', off', e1, d0, -⟩ := nr_at' (nr_own O1.out) HU.out
  obtain ⟨rfl, rfl⟩ : b3 = b' ∧ 0 = off' := by injection e1 with e1; injection e1 with e2 e3; exact ⟨e2, e3⟩
  rw [Nat.zero_add] at d0
  have g0 := World.ownsRow.frozenAt O1.out k
  have k0 : (0 : Int) ≤ (k : Int) := by omega
  have k1 : (k : Int) < (n : Int) := by omega
  have OP := Lib.hid (own_set_int O1.out k (u + b))
  have FP := Lib.hid (fn_set F.out (a := ⟨b3, k, none⟩) (by simp [rsBs]; omega) (.int .i64 (u + b)))
  clear hb ho F0 hv3 e1
  have F0c0 : World.cell? w1 ⟨w.heap.size, 0, none⟩ = some (.int .i64 lim) := blk_cell (F.out.it 0 _ _ rfl) 0
  have F0f0 : World.frozen? w1 ⟨w.heap.size, 0, none⟩ = false := blk_free (F.out.it 0 _ _ rfl) 0
  have F0c1 : World.cell? w1 ⟨w.heap.size, 1, none⟩ = some (.int .i64 each) := blk_cell (F.out.it 0 _ _ rfl) 1
  have F0f1 : World.frozen? w1 ⟨w.heap.size, 1, none⟩ = false := blk_free (F.out.it 0 _ _ rfl) 1
  have F0c2 : World.cell? w1 ⟨w.heap.size, 2, none⟩ = some ((.slice A n c)) := blk_cell (F.out.it 0 _ _ rfl) 2
  have F0f2 : World.frozen? w1 ⟨w.heap.size, 2, none⟩ = false := blk_free (F.out.it 0 _ _ rfl) 2
  have F1c0 : World.cell? w1 ⟨w.heap.size + 1, 0, none⟩ = some (.int .i64 0) := blk_cell (F.out.it 1 _ _ rfl) 0
  have F1f0 : World.frozen? w1 ⟨w.heap.size + 1, 0, none⟩ = false := blk_free (F.out.it 1 _ _ rfl) 0
  have F1c1 : World.cell? w1 ⟨w.heap.size + 1, 1, none⟩ = some (.int .i64 0) := blk_cell (F.out.it 1 _ _ rfl) 1
  have F1f1 : World.frozen? w1 ⟨w.heap.size + 1, 1, none⟩ = false := blk_free (F.out.it 1 _ _ rfl) 1
  have F1c2 : World.cell? w1 ⟨w.heap.size + 1, 2, none⟩ = some ((.slice none 0 0)) := blk_cell (F.out.it 1 _ _ rfl) 2
  have F1f2 : World.frozen? w1 ⟨w.heap.size + 1, 2, none⟩ = false := blk_free (F.out.it 1 _ _ rfl) 2
  have ne0 : w.heap.size + 1 ≠ b3 := by omega
  have ne1 : w.heap.size ≠ b3 := by omega
  go_wp2
  refine bodyPost_ret (v := .agg #[.int .i64 lim, .int .i64 each, (.slice (some ⟨b3, 0, none⟩) n c2)]) (by simp [results, Try.results40, go_sem, F1c0, F1c1, F1c2]) rfl ⟨_, _, rfl, (own_end FP.out OP.out (Nat.le_refl _) _ _ _).1, (own_end FP.out OP.out (Nat.le_refl _) _ _ _).2⟩
set_option maxHeartbeats 2000000 in
theorem rsvI_no (lim each : Int) (A : Option Addr) (n c : Nat) (us : List Int) (x b : Int) (w : World) (h : NR w A n us) (hn : n ≤ 4000000000) (hk : rsOk lim each us x b = false) :
    Calls Try.prog 16 #[.agg #[.int .i64 lim, .int .i64 each, (.slice A n c)], .int .i64 x, .int .i64 b] w (APost2 w 0 0 [] false false) := by
  have F0 := Lib.hid (rs_first h lim each c)
  clear h
  rcases hf : frOk lim each us x with _ | _
  · have HF := Lib.hid hf
    clear hf hk
    go_enter Try.func16, Try.ntmps16
    go_wp2_with fail
    refine (freeI_no lim each A n c us x _ F0.out.pr (by omega) HF.out).mono ?_
    rintro e w1 ⟨rfl, hb⟩
    have F := Lib.hid (fn_below F0.out hb)
    clear hb F0
    have F0c0 : World.cell? w1 ⟨w.heap.size, 0, none⟩ = some (.int .i64 lim) := blk_cell (F.out.it 0 _ _ rfl) 0
    have F0f0 : World.frozen? w1 ⟨w.heap.size, 0, none⟩ = false := blk_free (F.out.it 0 _ _ rfl) 0
    have F0c1 : World.cell? w1 ⟨w.heap.size, 1, none⟩ = some (.int .i64 each) := blk_cell (F.out.it 0 _ _ rfl) 1
    have F0f1 : World.frozen? w1 ⟨w.heap.size, 1, none⟩ = false := blk_free (F.out.it 0 _ _ rfl) 1
    have F0c2 : World.cell? w1 ⟨w.heap.size, 2, none⟩ = some ((.slice A n c)) := blk_cell (F.out.it 0 _ _ rfl) 2
    have F0f2 : World.frozen? w1 ⟨w.heap.size, 2, none⟩ = false := blk_free (F.out.it 0 _ _ rfl) 2
    have F1c0 : World.cell? w1 ⟨w.heap.size + 1, 0, none⟩ = some (.int .i64 0) := blk_cell (F.out.it 1 _ _ rfl) 0
    have F1f0 : World.frozen? w1 ⟨w.heap.size + 1, 0, none⟩ = false := blk_free (F.out.it 1 _ _ rfl) 0
    have F1c1 : World.cell? w1 ⟨w.heap.size + 1, 1, none⟩ = some (.int .i64 0) := blk_cell (F.out.it 1 _ _ rfl) 1
    have F1f1 : World.frozen? w1 ⟨w.heap.size + 1, 1, none⟩ = false := blk_free (F.out.it 1 _ _ rfl) 1
    have F1c2 : World.cell? w1 ⟨w.heap.size + 1, 2, none⟩ = some ((.slice none 0 0)) := blk_cell (F.out.it 1 _ _ rfl) 2
    have F1f2 : World.frozen? w1 ⟨w.heap.size + 1, 2, none⟩ = false := blk_free (F.out.it 1 _ _ rfl) 2
    go_wp2
    refine bodyPost_ret (v := .tuple #[.agg #[.int .i64 0, .int .i64 0, (.slice none 0 0)], .bool false, .bool false]) (by simp [results, Try.results16, go_sem, F1c0, F1c1, F1c2]) rfl (apost2_mk rfl (World.ownsRow_nil _ _ _ _) ?_)
    repeat refine Below.setCell ?_ (by simp <;> omega) _
    exact F.out.below
  · have hb0 : b < 0 := by simp [rsOk, hf] at hk; omega
    obtain ⟨hq, hx⟩ := frOk_of hf
    obtain ⟨k, rfl, hk8⟩ := k_of hx
    obtain ⟨u, hu⟩ := ac_at hq hk8
    obtain ⟨f, hfr⟩ : ∃ f, freeN lim each us u = f := ⟨_, rfl⟩
    have HFR := Lib.hid hfr
    have HQ := Lib.hid hq
    have HX := Lib.hid hx
    have HU := Lib.hid hu
    have hd : decide (b < 0) = true := by simp; omega
    clear hf hk hq hx hu hfr
    go_enter Try.func16, Try.ntmps16
    go_wp2_with fail
    refine (freeI_yes lim each A n c us k u _ F0.out.pr HQ.out HX.out HU.out).mono ?_
    rintro e w1 ⟨rfl, hb⟩
    rw [HFR.out]
    have F := Lib.hid (fn_below F0.out hb)
    clear hb F0
    have F0c0 : World.cell? w1 ⟨w.heap.size, 0, none⟩ = some (.int .i64 lim) := blk_cell (F.out.it 0 _ _ rfl) 0
    have F0f0 : World.frozen? w1 ⟨w.heap.size, 0, none⟩ = false := blk_free (F.out.it 0 _ _ rfl) 0
    have F0c1 : World.cell? w1 ⟨w.heap.size, 1, none⟩ = some (.int .i64 each) := blk_cell (F.out.it 0 _ _ rfl) 1
    have F0f1 : World.frozen? w1 ⟨w.heap.size, 1, none⟩ = false := blk_free (F.out.it 0 _ _ rfl) 1
    have F0c2 : World.cell? w1 ⟨w.heap.size, 2, none⟩ = some ((.slice A n c)) := blk_cell (F.out.it 0 _ _ rfl) 2
    have F0f2 : World.frozen? w1 ⟨w.heap.size, 2, none⟩ = false := blk_free (F.out.it 0 _ _ rfl) 2
    have F1c0 : World.cell? w1 ⟨w.heap.size + 1, 0, none⟩ = some (.int .i64 0) := blk_cell (F.out.it 1 _ _ rfl) 0
    have F1f0 : World.frozen? w1 ⟨w.heap.size + 1, 0, none⟩ = false := blk_free (F.out.it 1 _ _ rfl) 0
    have F1c1 : World.cell? w1 ⟨w.heap.size + 1, 1, none⟩ = some (.int .i64 0) := blk_cell (F.out.it 1 _ _ rfl) 1
    have F1f1 : World.frozen? w1 ⟨w.heap.size + 1, 1, none⟩ = false := blk_free (F.out.it 1 _ _ rfl) 1
    have F1c2 : World.cell? w1 ⟨w.heap.size + 1, 2, none⟩ = some ((.slice none 0 0)) := blk_cell (F.out.it 1 _ _ rfl) 2
    have F1f2 : World.frozen? w1 ⟨w.heap.size + 1, 2, none⟩ = false := blk_free (F.out.it 1 _ _ rfl) 2
    go_wp2
    refine bodyPost_ret (v := .tuple #[.agg #[.int .i64 0, .int .i64 0, (.slice none 0 0)], .bool false, .bool false]) (by simp [results, Try.results16, go_sem, F1c0, F1c1, F1c2]) rfl (apost2_mk rfl (World.ownsRow_nil _ _ _ _) ?_)
    repeat refine Below.setCell ?_ (by simp <;> omega) _
    exact F.out.below
set_option maxHeartbeats 4000000 in
theorem rsvI_full (lim each : Int) (A : Option Addr) (n c : Nat) (us : List Int) (k : Nat) (u b : Int) (w : World) (h : NR w A n us) (hk : rsOk lim each us (k : Int) b = true) (hu : us[k]? = some u) (hlt : freeN lim each us u < b) :
    Calls Try.prog 16 #[.agg #[.int .i64 lim, .int .i64 each, (.slice A n c)], .int .i64 (k : Int), .int .i64 b] w (APost2 w lim each us false true) := by
  have F0 := Lib.hid (rs_first h lim each c)
  obtain ⟨hq, hx, hb0⟩ := rsOk_of hk
  obtain ⟨u0, u1, u2⟩ := ac_get hq hu
  obtain ⟨a1, a2, a3, a4, a5, a6⟩ := ac_of hq
  have hfl := free_le (lim := lim) (each := each) (u := u) (us := us)
  obtain ⟨f, hf⟩ : ∃ f, freeN lim each us u = f := ⟨_, rfl⟩
  rw [hf] at hfl hlt
  have f1 : f ≤ each - u := hfl.1
  have n8 : n = 8 := by have := h.1; omega
  have HQ := Lib.hid hq
  have HX := Lib.hid hx
  have HU := Lib.hid hu
  have HFV := Lib.hid hf
  have HAMT : Hid (us.set k (u + 0) = us) := Lib.hid (by rw [show u + 0 = u by omega]; exact set_same hu)
  have hd : decide (b < 0) = false := by simp; omega
  subst n8
  clear h hk hq hx hu a1 a4 a5 a6 u2 hfl hf
  go_enter Try.func16, Try.ntmps16
  go_wp2_with fail
  refine (freeI_yes lim each A 8 c us k u _ F0.out.pr HQ.out HX.out HU.out).mono ?_
  rintro e w1 ⟨rfl, hb⟩
  rw [HFV.out]
  have F := Lib.hid (fn_below F0.out hb)
  clear hb F0
  have F0c0 : World.cell? w1 ⟨w.heap.size, 0, none⟩ = some (.int .i64 lim) := blk_cell (F.out.it 0 _ _ rfl) 0
  have F0f0 : World.frozen? w1 ⟨w.heap.size, 0, none⟩ = false := blk_free (F.out.it 0 _ _ rfl) 0
  have F0c1 : World.cell? w1 ⟨w.heap.size, 1, none⟩ = some (.int .i64 each) := blk_cell (F.out.it 0 _ _ rfl) 1
  have F0f1 : World.frozen? w1 ⟨w.heap.size, 1, none⟩ = false := blk_free (F.out.it 0 _ _ rfl) 1
  have F0c2 : World.cell? w1 ⟨w.heap.size, 2, none⟩ = some ((.slice A 8 c)) := blk_cell (F.out.it 0 _ _ rfl) 2
  have F0f2 : World.frozen? w1 ⟨w.heap.size, 2, none⟩ = false := blk_free (F.out.it 0 _ _ rfl) 2
  have F1c0 : World.cell? w1 ⟨w.heap.size + 1, 0, none⟩ = some (.int .i64 0) := blk_cell (F.out.it 1 _ _ rfl) 0
  have F1f0 : World.frozen? w1 ⟨w.heap.size + 1, 0, none⟩ = false := blk_free (F.out.it 1 _ _ rfl) 0
  have F1c1 : World.cell? w1 ⟨w.heap.size + 1, 1, none⟩ = some (.int .i64 0) := blk_cell (F.out.it 1 _ _ rfl) 1
  have F1f1 : World.frozen? w1 ⟨w.heap.size + 1, 1, none⟩ = false := blk_free (F.out.it 1 _ _ rfl) 1
  have F1c2 : World.cell? w1 ⟨w.heap.size + 1, 2, none⟩ = some ((.slice none 0 0)) := blk_cell (F.out.it 1 _ _ rfl) 2
  have F1f2 : World.frozen? w1 ⟨w.heap.size + 1, 2, none⟩ = false := blk_free (F.out.it 1 _ _ rfl) 2
  
  go_wp2_with fail
  refine (useI_any lim each A 8 c us k u 0 _ F.out.pr (by omega) HU.out (by omega)).mono ?_
  rintro e w2 ⟨A3, c3, rfl, ho, hb⟩
  rw [HAMT.out] at ho
  have z1 := F.out.lt
  simp [rsBs] at z1
  have O2 := Lib.hid (own_mono (b2 := w.heap.size + 2) ho z1)
  have F2 := Lib.hid (fn_below F.out hb)
  clear F0c0 F0f0 F0c1 F0f1 F0c2 F0f2 F1c0 F1f0 F1c1 F1f1 F1c2 F1f2
  clear hb ho F
  have F20c0 : World.cell? w2 ⟨w.heap.size, 0, none⟩ = some (.int .i64 lim) := blk_cell (F2.out.it 0 _ _ rfl) 0
  have F20f0 : World.frozen? w2 ⟨w.heap.size, 0, none⟩ = false := blk_free (F2.out.it 0 _ _ rfl) 0
  have F20c1 : World.cell? w2 ⟨w.heap.size, 1, none⟩ = some (.int .i64 each) := blk_cell (F2.out.it 0 _ _ rfl) 1
  have F20f1 : World.frozen? w2 ⟨w.heap.size, 1, none⟩ = false := blk_free (F2.out.it 0 _ _ rfl) 1
  have F20c2 : World.cell? w2 ⟨w.heap.size, 2, none⟩ = some ((.slice A 8 c)) := blk_cell (F2.out.it 0 _ _ rfl) 2
  have F20f2 : World.frozen? w2 ⟨w.heap.size, 2, none⟩ = false := blk_free (F2.out.it 0 _ _ rfl) 2
  have F21c0 : World.cell? w2 ⟨w.heap.size + 1, 0, none⟩ = some (.int .i64 0) := blk_cell (F2.out.it 1 _ _ rfl) 0
  have F21f0 : World.frozen? w2 ⟨w.heap.size + 1, 0, none⟩ = false := blk_free (F2.out.it 1 _ _ rfl) 0
  have F21c1 : World.cell? w2 ⟨w.heap.size + 1, 1, none⟩ = some (.int .i64 0) := blk_cell (F2.out.it 1 _ _ rfl) 1
  have F21f1 : World.frozen? w2 ⟨w.heap.size + 1, 1, none⟩ = false := blk_free (F2.out.it 1 _ _ rfl) 1
  have F21c2 : World.cell? w2 ⟨w.heap.size + 1, 2, none⟩ = some ((.slice none 0 0)) := blk_cell (F2.out.it 1 _ _ rfl) 2
  have F21f2 : World.frozen? w2 ⟨w.heap.size + 1, 2, none⟩ = false := blk_free (F2.out.it 1 _ _ rfl) 2
  go_wp2
  refine bodyPost_ret (v := .tuple #[.agg #[.int .i64 lim, .int .i64 each, (.slice A3 8 c3)], .bool false, .bool true]) (by simp [results, Try.results16, go_sem, F21c0, F21c1, F21c2]) rfl (apost2_mk rfl (own_end F2.out O2.out (Nat.le_refl _) _ _ _).1 (own_end F2.out O2.out (Nat.le_refl _) _ _ _).2)
set_option maxHeartbeats 4000000 in
theorem rsvI_in (lim each : Int) (A : Option Addr) (n c : Nat) (us : List Int) (k : Nat) (u b : Int) (w : World) (h : NR w A n us) (hk : rsOk lim each us (k : Int) b = true) (hu : us[k]? = some u) (hlt : b ≤ freeN lim each us u) :
    Calls Try.prog 16 #[.agg #[.int .i64 lim, .int .i64 each, (.slice A n c)], .int .i64 (k : Int), .int .i64 b] w (APost2 w lim each (us.set k (u + b)) true true) := by
  have F0 := Lib.hid (rs_first h lim each c)
  obtain ⟨hq, hx, hb0⟩ := rsOk_of hk
  obtain ⟨u0, u1, u2⟩ := ac_get hq hu
  obtain ⟨a1, a2, a3, a4, a5, a6⟩ := ac_of hq
  have hfl := free_le (lim := lim) (each := each) (u := u) (us := us)
  obtain ⟨f, hf⟩ : ∃ f, freeN lim each us u = f := ⟨_, rfl⟩
  rw [hf] at hfl hlt
  have f1 : f ≤ each - u := hfl.1
  have n8 : n = 8 := by have := h.1; omega
  have HQ := Lib.hid hq
  have HX := Lib.hid hx
  have HU := Lib.hid hu
  have HFV := Lib.hid hf
  have hd : decide (b < 0) = false := by simp; omega
  subst n8
  clear h hk hq hx hu a1 a4 a5 a6 u2 hfl hf
  go_enter Try.func16, Try.ntmps16
  go_wp2_with fail
  refine (freeI_yes lim each A 8 c us k u _ F0.out.pr HQ.out HX.out HU.out).mono ?_
  rintro e w1 ⟨rfl, hb⟩
  rw [HFV.out]
  have F := Lib.hid (fn_below F0.out hb)
  clear hb F0
  have F0c0 : World.cell? w1 ⟨w.heap.size, 0, none⟩ = some (.int .i64 lim) := blk_cell (F.out.it 0 _ _ rfl) 0
  have F0f0 : World.frozen? w1 ⟨w.heap.size, 0, none⟩ = false := blk_free (F.out.it 0 _ _ rfl) 0
  have F0c1 : World.cell? w1 ⟨w.heap.size, 1, none⟩ = some (.int .i64 each) := blk_cell (F.out.it 0 _ _ rfl) 1
  have F0f1 : World.frozen? w1 ⟨w.heap.size, 1, none⟩ = false := blk_free (F.out.it 0 _ _ rfl) 1
  have F0c2 : World.cell? w1 ⟨w.heap.size, 2, none⟩ = some ((.slice A 8 c)) := blk_cell (F.out.it 0 _ _ rfl) 2
  have F0f2 : World.frozen? w1 ⟨w.heap.size, 2, none⟩ = false := blk_free (F.out.it 0 _ _ rfl) 2
  have F1c0 : World.cell? w1 ⟨w.heap.size + 1, 0, none⟩ = some (.int .i64 0) := blk_cell (F.out.it 1 _ _ rfl) 0
  have F1f0 : World.frozen? w1 ⟨w.heap.size + 1, 0, none⟩ = false := blk_free (F.out.it 1 _ _ rfl) 0
  have F1c1 : World.cell? w1 ⟨w.heap.size + 1, 1, none⟩ = some (.int .i64 0) := blk_cell (F.out.it 1 _ _ rfl) 1
  have F1f1 : World.frozen? w1 ⟨w.heap.size + 1, 1, none⟩ = false := blk_free (F.out.it 1 _ _ rfl) 1
  have F1c2 : World.cell? w1 ⟨w.heap.size + 1, 2, none⟩ = some ((.slice none 0 0)) := blk_cell (F.out.it 1 _ _ rfl) 2
  have F1f2 : World.frozen? w1 ⟨w.heap.size + 1, 2, none⟩ = false := blk_free (F.out.it 1 _ _ rfl) 2
  have hd2 : decide (f < b) = false := by simp; omega
  go_wp2_with fail
  refine (useI_any lim each A 8 c us k u b _ F.out.pr (by omega) HU.out (by omega)).mono ?_
  rintro e w2 ⟨A3, c3, rfl, ho, hb⟩
  have z1 := F.out.lt
  simp [rsBs] at z1
  have O2 := Lib.hid (own_mono (b2 := w.heap.size + 2) ho z1)
  have F2 := Lib.hid (fn_below F.out hb)
  clear F0c0 F0f0 F0c1 F0f1 F0c2 F0f2 F1c0 F1f0 F1c1 F1f1 F1c2 F1f2
  clear hb ho F
  have F20c0 : World.cell? w2 ⟨w.heap.size, 0, none⟩ = some (.int .i64 lim) := blk_cell (F2.out.it 0 _ _ rfl) 0
  have F20f0 : World.frozen? w2 ⟨w.heap.size, 0, none⟩ = false := blk_free (F2.out.it 0 _ _ rfl) 0
  have F20c1 : World.cell? w2 ⟨w.heap.size, 1, none⟩ = some (.int .i64 each) := blk_cell (F2.out.it 0 _ _ rfl) 1
  have F20f1 : World.frozen? w2 ⟨w.heap.size, 1, none⟩ = false := blk_free (F2.out.it 0 _ _ rfl) 1
  have F20c2 : World.cell? w2 ⟨w.heap.size, 2, none⟩ = some ((.slice A 8 c)) := blk_cell (F2.out.it 0 _ _ rfl) 2
  have F20f2 : World.frozen? w2 ⟨w.heap.size, 2, none⟩ = false := blk_free (F2.out.it 0 _ _ rfl) 2
  have F21c0 : World.cell? w2 ⟨w.heap.size + 1, 0, none⟩ = some (.int .i64 0) := blk_cell (F2.out.it 1 _ _ rfl) 0
  have F21f0 : World.frozen? w2 ⟨w.heap.size + 1, 0, none⟩ = false := blk_free (F2.out.it 1 _ _ rfl) 0
  have F21c1 : World.cell? w2 ⟨w.heap.size + 1, 1, none⟩ = some (.int .i64 0) := blk_cell (F2.out.it 1 _ _ rfl) 1
  have F21f1 : World.frozen? w2 ⟨w.heap.size + 1, 1, none⟩ = false := blk_free (F2.out.it 1 _ _ rfl) 1
  have F21c2 : World.cell? w2 ⟨w.heap.size + 1, 2, none⟩ = some ((.slice none 0 0)) := blk_cell (F2.out.it 1 _ _ rfl) 2
  have F21f2 : World.frozen? w2 ⟨w.heap.size + 1, 2, none⟩ = false := blk_free (F2.out.it 1 _ _ rfl) 2
  go_wp2
  refine bodyPost_ret (v := .tuple #[.agg #[.int .i64 lim, .int .i64 each, (.slice A3 8 c3)], .bool true, .bool true]) (by simp [results, Try.results16, go_sem, F21c0, F21c1, F21c2]) rfl (apost2_mk rfl (own_end F2.out O2.out (Nat.le_refl _) _ _ _).1 (own_end F2.out O2.out (Nat.le_refl _) _ _ _).2)
theorem rsOk_fr {lim each : Int} {us : List Int} {x b : Int} (h : rsOk lim each us x b = false) : frOk lim each us x = false ∨ (frOk lim each us x = true ∧ b < 0) := by
  rcases hq : frOk lim each us x with _ | _
  · exact .inl rfl
  · refine .inr ⟨rfl, ?_⟩
    simp [rsOk, hq] at h; omega
set_option maxHeartbeats 2000000 in
theorem relI_bad (lim each : Int) (A : Option Addr) (n c : Nat) (us : List Int) (k : Nat) (u b : Int) (w : World) (h : NR w A n us) (hf : frOk lim each us (k : Int) = true) (hu : us[k]? = some u) (hin : inB b 0 u = false) :
    Calls Try.prog 20 #[.agg #[.int .i64 lim, .int .i64 each, (.slice A n c)], .int .i64 (k : Int), .int .i64 b] w (APost1 w 0 0 [] false) := by
  have F0 := Lib.hid (rs_first h lim each c)
  have n8 : n = 8 := by have := h.1; have := (ac_of (frOk_of hf).1).2.2.2.1; omega
  have HF := Lib.hid hf
  have HU := Lib.hid hu
  have HI := Lib.hid hin
  subst n8
  clear h hf hu hin
  go_enter Try.func20, Try.ntmps20
  go_wp2_with fail
  refine (hasI_any lim each A 8 c us k _ F0.out.pr (by omega)).mono ?_
  rintro e w1 ⟨rfl, hb⟩
  rw [HF.out]
  have F := Lib.hid (fn_below F0.out hb)
  clear hb F0
  have F0c0 : World.cell? w1 ⟨w.heap.size, 0, none⟩ = some (.int .i64 lim) := blk_cell (F.out.it 0 _ _ rfl) 0
  have F0f0 : World.frozen? w1 ⟨w.heap.size, 0, none⟩ = false := blk_free (F.out.it 0 _ _ rfl) 0
  have F0c1 : World.cell? w1 ⟨w.heap.size, 1, none⟩ = some (.int .i64 each) := blk_cell (F.out.it 0 _ _ rfl) 1
  have F0f1 : World.frozen? w1 ⟨w.heap.size, 1, none⟩ = false := blk_free (F.out.it 0 _ _ rfl) 1
  have F0c2 : World.cell? w1 ⟨w.heap.size, 2, none⟩ = some ((.slice A 8 c)) := blk_cell (F.out.it 0 _ _ rfl) 2
  have F0f2 : World.frozen? w1 ⟨w.heap.size, 2, none⟩ = false := blk_free (F.out.it 0 _ _ rfl) 2
  have F1c0 : World.cell? w1 ⟨w.heap.size + 1, 0, none⟩ = some (.int .i64 0) := blk_cell (F.out.it 1 _ _ rfl) 0
  have F1f0 : World.frozen? w1 ⟨w.heap.size + 1, 0, none⟩ = false := blk_free (F.out.it 1 _ _ rfl) 0
  have F1c1 : World.cell? w1 ⟨w.heap.size + 1, 1, none⟩ = some (.int .i64 0) := blk_cell (F.out.it 1 _ _ rfl) 1
  have F1f1 : World.frozen? w1 ⟨w.heap.size + 1, 1, none⟩ = false := blk_free (F.out.it 1 _ _ rfl) 1
  have F1c2 : World.cell? w1 ⟨w.heap.size + 1, 2, none⟩ = some ((.slice none 0 0)) := blk_cell (F.out.it 1 _ _ rfl) 2
  have F1f2 : World.frozen? w1 ⟨w.heap.size + 1, 2, none⟩ = false := blk_free (F.out.it 1 _ _ rfl) 2
  obtain ⟨b', off', rfl, d0, kn⟩ := nr_at' F.out.pr HU.out
  have k0 : (0 : Int) ≤ (k : Int) := by omega
  have k1 : (k : Int) < (8 : Int) := by omega
  go_wp2_with (go_at_call 47; refine (within_any _ _ _ _).mono ?_; rintro e w' ⟨rfl, rfl⟩; rw [HI.out])
  refine bodyPost_ret (v := .tuple #[.agg #[.int .i64 0, .int .i64 0, (.slice none 0 0)], .bool false]) (by simp [results, Try.results20, go_sem, F1c0, F1c1, F1c2]) rfl (apost1_mk rfl (World.ownsRow_nil _ _ _ _) ?_)
  repeat refine Below.setCell ?_ (by simp <;> omega) _
  exact F.out.below
set_option maxHeartbeats 2000000 in
theorem relI_no3 (lim each : Int) (A : Option Addr) (n c : Nat) (us : List Int) (x b : Int) (w : World) (h : NR w A n us) (hn : n ≤ 4000000000) (hk : rsOk lim each us x b = false) :
    Calls Try.prog 20 #[.agg #[.int .i64 lim, .int .i64 each, (.slice A n c)], .int .i64 x, .int .i64 b] w (APost1 w 0 0 [] false) := by
  rcases rsOk_fr hk with hf | ⟨hf, hb0⟩
  · have F0 := Lib.hid (rs_first h lim each c)
    have HF := Lib.hid hf
    clear h hf hk
    go_enter Try.func20, Try.ntmps20
    go_wp2_with fail
    refine (hasI_any lim each A n c us x _ F0.out.pr (by omega)).mono ?_
    rintro e w1 ⟨rfl, hb⟩
    rw [HF.out]
    have F := Lib.hid (fn_below F0.out hb)
    clear hb F0
    have F0c0 : World.cell? w1 ⟨w.heap.size, 0, none⟩ = some (.int .i64 lim) := blk_cell (F.out.it 0 _ _ rfl) 0
    have F0f0 : World.frozen? w1 ⟨w.heap.size, 0, none⟩ = false := blk_free (F.out.it 0 _ _ rfl) 0
    have F0c1 : World.cell? w1 ⟨w.heap.size, 1, none⟩ = some (.int .i64 each) := blk_cell (F.out.it 0 _ _ rfl) 1
    have F0f1 : World.frozen? w1 ⟨w.heap.size, 1, none⟩ = false := blk_free (F.out.it 0 _ _ rfl) 1
    have F0c2 : World.cell? w1 ⟨w.heap.size, 2, none⟩ = some ((.slice A n c)) := blk_cell (F.out.it 0 _ _ rfl) 2
    have F0f2 : World.frozen? w1 ⟨w.heap.size, 2, none⟩ = false := blk_free (F.out.it 0 _ _ rfl) 2
    have F1c0 : World.cell? w1 ⟨w.heap.size + 1, 0, none⟩ = some (.int .i64 0) := blk_cell (F.out.it 1 _ _ rfl) 0
    have F1f0 : World.frozen? w1 ⟨w.heap.size + 1, 0, none⟩ = false := blk_free (F.out.it 1 _ _ rfl) 0
    have F1c1 : World.cell? w1 ⟨w.heap.size + 1, 1, none⟩ = some (.int .i64 0) := blk_cell (F.out.it 1 _ _ rfl) 1
    have F1f1 : World.frozen? w1 ⟨w.heap.size + 1, 1, none⟩ = false := blk_free (F.out.it 1 _ _ rfl) 1
    have F1c2 : World.cell? w1 ⟨w.heap.size + 1, 2, none⟩ = some ((.slice none 0 0)) := blk_cell (F.out.it 1 _ _ rfl) 2
    have F1f2 : World.frozen? w1 ⟨w.heap.size + 1, 2, none⟩ = false := blk_free (F.out.it 1 _ _ rfl) 2
    go_wp2
    refine bodyPost_ret (v := .tuple #[.agg #[.int .i64 0, .int .i64 0, (.slice none 0 0)], .bool false]) (by simp [results, Try.results20, go_sem, F1c0, F1c1, F1c2]) rfl (apost1_mk rfl (World.ownsRow_nil _ _ _ _) ?_)
    repeat refine Below.setCell ?_ (by simp <;> omega) _
    exact F.out.below
  · obtain ⟨hq, hx⟩ := frOk_of hf
    obtain ⟨k, rfl, hk8⟩ := k_of hx
    obtain ⟨u, hu⟩ := ac_at hq hk8
    exact relI_bad lim each A n c us k u b w h hf hu (inB_no (by omega))
theorem relI_more (lim each : Int) (A : Option Addr) (n c : Nat) (us : List Int) (k : Nat) (u b : Int) (w : World) (h : NR w A n us) (hk : rsOk lim each us (k : Int) b = true) (hu : us[k]? = some u) (hlt : u < b) :
    Calls Try.prog 20 #[.agg #[.int .i64 lim, .int .i64 each, (.slice A n c)], .int .i64 (k : Int), .int .i64 b] w (APost1 w 0 0 [] false) := by
  obtain ⟨hq, hx, hb0⟩ := rsOk_of hk
  exact relI_bad lim each A n c us k u b w h (by simp [frOk, hq, hx]) hu (inB_no (by omega))
set_option maxHeartbeats 4000000 in
theorem relI_yes (lim each : Int) (A : Option Addr) (n c : Nat) (us : List Int) (k : Nat) (u b : Int) (w : World) (h : NR w A n us) (hk : rsOk lim each us (k : Int) b = true) (hu : us[k]? = some u) (hlt : b ≤ u) :
    Calls Try.prog 20 #[.agg #[.int .i64 lim, .int .i64 each, (.slice A n c)], .int .i64 (k : Int), .int .i64 b] w (APost1 w lim each (us.set k (u - b)) true) := by
  have F0 := Lib.hid (rs_first h lim each c)
  obtain ⟨hq, hx, hb0⟩ := rsOk_of hk
  obtain ⟨u0, u1, u2⟩ := ac_get hq hu
  obtain ⟨a1, a2, a3, a4, a5, a6⟩ := ac_of hq
  have n8 : n = 8 := by have := h.1; omega
  have HF : Hid (frOk lim each us (k : Int) = true) := Lib.hid (by simp [frOk, hq, hx])
  have HU := Lib.hid hu
  have HI := Lib.hid (inB_yes (x := b) (lo := 0) (hi := u) ⟨hb0, hlt⟩)
  have HE : Hid (us.set k (u + -b) = us.set k (u - b)) := Lib.hid (by rw [show u + -b = u - b by omega])
  subst n8
  clear h hk hq hx hu a1 a4 a5 a6 u2
  go_enter Try.func20, Try.ntmps20
  go_wp2_with fail
  refine (hasI_any lim each A 8 c us k _ F0.out.pr (by omega)).mono ?_
  rintro e w1 ⟨rfl, hb⟩
  rw [HF.out]
  have F := Lib.hid (fn_below F0.out hb)
  clear hb F0
  have F0c0 : World.cell? w1 ⟨w.heap.size, 0, none⟩ = some (.int .i64 lim) := blk_cell (F.out.it 0 _ _ rfl) 0
  have F0f0 : World.frozen? w1 ⟨w.heap.size, 0, none⟩ = false := blk_free (F.out.it 0 _ _ rfl) 0
  have F0c1 : World.cell? w1 ⟨w.heap.size, 1, none⟩ = some (.int .i64 each) := blk_cell (F.out.it 0 _ _ rfl) 1
  have F0f1 : World.frozen? w1 ⟨w.heap.size, 1, none⟩ = false := blk_free (F.out.it 0 _ _ rfl) 1
  have F0c2 : World.cell? w1 ⟨w.heap.size, 2, none⟩ = some ((.slice A 8 c)) := blk_cell (F.out.it 0 _ _ rfl) 2
  have F0f2 : World.frozen? w1 ⟨w.heap.size, 2, none⟩ = false := blk_free (F.out.it 0 _ _ rfl) 2
  have F1c0 : World.cell? w1 ⟨w.heap.size + 1, 0, none⟩ = some (.int .i64 0) := blk_cell (F.out.it 1 _ _ rfl) 0
  have F1f0 : World.frozen? w1 ⟨w.heap.size + 1, 0, none⟩ = false := blk_free (F.out.it 1 _ _ rfl) 0
  have F1c1 : World.cell? w1 ⟨w.heap.size + 1, 1, none⟩ = some (.int .i64 0) := blk_cell (F.out.it 1 _ _ rfl) 1
  have F1f1 : World.frozen? w1 ⟨w.heap.size + 1, 1, none⟩ = false := blk_free (F.out.it 1 _ _ rfl) 1
  have F1c2 : World.cell? w1 ⟨w.heap.size + 1, 2, none⟩ = some ((.slice none 0 0)) := blk_cell (F.out.it 1 _ _ rfl) 2
  have F1f2 : World.frozen? w1 ⟨w.heap.size + 1, 2, none⟩ = false := blk_free (F.out.it 1 _ _ rfl) 2
  obtain ⟨b', off', rfl, d0, kn⟩ := nr_at' F.out.pr HU.out
  have k0 : (0 : Int) ≤ (k : Int) := by omega
  have k1 : (k : Int) < (8 : Int) := by omega
  go_wp2_with (first | (go_at_call 47; refine (within_any _ _ _ _).mono ?_; rintro e w' ⟨rfl, rfl⟩; rw [HI.out]) | fail)
  refine (useI_any lim each _ 8 c us k u (-b) _ F.out.pr (by omega) HU.out (by omega)).mono ?_
  rintro e w2 ⟨A3, c3, rfl, ho, hb⟩
  rw [HE.out] at ho
  have z1 := F.out.lt
  simp [rsBs] at z1
  have O2 := Lib.hid (own_mono (b2 := w.heap.size + 2) ho z1)
  have F2 := Lib.hid (fn_below F.out hb)
  clear F0c0 F0f0 F0c1 F0f1 F0c2 F0f2 F1c0 F1f0 F1c1 F1f1 F1c2 F1f2
  clear hb ho F d0
  have F20c0 : World.cell? w2 ⟨w.heap.size, 0, none⟩ = some (.int .i64 lim) := blk_cell (F2.out.it 0 _ _ rfl) 0
  have F20f0 : World.frozen? w2 ⟨w.heap.size, 0, none⟩ = false := blk_free (F2.out.it 0 _ _ rfl) 0
  have F20c1 : World.cell? w2 ⟨w.heap.size, 1, none⟩ = some (.int .i64 each) := blk_cell (F2.out.it 0 _ _ rfl) 1
  have F20f1 : World.frozen? w2 ⟨w.heap.size, 1, none⟩ = false := blk_free (F2.out.it 0 _ _ rfl) 1
  have F20c2 : World.cell? w2 ⟨w.heap.size, 2, none⟩ = some ((.slice (some ⟨b', off', none⟩) 8 c)) := blk_cell (F2.out.it 0 _ _ rfl) 2
  have F20f2 : World.frozen? w2 ⟨w.heap.size, 2, none⟩ = false := blk_free (F2.out.it 0 _ _ rfl) 2
  have F21c0 : World.cell? w2 ⟨w.heap.size + 1, 0, none⟩ = some (.int .i64 0) := blk_cell (F2.out.it 1 _ _ rfl) 0
  have F21f0 : World.frozen? w2 ⟨w.heap.size + 1, 0, none⟩ = false := blk_free (F2.out.it 1 _ _ rfl) 0
  have F21c1 : World.cell? w2 ⟨w.heap.size + 1, 1, none⟩ = some (.int .i64 0) := blk_cell (F2.out.it 1 _ _ rfl) 1
  have F21f1 : World.frozen? w2 ⟨w.heap.size + 1, 1, none⟩ = false := blk_free (F2.out.it 1 _ _ rfl) 1
  have F21c2 : World.cell? w2 ⟨w.heap.size + 1, 2, none⟩ = some ((.slice none 0 0)) := blk_cell (F2.out.it 1 _ _ rfl) 2
  have F21f2 : World.frozen? w2 ⟨w.heap.size + 1, 2, none⟩ = false := blk_free (F2.out.it 1 _ _ rfl) 2
  go_wp2
  refine bodyPost_ret (v := .tuple #[.agg #[.int .i64 lim, .int .i64 each, (.slice A3 8 c3)], .bool true]) (by simp [results, Try.results20, go_sem, F21c0, F21c1, F21c2]) rfl (apost1_mk rfl (own_end F2.out O2.out (Nat.le_refl _) _ _ _).1 (own_end F2.out O2.out (Nat.le_refl _) _ _ _).2)
set_option maxHeartbeats 2000000 in
theorem newI_no (lim each : Int) (w : World) (hk : acB lim each (List.replicate 8 0) = false) :
    Calls Try.prog 34 #[.int .i64 lim, .int .i64 each] w (APost1 w 0 0 [] false) := by
  obtain ⟨m, hm⟩ : ∃ m : Nat, m = 8 := ⟨_, rfl⟩
  rw [← hm] at hk
  have HK := Lib.hid hk
  have HM := Lib.hid hm
  have HL8 := Lib.hid (show (8 : Int) = (m : Int) by omega)
  have hm8 : m ≤ 8 := by omega
  clear hk hm
  obtain ⟨i0, hi, hz0, hz1, hz2⟩ := info_parts infoInt
  have HSZ := Lib.hid (show (w.alloc (.cells #[.int .i64 0, .int .i64 0, (.slice none 0 0)] 25)).heap.size = w.heap.size + 1 by simp)
  go_enter Try.func34, Try.ntmps34
  go_wp2_with (refine wpList_make_full _ rfl (.const (.int .i64 8)) (.const (.int .i64 8)) 23 rfl (w.heap.size + 1) 3 i0 _ 1 Try.underlying23 hi hz0 hz1 .i64 .i64 8 8 m rfl rfl HL8.out HL8.out (by rw [hz2]; omega) (by unfold maxLen; omega) (by simp) ?_
               intro w1 ho1 hg1
               rw [zerosI, HSZ.out] at ho1
               have hb1 := Lib.hid (show Below w.heap.size w w1 from by
                 have hb : Below (w.alloc (.cells #[.int .i64 0, .int .i64 0, (.slice none 0 0)] 25)).heap.size (w.alloc (.cells #[.int .i64 0, .int .i64 0, (.slice none 0 0)] 25)) w1 := ⟨hg1.os, hg1.tape, hg1.output, hg1.size, fun i hi => hg1.block i hi (by simp)⟩
                 exact below_from (below_alloc (Below.refl _ _) _) hb (by simp))
               have Z1 := Lib.hid (blk_grownQ (blk_new w 25 #[.int .i64 0, .int .i64 0, (.slice none 0 0)]) hg1 (by simp))
               have O1 := Lib.hid ho1
               have z1 := hg1.size
               simp at z1
               clear ho1 hg1)
  refine (acI_any lim each _ m m (List.replicate m 0) _ (nr_alloc (nr_own O1.out) _) (by omega)).mono ?_
  rintro e w2 ⟨rfl, hb2⟩
  rw [HK.out]
  have B2 := Lib.hid (below_from (below_alloc hb1.out _) hb2 (by simp; omega))
  obtain ⟨⟨o0, o1, o2⟩, f0, f1, f2⟩ := blk_three (blk_below (blk_alloc Z1.out _) hb2 (by simp; omega))
  clear hb2
  go_wp2
  refine bodyPost_ret (v := .tuple #[.agg #[.int .i64 0, .int .i64 0, (.slice none 0 0)], .bool false]) (by simp [results, Try.results34, go_sem, o0, o1, o2]) rfl (apost1_mk rfl (World.ownsRow_nil _ _ _ _) ?_)
  repeat refine Below.setCell ?_ (by simp <;> omega) _
  exact B2.out
set_option maxHeartbeats 2000000 in
theorem newI_yes (lim each : Int) (w : World) (hk : acB lim each (List.replicate 8 0) = true) :
    Calls Try.prog 34 #[.int .i64 lim, .int .i64 each] w (APost1 w lim each (List.replicate 8 0) true) := by
  obtain ⟨m, hm⟩ : ∃ m : Nat, m = 8 := ⟨_, rfl⟩
  rw [← hm] at hk
  have HK := Lib.hid hk
  have HM := Lib.hid hm
  have HL8 := Lib.hid (show (8 : Int) = (m : Int) by omega)
  have hm8 : m ≤ 8 := by omega
  clear hk hm
  obtain ⟨i0, hi, hz0, hz1, hz2⟩ := info_parts infoInt
  have HSZ := Lib.hid (show (w.alloc (.cells #[.int .i64 0, .int .i64 0, (.slice none 0 0)] 25)).heap.size = w.heap.size + 1 by simp)
  go_enter Try.func34, Try.ntmps34
  go_wp2_with (refine wpList_make_full _ rfl (.const (.int .i64 8)) (.const (.int .i64 8)) 23 rfl (w.heap.size + 1) 3 i0 _ 1 Try.underlying23 hi hz0 hz1 .i64 .i64 8 8 m rfl rfl HL8.out HL8.out (by rw [hz2]; omega) (by unfold maxLen; omega) (by simp) ?_
               intro w1 ho1 hg1
               rw [zerosI, HSZ.out] at ho1
               have hb1 := Lib.hid (show Below w.heap.size w w1 from by
                 have hb : Below (w.alloc (.cells #[.int .i64 0, .int .i64 0, (.slice none 0 0)] 25)).heap.size (w.alloc (.cells #[.int .i64 0, .int .i64 0, (.slice none 0 0)] 25)) w1 := ⟨hg1.os, hg1.tape, hg1.output, hg1.size, fun i hi => hg1.block i hi (by simp)⟩
                 exact below_from (below_alloc (Below.refl _ _) _) hb (by simp))
               have Z1 := Lib.hid (blk_grownQ (blk_new w 25 #[.int .i64 0, .int .i64 0, (.slice none 0 0)]) hg1 (by simp))
               have O1 := Lib.hid ho1
               have z1 := hg1.size
               simp at z1
               clear ho1 hg1)
  refine (acI_any lim each _ m m (List.replicate m 0) _ (nr_alloc (nr_own O1.out) _) (by omega)).mono ?_
  rintro e w2 ⟨rfl, hb2⟩
  rw [HK.out]
  have B2 := Lib.hid (below_from (below_alloc hb1.out _) hb2 (by simp; omega))
  have O2 := Lib.hid (own_below (O1.out.alloc _) hb2)
  obtain ⟨⟨o0, o1, o2⟩, f0, f1, f2⟩ := blk_three (blk_below (blk_alloc Z1.out _) hb2 (by simp; omega))
  obtain ⟨⟨l0, l1, l2⟩, -⟩ := blk_three (blk_below (blk_new w1 25 #[.int .i64 lim, .int .i64 each, (.slice (some ⟨w.heap.size + 1, 0, none⟩) m m)]) hb2 (by simp))
  have z2 := hb2.size
  simp at z2
  clear hb2
  go_wp2
  refine bodyPost_ret (v := .tuple #[.agg #[.int .i64 lim, .int .i64 each, (.slice (some ⟨w.heap.size + 1, 0, none⟩) m m)], .bool true]) (by simp [results, Try.results34, go_sem, o0, o1, o2]) rfl (apost1_mk rfl ?_ ?_)
  · rw [← HM.out]
    exact own_mono (own_set_far (own_set_far (own_set_far O2.out (by simp) _) (by simp) _) (by simp) _) (by omega)
  · repeat refine Below.setCell ?_ (by simp <;> omega) _
    exact B2.out
end Go.Proofs.Ytkbjelchihdajaa
