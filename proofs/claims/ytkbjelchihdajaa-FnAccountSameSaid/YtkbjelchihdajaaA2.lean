/-
  Chapter 4: NewAccount, FreeFor, Reserve, Release; the model's. Conditions: a slice has at most 4000000000 numbers.
-/
import Derived.Test.YtkbjelchihdajaaA1
import Derived.Deep.RegionHeld3
namespace Go.Proofs.Ytkbjelchihdajaa
open Go.RowKit

def prB (x : Int) : Bool := decide (0 ≤ x ∧ x ≤ 7)
theorem pr_ofB {x : Int} (h : prB x = true) : 0 ≤ x ∧ x ≤ 7 := by simpa [prB] using h
theorem pr_noB {x : Int} (h : prB x = false) : x < 0 ∨ 7 < x := by
  simp only [prB, decide_eq_false_iff_not] at h; omega
theorem l4Peer_any (x : Int) (w : World) : Calls Try.prog 41 #[.int .i64 x] w fun e w' => e = .returned (.bool (prB x)) ∧ w' = w := by
  by_cases h0 : 0 ≤ x
  · have e0 : decide (0 ≤ x) = true := by simp [h0]
    by_cases h1 : x < 8
    · go_enter Try.func41, Try.ntmps41
      go_wp2
      all_goals
        go_ret
        exact ⟨ret_bool (by simp [prB]; omega), rfl⟩
    · go_enter Try.func41, Try.ntmps41
      go_wp2
      all_goals
        go_ret
        exact ⟨ret_bool (by simp [prB]; omega), rfl⟩
  · have e0 : decide (0 ≤ x) = false := by simp; omega
    go_enter Try.func41, Try.ntmps41
    go_wp2
    all_goals
      go_ret
      exact ⟨ret_bool (by simp [prB]; omega), rfl⟩
def ACopy (w : World) (lim each : Int) (n : Nat) (us : List Int) (e : Ending) (w' : World) : Prop :=
  ∃ A c, e = .returned (.agg #[.int .i64 lim, .int .i64 each, (.slice A n c)]) ∧ w'.ownsRow w.heap.size 3 1 (.slice A n c) n (icells us) ∧ Below w.heap.size w w'
def FA (w : World) (lim each : Int) (A : Option Addr) (n c : Nat) (us : List Int) (w' : World) : Prop := Fn w (acBs lim each A n c) A n us w'
section
variable {w w1 w2 : World} {lim each : Int} {A : Option Addr} {n c : Nat} {us : List Int}
theorem fa_first (h : NR w A n us) : FA w lim each A n c us (w.alloc (.cells #[.int .i64 lim, .int .i64 each, (.slice A n c)] 25)) := fn_one h _ _
theorem fa_cells (h : FA w lim each A n c us w1) : (w1.cell? ⟨w.heap.size, 0, none⟩ = some (.int .i64 lim) ∧ w1.cell? ⟨w.heap.size, 1, none⟩ = some (.int .i64 each) ∧ w1.cell? ⟨w.heap.size, 2, none⟩ = some (.slice A n c)) ∧ FA w lim each A n c us w1 :=
  ⟨fn_cell3 h, h⟩
theorem faO (h : (w1.cell? ⟨w.heap.size, 0, none⟩ = some (.int .i64 lim) ∧ w1.cell? ⟨w.heap.size, 1, none⟩ = some (.int .i64 each) ∧ w1.cell? ⟨w.heap.size, 2, none⟩ = some (.slice A n c)) ∧ FA w lim each A n c us w1) : FA w lim each A n c us w1 := h.2
theorem fa_pr (h : FA w lim each A n c us w1) : NR w1 A n us := Fn.pr h
theorem fa_alloc (h : FA w lim each A n c us w1) (o : Obj) : FA w lim each A n c us (w1.alloc o) := fn_alloc h o
theorem fa_drew (h : FA w lim each A n c us w1) : FA w lim each A n c us w1.drew := fn_drew h
theorem fa_drewN (h : FA w lim each A n c us w1) (k : Nat) : FA w lim each A n c us (w1.drewN k) := fn_drewN h k
theorem fa_below (h : FA w lim each A n c us w1) (hb : Below w1.heap.size w1 w2) : FA w lim each A n c us w2 := fn_below h hb
theorem fa_grown {row : Option Nat} (h : FA w lim each A n c us w1) (hg : w1.grownBy w2 row) (hr : ∀ g, row = some g → w.heap.size + 1 ≤ g) : FA w lim each A n c us w2 := fn_grown h hg (by simpa [acBs] using hr)
theorem fa_set {a : Addr} (h : FA w lim each A n c us w1) (ha : w.heap.size + 1 ≤ a.block) (u : Value) : FA w lim each A n c us (w1.setCell a u) := fn_set h (by simpa [acBs] using ha) u
theorem fa_bel (h : FA w lim each A n c us w1) : Below w.heap.size w w1 := Fn.below h
theorem fa_lt (h : FA w lim each A n c us w1) : w.heap.size + 1 ≤ w1.heap.size := by have := Fn.lt h; simpa [acBs] using this
end
theorem blk_three {w : World} {b : Nat} {t : TypeId} {x y z : Value} (h : Blk w b t #[x, y, z]) : (w.cell? ⟨b, 0, none⟩ = some x ∧ w.cell? ⟨b, 1, none⟩ = some y ∧ w.cell? ⟨b, 2, none⟩ = some z) ∧ w.frozen? ⟨b, 0, none⟩ = false ∧ w.frozen? ⟨b, 1, none⟩ = false ∧ w.frozen? ⟨b, 2, none⟩ = false :=
  ⟨⟨blk_cell h 0, blk_cell h 1, blk_cell h 2⟩, blk_free h 0, blk_free h 1, blk_free h 2⟩
set_option maxHeartbeats 2000000 in
theorem l4Copy_any (lim each : Int) (A : Option Addr) (n c : Nat) (us : List Int) (w : World) (h : NR w A n us) (hn : n ≤ 4000000000) :
    Calls Try.prog 42 #[.agg #[.int .i64 lim, .int .i64 each, (.slice A n c)]] w (ACopy w lim each n us) := by
  have F0 := Lib.hid (fa_first (lim := lim) (each := each) (c := c) h)
  have hS := fa_cells (fa_drew (fa_alloc F0.out (.cells #[.int .i64 0, .int .i64 0, (.slice none 0 0)] 25)))
  have O0 := Lib.hid (show Blk ((w.alloc (.cells #[.int .i64 lim, .int .i64 each, (.slice A n c)] 25)).alloc (.cells #[.int .i64 0, .int .i64 0, (.slice none 0 0)] 25)).drew (w.heap.size + 1) 25 #[.int .i64 0, .int .i64 0, (.slice none 0 0)] from blk_new2 _ _ _ _)
  clear h
  go_enter Try.func42, Try.ntmps42
  go_wp2_with fail
  go_region_held3 (fun w' => (w'.cell? ⟨w.heap.size, 0, none⟩ = some (.int .i64 lim) ∧ w'.cell? ⟨w.heap.size, 1, none⟩ = some (.int .i64 each) ∧ w'.cell? ⟨w.heap.size, 2, none⟩ = some (.slice A n c)) ∧ FA w lim each A n c us w')
    (first
      | (with_reducible assumption)
      | (exact fa_cells (fa_alloc (faO (by assumption)) _))
      | (exact fa_cells (fa_drew (fa_alloc (fa_alloc F0.out _) _)))
      | (exact fa_cells (fa_set (fa_set (fa_set (faO (by assumption)) (by simp) _) (by simp) _) (by simp) _))
      | fail)
    (first
      | (refine step_app_ints _ rfl (.tmp 7) (.tmp 9) rfl _ (.slice (some ⟨w.heap.size + 2, 0, none⟩) 0 0) 0 [] rfl (own_emptyI (by simp)) A n c us rfl (fa_pr (faO (by assumption))) (by omega) (by simp) ?_
         intro v1 w3 ho3 hg3 hat3
         simp only [List.nil_append, Nat.zero_add] at ho3
         obtain ⟨A2, c2, rfl, hmc, hcm, -⟩ := own_form ho3
         have hS3 := fa_cells (fa_grown (faO (by assumption)) hg3 (fun g hg => by simp [Value.ownBlock] at hg; omega))
         obtain ⟨⟨d0, d1, d2⟩, f0, f1, f2⟩ := blk_three (blk_grownQ (blk_alloc O0.out _) hg3 (by simp [Value.ownBlock]))
         have hO2 := Lib.hid ho3
         clear hg3 hat3 ho3 hmc hcm))
  all_goals
    have BW := Lib.hid (fa_bel (faO (w := w) (lim := lim) (each := each) (A := A) (n := n) (c := c) (us := us) (by assumption)))
    go_wp2
    refine bodyPost_ret (v := .agg #[.int .i64 lim, .int .i64 each, (.slice A2 n c2)]) (by simp [results, Try.results42, go_sem, d0, d1, d2]) rfl ⟨A2, c2, rfl, ?_, BW.out⟩
    exact own_mono (own_set_far (own_set_far (own_set_far hO2.out (by simp) _) (by simp) _) (by simp <;> omega) _) (by simp <;> omega)
theorem ac_get {lim each : Int} {us : List Int} {k : Nat} {u : Int} (h : acB lim each us = true) (hu : us[k]? = some u) : 0 ≤ u ∧ u ≤ each ∧ u ≤ sumL us := by
  obtain ⟨a1, a2, a3, a4, a5, a6⟩ := ac_of h
  have h1 := a1 u (List.mem_of_getElem? hu)
  have h2 := sumL_set hu 0
  have h3 := (sumL_bd (xs := us.set k 0) (B := each) fun x hx => by
    rcases mem_set hx with rfl | hx
    · exact ⟨Int.le_refl _, by omega⟩
    · exact a1 x hx).1
  omega
theorem ac_5000 {lim each : Int} {us : List Int} (h : acB lim each us = true) : ∀ x ∈ us, 0 ≤ x ∧ x ≤ 5000 := by
  obtain ⟨a1, a2, a3, -⟩ := ac_of h
  intro x hx
  have := a1 x hx
  omega
set_option maxHeartbeats 2000000 in
theorem l4Free_any (lim each : Int) (A : Option Addr) (n c : Nat) (us : List Int) (k : Nat) (u : Int) (w : World) (h : NR w A n us) (hv : acB lim each us = true) (hu : us[k]? = some u) :
    Calls Try.prog 43 #[.agg #[.int .i64 lim, .int .i64 each, (.slice A n c)], .int .i64 (k : Int)] w fun e w' => e = .returned (.int .i64 (freeN lim each us u)) ∧ Below w.heap.size w w' := by
  have F0 := Lib.hid (fa_first (lim := lim) (each := each) (c := c) h)
  obtain ⟨a1, a2, a3, a4, a5, a6⟩ := ac_of hv
  obtain ⟨u0, u1, u2⟩ := ac_get hv hu
  have hl := h.1
  have h5 := Lib.hid (ac_5000 hv)
  obtain ⟨S, hS⟩ : ∃ S, sumL us = S := ⟨_, rfl⟩
  rw [hS] at a5 a6 u2
  have HS := Lib.hid hS
  have kn : k < n := by
    rcases Nat.lt_or_ge k us.length with hl' | hl'
    · omega
    · rw [List.getElem?_eq_none hl'] at hu; cases hu
  have n8 : n ≤ 64 := by omega
  obtain ⟨b, off, u', rfl, hb, hx, c0⟩ := nr_at (fa_pr F0.out) kn
  obtain rfl : u = u' := by rw [hu] at hx; injection hx
  obtain ⟨⟨q0, q1, q2⟩, -⟩ := fa_cells F0.out
  have k0 : (0 : Int) ≤ (k : Int) := by omega
  have k1 : (k : Int) < (n : Int) := by omega
  have y1 : IntKind.i64.wrap (lim - S) = lim - S := IntWalk.i64_in _ (by omega)
  have y2 : IntKind.i64.wrap (each - u) = each - u := IntWalk.i64_in _ (by omega)
  have HF : Hid (freeN lim each us u = if each - u < lim - S then each - u else lim - S) := Lib.hid (by rw [freeN, hS])
  clear h hv hu hx a1 a4 hl hS hb
  by_cases hlt : each - u < lim - S
  · go_enter Try.func43, Try.ntmps43
    go_wp2_with fail
    go_quiet ((go_at_call 54; exact Calls.quiet_of_same (l4Sum_is _ n c us S _ (fa_pr (fa_drewN F0.out _)) h5.out n8 HS.out)))
    go_wp2_with fail
    go_quiet (fail)
    go_wp2_with fail
    go_quiet (fail)
    go_wp2
    go_ret
    exact ⟨ret_int (by rw [HF.out, if_pos hlt]), fa_bel (fa_drewN (fa_drewN (fa_drewN F0.out _) _) _)⟩
  · have hd : decide (each - u < lim - S) = false := by simp; omega
    have HLT := Lib.hid hlt
    clear hlt
    go_enter Try.func43, Try.ntmps43
    go_wp2_with fail
    go_quiet ((go_at_call 54; exact Calls.quiet_of_same (l4Sum_is _ n c us S _ (fa_pr (fa_drewN F0.out _)) h5.out n8 HS.out)))
    go_wp2_with fail
    go_quiet (fail)
    go_wp2
    go_ret
    exact ⟨ret_int (by rw [HF.out, if_neg (by have := HLT.out; omega)]), fa_bel (fa_drewN (fa_drewN F0.out _) _)⟩
theorem k_of {x : Int} (h : prB x = true) : ∃ k : Nat, x = (k : Int) ∧ k < 8 := by
  have := pr_ofB h
  exact ⟨x.toNat, by omega, by omega⟩
theorem ac_at {lim each : Int} {us : List Int} {k : Nat} (h : acB lim each us = true) (hk : k < 8) : ∃ u, us[k]? = some u := by
  have := (ac_of h).2.2.2.1
  exact ⟨_, List.getElem?_eq_getElem (by omega)⟩
def frOk (lim each : Int) (us : List Int) (x : Int) : Bool := acB lim each us && prB x
theorem frOk_no {lim each : Int} {us : List Int} {x : Int} (h : frOk lim each us x = false) : acB lim each us = false ∨ (acB lim each us = true ∧ prB x = false) := by
  rcases hq : acB lim each us with _ | _
  · exact .inl rfl
  · exact .inr ⟨rfl, by simpa [frOk, hq] using h⟩
theorem frOk_of {lim each : Int} {us : List Int} {x : Int} (h : frOk lim each us x = true) : acB lim each us = true ∧ prB x = true := by simpa [frOk] using h
set_option maxHeartbeats 1000000 in
theorem freeS_no (lim each : Int) (A : Option Addr) (n c : Nat) (us : List Int) (x : Int) (w : World) (h : NR w A n us) (hn : n ≤ 9223372036854775807) (hk : frOk lim each us x = false) :
    Calls Try.prog 25 #[.agg #[.int .i64 lim, .int .i64 each, (.slice A n c)], .int .i64 x] w fun e w' => e = .returned (.tuple #[.int .i64 0, .bool false]) ∧ Below w.heap.size w w' := by
  have F0 := Lib.hid (fa_first (lim := lim) (each := each) (c := c) h)
  clear h
  rcases frOk_no hk with hq | ⟨hq, hx⟩
  · have HQ := Lib.hid hq
    clear hq hk
    go_enter Try.func25, Try.ntmps25
    go_wp2_with fail
    refine (acS_any lim each A n c us _ (fa_pr F0.out) hn).mono ?_
    rintro e w1 ⟨rfl, hb⟩
    rw [HQ.out]
    have F1 := Lib.hid (fa_below F0.out hb)
    clear hb
    go_wp2
    go_ret2
    exact ⟨rfl, fa_bel F1.out⟩
  · have HQ := Lib.hid hq
    have HX := Lib.hid hx
    clear hq hx hk
    go_enter Try.func25, Try.ntmps25
    go_wp2_with fail
    refine (acS_any lim each A n c us _ (fa_pr F0.out) hn).mono ?_
    rintro e w1 ⟨rfl, hb⟩
    rw [HQ.out]
    have F1 := Lib.hid (fa_below F0.out hb)
    clear hb
    go_wp2_with fail
    refine (l4Peer_any x _).mono ?_
    rintro e w2 ⟨rfl, rfl⟩
    rw [HX.out]
    go_wp2
    go_ret2
    exact ⟨rfl, fa_bel F1.out⟩
set_option maxHeartbeats 1000000 in
theorem freeS_yes (lim each : Int) (A : Option Addr) (n c : Nat) (us : List Int) (k : Nat) (u : Int) (w : World) (h : NR w A n us) (hv : acB lim each us = true) (hk : prB (k : Int) = true) (hu : us[k]? = some u) :
    Calls Try.prog 25 #[.agg #[.int .i64 lim, .int .i64 each, (.slice A n c)], .int .i64 (k : Int)] w fun e w' => e = .returned (.tuple #[.int .i64 (freeN lim each us u), .bool true]) ∧ Below w.heap.size w w' := by
  have F0 := Lib.hid (fa_first (lim := lim) (each := each) (c := c) h)
  have HV := Lib.hid hv
  have HK := Lib.hid hk
  have HU := Lib.hid hu
  have n8 : n ≤ 8 := by have := (ac_of hv).2.2.2.1; have := h.1; omega
  clear h hv hk hu
  go_enter Try.func25, Try.ntmps25
  go_wp2_with fail
  refine (acS_any lim each A n c us _ (fa_pr F0.out) (by omega)).mono ?_
  rintro e w1 ⟨rfl, hb⟩
  rw [HV.out]
  have F1 := Lib.hid (fa_below F0.out hb)
  obtain ⟨⟨q0, q1, q2⟩, -⟩ := fa_cells F1.out
  clear hb
  go_wp2_with fail
  refine (l4Peer_any _ _).mono ?_
  rintro e w2 ⟨rfl, rfl⟩
  rw [HK.out]
  go_wp2_with fail
  refine (l4Free_any lim each A n c us k u _ (fa_pr F1.out) HV.out HU.out).mono ?_
  rintro e w3 ⟨rfl, hb⟩
  have F3 := Lib.hid (fa_below F1.out hb)
  clear hb q0 q1 q2
  go_wp2
  go_ret2
  exact ⟨rfl, fa_bel F3.out⟩
end Go.Proofs.Ytkbjelchihdajaa
