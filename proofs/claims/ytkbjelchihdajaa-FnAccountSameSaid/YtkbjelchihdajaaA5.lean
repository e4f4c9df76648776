/-
  Chapter 4: OverShare; the model's. Conditions: a slice's length fits an int.
-/
import Derived.Test.YtkbjelchihdajaaA4
namespace Go.Proofs.Ytkbjelchihdajaa
open Go.RowKit

noncomputable def halfL (us : List Int) : List Int := shareL us (sumL us / 2)
noncomputable def overL (us : List Int) : List Int := overN us (halfL us) 8
set_option maxHeartbeats 1000000 in
theorem overS_no (lim each : Int) (A : Option Addr) (n c : Nat) (us : List Int) (w : World) (h : NR w A n us) (hn : n ≤ 9223372036854775807) (hk : acB lim each us = false) :
    Calls Try.prog 32 #[.agg #[.int .i64 lim, .int .i64 each, (.slice A n c)]] w (LPost w [] false) := by
  have F0 := Lib.hid (fa_first (lim := lim) (each := each) (c := c) h)
  have E := Lib.hid (own_emptyI (W := w.alloc (.cells #[.int .i64 lim, .int .i64 each, (.slice A n c)] 25)) (b := w.heap.size + 1) (by simp))
  have HK := Lib.hid hk
  clear h hk
  go_enter Try.func32, Try.ntmps32
  go_wp2_with fail
  refine (acS_any lim each A n c us _ (fa_pr (fa_alloc F0.out _)) hn).mono ?_
  rintro e w1 ⟨rfl, hb⟩
  rw [HK.out]
  have F1 := Lib.hid (fa_below (fa_alloc F0.out (.cells #[] 3)) hb)
  have E1 := Lib.hid (own_below E.out hb)
  clear hb
  go_wp2
  go_ret2
  exact lpost_mk rfl (own_mono E1.out (by simp)) (fa_bel F1.out)
structure OS (w : World) (lim each : Int) (A : Option Addr) (c : Nat) (us : List Int) (sA : Option Addr) (s : List Int) (Ao : Option Addr) (m co : Nat) (out : List Int) (wr : World) : Prop where
  fr : FA w lim each A 8 c us wr
  sp : NR wr sA 8 s
  own : wr.ownsRow (w.heap.size + 1) 3 1 (.slice Ao m co) m (icells out)
  sep : ∀ b, sA.map (·.block) = some b → Value.ownBlock (.slice Ao m co) ≠ some b
section
variable {w w1 w2 : World} {lim each : Int} {A sA Ao : Option Addr} {c m co : Nat} {us s out : List Int}
theorem os_drewN (h : OS w lim each A c us sA s Ao m co out w1) (k : Nat) : OS w lim each A c us sA s Ao m co out (w1.drewN k) := ⟨fa_drewN h.fr k, h.sp, own_below h.own ⟨rfl, rfl, rfl, Nat.le_refl _, fun _ _ => rfl⟩, h.sep⟩
theorem os_alloc (h : OS w lim each A c us sA s Ao m co out w1) (o : Obj) : OS w lim each A c us sA s Ao m co out (w1.alloc o) := ⟨fa_alloc h.fr o, nr_alloc h.sp o, h.own.alloc o, h.sep⟩
theorem os_app {Ao2 : Option Addr} {m2 co2 : Nat} {out2 : List Int} (h : OS w lim each A c us sA s Ao m co out w1) (hg : w1.grownBy w2 (Value.ownBlock (.slice Ao m co))) (ho : w2.ownsRow (w.heap.size + 1) 3 1 (.slice Ao2 m2 co2) m2 (icells out2))
    (hat : Value.ownBlock (.slice Ao2 m2 co2) = Value.ownBlock (.slice Ao m co) ∨ Value.ownBlock (.slice Ao2 m2 co2) = some w1.heap.size) : OS w lim each A c us sA s Ao2 m2 co2 out2 w2 := by
  refine ⟨fa_grown h.fr hg (fun g e => (h.own.lt g e).1), nr_grown h.sp hg (fun hn b e e2 => h.sep b e e2.symm), ho, fun b e => ?_⟩
  rcases hat with e2 | e2
  · rw [e2]; exact h.sep b e
  · rw [e2]
    intro e3
    have := nr_old h.sp (by omega) b e
    injection e3 with e3
    omega
end
def OvRel (w : World) (lim each : Int) (A : Option Addr) (c : Nat) (us : List Int) (sA : Option Addr) (s : List Int) (ov i : Value) (wr : World) : Prop :=
  ∃ (k m : Nat) (Ao : Option Addr) (co : Nat), k ≤ 8 ∧ m ≤ k ∧ i = .int .i64 (k : Int) ∧ ov = .slice Ao m co ∧ OS w lim each A c us sA s Ao m co (overN us s k) wr
set_option maxHeartbeats 4000000 in
theorem overS_yes (lim each : Int) (A : Option Addr) (n c : Nat) (us : List Int) (w : World) (h : NR w A n us) (hk : acB lim each us = true) :
    Calls Try.prog 32 #[.agg #[.int .i64 lim, .int .i64 each, (.slice A n c)]] w fun e w' => LPost w (overL us) true e w' ∧ IsShare us (sumL us / 2) (halfL us) := by
  have F0 := Lib.hid (fa_first (lim := lim) (each := each) (c := c) h)
  have E := Lib.hid (own_emptyI (W := w.alloc (.cells #[.int .i64 lim, .int .i64 each, (.slice A n c)] 25)) (b := w.heap.size + 1) (by simp))
  obtain ⟨a1, a2, a3, a4, a5, a6⟩ := ac_of hk
  have n8 : n = 8 := by have := h.1; omega
  have HK := Lib.hid hk
  have H5 := Lib.hid (ac_5000 hk)
  have HL8 := Lib.hid a4
  obtain ⟨S, hS⟩ : ∃ S, sumL us = S := ⟨_, rfl⟩
  rw [hS] at a5 a6
  have HS := Lib.hid hS
  have S1 : S ≤ 5000 := by omega
  have td : S.tdiv 2 = S / 2 := Int.tdiv_eq_ediv_of_nonneg a6
  have d0 : 0 ≤ S / 2 := by omega
  have d1 : S / 2 ≤ 5000 := by omega
  have dw : IntKind.i64.wrap (S / 2) = S / 2 := IntWalk.i64_in _ (by omega)
  subst n8
  clear h hk a1 a2 a3 a4 hS a5
  go_enter Try.func32, Try.ntmps32
  go_wp2_with fail
  refine (acS_any lim each A 8 c us _ (fa_pr (fa_alloc F0.out _)) (by omega)).mono ?_
  rintro e w1 ⟨rfl, hb⟩
  rw [HK.out]
  have F1 := Lib.hid (fa_below (fa_alloc F0.out (.cells #[] 3)) hb)
  have E1 := Lib.hid (own_below E.out hb)
  have hS := fa_cells (fa_drew F1.out)
  have z1 := (E1.out.lt (w.heap.size + 1) rfl).2
  clear hb F0 E
  go_wp2_with fail
  go_region_held3 (fun w' => (w'.cell? ⟨w.heap.size, 0, none⟩ = some (.int .i64 lim) ∧ w'.cell? ⟨w.heap.size, 1, none⟩ = some (.int .i64 each) ∧ w'.cell? ⟨w.heap.size, 2, none⟩ = some (.slice A 8 c)) ∧ FA w lim each A 8 c us w')
    (first
      | (with_reducible assumption)
      | fail)
    (first
      | (go_at_call 53
         refine (l4Shares_any A 8 c us (S / 2) _ (fa_pr (fa_drew F1.out)) H5.out (by omega) ⟨d0, d1⟩).mono ?_
         rintro e w3 ⟨sA, s, rfl, hs, ho3, hb3⟩
         have IS := Lib.hid hs
         have O3 := Lib.hid ho3
         have F3 := Lib.hid (fa_below (fa_drew F1.out) hb3)
         have E3 := Lib.hid (own_below (World.ownsRow.drew E1.out) hb3)
         have hS3 := fa_cells F3.out
         clear hb3 ho3 hs)
      | (go_at_call 54
         refine (l4Sum_is A 8 c us S _ (fa_pr (fa_drew F1.out)) H5.out (by omega) HS.out).mono ?_
         rintro e w2 ⟨rfl, rfl⟩))
  all_goals
    have R0 : Hid (OvRel w lim each A c us sA s (.slice (some ⟨w.heap.size + 1, 0, none⟩) 0 0) (.int .i64 0) w3) := Lib.hid ⟨0, 0, _, 0, Nat.zero_le _, Nat.le_refl _, rfl, rfl, F3.out, nr_own O3.out, own_mono E3.out (by simp), fun b e e2 => (by
      have h1 := (O3.out.lt b (by cases sA with | none => cases e | some x => simpa [Value.ownBlock] using e)).1
      have h2 : w.heap.size + 1 = b := by simpa [Value.ownBlock] using e2
      simp at h1
      omega)⟩
    have hsl : s.length = 8 := (nr_own O3.out).1
    clear hS hS3
    go_wp2_with fail
    go_loopw [4, 6] (fun ov i wr => OvRel w lim each A c us sA s ov i wr) (fun _ i _ => 8 - (intOf i).toNat)
    case atStart => exact R0.out
    case round =>
      obtain ⟨k, m, Ao, co, hk8, hm, rfl, rfl, hO⟩ := hrel
      clear R0
      have HO := Lib.hid hO
      by_cases hlt : k < 8
      · obtain ⟨b, off, u, rfl, hb, hu, c0⟩ := nr_at (fa_pr hO.fr) hlt
        obtain ⟨b2, off2, x, rfl, hb2, hx, e0⟩ := nr_at hO.sp hlt
        obtain ⟨⟨q0, q1, q2⟩, -⟩ := fa_cells hO.fr
        have HU := Lib.hid hu
        have HX := Lib.hid hx
        have k0 : (0 : Int) ≤ (k : Int) := by omega
        have k1 : (k : Int) < (8 : Int) := by omega
        have zl := fa_lt hO.fr
        clear hO hu hx
        by_cases hux : x < u
        · have HLT := Lib.hid hux
          go_wp2_with fail
          go_quiet (fail)
          go_wp2_with (at_builtin
                       refine wpl_app_ints _ rfl (.tmp 35) (.tmp 37) rfl (w.heap.size + 1) (.slice Ao m co) m (overN us s k) rfl ((os_drewN HO.out _).own.alloc _) (some ⟨wr.heap.size, 0, none⟩) 1 1 [(k : Int)] rfl (int_single (blk_at (by simp) _ _)) (by omega) (by simp; omega) ?_
                       intro v7 w7 ho7 hg7 hat7
                       obtain ⟨A7, c7, rfl, -, -, -⟩ := own_form ho7
                       have O7 := Lib.hid (os_app (os_alloc (os_drewN HO.out _) _) hg7 ho7 hat7)
                       clear hg7 ho7 hat7 c0 e0 q0 q1 q2)
          go_roundw
          case rel => exact ⟨k + 1, m + 1, A7, c7, by omega, by omega, by go_num, rfl, by rw [over_yes HU.out HX.out HLT.out]; exact O7.out⟩
          case measure => simp [intOf]; omega
        · have hd : decide (x < u) = false := by simp; omega
          have HLT := Lib.hid (show ¬ x < u by omega)
          clear hux
          go_wp2_with fail
          go_quiet (fail)
          go_wp2
          go_roundw
          case rel => exact ⟨k + 1, m, Ao, co, by omega, by omega, by go_num, rfl, by rw [over_no HU.out HX.out (by have := HLT.out; omega)]; exact os_drewN HO.out _⟩
          case measure => simp [intOf]; omega
      · obtain rfl : k = 8 := by omega
        have hsh : s = halfL us := by rw [halfL, HS.out]; exact share_is IS.out
        have HSH := Lib.hid hsh
        clear hO hsh
        go_wp2
        go_ret2
        exact ⟨lpost_mk rfl (by rw [overL, ← HSH.out]; exact own_mono HO.out.own (by omega)) (fa_bel HO.out.fr), by rw [← HSH.out, HS.out]; exact IS.out⟩
end Go.Proofs.Ytkbjelchihdajaa
