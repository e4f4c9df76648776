/-
  Chapter 11: the draws of decisions and of shares: what they return, whatever the bytes. Conditions: the source is as open leaves it, its counter is small.
-/
import Derived.Test.YtaccbmgbkalknabDoorDraw
import Derived.Test.YtaccbmgbkalknabDoorA0
namespace Go.Proofs.YtaccbmgbkalknabDoor
open Go.RowKit

structure FDy (w : World) (g Q : Nat) (A : Option Addr) (m c : Nat) (xs : List Int) (wr : World) : Prop where
  own : wr.ownsRow w.heap.size 3 1 (.slice A m c) m (icells xs)
  rd : RdAt wr g Q
  grow : w.grownBy wr (some g)
  hg : g < w.heap.size
section
variable {w w1 w2 : World} {g Q Q2 : Nat} {A : Option Addr} {m c : Nat} {xs : List Int}
theorem fdy_grown (h : FDy w g Q A m c xs w1) (hg : w1.grownBy w2 (some g)) (hr : RdAt w2 g Q2) : FDy w g Q2 A m c xs w2 :=
  ⟨h.own.kept hg (own_block_none h.own h.hg), hr, h.grow.trans hg, h.hg⟩
theorem fdy_app {A2 : Option Addr} {m2 c2 : Nat} {ys : List Int} {o : Obj} (h : FDy w g Q A m c xs w1) (hg : (w1.alloc o).grownBy w2 (Value.ownBlock (.slice A m c))) (ho : w2.ownsRow w.heap.size 3 1 (.slice A2 m2 c2) m2 (icells ys)) : FDy w g Q A2 m2 c2 ys w2 := by
  have hlt : ∀ j, Value.ownBlock (.slice A m c) = some j → w.heap.size ≤ j := fun j hj => (h.own.lt j hj).1
  have hgb := h.hg
  rcases hv : Value.ownBlock (.slice A m c) with _ | j
  · rw [hv] at hg
    exact ⟨ho, rd_below (rd_alloc h.rd o) ⟨hg.os, hg.tape, hg.output, hg.size, fun i hi => hg.block i hi (by simp)⟩, g_none (g_alloc h.grow o) hg, hgb⟩
  · rw [hv] at hg
    have := hlt j hv
    exact ⟨ho, rd_new (rd_alloc h.rd o) hg (by omega), g_new (g_alloc h.grow o) hg this, hgb⟩
theorem fdy_more (h : FDy w g Q A m c xs w1) (hq : Q ≤ Q2) : FDy w g Q2 A m c xs w1 := ⟨h.own, rd_more h.rd hq, h.grow, h.hg⟩
end
def IntsPost (w : World) (g q : Nat) (e : Ending) (w' : World) : Prop :=
  ∃ A m c xs, e = .returned (.slice A m c) ∧ m ≤ 9 ∧ FDy w g q A m c xs w'
def FDyRel (w : World) (g q k0 : Nat) (wv i : Value) (wr : World) : Prop :=
  ∃ (k m : Nat) (A : Option Addr) (c : Nat) (xs : List Int), m + k = k0 ∧ i = .int .i64 (k : Int) ∧ wv = .slice A m c ∧ FDy w g (q + 1 + m) A m c xs wr
theorem rounds_y {x : Int} (h : x ∈ [4, 3, 6, 1, 0]) : ∃ k : Nat, x = (k : Int) ∧ k ≤ 8 := by
  simp only [List.mem_cons, List.not_mem_nil, or_false] at h
  exact ⟨x.toNat, by omega, by omega⟩
theorem rounds_y2 {x : Int} (h : x ∈ [4, 3, 8, 2, 1, 0]) : ∃ k : Nat, x = (k : Int) ∧ k ≤ 8 := by
  simp only [List.mem_cons, List.not_mem_nil, or_false] at h
  exact ⟨x.toNat, by omega, by omega⟩
set_option maxRecDepth 100000 in
set_option maxHeartbeats 2000000 in
theorem l11Ints_any (g q : Nat) (w : World) (h : RdAt w g q) (hq : q ≤ 700000) :
    Calls Tryd.prog 16 #[.pointer (some ⟨g, 0, none⟩)] w (IntsPost w g (q + 20)) := by
  have hg := rd_lt h
  have D1 : Hid (FDy w g q (some ⟨w.heap.size, 0, none⟩) 0 0 [] (w.alloc (.cells #[] 3))) := Lib.hid ⟨own_emptyI rfl, rd_alloc h _, g_alloc (g_refl _ _) _, hg⟩
  go_enter Tryd.func16, Tryd.ntmps16
  go_wp2_with fail
  refine (num_lit g _ _ 5 _ _ [4, 3, 6, 1, 0] _ D1.out.rd (by omega) (by simp) (by decide) rfl).mono ?_
  rintro e w2 ⟨i, hi, rfl, hg2, hr2⟩
  obtain ⟨k0, rfl, hk6⟩ := rounds_y hi
  have R0 : Hid (FDyRel w g q k0 (.slice (some ⟨w.heap.size, 0, none⟩) 0 0) (.int .i64 (k0 : Int)) w2) := Lib.hid ⟨k0, 0, _, 0, [], by omega, rfl, rfl, fdy_grown D1.out hg2 hr2⟩
  clear hi hg2 hr2 D1 h
  go_wp2
  go_loopw [3, 4] (fun wv i wr => FDyRel w g q k0 wv i wr) (fun _ i _ => (intOf i).toNat)
  case atStart => exact R0.out
  case round =>
    obtain ⟨k, m, A, c, xs, hmk, rfl, rfl, hD⟩ := hrel
    clear R0
    have HD := Lib.hid hD
    have hbs := hD.grow.size
    clear hD
    by_cases hlt : 0 < k
    · have hkz : (0 : Int) < (k : Int) := by omega
      go_wp2_with fail
      refine (num_lit g _ _ 6 _ _ [1, 2, 3, 4, 5, 1] _ HD.out.rd (by omega) (by simp) (by decide) rfl).mono ?_
      rintro e w3 ⟨x, -, rfl, hg3, hr3⟩
      have D3 := Lib.hid (fdy_grown HD.out hg3 hr3)
      have z3 := D3.out.grow.size
      clear hg3 hr3
      go_wp2_with (at_builtin
                   refine wpl_app_ints _ rfl (.tmp 13) (.tmp 17) rfl w.heap.size (.slice A m c) m xs rfl (D3.out.own.alloc _) (some ⟨w3.heap.size, 0, none⟩) 1 1 [x] rfl (int_single (blk_at (by simp) _ _)) (by omega) (by simp; omega) ?_
                   intro v7 w7 ho7 hg7 hat7
                   obtain ⟨A7, c7, rfl, -, -, -⟩ := own_form ho7
                   have D7 := Lib.hid (fdy_app D3.out hg7 ho7)
                   clear hg7 ho7 hat7)
      go_roundw
      case rel => exact ⟨k - 1, m + 1, A7, c7, xs ++ [x], by omega, congrArg (Value.int .i64) (by omega), rfl, fdy_more D7.out (by omega)⟩
      case measure => simp [intOf]; omega
    · obtain rfl : k = 0 := by omega
      clear hlt
      go_wp2_with fail
      refine (pick_any g _ _ _ HD.out.rd (by omega) (by omega)).mono ?_
      rintro e w3 ⟨j, rfl, hj, hg3, hr3⟩
      have D3 := Lib.hid (fdy_grown HD.out hg3 hr3)
      have z3 := D3.out.grow.size
      clear hg3 hr3
      by_cases hj0 : j = 0
      · subst hj0
        go_wp2_with fail
        refine (num_lit g _ _ 2 _ _ [0, 6] _ D3.out.rd (by omega) (by simp) (by decide) rfl).mono ?_
        rintro e w4 ⟨x, -, rfl, hg4, hr4⟩
        have D4 := Lib.hid (fdy_grown D3.out hg4 hr4)
        have z4 := D4.out.grow.size
        clear hg4 hr4
        go_wp2_with (at_builtin
                     refine wpl_app_ints _ rfl (.tmp 22) (.tmp 26) rfl w.heap.size (.slice A m c) m xs rfl (D4.out.own.alloc _) (some ⟨w4.heap.size, 0, none⟩) 1 1 [x] rfl (int_single (blk_at (by simp) _ _)) (by omega) (by simp; omega) ?_
                     intro v7 w7 ho7 hg7 hat7
                     obtain ⟨A7, c7, rfl, -, -, -⟩ := own_form ho7
                     have D7 := Lib.hid (fdy_app D4.out hg7 ho7)
                     clear hg7 ho7 hat7)
        go_ret
        exact ⟨A7, m + 1, c7, _, rfl, by omega, fdy_more D7.out (by omega)⟩
      · have e0 : ((j : Int) == 0) = false := by simp; omega
        clear hj0
        go_wp2
        go_ret
        exact ⟨A, m, c, _, rfl, by omega, fdy_more D3.out (by omega)⟩
def DrawnI (w : World) (e : Ending) (w' : World) : Prop :=
  ∃ A n c us, e = .returned (.slice A n c) ∧ n ≤ 9 ∧ n ≤ c ∧ c ≤ maxLen ∧ NR w' A n us ∧ Below w.heap.size w w'
theorem drawnI_end {w w1 w2 : World} {g q : Nat} {e : Ending} (hg : w.heap.size ≤ g) (h1 : Below w.heap.size w w1) (h : IntsPost w1 g q e w2) : DrawnI w e w2 := by
  obtain ⟨A, m, c, xs, rfl, hm, hf⟩ := h
  obtain ⟨A', c', hv, hnc, hc, _⟩ := own_form hf.own
  obtain ⟨rfl, rfl⟩ : A = A' ∧ c = c' := by injection hv with a1 a2 a3; exact ⟨a1, a3⟩
  exact ⟨A, m, c, xs, rfl, hm, hnc, hc, nr_own hf.own, below_grown h1 h1.size hf.grow hg⟩
end Go.Proofs.YtaccbmgbkalknabDoor
