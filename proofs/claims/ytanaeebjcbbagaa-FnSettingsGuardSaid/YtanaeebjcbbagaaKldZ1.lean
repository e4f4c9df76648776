/-
  Chapter 6: the draws of weights. Conditions: the source is as open leaves it, its counter is small.
  Conditions: each lemma says them.
-/
import Derived.Test.YtanaeebjcbbagaaKqZ1
import Derived.Test.YtanaeebjcbbagaaKaZ1
import Derived.Test.YtanaeebjcbbagaaKjZ1
namespace Go.Proofs.Ytanaeebjcbbagaa
open Go.RowKit
def WtAll (us : List Int) : Prop := ∀ x ∈ us, 1 ≤ x ∧ x ≤ 9
def NumsPost (w : World) (g q : Nat) (e : Ending) (w' : World) : Prop :=
  ∃ A c us, e = .returned (.slice A 4 c) ∧ us.length = 4 ∧ WtAll us ∧ w'.ownsRow w.heap.size 3 1 (.slice A 4 c) 4 (icells us) ∧ w.grownBy w' (some g) ∧ RdAt w' g q
def NumsRel (w : World) (g q : Nat) (v i : Value) (wr : World) : Prop :=
  ∃ (k : Nat) (us : List Int), i = .int .i64 (k : Int) ∧ k ≤ 4 ∧ WtAll us ∧ wr.ownsRow w.heap.size 3 1 v k (icells us) ∧ w.grownBy wr (some g) ∧ RdAt wr g (q + k)
theorem nums_step {w wr w1 w2 : World} {g q n : Nat} {us : List Int} {x : Int} {v : Value} {cs : Array Value} {t : TypeId} (hg : g < w.heap.size)
    (hs : WtAll us) (ho : wr.ownsRow w.heap.size 3 1 v n (icells us)) (hgr : w.grownBy wr (some g)) (hp : 1 ≤ x ∧ x ≤ 9) (h1 : wr.grownBy w1 (some g)) (hr : RdAt w1 g q)
    (h2 : (w1.alloc (.cells cs t)).grownBy w2 v.ownBlock) : WtAll (us ++ [x]) ∧ w.grownBy w2 (some g) ∧ RdAt w2 g q := by
  have hl : ∀ j, v.ownBlock = some j → w.heap.size ≤ j := fun j hj => (ho.lt j hj).1
  refine ⟨fun y hy => ?_, ?_, ?_⟩
  · rcases List.mem_append.1 hy with hy | hy
    · exact hs y hy
    · simp at hy; subst hy; exact hp
  · rcases hv : v.ownBlock with _ | j
    · rw [hv] at h2
      exact g_none (g_alloc (hgr.trans h1) _) h2
    · rw [hv] at h2
      exact g_new (g_alloc (hgr.trans h1) _) h2 (hl j hv)
  · rcases hv : v.ownBlock with _ | j
    · rw [hv] at h2
      exact rd_below (rd_alloc hr _) ⟨h2.os, h2.tape, h2.output, h2.size, fun i hi => h2.block i hi (by simp)⟩
    · rw [hv] at h2
      exact rd_new (rd_alloc hr _) h2 (by have := hl j hv; omega)
theorem wt_in {x : Int} (h : x ∈ [2, 1, 3, 4, 9]) : 1 ≤ x ∧ x ≤ 9 := by
  simp only [List.mem_cons, List.not_mem_nil, or_false] at h; omega
theorem wtall_len {w : World} {base : Nat} {e : TypeId} {v : Value} {n : Nat} {us : List Int} (h : w.ownsRow base e 1 v n (icells us)) : us.length = n := by
  have := h.1; rw [icells_len] at this; omega
set_option maxRecDepth 100000 in
set_option maxHeartbeats 1000000 in
theorem l6Numbers_any (g q : Nat) (w : World) (h : RdAt w g q) (hq : q ≤ 800000) :
    Calls Try.prog 59 #[.pointer (some ⟨g, 0, none⟩)] w (NumsPost w g (q + 4)) := by
  have hg := rd_lt h
  have R0 : Hid (NumsRel w g q (.slice (some ⟨w.heap.size, 0, none⟩) 0 0) (.int .i64 0) (w.alloc (.cells #[] 3))) := Lib.hid
    ⟨0, [], rfl, Nat.zero_le _, fun x hx => (by cases hx), own_emptyI rfl, g_alloc (g_refl _ _) _, rd_alloc h _⟩
  clear h
  go_enter Try.func59, Try.ntmps59
  go_wp2_with fail
  go_loopw [3, 4] (fun v i wr => NumsRel w g q v i wr) (fun _ i _ => 4 - (intOf i).toNat)
  case atStart => exact R0.out
  case round =>
    obtain ⟨k, us, rfl, hk, hs, ho, hgr, hr⟩ := hrel
    clear R0
    have HO := Lib.hid ho
    have HS := Lib.hid hs
    have HG := Lib.hid hgr
    have HR := Lib.hid hr
    clear hs ho hgr hr
    by_cases hlt : k < 4
    · go_wp2_with fail
      refine (num_lit g _ _ 5 _ _ [2, 1, 3, 4, 9] _ HR.out (by omega) (by simp) (by decide) rfl).mono ?_
      rintro e w1 ⟨x, hx, rfl, hg1, hr1⟩
      have HX := Lib.hid (wt_in hx)
      have hg1' := hg1
      have ho1 := HO.out.kept hg1' (own_block_none HO.out hg)
      have HG1 := Lib.hid hg1'
      have HR1 := Lib.hid hr1
      have HO1 := Lib.hid ho1
      have hz := HG.out.size
      have hz1 := HG1.out.size
      clear hx hg1 hr1 ho1 hg1'
      go_wp2_with (at_builtin
                   refine wpl_app_ints _ rfl (.tmp 10) (.tmp 14) rfl w.heap.size _ k us rfl (HO1.out.alloc _) _ 1 1 [x] rfl (int_single (blk_new w1 _ _)) (by omega) (by simp <;> omega) ?_
                   intro v6 w6 ho6 hg6 hat6
                   have L6 := Lib.hid (nums_step hg HS.out HO.out HG.out HX.out HG1.out HR1.out hg6)
                   have O6 := Lib.hid ho6
                   clear ho6 hg6 hat6)
      go_roundw
      case rel => exact ⟨k + 1, us ++ [x], by go_num, by omega, L6.out.1, O6.out, L6.out.2.1, rd_more L6.out.2.2 (by omega)⟩
      case measure => simp [intOf]; omega
    · obtain rfl : k = 4 := by omega
      obtain ⟨A, c, rfl, -, -, -⟩ := own_form HO.out
      go_wp2
      go_ret
      exact ⟨A, c, us, rfl, wtall_len HO.out, HS.out, HO.out, HG.out, HR.out⟩
end Go.Proofs.Ytanaeebjcbbagaa
