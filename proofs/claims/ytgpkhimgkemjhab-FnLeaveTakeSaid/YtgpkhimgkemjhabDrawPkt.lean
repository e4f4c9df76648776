/-
  The draws of one packet: what they return, whatever the bytes. Conditions: the source is as open leaves it, its counter is small.
-/
import Derived.Test.YtgpkhimgkemjhabDraw
namespace Go.Proofs.Ytgpkhimgkemjhab
open Go.RowKit

def PktPost (w : World) (g q : Nat) (ok : Bool) (e : Ending) (w' : World) : Prop :=
  ∃ p : Pkt, e = .returned (.agg #[.int .i64 p.peer, .int .i64 p.lane, .int .i64 p.size, .int .i64 p.id]) ∧ (ok = true → vldB p = true) ∧ w.grownBy w' (some g) ∧ RdAt w' g q
theorem draw_valid (a b c d : Int) (ha : a ∈ [0, 1, 2, 3, 7]) (hb : b ∈ [0, 1, 2, 3]) (hc : c ∈ [10, 1, 30, 100, 50, 7]) (hd : d ∈ [1, 2, 3, 9999, 0, 42]) : vldB ⟨a, b, c, d⟩ = true := by
  simp only [List.mem_cons, List.not_mem_nil, or_false] at ha hb hc hd
  simp only [vldB, decide_eq_true_eq]
  omega
theorem draw_end {w w1 w2 w3 w4 : World} {g : Nat} {o : Obj} (h1 : (w.alloc o).grownBy w1 (some g)) (h2 : w1.grownBy w2 (some g)) (h3 : w2.grownBy w3 (some g)) (h4 : w3.grownBy w4 (some g)) (hg : g < w.heap.size) (t : TypeId) (cs : Array Value) (ho : o = .cells cs t) :
    (w.grownBy w4 (some g) ∧ w.heap.size < w4.heap.size) ∧ Blk w4 w.heap.size t cs := by
  subst ho
  have k := ((h1.trans h2).trans h3).trans h4
  have hb := blk_new w t cs
  refine ⟨⟨(World.grownBy_alloc w _ _).trans k, by have := k.size; simp at this; omega⟩, blk_grown hb k (by omega)⟩
set_option maxHeartbeats 1000000 in
theorem l1Draw_any (g q : Nat) (w : World) (h : RdAt w g q) (hq : q ≤ 900000) :
    Calls Try.prog 82 #[.pointer (some ⟨g, 0, none⟩)] w (PktPost w g (q + 4) true) := by
  have hg := rd_lt h
  go_enter Try.func82, Try.ntmps82
  go_wp2_with fail
  refine (num_lit g q _ _ _ _ [0, 1, 2, 3, 7] _ (rd_alloc h _) (by omega) (by simp) (by decide) rfl).mono ?_
  rintro e w1 ⟨x1, hx1, rfl, hg1, hr1⟩
  have H1 := Lib.hid hg1
  clear hg1
  have X1 := Lib.hid hx1
  clear hx1
  go_wp2_with fail
  refine (num_lit g _ _ _ _ _ [0, 1, 2, 3] _ hr1 (by omega) (by simp) (by decide) rfl).mono ?_
  rintro e w2 ⟨x2, hx2, rfl, hg2, hr2⟩
  have H2 := Lib.hid hg2
  clear hg2 hr1
  have X2 := Lib.hid hx2
  clear hx2
  go_wp2_with fail
  refine (num_lit g _ _ _ _ _ [10, 1, 30, 100, 50, 7] _ hr2 (by omega) (by simp) (by decide) rfl).mono ?_
  rintro e w3 ⟨x3, hx3, rfl, hg3, hr3⟩
  have H3 := Lib.hid hg3
  clear hg3 hr2
  have X3 := Lib.hid hx3
  clear hx3
  go_wp2_with fail
  refine (num_lit g _ _ _ _ _ [1, 2, 3, 9999, 0, 42] _ hr3 (by omega) (by simp) (by decide) rfl).mono ?_
  rintro e w4 ⟨x4, hx4, rfl, hg4, hr4⟩
  have K := draw_end H1.out H2.out H3.out hg4 hg _ _ rfl
  clear H1 H2 H3 hg4 hr3 h
  have X4 := Lib.hid hx4
  clear hx4
  have c0 : w4.cell? ⟨w.heap.size, 0, none⟩ = some (.int .i64 0) := blk_cell K.2 0
  have c1 : w4.cell? ⟨w.heap.size, 1, none⟩ = some (.int .i64 0) := blk_cell K.2 1
  have c2 : w4.cell? ⟨w.heap.size, 2, none⟩ = some (.int .i64 0) := blk_cell K.2 2
  have c3 : w4.cell? ⟨w.heap.size, 3, none⟩ = some (.int .i64 0) := blk_cell K.2 3
  have f0 := blk_free K.2 0
  have f1 := blk_free K.2 1
  have f2 := blk_free K.2 2
  have f3 := blk_free K.2 3
  have K1 := Lib.hid K.1
  clear K
  go_wp2
  refine bodyPost_ret (v := .agg #[.int .i64 x1, .int .i64 x2, .int .i64 x3, .int .i64 x4]) (by simp [results, Try.results82, go_sem, c0, c1, c2, c3]) rfl ⟨⟨x1, x2, x3, x4⟩, rfl, fun _ => draw_valid _ _ _ _ X1.out X2.out X3.out X4.out, ?_, ?_⟩
  · exact g_set (g_set (g_set (g_set K1.out.1 (.inr (Nat.le_refl _)) _) (.inr (Nat.le_refl _)) _) (.inr (Nat.le_refl _)) _) (.inr (Nat.le_refl _)) _
  · exact rd_set (rd_set (rd_set (rd_set hr4 hg _) hg _) hg _) hg _
end Go.Proofs.Ytgpkhimgkemjhab
