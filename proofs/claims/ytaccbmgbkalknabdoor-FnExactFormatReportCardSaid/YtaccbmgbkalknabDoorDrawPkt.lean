/-
  The draws of one packet: what they return, whatever the bytes. Conditions: the source is as open leaves it, its counter is small.
-/
import Derived.Test.YtaccbmgbkalknabDoorDraw
namespace Go.Proofs.YtaccbmgbkalknabDoor
open Go.RowKit

def PktPost (w : World) (g q : Nat) (ok : Bool) (e : Ending) (w' : World) : Prop :=
  ∃ p : Pkt, e = .returned (.agg #[.int .i64 p.peer, .int .i64 p.lane, .int .i64 p.size, .int .i64 p.id]) ∧ (ok = true → vldB p = true) ∧ w.grownBy w' (some g) ∧ RdAt w' g q
theorem draw_valid (a b c d : Int) (ha : a ∈ [0, 1, 2, 3, 7]) (hb : b ∈ [0, 1, 2, 3]) (hc : c ∈ [10, 1, 30, 100, 50, 7]) (hd : d ∈ [1, 2, 3, 9999, 0, 42]) : vldB ⟨a, b, c, d⟩ = true := by
  simp only [List.mem_cons, List.not_mem_nil, or_false] at ha hb hc hd
  simp only [vldB, decide_eq_true_eq]
  omega
theorem draw_end {w w1 w2 w3 w4 : World} {g : Nat} {o : Obj} (h1 : (w.alloc o).grownBy w1 (some g)) (h2 : w1.grownBy w2 (some g)) (h3 : w2.grownBy w3 (some g)) (h4 : w3.grownBy w4 (some g)) (hg : g < w.heap.size) (t : TypeId) (cs : Array Value) (ho : o = .cells cs t) :
    (w.grownBy w4 (some g) ∧ w.heap.size < w4.heap.size) ∧ Blk w4 w.heap.size t cs := by
  subst ho
  have k := ((h1.trans h2).trans h3).trans h4
  have hb := blk_new w t cs
  refine ⟨⟨(World.grownBy_alloc w _ _).trans k, by have := k.size; simp at this; omega⟩, blk_grown hb k (by omega)⟩
set_option maxRecDepth 100000 in
set_option maxHeartbeats 1000000 in
theorem l1Draw_any (g q : Nat) (w : World) (h : RdAt w g q) (hq : q ≤ 900000) :
    Calls Tryd.prog 36 #[.pointer (some ⟨g, 0, none⟩)] w (PktPost w g (q + 4) true) := by
  have hg := rd_lt h
  go_enter Tryd.func36, Tryd.ntmps36
  go_wp2_with fail
  refine (num_lit g q _ _ _ _ [0, 1, 2, 3, 7] _ (rd_alloc h _) (by omega) (by simp) (by decide) rfl).mono ?_
  rintro e w1 ⟨x1, hx1, rfl, hg1, hr1⟩
  have H1 := Lib.hid hg1
  clear hg1
  have X1 := Lib.hid hx1
  clear hx1
  go_wp2_with fail
  refine (num_lit g _ _ _ _ _ [0, 1, 2, 3] _ hr1 (by omega) (by simp) (by decide) rfl).mono ?_
  rintro e w2 ⟨x2, hx2, rfl, hg2, hr2⟩
  have H2 := Lib.hid hg2
  clear hg2 hr1
  have X2 := Lib.hid hx2
  clear hx2
  go_wp2_with fail
  refine (num_lit g _ _ _ _ _ [10, 1, 30, 100, 50, 7] _ hr2 (by omega) (by simp) (by decide) rfl).mono ?_
  rintro e w3 ⟨x3, hx3, rfl, hg3, hr3⟩
  have H3 := Lib.hid hg3
  clear hg3 hr2
  have X3 := Lib.hid hx3
  clear hx3
  go_wp2_with fail
  refine (num_lit g _ _ _ _ _ [1, 2, 3, 9999, 0, 42] _ hr3 (by omega) (by simp) (by decide) rfl).mono ?_
  rintro e w4 ⟨x4, hx4, rfl, hg4, hr4⟩
  have K := draw_end H1.out H2.out H3.out hg4 hg _ _ rfl
  clear H1 H2 H3 hg4 hr3 h
  have X4 := Lib.hid hx4
  clear hx4
  have c0 : w4.cell? ⟨w.heap.size, 0, none⟩ = some (.int .i64 0) := blk_cell K.2 0
  have c1 : w4.cell? ⟨w.heap.size, 1, none⟩ = some (.int .i64 0) := blk_cell K.2 1
  have c2 : w4.cell? ⟨w.heap.size, 2, none⟩ = some (.int .i64 0) := blk_cell K.2 2
  have c3 : w4.cell? ⟨w.heap.size, 3, none⟩ = some (.int .i64 0) := blk_cell K.2 3
  have f0 := blk_free K.2 0
  have f1 := blk_free K.2 1
  have f2 := blk_free K.2 2
  have f3 := blk_free K.2 3
  have K1 := Lib.hid K.1
  clear K
  go_wp2
  refine bodyPost_ret (v := .agg #[.int .i64 x1, .int .i64 x2, .int .i64 x3, .int .i64 x4]) (by simp [results, Tryd.results36, go_sem, c0, c1, c2, c3]) rfl ⟨⟨x1, x2, x3, x4⟩, rfl, fun _ => draw_valid _ _ _ _ X1.out X2.out X3.out X4.out, ?_, ?_⟩
  · exact g_set (g_set (g_set (g_set K1.out.1 (.inr (Nat.le_refl _)) _) (.inr (Nat.le_refl _)) _) (.inr (Nat.le_refl _)) _) (.inr (Nat.le_refl _)) _
  · exact rd_set (rd_set (rd_set (rd_set hr4 hg _) hg _) hg _) hg _
def Twice (w w' : World) (g : Nat) (p : Pkt) (t : TypeId) : Prop :=
  Blk w' w.heap.size t #[.int .i64 p.peer, .int .i64 p.lane, .int .i64 p.size, .int .i64 p.id] ∧ Blk w' (w.heap.size + 1) t #[.int .i64 0, .int .i64 0, .int .i64 0, .int .i64 0] ∧ w.grownBy w' (some g) ∧ w.heap.size + 1 < w'.heap.size
theorem wrong_first {w w1 : World} {g : Nat} {p : Pkt} {t : TypeId} (hg : g < w.heap.size) (h : ((w.alloc (.cells #[.int .i64 p.peer, .int .i64 p.lane, .int .i64 p.size, .int .i64 p.id] t)).alloc (.cells #[.int .i64 0, .int .i64 0, .int .i64 0, .int .i64 0] t)).grownBy w1 (some g)) : Twice w w1 g p t := by
  have h2 : Blk ((w.alloc (.cells #[.int .i64 p.peer, .int .i64 p.lane, .int .i64 p.size, .int .i64 p.id] t)).alloc (.cells #[.int .i64 0, .int .i64 0, .int .i64 0, .int .i64 0] t)) (w.heap.size + 1) t #[.int .i64 0, .int .i64 0, .int .i64 0, .int .i64 0] := by
    have := blk_new (w.alloc (.cells #[.int .i64 p.peer, .int .i64 p.lane, .int .i64 p.size, .int .i64 p.id] t)) t #[.int .i64 0, .int .i64 0, .int .i64 0, .int .i64 0]
    simpa using this
  exact ⟨blk_grown (blk_alloc (blk_new w t _) _) h (by omega), blk_grown h2 h (by omega), (g_alloc (g_alloc (g_refl _ _) _) _).trans h, by have := h.size; simp at this; omega⟩
theorem wrong_next {w w1 w2 : World} {g : Nat} {p : Pkt} {t : TypeId} (h : Twice w w1 g p t) (k : w1.grownBy w2 (some g)) (hg : g < w.heap.size) :
    Blk w2 w.heap.size t #[.int .i64 p.peer, .int .i64 p.lane, .int .i64 p.size, .int .i64 p.id] ∧ Blk w2 (w.heap.size + 1) t #[.int .i64 0, .int .i64 0, .int .i64 0, .int .i64 0] ∧ w.grownBy w2 (some g) ∧ w.heap.size + 1 < w2.heap.size :=
  ⟨blk_grown h.1 k (by omega), blk_grown h.2.1 k (by omega), h.2.2.1.trans k, Nat.lt_of_lt_of_le h.2.2.2 k.size⟩
set_option maxRecDepth 100000 in
set_option maxHeartbeats 2000000 in
theorem l1Wrong_any (g q : Nat) (p : Pkt) (w : World) (h : RdAt w g q) (hq : q ≤ 900000) :
    Calls Tryd.prog 29 #[.pointer (some ⟨g, 0, none⟩), .agg #[.int .i64 p.peer, .int .i64 p.lane, .int .i64 p.size, .int .i64 p.id]] w (PktPost w g (q + 2) false) := by
  have hg := rd_lt h
  have hg' : g < w.heap.size + 1 := by omega
  go_enter Tryd.func29, Tryd.ntmps29
  go_wp2_with fail
  refine (pick_any g q _ _ (rd_alloc (rd_alloc h _) _) (by omega) (by omega)).mono ?_
  rintro e w1 ⟨k, rfl, hk, hgr, hrd⟩
  have K1 := wrong_first hg hgr
  clear hgr h
  have K := Lib.hid K1
  have c0 : w1.cell? ⟨w.heap.size, 0, none⟩ = some (.int .i64 p.peer) := blk_cell K1.1 0
  have c1 : w1.cell? ⟨w.heap.size, 1, none⟩ = some (.int .i64 p.lane) := blk_cell K1.1 1
  have c2 : w1.cell? ⟨w.heap.size, 2, none⟩ = some (.int .i64 p.size) := blk_cell K1.1 2
  have c3 : w1.cell? ⟨w.heap.size, 3, none⟩ = some (.int .i64 p.id) := blk_cell K1.1 3
  have d0 : w1.cell? ⟨w.heap.size + 1, 0, none⟩ = some (.int .i64 0) := blk_cell K1.2.1 0
  have d1 : w1.cell? ⟨w.heap.size + 1, 1, none⟩ = some (.int .i64 0) := blk_cell K1.2.1 1
  have d2 : w1.cell? ⟨w.heap.size + 1, 2, none⟩ = some (.int .i64 0) := blk_cell K1.2.1 2
  have d3 : w1.cell? ⟨w.heap.size + 1, 3, none⟩ = some (.int .i64 0) := blk_cell K1.2.1 3
  have e0 := blk_free K1.1 0
  have f0 := blk_free K1.2.1 0
  have e1 := blk_free K1.1 1
  have f1 := blk_free K1.2.1 1
  have e2 := blk_free K1.1 2
  have f2 := blk_free K1.2.1 2
  have e3 := blk_free K1.1 3
  have f3 := blk_free K1.2.1 3
  clear K1
  go_wp2_with fail
  · refine (num_lit g _ _ _ _ _ [-1, 8] _ hrd (by omega) (by simp) (by decide) rfl).mono ?_
    rintro e w2 ⟨x, hx, rfl, hg2, hr2⟩
    have K2 := wrong_next K.out hg2 hg
    clear hx hg2
    have G2 := Lib.hid K2.2.2
    have c0 : w2.cell? ⟨w.heap.size, 0, none⟩ = some (.int .i64 p.peer) := blk_cell K2.1 0
    have c1 : w2.cell? ⟨w.heap.size, 1, none⟩ = some (.int .i64 p.lane) := blk_cell K2.1 1
    have c2 : w2.cell? ⟨w.heap.size, 2, none⟩ = some (.int .i64 p.size) := blk_cell K2.1 2
    have c3 : w2.cell? ⟨w.heap.size, 3, none⟩ = some (.int .i64 p.id) := blk_cell K2.1 3
    have d0 : w2.cell? ⟨w.heap.size + 1, 0, none⟩ = some (.int .i64 0) := blk_cell K2.2.1 0
    have d1 : w2.cell? ⟨w.heap.size + 1, 1, none⟩ = some (.int .i64 0) := blk_cell K2.2.1 1
    have d2 : w2.cell? ⟨w.heap.size + 1, 2, none⟩ = some (.int .i64 0) := blk_cell K2.2.1 2
    have d3 : w2.cell? ⟨w.heap.size + 1, 3, none⟩ = some (.int .i64 0) := blk_cell K2.2.1 3
    have e0 := blk_free K2.1 0
    have f0 := blk_free K2.2.1 0
    have e1 := blk_free K2.1 1
    have f1 := blk_free K2.2.1 1
    have e2 := blk_free K2.1 2
    have f2 := blk_free K2.2.1 2
    have e3 := blk_free K2.1 3
    have f3 := blk_free K2.2.1 3
    clear K2
    go_wp2
    refine bodyPost_ret (v := .agg #[.int .i64 x, .int .i64 p.lane, .int .i64 p.size, .int .i64 p.id]) (by simp [results, Tryd.results29, go_sem, d0, d1, d2, d3]) rfl ⟨⟨x, p.lane, p.size, p.id⟩, rfl, (fun h => by cases h), ?_, ?_⟩
    · exact g_set (g_set (g_set (g_set (g_set G2.out.1 (.inr (Nat.le_refl _)) _) (.inr (Nat.le_succ _)) _) (.inr (Nat.le_succ _)) _) (.inr (Nat.le_succ _)) _) (.inr (Nat.le_succ _)) _
    · exact rd_set (rd_set (rd_set (rd_set (rd_set hr2 hg _) hg' _) hg' _) hg' _) hg' _
  · refine (num_lit g _ _ _ _ _ [0, 101, -5] _ hrd (by omega) (by simp) (by decide) rfl).mono ?_
    rintro e w2 ⟨x, hx, rfl, hg2, hr2⟩
    have K2 := wrong_next K.out hg2 hg
    clear hx hg2
    have G2 := Lib.hid K2.2.2
    have c0 : w2.cell? ⟨w.heap.size, 0, none⟩ = some (.int .i64 p.peer) := blk_cell K2.1 0
    have c1 : w2.cell? ⟨w.heap.size, 1, none⟩ = some (.int .i64 p.lane) := blk_cell K2.1 1
    have c2 : w2.cell? ⟨w.heap.size, 2, none⟩ = some (.int .i64 p.size) := blk_cell K2.1 2
    have c3 : w2.cell? ⟨w.heap.size, 3, none⟩ = some (.int .i64 p.id) := blk_cell K2.1 3
    have d0 : w2.cell? ⟨w.heap.size + 1, 0, none⟩ = some (.int .i64 0) := blk_cell K2.2.1 0
    have d1 : w2.cell? ⟨w.heap.size + 1, 1, none⟩ = some (.int .i64 0) := blk_cell K2.2.1 1
    have d2 : w2.cell? ⟨w.heap.size + 1, 2, none⟩ = some (.int .i64 0) := blk_cell K2.2.1 2
    have d3 : w2.cell? ⟨w.heap.size + 1, 3, none⟩ = some (.int .i64 0) := blk_cell K2.2.1 3
    have e0 := blk_free K2.1 0
    have f0 := blk_free K2.2.1 0
    have e1 := blk_free K2.1 1
    have f1 := blk_free K2.2.1 1
    have e2 := blk_free K2.1 2
    have f2 := blk_free K2.2.1 2
    have e3 := blk_free K2.1 3
    have f3 := blk_free K2.2.1 3
    clear K2
    go_wp2
    refine bodyPost_ret (v := .agg #[.int .i64 p.peer, .int .i64 p.lane, .int .i64 x, .int .i64 p.id]) (by simp [results, Tryd.results29, go_sem, d0, d1, d2, d3]) rfl ⟨⟨p.peer, p.lane, x, p.id⟩, rfl, (fun h => by cases h), ?_, ?_⟩
    · exact g_set (g_set (g_set (g_set (g_set G2.out.1 (.inr (Nat.le_refl _)) _) (.inr (Nat.le_succ _)) _) (.inr (Nat.le_succ _)) _) (.inr (Nat.le_succ _)) _) (.inr (Nat.le_succ _)) _
    · exact rd_set (rd_set (rd_set (rd_set (rd_set hr2 hg _) hg' _) hg' _) hg' _) hg' _
  · refine (num_lit g _ _ _ _ _ [4, -1] _ hrd (by omega) (by simp) (by decide) rfl).mono ?_
    rintro e w2 ⟨x, hx, rfl, hg2, hr2⟩
    have K2 := wrong_next K.out hg2 hg
    clear hx hg2
    have G2 := Lib.hid K2.2.2
    have c0 : w2.cell? ⟨w.heap.size, 0, none⟩ = some (.int .i64 p.peer) := blk_cell K2.1 0
    have c1 : w2.cell? ⟨w.heap.size, 1, none⟩ = some (.int .i64 p.lane) := blk_cell K2.1 1
    have c2 : w2.cell? ⟨w.heap.size, 2, none⟩ = some (.int .i64 p.size) := blk_cell K2.1 2
    have c3 : w2.cell? ⟨w.heap.size, 3, none⟩ = some (.int .i64 p.id) := blk_cell K2.1 3
    have d0 : w2.cell? ⟨w.heap.size + 1, 0, none⟩ = some (.int .i64 0) := blk_cell K2.2.1 0
    have d1 : w2.cell? ⟨w.heap.size + 1, 1, none⟩ = some (.int .i64 0) := blk_cell K2.2.1 1
    have d2 : w2.cell? ⟨w.heap.size + 1, 2, none⟩ = some (.int .i64 0) := blk_cell K2.2.1 2
    have d3 : w2.cell? ⟨w.heap.size + 1, 3, none⟩ = some (.int .i64 0) := blk_cell K2.2.1 3
    have e0 := blk_free K2.1 0
    have f0 := blk_free K2.2.1 0
    have e1 := blk_free K2.1 1
    have f1 := blk_free K2.2.1 1
    have e2 := blk_free K2.1 2
    have f2 := blk_free K2.2.1 2
    have e3 := blk_free K2.1 3
    have f3 := blk_free K2.2.1 3
    clear K2
    go_wp2
    refine bodyPost_ret (v := .agg #[.int .i64 p.peer, .int .i64 x, .int .i64 p.size, .int .i64 p.id]) (by simp [results, Tryd.results29, go_sem, d0, d1, d2, d3]) rfl ⟨⟨p.peer, x, p.size, p.id⟩, rfl, (fun h => by cases h), ?_, ?_⟩
    · exact g_set (g_set (g_set (g_set (g_set G2.out.1 (.inr (Nat.le_refl _)) _) (.inr (Nat.le_succ _)) _) (.inr (Nat.le_succ _)) _) (.inr (Nat.le_succ _)) _) (.inr (Nat.le_succ _)) _
    · exact rd_set (rd_set (rd_set (rd_set (rd_set hr2 hg _) hg' _) hg' _) hg' _) hg' _
  · refine (num_lit g _ _ _ _ _ [-1, 10000] _ hrd (by omega) (by simp) (by decide) rfl).mono ?_
    rintro e w2 ⟨x, hx, rfl, hg2, hr2⟩
    have K2 := wrong_next K.out hg2 hg
    clear hx hg2
    have G2 := Lib.hid K2.2.2
    have c0 : w2.cell? ⟨w.heap.size, 0, none⟩ = some (.int .i64 p.peer) := blk_cell K2.1 0
    have c1 : w2.cell? ⟨w.heap.size, 1, none⟩ = some (.int .i64 p.lane) := blk_cell K2.1 1
    have c2 : w2.cell? ⟨w.heap.size, 2, none⟩ = some (.int .i64 p.size) := blk_cell K2.1 2
    have c3 : w2.cell? ⟨w.heap.size, 3, none⟩ = some (.int .i64 p.id) := blk_cell K2.1 3
    have d0 : w2.cell? ⟨w.heap.size + 1, 0, none⟩ = some (.int .i64 0) := blk_cell K2.2.1 0
    have d1 : w2.cell? ⟨w.heap.size + 1, 1, none⟩ = some (.int .i64 0) := blk_cell K2.2.1 1
    have d2 : w2.cell? ⟨w.heap.size + 1, 2, none⟩ = some (.int .i64 0) := blk_cell K2.2.1 2
    have d3 : w2.cell? ⟨w.heap.size + 1, 3, none⟩ = some (.int .i64 0) := blk_cell K2.2.1 3
    have e0 := blk_free K2.1 0
    have f0 := blk_free K2.2.1 0
    have e1 := blk_free K2.1 1
    have f1 := blk_free K2.2.1 1
    have e2 := blk_free K2.1 2
    have f2 := blk_free K2.2.1 2
    have e3 := blk_free K2.1 3
    have f3 := blk_free K2.2.1 3
    clear K2
    go_wp2
    refine bodyPost_ret (v := .agg #[.int .i64 p.peer, .int .i64 p.lane, .int .i64 p.size, .int .i64 x]) (by simp [results, Tryd.results29, go_sem, d0, d1, d2, d3]) rfl ⟨⟨p.peer, p.lane, p.size, x⟩, rfl, (fun h => by cases h), ?_, ?_⟩
    · exact g_set (g_set (g_set (g_set (g_set G2.out.1 (.inr (Nat.le_refl _)) _) (.inr (Nat.le_succ _)) _) (.inr (Nat.le_succ _)) _) (.inr (Nat.le_succ _)) _) (.inr (Nat.le_succ _)) _
    · exact rd_set (rd_set (rd_set (rd_set (rd_set hr2 hg _) hg' _) hg' _) hg' _) hg' _
  · refine bodyPost_ret (v := .agg #[.int .i64 p.peer, .int .i64 p.lane, .int .i64 p.size, .int .i64 p.id]) (by simp [results, Tryd.results29, go_sem, d0, d1, d2, d3]) rfl ⟨p, rfl, (fun h => by cases h), ?_, ?_⟩
    · exact g_set (g_set (g_set (g_set K.out.2.2.1 (.inr (Nat.le_succ _)) _) (.inr (Nat.le_succ _)) _) (.inr (Nat.le_succ _)) _) (.inr (Nat.le_succ _)) _
    · exact rd_more (rd_set (rd_set (rd_set (rd_set hrd hg' _) hg' _) hg' _) hg' _) (by omega)
end Go.Proofs.YtaccbmgbkalknabDoor
