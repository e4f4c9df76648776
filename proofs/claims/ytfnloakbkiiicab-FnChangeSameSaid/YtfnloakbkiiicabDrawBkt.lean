/-
  The draws of buckets: what they return, whatever the bytes. Conditions: the source is as open leaves it, its counter is small.
-/
import Derived.Test.YtfnloakbkiiicabDraw
import Derived.Deep.RegionHeld3
import Derived.Deep.RegionWith
namespace Go.Proofs.Ytfnloakbkiiicab
open Go.RowKit

def BktPost (w : World) (g q : Nat) (e : Ending) (w' : World) : Prop :=
  ∃ r s l t : Int, e = .returned (.agg #[.int .i64 r, .int .i64 s, .int .i64 l, .int .i64 t]) ∧ w.grownBy w' (some g) ∧ RdAt w' g q
def BktPostT (w : World) (g q : Nat) (e : Ending) (w' : World) : Prop :=
  ∃ r s l t : Int, e = .returned (.agg #[.int .i64 r, .int .i64 s, .int .i64 l, .int .i64 t]) ∧ (0 ≤ t ∧ t ≤ 1000) ∧ w.grownBy w' (some g) ∧ RdAt w' g q
theorem burst_in {x : Int} (h : x ∈ [100, 50, 10, 1000, 1, 10000]) : 1 ≤ x ∧ x ≤ 10000 := by
  simp only [List.mem_cons, List.not_mem_nil, or_false] at h
  omega
theorem time_in {x : Int} (h : x ∈ [0, 5, 100, 1000]) : 0 ≤ x ∧ x ≤ 1000 := by
  simp only [List.mem_cons, List.not_mem_nil, or_false] at h
  omega
theorem draw_endB {w w1 w2 w3 w4 : World} {g : Nat} {o : Obj} (h1 : (w.alloc o).grownBy w1 (some g)) (h2 : w1.grownBy w2 (some g)) (h3 : w2.grownBy w3 (some g)) (h4 : w3.grownBy w4 (some g)) (hg : g < w.heap.size) (t : TypeId) (cs : Array Value) (ho : o = .cells cs t) :
    (w.grownBy w4 (some g) ∧ w.heap.size < w4.heap.size) ∧ Blk w4 w.heap.size t cs := by
  subst ho
  have k := ((h1.trans h2).trans h3).trans h4
  have hb := blk_new w t cs
  refine ⟨⟨(World.grownBy_alloc w _ _).trans k, by have := k.size; simp at this; omega⟩, blk_grown hb k (by omega)⟩
set_option maxHeartbeats 1000000 in
theorem l2Draw_any (g q : Nat) (w : World) (h : RdAt w g q) (hq : q ≤ 900000) :
    Calls Try.prog 44 #[.pointer (some ⟨g, 0, none⟩)] w (BktPostT w g (q + 4)) := by
  have hg := rd_lt h
  go_enter Try.func44, Try.ntmps44
  go_wp2_with fail
  refine (num_lit g q _ 6 _ _ [100, 50, 10, 1000, 1, 10000] _ (rd_alloc h _) (by omega) (by simp) (by decide) rfl).mono ?_
  rintro e w1 ⟨s, hx1, rfl, hg1, hr1⟩
  have H1 := Lib.hid hg1
  have X1 := Lib.hid (burst_in hx1)
  obtain ⟨b1, b2⟩ := burst_in hx1
  clear hx1 hg1
  go_wp2_with fail
  refine (num_lit g _ _ 6 _ _ [10, 1, 0, 100, 7, 1000] _ hr1 (by omega) (by simp) (by decide) rfl).mono ?_
  rintro e w2 ⟨r, hx2, rfl, hg2, hr2⟩
  have H2 := Lib.hid hg2
  clear hg2 hr1 hx2
  go_wp2_with fail
  refine (num_lit g _ _ 5 _ _ [0, s, s / 2, 1, s - 1] _ hr2 (by omega) (by simp) (by simp) rfl).mono ?_
  rintro e w3 ⟨l, hx3, rfl, hg3, hr3⟩
  have H3 := Lib.hid hg3
  clear hg3 hr2 hx3
  go_wp2_with fail
  refine (num_lit g _ _ 4 _ _ [0, 5, 100, 1000] _ hr3 (by omega) (by simp) (by decide) rfl).mono ?_
  rintro e w4 ⟨t, hx4, rfl, hg4, hr4⟩
  have K := draw_endB H1.out H2.out H3.out hg4 hg _ _ rfl
  clear H1 H2 H3 hg4 hr3 h
  have X4 := Lib.hid (time_in hx4)
  clear hx4
  have E := Lib.hid (show Blk w4 (w.heap.size) 24 #[.int .i64 0, .int .i64 0, .int .i64 0, .int .i64 0] from (K.2))
  have Ec0 : World.cell? w4 ⟨w.heap.size, 0, none⟩ = some (.int .i64 0) := blk_cell E.out 0
  have Ef0 : World.frozen? w4 ⟨w.heap.size, 0, none⟩ = false := blk_free E.out 0
  have Ec1 : World.cell? w4 ⟨w.heap.size, 1, none⟩ = some (.int .i64 0) := blk_cell E.out 1
  have Ef1 : World.frozen? w4 ⟨w.heap.size, 1, none⟩ = false := blk_free E.out 1
  have Ec2 : World.cell? w4 ⟨w.heap.size, 2, none⟩ = some (.int .i64 0) := blk_cell E.out 2
  have Ef2 : World.frozen? w4 ⟨w.heap.size, 2, none⟩ = false := blk_free E.out 2
  have Ec3 : World.cell? w4 ⟨w.heap.size, 3, none⟩ = some (.int .i64 0) := blk_cell E.out 3
  have Ef3 : World.frozen? w4 ⟨w.heap.size, 3, none⟩ = false := blk_free E.out 3
  have K1 := Lib.hid K.1
  clear K
  go_wp2
  refine bodyPost_ret (v := .agg #[.int .i64 r, .int .i64 s, .int .i64 l, .int .i64 t]) (by simp [results, Try.results44, go_sem, Ec0, Ec1, Ec2, Ec3]) rfl ⟨r, s, l, t, rfl, X4.out, ?_, ?_⟩
  · exact g_set (g_set (g_set (g_set K1.out.1 (.inr (Nat.le_refl _)) _) (.inr (Nat.le_refl _)) _) (.inr (Nat.le_refl _)) _) (.inr (Nat.le_refl _)) _
  · exact rd_set (rd_set (rd_set (rd_set hr4 hg _) hg _) hg _) hg _
def TwiceB (w w' : World) (g : Nat) (r s l t : Int) : Prop :=
  Blk w' w.heap.size 24 #[.int .i64 r, .int .i64 s, .int .i64 l, .int .i64 t] ∧ Blk w' (w.heap.size + 1) 24 #[.int .i64 0, .int .i64 0, .int .i64 0, .int .i64 0] ∧ w.grownBy w' (some g) ∧ w.heap.size + 1 < w'.heap.size
theorem wrong_firstB {w w1 : World} {g : Nat} {r s l t : Int} (hg : g < w.heap.size) (h : ((w.alloc (.cells #[.int .i64 r, .int .i64 s, .int .i64 l, .int .i64 t] 24)).alloc (.cells #[.int .i64 0, .int .i64 0, .int .i64 0, .int .i64 0] 24)).grownBy w1 (some g)) : TwiceB w w1 g r s l t :=
  ⟨blk_grown (blk_alloc (blk_new w _ _) _) h (by omega), blk_grown (blk_new2 w _ _ _) h (by omega), (g_alloc (g_alloc (g_refl _ _) _) _).trans h, by have := h.size; simp at this; omega⟩
theorem wrong_nextB {w w1 w2 : World} {g : Nat} {r s l t : Int} (h : TwiceB w w1 g r s l t) (k : w1.grownBy w2 (some g)) (hg : g < w.heap.size) : TwiceB w w2 g r s l t :=
  ⟨blk_grown h.1 k (by omega), blk_grown h.2.1 k (by omega), h.2.2.1.trans k, Nat.lt_of_lt_of_le h.2.2.2 k.size⟩
set_option maxHeartbeats 2000000 in
theorem l2Wrong_any (g q : Nat) (r s l t : Int) (w : World) (h : RdAt w g q) (hq : q ≤ 900000) :
    Calls Try.prog 45 #[.pointer (some ⟨g, 0, none⟩), .agg #[.int .i64 r, .int .i64 s, .int .i64 l, .int .i64 t]] w (BktPost w g (q + 2)) := by
  have hg := rd_lt h
  have hg' : g < w.heap.size + 1 := by omega
  go_enter Try.func45, Try.ntmps45
  go_wp2_with fail
  refine (pick_any g q _ _ (rd_alloc (rd_alloc h _) _) (by omega) (by omega)).mono ?_
  rintro e w1 ⟨k, rfl, hk, hgr, hrd⟩
  have K := Lib.hid (wrong_firstB hg hgr)
  clear hgr h
  have D := Lib.hid (show Blk w1 (w.heap.size) 24 #[.int .i64 r, .int .i64 s, .int .i64 l, .int .i64 t] from (K.out.1))
  have Dc0 : World.cell? w1 ⟨w.heap.size, 0, none⟩ = some (.int .i64 r) := blk_cell D.out 0
  have Df0 : World.frozen? w1 ⟨w.heap.size, 0, none⟩ = false := blk_free D.out 0
  have Dc1 : World.cell? w1 ⟨w.heap.size, 1, none⟩ = some (.int .i64 s) := blk_cell D.out 1
  have Df1 : World.frozen? w1 ⟨w.heap.size, 1, none⟩ = false := blk_free D.out 1
  have Dc2 : World.cell? w1 ⟨w.heap.size, 2, none⟩ = some (.int .i64 l) := blk_cell D.out 2
  have Df2 : World.frozen? w1 ⟨w.heap.size, 2, none⟩ = false := blk_free D.out 2
  have Dc3 : World.cell? w1 ⟨w.heap.size, 3, none⟩ = some (.int .i64 t) := blk_cell D.out 3
  have Df3 : World.frozen? w1 ⟨w.heap.size, 3, none⟩ = false := blk_free D.out 3
  have E := Lib.hid (show Blk w1 ((w.heap.size + 1)) 24 #[.int .i64 0, .int .i64 0, .int .i64 0, .int .i64 0] from (K.out.2.1))
  have Ec0 : World.cell? w1 ⟨(w.heap.size + 1), 0, none⟩ = some (.int .i64 0) := blk_cell E.out 0
  have Ef0 : World.frozen? w1 ⟨(w.heap.size + 1), 0, none⟩ = false := blk_free E.out 0
  have Ec1 : World.cell? w1 ⟨(w.heap.size + 1), 1, none⟩ = some (.int .i64 0) := blk_cell E.out 1
  have Ef1 : World.frozen? w1 ⟨(w.heap.size + 1), 1, none⟩ = false := blk_free E.out 1
  have Ec2 : World.cell? w1 ⟨(w.heap.size + 1), 2, none⟩ = some (.int .i64 0) := blk_cell E.out 2
  have Ef2 : World.frozen? w1 ⟨(w.heap.size + 1), 2, none⟩ = false := blk_free E.out 2
  have Ec3 : World.cell? w1 ⟨(w.heap.size + 1), 3, none⟩ = some (.int .i64 0) := blk_cell E.out 3
  have Ef3 : World.frozen? w1 ⟨(w.heap.size + 1), 3, none⟩ = false := blk_free E.out 3
  clear D E
  go_wp2_with fail
  · refine (num_lit g _ _ 2 _ _ [-1, 1001] _ hrd (by omega) (by simp) (by decide) rfl).mono ?_
    rintro e w2 ⟨x, hx, rfl, hg2, hr2⟩
    have K2 := Lib.hid (wrong_nextB K.out hg2 hg)
    clear hx hg2
    clear Dc0 Dc1 Dc2 Dc3 Df0 Df1 Df2 Df3 Ec0 Ec1 Ec2 Ec3 Ef0 Ef1 Ef2 Ef3
    have D := Lib.hid (show Blk w2 (w.heap.size) 24 #[.int .i64 r, .int .i64 s, .int .i64 l, .int .i64 t] from (K2.out.1))
    have Dc0 : World.cell? w2 ⟨w.heap.size, 0, none⟩ = some (.int .i64 r) := blk_cell D.out 0
    have Df0 : World.frozen? w2 ⟨w.heap.size, 0, none⟩ = false := blk_free D.out 0
    have Dc1 : World.cell? w2 ⟨w.heap.size, 1, none⟩ = some (.int .i64 s) := blk_cell D.out 1
    have Df1 : World.frozen? w2 ⟨w.heap.size, 1, none⟩ = false := blk_free D.out 1
    have Dc2 : World.cell? w2 ⟨w.heap.size, 2, none⟩ = some (.int .i64 l) := blk_cell D.out 2
    have Df2 : World.frozen? w2 ⟨w.heap.size, 2, none⟩ = false := blk_free D.out 2
    have Dc3 : World.cell? w2 ⟨w.heap.size, 3, none⟩ = some (.int .i64 t) := blk_cell D.out 3
    have Df3 : World.frozen? w2 ⟨w.heap.size, 3, none⟩ = false := blk_free D.out 3
    have E := Lib.hid (show Blk w2 ((w.heap.size + 1)) 24 #[.int .i64 0, .int .i64 0, .int .i64 0, .int .i64 0] from (K2.out.2.1))
    have Ec0 : World.cell? w2 ⟨(w.heap.size + 1), 0, none⟩ = some (.int .i64 0) := blk_cell E.out 0
    have Ef0 : World.frozen? w2 ⟨(w.heap.size + 1), 0, none⟩ = false := blk_free E.out 0
    have Ec1 : World.cell? w2 ⟨(w.heap.size + 1), 1, none⟩ = some (.int .i64 0) := blk_cell E.out 1
    have Ef1 : World.frozen? w2 ⟨(w.heap.size + 1), 1, none⟩ = false := blk_free E.out 1
    have Ec2 : World.cell? w2 ⟨(w.heap.size + 1), 2, none⟩ = some (.int .i64 0) := blk_cell E.out 2
    have Ef2 : World.frozen? w2 ⟨(w.heap.size + 1), 2, none⟩ = false := blk_free E.out 2
    have Ec3 : World.cell? w2 ⟨(w.heap.size + 1), 3, none⟩ = some (.int .i64 0) := blk_cell E.out 3
    have Ef3 : World.frozen? w2 ⟨(w.heap.size + 1), 3, none⟩ = false := blk_free E.out 3
    clear D E
    go_wp2
    refine bodyPost_ret (v := .agg #[.int .i64 x, .int .i64 s, .int .i64 l, .int .i64 t]) (by simp [results, Try.results45, go_sem, Ec0, Ec1, Ec2, Ec3]) rfl ⟨x, s, l, t, rfl, ?_, ?_⟩
    · exact g_set (g_set (g_set (g_set (g_set K2.out.2.2.1 (.inr (Nat.le_refl _)) _) (.inr (Nat.le_succ _)) _) (.inr (Nat.le_succ _)) _) (.inr (Nat.le_succ _)) _) (.inr (Nat.le_succ _)) _
    · exact rd_set (rd_set (rd_set (rd_set (rd_set hr2 hg _) hg' _) hg' _) hg' _) hg' _
  · refine (num_lit g _ _ 2 _ _ [-1, 10001] _ hrd (by omega) (by simp) (by decide) rfl).mono ?_
    rintro e w2 ⟨x, hx, rfl, hg2, hr2⟩
    have K2 := Lib.hid (wrong_nextB K.out hg2 hg)
    clear hx hg2
    clear Dc0 Dc1 Dc2 Dc3 Df0 Df1 Df2 Df3 Ec0 Ec1 Ec2 Ec3 Ef0 Ef1 Ef2 Ef3
    have D := Lib.hid (show Blk w2 (w.heap.size) 24 #[.int .i64 r, .int .i64 s, .int .i64 l, .int .i64 t] from (K2.out.1))
    have Dc0 : World.cell? w2 ⟨w.heap.size, 0, none⟩ = some (.int .i64 r) := blk_cell D.out 0
    have Df0 : World.frozen? w2 ⟨w.heap.size, 0, none⟩ = false := blk_free D.out 0
    have Dc1 : World.cell? w2 ⟨w.heap.size, 1, none⟩ = some (.int .i64 s) := blk_cell D.out 1
    have Df1 : World.frozen? w2 ⟨w.heap.size, 1, none⟩ = false := blk_free D.out 1
    have Dc2 : World.cell? w2 ⟨w.heap.size, 2, none⟩ = some (.int .i64 l) := blk_cell D.out 2
    have Df2 : World.frozen? w2 ⟨w.heap.size, 2, none⟩ = false := blk_free D.out 2
    have Dc3 : World.cell? w2 ⟨w.heap.size, 3, none⟩ = some (.int .i64 t) := blk_cell D.out 3
    have Df3 : World.frozen? w2 ⟨w.heap.size, 3, none⟩ = false := blk_free D.out 3
    have E := Lib.hid (show Blk w2 ((w.heap.size + 1)) 24 #[.int .i64 0, .int .i64 0, .int .i64 0, .int .i64 0] from (K2.out.2.1))
    have Ec0 : World.cell? w2 ⟨(w.heap.size + 1), 0, none⟩ = some (.int .i64 0) := blk_cell E.out 0
    have Ef0 : World.frozen? w2 ⟨(w.heap.size + 1), 0, none⟩ = false := blk_free E.out 0
    have Ec1 : World.cell? w2 ⟨(w.heap.size + 1), 1, none⟩ = some (.int .i64 0) := blk_cell E.out 1
    have Ef1 : World.frozen? w2 ⟨(w.heap.size + 1), 1, none⟩ = false := blk_free E.out 1
    have Ec2 : World.cell? w2 ⟨(w.heap.size + 1), 2, none⟩ = some (.int .i64 0) := blk_cell E.out 2
    have Ef2 : World.frozen? w2 ⟨(w.heap.size + 1), 2, none⟩ = false := blk_free E.out 2
    have Ec3 : World.cell? w2 ⟨(w.heap.size + 1), 3, none⟩ = some (.int .i64 0) := blk_cell E.out 3
    have Ef3 : World.frozen? w2 ⟨(w.heap.size + 1), 3, none⟩ = false := blk_free E.out 3
    clear D E
    go_wp2
    refine bodyPost_ret (v := .agg #[.int .i64 r, .int .i64 s, .int .i64 x, .int .i64 t]) (by simp [results, Try.results45, go_sem, Ec0, Ec1, Ec2, Ec3]) rfl ⟨r, s, x, t, rfl, ?_, ?_⟩
    · exact g_set (g_set (g_set (g_set (g_set K2.out.2.2.1 (.inr (Nat.le_refl _)) _) (.inr (Nat.le_succ _)) _) (.inr (Nat.le_succ _)) _) (.inr (Nat.le_succ _)) _) (.inr (Nat.le_succ _)) _
    · exact rd_set (rd_set (rd_set (rd_set (rd_set hr2 hg _) hg' _) hg' _) hg' _) hg' _
  · refine (num_lit g _ _ 2 _ _ [0, 10001] _ hrd (by omega) (by simp) (by decide) rfl).mono ?_
    rintro e w2 ⟨x, hx, rfl, hg2, hr2⟩
    have K2 := Lib.hid (wrong_nextB K.out hg2 hg)
    clear hx hg2
    clear Dc0 Dc1 Dc2 Dc3 Df0 Df1 Df2 Df3 Ec0 Ec1 Ec2 Ec3 Ef0 Ef1 Ef2 Ef3
    have D := Lib.hid (show Blk w2 (w.heap.size) 24 #[.int .i64 r, .int .i64 s, .int .i64 l, .int .i64 t] from (K2.out.1))
    have Dc0 : World.cell? w2 ⟨w.heap.size, 0, none⟩ = some (.int .i64 r) := blk_cell D.out 0
    have Df0 : World.frozen? w2 ⟨w.heap.size, 0, none⟩ = false := blk_free D.out 0
    have Dc1 : World.cell? w2 ⟨w.heap.size, 1, none⟩ = some (.int .i64 s) := blk_cell D.out 1
    have Df1 : World.frozen? w2 ⟨w.heap.size, 1, none⟩ = false := blk_free D.out 1
    have Dc2 : World.cell? w2 ⟨w.heap.size, 2, none⟩ = some (.int .i64 l) := blk_cell D.out 2
    have Df2 : World.frozen? w2 ⟨w.heap.size, 2, none⟩ = false := blk_free D.out 2
    have Dc3 : World.cell? w2 ⟨w.heap.size, 3, none⟩ = some (.int .i64 t) := blk_cell D.out 3
    have Df3 : World.frozen? w2 ⟨w.heap.size, 3, none⟩ = false := blk_free D.out 3
    have E := Lib.hid (show Blk w2 ((w.heap.size + 1)) 24 #[.int .i64 0, .int .i64 0, .int .i64 0, .int .i64 0] from (K2.out.2.1))
    have Ec0 : World.cell? w2 ⟨(w.heap.size + 1), 0, none⟩ = some (.int .i64 0) := blk_cell E.out 0
    have Ef0 : World.frozen? w2 ⟨(w.heap.size + 1), 0, none⟩ = false := blk_free E.out 0
    have Ec1 : World.cell? w2 ⟨(w.heap.size + 1), 1, none⟩ = some (.int .i64 0) := blk_cell E.out 1
    have Ef1 : World.frozen? w2 ⟨(w.heap.size + 1), 1, none⟩ = false := blk_free E.out 1
    have Ec2 : World.cell? w2 ⟨(w.heap.size + 1), 2, none⟩ = some (.int .i64 0) := blk_cell E.out 2
    have Ef2 : World.frozen? w2 ⟨(w.heap.size + 1), 2, none⟩ = false := blk_free E.out 2
    have Ec3 : World.cell? w2 ⟨(w.heap.size + 1), 3, none⟩ = some (.int .i64 0) := blk_cell E.out 3
    have Ef3 : World.frozen? w2 ⟨(w.heap.size + 1), 3, none⟩ = false := blk_free E.out 3
    clear D E
    go_wp2
    refine bodyPost_ret (v := .agg #[.int .i64 r, .int .i64 x, .int .i64 l, .int .i64 t]) (by simp [results, Try.results45, go_sem, Ec0, Ec1, Ec2, Ec3]) rfl ⟨r, x, l, t, rfl, ?_, ?_⟩
    · exact g_set (g_set (g_set (g_set (g_set K2.out.2.2.1 (.inr (Nat.le_refl _)) _) (.inr (Nat.le_succ _)) _) (.inr (Nat.le_succ _)) _) (.inr (Nat.le_succ _)) _) (.inr (Nat.le_succ _)) _
    · exact rd_set (rd_set (rd_set (rd_set (rd_set hr2 hg _) hg' _) hg' _) hg' _) hg' _
  · refine (num_lit g _ _ 2 _ _ [-1, 1000001] _ hrd (by omega) (by simp) (by decide) rfl).mono ?_
    rintro e w2 ⟨x, hx, rfl, hg2, hr2⟩
    have K2 := Lib.hid (wrong_nextB K.out hg2 hg)
    clear hx hg2
    clear Dc0 Dc1 Dc2 Dc3 Df0 Df1 Df2 Df3 Ec0 Ec1 Ec2 Ec3 Ef0 Ef1 Ef2 Ef3
    have D := Lib.hid (show Blk w2 (w.heap.size) 24 #[.int .i64 r, .int .i64 s, .int .i64 l, .int .i64 t] from (K2.out.1))
    have Dc0 : World.cell? w2 ⟨w.heap.size, 0, none⟩ = some (.int .i64 r) := blk_cell D.out 0
    have Df0 : World.frozen? w2 ⟨w.heap.size, 0, none⟩ = false := blk_free D.out 0
    have Dc1 : World.cell? w2 ⟨w.heap.size, 1, none⟩ = some (.int .i64 s) := blk_cell D.out 1
    have Df1 : World.frozen? w2 ⟨w.heap.size, 1, none⟩ = false := blk_free D.out 1
    have Dc2 : World.cell? w2 ⟨w.heap.size, 2, none⟩ = some (.int .i64 l) := blk_cell D.out 2
    have Df2 : World.frozen? w2 ⟨w.heap.size, 2, none⟩ = false := blk_free D.out 2
    have Dc3 : World.cell? w2 ⟨w.heap.size, 3, none⟩ = some (.int .i64 t) := blk_cell D.out 3
    have Df3 : World.frozen? w2 ⟨w.heap.size, 3, none⟩ = false := blk_free D.out 3
    have E := Lib.hid (show Blk w2 ((w.heap.size + 1)) 24 #[.int .i64 0, .int .i64 0, .int .i64 0, .int .i64 0] from (K2.out.2.1))
    have Ec0 : World.cell? w2 ⟨(w.heap.size + 1), 0, none⟩ = some (.int .i64 0) := blk_cell E.out 0
    have Ef0 : World.frozen? w2 ⟨(w.heap.size + 1), 0, none⟩ = false := blk_free E.out 0
    have Ec1 : World.cell? w2 ⟨(w.heap.size + 1), 1, none⟩ = some (.int .i64 0) := blk_cell E.out 1
    have Ef1 : World.frozen? w2 ⟨(w.heap.size + 1), 1, none⟩ = false := blk_free E.out 1
    have Ec2 : World.cell? w2 ⟨(w.heap.size + 1), 2, none⟩ = some (.int .i64 0) := blk_cell E.out 2
    have Ef2 : World.frozen? w2 ⟨(w.heap.size + 1), 2, none⟩ = false := blk_free E.out 2
    have Ec3 : World.cell? w2 ⟨(w.heap.size + 1), 3, none⟩ = some (.int .i64 0) := blk_cell E.out 3
    have Ef3 : World.frozen? w2 ⟨(w.heap.size + 1), 3, none⟩ = false := blk_free E.out 3
    clear D E
    go_wp2
    refine bodyPost_ret (v := .agg #[.int .i64 r, .int .i64 s, .int .i64 l, .int .i64 x]) (by simp [results, Try.results45, go_sem, Ec0, Ec1, Ec2, Ec3]) rfl ⟨r, s, l, x, rfl, ?_, ?_⟩
    · exact g_set (g_set (g_set (g_set (g_set K2.out.2.2.1 (.inr (Nat.le_refl _)) _) (.inr (Nat.le_succ _)) _) (.inr (Nat.le_succ _)) _) (.inr (Nat.le_succ _)) _) (.inr (Nat.le_succ _)) _
    · exact rd_set (rd_set (rd_set (rd_set (rd_set hr2 hg _) hg' _) hg' _) hg' _) hg' _
  · refine bodyPost_ret (v := .agg #[.int .i64 r, .int .i64 s, .int .i64 l, .int .i64 t]) (by simp [results, Try.results45, go_sem, Ec0, Ec1, Ec2, Ec3]) rfl ⟨r, s, l, t, rfl, ?_, ?_⟩
    · exact g_set (g_set (g_set (g_set K.out.2.2.1 (.inr (Nat.le_succ _)) _) (.inr (Nat.le_succ _)) _) (.inr (Nat.le_succ _)) _) (.inr (Nat.le_succ _)) _
    · exact rd_more (rd_set (rd_set (rd_set (rd_set hrd hg' _) hg' _) hg' _) hg' _) (by omega)
theorem num_blk (g q b n : Nat) (t : TypeId) (cs : Array Value) (xs : List Int) (w : World) (h : RdAt w g q) (hB : Blk w b t cs) (hq : q ≤ 1000000) (hgb : g < b) (hx : xs.length = n ∧ 0 < n) (hcs : cs.toList = xs.map (Value.int .i64)) :
    Calls Try.prog 39 #[.pointer (some ⟨g, 0, none⟩), .slice (some ⟨b, 0, none⟩) n n] w (NumPost w g (q + 1) xs) := by
  obtain ⟨rfl, hx⟩ := hx
  exact num_any g q b _ xs w h hq hx hgb (fun k x hk => by rw [blk_cell hB, ← Array.getElem?_toList, hcs, List.getElem?_map, hk]; rfl) (blk_lt hB)
theorem g_undrewB {w w' : World} {r : Option Nat} (h : w.drew.grownBy w' r) : w.grownBy w' r := ⟨h.os, h.tape, h.output, h.size, h.block⟩
theorem g_alloc2 {w w' : World} {r : Option Nat} {o o2 : Obj} (h : ((w.alloc o).alloc o2).drew.grownBy w' r) : w.drew.grownBy w' r := ⟨h.os, h.tape, h.output, by have := h.size; simp at this ⊢; omega, fun i hi hne => by
  have h1 := h.block i (by simp at hi ⊢; omega) hne
  have h2 : ((w.alloc o).alloc o2).drew.heap[i]? = w.drew.heap[i]? := (Below.heap_alloc (w.alloc o) o2 i (by simp at hi ⊢; omega)).trans (Below.heap_alloc w o i hi)
  exact h1.trans h2⟩
def CasePost (w : World) (e : Ending) (w' : World) : Prop :=
  ∃ r s l t n : Int, e = .returned (.tuple #[.agg #[.int .i64 r, .int .i64 s, .int .i64 l, .int .i64 t], .int .i64 n]) ∧ Below w.heap.size w w'
set_option maxHeartbeats 1000000 in
theorem l2Case_any (A : Option Addr) (n c : Nat) (w : World) (h : Bytes w A n c) :
    Calls Try.prog 37 #[.slice A n c] w (CasePost w) := by
  go_enter Try.func37, Try.ntmps37
  go_wp2_with fail
  refine (open_any A n c _ (bytes_below h (below_alloc (Below.refl _ _) _))).mono ?_
  rintro e w1 ⟨g, rfl, hg, hb, hr⟩
  have hg1 := rd_lt hr
  have HB := Lib.hid hb
  clear hb
  go_wp2_with fail
  refine (l2Draw_any g 0 _ hr (by omega)).mono ?_
  rintro e w2 ⟨r, s, l, t, rfl, ht, hgr2, hr2⟩
  have G2 := Lib.hid hgr2
  have hz2 := hgr2.size
  have hg2 := rd_lt hr2
  clear hgr2 hr
  have hr3 : RdAt (w2.alloc (.cells #[.int .i64 r, .int .i64 s, .int .i64 l, .int .i64 t] 24)) g 4 := rd_alloc hr2 _
  have hB3 : Blk (w2.alloc (.cells #[.int .i64 r, .int .i64 s, .int .i64 l, .int .i64 t] 24)) w2.heap.size 24 #[.int .i64 r, .int .i64 s, .int .i64 l, .int .i64 t] := blk_new _ _ _
  have HH := Lib.hid (And.intro hr3 hB3)
  clear hr3 hB3 hr2
  have d3 : (w2.alloc (.cells #[.int .i64 r, .int .i64 s, .int .i64 l, .int .i64 t] 24)).cell? ⟨w2.heap.size, 3, none⟩ = some (.int .i64 t) := blk_cell HH.out.2 3
  go_wp2_with fail
  have hr4 : RdAt (((w2.alloc (.cells #[.int .i64 r, .int .i64 s, .int .i64 l, .int .i64 t] 24)).alloc (.cells #[.int .i64 3, .int .i64 0, .int .i64 1, .int .i64 10, .int .i64 500, .int .i64 (-1)] 3)).drew) g 4 := rd_alloc HH.out.1 _
  have hB4 : Blk (((w2.alloc (.cells #[.int .i64 r, .int .i64 s, .int .i64 l, .int .i64 t] 24)).alloc (.cells #[.int .i64 3, .int .i64 0, .int .i64 1, .int .i64 10, .int .i64 500, .int .i64 (-1)] 3)).drew) w2.heap.size 24 #[.int .i64 r, .int .i64 s, .int .i64 l, .int .i64 t] := blk_alloc HH.out.2 _
  have hC4 : Blk (((w2.alloc (.cells #[.int .i64 r, .int .i64 s, .int .i64 l, .int .i64 t] 24)).alloc (.cells #[.int .i64 3, .int .i64 0, .int .i64 1, .int .i64 10, .int .i64 500, .int .i64 (-1)] 3)).drew) (w2.heap.size + 1) 3 #[.int .i64 3, .int .i64 0, .int .i64 1, .int .i64 10, .int .i64 500, .int .i64 (-1)] := blk_new2 _ _ _ _
  have HJ := Lib.hid (And.intro hr4 (And.intro hB4 hC4))
  clear hr4 hB4 hC4
  go_region_with (go_at_call 39; refine (num_blk g 4 (w2.heap.size + 1) 6 3 _ [3, 0, 1, 10, 500, -1] _ HJ.out.1 HJ.out.2.2 (by omega) (by omega) (by simp) rfl).mono ?_; rintro e w3 ⟨x, hx, rfl, hgr3, hr5⟩; have d4 : w3.cell? ⟨w2.heap.size, 3, none⟩ = some (.int .i64 t) := (blk_cell (blk_grown HJ.out.2.1 hgr3 (by omega)) 3))
  all_goals
    have J3 := Lib.hid (And.intro (G2.out.trans (g_undrewB (g_alloc2 hgr3))) (blk_grown HJ.out.2.1 hgr3 (by omega)))
    clear d3 d4 hgr3
    obtain ⟨m, hm⟩ : ∃ m : Int, m = IntKind.i64.wrap (t + x) := ⟨_, rfl⟩
    rw [← hm]
    clear hm hx
    have D := Lib.hid (show Blk w3 (w2.heap.size) 24 #[.int .i64 r, .int .i64 s, .int .i64 l, .int .i64 t] from (J3.out.2))
    have Dc0 : World.cell? w3 ⟨w2.heap.size, 0, none⟩ = some (.int .i64 r) := blk_cell D.out 0
    have Df0 : World.frozen? w3 ⟨w2.heap.size, 0, none⟩ = false := blk_free D.out 0
    have Dc1 : World.cell? w3 ⟨w2.heap.size, 1, none⟩ = some (.int .i64 s) := blk_cell D.out 1
    have Df1 : World.frozen? w3 ⟨w2.heap.size, 1, none⟩ = false := blk_free D.out 1
    have Dc2 : World.cell? w3 ⟨w2.heap.size, 2, none⟩ = some (.int .i64 l) := blk_cell D.out 2
    have Df2 : World.frozen? w3 ⟨w2.heap.size, 2, none⟩ = false := blk_free D.out 2
    have Dc3 : World.cell? w3 ⟨w2.heap.size, 3, none⟩ = some (.int .i64 t) := blk_cell D.out 3
    have Df3 : World.frozen? w3 ⟨w2.heap.size, 3, none⟩ = false := blk_free D.out 3
    go_wp2_with fail
    refine (l2Wrong_any g 5 r s l t _ hr5 (by omega)).mono ?_
    rintro e w4 ⟨r2, s2, l2, t2, rfl, hgr4, hr6⟩
    have hne : w.heap.size < g := by simp at hg; omega
    have G4 := Lib.hid (J3.out.1.trans hgr4)
    have E := Lib.hid (show Blk w4 (w.heap.size) 24 #[.int .i64 0, .int .i64 0, .int .i64 0, .int .i64 0] from (blk_grown (blk_below (blk_new w 24 #[.int .i64 0, .int .i64 0, .int .i64 0, .int .i64 0]) HB.out (by simp)) G4.out (by omega)))
    have Ec0 : World.cell? w4 ⟨w.heap.size, 0, none⟩ = some (.int .i64 0) := blk_cell E.out 0
    have Ef0 : World.frozen? w4 ⟨w.heap.size, 0, none⟩ = false := blk_free E.out 0
    have Ec1 : World.cell? w4 ⟨w.heap.size, 1, none⟩ = some (.int .i64 0) := blk_cell E.out 1
    have Ef1 : World.frozen? w4 ⟨w.heap.size, 1, none⟩ = false := blk_free E.out 1
    have Ec2 : World.cell? w4 ⟨w.heap.size, 2, none⟩ = some (.int .i64 0) := blk_cell E.out 2
    have Ef2 : World.frozen? w4 ⟨w.heap.size, 2, none⟩ = false := blk_free E.out 2
    have Ec3 : World.cell? w4 ⟨w.heap.size, 3, none⟩ = some (.int .i64 0) := blk_cell E.out 3
    have Ef3 : World.frozen? w4 ⟨w.heap.size, 3, none⟩ = false := blk_free E.out 3
    have BW := Lib.hid (below_grown (below_from (below_alloc (Below.refl w.heap.size w) (.cells #[.int .i64 0, .int .i64 0, .int .i64 0, .int .i64 0] 24)) HB.out (by simp)) (by have := HB.out.size; simp at this; omega) G4.out (by omega))
    clear Dc0 Dc1 Dc2 Dc3 Df0 Df1 Df2 Df3 hgr4 hr6 hr5 hne hg1 hg
    go_wp2
    refine bodyPost_ret (v := .tuple #[.agg #[.int .i64 r2, .int .i64 s2, .int .i64 l2, .int .i64 t2], .int .i64 m]) (by simp [results, Try.results37, go_sem, Ec0, Ec1, Ec2, Ec3]) rfl ⟨r2, s2, l2, t2, m, rfl, ?_⟩
    exact (((BW.out.setCell (Nat.le_refl _) _).setCell (Nat.le_refl _) _).setCell (Nat.le_refl _) _).setCell (Nat.le_refl _) _
end Go.Proofs.Ytfnloakbkiiicab
