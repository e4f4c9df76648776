/-
  The draws of scores: what they return, whatever the bytes. Conditions: the source is as open leaves it, its counter is small.
-/
import Derived.Test.YtffgblphimjipaaDraw
import Derived.Deep.RegionHeld3
import Derived.Deep.RegionWith
import Derived.Deep.DeepCutAuto
import Derived.WalkLawsBesides
namespace Go.Proofs.Ytffgblphimjipaa
open Go.RowKit

def BktPost (w : World) (g q : Nat) (e : Ending) (w' : World) : Prop :=
  ∃ r s l t : Int, e = .returned (.agg #[.int .i64 r, .int .i64 s, .int .i64 l, .int .i64 t]) ∧ w.grownBy w' (some g) ∧ RdAt w' g q
def BktPostT (w : World) (g q : Nat) (e : Ending) (w' : World) : Prop :=
  ∃ r s l t : Int, e = .returned (.agg #[.int .i64 r, .int .i64 s, .int .i64 l, .int .i64 t]) ∧ (0 ≤ s ∧ s ≤ 1000) ∧ w.grownBy w' (some g) ∧ RdAt w' g q
theorem num_blk (g q b n : Nat) (t : TypeId) (cs : Array Value) (xs : List Int) (w : World) (h : RdAt w g q) (hB : Blk w b t cs) (hq : q ≤ 1000000) (hgb : g < b) (hx : xs.length = n ∧ 0 < n) (hcs : cs.toList = xs.map (Value.int .i64)) :
    Calls Try.prog 37 #[.pointer (some ⟨g, 0, none⟩), .slice (some ⟨b, 0, none⟩) n n] w (NumPost w g (q + 1) xs) := by
  obtain ⟨rfl, hx⟩ := hx
  exact num_any g q b _ xs w h hq hx hgb (fun k x hk => by rw [blk_cell hB, ← Array.getElem?_toList, hcs, List.getElem?_map, hk]; rfl) (blk_lt hB)
theorem g_undrewB {w w' : World} {r : Option Nat} (h : w.drew.grownBy w' r) : w.grownBy w' r := ⟨h.os, h.tape, h.output, h.size, h.block⟩
theorem g_alloc2 {w w' : World} {r : Option Nat} {o o2 : Obj} (h : ((w.alloc o).alloc o2).drew.grownBy w' r) : w.drew.grownBy w' r := ⟨h.os, h.tape, h.output, by have := h.size; simp at this ⊢; omega, fun i hi hne => by
  have h1 := h.block i (by simp at hi ⊢; omega) hne
  have h2 : ((w.alloc o).alloc o2).drew.heap[i]? = w.drew.heap[i]? := (Below.heap_alloc (w.alloc o) o2 i (by simp at hi ⊢; omega)).trans (Below.heap_alloc w o i hi)
  exact h1.trans h2⟩
theorem time_in {x : Int} (h : x ∈ [0, 10, 100, 1000]) : 0 ≤ x ∧ x ≤ 1000 := by
  simp only [List.mem_cons, List.not_mem_nil, or_false] at h
  omega
theorem more_in {x : Int} (h : x ∈ [50, 1, 0, 200, -5]) : -5 ≤ x ∧ x ≤ 200 := by
  simp only [List.mem_cons, List.not_mem_nil, or_false] at h
  omega
theorem draw_endB {w w1 w2 w3 : World} {g : Nat} {o : Obj} (h1 : (w.alloc o).grownBy w1 (some g)) (h2 : w1.grownBy w2 (some g)) (h3 : w2.grownBy w3 (some g)) (hg : g < w.heap.size) (t : TypeId) (cs : Array Value) (ho : o = .cells cs t) :
    (w.grownBy w3 (some g) ∧ w.heap.size < w3.heap.size) ∧ Blk w3 w.heap.size t cs := by
  subst ho
  have k := (h1.trans h2).trans h3
  have hb := blk_new w t cs
  refine ⟨⟨(World.grownBy_alloc w _ _).trans k, by have := k.size; simp at this; omega⟩, blk_grown hb k (by omega)⟩

/-- a score at block b, zeros at the first new block -/
structure KD (w : World) (g b : Nat) (r s l t : Int) (w' : World) : Prop where
  it : Blk w' b 24 #[.int .i64 r, .int .i64 s, .int .i64 l, .int .i64 t]
  out : Blk w' w.heap.size 24 #[.int .i64 0, .int .i64 0, .int .i64 0, .int .i64 0]
  gr : w.grownBy w' (some g)
  lt : w.heap.size < b
  gl : g < w.heap.size
section
variable {w w1 w2 : World} {g b : Nat} {r s l t : Int}
theorem kd_grown (h : KD w g b r s l t w1) (k : w1.grownBy w2 (some g)) : KD w g b r s l t w2 :=
  ⟨blk_grown h.it k (by have := h.lt; have := h.gl; omega), blk_grown h.out k (by have := h.gl; omega), h.gr.trans k, h.lt, h.gl⟩
theorem kd_alloc (h : KD w g b r s l t w1) (o : Obj) : KD w g b r s l t (w1.alloc o) := ⟨blk_alloc h.it o, blk_alloc h.out o, g_alloc h.gr o, h.lt, h.gl⟩
theorem kd_drew (h : KD w g b r s l t w1) : KD w g b r s l t w1.drew := ⟨h.it, h.out, g_drewN h.gr 1, h.lt, h.gl⟩
theorem kd_until (h : KD w g b r s l t w1) (x : Int) : KD w g b r s x t (w1.setCell ⟨b, 2, none⟩ (.int .i64 x)) :=
  ⟨blk_set h.it 2 _, blk_far h.out (by have := h.lt; simp; omega) _, g_set h.gr (.inr (by have := h.lt; simp; omega)) _, h.lt, h.gl⟩
theorem kd_of (h : w1.cell? ⟨b, 1, none⟩ = some (.int .i64 s) ∧ KD w g b r s l t w1) : KD w g b r s l t w1 := h.2
theorem kd_cell (h : KD w g b r s l t w1) : w1.cell? ⟨b, 1, none⟩ = some (.int .i64 s) ∧ KD w g b r s l t w1 := ⟨blk_cell h.it 1, h⟩
/-- the same, whatever the third number -/
def KX (w : World) (g b : Nat) (r s t : Int) (w' : World) : Prop := w'.cell? ⟨b, 1, none⟩ = some (.int .i64 s) ∧ ∃ l, KD w g b r s l t w'
theorem kx_of (h : KD w g b r s l t w1) : KX w g b r s t w1 := ⟨blk_cell h.it 1, l, h⟩
theorem kx_alloc (h : w1.cell? ⟨b, 1, none⟩ = some (.int .i64 s) ∧ ∃ l, KD w g b r s l t w1) (o : Obj) : (w1.alloc o).cell? ⟨b, 1, none⟩ = some (.int .i64 s) ∧ ∃ l, KD w g b r s l t (w1.alloc o) := by
  obtain ⟨-, l', k⟩ := h
  exact kx_of (kd_alloc k o)
theorem kx_until (h : w1.cell? ⟨b, 1, none⟩ = some (.int .i64 s) ∧ ∃ l, KD w g b r s l t w1) (x : Int) : (w1.setCell ⟨b, 2, none⟩ (.int .i64 x)).cell? ⟨b, 1, none⟩ = some (.int .i64 s) ∧ ∃ l, KD w g b r s l t (w1.setCell ⟨b, 2, none⟩ (.int .i64 x)) := by
  obtain ⟨-, l', k⟩ := h
  exact kx_of (kd_until k x)
/-- the result is written -/
theorem kd_out (h : KD w g b r s l t w1) (c0 c1 c2 c3 : Value) : w.grownBy ((((w1.setCell ⟨w.heap.size, 0, none⟩ c0).setCell ⟨w.heap.size, 1, none⟩ c1).setCell ⟨w.heap.size, 2, none⟩ c2).setCell ⟨w.heap.size, 3, none⟩ c3) (some g) :=
  g_set (g_set (g_set (g_set h.gr (.inr (Nat.le_refl _)) _) (.inr (Nat.le_refl _)) _) (.inr (Nat.le_refl _)) _) (.inr (Nat.le_refl _)) _
end
theorem kd_start {w w3 : World} {g : Nat} {r s t : Int} (h : w.grownBy w3 (some g) ∧ w.heap.size < w3.heap.size) (B : Blk w3 w.heap.size 24 #[.int .i64 0, .int .i64 0, .int .i64 0, .int .i64 0]) (hg : g < w.heap.size) :
    KD w g w3.heap.size r s 0 t (w3.alloc (.cells #[.int .i64 r, .int .i64 s, .int .i64 0, .int .i64 t] 24)) :=
  ⟨blk_new w3 _ _, blk_alloc B _, g_alloc h.1 _, h.2, hg⟩
set_option maxHeartbeats 2000000 in
theorem l7Draw_any (g q : Nat) (w : World) (h : RdAt w g q) (hq : q ≤ 900000) :
    Calls Try.prog 45 #[.pointer (some ⟨g, 0, none⟩)] w (BktPostT w g (q + 5)) := by
  have hg := rd_lt h
  go_enter Try.func45, Try.ntmps45
  go_wp2_with fail
  refine (num_lit g q _ 5 _ _ [0, 30, 99, 50, 1] _ (rd_alloc h _) (by omega) (by simp) (by decide) rfl).mono ?_
  rintro e w1 ⟨r, hx1, rfl, hg1, hr1⟩
  have H1 := Lib.hid hg1
  clear hx1 hg1
  go_wp2_with fail
  refine (num_lit g _ _ 4 _ _ [0, 10, 100, 1000] _ hr1 (by omega) (by simp) (by decide) rfl).mono ?_
  rintro e w2 ⟨s, hx2, rfl, hg2, hr2⟩
  have H2 := Lib.hid hg2
  obtain ⟨s0, s1⟩ := time_in hx2
  clear hg2 hr1 hx2
  go_wp2_with fail
  refine (num_lit g _ _ 4 _ _ [0, 1, 2, 10] _ hr2 (by omega) (by simp) (by decide) rfl).mono ?_
  rintro e w3 ⟨t, hx3, rfl, hg3, hr3⟩
  have K := draw_endB H1.out H2.out hg3 hg _ _ rfl
  have K3 := Lib.hid (kd_start (r := r) (s := s) (t := t) K.1 K.2 hg)
  clear H1 H2 hg3 hr2 h K hx3
  go_wp2_with fail
  have hr4 := rd_alloc hr3 (.cells #[.int .i64 r, .int .i64 s, .int .i64 0, .int .i64 t] 24)
  refine (pick_any g (q + 3) 3 _ hr4 (by omega) (by omega)).mono ?_
  rintro e w4 ⟨k, rfl, hk, hg4, hr5⟩
  have K4 := Lib.hid (kd_grown K3.out hg4)
  have HR5 := Lib.hid hr5
  clear hg4 hr5 hr3 hr4 K3
  by_cases hk0 : k = 0
  · subst hk0
    have hr6 : RdAt (w4.alloc (.cells #[.int .i64 50, .int .i64 1, .int .i64 0, .int .i64 200, .int .i64 (-5)] 3)).drew g (q + 4) := rd_alloc HR5.out _
    have hC6 : Blk (w4.alloc (.cells #[.int .i64 50, .int .i64 1, .int .i64 0, .int .i64 200, .int .i64 (-5)] 3)).drew w4.heap.size 3 #[.int .i64 50, .int .i64 1, .int .i64 0, .int .i64 200, .int .i64 (-5)] := blk_new w4 _ _
    have HJ := Lib.hid (And.intro hr6 hC6)
    have hgl : g < w4.heap.size := rd_lt HR5.out
    have hS : w4.drew.cell? ⟨w3.heap.size, 1, none⟩ = some (.int .i64 s) ∧ ∃ l, KD w g w3.heap.size r s l t w4.drew := kx_of (kd_drew K4.out)
    clear hr6 hC6
    go_upto_region 3 with fail
    go_cut [] from 17 to 23 (fun wx => ∃ x, (-5 ≤ x ∧ x ≤ 1200) ∧ KD w g w3.heap.size r s x t wx ∧ RdAt wx g (q + 5))
    case first =>
      go_region_held3 (fun w' => w'.cell? ⟨w3.heap.size, 1, none⟩ = some (.int .i64 s) ∧ ∃ l, KD w g w3.heap.size r s l t w')
        (first | assumption | (exact kx_alloc (by assumption) _) | (exact kx_until (by assumption) _) | (exact kx_until (kx_alloc (by assumption) _) _))
        (first
          | (go_at_call 37
             refine (num_blk g (q + 4) w4.heap.size 5 3 _ [50, 1, 0, 200, -5] _ HJ.out.1 HJ.out.2 (by omega) (by omega) (by simp) rfl).mono ?_
             rintro e w5 ⟨x, hx, rfl, hgr5, hr7⟩
             obtain ⟨x0, x1⟩ := more_in hx
             have K5 := Lib.hid (kd_grown (kd_drew (kd_alloc K4.out _)) hgr5)
             have HR7 := Lib.hid hr7
             have hS5 : w5.cell? ⟨w3.heap.size, 1, none⟩ = some (.int .i64 s) ∧ ∃ l, KD w g w3.heap.size r s l t w5 := kx_of K5.out
             have hf5 := blk_free K5.out.it 2
             have hc5 : w5.cell? ⟨w3.heap.size, 2, none⟩ = some (.int .i64 0) := blk_cell K5.out.it 2
             have yw : IntKind.i64.wrap (s + x) = s + x := IntWalk.i64_in _ (by omega)
             clear hx hgr5 hr7))
      all_goals
        go_wp2_with fail
        go_meet
        exact ⟨s + x, by omega, kd_until K5.out _, rd_set HR7.out (by show g < w3.heap.size; have := K4.out.lt; omega) _⟩
    case rest =>
    obtain ⟨x, ⟨x0, x1⟩, hK, hr⟩ := hcut
    have K5 := Lib.hid hK
    have HR := Lib.hid hr
    have D := Lib.hid (show Blk wc (w3.heap.size) 24 #[.int .i64 r, .int .i64 s, .int .i64 x, .int .i64 t] from (hK.it))
    have Dc0 : World.cell? wc ⟨w3.heap.size, 0, none⟩ = some (.int .i64 r) := blk_cell D.out 0
    have Df0 : World.frozen? wc ⟨w3.heap.size, 0, none⟩ = false := blk_free D.out 0
    have Dc1 : World.cell? wc ⟨w3.heap.size, 1, none⟩ = some (.int .i64 s) := blk_cell D.out 1
    have Df1 : World.frozen? wc ⟨w3.heap.size, 1, none⟩ = false := blk_free D.out 1
    have Dc2 : World.cell? wc ⟨w3.heap.size, 2, none⟩ = some (.int .i64 x) := blk_cell D.out 2
    have Df2 : World.frozen? wc ⟨w3.heap.size, 2, none⟩ = false := blk_free D.out 2
    have Dc3 : World.cell? wc ⟨w3.heap.size, 3, none⟩ = some (.int .i64 t) := blk_cell D.out 3
    have Df3 : World.frozen? wc ⟨w3.heap.size, 3, none⟩ = false := blk_free D.out 3
    have E := Lib.hid (show Blk wc (w.heap.size) 24 #[.int .i64 0, .int .i64 0, .int .i64 0, .int .i64 0] from (hK.out))
    have Ec0 : World.cell? wc ⟨w.heap.size, 0, none⟩ = some (.int .i64 0) := blk_cell E.out 0
    have Ef0 : World.frozen? wc ⟨w.heap.size, 0, none⟩ = false := blk_free E.out 0
    have Ec1 : World.cell? wc ⟨w.heap.size, 1, none⟩ = some (.int .i64 0) := blk_cell E.out 1
    have Ef1 : World.frozen? wc ⟨w.heap.size, 1, none⟩ = false := blk_free E.out 1
    have Ec2 : World.cell? wc ⟨w.heap.size, 2, none⟩ = some (.int .i64 0) := blk_cell E.out 2
    have Ef2 : World.frozen? wc ⟨w.heap.size, 2, none⟩ = false := blk_free E.out 2
    have Ec3 : World.cell? wc ⟨w.heap.size, 3, none⟩ = some (.int .i64 0) := blk_cell E.out 3
    have Ef3 : World.frozen? wc ⟨w.heap.size, 3, none⟩ = false := blk_free E.out 3
    have hne : w3.heap.size ≠ w.heap.size := by have := hK.lt; omega
    clear hK hr D E hS
    by_cases hx : x < 0
    · have hd : decide (x < 0) = true := decide_eq_true hx
      go_wp2
      refine bodyPost_ret (v := .agg #[.int .i64 r, .int .i64 s, .int .i64 0, .int .i64 t]) (by simp [results, Try.results45, go_sem, Ec0, Ec1, Ec2, Ec3]) rfl ⟨r, s, 0, t, rfl, ⟨s0, s1⟩, kd_out (kd_until K5.out 0) _ _ _ _, ?_⟩
      exact rd_set (rd_set (rd_set (rd_set (rd_set HR.out (by have := K5.out.lt; show g < w3.heap.size; omega) _) hg _) hg _) hg _) hg _
    · have hd : decide (x < 0) = false := decide_eq_false hx
      go_wp2
      refine bodyPost_ret (v := .agg #[.int .i64 r, .int .i64 s, .int .i64 x, .int .i64 t]) (by simp [results, Try.results45, go_sem, Ec0, Ec1, Ec2, Ec3]) rfl ⟨r, s, x, t, rfl, ⟨s0, s1⟩, kd_out K5.out _ _ _ _, ?_⟩
      exact rd_set (rd_set (rd_set (rd_set HR.out hg _) hg _) hg _) hg _
  · have hd : ((k : Int) == 0) = false := by simp only [beq_eq_false_iff_ne]; omega
    have D := Lib.hid (show Blk w4 (w3.heap.size) 24 #[.int .i64 r, .int .i64 s, .int .i64 0, .int .i64 t] from (K4.out.it))
    have Dc0 : World.cell? w4 ⟨w3.heap.size, 0, none⟩ = some (.int .i64 r) := blk_cell D.out 0
    have Df0 : World.frozen? w4 ⟨w3.heap.size, 0, none⟩ = false := blk_free D.out 0
    have Dc1 : World.cell? w4 ⟨w3.heap.size, 1, none⟩ = some (.int .i64 s) := blk_cell D.out 1
    have Df1 : World.frozen? w4 ⟨w3.heap.size, 1, none⟩ = false := blk_free D.out 1
    have Dc2 : World.cell? w4 ⟨w3.heap.size, 2, none⟩ = some (.int .i64 0) := blk_cell D.out 2
    have Df2 : World.frozen? w4 ⟨w3.heap.size, 2, none⟩ = false := blk_free D.out 2
    have Dc3 : World.cell? w4 ⟨w3.heap.size, 3, none⟩ = some (.int .i64 t) := blk_cell D.out 3
    have Df3 : World.frozen? w4 ⟨w3.heap.size, 3, none⟩ = false := blk_free D.out 3
    have E := Lib.hid (show Blk w4 (w.heap.size) 24 #[.int .i64 0, .int .i64 0, .int .i64 0, .int .i64 0] from (K4.out.out))
    have Ec0 : World.cell? w4 ⟨w.heap.size, 0, none⟩ = some (.int .i64 0) := blk_cell E.out 0
    have Ef0 : World.frozen? w4 ⟨w.heap.size, 0, none⟩ = false := blk_free E.out 0
    have Ec1 : World.cell? w4 ⟨w.heap.size, 1, none⟩ = some (.int .i64 0) := blk_cell E.out 1
    have Ef1 : World.frozen? w4 ⟨w.heap.size, 1, none⟩ = false := blk_free E.out 1
    have Ec2 : World.cell? w4 ⟨w.heap.size, 2, none⟩ = some (.int .i64 0) := blk_cell E.out 2
    have Ef2 : World.frozen? w4 ⟨w.heap.size, 2, none⟩ = false := blk_free E.out 2
    have Ec3 : World.cell? w4 ⟨w.heap.size, 3, none⟩ = some (.int .i64 0) := blk_cell E.out 3
    have Ef3 : World.frozen? w4 ⟨w.heap.size, 3, none⟩ = false := blk_free E.out 3
    have hne : w3.heap.size ≠ w.heap.size := by have := K4.out.lt; omega
    clear D E
    go_wp2
    refine bodyPost_ret (v := .agg #[.int .i64 r, .int .i64 s, .int .i64 0, .int .i64 t]) (by simp [results, Try.results45, go_sem, Ec0, Ec1, Ec2, Ec3]) rfl ⟨r, s, 0, t, rfl, ⟨s0, s1⟩, kd_out K4.out _ _ _ _, ?_⟩
    exact rd_more (rd_set (rd_set (rd_set (rd_set HR5.out hg _) hg _) hg _) hg _) (by omega)

def TwiceB (w w' : World) (g : Nat) (r s l t : Int) : Prop :=
  Blk w' w.heap.size 24 #[.int .i64 r, .int .i64 s, .int .i64 l, .int .i64 t] ∧ Blk w' (w.heap.size + 1) 24 #[.int .i64 0, .int .i64 0, .int .i64 0, .int .i64 0] ∧ w.grownBy w' (some g) ∧ w.heap.size + 1 < w'.heap.size
theorem wrong_firstB {w w1 : World} {g : Nat} {r s l t : Int} (hg : g < w.heap.size) (h : ((w.alloc (.cells #[.int .i64 r, .int .i64 s, .int .i64 l, .int .i64 t] 24)).alloc (.cells #[.int .i64 0, .int .i64 0, .int .i64 0, .int .i64 0] 24)).grownBy w1 (some g)) : TwiceB w w1 g r s l t :=
  ⟨blk_grown (blk_alloc (blk_new w _ _) _) h (by omega), blk_grown (blk_new2 w _ _ _) h (by omega), (g_alloc (g_alloc (g_refl _ _) _) _).trans h, by have := h.size; simp at this; omega⟩
theorem wrong_nextB {w w1 w2 : World} {g : Nat} {r s l t : Int} (h : TwiceB w w1 g r s l t) (k : w1.grownBy w2 (some g)) (hg : g < w.heap.size) : TwiceB w w2 g r s l t :=
  ⟨blk_grown h.1 k (by omega), blk_grown h.2.1 k (by omega), h.2.2.1.trans k, Nat.lt_of_lt_of_le h.2.2.2 k.size⟩
set_option maxHeartbeats 2000000 in
theorem l7Wrong_any (g q : Nat) (r s l t : Int) (w : World) (h : RdAt w g q) (hq : q ≤ 900000) :
    Calls Try.prog 46 #[.pointer (some ⟨g, 0, none⟩), .agg #[.int .i64 r, .int .i64 s, .int .i64 l, .int .i64 t]] w (BktPost w g (q + 2)) := by
  have hg := rd_lt h
  have hg' : g < w.heap.size + 1 := by omega
  go_enter Try.func46, Try.ntmps46
  go_wp2_with fail
  refine (pick_any g q _ _ (rd_alloc (rd_alloc h _) _) (by omega) (by omega)).mono ?_
  rintro e w1 ⟨k, rfl, hk, hgr, hrd⟩
  have K := Lib.hid (wrong_firstB hg hgr)
  clear hgr h
  have D := Lib.hid (show Blk w1 (w.heap.size) 24 #[.int .i64 r, .int .i64 s, .int .i64 l, .int .i64 t] from (K.out.1))
  have Dc0 : World.cell? w1 ⟨w.heap.size, 0, none⟩ = some (.int .i64 r) := blk_cell D.out 0
  have Df0 : World.frozen? w1 ⟨w.heap.size, 0, none⟩ = false := blk_free D.out 0
  have Dc1 : World.cell? w1 ⟨w.heap.size, 1, none⟩ = some (.int .i64 s) := blk_cell D.out 1
  have Df1 : World.frozen? w1 ⟨w.heap.size, 1, none⟩ = false := blk_free D.out 1
  have Dc2 : World.cell? w1 ⟨w.heap.size, 2, none⟩ = some (.int .i64 l) := blk_cell D.out 2
  have Df2 : World.frozen? w1 ⟨w.heap.size, 2, none⟩ = false := blk_free D.out 2
  have Dc3 : World.cell? w1 ⟨w.heap.size, 3, none⟩ = some (.int .i64 t) := blk_cell D.out 3
  have Df3 : World.frozen? w1 ⟨w.heap.size, 3, none⟩ = false := blk_free D.out 3
  have E := Lib.hid (show Blk w1 ((w.heap.size + 1)) 24 #[.int .i64 0, .int .i64 0, .int .i64 0, .int .i64 0] from (K.out.2.1))
  have Ec0 : World.cell? w1 ⟨(w.heap.size + 1), 0, none⟩ = some (.int .i64 0) := blk_cell E.out 0
  have Ef0 : World.frozen? w1 ⟨(w.heap.size + 1), 0, none⟩ = false := blk_free E.out 0
  have Ec1 : World.cell? w1 ⟨(w.heap.size + 1), 1, none⟩ = some (.int .i64 0) := blk_cell E.out 1
  have Ef1 : World.frozen? w1 ⟨(w.heap.size + 1), 1, none⟩ = false := blk_free E.out 1
  have Ec2 : World.cell? w1 ⟨(w.heap.size + 1), 2, none⟩ = some (.int .i64 0) := blk_cell E.out 2
  have Ef2 : World.frozen? w1 ⟨(w.heap.size + 1), 2, none⟩ = false := blk_free E.out 2
  have Ec3 : World.cell? w1 ⟨(w.heap.size + 1), 3, none⟩ = some (.int .i64 0) := blk_cell E.out 3
  have Ef3 : World.frozen? w1 ⟨(w.heap.size + 1), 3, none⟩ = false := blk_free E.out 3
  clear D E
  go_wp2_with fail
  · refine (num_lit g _ _ 2 _ _ [-1, 100] _ hrd (by omega) (by simp) (by decide) rfl).mono ?_
    rintro e w2 ⟨x, hx, rfl, hg2, hr2⟩
    have K2 := Lib.hid (wrong_nextB K.out hg2 hg)
    clear hx hg2
    clear Dc0 Dc1 Dc2 Dc3 Df0 Df1 Df2 Df3 Ec0 Ec1 Ec2 Ec3 Ef0 Ef1 Ef2 Ef3
    have D := Lib.hid (show Blk w2 (w.heap.size) 24 #[.int .i64 r, .int .i64 s, .int .i64 l, .int .i64 t] from (K2.out.1))
    have Dc0 : World.cell? w2 ⟨w.heap.size, 0, none⟩ = some (.int .i64 r) := blk_cell D.out 0
    have Df0 : World.frozen? w2 ⟨w.heap.size, 0, none⟩ = false := blk_free D.out 0
    have Dc1 : World.cell? w2 ⟨w.heap.size, 1, none⟩ = some (.int .i64 s) := blk_cell D.out 1
    have Df1 : World.frozen? w2 ⟨w.heap.size, 1, none⟩ = false := blk_free D.out 1
    have Dc2 : World.cell? w2 ⟨w.heap.size, 2, none⟩ = some (.int .i64 l) := blk_cell D.out 2
    have Df2 : World.frozen? w2 ⟨w.heap.size, 2, none⟩ = false := blk_free D.out 2
    have Dc3 : World.cell? w2 ⟨w.heap.size, 3, none⟩ = some (.int .i64 t) := blk_cell D.out 3
    have Df3 : World.frozen? w2 ⟨w.heap.size, 3, none⟩ = false := blk_free D.out 3
    have E := Lib.hid (show Blk w2 ((w.heap.size + 1)) 24 #[.int .i64 0, .int .i64 0, .int .i64 0, .int .i64 0] from (K2.out.2.1))
    have Ec0 : World.cell? w2 ⟨(w.heap.size + 1), 0, none⟩ = some (.int .i64 0) := blk_cell E.out 0
    have Ef0 : World.frozen? w2 ⟨(w.heap.size + 1), 0, none⟩ = false := blk_free E.out 0
    have Ec1 : World.cell? w2 ⟨(w.heap.size + 1), 1, none⟩ = some (.int .i64 0) := blk_cell E.out 1
    have Ef1 : World.frozen? w2 ⟨(w.heap.size + 1), 1, none⟩ = false := blk_free E.out 1
    have Ec2 : World.cell? w2 ⟨(w.heap.size + 1), 2, none⟩ = some (.int .i64 0) := blk_cell E.out 2
    have Ef2 : World.frozen? w2 ⟨(w.heap.size + 1), 2, none⟩ = false := blk_free E.out 2
    have Ec3 : World.cell? w2 ⟨(w.heap.size + 1), 3, none⟩ = some (.int .i64 0) := blk_cell E.out 3
    have Ef3 : World.frozen? w2 ⟨(w.heap.size + 1), 3, none⟩ = false := blk_free E.out 3
    clear D E
    go_wp2
    refine bodyPost_ret (v := .agg #[.int .i64 x, .int .i64 s, .int .i64 l, .int .i64 t]) (by simp [results, Try.results46, go_sem, Ec0, Ec1, Ec2, Ec3]) rfl ⟨x, s, l, t, rfl, ?_, ?_⟩
    · exact g_set (g_set (g_set (g_set (g_set K2.out.2.2.1 (.inr (Nat.le_refl _)) _) (.inr (Nat.le_succ _)) _) (.inr (Nat.le_succ _)) _) (.inr (Nat.le_succ _)) _) (.inr (Nat.le_succ _)) _
    · exact rd_set (rd_set (rd_set (rd_set (rd_set hr2 hg _) hg' _) hg' _) hg' _) hg' _
  · refine (num_lit g _ _ 2 _ _ [-1, 11] _ hrd (by omega) (by simp) (by decide) rfl).mono ?_
    rintro e w2 ⟨x, hx, rfl, hg2, hr2⟩
    have K2 := Lib.hid (wrong_nextB K.out hg2 hg)
    clear hx hg2
    clear Dc0 Dc1 Dc2 Dc3 Df0 Df1 Df2 Df3 Ec0 Ec1 Ec2 Ec3 Ef0 Ef1 Ef2 Ef3
    have D := Lib.hid (show Blk w2 (w.heap.size) 24 #[.int .i64 r, .int .i64 s, .int .i64 l, .int .i64 t] from (K2.out.1))
    have Dc0 : World.cell? w2 ⟨w.heap.size, 0, none⟩ = some (.int .i64 r) := blk_cell D.out 0
    have Df0 : World.frozen? w2 ⟨w.heap.size, 0, none⟩ = false := blk_free D.out 0
    have Dc1 : World.cell? w2 ⟨w.heap.size, 1, none⟩ = some (.int .i64 s) := blk_cell D.out 1
    have Df1 : World.frozen? w2 ⟨w.heap.size, 1, none⟩ = false := blk_free D.out 1
    have Dc2 : World.cell? w2 ⟨w.heap.size, 2, none⟩ = some (.int .i64 l) := blk_cell D.out 2
    have Df2 : World.frozen? w2 ⟨w.heap.size, 2, none⟩ = false := blk_free D.out 2
    have Dc3 : World.cell? w2 ⟨w.heap.size, 3, none⟩ = some (.int .i64 t) := blk_cell D.out 3
    have Df3 : World.frozen? w2 ⟨w.heap.size, 3, none⟩ = false := blk_free D.out 3
    have E := Lib.hid (show Blk w2 ((w.heap.size + 1)) 24 #[.int .i64 0, .int .i64 0, .int .i64 0, .int .i64 0] from (K2.out.2.1))
    have Ec0 : World.cell? w2 ⟨(w.heap.size + 1), 0, none⟩ = some (.int .i64 0) := blk_cell E.out 0
    have Ef0 : World.frozen? w2 ⟨(w.heap.size + 1), 0, none⟩ = false := blk_free E.out 0
    have Ec1 : World.cell? w2 ⟨(w.heap.size + 1), 1, none⟩ = some (.int .i64 0) := blk_cell E.out 1
    have Ef1 : World.frozen? w2 ⟨(w.heap.size + 1), 1, none⟩ = false := blk_free E.out 1
    have Ec2 : World.cell? w2 ⟨(w.heap.size + 1), 2, none⟩ = some (.int .i64 0) := blk_cell E.out 2
    have Ef2 : World.frozen? w2 ⟨(w.heap.size + 1), 2, none⟩ = false := blk_free E.out 2
    have Ec3 : World.cell? w2 ⟨(w.heap.size + 1), 3, none⟩ = some (.int .i64 0) := blk_cell E.out 3
    have Ef3 : World.frozen? w2 ⟨(w.heap.size + 1), 3, none⟩ = false := blk_free E.out 3
    clear D E
    go_wp2
    refine bodyPost_ret (v := .agg #[.int .i64 r, .int .i64 s, .int .i64 l, .int .i64 x]) (by simp [results, Try.results46, go_sem, Ec0, Ec1, Ec2, Ec3]) rfl ⟨r, s, l, x, rfl, ?_, ?_⟩
    · exact g_set (g_set (g_set (g_set (g_set K2.out.2.2.1 (.inr (Nat.le_refl _)) _) (.inr (Nat.le_succ _)) _) (.inr (Nat.le_succ _)) _) (.inr (Nat.le_succ _)) _) (.inr (Nat.le_succ _)) _
    · exact rd_set (rd_set (rd_set (rd_set (rd_set hr2 hg _) hg' _) hg' _) hg' _) hg' _
  · refine (num_lit g _ _ 2 _ _ [-1, 1000001] _ hrd (by omega) (by simp) (by decide) rfl).mono ?_
    rintro e w2 ⟨x, hx, rfl, hg2, hr2⟩
    have K2 := Lib.hid (wrong_nextB K.out hg2 hg)
    clear hx hg2
    clear Dc0 Dc1 Dc2 Dc3 Df0 Df1 Df2 Df3 Ec0 Ec1 Ec2 Ec3 Ef0 Ef1 Ef2 Ef3
    have D := Lib.hid (show Blk w2 (w.heap.size) 24 #[.int .i64 r, .int .i64 s, .int .i64 l, .int .i64 t] from (K2.out.1))
    have Dc0 : World.cell? w2 ⟨w.heap.size, 0, none⟩ = some (.int .i64 r) := blk_cell D.out 0
    have Df0 : World.frozen? w2 ⟨w.heap.size, 0, none⟩ = false := blk_free D.out 0
    have Dc1 : World.cell? w2 ⟨w.heap.size, 1, none⟩ = some (.int .i64 s) := blk_cell D.out 1
    have Df1 : World.frozen? w2 ⟨w.heap.size, 1, none⟩ = false := blk_free D.out 1
    have Dc2 : World.cell? w2 ⟨w.heap.size, 2, none⟩ = some (.int .i64 l) := blk_cell D.out 2
    have Df2 : World.frozen? w2 ⟨w.heap.size, 2, none⟩ = false := blk_free D.out 2
    have Dc3 : World.cell? w2 ⟨w.heap.size, 3, none⟩ = some (.int .i64 t) := blk_cell D.out 3
    have Df3 : World.frozen? w2 ⟨w.heap.size, 3, none⟩ = false := blk_free D.out 3
    have E := Lib.hid (show Blk w2 ((w.heap.size + 1)) 24 #[.int .i64 0, .int .i64 0, .int .i64 0, .int .i64 0] from (K2.out.2.1))
    have Ec0 : World.cell? w2 ⟨(w.heap.size + 1), 0, none⟩ = some (.int .i64 0) := blk_cell E.out 0
    have Ef0 : World.frozen? w2 ⟨(w.heap.size + 1), 0, none⟩ = false := blk_free E.out 0
    have Ec1 : World.cell? w2 ⟨(w.heap.size + 1), 1, none⟩ = some (.int .i64 0) := blk_cell E.out 1
    have Ef1 : World.frozen? w2 ⟨(w.heap.size + 1), 1, none⟩ = false := blk_free E.out 1
    have Ec2 : World.cell? w2 ⟨(w.heap.size + 1), 2, none⟩ = some (.int .i64 0) := blk_cell E.out 2
    have Ef2 : World.frozen? w2 ⟨(w.heap.size + 1), 2, none⟩ = false := blk_free E.out 2
    have Ec3 : World.cell? w2 ⟨(w.heap.size + 1), 3, none⟩ = some (.int .i64 0) := blk_cell E.out 3
    have Ef3 : World.frozen? w2 ⟨(w.heap.size + 1), 3, none⟩ = false := blk_free E.out 3
    clear D E
    go_wp2
    refine bodyPost_ret (v := .agg #[.int .i64 r, .int .i64 x, .int .i64 l, .int .i64 t]) (by simp [results, Try.results46, go_sem, Ec0, Ec1, Ec2, Ec3]) rfl ⟨r, x, l, t, rfl, ?_, ?_⟩
    · exact g_set (g_set (g_set (g_set (g_set K2.out.2.2.1 (.inr (Nat.le_refl _)) _) (.inr (Nat.le_succ _)) _) (.inr (Nat.le_succ _)) _) (.inr (Nat.le_succ _)) _) (.inr (Nat.le_succ _)) _
    · exact rd_set (rd_set (rd_set (rd_set (rd_set hr2 hg _) hg' _) hg' _) hg' _) hg' _
  · refine (num_lit g _ _ 3 _ _ [-1, 2000001, 2000000] _ hrd (by omega) (by simp) (by decide) rfl).mono ?_
    rintro e w2 ⟨x, hx, rfl, hg2, hr2⟩
    have K2 := Lib.hid (wrong_nextB K.out hg2 hg)
    clear hx hg2
    clear Dc0 Dc1 Dc2 Dc3 Df0 Df1 Df2 Df3 Ec0 Ec1 Ec2 Ec3 Ef0 Ef1 Ef2 Ef3
    have D := Lib.hid (show Blk w2 (w.heap.size) 24 #[.int .i64 r, .int .i64 s, .int .i64 l, .int .i64 t] from (K2.out.1))
    have Dc0 : World.cell? w2 ⟨w.heap.size, 0, none⟩ = some (.int .i64 r) := blk_cell D.out 0
    have Df0 : World.frozen? w2 ⟨w.heap.size, 0, none⟩ = false := blk_free D.out 0
    have Dc1 : World.cell? w2 ⟨w.heap.size, 1, none⟩ = some (.int .i64 s) := blk_cell D.out 1
    have Df1 : World.frozen? w2 ⟨w.heap.size, 1, none⟩ = false := blk_free D.out 1
    have Dc2 : World.cell? w2 ⟨w.heap.size, 2, none⟩ = some (.int .i64 l) := blk_cell D.out 2
    have Df2 : World.frozen? w2 ⟨w.heap.size, 2, none⟩ = false := blk_free D.out 2
    have Dc3 : World.cell? w2 ⟨w.heap.size, 3, none⟩ = some (.int .i64 t) := blk_cell D.out 3
    have Df3 : World.frozen? w2 ⟨w.heap.size, 3, none⟩ = false := blk_free D.out 3
    have E := Lib.hid (show Blk w2 ((w.heap.size + 1)) 24 #[.int .i64 0, .int .i64 0, .int .i64 0, .int .i64 0] from (K2.out.2.1))
    have Ec0 : World.cell? w2 ⟨(w.heap.size + 1), 0, none⟩ = some (.int .i64 0) := blk_cell E.out 0
    have Ef0 : World.frozen? w2 ⟨(w.heap.size + 1), 0, none⟩ = false := blk_free E.out 0
    have Ec1 : World.cell? w2 ⟨(w.heap.size + 1), 1, none⟩ = some (.int .i64 0) := blk_cell E.out 1
    have Ef1 : World.frozen? w2 ⟨(w.heap.size + 1), 1, none⟩ = false := blk_free E.out 1
    have Ec2 : World.cell? w2 ⟨(w.heap.size + 1), 2, none⟩ = some (.int .i64 0) := blk_cell E.out 2
    have Ef2 : World.frozen? w2 ⟨(w.heap.size + 1), 2, none⟩ = false := blk_free E.out 2
    have Ec3 : World.cell? w2 ⟨(w.heap.size + 1), 3, none⟩ = some (.int .i64 0) := blk_cell E.out 3
    have Ef3 : World.frozen? w2 ⟨(w.heap.size + 1), 3, none⟩ = false := blk_free E.out 3
    clear D E
    go_wp2
    refine bodyPost_ret (v := .agg #[.int .i64 r, .int .i64 s, .int .i64 x, .int .i64 t]) (by simp [results, Try.results46, go_sem, Ec0, Ec1, Ec2, Ec3]) rfl ⟨r, s, x, t, rfl, ?_, ?_⟩
    · exact g_set (g_set (g_set (g_set (g_set K2.out.2.2.1 (.inr (Nat.le_refl _)) _) (.inr (Nat.le_succ _)) _) (.inr (Nat.le_succ _)) _) (.inr (Nat.le_succ _)) _) (.inr (Nat.le_succ _)) _
    · exact rd_set (rd_set (rd_set (rd_set (rd_set hr2 hg _) hg' _) hg' _) hg' _) hg' _
  · refine bodyPost_ret (v := .agg #[.int .i64 r, .int .i64 s, .int .i64 l, .int .i64 t]) (by simp [results, Try.results46, go_sem, Ec0, Ec1, Ec2, Ec3]) rfl ⟨r, s, l, t, rfl, ?_, ?_⟩
    · exact g_set (g_set (g_set (g_set K.out.2.2.1 (.inr (Nat.le_succ _)) _) (.inr (Nat.le_succ _)) _) (.inr (Nat.le_succ _)) _) (.inr (Nat.le_succ _)) _
    · exact rd_more (rd_set (rd_set (rd_set (rd_set hrd hg' _) hg' _) hg' _) hg' _) (by omega)
def CasePost (w : World) (e : Ending) (w' : World) : Prop :=
  ∃ r s l t n : Int, e = .returned (.tuple #[.agg #[.int .i64 r, .int .i64 s, .int .i64 l, .int .i64 t], .int .i64 n]) ∧ Below w.heap.size w w'
set_option maxHeartbeats 1000000 in
theorem l7Case_any (A : Option Addr) (n c : Nat) (w : World) (h : Bytes w A n c) :
    Calls Try.prog 35 #[.slice A n c] w (CasePost w) := by
  go_enter Try.func35, Try.ntmps35
  go_wp2_with fail
  refine (open_any A n c _ (bytes_below h (below_alloc (Below.refl _ _) _))).mono ?_
  rintro e w1 ⟨g, rfl, hg, hb, hr⟩
  have hg1 := rd_lt hr
  have HB := Lib.hid hb
  clear hb
  go_wp2_with fail
  refine (l7Draw_any g 0 _ hr (by omega)).mono ?_
  rintro e w2 ⟨r, s, l, t, rfl, ht, hgr2, hr2⟩
  have G2 := Lib.hid hgr2
  have hz2 := hgr2.size
  have hg2 := rd_lt hr2
  clear hgr2 hr
  have hr3 : RdAt (w2.alloc (.cells #[.int .i64 r, .int .i64 s, .int .i64 l, .int .i64 t] 24)) g 5 := rd_alloc hr2 _
  have hB3 : Blk (w2.alloc (.cells #[.int .i64 r, .int .i64 s, .int .i64 l, .int .i64 t] 24)) w2.heap.size 24 #[.int .i64 r, .int .i64 s, .int .i64 l, .int .i64 t] := blk_new _ _ _
  have HH := Lib.hid (And.intro hr3 hB3)
  clear hr3 hB3 hr2
  have d3 : (w2.alloc (.cells #[.int .i64 r, .int .i64 s, .int .i64 l, .int .i64 t] 24)).cell? ⟨w2.heap.size, 1, none⟩ = some (.int .i64 s) := blk_cell HH.out.2 1
  go_wp2_with fail
  have hr4 : RdAt (((w2.alloc (.cells #[.int .i64 r, .int .i64 s, .int .i64 l, .int .i64 t] 24)).alloc (.cells #[.int .i64 5, .int .i64 0, .int .i64 1, .int .i64 20, .int .i64 60, .int .i64 300, .int .i64 (-1)] 3)).drew) g 5 := rd_alloc HH.out.1 _
  have hB4 : Blk (((w2.alloc (.cells #[.int .i64 r, .int .i64 s, .int .i64 l, .int .i64 t] 24)).alloc (.cells #[.int .i64 5, .int .i64 0, .int .i64 1, .int .i64 20, .int .i64 60, .int .i64 300, .int .i64 (-1)] 3)).drew) w2.heap.size 24 #[.int .i64 r, .int .i64 s, .int .i64 l, .int .i64 t] := blk_alloc HH.out.2 _
  have hC4 : Blk (((w2.alloc (.cells #[.int .i64 r, .int .i64 s, .int .i64 l, .int .i64 t] 24)).alloc (.cells #[.int .i64 5, .int .i64 0, .int .i64 1, .int .i64 20, .int .i64 60, .int .i64 300, .int .i64 (-1)] 3)).drew) (w2.heap.size + 1) 3 #[.int .i64 5, .int .i64 0, .int .i64 1, .int .i64 20, .int .i64 60, .int .i64 300, .int .i64 (-1)] := blk_new2 _ _ _ _
  have HJ := Lib.hid (And.intro hr4 (And.intro hB4 hC4))
  clear hr4 hB4 hC4
  go_region_with (go_at_call 37; refine (num_blk g 5 (w2.heap.size + 1) 7 3 _ [5, 0, 1, 20, 60, 300, -1] _ HJ.out.1 HJ.out.2.2 (by omega) (by omega) (by simp) rfl).mono ?_; rintro e w3 ⟨x, hx, rfl, hgr3, hr5⟩; have d4 : w3.cell? ⟨w2.heap.size, 1, none⟩ = some (.int .i64 s) := (blk_cell (blk_grown HJ.out.2.1 hgr3 (by omega)) 1))
  all_goals
    have J3 := Lib.hid (And.intro (G2.out.trans (g_undrewB (g_alloc2 hgr3))) (blk_grown HJ.out.2.1 hgr3 (by omega)))
    clear d3 d4 hgr3
    obtain ⟨m, hm⟩ : ∃ m : Int, m = IntKind.i64.wrap (s + x) := ⟨_, rfl⟩
    rw [← hm]
    clear hm hx
    have D := Lib.hid (show Blk w3 (w2.heap.size) 24 #[.int .i64 r, .int .i64 s, .int .i64 l, .int .i64 t] from (J3.out.2))
    have Dc0 : World.cell? w3 ⟨w2.heap.size, 0, none⟩ = some (.int .i64 r) := blk_cell D.out 0
    have Df0 : World.frozen? w3 ⟨w2.heap.size, 0, none⟩ = false := blk_free D.out 0
    have Dc1 : World.cell? w3 ⟨w2.heap.size, 1, none⟩ = some (.int .i64 s) := blk_cell D.out 1
    have Df1 : World.frozen? w3 ⟨w2.heap.size, 1, none⟩ = false := blk_free D.out 1
    have Dc2 : World.cell? w3 ⟨w2.heap.size, 2, none⟩ = some (.int .i64 l) := blk_cell D.out 2
    have Df2 : World.frozen? w3 ⟨w2.heap.size, 2, none⟩ = false := blk_free D.out 2
    have Dc3 : World.cell? w3 ⟨w2.heap.size, 3, none⟩ = some (.int .i64 t) := blk_cell D.out 3
    have Df3 : World.frozen? w3 ⟨w2.heap.size, 3, none⟩ = false := blk_free D.out 3
    go_wp2_with fail
    refine (l7Wrong_any g 6 r s l t _ hr5 (by omega)).mono ?_
    rintro e w4 ⟨r2, s2, l2, t2, rfl, hgr4, hr6⟩
    have hne : w.heap.size < g := by simp at hg; omega
    have G4 := Lib.hid (J3.out.1.trans hgr4)
    have E := Lib.hid (show Blk w4 (w.heap.size) 24 #[.int .i64 0, .int .i64 0, .int .i64 0, .int .i64 0] from (blk_grown (blk_below (blk_new w 24 #[.int .i64 0, .int .i64 0, .int .i64 0, .int .i64 0]) HB.out (by simp)) G4.out (by omega)))
    have Ec0 : World.cell? w4 ⟨w.heap.size, 0, none⟩ = some (.int .i64 0) := blk_cell E.out 0
    have Ef0 : World.frozen? w4 ⟨w.heap.size, 0, none⟩ = false := blk_free E.out 0
    have Ec1 : World.cell? w4 ⟨w.heap.size, 1, none⟩ = some (.int .i64 0) := blk_cell E.out 1
    have Ef1 : World.frozen? w4 ⟨w.heap.size, 1, none⟩ = false := blk_free E.out 1
    have Ec2 : World.cell? w4 ⟨w.heap.size, 2, none⟩ = some (.int .i64 0) := blk_cell E.out 2
    have Ef2 : World.frozen? w4 ⟨w.heap.size, 2, none⟩ = false := blk_free E.out 2
    have Ec3 : World.cell? w4 ⟨w.heap.size, 3, none⟩ = some (.int .i64 0) := blk_cell E.out 3
    have Ef3 : World.frozen? w4 ⟨w.heap.size, 3, none⟩ = false := blk_free E.out 3
    have BW := Lib.hid (below_grown (below_from (below_alloc (Below.refl w.heap.size w) (.cells #[.int .i64 0, .int .i64 0, .int .i64 0, .int .i64 0] 24)) HB.out (by simp)) (by have := HB.out.size; simp at this; omega) G4.out (by omega))
    clear Dc0 Dc1 Dc2 Dc3 Df0 Df1 Df2 Df3 hgr4 hr6 hr5 hne hg1 hg
    go_wp2
    refine bodyPost_ret (v := .tuple #[.agg #[.int .i64 r2, .int .i64 s2, .int .i64 l2, .int .i64 t2], .int .i64 m]) (by simp [results, Try.results35, go_sem, Ec0, Ec1, Ec2, Ec3]) rfl ⟨r2, s2, l2, t2, m, rfl, ?_⟩
    exact (((BW.out.setCell (Nat.le_refl _) _).setCell (Nat.le_refl _) _).setCell (Nat.le_refl _) _).setCell (Nat.le_refl _) _
end Go.Proofs.Ytffgblphimjipaa
