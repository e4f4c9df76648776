/-
  Chapter 4: the draws of accounts, sometimes wrong ones. Conditions: the source is as open leaves it, its counter is small.
-/
import Derived.Test.YtkbjelchihdajaaAD
import Derived.Test.YtkbjelchihdajaaA2r
import Derived.Deep.RegionHeld3
namespace Go.Proofs.Ytkbjelchihdajaa
open Go.RowKit

structure AW (w : World) (g L : Nat) (lim each : Int) (A : Option Addr) (n c : Nat) (us : List Int) (wr : World) : Prop where
  out : Blk wr (w.heap.size + 1) 25 #[.int .i64 0, .int .i64 0, (.slice none 0 0)]
  l : Blk wr L 25 #[.int .i64 lim, .int .i64 each, (.slice A n c)]
  own : wr.ownsRow (w.heap.size + 2) 3 1 (.slice A n c) n (icells us)
  ne : Value.ownBlock (.slice A n c) ≠ some L
  gr : w.grownBy wr (some g)
  hg : g < w.heap.size
  hL : w.heap.size + 1 < L
section
variable {w w1 w2 : World} {g L : Nat} {lim each : Int} {A : Option Addr} {n c : Nat} {us : List Int}
theorem aw_grown (h : AW w g L lim each A n c us w1) (hg : w1.grownBy w2 (some g)) : AW w g L lim each A n c us w2 :=
  ⟨blk_grown h.out hg (by have := h.hg; omega), blk_grown h.l hg (by have := h.hg; have := h.hL; omega), own_farI h.own hg (by have := h.hg; omega), h.ne, h.gr.trans hg, h.hg, h.hL⟩
theorem aw_alloc (h : AW w g L lim each A n c us w1) (o : Obj) : AW w g L lim each A n c us (w1.alloc o) :=
  ⟨blk_alloc h.out o, blk_alloc h.l o, h.own.alloc o, h.ne, g_alloc h.gr o, h.hg, h.hL⟩
theorem aw_drew (h : AW w g L lim each A n c us w1) : AW w g L lim each A n c us w1.drew :=
  ⟨h.out, h.l, World.ownsRow.drew h.own, h.ne, ⟨h.gr.os, h.gr.tape, h.gr.output, h.gr.size, h.gr.block⟩, h.hg, h.hL⟩
theorem aw_lim (h : AW w g L lim each A n c us w1) (x : Int) : AW w g L x each A n c us (w1.setCell ⟨L, 0, none⟩ (.int .i64 x)) :=
  ⟨blk_far h.out (by have := h.hL; simp; omega) _, blk_set h.l 0 _, own_set_ne h.own (fun e => h.ne e) _, h.ne, g_set h.gr (.inr (by have := h.hL; simp; omega)) _, h.hg, h.hL⟩
theorem aw_each (h : AW w g L lim each A n c us w1) (x : Int) : AW w g L lim x A n c us (w1.setCell ⟨L, 1, none⟩ (.int .i64 x)) :=
  ⟨blk_far h.out (by have := h.hL; simp; omega) _, blk_set h.l 1 _, own_set_ne h.own (fun e => h.ne e) _, h.ne, g_set h.gr (.inr (by have := h.hL; simp; omega)) _, h.hg, h.hL⟩
theorem aw_put {b : Nat} (h : AW w g L lim each (some ⟨b, 0, none⟩) n c us w1) (k : Nat) (x : Int) : AW w g L lim each (some ⟨b, 0, none⟩) n c (us.set k x) (w1.setCell ⟨b, k, none⟩ (.int .i64 x)) := by
  have hb : w.heap.size + 2 ≤ b := (h.own.lt b rfl).1
  have hn : b ≠ L := fun e => h.ne (by simp [Value.ownBlock, e])
  exact ⟨blk_far h.out (by simp; omega) _, blk_far h.l (by simp; omega) _, own_set_int h.own k x, h.ne, g_set h.gr (.inr (by simp; omega)) _, h.hg, h.hL⟩
theorem aw_cells (h : AW w g L lim each A n c us w1) : (w1.cell? ⟨L, 0, none⟩ = some (.int .i64 lim) ∧ w1.cell? ⟨L, 1, none⟩ = some (.int .i64 each) ∧ w1.cell? ⟨L, 2, none⟩ = some (.slice A n c)) ∧ (w1.frozen? ⟨L, 0, none⟩ = false ∧ w1.frozen? ⟨L, 1, none⟩ = false ∧ w1.frozen? ⟨L, 2, none⟩ = false) ∧ L < w1.heap.size :=
  ⟨⟨blk_cell h.l 0, blk_cell h.l 1, blk_cell h.l 2⟩, ⟨blk_free h.l 0, blk_free h.l 1, blk_free h.l 2⟩, blk_lt h.l⟩
theorem aw_s (h : AW w g L lim each A n c us w1) : (w1.cell? ⟨L, 0, none⟩ = some (.int .i64 lim) ∧ w1.cell? ⟨L, 1, none⟩ = some (.int .i64 each) ∧ w1.cell? ⟨L, 2, none⟩ = some (.slice A n c)) ∧ ∃ vs, AW w g L lim each A n c vs w1 := ⟨(aw_cells h).1, us, h⟩
theorem aw_out (h : AW w g L lim each A n c us w1) : (w1.cell? ⟨w.heap.size + 1, 0, none⟩ = some (.int .i64 0) ∧ w1.cell? ⟨w.heap.size + 1, 1, none⟩ = some (.int .i64 0) ∧ w1.cell? ⟨w.heap.size + 1, 2, none⟩ = some (.slice none 0 0)) ∧ (w1.frozen? ⟨w.heap.size + 1, 0, none⟩ = false ∧ w1.frozen? ⟨w.heap.size + 1, 1, none⟩ = false ∧ w1.frozen? ⟨w.heap.size + 1, 2, none⟩ = false) :=
  ⟨⟨blk_cell h.out 0, blk_cell h.out 1, blk_cell h.out 2⟩, blk_free h.out 0, blk_free h.out 1, blk_free h.out 2⟩
/-- the end -/
theorem aw_end {u0 u1 u2 : Value} {q : Nat} (h : AW w g L lim each A n c us w1) (hr : RdAt w1 g q) :
    (((w1.setCell ⟨w.heap.size + 1, 0, none⟩ u0).setCell ⟨w.heap.size + 1, 1, none⟩ u1).setCell ⟨w.heap.size + 1, 2, none⟩ u2).ownsRow w.heap.size 3 1 (.slice A n c) n (icells us) ∧
    w.grownBy (((w1.setCell ⟨w.heap.size + 1, 0, none⟩ u0).setCell ⟨w.heap.size + 1, 1, none⟩ u1).setCell ⟨w.heap.size + 1, 2, none⟩ u2) (some g) ∧
    RdAt (((w1.setCell ⟨w.heap.size + 1, 0, none⟩ u0).setCell ⟨w.heap.size + 1, 1, none⟩ u1).setCell ⟨w.heap.size + 1, 2, none⟩ u2) g q := by
  have := h.hg
  exact ⟨own_mono (own_set_far (own_set_far (own_set_far h.own (by simp) _) (by simp) _) (by simp) _) (by omega), g_set (g_set (g_set h.gr (.inr (by simp)) _) (.inr (by simp)) _) (.inr (by simp)) _,
    rd_set (rd_set (rd_set hr (by simp; omega) _) (by simp; omega) _) (by simp; omega) _⟩
end
theorem own_takeI {w : World} {base b n c k : Nat} {e : TypeId} {us : List Int} (h : w.ownsRow base e 1 (.slice (some ⟨b, 0, none⟩) n c) n (icells us)) (hk : k ≤ n) : w.ownsRow base e 1 (.slice (some ⟨b, 0, none⟩) k c) k (icells (us.take k)) := by
  have hl : us.length = n := (nr_own h).1
  rcases h.2 with ⟨hv, _⟩ | ⟨g, cap, cur, hv, hb, hg, hnc, hcm, hs, ht⟩
  · cases hv
  · obtain ⟨rfl, rfl⟩ : b = g ∧ c = cap := by injection hv with a1 a2 a3; injection a1 with a1; injection a1 with a1 _ _; exact ⟨a1, a3⟩
    refine ⟨by rw [icells_len, List.length_take]; omega, .inr ⟨b, c, cur, rfl, hb, hg, by omega, hcm, hs, ?_⟩⟩
    have h2 : icells (us.take k) = (icells us).take k := by unfold icells; rw [List.map_take]
    rw [h2, ← ht, List.take_take]
    congr 1
    omega
theorem aw_seven {w w1 : World} {g L b : Nat} {lim each : Int} {c : Nat} {us : List Int} (h : AW w g L lim each (some ⟨b, 0, none⟩) 8 c us w1) : AW w g L lim each (some ⟨b, 0, none⟩) 7 c (us.take 7) (w1.setCell ⟨L, 2, none⟩ (.slice (some ⟨b, 0, none⟩) 7 c)) :=
  ⟨blk_far h.out (by have := h.hL; simp; omega) _, blk_set h.l 2 _, own_set_ne (own_takeI h.own (by omega)) (fun e => h.ne e) _, h.ne, g_set h.gr (.inr (by have := h.hL; simp; omega)) _, h.hg, h.hL⟩
set_option maxHeartbeats 2000000 in
theorem l4Wrong_any (g q : Nat) (lim each : Int) (A : Option Addr) (c : Nat) (us : List Int) (w : World) (h : RdAt w g q) (hq : q ≤ 700000) (hp : NR w A 8 us) :
    Calls Try.prog 56 #[.pointer (some ⟨g, 0, none⟩), .agg #[.int .i64 lim, .int .i64 each, (.slice A 8 c)]] w (ADrawN w g (q + 4)) := by
  have hg := rd_lt h
  have F := Lib.hid (rs_first hp lim each c)
  have HR := Lib.hid h
  clear hp h
  go_enter Try.func56, Try.ntmps56
  go_wp2_with fail
  refine (l4Copy_any lim each A 8 c us _ F.out.pr (by omega)).mono ?_
  rintro e w1 ⟨A1, c1, rfl, ho1, hb1⟩
  obtain ⟨b1, c1', hv1, hb1a, hb1b⟩ := ho1.form (by omega)
  obtain ⟨rfl, rfl⟩ : A1 = some ⟨b1, 0, none⟩ ∧ c1 = c1' := by injection hv1 with e1 e2 e3; exact ⟨e1, e3⟩
  have hc1 : 8 ≤ c1 := by
    obtain ⟨A', c', hv, h1, -, -⟩ := own_form ho1
    have : c1 = c' := by injection hv
    omega
  have hz1 := hb1.size
  simp at hz1
  have D : AW w g w1.heap.size lim each (some ⟨b1, 0, none⟩) 8 c1 us (w1.alloc (.cells #[.int .i64 lim, .int .i64 each, (.slice (some ⟨b1, 0, none⟩) 8 c1)] 25)) :=
    ⟨blk_alloc (blk_below (blk_new2 w _ _ _) hb1 (by simp)) _, blk_new w1 _ _, (own_mono ho1 (by simp)).alloc _, (fun e => by have := (ho1.lt _ e).2; omega), g_below (g_refl w _) (below_alloc (below_from (below_alloc (below_alloc (Below.refl _ _) _) _) hb1 (by simp <;> omega)) _), hg, by omega⟩
  have HD := Lib.hid D
  have hr1 := Lib.hid (rd_alloc (rd_below (rd_alloc (rd_alloc HR.out _) _) hb1) (.cells #[.int .i64 lim, .int .i64 each, (.slice (some ⟨b1, 0, none⟩) 8 c1)] 25))
  clear D hb1 ho1 HR F hv1 hb1a hb1b
  go_wp2_with fail
  refine (pick_any g q _ _ hr1.out (by omega) (by omega)).mono ?_
  rintro e w2 ⟨k, rfl, hk, hg2, hr2⟩
  have HD2 := Lib.hid (aw_grown HD.out hg2)
  have hr2' := Lib.hid hr2
  obtain ⟨⟨l0, l1, l2⟩, ⟨g0, g1, g2⟩, zL⟩ := aw_cells HD2.out
  obtain ⟨⟨o0, o1, o2⟩, f0, f1, f2⟩ := aw_out HD2.out
  have hL := HD2.out.hL
  have hne' : ¬ w1.heap.size = w.heap.size + 1 := by omega
  clear hg2 hr2 hr1 HD
  by_cases hk0 : k = 0
  · subst hk0
    go_wp2_with fail
    refine (num_lit g _ _ 3 _ _ [0, 5001, 10] _ hr2'.out (by omega) (by simp) (by decide) rfl).mono ?_
    rintro e w3 ⟨x, hx, rfl, hg3, hr3⟩
    have HD3 := Lib.hid (aw_lim (aw_grown HD2.out hg3) x)
    have HR3 := Lib.hid (rd_set (p := ⟨w1.heap.size, 0, none⟩) hr3 (by simp; omega) (.int .i64 x))
    clear l0 l1 l2 g0 g1 g2 o0 o1 o2 f0 f1 f2 hx
    obtain ⟨⟨l0, l1, l2⟩, ⟨g0, g1, g2⟩, zL3⟩ := aw_cells (aw_grown HD2.out hg3)
    obtain ⟨⟨o0, o1, o2⟩, f0, f1, f2⟩ := aw_out (aw_grown HD2.out hg3)
    clear hg3 hr3
    go_wp2
    refine bodyPost_ret (v := .agg #[.int .i64 x, .int .i64 each, (.slice (some ⟨b1, 0, none⟩) 8 c1)]) (by simp [results, Try.results56, go_sem, o0, o1, o2]) rfl ⟨x, each, _, 8, c1, us, rfl, Nat.le_refl _, (aw_end HD3.out HR3.out).1, (aw_end HD3.out HR3.out).2.1, rd_more (aw_end HD3.out HR3.out).2.2 (by omega)⟩
  · have e0 : ((k : Int) == 0) = false := by simp; omega
    by_cases hk1 : k = 1
    · subst hk1
      have HDd := Lib.hid (aw_drew HD2.out)
      have zg := rd_lt hr2'.out
      clear l0 l1 l2 g0 g1 g2 o0 o1 o2 f0 f1 f2
      have hS := aw_s HDd.out
      go_wp2_with fail
      go_region_held3 (fun w' => (w'.cell? ⟨w1.heap.size, 0, none⟩ = some (.int .i64 lim) ∧ w'.cell? ⟨w1.heap.size, 1, none⟩ = some (.int .i64 each) ∧ w'.cell? ⟨w1.heap.size, 2, none⟩ = some (.slice (some ⟨b1, 0, none⟩) 8 c1)) ∧ ∃ vs, AW w g w1.heap.size lim each (some ⟨b1, 0, none⟩) 8 c1 vs w')
        (first
          | (with_reducible assumption)
          | (with_reducible exact aw_s (aw_drew (aw_alloc HD2.out _)))
          | (with_reducible exact aw_s (aw_alloc DP.out _))
          | (with_reducible exact aw_s (aw_put DN.out _ _))
          | fail)
        (first
          | (go_at_call 50
             first
               | refine (num_lit g _ _ 3 _ _ [-1, 5000, 7] _ RP.out (by omega) (by simp) (by decide) rfl).mono ?_
               | refine (num_any g _ w2.heap.size 3 [-1, 5000, 7] _ RP.out (by omega) (by decide) zg (fun j x hj => (blk_cell BP.out j).trans (by
                   have : j = 0 ∨ j = 1 ∨ j = 2 ∨ 3 ≤ j := by omega
                   rcases this with rfl | rfl | rfl | h5
                   · simpa using hj
                   · simpa using hj
                   · simpa using hj
                   · rw [List.getElem?_eq_none (by simpa using h5)] at hj; cases hj)) (blk_lt BP.out)).mono ?_
             rintro e wn ⟨bn, hbn, rfl, hgn, hrn⟩
             have DN := Lib.hid (aw_grown DP.out hgn)
             have RN := Lib.hid hrn
             have hSn := aw_s DN.out
             obtain ⟨b', off', yv, e1, hb', hy, dn0⟩ := nr_at (nr_own DN.out.own) hkp
             obtain ⟨rfl, rfl⟩ : b1 = b' ∧ 0 = off' := by injection e1 with e1; injection e1 with a b; exact ⟨a, b⟩
             rw [Nat.zero_add] at dn0
             have dnf := World.ownsRow.frozenAt DN.out.own kp
             clear hbn hgn hrn e1 hy hb')
          | (go_at_call 51
             refine (pick_any g _ 8 _ (by first | exact (show RdAt w2.drew g _ from hr2'.out) | exact (show RdAt (w2.alloc _).drew g _ from rd_alloc hr2'.out _)) (by omega) (by omega)).mono ?_
             rintro e wp ⟨kp, rfl, hkp8, hgp, hrp⟩
             have hkp : kp < 8 := by omega
             have kp0 : (0 : Int) ≤ (kp : Int) := by omega
             have DP := Lib.hid (show AW w g w1.heap.size lim each (some ⟨b1, 0, none⟩) 8 c1 us wp from (by first | exact aw_grown HDd.out hgp | exact aw_grown (aw_drew (aw_alloc HD2.out _)) hgp))
             have RP := Lib.hid hrp
             have zp := hgp.size
             try simp at zp
             first
               | (have BP := Lib.hid (blk_grown (show Blk (w2.alloc (.cells #[(.int .i64 (-1)), .int .i64 5000, .int .i64 7] 3)).drew w2.heap.size 3 #[(.int .i64 (-1)), .int .i64 5000, .int .i64 7] from blk_new w2 _ _) hgp (by omega)))
               | skip
             have hSp := aw_s DP.out
             clear hgp hrp))
      all_goals
        have DE := Lib.hid (aw_put DN.out kp bn)
        have RE := Lib.hid (rd_set (p := ⟨b1, kp, none⟩) RN.out (by have := (DN.out.own.lt b1 rfl).1; simp; omega) (.int .i64 bn))
        obtain ⟨⟨l0, l1, l2⟩, ⟨g0, g1, g2⟩, zL3⟩ := aw_cells DE.out
        obtain ⟨⟨o0, o1, o2⟩, f0, f1, f2⟩ := aw_out DE.out
        go_wp2
        refine bodyPost_ret (v := .agg #[.int .i64 lim, .int .i64 each, (.slice (some ⟨b1, 0, none⟩) 8 c1)]) (by simp [results, Try.results56, go_sem, o0, o1, o2]) rfl ⟨lim, each, _, 8, c1, us.set kp bn, rfl, Nat.le_refl _, (aw_end DE.out RE.out).1, (aw_end DE.out RE.out).2.1, rd_more (aw_end DE.out RE.out).2.2 (by omega)⟩
    · have e1 : ((k : Int) == 1) = false := by simp; omega
      by_cases hk2 : k = 2
      · subst hk2
        have D7 := Lib.hid (aw_seven HD2.out)
        have R7 := Lib.hid (rd_set (p := ⟨w1.heap.size, 2, none⟩) hr2'.out (by simp; omega) (.slice (some ⟨b1, 0, none⟩) 7 c1))
        have hc7 : (7 : Int) ≤ (c1 : Int) := by omega
        have hc7n : 7 ≤ c1 := by omega
        go_wp2
        refine bodyPost_ret (v := .agg #[.int .i64 lim, .int .i64 each, (.slice (some ⟨b1, 0, none⟩) 7 c1)]) (by simp [results, Try.results56, go_sem, o0, o1, o2]) rfl ⟨lim, each, _, 7, c1, us.take 7, rfl, by omega, (aw_end D7.out R7.out).1, (aw_end D7.out R7.out).2.1, rd_more (aw_end D7.out R7.out).2.2 (by omega)⟩
      · have e2 : ((k : Int) == 2) = false := by simp; omega
        by_cases hk3 : k = 3
        · subst hk3
          go_wp2_with fail
          refine (num_lit g _ _ 3 _ _ [0, 6000, 1] _ hr2'.out (by omega) (by simp) (by decide) rfl).mono ?_
          rintro e w3 ⟨x, hx, rfl, hg3, hr3⟩
          have HD3 := Lib.hid (aw_each (aw_grown HD2.out hg3) x)
          have HR3 := Lib.hid (rd_set (p := ⟨w1.heap.size, 1, none⟩) hr3 (by simp; omega) (.int .i64 x))
          clear l0 l1 l2 g0 g1 g2 o0 o1 o2 f0 f1 f2 hx
          obtain ⟨⟨l0, l1, l2⟩, ⟨g0, g1, g2⟩, zL3⟩ := aw_cells (aw_grown HD2.out hg3)
          obtain ⟨⟨o0, o1, o2⟩, f0, f1, f2⟩ := aw_out (aw_grown HD2.out hg3)
          clear hg3 hr3
          go_wp2
          refine bodyPost_ret (v := .agg #[.int .i64 lim, .int .i64 x, (.slice (some ⟨b1, 0, none⟩) 8 c1)]) (by simp [results, Try.results56, go_sem, o0, o1, o2]) rfl ⟨lim, x, _, 8, c1, us, rfl, Nat.le_refl _, (aw_end HD3.out HR3.out).1, (aw_end HD3.out HR3.out).2.1, rd_more (aw_end HD3.out HR3.out).2.2 (by omega)⟩
        · have e3 : ((k : Int) == 3) = false := by simp; omega
          clear hk3 hk2 hk1 hk0
          go_wp2
          refine bodyPost_ret (v := .agg #[.int .i64 lim, .int .i64 each, (.slice (some ⟨b1, 0, none⟩) 8 c1)]) (by simp [results, Try.results56, go_sem, o0, o1, o2]) rfl ⟨lim, each, _, 8, c1, us, rfl, Nat.le_refl _, (aw_end HD2.out hr2'.out).1, (aw_end HD2.out hr2'.out).2.1, rd_more (aw_end HD2.out hr2'.out).2.2 (by omega)⟩
end Go.Proofs.Ytkbjelchihdajaa
