/-
  Chapter 6: the draw of two lanes. Conditions: none.
  Conditions: each lemma says them.
-/
import Derived.Test.YtkmoiphcpmhacabKy
import Derived.Test.YtkmoiphcpmhacabKm
namespace Go.Proofs.Ytkmoiphcpmhacab
open Go.RowKit

set_option maxRecDepth 100000 in
set_option maxHeartbeats 4000000 in
theorem drawLanesSame_any (A : Option Addr) (n c : Nat) (w : World) (h : Bytes w A n c) :
    Calls Try.prog 15 #[.slice A n c] w (DrawnLL w) := by
  go_enter Try.func15, Try.ntmps15
  go_wp2_with fail
  refine (open_any A n c _ (bytes_below h (below_alloc (below_alloc (Below.refl _ _) _) _))).mono ?_
  rintro e w1 ⟨g, rfl, hg, hb, hr⟩
  have O1 := Lib.hid (blk_below (show Blk ((w.alloc (.cells #[.slice none 0 0, .slice none 0 0, .slice none 0 0] 26)).alloc (.cells #[.slice none 0 0, .slice none 0 0, .slice none 0 0] 26)) w.heap.size 26 #[.slice none 0 0, .slice none 0 0, .slice none 0 0] from blk_alloc (blk_new w _ _) _) hb (by simp <;> omega))
  have P1 := Lib.hid (blk_below (blk_new2 w (.cells #[.slice none 0 0, .slice none 0 0, .slice none 0 0] 26) 26 #[.slice none 0 0, .slice none 0 0, .slice none 0 0]) hb (by simp))
  have W1 := Lib.hid (below_from (below_alloc (below_alloc (Below.refl w.heap.size w) (.cells #[.slice none 0 0, .slice none 0 0, .slice none 0 0] 26)) (.cells #[.slice none 0 0, .slice none 0 0, .slice none 0 0] 26)) hb (by simp <;> omega))
  have hz1 := hb.size
  simp at hz1 hg
  have HR1 := Lib.hid hr
  have gl := rd_lt hr
  clear hb hr
  go_wp2_with fail
  refine (l6Draw_any g 0 _ HR1.out (by omega)).mono ?_
  rintro e w2 ⟨A2, c2, B2, d2, C2, f2, l2, rfl, hv2, hx2, hg2, hr2⟩
  have O2 := Lib.hid (blk_grown O1.out hg2 (by omega))
  have P2 := Lib.hid (blk_grown P1.out hg2 (by omega))
  have W2 := Lib.hid (below_grown W1.out (by omega) hg2 (by omega))
  have hz2 := hg2.size
  have HR2 := Lib.hid hr2
  have HX2 := Lib.hid (lax_lt hx2)
  have HV2 := Lib.hid hv2
  clear hv2 hx2 hg2 hr2 HR1 O1 W1 P1
  go_wp2_with fail
  refine (pick_any g _ 2 _ (rd_alloc HR2.out _) (by omega) (by omega)).mono ?_
  rintro e w3 ⟨k, rfl, hk, hg3, hr3⟩
  have hgA := (g_alloc (g_refl w2 (some g)) (.cells #[.slice A2 4 c2, .slice B2 4 d2, .slice C2 4 f2] 26)).trans hg3
  have T3a := blk_grown (blk_new w2 26 #[.slice A2 4 c2, .slice B2 4 d2, .slice C2 4 f2]) hg3 (by omega)
  have O3a := blk_grown O2.out hgA (by omega)
  have P3a := blk_grown P2.out hgA (by omega)
  have T3 := Lib.hid (show Blk w3.drew _ _ _ from T3a)
  have O3 := Lib.hid (show Blk w3.drew _ _ _ from O3a)
  have P3 := Lib.hid (show Blk w3.drew _ _ _ from P3a)
  clear T3a O3a P3a
  have W3 := Lib.hid (Below.drew (below_grown W2.out (by omega) hgA (by omega)))
  have HX3 := Lib.hid (lax_drew (lax_grown HX2.out hgA fun b hb e => by injection e with e; have := hb.1; omega))
  have HR3 := Lib.hid (show RdAt w3.drew g _ from hr3)
  have hz3 := hg3.size
  simp at hz3
  clear hg3 hr3 hgA HR2 O2 W2 P2 HX2
  obtain ⟨⟨t0, t1, t2⟩, -⟩ := blk_three T3.out
  have u0 : w3.cell? ⟨w2.heap.size, 0, none⟩ = some (.slice A2 4 c2) := t0
  have u1 : w3.cell? ⟨w2.heap.size, 1, none⟩ = some (.slice B2 4 d2) := t1
  have u2 : w3.cell? ⟨w2.heap.size, 2, none⟩ = some (.slice C2 4 f2) := t2
  clear t0 t1 t2
  by_cases hk0 : k = 0
  · subst hk0
    go_wp2_with fail
    go_region_with (go_at_call 62
                    refine (copyLS_any A2 4 c2 B2 4 d2 C2 4 f2 l2 _ (lax_lr HX3.out)).mono ?_
                    rintro e w4 ⟨A4, n4, c4, B4, m4, d4, C4, o4, f4, hs4, iv4, rfl, e1, e2, e3, hL4, hI4, hb4⟩
                    obtain ⟨e4, e5, e6⟩ : n4 = 4 ∧ m4 = 4 ∧ o4 = 4 := by have := HV2.out.n0; have := HV2.out.n1; have := HV2.out.n2; omega
                    subst e4 e5 e6
                    have O4 := Lib.hid (blk_below O3.out hb4 (blk_lt O3.out))
                    have P4 := Lib.hid (blk_below P3.out hb4 (blk_lt P3.out))
                    have T4 := Lib.hid (blk_below T3.out hb4 (blk_lt T3.out))
                    have W4 := Lib.hid (below_from W3.out hb4 W3.out.size)
                    have HX4 := Lib.hid (lax_below HX3.out hb4)
                    have HY4 := Lib.hid (lax_lo (X := fun b => w3.heap.size ≤ b) hL4 (by omega) (by omega) (by omega) fun b h1 _ => h1)
                    have hz4 : w3.heap.size ≤ w4.heap.size := hb4.size
                    obtain ⟨⟨o0, o1, o2⟩, of0, of1, of2⟩ := blk_three O4.out
                    obtain ⟨⟨p0, p1, p2⟩, pf0, pf1, pf2⟩ := blk_three P4.out
                    obtain ⟨⟨x0, x1, x2⟩, xf0, xf1, xf2⟩ := blk_three T4.out
                    have zo := blk_lt O4.out
                    have zp := blk_lt P4.out
                    have zt := blk_lt T4.out
                    clear e1 e2 e3 hL4 hI4 hb4)
    all_goals
        go_wp2
        refine bodyPost_ret (v := .tuple #[.agg #[.slice A2 4 c2, .slice B2 4 d2, .slice C2 4 f2], .agg #[.slice A4 4 c4, .slice B4 4 d4, .slice C4 4 f4]]) (by simp [results, Try.results15, go_sem, o0, o1, o2, p0, p1, p2]) rfl ⟨A2, 4, c2, B2, d2, C2, f2, l2, A4, 4, c4, B4, d4, C4, f4, l2, rfl, ?_, ?_, ?_⟩
        · refine lax_lr (X := fun b => w1.heap.size ≤ b ∧ b < w2.heap.size) ?_
          iterate 6 (with_reducible refine lax_set ?_ (by simp <;> omega) _)
          exact HX4.out
        · refine lax_lr (X := fun b => w3.heap.size ≤ b) ?_
          iterate 6 (with_reducible refine lax_set ?_ (by simp <;> omega) _)
          exact HY4.out
        · iterate 6 (with_reducible refine Below.setCell ?_ (by simp <;> omega) _)
          exact W4.out
  · have e0 : ((k : Int) == 0) = false := by simp; omega
    go_wp2_with fail
    go_region_with (go_at_call 63
                    refine (l6Wrong_any g _ A2 4 c2 B2 d2 C2 f2 l2 _ HR3.out (by omega) (lax_lr HX3.out) (by omega) (by omega)).mono ?_
                    rintro e w4 ⟨A4, n4, c4, B4, d4, C4, f4, l4, rfl, hn4, hm4, hx4, hg4, hr4⟩
                    have O4 := Lib.hid (blk_grown O3.out hg4 (by omega))
                    have P4 := Lib.hid (blk_grown P3.out hg4 (by omega))
                    have T4 := Lib.hid (blk_grown T3.out hg4 (by omega))
                    have W4 := Lib.hid (below_grown W3.out W3.out.size hg4 (by omega))
                    have HX4 := Lib.hid (lax_grown HX3.out hg4 fun b hb e => by injection e with e; have := hb.1; omega)
                    have HY4 := Lib.hid (lax_mono hx4 (Y := fun b => w3.heap.size ≤ b) fun b hb _ => hb)
                    have hz4 : w3.heap.size ≤ w4.heap.size := hg4.size
                    obtain ⟨⟨o0, o1, o2⟩, of0, of1, of2⟩ := blk_three O4.out
                    obtain ⟨⟨p0, p1, p2⟩, pf0, pf1, pf2⟩ := blk_three P4.out
                    obtain ⟨⟨x0, x1, x2⟩, xf0, xf1, xf2⟩ := blk_three T4.out
                    have zo := blk_lt O4.out
                    have zp := blk_lt P4.out
                    have zt := blk_lt T4.out
                    clear hx4 hg4 hr4)
    all_goals
        go_wp2
        refine bodyPost_ret (v := .tuple #[.agg #[.slice A2 4 c2, .slice B2 4 d2, .slice C2 4 f2], .agg #[.slice A4 n4 c4, .slice B4 4 d4, .slice C4 4 f4]]) (by simp [results, Try.results15, go_sem, o0, o1, o2, p0, p1, p2]) rfl ⟨A2, 4, c2, B2, d2, C2, f2, l2, A4, n4, c4, B4, d4, C4, f4, l4, rfl, ?_, ?_, ?_⟩
        · refine lax_lr (X := fun b => w1.heap.size ≤ b ∧ b < w2.heap.size) ?_
          iterate 6 (with_reducible refine lax_set ?_ (by simp <;> omega) _)
          exact HX4.out
        · refine lax_lr (X := fun b => w3.heap.size ≤ b) ?_
          iterate 6 (with_reducible refine lax_set ?_ (by simp <;> omega) _)
          exact HY4.out
        · iterate 6 (with_reducible refine Below.setCell ?_ (by simp <;> omega) _)
          exact W4.out
end Go.Proofs.Ytkmoiphcpmhacab
