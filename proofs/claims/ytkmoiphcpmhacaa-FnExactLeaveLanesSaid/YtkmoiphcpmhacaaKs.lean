/-
  Chapter 6: the program's takeOfLane. Conditions: the lanes are valid, the lane is the one in turn. Chapter 6: the program's TakeLanes. Conditions: the lanes that are handed in are valid, the number is not below zero (refusals apart).
  Conditions: each lemma says them.
-/
import Derived.Test.YtkmoiphcpmhacaaKr
import Derived.Test.YtkmoiphcpmhacaaKe
import Derived.Test.YtkmoiphcpmhacaaKj
import Derived.Test.YtkmoiphcpmhacaaKk
import Derived.Test.YtkmoiphcpmhacaaKl
import Derived.Test.YtkmoiphcpmhacaaKn
import Derived.Test.YtkmoiphcpmhacaaKa
import Derived.Test.YtkmoiphcpmhacaaKf
namespace Go.Proofs.Ytkmoiphcpmhacaa
open Go.RowKit

def ToPost (w : World) (X : Nat → Prop) (l : Ln) (i : Nat) (e : Ending) (w' : World) : Prop :=
  ∃ A c B d C f, e = .returned (.tuple #[.agg #[.slice A 4 c, .slice B 4 d, .slice C 4 f], .agg #[.int .i64 (nxQ l i).peer, .int .i64 (nxQ l i).lane, .int .i64 (nxQ l i).size, .int .i64 (nxQ l i).id]]) ∧ LRX w' (fun b => X b ∨ w.heap.size ≤ b) A 4 B 4 C 4 (nxN l i) ∧ Below w.heap.size w w'
theorem out3_l {w : World} {X : Nat → Prop} (hX : ∀ b, X b → b < w.heap.size) {g : Nat} (h1 : w.heap.size ≤ g) (h2 : g < w.heap.size + 3) : ¬ (fun b => X b ∨ w.heap.size + 3 ≤ b) g := fun hb => hb.elim (fun h => by have := hX g h; omega) fun h => by omega
set_option maxRecDepth 100000 in
set_option maxHeartbeats 8000000 in
theorem toI_any (X : Nat → Prop) (A : Option Addr) (c : Nat) (B : Option Addr) (d : Nat) (C : Option Addr) (f : Nat) (l : Ln) (i : Nat) (w : World) (h : LRX w X A 4 B 4 C 4 l) (hX : ∀ b, X b → b < w.heap.size) (hv : LV l) (ht : Turn6 l i) :
    Calls Try.prog 64 #[.agg #[.slice A 4 c, .slice B 4 d, .slice C 4 f], .int .i64 (i : Int)] w (ToPost w X l i) := by
  have H := Lib.hid h
  have HV := Lib.hid hv
  obtain ⟨r, x, y, hr, hn, hx, hy, hR, hi4, x0', xy, y1', y9⟩ := turn_get hv ht
  have HG := Lib.hid hr
  have HX := Lib.hid hx
  have HY := Lib.hid hy
  have HNE := Lib.hid hn
  have HRL := Lib.hid hR
  have F := Lib.hid (fm_three w 26 26 29 #[.slice A 4 c, .slice B 4 d, .slice C 4 f] #[.slice none 0 0, .slice none 0 0, .slice none 0 0] #[.int .i64 0, .int .i64 0, .int .i64 0, .int .i64 0])
  have k0' : (0 : Int) ≤ (i : Int) := by omega
  have k1' : (i : Int) < 4 := by omega
  obtain ⟨⟨y0, y1, y2⟩, yf0, yf1, yf2⟩ := blk_three (fm_blk F.out 0 rfl)
  clear h hv hr hx hy hn hR ht
  go_enter Try.func64, Try.ntmps64
  go_wp2_with fail
  refine (cloneN_any C 4 f l.cs _ (nr_below H.out.cr.1 F.out.below) (by omega)).mono ?_
  rintro e w2 ⟨C2, f2, rfl, ho, hb⟩
  have F2 := Lib.hid (fm_below F.out hb)
  have Z2 := Lib.hid hb.size
  obtain ⟨gC, fC, hvC, hgC, hgC2⟩ := ho.form (by omega)
  obtain ⟨rfl, rfl⟩ : C2 = some ⟨gC, 0, none⟩ ∧ f2 = fC := by injection hvC with a1 a2 a3; exact ⟨a1, a3⟩
  have OC := Lib.hid ho
  have e0 := own_int_at7 ho HX.out
  have ef0 := World.ownsRow.frozenAt ho i
  clear hb hvC ho y0 y1 y2 yf0 yf1 yf2 F
  obtain ⟨⟨y0, y1, y2⟩, yf0, yf1, yf2⟩ := blk_three (fm_blk F2.out 0 rfl)
  have zg := Z2.out
  simp at zg hgC
  by_cases hx0 : 0 < x
  · have HNN := Lib.hid (nxN_yes HG.out HX.out hx0)
    have hxe : (x == 0) = false := by simp; omega
    have yw : IntKind.i64.wrap (x - 1) = x - 1 := IntWalk.i64_in _ (by omega)
    go_wp2_with fail
    have F3 := Lib.hid (fm_out (k := i) F2.out (g := gC) (fun z hz => by
      simp only [List.mem_cons, List.not_mem_nil, or_false] at hz
      rcases hz with rfl | rfl | rfl <;> (simp only; omega)) (by omega) (.int .i64 (x - 1)))
    have OC3 := Lib.hid (own_set_int OC.out i (x - 1))
    have HR3 := Lib.hid (lrx_set (lrx_below H.out F2.out.below) (p := ⟨gC, i, none⟩) (fun hb => by have := hX _ hb; simp at this; omega) (.int .i64 (x - 1)))
    generalize (w2.setCell ⟨gC, i, none⟩ (.int .i64 (x - 1))) = w3 at F3 OC3 HR3 ⊢
    clear e0 ef0 F2 OC y0 y1 y2 yf0 yf1 yf2
    obtain ⟨⟨y0, y1, y2⟩, yf0, yf1, yf2⟩ := blk_three (fm_blk F3.out 0 rfl)
    obtain ⟨hs, hq, hqX, hql, hqa, -⟩ := HR3.out.r
    have HQ3 := Lib.hid hq
    have HQA := Lib.hid hqa
    have HQX := Lib.hid hqX
    have HL3 := Lib.hid (show hs.length = l.rs.length from hql)
    clear hq hqa hqX hql
    refine (cloneR_any A 4 c hs _ HQ3.out (by omega)).mono ?_
    rintro e w4 ⟨A4, c4, rfl, ho4, hb4⟩
    have F4 := Lib.hid (fm_below F3.out hb4)
    have OC4 := Lib.hid (own_below OC3.out hb4)
    have Z4 := Lib.hid hb4.size
    have S4 := Lib.hid (sam_below (X := X) hb4)
    obtain ⟨g, cap, hvA, hg4, hglt⟩ := ho4.form (by omega)
    obtain ⟨rfl, rfl⟩ : A4 = some ⟨g, 0, none⟩ ∧ c4 = cap := by injection hvA with a1 a2 a3; exact ⟨a1, a3⟩
    have OR4 := Lib.hid ho4
    obtain ⟨bb, oo, hh, ea, hbb, hhk, d0, d1⟩ := hq_at (hq_below HQ3.out hb4) hi4
    have HH := Lib.hid hhk
    obtain ⟨hq1, hfr⟩ := HQA.out i hh r hhk HG.out
    have HFR := Lib.hid (frx_below hfr hb4)
    subst ea
    clear hb4 hvA ho4 hhk hfr y0 y1 y2 yf0 yf1 yf2
    obtain ⟨⟨y0, y1, y2⟩, yf0, yf1, yf2⟩ := blk_three (fm_blk F4.out 0 rfl)
    rw [hq1] at d0
    go_wp2_with fail
    refine (takeI_any X r.q hh.A hh.n hh.c r.fs _ HFR.out (fun b hb => by have := hX b hb; have := Z4.out; have := F3.out.below.size; omega) HRL.out.rv HNE.out).mono ?_
    rintro e w5 ⟨A5, n5, c5, rfl, hf5, hb5⟩
    have F5 := Lib.hid (fm_below F4.out hb5)
    have OC5 := Lib.hid (own_below OC4.out hb5)
    have OR5 := Lib.hid (own_below OR4.out hb5)
    have S5 := Lib.hid (sam_trans S4.out (sam_below (X := X) hb5))
    have HF5 := Lib.hid hf5
    have Z5 := Lib.hid hb5.size
    clear hb5 hf5 y0 y1 y2 yf0 yf1 yf2 d0 d1 HFR F4 OC4 OR4 S4
    have HQ := Lib.hid (nxQ_eq HG.out)
    have RB := Lib.hid (show Blk ((w5.alloc (.cells #[.int .i64 r.q, .slice A5 n5 c5] 37)).alloc (.cells #[.int .i64 (nxP r.q r.fs).peer, .int .i64 (nxP r.q r.fs).lane, .int .i64 (nxP r.q r.fs).size, .int .i64 (nxP r.q r.fs).id] 29)) w5.heap.size 37 #[.int .i64 r.q, .slice A5 n5 c5] from blk_alloc (blk_new w5 _ _) _)
    have PB := Lib.hid (show Blk ((w5.alloc (.cells #[.int .i64 r.q, .slice A5 n5 c5] 37)).alloc (.cells #[.int .i64 (nxP r.q r.fs).peer, .int .i64 (nxP r.q r.fs).lane, .int .i64 (nxP r.q r.fs).size, .int .i64 (nxP r.q r.fs).id] 29)) (w5.heap.size + 1) 29 #[.int .i64 (nxP r.q r.fs).peer, .int .i64 (nxP r.q r.fs).lane, .int .i64 (nxP r.q r.fs).size, .int .i64 (nxP r.q r.fs).id] from blk_new2 w5 _ _ _)
    generalize nxP r.q r.fs = pk at *
    have B8 : Below w5.heap.size w5 ((w5.alloc (.cells #[.int .i64 r.q, .slice A5 n5 c5] 37)).alloc (.cells #[.int .i64 pk.peer, .int .i64 pk.lane, .int .i64 pk.size, .int .i64 pk.id] 29)) := below_alloc (below_alloc (Below.refl _ _) _) _
    go_upto_region 7 with fail
    have F8 := Lib.hid (fm_below F5.out B8)
    have OC8 := Lib.hid (own_below OC5.out B8)
    have OR8 := Lib.hid (own_below OR5.out B8)
    have S8 := Lib.hid (sam_trans S5.out (sam_below (X := X) B8))
    have HF8 := Lib.hid (frx_below HF5.out B8)
    clear B8 F5 OC5 OR5 S5 HF5
    generalize ((w5.alloc (.cells #[.int .i64 r.q, .slice A5 n5 c5] 37)).alloc (.cells #[.int .i64 pk.peer, .int .i64 pk.lane, .int .i64 pk.size, .int .i64 pk.id] 29)) = W8 at F8 OC8 OR8 S8 HF8 RB PB ⊢
    obtain ⟨b0, b1, -, -⟩ := blk_two RB.out
    obtain ⟨⟨p0, p1, p2, p3⟩, -⟩ := blk_fourR PB.out
    have zR := blk_lt RB.out
    have zP := blk_lt PB.out
    have z3 : w.heap.size + 3 ≤ w3.heap.size := (by have := blk_lt (fm_blk F3.out 2 rfl); omega)
    have zC3 : gC < w3.heap.size := (OC3.out.lt gC rfl).2
    have z4 := Z4.out
    have z5 := Z5.out
    obtain ⟨b9, o9, h9, ea9, -, -, d0, d1⟩ := hq_at (hq_own OR8.out) hi4
    obtain ⟨rfl, rfl⟩ : g = b9 ∧ 0 = o9 := by injection ea9 with ea9; injection ea9 with a b; exact ⟨a, b⟩
    rw [Nat.zero_add] at d0 d1
    have df0 := World.ownsRow.frozenAt OR8.out (i * 2)
    have df1 := World.ownsRow.frozenAt OR8.out (i * 2 + 1)
    obtain ⟨⟨y0, y1, y2⟩, yf0, yf1, yf2⟩ := blk_three (fm_blk F8.out 0 rfl)
    obtain ⟨⟨o0, o1, o2⟩, of0, of1, of2⟩ := blk_three (fm_blk F8.out 1 rfl)
    obtain ⟨⟨k0, k1, k2, k3⟩, kf0, kf1, kf2, kf3⟩ := blk_fourR (fm_blk F8.out 2 rfl)
    have zo1 := blk_lt (fm_blk F8.out 1 rfl)
    have zo2 := blk_lt (fm_blk F8.out 2 rfl)
    have FB := Lib.hid F8.out.below
    have row := ((OR8.out.stored (i * 2) (.int .i64 r.q)).1.stored (i * 2 + 1) (.slice A5 n5 c5)).1
    have hst := rcells_set hs i ⟨r.q, A5, n5, c5⟩
    simp only at hst
    rw [hst] at row
    have L9 : Hid (LRX ((W8.setCell ⟨g, i * 2, none⟩ (.int .i64 r.q)).setCell ⟨g, i * 2 + 1, none⟩ (.slice A5 n5 c5)) (fun b => X b ∨ w.heap.size + 3 ≤ b) (some ⟨g, 0, none⟩) 4 B 4 (some ⟨gC, 0, none⟩) 4 ⟨l.rs.set i ⟨r.q, nxL r.q r.fs⟩, l.ws, (l.cs.set i (x - 1))⟩) := by
      have hgX : ¬ X g := fun hb => by have := hX g hb; omega
      have S9 := sam_trans S8.out (sam_trans (sam_set (X := X) (w := W8) (p := ⟨g, i * 2, none⟩) hgX (.int .i64 r.q)) (sam_set (X := X) (p := ⟨g, i * 2 + 1, none⟩) hgX (.slice A5 n5 c5)))
      have hgY : ¬ (X g ∨ w4.heap.size ≤ g) := fun hb => hb.elim hgX fun h2 => by omega
      refine Lib.hid ⟨own_rrx row HL3.out (by omega) (fun b hb => .inr (by omega)) (fun k p q hk e1 e2 => ?_) ?_, nrx_mono (nrx_sam HR3.out.wt S9) fun b hb => .inl hb, own_nrx (own_set_ne (own_set_ne OC8.out (fun e => by simp [Value.ownBlock] at e; omega) _) (fun e => by simp [Value.ownBlock] at e; omega) _) fun b hb => .inr (by have hb' := hb; simp at hb'; omega), by omega, by omega⟩
      · obtain ⟨a1, a2⟩ := HQA.out k p q e1 e2
        exact ⟨a1, frx_mono (sam_frx a2 S9 fun b hb _ => hb) fun b hb => .inl hb⟩
      · exact frx_mono (frx_set (frx_set HF8.out (p := ⟨g, i * 2, none⟩) hgY _) (p := ⟨g, i * 2 + 1, none⟩) hgY _) fun b hb => hb.imp id fun h2 => by omega
    clear row hst ea9
    go_wp2_with fail
    go_region
    all_goals
      go_wp2
      refine bodyPost_ret (v := .tuple #[.agg #[.slice (some ⟨g, 0, none⟩) 4 c4, .slice B 4 d, .slice (some ⟨gC, 0, none⟩) 4 f2], .agg #[.int .i64 pk.peer, .int .i64 pk.lane, .int .i64 pk.size, .int .i64 pk.id]]) (by simp [results, Try.results64, go_sem, o0, o1, o2, k0, k1, k2, k3]) rfl ⟨some ⟨g, 0, none⟩, c4, B, d, some ⟨gC, 0, none⟩, f2, by rw [HQ.out], ?_, ?_⟩
      · rw [HNN.out]
        refine lrx_mono (X := fun b => X b ∨ w.heap.size + 3 ≤ b) ?_ fun b hb => hb.imp id fun h2 => by omega
        repeat (first | (with_reducible refine lrx_drewN ?_ _) | (with_reducible refine lrx_drew ?_))
        iterate 7 (with_reducible refine lrx_set ?_ (out3_l hX (by simp <;> omega) (by simp <;> omega)) _)
        exact L9.out
      · repeat (first | (with_reducible refine below_drewN ?_ _) | (with_reducible refine Below.drew ?_))
        iterate 9 (with_reducible refine Below.setCell ?_ (by simp <;> omega) _)
        exact FB.out
  · have HNN := Lib.hid (nxN_no HG.out HX.out HY.out hx0)
    have hxe : (x == 0) = true := by simp; omega
    have yw : IntKind.i64.wrap (y - 1) = y - 1 := IntWalk.i64_in _ (by omega)
    have hwl : l.ws.length = 4 := HV.out.n1
    have HWN := Lib.hid (nr_below H.out.wt.1 (below_seq F2.out.below (Below.refl _ _)))
    obtain ⟨bB, oB, -, eB, hbB, -, -⟩ := nr_at HWN.out (k := 0) (by omega)
    subst eB
    have hrun := run_copy_sized (P := Try.prog) w2 24 24 3 3 1 gC 0 4 f2 ⟨bB, oB, none⟩ 4 d (icells l.ws) Try.underlying24 (by rfl) (by simp [icells, hwl]) (fun j v hj => by
      obtain ⟨x', hx', rfl⟩ := icells_at hj
      obtain ⟨b', o', x'', e, -, hx'', hc⟩ := nr_at HWN.out (k := j) (by have := get_lt hx'; omega)
      obtain ⟨rfl, rfl⟩ : bB = b' ∧ oB = o' := by injection e with e; injection e with a b; exact ⟨a, b⟩
      obtain rfl : x' = x'' := Option.some.inj (hx'.symm.trans hx'')
      have ha : (⟨bB, oB, none⟩ : Addr).add j = ⟨bB, oB + j, none⟩ := by unfold Addr.add; split <;> simp_all
      rw [ha]
      exact hc) (fun j hj => by
      have hj' : j < 4 := by rw [icells_len] at hj; omega
      rw [OC.out.cellAt (0 + j) (by omega), List.getElem?_eq_getElem (by rw [OC.out.1]; omega)]
      rfl) (fun j _ => World.ownsRow.frozenAt OC.out (0 + j)) (icells_one _)
    go_upto_region 4 with fail
    have OW := Lib.hid (own_setCells (icells l.ws) 0 OC.out)
    have hset : setLs (icells l.cs) 0 (icells l.ws) = icells l.ws := by
      refine List.ext_getElem? fun j => ?_
      have hcl : l.cs.length = 4 := HV.out.n2
      rw [setLs_get _ _ _ _ (by rw [icells_len, icells_len]; omega)]
      split
      · simp
      · rw [List.getElem?_eq_none (by rw [icells_len]; rw [icells_len] at *; omega), List.getElem?_eq_none (by rw [icells_len]; rw [icells_len] at *; omega)]
    rw [hset] at OW
    have GW := grown_setCellsR (g := gC) (icells l.ws) 0 (g_refl w2 (some gC))
    have FW := Lib.hid (fm_grownO F2.out GW fun b e => by
      injection e with e
      subst e
      refine ⟨by omega, fun z hz => ?_⟩
      simp only [List.mem_cons, List.not_mem_nil, or_false] at hz
      rcases hz with rfl | rfl | rfl <;> (simp only; omega))
    have HW := Lib.hid (lrx_grown (lrx_below H.out F2.out.below) GW fun b hb e => by injection e with e; have := hX b hb; omega)
    clear hrun hset GW e0 ef0 y0 y1 y2 yf0 yf1 yf2
    generalize w2.setCells gC 0 (icells l.ws) = V2 at OW FW HW ⊢
    clear OC F2 HWN
    have e0 := own_int_at7 OW.out HY.out
    have ef0 := World.ownsRow.frozenAt OW.out i
    obtain ⟨⟨y0, y1, y2⟩, yf0, yf1, yf2⟩ := blk_three (fm_blk FW.out 0 rfl)
    have zV := (OW.out.lt gC rfl).2
    go_wp2_with fail
    have F3 := Lib.hid (fm_out (k := i) FW.out (g := gC) (fun z hz => by
      simp only [List.mem_cons, List.not_mem_nil, or_false] at hz
      rcases hz with rfl | rfl | rfl <;> (simp only; omega)) (by omega) (.int .i64 (y - 1)))
    have OC3 := Lib.hid (own_set_int OW.out i (y - 1))
    have HR3 := Lib.hid (lrx_set HW.out (p := ⟨gC, i, none⟩) (fun hb => by have := hX _ hb; simp at this; omega) (.int .i64 (y - 1)))
    generalize (V2.setCell ⟨gC, i, none⟩ (.int .i64 (y - 1))) = w3 at F3 OC3 HR3 ⊢
    clear e0 ef0 FW OW HW y0 y1 y2 yf0 yf1 yf2
    obtain ⟨⟨y0, y1, y2⟩, yf0, yf1, yf2⟩ := blk_three (fm_blk F3.out 0 rfl)
    obtain ⟨hs, hq, hqX, hql, hqa, -⟩ := HR3.out.r
    have HQ3 := Lib.hid hq
    have HQA := Lib.hid hqa
    have HQX := Lib.hid hqX
    have HL3 := Lib.hid (show hs.length = l.rs.length from hql)
    clear hq hqa hqX hql
    refine (cloneR_any A 4 c hs _ HQ3.out (by omega)).mono ?_
    rintro e w4 ⟨A4, c4, rfl, ho4, hb4⟩
    have F4 := Lib.hid (fm_below F3.out hb4)
    have OC4 := Lib.hid (own_below OC3.out hb4)
    have Z4 := Lib.hid hb4.size
    have S4 := Lib.hid (sam_below (X := X) hb4)
    obtain ⟨g, cap, hvA, hg4, hglt⟩ := ho4.form (by omega)
    obtain ⟨rfl, rfl⟩ : A4 = some ⟨g, 0, none⟩ ∧ c4 = cap := by injection hvA with a1 a2 a3; exact ⟨a1, a3⟩
    have OR4 := Lib.hid ho4
    obtain ⟨bb, oo, hh, ea, hbb, hhk, d0, d1⟩ := hq_at (hq_below HQ3.out hb4) hi4
    have HH := Lib.hid hhk
    obtain ⟨hq1, hfr⟩ := HQA.out i hh r hhk HG.out
    have HFR := Lib.hid (frx_below hfr hb4)
    subst ea
    clear hb4 hvA ho4 hhk hfr y0 y1 y2 yf0 yf1 yf2
    obtain ⟨⟨y0, y1, y2⟩, yf0, yf1, yf2⟩ := blk_three (fm_blk F4.out 0 rfl)
    rw [hq1] at d0
    go_wp2_with fail
    refine (takeI_any X r.q hh.A hh.n hh.c r.fs _ HFR.out (fun b hb => by have := hX b hb; have := Z4.out; have := F3.out.below.size; omega) HRL.out.rv HNE.out).mono ?_
    rintro e w5 ⟨A5, n5, c5, rfl, hf5, hb5⟩
    have F5 := Lib.hid (fm_below F4.out hb5)
    have OC5 := Lib.hid (own_below OC4.out hb5)
    have OR5 := Lib.hid (own_below OR4.out hb5)
    have S5 := Lib.hid (sam_trans S4.out (sam_below (X := X) hb5))
    have HF5 := Lib.hid hf5
    have Z5 := Lib.hid hb5.size
    clear hb5 hf5 y0 y1 y2 yf0 yf1 yf2 d0 d1 HFR F4 OC4 OR4 S4
    have HQ := Lib.hid (nxQ_eq HG.out)
    have RB := Lib.hid (show Blk ((w5.alloc (.cells #[.int .i64 r.q, .slice A5 n5 c5] 37)).alloc (.cells #[.int .i64 (nxP r.q r.fs).peer, .int .i64 (nxP r.q r.fs).lane, .int .i64 (nxP r.q r.fs).size, .int .i64 (nxP r.q r.fs).id] 29)) w5.heap.size 37 #[.int .i64 r.q, .slice A5 n5 c5] from blk_alloc (blk_new w5 _ _) _)
    have PB := Lib.hid (show Blk ((w5.alloc (.cells #[.int .i64 r.q, .slice A5 n5 c5] 37)).alloc (.cells #[.int .i64 (nxP r.q r.fs).peer, .int .i64 (nxP r.q r.fs).lane, .int .i64 (nxP r.q r.fs).size, .int .i64 (nxP r.q r.fs).id] 29)) (w5.heap.size + 1) 29 #[.int .i64 (nxP r.q r.fs).peer, .int .i64 (nxP r.q r.fs).lane, .int .i64 (nxP r.q r.fs).size, .int .i64 (nxP r.q r.fs).id] from blk_new2 w5 _ _ _)
    generalize nxP r.q r.fs = pk at *
    have B8 : Below w5.heap.size w5 ((w5.alloc (.cells #[.int .i64 r.q, .slice A5 n5 c5] 37)).alloc (.cells #[.int .i64 pk.peer, .int .i64 pk.lane, .int .i64 pk.size, .int .i64 pk.id] 29)) := below_alloc (below_alloc (Below.refl _ _) _) _
    go_upto_region 7 with fail
    have F8 := Lib.hid (fm_below F5.out B8)
    have OC8 := Lib.hid (own_below OC5.out B8)
    have OR8 := Lib.hid (own_below OR5.out B8)
    have S8 := Lib.hid (sam_trans S5.out (sam_below (X := X) B8))
    have HF8 := Lib.hid (frx_below HF5.out B8)
    clear B8 F5 OC5 OR5 S5 HF5
    generalize ((w5.alloc (.cells #[.int .i64 r.q, .slice A5 n5 c5] 37)).alloc (.cells #[.int .i64 pk.peer, .int .i64 pk.lane, .int .i64 pk.size, .int .i64 pk.id] 29)) = W8 at F8 OC8 OR8 S8 HF8 RB PB ⊢
    obtain ⟨b0, b1, -, -⟩ := blk_two RB.out
    obtain ⟨⟨p0, p1, p2, p3⟩, -⟩ := blk_fourR PB.out
    have zR := blk_lt RB.out
    have zP := blk_lt PB.out
    have z3 : w.heap.size + 3 ≤ w3.heap.size := (by have := blk_lt (fm_blk F3.out 2 rfl); omega)
    have zC3 : gC < w3.heap.size := (OC3.out.lt gC rfl).2
    have z4 := Z4.out
    have z5 := Z5.out
    obtain ⟨b9, o9, h9, ea9, -, -, d0, d1⟩ := hq_at (hq_own OR8.out) hi4
    obtain ⟨rfl, rfl⟩ : g = b9 ∧ 0 = o9 := by injection ea9 with ea9; injection ea9 with a b; exact ⟨a, b⟩
    rw [Nat.zero_add] at d0 d1
    have df0 := World.ownsRow.frozenAt OR8.out (i * 2)
    have df1 := World.ownsRow.frozenAt OR8.out (i * 2 + 1)
    obtain ⟨⟨y0, y1, y2⟩, yf0, yf1, yf2⟩ := blk_three (fm_blk F8.out 0 rfl)
    obtain ⟨⟨o0, o1, o2⟩, of0, of1, of2⟩ := blk_three (fm_blk F8.out 1 rfl)
    obtain ⟨⟨k0, k1, k2, k3⟩, kf0, kf1, kf2, kf3⟩ := blk_fourR (fm_blk F8.out 2 rfl)
    have zo1 := blk_lt (fm_blk F8.out 1 rfl)
    have zo2 := blk_lt (fm_blk F8.out 2 rfl)
    have FB := Lib.hid F8.out.below
    have row := ((OR8.out.stored (i * 2) (.int .i64 r.q)).1.stored (i * 2 + 1) (.slice A5 n5 c5)).1
    have hst := rcells_set hs i ⟨r.q, A5, n5, c5⟩
    simp only at hst
    rw [hst] at row
    have L9 : Hid (LRX ((W8.setCell ⟨g, i * 2, none⟩ (.int .i64 r.q)).setCell ⟨g, i * 2 + 1, none⟩ (.slice A5 n5 c5)) (fun b => X b ∨ w.heap.size + 3 ≤ b) (some ⟨g, 0, none⟩) 4 (some ⟨bB, oB, none⟩) 4 (some ⟨gC, 0, none⟩) 4 ⟨l.rs.set i ⟨r.q, nxL r.q r.fs⟩, l.ws, (l.ws.set i (y - 1))⟩) := by
      have hgX : ¬ X g := fun hb => by have := hX g hb; omega
      have S9 := sam_trans S8.out (sam_trans (sam_set (X := X) (w := W8) (p := ⟨g, i * 2, none⟩) hgX (.int .i64 r.q)) (sam_set (X := X) (p := ⟨g, i * 2 + 1, none⟩) hgX (.slice A5 n5 c5)))
      have hgY : ¬ (X g ∨ w4.heap.size ≤ g) := fun hb => hb.elim hgX fun h2 => by omega
      refine Lib.hid ⟨own_rrx row HL3.out (by omega) (fun b hb => .inr (by omega)) (fun k p q hk e1 e2 => ?_) ?_, nrx_mono (nrx_sam HR3.out.wt S9) fun b hb => .inl hb, own_nrx (own_set_ne (own_set_ne OC8.out (fun e => by simp [Value.ownBlock] at e; omega) _) (fun e => by simp [Value.ownBlock] at e; omega) _) fun b hb => .inr (by have hb' := hb; simp at hb'; omega), by omega, by omega⟩
      · obtain ⟨a1, a2⟩ := HQA.out k p q e1 e2
        exact ⟨a1, frx_mono (sam_frx a2 S9 fun b hb _ => hb) fun b hb => .inl hb⟩
      · exact frx_mono (frx_set (frx_set HF8.out (p := ⟨g, i * 2, none⟩) hgY _) (p := ⟨g, i * 2 + 1, none⟩) hgY _) fun b hb => hb.imp id fun h2 => by omega
    clear row hst ea9
    go_wp2_with fail
    go_region
    all_goals
      go_wp2
      refine bodyPost_ret (v := .tuple #[.agg #[.slice (some ⟨g, 0, none⟩) 4 c4, .slice (some ⟨bB, oB, none⟩) 4 d, .slice (some ⟨gC, 0, none⟩) 4 f2], .agg #[.int .i64 pk.peer, .int .i64 pk.lane, .int .i64 pk.size, .int .i64 pk.id]]) (by simp [results, Try.results64, go_sem, o0, o1, o2, k0, k1, k2, k3]) rfl ⟨some ⟨g, 0, none⟩, c4, some ⟨bB, oB, none⟩, d, some ⟨gC, 0, none⟩, f2, by rw [HQ.out], ?_, ?_⟩
      · rw [HNN.out]
        refine lrx_mono (X := fun b => X b ∨ w.heap.size + 3 ≤ b) ?_ fun b hb => hb.imp id fun h2 => by omega
        repeat (first | (with_reducible refine lrx_drewN ?_ _) | (with_reducible refine lrx_drew ?_))
        iterate 7 (with_reducible refine lrx_set ?_ (out3_l hX (by simp <;> omega) (by simp <;> omega)) _)
        exact L9.out
      · repeat (first | (with_reducible refine below_drewN ?_ _) | (with_reducible refine Below.drew ?_))
        iterate 9 (with_reducible refine Below.setCell ?_ (by simp <;> omega) _)
        exact FB.out
end Go.Proofs.Ytkmoiphcpmhacaa
namespace Go.Proofs.Ytkmoiphcpmhacaa
open Go.RowKit

theorem lrx_lt {w : World} {X : Nat → Prop} {A B C : Option Addr} {n m k : Nat} {l : Ln} (h : LRX w X A n B m C k l) : LRX w (fun b => X b ∧ b < w.heap.size) A n B m C k l := by
  obtain ⟨⟨hs, h1, h2, h3, h4, h5⟩, hb, hc, hm, hk⟩ := h
  exact ⟨⟨hs, h1, fun hn b e => ⟨h2 hn b e, hq_old h1 hn b e⟩, h3, fun k g r e1 e2 => ⟨(h4 k g r e1 e2).1, frx_lt (h4 k g r e1 e2).2⟩, h5⟩, ⟨hb.1, fun hn b e => ⟨hb.2 hn b e, nr_old6 hb.1 hn b e⟩⟩, ⟨hc.1, fun hn b e => ⟨hc.2 hn b e, nr_old6 hc.1 hn b e⟩⟩, hm, hk⟩
def TkINo (w : World) (e : Ending) (w' : World) : Prop :=
  e = .returned (.tuple #[.agg #[.slice none 0 0, .slice none 0 0, .slice none 0 0], .slice none 0 0, .bool false]) ∧ Below w.heap.size w w'
def TkIYes (w : World) (l : Ln) (k : Nat) (e : Ending) (w' : World) : Prop :=
  ∃ A c B d C f tk hs iv s, e = .returned (.tuple #[.agg #[.slice A 4 c, .slice B 4 d, .slice C 4 f], tk, .bool true]) ∧ w.heap.size ≤ s ∧ LO w' s (.slice A 4 c) 4 (.slice B 4 d) 4 (.slice C 4 f) 4 hs iv (tkN k l).1 ∧ (∀ k, (iv k).1 < (iv k).2 → s ≤ (iv k).1) ∧ w'.ownsRow w.heap.size 29 4 tk (tkN k l).2.length (pcells (tkN k l).2) ∧ (∀ b, tk.ownBlock = some b → b < s) ∧ Below w.heap.size w w'
def XI (w : World) (LB : Nat) (tk : Value) (wr : World) (b : Nat) : Prop := b < wr.heap.size ∧ b ≠ LB ∧ b ≠ w.heap.size ∧ b ≠ w.heap.size + 1 ∧ tk.ownBlock ≠ some b
structure TkI (w : World) (va : Array Value) (LB : Nat) (l : Ln) (k : Nat) (tk : Value) (A : Option Addr) (c : Nat) (B : Option Addr) (d : Nat) (C : Option Addr) (f : Nat) (wr : World) : Prop where
  fm : Fm w [⟨w.heap.size, w.heap.size + 1, BoxP w.heap.size 26 va⟩, ⟨w.heap.size + 1, w.heap.size + 2, BoxP (w.heap.size + 1) 26 #[.slice none 0 0, .slice none 0 0, .slice none 0 0]⟩] wr
  out : Blk wr LB 26 #[.slice A 4 c, .slice B 4 d, .slice C 4 f]
  lx : LRX wr (XI w LB tk wr) A 4 B 4 C 4 (tkN k l).1
  own : wr.ownsRow (w.heap.size + 2) 29 4 tk (tkN k l).2.length (pcells (tkN k l).2)
  sep : tk.ownBlock ≠ some LB
  hL : w.heap.size + 2 ≤ LB
  len : (tkN k l).2.length = k
section
variable {w w1 w2 w3 w6 : World} {va : Array Value} {LB k c d f i c3 d3 f3 : Nat} {l : Ln} {tk v6 : Value} {A B C A3 B3 C3 : Option Addr}
theorem tki_below (T : TkI w va LB l k tk A c B d C f w1) (hb : Below w1.heap.size w1 w2) : TkI w va LB l k tk A c B d C f w2 :=
  ⟨fm_below T.fm hb, blk_below T.out hb (blk_lt T.out), lrx_mono (lrx_below T.lx hb) fun _ h => ⟨Nat.lt_of_lt_of_le h.1 hb.size, h.2⟩, own_below T.own hb, T.sep, T.hL, T.len⟩
theorem tki_next (T : TkI w va LB l k tk A c B d C f w1) (ht : Turn6 (tkN k l).1 i) (hb : Below w1.heap.size w1 w3) (hx : LRX w3 (fun b => XI w LB tk w1 b ∨ w1.heap.size ≤ b) A3 4 B3 4 C3 4 (nxN (tkN k l).1 i))
    (ho : w6.ownsRow (w.heap.size + 2) 29 4 v6 (k + 1) (pcells ((tkN k l).2 ++ [nxQ (tkN k l).1 i]))) (hg : (((w3.setCell ⟨LB, 0, none⟩ (.slice A3 4 c3)).setCell ⟨LB, 1, none⟩ (.slice B3 4 d3)).setCell ⟨LB, 2, none⟩ (.slice C3 4 f3)).grownBy w6 tk.ownBlock) (hat : v6.ownBlock = tk.ownBlock ∨ ∃ g, v6.ownBlock = some g ∧ w3.heap.size ≤ g) :
    TkI w va LB l (k + 1) v6 A3 c3 B3 d3 C3 f3 w6 := by
  have hR := blk_lt T.out
  have hz := hb.size
  have h3 := T.hL
  have hw : w.heap.size + 2 ≤ w1.heap.size := by have := blk_lt (fm_blk T.fm 1 rfl); omega
  have hlo : ∀ g, tk.ownBlock = some g → w.heap.size + 2 ≤ g ∧ g < w1.heap.size := fun g e => T.own.lt g e
  have hsep : v6.ownBlock ≠ some LB := fun e => by
    rcases hat with h | ⟨g2, h, h2⟩
    · exact T.sep (h.symm.trans e)
    · rw [h] at e; injection e with e; omega
  have hE := tkN_snoc ht
  have hz6 := hg.size
  simp at hz6
  refine ⟨?_, ?_, ?_, ?_, hsep, T.hL, ?_⟩
  · refine fm_grownO (fm_out (fm_out (fm_out (fm_below T.fm hb) (fun x hx => ?_) (by omega) _) (fun x hx => ?_) (by omega) _) (fun x hx => ?_) (by omega) _) hg fun b e => ⟨by have := hlo b e; omega, fun x hx => ?_⟩
    all_goals
      simp only [List.mem_cons, List.not_mem_nil, or_false] at hx
    · rcases hx with rfl | rfl <;> (simp only; omega)
    · rcases hx with rfl | rfl <;> (simp only; omega)
    · rcases hx with rfl | rfl <;> (simp only; omega)
    · have := hlo b e
      rcases hx with rfl | rfl <;> (simp only; omega)
  · exact blk_grownQ (blk_set (blk_set (blk_set (blk_below T.out hb hR) 0 _) 1 _) 2 _) hg fun e => T.sep e.symm
  · rw [hE]
    have x1 := lrx_mono (lrx_lt hx) (Y := fun b => (XI w LB tk w1 b ∨ w1.heap.size ≤ b) ∧ b < w3.heap.size) fun b h1 => h1
    have hn : ¬ ((XI w LB tk w1 LB ∨ w1.heap.size ≤ LB) ∧ LB < w3.heap.size) := fun h => h.1.elim (fun h => h.2.1 rfl) fun h => by omega
    have x2 := lrx_set (lrx_set (lrx_set x1 (p := ⟨LB, 0, none⟩) hn (.slice A3 4 c3)) (p := ⟨LB, 1, none⟩) hn (.slice B3 4 d3)) (p := ⟨LB, 2, none⟩) hn (.slice C3 4 f3)
    have x3 := lrx_grown x2 hg fun b hb e => by
      rcases hb.1 with h | h
      · exact h.2.2.2.2 e.symm
      · have := hlo b e.symm; omega
    refine lrx_mono x3 fun b hb => ?_
    have hb2 := hb.2
    rcases hb.1 with h | h
    · refine ⟨by omega, h.2.1, h.2.2.1, h.2.2.2.1, fun e => ?_⟩
      rcases hat with h' | ⟨g2, h', h2⟩
      · exact h.2.2.2.2 (h'.symm.trans e)
      · rw [h'] at e; injection e with e; omega
    · refine ⟨by omega, by omega, by omega, by omega, fun e => ?_⟩
      rcases hat with h' | ⟨g2, h', h2⟩
      · have := hlo b (h'.symm.trans e); omega
      · rw [h'] at e; injection e with e; omega
  · rw [hE, List.length_append]
    simp only [List.length_cons, List.length_nil, T.len]
    exact ho
  · rw [hE, List.length_append, T.len]; rfl
theorem tki_next2 {w5 : World} {o1 o2 o3 : Obj} (T : TkI w va LB l k tk A c B d C f w1) (ht : Turn6 (tkN k l).1 i) (hb : Below w1.heap.size w1 w5) (hx : LRX w5 (fun b => XI w LB tk w1 b ∨ w1.heap.size ≤ b) A3 4 B3 4 C3 4 (nxN (tkN k l).1 i))
    (ho : w6.ownsRow (w.heap.size + 2) 29 4 v6 (k + 1) (pcells ((tkN k l).2 ++ [nxQ (tkN k l).1 i]))) (hg : ((((((w5.setCell ⟨LB, 0, none⟩ (.slice A3 4 c3)).setCell ⟨LB, 1, none⟩ (.slice B3 4 d3)).setCell ⟨LB, 2, none⟩ (.slice C3 4 f3)).alloc o1).alloc o2).alloc o3).grownBy w6 tk.ownBlock) (hat : v6.ownBlock = tk.ownBlock ∨ v6.ownBlock = some (w5.heap.size + 1 + 1 + 1)) :
    TkI w va LB l (k + 1) v6 A3 c3 B3 d3 C3 f3 w6 :=
  tki_next (w3 := w5) T ht hb hx ho ((g_alloc (g_alloc (g_alloc (g_refl _ _) _) _) _).trans hg) (hat.imp id fun h => ⟨_, h, by omega⟩)
end
def lenV7 : Value → Nat
  | .slice _ n _ => n
  | _ => 0
set_option maxRecDepth 100000 in
set_option maxHeartbeats 8000000 in
theorem tkI_yes (A0 : Option Addr) (n c0 : Nat) (B0 : Option Addr) (m d0 : Nat) (C0 : Option Addr) (o f0 : Nat) (l : Ln) (b : Nat) (w : World) (h : LR w A0 n B0 m C0 o l) (hv : LV l) :
    Calls Try.prog 26 #[.agg #[.slice A0 n c0, .slice B0 m d0, .slice C0 o f0], .int .i64 (b : Int)] w (TkIYes w l b) := by
  obtain ⟨rfl, rfl, rfl⟩ := lr_four h hv
  have H := Lib.hid h
  have F := Lib.hid (fm_two w 26 26 #[.slice A0 4 c0, .slice B0 4 d0, .slice C0 4 f0] #[.slice none 0 0, .slice none 0 0, .slice none 0 0])
  have HR := Lib.hid (lv_iff.2 hv)
  have HV := Lib.hid hv
  have hd : decide ((b : Int) < 0) = false := by simp
  clear h hv
  go_enter Try.func26, Try.ntmps26
  go_wp2_with (go_at_call 22
               refine (lanI_any A0 4 c0 B0 4 d0 C0 4 f0 l _ (lr_below H.out F.out.below)).mono ?_
               rintro e w1 ⟨rfl, hb1⟩
               rw [HR.out]
               have F1 := Lib.hid (fm_below F.out hb1)
               obtain ⟨⟨g0, g1, g2⟩, -⟩ := blk_three (fm_blk F1.out 0 rfl)
               clear hb1)
  have z1 : w.heap.size + 2 ≤ w1.heap.size := by have := blk_lt (fm_blk F1.out 1 rfl); omega
  have R0 : Hid (∃ k A c B d C f, k ≤ b ∧ TkI w #[.slice A0 4 c0, .slice B0 4 d0, .slice C0 4 f0] w1.heap.size l k (.slice none 0 0) A c B d C f (w1.alloc (.cells #[.slice A0 4 c0, .slice B0 4 d0, .slice C0 4 f0] 26))) := Lib.hid
    ⟨0, A0, c0, B0, d0, C0, f0, Nat.zero_le _, fm_alloc F1.out _, blk_new w1 _ _, lrx_mono (lrx_below (lr_lrx H.out) (below_alloc F1.out.below _)) fun _ hb => ⟨by simp; omega, by omega, by omega, by omega, fun e => by simp [Value.ownBlock] at e⟩, World.ownsRow_nil _ _ _ _, fun e => by simp [Value.ownBlock] at e, z1, rfl⟩
  clear hd F F1
  go_loopw [7] (fun tk wr => ∃ k A c B d C f, k ≤ b ∧ TkI w #[.slice A0 4 c0, .slice B0 4 d0, .slice C0 4 f0] w1.heap.size l k tk A c B d C f wr) (fun tk _ => b - lenV7 tk)
  case atStart => exact R0.out
  case round =>
    obtain ⟨k, A4, c4, B4, d4, C4, f4, hkb, T⟩ := hrel
    clear R0
    have HT := Lib.hid T
    have HKV := Lib.hid (tkN_valid k l HV.out)
    have hk2 : k ≤ 2048 := by have := HKV.out.2.1; have := tot_le HV.out; have := T.len; omega
    obtain ⟨⟨l0, l1, l2⟩, lf0, lf1, lf2⟩ := blk_three T.out
    have zR := blk_lt T.out
    have hlen := T.len
    have hT2 := T.own
    rw [hlen] at hT2
    obtain ⟨At, ct, rfl, -, -, -⟩ := own_form hT2
    have OT := Lib.hid hT2
    obtain ⟨⟨o0, o1, o2⟩, of0, of1, of2⟩ := blk_three (fm_blk T.fm 1 rfl)
    have zo := blk_lt (fm_blk T.fm 1 rfl)
    clear T hT2
    by_cases hlt : k < b
    · have hd : decide ((k : Int) < (b : Int)) = true := by simp; omega
      go_wp2_with fail
      refine (laI_any A4 4 c4 B4 4 d4 C4 4 f4 (tkN k l).1 _ (lrx_lr HT.out.lx) (by omega)).mono ?_
      rintro r w3 ⟨⟨i, hi, rfl⟩ | ⟨hi, rfl⟩, hb3⟩
      · have HJ := Lib.hid hi
        have T3 := Lib.hid (tki_below HT.out hb3)
        clear hi hb3 l0 l1 l2 lf0 lf1 lf2 o0 o1 o2 of0 of1 of2
        obtain ⟨⟨l0, l1, l2⟩, lf0, lf1, lf2⟩ := blk_three T3.out.out
        obtain ⟨P, hP⟩ : ∃ P, P = nxQ (tkN k l).1 i := ⟨_, rfl⟩
        have HP := Lib.hid hP
        clear hP
        go_wp2_with (first
          | (go_at_call 64
             refine (toI_any _ A4 c4 B4 d4 C4 f4 (tkN k l).1 i _ T3.out.lx (fun _ h => h.1) HKV.out.1 HJ.out).mono ?_
             rintro e w5 ⟨A5, c5, B5, d5, C5, f5, rfl, hx5, hb5⟩
             rw [← HP.out]
             have T5 := Lib.hid (tki_below T3.out hb5)
             have X5 := Lib.hid hx5
             have Z5 := Lib.hid hb5
             have OT5 := Lib.hid T5.out.own
             rw [hlen] at OT5
             have zR5 := blk_lt T5.out.out
             obtain ⟨⟨l0, l1, l2⟩, lf0, lf1, lf2⟩ := blk_three T5.out.out
             clear hb5 hx5)
          | (at_builtin
             refine wpl_app_pkts _ rfl (.tmp 40) (.tmp 42) rfl (w.heap.size + 2) (.slice At k ct) k (tkN k l).2 rfl ((((own_set_ne (p := ⟨w1.heap.size, 2, none⟩) (own_set_ne (p := ⟨w1.heap.size, 1, none⟩) (own_set_ne (p := ⟨w1.heap.size, 0, none⟩) OT5.out T5.out.sep (.slice A5 4 c5)) T5.out.sep (.slice B5 4 d5)) T5.out.sep (.slice C5 4 f5)).alloc _).alloc _).alloc _) (some ⟨w5.heap.size + 1 + 1, 0, none⟩) 1 1 [P] rfl (pr_single (blk_at (by simp) _ _)) (by omega) (by simp <;> omega) ?_
             intro v6 w6 ho6 hg6 hat6
             obtain ⟨A6, c6, rfl, -, -, -⟩ := own_form ho6
             have ho6' : w6.ownsRow (w.heap.size + 2) 29 4 (.slice A6 (k + 1) c6) (k + 1) (pcells ((tkN k l).2 ++ [nxQ (tkN k l).1 i])) := by rw [← HP.out]; exact ho6
             have T6 := Lib.hid (tki_next2 (c3 := c5) (d3 := d5) (f3 := f5) T3.out HJ.out Z5.out X5.out ho6' hg6 (hat6.imp id fun h => by simpa using h))
             clear ho6 hg6 hat6 ho6'))
        go_roundw
        case rel => exact ⟨_, _, _, _, _, _, _, hlt, T6.out⟩
        case measure => simp [lenV7]; omega
      · have EQ : Hid (tkN b l = tkN k l) := Lib.hid (tkN_stop hi (Nat.le_of_lt hlt))
        have TT := Lib.hid (tki_below HT.out hb3)
        have OO := Lib.hid (own_below OT.out hb3)
        clear hi hb3 l0 l1 l2 lf0 lf1 lf2 o0 o1 o2 of0 of1 of2
        obtain ⟨⟨l0, l1, l2⟩, lf0, lf1, lf2⟩ := blk_three TT.out.out
        obtain ⟨⟨o0, o1, o2⟩, of0, of1, of2⟩ := blk_three (fm_blk TT.out.fm 1 rfl)
        have zR3 := blk_lt TT.out.out
        go_wp2_with fail
        refine (copyLI_any A4 4 c4 B4 4 d4 C4 4 f4 (tkN k l).1 _ (lrx_lr TT.out.lx)).mono ?_
        rintro r w7 ⟨A7, n7, c7, B7, m7, d7, C7, o7, f7, hs7, iv7, rfl, e1, e2, e3, hL7, hI7, hb7⟩
        obtain ⟨e4, e5, e6⟩ : n7 = 4 ∧ m7 = 4 ∧ o7 = 4 := by have := HKV.out.1.n0; have := HKV.out.1.n1; have := HKV.out.1.n2; omega
        subst e4 e5 e6
        have F7 := Lib.hid (fm_below TT.out.fm hb7)
        have L7 := Lib.hid hL7
        have I7 := Lib.hid hI7
        have O7 := Lib.hid (own_below OO.out hb7)
        have B7' := Lib.hid hb7.size
        have zs := TT.out.fm.below.size
        clear hb7 hL7 hI7 e1 e2 e3 o0 o1 o2 of0 of1 of2
        obtain ⟨⟨o0, o1, o2⟩, of0, of1, of2⟩ := blk_three (fm_blk F7.out 1 rfl)
        have zo7 := blk_lt (fm_blk F7.out 1 rfl)
        have zb := (fun g e => (OO.out.lt g e).2 : ∀ g, (Value.slice At k ct).ownBlock = some g → _)
        go_wp2_with fail
        refine bodyPost_ret (v := .tuple #[.agg #[.slice A7 4 c7, .slice B7 4 d7, .slice C7 4 f7], .slice At k ct, .bool true]) (by simp [results, Try.results26, go_sem, o0, o1, o2]) rfl ⟨A7, c7, B7, d7, C7, f7, .slice At k ct, hs7, iv7, w3.heap.size, rfl, zs, ?_, I7.out, ?_, zb, ?_⟩
        · rw [EQ.out]
          iterate 3 (with_reducible refine lo_far ?_ (by simp <;> omega) I7.out _)
          exact L7.out
        · rw [EQ.out, hlen]
          refine own_mono (base := w.heap.size + 2) ?_ (by omega)
          iterate 3 (with_reducible refine own_set_far ?_ (by simp <;> omega) _)
          exact O7.out
        · iterate 3 (with_reducible refine Below.setCell ?_ (by simp <;> omega) _)
          exact F7.out.below
    · have hd : decide ((k : Int) < (b : Int)) = false := by simp; omega
      obtain rfl : k = b := by omega
      have TT := Lib.hid HT.out
      have OO := Lib.hid OT.out
      go_wp2_with fail
      refine (copyLI_any A4 4 c4 B4 4 d4 C4 4 f4 (tkN k l).1 _ (lrx_lr TT.out.lx)).mono ?_
      rintro r w7 ⟨A7, n7, c7, B7, m7, d7, C7, o7, f7, hs7, iv7, rfl, e1, e2, e3, hL7, hI7, hb7⟩
      obtain ⟨e4, e5, e6⟩ : n7 = 4 ∧ m7 = 4 ∧ o7 = 4 := by have := HKV.out.1.n0; have := HKV.out.1.n1; have := HKV.out.1.n2; omega
      subst e4 e5 e6
      have F7 := Lib.hid (fm_below TT.out.fm hb7)
      have L7 := Lib.hid hL7
      have I7 := Lib.hid hI7
      have O7 := Lib.hid (own_below OO.out hb7)
      have B7' := Lib.hid hb7.size
      have zs := TT.out.fm.below.size
      clear hb7 hL7 hI7 e1 e2 e3 o0 o1 o2 of0 of1 of2
      obtain ⟨⟨o0, o1, o2⟩, of0, of1, of2⟩ := blk_three (fm_blk F7.out 1 rfl)
      have zo7 := blk_lt (fm_blk F7.out 1 rfl)
      have zb := (fun g e => (OO.out.lt g e).2 : ∀ g, (Value.slice At k ct).ownBlock = some g → _)
      go_wp2_with fail
      refine bodyPost_ret (v := .tuple #[.agg #[.slice A7 4 c7, .slice B7 4 d7, .slice C7 4 f7], .slice At k ct, .bool true]) (by simp [results, Try.results26, go_sem, o0, o1, o2]) rfl ⟨A7, c7, B7, d7, C7, f7, .slice At k ct, hs7, iv7, wr.heap.size, rfl, zs, ?_, I7.out, ?_, zb, ?_⟩
      · skip
        iterate 3 (with_reducible refine lo_far ?_ (by simp <;> omega) I7.out _)
        exact L7.out
      · rw [hlen]
        refine own_mono (base := w.heap.size + 2) ?_ (by omega)
        iterate 3 (with_reducible refine own_set_far ?_ (by simp <;> omega) _)
        exact O7.out
      · iterate 3 (with_reducible refine Below.setCell ?_ (by simp <;> omega) _)
        exact F7.out.below
end Go.Proofs.Ytkmoiphcpmhacaa
