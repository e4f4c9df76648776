/-
  Chapter 4: the draws of accounts: what they return, whatever the bytes. Conditions: the source is as open leaves it, its counter is small.
-/
import Derived.Test.YtkbjelchihdajaaA4
import Derived.Test.YtkbjelchihdajaaDraw
import Derived.Deep.RegionWith
namespace Go.Proofs.Ytkbjelchihdajaa
open Go.RowKit

/-- a drawn account of eight numbers, valid if ok -/
def ADraw (w : World) (g q : Nat) (ok : Bool) (e : Ending) (w' : World) : Prop :=
  ∃ lim each A c us, e = .returned (.agg #[.int .i64 lim, .int .i64 each, (.slice A 8 c)]) ∧ (ok = true → acB lim each us = true) ∧ w'.ownsRow w.heap.size 3 1 (.slice A 8 c) 8 (icells us) ∧ w.grownBy w' (some g) ∧ RdAt w' g q
/-- a drawn account of at most eight numbers -/
def ADrawN (w : World) (g q : Nat) (e : Ending) (w' : World) : Prop :=
  ∃ lim each A n c us, e = .returned (.agg #[.int .i64 lim, .int .i64 each, (.slice A n c)]) ∧ n ≤ 8 ∧ w'.ownsRow w.heap.size 3 1 (.slice A n c) n (icells us) ∧ w.grownBy w' (some g) ∧ RdAt w' g q
theorem own_farI {w w' : World} {base g : Nat} {e : TypeId} {v : Value} {n : Nat} {xs : List Value} (h : w.ownsRow base e 1 v n xs) (hg : w.grownBy w' (some g)) (hb : g < base) : w'.ownsRow base e 1 v n xs :=
  h.kept hg (own_block_none h hb)
structure AD (w : World) (g L : Nat) (lim each : Int) (A : Option Addr) (c : Nat) (us : List Int) (wr : World) : Prop where
  out : Blk wr w.heap.size 25 #[.int .i64 0, .int .i64 0, (.slice none 0 0)]
  l : Blk wr L 25 #[.int .i64 lim, .int .i64 each, (.slice A 8 c)]
  own : wr.ownsRow (w.heap.size + 1) 3 1 (.slice A 8 c) 8 (icells us)
  ne : Value.ownBlock (.slice A 8 c) ≠ some L
  gr : w.grownBy wr (some g)
  hg : g < w.heap.size
  hL : w.heap.size < L
section
variable {w w1 w2 : World} {g L : Nat} {lim each : Int} {A : Option Addr} {c : Nat} {us : List Int}
theorem ad_grown (h : AD w g L lim each A c us w1) (hg : w1.grownBy w2 (some g)) : AD w g L lim each A c us w2 :=
  ⟨blk_grown h.out hg (by have := h.hg; omega), blk_grown h.l hg (by have := h.hg; have := h.hL; omega), own_farI h.own hg (by have := h.hg; omega), h.ne, h.gr.trans hg, h.hg, h.hL⟩
theorem ad_alloc (h : AD w g L lim each A c us w1) (o : Obj) : AD w g L lim each A c us (w1.alloc o) :=
  ⟨blk_alloc h.out o, blk_alloc h.l o, h.own.alloc o, h.ne, g_alloc h.gr o, h.hg, h.hL⟩
theorem ad_drew (h : AD w g L lim each A c us w1) : AD w g L lim each A c us w1.drew :=
  ⟨h.out, h.l, World.ownsRow.drew h.own, h.ne, ⟨h.gr.os, h.gr.tape, h.gr.output, h.gr.size, h.gr.block⟩, h.hg, h.hL⟩
theorem ad_cells (h : AD w g L lim each A c us w1) : (w1.cell? ⟨L, 0, none⟩ = some (.int .i64 lim) ∧ w1.cell? ⟨L, 1, none⟩ = some (.int .i64 each) ∧ w1.cell? ⟨L, 2, none⟩ = some (.slice A 8 c)) ∧ (w1.frozen? ⟨L, 0, none⟩ = false ∧ w1.frozen? ⟨L, 1, none⟩ = false ∧ w1.frozen? ⟨L, 2, none⟩ = false) ∧ L < w1.heap.size :=
  ⟨⟨blk_cell h.l 0, blk_cell h.l 1, blk_cell h.l 2⟩, ⟨blk_free h.l 0, blk_free h.l 1, blk_free h.l 2⟩, blk_lt h.l⟩
/-- a call that makes an account of its own, then the store of it -/
theorem ad_next {lim2 each2 : Int} {A2 : Option Addr} {c2 : Nat} {us2 : List Int} (h : AD w g L lim each A c us w1) (hb : Below w1.heap.size w1 w2) (ho : w2.ownsRow w1.heap.size 3 1 (.slice A2 8 c2) 8 (icells us2)) :
    AD w g L lim2 each2 A2 c2 us2 (((w2.setCell ⟨L, 0, none⟩ (.int .i64 lim2)).setCell ⟨L, 1, none⟩ (.int .i64 each2)).setCell ⟨L, 2, none⟩ (.slice A2 8 c2)) := by
  have hlt := blk_lt h.l
  have h1 := h.hL
  have h2 := h.hg
  have hne : Value.ownBlock (.slice A2 8 c2) ≠ some L := fun e => by have := (ho.lt L e).1; omega
  exact ⟨blk_far (blk_far (blk_far (blk_below h.out hb (blk_lt h.out)) (by simp; omega) _) (by simp; omega) _) (by simp; omega) _, blk_set (blk_set (blk_set (blk_below h.l hb hlt) 0 _) 1 _) 2 _,
    own_set_ne (own_set_ne (own_set_ne (own_mono ho (by have := blk_lt h.out; omega)) hne _) hne _) hne _, hne,
    g_set (g_set (g_set (g_below h.gr hb) (.inr (by simp; omega)) _) (.inr (by simp; omega)) _) (.inr (by simp; omega)) _, h2, h1⟩
end
theorem rd_next {w1 w2 : World} {g Q L : Nat} {u0 u1 u2 : Value} (h : RdAt w1 g Q) (hb : Below w1.heap.size w1 w2) (hL : g < L) : RdAt (((w2.setCell ⟨L, 0, none⟩ u0).setCell ⟨L, 1, none⟩ u1).setCell ⟨L, 2, none⟩ u2) g Q :=
  rd_set (rd_set (rd_set (rd_below h hb) (by simpa using hL) _) (by simpa using hL) _) (by simpa using hL) _
theorem lim_in4 {x : Int} (h : x ∈ [300, 100, 1000, 50, 5000]) : 50 ≤ x ∧ x ≤ 5000 := by
  simp only [List.mem_cons, List.not_mem_nil, or_false] at h; omega
theorem each_in4 {lim x : Int} (h : 50 ≤ lim ∧ lim ≤ 5000) (hx : x ∈ [2, 3, 4, 1 + lim]) : 0 < x ∧ 0 ≤ lim / x ∧ 1 + lim / x ≤ lim ∧ lim.tdiv x = lim / x := by
  have ht := Int.tdiv_eq_ediv_of_nonneg (a := lim) (b := x) (by omega)
  simp only [List.mem_cons, List.not_mem_nil, or_false] at hx
  rcases hx with rfl | rfl | rfl | rfl
  · refine ⟨by omega, by omega, by omega, ht⟩
  · refine ⟨by omega, by omega, by omega, ht⟩
  · refine ⟨by omega, by omega, by omega, ht⟩
  · have : lim / (1 + lim) = 0 := Int.ediv_eq_zero_of_lt (by omega) (by omega)
    exact ⟨by omega, by omega, by omega, ht⟩
theorem rounds_in {x : Int} (h : x ∈ [4, 3, 6, 1, 0]) : ∃ k : Nat, x = (k : Int) ∧ k ≤ 6 := by
  simp only [List.mem_cons, List.not_mem_nil, or_false] at h
  exact ⟨x.toNat, by omega, by omega⟩
theorem bytes_in {x : Int} (h : x ∈ [20, 10, 50, 1, 100]) : 0 ≤ x ∧ x ≤ 100 := by
  simp only [List.mem_cons, List.not_mem_nil, or_false] at h; omega
def ADRel (w : World) (g q L : Nat) (lim each : Int) (i : Value) (wr : World) : Prop :=
  ∃ (k : Nat) (A : Option Addr) (c : Nat) (us : List Int), k ≤ 6 ∧ i = .int .i64 (k : Int) ∧ acB lim each us = true ∧ RdAt wr g (q + 20 - 2 * k) ∧ AD w g L lim each A c us wr
/-- Reserve, whatever it says, of a valid account -/
theorem rsvS_any (lim each : Int) (A : Option Addr) (n c : Nat) (us : List Int) (k : Nat) (b : Int) (w : World) (h : NR w A n us) (hv : acB lim each us = true) (hk : k < 8) (hb : 0 ≤ b) :
    Calls Try.prog 17 #[.agg #[.int .i64 lim, .int .i64 each, (.slice A n c)], .int .i64 (k : Int), .int .i64 b] w fun e w' => ∃ us2 i A2 c2, acB lim each us2 = true ∧ e = .returned (.tuple #[.agg #[.int .i64 lim, .int .i64 each, (.slice A2 8 c2)], .bool i, .bool true]) ∧ w'.ownsRow w.heap.size 3 1 (.slice A2 8 c2) 8 (icells us2) ∧ Below w.heap.size w w' := by
  obtain ⟨u, hu⟩ := ac_at hv hk
  have hok : rsOk lim each us (k : Int) b = true := by simp [rsOk, frOk, hv, prB]; omega
  have h8 := (ac_of hv).2.2.2.1
  obtain ⟨u0, u1, u2⟩ := ac_get hv hu
  have hfl := free_le (lim := lim) (each := each) (u := u) (us := us)
  by_cases hlt : b ≤ freeN lim each us u
  · refine (rsvS_in lim each A n c us k u b w h hok hu hlt).mono ?_
    rintro e w1 ⟨A2, n2, c2, rfl, hn2, ho, hb⟩
    obtain rfl : n2 = 8 := by rw [hn2, List.length_set]; exact h8
    exact ⟨_, _, A2, c2, ac_set hv hu (by omega) (by omega) (by omega), rfl, ho, hb⟩
  · refine (rsvS_full lim each A n c us k u b w h hok hu (by omega)).mono ?_
    rintro e w1 ⟨A2, n2, c2, rfl, hn2, ho, hb⟩
    obtain rfl : n2 = 8 := by rw [hn2]; exact h8
    exact ⟨_, _, A2, c2, hv, rfl, ho, hb⟩
set_option maxHeartbeats 2000000 in
theorem l4Draw_any (g q : Nat) (w : World) (h : RdAt w g q) (hq : q ≤ 600000) :
    Calls Try.prog 55 #[.pointer (some ⟨g, 0, none⟩)] w (ADraw w g (q + 20) true) := by
  have hg := rd_lt h
  go_enter Try.func55, Try.ntmps55
  go_wp2_with fail
  refine (num_lit g q _ 5 _ _ [300, 100, 1000, 50, 5000] _ (rd_alloc h _) (by omega) (by simp) (by decide) rfl).mono ?_
  rintro e w1 ⟨lim, hx, rfl, hg1, hr1⟩
  have hlim := lim_in4 hx
  have HL := Lib.hid hlim
  obtain ⟨l0, l1⟩ := hlim
  have hz1 := hg1.size
  have G1 := Lib.hid ((g_alloc (g_refl w (some g)) (.cells #[.int .i64 0, .int .i64 0, (.slice none 0 0)] 25)).trans hg1)
  have O1 := Lib.hid (blk_grown (blk_new w 25 #[.int .i64 0, .int .i64 0, (.slice none 0 0)]) hg1 (by omega))
  have HR1 := Lib.hid hr1
  clear hx hg1 h hr1
  simp at hz1
  go_wp2_with fail
  refine (num_lit g _ _ 4 _ _ [2, 3, 4, 1 + lim] _ HR1.out (by omega) (by simp) (by simp) rfl).mono ?_
  rintro e w2 ⟨x, hx, rfl, hg2, hr2⟩
  have hX := each_in4 HL.out hx
  obtain ⟨y, hy⟩ : ∃ y, lim / x = y := ⟨_, rfl⟩
  rw [hy] at hX
  obtain ⟨x0, y0, y1, td⟩ := hX
  have hxz : (x == 0) = false := by simp; omega
  have hxn : ¬ x = 0 := by omega
  have dw : IntKind.i64.wrap y = y := IntWalk.i64_in _ (by omega)
  have G2 := Lib.hid (G1.out.trans hg2)
  have O2 := Lib.hid (blk_grown O1.out hg2 (by omega))
  have HR2 := Lib.hid hr2
  have hz2 := hg2.size
  have HAC : Hid (acB lim (1 + y) (List.replicate 8 0) = true) := Lib.hid (by rw [ac_zero]; simp; omega)
  clear hx hg2 hr2 HR1 G1 O1 hy
  go_wp2_with fail
  refine (newS_yes lim (1 + y) _ HAC.out).mono ?_
  rintro e w3 ⟨A8, n8, c8, rfl, hn8, ho3, hb3⟩
  obtain rfl : n8 = 8 := by rw [hn8, List.length_replicate]
  have hz3 := hb3.size
  have zo := blk_lt O2.out
  have D3 : Hid (AD w g w3.heap.size lim (1 + y) A8 c8 (List.replicate 8 0) (w3.alloc (.cells #[.int .i64 lim, (.int .i64 (1 + y)), (.slice A8 8 c8)] 25))) := Lib.hid
    ⟨blk_alloc (blk_below O2.out hb3 zo) _, blk_new w3 _ _, own_mono (ho3.alloc _) (by omega), fun e => (by have := (ho3.lt _ e).2; omega), g_alloc (g_below G2.out hb3) _, hg, by omega⟩
  have R3 := Lib.hid (rd_alloc (rd_below HR2.out hb3) (.cells #[.int .i64 lim, (.int .i64 (1 + y)), (.slice A8 8 c8)] 25))
  clear hn8 ho3 hb3 O2 HR2 G2
  go_wp2_with fail
  refine (num_lit g _ _ 5 _ _ [4, 3, 6, 1, 0] _ R3.out (by omega) (by simp) (by decide) rfl).mono ?_
  rintro e w4 ⟨i, hi, rfl, hg4, hr4⟩
  obtain ⟨k0, rfl, hk6⟩ := rounds_in hi
  have R0 : Hid (ADRel w g q w3.heap.size lim (1 + y) (.int .i64 (k0 : Int)) w4) := Lib.hid ⟨k0, A8, c8, _, hk6, rfl, HAC.out, rd_more hr4 (by omega), ad_grown D3.out hg4⟩
  clear hi hg4 hr4 D3 R3 td dw hxz hxn x0
  go_wp2
  go_loopw [6] (fun i wr => ADRel w g q w3.heap.size lim (1 + y) i wr) (fun i _ => (intOf i).toNat)
  case atStart => exact R0.out
  case round =>
    obtain ⟨k, A, c, us, hk, rfl, hv, hr, hD⟩ := hrel
    clear R0
    have HD := Lib.hid hD
    have HV := Lib.hid hv
    have HR := Lib.hid hr
    obtain ⟨⟨q0, q1, q2⟩, ⟨f0, f1, f2⟩, zL⟩ := ad_cells hD
    have hL := hD.hL
    have zg := rd_lt hr
    clear hD hv hr
    by_cases hlt : 0 < k
    · have hkz : (0 : Int) < (k : Int) := by omega
      go_wp2_with fail
      go_region_with (first
        | (go_at_call 17
           refine (rsvS_any lim (1 + y) A 8 c us kp bn _ (nr_own (AD.own DN.out)) HV.out (by omega) bn0).mono ?_
           rintro e w5 ⟨us2, i5, A5, c5, hv5, rfl, ho5, hb5⟩
           have HN := Lib.hid (ad_next (lim2 := lim) (each2 := 1 + y) DN.out hb5 ho5)
           have RN2 := Lib.hid (rd_next (u0 := .int .i64 lim) (u1 := .int .i64 (1 + y)) (u2 := .slice A5 8 c5) RN.out hb5 (show g < w3.heap.size by omega))
           have HV5 := Lib.hid hv5
           obtain ⟨⟨t0, t1, t2⟩, g0, g1, g2⟩ := blk_three (blk_below (AD.l DN.out) hb5 (blk_lt (AD.l DN.out)))
           clear hb5 ho5 hv5)
        | (go_at_call 50
           first
             | refine (num_lit g _ _ 5 _ _ [20, 10, 50, 1, 100] _ RP.out (by omega) (by simp) (by decide) rfl).mono ?_
             | refine (num_any g _ wr.heap.size 5 [20, 10, 50, 1, 100] _ RP.out (by omega) (by decide) zg (fun j x hj => (blk_cell BP.out j).trans (by
                 have : j = 0 ∨ j = 1 ∨ j = 2 ∨ j = 3 ∨ j = 4 ∨ 5 ≤ j := by omega
                 rcases this with rfl | rfl | rfl | rfl | rfl | h5
                 · simpa using hj
                 · simpa using hj
                 · simpa using hj
                 · simpa using hj
                 · simpa using hj
                 · rw [List.getElem?_eq_none (by simpa using h5)] at hj; cases hj)) (blk_lt BP.out)).mono ?_
           rintro e wn ⟨bn, hbn, rfl, hgn, hrn⟩
           obtain ⟨bn0, bn1⟩ := bytes_in hbn
           have DN := Lib.hid (ad_grown DP.out hgn)
           have RN := Lib.hid hrn
           obtain ⟨⟨t0, t1, t2⟩, -, tL⟩ := ad_cells DN.out
           clear hbn hgn hrn)
        | (go_at_call 51
           refine (pick_any g _ 4 _ (by first | exact (show RdAt wr.drew g _ from HR.out) | exact (show RdAt (wr.alloc _).drew g _ from rd_alloc HR.out _)) (by omega) (by omega)).mono ?_
           rintro e wp ⟨kp, rfl, hkp, hgp, hrp⟩
           have DP := Lib.hid (show AD w g w3.heap.size lim (1 + y) A c us wp from (by first | exact ad_grown (ad_drew HD.out) hgp | exact ad_grown (ad_drew (ad_alloc HD.out _)) hgp))
           have RP := Lib.hid hrp
           have zp := hgp.size
           try simp at zp
           first
             | (have BP := Lib.hid (blk_grown (show Blk (wr.alloc (.cells #[.int .i64 20, .int .i64 10, .int .i64 50, .int .i64 1, .int .i64 100] 3)).drew wr.heap.size 3 #[.int .i64 20, .int .i64 10, .int .i64 50, .int .i64 1, .int .i64 100] from blk_new wr _ _) hgp (by omega)))
             | skip
           obtain ⟨⟨t0, t1, t2⟩, -, tL⟩ := ad_cells DP.out
           clear hgp hrp))
      all_goals
        go_wp2
        go_roundw
        case rel => exact ⟨k - 1, A5, c5, us2, by omega, congrArg (Value.int .i64) (by omega), HV5.out, rd_more RN2.out (by omega), HN.out⟩
        case measure => simp [intOf]; omega
    · obtain rfl : k = 0 := by omega
      obtain ⟨⟨o0, o1, o2⟩, h0, h1, h2⟩ := blk_three HD.out.out
      clear hlt
      go_wp2
      refine bodyPost_ret (v := .agg #[.int .i64 lim, (.int .i64 (1 + y)), (.slice A 8 c)]) (by simp [results, Try.results55, go_sem, o0, o1, o2]) rfl ⟨lim, 1 + y, A, c, us, rfl, fun _ => HV.out, ?_, ?_, ?_⟩
      · exact own_mono (own_set_far (own_set_far (own_set_far HD.out.own (by simp) _) (by simp) _) (by simp) _) (by omega)
      · exact g_set (g_set (g_set HD.out.gr (.inr (by simp)) _) (.inr (by simp)) _) (.inr (by simp)) _
      · exact rd_more (rd_set (rd_set (rd_set HR.out (by simp; omega) _) (by simp; omega) _) (by simp; omega) _) (by omega)
end Go.Proofs.Ytkbjelchihdajaa
