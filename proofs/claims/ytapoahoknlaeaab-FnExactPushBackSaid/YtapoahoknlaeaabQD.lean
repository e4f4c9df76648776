/-
  The draws of queues: what they return, whatever the bytes. Conditions: the source is as open leaves it, its counter is small.
-/
import Derived.Test.YtapoahoknlaeaabQ3S
import Derived.Test.YtapoahoknlaeaabFr
import Derived.Test.YtapoahoknlaeaabDrawList
import Derived.StillTailTactics
import Derived.Deep.RegionWith
namespace Go.Proofs.Ytapoahoknlaeaab
open Go.RowKit

def QDraw (w : World) (g q : Nat) (ok : Bool) (e : Ending) (w' : World) : Prop :=
  ∃ lim A n c ps, e = .returned (.agg #[.int .i64 lim, (.slice A n c)]) ∧ (ok = true → qvB lim ps = true) ∧ n ≤ 64 ∧ w'.ownsRow w.heap.size 51 4 (.slice A n c) n (pcells ps) ∧ w.grownBy w' (some g) ∧ RdAt w' g q
/-- a drawn queue of at most m packets -/
def QDrawN (w : World) (g q m : Nat) (e : Ending) (w' : World) : Prop :=
  ∃ lim A n c ps, e = .returned (.agg #[.int .i64 lim, (.slice A n c)]) ∧ n ≤ m ∧ w'.ownsRow w.heap.size 51 4 (.slice A n c) n (pcells ps) ∧ w.grownBy w' (some g) ∧ RdAt w' g q
theorem own_far' {w w' : World} {base g : Nat} {e : TypeId} {v : Value} {n : Nat} {xs : List Value} (h : w.ownsRow base e 4 v n xs) (hg : w.grownBy w' (some g)) (hb : g < base) : w'.ownsRow base e 4 v n xs :=
  h.kept hg (own_block_none h hb)
theorem push_qv {lim : Int} {ps : List Pkt} {p : Pkt} (h : pushOk lim ps p = true) : qvB lim (pushP lim ps p) = true := by
  obtain ⟨hq, hv⟩ := pushOk_of h
  rcases hi : inQ lim ps p with _ | _
  · rw [(push_full h hi).2.2]; exact hq
  · rw [(push_in h hi).2.2, qv_push hq hv]; exact hi
structure LD (w : World) (g Q L : Nat) (lim : Int) (A : Option Addr) (m c : Nat) (cur : List Pkt) (Al : Option Addr) (nl cl : Nat) (ps : List Pkt) (wr : World) : Prop where
  out : Blk wr w.heap.size 25 #[.int .i64 0, .slice none 0 0]
  l : Blk wr L 25 #[.int .i64 lim, .slice A m c]
  own : wr.ownsRow (w.heap.size + 1) 51 4 (.slice A m c) m (pcells cur)
  ne : Value.ownBlock (.slice A m c) ≠ some L
  lst : wr.ownsRow (L + 1) 51 4 (.slice Al nl cl) nl (pcells ps)
  gr : w.grownBy wr (some g)
  rd : RdAt wr g Q
  hg : g < w.heap.size
  hL : w.heap.size < L
theorem own_rd {w : World} {g q L : Nat} (hg : g < L) (h : RdAt w g q) (u : Value) (k : Nat) : RdAt (w.setCell ⟨L, k, none⟩ u) g q := rd_set h (by simpa using hg) u
/-- a call that makes a queue of its own, then the store of it -/
theorem ld_next {w wr w2 : World} {g Q L : Nat} {lim : Int} {A : Option Addr} {m c : Nat} {cur : List Pkt} {Al : Option Addr} {nl cl : Nat} {ps : List Pkt} {lim2 : Int} {A2 : Option Addr} {m2 c2 : Nat} {cur2 : List Pkt}
    (h : LD w g Q L lim A m c cur Al nl cl ps wr) (hb : Below wr.heap.size wr w2) (ho : w2.ownsRow wr.heap.size 51 4 (.slice A2 m2 c2) m2 (pcells cur2)) :
    LD w g Q L lim2 A2 m2 c2 cur2 Al nl cl ps ((w2.setCell ⟨L, 0, none⟩ (.int .i64 lim2)).setCell ⟨L, 1, none⟩ (.slice A2 m2 c2)) := by
  have hlt := blk_lt h.l
  have hne : Value.ownBlock (.slice A2 m2 c2) ≠ some L := fun e => by have := (ho.lt L e).1; omega
  refine ⟨blk_far (blk_far (blk_below h.out hb (blk_lt h.out)) (by have := h.hL; simp; omega) _) (by have := h.hL; simp; omega) _, blk_set (blk_set (blk_below h.l hb hlt) 0 _) 1 _,
    own_set_ne (own_set_ne (own_mono ho (by have := blk_lt h.out; omega)) hne _) hne _, hne, own_set_far (own_set_far (own_below h.lst hb) (by simp) _) (by simp) _,
    g_set (g_set (g_below h.gr hb) (.inr (by have := h.hL; simp; omega)) _) (.inr (by have := h.hL; simp; omega)) _, rd_set (rd_set (rd_below h.rd hb) (by have := h.hL; have := h.hg; simp; omega) _) (by have := h.hL; have := h.hg; simp; omega) _, h.hg, h.hL⟩
def LDRel (w : World) (g Q L : Nat) (lim : Int) (Al : Option Addr) (nl cl : Nat) (ps : List Pkt) (i : Value) (wr : World) : Prop :=
  ∃ (k : Nat) (A : Option Addr) (m c : Nat) (cur : List Pkt), k ≤ nl ∧ i = .int .i64 (k : Int) ∧ qvB lim cur = true ∧ LD w g Q L lim A m c cur Al nl cl ps wr
theorem lim_in {x : Int} (h : x ∈ [200, 100, 500, 60, 1000, 1]) : qvB x [] = true := by
  simp only [List.mem_cons, List.not_mem_nil, or_false] at h
  exact qv_mk ok_nil (by omega) (by omega) (by simp [sizeSum]; omega)
set_option maxHeartbeats 1000000 in
theorem l3Draw_any (g q : Nat) (w : World) (h : RdAt w g q) (hq : q ≤ 600000) :
    Calls Try.prog 67 #[.pointer (some ⟨g, 0, none⟩)] w (QDraw w g (q + 50) true) := by
  have hg := rd_lt h
  go_enter Try.func67, Try.ntmps67
  go_wp2_with fail
  refine (num_lit g q _ 6 _ _ [200, 100, 500, 60, 1000, 1] _ (rd_alloc h _) (by omega) (by simp) (by decide) rfl).mono ?_
  rintro e w1 ⟨lim, hx, rfl, hg1, hr1⟩
  have HL := Lib.hid (lim_in hx)
  have hz1 := hg1.size
  have G1 := Lib.hid ((g_alloc (g_refl w (some g)) (.cells #[.int .i64 0, (.slice none 0 0)] 25)).trans hg1)
  have O1 := Lib.hid (blk_grown (blk_new w 25 #[.int .i64 0, (.slice none 0 0)]) hg1 (by omega))
  have HR1 := Lib.hid hr1
  clear hx hg1 h hr1
  simp at hz1
  have E2 := Lib.hid (show ((w1.alloc (.cells #[] 51)).alloc (.cells #[.int .i64 lim, (.slice (some ⟨w1.heap.size, 0, none⟩) 0 0)] 25)).ownsRow w1.heap.size 51 4 (.slice (some ⟨w1.heap.size, 0, none⟩) 0 0) 0 (pcells []) from (own_emptyQ rfl).alloc _)
  go_wp2_with fail
  refine (l1List_any g _ _ (rd_alloc (rd_alloc HR1.out _) _) (by omega)).mono ?_
  rintro e w2 ⟨v, nl, ps, rfl, hn, hs, ho, hgr, hr⟩
  obtain ⟨Al, cl, rfl, -, -, -⟩ := own_form ho
  have L2 : LD w g (q + 1 + 40) (w1.heap.size + 1) lim (some ⟨w1.heap.size, 0, none⟩) 0 0 [] Al nl cl ps w2 :=
    ⟨blk_grown (blk_alloc (blk_alloc O1.out _) _) hgr (by omega), blk_grown (blk_new2 w1 _ _ _) hgr (by omega), own_mono (E2.out.kept hgr (.inr (by simp [Value.ownBlock]; omega))) (by omega), by simp [Value.ownBlock], by simpa using ho,
      (g_alloc (g_alloc G1.out _) _).trans hgr, hr, hg, by omega⟩
  have HD := Lib.hid L2
  have HS := Lib.hid hs
  have R0 : Hid (LDRel w g (q + 1 + 40) (w1.heap.size + 1) lim Al nl cl ps (.int .i64 0) w2) := Lib.hid ⟨0, _, _, _, _, Nat.zero_le _, rfl, HL.out, HD.out⟩
  clear L2 hs ho hgr hr HD
  go_wp2
  go_loopw [5] (fun i wr => LDRel w g (q + 1 + 40) (w1.heap.size + 1) lim Al nl cl ps i wr) (fun i _ => nl - (intOf i).toNat)
  case atStart => exact R0.out
  case round =>
    obtain ⟨k, A, m, c, cur, hk, rfl, hcur, hD⟩ := hrel
    clear R0 E2 O1
    have HD := Lib.hid hD
    have HC := Lib.hid hcur
    by_cases hlt : k < nl
    · obtain ⟨b, off, p, rfl, hb, hp, d0, d1, d2, d3⟩ := pr_at (pr_own hD.lst) hlt
      have hok : pushOk lim cur p = true := by simp [pushOk, hcur, HS.out p (List.mem_of_getElem? hp)]
      have HO := Lib.hid hok
      obtain ⟨l0, l1, g0, g1⟩ := blk_two hD.l
      have k0 : (0 : Int) ≤ (k : Int) := by omega
      have k1 : (k : Int) < (nl : Int) := by omega
      have hm64 : m ≤ 64 := by have := (qv_of hcur).2.2.2.2.2; have := (pr_own hD.own).1; omega
      clear hD hcur hp hok
      go_wp2_with fail
      have HDd := Lib.hid (show LD w g (q + 1 + 40) (w1.heap.size + 1) lim A m c cur (some ⟨b, off, none⟩) nl cl ps wr.drew from ⟨HD.out.out, HD.out.l, HD.out.own, HD.out.ne, HD.out.lst, ⟨HD.out.gr.os, HD.out.gr.tape, HD.out.gr.output, HD.out.gr.size, HD.out.gr.block⟩, HD.out.rd, HD.out.hg, HD.out.hL⟩)
      go_region_with (go_at_call 32; refine (pushS_yes lim A m c cur p _ (pr_own HDd.out.own) (by omega) HO.out).mono ?_; rintro e w3 ⟨A3, m3, c3, rfl, hm3, ho3, hb3⟩; have HN := Lib.hid (ld_next (w2 := w3) (lim2 := lim) HDd.out hb3 ho3); obtain ⟨n0, n1, h0, h1⟩ := blk_two (blk_below HDd.out.l hb3 (blk_lt HDd.out.l)); clear hb3 ho3 hm3)
      all_goals
        have HQ := Lib.hid (push_qv HO.out)
        clear d0 d1 d2 d3
        go_wp2
        go_roundw
        case rel => exact ⟨k + 1, _, _, _, _, by omega, by go_num, HQ.out, HN.out⟩
        case measure => simp [intOf]; omega
    · obtain rfl : k = nl := by omega
      obtain ⟨l0, l1, g0, g1⟩ := blk_two hD.l
      obtain ⟨o0, o1, f0, f1⟩ := blk_two hD.out
      have hm64 : m ≤ 64 := by have := (qv_of hcur).2.2.2.2.2; have := (pr_own hD.own).1; omega
      clear hD hcur
      go_wp2
      refine bodyPost_ret (v := .agg #[.int .i64 lim, (.slice A m c)]) (by simp [results, Try.results67, go_sem, o0, o1]) rfl ⟨lim, A, m, c, cur, rfl, fun _ => HC.out, by omega, ?_, ?_, ?_⟩
      · exact own_mono (own_set_far (own_set_far HD.out.own (by simp) _) (by simp) _) (by omega)
      · exact g_set (g_set HD.out.gr (.inr (by simp)) _) (.inr (by simp)) _
      · exact rd_more (rd_set (rd_set HD.out.rd (by simp; omega) _) (by simp; omega) _) (by omega)
structure LW (w : World) (g L : Nat) (lim : Int) (A : Option Addr) (m c : Nat) (cur : List Pkt) (wr : World) : Prop where
  out : Blk wr (w.heap.size + 1) 25 #[.int .i64 0, .slice none 0 0]
  l : Blk wr L 25 #[.int .i64 lim, .slice A m c]
  own : wr.ownsRow (w.heap.size + 2) 51 4 (.slice A m c) m (pcells cur)
  ne : Value.ownBlock (.slice A m c) ≠ some L
  gr : w.grownBy wr (some g)
  hg : g < w.heap.size
  hL : w.heap.size + 1 < L
theorem lw_grown {w w1 w2 : World} {g L : Nat} {lim : Int} {A : Option Addr} {m c : Nat} {cur : List Pkt} (h : LW w g L lim A m c cur w1) (hg : w1.grownBy w2 (some g)) : LW w g L lim A m c cur w2 :=
  ⟨blk_grown h.out hg (by have := h.hg; omega), blk_grown h.l hg (by have := h.hg; have := h.hL; omega), own_far' h.own hg (by have := h.hg; omega), h.ne, h.gr.trans hg, h.hg, h.hL⟩
theorem lw_cells {w w1 : World} {g L : Nat} {lim : Int} {A : Option Addr} {m c : Nat} {cur : List Pkt} (h : LW w g L lim A m c cur w1) : w1.cell? ⟨L, 0, none⟩ = some (.int .i64 lim) ∧ w1.cell? ⟨L, 1, none⟩ = some (.slice A m c) ∧ LW w g L lim A m c cur w1 := ⟨blk_cell h.l 0, blk_cell h.l 1, h⟩
theorem lw_drew {w w1 : World} {g L : Nat} {lim : Int} {A : Option Addr} {m c : Nat} {cur : List Pkt} (h : LW w g L lim A m c cur w1) : LW w g L lim A m c cur w1.drew := ⟨h.out, h.l, h.own, h.ne, ⟨h.gr.os, h.gr.tape, h.gr.output, h.gr.size, h.gr.block⟩, h.hg, h.hL⟩
theorem lw_app {w w5 w6 : World} {g Q L : Nat} {lim : Int} {A : Option Addr} {n c : Nat} {ps : List Pkt} {o : Obj} {v : Value} {p : Pkt} (h : LW w g L lim A n c ps w5) (hr : RdAt w5 g Q) (hg6 : (w5.alloc o).grownBy w6 (Value.ownBlock (.slice A n c)))
    (hat : v.ownBlock = Value.ownBlock (.slice A n c) ∨ v.ownBlock = some (w5.alloc o).heap.size) (ho : w6.ownsRow (w.heap.size + 2) 51 4 v (n + 1) (pcells (ps ++ [p]))) :
    Blk w6 L 25 #[.int .i64 lim, .slice A n c] ∧ Blk w6 (w.heap.size + 1) 25 #[.int .i64 0, .slice none 0 0] ∧ w.grownBy w6 (some g) ∧ RdAt w6 g Q ∧ w6.ownsRow (w.heap.size + 2) 51 4 v (n + 1) (pcells (ps ++ [p])) ∧ v.ownBlock ≠ some L := by
  have hl := blk_lt h.l
  have hlt : ∀ j, Value.ownBlock (.slice A n c) = some j → w.heap.size + 2 ≤ j := fun j hj => (h.own.lt j hj).1
  refine ⟨blk_grownQ (blk_alloc h.l o) hg6 (fun e => h.ne e.symm), blk_grownQ (blk_alloc h.out o) hg6 (fun e => by have := hlt _ e.symm; omega), ?_, ?_, ho, ?_⟩
  · rcases hv : Value.ownBlock (.slice A n c) with _ | j
    · rw [hv] at hg6; exact g_none (g_alloc h.gr o) hg6
    · rw [hv] at hg6; exact g_new (g_alloc h.gr o) hg6 (by have := hlt j hv; omega)
  · rcases hv : Value.ownBlock (.slice A n c) with _ | j
    · rw [hv] at hg6
      exact rd_below (rd_alloc hr o) ⟨hg6.os, hg6.tape, hg6.output, hg6.size, fun i hi => hg6.block i hi (by simp)⟩
    · rw [hv] at hg6; exact rd_new (rd_alloc hr o) hg6 (by have := hlt j hv; have := h.hg; omega)
  · rcases hat with e | e
    · rw [e]; exact h.ne
    · rw [e]; simp; omega
set_option maxHeartbeats 1000000 in
theorem l3Wrong_any (g q : Nat) (lim : Int) (A : Option Addr) (n c : Nat) (ps : List Pkt) (w : World) (h : RdAt w g q) (hq : q ≤ 700000) (hp : PR w A n ps) (hn : n ≤ 75) :
    Calls Try.prog 66 #[.pointer (some ⟨g, 0, none⟩), .agg #[.int .i64 lim, (.slice A n c)]] w (QDrawN w g (q + 20) (n + 1)) := by
  have hg := rd_lt h
  have F := Lib.hid (fr_two hp 25 25 #[.int .i64 lim, (.slice A n c)] #[.int .i64 0, (.slice none 0 0)])
  have HR := Lib.hid h
  clear hp h
  go_enter Try.func66, Try.ntmps66
  go_wp2_with fail
  refine (copyS_any lim A n c ps _ F.out.pr (by omega)).mono ?_
  rintro e w1 ⟨A1, c1, rfl, ho1, hb1⟩
  have hz1 := hb1.size
  simp at hz1
  have D : LW w g w1.heap.size lim A1 n c1 ps (w1.alloc (.cells #[.int .i64 lim, (.slice A1 n c1)] 25)) :=
    ⟨blk_alloc (blk_below (blk_new2 w _ _ _) hb1 (by simp)) _, blk_new w1 _ _, (own_mono ho1 (by simp)).alloc _, (fun e => by have := (ho1.lt _ e).2; omega), g_below (g_refl w _) (below_alloc (below_from (below_alloc (below_alloc (Below.refl _ _) _) _) hb1 (by simp <;> omega)) _), hg, by omega⟩
  have HD := Lib.hid D
  have hr1 := Lib.hid (rd_alloc (rd_below (rd_alloc (rd_alloc HR.out _) _) hb1) (.cells #[.int .i64 lim, (.slice A1 n c1)] 25))
  clear D hb1 ho1 HR F
  go_wp2_with fail
  refine (pick_any g q _ _ hr1.out (by omega) (by omega)).mono ?_
  rintro e w2 ⟨k, rfl, hk, hg2, hr2⟩
  have HD2 := Lib.hid (lw_grown HD.out hg2)
  have hr2' := Lib.hid hr2
  obtain ⟨l0, l1, g0, g1⟩ := blk_two HD2.out.l
  obtain ⟨o0, o1, f0, f1⟩ := blk_two HD2.out.out
  clear hg2 hr2 hr1 HD
  by_cases hk0 : k = 0
  · subst hk0
    go_wp2_with fail
    refine (num_lit g _ _ 4 _ _ [0, 1001, 30, 1] _ hr2'.out (by omega) (by simp) (by decide) rfl).mono ?_
    rintro e w3 ⟨x, hx, rfl, hg3, hr3⟩
    have HD3 := Lib.hid (lw_grown HD2.out hg3)
    clear l0 l1 g0 g1 o0 o1 f0 f1 hx
    obtain ⟨l0, l1, g0, g1⟩ := blk_two HD3.out.l
    obtain ⟨o0, o1, f0, f1⟩ := blk_two HD3.out.out
    have HR3 := Lib.hid hr3
    have hL := HD3.out.hL
    have hne' : ¬ w1.heap.size = w.heap.size + 1 := by omega
    clear hg3 hr3
    go_wp2
    refine bodyPost_ret (v := .agg #[.int .i64 x, (.slice A1 n c1)]) (by simp [results, Try.results66, go_sem, o0, o1]) rfl ⟨x, A1, n, c1, ps, rfl, by omega, ?_, ?_, ?_⟩
    · exact own_mono (own_set_far (own_set_far (own_set_ne HD3.out.own (fun e => HD3.out.ne e) _) (by simp) _) (by simp) _) (by omega)
    · exact g_set (g_set (g_set HD3.out.gr (.inr (by simp; omega)) _) (.inr (by simp)) _) (.inr (by simp)) _
    · exact rd_more (rd_set (rd_set (rd_set HR3.out (by simp; omega) _) (by simp; omega) _) (by simp; omega) _) (by omega)
  · have e0 : ((k : Int) == 0) = false := by simp; omega
    by_cases hk1 : k = 1
    · subst hk1
      clear o0 o1 f0 f1
      have HDd := Lib.hid (lw_drew HD2.out)
      have hrd := Lib.hid (show RdAt w2.drew g (q + 1) from hr2'.out)
      have hL0 := HD2.out.hL
      have y2 := blk_lt HD2.out.l
      go_wp2_with fail
      go_region_law (first
        | (refine step_app_pkts _ rfl (.tmp 19) (.tmp 26) rfl (w.heap.size + 2) (.slice A1 n c1) n ps rfl (HD5.out.own.alloc _) (some ⟨w5.heap.size, 0, none⟩) 1 1 [p5] rfl (pr_single (blk_at rfl _ _)) (by omega) (by simp; omega) ?_
           intro v6 w6 ho6 hg6 hat6
           have X6 := Lib.hid (lw_app HD5.out hr5.out hg6 hat6 ho6)
           obtain ⟨A6, c6, rfl, -, -, -⟩ := own_form ho6
           obtain ⟨m0, m1, i0, i1⟩ := blk_two X6.out.1
           obtain ⟨o0, o1, f0, f1⟩ := blk_two X6.out.2.1
           clear ho6 hg6 hat6)
        | (go_simp; go_at_call 70; (with_reducible refine (l1Draw_any g _ _ hrd.out (by omega)).mono ?_); rintro e w3 ⟨p3, rfl, hp3, hg3, hr3⟩; have HD3 := Lib.hid (lw_grown HDd.out hg3); obtain ⟨m0, m1, i0, i1⟩ := blk_two HD3.out.l; have hr3' := Lib.hid hr3; clear hp3 hg3 hr3)
        | (go_simp; go_at_call 69; (with_reducible refine (l1Wrong_any g _ p3 _ hr3'.out (by omega)).mono ?_); rintro e w4 ⟨p4, rfl, hp4, hg4, hr4⟩; have HD4 := Lib.hid (lw_grown HD3.out hg4); obtain ⟨m0, m1, i0, i1⟩ := blk_two HD4.out.l; have hr4' := Lib.hid hr4; clear hp4 hg4 hr4)
        | (go_simp; go_at_call 69; (with_reducible refine (l1Wrong_any g _ p4 _ hr4'.out (by omega)).mono ?_); rintro e w5 ⟨p5, rfl, hp5, hg5, hr5o⟩; have HD5 := Lib.hid (lw_grown HD4.out hg5); obtain ⟨m0, m1, i0, i1⟩ := blk_two HD5.out.l; have hr5 := Lib.hid hr5o; have y5 := blk_lt HD5.out.l; clear hp5 hg5 hr5o))
      all_goals
        go_wp2
        refine bodyPost_ret (v := .agg #[.int .i64 lim, (.slice A6 (n + 1) c6)]) (by simp [results, Try.results66, go_sem, o0, o1]) rfl ⟨lim, A6, n + 1, c6, ps ++ [p5], rfl, by omega, ?_, ?_, ?_⟩
        · exact own_mono (own_set_far (own_set_far (own_set_ne X6.out.2.2.2.2.1 (fun e => X6.out.2.2.2.2.2 e) _) (by simp) _) (by simp) _) (by omega)
        · exact g_set (g_set (g_set X6.out.2.2.1 (.inr (by simp; omega)) _) (.inr (by simp)) _) (.inr (by simp)) _
        · exact rd_more (rd_set (rd_set (rd_set X6.out.2.2.2.1 (by simp; omega) _) (by simp; omega) _) (by simp; omega) _) (by omega)
    · have e1 : ((k : Int) == 1) = false := by simp; omega
      clear hk1 hk0
      go_wp2
      refine bodyPost_ret (v := .agg #[.int .i64 lim, (.slice A1 n c1)]) (by simp [results, Try.results66, go_sem, o0, o1]) rfl ⟨lim, A1, n, c1, ps, rfl, by omega, ?_, ?_, ?_⟩
      · exact own_mono (own_set_far (own_set_far HD2.out.own (by simp) _) (by simp) _) (by omega)
      · exact g_set (g_set HD2.out.gr (.inr (by simp)) _) (.inr (by simp)) _
      · exact rd_more (rd_set (rd_set hr2'.out (by simp; omega) _) (by simp; omega) _) (by omega)
end Go.Proofs.Ytapoahoknlaeaab
