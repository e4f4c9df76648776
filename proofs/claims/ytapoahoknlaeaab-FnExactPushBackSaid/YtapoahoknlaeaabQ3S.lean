/-
  Chapter 3: PushBack: what the model returns. Conditions: the slice has at most 4000000000 packets.
-/
import Derived.Test.YtapoahoknlaeaabQ3
namespace Go.Proofs.Ytapoahoknlaeaab
open Go.RowKit

set_option maxHeartbeats 4000000 in
theorem pushS_no (lim : Int) (A : Option Addr) (n c : Nat) (ps : List Pkt) (p : Pkt) (w : World) (h : PR w A n ps) (hn : n ≤ 4000000000) (hk : pushOk lim ps p = false) :
    Calls Try.prog 32 #[.agg #[.int .i64 lim, (.slice A n c)], .agg #[.int .i64 p.peer, .int .i64 p.lane, .int .i64 p.size, .int .i64 p.id]] w (QPost2 w 0 [] (.bool false) (.bool false)) := by
  have F0 := Lib.hid (f3_first (lim := lim) (c := c) (p := p) w h)
  clear h
  rcases hq : qvB lim ps with _ | _
  · have HQ := Lib.hid hq
    clear hq hk
    go_enter Try.func32, Try.ntmps32
    go_wp2_with fail
    refine (qvS_any lim A n c ps _ F0.out.pr (by omega)).mono ?_
    rintro e w1 ⟨rfl, hb⟩
    rw [HQ.out]
    have F1 := Lib.hid (f3_below F0.out hb)
    obtain ⟨⟨c0, c1⟩, ⟨k0, k1, k2, k3⟩, o0, o1, f0, f1⟩ := f3_cells F1.out
    clear hb
    go_wp2
    refine bodyPost_ret (v := .tuple #[.agg #[.int .i64 0, (.slice none 0 0)], .bool false, .bool false]) (by simp [results, Try.results32, go_sem, o0, o1]) rfl (qpost2_mk rfl (World.ownsRow_nil _ _ _ _) ?_)
    repeat refine Below.setCell ?_ (by simp <;> omega) _
    exact F1.out.below
  · have HV : Hid (vldB p = false) := Lib.hid (by simpa [pushOk, hq] using hk)
    have HQ := Lib.hid hq
    clear hq hk
    go_enter Try.func32, Try.ntmps32
    go_wp2_with fail
    refine (qvS_any lim A n c ps _ F0.out.pr (by omega)).mono ?_
    rintro e w1 ⟨rfl, hb⟩
    rw [HQ.out]
    have F1 := Lib.hid (f3_below F0.out hb)
    obtain ⟨⟨c0, c1⟩, ⟨k0, k1, k2, k3⟩, o0, o1, f0, f1⟩ := f3_cells F1.out
    clear hb
    go_wp2_with fail
    refine (vldS_any p _).mono ?_
    rintro e w2 ⟨rfl, hb⟩
    rw [HV.out]
    have F2 := Lib.hid (f3_below F1.out hb)
    clear c0 c1 k0 k1 k2 k3 o0 o1 f0 f1 hb
    obtain ⟨⟨c0, c1⟩, ⟨k0, k1, k2, k3⟩, o0, o1, f0, f1⟩ := f3_cells F2.out
    go_wp2
    refine bodyPost_ret (v := .tuple #[.agg #[.int .i64 0, (.slice none 0 0)], .bool false, .bool false]) (by simp [results, Try.results32, go_sem, o0, o1]) rfl (qpost2_mk rfl (World.ownsRow_nil _ _ _ _) ?_)
    repeat refine Below.setCell ?_ (by simp <;> omega) _
    exact F2.out.below
theorem inq_no {lim : Int} {ps : List Pkt} {p : Pkt} (h : lim < sizeSum ps + p.size ∨ ps.length = 64) : inQ lim ps p = false := by
  rw [inQ, decide_eq_false_iff_not]; omega
theorem inq_yes {lim : Int} {ps : List Pkt} {p : Pkt} (h : sizeSum ps + p.size ≤ lim) (h2 : ps.length < 64) : inQ lim ps p = true := by
  rw [inQ, decide_eq_true_eq]; omega
set_option maxHeartbeats 4000000 in
theorem pushS_yes (lim : Int) (A : Option Addr) (n c : Nat) (ps : List Pkt) (p : Pkt) (w : World) (h : PR w A n ps) (hn : n ≤ 4000000000) (hk : pushOk lim ps p = true) :
    Calls Try.prog 32 #[.agg #[.int .i64 lim, (.slice A n c)], .agg #[.int .i64 p.peer, .int .i64 p.lane, .int .i64 p.size, .int .i64 p.id]] w (QPost2 w lim (pushP lim ps p) (.bool (pushIn lim ps p)) (.bool true)) := by
  have F0 := Lib.hid (f3_first (lim := lim) (c := c) (p := p) w h)
  obtain ⟨hq, hv⟩ := pushOk_of hk
  obtain ⟨q1, q2, q3, q4, q5, q6⟩ := qv_of hq
  have HL := Lib.hid h.1
  have HK := Lib.hid hk
  have HQ := Lib.hid hq
  have HV := Lib.hid hv
  have H1 := Lib.hid q1
  have n64 : n ≤ 64 := by have := h.1; omega
  obtain ⟨z, hz⟩ : ∃ z, z = sizeSum ps := ⟨_, rfl⟩
  have HZ := Lib.hid hz
  have z0 : 0 ≤ z := by omega
  have z1 : z ≤ 1000 := by omega
  have v0 := (vld_size hv).1
  have v1 := (vld_size hv).2
  clear h hk hq hv q1 q4 q5 q6 hz
  have y1 : IntKind.i64.wrap (z + p.size) = z + p.size := IntWalk.i64_in _ (by omega)
  have HY := Lib.hid y1
  clear y1
  go_enter Try.func32, Try.ntmps32
  go_wp2_with fail
  refine (qvS_any lim A n c ps _ F0.out.pr (by omega)).mono ?_
  rintro e w1 ⟨rfl, hb⟩
  rw [HQ.out]
  have F1 := Lib.hid (f3_below F0.out hb)
  obtain ⟨⟨c0, c1⟩, ⟨k0, k1, k2, k3⟩, o0, o1, f0, f1⟩ := f3_cells F1.out
  clear hb
  go_wp2_with fail
  refine (vldS_any p _).mono ?_
  rintro e w2 ⟨rfl, hb⟩
  rw [HV.out]
  have F2 := Lib.hid (f3_below F1.out hb)
  clear c0 c1 k0 k1 k2 k3 o0 o1 f0 f1 hb F1
  obtain ⟨⟨c0, c1⟩, ⟨k0, k1, k2, k3⟩, o0, o1, f0, f1⟩ := f3_cells F2.out
  go_wp2_with fail
  refine (copyS_any lim A n c ps _ F2.out.pr hn).mono ?_
  rintro e w3 ⟨A3, c3, rfl, ho3, hb⟩
  have F3' := Lib.hid (f3_below F2.out hb)
  have z2 := f3_lt F2.out
  have z3 := hb.size
  have HO3 := Lib.hid ho3
  clear c0 c1 k0 k1 k2 k3 o0 o1 f0 f1 hb
  have FW := Lib.hid (f3_alloc F3'.out (.cells #[.int .i64 lim, (.slice A3 n c3)] 25))
  have LW := Lib.hid (blk_new w3 25 #[.int .i64 lim, (.slice A3 n c3)])
  have OW := Lib.hid (HO3.out.alloc (.cells #[.int .i64 lim, (.slice A3 n c3)] 25))
  have hlt3 := Lib.hid (show ∀ g, Value.ownBlock (.slice A3 n c3) = some g → w2.heap.size ≤ g ∧ g < w3.heap.size from fun g hg => ho3.lt g hg)
  have zW : w3.heap.size < (w3.alloc (.cells #[.int .i64 lim, (.slice A3 n c3)] 25)).heap.size := by simp
  have PA := Lib.hid FW.out.pr
  have y0' := f3_lts FW.out
  obtain ⟨⟨c0, c1⟩, ⟨k0, k1, k2, k3⟩, o0, o1, f0, f1⟩ := f3_cells F3'.out
  obtain ⟨y0, y1, y2⟩ := f3_lts F3'.out
  clear ho3
  go_upto_region 4 with (fail)
  clear c0 c1 k0 k1 k2 k3 o0 o1 f0 f1 y0 y1 y2
  generalize w3.alloc (.cells #[.int .i64 lim, (.slice A3 n c3)] 25) = W at FW LW OW zW PA y0' ⊢
  obtain ⟨⟨c0, c1⟩, ⟨k0, k1, k2, k3⟩, o0, o1, f0, f1⟩ := f3_cells FW.out
  obtain ⟨l0, l1, g0, g1⟩ := blk_two LW.out
  obtain ⟨y0, y1, y2⟩ := y0'
  by_cases hfull : lim < z + p.size
  · have HI := Lib.hid (push_full HK.out (inq_no (.inl (by rw [← HZ.out]; exact hfull))))
    have yw := HY.out
    go_wp2_with fail
    go_quiet ((go_at_call 54; exact Calls.quiet_of_same (sumS_is A n c ps z _ PA.out H1.out HZ.out)))
    clear yw
    go_wp2
    rw [HI.out.1, HI.out.2.2]
    refine bodyPost_ret (v := .tuple #[.agg #[.int .i64 lim, (.slice A3 n c3)], .bool false, .bool true]) (by simp [results, Try.results32, go_sem, o0, o1]) rfl (qpost2_mk rfl ?_ ?_)
    · exact own_mono (own_set_far (own_set_far (show World.ownsRow (World.drewN W _) _ _ _ _ _ _ from OW.out) (by first | omega | (simp <;> omega)) _) (by first | omega | (simp <;> omega)) _) (by first | omega | (simp <;> omega))
    · repeat refine Below.setCell ?_ (by simp <;> omega) _
      exact below_drewN FW.out.below _
  · have hd : decide (lim < z + p.size) = false := by simp; omega
    have hle : z + p.size ≤ lim := by omega
    clear hfull
    by_cases h64 : n = 64
    · have HI := Lib.hid (push_full HK.out (inq_no (.inr (by rw [HL.out]; exact h64))))
      have he : ((n : Int) == 64) = true := by simp; omega
      clear h64
      have yw := HY.out
      go_wp2_with fail
      go_quiet ((go_at_call 54; exact Calls.quiet_of_same (sumS_is A n c ps z _ PA.out H1.out HZ.out)))
      clear yw
      go_wp2
      rw [HI.out.1, HI.out.2.2]
      refine bodyPost_ret (v := .tuple #[.agg #[.int .i64 lim, (.slice A3 n c3)], .bool false, .bool true]) (by simp [results, Try.results32, go_sem, o0, o1]) rfl (qpost2_mk rfl ?_ ?_)
      · exact own_mono (own_set_far (own_set_far (show World.ownsRow (World.drewN W _) _ _ _ _ _ _ from OW.out) (by first | omega | (simp <;> omega)) _) (by first | omega | (simp <;> omega)) _) (by first | omega | (simp <;> omega))
      · repeat refine Below.setCell ?_ (by simp <;> omega) _
        exact below_drewN FW.out.below _
    · have HI := Lib.hid (push_in HK.out (inq_yes (by rw [← HZ.out]; exact hle) (by rw [HL.out]; omega)))
      have he : ((n : Int) == 64) = false := by simp; omega
      clear h64
      have yw := HY.out
      go_wp2_with fail
      go_quiet ((go_at_call 54; exact Calls.quiet_of_same (sumS_is A n c ps z _ PA.out H1.out HZ.out)))
      clear yw he hd
      go_wp2_with (at_builtin
                   refine wpl_app_pkts _ rfl (.tmp 36) (.tmp 38) rfl w2.heap.size (.slice A3 n c3) n ps rfl ((show World.ownsRow (World.drewN W _) _ _ _ _ _ _ from OW.out).alloc _) (some ⟨W.heap.size, 0, none⟩) 1 1 [p] rfl (pr_single (blk_at (by simp) _ _)) (by omega) (by simp <;> omega) ?_
                   intro v4 w4 ho4 hg4 hat4
                   have F4 := Lib.hid (f3_grown (f3_alloc (f3_drewN FW.out _) _) hg4 (fun g hg => by have := hlt3.out g hg; omega))
                   have L4 := Lib.hid (blk_grownQ (blk_alloc (blk_drewN LW.out _) _) hg4 (fun e => by have := hlt3.out _ e.symm; omega))
                   have z4 : w3.heap.size < w4.heap.size := (by have := hg4.size; simp at this; omega)
                   obtain ⟨A4, c4, rfl, -, -, -⟩ := own_form ho4
                   have O4 := Lib.hid ho4
                   have hne := Lib.hid (show Value.ownBlock (.slice A4 (n + 1) c4) ≠ some w3.heap.size from (by
                     rcases hat4 with e | e
                     · rw [e]; intro e2; have := hlt3.out _ e2; simp at this
                     · rw [e]; simp <;> omega))
                   clear hg4 hat4 hlt3 ho4 c0 c1 k0 k1 k2 k3 o0 o1 f0 f1 y0 y1 y2 l0 l1 g0 g1
                   obtain ⟨l0, l1, g0, g1⟩ := blk_two L4.out
                   obtain ⟨⟨c0, c1⟩, ⟨k0, k1, k2, k3⟩, o0, o1, f0, f1⟩ := f3_cells F4.out)
      have x0 := f3_lt F4.out
      rw [HI.out.1, HI.out.2.2]
      refine bodyPost_ret (v := .tuple #[.agg #[.int .i64 lim, (.slice A4 (n + 1) c4)], .bool true, .bool true]) (by simp [results, Try.results32, go_sem, o0, o1]) rfl (qpost2_mk rfl ?_ ?_)
      · exact own_mono (own_set_far (own_set_far (own_set_ne O4.out (fun e => hne.out e) _) (by first | omega | (simp <;> omega)) _) (by first | omega | (simp <;> omega)) _) (by first | omega | (simp <;> omega))
      · repeat refine Below.setCell ?_ (by simp <;> omega) _
        exact F4.out.below
end Go.Proofs.Ytapoahoknlaeaab
