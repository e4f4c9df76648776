/-
  Chapter 3: ShedFor: what the model returns when there is room to make. UNFINISHED: stands as far as the outer loop.
-/
import Derived.Test.YtapoahoknlaeaabQ8S
namespace Go.Proofs.Ytapoahoknlaeaab
open Go.RowKit

def lenV : Value → Nat
  | .slice _ n _ => n
  | _ => 0
theorem own_capT {w : World} {base : Nat} {e : TypeId} {A : Option Addr} {n c size : Nat} {xs : List Value} (h : w.ownsRow base e size (.slice A n c) n xs) : n ≤ c ∧ c ≤ 9223372036854775807 := by
  obtain ⟨A', c', hv, h1, h2, -⟩ := own_form h
  obtain rfl : c = c' := by injection hv
  exact ⟨h1, by unfold maxLen at h2; omega⟩
set_option maxHeartbeats 2000000 in
theorem shedS_yes (lim : Int) (A : Option Addr) (n c : Nat) (ps : List Pkt) (size : Int) (w : World) (h : PR w A n ps) (hn : n ≤ 4000000000) (hk : shedOk lim ps size = true) :
    Calls Try.prog 40 #[.agg #[.int .i64 lim, (.slice A n c)], .int .i64 size] w (QPostL w lim (shed lim size ps).1 (shed lim size ps).2 true) := by
  have F := Lib.hid (fr_alloc (fr_drop h lim c) (.cells #[] 51))
  have E := Lib.hid (own_emptyQ (W := ((w.alloc (.cells #[.int .i64 lim, (.slice A n c)] 25)).alloc (.cells #[.int .i64 0, (.slice none 0 0)] 25))) (b := w.heap.size + 2) (by simp))
  obtain ⟨hq, -, s0, s1⟩ := shed_of hk
  have q3 := (qv_of hq).2.2.1
  have HQ := Lib.hid hq
  have HL := Lib.hid h.1
  have n64 : n ≤ 64 := by have := h.1; have := (qv_of hq).2.2.2.2.2; omega
  have e0 : decide (size < 0) = false := by simp; omega
  have e1 : decide (lim < size) = false := by simp; omega
  clear h hk hq
  go_enter Try.func40, Try.ntmps40
  go_wp2_with fail
  refine (qvS_any lim A n c ps _ F.out.pr (by omega)).mono ?_
  rintro e w1 ⟨rfl, hb⟩
  rw [HQ.out]
  replace F := Lib.hid (fr_below F.out hb)
  have E1 := Lib.hid (own_below E.out hb)
  have z1 := F.out.lt
  simp [dropBs] at z1
  have z1' := hb.size
  simp at z1'
  have y1 : w.heap.size < w1.heap.size := by omega
  have y2 : w.heap.size + 1 < w1.heap.size := by omega
  clear hb E
  have F0c0 : World.cell? w1 ⟨w.heap.size, 0, none⟩ = some (.int .i64 lim) := blk_cell (F.out.it 0 _ _ rfl) 0
  have F0f0 : World.frozen? w1 ⟨w.heap.size, 0, none⟩ = false := blk_free (F.out.it 0 _ _ rfl) 0
  have F0c1 : World.cell? w1 ⟨w.heap.size, 1, none⟩ = some ((.slice A n c)) := blk_cell (F.out.it 0 _ _ rfl) 1
  have F0f1 : World.frozen? w1 ⟨w.heap.size, 1, none⟩ = false := blk_free (F.out.it 0 _ _ rfl) 1
  have F1c0 : World.cell? w1 ⟨w.heap.size + 1, 0, none⟩ = some (.int .i64 0) := blk_cell (F.out.it 1 _ _ rfl) 0
  have F1f0 : World.frozen? w1 ⟨w.heap.size + 1, 0, none⟩ = false := blk_free (F.out.it 1 _ _ rfl) 0
  have F1c1 : World.cell? w1 ⟨w.heap.size + 1, 1, none⟩ = some ((.slice none 0 0)) := blk_cell (F.out.it 1 _ _ rfl) 1
  have F1f1 : World.frozen? w1 ⟨w.heap.size + 1, 1, none⟩ = false := blk_free (F.out.it 1 _ _ rfl) 1
  go_wp2_with fail
  refine (copyS_any lim A n c ps _ F.out.pr hn).mono ?_
  rintro e w2 ⟨A2, c2, rfl, ho2, hb2⟩
  have z2 := hb2.size
  have K0 : Hid (SS w w2.heap.size lim A n c ps A2 n c2 ps (some ⟨w.heap.size + 2, 0, none⟩) 0 0 [] (w2.alloc (.cells #[.int .i64 lim, (.slice A2 n c2)] 25))) :=
    Lib.hid ⟨fr_alloc (fr_below F.out hb2) _, blk_new w2 _ _, own_mono (ho2.alloc _) (by omega), own_mono ((own_below E1.out hb2).alloc _) (by simp), fun e => (by have := (ho2.lt _ e).2; omega), (by simp [Value.ownBlock]; omega), fun b e e2 => (by have := (ho2.lt b e).1; simp [Value.ownBlock] at e2; omega), by omega⟩
  have R0 : Hid (SsRel w w2.heap.size lim size A n c ps (.slice (some ⟨w.heap.size + 2, 0, none⟩) 0 0) (w2.alloc (.cells #[.int .i64 lim, (.slice A2 n c2)] 25))) :=
    Lib.hid ⟨ps, [], A2, n, c2, _, 0, 0, rfl, HQ.out, rfl, by omega, K0.out⟩
  clear F0c0 F0f0 F0c1 F0f1 F1c0 F1f0 F1c1 F1f1
  clear hb2 ho2 K0 E1 F
  go_wp2_with fail
  go_loopw [7] (fun sh wr => SsRel w w2.heap.size lim size A n c ps sh wr) (fun sh _ => n - lenV sh)
  case atStart => exact R0.out
  case round =>
    obtain ⟨cur, gone, A3, m, c3, Ag, mg, cg, rfl, hcq, hsh, hmn, hD⟩ := hrel
    clear R0
    have HD := Lib.hid hD
    have HC := Lib.hid hcq
    have HS := Lib.hid hsh
    obtain ⟨r1, r2, r3, r4, r5, r6⟩ := qv_of hcq
    obtain ⟨z, hz⟩ : ∃ z, z = sizeSum cur := ⟨_, rfl⟩
    rw [← hz] at r4 r5
    have hm : cur.length = m := (pr_own hD.own).1
    have m64 : m ≤ 64 := by omega
    have H1 := Lib.hid r1
    have HZ := Lib.hid hz
    obtain ⟨l0, l1, g0, g1⟩ := blk_two hD.l
    have P1c0 : wr.cell? ⟨w.heap.size, 0, none⟩ = some (.int .i64 lim) := blk_cell (hD.fr.it 0 _ _ rfl) 0
    have yw : IntKind.i64.wrap (z + size) = z + size := IntWalk.i64_in _ (by omega)
    by_cases hlt : lim < z + size
    · have hne : 0 < cur.length := shed_some s1 (by rw [← hz]; omega)
      obtain ⟨k1, k2, p, k3, -, -⟩ := cut_spec (ok_of r1).2 hne
      have HG := Lib.hid (shed_go (lim := lim) (size := size) (g := gone) (by rw [← hz]; omega) k2 k3)
      have HO : Hid (qvB lim (cur.eraseIdx (cutIx cur)) = true) := Lib.hid (by
        have := erase_sum k3
        have := vld_size (ok_at r1 k3)
        exact qv_mk (ok_mk (by have := erase_len k2; omega) (erase_all _ (ok_of r1).2)) r2 r3 (by omega))
      rw [hm] at k1 k2
      obtain ⟨i, hi⟩ : ∃ i, cutIx cur = i := ⟨_, rfl⟩
      rw [hi] at k1 k2 k3 HG HO
      obtain ⟨hp, hhp⟩ : ∃ q : Int, (heavy cur : Int) = q := ⟨_, rfl⟩
      rw [hhp] at k1
      have HK := Lib.hid (And.intro k1 (And.intro k3 (And.intro hm hhp)))
      obtain ⟨b2, c3', hv2, hcb, hcc⟩ := hD.own.form (by omega)
      obtain ⟨rfl, rfl⟩ : A3 = some ⟨b2, 0, none⟩ ∧ c3 = c3' := by injection hv2 with a1 a2 a3; exact ⟨a1, a3⟩
      have hcap := (own_capT hD.own).1
      have m1 : 0 < m := by omega
      clear hcq hsh r1 r2 r3 r4 r5 r6 hm hne k1 k3 hi hhp hD hz hv2 hcb hcc
      go_wp2_with fail
      go_quiet ((go_at_call 54; exact Calls.quiet_of_same (sumS_is _ m c3 cur z _ (pr_own HD.out.own) H1.out HZ.out)))
      clear yw hlt
      go_wp2_with fail
      refine (l3Heaviest_any _ m c3 cur _ (pr_own (ss_drewN HD.out _).own) H1.out).mono ?_
      rintro e w3 ⟨rfl, hb3⟩
      rw [HK.out.2.2.2]
      have D3 := Lib.hid (ss_below (ss_drewN HD.out _) hb3)
      clear l0 l1 g0 g1 hb3 P1c0
      obtain ⟨l0, l1, g0, g1⟩ := blk_two D3.out.l
      have x2 := blk_lt D3.out.l
      have x3 := D3.out.hL
      have HN := Lib.hid HK.out
      go_wp2_with fail
      go_loop [11] (fun at' => ∃ j : Nat, j < m ∧ at' = .int .i64 (j : Int) ∧ lastN cur hp (j + 1) = (i : Int)) (fun at' => (intOf at').toNat)
      case atStart => exact ⟨m - 1, by omega, congrArg (Value.int .i64) (by omega), by rw [show m - 1 + 1 = m by omega]; exact HK.out.1⟩
      case round =>
        obtain ⟨j, hj, rfl, hlast⟩ := hrel
        obtain ⟨b', off', q, e1, e2, e3, c0, d1, d2, d3⟩ := pr_at (k := j) (pr_own D3.out.own) hj
        obtain ⟨rfl, rfl⟩ : b2 = b' ∧ 0 = off' := by injection e1 with e1; injection e1 with a b; exact ⟨a, b⟩
        rw [Nat.zero_add] at c0 d1 d2 d3
        have x0 : (0 : Int) ≤ (j : Int) := by omega
        have x1 : (j : Int) < (m : Int) := by omega
        by_cases hq : q.peer = hp
        · obtain rfl : j = i := (last_stop hlast e3).1 hq
          obtain rfl : p = q := by have := HK.out.2.1; rw [e3] at this; exact (Option.some.inj this).symm
          have hxb : (p.peer != hp) = false := by simp [hq]
          clear hlast e1 e2 e3 hq
          go_wp2_with (at_builtin
                       refine wpl_app_pkts _ rfl (.tmp 58) (.tmp 64) rfl (w.heap.size + 2) (.slice Ag mg cg) mg gone rfl (D3.out.gown.alloc _) (some ⟨w3.heap.size, 0, none⟩) 1 1 [p] rfl (pr_single (blk_at (by simp) _ _)) (by omega) (by simp; omega) ?_
                       intro v4 w4 ho4 hg4 hat4
                       obtain ⟨A4, c4, rfl, -, -, -⟩ := own_form ho4
                       have D4 := Lib.hid (ss_app (ss_alloc D3.out _) hg4 ho4 hat4)
                       clear hg4 ho4 hat4 l0 l1 g0 g1 c0 d1 d2 d3)
          have D5 := Lib.hid (ss_drew D4.out)
          obtain ⟨l0, l1, g0, g1⟩ := blk_two D4.out.l
          have x4 := blk_lt D4.out.l
          have x5 : ((j : Int) + 1).toNat = j + 1 := by omega
          have x6 : IntKind.i64.wrap ((j : Int) + 1) = (j : Int) + 1 := IntWalk.i64_in _ (by omega)
          have x7 : (j : Int) + 1 ≤ (m : Int) := by omega
          have x8 : j + 1 ≤ m := by omega
          have x9 : j ≤ c3 := by omega
          have x10 : (0 : Int) ≤ (j : Int) + 1 := by omega
          obtain ⟨A1, hA, hP⟩ : ∃ A1, (if c3 = j + 1 then (some ⟨b2, 0, none⟩ : Option Addr) else some ⟨b2, (j + 1) * 4, none⟩) = some A1 ∧ Hid (∀ W, PR W (some ⟨b2, 0, none⟩) m cur → PR W (some A1) (m - (j + 1)) (cur.drop (j + 1))) := by
            by_cases hc1 : c3 = j + 1
            · refine ⟨_, if_pos hc1, Lib.hid fun W hW => ?_⟩
              have := pr_drop hW x8 hcap
              rw [if_pos hc1] at this
              exact this
            · refine ⟨_, if_neg hc1, Lib.hid fun W hW => ?_⟩
              have := pr_drop hW x8 hcap
              rw [if_neg hc1] at this
              simpa [Addr.add] using this
          have HT0 := Lib.hid (World.ownsRow.drew (own_emptyQ (W := w4) rfl))
          go_region_law (first
            | (refine step_app_pkts _ rfl (.tmp 71) (.tmp 76) rfl w4.heap.size (.slice A6 j c6) j (cur.take j) rfl O6.out (some A1) (m - (j + 1)) (c3 - (j + 1)) (cur.drop (j + 1)) rfl (hP.out _ (pr_own D6.out.own)) (by omega) T6.out.size ?_
               intro v7 w7 ho7 hg7 hat7
               have T7 := Lib.hid (app_belowQ O6.out T6.out hg7 T6.out.size)
               obtain ⟨A7, c7, rfl, -, -, -⟩ := own_form ho7
               have D7 := Lib.hid (ss_row D4.out T7.out ho7)
               clear l0' l1' g0' g1'
               obtain ⟨l0', l1', g0', g1'⟩ := blk_two (ss_below D4.out T7.out).l
               clear hg7 hat7 ho7)
            | (refine step_app_pkts _ rfl (.tmp 66) (.tmp 70) rfl w4.heap.size (.slice (some ⟨w4.heap.size, 0, none⟩) 0 0) 0 [] rfl HT0.out (some ⟨b2, 0, none⟩) j c3 (cur.take j) rfl (pr_take (pr_own (ss_drew (ss_alloc D4.out _)).own) (by omega)) (by omega) (by simp) ?_
               intro v6 w6 ho6 hg6 hat6
               simp only [List.nil_append, Nat.zero_add] at ho6
               have T6 := Lib.hid (app_belowQ HT0.out (Below.drew (below_alloc (Below.refl _ _) _)) hg6 (by simp))
               obtain ⟨A6, c6, rfl, -, -, -⟩ := own_form ho6
               have O6 := Lib.hid ho6
               have D6 := Lib.hid (ss_below D4.out T6.out)
               obtain ⟨l0', l1', g0', g1'⟩ := blk_two D6.out.l
               clear hg6 hat6 ho6))
          all_goals
            clear l0 l1 g0 g1 l0' l1' g0' g1'
            go_wp2
            go_roundw
            case rel => exact ⟨cur.eraseIdx j, gone ++ [p], A7, j + (m - (j + 1)), c7, A4, mg + 1, c4, rfl, HO.out, HG.out.symm.trans HS.out, by omega, by rw [List.eraseIdx_eq_take_drop_succ]; exact D7.out⟩
            case measure => simp [lenV]; omega
        · have hxb : (q.peer != hp) = true := by simp [hq]
          have hls := (last_stop hlast e3).2 hq
          have HL2 := Lib.hid hls.1
          have x5 : 1 ≤ j := by omega
          clear hlast e1 e2 e3 hq hls
          go_wp2
          go_round
          case rel => exact ⟨j - 1, by omega, congrArg (Value.int .i64) (by omega), by rw [show j - 1 + 1 = j by omega]; exact HL2.out⟩
          case measure => simp [intOf]; omega
    · have e1 := shed_stop (lim := lim) (size := size) (ps := cur) (g := gone) (by rw [← hz]; omega)
      rw [hsh] at e1
      have HX := Lib.hid e1
      obtain ⟨o0, o1, f0, f1⟩ := blk_two (show Blk wr (w.heap.size + 1) 25 #[.int .i64 0, (.slice none 0 0)] from hD.fr.it 1 _ _ rfl)
      have x1 := blk_lt hD.l
      have x2 := hD.hL
      have hd : decide (lim < z + size) = false := by simp; omega
      clear hD hsh e1 hcq r1 hm hz hlt
      go_wp2_with fail
      go_quiet ((go_at_call 54; exact Calls.quiet_of_same (sumS_is _ m c3 cur z _ (pr_own HD.out.own) H1.out HZ.out)))
      clear yw
      go_wp2
      rw [HX.out]
      refine bodyPost_ret (v := .tuple #[.agg #[.int .i64 lim, (.slice A3 m c3)], .slice Ag mg cg, .bool true]) (by simp [results, Try.results40, go_sem, o0, o1]) rfl (qpostl_mk rfl ?_ ?_ HD.out.sep ?_)
      · exact own_mono (own_set_far (own_set_far (ss_drewN HD.out _).own (by simp) _) (by simp) _) (by omega)
      · exact own_mono (own_set_far (own_set_far (ss_drewN HD.out _).gown (by simp) _) (by simp) _) (by omega)
      · exact Below.setCell (Below.setCell (ss_drewN HD.out _).fr.below (by simp) _) (by simp) _
end Go.Proofs.Ytapoahoknlaeaab
