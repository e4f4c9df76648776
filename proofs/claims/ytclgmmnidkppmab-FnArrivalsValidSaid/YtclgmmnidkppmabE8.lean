/-
  Chapter 10: ShapeArrivals: what the model returns. Conditions: a slice's length fits an int.
-/
import Derived.Test.YtclgmmnidkppmabE7
namespace Go.Proofs.Ytclgmmnidkppmab
open Go.RowKit

set_option maxRecDepth 8000 in
set_option maxHeartbeats 4000000 in
theorem shS_any (A : Option Addr) (n c : Nat) (ps : List Arr) (r s : Int) (w : World) (h : AR w A n ps) (hn : n ≤ 9223372036854775807) :
    Calls Try.prog 31 #[.slice A n c, .int .i64 r, .int .i64 s] w (ShPost w ps r s) := by
  have H := Lib.hid h
  have HA := Lib.hid (ar_alloc h (.cells #[] 50))
  have E0 := Lib.hid (own_emptyA (W := w) rfl)
  have B0 := Lib.hid (below_alloc (Below.refl w.heap.size w) (.cells #[] 50))
  clear h
  rcases h1 : avB ps with _ | _
  · have HK := Lib.hid (show bkB ps r s = false by rw [bkB, h1, Bool.false_and])
    go_enter Try.func31, Try.ntmps31
    go_wp2_with (go_at_call 16; refine (avS_any A n c ps _ HA.out hn).mono ?_; rintro e w1 ⟨rfl, hb1⟩; have B1 := Lib.hid (below_seq B0.out hb1); have O1 := Lib.hid (own_below E0.out hb1); clear hb1)
    go_ret2
    exact ⟨_, 0, _, [], false, rfl, .inr ⟨.inl HK.out, rfl, rfl⟩, by omega, O1.out, B1.out⟩
  · rcases h2 : rbB r s with _ | _
    · have HK := Lib.hid (show bkB ps r s = false by rw [bkB, h2, Bool.and_false])
      go_enter Try.func31, Try.ntmps31
      go_wp2_with (first | (go_at_call 16; refine (avS_any A n c ps _ HA.out hn).mono ?_; rintro e w1 ⟨rfl, hb1⟩; have B1 := Lib.hid (below_seq B0.out hb1); have O1 := Lib.hid (own_below E0.out hb1); clear hb1) | (go_at_call 50; refine (ratesS_any _ _ _).mono ?_; rintro e w' ⟨rfl, rfl⟩))
      go_ret2
      exact ⟨_, 0, _, [], false, rfl, .inr ⟨.inl HK.out, rfl, rfl⟩, by omega, O1.out, B1.out⟩
    · have HK := Lib.hid (show bkB ps r s = true by rw [bkB, h1, h2]; rfl)
      have V0 := Lib.hid (av_of h1).2
      have hn32 : n ≤ 32 := by have := (av_of h1).1; have := H.out.1; omega
      have HF := Lib.hid (bv_full h2)
      go_enter Try.func31, Try.ntmps31
      go_wp2_with fail
      refine (avS_any A n c ps _ HA.out hn).mono ?_
      rintro e w1 ⟨rfl, hb1⟩
      rw [h1]
      have hzw := hb1.size
      simp at hzw
      have B1 := Lib.hid (below_seq B0.out hb1)
      have O1 := Lib.hid (own_below E0.out hb1)
      have R0 : ShRel w ps r s n w1.heap.size (.slice (some ⟨w.heap.size, 0, none⟩) 0 0) (.int .i64 0) (w1.alloc (.cells #[.int .i64 r, .int .i64 s, .int .i64 s, .int .i64 0] 62)) := ⟨0, s, 0, [], Nat.zero_le _, rfl, by simp [shape], HF.out, by omega, O1.out.alloc _, blk_new w1 _ _, by simp [Value.ownBlock]; omega, below_alloc B1.out _⟩
      have HR0 := Lib.hid R0
      clear hb1 R0 O1
      go_wp2_with (go_at_call 50; refine (ratesS_any _ _ _).mono ?_; rintro e w' ⟨rfl, rfl⟩)
      go_loopw [8, 10] (fun v i wr => ShRel w ps r s n w1.heap.size v i wr) (fun _ i _ => n - (intOf i).toNat)
      case atStart => exact HR0.out
      case round =>
        obtain ⟨k, L, T, qs, hk, rfl, he, hbv, hT, ho, hB, hne, hbl⟩ := hrel
        have HE := Lib.hid he
        clear he HR0
        obtain ⟨A9, c9, rfl, -, -, -⟩ := own_form ho
        by_cases hlt : k < n
        · have hold := ar_old H.out (by omega)
          obtain ⟨b, off, p, rfl, hb, hp, hat⟩ := ar_at (ar_below H.out hbl) hlt
          have hbw : b < w.heap.size := hold b rfl
          have a1 := av_at V0.out hp
          have hbv4 := bv_of hbv
          have hblt := blk_lt hB
          have hne1 : b ≠ w1.heap.size := by omega
          have X0 := Lib.hid (show SX w w1.heap.size b (off + k * 2) r s L T p wr from ⟨hB, hat, hb, hbl, by omega⟩)
          obtain ⟨⟨q0, q1, q2, q3, c0, c1⟩, -⟩ := sx_cells X0.out
          have HP := Lib.hid hp
          have HBV := Lib.hid hbv
          have HO := Lib.hid ho
          have HNE := Lib.hid hne
          have hrow := Lib.hid (fun g (hg : Value.ownBlock (.slice A9 k c9) = some g) => (HO.out.lt g hg).2)
          clear hp hB hbl hbv ho hne hat hold
          by_cases hTp : p.t < T
          · have HME := Lib.hid (show mx p.t T = T by unfold mx; split <;> omega)
            have hrt : rtB r s L T T = true := rt_mk (by omega)
            have hEb : 0 ≤ T ∧ T ≤ 10000 := by omega
            have hS := sx_cells (sx_drew X0.out)
            rcases hwt : wtB r s L T T p.z with _ | _
            · have HWT := Lib.hid hwt
              clear hwt hrt
              go_upto_region 11 with fail
              go_cut [12, 13] from 49 to 59 (fun s12 s13 wx => s12 = .int .i64 0 ∧ s13 = .bool false ∧ SX w w1.heap.size b (off + k * 2) r s L T p wx ∧ wx.ownsRow w.heap.size 50 2 (.slice A9 k c9) k (acells qs))
              case first =>
                go_region_held3 (fun w' => (w'.cell? ⟨w1.heap.size, 0, none⟩ = some (.int .i64 r) ∧ w'.cell? ⟨w1.heap.size, 1, none⟩ = some (.int .i64 s) ∧ w'.cell? ⟨w1.heap.size, 2, none⟩ = some (.int .i64 L) ∧ w'.cell? ⟨w1.heap.size, 3, none⟩ = some (.int .i64 T) ∧ w'.cell? ⟨b, off + k * 2, none⟩ = some (.int .i64 p.t) ∧ w'.cell? ⟨b, off + k * 2 + 1, none⟩ = some (.int .i64 p.z)) ∧ SX w w1.heap.size b (off + k * 2) r s L T p w')
                  (first
                    | (with_reducible assumption)
                    | fail)
                  (first
                    | (go_at_call 56
                       refine (waitS_no r s L T T p.z _ HWT.out).mono ?_
                       rintro e w3 ⟨rfl, hb3⟩
                       have X3 := Lib.hid (sx_below (sx_drew X0.out) hb3)
                       have O3 := Lib.hid (own_below (World.ownsRow.drew HO.out) hb3)
                       have hS3 := sx_cells X3.out
                       clear hb3))
                all_goals
                  go_wp2_with fail
                  go_meet
                  exact ⟨rfl, rfl, X3.out, O3.out⟩
              case rest =>
              obtain ⟨rfl, rfl, hX, hO⟩ := hcut
              have X2 := Lib.hid hX
              have O2 := Lib.hid hO
              obtain ⟨⟨q0', q1', q2', q3', c0', c1'⟩, -⟩ := sx_cells hX
              have hsz := hX.bel.size
              have hltb := hX.lt
              have hltg := sx_lt hX
              clear hX hO hS q0 q1 q2 q3 c0 c1
              go_wp2
              go_ret2
              exact ⟨_, 0, _, [], false, rfl, .inr ⟨.inr (sh_no HE.out HP.out HME.out (by rw [HWT.out]; rintro ⟨e, _⟩; cases e)), rfl, rfl⟩, by omega, own_mono (own_emptyA rfl) hsz, below_alloc X2.out.bel _⟩
            · have HWT := Lib.hid hwt
              have hwb := wt_bd hwt
              obtain ⟨W, hW⟩ : ∃ W, W = wt r s L T T p.z := ⟨_, rfl⟩
              have W0 : 0 ≤ W := by rw [hW]; exact hwb.1
              have W1 : W ≤ 10000 := by rw [hW]; exact hwb.2.1
              have HW := Lib.hid hW
              clear hwt hrt hwb hW
              by_cases hl : T + W ≤ 10000
              · have hLV := shp_lev HWT.out (by rw [← HW.out]; omega)
                rw [← HW.out] at hLV
                obtain ⟨hr2, hz2, hs2⟩ := hLV
                have HR2 := Lib.hid hr2
                have HTK := Lib.hid (tk_mk hr2 (c := p.z) (by omega))
                obtain ⟨V, hV⟩ : ∃ V, lv r s L T (T + W) = V := ⟨_, rfl⟩
                rw [hV] at hz2 hs2
                have HV := Lib.hid hV
                have V0b : 0 ≤ V - p.z := by omega
                clear hr2 hV
                go_upto_region 11 with fail
                go_cut [12, 13] from 49 to 59 (fun s12 s13 wx => s12 = .int .i64 W ∧ s13 = .bool true ∧ SX w w1.heap.size b (off + k * 2) r s L T p wx ∧ wx.ownsRow w.heap.size 50 2 (.slice A9 k c9) k (acells qs))
                case first =>
                  go_region_held3 (fun w' => (w'.cell? ⟨w1.heap.size, 0, none⟩ = some (.int .i64 r) ∧ w'.cell? ⟨w1.heap.size, 1, none⟩ = some (.int .i64 s) ∧ w'.cell? ⟨w1.heap.size, 2, none⟩ = some (.int .i64 L) ∧ w'.cell? ⟨w1.heap.size, 3, none⟩ = some (.int .i64 T) ∧ w'.cell? ⟨b, off + k * 2, none⟩ = some (.int .i64 p.t) ∧ w'.cell? ⟨b, off + k * 2 + 1, none⟩ = some (.int .i64 p.z)) ∧ SX w w1.heap.size b (off + k * 2) r s L T p w')
                    (first
                      | (with_reducible assumption)
                      | fail)
                    (first
                      | (go_at_call 56
                         refine (waitS_is r s L T T p.z W _ HWT.out HW.out.symm).mono ?_
                         rintro e w3 ⟨rfl, hb3⟩
                         have X3 := Lib.hid (sx_below (sx_drew X0.out) hb3)
                         have O3 := Lib.hid (own_below (World.ownsRow.drew HO.out) hb3)
                         have hS3 := sx_cells X3.out
                         clear hb3))
                  all_goals
                    go_wp2_with fail
                    go_meet
                    exact ⟨rfl, rfl, X3.out, O3.out⟩
                case rest =>
                obtain ⟨rfl, rfl, hX, hO⟩ := hcut
                have X2 := Lib.hid hX
                have O2 := Lib.hid hO
                obtain ⟨⟨q0', q1', q2', q3', c0', c1'⟩, -⟩ := sx_cells hX
                have hsz := hX.bel.size
                have hltb := hX.lt
                have hltg := sx_lt hX
                clear hX hO hS q0 q1 q2 q3 c0 c1
                have yw : IntKind.i64.wrap (T + W) = T + W := IntWalk.i64_in _ (by omega)
                have hS := sx_cells (sx_drew X2.out)
                have HNW := Lib.hid (show Value.ownBlock (.slice A9 k c9) ≠ some wc.heap.size from fun e => by have := (O2.out.lt _ e).2; omega)
                go_upto_region 14 with fail
                go_cut [14] from 69 to 82 (fun s14 wx => ∃ b9, s14 = .pointer (some ⟨b9, 0, none⟩) ∧ Blk wx b9 62 #[.int .i64 r, .int .i64 s, .int .i64 (V - p.z), .int .i64 (T + W)] ∧ b9 ≠ w1.heap.size ∧ SX w w1.heap.size b (off + k * 2) r s L T p wx ∧ wx.ownsRow w.heap.size 50 2 (.slice A9 k c9) k (acells qs))
                case first =>
                  go_region_held3 (fun w' => (w'.cell? ⟨w1.heap.size, 0, none⟩ = some (.int .i64 r) ∧ w'.cell? ⟨w1.heap.size, 1, none⟩ = some (.int .i64 s) ∧ w'.cell? ⟨w1.heap.size, 2, none⟩ = some (.int .i64 L) ∧ w'.cell? ⟨w1.heap.size, 3, none⟩ = some (.int .i64 T) ∧ w'.cell? ⟨b, off + k * 2, none⟩ = some (.int .i64 p.t) ∧ w'.cell? ⟨b, off + k * 2 + 1, none⟩ = some (.int .i64 p.z)) ∧ SX w w1.heap.size b (off + k * 2) r s L T p w')
                    (first
          | (with_reducible assumption)
          | (with_reducible exact sx_cells (sx_drew (sx_alloc X2.out _)))
          | (with_reducible exact sx_cells (sx_alloc X3.out _))
          | (refine sx_cells ?_; with_reducible refine sx_set ?_ ?_ ?_ ?_ _; with_reducible refine sx_set ?_ ?_ ?_ ?_ _; with_reducible refine sx_set ?_ ?_ ?_ ?_ _; with_reducible refine sx_set ?_ ?_ ?_ ?_ _; with_reducible exact X3.out; all_goals (simp <;> omega))
          | fail)
                    (first
                      | (go_at_call 57
                         refine (takeS_is r s L T (T + W) p.z V _ HTK.out HV.out hz2).mono ?_
                         rintro e w3 ⟨rfl, hb3⟩
                         have X3 := Lib.hid (sx_below (sxO (by with_reducible assumption)) hb3)
                         have O3 := Lib.hid (show w3.ownsRow w.heap.size 50 2 (.slice A9 k c9) k (acells qs) from by first | exact own_below (World.ownsRow.drew O2.out) hb3 | exact own_below (World.ownsRow.drew (O2.out.alloc _)) hb3)
                         have hS3 := sx_cells X3.out
                         have z3 := hb3.size
                         try simp at z3
                         try (have o0 := (show Blk (wc.alloc (.cells #[.int .i64 0, .int .i64 0, .int .i64 0, .int .i64 0] 62)).drew wc.heap.size 62 #[.int .i64 0, .int .i64 0, .int .i64 0, .int .i64 0] from blk_new wc _ _); have o1 := blk_below o0 hb3 (blk_lt o0); obtain ⟨⟨n0, n1, n2, n3⟩, m0, m1, m2, m3⟩ := blk_4 o1; have nB := Lib.hid o1; clear o0 o1)
                         clear hb3))
                  all_goals
                    go_wp2_with fail
                    go_meet
                    first
                      | exact ⟨_, rfl, blk_new w3 _ _, by have := sx_lt X3.out; omega, sx_alloc X3.out _, O3.out.alloc _⟩
                      | exact ⟨_, rfl, blk_set (blk_set (blk_set (blk_set nB.out 0 _) 1 _) 2 _) 3 _, by omega, sx_set (sx_set (sx_set (sx_set X3.out (by show wc.heap.size ≠ _; omega) (by show wc.heap.size ≠ _; omega) (by show _ ≤ wc.heap.size; omega) _) (by show wc.heap.size ≠ _; omega) (by show wc.heap.size ≠ _; omega) (by show _ ≤ wc.heap.size; omega) _) (by show wc.heap.size ≠ _; omega) (by show wc.heap.size ≠ _; omega) (by show _ ≤ wc.heap.size; omega) _) (by show wc.heap.size ≠ _; omega) (by show wc.heap.size ≠ _; omega) (by show _ ≤ wc.heap.size; omega) _, own_set_ne (own_set_ne (own_set_ne (own_set_ne O3.out (p := ⟨wc.heap.size, 0, none⟩) HNW.out _) (p := ⟨wc.heap.size, 1, none⟩) HNW.out _) (p := ⟨wc.heap.size, 2, none⟩) HNW.out _) (p := ⟨wc.heap.size, 3, none⟩) HNW.out _⟩
                case rest =>
                obtain ⟨b9, rfl, hB9, hne9, hX, hO⟩ := hcut
                have B9 := Lib.hid hB9
                have X9 := Lib.hid hX
                have O9 := Lib.hid hO
                obtain ⟨⟨n0, n1, n2, n3⟩, -⟩ := blk_4 hB9
                obtain ⟨⟨r0, r1, r2, r3⟩, m0, m1, m2, m3⟩ := blk_4 hX.box
                obtain ⟨d0, d1⟩ := hX.arr
                have hlt9 := blk_lt hB9
                have hltg' := sx_lt hX
                have hltb' := hX.lt
                have hsz' := hX.bel.size
                clear hB9 hX hO hS q0' q1' q2' q3' c0' c1'
                have O4 := Lib.hid (own_set_ne (own_set_ne (own_set_ne (own_set_ne O9.out (p := ⟨w1.heap.size, 0, none⟩) HNE.out (.int .i64 r)) (p := ⟨w1.heap.size, 1, none⟩) HNE.out (.int .i64 s)) (p := ⟨w1.heap.size, 2, none⟩) HNE.out (.int .i64 (V - p.z))) (p := ⟨w1.heap.size, 3, none⟩) HNE.out (.int .i64 (T + W)))
                have hz1 : w.heap.size ≤ w1.heap.size := by omega
                have B4 := Lib.hid ((((X9.out.bel.setCell (p := ⟨w1.heap.size, 0, none⟩) hz1 (.int .i64 r)).setCell (p := ⟨w1.heap.size, 1, none⟩) hz1 (.int .i64 s)).setCell (p := ⟨w1.heap.size, 2, none⟩) hz1 (.int .i64 (V - p.z))).setCell (p := ⟨w1.heap.size, 3, none⟩) hz1 (.int .i64 (T + W)))
                have BB4 := Lib.hid (show Blk _ w1.heap.size 62 #[.int .i64 r, .int .i64 s, .int .i64 (V - p.z), .int .i64 (T + W)] from blk_set (blk_set (blk_set (blk_set X9.out.box 0 (.int .i64 r)) 1 (.int .i64 s)) 2 (.int .i64 (V - p.z))) 3 (.int .i64 (T + W)))
                go_wp2_with (at_builtin; refine wp_app_arr3 _ rfl (.tmp 84) (.tmp 94) rfl w.heap.size _ k qs ⟨T + W, p.z⟩ rfl O4.out _ (by simp) rfl (by omega) (by simp; omega) ?_; intro v5 w5 ho5 hg5 hat5; have O5 := Lib.hid ho5; have G5 := Lib.hid (And.intro hg5 hat5); clear ho5 hg5 hat5)
                go_roundw
                case rel =>
                  refine ⟨k + 1, V - p.z, T + W, _, by omega, by go_num, by rw [← HV.out]; exact sh_go HE.out HP.out HME.out HW.out.symm HWT.out hl, bv_rt HR2.out V0b (by omega), hl, O5.out, blk_grownQ (blk_alloc BB4.out _) G5.out.1 (fun e => HNE.out e.symm), ?_, app_belowA (O4.out.alloc _) (below_alloc B4.out _) G5.out.1 (by simp; omega)⟩
                  rcases G5.out.2 with e | e
                  · rw [e]; exact HNE.out
                  · rw [e]; intro e2; injection e2 with e2; simp at e2; omega
                case measure => simp [intOf]; omega
              · have hl' : 10000 < T + W := by omega
                go_upto_region 11 with fail
                go_cut [12, 13] from 49 to 59 (fun s12 s13 wx => s12 = .int .i64 W ∧ s13 = .bool true ∧ SX w w1.heap.size b (off + k * 2) r s L T p wx ∧ wx.ownsRow w.heap.size 50 2 (.slice A9 k c9) k (acells qs))
                case first =>
                  go_region_held3 (fun w' => (w'.cell? ⟨w1.heap.size, 0, none⟩ = some (.int .i64 r) ∧ w'.cell? ⟨w1.heap.size, 1, none⟩ = some (.int .i64 s) ∧ w'.cell? ⟨w1.heap.size, 2, none⟩ = some (.int .i64 L) ∧ w'.cell? ⟨w1.heap.size, 3, none⟩ = some (.int .i64 T) ∧ w'.cell? ⟨b, off + k * 2, none⟩ = some (.int .i64 p.t) ∧ w'.cell? ⟨b, off + k * 2 + 1, none⟩ = some (.int .i64 p.z)) ∧ SX w w1.heap.size b (off + k * 2) r s L T p w')
                    (first
                      | (with_reducible assumption)
                      | fail)
                    (first
                      | (go_at_call 56
                         refine (waitS_is r s L T T p.z W _ HWT.out HW.out.symm).mono ?_
                         rintro e w3 ⟨rfl, hb3⟩
                         have X3 := Lib.hid (sx_below (sx_drew X0.out) hb3)
                         have O3 := Lib.hid (own_below (World.ownsRow.drew HO.out) hb3)
                         have hS3 := sx_cells X3.out
                         clear hb3))
                  all_goals
                    go_wp2_with fail
                    go_meet
                    exact ⟨rfl, rfl, X3.out, O3.out⟩
                case rest =>
                obtain ⟨rfl, rfl, hX, hO⟩ := hcut
                have X2 := Lib.hid hX
                have O2 := Lib.hid hO
                obtain ⟨⟨q0', q1', q2', q3', c0', c1'⟩, -⟩ := sx_cells hX
                have hsz := hX.bel.size
                have hltb := hX.lt
                have hltg := sx_lt hX
                clear hX hO hS q0 q1 q2 q3 c0 c1
                go_wp2
                go_ret2
                exact ⟨_, 0, _, [], false, rfl, .inr ⟨.inr (sh_no HE.out HP.out HME.out (by rw [← HW.out]; omega)), rfl, rfl⟩, by omega, own_mono (own_emptyA rfl) hsz, below_alloc X2.out.bel _⟩
          · have hTp' : T ≤ p.t := by omega
            have HME := Lib.hid (show mx p.t T = p.t by unfold mx; split <;> omega)
            have hrt : rtB r s L T p.t = true := rt_mk (by omega)
            have hEb : 0 ≤ p.t ∧ p.t ≤ 10000 := by omega
            have hS := sx_cells (sx_drew X0.out)
            rcases hwt : wtB r s L T p.t p.z with _ | _
            · have HWT := Lib.hid hwt
              clear hwt hrt
              go_upto_region 11 with fail
              go_cut [12, 13] from 49 to 59 (fun s12 s13 wx => s12 = .int .i64 0 ∧ s13 = .bool false ∧ SX w w1.heap.size b (off + k * 2) r s L T p wx ∧ wx.ownsRow w.heap.size 50 2 (.slice A9 k c9) k (acells qs))
              case first =>
                go_region_held3 (fun w' => (w'.cell? ⟨w1.heap.size, 0, none⟩ = some (.int .i64 r) ∧ w'.cell? ⟨w1.heap.size, 1, none⟩ = some (.int .i64 s) ∧ w'.cell? ⟨w1.heap.size, 2, none⟩ = some (.int .i64 L) ∧ w'.cell? ⟨w1.heap.size, 3, none⟩ = some (.int .i64 T) ∧ w'.cell? ⟨b, off + k * 2, none⟩ = some (.int .i64 p.t) ∧ w'.cell? ⟨b, off + k * 2 + 1, none⟩ = some (.int .i64 p.z)) ∧ SX w w1.heap.size b (off + k * 2) r s L T p w')
                  (first
                    | (with_reducible assumption)
                    | fail)
                  (first
                    | (go_at_call 56
                       refine (waitS_no r s L T p.t p.z _ HWT.out).mono ?_
                       rintro e w3 ⟨rfl, hb3⟩
                       have X3 := Lib.hid (sx_below (sx_drew X0.out) hb3)
                       have O3 := Lib.hid (own_below (World.ownsRow.drew HO.out) hb3)
                       have hS3 := sx_cells X3.out
                       clear hb3))
                all_goals
                  go_wp2_with fail
                  go_meet
                  exact ⟨rfl, rfl, X3.out, O3.out⟩
              case rest =>
              obtain ⟨rfl, rfl, hX, hO⟩ := hcut
              have X2 := Lib.hid hX
              have O2 := Lib.hid hO
              obtain ⟨⟨q0', q1', q2', q3', c0', c1'⟩, -⟩ := sx_cells hX
              have hsz := hX.bel.size
              have hltb := hX.lt
              have hltg := sx_lt hX
              clear hX hO hS q0 q1 q2 q3 c0 c1
              go_wp2
              go_ret2
              exact ⟨_, 0, _, [], false, rfl, .inr ⟨.inr (sh_no HE.out HP.out HME.out (by rw [HWT.out]; rintro ⟨e, _⟩; cases e)), rfl, rfl⟩, by omega, own_mono (own_emptyA rfl) hsz, below_alloc X2.out.bel _⟩
            · have HWT := Lib.hid hwt
              have hwb := wt_bd hwt
              obtain ⟨W, hW⟩ : ∃ W, W = wt r s L T p.t p.z := ⟨_, rfl⟩
              have W0 : 0 ≤ W := by rw [hW]; exact hwb.1
              have W1 : W ≤ 10000 := by rw [hW]; exact hwb.2.1
              have HW := Lib.hid hW
              clear hwt hrt hwb hW
              by_cases hl : p.t + W ≤ 10000
              · have hLV := shp_lev HWT.out (by rw [← HW.out]; omega)
                rw [← HW.out] at hLV
                obtain ⟨hr2, hz2, hs2⟩ := hLV
                have HR2 := Lib.hid hr2
                have HTK := Lib.hid (tk_mk hr2 (c := p.z) (by omega))
                obtain ⟨V, hV⟩ : ∃ V, lv r s L T (p.t + W) = V := ⟨_, rfl⟩
                rw [hV] at hz2 hs2
                have HV := Lib.hid hV
                have V0b : 0 ≤ V - p.z := by omega
                clear hr2 hV
                go_upto_region 11 with fail
                go_cut [12, 13] from 49 to 59 (fun s12 s13 wx => s12 = .int .i64 W ∧ s13 = .bool true ∧ SX w w1.heap.size b (off + k * 2) r s L T p wx ∧ wx.ownsRow w.heap.size 50 2 (.slice A9 k c9) k (acells qs))
                case first =>
                  go_region_held3 (fun w' => (w'.cell? ⟨w1.heap.size, 0, none⟩ = some (.int .i64 r) ∧ w'.cell? ⟨w1.heap.size, 1, none⟩ = some (.int .i64 s) ∧ w'.cell? ⟨w1.heap.size, 2, none⟩ = some (.int .i64 L) ∧ w'.cell? ⟨w1.heap.size, 3, none⟩ = some (.int .i64 T) ∧ w'.cell? ⟨b, off + k * 2, none⟩ = some (.int .i64 p.t) ∧ w'.cell? ⟨b, off + k * 2 + 1, none⟩ = some (.int .i64 p.z)) ∧ SX w w1.heap.size b (off + k * 2) r s L T p w')
                    (first
                      | (with_reducible assumption)
                      | fail)
                    (first
                      | (go_at_call 56
                         refine (waitS_is r s L T p.t p.z W _ HWT.out HW.out.symm).mono ?_
                         rintro e w3 ⟨rfl, hb3⟩
                         have X3 := Lib.hid (sx_below (sx_drew X0.out) hb3)
                         have O3 := Lib.hid (own_below (World.ownsRow.drew HO.out) hb3)
                         have hS3 := sx_cells X3.out
                         clear hb3))
                  all_goals
                    go_wp2_with fail
                    go_meet
                    exact ⟨rfl, rfl, X3.out, O3.out⟩
                case rest =>
                obtain ⟨rfl, rfl, hX, hO⟩ := hcut
                have X2 := Lib.hid hX
                have O2 := Lib.hid hO
                obtain ⟨⟨q0', q1', q2', q3', c0', c1'⟩, -⟩ := sx_cells hX
                have hsz := hX.bel.size
                have hltb := hX.lt
                have hltg := sx_lt hX
                clear hX hO hS q0 q1 q2 q3 c0 c1
                have yw : IntKind.i64.wrap (p.t + W) = p.t + W := IntWalk.i64_in _ (by omega)
                have hS := sx_cells (sx_drew X2.out)
                have HNW := Lib.hid (show Value.ownBlock (.slice A9 k c9) ≠ some wc.heap.size from fun e => by have := (O2.out.lt _ e).2; omega)
                go_upto_region 14 with fail
                go_cut [14] from 69 to 82 (fun s14 wx => ∃ b9, s14 = .pointer (some ⟨b9, 0, none⟩) ∧ Blk wx b9 62 #[.int .i64 r, .int .i64 s, .int .i64 (V - p.z), .int .i64 (p.t + W)] ∧ b9 ≠ w1.heap.size ∧ SX w w1.heap.size b (off + k * 2) r s L T p wx ∧ wx.ownsRow w.heap.size 50 2 (.slice A9 k c9) k (acells qs))
                case first =>
                  go_region_held3 (fun w' => (w'.cell? ⟨w1.heap.size, 0, none⟩ = some (.int .i64 r) ∧ w'.cell? ⟨w1.heap.size, 1, none⟩ = some (.int .i64 s) ∧ w'.cell? ⟨w1.heap.size, 2, none⟩ = some (.int .i64 L) ∧ w'.cell? ⟨w1.heap.size, 3, none⟩ = some (.int .i64 T) ∧ w'.cell? ⟨b, off + k * 2, none⟩ = some (.int .i64 p.t) ∧ w'.cell? ⟨b, off + k * 2 + 1, none⟩ = some (.int .i64 p.z)) ∧ SX w w1.heap.size b (off + k * 2) r s L T p w')
                    (first
          | (with_reducible assumption)
          | (with_reducible exact sx_cells (sx_drew (sx_alloc X2.out _)))
          | (with_reducible exact sx_cells (sx_alloc X3.out _))
          | (refine sx_cells ?_; with_reducible refine sx_set ?_ ?_ ?_ ?_ _; with_reducible refine sx_set ?_ ?_ ?_ ?_ _; with_reducible refine sx_set ?_ ?_ ?_ ?_ _; with_reducible refine sx_set ?_ ?_ ?_ ?_ _; with_reducible exact X3.out; all_goals (simp <;> omega))
          | fail)
                    (first
                      | (go_at_call 57
                         refine (takeS_is r s L T (p.t + W) p.z V _ HTK.out HV.out hz2).mono ?_
                         rintro e w3 ⟨rfl, hb3⟩
                         have X3 := Lib.hid (sx_below (sxO (by with_reducible assumption)) hb3)
                         have O3 := Lib.hid (show w3.ownsRow w.heap.size 50 2 (.slice A9 k c9) k (acells qs) from by first | exact own_below (World.ownsRow.drew O2.out) hb3 | exact own_below (World.ownsRow.drew (O2.out.alloc _)) hb3)
                         have hS3 := sx_cells X3.out
                         have z3 := hb3.size
                         try simp at z3
                         try (have o0 := (show Blk (wc.alloc (.cells #[.int .i64 0, .int .i64 0, .int .i64 0, .int .i64 0] 62)).drew wc.heap.size 62 #[.int .i64 0, .int .i64 0, .int .i64 0, .int .i64 0] from blk_new wc _ _); have o1 := blk_below o0 hb3 (blk_lt o0); obtain ⟨⟨n0, n1, n2, n3⟩, m0, m1, m2, m3⟩ := blk_4 o1; have nB := Lib.hid o1; clear o0 o1)
                         clear hb3))
                  all_goals
                    go_wp2_with fail
                    go_meet
                    first
                      | exact ⟨_, rfl, blk_new w3 _ _, by have := sx_lt X3.out; omega, sx_alloc X3.out _, O3.out.alloc _⟩
                      | exact ⟨_, rfl, blk_set (blk_set (blk_set (blk_set nB.out 0 _) 1 _) 2 _) 3 _, by omega, sx_set (sx_set (sx_set (sx_set X3.out (by show wc.heap.size ≠ _; omega) (by show wc.heap.size ≠ _; omega) (by show _ ≤ wc.heap.size; omega) _) (by show wc.heap.size ≠ _; omega) (by show wc.heap.size ≠ _; omega) (by show _ ≤ wc.heap.size; omega) _) (by show wc.heap.size ≠ _; omega) (by show wc.heap.size ≠ _; omega) (by show _ ≤ wc.heap.size; omega) _) (by show wc.heap.size ≠ _; omega) (by show wc.heap.size ≠ _; omega) (by show _ ≤ wc.heap.size; omega) _, own_set_ne (own_set_ne (own_set_ne (own_set_ne O3.out (p := ⟨wc.heap.size, 0, none⟩) HNW.out _) (p := ⟨wc.heap.size, 1, none⟩) HNW.out _) (p := ⟨wc.heap.size, 2, none⟩) HNW.out _) (p := ⟨wc.heap.size, 3, none⟩) HNW.out _⟩
                case rest =>
                obtain ⟨b9, rfl, hB9, hne9, hX, hO⟩ := hcut
                have B9 := Lib.hid hB9
                have X9 := Lib.hid hX
                have O9 := Lib.hid hO
                obtain ⟨⟨n0, n1, n2, n3⟩, -⟩ := blk_4 hB9
                obtain ⟨⟨r0, r1, r2, r3⟩, m0, m1, m2, m3⟩ := blk_4 hX.box
                obtain ⟨d0, d1⟩ := hX.arr
                have hlt9 := blk_lt hB9
                have hltg' := sx_lt hX
                have hltb' := hX.lt
                have hsz' := hX.bel.size
                clear hB9 hX hO hS q0' q1' q2' q3' c0' c1'
                have O4 := Lib.hid (own_set_ne (own_set_ne (own_set_ne (own_set_ne O9.out (p := ⟨w1.heap.size, 0, none⟩) HNE.out (.int .i64 r)) (p := ⟨w1.heap.size, 1, none⟩) HNE.out (.int .i64 s)) (p := ⟨w1.heap.size, 2, none⟩) HNE.out (.int .i64 (V - p.z))) (p := ⟨w1.heap.size, 3, none⟩) HNE.out (.int .i64 (p.t + W)))
                have hz1 : w.heap.size ≤ w1.heap.size := by omega
                have B4 := Lib.hid ((((X9.out.bel.setCell (p := ⟨w1.heap.size, 0, none⟩) hz1 (.int .i64 r)).setCell (p := ⟨w1.heap.size, 1, none⟩) hz1 (.int .i64 s)).setCell (p := ⟨w1.heap.size, 2, none⟩) hz1 (.int .i64 (V - p.z))).setCell (p := ⟨w1.heap.size, 3, none⟩) hz1 (.int .i64 (p.t + W)))
                have BB4 := Lib.hid (show Blk _ w1.heap.size 62 #[.int .i64 r, .int .i64 s, .int .i64 (V - p.z), .int .i64 (p.t + W)] from blk_set (blk_set (blk_set (blk_set X9.out.box 0 (.int .i64 r)) 1 (.int .i64 s)) 2 (.int .i64 (V - p.z))) 3 (.int .i64 (p.t + W)))
                go_wp2_with (at_builtin; refine wp_app_arr3 _ rfl (.tmp 84) (.tmp 94) rfl w.heap.size _ k qs ⟨p.t + W, p.z⟩ rfl O4.out _ (by simp) rfl (by omega) (by simp; omega) ?_; intro v5 w5 ho5 hg5 hat5; have O5 := Lib.hid ho5; have G5 := Lib.hid (And.intro hg5 hat5); clear ho5 hg5 hat5)
                go_roundw
                case rel =>
                  refine ⟨k + 1, V - p.z, p.t + W, _, by omega, by go_num, by rw [← HV.out]; exact sh_go HE.out HP.out HME.out HW.out.symm HWT.out hl, bv_rt HR2.out V0b (by omega), hl, O5.out, blk_grownQ (blk_alloc BB4.out _) G5.out.1 (fun e => HNE.out e.symm), ?_, app_belowA (O4.out.alloc _) (below_alloc B4.out _) G5.out.1 (by simp; omega)⟩
                  rcases G5.out.2 with e | e
                  · rw [e]; exact HNE.out
                  · rw [e]; intro e2; injection e2 with e2; simp at e2; omega
                case measure => simp [intOf]; omega
              · have hl' : 10000 < p.t + W := by omega
                go_upto_region 11 with fail
                go_cut [12, 13] from 49 to 59 (fun s12 s13 wx => s12 = .int .i64 W ∧ s13 = .bool true ∧ SX w w1.heap.size b (off + k * 2) r s L T p wx ∧ wx.ownsRow w.heap.size 50 2 (.slice A9 k c9) k (acells qs))
                case first =>
                  go_region_held3 (fun w' => (w'.cell? ⟨w1.heap.size, 0, none⟩ = some (.int .i64 r) ∧ w'.cell? ⟨w1.heap.size, 1, none⟩ = some (.int .i64 s) ∧ w'.cell? ⟨w1.heap.size, 2, none⟩ = some (.int .i64 L) ∧ w'.cell? ⟨w1.heap.size, 3, none⟩ = some (.int .i64 T) ∧ w'.cell? ⟨b, off + k * 2, none⟩ = some (.int .i64 p.t) ∧ w'.cell? ⟨b, off + k * 2 + 1, none⟩ = some (.int .i64 p.z)) ∧ SX w w1.heap.size b (off + k * 2) r s L T p w')
                    (first
                      | (with_reducible assumption)
                      | fail)
                    (first
                      | (go_at_call 56
                         refine (waitS_is r s L T p.t p.z W _ HWT.out HW.out.symm).mono ?_
                         rintro e w3 ⟨rfl, hb3⟩
                         have X3 := Lib.hid (sx_below (sx_drew X0.out) hb3)
                         have O3 := Lib.hid (own_below (World.ownsRow.drew HO.out) hb3)
                         have hS3 := sx_cells X3.out
                         clear hb3))
                  all_goals
                    go_wp2_with fail
                    go_meet
                    exact ⟨rfl, rfl, X3.out, O3.out⟩
                case rest =>
                obtain ⟨rfl, rfl, hX, hO⟩ := hcut
                have X2 := Lib.hid hX
                have O2 := Lib.hid hO
                obtain ⟨⟨q0', q1', q2', q3', c0', c1'⟩, -⟩ := sx_cells hX
                have hsz := hX.bel.size
                have hltb := hX.lt
                have hltg := sx_lt hX
                clear hX hO hS q0 q1 q2 q3 c0 c1
                go_wp2
                go_ret2
                exact ⟨_, 0, _, [], false, rfl, .inr ⟨.inr (sh_no HE.out HP.out HME.out (by rw [← HW.out]; omega)), rfl, rfl⟩, by omega, own_mono (own_emptyA rfl) hsz, below_alloc X2.out.bel _⟩
        · obtain rfl : k = n := by omega
          have HBL := Lib.hid hbl
          have HO := Lib.hid ho
          clear hbl hB ho
          go_wp2
          go_ret2
          exact ⟨A9, k, c9, qs, true, rfl, .inl ⟨HK.out, sh_end HE.out (by have := H.out.1; omega), rfl⟩, hn32, HO.out, HBL.out⟩
end Go.Proofs.Ytclgmmnidkppmab
