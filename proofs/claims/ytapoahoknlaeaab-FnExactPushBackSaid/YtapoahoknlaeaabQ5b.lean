/-
  Chapter 3: the heaviest peer: what the program's function returns. Conditions: the slice has at most 4000000000 packets.
-/
import Derived.Test.YtapoahoknlaeaabQ5
import Derived.Test.YtapoahoknlaeaabFr
namespace Go.Proofs.Ytapoahoknlaeaab
open Go.RowKit

theorem sums8_cells {W : World} {b : Nat} {t : TypeId} {ps : List Pkt} (h : Blk W b t (sums8 ps)) :
    W.cell? ⟨b, 0, none⟩ = some (.int .i64 (bytesOf ps 0)) ∧ W.cell? ⟨b, 1, none⟩ = some (.int .i64 (bytesOf ps 1)) ∧ W.cell? ⟨b, 2, none⟩ = some (.int .i64 (bytesOf ps 2)) ∧ W.cell? ⟨b, 3, none⟩ = some (.int .i64 (bytesOf ps 3)) ∧
    W.cell? ⟨b, 4, none⟩ = some (.int .i64 (bytesOf ps 4)) ∧ W.cell? ⟨b, 5, none⟩ = some (.int .i64 (bytesOf ps 5)) ∧ W.cell? ⟨b, 6, none⟩ = some (.int .i64 (bytesOf ps 6)) ∧ W.cell? ⟨b, 7, none⟩ = some (.int .i64 (bytesOf ps 7)) :=
  ⟨blk_cell h 0, blk_cell h 1, blk_cell h 2, blk_cell h 3, blk_cell h 4, blk_cell h 5, blk_cell h 6, blk_cell h 7⟩
theorem sums8_at {W : World} {b : Nat} {t : TypeId} {ps : List Pkt} (h : Blk W b t (sums8 ps)) (j : Nat) (hj : j < 8) : W.cell? ⟨b, j, none⟩ = some (.int .i64 (bytesOf ps (j : Int))) := by
  rw [blk_cell h, sums8_get ps j hj]
theorem sums8_nil : sums8 [] = #[.int .i64 0, .int .i64 0, .int .i64 0, .int .i64 0, .int .i64 0, .int .i64 0, .int .i64 0, .int .i64 0] := rfl
theorem ix8 (a0 a1 a2 a3 a4 a5 a6 a7 : Value) : (∀ w, (Instr.index 67 (.agg #[a0, a1, a2, a3, a4, a5, a6, a7]) (.int .i64 0)).run Try.prog w = .ok a0 w) ∧ (∀ w, (Instr.index 67 (.agg #[a0, a1, a2, a3, a4, a5, a6, a7]) (.int .i64 1)).run Try.prog w = .ok a1 w) ∧ (∀ w, (Instr.index 67 (.agg #[a0, a1, a2, a3, a4, a5, a6, a7]) (.int .i64 2)).run Try.prog w = .ok a2 w) ∧ (∀ w, (Instr.index 67 (.agg #[a0, a1, a2, a3, a4, a5, a6, a7]) (.int .i64 3)).run Try.prog w = .ok a3 w) ∧ (∀ w, (Instr.index 67 (.agg #[a0, a1, a2, a3, a4, a5, a6, a7]) (.int .i64 4)).run Try.prog w = .ok a4 w) ∧ (∀ w, (Instr.index 67 (.agg #[a0, a1, a2, a3, a4, a5, a6, a7]) (.int .i64 5)).run Try.prog w = .ok a5 w) ∧ (∀ w, (Instr.index 67 (.agg #[a0, a1, a2, a3, a4, a5, a6, a7]) (.int .i64 6)).run Try.prog w = .ok a6 w) ∧ (∀ w, (Instr.index 67 (.agg #[a0, a1, a2, a3, a4, a5, a6, a7]) (.int .i64 7)).run Try.prog w = .ok a7 w) :=
  ⟨fun _ => by kernel_rfl, fun _ => by kernel_rfl, fun _ => by kernel_rfl, fun _ => by kernel_rfl, fun _ => by kernel_rfl, fun _ => by kernel_rfl, fun _ => by kernel_rfl, fun _ => by kernel_rfl⟩
def HvI (w : World) (bs : List (TypeId × Array Value)) (A : Option Addr) (n b : Nat) (ps : List Pkt) (i : Value) (wr : World) : Prop :=
  ∃ k : Nat, k ≤ n ∧ i = .int .i64 (k : Int) ∧ Blk wr b 67 (sums8 (ps.take k)) ∧ Fr w bs A n ps wr
set_option maxHeartbeats 1000000 in
theorem heavyI_no (lim : Int) (A : Option Addr) (n c : Nat) (ps : List Pkt) (w : World) (h : PR w A n ps) (hn : n ≤ 4000000000) (hk : heavyP lim ps = false) :
    Calls Try.prog 22 #[.agg #[.int .i64 lim, (.slice A n c)]] w fun e w' => e = .returned (.tuple #[.int .i64 0, .int .i64 0, .bool false]) ∧ Below w.heap.size w w' := by
  have H := Lib.hid h
  have HL := Lib.hid h.1
  clear h
  rcases hq : qvB lim ps with _ | _
  · have HQ := Lib.hid hq
    clear hq hk
    go_enter Try.func22, Try.ntmps22
    go_wp2_with fail
    refine (qvI_any lim A n c ps _ (pr_alloc H.out _) (by omega)).mono ?_
    rintro e w1 ⟨rfl, hb⟩
    obtain ⟨hc1, hf1⟩ := bcell hb
    have B1 := Lib.hid (show Below w.heap.size w w1 from (by first | exact below_seq (Below.refl w.heap.size w) hb | exact below_seq1 (Below.refl w.heap.size w) hb | exact below_seq2 (Below.refl w.heap.size w) hb | exact below_seq3 (Below.refl w.heap.size w) hb | exact below_seq4 (Below.refl w.heap.size w) hb))
    have R1 := Lib.hid hb
    have hz1 := hb.size
    try simp at hz1
    clear hb
    rw [HQ.out]
    have D := Lib.hid (show Blk w1 (w.heap.size) 25 #[.int .i64 lim, (.slice A n c)] from (blk_below (blk_new w 25 #[.int .i64 lim, (.slice A n c)]) R1.out (by simp)))
    have Dc0 : World.cell? w1 ⟨w.heap.size, 0, none⟩ = some (.int .i64 lim) := blk_cell D.out 0
    have Df0 : World.frozen? w1 ⟨w.heap.size, 0, none⟩ = false := blk_free D.out 0
    have Dc1 : World.cell? w1 ⟨w.heap.size, 1, none⟩ = some ((.slice A n c)) := blk_cell D.out 1
    have Df1 : World.frozen? w1 ⟨w.heap.size, 1, none⟩ = false := blk_free D.out 1
    clear hc1 hf1
    go_wp2
    go_ret3
    exact ⟨rfl, B1.out⟩
  · have HQ := Lib.hid hq
    have h0 : n = 0 := by
      have : ¬ 0 < ps.length := by intro h0; simp [heavyP, hq, h0] at hk
      have := HL.out; omega
    subst h0
    clear hq hk
    go_enter Try.func22, Try.ntmps22
    go_wp2_with fail
    refine (qvI_any lim A 0 c ps _ (pr_alloc H.out _) (by omega)).mono ?_
    rintro e w1 ⟨rfl, hb⟩
    obtain ⟨hc1, hf1⟩ := bcell hb
    have B1 := Lib.hid (show Below w.heap.size w w1 from (by first | exact below_seq (Below.refl w.heap.size w) hb | exact below_seq1 (Below.refl w.heap.size w) hb | exact below_seq2 (Below.refl w.heap.size w) hb | exact below_seq3 (Below.refl w.heap.size w) hb | exact below_seq4 (Below.refl w.heap.size w) hb))
    have R1 := Lib.hid hb
    have hz1 := hb.size
    try simp at hz1
    clear hb
    rw [HQ.out]
    have D := Lib.hid (show Blk w1 (w.heap.size) 25 #[.int .i64 lim, (.slice A 0 c)] from (blk_below (blk_new w 25 #[.int .i64 lim, (.slice A 0 c)]) R1.out (by simp)))
    have Dc0 : World.cell? w1 ⟨w.heap.size, 0, none⟩ = some (.int .i64 lim) := blk_cell D.out 0
    have Df0 : World.frozen? w1 ⟨w.heap.size, 0, none⟩ = false := blk_free D.out 0
    have Dc1 : World.cell? w1 ⟨w.heap.size, 1, none⟩ = some ((.slice A 0 c)) := blk_cell D.out 1
    have Df1 : World.frozen? w1 ⟨w.heap.size, 1, none⟩ = false := blk_free D.out 1
    clear hc1 hf1
    go_wp2
    go_ret3
    exact ⟨rfl, B1.out⟩
set_option maxHeartbeats 2000000 in
theorem heavyI_yes (lim : Int) (A : Option Addr) (n c : Nat) (ps : List Pkt) (w : World) (h : PR w A n ps) (hn : n ≤ 4000000000) (hk : heavyP lim ps = true) :
    Calls Try.prog 22 #[.agg #[.int .i64 lim, (.slice A n c)]] w fun e w' => e = .returned (.tuple #[.int .i64 (heavy ps : Int), .int .i64 (bytesOf ps (heavy ps)), .bool true]) ∧ Below w.heap.size w w' := by
  obtain ⟨hq, h0⟩ := heavyP_of hk
  have hnz : ((n : Int) == 0) = false := by have := h.1; simp; omega
  have F := Lib.hid (fr_one h 25 #[.int .i64 lim, (.slice A n c)])
  have HQ := Lib.hid hq
  have HK := Lib.hid (qv_of hq).1
  have HL := Lib.hid h.1
  have n64 : n ≤ 64 := by have := (qv_of hq).2.2.2.2.2; have := h.1; omega
  clear h hk hq h0
  go_enter Try.func22, Try.ntmps22
  go_wp2_with fail
  refine (qvI_any lim A n c ps _ F.out.pr (by omega)).mono ?_
  rintro e w1 ⟨rfl, hb⟩
  rw [HQ.out]
  replace F := Lib.hid (fr_below F.out hb)
  have z1 := F.out.lt
  simp at z1
  have y1 : w.heap.size < w1.heap.size := by omega
  clear hb
  have F0c0 : World.cell? w1 ⟨w.heap.size, 0, none⟩ = some (.int .i64 lim) := blk_cell (F.out.it 0 _ _ rfl) 0
  have F0f0 : World.frozen? w1 ⟨w.heap.size, 0, none⟩ = false := blk_free (F.out.it 0 _ _ rfl) 0
  have F0c1 : World.cell? w1 ⟨w.heap.size, 1, none⟩ = some ((.slice A n c)) := blk_cell (F.out.it 0 _ _ rfl) 1
  have F0f1 : World.frozen? w1 ⟨w.heap.size, 1, none⟩ = false := blk_free (F.out.it 0 _ _ rfl) 1
  have R0 : Hid (HvI w [(25, #[.int .i64 lim, (.slice A n c)])] A n w1.heap.size ps (.int .i64 0) (w1.alloc (.cells #[.int .i64 0, .int .i64 0, .int .i64 0, .int .i64 0, .int .i64 0, .int .i64 0, .int .i64 0, .int .i64 0] 67))) :=
    Lib.hid ⟨0, Nat.zero_le _, rfl, (by rw [List.take_zero, sums8_nil]; exact blk_new w1 _ _), fr_alloc F.out _⟩
  go_wp2
  clear F0c0 F0f0 F0c1 F0f1
  go_loopw [23] (fun i wr => HvI w [(25, #[.int .i64 lim, (.slice A n c)])] A n w1.heap.size ps i wr) (fun i _ => n - (intOf i).toNat)
  case atStart => exact R0.out
  case round =>
    obtain ⟨k, hk, rfl, hB, hF⟩ := hrel
    clear R0 F
    have HB := Lib.hid hB
    have HF := Lib.hid hF
    have zb := blk_lt hB
    by_cases hlt : k < n
    · obtain ⟨b, off, p, rfl, hb, hp, c0, c1, c2, c3⟩ := pr_at hF.pr hlt
      have hv := ok_at HK.out hp
      obtain ⟨peer, lane, size, id⟩ := p
      obtain ⟨hp0, hp7⟩ := vld_peer hv
      obtain ⟨hs0, hs1⟩ := vld_size hv
      simp only at c0 c1 c2 c3 hp0 hp7 hs0 hs1
      obtain ⟨j, rfl⟩ := Int.eq_ofNat_of_zero_le hp0
      have hj8 : j < 8 := by omega
      have hj8i : (j : Int) < 8 := by omega
      have e0 := sums8_at HB.out j hj8
      have HS := Lib.hid (sums8_set (k := k) hp rfl hj8)
      have hbd := bytes_le (ps := ps.take k) (ok_mk (by have := (ok_of HK.out).1; have := List.length_take_le k ps; simp; omega) (all_take ps k (ok_of HK.out).2)) (j : Int)
      obtain ⟨B, hBv⟩ : ∃ B, bytesOf (ps.take k) (j : Int) = B := ⟨_, rfl⟩
      rw [hBv] at e0 hbd HS
      have fb : wr.frozen? ⟨w1.heap.size, j, none⟩ = false := blk_free HB.out j
      have y1 : IntKind.i64.wrap (B + size) = B + size := IntWalk.i64_in _ (by omega)
      clear hp hv hBv hB hF hp0 hp7
      go_wp2_with fail
      go_region
      clear y1
      go_wp2
      go_roundw
      case rel =>
        refine ⟨k + 1, by omega, by go_num, ?_, ?_⟩
        · rw [← HS.out]
          exact blk_alloc (blk_set HB.out j _) _
        · exact fr_drew (fr_alloc (fr_set HF.out (by simp; omega) _) _)
      case measure => simp [intOf]; omega
    · obtain rfl : k = n := by omega
      rw [List.take_of_length_le (by have := HL.out; omega)] at hB
      have HC := Lib.hid hB
      obtain ⟨e0, e1, e2, e3, e4, e5, e6, e7⟩ := sums8_cells hB
      clear hB hF HB
      go_wp2
      go_loop [8, 37] (fun h i => ∃ k : Nat, k ≤ 8 ∧ i = .int .i64 (k : Int) ∧ h = .int .i64 (heavyN ps k : Int)) (fun _ i => 8 - (intOf i).toNat)
      case atStart => exact ⟨0, by omega, rfl, rfl⟩
      case round =>
        obtain ⟨k, hk8, rfl, rfl⟩ := hrel
        have hm7 : heavyN ps k ≤ 7 := by have := heavyN_lt ps k; omega
        by_cases hl8 : k < 8
        · have ey := heavyN_yes (ps := ps) (k := k)
          have en := heavyN_no (ps := ps) (k := k)
          obtain ⟨m, hm⟩ : ∃ m, heavyN ps k = m := ⟨_, rfl⟩
          rw [hm] at ey en hm7
          have HY := Lib.hid ey
          have HN := Lib.hid en
          have em := sums8_at HC.out m (by omega)
          have hmi : (m : Int) < 8 := by omega
          rw [hm]
          have HM := Lib.hid hm
          clear hm ey en
          by_cases hgt : bytesOf ps m < bytesOf ps k
          · have HE := Lib.hid (show ∃ k' : Nat, k' ≤ 8 ∧ k' = k + 1 ∧ heavyN ps k' = k from ⟨k + 1, by omega, rfl, HY.out hgt⟩)
            have hkk : k = 0 ∨ k = 1 ∨ k = 2 ∨ k = 3 ∨ k = 4 ∨ k = 5 ∨ k = 6 ∨ k = 7 := by omega
            rcases hkk with rfl | rfl | rfl | rfl | rfl | rfl | rfl | rfl
            all_goals
              simp at hgt
              obtain ⟨i0, i1, i2, i3, i4, i5, i6, i7⟩ := ix8 (.int .i64 (bytesOf ps 0)) (.int .i64 (bytesOf ps 1)) (.int .i64 (bytesOf ps 2)) (.int .i64 (bytesOf ps 3)) (.int .i64 (bytesOf ps 4)) (.int .i64 (bytesOf ps 5)) (.int .i64 (bytesOf ps 6)) (.int .i64 (bytesOf ps 7))
              go_wp2
              go_round
              case rel =>
                obtain ⟨k', a, b, c⟩ := HE.out
                exact ⟨k', a, by rw [b]; all_goals rfl, by rw [c]; all_goals rfl⟩
              case measure => simp [intOf]
          · have HE := Lib.hid (show ∃ k' : Nat, k' ≤ 8 ∧ k' = k + 1 ∧ heavyN ps k' = m from ⟨k + 1, by omega, rfl, HN.out hgt⟩)
            have hgd : decide (bytesOf ps m < bytesOf ps k) = false := by simp; omega
            clear hgt
            have hkk : k = 0 ∨ k = 1 ∨ k = 2 ∨ k = 3 ∨ k = 4 ∨ k = 5 ∨ k = 6 ∨ k = 7 := by omega
            rcases hkk with rfl | rfl | rfl | rfl | rfl | rfl | rfl | rfl
            all_goals
              simp at hgd
              obtain ⟨i0, i1, i2, i3, i4, i5, i6, i7⟩ := ix8 (.int .i64 (bytesOf ps 0)) (.int .i64 (bytesOf ps 1)) (.int .i64 (bytesOf ps 2)) (.int .i64 (bytesOf ps 3)) (.int .i64 (bytesOf ps 4)) (.int .i64 (bytesOf ps 5)) (.int .i64 (bytesOf ps 6)) (.int .i64 (bytesOf ps 7))
              go_wp2
              go_round
              case rel =>
                obtain ⟨k', a, b, c⟩ := HE.out
                exact ⟨k', a, by rw [b]; all_goals rfl, by rw [c]⟩
              case measure => simp [intOf]
        · obtain rfl : k = 8 := by omega
          have em := sums8_at HC.out (heavyN ps 8) (by omega)
          obtain ⟨m, hm⟩ : ∃ m, heavyN ps 8 = m := ⟨_, rfl⟩
          have hmi : (m : Int) < 8 := by omega
          rw [hm] at em ⊢
          have HM := Lib.hid (show heavy ps = m from hm)
          clear hm
          go_wp2_with fail
          go_quiet (fail)
          go_wp2
          go_ret3
          exact ⟨ret_three (by rw [HM.out]) (by rw [HM.out]) rfl, below_drewN HF.out.below _⟩
end Go.Proofs.Ytapoahoknlaeaab
