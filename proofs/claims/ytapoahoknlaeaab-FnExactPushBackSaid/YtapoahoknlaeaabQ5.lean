/-
  Chapter 3: the heaviest peer: what the program's function and the model's return. Conditions: the packets are valid, and few.
-/
import Derived.Test.YtapoahoknlaeaabQ2
namespace Go.Proofs.Ytapoahoknlaeaab
open Go.RowKit

theorem ret_three {x y : Int} {x2 y2 : Int} {a b : Bool} (h : x = y) (h1 : x2 = y2) (h2 : a = b) : Ending.returned (.tuple #[.int .i64 x, .int .i64 x2, .bool a]) = .returned (.tuple #[.int .i64 y, .int .i64 y2, .bool b]) := by rw [h, h1, h2]
theorem ret_nn {x y : Int} {x2 y2 : Int} (h : x = y) (h1 : x2 = y2) : Ending.returned (.tuple #[.int .i64 x, .int .i64 x2]) = .returned (.tuple #[.int .i64 y, .int .i64 y2]) := by rw [h, h1]
theorem bytes_le {ps : List Pkt} (h : okB ps = true) (x : Int) : 0 ≤ bytesOf ps x ∧ bytesOf ps x ≤ 6400 := by
  have h1 := bytes_bd (ok_of h).2 x
  have h2 := sum_bound ps (ok_of h).2
  have := (ok_of h).1
  omega
/-- the greatest bytes among the first k peers -/
def mostN (ps : List Pkt) (k : Nat) : Int := if k = 0 then 0 else bytesOf ps (heavyN ps k)
theorem most_step {ps : List Pkt} (h : okB ps = true) (k : Nat) :
    (mostN ps k < bytesOf ps k → heavyN ps (k + 1) = k ∧ mostN ps (k + 1) = bytesOf ps k) ∧ (¬ mostN ps k < bytesOf ps k → heavyN ps (k + 1) = heavyN ps k ∧ mostN ps (k + 1) = mostN ps k) := by
  rcases Nat.eq_zero_or_pos k with rfl | hk
  · have h0 := (bytes_le h 0).1
    have e : heavyN ps 0 = 0 := rfl
    have e1 := heavyN_one ps
    refine ⟨fun _ => ⟨e1, by simp [mostN, e1]⟩, fun hn => ⟨by rw [e1, e], ?_⟩⟩
    simp only [mostN, e1, if_true, Nat.add_eq_zero_iff, Nat.one_ne_zero, and_false, if_false] at hn ⊢
    have e2 : ((0 : Nat) : Int) = 0 := rfl
    rw [e2] at hn ⊢
    omega
  · have hm : mostN ps k = bytesOf ps (heavyN ps k) := by simp [mostN]; omega
    have hm1 : mostN ps (k + 1) = bytesOf ps (heavyN ps (k + 1)) := by simp [mostN]
    rw [hm]
    refine ⟨fun hlt => ?_, fun hn => ?_⟩
    · have e := heavyN_yes hlt
      exact ⟨e, by rw [hm1, e]⟩
    · have e := heavyN_no hn
      exact ⟨e, by rw [hm1, e]⟩
theorem most_end (ps : List Pkt) : mostN ps 8 = bytesOf ps (heavy ps) := rfl
def heavyP (lim : Int) (ps : List Pkt) : Bool := qvB lim ps && decide (0 < ps.length)
def heavyI (lim : Int) (ps : List Pkt) : Int := if heavyP lim ps = true then (heavy ps : Int) else 0
def heavyB (lim : Int) (ps : List Pkt) : Int := if heavyP lim ps = true then bytesOf ps (heavy ps) else 0
theorem heavyP_of {lim : Int} {ps : List Pkt} (h : heavyP lim ps = true) : qvB lim ps = true ∧ 0 < ps.length := by simpa [heavyP] using h
theorem heavy_no {lim : Int} {ps : List Pkt} (h : heavyP lim ps = false) : heavyI lim ps = 0 ∧ heavyB lim ps = 0 := by simp [heavyI, heavyB, h]
theorem heavy_yes {lim : Int} {ps : List Pkt} (h : heavyP lim ps = true) : heavyI lim ps = heavy ps ∧ heavyB lim ps = bytesOf ps (heavy ps) := by simp [heavyI, heavyB, h]
def HvRel (w : World) (ps : List Pkt) (b m p : Value) (wr : World) : Prop :=
  ∃ k : Nat, k ≤ 8 ∧ p = .int .i64 (k : Int) ∧ b = .int .i64 (heavyN ps k : Int) ∧ m = .int .i64 (mostN ps k) ∧ Below w.heap.size w wr
set_option maxHeartbeats 2000000 in
theorem l3Heaviest_any (A : Option Addr) (n c : Nat) (ps : List Pkt) (w : World) (h : PR w A n ps) (hok : okB ps = true) :
    Calls Try.prog 53 #[.slice A n c] w fun e w' => e = .returned (.tuple #[.int .i64 (heavy ps : Int), .int .i64 (bytesOf ps (heavy ps))]) ∧ Below w.heap.size w w' := by
  have H := Lib.hid h
  have HK := Lib.hid hok
  have n64 : n ≤ 64 := by have := (ok_of hok).1; have := h.1; omega
  clear h hok
  go_enter Try.func53, Try.ntmps53
  go_wp2
  go_loopw [4, 5, 6] (fun b m p wr => HvRel w ps b m p wr) (fun _ _ p _ => 8 - (intOf p).toNat)
  case atStart => exact ⟨0, by omega, rfl, rfl, rfl, Below.refl _ _⟩
  case round =>
    obtain ⟨k, hk, rfl, rfl, rfl, hbl⟩ := hrel
    have HB := Lib.hid hbl
    clear hbl
    by_cases hlt : k < 8
    · go_wp2_with fail
      refine (ofS_any A n c ps k _ (pr_below H.out HB.out) (by omega)).mono ?_
      rintro e w2 ⟨A2, n2, c2, rfl, h2a, h2b, h2c, h2d, h2e⟩
      have HB2 := Lib.hid (below_seq HB.out h2e)
      have HP2 := Lib.hid (pr_own h2d)
      clear h2a h2b h2c h2d h2e
      go_wp2_with fail
      refine (sumS_any A2 n2 c2 _ _ HP2.out (ok_of_peer _ HK.out)).mono ?_
      rintro e w3 ⟨rfl, rfl⟩
      have hst := most_step HK.out k
      change (mostN ps k < sizeSum (ofPeer ps k) → _) ∧ (¬ mostN ps k < sizeSum (ofPeer ps k) → _) at hst
      have HS := Lib.hid hst
      clear hst
      by_cases hm : mostN ps k < sizeSum (ofPeer ps k)
      · have HM := Lib.hid (HS.out.1 hm)
        go_wp2
        go_roundw
        case rel => exact ⟨k + 1, by omega, by go_num, by rw [HM.out.1], by rw [HM.out.2]; rfl, HB2.out⟩
        case measure => simp [intOf]; omega
      · have HM := Lib.hid (HS.out.2 hm)
        have hd : decide (mostN ps k < sizeSum (ofPeer ps k)) = false := by simp; omega
        clear hm
        go_wp2
        go_roundw
        case rel => exact ⟨k + 1, by omega, by go_num, by rw [HM.out.1], by rw [HM.out.2], HB2.out⟩
        case measure => simp [intOf]; omega
    · obtain rfl : k = 8 := by omega
      go_wp2
      go_ret2
      exact ⟨rfl, HB.out⟩
set_option maxHeartbeats 2000000 in
theorem heavyS_any (lim : Int) (A : Option Addr) (n c : Nat) (ps : List Pkt) (w : World) (h : PR w A n ps) (hn : n ≤ 4000000000) :
    Calls Try.prog 23 #[.agg #[.int .i64 lim, (.slice A n c)]] w fun e w' => e = .returned (.tuple #[.int .i64 (heavyI lim ps), .int .i64 (heavyB lim ps), .bool (heavyP lim ps)]) ∧ Below w.heap.size w w' := by
  have H := Lib.hid h
  have HL := Lib.hid h.1
  clear h
  rcases hq : qvB lim ps with _ | _
  · have Q : Hid (heavyP lim ps = false) := Lib.hid (by simp [heavyP, hq])
    have HQ := Lib.hid hq
    clear hq
    go_enter Try.func23, Try.ntmps23
    go_wp2_with fail
    refine (qvS_any lim A n c ps _ (pr_alloc H.out _) (by omega)).mono ?_
    rintro e w1 ⟨rfl, hb⟩
    obtain ⟨hc1, hf1⟩ := bcell hb
    have B1 := Lib.hid (show Below w.heap.size w w1 from (by first | exact below_seq (Below.refl w.heap.size w) hb | exact below_seq1 (Below.refl w.heap.size w) hb | exact below_seq2 (Below.refl w.heap.size w) hb | exact below_seq3 (Below.refl w.heap.size w) hb | exact below_seq4 (Below.refl w.heap.size w) hb))
    have R1 := Lib.hid hb
    have hz1 := hb.size
    try simp at hz1
    clear hb
    rw [HQ.out]
    have D := Lib.hid (show Blk w1 (w.heap.size) 25 #[.int .i64 lim, (.slice A n c)] from (blk_below (blk_new w 25 #[.int .i64 lim, (.slice A n c)]) R1.out (by simp)))
    have Dc0 : World.cell? w1 ⟨w.heap.size, 0, none⟩ = some (.int .i64 lim) := blk_cell D.out 0
    have Df0 : World.frozen? w1 ⟨w.heap.size, 0, none⟩ = false := blk_free D.out 0
    have Dc1 : World.cell? w1 ⟨w.heap.size, 1, none⟩ = some ((.slice A n c)) := blk_cell D.out 1
    have Df1 : World.frozen? w1 ⟨w.heap.size, 1, none⟩ = false := blk_free D.out 1
    clear hc1 hf1
    go_wp2
    go_ret3
    exact ⟨ret_three (heavy_no Q.out).1.symm (heavy_no Q.out).2.symm Q.out.symm, B1.out⟩
  · have HQ := Lib.hid hq
    by_cases h0 : n = 0
    · have Q : Hid (heavyP lim ps = false) := Lib.hid (by simp [heavyP, hq]; have := HL.out; exact List.eq_nil_of_length_eq_zero (by omega))
      clear hq
      subst h0
      go_enter Try.func23, Try.ntmps23
      go_wp2_with fail
      refine (qvS_any lim A 0 c ps _ (pr_alloc H.out _) (by omega)).mono ?_
      rintro e w1 ⟨rfl, hb⟩
      obtain ⟨hc1, hf1⟩ := bcell hb
      have B1 := Lib.hid (show Below w.heap.size w w1 from (by first | exact below_seq (Below.refl w.heap.size w) hb | exact below_seq1 (Below.refl w.heap.size w) hb | exact below_seq2 (Below.refl w.heap.size w) hb | exact below_seq3 (Below.refl w.heap.size w) hb | exact below_seq4 (Below.refl w.heap.size w) hb))
      have R1 := Lib.hid hb
      have hz1 := hb.size
      try simp at hz1
      clear hb
      rw [HQ.out]
      have D := Lib.hid (show Blk w1 (w.heap.size) 25 #[.int .i64 lim, (.slice A 0 c)] from (blk_below (blk_new w 25 #[.int .i64 lim, (.slice A 0 c)]) R1.out (by simp)))
      have Dc0 : World.cell? w1 ⟨w.heap.size, 0, none⟩ = some (.int .i64 lim) := blk_cell D.out 0
      have Df0 : World.frozen? w1 ⟨w.heap.size, 0, none⟩ = false := blk_free D.out 0
      have Dc1 : World.cell? w1 ⟨w.heap.size, 1, none⟩ = some ((.slice A 0 c)) := blk_cell D.out 1
      have Df1 : World.frozen? w1 ⟨w.heap.size, 1, none⟩ = false := blk_free D.out 1
      clear hc1 hf1
      go_wp2
      go_ret3
      exact ⟨ret_three (heavy_no Q.out).1.symm (heavy_no Q.out).2.symm Q.out.symm, B1.out⟩
    · have Q : Hid (heavyP lim ps = true) := Lib.hid (by simp only [heavyP, hq, Bool.true_and, decide_eq_true_eq]; have := HL.out; omega)
      have hnz : ((n : Int) == 0) = false := by simp; omega
      have HK := Lib.hid (qv_of hq).1
      clear hq h0
      go_enter Try.func23, Try.ntmps23
      go_wp2_with fail
      refine (qvS_any lim A n c ps _ (pr_alloc H.out _) (by omega)).mono ?_
      rintro e w1 ⟨rfl, hb⟩
      obtain ⟨hc1, hf1⟩ := bcell hb
      have B1 := Lib.hid (show Below w.heap.size w w1 from (by first | exact below_seq (Below.refl w.heap.size w) hb | exact below_seq1 (Below.refl w.heap.size w) hb | exact below_seq2 (Below.refl w.heap.size w) hb | exact below_seq3 (Below.refl w.heap.size w) hb | exact below_seq4 (Below.refl w.heap.size w) hb))
      have R1 := Lib.hid hb
      have hz1 := hb.size
      try simp at hz1
      clear hb
      rw [HQ.out]
      have D := Lib.hid (show Blk w1 (w.heap.size) 25 #[.int .i64 lim, (.slice A n c)] from (blk_below (blk_new w 25 #[.int .i64 lim, (.slice A n c)]) R1.out (by simp)))
      have Dc0 : World.cell? w1 ⟨w.heap.size, 0, none⟩ = some (.int .i64 lim) := blk_cell D.out 0
      have Df0 : World.frozen? w1 ⟨w.heap.size, 0, none⟩ = false := blk_free D.out 0
      have Dc1 : World.cell? w1 ⟨w.heap.size, 1, none⟩ = some ((.slice A n c)) := blk_cell D.out 1
      have Df1 : World.frozen? w1 ⟨w.heap.size, 1, none⟩ = false := blk_free D.out 1
      clear hc1 hf1
      go_wp2_with fail
      refine (l3Heaviest_any A n c ps _ (pr_below (pr_alloc H.out _) R1.out) HK.out).mono ?_
      rintro e w2 ⟨rfl, hb⟩
      obtain ⟨hc2, hf2⟩ := bcell hb
      have B2 := Lib.hid (show Below w.heap.size w w2 from (by first | exact below_seq B1.out hb | exact below_seq1 B1.out hb | exact below_seq2 B1.out hb | exact below_seq3 B1.out hb | exact below_seq4 B1.out hb))
      have R2 := Lib.hid hb
      have hz2 := hb.size
      try simp at hz2
      clear hb
      go_wp2
      go_ret3
      exact ⟨ret_three (heavy_yes Q.out).1.symm (heavy_yes Q.out).2.symm Q.out.symm, B2.out⟩
end Go.Proofs.Ytapoahoknlaeaab
