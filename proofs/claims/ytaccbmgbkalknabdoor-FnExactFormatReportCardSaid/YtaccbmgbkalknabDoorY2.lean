/-
  Chapter 11: BytesByPeer: what the program's function and the model's return. Conditions: a slice's length fits an int; the model's: at most 1048576 packets.
-/
import Derived.Test.YtaccbmgbkalknabDoorY1
namespace Go.Proofs.YtaccbmgbkalknabDoor
open Go.RowKit

theorem bs_end {ps : List Pkt} {n k : Nat} (h : ps.length = n) (hk : n ≤ k) : bsL (ps.take k) = bsL ps := by rw [List.take_of_length_le (by omega)]
theorem bs_step {ps : List Pkt} {k d : Nat} {p : Pkt} (hp : ps[k]? = some p) (hd : p.peer = (d : Int)) (h8 : d < 8) : (bsL (ps.take k)).set d (bsz d (ps.take k) + p.size) = bsL (ps.take (k + 1)) := by
  rw [List.take_add_one, hp]
  have := bs_snoc (ps := ps.take k) (p := p) (by omega)
  rw [hd] at this
  exact this
theorem bp_bad {ps : List Pkt} {k : Nat} {p : Pkt} (hp : ps[k]? = some p) (h : vldB p = false) : bpB ps = false := by
  rcases hq : bpB ps with _ | _
  · rfl
  · have := List.all_eq_true.1 (bp_of hq).2 p (List.mem_of_getElem? hp)
    rw [h] at this; cases this
theorem bp_long {ps : List Pkt} (h : 1000 < ps.length) : bpB ps = false := by
  rcases hq : bpB ps with _ | _
  · rfl
  · have := (bp_of hq).1; omega
theorem bp_mk {ps : List Pkt} (h1 : ps.length ≤ 1000) (h2 : ps.all vldB = true) : bpB ps = true := by
  simp only [bpB, Bool.and_eq_true, decide_eq_true_eq]; exact ⟨h1, h2⟩
theorem all_end {ps : List Pkt} {n k : Nat} (h : ps.length = n) (hk : n ≤ k) (ha : (ps.take k).all vldB = true) : ps.all vldB = true := by rwa [List.take_of_length_le (by omega)] at ha
theorem of_all {ps : List Pkt} {x : Int} (h : ps.all vldB = true) : (ofPeer ps x).all vldB = true := by
  rw [List.all_eq_true] at h ⊢
  exact fun p hp => h p (List.mem_filter.1 hp).1
def BbRel (w : World) (ps : List Pkt) (n : Nat) (i : Value) (wr : World) : Prop :=
  ∃ k : Nat, k ≤ n ∧ i = .int .i64 (k : Int) ∧ (ps.take k).all vldB = true ∧ Below w.heap.size w wr ∧ wr.ownsRow w.heap.size 3 1 (.slice (some ⟨w.heap.size, 0, none⟩) 8 8) 8 (icells (bsL (ps.take k)))
/-- where packets lie -/
theorem pr_kept {w wr : World} {A : Option Addr} {n : Nat} {ps : List Pkt} (h : PR w A n ps) (hb : Below w.heap.size w wr) : PR wr A n ps := pr_below h hb
set_option maxRecDepth 100000 in
set_option maxHeartbeats 4000000 in
theorem bbI_any (A : Option Addr) (n c : Nat) (ps : List Pkt) (w : World) (h : PR w A n ps) (hn : n ≤ 9223372036854775807) :
    Calls Tryd.prog 9 #[.slice A n c] w (LPq w (if bpB ps = true then bsL ps else []) (bpB ps)) := by
  have H := Lib.hid h
  clear h
  obtain ⟨P, hP⟩ : ∃ P, P = (if bpB ps = true then bsL ps else []) := ⟨_, rfl⟩
  obtain ⟨ok, hok⟩ : ∃ ok, ok = bpB ps := ⟨_, rfl⟩
  rw [← hP, ← hok]
  have HP : Hid (P = (if ok = true then bsL ps else []) ∧ ok = bpB ps) := Lib.hid ⟨by rw [hP, hok], hok⟩
  clear hP hok
  by_cases h1000 : 1000 < n
  · have h1 : (1000 : Int) < (n : Int) := by omega
    obtain rfl : ok = false := HP.out.2.trans (bp_long (by have := H.out.1; omega))
    obtain rfl : P = [] := HP.out.1
    go_enter Tryd.func9, Tryd.ntmps9
    go_wp2
    go_ret2
    exact lpq_nil rfl (Below.refl _ _)
  · have h1 : ¬ (1000 : Int) < (n : Int) := by omega
    obtain ⟨i0, hi, hz0, hz1, hz2⟩ := info_parts infoInt
    go_enter Tryd.func9, Tryd.ntmps9
    go_wp2_with (refine wpList_make_full _ rfl (.const (.int .i64 8)) (.const (.int .i64 8)) 23 rfl w.heap.size 3 i0 _ 1 Tryd.underlying23 hi hz0 hz1 .i64 .i64 8 8 8 rfl rfl rfl rfl (by rw [hz2]; omega) (by unfold maxLen; omega) (Nat.le_refl _) ?_
                 intro w1 ho1 hg1
                 have R0 : Hid (BbRel w ps n (.int .i64 0) w1) := Lib.hid (by
                   rw [zerosI] at ho1
                   have hb1 : Below w.heap.size w w1 := ⟨hg1.os, hg1.tape, hg1.output, hg1.size, fun i hi => hg1.block i hi (by simp)⟩
                   exact ⟨0, Nat.zero_le _, rfl, rfl, hb1, ho1⟩)
                 clear ho1 hg1)
    clear hi hz0 hz1 hz2
    go_loopw [13] (fun i wr => BbRel w ps n i wr) (fun i _ => n - (intOf i).toNat)
    case atStart => exact R0.out
    case round =>
      obtain ⟨k, hk, rfl, hall, hbl, ho⟩ := hrel
      clear R0
      have HO := Lib.hid ho
      have HB := Lib.hid hbl
      have HA := Lib.hid hall
      clear hall
      by_cases hlt : k < n
      · obtain ⟨b, off, p, rfl, hb, hp, c0, c1, c2, c3⟩ := pr_at (pr_below H.out hbl) hlt
        have HPP := Lib.hid hp
        have k0 : (0 : Int) ≤ (k : Int) := by omega
        have k1 : (k : Int) < (n : Int) := by omega
        have zb := ho.lt w.heap.size rfl
        clear hp hbl ho
        go_wp2_with fail
        refine (vldI_any p _).mono ?_
        rintro e w1 ⟨rfl, hb1⟩
        have B1 := Lib.hid (below_seq1 HB.out hb1)
        have O1 := Lib.hid (own_below (HO.out.alloc (.cells #[.int .i64 p.peer, .int .i64 p.lane, .int .i64 p.size, .int .i64 p.id] 47)) hb1)
        have P1 := Lib.hid (blk_below (blk_new wr 47 #[.int .i64 p.peer, .int .i64 p.lane, .int .i64 p.size, .int .i64 p.id]) hb1 (by simp))
        have z1 : wr.heap.size < w1.heap.size := by have := hb1.size; simp at this; omega
        clear hb1 HB c0 c1 c2 c3
        rcases hv : vldB p with _ | _
        · have HE := Lib.hid (bp_bad HPP.out hv)
          clear hv
          obtain rfl : ok = false := HP.out.2.trans HE.out
          obtain rfl : P = [] := HP.out.1
          go_wp2
          go_ret2
          exact lpq_nil rfl B1.out
        · obtain ⟨⟨p0, p7⟩, z0, z100⟩ := vld_sz hv
          have HV := Lib.hid hv
          clear hv
          obtain ⟨d, hd, hd0, hd7⟩ := nat_of (lo := 0) (hi := 7) (by omega) ⟨p0, p7⟩
          have q0 : w1.cell? ⟨wr.heap.size, 0, none⟩ = some (.int .i64 (d : Int)) := by rw [← hd]; exact blk_cell P1.out 0
          have q2 : w1.cell? ⟨wr.heap.size, 2, none⟩ = some (.int .i64 p.size) := blk_cell P1.out 2
          obtain ⟨b', off', y, e1, hb', hy, d0⟩ := nr_at (k := d) (nr_own O1.out) (by omega)
          obtain ⟨rfl, rfl⟩ : w.heap.size = b' ∧ 0 = off' := by injection e1 with e1; injection e1 with a b; exact ⟨a, b⟩
          rw [Nat.zero_add] at d0
          have f0 := World.ownsRow.frozenAt O1.out d
          obtain rfl : y = bsz d (ps.take k) := by rw [bs_get (by omega)] at hy; exact (Option.some.inj hy).symm
          obtain ⟨y, hY⟩ : ∃ y, y = bsz d (ps.take k) := ⟨_, rfl⟩
          obtain ⟨y0, y1⟩ := bsz_bd (d := d) HA.out
          rw [List.length_take, ← hY] at y1
          rw [← hY] at d0 y0
          have y2 : y ≤ 100000 := by omega
          have HY := Lib.hid hY
          have HD := Lib.hid hd
          have d2 : (0 : Int) ≤ (d : Int) := by omega
          have d8 : (d : Int) < 8 := by omega
          have zs : w.heap.size < w1.heap.size := by omega
          obtain ⟨s, hs⟩ : ∃ s, s = p.size := ⟨_, rfl⟩
          have HSZ := Lib.hid hs
          rw [← hs] at q2 z0 z100
          clear hy hY e1 y1 hd hs
          go_wp2_with fail
          go_region
          all_goals
            go_wp2
            go_roundw
            case rel => exact ⟨k + 1, by omega, by go_num, all_snoc ps k p HPP.out HA.out HV.out, Below.setCell B1.out.drew (Nat.le_refl _) _, by have := own_set_int (own_below O1.out (below_drewN (Below.refl _ _) 1)) d (y + s); rw [HY.out, HSZ.out, bs_step HPP.out HD.out (by omega)] at this; rw [HY.out, HSZ.out]; exact this⟩
            case measure => simp [intOf]; omega
      · obtain rfl : k = n := by omega
        obtain rfl : ok = true := HP.out.2.trans (bp_mk (by have := H.out.1; omega) (all_end H.out.1 (Nat.le_refl _) HA.out))
        obtain rfl : P = bsL ps := HP.out.1
        clear hbl ho
        go_wp2
        go_ret2
        exact lpq_mk rfl (by have o := HO.out; rw [bs_end H.out.1 (Nat.le_refl _)] at o; exact o) HB.out
set_option maxRecDepth 100000 in
set_option maxHeartbeats 1000000 in
theorem sumP_is (A : Option Addr) (n c : Nat) (ps : List Pkt) (S : Int) (w : World) (h : PR w A n ps) (hv : ps.all vldB = true) (hn : n ≤ 1000) (hS : sizeSum ps = S) :
    Calls Tryd.prog 33 #[.slice A n c] w fun e w' => e = .returned (.int .i64 S) ∧ w = w' := by
  subst hS
  have H := Lib.hid h
  have HK := Lib.hid hv
  clear h hv
  go_enter Tryd.func33, Tryd.ntmps33
  go_wp2
  go_loop [3, 4] (fun s i => ∃ k : Nat, k ≤ n ∧ i = .int .i64 (k : Int) ∧ s = .int .i64 (sizeSum (ps.take k))) (fun _ i => n - (intOf i).toNat)
  case atStart => exact ⟨0, Nat.zero_le _, rfl, rfl⟩
  case round =>
    obtain ⟨k, hk, rfl, rfl⟩ := hrel
    by_cases hlt : k < n
    · obtain ⟨b, off, p, rfl, hb, hp, c0, c1, c2, c3⟩ := pr_at H.out hlt
      have HS : Hid (sizeSum (ps.take (k + 1)) = sizeSum (ps.take k) + p.size) := Lib.hid (by rw [take_snoc ps k p hp, sizeSum_snoc])
      obtain ⟨s0, s1⟩ := sum_bound (ps.take k) (all_take ps k HK.out)
      obtain ⟨z0, z1⟩ := vld_size (List.all_eq_true.1 HK.out p (List.mem_of_getElem? hp))
      rw [List.length_take] at s0 s1
      have s2 : 0 ≤ sizeSum (ps.take k) := by omega
      have s3 : sizeSum (ps.take k) ≤ 100000 := by omega
      clear hp s0 s1
      go_wp2
      go_round
      case rel => exact ⟨k + 1, by omega, by go_num, by rw [HS.out]⟩
      case measure => simp [intOf]; omega
    · obtain rfl : k = n := by omega
      go_wp2
      go_ret
      exact ⟨ret_int (by rw [List.take_of_length_le (by have := H.out.1; omega)]), rfl⟩
def BbS1 (w : World) (ps : List Pkt) (n : Nat) (i : Value) (wr : World) : Prop :=
  ∃ k : Nat, k ≤ n ∧ k ≤ 1000 ∧ i = .int .i64 (k : Int) ∧ (ps.take k).all vldB = true ∧ Below w.heap.size w wr ∧ wr.ownsRow w.heap.size 3 1 (.slice (some ⟨w.heap.size, 0, none⟩) 0 0) 0 (icells [])
def BbS2 (w : World) (ps : List Pkt) (v i : Value) (wr : World) : Prop :=
  ∃ (k : Nat) (A : Option Addr) (c : Nat), k ≤ 8 ∧ i = .int .i64 (k : Int) ∧ v = .slice A k c ∧ Below w.heap.size w wr ∧ wr.ownsRow w.heap.size 3 1 (.slice A k c) k (icells ((bsL ps).take k))
set_option maxRecDepth 100000 in
set_option maxHeartbeats 4000000 in
theorem bbS_any (A : Option Addr) (n c : Nat) (ps : List Pkt) (w : World) (h : PR w A n ps) (hn : n ≤ 4000000000) :
    Calls Tryd.prog 21 #[.slice A n c] w (LPq w (if bpB ps = true then bsL ps else []) (bpB ps)) := by
  have H := Lib.hid h
  clear h
  obtain ⟨P, hP⟩ : ∃ P, P = (if bpB ps = true then bsL ps else []) := ⟨_, rfl⟩
  obtain ⟨ok, hok⟩ : ∃ ok, ok = bpB ps := ⟨_, rfl⟩
  rw [← hP, ← hok]
  have HP : Hid (P = (if ok = true then bsL ps else []) ∧ ok = bpB ps) := Lib.hid ⟨by rw [hP, hok], hok⟩
  clear hP hok
  have R0 : Hid (BbS1 w ps n (.int .i64 0) (w.alloc (.cells #[] 3))) := Lib.hid ⟨0, Nat.zero_le _, Nat.zero_le _, rfl, rfl, below_alloc (Below.refl _ _) _, own_emptyI rfl⟩
  go_enter Tryd.func21, Tryd.ntmps21
  go_wp2
  go_loopw [5] (fun i wr => BbS1 w ps n i wr) (fun i _ => n - (intOf i).toNat)
  case atStart => exact R0.out
  case round =>
    obtain ⟨k, hk, hk1000, rfl, hall, hbl, ho⟩ := hrel
    clear R0
    have HO := Lib.hid ho
    have HB := Lib.hid hbl
    have HA := Lib.hid hall
    clear hall
    by_cases hlt : k < n
    · obtain ⟨b, off, p, rfl, hb, hp, c0, c1, c2, c3⟩ := pr_at (pr_below H.out hbl) hlt
      have HPP := Lib.hid hp
      have k0 : (0 : Int) ≤ (k : Int) := by omega
      have k1 : (k : Int) < (n : Int) := by omega
      clear hp hbl ho
      go_wp2_with fail
      refine (vldS_any p _).mono ?_
      rintro e w1 ⟨rfl, hb1⟩
      have B1 := Lib.hid (below_seq HB.out hb1)
      have O1 := Lib.hid (own_below HO.out hb1)
      clear hb1 HB c0 c1 c2 c3
      rcases hv : vldB p with _ | _
      · have HE := Lib.hid (bp_bad HPP.out hv)
        clear hv
        obtain rfl : ok = false := HP.out.2.trans HE.out
        obtain rfl : P = [] := HP.out.1
        go_wp2
        go_ret2
        exact lpq_mk rfl O1.out B1.out
      · have HV := Lib.hid hv
        clear hv
        by_cases h1000 : k < 1000
        · have k2 : ¬ (1000 : Int) ≤ (k : Int) := by omega
          go_wp2
          go_roundw
          case rel => exact ⟨k + 1, by omega, by omega, by go_num, all_snoc ps k p HPP.out HA.out HV.out, B1.out, O1.out⟩
          case measure => simp [intOf]; omega
        · have k2 : (1000 : Int) ≤ (k : Int) := by omega
          obtain rfl : ok = false := HP.out.2.trans (bp_long (by have := H.out.1; omega))
          obtain rfl : P = [] := HP.out.1
          go_wp2
          go_ret2
          exact lpq_mk rfl O1.out B1.out
    · obtain rfl : k = n := by omega
      have HALL := Lib.hid (all_end H.out.1 (Nat.le_refl _) HA.out)
      obtain rfl : ok = true := HP.out.2.trans (bp_mk (by have := H.out.1; omega) HALL.out)
      obtain rfl : P = bsL ps := HP.out.1
      have R1 : Hid (BbS2 w ps (.slice (some ⟨w.heap.size, 0, none⟩) 0 0) (.int .i64 0) wr) := Lib.hid ⟨0, _, 0, Nat.zero_le _, rfl, rfl, HB.out, HO.out⟩
      clear hbl ho HO HB HA
      go_wp2
      go_loopw [4, 6] (fun v i wr => BbS2 w ps v i wr) (fun _ i _ => 8 - (intOf i).toNat)
      case atStart => exact R1.out
      case round =>
        obtain ⟨j, A2, c2, hj, rfl, rfl, hbl, ho⟩ := hrel
        clear R1
        have HO := Lib.hid ho
        have HB := Lib.hid hbl
        by_cases hj8 : j < 8
        · have j8 : (j : Int) < 8 := by omega
          clear hbl ho
          go_wp2_with fail
          refine (ofS_any A k c ps (j : Int) _ (pr_below H.out HB.out) (by omega)).mono ?_
          rintro e w2 ⟨A3, n3, c3, rfl, hn3, -, -, ho3, hb2⟩
          have n3k : n3 ≤ 1000 := by have := H.out.1; omega
          have B2 := Lib.hid (below_seq HB.out hb2)
          have O2 := Lib.hid (own_below HO.out hb2)
          have P2 := Lib.hid (pr_own ho3)
          obtain ⟨S, hS⟩ : ∃ S, sizeSum (ofPeer ps (j : Int)) = S := ⟨_, rfl⟩
          have HS := Lib.hid hS
          have z2 := B2.out.size
          clear ho3 hb2 hS HB hn3
          go_wp2_with (first
            | (go_at_call 33; refine (sumP_is A3 n3 c3 _ S _ P2.out (of_all HALL.out) n3k HS.out).mono ?_; rintro e w3 ⟨rfl, rfl⟩)
            | (at_builtin
               refine wpl_app_ints _ rfl (.tmp 29) (.tmp 34) rfl w.heap.size (.slice A2 j c2) j ((bsL ps).take j) rfl (O2.out.alloc _) (some ⟨w2.heap.size, 0, none⟩) 1 1 [S] rfl (int_single (blk_at (by simp) _ _)) (by omega) (by simp; omega) ?_
               intro v7 w7 ho7 hg7 hat7
               obtain ⟨A7, c7, rfl, -, -, -⟩ := own_form ho7
               have D7 : Hid (Below w.heap.size w w7 ∧ w7.ownsRow w.heap.size 3 1 (.slice A7 (j + 1) c7) (j + 1) (icells ((bsL ps).take (j + 1)))) := Lib.hid ⟨app_belowG (O2.out.alloc _) (below_alloc B2.out _) hg7 (by simp; omega), by rw [bs_take hj8, HS.out]; exact ho7⟩
               clear ho7 hg7 hat7))
          go_roundw
          case rel => exact ⟨j + 1, A7, c7, by omega, by go_num, rfl, D7.out.1, D7.out.2⟩
          case measure => simp [intOf]; omega
        · obtain rfl : j = 8 := by omega
          clear hbl ho
          go_wp2
          go_ret2
          exact lpq_mk rfl HO.out HB.out
end Go.Proofs.YtaccbmgbkalknabDoor
