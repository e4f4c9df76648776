/-
  Chapter 4: what the laws' draws return, whatever the bytes. Conditions: none.
-/
import Derived.Test.YtkbjelchihdajaaADw
namespace Go.Proofs.Ytkbjelchihdajaa
open Go.RowKit

/-- an account of at most eight numbers, a peer and a number of bytes -/
def DrawnA (w : World) (e : Ending) (w' : World) : Prop :=
  ∃ lim each A n c us, ∃ x b : Int, e = .returned (.tuple #[.agg #[.int .i64 lim, .int .i64 each, (.slice A n c)], .int .i64 x, .int .i64 b]) ∧ n ≤ 8 ∧ (-1 ≤ x ∧ x ≤ 8) ∧ (-1 ≤ b ∧ b ≤ 6000) ∧ w'.ownsRow w.heap.size 3 1 (.slice A n c) n (icells us) ∧ Below w.heap.size w w'
theorem peer_in {x : Int} (h : x ∈ [0, 1, 2, 3, 7, 8, -1]) : -1 ≤ x ∧ x ≤ 8 := by
  simp only [List.mem_cons, List.not_mem_nil, or_false] at h; omega
theorem byte_in {x : Int} (h : x ∈ [10, 20, 1, 50, 0, 100, -1, 6000]) : -1 ≤ x ∧ x ≤ 6000 := by
  simp only [List.mem_cons, List.not_mem_nil, or_false] at h; omega
set_option maxHeartbeats 2000000 in
theorem l4Case_any (A : Option Addr) (n c : Nat) (w : World) (h : Bytes w A n c) :
    Calls Try.prog 39 #[.slice A n c] w (DrawnA w) := by
  go_enter Try.func39, Try.ntmps39
  go_wp2_with fail
  refine (open_any A n c _ (bytes_below h (below_alloc (Below.refl _ _) _))).mono ?_
  rintro e w1 ⟨g, rfl, hg, hb, hr⟩
  have O1 := Lib.hid (blk_below (blk_new w 25 #[.int .i64 0, .int .i64 0, (.slice none 0 0)]) hb (by simp))
  have B1 := Lib.hid (below_from (below_alloc (Below.refl w.heap.size w) (.cells #[.int .i64 0, .int .i64 0, (.slice none 0 0)] 25)) hb (by simp))
  have hz1 := hb.size
  simp at hz1 hg
  have HR := Lib.hid hr
  have zg1 := rd_lt hr
  clear hb hr h
  go_wp2_with fail
  refine (l4Draw_any g 0 _ HR.out (by omega)).mono ?_
  rintro e w2 ⟨lim, each, A2, c2, us, rfl, -, ho2, hg2, hr2⟩
  have O2 := Lib.hid (blk_grown O1.out hg2 (by omega))
  have B2 := Lib.hid (below_grown B1.out (by omega) hg2 (by omega))
  have hz2 := hg2.size
  have HR2 := Lib.hid hr2
  have HP2 := Lib.hid (nr_own ho2)
  clear ho2 hg2 hr2 HR O1 B1
  go_wp2_with fail
  refine (l4Wrong_any g _ lim each A2 c2 us _ HR2.out (by omega) HP2.out).mono ?_
  rintro e w3 ⟨lim3, each3, A3, n3, c3, us3, rfl, hn3, ho3, hg3, hr3⟩
  have O3 := Lib.hid (blk_grown O2.out hg3 (by omega))
  have B3 := Lib.hid (below_grown B2.out (by omega) hg3 (by omega))
  have hz3 := hg3.size
  have HR3 := Lib.hid hr3
  have HO3 := Lib.hid ho3
  clear ho3 hg3 hr3 O2 B2 HR2 HP2
  go_wp2_with fail
  refine (num_lit g _ _ 7 _ _ [0, 1, 2, 3, 7, 8, -1] _ HR3.out (by omega) (by simp) (by decide) rfl).mono ?_
  rintro e w4 ⟨x, hx, rfl, hg4, hr4⟩
  have O4 := Lib.hid (blk_grown O3.out hg4 (by omega))
  have B4 := Lib.hid (below_grown B3.out (by omega) hg4 (by omega))
  have hz4 := hg4.size
  have HR4 := Lib.hid hr4
  have HO4 := Lib.hid (own_farI HO3.out hg4 (by omega))
  have HX := Lib.hid (peer_in hx)
  clear hg4 hr4 O3 B3 HR3 HO3 hx
  go_wp2_with fail
  refine (num_lit g _ _ 8 _ _ [10, 20, 1, 50, 0, 100, -1, 6000] _ HR4.out (by omega) (by simp) (by decide) rfl).mono ?_
  rintro e w5 ⟨b, hb5, rfl, hg5, -⟩
  obtain ⟨⟨o0, o1, o2⟩, f0, f1, f2⟩ := blk_three (blk_grown O4.out hg5 (by omega))
  have B5 := Lib.hid (below_grown B4.out (by omega) hg5 (by omega))
  have hz5 := hg5.size
  have HO5 := Lib.hid (own_farI HO4.out hg5 (by omega))
  have HB5 := Lib.hid (byte_in hb5)
  clear hg5 O4 B4 HR4 HO4 hb5
  go_wp2
  refine bodyPost_ret (v := .tuple #[.agg #[.int .i64 lim3, .int .i64 each3, (.slice A3 n3 c3)], .int .i64 x, .int .i64 b]) (by simp [results, Try.results39, go_sem, o0, o1, o2]) rfl ⟨lim3, each3, A3, n3, c3, us3, x, b, rfl, hn3, HX.out, HB5.out, ?_, ?_⟩
  · exact own_mono (own_set_far (own_set_far (own_set_far HO5.out (by simp; omega) _) (by simp; omega) _) (by simp; omega) _) (by omega)
  · exact Below.setCell (Below.setCell (Below.setCell B5.out (by simp) _) (by simp) _) (by simp) _
set_option maxHeartbeats 400000 in
theorem drawReserve_any (A : Option Addr) (n c : Nat) (w : World) (h : Bytes w A n c) :
    Calls Try.prog 15 #[.slice A n c] w (DrawnA w) := by
  go_enter Try.func15, Try.ntmps15
  go_wp2_with fail
  refine (l4Case_any A n c _ (bytes_below h (below_alloc (Below.refl _ _) _))).mono ?_
  rintro e w1 ⟨lim, each, A1, n1, c1, us, x, b, rfl, hn1, hx, hb2, ho, hb⟩
  obtain ⟨⟨o0, o1, o2⟩, f0, f1, f2⟩ := blk_three (blk_below (blk_new w 25 #[.int .i64 0, .int .i64 0, (.slice none 0 0)]) hb (by simp))
  have HO := Lib.hid ho
  have HX := Lib.hid (And.intro hx hb2)
  have BW := Lib.hid (below_from (below_alloc (Below.refl w.heap.size w) _) hb (by simp))
  clear ho hb hx hb2
  go_wp2
  refine bodyPost_ret (v := .tuple #[.agg #[.int .i64 lim, .int .i64 each, (.slice A1 n1 c1)], .int .i64 x, .int .i64 b]) (by simp [results, Try.results15, go_sem, o0, o1, o2]) rfl ⟨lim, each, A1, n1, c1, us, x, b, rfl, hn1, HX.out.1, HX.out.2, ?_, ?_⟩
  · exact own_mono (own_set_far (own_set_far (own_set_far HO.out (by simp) _) (by simp) _) (by simp) _) (by simp)
  · exact Below.setCell (Below.setCell (Below.setCell BW.out (by simp) _) (by simp) _) (by simp) _
set_option maxHeartbeats 400000 in
theorem drawRelease_any (A : Option Addr) (n c : Nat) (w : World) (h : Bytes w A n c) :
    Calls Try.prog 22 #[.slice A n c] w (DrawnA w) := by
  go_enter Try.func22, Try.ntmps22
  go_wp2_with fail
  refine (l4Case_any A n c _ (bytes_below h (below_alloc (Below.refl _ _) _))).mono ?_
  rintro e w1 ⟨lim, each, A1, n1, c1, us, x, b, rfl, hn1, hx, hb2, ho, hb⟩
  obtain ⟨⟨o0, o1, o2⟩, f0, f1, f2⟩ := blk_three (blk_below (blk_new w 25 #[.int .i64 0, .int .i64 0, (.slice none 0 0)]) hb (by simp))
  have HO := Lib.hid ho
  have HX := Lib.hid (And.intro hx hb2)
  have BW := Lib.hid (below_from (below_alloc (Below.refl w.heap.size w) _) hb (by simp))
  clear ho hb hx hb2
  go_wp2
  refine bodyPost_ret (v := .tuple #[.agg #[.int .i64 lim, .int .i64 each, (.slice A1 n1 c1)], .int .i64 x, .int .i64 b]) (by simp [results, Try.results22, go_sem, o0, o1, o2]) rfl ⟨lim, each, A1, n1, c1, us, x, b, rfl, hn1, HX.out.1, HX.out.2, ?_, ?_⟩
  · exact own_mono (own_set_far (own_set_far (own_set_far HO.out (by simp) _) (by simp) _) (by simp) _) (by simp)
  · exact Below.setCell (Below.setCell (Below.setCell BW.out (by simp) _) (by simp) _) (by simp) _
def DrawnAi (w : World) (e : Ending) (w' : World) : Prop :=
  ∃ lim each A n c us, ∃ x : Int, e = .returned (.tuple #[.agg #[.int .i64 lim, .int .i64 each, (.slice A n c)], .int .i64 x]) ∧ n ≤ 8 ∧ (-1 ≤ x ∧ x ≤ 8) ∧ w'.ownsRow w.heap.size 3 1 (.slice A n c) n (icells us) ∧ Below w.heap.size w w'
set_option maxHeartbeats 400000 in
theorem drawFreeFor_any (A : Option Addr) (n c : Nat) (w : World) (h : Bytes w A n c) :
    Calls Try.prog 24 #[.slice A n c] w (DrawnAi w) := by
  go_enter Try.func24, Try.ntmps24
  go_wp2_with fail
  refine (l4Case_any A n c _ (bytes_below h (below_alloc (Below.refl _ _) _))).mono ?_
  rintro e w1 ⟨lim, each, A1, n1, c1, us, x, b, rfl, hn1, hx, hb2, ho, hb⟩
  obtain ⟨⟨o0, o1, o2⟩, f0, f1, f2⟩ := blk_three (blk_below (blk_new w 25 #[.int .i64 0, .int .i64 0, (.slice none 0 0)]) hb (by simp))
  have HO := Lib.hid ho
  have HX := Lib.hid hx
  have z1 := hb.size
  simp at z1
  have y1 : w.heap.size < w1.heap.size := by omega
  have BW := Lib.hid (below_from (below_alloc (Below.refl w.heap.size w) _) hb (by simp))
  clear ho hb hx hb2
  go_wp2
  refine bodyPost_ret (v := .tuple #[.agg #[.int .i64 lim, .int .i64 each, (.slice A1 n1 c1)], .int .i64 x]) (by simp [results, Try.results24, go_sem, o0, o1, o2, y1]) rfl ⟨lim, each, A1, n1, c1, us, x, rfl, hn1, HX.out, ?_, ?_⟩
  · exact own_mono ((own_set_far (own_set_far (own_set_far HO.out (by simp) _) (by simp) _) (by simp) _).alloc _) (by simp)
  · exact below_alloc (Below.setCell (Below.setCell (Below.setCell BW.out (by simp) _) (by simp) _) (by simp) _) _
def DrawnA1 (w : World) (e : Ending) (w' : World) : Prop :=
  ∃ lim each A n c us, e = .returned (.agg #[.int .i64 lim, .int .i64 each, (.slice A n c)]) ∧ n ≤ 8 ∧ w'.ownsRow w.heap.size 3 1 (.slice A n c) n (icells us) ∧ Below w.heap.size w w'
set_option maxHeartbeats 400000 in
theorem drawOverShare_any (A : Option Addr) (n c : Nat) (w : World) (h : Bytes w A n c) :
    Calls Try.prog 30 #[.slice A n c] w (DrawnA1 w) := by
  go_enter Try.func30, Try.ntmps30
  go_wp2_with fail
  refine (l4Case_any A n c _ (bytes_below h (below_alloc (Below.refl _ _) _))).mono ?_
  rintro e w1 ⟨lim, each, A1, n1, c1, us, x, b, rfl, hn1, hx, hb2, ho, hb⟩
  obtain ⟨⟨o0, o1, o2⟩, f0, f1, f2⟩ := blk_three (blk_below (blk_new w 25 #[.int .i64 0, .int .i64 0, (.slice none 0 0)]) hb (by simp))
  have HO := Lib.hid ho
  have z1 := hb.size
  simp at z1
  have y1 : w.heap.size < w1.heap.size := by omega
  have BW := Lib.hid (below_from (below_alloc (Below.refl w.heap.size w) _) hb (by simp))
  clear ho hb hx hb2
  go_wp2
  refine bodyPost_ret (v := .agg #[.int .i64 lim, .int .i64 each, (.slice A1 n1 c1)]) (by simp [results, Try.results30, go_sem, o0, o1, o2, y1]) rfl ⟨lim, each, A1, n1, c1, us, rfl, hn1, ?_, ?_⟩
  · exact own_mono ((own_set_far (own_set_far (own_set_far HO.out (by simp) _) (by simp) _) (by simp) _).alloc _) (by simp)
  · exact below_alloc (Below.setCell (Below.setCell (Below.setCell BW.out (by simp) _) (by simp) _) (by simp) _) _
set_option maxHeartbeats 400000 in
theorem drawNewAccount_any (A : Option Addr) (n c : Nat) (w : World) (h : Bytes w A n c) :
    Calls Try.prog 33 #[.slice A n c] w fun e w' => ∃ a b : Int, e = .returned (.tuple #[.int .i64 a, .int .i64 b]) ∧ (0 ≤ a ∧ a ≤ 5001) ∧ (0 ≤ b ∧ b ≤ 101) ∧ Below w.heap.size w w' := by
  go_enter Try.func33, Try.ntmps33
  go_wp2_with fail
  refine (open_any A n c _ h).mono ?_
  rintro e w1 ⟨g, rfl, hg, hb, hr⟩
  have B1 := Lib.hid hb
  have HR := Lib.hid hr
  have zg1 := rd_lt hr
  have hz1 := hb.size
  clear hb hr h
  go_wp2_with fail
  refine (num_lit g _ _ 5 _ _ [100, 1, 5000, 0, 5001] _ HR.out (by omega) (by simp) (by decide) rfl).mono ?_
  rintro e w2 ⟨a, ha, rfl, hg2, hr2⟩
  have HA := Lib.hid (show 0 ≤ a ∧ a ≤ 5001 by simp only [List.mem_cons, List.not_mem_nil, or_false] at ha; omega)
  have B2 := Lib.hid (below_grown B1.out (by omega) hg2 (by omega))
  have hz2 := hg2.size
  have HR2 := Lib.hid hr2
  clear ha hg2 hr2 B1 HR
  go_wp2_with fail
  refine (num_lit g _ _ 5 _ _ [50, 1, 100, 0, 101] _ HR2.out (by omega) (by simp) (by decide) rfl).mono ?_
  rintro e w3 ⟨b, hb, rfl, hg3, -⟩
  have HB := Lib.hid (show 0 ≤ b ∧ b ≤ 101 by simp only [List.mem_cons, List.not_mem_nil, or_false] at hb; omega)
  have B3 := Lib.hid (below_grown B2.out (by omega) hg3 (by omega))
  clear hb hg3 HR2 B2
  go_wp2
  go_ret2
  exact ⟨a, b, rfl, HA.out, HB.out, B3.out⟩
structure FD (w : World) (g Q base : Nat) (A : Option Addr) (m c : Nat) (xs : List Int) (wr : World) : Prop where
  own : wr.ownsRow base 3 1 (.slice A m c) m (icells xs)
  rd : RdAt wr g Q
  bel : Below w.heap.size w wr
  hg : g < base
  hw : w.heap.size ≤ g
  hs : base ≤ wr.heap.size
section
variable {w w1 w2 : World} {g Q Q2 base : Nat} {A : Option Addr} {m c : Nat} {xs : List Int}
theorem fd_grown (h : FD w g Q base A m c xs w1) (hg : w1.grownBy w2 (some g)) (hr : RdAt w2 g Q2) : FD w g Q2 base A m c xs w2 :=
  ⟨own_farI h.own hg h.hg, hr, below_grown h.bel (by have := h.bel.size; omega) hg h.hw, h.hg, h.hw, Nat.le_trans h.hs hg.size⟩
theorem fd_app {A2 : Option Addr} {m2 c2 : Nat} {ys : List Int} {o : Obj} (h : FD w g Q base A m c xs w1) (hg : (w1.alloc o).grownBy w2 (Value.ownBlock (.slice A m c))) (ho : w2.ownsRow base 3 1 (.slice A2 m2 c2) m2 (icells ys)) : FD w g Q base A2 m2 c2 ys w2 := by
  have hlt : ∀ j, Value.ownBlock (.slice A m c) = some j → base ≤ j := fun j hj => (h.own.lt j hj).1
  have hgb := h.hg
  have hwb := h.hw
  refine ⟨ho, ?_, (h.bel.alloc h.bel.size o).grown hg (by have := h.bel.size; simp; omega) (fun j hj => by have := hlt j hj; omega), hgb, hwb, Nat.le_trans h.hs (by have := hg.size; simp at this; omega)⟩
  rcases hv : Value.ownBlock (.slice A m c) with _ | j
  · rw [hv] at hg
    exact rd_below (rd_alloc h.rd o) ⟨hg.os, hg.tape, hg.output, hg.size, fun i hi => hg.block i hi (by simp)⟩
  · rw [hv] at hg; exact rd_new (rd_alloc h.rd o) hg (by have := hlt j hv; omega)
end
/-- numbers and a number of bytes -/
def DrawnL (w : World) (e : Ending) (w' : World) : Prop :=
  ∃ A n c ws, ∃ b : Int, e = .returned (.tuple #[.slice A n c, .int .i64 b]) ∧ n ≤ 7 ∧ (-1 ≤ b ∧ b ≤ 5001) ∧ w'.ownsRow w.heap.size 3 1 (.slice A n c) n (icells ws) ∧ Below w.heap.size w w'
def FDRel (w : World) (g base k0 : Nat) (wv i : Value) (wr : World) : Prop :=
  ∃ (k m : Nat) (A : Option Addr) (c : Nat) (xs : List Int), m + k = k0 ∧ i = .int .i64 (k : Int) ∧ wv = .slice A m c ∧ FD w g (20 - k) base A m c xs wr
theorem rounds_in2 {x : Int} (h : x ∈ [4, 3, 2, 6, 1, 0]) : ∃ k : Nat, x = (k : Int) ∧ k ≤ 6 := by
  simp only [List.mem_cons, List.not_mem_nil, or_false] at h
  exact ⟨x.toNat, by omega, by omega⟩
theorem sbytes_in {x : Int} (h : x ∈ [20, 10, 60, 5, 0, 200, 1, -1, 5001]) : -1 ≤ x ∧ x ≤ 5001 := by
  simp only [List.mem_cons, List.not_mem_nil, or_false] at h; omega
set_option maxHeartbeats 2000000 in
theorem drawFairShares_any (A : Option Addr) (n c : Nat) (w : World) (h : Bytes w A n c) :
    Calls Try.prog 26 #[.slice A n c] w (DrawnL w) := by
  go_enter Try.func26, Try.ntmps26
  go_wp2_with fail
  refine (open_any A n c _ h).mono ?_
  rintro e w1 ⟨g, rfl, hg, hb, hr⟩
  have zg1 := rd_lt hr
  have hz1 := hb.size
  have D1 : Hid (FD w g 0 w1.heap.size (some ⟨w1.heap.size, 0, none⟩) 0 0 [] (w1.alloc (.cells #[] 3))) := Lib.hid ⟨own_emptyI rfl, rd_alloc hr _, below_alloc hb _, zg1, by omega, by simp⟩
  clear hb hr h
  go_wp2_with fail
  refine (num_lit g _ _ 6 _ _ [4, 3, 2, 6, 1, 0] _ D1.out.rd (by omega) (by simp) (by decide) rfl).mono ?_
  rintro e w2 ⟨i, hi, rfl, hg2, hr2⟩
  obtain ⟨k0, rfl, hk6⟩ := rounds_in2 hi
  have R0 : Hid (FDRel w g w1.heap.size k0 (.slice (some ⟨w1.heap.size, 0, none⟩) 0 0) (.int .i64 (k0 : Int)) w2) := Lib.hid ⟨k0, 0, _, 0, [], by omega, rfl, rfl, fd_grown D1.out hg2 (rd_more hr2 (by omega))⟩
  clear hi hg2 hr2 D1
  go_wp2
  go_loopw [5, 6] (fun wv i wr => FDRel w g w1.heap.size k0 wv i wr) (fun _ i _ => (intOf i).toNat)
  case atStart => exact R0.out
  case round =>
    obtain ⟨k, m, A, c, xs, hmk, rfl, rfl, hD⟩ := hrel
    clear R0
    have HD := Lib.hid hD
    have hbs := hD.hs
    clear hD
    by_cases hlt : 0 < k
    · have hkz : (0 : Int) < (k : Int) := by omega
      go_wp2_with fail
      refine (num_lit g _ _ 7 _ _ [10, 0, 3, 50, 100, 7, 1] _ HD.out.rd (by omega) (by simp) (by decide) rfl).mono ?_
      rintro e w3 ⟨x, -, rfl, hg3, hr3⟩
      have D3 := Lib.hid (fd_grown HD.out hg3 hr3)
      have z3 := D3.out.hs
      clear hg3 hr3
      go_wp2_with (at_builtin
                   refine wpl_app_ints _ rfl (.tmp 17) (.tmp 21) rfl w1.heap.size (.slice A m c) m xs rfl (D3.out.own.alloc _) (some ⟨w3.heap.size, 0, none⟩) 1 1 [x] rfl (int_single (blk_at (by simp) _ _)) (by omega) (by simp; omega) ?_
                   intro v7 w7 ho7 hg7 hat7
                   obtain ⟨A7, c7, rfl, -, -, -⟩ := own_form ho7
                   have D7 := Lib.hid (fd_app D3.out hg7 ho7)
                   clear hg7 ho7 hat7)
      go_roundw
      case rel => exact ⟨k - 1, m + 1, A7, c7, xs ++ [x], by omega, congrArg (Value.int .i64) (by omega), rfl, ⟨D7.out.own, rd_more D7.out.rd (by omega), D7.out.bel, D7.out.hg, D7.out.hw, D7.out.hs⟩⟩
      case measure => simp [intOf]; omega
    · obtain rfl : k = 0 := by omega
      clear hlt
      go_wp2_with fail
      refine (pick_any g _ _ _ HD.out.rd (by omega) (by omega)).mono ?_
      rintro e w3 ⟨j, rfl, hj, hg3, hr3⟩
      have D3 := Lib.hid (fd_grown HD.out hg3 hr3)
      have z3 := D3.out.hs
      clear hg3 hr3
      by_cases hj0 : j = 0
      · subst hj0
        go_wp2_with fail
        refine (num_lit g _ _ 2 _ _ [-1, 5001] _ D3.out.rd (by omega) (by simp) (by decide) rfl).mono ?_
        rintro e w4 ⟨x, -, rfl, hg4, hr4⟩
        have D4 := Lib.hid (fd_grown D3.out hg4 hr4)
        have z4 := D4.out.hs
        clear hg4 hr4
        go_wp2_with (at_builtin
                     refine wpl_app_ints _ rfl (.tmp 26) (.tmp 30) rfl w1.heap.size (.slice A m c) m xs rfl (D4.out.own.alloc _) (some ⟨w4.heap.size, 0, none⟩) 1 1 [x] rfl (int_single (blk_at (by simp) _ _)) (by omega) (by simp; omega) ?_
                     intro v7 w7 ho7 hg7 hat7
                     obtain ⟨A7, c7, rfl, -, -, -⟩ := own_form ho7
                     have D7 := Lib.hid (fd_app D4.out hg7 ho7)
                     clear hg7 ho7 hat7)
        refine (num_lit g _ _ 9 _ _ [20, 10, 60, 5, 0, 200, 1, -1, 5001] _ D7.out.rd (by omega) (by simp) (by decide) rfl).mono ?_
        rintro e w8 ⟨b, hb, rfl, hg8, hr8⟩
        have HB := Lib.hid (sbytes_in hb)
        have D8 := Lib.hid (fd_grown D7.out hg8 hr8)
        clear hb hg8 hr8
        go_wp2
        go_ret2
        exact ⟨A7, m + 1, c7, _, b, rfl, by omega, HB.out, own_mono D8.out.own (by omega), D8.out.bel⟩
      · have e0 : ((j : Int) == 0) = false := by simp; omega
        clear hj0
        go_wp2_with fail
        refine (num_lit g _ _ 9 _ _ [20, 10, 60, 5, 0, 200, 1, -1, 5001] _ D3.out.rd (by omega) (by simp) (by decide) rfl).mono ?_
        rintro e w8 ⟨b, hb, rfl, hg8, hr8⟩
        have HB := Lib.hid (sbytes_in hb)
        have D8 := Lib.hid (fd_grown D3.out hg8 hr8)
        clear hb hg8 hr8
        go_wp2
        go_ret2
        exact ⟨A, m, c, _, b, rfl, by omega, HB.out, own_mono D8.out.own (by omega), D8.out.bel⟩
end Go.Proofs.Ytkbjelchihdajaa
