/-
  Chapter 3: DropPeer: what the model returns. Conditions: the slice has at most 4000000000 packets.
-/
import Derived.Test.YtapoahoknlaeaabQ6
namespace Go.Proofs.Ytapoahoknlaeaab
open Go.RowKit

theorem inB_no {x : Int} (h : inB x 0 7 = false) : x < 0 ∨ 8 ≤ x := by
  simp only [inB, decide_eq_false_iff_not] at h; omega
theorem inB_of {x : Int} (h : inB x 0 7 = true) : 0 ≤ x ∧ x ≤ 7 := by simpa [inB] using h
set_option maxHeartbeats 1000000 in
theorem dropS_no (lim : Int) (A : Option Addr) (n c : Nat) (ps : List Pkt) (x : Int) (w : World) (h : PR w A n ps) (hn : n ≤ 4000000000) (hk : dropOk lim ps x = false) :
    Calls Try.prog 16 #[.agg #[.int .i64 lim, (.slice A n c)], .int .i64 x] w (QPostL w 0 [] [] false) := by
  have F := Lib.hid (fr_drop h lim c)
  clear h
  rcases drop_no hk with hq | ⟨hq, hx⟩
  · have HQ := Lib.hid hq
    clear hq hk
    go_enter Try.func16, Try.ntmps16
    go_wp2_with fail
    refine (qvS_any lim A n c ps _ F.out.pr (by omega)).mono ?_
    rintro e w1 ⟨rfl, hb⟩
    rw [HQ.out]
    replace F := Lib.hid (fr_below F.out hb)
    have z1 := F.out.lt
    simp [dropBs] at z1
    have y1 : w.heap.size < w1.heap.size := by omega
    have y2 : w.heap.size + 1 < w1.heap.size := by omega
    clear hb
    have F0c0 : World.cell? w1 ⟨w.heap.size, 0, none⟩ = some (.int .i64 lim) := blk_cell (F.out.it 0 _ _ rfl) 0
    have F0f0 : World.frozen? w1 ⟨w.heap.size, 0, none⟩ = false := blk_free (F.out.it 0 _ _ rfl) 0
    have F0c1 : World.cell? w1 ⟨w.heap.size, 1, none⟩ = some ((.slice A n c)) := blk_cell (F.out.it 0 _ _ rfl) 1
    have F0f1 : World.frozen? w1 ⟨w.heap.size, 1, none⟩ = false := blk_free (F.out.it 0 _ _ rfl) 1
    have F1c0 : World.cell? w1 ⟨w.heap.size + 1, 0, none⟩ = some (.int .i64 0) := blk_cell (F.out.it 1 _ _ rfl) 0
    have F1f0 : World.frozen? w1 ⟨w.heap.size + 1, 0, none⟩ = false := blk_free (F.out.it 1 _ _ rfl) 0
    have F1c1 : World.cell? w1 ⟨w.heap.size + 1, 1, none⟩ = some ((.slice none 0 0)) := blk_cell (F.out.it 1 _ _ rfl) 1
    have F1f1 : World.frozen? w1 ⟨w.heap.size + 1, 1, none⟩ = false := blk_free (F.out.it 1 _ _ rfl) 1
    go_wp2
    refine bodyPost_ret (v := .tuple #[.agg #[.int .i64 0, (.slice none 0 0)], .slice (some ⟨w1.heap.size, 0, none⟩) 0 0, .bool false]) (by simp [results, Try.results16, go_sem, F1c0, F1c1, y2]) rfl (qpostl_mk rfl (World.ownsRow_nil _ _ _ _) (gs := []) ?_ (fun b e => by cases e) ?_)
    · exact own_mono (own_emptyQ (by simp)) (by simp; omega)
    · exact below_alloc (Below.setCell (Below.setCell F.out.below (by simp) _) (by simp) _) _
  · have HQ := Lib.hid hq
    have hx' := inB_no hx
    clear hq hk hx
    by_cases h0 : x < 0
    · clear hx'
      go_enter Try.func16, Try.ntmps16
      go_wp2_with fail
      refine (qvS_any lim A n c ps _ F.out.pr (by omega)).mono ?_
      rintro e w1 ⟨rfl, hb⟩
      rw [HQ.out]
      replace F := Lib.hid (fr_below F.out hb)
      have z1 := F.out.lt
      simp [dropBs] at z1
      have y1 : w.heap.size < w1.heap.size := by omega
      have y2 : w.heap.size + 1 < w1.heap.size := by omega
      clear hb
      have F0c0 : World.cell? w1 ⟨w.heap.size, 0, none⟩ = some (.int .i64 lim) := blk_cell (F.out.it 0 _ _ rfl) 0
      have F0f0 : World.frozen? w1 ⟨w.heap.size, 0, none⟩ = false := blk_free (F.out.it 0 _ _ rfl) 0
      have F0c1 : World.cell? w1 ⟨w.heap.size, 1, none⟩ = some ((.slice A n c)) := blk_cell (F.out.it 0 _ _ rfl) 1
      have F0f1 : World.frozen? w1 ⟨w.heap.size, 1, none⟩ = false := blk_free (F.out.it 0 _ _ rfl) 1
      have F1c0 : World.cell? w1 ⟨w.heap.size + 1, 0, none⟩ = some (.int .i64 0) := blk_cell (F.out.it 1 _ _ rfl) 0
      have F1f0 : World.frozen? w1 ⟨w.heap.size + 1, 0, none⟩ = false := blk_free (F.out.it 1 _ _ rfl) 0
      have F1c1 : World.cell? w1 ⟨w.heap.size + 1, 1, none⟩ = some ((.slice none 0 0)) := blk_cell (F.out.it 1 _ _ rfl) 1
      have F1f1 : World.frozen? w1 ⟨w.heap.size + 1, 1, none⟩ = false := blk_free (F.out.it 1 _ _ rfl) 1
      go_wp2
      refine bodyPost_ret (v := .tuple #[.agg #[.int .i64 0, (.slice none 0 0)], .slice (some ⟨w1.heap.size, 0, none⟩) 0 0, .bool false]) (by simp [results, Try.results16, go_sem, F1c0, F1c1, y2]) rfl (qpostl_mk rfl (World.ownsRow_nil _ _ _ _) (gs := []) ?_ (fun b e => by cases e) ?_)
      · exact own_mono (own_emptyQ (by simp)) (by simp; omega)
      · exact below_alloc (Below.setCell (Below.setCell F.out.below (by simp) _) (by simp) _) _
    · have e0 : decide (x < 0) = false := by simp; omega
      have h8 : 8 ≤ x := by omega
      clear h0 hx'
      go_enter Try.func16, Try.ntmps16
      go_wp2_with fail
      refine (qvS_any lim A n c ps _ F.out.pr (by omega)).mono ?_
      rintro e w1 ⟨rfl, hb⟩
      rw [HQ.out]
      replace F := Lib.hid (fr_below F.out hb)
      have z1 := F.out.lt
      simp [dropBs] at z1
      have y1 : w.heap.size < w1.heap.size := by omega
      have y2 : w.heap.size + 1 < w1.heap.size := by omega
      clear hb
      have F0c0 : World.cell? w1 ⟨w.heap.size, 0, none⟩ = some (.int .i64 lim) := blk_cell (F.out.it 0 _ _ rfl) 0
      have F0f0 : World.frozen? w1 ⟨w.heap.size, 0, none⟩ = false := blk_free (F.out.it 0 _ _ rfl) 0
      have F0c1 : World.cell? w1 ⟨w.heap.size, 1, none⟩ = some ((.slice A n c)) := blk_cell (F.out.it 0 _ _ rfl) 1
      have F0f1 : World.frozen? w1 ⟨w.heap.size, 1, none⟩ = false := blk_free (F.out.it 0 _ _ rfl) 1
      have F1c0 : World.cell? w1 ⟨w.heap.size + 1, 0, none⟩ = some (.int .i64 0) := blk_cell (F.out.it 1 _ _ rfl) 0
      have F1f0 : World.frozen? w1 ⟨w.heap.size + 1, 0, none⟩ = false := blk_free (F.out.it 1 _ _ rfl) 0
      have F1c1 : World.cell? w1 ⟨w.heap.size + 1, 1, none⟩ = some ((.slice none 0 0)) := blk_cell (F.out.it 1 _ _ rfl) 1
      have F1f1 : World.frozen? w1 ⟨w.heap.size + 1, 1, none⟩ = false := blk_free (F.out.it 1 _ _ rfl) 1
      go_wp2
      refine bodyPost_ret (v := .tuple #[.agg #[.int .i64 0, (.slice none 0 0)], .slice (some ⟨w1.heap.size, 0, none⟩) 0 0, .bool false]) (by simp [results, Try.results16, go_sem, F1c0, F1c1, y2]) rfl (qpostl_mk rfl (World.ownsRow_nil _ _ _ _) (gs := []) ?_ (fun b e => by cases e) ?_)
      · exact own_mono (own_emptyQ (by simp)) (by simp; omega)
      · exact below_alloc (Below.setCell (Below.setCell F.out.below (by simp) _) (by simp) _) _
structure DS (w : World) (L : Nat) (lim : Int) (A : Option Addr) (n c : Nat) (ps : List Pkt) (Av : Option Addr) (m cv : Nat) (rs : List Pkt) (w' : World) : Prop where
  fr : Fr w (dropBs lim A n c) A n ps w'
  l : Blk w' L 25 #[.int .i64 lim, .slice Av m cv]
  own : w'.ownsRow (w.heap.size + 2) 51 4 (.slice Av m cv) m (pcells rs)
  ne : Value.ownBlock (.slice Av m cv) ≠ some L
  hL : w.heap.size + 2 ≤ L
section
variable {w w1 w2 : World} {L : Nat} {lim : Int} {A : Option Addr} {n c : Nat} {ps : List Pkt} {Av : Option Addr} {m cv : Nat} {rs : List Pkt}
theorem ds_alloc (h : DS w L lim A n c ps Av m cv rs w1) (o : Obj) : DS w L lim A n c ps Av m cv rs (w1.alloc o) := ⟨fr_alloc h.fr o, blk_alloc h.l o, h.own.alloc o, h.ne, h.hL⟩
theorem ds_drew (h : DS w L lim A n c ps Av m cv rs w1) : DS w L lim A n c ps Av m cv rs w1.drew := ⟨fr_drew h.fr, h.l, h.own, h.ne, h.hL⟩
theorem ds_below (h : DS w L lim A n c ps Av m cv rs w1) (hb : Below w1.heap.size w1 w2) : DS w L lim A n c ps Av m cv rs w2 := ⟨fr_below h.fr hb, blk_below h.l hb (blk_lt h.l), own_below h.own hb, h.ne, h.hL⟩
theorem ds_next {A2 : Option Addr} {m2 c2 : Nat} {rs2 : List Pkt} (h : DS w L lim A n c ps Av m cv rs w1)
    (hg : w1.grownBy w2 (Value.ownBlock (.slice Av m cv))) (ho : w2.ownsRow (w.heap.size + 2) 51 4 (.slice A2 m2 c2) m2 (pcells rs2)) (hne : Value.ownBlock (.slice A2 m2 c2) ≠ some L) : DS w L lim A n c ps A2 m2 c2 rs2 (w2.setCell ⟨L, 1, none⟩ (.slice A2 m2 c2)) := by
  have hr : ∀ g, Value.ownBlock (.slice Av m cv) = some g → w.heap.size + 2 ≤ g := fun g hg => (h.own.lt g hg).1
  have hL := h.hL
  exact ⟨fr_set (fr_grown h.fr hg (fun g e => by have := hr g e; simp [dropBs]; omega)) (by simp [dropBs]; omega) _, blk_set (blk_grownQ h.l hg (fun e => h.ne e.symm)) 1 _, own_set_ne ho hne _, hne, hL⟩
end
structure DT (w : World) (L : Nat) (lim : Int) (A : Option Addr) (n c : Nat) (ps : List Pkt) (Av : Option Addr) (m cv : Nat) (rs : List Pkt) (w' : World) : Prop where
  fr : Fr w [(25, #[.int .i64 lim, (.slice A n c)])] A n ps w'
  l : Blk w' L 25 #[.int .i64 lim, .slice Av m cv]
  own : w'.ownsRow (w.heap.size + 2) 51 4 (.slice Av m cv) m (pcells rs)
  hL : w.heap.size + 2 ≤ L
section
variable {w w1 w2 : World} {L : Nat} {lim : Int} {A : Option Addr} {n c : Nat} {ps : List Pkt} {Av : Option Addr} {m cv : Nat} {rs : List Pkt}
theorem dt_ds (h : DS w L lim A n c ps Av m cv rs w1) : DT w L lim A n c ps Av m cv rs w1.drew := ⟨fr_drew (fr_first h.fr), h.l, h.own, h.hL⟩
theorem dt_below (h : DT w L lim A n c ps Av m cv rs w1) (hb : Below w1.heap.size w1 w2) : DT w L lim A n c ps Av m cv rs w2 := ⟨fr_below h.fr hb, blk_below h.l hb (blk_lt h.l), own_below h.own hb, h.hL⟩
theorem dt_set (h : DT w L lim A n c ps Av m cv rs w1) (k : Nat) (u : Value) : DT w L lim A n c ps Av m cv rs (w1.setCell ⟨w.heap.size + 1, k, none⟩ u) :=
  ⟨fr_set h.fr (by simp) u, blk_far h.l (by have := h.hL; simp; omega) u, own_set_far h.own (by simp) u, h.hL⟩
theorem dt_cells (h : DT w L lim A n c ps Av m cv rs w1) : w1.cell? ⟨w.heap.size, 0, none⟩ = some (.int .i64 lim) ∧ w1.cell? ⟨w.heap.size, 1, none⟩ = some (.slice A n c) ∧ w1.cell? ⟨L, 0, none⟩ = some (.int .i64 lim) ∧ w1.cell? ⟨L, 1, none⟩ = some (.slice Av m cv) ∧ DT w L lim A n c ps Av m cv rs w1 :=
  ⟨blk_cell (h.fr.it 0 _ _ rfl) 0, blk_cell (h.fr.it 0 _ _ rfl) 1, blk_cell h.l 0, blk_cell h.l 1, h⟩
end
def DSRel (w : World) (L : Nat) (lim : Int) (A : Option Addr) (n c : Nat) (ps : List Pkt) (x : Int) (i : Value) (wr : World) : Prop :=
  ∃ (k m : Nat) (Av : Option Addr) (cv : Nat), k ≤ n ∧ m ≤ k ∧ i = .int .i64 (k : Int) ∧ DS w L lim A n c ps Av m cv (restOf (ps.take k) x) wr
set_option maxHeartbeats 1000000 in
theorem dropS_yes (lim : Int) (A : Option Addr) (n c : Nat) (ps : List Pkt) (x : Int) (w : World) (h : PR w A n ps) (hn : n ≤ 4000000000) (hk : dropOk lim ps x = true) :
    Calls Try.prog 16 #[.agg #[.int .i64 lim, (.slice A n c)], .int .i64 x] w (QPostL w lim (restOf ps x) (ofPeer ps x) true) := by
  have F := Lib.hid (fr_drop h lim c)
  obtain ⟨hq, hx⟩ := drop_of hk
  obtain ⟨x0, x7⟩ := inB_of hx
  have HQ := Lib.hid hq
  have HL := Lib.hid h.1
  have e0 : decide (x < 0) = false := by simp; omega
  have e8 : decide (8 ≤ x) = false := by simp; omega
  clear h hk hq hx
  go_enter Try.func16, Try.ntmps16
  go_wp2_with fail
  refine (qvS_any lim A n c ps _ F.out.pr (by omega)).mono ?_
  rintro e w1 ⟨rfl, hb⟩
  rw [HQ.out]
  replace F := Lib.hid (fr_below F.out hb)
  have z1 := F.out.lt
  simp [dropBs] at z1
  have y1 : w.heap.size < w1.heap.size := by omega
  have y2 : w.heap.size + 1 < w1.heap.size := by omega
  clear hb
  have F0c0 : World.cell? w1 ⟨w.heap.size, 0, none⟩ = some (.int .i64 lim) := blk_cell (F.out.it 0 _ _ rfl) 0
  have F0f0 : World.frozen? w1 ⟨w.heap.size, 0, none⟩ = false := blk_free (F.out.it 0 _ _ rfl) 0
  have F0c1 : World.cell? w1 ⟨w.heap.size, 1, none⟩ = some ((.slice A n c)) := blk_cell (F.out.it 0 _ _ rfl) 1
  have F0f1 : World.frozen? w1 ⟨w.heap.size, 1, none⟩ = false := blk_free (F.out.it 0 _ _ rfl) 1
  have F1c0 : World.cell? w1 ⟨w.heap.size + 1, 0, none⟩ = some (.int .i64 0) := blk_cell (F.out.it 1 _ _ rfl) 0
  have F1f0 : World.frozen? w1 ⟨w.heap.size + 1, 0, none⟩ = false := blk_free (F.out.it 1 _ _ rfl) 0
  have F1c1 : World.cell? w1 ⟨w.heap.size + 1, 1, none⟩ = some ((.slice none 0 0)) := blk_cell (F.out.it 1 _ _ rfl) 1
  have F1f1 : World.frozen? w1 ⟨w.heap.size + 1, 1, none⟩ = false := blk_free (F.out.it 1 _ _ rfl) 1
  have R0 : Hid (DSRel w (w1.heap.size + 1) lim A n c ps x (.int .i64 0) ((w1.alloc (.cells #[] 51)).alloc (.cells #[.int .i64 lim, (.slice (some ⟨w1.heap.size, 0, none⟩) 0 0)] 25))) :=
    Lib.hid ⟨0, 0, some ⟨w1.heap.size, 0, none⟩, 0, Nat.zero_le _, Nat.le_refl _, rfl, fr_alloc (fr_alloc F.out _) _, blk_new2 w1 _ _ _, own_mono ((own_emptyQ rfl).alloc _) (by omega), by simp [Value.ownBlock], by omega⟩
  go_wp2
  clear F0c0 F0f0 F0c1 F0f1 F1c0 F1f0 F1c1 F1f1
  go_loopw [8] (fun i wr => DSRel w (w1.heap.size + 1) lim A n c ps x i wr) (fun i _ => n - (intOf i).toNat)
  case atStart => exact R0.out
  case round =>
    obtain ⟨k, m, Av, cv, hk, hm, rfl, hD⟩ := hrel
    clear R0 F
    have HD := Lib.hid hD
    have q0 : wr.cell? ⟨w.heap.size, 0, none⟩ = some (.int .i64 lim) := blk_cell (hD.fr.it 0 _ _ rfl) 0
    have q1 : wr.cell? ⟨w.heap.size, 1, none⟩ = some (.slice A n c) := blk_cell (hD.fr.it 0 _ _ rfl) 1
    by_cases hlt : k < n
    · obtain ⟨b, off, p, rfl, hb, hp, c0, c1, c2, c3⟩ := pr_at hD.fr.pr hlt
      have HP := Lib.hid hp
      obtain ⟨l0, l1, g0, g1⟩ := blk_two hD.l
      have zb := blk_lt hD.l
      have i0 : (0 : Int) ≤ (k : Int) := by omega
      have i1 : (k : Int) < (n : Int) := by omega
      clear hD hp
      by_cases hx : p.peer = x
      · have hxn : (p.peer != x) = false := by simp [hx]
        have HX := Lib.hid hx
        clear hx
        go_wp2
        go_roundw
        case rel => exact ⟨k + 1, m, Av, cv, by omega, by omega, by go_num, by rw [restOf_hit HP.out HX.out]; exact HD.out⟩
        case measure => simp [intOf]; omega
      · have hxn : (p.peer != x) = true := by simp [hx]
        have HX := Lib.hid hx
        have HDd := Lib.hid (ds_drew HD.out)
        clear hx
        go_wp2_with fail
        go_region_law (first
          | (refine step_app_pkts _ rfl (.tmp 42) (.tmp 48) rfl (w.heap.size + 2) (.slice Av m cv) m _ rfl (HDd.out.own.alloc _) (some ⟨wr.heap.size, 0, none⟩) 1 1 [p] rfl (pr_single (blk_at rfl _ _)) (by omega) (by simp; omega) ?_
             intro v4 w4 ho4 hg4 hat4
             obtain ⟨l0', l1', g0', g1'⟩ := blk_two (blk_grownQ (ds_alloc HDd.out _).l hg4 (fun e => HDd.out.ne e.symm))
             obtain ⟨A4, c4, rfl, -, -, -⟩ := own_form ho4
             have D4 := Lib.hid (ds_next (ds_alloc HDd.out _) hg4 ho4 (by
               rcases hat4 with e | e
               · rw [e]; exact HDd.out.ne
               · rw [e]; simp; omega))
             clear hg4 ho4 hat4))
        all_goals
          clear l0 l1 g0 g1 c0 c1 c2 c3
          go_wp2
          go_roundw
          case rel => exact ⟨k + 1, m + 1, A4, c4, by omega, by omega, by go_num, by rw [restOf_miss HP.out HX.out]; exact D4.out⟩
          case measure => simp [intOf]; omega
    · obtain rfl : k = n := by omega
      have HE := Lib.hid (dt_ds hD)
      have O1 := Lib.hid (show Blk wr.drew (w.heap.size + 1) 25 #[.int .i64 0, (.slice none 0 0)] from hD.fr.it 1 _ _ rfl)
      have e1 : restOf (ps.take k) x = restOf ps x := by rw [List.take_of_length_le (by have := HL.out; omega)]
      rw [e1] at HE
      have zk := hD.hL
      have zr := blk_lt hD.l
      have hS := dt_cells HE.out
      clear hD HD e1
      go_wp2_with fail
      go_region_held3 (fun w' => w'.cell? ⟨w.heap.size, 0, none⟩ = some (.int .i64 lim) ∧ w'.cell? ⟨w.heap.size, 1, none⟩ = some (.slice A k c) ∧ w'.cell? ⟨w1.heap.size + 1, 0, none⟩ = some (.int .i64 lim) ∧ w'.cell? ⟨w1.heap.size + 1, 1, none⟩ = some (.slice Av m cv) ∧ DT w (w1.heap.size + 1) lim A k c ps Av m cv (restOf ps x) w')
        (first
          | (with_reducible assumption)
          | (with_reducible exact dt_cells (dt_set (dt_set hS5.2.2.2.2 _ _) _ _))
          | fail)
        (first
          | (go_at_call 50
             refine (ofS_any A k c ps x _ HE.out.fr.pr hn).mono ?_
             rintro e w5 ⟨A5, n5, c5, rfl, h5a, h5b, h5c, h5d, h5e⟩
             have hS5 := dt_cells (dt_below HE.out h5e)
             obtain ⟨o0, o1, f0, f1⟩ := blk_two (blk_below O1.out h5e (by simp; omega))
             have HO5 := Lib.hid h5d
             have z5 := h5e.size
             clear h5a h5b h5c h5d h5e))
      all_goals
        have HX := Lib.hid hS5.2.2.2.2
        clear hS5
        go_wp2
        refine bodyPost_ret (v := .tuple #[.agg #[.int .i64 lim, (.slice Av m cv)], .slice A5 n5 c5, .bool true]) (by simp [results, Try.results16, go_sem, o0, o1]) rfl (qpostl_mk rfl ?_ ?_ ?_ ?_)
        · exact own_mono (dt_set (dt_set HX.out _ _) _ _).own (by omega)
        · exact own_mono (own_set_far (own_set_far HO5.out (by simp; omega) _) (by simp; omega) _) (by simp; omega)
        · intro b' e' e2
          have h1 := (HE.out.own.lt b' e').2
          have h2 := (HO5.out.lt b' e2).1
          omega
        · exact (dt_set (dt_set HX.out _ _) _ _).fr.below
end Go.Proofs.Ytapoahoknlaeaab
