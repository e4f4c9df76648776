/-
  Chapter 3: PopFront: what the model returns. Conditions: the slice has at most 4000000000 packets.
-/
import Derived.Test.YtapoahoknlaeaabQ4
namespace Go.Proofs.Ytapoahoknlaeaab
open Go.RowKit

theorem frH {w w1 : World} {n : Nat} {lim : Int} {c b off : Nat} {p : Pkt} {r : List Pkt} (h : Fr w [(25, #[.int .i64 lim, (.slice (some ⟨b, off, none⟩) n c)])] (some ⟨b, off, none⟩) n (p :: r) w1) :
    w1.cell? ⟨w.heap.size, 0, none⟩ = some (.int .i64 lim) ∧ w1.cell? ⟨w.heap.size, 1, none⟩ = some (.slice (some ⟨b, off, none⟩) n c) ∧ w1.cell? ⟨b, off, none⟩ = some (.int .i64 p.peer) ∧ w1.cell? ⟨b, off + 1, none⟩ = some (.int .i64 p.lane) ∧ w1.cell? ⟨b, off + 2, none⟩ = some (.int .i64 p.size) ∧ w1.cell? ⟨b, off + 3, none⟩ = some (.int .i64 p.id) ∧
    Fr w [(25, #[.int .i64 lim, (.slice (some ⟨b, off, none⟩) n c)])] (some ⟨b, off, none⟩) n (p :: r) w1 := by
  obtain ⟨-, h0, h1, h2, h3⟩ := fr_head h
  exact ⟨blk_cell (h.it 0 _ _ rfl) 0, blk_cell (h.it 0 _ _ rfl) 1, h0, h1, h2, h3, h⟩
theorem frHO {w w1 : World} {n : Nat} {lim : Int} {c b off : Nat} {p : Pkt} {r : List Pkt} (h : w1.cell? ⟨w.heap.size, 0, none⟩ = some (.int .i64 lim) ∧ w1.cell? ⟨w.heap.size, 1, none⟩ = some (.slice (some ⟨b, off, none⟩) n c) ∧ w1.cell? ⟨b, off, none⟩ = some (.int .i64 p.peer) ∧ w1.cell? ⟨b, off + 1, none⟩ = some (.int .i64 p.lane) ∧ w1.cell? ⟨b, off + 2, none⟩ = some (.int .i64 p.size) ∧ w1.cell? ⟨b, off + 3, none⟩ = some (.int .i64 p.id) ∧
    Fr w [(25, #[.int .i64 lim, (.slice (some ⟨b, off, none⟩) n c)])] (some ⟨b, off, none⟩) n (p :: r) w1) : Fr w [(25, #[.int .i64 lim, (.slice (some ⟨b, off, none⟩) n c)])] (some ⟨b, off, none⟩) n (p :: r) w1 := h.2.2.2.2.2.2
set_option maxHeartbeats 1000000 in
theorem popS_no (lim : Int) (A : Option Addr) (n c : Nat) (ps : List Pkt) (w : World) (h : PR w A n ps) (hn : n ≤ 4000000000) (hk : heavyP lim ps = false) :
    Calls Try.prog 37 #[.agg #[.int .i64 lim, (.slice A n c)]] w (QPost2 w 0 [] (.agg #[.int .i64 0, .int .i64 0, .int .i64 0, .int .i64 0]) (.bool false)) := by
  have F := Lib.hid (fr_pop h lim c)
  have HL := Lib.hid h.1
  clear h
  rcases hq : qvB lim ps with _ | _
  · have HQ := Lib.hid hq
    clear hq hk
    go_enter Try.func37, Try.ntmps37
    go_wp2_with fail
    refine (qvS_any lim A n c ps _ F.out.pr (by omega)).mono ?_
    rintro e w1 ⟨rfl, hb⟩
    rw [HQ.out]
    replace F := Lib.hid (fr_below F.out hb)
    clear hb
    have F0c0 : World.cell? w1 ⟨w.heap.size, 0, none⟩ = some (.int .i64 lim) := blk_cell (F.out.it 0 _ _ rfl) 0
    have F0f0 : World.frozen? w1 ⟨w.heap.size, 0, none⟩ = false := blk_free (F.out.it 0 _ _ rfl) 0
    have F0c1 : World.cell? w1 ⟨w.heap.size, 1, none⟩ = some ((.slice A n c)) := blk_cell (F.out.it 0 _ _ rfl) 1
    have F0f1 : World.frozen? w1 ⟨w.heap.size, 1, none⟩ = false := blk_free (F.out.it 0 _ _ rfl) 1
    have F1c0 : World.cell? w1 ⟨w.heap.size + 1, 0, none⟩ = some (.int .i64 0) := blk_cell (F.out.it 1 _ _ rfl) 0
    have F1f0 : World.frozen? w1 ⟨w.heap.size + 1, 0, none⟩ = false := blk_free (F.out.it 1 _ _ rfl) 0
    have F1c1 : World.cell? w1 ⟨w.heap.size + 1, 1, none⟩ = some ((.slice none 0 0)) := blk_cell (F.out.it 1 _ _ rfl) 1
    have F1f1 : World.frozen? w1 ⟨w.heap.size + 1, 1, none⟩ = false := blk_free (F.out.it 1 _ _ rfl) 1
    have F2c0 : World.cell? w1 ⟨w.heap.size + 2, 0, none⟩ = some (.int .i64 0) := blk_cell (F.out.it 2 _ _ rfl) 0
    have F2f0 : World.frozen? w1 ⟨w.heap.size + 2, 0, none⟩ = false := blk_free (F.out.it 2 _ _ rfl) 0
    have F2c1 : World.cell? w1 ⟨w.heap.size + 2, 1, none⟩ = some (.int .i64 0) := blk_cell (F.out.it 2 _ _ rfl) 1
    have F2f1 : World.frozen? w1 ⟨w.heap.size + 2, 1, none⟩ = false := blk_free (F.out.it 2 _ _ rfl) 1
    have F2c2 : World.cell? w1 ⟨w.heap.size + 2, 2, none⟩ = some (.int .i64 0) := blk_cell (F.out.it 2 _ _ rfl) 2
    have F2f2 : World.frozen? w1 ⟨w.heap.size + 2, 2, none⟩ = false := blk_free (F.out.it 2 _ _ rfl) 2
    have F2c3 : World.cell? w1 ⟨w.heap.size + 2, 3, none⟩ = some (.int .i64 0) := blk_cell (F.out.it 2 _ _ rfl) 3
    have F2f3 : World.frozen? w1 ⟨w.heap.size + 2, 3, none⟩ = false := blk_free (F.out.it 2 _ _ rfl) 3
    go_wp2
    refine bodyPost_ret (v := .tuple #[.agg #[.int .i64 0, (.slice none 0 0)], .agg #[.int .i64 0, .int .i64 0, .int .i64 0, .int .i64 0], .bool false]) (by simp [results, Try.results37, go_sem, F1c0, F1c1, F2c0, F2c1, F2c2, F2c3]) rfl (qpost2_mk rfl (World.ownsRow_nil _ _ _ _) ?_)
    repeat refine Below.setCell ?_ (by first | omega | (simp <;> omega)) _
    exact F.out.below
  · have h0 : n = 0 := by
      have : ¬ 0 < ps.length := by intro h0; simp [heavyP, hq, h0] at hk
      have := HL.out; omega
    subst h0
    have HQ := Lib.hid hq
    clear hq hk
    go_enter Try.func37, Try.ntmps37
    go_wp2_with fail
    refine (qvS_any lim A 0 c ps _ F.out.pr (by omega)).mono ?_
    rintro e w1 ⟨rfl, hb⟩
    rw [HQ.out]
    replace F := Lib.hid (fr_below F.out hb)
    clear hb
    have F0c0 : World.cell? w1 ⟨w.heap.size, 0, none⟩ = some (.int .i64 lim) := blk_cell (F.out.it 0 _ _ rfl) 0
    have F0f0 : World.frozen? w1 ⟨w.heap.size, 0, none⟩ = false := blk_free (F.out.it 0 _ _ rfl) 0
    have F0c1 : World.cell? w1 ⟨w.heap.size, 1, none⟩ = some ((.slice A 0 c)) := blk_cell (F.out.it 0 _ _ rfl) 1
    have F0f1 : World.frozen? w1 ⟨w.heap.size, 1, none⟩ = false := blk_free (F.out.it 0 _ _ rfl) 1
    have F1c0 : World.cell? w1 ⟨w.heap.size + 1, 0, none⟩ = some (.int .i64 0) := blk_cell (F.out.it 1 _ _ rfl) 0
    have F1f0 : World.frozen? w1 ⟨w.heap.size + 1, 0, none⟩ = false := blk_free (F.out.it 1 _ _ rfl) 0
    have F1c1 : World.cell? w1 ⟨w.heap.size + 1, 1, none⟩ = some ((.slice none 0 0)) := blk_cell (F.out.it 1 _ _ rfl) 1
    have F1f1 : World.frozen? w1 ⟨w.heap.size + 1, 1, none⟩ = false := blk_free (F.out.it 1 _ _ rfl) 1
    have F2c0 : World.cell? w1 ⟨w.heap.size + 2, 0, none⟩ = some (.int .i64 0) := blk_cell (F.out.it 2 _ _ rfl) 0
    have F2f0 : World.frozen? w1 ⟨w.heap.size + 2, 0, none⟩ = false := blk_free (F.out.it 2 _ _ rfl) 0
    have F2c1 : World.cell? w1 ⟨w.heap.size + 2, 1, none⟩ = some (.int .i64 0) := blk_cell (F.out.it 2 _ _ rfl) 1
    have F2f1 : World.frozen? w1 ⟨w.heap.size + 2, 1, none⟩ = false := blk_free (F.out.it 2 _ _ rfl) 1
    have F2c2 : World.cell? w1 ⟨w.heap.size + 2, 2, none⟩ = some (.int .i64 0) := blk_cell (F.out.it 2 _ _ rfl) 2
    have F2f2 : World.frozen? w1 ⟨w.heap.size + 2, 2, none⟩ = false := blk_free (F.out.it 2 _ _ rfl) 2
    have F2c3 : World.cell? w1 ⟨w.heap.size + 2, 3, none⟩ = some (.int .i64 0) := blk_cell (F.out.it 2 _ _ rfl) 3
    have F2f3 : World.frozen? w1 ⟨w.heap.size + 2, 3, none⟩ = false := blk_free (F.out.it 2 _ _ rfl) 3
    go_wp2
    refine bodyPost_ret (v := .tuple #[.agg #[.int .i64 0, (.slice none 0 0)], .agg #[.int .i64 0, .int .i64 0, .int .i64 0, .int .i64 0], .bool false]) (by simp [results, Try.results37, go_sem, F1c0, F1c1, F2c0, F2c1, F2c2, F2c3]) rfl (qpost2_mk rfl (World.ownsRow_nil _ _ _ _) ?_)
    repeat refine Below.setCell ?_ (by first | omega | (simp <;> omega)) _
    exact F.out.below
theorem blk_four {w : World} {b : Nat} {t : TypeId} {x y z u : Value} (h : Blk w b t #[x, y, z, u]) : (w.cell? ⟨b, 0, none⟩ = some x ∧ w.cell? ⟨b, 1, none⟩ = some y ∧ w.cell? ⟨b, 2, none⟩ = some z ∧ w.cell? ⟨b, 3, none⟩ = some u) ∧ w.frozen? ⟨b, 0, none⟩ = false ∧ w.frozen? ⟨b, 1, none⟩ = false ∧ w.frozen? ⟨b, 2, none⟩ = false ∧ w.frozen? ⟨b, 3, none⟩ = false :=
  ⟨⟨blk_cell h 0, blk_cell h 1, blk_cell h 2, blk_cell h 3⟩, blk_free h 0, blk_free h 1, blk_free h 2, blk_free h 3⟩
set_option maxHeartbeats 400000 in
theorem popS_yes (lim : Int) (A : Option Addr) (n c : Nat) (p : Pkt) (r : List Pkt) (w : World) (h : PR w A n (p :: r)) (hn : n ≤ 4000000000) (hc : n ≤ c) (hk : qvB lim (p :: r) = true) :
    Calls Try.prog 37 #[.agg #[.int .i64 lim, (.slice A n c)]] w (QPost2 w lim r (.agg #[.int .i64 p.peer, .int .i64 p.lane, .int .i64 p.size, .int .i64 p.id]) (.bool true)) := by
  have F := Lib.hid (fr_pop h lim c)
  have hl := h.1
  simp at hl
  have hn1 : 1 ≤ n := by omega
  have hi1 : (1 : Int) ≤ (n : Int) := by omega
  have hi0 : (0 : Int) < (n : Int) := by omega
  have hn0 : 0 < n := by omega
  have hnz : ((n : Int) == 0) = false := by simp; omega
  have HL := Lib.hid hl
  have HQ := Lib.hid hk
  clear hl hk
  obtain ⟨b, off, rfl, -, -⟩ := h.2 (by omega)
  clear h
  obtain ⟨A1, hA, hP⟩ : ∃ A1, (if c = 1 then (some ⟨b, off, none⟩ : Option Addr) else some ⟨b, off + 4, none⟩) = some A1 ∧
      Hid (∀ W, PR W (some ⟨b, off, none⟩) n (p :: r) → PR W (some A1) (n - 1) r) := by
    by_cases hc1 : c = 1
    · refine ⟨_, if_pos hc1, Lib.hid fun W hW => ?_⟩
      have := pr_drop hW hn1 hc
      rw [if_pos hc1] at this
      exact this
    · refine ⟨_, if_neg hc1, Lib.hid fun W hW => ?_⟩
      have := pr_drop hW hn1 hc
      rw [if_neg hc1] at this
      simpa [Addr.add] using this
  go_enter Try.func37, Try.ntmps37
  go_wp2_with fail
  refine (qvS_any lim _ n c _ _ F.out.pr (by omega)).mono ?_
  rintro e w1 ⟨rfl, hb⟩
  rw [HQ.out]
  replace F := Lib.hid (fr_below F.out hb)
  clear hb
  have F0c0 : World.cell? w1 ⟨w.heap.size, 0, none⟩ = some (.int .i64 lim) := blk_cell (F.out.it 0 _ _ rfl) 0
  have F0f0 : World.frozen? w1 ⟨w.heap.size, 0, none⟩ = false := blk_free (F.out.it 0 _ _ rfl) 0
  have F0c1 : World.cell? w1 ⟨w.heap.size, 1, none⟩ = some ((.slice (some ⟨b, off, none⟩) n c)) := blk_cell (F.out.it 0 _ _ rfl) 1
  have F0f1 : World.frozen? w1 ⟨w.heap.size, 1, none⟩ = false := blk_free (F.out.it 0 _ _ rfl) 1
  have F1c0 : World.cell? w1 ⟨w.heap.size + 1, 0, none⟩ = some (.int .i64 0) := blk_cell (F.out.it 1 _ _ rfl) 0
  have F1f0 : World.frozen? w1 ⟨w.heap.size + 1, 0, none⟩ = false := blk_free (F.out.it 1 _ _ rfl) 0
  have F1c1 : World.cell? w1 ⟨w.heap.size + 1, 1, none⟩ = some ((.slice none 0 0)) := blk_cell (F.out.it 1 _ _ rfl) 1
  have F1f1 : World.frozen? w1 ⟨w.heap.size + 1, 1, none⟩ = false := blk_free (F.out.it 1 _ _ rfl) 1
  have F2c0 : World.cell? w1 ⟨w.heap.size + 2, 0, none⟩ = some (.int .i64 0) := blk_cell (F.out.it 2 _ _ rfl) 0
  have F2f0 : World.frozen? w1 ⟨w.heap.size + 2, 0, none⟩ = false := blk_free (F.out.it 2 _ _ rfl) 0
  have F2c1 : World.cell? w1 ⟨w.heap.size + 2, 1, none⟩ = some (.int .i64 0) := blk_cell (F.out.it 2 _ _ rfl) 1
  have F2f1 : World.frozen? w1 ⟨w.heap.size + 2, 1, none⟩ = false := blk_free (F.out.it 2 _ _ rfl) 1
  have F2c2 : World.cell? w1 ⟨w.heap.size + 2, 2, none⟩ = some (.int .i64 0) := blk_cell (F.out.it 2 _ _ rfl) 2
  have F2f2 : World.frozen? w1 ⟨w.heap.size + 2, 2, none⟩ = false := blk_free (F.out.it 2 _ _ rfl) 2
  have F2c3 : World.cell? w1 ⟨w.heap.size + 2, 3, none⟩ = some (.int .i64 0) := blk_cell (F.out.it 2 _ _ rfl) 3
  have F2f3 : World.frozen? w1 ⟨w.heap.size + 2, 3, none⟩ = false := blk_free (F.out.it 2 _ _ rfl) 3
  go_wp2_with fail
  clear F0c0 F0f0 F0c1 F0f1 F1c0 F1f0 F1c1 F1f1 F2c0 F2f0 F2c1 F2f1 F2c2 F2f2 F2c3 F2f3
  have zF := F.out.lt
  simp [popBs] at zF
  have O1 := Lib.hid (show Blk w1.drew (w.heap.size + 1) 25 #[.int .i64 0, (.slice none 0 0)] from F.out.it 1 _ _ rfl)
  have O2 := Lib.hid (show Blk w1.drew (w.heap.size + 2) 51 #[.int .i64 0, .int .i64 0, .int .i64 0, .int .i64 0] from F.out.it 2 _ _ rfl)
  have FS := Lib.hid (show Fr w [(25, #[.int .i64 lim, (.slice (some ⟨b, off, none⟩) n c)])] (some ⟨b, off, none⟩) n (p :: r) w1 from ⟨fun i t cs hi => (by
    cases i with
    | zero => exact F.out.it 0 t cs hi
    | succ i => simp at hi), F.out.pr, F.out.below, (by simp; omega), F.out.old⟩)
  have hS := frH (fr_drew FS.out)
  have hb0 := (fr_head F.out).1
  have hb1 : ¬ b = w.heap.size + 1 := by omega
  have hb2 : ¬ b = w.heap.size + 2 := by omega
  go_region_held3 (fun w' => w'.cell? ⟨w.heap.size, 0, none⟩ = some (.int .i64 lim) ∧ w'.cell? ⟨w.heap.size, 1, none⟩ = some (.slice (some ⟨b, off, none⟩) n c) ∧ w'.cell? ⟨b, off, none⟩ = some (.int .i64 p.peer) ∧ w'.cell? ⟨b, off + 1, none⟩ = some (.int .i64 p.lane) ∧ w'.cell? ⟨b, off + 2, none⟩ = some (.int .i64 p.size) ∧ w'.cell? ⟨b, off + 3, none⟩ = some (.int .i64 p.id) ∧ Fr w [(25, #[.int .i64 lim, (.slice (some ⟨b, off, none⟩) n c)])] (some ⟨b, off, none⟩) n (p :: r) w')
    (first
      | (with_reducible assumption)
      | (with_reducible exact frH (fr_drew (fr_alloc FS.out _)))
      | (refine frH ?_; with_reducible refine fr_set ?_ ?_ _; with_reducible refine fr_set ?_ ?_ _; with_reducible refine fr_set ?_ ?_ _; with_reducible refine fr_set ?_ ?_ _; with_reducible refine fr_set ?_ ?_ _; with_reducible refine fr_set ?_ ?_ _; exact hS3.2.2.2.2.2.2; all_goals (simp <;> omega))
      | (refine frH ?_; with_reducible refine fr_set ?_ ?_ _; with_reducible refine fr_set ?_ ?_ _; exact hS3.2.2.2.2.2.2; all_goals (simp <;> omega))
      | fail)
    (first
      | (refine step_app_pkts _ rfl (.tmp 18) (.tmp 21) rfl _ (.slice (some ⟨w1.heap.size, 0, none⟩) 0 0) 0 [] rfl (own_emptyQ (by simp)) (some A1) (n - 1) (c - 1) r rfl (hP.out _ (frHO (by with_reducible assumption)).pr) (by omega) (by simp) ?_
         intro v1 w3 ho3 hg3 hat3
         simp only [List.nil_append, Nat.zero_add] at ho3
         obtain ⟨A2, c2, rfl, hmc, hcm, -⟩ := own_form ho3
         have hS3 := frH (fr_grown (frHO (by with_reducible assumption)) hg3 (fun g hg => by simp [Value.ownBlock] at hg; simp; omega))
         obtain ⟨o0, o1, f0, f1⟩ := blk_two (blk_grownQ (blk_alloc O1.out _) hg3 (fun e => by have e : some (w.heap.size + 1) = some w1.heap.size := e; injection e with e; omega))
         obtain ⟨⟨k0, k1, k2, k3⟩, e0, e1, e2, e3⟩ := blk_four (blk_grownQ (blk_alloc O2.out _) hg3 (fun e => by have e : some (w.heap.size + 2) = some w1.heap.size := e; injection e with e; omega))
         have hO3 := Lib.hid ho3
         clear hg3 hat3 ho3 hmc hcm))
  all_goals
    have BW := Lib.hid (frHO (w := w) (n := n) (lim := lim) (c := c) (b := b) (off := off) (p := p) (r := r) (by with_reducible assumption)).below
    go_wp2
    refine bodyPost_ret (v := .tuple #[.agg #[.int .i64 lim, (.slice A2 (n - 1) c2)], .agg #[.int .i64 p.peer, .int .i64 p.lane, .int .i64 p.size, .int .i64 p.id], .bool true]) (by simp [results, Try.results37, go_sem, o0, o1, k0, k1, k2, k3]) rfl (qpost2_mk rfl ?_ BW.out)
    refine own_mono (base := w1.heap.size) ?_ (by omega)
    iterate 6 (with_reducible refine own_set_far ?_ (by simp <;> omega) _)
    exact hO3.out
end Go.Proofs.Ytapoahoknlaeaab
