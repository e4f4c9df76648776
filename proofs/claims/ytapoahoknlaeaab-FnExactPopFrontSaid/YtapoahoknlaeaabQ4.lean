/-
  Chapter 3: PopFront: what the program's function and the model's return. Conditions: the slice has at most 4000000000 packets.
-/
import Derived.Test.YtapoahoknlaeaabQ5
import Derived.Test.YtapoahoknlaeaabQ3
import Derived.Test.YtapoahoknlaeaabFr
namespace Go.Proofs.Ytapoahoknlaeaab
open Go.RowKit

theorem frS {w w1 : World} {bs : List (TypeId × Array Value)} {A : Option Addr} {n : Nat} {ps : List Pkt} {lim : Int} {c : Nat} (h : Fr w bs A n ps w1) (h0 : bs[0]? = some (25, #[.int .i64 lim, .slice A n c])) :
    w1.cell? ⟨w.heap.size, 0, none⟩ = some (.int .i64 lim) ∧ w1.cell? ⟨w.heap.size, 1, none⟩ = some (.slice A n c) ∧ Fr w bs A n ps w1 := ⟨blk_cell (h.it 0 _ _ h0) 0, blk_cell (h.it 0 _ _ h0) 1, h⟩
theorem frO {w w1 : World} {bs : List (TypeId × Array Value)} {A : Option Addr} {n : Nat} {ps : List Pkt} {lim : Int} {c : Nat} (h : w1.cell? ⟨w.heap.size, 0, none⟩ = some (.int .i64 lim) ∧ w1.cell? ⟨w.heap.size, 1, none⟩ = some (.slice A n c) ∧ Fr w bs A n ps w1) : Fr w bs A n ps w1 := h.2.2
def popBs (lim : Int) (A : Option Addr) (n c : Nat) : List (TypeId × Array Value) := [(25, #[.int .i64 lim, (.slice A n c)]), (25, #[.int .i64 0, (.slice none 0 0)]), (51, #[.int .i64 0, .int .i64 0, .int .i64 0, .int .i64 0])]
theorem fr_pop {w : World} {A : Option Addr} {n : Nat} {ps : List Pkt} (h : PR w A n ps) (lim : Int) (c : Nat) : Fr w (popBs lim A n c) A n ps (((w.alloc (.cells #[.int .i64 lim, (.slice A n c)] 25)).alloc (.cells #[.int .i64 0, (.slice none 0 0)] 25)).alloc (.cells #[.int .i64 0, .int .i64 0, .int .i64 0, .int .i64 0] 51)) :=
  fr_three h 25 25 51 _ _ _
theorem fr_head {w w1 : World} {bs : List (TypeId × Array Value)} {n b off : Nat} {p : Pkt} {r : List Pkt} (h : Fr w bs (some ⟨b, off, none⟩) n (p :: r) w1) : b < w.heap.size ∧ w1.cell? ⟨b, off, none⟩ = some (.int .i64 p.peer) ∧ w1.cell? ⟨b, off + 1, none⟩ = some (.int .i64 p.lane) ∧ w1.cell? ⟨b, off + 2, none⟩ = some (.int .i64 p.size) ∧ w1.cell? ⟨b, off + 3, none⟩ = some (.int .i64 p.id) := by
  have hn : 0 < n := by have := h.pr.1; simp at this; omega
  obtain ⟨b', off', e, hb, hc⟩ := h.pr.2 hn
  obtain ⟨rfl, rfl⟩ : b = b' ∧ off = off' := by injection e with e; injection e with a b; exact ⟨a, b⟩
  obtain ⟨c0, c1, c2, c3⟩ := hc 0 p rfl
  simp only [Nat.zero_mul, Nat.add_zero] at c0 c1 c2 c3
  exact ⟨h.old hn _ rfl, c0, c1, c2, c3⟩
set_option maxHeartbeats 1000000 in
theorem popI_no (lim : Int) (A : Option Addr) (n c : Nat) (ps : List Pkt) (w : World) (h : PR w A n ps) (hn : n ≤ 4000000000) (hk : heavyP lim ps = false) :
    Calls Try.prog 38 #[.agg #[.int .i64 lim, (.slice A n c)]] w (QPost2 w 0 [] (.agg #[.int .i64 0, .int .i64 0, .int .i64 0, .int .i64 0]) (.bool false)) := by
  have F := Lib.hid (fr_pop h lim c)
  have HL := Lib.hid h.1
  clear h
  rcases hq : qvB lim ps with _ | _
  · have HQ := Lib.hid hq
    clear hq hk
    go_enter Try.func38, Try.ntmps38
    go_wp2_with fail
    refine (qvI_any lim A n c ps _ F.out.pr (by omega)).mono ?_
    rintro e w1 ⟨rfl, hb⟩
    rw [HQ.out]
    replace F := Lib.hid (fr_below F.out hb)
    clear hb
    have F0c0 : World.cell? w1 ⟨w.heap.size, 0, none⟩ = some (.int .i64 lim) := blk_cell (F.out.it 0 _ _ rfl) 0
    have F0f0 : World.frozen? w1 ⟨w.heap.size, 0, none⟩ = false := blk_free (F.out.it 0 _ _ rfl) 0
    have F0c1 : World.cell? w1 ⟨w.heap.size, 1, none⟩ = some ((.slice A n c)) := blk_cell (F.out.it 0 _ _ rfl) 1
    have F0f1 : World.frozen? w1 ⟨w.heap.size, 1, none⟩ = false := blk_free (F.out.it 0 _ _ rfl) 1
    have F1c0 : World.cell? w1 ⟨w.heap.size + 1, 0, none⟩ = some (.int .i64 0) := blk_cell (F.out.it 1 _ _ rfl) 0
    have F1f0 : World.frozen? w1 ⟨w.heap.size + 1, 0, none⟩ = false := blk_free (F.out.it 1 _ _ rfl) 0
    have F1c1 : World.cell? w1 ⟨w.heap.size + 1, 1, none⟩ = some ((.slice none 0 0)) := blk_cell (F.out.it 1 _ _ rfl) 1
    have F1f1 : World.frozen? w1 ⟨w.heap.size + 1, 1, none⟩ = false := blk_free (F.out.it 1 _ _ rfl) 1
    have F2c0 : World.cell? w1 ⟨w.heap.size + 2, 0, none⟩ = some (.int .i64 0) := blk_cell (F.out.it 2 _ _ rfl) 0
    have F2f0 : World.frozen? w1 ⟨w.heap.size + 2, 0, none⟩ = false := blk_free (F.out.it 2 _ _ rfl) 0
    have F2c1 : World.cell? w1 ⟨w.heap.size + 2, 1, none⟩ = some (.int .i64 0) := blk_cell (F.out.it 2 _ _ rfl) 1
    have F2f1 : World.frozen? w1 ⟨w.heap.size + 2, 1, none⟩ = false := blk_free (F.out.it 2 _ _ rfl) 1
    have F2c2 : World.cell? w1 ⟨w.heap.size + 2, 2, none⟩ = some (.int .i64 0) := blk_cell (F.out.it 2 _ _ rfl) 2
    have F2f2 : World.frozen? w1 ⟨w.heap.size + 2, 2, none⟩ = false := blk_free (F.out.it 2 _ _ rfl) 2
    have F2c3 : World.cell? w1 ⟨w.heap.size + 2, 3, none⟩ = some (.int .i64 0) := blk_cell (F.out.it 2 _ _ rfl) 3
    have F2f3 : World.frozen? w1 ⟨w.heap.size + 2, 3, none⟩ = false := blk_free (F.out.it 2 _ _ rfl) 3
    go_wp2
    refine bodyPost_ret (v := .tuple #[.agg #[.int .i64 0, (.slice none 0 0)], .agg #[.int .i64 0, .int .i64 0, .int .i64 0, .int .i64 0], .bool false]) (by simp [results, Try.results38, go_sem, F1c0, F1c1, F2c0, F2c1, F2c2, F2c3]) rfl (qpost2_mk rfl (World.ownsRow_nil _ _ _ _) ?_)
    repeat refine Below.setCell ?_ (by first | omega | (simp <;> omega)) _
    exact F.out.below
  · have h0 : n = 0 := by
      have : ¬ 0 < ps.length := by intro h0; simp [heavyP, hq, h0] at hk
      have := HL.out; omega
    subst h0
    have HQ := Lib.hid hq
    clear hq hk
    go_enter Try.func38, Try.ntmps38
    go_wp2_with fail
    refine (qvI_any lim A 0 c ps _ F.out.pr (by omega)).mono ?_
    rintro e w1 ⟨rfl, hb⟩
    rw [HQ.out]
    replace F := Lib.hid (fr_below F.out hb)
    clear hb
    have F0c0 : World.cell? w1 ⟨w.heap.size, 0, none⟩ = some (.int .i64 lim) := blk_cell (F.out.it 0 _ _ rfl) 0
    have F0f0 : World.frozen? w1 ⟨w.heap.size, 0, none⟩ = false := blk_free (F.out.it 0 _ _ rfl) 0
    have F0c1 : World.cell? w1 ⟨w.heap.size, 1, none⟩ = some ((.slice A 0 c)) := blk_cell (F.out.it 0 _ _ rfl) 1
    have F0f1 : World.frozen? w1 ⟨w.heap.size, 1, none⟩ = false := blk_free (F.out.it 0 _ _ rfl) 1
    have F1c0 : World.cell? w1 ⟨w.heap.size + 1, 0, none⟩ = some (.int .i64 0) := blk_cell (F.out.it 1 _ _ rfl) 0
    have F1f0 : World.frozen? w1 ⟨w.heap.size + 1, 0, none⟩ = false := blk_free (F.out.it 1 _ _ rfl) 0
    have F1c1 : World.cell? w1 ⟨w.heap.size + 1, 1, none⟩ = some ((.slice none 0 0)) := blk_cell (F.out.it 1 _ _ rfl) 1
    have F1f1 : World.frozen? w1 ⟨w.heap.size + 1, 1, none⟩ = false := blk_free (F.out.it 1 _ _ rfl) 1
    have F2c0 : World.cell? w1 ⟨w.heap.size + 2, 0, none⟩ = some (.int .i64 0) := blk_cell (F.out.it 2 _ _ rfl) 0
    have F2f0 : World.frozen? w1 ⟨w.heap.size + 2, 0, none⟩ = false := blk_free (F.out.it 2 _ _ rfl) 0
    have F2c1 : World.cell? w1 ⟨w.heap.size + 2, 1, none⟩ = some (.int .i64 0) := blk_cell (F.out.it 2 _ _ rfl) 1
    have F2f1 : World.frozen? w1 ⟨w.heap.size + 2, 1, none⟩ = false := blk_free (F.out.it 2 _ _ rfl) 1
    have F2c2 : World.cell? w1 ⟨w.heap.size + 2, 2, none⟩ = some (.int .i64 0) := blk_cell (F.out.it 2 _ _ rfl) 2
    have F2f2 : World.frozen? w1 ⟨w.heap.size + 2, 2, none⟩ = false := blk_free (F.out.it 2 _ _ rfl) 2
    have F2c3 : World.cell? w1 ⟨w.heap.size + 2, 3, none⟩ = some (.int .i64 0) := blk_cell (F.out.it 2 _ _ rfl) 3
    have F2f3 : World.frozen? w1 ⟨w.heap.size + 2, 3, none⟩ = false := blk_free (F.out.it 2 _ _ rfl) 3
    go_wp2
    refine bodyPost_ret (v := .tuple #[.agg #[.int .i64 0, (.slice none 0 0)], .agg #[.int .i64 0, .int .i64 0, .int .i64 0, .int .i64 0], .bool false]) (by simp [results, Try.results38, go_sem, F1c0, F1c1, F2c0, F2c1, F2c2, F2c3]) rfl (qpost2_mk rfl (World.ownsRow_nil _ _ _ _) ?_)
    repeat refine Below.setCell ?_ (by first | omega | (simp <;> omega)) _
    exact F.out.below
set_option maxHeartbeats 1000000 in
theorem popI_yes (lim : Int) (A : Option Addr) (n c : Nat) (p : Pkt) (r : List Pkt) (w : World) (h : PR w A n (p :: r)) (hn : n ≤ 4000000000) (hc : n ≤ c) (hk : qvB lim (p :: r) = true) :
    Calls Try.prog 38 #[.agg #[.int .i64 lim, (.slice A n c)]] w (QPost2 w lim r (.agg #[.int .i64 p.peer, .int .i64 p.lane, .int .i64 p.size, .int .i64 p.id]) (.bool true)) := by
  have F := Lib.hid (fr_pop h lim c)
  have hl := h.1
  simp at hl
  have hn1 : 1 ≤ n := by omega
  have hi1 : (1 : Int) ≤ (n : Int) := by omega
  have hi0 : (0 : Int) < (n : Int) := by omega
  have hnz : ((n : Int) == 0) = false := by simp; omega
  have HL := Lib.hid hl
  have HQ := Lib.hid hk
  clear hl hk
  obtain ⟨b, off, rfl, -, -⟩ := h.2 (by omega)
  clear h
  obtain ⟨A1, hA, hP⟩ : ∃ A1, (if c = 1 then (some ⟨b, off, none⟩ : Option Addr) else some ⟨b, off + 4, none⟩) = some A1 ∧
      Hid (∀ W, PR W (some ⟨b, off, none⟩) n (p :: r) → PR W (some A1) (n - 1) r) := by
    by_cases hc1 : c = 1
    · refine ⟨_, if_pos hc1, Lib.hid fun W hW => ?_⟩
      have := pr_drop hW hn1 hc
      rw [if_pos hc1] at this
      exact this
    · refine ⟨_, if_neg hc1, Lib.hid fun W hW => ?_⟩
      have := pr_drop hW hn1 hc
      rw [if_neg hc1] at this
      simpa [Addr.add] using this
  go_enter Try.func38, Try.ntmps38
  go_wp2_with fail
  refine (qvI_any lim _ n c _ _ F.out.pr (by omega)).mono ?_
  rintro e w1 ⟨rfl, hb⟩
  rw [HQ.out]
  replace F := Lib.hid (fr_below F.out hb)
  clear hb
  have F0c0 : World.cell? w1 ⟨w.heap.size, 0, none⟩ = some (.int .i64 lim) := blk_cell (F.out.it 0 _ _ rfl) 0
  have F0f0 : World.frozen? w1 ⟨w.heap.size, 0, none⟩ = false := blk_free (F.out.it 0 _ _ rfl) 0
  have F0c1 : World.cell? w1 ⟨w.heap.size, 1, none⟩ = some ((.slice (some ⟨b, off, none⟩) n c)) := blk_cell (F.out.it 0 _ _ rfl) 1
  have F0f1 : World.frozen? w1 ⟨w.heap.size, 1, none⟩ = false := blk_free (F.out.it 0 _ _ rfl) 1
  have F1c0 : World.cell? w1 ⟨w.heap.size + 1, 0, none⟩ = some (.int .i64 0) := blk_cell (F.out.it 1 _ _ rfl) 0
  have F1f0 : World.frozen? w1 ⟨w.heap.size + 1, 0, none⟩ = false := blk_free (F.out.it 1 _ _ rfl) 0
  have F1c1 : World.cell? w1 ⟨w.heap.size + 1, 1, none⟩ = some ((.slice none 0 0)) := blk_cell (F.out.it 1 _ _ rfl) 1
  have F1f1 : World.frozen? w1 ⟨w.heap.size + 1, 1, none⟩ = false := blk_free (F.out.it 1 _ _ rfl) 1
  have F2c0 : World.cell? w1 ⟨w.heap.size + 2, 0, none⟩ = some (.int .i64 0) := blk_cell (F.out.it 2 _ _ rfl) 0
  have F2f0 : World.frozen? w1 ⟨w.heap.size + 2, 0, none⟩ = false := blk_free (F.out.it 2 _ _ rfl) 0
  have F2c1 : World.cell? w1 ⟨w.heap.size + 2, 1, none⟩ = some (.int .i64 0) := blk_cell (F.out.it 2 _ _ rfl) 1
  have F2f1 : World.frozen? w1 ⟨w.heap.size + 2, 1, none⟩ = false := blk_free (F.out.it 2 _ _ rfl) 1
  have F2c2 : World.cell? w1 ⟨w.heap.size + 2, 2, none⟩ = some (.int .i64 0) := blk_cell (F.out.it 2 _ _ rfl) 2
  have F2f2 : World.frozen? w1 ⟨w.heap.size + 2, 2, none⟩ = false := blk_free (F.out.it 2 _ _ rfl) 2
  have F2c3 : World.cell? w1 ⟨w.heap.size + 2, 3, none⟩ = some (.int .i64 0) := blk_cell (F.out.it 2 _ _ rfl) 3
  have F2f3 : World.frozen? w1 ⟨w.heap.size + 2, 3, none⟩ = false := blk_free (F.out.it 2 _ _ rfl) 3
  go_wp2_with fail
  have hS := frS (lim := lim) (c := c) (fr_drew F.out) rfl
  have zF := F.out.lt
  simp [popBs] at zF
  go_region_held3 (fun w' => w'.cell? ⟨w.heap.size, 0, none⟩ = some (.int .i64 lim) ∧ w'.cell? ⟨w.heap.size, 1, none⟩ = some (.slice (some ⟨b, off, none⟩) n c) ∧ Fr w (popBs lim (some ⟨b, off, none⟩) n c) (some ⟨b, off, none⟩) n (p :: r) w')
    (first | assumption | (exact frS (fr_alloc (frO (by assumption)) _) rfl) | (exact frS (fr_set (fr_set (frO (by assumption)) (show w.heap.size + 3 ≤ _ from zF) _) (show w.heap.size + 3 ≤ _ from zF) _) rfl))
    (first
      | (go_at_call 63
         refine (clone_any (some A1) (n - 1) (c - 1) r _ (hP.out _ (frO (by assumption)).pr) (by omega)).mono ?_
         rintro e w2 ⟨A2, c2, rfl, ho2, hb2⟩
         have hS2 := frS (lim := lim) (c := c) (fr_below (frO (by assumption)) hb2) rfl
         have hO2 := Lib.hid ho2
         have z2 := hb2.size
         first
           | (have hN := blk_two (blk_below (w := (w1.alloc (.cells #[.int .i64 0, (.slice none 0 0)] 25)).drew) (blk_new w1 25 #[.int .i64 0, (.slice none 0 0)]) hb2 (by simp)); obtain ⟨nn0, nn1, nf0, nf1⟩ := hN; have nB := Lib.hid (blk_below (w := (w1.alloc (.cells #[.int .i64 0, (.slice none 0 0)] 25)).drew) (blk_new w1 25 #[.int .i64 0, (.slice none 0 0)]) hb2 (by simp)))
           | skip
         clear hb2 ho2))
  all_goals first
    | (have FW := Lib.hid (frO (w := w) (w1 := w2.alloc (.cells #[.int .i64 lim, (.slice A2 (n - 1) c2)] 25)) (bs := popBs lim (some ⟨b, off, none⟩) n c) (A := some ⟨b, off, none⟩) (n := n) (ps := p :: r) (lim := lim) (c := c) (by assumption))
       have tW : w.heap.size + 3 ≤ w2.heap.size := (by simp at z2; omega)
       have LW := Lib.hid (blk_new w2 25 #[.int .i64 lim, (.slice A2 (n - 1) c2)])
       have OW := Lib.hid (own_mono (b2 := w.heap.size + 3) (hO2.out.alloc (.cells #[.int .i64 lim, (.slice A2 (n - 1) c2)] 25)) (by simp; omega))
       clear hS2 hO2 z2
       generalize w2.alloc (.cells #[.int .i64 lim, (.slice A2 (n - 1) c2)] 25) = W at FW LW OW ⊢
       generalize w2.heap.size = tb at LW tW ⊢)
    | (have FW := Lib.hid (frO (w := w) (w1 := (w2.setCell ⟨w1.heap.size, 0, none⟩ (.int .i64 lim)).setCell ⟨w1.heap.size, 1, none⟩ (.slice A2 (n - 1) c2)) (bs := popBs lim (some ⟨b, off, none⟩) n c) (A := some ⟨b, off, none⟩) (n := n) (ps := p :: r) (lim := lim) (c := c) (by assumption))
       have tW : w.heap.size + 3 ≤ w1.heap.size := (by omega)
       have LW := Lib.hid (show Blk ((w2.setCell ⟨w1.heap.size, 0, none⟩ (.int .i64 lim)).setCell ⟨w1.heap.size, 1, none⟩ (.slice A2 (n - 1) c2)) w1.heap.size 25 #[.int .i64 lim, (.slice A2 (n - 1) c2)] from blk_set (blk_set nB.out 0 _) 1 _)
       have OW := Lib.hid (own_mono (b2 := w.heap.size + 3) (own_set_far (p := ⟨w1.heap.size, 1, none⟩) (own_set_far (p := ⟨w1.heap.size, 0, none⟩) hO2.out (by simp) (.int .i64 lim)) (by simp) (.slice A2 (n - 1) c2)) (by simp; omega))
       clear hS2 hO2 z2 nn0 nn1 nf0 nf1 nB
       generalize (w2.setCell ⟨w1.heap.size, 0, none⟩ (.int .i64 lim)).setCell ⟨w1.heap.size, 1, none⟩ (.slice A2 (n - 1) c2) = W at FW LW OW ⊢
       generalize w1.heap.size = tb at LW tW ⊢)
  all_goals
    clear F0c0 F0f0 F0c1 F0f1 F1c0 F1f0 F1c1 F1f1 F2c0 F2f0 F2c1 F2f1 F2c2 F2f2 F2c3 F2f3
    clear hP hA hS zF F
    have FW0c0 : World.cell? W ⟨w.heap.size, 0, none⟩ = some (.int .i64 lim) := blk_cell (FW.out.it 0 _ _ rfl) 0
    have FW0f0 : World.frozen? W ⟨w.heap.size, 0, none⟩ = false := blk_free (FW.out.it 0 _ _ rfl) 0
    have FW0c1 : World.cell? W ⟨w.heap.size, 1, none⟩ = some ((.slice (some ⟨b, off, none⟩) n c)) := blk_cell (FW.out.it 0 _ _ rfl) 1
    have FW0f1 : World.frozen? W ⟨w.heap.size, 1, none⟩ = false := blk_free (FW.out.it 0 _ _ rfl) 1
    have FW1c0 : World.cell? W ⟨w.heap.size + 1, 0, none⟩ = some (.int .i64 0) := blk_cell (FW.out.it 1 _ _ rfl) 0
    have FW1f0 : World.frozen? W ⟨w.heap.size + 1, 0, none⟩ = false := blk_free (FW.out.it 1 _ _ rfl) 0
    have FW1c1 : World.cell? W ⟨w.heap.size + 1, 1, none⟩ = some ((.slice none 0 0)) := blk_cell (FW.out.it 1 _ _ rfl) 1
    have FW1f1 : World.frozen? W ⟨w.heap.size + 1, 1, none⟩ = false := blk_free (FW.out.it 1 _ _ rfl) 1
    have FW2c0 : World.cell? W ⟨w.heap.size + 2, 0, none⟩ = some (.int .i64 0) := blk_cell (FW.out.it 2 _ _ rfl) 0
    have FW2f0 : World.frozen? W ⟨w.heap.size + 2, 0, none⟩ = false := blk_free (FW.out.it 2 _ _ rfl) 0
    have FW2c1 : World.cell? W ⟨w.heap.size + 2, 1, none⟩ = some (.int .i64 0) := blk_cell (FW.out.it 2 _ _ rfl) 1
    have FW2f1 : World.frozen? W ⟨w.heap.size + 2, 1, none⟩ = false := blk_free (FW.out.it 2 _ _ rfl) 1
    have FW2c2 : World.cell? W ⟨w.heap.size + 2, 2, none⟩ = some (.int .i64 0) := blk_cell (FW.out.it 2 _ _ rfl) 2
    have FW2f2 : World.frozen? W ⟨w.heap.size + 2, 2, none⟩ = false := blk_free (FW.out.it 2 _ _ rfl) 2
    have FW2c3 : World.cell? W ⟨w.heap.size + 2, 3, none⟩ = some (.int .i64 0) := blk_cell (FW.out.it 2 _ _ rfl) 3
    have FW2f3 : World.frozen? W ⟨w.heap.size + 2, 3, none⟩ = false := blk_free (FW.out.it 2 _ _ rfl) 3
    obtain ⟨hb0, p0, p1, p2, p3⟩ := fr_head FW.out
    obtain ⟨l0, l1, -, -⟩ := blk_two LW.out
    go_wp2_with fail
    go_region
    all_goals
      go_wp2
      refine bodyPost_ret (v := .tuple #[.agg #[.int .i64 lim, (.slice A2 (n - 1) c2)], .agg #[.int .i64 p.peer, .int .i64 p.lane, .int .i64 p.size, .int .i64 p.id], .bool true]) (by simp [results, Try.results38, go_sem, FW1c0, FW1c1, FW2c0, FW2c1, FW2c2, FW2c3]) rfl (qpost2_mk rfl ?_ ?_)
      · refine own_mono (base := w.heap.size + 3) ?_ (by omega)
        refine World.ownsRow.drew ?_
        iterate 6 (with_reducible refine own_set_far ?_ (by simp <;> omega) _)
        exact OW.out
      · refine Below.drew ?_
        iterate 6 (with_reducible refine Below.setCell ?_ (by simp <;> omega) _)
        exact FW.out.below
end Go.Proofs.Ytapoahoknlaeaab
