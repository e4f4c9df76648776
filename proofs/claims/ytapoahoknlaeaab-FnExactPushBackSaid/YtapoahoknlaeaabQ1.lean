/-
  Chapter 3: validity, equality, copies, room: what the program's functions and the model's return. Conditions: a slice's length fits an int; what is copied has at most 1048576 packets.
-/
import Derived.Test.YtapoahoknlaeaabQm
import Derived.Test.YtapoahoknlaeaabStep
import Derived.Deep.RegionHeld3
import Derived.StillTailTactics
namespace Go.Proofs.Ytapoahoknlaeaab
open Go.RowKit

/-- the boxed queue of a call, and its packets -/
structure KQ (w : World) (b : Nat) (lim : Int) (A : Option Addr) (n c : Nat) (ps : List Pkt) (w' : World) : Prop where
  it : Blk w' b 25 #[.int .i64 lim, .slice A n c]
  pr : PR w' A n ps
  below : Below w.heap.size w w'
  ge : w.heap.size ≤ b
  old : 0 < n → ∀ x, A.map (·.block) = some x → x < w.heap.size
section
variable {w w1 w2 : World} {b : Nat} {lim : Int} {A : Option Addr} {n c : Nat} {ps : List Pkt}
theorem kq_first (w : World) (h : PR w A n ps) : KQ w w.heap.size lim A n c ps (w.alloc (.cells #[.int .i64 lim, (.slice A n c)] 25)) :=
  ⟨blk_new w _ _, pr_alloc h _, below_alloc (Below.refl _ _) _, Nat.le_refl _, pr_old h⟩
theorem kq_below (h : KQ w b lim A n c ps w1) (hb : Below w1.heap.size w1 w2) : KQ w b lim A n c ps w2 :=
  ⟨blk_below h.it hb (blk_lt h.it), pr_below h.pr hb, below_seq h.below hb, h.ge, h.old⟩
theorem kq_alloc (h : KQ w b lim A n c ps w1) (o : Obj) : KQ w b lim A n c ps (w1.alloc o) := kq_below h (below_alloc (Below.refl _ _) o)
theorem kq_drew (h : KQ w b lim A n c ps w1) : KQ w b lim A n c ps w1.drew := ⟨h.it, h.pr, h.below.drew, h.ge, h.old⟩
theorem kq_set (h : KQ w b lim A n c ps w1) {p : Addr} (hp : w.heap.size ≤ p.block) (hne : b ≠ p.block) (u : Value) : KQ w b lim A n c ps (w1.setCell p u) :=
  ⟨blk_far h.it hne u, pr_set h.pr (fun hn x hx e => by have := h.old hn x hx; omega) u, h.below.setCell hp u, h.ge, h.old⟩
theorem kq_grown {row : Option Nat} (h : KQ w b lim A n c ps w1) (hg : w1.grownBy w2 row) (hr : ∀ g, row = some g → w.heap.size ≤ g ∧ b ≠ g) : KQ w b lim A n c ps w2 :=
  ⟨blk_grownQ h.it hg (fun e => (hr b e.symm).2 rfl), pr_grown h.pr hg (fun hn x hx e => by have := h.old hn x hx; have := (hr x e.symm).1; omega), h.below.grown hg h.below.size (fun j e => (hr j e).1), h.ge, h.old⟩
theorem kq_cells (h : KQ w b lim A n c ps w1) : w1.cell? ⟨b, 0, none⟩ = some (.int .i64 lim) ∧ w1.cell? ⟨b, 1, none⟩ = some (.slice A n c) ∧ KQ w b lim A n c ps w1 := ⟨blk_cell h.it 0, blk_cell h.it 1, h⟩
theorem kq_of (h : w1.cell? ⟨b, 0, none⟩ = some (.int .i64 lim) ∧ w1.cell? ⟨b, 1, none⟩ = some (.slice A n c) ∧ KQ w b lim A n c ps w1) : KQ w b lim A n c ps w1 := h.2.2
end
theorem qv_sum {lim : Int} {ps : List Pkt} (h : okB ps = true) (h1 : 1 ≤ lim) (h2 : lim ≤ 1000) : decide (sizeSum ps ≤ lim) = qvB lim ps := by
  simp [qvB, h, h1, h2]
set_option maxHeartbeats 1000000 in
theorem qvI_any (lim : Int) (A : Option Addr) (n c : Nat) (ps : List Pkt) (w : World) (h : PR w A n ps) (hn : n ≤ 9223372036854775807) :
    Calls Try.prog 29 #[.agg #[.int .i64 lim, (.slice A n c)]] w fun e w' => e = .returned (.bool (qvB lim ps)) ∧ Below w.heap.size w w' := by
  have H := Lib.hid h
  clear h
  rcases hok : okB ps with _ | _
  · have Q := Lib.hid (qv_bad (lim := lim) hok)
    have HK := Lib.hid hok
    clear hok
    go_enter Try.func29, Try.ntmps29
    go_wp2_with fail
    refine (sizeI_any A n c ps _ (pr_alloc H.out _) hn).mono ?_
    rintro e w1 ⟨rfl, hb⟩
    obtain ⟨hc1, hf1⟩ := bcell hb
    have B1 := Lib.hid (show Below w.heap.size w w1 from (by first | exact below_seq (Below.refl w.heap.size w) hb | exact below_seq1 (Below.refl w.heap.size w) hb | exact below_seq2 (Below.refl w.heap.size w) hb | exact below_seq3 (Below.refl w.heap.size w) hb | exact below_seq4 (Below.refl w.heap.size w) hb))
    have R1 := Lib.hid hb
    have hz1 := hb.size
    try simp at hz1
    clear hb
    rw [HK.out]
    have D := Lib.hid (show Blk w1 (w.heap.size) 25 #[.int .i64 lim, (.slice A n c)] from (blk_below (blk_new w 25 #[.int .i64 lim, (.slice A n c)]) R1.out (by simp)))
    have Dc0 : World.cell? w1 ⟨w.heap.size, 0, none⟩ = some (.int .i64 lim) := blk_cell D.out 0
    have Df0 : World.frozen? w1 ⟨w.heap.size, 0, none⟩ = false := blk_free D.out 0
    have Dc1 : World.cell? w1 ⟨w.heap.size, 1, none⟩ = some ((.slice A n c)) := blk_cell D.out 1
    have Df1 : World.frozen? w1 ⟨w.heap.size, 1, none⟩ = false := blk_free D.out 1
    clear hc1 hf1
    go_wp2
    go_ret
    exact ⟨ret_bool Q.out.symm, B1.out⟩
  · have HK := Lib.hid hok
    clear hok
    rcases hi : inB lim 1 1000 with _ | _
    · have Q : Hid (qvB lim ps = false) := Lib.hid (qv_lim (by simp only [inB, decide_eq_false_iff_not] at hi; omega))
      go_enter Try.func29, Try.ntmps29
      go_wp2_with fail
      refine (sizeI_any A n c ps _ (pr_alloc H.out _) hn).mono ?_
      rintro e w1 ⟨rfl, hb⟩
      obtain ⟨hc1, hf1⟩ := bcell hb
      have B1 := Lib.hid (show Below w.heap.size w w1 from (by first | exact below_seq (Below.refl w.heap.size w) hb | exact below_seq1 (Below.refl w.heap.size w) hb | exact below_seq2 (Below.refl w.heap.size w) hb | exact below_seq3 (Below.refl w.heap.size w) hb | exact below_seq4 (Below.refl w.heap.size w) hb))
      have R1 := Lib.hid hb
      have hz1 := hb.size
      try simp at hz1
      clear hb
      rw [HK.out]
      have D := Lib.hid (show Blk w1 (w.heap.size) 25 #[.int .i64 lim, (.slice A n c)] from (blk_below (blk_new w 25 #[.int .i64 lim, (.slice A n c)]) R1.out (by simp)))
      have Dc0 : World.cell? w1 ⟨w.heap.size, 0, none⟩ = some (.int .i64 lim) := blk_cell D.out 0
      have Df0 : World.frozen? w1 ⟨w.heap.size, 0, none⟩ = false := blk_free D.out 0
      have Dc1 : World.cell? w1 ⟨w.heap.size, 1, none⟩ = some ((.slice A n c)) := blk_cell D.out 1
      have Df1 : World.frozen? w1 ⟨w.heap.size, 1, none⟩ = false := blk_free D.out 1
      clear hc1 hf1
      go_wp2_with (go_at_call 48; refine (within_any _ _ _ _).mono ?_; rintro e w' ⟨rfl, rfl⟩)
      go_ret
      exact ⟨ret_bool Q.out.symm, B1.out⟩
    · have Q : Hid (decide (szN ps ≤ lim) = qvB lim ps) := Lib.hid (by
        simp only [inB, decide_eq_true_eq] at hi
        rw [sz_yes HK.out, qv_sum HK.out hi.1 hi.2])
      go_enter Try.func29, Try.ntmps29
      go_wp2_with fail
      refine (sizeI_any A n c ps _ (pr_alloc H.out _) hn).mono ?_
      rintro e w1 ⟨rfl, hb⟩
      obtain ⟨hc1, hf1⟩ := bcell hb
      have B1 := Lib.hid (show Below w.heap.size w w1 from (by first | exact below_seq (Below.refl w.heap.size w) hb | exact below_seq1 (Below.refl w.heap.size w) hb | exact below_seq2 (Below.refl w.heap.size w) hb | exact below_seq3 (Below.refl w.heap.size w) hb | exact below_seq4 (Below.refl w.heap.size w) hb))
      have R1 := Lib.hid hb
      have hz1 := hb.size
      try simp at hz1
      clear hb
      rw [HK.out]
      have D := Lib.hid (show Blk w1 (w.heap.size) 25 #[.int .i64 lim, (.slice A n c)] from (blk_below (blk_new w 25 #[.int .i64 lim, (.slice A n c)]) R1.out (by simp)))
      have Dc0 : World.cell? w1 ⟨w.heap.size, 0, none⟩ = some (.int .i64 lim) := blk_cell D.out 0
      have Df0 : World.frozen? w1 ⟨w.heap.size, 0, none⟩ = false := blk_free D.out 0
      have Dc1 : World.cell? w1 ⟨w.heap.size, 1, none⟩ = some ((.slice A n c)) := blk_cell D.out 1
      have Df1 : World.frozen? w1 ⟨w.heap.size, 1, none⟩ = false := blk_free D.out 1
      clear hc1 hf1
      go_wp2_with (go_at_call 48; refine (within_any _ _ _ _).mono ?_; rintro e w' ⟨rfl, rfl⟩)
      go_ret
      exact ⟨ret_bool Q.out, B1.out⟩
set_option maxHeartbeats 4000000 in
theorem qvS_any (lim : Int) (A : Option Addr) (n c : Nat) (ps : List Pkt) (w : World) (h : PR w A n ps) (hn : n ≤ 9223372036854775807) :
    Calls Try.prog 27 #[.agg #[.int .i64 lim, (.slice A n c)]] w fun e w' => e = .returned (.bool (qvB lim ps)) ∧ Below w.heap.size w w' := by
  have K := kq_cells (lim := lim) (c := c) (kq_drew (kq_first (lim := lim) (c := c) w h))
  have B0 := Lib.hid (below_alloc (Below.refl w.heap.size w) (.cells #[.int .i64 lim, (.slice A n c)] 25))
  clear h
  by_cases h1 : 1 ≤ lim
  · by_cases h2 : lim ≤ 1000
    · rcases hok : okB ps with _ | _
      · have Q := Lib.hid (qv_bad (lim := lim) hok)
        have HK := Lib.hid hok
        clear hok
        go_enter Try.func27, Try.ntmps27
        go_wp2_with fail
        first | (go_region_with (go_at_call 56; refine (okS_any A n c ps _ K.2.2.pr hn).mono ?_; rintro e w2 ⟨rfl, hb2⟩; rw [HK.out]; have hS2 := Lib.hid (kq_below K.2.2 hb2); clear hb2)) | fail
        all_goals
          have BW := Lib.hid hS2.out.below
          go_wp2
          go_ret
          exact ⟨ret_bool Q.out.symm, BW.out⟩
      · have Q := Lib.hid (qv_sum hok h1 h2)
        have HK := Lib.hid hok
        clear hok
        go_enter Try.func27, Try.ntmps27
        go_wp2_with fail
        go_region_held3 (fun w' => w'.cell? ⟨w.heap.size, 0, none⟩ = some (.int .i64 lim) ∧ w'.cell? ⟨w.heap.size, 1, none⟩ = some (.slice A n c) ∧ KQ w w.heap.size lim A n c ps w') (first | assumption)
          (first
            | (go_at_call 56; refine (okS_any A n c ps _ (kq_of (by assumption)).pr hn).mono ?_; rintro e w2 ⟨rfl, hb2⟩; rw [HK.out]; have hS2 := kq_cells (kq_below (kq_of (by assumption)) hb2); clear hb2)
            | (go_at_call 54; refine (sumS_any A n c ps _ (kq_of (by assumption)).pr HK.out).mono ?_; rintro e w2 ⟨rfl, rfl⟩))
        all_goals
          have BW := Lib.hid (kq_of (w := w) (b := w.heap.size) (lim := lim) (A := A) (n := n) (c := c) (ps := ps) (by assumption)).below
          go_wp2
          go_ret
          exact ⟨ret_bool Q.out, BW.out⟩
    · have Q : Hid (qvB lim ps = false) := Lib.hid (qv_lim (by omega))
      have hd : decide (lim ≤ 1000) = false := by simp; omega
      clear h2
      go_enter Try.func27, Try.ntmps27
      go_wp2_with fail
      go_quiet (fail)
      go_wp2
      go_ret
      exact ⟨ret_bool Q.out.symm, below_drewN B0.out _⟩
  · have Q : Hid (qvB lim ps = false) := Lib.hid (qv_lim (by omega))
    have hd : decide (1 ≤ lim) = false := by simp; omega
    clear h1
    go_enter Try.func27, Try.ntmps27
    go_wp2_with fail
    go_quiet (fail)
    go_wp2
    go_ret
    exact ⟨ret_bool Q.out.symm, below_drewN B0.out _⟩
end Go.Proofs.Ytapoahoknlaeaab
