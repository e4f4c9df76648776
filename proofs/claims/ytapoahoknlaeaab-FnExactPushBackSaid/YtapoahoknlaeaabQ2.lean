/-
  Chapter 3: equality, copies, room: what the program's functions and the model's return. Conditions: a slice's length fits an int; what is copied has at most 4000000000 packets.
-/
import Derived.Test.YtapoahoknlaeaabQ1
import Derived.Lib.SliceRun
namespace Go.Proofs.Ytapoahoknlaeaab
open Go.RowKit

open Classical in
noncomputable def qsB (l1 : Int) (ps : List Pkt) (l2 : Int) (qs : List Pkt) : Bool := decide (l1 = l2) && sameB ps qs
theorem qs_lim {l1 l2 : Int} {ps qs : List Pkt} (h : l1 ≠ l2) : qsB l1 ps l2 qs = false := by simp [qsB, h]
theorem qs_pks (l : Int) (ps qs : List Pkt) : qsB l ps l qs = sameB ps qs := by simp [qsB]
theorem qs_refl (l : Int) (ps : List Pkt) : qsB l ps l ps = true := by rw [qs_pks, ← same_yes rfl]
set_option maxHeartbeats 1000000 in
theorem sameQI_any (l1 l2 : Int) (A A2 : Option Addr) (n c n2 c2 : Nat) (ps qs : List Pkt) (w : World) (h : PR w A n ps) (h2 : PR w A2 n2 qs) (hn : n ≤ 9223372036854775807) (hn2 : n2 ≤ 9223372036854775807) :
    Calls Try.prog 17 #[.agg #[.int .i64 l1, (.slice A n c)], .agg #[.int .i64 l2, (.slice A2 n2 c2)]] w fun e w' => e = .returned (.bool (qsB l1 ps l2 qs)) ∧ Below w.heap.size w w' := by
  have H := Lib.hid h
  have H2 := Lib.hid h2
  have B0 := Lib.hid (below_alloc (below_alloc (Below.refl w.heap.size w) (.cells #[.int .i64 l1, (.slice A n c)] 25)) (.cells #[.int .i64 l2, (.slice A2 n2 c2)] 25))
  clear h h2
  by_cases hl : l1 = l2
  · subst hl
    rw [qs_pks]
    go_enter Try.func17, Try.ntmps17
    go_wp2_with fail
    refine (sameI_any A A2 n c n2 c2 ps qs _ (pr_alloc (pr_alloc H.out _) _) (pr_alloc (pr_alloc H2.out _) _) hn hn2).mono ?_
    rintro e w1 ⟨rfl, hb⟩
    obtain ⟨hc1, hf1⟩ := bcell hb
    have B1 := Lib.hid (show Below w.heap.size w w1 from (by first | exact below_seq (Below.refl w.heap.size w) hb | exact below_seq1 (Below.refl w.heap.size w) hb | exact below_seq2 (Below.refl w.heap.size w) hb | exact below_seq3 (Below.refl w.heap.size w) hb | exact below_seq4 (Below.refl w.heap.size w) hb))
    have R1 := Lib.hid hb
    have hz1 := hb.size
    try simp at hz1
    clear hb
    go_wp2
    go_ret
    exact ⟨rfl, B1.out⟩
  · have Q := Lib.hid (qs_lim (ps := ps) (qs := qs) hl)
    have hb : (l1 == l2) = false := by simp [hl]
    clear hl
    go_enter Try.func17, Try.ntmps17
    go_wp2
    go_ret
    exact ⟨ret_bool Q.out.symm, B0.out⟩
set_option maxHeartbeats 1000000 in
theorem sameQS_any (l1 l2 : Int) (A A2 : Option Addr) (n c n2 c2 : Nat) (ps qs : List Pkt) (w : World) (h : PR w A n ps) (h2 : PR w A2 n2 qs) (hn : n ≤ 9223372036854775807) (hn2 : n2 ≤ 9223372036854775807) :
    Calls Try.prog 31 #[.agg #[.int .i64 l1, (.slice A n c)], .agg #[.int .i64 l2, (.slice A2 n2 c2)]] w fun e w' => e = .returned (.bool (qsB l1 ps l2 qs)) ∧ Below w.heap.size w w' := by
  have H := Lib.hid h
  have H2 := Lib.hid h2
  have B0 := Lib.hid (below_alloc (below_alloc (Below.refl w.heap.size w) (.cells #[.int .i64 l1, (.slice A n c)] 25)) (.cells #[.int .i64 l2, (.slice A2 n2 c2)] 25))
  clear h h2
  by_cases hl : l1 = l2
  · subst hl
    rw [qs_pks]
    go_enter Try.func31, Try.ntmps31
    go_wp2_with fail
    refine (sameS_any A A2 n c n2 c2 ps qs _ (pr_alloc (pr_alloc H.out _) _) (pr_alloc (pr_alloc H2.out _) _) hn hn2).mono ?_
    rintro e w1 ⟨rfl, hb⟩
    obtain ⟨hc1, hf1⟩ := bcell hb
    have B1 := Lib.hid (show Below w.heap.size w w1 from (by first | exact below_seq (Below.refl w.heap.size w) hb | exact below_seq1 (Below.refl w.heap.size w) hb | exact below_seq2 (Below.refl w.heap.size w) hb | exact below_seq3 (Below.refl w.heap.size w) hb | exact below_seq4 (Below.refl w.heap.size w) hb))
    have R1 := Lib.hid hb
    have hz1 := hb.size
    try simp at hz1
    clear hb
    go_wp2
    go_ret
    exact ⟨rfl, B1.out⟩
  · have Q := Lib.hid (qs_lim (ps := ps) (qs := qs) hl)
    have hb : (l1 == l2) = false := by simp [hl]
    clear hl
    go_enter Try.func31, Try.ntmps31
    go_wp2
    go_ret
    exact ⟨ret_bool Q.out.symm, B0.out⟩
def roomN (lim : Int) (ps : List Pkt) : Int := if qvB lim ps = true then lim - sizeSum ps else 0
theorem room_yes {lim : Int} {ps : List Pkt} (h : qvB lim ps = true) : roomN lim ps = lim - sizeSum ps := if_pos h
theorem room_no {lim : Int} {ps : List Pkt} (h : qvB lim ps = false) : roomN lim ps = 0 := if_neg (by rw [h]; exact Bool.false_ne_true)
set_option maxHeartbeats 1000000 in
theorem roomI_any (lim : Int) (A : Option Addr) (n c : Nat) (ps : List Pkt) (w : World) (h : PR w A n ps) (hn : n ≤ 9223372036854775807) :
    Calls Try.prog 19 #[.agg #[.int .i64 lim, (.slice A n c)]] w fun e w' => e = .returned (.tuple #[.int .i64 (roomN lim ps), .bool (qvB lim ps)]) ∧ Below w.heap.size w w' := by
  have H := Lib.hid h
  clear h
  rcases hq : qvB lim ps with _ | _
  · have Q := Lib.hid (room_no hq)
    have HQ := Lib.hid hq
    clear hq
    go_enter Try.func19, Try.ntmps19
    go_wp2_with fail
    refine (qvI_any lim A n c ps _ (pr_alloc H.out _) hn).mono ?_
    rintro e w1 ⟨rfl, hb⟩
    obtain ⟨hc1, hf1⟩ := bcell hb
    have B1 := Lib.hid (show Below w.heap.size w w1 from (by first | exact below_seq (Below.refl w.heap.size w) hb | exact below_seq1 (Below.refl w.heap.size w) hb | exact below_seq2 (Below.refl w.heap.size w) hb | exact below_seq3 (Below.refl w.heap.size w) hb | exact below_seq4 (Below.refl w.heap.size w) hb))
    have R1 := Lib.hid hb
    have hz1 := hb.size
    try simp at hz1
    clear hb
    rw [HQ.out]
    go_wp2
    go_ret2
    exact ⟨ret_two Q.out.symm rfl, B1.out⟩
  · have Q := Lib.hid (room_yes hq)
    have HQ := Lib.hid hq
    obtain ⟨q1, q2, q3, q4, q5, q6⟩ := qv_of hq
    have HZ := Lib.hid (sz_yes q1)
    have HK := Lib.hid q1
    obtain ⟨z, hz⟩ : ∃ z, z = szN ps := ⟨_, rfl⟩
    have z0 : 0 ≤ z := by rw [hz, HZ.out]; exact q5
    have z1 : z ≤ lim := by rw [hz, HZ.out]; exact q4
    have HY := Lib.hid hz
    clear hq q1 q4 q5 hz
    go_enter Try.func19, Try.ntmps19
    go_wp2_with fail
    refine (qvI_any lim A n c ps _ (pr_alloc H.out _) hn).mono ?_
    rintro e w1 ⟨rfl, hb⟩
    obtain ⟨hc1, hf1⟩ := bcell hb
    have B1 := Lib.hid (show Below w.heap.size w w1 from (by first | exact below_seq (Below.refl w.heap.size w) hb | exact below_seq1 (Below.refl w.heap.size w) hb | exact below_seq2 (Below.refl w.heap.size w) hb | exact below_seq3 (Below.refl w.heap.size w) hb | exact below_seq4 (Below.refl w.heap.size w) hb))
    have R1 := Lib.hid hb
    have hz1 := hb.size
    try simp at hz1
    clear hb
    rw [HQ.out]
    have D := Lib.hid (show Blk w1 (w.heap.size) 25 #[.int .i64 lim, (.slice A n c)] from (blk_below (blk_new w 25 #[.int .i64 lim, (.slice A n c)]) R1.out (by simp)))
    have Dc0 : World.cell? w1 ⟨w.heap.size, 0, none⟩ = some (.int .i64 lim) := blk_cell D.out 0
    have Df0 : World.frozen? w1 ⟨w.heap.size, 0, none⟩ = false := blk_free D.out 0
    have Dc1 : World.cell? w1 ⟨w.heap.size, 1, none⟩ = some ((.slice A n c)) := blk_cell D.out 1
    have Df1 : World.frozen? w1 ⟨w.heap.size, 1, none⟩ = false := blk_free D.out 1
    clear hc1 hf1
    go_wp2_with fail
    refine (sizeI_any A n c ps _ (pr_below (pr_alloc H.out _) R1.out) hn).mono ?_
    rintro e w2 ⟨rfl, hb⟩
    obtain ⟨hc2, hf2⟩ := bcell hb
    have B2 := Lib.hid (show Below w.heap.size w w2 from (by first | exact below_seq B1.out hb | exact below_seq1 B1.out hb | exact below_seq2 B1.out hb | exact below_seq3 B1.out hb | exact below_seq4 B1.out hb))
    have R2 := Lib.hid hb
    have hz2 := hb.size
    try simp at hz2
    clear hb
    rw [HK.out, ← HY.out]
    have E := Lib.hid (show Blk w2 (w.heap.size) 25 #[.int .i64 lim, (.slice A n c)] from (blk_below D.out R2.out (by omega)))
    have Ec0 : World.cell? w2 ⟨w.heap.size, 0, none⟩ = some (.int .i64 lim) := blk_cell E.out 0
    have Ef0 : World.frozen? w2 ⟨w.heap.size, 0, none⟩ = false := blk_free E.out 0
    have Ec1 : World.cell? w2 ⟨w.heap.size, 1, none⟩ = some ((.slice A n c)) := blk_cell E.out 1
    have Ef1 : World.frozen? w2 ⟨w.heap.size, 1, none⟩ = false := blk_free E.out 1
    clear hc2 hf2 Dc0 Dc1 Df0 Df1
    go_wp2
    go_ret2
    exact ⟨ret_two (by rw [Q.out, ← HZ.out, HY.out]) rfl, B2.out⟩
theorem sumS_is (A : Option Addr) (n c : Nat) (ps : List Pkt) (z : Int) (w : World) (h : PR w A n ps) (hok : okB ps = true) (hz : z = sizeSum ps) :
    Calls Try.prog 54 #[.slice A n c] w fun e w' => e = .returned (.int .i64 z) ∧ w' = w := by
  subst hz
  exact (sumS_any A n c ps w h hok).mono fun _ _ h => ⟨h.1, h.2.symm⟩
set_option maxHeartbeats 1000000 in
theorem roomS_any (lim : Int) (A : Option Addr) (n c : Nat) (ps : List Pkt) (w : World) (h : PR w A n ps) (hn : n ≤ 9223372036854775807) :
    Calls Try.prog 25 #[.agg #[.int .i64 lim, (.slice A n c)]] w fun e w' => e = .returned (.tuple #[.int .i64 (roomN lim ps), .bool (qvB lim ps)]) ∧ Below w.heap.size w w' := by
  have H := Lib.hid h
  clear h
  rcases hq : qvB lim ps with _ | _
  · have Q := Lib.hid (room_no hq)
    have HQ := Lib.hid hq
    clear hq
    go_enter Try.func25, Try.ntmps25
    go_wp2_with fail
    refine (qvS_any lim A n c ps _ (pr_alloc H.out _) hn).mono ?_
    rintro e w1 ⟨rfl, hb⟩
    obtain ⟨hc1, hf1⟩ := bcell hb
    have B1 := Lib.hid (show Below w.heap.size w w1 from (by first | exact below_seq (Below.refl w.heap.size w) hb | exact below_seq1 (Below.refl w.heap.size w) hb | exact below_seq2 (Below.refl w.heap.size w) hb | exact below_seq3 (Below.refl w.heap.size w) hb | exact below_seq4 (Below.refl w.heap.size w) hb))
    have R1 := Lib.hid hb
    have hz1 := hb.size
    try simp at hz1
    clear hb
    rw [HQ.out]
    go_wp2
    go_ret2
    exact ⟨ret_two Q.out.symm rfl, B1.out⟩
  · have Q := Lib.hid (room_yes hq)
    have HQ := Lib.hid hq
    obtain ⟨q1, q2, q3, q4, q5, q6⟩ := qv_of hq
    have HK := Lib.hid q1
    obtain ⟨z, hz⟩ : ∃ z, z = sizeSum ps := ⟨_, rfl⟩
    rw [← hz] at q4 q5
    have HY := Lib.hid hz
    clear hq q1 hz
    have y0 : 0 ≤ lim - z := by omega
    go_enter Try.func25, Try.ntmps25
    go_wp2_with fail
    refine (qvS_any lim A n c ps _ (pr_alloc H.out _) hn).mono ?_
    rintro e w1 ⟨rfl, hb⟩
    obtain ⟨hc1, hf1⟩ := bcell hb
    have B1 := Lib.hid (show Below w.heap.size w w1 from (by first | exact below_seq (Below.refl w.heap.size w) hb | exact below_seq1 (Below.refl w.heap.size w) hb | exact below_seq2 (Below.refl w.heap.size w) hb | exact below_seq3 (Below.refl w.heap.size w) hb | exact below_seq4 (Below.refl w.heap.size w) hb))
    have R1 := Lib.hid hb
    have hz1 := hb.size
    try simp at hz1
    clear hb
    rw [HQ.out]
    have D := Lib.hid (show Blk w1 (w.heap.size) 25 #[.int .i64 lim, (.slice A n c)] from (blk_below (blk_new w 25 #[.int .i64 lim, (.slice A n c)]) R1.out (by simp)))
    have Dc0 : World.cell? w1 ⟨w.heap.size, 0, none⟩ = some (.int .i64 lim) := blk_cell D.out 0
    have Df0 : World.frozen? w1 ⟨w.heap.size, 0, none⟩ = false := blk_free D.out 0
    have Dc1 : World.cell? w1 ⟨w.heap.size, 1, none⟩ = some ((.slice A n c)) := blk_cell D.out 1
    have Df1 : World.frozen? w1 ⟨w.heap.size, 1, none⟩ = false := blk_free D.out 1
    clear hc1 hf1
    have HP1 := Lib.hid (pr_below (pr_alloc H.out _) R1.out)
    have y1 : IntKind.i64.wrap (lim - z) = lim - z := IntWalk.i64_in _ (by omega)
    go_wp2_with fail
    go_quiet ((go_at_call 54; exact Calls.quiet_of_same (sumS_is A n c ps z _ HP1.out HK.out HY.out)))
    clear y1
    go_wp2
    go_ret2
    exact ⟨ret_two (by rw [Q.out, HY.out]) rfl, below_drewN B1.out _⟩
set_option maxHeartbeats 1000000 in
theorem clone_any (A : Option Addr) (n c : Nat) (ps : List Pkt) (w : World) (h : PR w A n ps) (hn : n ≤ 4000000000) :
    Calls Try.prog 63 #[.slice A n c] w (OwnPost w n ps) := by
  cases A with
  | none =>
    have hm : n = 0 := by
      rcases Nat.eq_zero_or_pos n with hm | hm
      · exact hm
      · obtain ⟨b, off, e, _⟩ := h.2 hm
        cases e
    subst hm
    have hq : ps = [] := List.eq_nil_of_length_eq_zero h.1
    subst hq
    clear h
    have q23 : ∀ (w : World) (a : Option Addr) (n c n' c' : Nat), (binOp .eql 23 (.slice a n c) (.slice none n' c')).run Try.prog w = .ok (.bool a.isNone) w := fun w a n c n' c' => Lib.run_eql_slice_nil w _ _ a n c n' c' Try.underlying23
    go_enter Try.func63, Try.ntmps63
    go_wp2
    go_ret
    exact ⟨none, 0, rfl, World.ownsRow_nil _ _ _ _, Below.refl _ _⟩
  | some ad =>
    have H := Lib.hid h
    have O0 := Lib.hid (own_empty (w := w) (Below.refl _ _))
    clear h
    have q23 : ∀ (w : World) (a : Option Addr) (n c n' c' : Nat), (binOp .eql 23 (.slice a n c) (.slice none n' c')).run Try.prog w = .ok (.bool a.isNone) w := fun w a n c n' c' => Lib.run_eql_slice_nil w _ _ a n c n' c' Try.underlying23
    go_enter Try.func63, Try.ntmps63
    go_wp2_with (at_builtin; refine wp_app_pkts _ rfl (.tmp 5) (.tmp 6) rfl w.heap.size (.slice (some ⟨w.heap.size, 0, none⟩) 0 0) 0 [] rfl O0.out (some ad) n c ps rfl (pr_alloc H.out _) (by omega) (by simp) ?_; intro v1 w3 ho3 hg3; simp only [List.nil_append, Nat.zero_add] at ho3; have T3 := Lib.hid (app_belowQ O0.out (below_alloc (Below.refl _ _) _) hg3 (by simp)); clear hg3)
    obtain ⟨A2, c2, rfl, hmc, hcm, -⟩ := own_form ho3
    have O3 := Lib.hid ho3
    clear ho3
    go_wp2
    go_ret
    exact ⟨A2, c2, rfl, O3.out, T3.out⟩
def CopyQPost (w : World) (lim : Int) (n : Nat) (ps : List Pkt) (e : Ending) (w' : World) : Prop :=
  ∃ A c, e = .returned (.agg #[.int .i64 lim, (.slice A n c)]) ∧ w'.ownsRow w.heap.size 51 4 (.slice A n c) n (pcells ps) ∧ Below w.heap.size w w'
theorem blk_two {w : World} {b : Nat} {t : TypeId} {x y : Value} (h : Blk w b t #[x, y]) : w.cell? ⟨b, 0, none⟩ = some x ∧ w.cell? ⟨b, 1, none⟩ = some y ∧ w.frozen? ⟨b, 0, none⟩ = false ∧ w.frozen? ⟨b, 1, none⟩ = false :=
  ⟨blk_cell h 0, blk_cell h 1, blk_free h 0, blk_free h 1⟩
set_option maxHeartbeats 2000000 in
theorem copyI_any (lim : Int) (A : Option Addr) (n c : Nat) (ps : List Pkt) (w : World) (h : PR w A n ps) (hn : n ≤ 4000000000) :
    Calls Try.prog 62 #[.agg #[.int .i64 lim, (.slice A n c)]] w (CopyQPost w lim n ps) := by
  have K0 := kq_cells (kq_drew (kq_alloc (kq_first (lim := lim) (c := c) w h) (.cells #[.int .i64 0, (.slice none 0 0)] 25)))
  have O0 := Lib.hid (show Blk ((w.alloc (.cells #[.int .i64 lim, (.slice A n c)] 25)).alloc (.cells #[.int .i64 0, (.slice none 0 0)] 25)).drew (w.heap.size + 1) 25 #[.int .i64 0, (.slice none 0 0)] from blk_new2 _ _ _ _)
  clear h
  go_enter Try.func62, Try.ntmps62
  go_wp2_with fail
  go_region_held3 (fun w' => w'.cell? ⟨w.heap.size, 0, none⟩ = some (.int .i64 lim) ∧ w'.cell? ⟨w.heap.size, 1, none⟩ = some (.slice A n c) ∧ KQ w w.heap.size lim A n c ps w') (first | assumption | (exact kq_cells (kq_set (kq_set (kq_of (by assumption)) (by simp) (by simp) _) (by simp) (by simp) _)))
    (first
      | (go_at_call 63; refine (clone_any A n c ps _ (kq_of (by assumption)).pr hn).mono ?_; rintro e w2 ⟨A2, c2, rfl, ho2, hb2⟩; have hS2 := kq_cells (kq_below (kq_of (by assumption)) hb2); have hO2 := Lib.hid ho2; obtain ⟨d0, d1, f0, f1⟩ := blk_two (blk_below O0.out hb2 (by simp)); clear hb2 ho2))
  all_goals
    have BW := Lib.hid (kq_of (w := w) (b := w.heap.size) (lim := lim) (A := A) (n := n) (c := c) (ps := ps) (by assumption)).below
    go_wp2
    refine bodyPost_ret (v := .agg #[.int .i64 lim, (.slice A2 n c2)]) (by simp [results, Try.results62, go_sem, d0, d1]) rfl ⟨A2, c2, rfl, ?_, BW.out⟩
    exact own_mono (own_set_far (own_set_far hO2.out (by simp) _) (by simp) _) (by simp <;> omega)
set_option maxHeartbeats 2000000 in
theorem copyS_any (lim : Int) (A : Option Addr) (n c : Nat) (ps : List Pkt) (w : World) (h : PR w A n ps) (hn : n ≤ 4000000000) :
    Calls Try.prog 60 #[.agg #[.int .i64 lim, (.slice A n c)]] w (CopyQPost w lim n ps) := by
  have K0 := kq_cells (kq_drew (kq_alloc (kq_first (lim := lim) (c := c) w h) (.cells #[.int .i64 0, (.slice none 0 0)] 25)))
  have O0 := Lib.hid (show Blk ((w.alloc (.cells #[.int .i64 lim, (.slice A n c)] 25)).alloc (.cells #[.int .i64 0, (.slice none 0 0)] 25)).drew (w.heap.size + 1) 25 #[.int .i64 0, (.slice none 0 0)] from blk_new2 _ _ _ _)
  clear h
  go_enter Try.func60, Try.ntmps60
  go_wp2_with fail
  go_region_held3 (fun w' => w'.cell? ⟨w.heap.size, 0, none⟩ = some (.int .i64 lim) ∧ w'.cell? ⟨w.heap.size, 1, none⟩ = some (.slice A n c) ∧ KQ w w.heap.size lim A n c ps w')
    (first | assumption | (exact kq_cells (kq_alloc (kq_of (by assumption)) _)) | (exact kq_cells (kq_set (kq_set (kq_of (by assumption)) (by simp) (by simp) _) (by simp) (by simp) _)))
    (first
      | (refine step_app_pkts _ rfl (.tmp 5) (.tmp 7) rfl _ (.slice (some ⟨w.heap.size + 2, 0, none⟩) 0 0) 0 [] rfl (own_emptyQ (by simp)) A n c ps rfl (kq_of (by assumption)).pr (by omega) (by simp) ?_
         intro v1 w3 ho3 hg3 hat3
         simp only [List.nil_append, Nat.zero_add] at ho3
         obtain ⟨A2, c2, rfl, hmc, hcm, -⟩ := own_form ho3
         have hS3 := kq_cells (kq_grown (kq_of (by assumption)) hg3 (fun g hg => by simp [Value.ownBlock] at hg; omega))
         obtain ⟨d0, d1, f0, f1⟩ := blk_two (blk_grownQ (blk_alloc O0.out _) hg3 (by simp [Value.ownBlock]))
         have hO2 := Lib.hid ho3
         clear hg3 hat3 ho3 hmc hcm))
  all_goals
    have BW := Lib.hid (kq_of (w := w) (b := w.heap.size) (lim := lim) (A := A) (n := n) (c := c) (ps := ps) (by assumption)).below
    go_wp2
    refine bodyPost_ret (v := .agg #[.int .i64 lim, (.slice A2 n c2)]) (by simp [results, Try.results60, go_sem, d0, d1]) rfl ⟨A2, c2, rfl, ?_, BW.out⟩
    exact own_mono (own_set_far (own_set_far hO2.out (by simp) _) (by simp) _) (by simp <;> omega)
end Go.Proofs.Ytapoahoknlaeaab
