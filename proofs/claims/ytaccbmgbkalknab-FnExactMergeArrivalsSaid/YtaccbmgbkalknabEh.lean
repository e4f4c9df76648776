/-
  Chapter 10: MergeArrivals: what the program's function returns of fewer than 20 arrivals. Conditions: the slices' lengths fit an int.
-/
import Derived.Test.YtaccbmgbkalknabE9
import Derived.Test.YtaccbmgbkalknabE1
import Derived.Lib.AppendZerosOnto
namespace Go.Proofs.Ytaccbmgbkalknab
open Go.RowKit

theorem ret_vb {v : Value} {a b : Bool} (h : a = b) : Ending.returned (.tuple #[v, .bool a]) = .returned (.tuple #[v, .bool b]) := by rw [h]
def mgB (ps qs : List Arr) : Bool := avB ps && avB qs && decide (ps.length + qs.length ≤ 32)
def mgL (ps qs : List Arr) : List Arr := if mgB ps qs = true then finA ps qs else []
theorem mg_of {ps qs : List Arr} (h : mgB ps qs = true) : avB ps = true ∧ avB qs = true ∧ ps.length + qs.length ≤ 32 := by
  simp only [mgB, Bool.and_eq_true, decide_eq_true_eq] at h
  exact ⟨h.1.1, h.1.2, h.2⟩
theorem mgL_yes {ps qs : List Arr} (h : mgB ps qs = true) : mgL ps qs = finA ps qs := if_pos h
theorem mgL_no {ps qs : List Arr} (h : mgB ps qs = false) : mgL ps qs = [] := if_neg (by rw [h]; exact Bool.false_ne_true)
def MgPost (w : World) (ps qs : List Arr) (e : Ending) (w' : World) : Prop :=
  ∃ A n c, e = .returned (.tuple #[.slice A n c, .bool (mgB ps qs)]) ∧ w'.ownsRow w.heap.size 33 2 (.slice A n c) n (acells (mgL ps qs)) ∧ Below w.heap.size w w'
def GrowA (w : World) (e : Ending) (w' : World) : Prop := ∃ v, e = .returned v ∧ w'.ownsRow w.heap.size 33 2 v 0 (acells []) ∧ Below w.heap.size w w'
set_option maxHeartbeats 1000000 in
theorem growA_any (n : Nat) (w : World) (hn : n ≤ 64) : Calls Try.prog 20 #[.slice none 0 0, .int .i64 (n : Int)] w (GrowA w) := by
  rcases Nat.eq_zero_or_pos n with h0 | h0
  · subst h0
    go_enter Try.func20, Try.ntmps20
    go_wp2
    go_ret
    exact ⟨_, rfl, World.ownsRow_nil _ _ _ _, Below.refl _ _⟩
  · obtain ⟨i0, hi, hz0, hz1, hz2⟩ := info_parts infoArr
    have hr : ∀ ty, (Builtin.append_ #[24, 3] ty #[.slice none 0 0, .int .i64 (n : Int)]).run Try.prog w =
        .ok (.slice (some ⟨w.heap.size, 0, none⟩) n (grownCap w n 0 33)) (w.drew.alloc (.cells ((#[] : Array Value) ++ Builtin.zeroCells (Value.cells (.agg #[.int .i64 0, .int .i64 0])) n ++ Builtin.zeroCells (Value.cells (.agg #[.int .i64 0, .int .i64 0])) (grownCap w n 0 33 - n)) 33)) := fun ty => by
      have h := Lib.run_append_grow_zeros (P := Try.prog) w 24 3 ty 33 i0 _ .i64 .i64 Try.underlying24 Try.underlying3 hi hz0 none 0 0 [] (run_firstCells_none _ _ _ _ _) n h0 (by rw [hz1]; decide) (by omega) (by omega) (by rw [hz2]; omega)
        (growslice_fits (by omega) (by rw [hz2]; omega))
      rw [Nat.zero_add] at h
      exact h
    have hG := grownCap_ge w n 0 33
    have hGm := grownCap_le_maxLen w n 0 33 (by unfold maxLen; omega)
    have hG63 : grownCap w n 0 33 ≤ 9223372036854775807 := by unfold maxLen at hGm; omega
    generalize grownCap w n 0 33 = G at hr hG hGm hG63
    have n0 : (0 : Int) < (n : Int) := by omega
    have O := Lib.hid (show (w.drew.alloc (.cells ((#[] : Array Value) ++ Builtin.zeroCells (Value.cells (.agg #[.int .i64 0, .int .i64 0])) n ++ Builtin.zeroCells (Value.cells (.agg #[.int .i64 0, .int .i64 0])) (G - n)) 33)).ownsRow w.heap.size 33 2 (.slice (some ⟨w.heap.size, 0, none⟩) 0 G) 0 (acells []) from
      ⟨rfl, .inr ⟨w.heap.size, G, _, rfl, Nat.le_refl _, heap_alloc_new w.drew _, Nat.zero_le _, hGm, by simp [size_zeroCells, Value.cells]; omega, rfl⟩⟩)
    have B := Lib.hid (show Below w.heap.size w (w.drew.alloc (.cells ((#[] : Array Value) ++ Builtin.zeroCells (Value.cells (.agg #[.int .i64 0, .int .i64 0])) n ++ Builtin.zeroCells (Value.cells (.agg #[.int .i64 0, .int .i64 0])) (G - n)) 33)) from (Below.refl _ _).drew.alloc (Nat.le_refl _) _)
    generalize w.drew.alloc (.cells ((#[] : Array Value) ++ Builtin.zeroCells (Value.cells (.agg #[.int .i64 0, .int .i64 0])) n ++ Builtin.zeroCells (Value.cells (.agg #[.int .i64 0, .int .i64 0])) (G - n)) 33) = w2 at hr O B
    have HR := Lib.hid hr
    clear hr
    go_enter Try.func20, Try.ntmps20
    go_wp2_with (at_builtin; refine Lib.wpList_append_run _ rfl _ _ _ _ rfl _ _ rfl rfl _ _ (HR.out _) ?_)
    go_ret
    exact ⟨_, rfl, O.out, B.out⟩
def CatA (w : World) (n : Nat) (ps : List Arr) (e : Ending) (w' : World) : Prop :=
  ∃ A c, e = .returned (.slice A n c) ∧ w'.ownsRow w.heap.size 33 2 (.slice A n c) n (acells ps) ∧ Below w.heap.size w w'
set_option maxHeartbeats 2000000 in
theorem catA_any (bo : Nat) (A B : Option Addr) (n c m d : Nat) (ps qs : List Arr) (w : World) (h0 : w.cell? ⟨bo, 0, none⟩ = some (.slice A n c)) (h1 : w.cell? ⟨bo, 1, none⟩ = some (.slice B m d)) (hb : bo < w.heap.size) (hp : AR w A n ps) (hq : AR w B m qs) (hn : n + m ≤ 64) :
    Calls Try.prog 14 #[.slice (some ⟨bo, 0, none⟩) 2 2] w (CatA w (n + m) (ps ++ qs)) := by
  have HP := Lib.hid hp
  have HQ := Lib.hid hq
  have H1 := Lib.hid h1
  clear hp hq
  have s1 : (0 : Int) ≤ (n : Int) + (m : Int) := by omega
  have s2 : (n : Int) + (m : Int) = ((n + m : Nat) : Int) := by omega
  have S2 := Lib.hid s2
  clear s2
  go_enter Try.func14, Try.ntmps14
  go_wp2
  refine wp_loop_rounds 3 ?_
  rw [rounds_succ]
  go_wp2
  rw [rounds_succ]
  go_wp2
  rw [rounds_succ]
  go_wp2_with fail
  rw [S2.out]
  refine (growA_any (n + m) _ (by omega)).mono ?_
  rintro e w1 ⟨v1, rfl, ho1, hb1⟩
  have O1 := Lib.hid ho1
  have B1 := Lib.hid hb1
  have P1 := Lib.hid (ar_below HP.out hb1)
  have Q1 := Lib.hid (ar_below HQ.out hb1)
  have g0 : w1.cell? ⟨bo, 0, none⟩ = some (.slice A n c) := ((bcell hb1).1 _ 0 hb).trans h0
  have g1 : w1.cell? ⟨bo, 1, none⟩ = some (.slice B m d) := ((bcell hb1).1 _ 1 hb).trans h1
  have hz1 := hb1.size
  clear ho1 hb1 h0 h1
  go_wp2
  refine wp_loop_rounds 3 ?_
  rw [rounds_succ]
  go_wp2_with (at_builtin; refine wpl_app_arrs _ rfl (.tmp 31) (.tmp 32) rfl w.heap.size v1 0 [] rfl O1.out A n c ps rfl P1.out (by omega) hz1 ?_; intro v2 w2 ho2 hg2 hat2; simp only [List.nil_append, Nat.zero_add] at ho2; have O2 := Lib.hid ho2; have B2 := Lib.hid (app_belowA O1.out B1.out hg2 hz1); have k2 := hg2.size; have Q2 := Lib.hid (ar_below HQ.out B2.out); have e1 : w2.cell? ⟨bo, 1, none⟩ = some (.slice B m d) := ((bcell B2.out).1 _ 1 hb).trans H1.out; clear ho2 hg2 hat2)
  rw [rounds_succ]
  go_wp2_with (at_builtin; refine wpl_app_arrs _ rfl (.tmp 31) (.tmp 32) rfl w.heap.size v2 n ps rfl O2.out B m d qs rfl Q2.out (by omega) (by omega) ?_; intro v3 w3 ho3 hg3 hat3; have O3 := Lib.hid ho3; have B3 := Lib.hid (app_belowA O2.out B2.out hg3 (by omega)); clear ho3 hg3 hat3)
  rw [rounds_succ]
  obtain ⟨A3, c3, rfl, -, -, -⟩ := own_form O3.out
  go_wp2
  go_ret
  exact ⟨A3, c3, rfl, O3.out, B3.out⟩
set_option maxHeartbeats 2000000 in
theorem mgI_any (A B : Option Addr) (n c m d : Nat) (ps qs : List Arr) (w : World) (hp : AR w A n ps) (hq : AR w B m qs) (hn : n ≤ 9223372036854775807) (hm : m ≤ 9223372036854775807) (hsm : mgB ps qs = true → n + m < 20) :
    Calls Try.prog 7 #[.slice A n c, .slice B m d] w (MgPost w ps qs) := by
  have HP := Lib.hid hp
  have HQ := Lib.hid hq
  have HSM := Lib.hid hsm
  clear hp hq hsm
  rcases h1 : avB ps with _ | _
  · have HK := Lib.hid (show mgB ps qs = false by rw [mgB, h1, Bool.false_and, Bool.false_and])
    go_enter Try.func7, Try.ntmps7
    go_wp2_with (go_at_call 13; refine (avI_any A n c ps _ HP.out hn).mono ?_; rintro e w1 ⟨rfl, hb1⟩; have B1 := Lib.hid hb1; clear hb1)
    go_ret2
    exact ⟨none, 0, 0, ret_vb HK.out.symm, by rw [mgL_no HK.out]; exact World.ownsRow_nil _ _ _ _, B1.out⟩
  · rcases h2 : avB qs with _ | _
    · have HK := Lib.hid (show mgB ps qs = false by rw [mgB, h2, Bool.and_false, Bool.false_and])
      go_enter Try.func7, Try.ntmps7
      go_wp2_with fail
      refine (avI_any A n c ps _ HP.out hn).mono ?_
      rintro e w1 ⟨rfl, hb1⟩
      rw [h1]
      have B1 := Lib.hid hb1
      clear hb1
      go_wp2_with (go_at_call 13; refine (avI_any B m d qs _ (ar_below HQ.out B1.out) hm).mono ?_; rintro e w2 ⟨rfl, hb2⟩; have B2 := Lib.hid (below_seq B1.out hb2); clear hb2)
      go_ret2
      exact ⟨none, 0, 0, ret_vb HK.out.symm, by rw [mgL_no HK.out]; exact World.ownsRow_nil _ _ _ _, B2.out⟩
    · have la := (av_of h1).1
      have lb := (av_of h2).1
      have na : n ≤ 32 := by have := HP.out.1; omega
      have nb : m ≤ 32 := by have := HQ.out.1; omega
      by_cases h3 : n + m ≤ 32
      · have HK := Lib.hid (show mgB ps qs = true by rw [mgB, h1, h2, decide_eq_true (by have := HP.out.1; have := HQ.out.1; omega)]; rfl)
        have hs20 := HSM.out HK.out
        have i3 : decide ((32 : Int) < (n : Int) + (m : Int)) = false := by rw [decide_eq_false_iff_not]; omega
        have HV := Lib.hid (And.intro (av_of h1).2 (av_of h2).2)
        have HAV := Lib.hid (show AllV (ps ++ qs) from fun z hz => by
          rcases List.mem_append.1 hz with e | e
          · exact allv_of HV.out.1 (Int.le_refl _) z e
          · exact allv_of HV.out.2 (Int.le_refl _) z e)
        go_enter Try.func7, Try.ntmps7
        go_wp2_with fail
        refine (avI_any A n c ps _ HP.out hn).mono ?_
        rintro e w1 ⟨rfl, hb1⟩
        rw [h1]
        have B1 := Lib.hid hb1
        clear hb1
        go_wp2_with fail
        refine (avI_any B m d qs _ (ar_below HQ.out B1.out) hm).mono ?_
        rintro e w2 ⟨rfl, hb2⟩
        rw [h2]
        have B2 := Lib.hid (below_seq B1.out hb2)
        have hz2 := B2.out.size
        clear hb2
        go_wp2_with fail
        refine (catA_any w2.heap.size A B n c m d ps qs _ (blk_cell (blk_new w2 _ _) 0) (blk_cell (blk_new w2 _ _) 1) (by simp) (ar_alloc (ar_below HP.out B2.out) _) (ar_alloc (ar_below HQ.out B2.out) _) (by omega)).mono ?_
        rintro e w3 ⟨A3, c3, rfl, ho3, hb3⟩
        have B3 := Lib.hid (below_seq1 B2.out hb3)
        have O3 := Lib.hid (own_mono (b2 := w.heap.size) ho3 (by simp; omega))
        clear ho3 hb3
        rcases Nat.eq_zero_or_pos (n + m) with hz | hz
        · have hps : ps = [] := List.eq_nil_of_length_eq_zero (by have := HP.out.1; omega)
          have hqs : qs = [] := List.eq_nil_of_length_eq_zero (by have := HQ.out.1; omega)
          rw [hz] at O3 ⊢
          go_wp2_with fail
          refine (sortI_nil A3 c3 _).mono ?_
          rintro e w4 ⟨rfl, rfl⟩
          go_wp2
          go_ret2
          exact ⟨A3, 0, c3, ret_vb HK.out.symm, by rw [mgL_yes HK.out]; have := O3.out; subst hps hqs; exact this, B3.out⟩
        · obtain ⟨b3, c3', hv3, hbb3, -⟩ := O3.out.form hz
          obtain ⟨rfl, rfl⟩ : A3 = some ⟨b3, 0, none⟩ ∧ c3 = c3' := by injection hv3 with a1 a2 a3; exact ⟨a1, a3⟩
          clear hv3
          go_wp2_with fail
          refine (sortI_any w.heap.size b3 (n + m) c3 (ps ++ qs) _ O3.out (by omega) HAV.out).mono ?_
          rintro e w4 ⟨rfl, ho4, hg4⟩
          have O4 := Lib.hid ho4
          have B4 := Lib.hid (below_grown B3.out B3.out.size hg4 hbb3)
          clear ho4 hg4
          go_wp2
          go_ret2
          exact ⟨some ⟨b3, 0, none⟩, n + m, c3, ret_vb HK.out.symm, by rw [mgL_yes HK.out, ← sort_two HV.out.1]; exact O4.out, B4.out⟩
      · have HK := Lib.hid (show mgB ps qs = false by rw [mgB, decide_eq_false (by have := HP.out.1; have := HQ.out.1; omega), Bool.and_false])
        have i3 : decide ((32 : Int) < (n : Int) + (m : Int)) = true := by rw [decide_eq_true_eq]; omega
        go_enter Try.func7, Try.ntmps7
        go_wp2_with fail
        refine (avI_any A n c ps _ HP.out hn).mono ?_
        rintro e w1 ⟨rfl, hb1⟩
        rw [h1]
        have B1 := Lib.hid hb1
        clear hb1
        go_wp2_with (go_at_call 13; refine (avI_any B m d qs _ (ar_below HQ.out B1.out) hm).mono ?_; rintro e w2 ⟨rfl, hb2⟩; rw [h2]; have B2 := Lib.hid (below_seq B1.out hb2); clear hb2)
        go_ret2
        exact ⟨none, 0, 0, ret_vb HK.out.symm, by rw [mgL_no HK.out]; exact World.ownsRow_nil _ _ _ _, B2.out⟩
end Go.Proofs.Ytaccbmgbkalknab
