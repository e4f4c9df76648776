/-
  Chapter 10: the library's stable sort of up to 32 arrivals; MergeArrivals. Conditions: the row is owned; the arrivals are valid each; the slices' lengths fit an int.
-/
import Derived.Test.YtaccbmgbkalknabEx
import Derived.Test.YtaccbmgbkalknabEh
namespace Go.Proofs.Ytaccbmgbkalknab
open Go.RowKit

theorem insA_comm {x u : Arr} (h : x.t < u.t) (S : List Arr) : insA u (insA x S) = insA x (insA u S) := by
  induction S with
  | nil =>
    simp only [insA]
    rw [if_neg (by omega), if_pos h]
  | cons y r ih =>
    by_cases h1 : x.t < y.t
    · by_cases h2 : u.t < y.t
      · simp only [insA, if_pos h1, if_pos h2, if_pos h, if_neg (show ¬ u.t < x.t by omega)]
      · simp only [insA, if_pos h1, if_neg h2, if_neg (show ¬ u.t < x.t by omega)]
    · have h2 : ¬ u.t < y.t := by omega
      simp only [insA, if_neg h1, if_neg h2, ih]
theorem finA_ins {x : Arr} {U : List Arr} (h : ∀ u ∈ U, x.t < u.t) (S : List Arr) : finA (insA x S) U = insA x (finA S U) := by
  induction U generalizing S with
  | nil => rfl
  | cons u U ih =>
    simp only [finA]
    rw [insA_comm (h u (by simp)), ih (fun z hz => h z (by simp [hz]))]
theorem fin_ins {x : Arr} {T S : List Arr} {lo : Int} (hT : avL lo T = true) : finA S (insA x T) = insA x (finA S T) := by
  induction T generalizing S lo with
  | nil => rfl
  | cons y r ih =>
    have h1 := av_cons.1 hT
    by_cases hc : x.t < y.t
    · simp only [insA, if_pos hc, finA]
      rw [← finA_ins (x := x) (U := r) (fun u hu => ?_), insA_comm hc]
      obtain ⟨k, hk⟩ := List.mem_iff_getElem?.1 hu
      have := (av_at h1.2.2.2.2 hk).1
      omega
    · simp only [insA, if_neg hc, finA]
      exact ih h1.2.2.2.2
/-- a stable sort of what is sorted stably -/
theorem fin_fin {l S : List Arr} (hl : AllV l) : finA S (finA [] l) = finA S l := by
  obtain ⟨m, hm⟩ : ∃ m, m = l.length := ⟨_, rfl⟩
  induction m generalizing l with
  | zero =>
    obtain rfl : l = [] := List.eq_nil_of_length_eq_zero hm.symm
    rfl
  | succ m ih =>
    rcases List.eq_nil_or_concat l with h | ⟨r, x, h⟩
    · subst h; simp at hm
    · rw [List.concat_eq_append] at h
      subst h
      have hr : AllV r := fun z hz => hl z (by simp [hz])
      have hv := fin_allv (s := []) (l := r) rfl hr
      rw [finA_append, finA_append]
      simp only [finA]
      rw [fin_ins hv, ih hr (by simp at hm; exact hm)]
theorem symI_all (k : Nat) : SymOk k := by
  induction k with
  | zero =>
    intro base b0 N c a m bb P X Y Q w ho hN ha hX hY h1 h2 hk sx sy
    omega
  | succ k IH =>
    intro base b0 N c a m bb P X Y Q w ho hN ha hX hY h1 h2 hk sx sy
    by_cases e1 : a + 1 = m
    · obtain ⟨x, rfl⟩ : ∃ x, X = [x] := by
        rcases X with _ | ⟨x, _ | ⟨y, r⟩⟩
        · simp at hX; omega
        · exact ⟨x, rfl⟩
        · simp at hX; omega
      exact sy_one base b0 N c a m bb P Y Q x w ho hN ha e1 hY sy
    · by_cases e2 : m + 1 = bb
      · obtain ⟨y, rfl⟩ : ∃ y, Y = [y] := by
          rcases Y with _ | ⟨y, _ | ⟨z, r⟩⟩
          · simp at hY; omega
          · exact ⟨y, rfl⟩
          · simp at hY; omega
        exact sy_last base b0 N c a m bb P X Q y w ho hN ha hX e2 (by omega) sx
      · by_cases e3 : (a + bb) / 2 < m
        · exact sy_cutA k IH base b0 N c a m bb ((a + bb) / 2) ((a + bb) / 2 + m) P X Y Q w ho hN ha hX hY (by omega) (by omega) hk sx sy rfl rfl e3 ((a + bb) / 2 + m - bb) (by omega)
        · exact sy_cutB k IH base b0 N c a m bb ((a + bb) / 2) ((a + bb) / 2 + m) P X Y Q w ho hN ha hX hY (by omega) (by omega) hk sx sy rfl rfl (by omega)
theorem symI_is (base b0 N c a m bb : Nat) (ai mi bi : Int) (P X Y Q : List Arr) (w : World) (ho : RowA w base b0 N c (P ++ X ++ Y ++ Q)) (hN : N ≤ 1000) (ha : P.length = a) (hX : a + X.length = m) (hY : m + Y.length = bb) (h1 : a < m) (h2 : m < bb) (sx : avL 0 X = true) (sy : avL 0 Y = true) (ea : ai = (a : Int)) (em : mi = (m : Int)) (eb : bi = (bb : Int)) :
    Calls Try.prog 24 #[.slice (some ⟨b0, 0, none⟩) N c, .int .i64 ai, .int .i64 mi, .int .i64 bi, .func (.func 16) #[] #[]] w fun e w' =>
      e = .returned (.tuple #[]) ∧ RowA w' base b0 N c (P ++ finA X Y ++ Q) ∧ w.grownBy w' (some b0) := by
  subst ea em eb
  exact symI_all (bb - a) base b0 N c a m bb P X Y Q w ho hN ha hX hY h1 h2 (Nat.le_refl _) sx sy
theorem insX_is (base b N c a bb : Nat) (ai bi : Int) (P l Q : List Arr) (w : World) (ho : RowA w base b N c (P ++ l ++ Q)) (hN : N ≤ 1000) (ha : P.length = a) (hlb : a + l.length = bb) (hab : a < bb) (hl : AllV l) (ea : ai = (a : Int)) (eb : bi = (bb : Int)) :
    Calls Try.prog 23 #[.slice (some ⟨b, 0, none⟩) N c, .int .i64 ai, .int .i64 bi, .func (.func 16) #[] #[]] w fun e w' =>
      e = .returned (.tuple #[]) ∧ RowA w' base b N c (P ++ finA [] l ++ Q) ∧ w.grownBy w' (some b) := by
  subst ea eb
  exact insX_any base b N c a bb P l Q w ho hN ha hlb hab hl
theorem insX_none (A : Option Addr) (N c : Nat) (w : World) :
    Calls Try.prog 23 #[.slice A N c, .int .i64 20, .int .i64 20, .func (.func 16) #[] #[]] w fun e w' => e = .returned (.tuple #[]) ∧ w = w' := by
  go_enter Try.func23, Try.ntmps23
  go_wp2
  refine wp_loop_rounds 1 ?_
  rw [rounds_succ]
  go_wp2
  go_end0
  exact ⟨rfl, rfl⟩
set_option maxRecDepth 4000 in
set_option maxHeartbeats 2000000 in
theorem stableB_any (base b n c : Nat) (l : List Arr) (w : World) (ho : RowA w base b n c l) (hn : 20 ≤ n ∧ n ≤ 32) (hl : AllV l) :
    Calls Try.prog 21 #[.slice (some ⟨b, 0, none⟩) n c, .int .i64 (n : Int), .func (.func 16) #[] #[]] w fun e w' =>
      e = .returned (.tuple #[]) ∧ RowA w' base b n c (finA [] l) ∧ w.grownBy w' (some b) := by
  have hlen : l.length = n := (ar_own ho).1
  have HLN := Lib.hid hlen
  have h1 : (l.take 20).length = 20 := by rw [List.length_take]; omega
  have h2 : (l.drop 20).length = n - 20 := by rw [List.length_drop]; omega
  have HSP : Hid (l = l.take 20 ++ l.drop 20) := Lib.hid (List.take_append_drop _ _).symm
  have HV1 := Lib.hid (show AllV (l.take 20) from fun z hz => hl z (List.mem_of_mem_take hz))
  have HV2 := Lib.hid (show AllV (l.drop 20) from fun z hz => hl z (List.mem_of_mem_drop hz))
  have HO := Lib.hid (show RowA w base b n c ([] ++ l.take 20 ++ l.drop 20) by rw [List.nil_append, List.take_append_drop]; exact ho)
  obtain ⟨l1, hl1⟩ : ∃ l1, l1 = l.take 20 := ⟨_, rfl⟩
  obtain ⟨l2, hl2⟩ : ∃ l2, l2 = l.drop 20 := ⟨_, rfl⟩
  rw [← hl1] at h1 HSP HV1 HO
  rw [← hl2] at h2 HSP HV2 HO
  have H12 := Lib.hid (And.intro h1 h2)
  have HEND : Hid (finA (finA [] l1) (finA [] l2) = finA [] l) := Lib.hid (by rw [fin_fin HV2.out, ← finA_append, ← HSP.out])
  have HS1 := Lib.hid (fin_allv (s := []) (l := l1) rfl HV1.out)
  have HS2 := Lib.hid (fin_allv (s := []) (l := l2) rfl HV2.out)
  have n20 : (20 : Int) ≤ (n : Int) := by omega
  have n40 : ¬ (40 : Int) ≤ (n : Int) := by omega
  have n41 : decide ((40 : Int) ≤ (n : Int)) = false := decide_eq_false n40
  have n42 : decide ((40 : Int) < (n : Int)) = false := decide_eq_false (by omega)
  clear ho hl hl1 hl2 h1 h2 hlen
  by_cases e20 : n = 20
  · subst e20
    have E2 : Hid (l2 = []) := Lib.hid (List.eq_nil_of_length_eq_zero (by have := H12.out.2; omega))
    go_enter Try.func21, Try.ntmps21
    go_wp2
    refine wp_loop_rounds 2 ?_
    rw [rounds_succ]
    go_wp2_with (go_at_call 23
                 refine (insX_is base b 20 c 0 20 _ _ [] l1 l2 _ HO.out (by omega) rfl (by have := H12.out.1; omega) (by omega) HV1.out (by rfl) (by rfl)).mono ?_
                 rintro e w1 ⟨rfl, ho1, hg1⟩
                 have O1 := Lib.hid (And.intro ho1 hg1)
                 clear ho1 hg1)
    rw [rounds_succ]
    go_wp2_with (go_at_call 23; refine (insX_none _ _ _ _).mono ?_; rintro e w2 ⟨rfl, rfl⟩)
    refine wp_loop_rounds 1 ?_
    rw [rounds_succ]
    go_wp2
    go_end0
    exact ⟨rfl, by rw [← HEND.out, E2.out]; have := O1.out.1; rw [E2.out] at this; simpa [finA] using this, O1.out.2⟩
  · have n21 : (20 : Int) < (n : Int) := by omega
    have hn20 : 20 < n := by omega
    go_enter Try.func21, Try.ntmps21
    go_wp2
    refine wp_loop_rounds 2 ?_
    rw [rounds_succ]
    go_wp2_with (go_at_call 23
                 refine (insX_is base b n c 0 20 _ _ [] l1 l2 _ HO.out (by omega) rfl (by have := H12.out.1; omega) (by omega) HV1.out (by rfl) (by rfl)).mono ?_
                 rintro e w1 ⟨rfl, ho1, hg1⟩
                 have O1 := Lib.hid (show RowA w1 base b n c (finA [] l1 ++ l2 ++ []) by simpa using ho1)
                 have G1 := Lib.hid hg1
                 clear ho1 hg1)
    rw [rounds_succ]
    go_wp2_with (go_at_call 23
                 refine (insX_is base b n c 20 n _ _ (finA [] l1) l2 [] _ O1.out (by omega) (by rw [finA_len]; have := H12.out.1; simpa using this) (by have := H12.out.2; omega) hn20 HV2.out (by rfl) (by rfl)).mono ?_
                 rintro e w2 ⟨rfl, ho2, hg2⟩
                 have O2 := Lib.hid (show RowA w2 base b n c ([] ++ finA [] l1 ++ finA [] l2 ++ []) by simpa using ho2)
                 have G2 := Lib.hid (G1.out.trans hg2)
                 clear ho2 hg2)
    refine wp_loop_rounds 2 ?_
    rw [rounds_succ]
    go_wp2
    refine wp_loop_rounds 1 ?_
    rw [rounds_succ]
    go_wp2_with (go_at_call 24
                 refine (symI_is base b n c 0 20 n _ _ _ [] (finA [] l1) (finA [] l2) [] _ O2.out (by omega) rfl (by rw [finA_len]; have := H12.out.1; simp; omega) (by rw [finA_len]; have := H12.out.2; simp; omega) (by omega) hn20 HS1.out HS2.out (by rfl) (by rfl) (by rfl)).mono ?_
                 rintro e w3 ⟨rfl, ho3, hg3⟩
                 have O3 := Lib.hid (show RowA w3 base b n c (finA [] l) by rw [← HEND.out]; simpa using ho3)
                 have G3 := Lib.hid (G2.out.trans hg3)
                 clear ho3 hg3)
    rw [rounds_succ]
    go_wp2
    go_end0
    exact ⟨rfl, O3.out, G3.out⟩
theorem sortB_any (base b n c : Nat) (l : List Arr) (w : World) (ho : RowA w base b n c l) (hn : 1 ≤ n ∧ n ≤ 32) (hl : AllV l) :
    Calls Try.prog 15 #[.slice (some ⟨b, 0, none⟩) n c, .func (.func 16) #[] #[]] w fun e w' =>
      e = .returned (.tuple #[]) ∧ RowA w' base b n c (finA [] l) ∧ w.grownBy w' (some b) := by
  by_cases h20 : n < 20
  · exact sortI_any base b n c l w ho ⟨hn.1, h20⟩ hl
  have HO := Lib.hid ho
  have HL := Lib.hid hl
  clear ho hl
  go_enter Try.func15, Try.ntmps15
  go_wp2_with (go_at_call 21; refine (stableB_any base b n c l _ HO.out (by omega) HL.out).mono ?_; rintro e w1 ⟨rfl, ho1, hg1⟩; have O1 := Lib.hid (And.intro ho1 hg1); clear ho1 hg1)
  go_end0
  exact ⟨rfl, O1.out.1, O1.out.2⟩
set_option maxHeartbeats 2000000 in
theorem mgB_any (A B : Option Addr) (n c m d : Nat) (ps qs : List Arr) (w : World) (hp : AR w A n ps) (hq : AR w B m qs) (hn : n ≤ 9223372036854775807) (hm : m ≤ 9223372036854775807) :
    Calls Try.prog 7 #[.slice A n c, .slice B m d] w (MgPost w ps qs) := by
  have HP := Lib.hid hp
  have HQ := Lib.hid hq
  clear hp hq
  rcases h1 : avB ps with _ | _
  · have HK := Lib.hid (show mgB ps qs = false by rw [mgB, h1, Bool.false_and, Bool.false_and])
    go_enter Try.func7, Try.ntmps7
    go_wp2_with (go_at_call 13; refine (avI_any A n c ps _ HP.out hn).mono ?_; rintro e w1 ⟨rfl, hb1⟩; have B1 := Lib.hid hb1; clear hb1)
    go_ret2
    exact ⟨none, 0, 0, ret_vb HK.out.symm, by rw [mgL_no HK.out]; exact World.ownsRow_nil _ _ _ _, B1.out⟩
  · rcases h2 : avB qs with _ | _
    · have HK := Lib.hid (show mgB ps qs = false by rw [mgB, h2, Bool.and_false, Bool.false_and])
      go_enter Try.func7, Try.ntmps7
      go_wp2_with fail
      refine (avI_any A n c ps _ HP.out hn).mono ?_
      rintro e w1 ⟨rfl, hb1⟩
      rw [h1]
      have B1 := Lib.hid hb1
      clear hb1
      go_wp2_with (go_at_call 13; refine (avI_any B m d qs _ (ar_below HQ.out B1.out) hm).mono ?_; rintro e w2 ⟨rfl, hb2⟩; have B2 := Lib.hid (below_seq B1.out hb2); clear hb2)
      go_ret2
      exact ⟨none, 0, 0, ret_vb HK.out.symm, by rw [mgL_no HK.out]; exact World.ownsRow_nil _ _ _ _, B2.out⟩
    · have la := (av_of h1).1
      have lb := (av_of h2).1
      have na : n ≤ 32 := by have := HP.out.1; omega
      have nb : m ≤ 32 := by have := HQ.out.1; omega
      by_cases h3 : n + m ≤ 32
      · have HK := Lib.hid (show mgB ps qs = true by rw [mgB, h1, h2, decide_eq_true (by have := HP.out.1; have := HQ.out.1; omega)]; rfl)
        have i3 : decide ((32 : Int) < (n : Int) + (m : Int)) = false := by rw [decide_eq_false_iff_not]; omega
        have HV := Lib.hid (And.intro (av_of h1).2 (av_of h2).2)
        have HAV := Lib.hid (show AllV (ps ++ qs) from fun z hz => by
          rcases List.mem_append.1 hz with e | e
          · exact allv_of HV.out.1 (Int.le_refl _) z e
          · exact allv_of HV.out.2 (Int.le_refl _) z e)
        go_enter Try.func7, Try.ntmps7
        go_wp2_with fail
        refine (avI_any A n c ps _ HP.out hn).mono ?_
        rintro e w1 ⟨rfl, hb1⟩
        rw [h1]
        have B1 := Lib.hid hb1
        clear hb1
        go_wp2_with fail
        refine (avI_any B m d qs _ (ar_below HQ.out B1.out) hm).mono ?_
        rintro e w2 ⟨rfl, hb2⟩
        rw [h2]
        have B2 := Lib.hid (below_seq B1.out hb2)
        have hz2 := B2.out.size
        clear hb2
        go_wp2_with fail
        refine (catA_any w2.heap.size A B n c m d ps qs _ (blk_cell (blk_new w2 _ _) 0) (blk_cell (blk_new w2 _ _) 1) (by simp) (ar_alloc (ar_below HP.out B2.out) _) (ar_alloc (ar_below HQ.out B2.out) _) (by omega)).mono ?_
        rintro e w3 ⟨A3, c3, rfl, ho3, hb3⟩
        have B3 := Lib.hid (below_seq1 B2.out hb3)
        have O3 := Lib.hid (own_mono (b2 := w.heap.size) ho3 (by simp; omega))
        clear ho3 hb3
        rcases Nat.eq_zero_or_pos (n + m) with hz | hz
        · have hps : ps = [] := List.eq_nil_of_length_eq_zero (by have := HP.out.1; omega)
          have hqs : qs = [] := List.eq_nil_of_length_eq_zero (by have := HQ.out.1; omega)
          rw [hz] at O3 ⊢
          go_wp2_with fail
          refine (sortI_nil A3 c3 _).mono ?_
          rintro e w4 ⟨rfl, rfl⟩
          go_wp2
          go_ret2
          exact ⟨A3, 0, c3, ret_vb HK.out.symm, by rw [mgL_yes HK.out]; have := O3.out; subst hps hqs; exact this, B3.out⟩
        · obtain ⟨b3, c3', hv3, hbb3, -⟩ := O3.out.form hz
          obtain ⟨rfl, rfl⟩ : A3 = some ⟨b3, 0, none⟩ ∧ c3 = c3' := by injection hv3 with a1 a2 a3; exact ⟨a1, a3⟩
          clear hv3
          go_wp2_with fail
          refine (sortB_any w.heap.size b3 (n + m) c3 (ps ++ qs) _ O3.out (by omega) HAV.out).mono ?_
          rintro e w4 ⟨rfl, ho4, hg4⟩
          have O4 := Lib.hid ho4
          have B4 := Lib.hid (below_grown B3.out B3.out.size hg4 hbb3)
          clear ho4 hg4
          go_wp2
          go_ret2
          exact ⟨some ⟨b3, 0, none⟩, n + m, c3, ret_vb HK.out.symm, by rw [mgL_yes HK.out, ← sort_two HV.out.1]; exact O4.out, B4.out⟩
      · have HK := Lib.hid (show mgB ps qs = false by rw [mgB, decide_eq_false (by have := HP.out.1; have := HQ.out.1; omega), Bool.and_false])
        have i3 : decide ((32 : Int) < (n : Int) + (m : Int)) = true := by rw [decide_eq_true_eq]; omega
        go_enter Try.func7, Try.ntmps7
        go_wp2_with fail
        refine (avI_any A n c ps _ HP.out hn).mono ?_
        rintro e w1 ⟨rfl, hb1⟩
        rw [h1]
        have B1 := Lib.hid hb1
        clear hb1
        go_wp2_with (go_at_call 13; refine (avI_any B m d qs _ (ar_below HQ.out B1.out) hm).mono ?_; rintro e w2 ⟨rfl, hb2⟩; rw [h2]; have B2 := Lib.hid (below_seq B1.out hb2); clear hb2)
        go_ret2
        exact ⟨none, 0, 0, ret_vb HK.out.symm, by rw [mgL_no HK.out]; exact World.ownsRow_nil _ _ _ _, B2.out⟩
end Go.Proofs.Ytaccbmgbkalknab
