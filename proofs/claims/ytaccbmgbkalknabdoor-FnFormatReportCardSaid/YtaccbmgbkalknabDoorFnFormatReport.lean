/-
  The law FnFormatReport returns true at every argument: a report has a line for each decision, and for each peer that was served. Conditions: none.
-/
import Derived.Test.YtaccbmgbkalknabDoorLift
import Derived.Test.YtaccbmgbkalknabDoorYn
namespace Go.Proofs.YtaccbmgbkalknabDoor.fnFormatReport
open Go.ChangeShapes Go.WideShapes Go.ChangeAt Go.RowKit

def cntN (l : List UInt8) : Nat := (l.filter (fun x => x == 10)).length
theorem cntN_append (a b : List UInt8) : cntN (a ++ b) = cntN a + cntN b := by simp [cntN]
theorem cntN_cons (x : UInt8) (l : List UInt8) : cntN (x :: l) = (if x = 10 then 1 else 0) + cntN l := by
  unfold cntN
  rw [List.filter_cons]
  by_cases h : x = 10
  · rw [if_pos (by simp [h]), if_pos h, List.length_cons]; omega
  · rw [if_neg (by simp [h]), if_neg h]; omega
theorem cntN_zero {l : List UInt8} (h : ∀ c ∈ l, c ≠ 10) : cntN l = 0 := by
  unfold cntN
  rw [List.length_eq_zero_iff, List.filter_eq_nil_iff]
  intro c hc
  simpa using h c hc
theorem dig_no : ∀ k : Fin 10, (48 + UInt8.ofNat k.val : UInt8) ≠ 10 := by decide
theorem decF_no (f n : Nat) : ∀ c ∈ decF f n, c ≠ 10 := by
  induction f generalizing n with
  | zero => intro c hc; cases hc
  | succ f ih =>
    intro c hc
    rw [decF] at hc
    split at hc
    · rename_i h
      obtain rfl : c = 48 + UInt8.ofNat n := by simpa using hc
      exact dig_no ⟨n, h⟩
    · rcases List.mem_append.1 hc with hc | hc
      · exact ih _ c hc
      · obtain rfl : c = 48 + UInt8.ofNat (n % 10) := by simpa using hc
        exact dig_no ⟨n % 10, Nat.mod_lt _ (by omega)⟩
theorem dT_cnt (x : Int) : cntN (dT x) = 0 := cntN_zero (decF_no 8 _)
theorem nm_cnt (d : Nat) : cntN (nmL d) = 0 := by
  rcases d with _ | _ | _ | _ | _ | _ | d <;> rfl
theorem lnD_cnt (d : Nat) (x : Int) : cntN (lnD d x) = 1 := by
  rw [lnD, cntN_append, nm_cnt, cntN_cons, cntN_append, dT_cnt]; rfl
theorem lnP_cnt (i : Nat) (x : Int) : cntN (lnP i x) = 1 := by
  rw [lnP, cntN_append, cntN_append, dT_cnt, cntN_cons 32 (dT x ++ [10]), cntN_append, dT_cnt]; rfl
theorem dLn_cnt (cs : List Int) (k : Nat) : cntN (dLn cs k) = k := by
  induction k with
  | zero => rfl
  | succ k ih => rw [dLn, cntN_append, ih, lnD_cnt]
def posN (bs : List Int) : Nat → Nat
  | 0 => 0
  | k + 1 => posN bs k + (if 0 < at0 bs k then 1 else 0)
theorem pLn_cnt (bs : List Int) (k : Nat) : cntN (pLn bs k) = posN bs k := by
  induction k with
  | zero => rfl
  | succ k ih =>
    rw [pLn, cntN_append, ih, posN]
    split
    · rw [lnP_cnt]
    · rfl
theorem posN_le (bs : List Int) (k : Nat) : posN bs k ≤ k := by
  induction k with
  | zero => exact Nat.le_refl _
  | succ k ih => rw [posN]; split <;> omega
theorem posN_yes {bs : List Int} {k : Nat} {x : Int} (h : bs[k]? = some x) (hx : 0 < x) : posN bs (k + 1) = posN bs k + 1 := by rw [posN, at0_of h, if_pos hx]
theorem posN_no {bs : List Int} {k : Nat} {x : Int} (h : bs[k]? = some x) (hx : ¬ 0 < x) : posN bs (k + 1) = posN bs k := by rw [posN, at0_of h, if_neg hx]; rfl
theorem cntN_take {s : ByteArray} {k : Nat} (h : k < s.size) : cntN (s.data.toList.take (k + 1)) = cntN (s.data.toList.take k) + (if s[k] = 10 then 1 else 0) := by
  rw [bytes_take s k h, cntN_append, cntN_cons]; rfl
theorem cntN_le (s : ByteArray) (k : Nat) : cntN (s.data.toList.take k) ≤ k := by
  unfold cntN
  refine Nat.le_trans (List.length_filter_le _ _) ?_
  rw [List.length_take]; omega
set_option maxRecDepth 100000 in
set_option maxHeartbeats 8000000 in
theorem walk (A : Option Addr) (n c : Nat) (w : World) (h : Bytes w A n c) (ht : Tab w) (hN : Nms w) :
    Calls Tryd.prog 3 #[.slice A n c] w fun e w' => e = .returned (.bool true) ∧ Below w.heap.size w w' := by
  have HB := Lib.hid h
  have HT := Lib.hid ht
  have HN := Lib.hid hN
  clear h ht hN
  by_cases hbig : ¬ n ≤ 1048576
  · go_enter Tryd.func3, Tryd.ntmps3
    go_wp2
    go_ret
    exact ⟨rfl, Below.refl _ _⟩
  have hbig' : n ≤ 1048576 := by omega
  clear hbig
  go_enter Tryd.func3, Tryd.ntmps3
  go_wp2_with fail
  refine (drawReport_any A n c _ HB.out).mono ?_
  rintro e w1 ⟨A1, n1, c1, us, B1x, m1, d1, ps, rfl, hn9, hm9, hr, hp, hb⟩
  obtain ⟨hc1, hf1⟩ := bcell hb
  have B1 := Lib.hid (show Below w.heap.size w w1 from (by first | exact below_seq (Below.refl w.heap.size w) hb | exact below_seq1 (Below.refl w.heap.size w) hb | exact below_seq2 (Below.refl w.heap.size w) hb | exact below_seq3 (Below.refl w.heap.size w) hb | exact below_seq4 (Below.refl w.heap.size w) hb))
  have R1 := Lib.hid hb
  have hz1 := hb.size
  try simp at hz1
  clear hb
  have Q1 := Lib.hid hr
  have P1 := Lib.hid hp
  clear hr hp
  obtain ⟨S, hS⟩ : ∃ S, repS us ps = S := ⟨_, rfl⟩
  have HS := Lib.hid hS
  clear hS
  go_wp2_with fail
  refine ((repI_any A1 n1 c1 us B1x m1 d1 ps _ Q1.out P1.out (by omega) (by omega) (tab_below HT.out B1.out) (nms_below HN.out B1.out))).mono ?_
  rintro e w2 ⟨rfl, hb⟩
  obtain ⟨hc2, hf2⟩ := bcell hb
  have B2 := Lib.hid (show Below w.heap.size w w2 from (by first | exact below_seq B1.out hb | exact below_seq1 B1.out hb | exact below_seq2 B1.out hb | exact below_seq3 B1.out hb | exact below_seq4 B1.out hb))
  have R2 := Lib.hid hb
  have hz2 := hb.size
  try simp at hz2
  clear hb
  try have y20 : w.heap.size < w2.heap.size := by omega
  try have y20a : w.heap.size + 1 < w2.heap.size := by omega
  try have y20b : w.heap.size < w2.heap.size + 1 + 1 := by omega
  try have y20c : w.heap.size + 1 < w2.heap.size + 1 + 1 := by omega
  try have y21 : w1.heap.size < w2.heap.size := by omega
  try have y21a : w1.heap.size + 1 < w2.heap.size := by omega
  try have y21b : w1.heap.size < w2.heap.size + 1 + 1 := by omega
  try have y21c : w1.heap.size + 1 < w2.heap.size + 1 + 1 := by omega
  rw [HS.out]
  have Q2 := Lib.hid (nr_below Q1.out R2.out)
  have P2 := Lib.hid (pr_below P1.out R2.out)
  go_wp2_with fail
  refine ((repS_any A1 n1 c1 us B1x m1 d1 ps _ Q2.out P2.out (by omega) (by omega))).mono ?_
  rintro e w3 ⟨rfl, hb⟩
  obtain ⟨hc3, hf3⟩ := bcell hb
  have B3 := Lib.hid (show Below w.heap.size w w3 from (by first | exact below_seq B2.out hb | exact below_seq1 B2.out hb | exact below_seq2 B2.out hb | exact below_seq3 B2.out hb | exact below_seq4 B2.out hb))
  have R3 := Lib.hid hb
  have hz3 := hb.size
  try simp at hz3
  clear hb
  try have y30 : w.heap.size < w3.heap.size := by omega
  try have y30a : w.heap.size + 1 < w3.heap.size := by omega
  try have y30b : w.heap.size < w3.heap.size + 1 + 1 := by omega
  try have y30c : w.heap.size + 1 < w3.heap.size + 1 + 1 := by omega
  try have y31 : w1.heap.size < w3.heap.size := by omega
  try have y31a : w1.heap.size + 1 < w3.heap.size := by omega
  try have y31b : w1.heap.size < w3.heap.size + 1 + 1 := by omega
  try have y31c : w1.heap.size + 1 < w3.heap.size + 1 + 1 := by omega
  try have y32 : w2.heap.size < w3.heap.size := by omega
  try have y32a : w2.heap.size + 1 < w3.heap.size := by omega
  try have y32b : w2.heap.size < w3.heap.size + 1 + 1 := by omega
  try have y32c : w2.heap.size + 1 < w3.heap.size + 1 + 1 := by omega
  rw [HS.out]
  have Q3 := Lib.hid (nr_below Q2.out R3.out)
  have P3 := Lib.hid (pr_below P2.out R3.out)
  rcases hk : (decB us && bpB ps) with _ | _
  · obtain rfl : S = ⟨#[]⟩ := by rw [← HS.out, repS, repL, hk]; rfl
    clear hk
    go_wp2_with fail
    refine ((repS_any A1 n1 c1 us B1x m1 d1 ps _ Q3.out P3.out (by omega) (by omega))).mono ?_
    rintro e w4 ⟨rfl, hb⟩
    obtain ⟨hc4, hf4⟩ := bcell hb
    have B4 := Lib.hid (show Below w.heap.size w w4 from (by first | exact below_seq B3.out hb | exact below_seq1 B3.out hb | exact below_seq2 B3.out hb | exact below_seq3 B3.out hb | exact below_seq4 B3.out hb))
    have R4 := Lib.hid hb
    have hz4 := hb.size
    try simp at hz4
    clear hb
    try have y40 : w.heap.size < w4.heap.size := by omega
    try have y40a : w.heap.size + 1 < w4.heap.size := by omega
    try have y40b : w.heap.size < w4.heap.size + 1 + 1 := by omega
    try have y40c : w.heap.size + 1 < w4.heap.size + 1 + 1 := by omega
    try have y41 : w1.heap.size < w4.heap.size := by omega
    try have y41a : w1.heap.size + 1 < w4.heap.size := by omega
    try have y41b : w1.heap.size < w4.heap.size + 1 + 1 := by omega
    try have y41c : w1.heap.size + 1 < w4.heap.size + 1 + 1 := by omega
    try have y42 : w2.heap.size < w4.heap.size := by omega
    try have y42a : w2.heap.size + 1 < w4.heap.size := by omega
    try have y42b : w2.heap.size < w4.heap.size + 1 + 1 := by omega
    try have y42c : w2.heap.size + 1 < w4.heap.size + 1 + 1 := by omega
    try have y43 : w3.heap.size < w4.heap.size := by omega
    try have y43a : w3.heap.size + 1 < w4.heap.size := by omega
    try have y43b : w3.heap.size < w4.heap.size + 1 + 1 := by omega
    try have y43c : w3.heap.size + 1 < w4.heap.size + 1 + 1 := by omega
    rw [HS.out]
    go_wp2
    all_goals
      go_ret
      refine ⟨rfl, ?_⟩
      repeat refine below_alloc ?_ _
      exact B4.out
  · have HK := Lib.hid hk
    have HSD : Hid (S.data.toList = dLn (cdL us) 5 ++ pLn (bsL ps) 8) := Lib.hid (by rw [← HS.out, repS, repL, hk]; rfl)
    have HBP : Hid (bpB ps = true) := Lib.hid (by simp only [Bool.and_eq_true] at hk; exact hk.2)
    clear hk
    have hsz : 0 < S.size ∧ S.size ≤ 300 := by
      have h1 := dLn_len (cdL us) 5
      have h2 := pLn_len (bsL ps) 8
      have h3 : 0 < cntN (dLn (cdL us) 5) := by rw [dLn_cnt]; omega
      have h4 : 0 < (dLn (cdL us) 5).length := by
        rcases h : dLn (cdL us) 5 with _ | ⟨a, r⟩
        · rw [h] at h3; exact absurd h3 (by decide)
        · simp
      rw [size_of HSD.out, List.length_append]
      omega
    obtain ⟨hs0, hs3⟩ := hsz
    have hE := not_empty (s := S) hs0
    obtain ⟨bs, hbs⟩ : ∃ bs, bs = bsL ps := ⟨_, rfl⟩
    have HBS := Lib.hid hbs
    have HBD : Hid (∀ x ∈ bs, 0 ≤ x ∧ x ≤ 100000) := Lib.hid (by rw [hbs]; exact bs_bdr HBP.out)
    clear hbs
    go_wp2_with fail
    refine (((bbI_any B1x m1 d1 ps _ P3.out (by omega)).mono fun _ _ => rdr_of)).mono ?_
    rintro e w4 ⟨A4, n4, c4, rfl, hn4, hr4, hb⟩
    obtain ⟨hc4, hf4⟩ := bcell hb
    have B4 := Lib.hid (show Below w.heap.size w w4 from (by first | exact below_seq B3.out hb | exact below_seq1 B3.out hb | exact below_seq2 B3.out hb | exact below_seq3 B3.out hb | exact below_seq4 B3.out hb))
    have R4 := Lib.hid hb
    have hz4 := hb.size
    try simp at hz4
    clear hb
    try have y40 : w.heap.size < w4.heap.size := by omega
    try have y40a : w.heap.size + 1 < w4.heap.size := by omega
    try have y40b : w.heap.size < w4.heap.size + 1 + 1 := by omega
    try have y40c : w.heap.size + 1 < w4.heap.size + 1 + 1 := by omega
    try have y41 : w1.heap.size < w4.heap.size := by omega
    try have y41a : w1.heap.size + 1 < w4.heap.size := by omega
    try have y41b : w1.heap.size < w4.heap.size + 1 + 1 := by omega
    try have y41c : w1.heap.size + 1 < w4.heap.size + 1 + 1 := by omega
    try have y42 : w2.heap.size < w4.heap.size := by omega
    try have y42a : w2.heap.size + 1 < w4.heap.size := by omega
    try have y42b : w2.heap.size < w4.heap.size + 1 + 1 := by omega
    try have y42c : w2.heap.size + 1 < w4.heap.size + 1 + 1 := by omega
    try have y43 : w3.heap.size < w4.heap.size := by omega
    try have y43a : w3.heap.size + 1 < w4.heap.size := by omega
    try have y43b : w3.heap.size < w4.heap.size + 1 + 1 := by omega
    try have y43c : w3.heap.size + 1 < w4.heap.size + 1 + 1 := by omega
    have X4 := Lib.hid hr4
    rw [HBP.out, if_pos rfl, ← HBS.out] at X4 hn4
    obtain rfl : n4 = 8 := by rw [hn4, HBS.out]; rfl
    clear hr4 hn4
    rw [HBP.out]
    go_wp2
    go_loop [8, 9] (fun l i => ∃ k : Nat, k ≤ 8 ∧ i = .int .i64 (k : Int) ∧ l = .int .i64 (((5 + posN bs k : Nat) : Int))) (fun _ i => 8 - (intOf i).toNat)
    case atStart => exact ⟨0, Nat.zero_le _, rfl, rfl⟩
    case round =>
      obtain ⟨k, hk, rfl, rfl⟩ := hrel
      have hp8 := posN_le bs k
      by_cases hlt : k < 8
      · obtain ⟨b, off, x, rfl, hbb, hx, c0⟩ := nr_at X4.out hlt
        have k1 : (k : Int) < 8 := by omega
        by_cases hx0 : 0 < x
        · have HP := Lib.hid (posN_yes hx hx0)
          clear hx
          obtain ⟨q, hq⟩ : ∃ q, q = posN bs k := ⟨_, rfl⟩
          rw [← hq] at HP hp8 ⊢
          clear hq
          go_wp2
          go_round
          case rel => exact ⟨k + 1, by omega, by go_num, by rw [HP.out]; go_num⟩
          case measure => simp [intOf]; omega
        · have HP := Lib.hid (posN_no hx hx0)
          clear hx
          go_wp2
          go_round
          case rel => exact ⟨k + 1, by omega, by go_num, by rw [HP.out]⟩
          case measure => simp [intOf]; omega
      · obtain rfl : k = 8 := by omega
        obtain ⟨q, hq⟩ : ∃ q, q = posN bs 8 := ⟨_, rfl⟩
        have HQ : Hid (cntN S.data.toList = 5 + q) := Lib.hid (by rw [HSD.out, cntN_append, dLn_cnt, pLn_cnt, ← HBS.out, hq])
        rw [← hq] at hp8 ⊢
        clear hq
        go_wp2
        go_loop [10, 11] (fun v i => ∃ k : Nat, k ≤ S.size ∧ i = .int .i64 (k : Int) ∧ v = .int .i64 ((cntN (S.data.toList.take k) : Nat) : Int)) (fun _ i => S.size - (intOf i).toNat)
        case atStart => exact ⟨0, Nat.zero_le _, rfl, rfl⟩
        case round =>
          obtain ⟨k, hk, rfl, rfl⟩ := hrel
          by_cases hlt2 : k < S.size
          · have HC := Lib.hid (cntN_take hlt2)
            have hle := cntN_le S k
            by_cases hc : S[k] = 10
            · have hcb : (((S[k].toNat : Nat) : Int) == 10) = true := by rw [hc]; rfl
              have HE := Lib.hid hc
              clear hc
              go_wp2
              go_round
              case rel => exact ⟨k + 1, by omega, by go_num, by rw [HC.out, if_pos HE.out]; go_num⟩
              case measure => simp [intOf]; omega
            · have hcb : (((S[k].toNat : Nat) : Int) == 10) = false := by
                simp only [beq_eq_false_iff_ne]
                intro he
                exact hc (UInt8.toNat_inj.1 (by show S[k].toNat = 10; omega))
              have HE := Lib.hid hc
              clear hc
              go_wp2
              go_round
              case rel => exact ⟨k + 1, by omega, by go_num, by rw [HC.out, if_neg HE.out, Nat.add_zero]⟩
              case measure => simp [intOf]; omega
          · obtain rfl : k = S.size := by omega
            have hone : cntN (S.data.toList.take S.size) = 5 + q := by
              rw [List.take_of_length_le (by rw [len_bytes]; exact Nat.le_refl _)]
              exact HQ.out
            rw [hone]
            clear hone
            go_wp2
            all_goals
              go_ret
              refine ⟨rfl, ?_⟩
              repeat refine below_alloc ?_ _
              exact B4.out
theorem own : ownKnob Tryd.prog.godebug = none := by kernel_rfl
theorem laidOut : laidOutB Tryd.prog = true := by kernel_rfl
theorem table {W : World} (h : laidMetH Tryd.prog Rows.fnFormatReportRow.laid W) : Tab W := by
  have h1 : laidMet Tryd.prog [("math/bits.deBruijn32tab", Rows.laid_math_bits_deBruijn32tab), ("math/bits.deBruijn64tab", Rows.laid_math_bits_deBruijn64tab), ("internal/strconv.uint64pow10", Rows.laid_internal_strconv_uint64pow10), ("loop.example/trafficguard/impl.decisionNames", Rows.laid_loop_example_trafficguard_impl_decisionNames)] W := h
  exact table_of h1
theorem names {W : World} (h : laidMetH Tryd.prog Rows.fnFormatReportRow.laid W) : Nms W := by
  have h1 : laidMet Tryd.prog [("math/bits.deBruijn32tab", Rows.laid_math_bits_deBruijn32tab), ("math/bits.deBruijn64tab", Rows.laid_math_bits_deBruijn64tab), ("internal/strconv.uint64pow10", Rows.laid_internal_strconv_uint64pow10), ("loop.example/trafficguard/impl.decisionNames", Rows.laid_loop_example_trafficguard_impl_decisionNames)] W := h
  exact names_of h1
set_option maxRecDepth 100000 in
theorem contract (H : Type) (enc : TypeId × Value → H) (W : World) (base : Nat) (args : Array Value) (ds gs : List (DataW H)) (before : List MemPlace)
    (hval : ∀ (j : Nat) t v, Tryd.f3.params[j]? = some t → args[j]? = some v → Value.okWide Tryd.prog W .any base t v)
    (hW : DataW.Whole enc Tryd.prog Tryd.f3.params.toList Rows.fnFormatReportSpec.vars false W args.toList ds gs before) (hL : laidMetH Tryd.prog Rows.fnFormatReportRow.laid W) :
    Calls Tryd.prog 3 args W fun e W' => ∃ v, e = .returned v ∧ Rows.fnFormatReportSpec.post enc Tryd.prog Tryd.f3 false true false false W args v W' := by
  have hW' := hW
  obtain ⟨p, q, hA0, hV, rfl, _, _⟩ := hW
  have hA : DataW.TrodAll enc Tryd.prog W 0 (fun _ => true) true Tryd.f3.params.toList args.toList ds p := hA0
  rw [Tryd.params3] at hA hval
  obtain ⟨v0, vs0, d0, ds0, p0, q0, hargs, rfl, rfl, h0, r0⟩ := trodAll_cons hA
  obtain ⟨rfl, rfl, rfl⟩ := trodAll_nil r0
  obtain rfl : args = #[v0] := by cases args; simp_all
  obtain ⟨g1, rfl⟩ : ∃ g1, gs = [g1] := by
    obtain ⟨_, _, _, _, d, _, h, _⟩ := trodVars_one hV
    exact ⟨d, h⟩
  have lt0 : ∀ x ∈ p0, x.block < W.heap.size := by obtain ⟨m, hm⟩ := h0; exact DataW.trod_lt m _ _ _ hm
  obtain ⟨a0, n0, c0, rfl⟩ := okWide_slice Tryd.underlying22 (hval 0 22 v0 rfl rfl)
  have w0 : Bytes W a0 n0 c0 := bytes_open h0
  clear hA0
  refine (walk a0 n0 c0 W w0 (table hL) (names hL)).mono fun e W' ⟨he, bel⟩ => ?_
  subst he
  exact ⟨_, rfl, _, _, _, [], _, q, hW', trodAll_mk1 (shut_bool Tryd.underlying4 _), (trodAll_cons_mk (Below.trod laidOut (by kernel_rfl) (of_decide_eq_true (by kernel_rfl)) h0 bel lt0) trodAll_mk0), bel.trodVars laidOut (by kernel_rfl) hV, bel.frame _, fun h => by cases h⟩
def setCells (cs : Array Value) (b : Obj) : Obj := match b with
  | .cells _ t frozen => .cells cs t frozen
  | o => o
def flat1 (d : DataW Unit) : List Value := match d with
  | .lit (.int k n) => [.int k n]
  | .lit (.string l) => [.string ⟨l.toArray⟩]
  | .agg ys => ys.flatMap fun y => match y with
    | .lit (.int k n) => [.int k n]
    | _ => []
  | _ => []
def flat (d : DataW Unit) : Array Value := match d with
  | .agg xs => (xs.flatMap flat1).toArray
  | _ => #[]
noncomputable def laidWorld (os : Os) : World :=
  let w := World.holding Tryd.prog os ⟨#[], #[], []⟩
  { w with heap := (((w.heap.modify 2 (setCells (flat Rows.laid_math_bits_deBruijn32tab))).modify 3 (setCells (flat Rows.laid_math_bits_deBruijn64tab))).modify 1 (setCells (flat Rows.laid_internal_strconv_uint64pow10))).modify 0 (setCells (flat Rows.laid_loop_example_trafficguard_impl_decisionNames)) }
set_option maxRecDepth 100000 in
theorem laid_met (os : Os) : laidMet Tryd.prog Rows.fnFormatReportRow.laid ((laidWorld os).forCall (fun _ _ => 0) ⟨#[], #[.slice none 0 0], []⟩).memory :=
  laidMet_of_run' 8 (by kernel_rfl) (by kernel_rfl)
theorem reads (os : Os) {H : Type} (enc : TypeId × Value → H) : ∃ places, DataW.whole enc Tryd.prog ((laidWorld os).forCall (fun _ _ => 0) ⟨#[], #[.slice none 0 0], []⟩).memory Tryd.f3.params.toList Rows.fnFormatReportSpec.vars false (#[.slice none 0 0] : Array Value).toList 8 = some ([.nil], [Rows.laid_loop_example_trafficguard_impl_decisionNames], places) :=
  ⟨MemPlace.row ⟨0, 0, none⟩ 6, by kernel_rfl⟩
set_option maxRecDepth 100000 in
theorem lifted (os : Os) (started : os.Started) (H : Type) (enc : TypeId × Value → H) (F : Stop.Interp) :
    ReturnsInHanded {} Tryd.checked os 3 .any ((OpenSpec.ofChange Rows.fnFormatReportSpec).preRow enc Tryd.prog Tryd.f3 Rows.fnFormatReportRow.domain false Rows.fnFormatReportRow.laid) (((OpenSpec.ofChange Rows.fnFormatReportSpec).at F).post enc Tryd.prog Tryd.f3 false true false false) := by
  obtain ⟨places, hx⟩ := reads os enc
  refine returnsInHanded_of_row (C := Tryd.checked) (s := OpenSpec.ofChange Rows.fnFormatReportSpec) own started (by kernel_rfl) Tryd.func3
    (witness_row_at (enc := enc) (C := Tryd.checked) false (laidWorld os) #[.slice none 0 0] rfl (by kernel_rfl) (by kernel_rfl) (by kernel_rfl)
      (OpenSpec.preRow_of_cond 8 hx (by kernel_rfl) (fun k hk => by cases hk) (by kernel_rfl) (laid_met os))) ?_
  intro W base args ds gs before hval hW _ _ _ hL _ _
  exact contract H enc W base args ds gs before hval hW hL
theorem said : Rows.FnFormatReportSaid :=
  OpenClaim.holds_of_cond 3 Tryd.f3 rfl rfl rfl rfl rfl rfl rfl ⟨rfl, rfl, rfl, rfl, rfl⟩ rfl rfl rfl rfl rfl (by kernel_rfl) Tryd.func3 (by kernel_rfl)
    (of_decide_eq_true (by kernel_rfl)) (by unfold Func.isWrapper; first | (rw [if_pos (by decide +kernel)]; kernel_rfl) | (rw [if_neg (by decide +kernel)]; exact ⟨rfl, rfl⟩))
    (fun os started H enc _ F => by rw [OpenClaim.pre_eq_preRow]; exact lifted os started H enc F)
theorem plain (f : FuncId) (fn : Func) (hf : Tryd.pinned.checked.prog.funcNamed "loop.example/trafficguard/laws.FnFormatReport" = some f) (hfn : Tryd.pinned.checked.prog.funcs[f]? = some fn) :
    false = Tryd.pinned.checked.prog.looks [] ∧ ∀ (j : Nat) t, fn.params[j]? = some t → Tryd.pinned.checked.prog.wantsStandIn t = false := by
  obtain rfl : f = 3 := Option.some.inj ((show Tryd.prog.funcNamed "loop.example/trafficguard/laws.FnFormatReport" = some 3 by kernel_rfl).symm.trans hf) |>.symm
  obtain rfl : fn = Tryd.f3 := (Option.some.inj (Tryd.func3.symm.trans hfn)).symm
  refine ⟨by kernel_rfl, fun j t ht => ?_⟩
  rw [Tryd.params3] at ht
  obtain rfl : t = 22 := by simpa using Array.mem_of_getElem? ht
  exact (show Tryd.prog.wantsStandIn 22 = false by kernel_rfl)
/-- the given statement -/
theorem proved : Rows.FnFormatReportCardSaid :=
  Claim7.holds_tied_plain_at .later [] _ _ _ _ said (fun _ h => by cases h) (by kernel_rfl) (fun _ h => by cases h) fnFormatReport_row_tie rfl ⟨rfl, rfl⟩ (by kernel_rfl) rfl plain (by kernel_rfl)
end Go.Proofs.YtaccbmgbkalknabDoor.fnFormatReport
