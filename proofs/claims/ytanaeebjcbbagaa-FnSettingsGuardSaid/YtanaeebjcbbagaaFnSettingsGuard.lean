/-
  The law FnSettingsGuard returns true at every argument: settings are valid exactly if there is a guard with them. Conditions: none.
-/
import Derived.Test.YtanaeebjcbbagaaKgbZ1
import Derived.Test.YtanaeebjcbbagaaKbnZ1
import Derived.Test.YtanaeebjcbbagaaKbpZ1
import Derived.Test.YtanaeebjcbbagaaKboZ1
import Derived.Test.YtanaeebjcbbagaaKbZ1
import Derived.Test.YtanaeebjcbbagaaMayZ1
import Derived.Test.YtanaeebjcbbagaaLiftsZ1
import Derived.Test.YtanaeebjcbbagaaMakeZ1
namespace Go.Proofs.Ytanaeebjcbbagaa.fnSettingsGuard
open Go.ChangeShapes Go.WideShapes Go.ChangeAt Go.RowKit
def SmRel (w : World) (s i : Value) (wr : World) : Prop := ∃ k : Nat, k ≤ 8 ∧ s = .int .i64 0 ∧ i = .int .i64 (k : Int) ∧ wr = w
theorem ng_three (s : St) : ngB s 3 = svB s := by
  have h : inB 3 0 1000000 = true := by simp [inB]
  rw [ngB, h, Bool.and_true]
set_option maxRecDepth 100000 in
set_option maxHeartbeats 4000000 in
theorem walk (A : Option Addr) (n c : Nat) (w : World) (h : Bytes w A n c) :
    Calls Try.prog 3 #[.slice A n c] w fun e w' => e = .returned (.bool true) ∧ Below w.heap.size w w' := by
  have HB := Lib.hid h
  clear h
  by_cases hbig : ¬ n ≤ 1048576
  · go_enter Try.func3, Try.ntmps3
    go_wp2
    go_ret
    exact ⟨rfl, Below.refl _ _⟩
  have hbig' : n ≤ 1048576 := by omega
  clear hbig
  go_enter Try.func3, Try.ntmps3
  go_wp2_with fail
  refine (drawSettingsValid_any A n c _ HB.out).mono ?_
  rintro e w1 ⟨s, A1, n1, c1, rfl, hn1, ho, hb⟩
  obtain ⟨hc1, hf1⟩ := bcell hb
  have B1 := Lib.hid (show Below w.heap.size w w1 from (by first | exact below_seq (Below.refl w.heap.size w) hb | exact below_seq1 (Below.refl w.heap.size w) hb | exact below_seq2 (Below.refl w.heap.size w) hb | exact below_seq3 (Below.refl w.heap.size w) hb | exact below_seq4 (Below.refl w.heap.size w) hb))
  have R1 := Lib.hid hb
  have hz1 := hb.size
  try simp at hz1
  clear hb
  have H1 := Lib.hid (nr_alloc (nr_own ho) (.cells (stc s A1 n1 c1) 25))
  have X1 := Lib.hid (blk_new w1 25 (stc s A1 n1 c1))
  clear ho
  unfold stc
  obtain ⟨R, hR⟩ : ∃ R, svB s = R := ⟨_, rfl⟩
  have HK := Lib.hid hR
  clear hR
  go_wp2_with fail
  refine (svI_any s A1 n1 c1 _ H1.out (by omega)).mono ?_
  rintro e w2 ⟨rfl, hb⟩
  obtain ⟨hc2, hf2⟩ := bcell hb
  have B2 := Lib.hid (show Below w.heap.size w w2 from (by first | exact below_seq B1.out hb | exact below_seq1 B1.out hb | exact below_seq2 B1.out hb | exact below_seq3 B1.out hb | exact below_seq4 B1.out hb))
  have R2 := Lib.hid hb
  have hz2 := hb.size
  try simp at hz2
  clear hb
  try have y20 : w.heap.size < w2.heap.size := by omega
  try have y20a : w.heap.size + 1 < w2.heap.size := by omega
  try have y20b : w.heap.size < w2.heap.size + 1 + 1 := by omega
  try have y20c : w.heap.size + 1 < w2.heap.size + 1 + 1 := by omega
  try have y21 : w1.heap.size < w2.heap.size := by omega
  try have y21a : w1.heap.size + 1 < w2.heap.size := by omega
  try have y21b : w1.heap.size < w2.heap.size + 1 + 1 := by omega
  try have y21c : w1.heap.size + 1 < w2.heap.size + 1 + 1 := by omega
  clear hc2 hf2
  rw [HK.out]
  have H2 := Lib.hid (nr_below H1.out R2.out)
  have X2 := Lib.hid (blk_below X1.out R2.out (blk_lt X1.out))
  obtain ⟨q0, q1, q2, q3, q4, q5, q6, q7⟩ := sc_blk X2.out
  clear H1 X1
  go_wp2_with fail
  refine (ngI_any s 3 A1 n1 c1 _ H2.out (by omega)).mono ?_
  rintro e w3 ⟨h, i, rfl, hgo, hb⟩
  obtain ⟨hc3, hf3⟩ := bcell hb
  have B3 := Lib.hid (show Below w.heap.size w w3 from (by first | exact below_seq B2.out hb | exact below_seq1 B2.out hb | exact below_seq2 B2.out hb | exact below_seq3 B2.out hb | exact below_seq4 B2.out hb))
  have R3 := Lib.hid hb
  have hz3 := hb.size
  try simp at hz3
  clear hb
  try have y30 : w.heap.size < w3.heap.size := by omega
  try have y30a : w.heap.size + 1 < w3.heap.size := by omega
  try have y30b : w.heap.size < w3.heap.size + 1 + 1 := by omega
  try have y30c : w.heap.size + 1 < w3.heap.size + 1 + 1 := by omega
  try have y31 : w1.heap.size < w3.heap.size := by omega
  try have y31a : w1.heap.size + 1 < w3.heap.size := by omega
  try have y31b : w1.heap.size < w3.heap.size + 1 + 1 := by omega
  try have y31c : w1.heap.size + 1 < w3.heap.size + 1 + 1 := by omega
  try have y32 : w2.heap.size < w3.heap.size := by omega
  try have y32a : w2.heap.size + 1 < w3.heap.size := by omega
  try have y32b : w2.heap.size < w3.heap.size + 1 + 1 := by omega
  try have y32c : w2.heap.size + 1 < w3.heap.size + 1 + 1 := by omega
  clear hc3 hf3
  rw [ng_three, HK.out]
  have H3 := Lib.hid (nr_alloc (nr_below H2.out R3.out) (.cells (gcs (ngR s 3) h) 38))
  have X3 := Lib.hid (blk_alloc (blk_below X2.out R3.out (blk_lt X2.out)) (.cells (gcs (ngR s 3) h) 38))
  have G3 := Lib.hid (gr_alloc (go_gr hgo) (.cells (gcs (ngR s 3) h) 38))
  clear q0 q1 q2 q3 q4 q5 q6 q7 hgo H2
  obtain ⟨q0, q1, q2, q3, q4, q5, q6, q7⟩ := sc_blk (blk_below X2.out R3.out (blk_lt X2.out))
  clear X2
  rcases R with _ | _
  · unfold gcs
    go_wp2_with fail
    refine (svS_any s A1 n1 c1 _ H3.out (by omega)).mono ?_
    rintro e w4 ⟨rfl, hb⟩
    obtain ⟨hc4, hf4⟩ := bcell hb
    have B4 := Lib.hid (show Below w.heap.size w w4 from (by first | exact below_seq B3.out hb | exact below_seq1 B3.out hb | exact below_seq2 B3.out hb | exact below_seq3 B3.out hb | exact below_seq4 B3.out hb))
    have R4 := Lib.hid hb
    have hz4 := hb.size
    try simp at hz4
    clear hb
    try have y40 : w.heap.size < w4.heap.size := by omega
    try have y40a : w.heap.size + 1 < w4.heap.size := by omega
    try have y40b : w.heap.size < w4.heap.size + 1 + 1 := by omega
    try have y40c : w.heap.size + 1 < w4.heap.size + 1 + 1 := by omega
    try have y41 : w1.heap.size < w4.heap.size := by omega
    try have y41a : w1.heap.size + 1 < w4.heap.size := by omega
    try have y41b : w1.heap.size < w4.heap.size + 1 + 1 := by omega
    try have y41c : w1.heap.size + 1 < w4.heap.size + 1 + 1 := by omega
    try have y42 : w2.heap.size < w4.heap.size := by omega
    try have y42a : w2.heap.size + 1 < w4.heap.size := by omega
    try have y42b : w2.heap.size < w4.heap.size + 1 + 1 := by omega
    try have y42c : w2.heap.size + 1 < w4.heap.size + 1 + 1 := by omega
    try have y43 : w3.heap.size < w4.heap.size := by omega
    try have y43a : w3.heap.size + 1 < w4.heap.size := by omega
    try have y43b : w3.heap.size < w4.heap.size + 1 + 1 := by omega
    try have y43c : w3.heap.size + 1 < w4.heap.size + 1 + 1 := by omega
    clear hc4 hf4
    rw [HK.out]
    have H4 := Lib.hid (nr_below H3.out R4.out)
    have X4 := Lib.hid (blk_below X3.out R4.out (blk_lt X3.out))
    clear q0 q1 q2 q3 q4 q5 q6 q7
    obtain ⟨q0, q1, q2, q3, q4, q5, q6, q7⟩ := sc_blk X4.out
    go_wp2_with fail
    refine (svS_any s A1 n1 c1 _ H4.out (by omega)).mono ?_
    rintro e w5 ⟨rfl, hb⟩
    obtain ⟨hc5, hf5⟩ := bcell hb
    have B5 := Lib.hid (show Below w.heap.size w w5 from (by first | exact below_seq B4.out hb | exact below_seq1 B4.out hb | exact below_seq2 B4.out hb | exact below_seq3 B4.out hb | exact below_seq4 B4.out hb))
    have R5 := Lib.hid hb
    have hz5 := hb.size
    try simp at hz5
    clear hb
    try have y50 : w.heap.size < w5.heap.size := by omega
    try have y50a : w.heap.size + 1 < w5.heap.size := by omega
    try have y50b : w.heap.size < w5.heap.size + 1 + 1 := by omega
    try have y50c : w.heap.size + 1 < w5.heap.size + 1 + 1 := by omega
    try have y51 : w1.heap.size < w5.heap.size := by omega
    try have y51a : w1.heap.size + 1 < w5.heap.size := by omega
    try have y51b : w1.heap.size < w5.heap.size + 1 + 1 := by omega
    try have y51c : w1.heap.size + 1 < w5.heap.size + 1 + 1 := by omega
    try have y52 : w2.heap.size < w5.heap.size := by omega
    try have y52a : w2.heap.size + 1 < w5.heap.size := by omega
    try have y52b : w2.heap.size < w5.heap.size + 1 + 1 := by omega
    try have y52c : w2.heap.size + 1 < w5.heap.size + 1 + 1 := by omega
    try have y53 : w3.heap.size < w5.heap.size := by omega
    try have y53a : w3.heap.size + 1 < w5.heap.size := by omega
    try have y53b : w3.heap.size < w5.heap.size + 1 + 1 := by omega
    try have y53c : w3.heap.size + 1 < w5.heap.size + 1 + 1 := by omega
    try have y54 : w4.heap.size < w5.heap.size := by omega
    try have y54a : w4.heap.size + 1 < w5.heap.size := by omega
    try have y54b : w4.heap.size < w5.heap.size + 1 + 1 := by omega
    try have y54c : w4.heap.size + 1 < w5.heap.size + 1 + 1 := by omega
    clear hc5 hf5
    rw [HK.out]
    go_wp2
    all_goals
      go_ret
      refine ⟨rfl, ?_⟩
      repeat refine below_alloc ?_ _
      exact B5.out
  · have hn : ngR s 3 = newG s 3 := if_pos (by rw [ng_three, HK.out])
    have hv := gv_newG (t := 3) (sv_iff.1 HK.out) (by omega) (by omega)
    have HV := Lib.hid (show gvB (newG s 3) = true ∧ boR (newG s 3) = List.replicate 8 0 from ⟨gv_iff.2 hv, by rw [boR_yes (gv_iff.2 hv)]; exact bys_new _ _⟩)
    rw [hn] at G3 X3 H3
    rw [hn]
    clear hn hv
    have Y3 : Hid (Blk (w3.alloc (.cells (gcs (newG s 3) h) 38)) w3.heap.size 38 #[.int .i64 3, .int .i64 s.r, .int .i64 s.b, .int .i64 s.b, .int .i64 3, .slice h.E h.ne h.ce, .int .i64 s.me, .int .i64 s.ea, .slice h.U h.nu h.cu, .slice h.A h.n h.c, .slice h.B h.m h.d, .slice h.C h.o h.f, .slice h.S h.ns h.cs]) := Lib.hid (blk_new w3 _ _)
    unfold gcs newG
    dsimp only
    go_wp2_with fail
    refine (svS_any s A1 n1 c1 _ H3.out (by omega)).mono ?_
    rintro e w4 ⟨rfl, hb⟩
    obtain ⟨hc4, hf4⟩ := bcell hb
    have B4 := Lib.hid (show Below w.heap.size w w4 from (by first | exact below_seq B3.out hb | exact below_seq1 B3.out hb | exact below_seq2 B3.out hb | exact below_seq3 B3.out hb | exact below_seq4 B3.out hb))
    have R4 := Lib.hid hb
    have hz4 := hb.size
    try simp at hz4
    clear hb
    try have y40 : w.heap.size < w4.heap.size := by omega
    try have y40a : w.heap.size + 1 < w4.heap.size := by omega
    try have y40b : w.heap.size < w4.heap.size + 1 + 1 := by omega
    try have y40c : w.heap.size + 1 < w4.heap.size + 1 + 1 := by omega
    try have y41 : w1.heap.size < w4.heap.size := by omega
    try have y41a : w1.heap.size + 1 < w4.heap.size := by omega
    try have y41b : w1.heap.size < w4.heap.size + 1 + 1 := by omega
    try have y41c : w1.heap.size + 1 < w4.heap.size + 1 + 1 := by omega
    try have y42 : w2.heap.size < w4.heap.size := by omega
    try have y42a : w2.heap.size + 1 < w4.heap.size := by omega
    try have y42b : w2.heap.size < w4.heap.size + 1 + 1 := by omega
    try have y42c : w2.heap.size + 1 < w4.heap.size + 1 + 1 := by omega
    try have y43 : w3.heap.size < w4.heap.size := by omega
    try have y43a : w3.heap.size + 1 < w4.heap.size := by omega
    try have y43b : w3.heap.size < w4.heap.size + 1 + 1 := by omega
    try have y43c : w3.heap.size + 1 < w4.heap.size + 1 + 1 := by omega
    clear hc4 hf4
    rw [HK.out]
    have X4 := Lib.hid (blk_below X3.out R4.out (blk_lt X3.out))
    have Y4 := Lib.hid (blk_below Y3.out R4.out (blk_lt Y3.out))
    have G4 := Lib.hid (gr_below G3.out R4.out)
    clear q0 q1 q2 q3 q4 q5 q6 q7 H3 X3 Y3 G3
    have g0 := blk_cell Y4.out 0
    have g1 := blk_cell Y4.out 1
    have g2 := blk_cell Y4.out 2
    have g3 := blk_cell Y4.out 3
    have g4 := blk_cell Y4.out 4
    have g5 := blk_cell Y4.out 5
    have g6 := blk_cell Y4.out 6
    have g7 := blk_cell Y4.out 7
    have g8 := blk_cell Y4.out 8
    have g9 := blk_cell Y4.out 9
    have g10 := blk_cell Y4.out 10
    have g11 := blk_cell Y4.out 11
    have g12 := blk_cell Y4.out 12
    go_wp2_with fail
    refine (boI_any (newG s 3) h _ G4.out).mono ?_
    rintro e w5 ⟨Ab, nb, cb, rfl, hnb, ho, hb⟩
    obtain ⟨hc5, hf5⟩ := bcell hb
    have B5 := Lib.hid (show Below w.heap.size w w5 from (by first | exact below_seq B4.out hb | exact below_seq1 B4.out hb | exact below_seq2 B4.out hb | exact below_seq3 B4.out hb | exact below_seq4 B4.out hb))
    have R5 := Lib.hid hb
    have hz5 := hb.size
    try simp at hz5
    clear hb
    try have y50 : w.heap.size < w5.heap.size := by omega
    try have y50a : w.heap.size + 1 < w5.heap.size := by omega
    try have y50b : w.heap.size < w5.heap.size + 1 + 1 := by omega
    try have y50c : w.heap.size + 1 < w5.heap.size + 1 + 1 := by omega
    try have y51 : w1.heap.size < w5.heap.size := by omega
    try have y51a : w1.heap.size + 1 < w5.heap.size := by omega
    try have y51b : w1.heap.size < w5.heap.size + 1 + 1 := by omega
    try have y51c : w1.heap.size + 1 < w5.heap.size + 1 + 1 := by omega
    try have y52 : w2.heap.size < w5.heap.size := by omega
    try have y52a : w2.heap.size + 1 < w5.heap.size := by omega
    try have y52b : w2.heap.size < w5.heap.size + 1 + 1 := by omega
    try have y52c : w2.heap.size + 1 < w5.heap.size + 1 + 1 := by omega
    try have y53 : w3.heap.size < w5.heap.size := by omega
    try have y53a : w3.heap.size + 1 < w5.heap.size := by omega
    try have y53b : w3.heap.size < w5.heap.size + 1 + 1 := by omega
    try have y53c : w3.heap.size + 1 < w5.heap.size + 1 + 1 := by omega
    try have y54 : w4.heap.size < w5.heap.size := by omega
    try have y54a : w4.heap.size + 1 < w5.heap.size := by omega
    try have y54b : w4.heap.size < w5.heap.size + 1 + 1 := by omega
    try have y54c : w4.heap.size + 1 < w5.heap.size + 1 + 1 := by omega
    clear hc5 hf5
    rw [HV.out.1]
    rw [HV.out.2] at hnb ho
    obtain rfl : nb = 8 := hnb
    have U := Lib.hid (nr_own ho)
    have X5 := Lib.hid (blk_below X4.out R5.out (blk_lt X4.out))
    have Y5 := Lib.hid (blk_below Y4.out R5.out (blk_lt Y4.out))
    clear ho g0 g1 g2 g3 g4 g5 g6 g7 g8 g9 g10 g11 g12 X4 Y4 G4
    have g0 := blk_cell Y5.out 0
    have g3 := blk_cell Y5.out 3
    have q1 := (sc_blk X5.out).c1
    go_wp2_with fail
    go_loopw [9, 10] (fun s i wr => SmRel w5 s i wr) (fun _ i _ => 8 - (intOf i).toNat)
    case atStart => exact ⟨0, by omega, rfl, rfl, rfl⟩
    case round =>
      obtain ⟨k, hk8, rfl, rfl, rfl⟩ := hrel
      by_cases hlt : k < 8
      · obtain ⟨b1, o1, x1, rfl, hb1, hv1, c01⟩ := nr_at U.out hlt
        obtain rfl : x1 = 0 := by rw [List.getElem?_replicate, if_pos hlt] at hv1; exact (Option.some.inj hv1).symm
        have k0 : (0 : Int) ≤ (k : Int) := by omega
        have k1 : (k : Int) < (8 : Int) := by omega
        clear hv1
        go_wp2
        go_roundw
        case rel => exact ⟨k + 1, by omega, by go_num, by go_num, rfl⟩
        case measure => simp [intOf]; omega
      · obtain rfl : k = 8 := by omega
        go_wp2
        all_goals
          go_ret
          refine ⟨rfl, ?_⟩
          repeat refine below_alloc ?_ _
          exact B5.out
theorem own : ownKnob Try.prog.godebug = none := by kernel_rfl
theorem laidOut : laidOutB Try.prog = true := by kernel_rfl
set_option maxRecDepth 100000 in
theorem lifted (os : Os) (started : os.Started) (H : Type) (enc : TypeId × Value → H) :
    ReturnsInHanded {} Try.checked os 3 .any (Rows.fnSettingsGuardSpec.pre6 enc Try.prog Try.f3 Rows.fnSettingsGuardRow.domain false) (Rows.fnSettingsGuardSpec.post enc Try.prog Try.f3 false true false false) := by
  refine returnsInHanded_of_change (C := Try.checked) own started (by kernel_rfl) Try.func3
    (ChangeSpec.witness6 (enc := enc) (C := Try.checked) false ⟨#[], #[.slice none 0 0], []⟩ 8 (by kernel_rfl) (by kernel_rfl) (by kernel_rfl) (by kernel_rfl)) ?_
  intro W base args ds gs before hval0 hW _ _
  have hval : ∀ (j : Nat) t v, Try.f3.params[j]? = some t → args[j]? = some v → Value.okWide Try.prog W .any base t v := hval0
  have hW' := hW
  obtain ⟨p, q, hA0, hV, rfl, _, _⟩ := hW
  have hA : DataW.TrodAll enc Try.prog W 0 (fun _ => true) true Try.f3.params.toList args.toList ds p := hA0
  rw [Try.params3] at hA hval
  obtain ⟨v0, vs0, d0, ds0, p0, q0, hargs, rfl, rfl, h0, r0⟩ := trodAll_cons hA
  obtain ⟨rfl, rfl, rfl⟩ := trodAll_nil r0
  obtain rfl : args = #[v0] := by cases args; simp_all
  obtain ⟨rfl, rfl⟩ := trodVars_none hV
  have lt0 : ∀ x ∈ p0, x.block < W.heap.size := by obtain ⟨m, hm⟩ := h0; exact DataW.trod_lt m _ _ _ hm
  obtain ⟨a0, n0, c0, rfl⟩ := okWide_slice Try.underlying22 (hval 0 22 v0 rfl rfl)
  have w0 : Bytes W a0 n0 c0 := bytes_open h0
  clear hA0 hval0
  refine (walk a0 n0 c0 W w0).mono fun e W' ⟨he, bel⟩ => ?_
  subst he
  exact ⟨_, rfl, _, _, _, [], _, [], hW', trodAll_mk1 (shut_bool Try.underlying4 _), (trodAll_cons_mk (Below.trod laidOut (by kernel_rfl) (of_decide_eq_true (by kernel_rfl)) h0 bel lt0) trodAll_mk0), rfl, bel.frame _, fun h => by cases h⟩
theorem over : Rows.fnSettingsGuardRow.holds Try.pinned (OpenSpec.ofChange Rows.fnSettingsGuardSpec) :=
  OpenClaim.holds_of_wide 3 Try.f3 rfl rfl rfl rfl rfl rfl rfl ⟨rfl, rfl, rfl, rfl, rfl⟩ rfl rfl rfl rfl rfl (by kernel_rfl) Try.func3 (by unfold joinedFacts; rw [mayEnter, liftsFinal, makeIs]; kernel_rfl)
    (of_decide_eq_true (by kernel_rfl)) (by unfold Func.isWrapper; first | (rw [if_pos (by decide +kernel)]; kernel_rfl) | (rw [if_neg (by decide +kernel)]; exact ⟨rfl, rfl⟩))
    (fun os started H enc _ => lifted os started H enc)
/-- the given statement -/
theorem proved : Rows.FnSettingsGuardSaid := over
end Go.Proofs.Ytanaeebjcbbagaa.fnSettingsGuard
