/-
  The law FnPacketText returns true at every argument: formatting and parsing are inverse. Conditions: the listed tables of the library hold what their text lays (the card ties them).
-/
import Derived.Test.YtlnbhbjibkgjgaaDoorLift
import Derived.Test.YtlnbhbjibkgjgaaDoorDrawPkts
import Derived.Test.YtlnbhbjibkgjgaaDoorDrawText
import Derived.Test.YtlnbhbjibkgjgaaDoorBack
import Derived.Test.YtlnbhbjibkgjgaaDoorTab
namespace Go.Proofs.YtlnbhbjibkgjgaaDoor.fnPacketText
open Go.ChangeShapes Go.WideShapes Go.ChangeAt Go.RowKit

set_option maxRecDepth 100000 in
set_option maxHeartbeats 8000000 in
theorem walk (A : Option Addr) (n c : Nat) (A2 : Option Addr) (n2 c2 : Nat) (w : World) (h : Bytes w A n c) (h2 : Bytes w A2 n2 c2) (ht : Tab w) :
    Calls Tryd.prog 3 #[.slice A n c, .slice A2 n2 c2] w fun e w' => e = .returned (.bool true) ∧ Below w.heap.size w w' := by
  have HB := Lib.hid h
  have HB2 := Lib.hid h2
  have HT := Lib.hid ht
  clear h h2 ht
  by_cases hbig : ¬ n ≤ 1048576
  · go_enter Tryd.func3, Tryd.ntmps3
    go_wp2
    go_ret
    exact ⟨rfl, Below.refl _ _⟩
  have hbig' : n ≤ 1048576 := by omega
  clear hbig
  by_cases hbig : ¬ n2 ≤ 1048576
  · go_enter Tryd.func3, Tryd.ntmps3
    go_wp2
    go_ret
    exact ⟨rfl, Below.refl _ _⟩
  have hbig2' : n2 ≤ 1048576 := by omega
  clear hbig
  go_enter Tryd.func3, Tryd.ntmps3
  go_wp2_with fail
  refine (drawFormatPacket_any A n c _ HB.out).mono ?_
  rintro e w1 ⟨p, rfl, hb⟩
  obtain ⟨hc1, hf1⟩ := bcell hb
  have B1 := Lib.hid (show Below w.heap.size w w1 from (by first | exact below_seq (Below.refl w.heap.size w) hb | exact below_seq1 (Below.refl w.heap.size w) hb | exact below_seq2 (Below.refl w.heap.size w) hb | exact below_seq3 (Below.refl w.heap.size w) hb | exact below_seq4 (Below.refl w.heap.size w) hb))
  have R1 := Lib.hid hb
  have hz1 := hb.size
  try simp at hz1
  clear hb
  rcases hv : vldB p with _ | _
  · have HV := Lib.hid hv
    clear hv
    go_wp2_with fail
    refine (fmtI_no p _ HV.out).mono ?_
    rintro e w2 ⟨rfl, hb⟩
    obtain ⟨hc2, hf2⟩ := bcell hb
    have B2 := Lib.hid (show Below w.heap.size w w2 from (by first | exact below_seq B1.out hb | exact below_seq1 B1.out hb | exact below_seq2 B1.out hb | exact below_seq3 B1.out hb | exact below_seq4 B1.out hb))
    have R2 := Lib.hid hb
    have hz2 := hb.size
    try simp at hz2
    clear hb
    try have y20 : w.heap.size < w2.heap.size := by omega
    try have y21 : w1.heap.size < w2.heap.size := by omega
    go_wp2_with fail
    refine (parseI_no _ (by decide) ok_empty).mono ?_
    rintro e w3 ⟨rfl, hb⟩
    obtain ⟨hc3, hf3⟩ := bcell hb
    have B3 := Lib.hid (show Below w.heap.size w w3 from (by first | exact below_seq B2.out hb | exact below_seq1 B2.out hb | exact below_seq2 B2.out hb | exact below_seq3 B2.out hb | exact below_seq4 B2.out hb))
    have R3 := Lib.hid hb
    have hz3 := hb.size
    try simp at hz3
    clear hb
    try have y30 : w.heap.size < w3.heap.size := by omega
    try have y31 : w1.heap.size < w3.heap.size := by omega
    try have y32 : w2.heap.size < w3.heap.size := by omega
    go_wp2_with fail
    refine (vldI_any p _).mono ?_
    rintro e w4 ⟨rfl, hb⟩
    obtain ⟨hc4, hf4⟩ := bcell hb
    have B4 := Lib.hid (show Below w.heap.size w w4 from (by first | exact below_seq B3.out hb | exact below_seq1 B3.out hb | exact below_seq2 B3.out hb | exact below_seq3 B3.out hb | exact below_seq4 B3.out hb))
    have R4 := Lib.hid hb
    have hz4 := hb.size
    try simp at hz4
    clear hb
    try have y40 : w.heap.size < w4.heap.size := by omega
    try have y41 : w1.heap.size < w4.heap.size := by omega
    try have y42 : w2.heap.size < w4.heap.size := by omega
    try have y43 : w3.heap.size < w4.heap.size := by omega
    rw [HV.out]
    go_wp2_with fail
    refine (fmtS_no p _ HV.out).mono ?_
    rintro e w5 ⟨rfl, hb⟩
    obtain ⟨hc5, hf5⟩ := bcell hb
    have B5 := Lib.hid (show Below w.heap.size w w5 from (by first | exact below_seq B4.out hb | exact below_seq1 B4.out hb | exact below_seq2 B4.out hb | exact below_seq3 B4.out hb | exact below_seq4 B4.out hb))
    have R5 := Lib.hid hb
    have hz5 := hb.size
    try simp at hz5
    clear hb
    try have y50 : w.heap.size < w5.heap.size := by omega
    try have y51 : w1.heap.size < w5.heap.size := by omega
    try have y52 : w2.heap.size < w5.heap.size := by omega
    try have y53 : w3.heap.size < w5.heap.size := by omega
    try have y54 : w4.heap.size < w5.heap.size := by omega
    go_wp2_with fail
    refine (vldS_any p _).mono ?_
    rintro e w6 ⟨rfl, hb⟩
    obtain ⟨hc6, hf6⟩ := bcell hb
    have B6 := Lib.hid (show Below w.heap.size w w6 from (by first | exact below_seq B5.out hb | exact below_seq1 B5.out hb | exact below_seq2 B5.out hb | exact below_seq3 B5.out hb | exact below_seq4 B5.out hb))
    have R6 := Lib.hid hb
    have hz6 := hb.size
    try simp at hz6
    clear hb
    try have y60 : w.heap.size < w6.heap.size := by omega
    try have y61 : w1.heap.size < w6.heap.size := by omega
    try have y62 : w2.heap.size < w6.heap.size := by omega
    try have y63 : w3.heap.size < w6.heap.size := by omega
    try have y64 : w4.heap.size < w6.heap.size := by omega
    try have y65 : w5.heap.size < w6.heap.size := by omega
    rw [HV.out]
    go_wp2_with fail
    refine (drawParsePacket_any A2 n2 c2 _ (bytes_below HB2.out B6.out)).mono ?_
    rintro e w7 ⟨X, rfl, hX, hb⟩
    obtain ⟨hc7, hf7⟩ := bcell hb
    have B7 := Lib.hid (show Below w.heap.size w w7 from (by first | exact below_seq B6.out hb | exact below_seq1 B6.out hb | exact below_seq2 B6.out hb | exact below_seq3 B6.out hb | exact below_seq4 B6.out hb))
    have R7 := Lib.hid hb
    have hz7 := hb.size
    try simp at hz7
    clear hb
    rcases hx : okT X with _ | _
    · have HX := Lib.hid hx
      clear hx
      go_wp2_with fail
      refine (parseI_no _ (by omega) HX.out).mono ?_
      rintro e w8 ⟨rfl, hb⟩
      obtain ⟨hc8, hf8⟩ := bcell hb
      have B8 := Lib.hid (show Below w.heap.size w w8 from (by first | exact below_seq B7.out hb | exact below_seq1 B7.out hb | exact below_seq2 B7.out hb | exact below_seq3 B7.out hb | exact below_seq4 B7.out hb))
      have R8 := Lib.hid hb
      have hz8 := hb.size
      try simp at hz8
      clear hb
      try have y80 : w.heap.size < w8.heap.size := by omega
      try have y81 : w1.heap.size < w8.heap.size := by omega
      try have y82 : w2.heap.size < w8.heap.size := by omega
      try have y83 : w3.heap.size < w8.heap.size := by omega
      try have y84 : w4.heap.size < w8.heap.size := by omega
      try have y85 : w5.heap.size < w8.heap.size := by omega
      try have y86 : w6.heap.size < w8.heap.size := by omega
      try have y87 : w7.heap.size < w8.heap.size := by omega
      go_wp2_with fail
      refine (parseS_no _ (by omega) HX.out).mono ?_
      rintro e w9 ⟨rfl, hb⟩
      obtain ⟨hc9, hf9⟩ := bcell hb
      have B9 := Lib.hid (show Below w.heap.size w w9 from (by first | exact below_seq B8.out hb | exact below_seq1 B8.out hb | exact below_seq2 B8.out hb | exact below_seq3 B8.out hb | exact below_seq4 B8.out hb))
      have R9 := Lib.hid hb
      have hz9 := hb.size
      try simp at hz9
      clear hb
      try have y90 : w.heap.size < w9.heap.size := by omega
      try have y91 : w1.heap.size < w9.heap.size := by omega
      try have y92 : w2.heap.size < w9.heap.size := by omega
      try have y93 : w3.heap.size < w9.heap.size := by omega
      try have y94 : w4.heap.size < w9.heap.size := by omega
      try have y95 : w5.heap.size < w9.heap.size := by omega
      try have y96 : w6.heap.size < w9.heap.size := by omega
      try have y97 : w7.heap.size < w9.heap.size := by omega
      try have y98 : w8.heap.size < w9.heap.size := by omega
      go_wp2
      all_goals
        go_ret
        refine ⟨rfl, ?_⟩
        repeat refine below_alloc ?_ _
        exact B9.out
    · obtain ⟨a2, b2, c2', d2, hp2, hv2, hX⟩ := text_nat hx
      have HX := Lib.hid (And.intro hx hp2)
      have HV2 := Lib.hid hv2
      have HE := Lib.hid hX
      clear hx hp2 hv2 hX
      go_wp2_with fail
      refine (parseI_yes ⟨a2, b2, c2', d2⟩ _ (by omega) HX.out.1 HX.out.2).mono ?_
      rintro e w8 ⟨rfl, hb⟩
      obtain ⟨hc8, hf8⟩ := bcell hb
      have B8 := Lib.hid (show Below w.heap.size w w8 from (by first | exact below_seq B7.out hb | exact below_seq1 B7.out hb | exact below_seq2 B7.out hb | exact below_seq3 B7.out hb | exact below_seq4 B7.out hb))
      have R8 := Lib.hid hb
      have hz8 := hb.size
      try simp at hz8
      clear hb
      try have y80 : w.heap.size < w8.heap.size := by omega
      try have y81 : w1.heap.size < w8.heap.size := by omega
      try have y82 : w2.heap.size < w8.heap.size := by omega
      try have y83 : w3.heap.size < w8.heap.size := by omega
      try have y84 : w4.heap.size < w8.heap.size := by omega
      try have y85 : w5.heap.size < w8.heap.size := by omega
      try have y86 : w6.heap.size < w8.heap.size := by omega
      try have y87 : w7.heap.size < w8.heap.size := by omega
      go_wp2_with fail
      refine (parseS_yes ⟨a2, b2, c2', d2⟩ _ (by omega) HX.out.1 HX.out.2).mono ?_
      rintro e w9 ⟨rfl, hb⟩
      obtain ⟨hc9, hf9⟩ := bcell hb
      have B9 := Lib.hid (show Below w.heap.size w w9 from (by first | exact below_seq B8.out hb | exact below_seq1 B8.out hb | exact below_seq2 B8.out hb | exact below_seq3 B8.out hb | exact below_seq4 B8.out hb))
      have R9 := Lib.hid hb
      have hz9 := hb.size
      try simp at hz9
      clear hb
      try have y90 : w.heap.size < w9.heap.size := by omega
      try have y91 : w1.heap.size < w9.heap.size := by omega
      try have y92 : w2.heap.size < w9.heap.size := by omega
      try have y93 : w3.heap.size < w9.heap.size := by omega
      try have y94 : w4.heap.size < w9.heap.size := by omega
      try have y95 : w5.heap.size < w9.heap.size := by omega
      try have y96 : w6.heap.size < w9.heap.size := by omega
      try have y97 : w7.heap.size < w9.heap.size := by omega
      try have y98 : w8.heap.size < w9.heap.size := by omega
      go_wp2_with fail
      refine (fmtI_yes a2 b2 c2' d2 _ HV2.out (by first | exact tab_below HT.out B9.out | exact tab_below HT.out (below_alloc B9.out _) | exact tab_below HT.out (below_alloc (below_alloc B9.out _) _))).mono ?_
      rintro e w10 ⟨rfl, hb⟩
      obtain ⟨hc10, hf10⟩ := bcell hb
      have B10 := Lib.hid (show Below w.heap.size w w10 from (by first | exact below_seq B9.out hb | exact below_seq1 B9.out hb | exact below_seq2 B9.out hb | exact below_seq3 B9.out hb | exact below_seq4 B9.out hb))
      have R10 := Lib.hid hb
      have hz10 := hb.size
      try simp at hz10
      clear hb
      try have y100 : w.heap.size < w10.heap.size := by omega
      try have y101 : w1.heap.size < w10.heap.size := by omega
      try have y102 : w2.heap.size < w10.heap.size := by omega
      try have y103 : w3.heap.size < w10.heap.size := by omega
      try have y104 : w4.heap.size < w10.heap.size := by omega
      try have y105 : w5.heap.size < w10.heap.size := by omega
      try have y106 : w6.heap.size < w10.heap.size := by omega
      try have y107 : w7.heap.size < w10.heap.size := by omega
      try have y108 : w8.heap.size < w10.heap.size := by omega
      try have y109 : w9.heap.size < w10.heap.size := by omega
      rw [← HE.out]
      go_wp2
      all_goals
        go_ret
        refine ⟨rfl, ?_⟩
        repeat refine below_alloc ?_ _
        exact B10.out
  · obtain ⟨a, b, c', d, hp⟩ := nat4 hv
    subst hp
    obtain ⟨T, hT⟩ : ∃ T : ByteArray, T = ⟨(textL a b c' d).toArray⟩ := ⟨_, rfl⟩
    have hs : T.size ≤ 1000 := by
      rw [hT]
      show (textL a b c' d).toArray.size ≤ 1000
      have := text_len a b c' d
      simp; omega
    have HP : Hid (okT T = true ∧ pktOf T = ⟨a, b, c', d⟩) := Lib.hid (by rw [hT]; exact pkt_back hv)
    have HX0 := Lib.hid hT
    have HV := Lib.hid hv
    clear hv hT
    go_wp2_with fail
    refine (fmtI_yes a b c' d _ HV.out (by first | exact tab_below HT.out B1.out | exact tab_below HT.out (below_alloc B1.out _) | exact tab_below HT.out (below_alloc (below_alloc B1.out _) _))).mono ?_
    rintro e w2 ⟨rfl, hb⟩
    obtain ⟨hc2, hf2⟩ := bcell hb
    have B2 := Lib.hid (show Below w.heap.size w w2 from (by first | exact below_seq B1.out hb | exact below_seq1 B1.out hb | exact below_seq2 B1.out hb | exact below_seq3 B1.out hb | exact below_seq4 B1.out hb))
    have R2 := Lib.hid hb
    have hz2 := hb.size
    try simp at hz2
    clear hb
    try have y20 : w.heap.size < w2.heap.size := by omega
    try have y21 : w1.heap.size < w2.heap.size := by omega
    rw [← HX0.out]
    go_wp2_with fail
    refine (parseI_yes ⟨a, b, c', d⟩ _ (by omega) HP.out.1 HP.out.2).mono ?_
    rintro e w3 ⟨rfl, hb⟩
    obtain ⟨hc3, hf3⟩ := bcell hb
    have B3 := Lib.hid (show Below w.heap.size w w3 from (by first | exact below_seq B2.out hb | exact below_seq1 B2.out hb | exact below_seq2 B2.out hb | exact below_seq3 B2.out hb | exact below_seq4 B2.out hb))
    have R3 := Lib.hid hb
    have hz3 := hb.size
    try simp at hz3
    clear hb
    try have y30 : w.heap.size < w3.heap.size := by omega
    try have y31 : w1.heap.size < w3.heap.size := by omega
    try have y32 : w2.heap.size < w3.heap.size := by omega
    go_wp2_with fail
    refine (vldI_any ⟨a, b, c', d⟩ _).mono ?_
    rintro e w4 ⟨rfl, hb⟩
    obtain ⟨hc4, hf4⟩ := bcell hb
    have B4 := Lib.hid (show Below w.heap.size w w4 from (by first | exact below_seq B3.out hb | exact below_seq1 B3.out hb | exact below_seq2 B3.out hb | exact below_seq3 B3.out hb | exact below_seq4 B3.out hb))
    have R4 := Lib.hid hb
    have hz4 := hb.size
    try simp at hz4
    clear hb
    try have y40 : w.heap.size < w4.heap.size := by omega
    try have y41 : w1.heap.size < w4.heap.size := by omega
    try have y42 : w2.heap.size < w4.heap.size := by omega
    try have y43 : w3.heap.size < w4.heap.size := by omega
    rw [HV.out]
    go_wp2_with fail
    refine (fmtS_yes a b c' d _ HV.out).mono ?_
    rintro e w5 ⟨rfl, hb⟩
    obtain ⟨hc5, hf5⟩ := bcell hb
    have B5 := Lib.hid (show Below w.heap.size w w5 from (by first | exact below_seq B4.out hb | exact below_seq1 B4.out hb | exact below_seq2 B4.out hb | exact below_seq3 B4.out hb | exact below_seq4 B4.out hb))
    have R5 := Lib.hid hb
    have hz5 := hb.size
    try simp at hz5
    clear hb
    try have y50 : w.heap.size < w5.heap.size := by omega
    try have y51 : w1.heap.size < w5.heap.size := by omega
    try have y52 : w2.heap.size < w5.heap.size := by omega
    try have y53 : w3.heap.size < w5.heap.size := by omega
    try have y54 : w4.heap.size < w5.heap.size := by omega
    rw [← HX0.out]
    go_wp2_with fail
    refine (vldS_any ⟨a, b, c', d⟩ _).mono ?_
    rintro e w6 ⟨rfl, hb⟩
    obtain ⟨hc6, hf6⟩ := bcell hb
    have B6 := Lib.hid (show Below w.heap.size w w6 from (by first | exact below_seq B5.out hb | exact below_seq1 B5.out hb | exact below_seq2 B5.out hb | exact below_seq3 B5.out hb | exact below_seq4 B5.out hb))
    have R6 := Lib.hid hb
    have hz6 := hb.size
    try simp at hz6
    clear hb
    try have y60 : w.heap.size < w6.heap.size := by omega
    try have y61 : w1.heap.size < w6.heap.size := by omega
    try have y62 : w2.heap.size < w6.heap.size := by omega
    try have y63 : w3.heap.size < w6.heap.size := by omega
    try have y64 : w4.heap.size < w6.heap.size := by omega
    try have y65 : w5.heap.size < w6.heap.size := by omega
    rw [HV.out]
    go_wp2_with fail
    refine (drawParsePacket_any A2 n2 c2 _ (bytes_below HB2.out B6.out)).mono ?_
    rintro e w7 ⟨X, rfl, hX, hb⟩
    obtain ⟨hc7, hf7⟩ := bcell hb
    have B7 := Lib.hid (show Below w.heap.size w w7 from (by first | exact below_seq B6.out hb | exact below_seq1 B6.out hb | exact below_seq2 B6.out hb | exact below_seq3 B6.out hb | exact below_seq4 B6.out hb))
    have R7 := Lib.hid hb
    have hz7 := hb.size
    try simp at hz7
    clear hb
    rcases hx : okT X with _ | _
    · have HX := Lib.hid hx
      clear hx
      go_wp2_with fail
      refine (parseI_no _ (by omega) HX.out).mono ?_
      rintro e w8 ⟨rfl, hb⟩
      obtain ⟨hc8, hf8⟩ := bcell hb
      have B8 := Lib.hid (show Below w.heap.size w w8 from (by first | exact below_seq B7.out hb | exact below_seq1 B7.out hb | exact below_seq2 B7.out hb | exact below_seq3 B7.out hb | exact below_seq4 B7.out hb))
      have R8 := Lib.hid hb
      have hz8 := hb.size
      try simp at hz8
      clear hb
      try have y80 : w.heap.size < w8.heap.size := by omega
      try have y81 : w1.heap.size < w8.heap.size := by omega
      try have y82 : w2.heap.size < w8.heap.size := by omega
      try have y83 : w3.heap.size < w8.heap.size := by omega
      try have y84 : w4.heap.size < w8.heap.size := by omega
      try have y85 : w5.heap.size < w8.heap.size := by omega
      try have y86 : w6.heap.size < w8.heap.size := by omega
      try have y87 : w7.heap.size < w8.heap.size := by omega
      go_wp2_with fail
      refine (parseS_no _ (by omega) HX.out).mono ?_
      rintro e w9 ⟨rfl, hb⟩
      obtain ⟨hc9, hf9⟩ := bcell hb
      have B9 := Lib.hid (show Below w.heap.size w w9 from (by first | exact below_seq B8.out hb | exact below_seq1 B8.out hb | exact below_seq2 B8.out hb | exact below_seq3 B8.out hb | exact below_seq4 B8.out hb))
      have R9 := Lib.hid hb
      have hz9 := hb.size
      try simp at hz9
      clear hb
      try have y90 : w.heap.size < w9.heap.size := by omega
      try have y91 : w1.heap.size < w9.heap.size := by omega
      try have y92 : w2.heap.size < w9.heap.size := by omega
      try have y93 : w3.heap.size < w9.heap.size := by omega
      try have y94 : w4.heap.size < w9.heap.size := by omega
      try have y95 : w5.heap.size < w9.heap.size := by omega
      try have y96 : w6.heap.size < w9.heap.size := by omega
      try have y97 : w7.heap.size < w9.heap.size := by omega
      try have y98 : w8.heap.size < w9.heap.size := by omega
      go_wp2
      all_goals
        go_ret
        refine ⟨rfl, ?_⟩
        repeat refine below_alloc ?_ _
        exact B9.out
    · obtain ⟨a2, b2, c2', d2, hp2, hv2, hX⟩ := text_nat hx
      have HX := Lib.hid (And.intro hx hp2)
      have HV2 := Lib.hid hv2
      have HE := Lib.hid hX
      clear hx hp2 hv2 hX
      go_wp2_with fail
      refine (parseI_yes ⟨a2, b2, c2', d2⟩ _ (by omega) HX.out.1 HX.out.2).mono ?_
      rintro e w8 ⟨rfl, hb⟩
      obtain ⟨hc8, hf8⟩ := bcell hb
      have B8 := Lib.hid (show Below w.heap.size w w8 from (by first | exact below_seq B7.out hb | exact below_seq1 B7.out hb | exact below_seq2 B7.out hb | exact below_seq3 B7.out hb | exact below_seq4 B7.out hb))
      have R8 := Lib.hid hb
      have hz8 := hb.size
      try simp at hz8
      clear hb
      try have y80 : w.heap.size < w8.heap.size := by omega
      try have y81 : w1.heap.size < w8.heap.size := by omega
      try have y82 : w2.heap.size < w8.heap.size := by omega
      try have y83 : w3.heap.size < w8.heap.size := by omega
      try have y84 : w4.heap.size < w8.heap.size := by omega
      try have y85 : w5.heap.size < w8.heap.size := by omega
      try have y86 : w6.heap.size < w8.heap.size := by omega
      try have y87 : w7.heap.size < w8.heap.size := by omega
      go_wp2_with fail
      refine (parseS_yes ⟨a2, b2, c2', d2⟩ _ (by omega) HX.out.1 HX.out.2).mono ?_
      rintro e w9 ⟨rfl, hb⟩
      obtain ⟨hc9, hf9⟩ := bcell hb
      have B9 := Lib.hid (show Below w.heap.size w w9 from (by first | exact below_seq B8.out hb | exact below_seq1 B8.out hb | exact below_seq2 B8.out hb | exact below_seq3 B8.out hb | exact below_seq4 B8.out hb))
      have R9 := Lib.hid hb
      have hz9 := hb.size
      try simp at hz9
      clear hb
      try have y90 : w.heap.size < w9.heap.size := by omega
      try have y91 : w1.heap.size < w9.heap.size := by omega
      try have y92 : w2.heap.size < w9.heap.size := by omega
      try have y93 : w3.heap.size < w9.heap.size := by omega
      try have y94 : w4.heap.size < w9.heap.size := by omega
      try have y95 : w5.heap.size < w9.heap.size := by omega
      try have y96 : w6.heap.size < w9.heap.size := by omega
      try have y97 : w7.heap.size < w9.heap.size := by omega
      try have y98 : w8.heap.size < w9.heap.size := by omega
      go_wp2_with fail
      refine (fmtI_yes a2 b2 c2' d2 _ HV2.out (by first | exact tab_below HT.out B9.out | exact tab_below HT.out (below_alloc B9.out _) | exact tab_below HT.out (below_alloc (below_alloc B9.out _) _))).mono ?_
      rintro e w10 ⟨rfl, hb⟩
      obtain ⟨hc10, hf10⟩ := bcell hb
      have B10 := Lib.hid (show Below w.heap.size w w10 from (by first | exact below_seq B9.out hb | exact below_seq1 B9.out hb | exact below_seq2 B9.out hb | exact below_seq3 B9.out hb | exact below_seq4 B9.out hb))
      have R10 := Lib.hid hb
      have hz10 := hb.size
      try simp at hz10
      clear hb
      try have y100 : w.heap.size < w10.heap.size := by omega
      try have y101 : w1.heap.size < w10.heap.size := by omega
      try have y102 : w2.heap.size < w10.heap.size := by omega
      try have y103 : w3.heap.size < w10.heap.size := by omega
      try have y104 : w4.heap.size < w10.heap.size := by omega
      try have y105 : w5.heap.size < w10.heap.size := by omega
      try have y106 : w6.heap.size < w10.heap.size := by omega
      try have y107 : w7.heap.size < w10.heap.size := by omega
      try have y108 : w8.heap.size < w10.heap.size := by omega
      try have y109 : w9.heap.size < w10.heap.size := by omega
      rw [← HE.out]
      go_wp2
      all_goals
        go_ret
        refine ⟨rfl, ?_⟩
        repeat refine below_alloc ?_ _
        exact B10.out
theorem own : ownKnob Tryd.prog.godebug = none := by kernel_rfl
theorem laidOut : laidOutB Tryd.prog = true := by kernel_rfl
theorem table {W : World} (h : laidMetH Tryd.prog Rows.fnPacketTextRow.laid W) : Tab W := by
  have h1 : laidMet Tryd.prog [("math/bits.deBruijn32tab", Rows.laid_math_bits_deBruijn32tab), ("math/bits.deBruijn64tab", Rows.laid_math_bits_deBruijn64tab), ("internal/strconv.uint64pow10", Rows.laid_internal_strconv_uint64pow10)] W := h
  exact table_of h1
set_option maxRecDepth 100000 in
theorem contract (H : Type) (enc : TypeId × Value → H) (W : World) (base : Nat) (args : Array Value) (ds gs : List (DataW H)) (before : List MemPlace)
    (hval : ∀ (j : Nat) t v, Tryd.f3.params[j]? = some t → args[j]? = some v → Value.okWide Tryd.prog W .any base t v)
    (hW : DataW.Whole enc Tryd.prog Tryd.f3.params.toList Rows.fnPacketTextSpec.vars false W args.toList ds gs before) (hL : laidMetH Tryd.prog Rows.fnPacketTextRow.laid W) :
    Calls Tryd.prog 3 args W fun e W' => ∃ v, e = .returned v ∧ Rows.fnPacketTextSpec.post enc Tryd.prog Tryd.f3 false true false false W args v W' := by
  have hW' := hW
  obtain ⟨p, q, hA0, hV, rfl, _, _⟩ := hW
  have hA : DataW.TrodAll enc Tryd.prog W 0 (fun _ => true) true Tryd.f3.params.toList args.toList ds p := hA0
  rw [Tryd.params3] at hA hval
  obtain ⟨v0, vs0, d0, ds0, p0, q0, hargs, rfl, rfl, h0, r0⟩ := trodAll_cons hA
  obtain ⟨v1, vs1, d1, ds1, p1, q1, rfl, rfl, rfl, h1, r1⟩ := trodAll_cons r0
  obtain ⟨rfl, rfl, rfl⟩ := trodAll_nil r1
  obtain rfl : args = #[v0, v1] := by cases args; simp_all
  obtain ⟨rfl, rfl⟩ := trodVars_none hV
  have lt0 : ∀ x ∈ p0, x.block < W.heap.size := by obtain ⟨m, hm⟩ := h0; exact DataW.trod_lt m _ _ _ hm
  obtain ⟨a0, n0, c0, rfl⟩ := okWide_slice Tryd.underlying22 (hval 0 22 v0 rfl rfl)
  have w0 : Bytes W a0 n0 c0 := bytes_open h0
  have lt1 : ∀ x ∈ p1, x.block < W.heap.size := by obtain ⟨m, hm⟩ := h1; exact DataW.trod_lt m _ _ _ hm
  obtain ⟨a1, n1, c1, rfl⟩ := okWide_slice Tryd.underlying22 (hval 1 22 v1 rfl rfl)
  have w1 : Bytes W a1 n1 c1 := bytes_open h1
  clear hA0
  refine (walk a0 n0 c0 a1 n1 c1 W w0 w1 (table hL)).mono fun e W' ⟨he, bel⟩ => ?_
  subst he
  exact ⟨_, rfl, _, _, _, [], _, [], hW', trodAll_mk1 (shut_bool Tryd.underlying4 _), (trodAll_cons_mk (Below.trod laidOut (by kernel_rfl) (of_decide_eq_true (by kernel_rfl)) h0 bel lt0) (trodAll_cons_mk (Below.trod laidOut (by kernel_rfl) (of_decide_eq_true (by kernel_rfl)) h1 bel lt1) trodAll_mk0)), rfl, bel.frame _, fun h => by cases h⟩
def setCells (cs : Array Value) (b : Obj) : Obj := match b with
  | .cells _ t frozen => .cells cs t frozen
  | o => o
def flat1 (d : DataW Unit) : List Value := match d with
  | .lit (.int k n) => [.int k n]
  | .agg ys => ys.flatMap fun y => match y with
    | .lit (.int k n) => [.int k n]
    | _ => []
  | _ => []
def flat (d : DataW Unit) : Array Value := match d with
  | .agg xs => (xs.flatMap flat1).toArray
  | _ => #[]
noncomputable def laidWorld (os : Os) : World :=
  let w := World.holding Tryd.prog os ⟨#[], #[], []⟩
  { w with heap := ((w.heap.modify 4 (setCells (flat Rows.laid_math_bits_deBruijn32tab))).modify 5 (setCells (flat Rows.laid_math_bits_deBruijn64tab))).modify 1 (setCells (flat Rows.laid_internal_strconv_uint64pow10)) }
set_option maxRecDepth 100000 in
theorem laid_met (os : Os) : laidMet Tryd.prog Rows.fnPacketTextRow.laid ((laidWorld os).forCall (fun _ _ => 0) ⟨#[], #[.slice none 0 0, .slice none 0 0], []⟩).memory :=
  laidMet_of_run' 8 (by kernel_rfl) (by kernel_rfl)
theorem reads (os : Os) {H : Type} (enc : TypeId × Value → H) : ∃ places, DataW.whole enc Tryd.prog ((laidWorld os).forCall (fun _ _ => 0) ⟨#[], #[.slice none 0 0, .slice none 0 0], []⟩).memory Tryd.f3.params.toList Rows.fnPacketTextSpec.vars false (#[.slice none 0 0, .slice none 0 0] : Array Value).toList 8 = some ([.nil, .nil], [], places) :=
  ⟨[], by kernel_rfl⟩
set_option maxRecDepth 100000 in
theorem lifted (os : Os) (started : os.Started) (H : Type) (enc : TypeId × Value → H) (F : Stop.Interp) :
    ReturnsInHanded {} Tryd.checked os 3 .any ((OpenSpec.ofChange Rows.fnPacketTextSpec).preRow enc Tryd.prog Tryd.f3 Rows.fnPacketTextRow.domain false Rows.fnPacketTextRow.laid) (((OpenSpec.ofChange Rows.fnPacketTextSpec).at F).post enc Tryd.prog Tryd.f3 false true false false) := by
  obtain ⟨places, hx⟩ := reads os enc
  refine returnsInHanded_of_row (C := Tryd.checked) (s := OpenSpec.ofChange Rows.fnPacketTextSpec) own started (by kernel_rfl) Tryd.func3
    (witness_row_at (enc := enc) (C := Tryd.checked) false (laidWorld os) #[.slice none 0 0, .slice none 0 0] rfl (by kernel_rfl) (by kernel_rfl) (by kernel_rfl)
      (OpenSpec.preRow_of_cond 8 hx (by kernel_rfl) (fun k hk => by cases hk) (by kernel_rfl) (laid_met os))) ?_
  intro W base args ds gs before hval hW _ _ _ hL _ _
  exact contract H enc W base args ds gs before hval hW hL
theorem said : Rows.FnPacketTextSaid :=
  OpenClaim.holds_of_cond 3 Tryd.f3 rfl rfl rfl rfl rfl rfl rfl ⟨rfl, rfl, rfl, rfl, rfl⟩ rfl rfl rfl rfl rfl (by kernel_rfl) Tryd.func3 (by kernel_rfl)
    (of_decide_eq_true (by kernel_rfl)) (by unfold Func.isWrapper; first | (rw [if_pos (by decide +kernel)]; kernel_rfl) | (rw [if_neg (by decide +kernel)]; exact ⟨rfl, rfl⟩))
    (fun os started H enc _ F => by rw [OpenClaim.pre_eq_preRow]; exact lifted os started H enc F)
theorem plain (f : FuncId) (fn : Func) (hf : Tryd.pinned.checked.prog.funcNamed "loop.example/trafficguard/laws.FnPacketText" = some f) (hfn : Tryd.pinned.checked.prog.funcs[f]? = some fn) :
    false = Tryd.pinned.checked.prog.looks [] ∧ ∀ (j : Nat) t, fn.params[j]? = some t → Tryd.pinned.checked.prog.wantsStandIn t = false := by
  obtain rfl : f = 3 := Option.some.inj ((show Tryd.prog.funcNamed "loop.example/trafficguard/laws.FnPacketText" = some 3 by kernel_rfl).symm.trans hf) |>.symm
  obtain rfl : fn = Tryd.f3 := (Option.some.inj (Tryd.func3.symm.trans hfn)).symm
  refine ⟨by kernel_rfl, fun j t ht => ?_⟩
  rw [Tryd.params3] at ht
  obtain rfl : t = 22 := by simpa using Array.mem_of_getElem? ht
  exact (show Tryd.prog.wantsStandIn 22 = false by kernel_rfl)
/-- the given statement -/
theorem proved : Rows.FnPacketTextCardSaid :=
  Claim7.holds_tied_plain_at .later [] _ _ _ _ said (fun _ h => by cases h) (by kernel_rfl) (fun _ h => by cases h) fnPacketText_row_tie rfl ⟨rfl, rfl⟩ (by kernel_rfl) rfl plain (by kernel_rfl)
end Go.Proofs.YtlnbhbjibkgjgaaDoor.fnPacketText
