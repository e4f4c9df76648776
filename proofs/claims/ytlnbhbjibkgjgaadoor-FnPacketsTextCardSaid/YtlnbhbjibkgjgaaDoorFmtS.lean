/-
  The model's FormatPacket: what it returns. Conditions: none.
-/
import Derived.Test.YtlnbhbjibkgjgaaDoorFmt
import Derived.Test.YtlnbhbjibkgjgaaDoorEx1
namespace Go.Proofs.YtlnbhbjibkgjgaaDoor
open Go.RowKit

theorem nat4 {p : Pkt} (h : vldB p = true) : ∃ a b c d : Nat, p = ⟨a, b, c, d⟩ := by
  obtain ⟨x1, x2, x3, x4⟩ := p
  simp only [vldB, decide_eq_true_eq] at h
  exact ⟨x1.toNat, x2.toNat, x3.toNat, x4.toNat, by rw [Int.toNat_of_nonneg (by omega), Int.toNat_of_nonneg (by omega), Int.toNat_of_nonneg (by omega), Int.toNat_of_nonneg (by omega)]⟩
theorem vld_nat {a b c d : Nat} (h : vldB ⟨a, b, c, d⟩ = true) : a ≤ 7 ∧ b ≤ 3 ∧ 1 ≤ c ∧ c ≤ 100 ∧ d ≤ 9999 := by
  simp only [vldB, decide_eq_true_eq] at h
  omega
set_option maxRecDepth 100000 in
set_option maxHeartbeats 1000000 in
theorem fmtS_no (p : Pkt) (w : World) (hv : vldB p = false) :
    Calls Tryd.prog 14 #[.agg #[.int .i64 p.peer, .int .i64 p.lane, .int .i64 p.size, .int .i64 p.id]] w fun e w' => e = .returned (.string ⟨#[]⟩) ∧ Below w.heap.size w w' := by
  go_enter Tryd.func14, Tryd.ntmps14
  go_wp2_with fail
  refine (vldS_any p _).mono ?_
  rintro e w1 ⟨rfl, hb⟩
  obtain ⟨hc1, hf1⟩ := bcell hb
  have B1 := Lib.hid (show Below w.heap.size w w1 from (by first | exact below_seq (Below.refl w.heap.size w) hb | exact below_seq1 (Below.refl w.heap.size w) hb | exact below_seq2 (Below.refl w.heap.size w) hb | exact below_seq3 (Below.refl w.heap.size w) hb | exact below_seq4 (Below.refl w.heap.size w) hb))
  have R1 := Lib.hid hb
  have hz1 := hb.size
  try simp at hz1
  clear hb
  have y1a : w.heap.size < w1.heap.size := by omega
  rw [hv]
  go_wp2
  go_ret
  exact ⟨rfl, B1.out⟩
set_option maxRecDepth 100000 in
set_option maxHeartbeats 1000000 in
theorem fmtS_yes (a b c d : Nat) (w : World) (hv : vldB ⟨a, b, c, d⟩ = true) :
    Calls Tryd.prog 14 #[.agg #[.int .i64 (a:Int), .int .i64 (b:Int), .int .i64 (c:Int), .int .i64 (d:Int)]] w fun e w' => e = .returned (.string ⟨(textL a b c d).toArray⟩) ∧ Below w.heap.size w w' := by
  have h := vld_nat hv
  have HV := Lib.hid hv
  clear hv
  go_enter Tryd.func14, Tryd.ntmps14
  go_wp2_with fail
  refine (vldS_any ⟨a, b, c, d⟩ _).mono ?_
  rintro e w1 ⟨rfl, hb⟩
  obtain ⟨hc1, hf1⟩ := bcell hb
  have B1 := Lib.hid (show Below w.heap.size w w1 from (by first | exact below_seq (Below.refl w.heap.size w) hb | exact below_seq1 (Below.refl w.heap.size w) hb | exact below_seq2 (Below.refl w.heap.size w) hb | exact below_seq3 (Below.refl w.heap.size w) hb | exact below_seq4 (Below.refl w.heap.size w) hb))
  have R1 := Lib.hid hb
  have hz1 := hb.size
  try simp at hz1
  clear hb
  have y1a : w.heap.size < w1.heap.size := by omega
  rw [HV.out]
  go_wp2_with fail
  refine (l1Text_any a b c d _ (by omega) (by omega) (by omega) (by omega)).mono ?_
  rintro e w2 ⟨rfl, hb⟩
  obtain ⟨hc2, hf2⟩ := bcell hb
  have B2 := Lib.hid (show Below w.heap.size w w2 from (by first | exact below_seq B1.out hb | exact below_seq1 B1.out hb | exact below_seq2 B1.out hb | exact below_seq3 B1.out hb | exact below_seq4 B1.out hb))
  have R2 := Lib.hid hb
  have hz2 := hb.size
  try simp at hz2
  clear hb
  have y2a : w.heap.size < w2.heap.size := by omega
  go_wp2
  go_ret
  exact ⟨rfl, B2.out⟩
end Go.Proofs.YtlnbhbjibkgjgaaDoor
