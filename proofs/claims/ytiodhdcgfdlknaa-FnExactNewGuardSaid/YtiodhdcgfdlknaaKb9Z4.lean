/-
  A guard, and settings, that come in as an argument. Conditions: none.
  Conditions: each lemma says them.
-/
import Derived.Test.YtiodhdcgfdlknaaKb5Z4
import Derived.Test.YtiodhdcgfdlknaaKbtZ4
import Derived.Test.YtiodhdcgfdlknaaKb2Z4
import Derived.Test.YtiodhdcgfdlknaaKhZ4
import Derived.Test.YtiodhdcgfdlknaaKoZ4
import Derived.Deep.Slices
import Derived.Deep.Fields
import Derived.ChangeSame
import Derived.Lib.SmallJoins
namespace Go.Proofs.Ytiodhdcgfdlknaa
open Go.ChangeShapes Go.WideShapes Go.ChangeAt Go.RowKit Go.Deep
theorem array8 {α : Type} {cs : Array α} (h : cs.size = 8) : ∃ c0 c1 c2 c3 c4 c5 c6 c7, cs = #[c0, c1, c2, c3, c4, c5, c6, c7] := by
  obtain ⟨l⟩ := cs
  match l, h with
  | [c0, c1, c2, c3, c4, c5, c6, c7], _ => exact ⟨c0, c1, c2, c3, c4, c5, c6, c7, rfl⟩
theorem list8 {α : Type} {l : List α} (h : l.length = 8) : ∃ c0 c1 c2 c3 c4 c5 c6 c7, l = [c0, c1, c2, c3, c4, c5, c6, c7] := by
  match l, h with
  | [c0, c1, c2, c3, c4, c5, c6, c7], _ => exact ⟨c0, c1, c2, c3, c4, c5, c6, c7, rfl⟩
theorem one_int {H : Type} {enc : TypeId × Value → H} {W : World} {base : Nat} {sp : Nat → Bool} {hd : Bool} {n : Nat} {v : Value} {y : DataW H × List MemPlace} (h : DataW.trod enc Try.prog W base sp hd n 3 [v] = some y) : ∃ x, v = .int .i64 x := by
  obtain ⟨x, e, _, _⟩ := DataW.trod_int Try.underlying3 h
  exact ⟨x, by simpa using e⟩
set_option maxRecDepth 100000 in
set_option maxHeartbeats 1000000 in
theorem settings_open {H : Type} {enc : TypeId × Value → H} {W : World} {base b0 : Nat} {sp : Nat → Bool} {hd : Bool} {r : Reach} {v : Value} {d : DataW H} {p : List MemPlace}
    (hv : Value.okWide Try.prog W r b0 24 v) (h : DataW.Trod enc Try.prog W base sp hd 24 v d p) : ∃ s A n c, v = .agg (stc s A n c) ∧ NR W A n s.ws ∧ n ≤ 9223372036854775807 := by
  obtain ⟨cs, rfl, hsz⟩ := okWide_struct Try.underlying24 hv
  obtain ⟨c0, c1, c2, c3, c4, c5, c6, c7, rfl⟩ := array8 (hsz.trans (by kernel_rfl))
  obtain ⟨fuel, hf⟩ := h
  obtain ⟨xs, n, _, _, _, hlen, hx⟩ := DataW.trod_struct Try.underlying24 hf
  obtain ⟨y0, y1, y2, y3, y4, y5, y6, y7, rfl⟩ := list8 hlen
  have I1 : Try.prog.cellsOf 3 = 1 := by kernel_rfl
  have I2 : Try.prog.cellsOf 22 = 1 := by kernel_rfl
  have t0 := hx 0 _ rfl
  have t1 := hx 1 _ rfl
  have t2 := hx 2 _ rfl
  have t3 := hx 3 _ rfl
  have t4 := hx 4 _ rfl
  have t5 := hx 5 _ rfl
  have t6 := hx 6 _ rfl
  have t7 := hx 7 _ rfl
  simp [Value.cells, I1, I2] at t0 t1 t2 t3 t4 t5 t6 t7
  obtain ⟨x0, rfl⟩ := one_int t0
  obtain ⟨x1, rfl⟩ := one_int t1
  obtain ⟨x2, rfl⟩ := one_int t2
  obtain ⟨x3, rfl⟩ := one_int t3
  obtain ⟨x4, rfl⟩ := one_int t4
  obtain ⟨x5, rfl⟩ := one_int t5
  obtain ⟨x6, rfl⟩ := one_int t6
  obtain ⟨A, m, c, us, rfl, hN, hm⟩ := ints_open1 t7
  exact ⟨⟨x0, x1, x2, x3, x4, x5, x6, us⟩, A, m, c, rfl, hN, hm⟩
end Go.Proofs.Ytiodhdcgfdlknaa
