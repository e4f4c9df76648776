/-
  A guard, and settings, that come in as an argument. Conditions: none.
  Conditions: each lemma says them.
-/
import Derived.Test.YtiodhdcgfdlknaaKb5Z2
import Derived.Test.YtiodhdcgfdlknaaKb3Z2
import Derived.Test.YtiodhdcgfdlknaaKkZ2
import Derived.Test.YtiodhdcgfdlknaaKzZ2
import Derived.Test.YtiodhdcgfdlknaaKlZ2
import Derived.Test.YtiodhdcgfdlknaaKmZ2
import Derived.Test.YtiodhdcgfdlknaaKdZ2
import Derived.Test.YtiodhdcgfdlknaaKcZ2
import Derived.Laws.IdiomCopy
import Derived.Deep.CutBlock
import Derived.Deep.DeepCutAuto
import Derived.Test.YtiodhdcgfdlknaaKb2Z2
import Derived.Test.YtiodhdcgfdlknaaKhZ2
import Derived.Test.YtiodhdcgfdlknaaKoZ2
import Derived.Deep.Slices
import Derived.Deep.Fields
import Derived.ChangeSame
import Derived.Lib.SmallJoins
namespace Go.Proofs.Ytiodhdcgfdlknaa
open Go.ChangeShapes Go.WideShapes Go.ChangeAt Go.RowKit Go.Deep
theorem array13 {α : Type} {cs : Array α} (h : cs.size = 13) : ∃ c0 c1 c2 c3 c4 c5 c6 c7 c8 c9 c10 c11 c12, cs = #[c0, c1, c2, c3, c4, c5, c6, c7, c8, c9, c10, c11, c12] := by
  obtain ⟨l⟩ := cs
  match l, h with
  | [c0, c1, c2, c3, c4, c5, c6, c7, c8, c9, c10, c11, c12], _ => exact ⟨c0, c1, c2, c3, c4, c5, c6, c7, c8, c9, c10, c11, c12, rfl⟩
theorem list6 {α : Type} {l : List α} (h : l.length = 6) : ∃ c0 c1 c2 c3 c4 c5, l = [c0, c1, c2, c3, c4, c5] := by
  match l, h with
  | [c0, c1, c2, c3, c4, c5], _ => exact ⟨c0, c1, c2, c3, c4, c5, rfl⟩
theorem one_int {H : Type} {enc : TypeId × Value → H} {W : World} {base : Nat} {sp : Nat → Bool} {hd : Bool} {n : Nat} {v : Value} {y : DataW H × List MemPlace} (h : DataW.trod enc Try.prog W base sp hd n 3 [v] = some y) : ∃ x, v = .int .i64 x := by
  obtain ⟨x, e, _, _⟩ := DataW.trod_int Try.underlying3 h
  exact ⟨x, by simpa using e⟩
set_option maxRecDepth 100000 in
set_option maxHeartbeats 2000000 in
theorem guard_open {H : Type} {enc : TypeId × Value → H} {W : World} {base b0 : Nat} {sp : Nat → Bool} {hd : Bool} {r : Reach} {v : Value} {d : DataW H} {p : List MemPlace}
    (hv : Value.okWide Try.prog W r b0 56 v) (h : DataW.Trod enc Try.prog W base sp hd 56 v d p) : ∃ g k, v = .agg (gcs g k) ∧ GA W k g := by
  obtain ⟨cs, rfl, hsz⟩ := okWide_struct Try.underlying56 hv
  obtain ⟨c0, c1, c2, c3, c4, c5, c6, c7, c8, c9, c10, c11, c12, rfl⟩ := array13 (hsz.trans (by kernel_rfl))
  obtain ⟨fuel, hf⟩ := h
  obtain ⟨xs, n, _, _, _, hlen, hx⟩ := DataW.trod_struct Try.underlying56 hf
  obtain ⟨y0, y1, y2, y3, y4, y5, rfl⟩ := list6 hlen
  have I1 : Try.prog.cellsOf 3 = 1 := by kernel_rfl
  have I2 : Try.prog.cellsOf 22 = 1 := by kernel_rfl
  have I3 : Try.prog.cellsOf 49 = 1 := by kernel_rfl
  have I4 : Try.prog.cellsOf 54 = 1 := by kernel_rfl
  have I5 : Try.prog.cellsOf 51 = 1 := by kernel_rfl
  have I6 : Try.prog.cellsOf 48 = 4 := by kernel_rfl
  have I7 : Try.prog.cellsOf 50 = 3 := by kernel_rfl
  have I8 : Try.prog.cellsOf 53 = 3 := by kernel_rfl
  have t0 := hx 0 _ rfl
  have t1 := hx 1 _ rfl
  have t2 := hx 2 _ rfl
  have t3 := hx 3 _ rfl
  have t4 := hx 4 _ rfl
  have t5 := hx 5 _ rfl
  simp [Value.cells, I1, I3, I4, I6, I7, I8] at t0 t1 t2 t3 t4 t5
  obtain ⟨x0, rfl⟩ := one_int t0
  obtain ⟨z0, z1, z2, z3, _, _, _, u0, u1, u2, u3⟩ := Go.Joins.trod_struct4 Try.underlying48 t1
  simp [I1] at u0 u1 u2 u3
  obtain ⟨x1, rfl⟩ := one_int u0
  obtain ⟨x2, rfl⟩ := one_int u1
  obtain ⟨x3, rfl⟩ := one_int u2
  obtain ⟨x4, rfl⟩ := one_int u3
  obtain ⟨E, ne, ce, es, rfl, hE, hne⟩ := pkts_open1B t2
  obtain ⟨z0, z1, z2, _, _, _, u0, u1, u2⟩ := trod_struct3 Try.underlying50 t3
  simp [I1, I2] at u0 u1 u2
  obtain ⟨x5, rfl⟩ := one_int u0
  obtain ⟨x6, rfl⟩ := one_int u1
  obtain ⟨U, nu, cu, us, rfl, hU, hnu⟩ := ints_open1 u2
  obtain ⟨z0, z1, z2, _, _, _, u0, u1, u2⟩ := trod_struct3 Try.underlying53 t4
  simp [I2, I5] at u0 u1 u2
  obtain ⟨A, na, ca, rs, rfl, hA, hna⟩ := robs_open1 u0
  obtain ⟨B, nb, cb, ws, rfl, hB, hnb⟩ := ints_open1 u1
  obtain ⟨C, nc, cc, cs, rfl, hC, hnc⟩ := ints_open1 u2
  obtain ⟨S, ns, cs2, ss, rfl, hS, hns⟩ := pkts_open1S t5
  exact ⟨⟨x0, ⟨x1, x2, x3, x4⟩, es, x5, x6, us, ⟨rs, ws, cs⟩, ss⟩, ⟨E, ne, ce, U, nu, cu, A, na, ca, B, nb, cb, C, nc, cc, S, ns, cs2⟩, rfl, ⟨hE, hU, ⟨hA, hB, hC, hna, hnb, hnc⟩, hS, hne, hnu, hns⟩⟩
end Go.Proofs.Ytiodhdcgfdlknaa
