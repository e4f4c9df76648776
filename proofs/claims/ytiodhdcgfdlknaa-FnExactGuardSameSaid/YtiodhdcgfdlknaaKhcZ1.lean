/-
  Chapter 4: validity, equality, what is free, a copy with a change; the program's. Conditions: a slice's length fits an int; what is copied has at most 4000000000 numbers. Chapter 4: what is free, Reserve, Release, NewAccount; the program's. Conditions: a slice has at most 4000000000 numbers.
  Conditions: each lemma says them.
-/
import Derived.Test.YtiodhdcgfdlknaaKhZ1
import Derived.Deep.DeepCutAuto
import Derived.Test.YtiodhdcgfdlknaaKbZ1
import Derived.Lib.SliceRun
namespace Go.Proofs.Ytiodhdcgfdlknaa
open Go.RowKit
set_option maxHeartbeats 2000000 in
theorem eqII_any (A A2 : Option Addr) (n c n2 c2 : Nat) (us vs : List Int) (w : World) (h : NR w A n us) (h2 : NR w A2 n2 vs) (hn : n ≤ 9223372036854775807) (hn2 : n2 ≤ 9223372036854775807) :
    Calls Try.prog 81 #[.slice A n c, .slice A2 n2 c2] w fun e w' => e = .returned (.bool (intsB us vs)) ∧ Below w.heap.size w w' := by
  have H := Lib.hid h
  have H2 := Lib.hid h2
  clear h h2
  by_cases hl : n = n2
  · subst hl
    go_enter Try.func81, Try.ntmps81
    go_wp2
    go_loopw [13] (fun i wr => InRel us vs w n i wr) (fun i _ => n - (intOf i).toNat)
    case atStart => exact ⟨0, Nat.zero_le _, rfl, by simp, Below.refl _ _⟩
    case round =>
      obtain ⟨k, hk, rfl, ht, hbl⟩ := hrel
      have HT := Lib.hid ht
      have HB := Lib.hid hbl
      clear ht
      by_cases hlt : k < n
      · obtain ⟨b, off, x, rfl, hb, hx, c0⟩ := nr_at (nr_below H.out hbl) hlt
        obtain ⟨b2, off2, y, rfl, hb2, hy, d0⟩ := nr_at (nr_below H2.out hbl) hlt
        have HX := Lib.hid hx
        have HY := Lib.hid hy
        have k0 : (0 : Int) ≤ (k : Int) := by omega
        have k1 : (k : Int) < (n : Int) := by omega
        clear hbl hx hy
        by_cases hxy : x = y
        · subst hxy
          go_wp2_with fail
          go_quiet (fail)
          go_wp2
          go_roundw
          case rel => exact ⟨k + 1, by omega, by go_num, takeI_step HT.out HX.out HY.out, below_drewN HB.out _⟩
          case measure => simp [intOf]; omega
        · have hne : (x != y) = true := by simp [hxy]
          have HN := Lib.hid hxy
          clear hxy
          go_wp2_with fail
          go_quiet (fail)
          go_wp2
          go_ret
          exact ⟨ret_bool (ints_no (by rintro rfl; have := HX.out; rw [HY.out] at this; injection this with this; exact HN.out this.symm)), below_drewN HB.out _⟩
      · obtain rfl : k = n := by omega
        clear hbl
        go_wp2
        go_ret
        exact ⟨ret_bool (ints_yes (takeI_all HT.out (by have := H.out.1; omega) (by have := H2.out.1; omega))), HB.out⟩
  · have hlb : ((n : Int) != (n2 : Int)) = true := by simp; omega
    have HL := Lib.hid hl
    clear hl
    go_enter Try.func81, Try.ntmps81
    go_wp2
    go_ret
    exact ⟨ret_bool (ints_no (by rintro rfl; exact HL.out (H.out.1.symm.trans H2.out.1))), Below.refl _ _⟩
set_option maxHeartbeats 1000000 in
theorem asI_any (l1 e1 l2 e2 : Int) (A A2 : Option Addr) (n c n2 c2 : Nat) (us vs : List Int) (w : World) (h : NR w A n us) (h2 : NR w A2 n2 vs) (hn : n ≤ 9223372036854775807) (hn2 : n2 ≤ 9223372036854775807) :
    Calls Try.prog 86 #[.agg #[.int .i64 l1, .int .i64 e1, (.slice A n c)], .agg #[.int .i64 l2, .int .i64 e2, (.slice A2 n2 c2)]] w fun e w' => e = .returned (.bool (asB l1 e1 us l2 e2 vs)) ∧ Below w.heap.size w w' := by
  have H := Lib.hid h
  have H2 := Lib.hid h2
  have B0 := Lib.hid (below_alloc (below_alloc (Below.refl w.heap.size w) (.cells #[.int .i64 l1, .int .i64 e1, (.slice A n c)] 35)) (.cells #[.int .i64 l2, .int .i64 e2, (.slice A2 n2 c2)] 35))
  clear h h2
  by_cases hl : l1 = l2
  · subst hl
    by_cases he : e1 = e2
    · subst he
      have HQ : Hid (asB l1 e1 us l1 e1 vs = intsB us vs) := Lib.hid (by simp [asB])
      go_enter Try.func86, Try.ntmps86
      go_wp2_with fail
      refine (eqII_any A A2 n c n2 c2 us vs _ (nr_alloc (nr_alloc H.out _) _) (nr_alloc (nr_alloc H2.out _) _) hn hn2).mono ?_
      rintro e w1 ⟨rfl, hb⟩
      have HB := Lib.hid (below_seq B0.out hb)
      clear hb
      go_wp2
      go_ret
      exact ⟨ret_bool HQ.out.symm, HB.out⟩
    · have HQ : Hid (asB l1 e1 us l1 e2 vs = false) := Lib.hid (by simp [asB, he])
      have hd : (e1 == e2) = false := by simp [he]
      clear he
      go_enter Try.func86, Try.ntmps86
      go_wp2
      go_ret
      exact ⟨ret_bool HQ.out.symm, B0.out⟩
  · have HQ : Hid (asB l1 e1 us l2 e2 vs = false) := Lib.hid (by simp [asB, hl])
    have hd : (l1 == l2) = false := by simp [hl]
    clear hl
    go_enter Try.func86, Try.ntmps86
    go_wp2
    go_ret
    exact ⟨ret_bool HQ.out.symm, B0.out⟩
end Go.Proofs.Ytiodhdcgfdlknaa
namespace Go.Proofs.Ytiodhdcgfdlknaa
open Go.RowKit
end Go.Proofs.Ytiodhdcgfdlknaa
