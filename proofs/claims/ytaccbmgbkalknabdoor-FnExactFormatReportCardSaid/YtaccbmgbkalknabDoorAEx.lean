/-
  What the exact laws do with numbers and accounts: copies, comparison, marks. Conditions: a list has at most 1048576 numbers.
-/
import Derived.Test.YtaccbmgbkalknabDoorA3
import Derived.Test.YtaccbmgbkalknabDoorA2
namespace Go.Proofs.YtaccbmgbkalknabDoor
open Go.RowKit

set_option maxRecDepth 100000 in
set_option maxHeartbeats 1000000 in
theorem eqIntS_any (A A2 : Option Addr) (n c n2 c2 : Nat) (us vs : List Int) (w : World) (h : NR w A n us) (h2 : NR w A2 n2 vs) (hn : n ≤ 9223372036854775807) (hn2 : n2 ≤ 9223372036854775807) :
    Calls Tryd.prog 13 #[.slice A n c, .slice A2 n2 c2] w fun e w' => e = .returned (.bool (intsB us vs)) ∧ Below w.heap.size w w' := by
  have H := Lib.hid h
  have H2 := Lib.hid h2
  clear h h2
  by_cases hl : n = n2
  · subst hl
    go_enter Tryd.func13, Tryd.ntmps13
    go_wp2
    go_loopw [5] (fun i wr => InRel us vs w n i wr) (fun i _ => n - (intOf i).toNat)
    case atStart => exact ⟨0, Nat.zero_le _, rfl, by simp, Below.refl _ _⟩
    case round =>
      obtain ⟨k, hk, rfl, ht, hbl⟩ := hrel
      have HT := Lib.hid ht
      have HB := Lib.hid hbl
      clear ht
      by_cases hlt : k < n
      · obtain ⟨b, off, x, rfl, hb, hx, c0⟩ := nr_at (nr_below H.out hbl) hlt
        obtain ⟨b2, off2, y, rfl, hb2, hy, d0⟩ := nr_at (nr_below H2.out hbl) hlt
        have HX := Lib.hid hx
        have HY := Lib.hid hy
        have k0 : (0 : Int) ≤ (k : Int) := by omega
        have k1 : (k : Int) < (n : Int) := by omega
        clear hbl hx hy
        by_cases hxy : x = y
        · subst hxy
          go_wp2_with fail
          go_quiet (fail)
          go_wp2
          go_roundw
          case rel => exact ⟨k + 1, by omega, by go_num, takeI_step HT.out HX.out HY.out, below_drewN HB.out _⟩
          case measure => simp [intOf]; omega
        · have hne : (x != y) = true := by simp [hxy]
          have HN := Lib.hid hxy
          clear hxy
          go_wp2_with fail
          go_quiet (fail)
          go_wp2
          go_ret
          exact ⟨ret_bool (ints_no (by rintro rfl; have := HX.out; rw [HY.out] at this; injection this with this; exact HN.out this.symm)), below_drewN HB.out _⟩
      · obtain rfl : k = n := by omega
        clear hbl
        go_wp2
        go_ret
        exact ⟨ret_bool (ints_yes (takeI_all HT.out (by have := H.out.1; omega) (by have := H2.out.1; omega))), HB.out⟩
  · have hlb : ((n : Int) != (n2 : Int)) = true := by simp; omega
    have HL := Lib.hid hl
    clear hl
    go_enter Tryd.func13, Tryd.ntmps13
    go_wp2
    go_ret
    exact ⟨ret_bool (ints_no (by rintro rfl; exact HL.out (H.out.1.symm.trans H2.out.1))), Below.refl _ _⟩
def CopyI (w : World) (us : List Int) (n : Nat) (e : Ending) (w' : World) : Prop :=
  ∃ A2, e = .returned (.slice A2 n n) ∧ w'.ownsRow w.heap.size 3 1 (.slice A2 n n) n (icells us) ∧ Below w.heap.size w w'
theorem set_takeI {cur us : List Int} {k n : Nat} {x : Int} (hc : cur.length = n) (hk : k < n) (h : cur.take k = us.take k) (hx : us[k]? = some x) : (cur.set k x).take (k + 1) = us.take (k + 1) := by
  have h1 : (cur.set k x)[k]? = some x := by rw [List.getElem?_set_self (by omega)]
  rw [List.take_add_one, h1, List.take_set_of_le (Nat.le_refl _), h, List.take_add_one, hx]
def CopyIRel (w : World) (A : Option Addr) (us : List Int) (n b : Nat) (i : Value) (wr : World) : Prop :=
  ∃ (k : Nat) (cur : List Int), k ≤ n ∧ i = .int .i64 (k : Int) ∧ cur.length = n ∧ cur.take k = us.take k ∧ SH w A n us b cur wr
set_option maxRecDepth 100000 in
set_option maxHeartbeats 2000000 in
theorem toIntS_any (A : Option Addr) (n c : Nat) (us : List Int) (w : World) (h : NR w A n us) (hn : n ≤ 1048576) :
    Calls Tryd.prog 11 #[.slice A n c] w (CopyI w us n) := by
  have H := Lib.hid h
  have OLD := Lib.hid (nr_old h)
  clear h
  obtain ⟨i0, hi, hz0, hz1, hz2⟩ := info_parts infoInt
  go_enter Tryd.func11, Tryd.ntmps11
  go_wp2_with (refine wpList_make_full _ rfl (.tmp 6) (.tmp 6) 23 rfl w.heap.size 3 i0 _ 1 Tryd.underlying23 hi hz0 hz1 .i64 .i64 n n n rfl rfl rfl rfl (by rw [hz2]; omega) (by unfold maxLen; omega) (Nat.le_refl _) ?_; intro w1 ho1 hg1)
  have R0 : Hid (CopyIRel w A us n w.heap.size (.int .i64 0) w1) := Lib.hid (by
    rw [zerosI] at ho1
    exact ⟨0, _, Nat.zero_le _, rfl, List.length_replicate, by simp, nr_below H.out ⟨hg1.os, hg1.tape, hg1.output, hg1.size, fun i hi => hg1.block i hi (by simp)⟩, ho1, ⟨hg1.os, hg1.tape, hg1.output, hg1.size, fun i hi => hg1.block i hi (by simp)⟩, OLD.out, Nat.le_refl _⟩)
  clear ho1 hg1 hi hz0 hz1 hz2
  go_loopw [4] (fun i wr => CopyIRel w A us n w.heap.size i wr) (fun i _ => n - (intOf i).toNat)
  case atStart => exact R0.out
  case round =>
    obtain ⟨k, cur, hk, rfl, hl, ht, hS⟩ := hrel
    clear R0
    have HS := Lib.hid hS
    have HC := Lib.hid (And.intro hl ht)
    by_cases hlt : k < n
    · obtain ⟨b, off, x, rfl, hb, hx, c0⟩ := nr_at hS.pr hlt
      obtain ⟨b', off', y, e1, hb', hy, d0⟩ := nr_at (nr_own hS.own) hlt
      obtain ⟨rfl, rfl⟩ : w.heap.size = b' ∧ 0 = off' := by injection e1 with e1; injection e1 with a b; exact ⟨a, b⟩
      rw [Nat.zero_add] at d0
      have f0 := World.ownsRow.frozenAt hS.own k
      have HX := Lib.hid hx
      have k0 : (0 : Int) ≤ (k : Int) := by omega
      have k1 : (k : Int) < (n : Int) := by omega
      clear hS hl ht hx hy e1
      go_wp2
      go_roundw
      case rel => exact ⟨k + 1, _, by omega, by go_num, by rw [List.length_set]; exact HC.out.1, set_takeI HC.out.1 hlt HC.out.2 HX.out, sh_set HS.out k x⟩
      case measure => simp [intOf]; omega
    · obtain rfl : k = n := by omega
      have HE := Lib.hid (takeI_all ht (by omega) (by have := H.out.1; omega))
      clear hS hl ht
      go_wp2
      go_ret
      exact ⟨_, rfl, by have o := HS.out.own; rw [HE.out] at o; exact o, HS.out.below⟩
end Go.Proofs.YtaccbmgbkalknabDoor
