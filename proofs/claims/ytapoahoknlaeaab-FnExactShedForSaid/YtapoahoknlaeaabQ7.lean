/-
  Chapter 3: the last packet of a peer; the program's. Conditions: the slice's length fits an int.
-/
import Derived.Test.YtapoahoknlaeaabQ2
namespace Go.Proofs.Ytapoahoknlaeaab
open Go.RowKit

def LastRel (w : World) (ps : List Pkt) (x : Int) (n : Nat) (l i : Value) (wr : World) : Prop :=
  ∃ k : Nat, k ≤ n ∧ i = .int .i64 (k : Int) ∧ l = .int .i64 (lastN ps x k) ∧ Below w.heap.size w wr
set_option maxHeartbeats 1000000 in
theorem lastI_any (A : Option Addr) (n c : Nat) (ps : List Pkt) (x : Int) (w : World) (h : PR w A n ps) (hn : n ≤ 9223372036854775807) :
    Calls Try.prog 64 #[.slice A n c, .int .i64 x] w fun e w' => e = .returned (.int .i64 (lastN ps x n)) ∧ Below w.heap.size w w' := by
  have H := Lib.hid h
  clear h
  go_enter Try.func64, Try.ntmps64
  go_wp2
  go_loopw [5, 10] (fun l i wr => LastRel w ps x n l i wr) (fun _ i _ => n - (intOf i).toNat)
  case atStart => exact ⟨0, Nat.zero_le _, rfl, rfl, Below.refl _ _⟩
  case round =>
    obtain ⟨k, hk, rfl, rfl, hbl⟩ := hrel
    by_cases hlt : k < n
    · obtain ⟨b, off, p, rfl, hb, hp, c0, c1, c2, c3⟩ := pr_at (pr_below H.out hbl) hlt
      have HP := Lib.hid hp
      have HB := Lib.hid hbl
      clear hp hbl
      by_cases hx : p.peer = x
      · have hxb : (p.peer == x) = true := by simp [hx]
        have HX := Lib.hid hx
        clear hx
        go_wp2
        go_roundw
        case rel => exact ⟨k + 1, by omega, by go_num, by rw [lastN_hit HP.out HX.out], below_alloc HB.out _⟩
        case measure => simp [intOf]; omega
      · have hxb : (p.peer == x) = false := by simp [hx]
        have HX := Lib.hid hx
        clear hx
        go_wp2
        go_roundw
        case rel => exact ⟨k + 1, by omega, by go_num, by rw [lastN_miss HP.out HX.out], below_alloc HB.out _⟩
        case measure => simp [intOf]; omega
    · obtain rfl : k = n := by omega
      have HB := Lib.hid hbl
      clear hbl
      go_wp2
      go_ret
      exact ⟨rfl, HB.out⟩
end Go.Proofs.Ytapoahoknlaeaab
