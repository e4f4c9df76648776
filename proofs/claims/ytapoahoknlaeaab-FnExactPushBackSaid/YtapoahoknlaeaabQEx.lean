/-
  What the exact laws do with queues: copies, comparison, marks. Conditions: a queue's slice has at most 1048576 packets.
-/
import Derived.Test.YtapoahoknlaeaabLiftPkts
import Derived.Test.YtapoahoknlaeaabEx1
import Derived.Test.YtapoahoknlaeaabQL
import Derived.Test.YtapoahoknlaeaabFr
import Derived.Test.YtapoahoknlaeaabQ5b
namespace Go.Proofs.Ytapoahoknlaeaab
open Go.RowKit

set_option maxHeartbeats 400000 in
theorem szQueue_any (lim : Int) (A : Option Addr) (n c : Nat) (left : Int) (w : World) (hn : n ≤ 9223372036854775807) (hl : 0 ≤ left ∧ left ≤ 1048576) :
    Calls Try.prog 26 #[.agg #[.int .i64 lim, (.slice A n c)], .int .i64 left] w fun e w' => e = .returned (.int .i64 (if left < n then -1 else left - n)) ∧ Below w.heap.size w w' := by
  by_cases h : left < n
  · rw [if_pos h]
    go_enter Try.func26, Try.ntmps26
    go_wp2_with fail
    refine (szPacketS_any A n c left _ hn hl).mono ?_
    rintro e w1 ⟨rfl, rfl⟩
    rw [if_pos h]
    go_wp2
    go_ret
    exact ⟨rfl, below_alloc (Below.refl _ _) _⟩
  · rw [if_neg h]
    have h1 : 0 ≤ left - (n : Int) := by omega
    have HH := Lib.hid h
    clear h
    go_enter Try.func26, Try.ntmps26
    go_wp2_with fail
    refine (szPacketS_any A n c left _ hn hl).mono ?_
    rintro e w1 ⟨rfl, rfl⟩
    rw [if_neg (by have := HH.out; omega)]
    go_wp2
    go_ret
    exact ⟨rfl, below_alloc (Below.refl _ _) _⟩
theorem toPacketS_ex (A : Option Addr) (n c : Nat) (ps : List Pkt) (w : World) (h : PR w A n ps) (hn : n ≤ 1048576) :
    Calls Try.prog 57 #[.slice A n c] w fun e w' => ∃ A2, e = .returned (.slice A2 n n) ∧ w'.ownsRow w.heap.size 51 4 (.slice A2 n n) n (pcells ps) ∧ Below w.heap.size w w' :=
  (toPacketS_any A n c ps w h hn).mono fun _ _ h => ⟨_, h.1, h.2.1, h.2.2⟩
set_option maxHeartbeats 1000000 in
theorem toQueue_any (lim : Int) (A : Option Addr) (n c : Nat) (ps : List Pkt) (w : World) (h : PR w A n ps) (hn : n ≤ 1048576) :
    Calls Try.prog 28 #[.agg #[.int .i64 lim, (.slice A n c)]] w (CopyQPost w lim n ps) := by
  have F := Lib.hid (fr_three (t := 41) (t2 := 25) (t3 := 25) (cs := #[.int .i64 lim, (.slice A n c)]) (cs2 := #[.int .i64 0, (.slice none 0 0)]) (cs3 := #[.int .i64 lim, (.slice none 0 0)]) h)
  clear h
  go_enter Try.func28, Try.ntmps28
  go_wp2_with fail
  refine (toPacketS_ex A n c ps _ F.out.pr hn).mono ?_
  rintro e w1 ⟨A2, rfl, ho, hb⟩
  have F2 := Lib.hid (fr_below F.out hb)
  have HO := Lib.hid ho
  have z1 := F2.out.lt
  simp at z1
  have z2 := hb.size
  simp at z2
  have y0 : w.heap.size < w1.heap.size := by omega
  have y1 : w.heap.size + 1 < w1.heap.size := by omega
  have y2 : w.heap.size + 1 + 1 < w1.heap.size := by omega
  have y3 : w.heap.size + 2 < w1.heap.size := by omega
  obtain ⟨o0, o1, f0, f1⟩ := blk_two (show Blk w1 (w.heap.size + 1) 25 #[.int .i64 0, (.slice none 0 0)] from F2.out.it 1 _ _ rfl)
  obtain ⟨l0, l1, g0, g1⟩ := blk_two (show Blk w1 (w.heap.size + 2) 25 #[.int .i64 lim, (.slice none 0 0)] from F2.out.it 2 _ _ rfl)
  have HB := Lib.hid F2.out.below
  clear F F2 ho hb
  go_wp2
  refine bodyPost_ret (v := .agg #[.int .i64 lim, (.slice A2 n n)]) (by simp [results, Try.results28, go_sem, o0, o1]) rfl ⟨A2, n, rfl, ?_, ?_⟩
  · refine own_mono (b2 := w.heap.size) (base := w.heap.size + 3) ?_ (by omega)
    repeat with_reducible refine own_set_far ?_ (by simp <;> omega) _
    exact own_mono HO.out (by simp)
  · repeat refine Below.setCell ?_ (by simp <;> omega) _
    exact HB.out
set_option maxHeartbeats 400000 in
theorem eqQueue_same (lim : Int) (A A2 : Option Addr) (n c n2 c2 : Nat) (ps : List Pkt) (w : World) (h : PR w A n ps) (h2 : PR w A2 n2 ps) (hn : n ≤ 9223372036854775807) (hn2 : n2 ≤ 9223372036854775807) :
    Calls Try.prog 30 #[.agg #[.int .i64 lim, (.slice A n c)], .agg #[.int .i64 lim, (.slice A2 n2 c2)]] w fun e w' => e = .returned (.bool true) ∧ Below w.heap.size w w' := by
  have H := Lib.hid h
  have H2 := Lib.hid h2
  clear h h2
  go_enter Try.func30, Try.ntmps30
  go_wp2_with fail
  refine (eqPacketS_any A A2 n c n2 c2 ps ps _ (pr_alloc (pr_alloc H.out _) _) (pr_alloc (pr_alloc H2.out _) _) hn hn2).mono ?_
  rintro e w1 ⟨rfl, hb⟩
  rw [← same_yes rfl]
  have HB := Lib.hid (below_seq2 (Below.refl w.heap.size w) hb)
  clear hb
  go_wp2
  go_ret
  exact ⟨rfl, HB.out⟩
def MarkQPost (w : World) (base : Nat) (A : Option Addr) (n c : Nat) (k0 : Int) (e : Ending) (w' : World) : Prop :=
  e = .returned (.int .i64 (k0 + 4 * n)) ∧ w'.ownsRow base 51 4 (.slice A n c) n (pcells (markL n k0)) ∧ w.grownBy w' (Value.ownBlock (.slice A n c))
theorem g_allocQ {w w' : World} {o : Obj} {row : Option Nat} (h : (w.alloc o).grownBy w' row) : w.grownBy w' row := (World.grownBy_alloc w o row).trans h
set_option maxHeartbeats 400000 in
theorem markQueue_any (lim : Int) (base : Nat) (A : Option Addr) (n c : Nat) (k0 : Int) (ps : List Pkt) (w : World) (h : w.ownsRow base 51 4 (.slice A n c) n (pcells ps)) (hn : n ≤ 4000000000) (hk : 0 ≤ k0 ∧ k0 ≤ 100000000) :
    Calls Try.prog 35 #[.agg #[.int .i64 lim, (.slice A n c)], .int .i64 k0] w (MarkQPost w base A n c k0) := by
  have H := Lib.hid h
  clear h
  go_enter Try.func35, Try.ntmps35
  go_wp2_with fail
  refine (markPacketS_any base A n c k0 ps _ (H.out.alloc _) hn hk).mono ?_
  rintro e w1 ⟨rfl, ho, hg⟩
  have HO := Lib.hid (And.intro ho (g_allocQ hg))
  clear ho hg
  go_wp2
  go_ret
  exact ⟨rfl, HO.out.1, HO.out.2⟩
set_option maxHeartbeats 400000 in
theorem heldQueue_any (lim : Int) (A : Option Addr) (n c : Nat) (k0 : Int) (w : World) (h : PR w A n (markL n k0)) (hn : n ≤ 4000000000) (hk : 0 ≤ k0 ∧ k0 ≤ 100000000) :
    Calls Try.prog 36 #[.agg #[.int .i64 lim, (.slice A n c)], .int .i64 k0] w fun e w' => e = .returned (.int .i64 (k0 + 4 * n)) ∧ Below w.heap.size w w' := by
  have H := Lib.hid h
  clear h
  have k1 : 0 ≤ k0 + 4 * (n : Int) := by omega
  go_enter Try.func36, Try.ntmps36
  go_wp2_with fail
  refine (heldPacketS_any A n c k0 _ (pr_alloc H.out _) hn hk).mono ?_
  rintro e w1 ⟨rfl, rfl⟩
  go_wp2
  go_ret
  exact ⟨rfl, below_alloc (Below.refl _ _) _⟩
/-- the first blocks, and a copy of the queue in a block of its own -/
structure XA (w : World) (bs : List (TypeId × Array Value)) (A : Option Addr) (n : Nat) (ps : List Pkt) (b : Nat) (lim : Int) (Ax : Option Addr) (cx : Nat) (w' : World) : Prop where
  fr : Fr w bs A n ps w'
  x : Blk w' b 25 #[.int .i64 lim, (.slice Ax n cx)]
  px : PR w' Ax n ps
section
variable {w w1 w2 : World} {bs : List (TypeId × Array Value)} {A : Option Addr} {n : Nat} {ps : List Pkt} {b : Nat} {lim : Int} {Ax : Option Addr} {c cx : Nat}
theorem xa_below (h : XA w bs A n ps b lim Ax cx w1) (hb : Below w1.heap.size w1 w2) : XA w bs A n ps b lim Ax cx w2 := ⟨fr_below h.fr hb, blk_below h.x hb (blk_lt h.x), pr_below h.px hb⟩
theorem xa_drew (h : XA w bs A n ps b lim Ax cx w1) : XA w bs A n ps b lim Ax cx w1.drew := ⟨fr_drew h.fr, h.x, h.px⟩
theorem xa_cells {r : List (TypeId × Array Value)} (h : XA w ((41, #[.int .i64 lim, (.slice A n c)]) :: r) A n ps b lim Ax cx w1) :
    (w1.cell? ⟨w.heap.size, 0, none⟩ = some (.int .i64 lim) ∧ w1.cell? ⟨w.heap.size, 1, none⟩ = some (.slice A n c) ∧ w1.cell? ⟨b, 0, none⟩ = some (.int .i64 lim) ∧ w1.cell? ⟨b, 1, none⟩ = some (.slice Ax n cx)) ∧
      XA w ((41, #[.int .i64 lim, (.slice A n c)]) :: r) A n ps b lim Ax cx w1 :=
  ⟨⟨blk_cell (h.fr.it 0 _ _ rfl) 0, blk_cell (h.fr.it 0 _ _ rfl) 1, blk_cell h.x 0, blk_cell h.x 1⟩, h⟩
end
theorem fr_cell2 {w w1 : World} {t : TypeId} {x y : Value} {r : List (TypeId × Array Value)} {A : Option Addr} {n : Nat} {ps : List Pkt} (h : Fr w ((t, #[x, y]) :: r) A n ps w1) : w1.cell? ⟨w.heap.size, 0, none⟩ = some x ∧ w1.cell? ⟨w.heap.size, 1, none⟩ = some y :=
  ⟨blk_cell (h.it 0 _ _ rfl) 0, blk_cell (h.it 0 _ _ rfl) 1⟩
end Go.Proofs.Ytapoahoknlaeaab
