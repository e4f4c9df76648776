/-
  What the exact laws do with settings: copies, comparison, marks. Conditions: a list has at most 1048576 numbers.
  Conditions: each lemma says them.
-/
import Derived.Test.YtiodhdcgfdlknaaKbtZ4
import Derived.Test.YtiodhdcgfdlknaaKhZ4
namespace Go.Proofs.Ytiodhdcgfdlknaa
open Go.RowKit
set_option maxRecDepth 100000 in
set_option maxHeartbeats 400000 in
theorem szSettings_any (s : St) (A : Option Addr) (n c : Nat) (left : Int) (w : World) (hn : n ≤ 9223372036854775807) (hl : 0 ≤ left ∧ left ≤ 1048576) :
    Calls Try.prog 12 #[.agg (stc s A n c), .int .i64 left] w fun e w' => e = .returned (.int .i64 (if left < n then -1 else left - n)) ∧ Below w.heap.size w w' := by
  obtain ⟨x0, x1, x2, x3, x4, x5, x6, x7⟩ := sc_blk (blk_new w 24 (stc s A n c))
  by_cases h : left < n
  · rw [if_pos h]
    go_enter Try.func12, Try.ntmps12
    go_wp2_with fail
    refine (szIntS_any A n c left _ hn hl).mono ?_
    rintro e w1 ⟨rfl, rfl⟩
    rw [if_pos h]
    go_wp2
    go_ret
    exact ⟨rfl, below_alloc (Below.refl _ _) _⟩
  · rw [if_neg h]
    have h1 : 0 ≤ left - (n : Int) := by omega
    have HH := Lib.hid h
    clear h
    go_enter Try.func12, Try.ntmps12
    go_wp2_with fail
    refine (szIntS_any A n c left _ hn hl).mono ?_
    rintro e w1 ⟨rfl, rfl⟩
    rw [if_neg (by have := HH.out; omega)]
    go_wp2
    go_ret
    exact ⟨rfl, below_alloc (Below.refl _ _) _⟩
def ScPost (w : World) (s : St) (n : Nat) (e : Ending) (w' : World) : Prop :=
  ∃ A c, e = .returned (.agg (stc s A n c)) ∧ w'.ownsRow w.heap.size 3 1 (.slice A n c) n (icells s.ws) ∧ Below w.heap.size w w'
set_option maxRecDepth 100000 in
set_option maxHeartbeats 2000000 in
theorem toSettings_any (s : St) (A : Option Addr) (n c : Nat) (w : World) (h : NR w A n s.ws) (hn : n ≤ 1048576) :
    Calls Try.prog 14 #[.agg (stc s A n c)] w (ScPost w s n) := by
  have F := Lib.hid (fn_three (t := 24) (t2 := 27) (t3 := 27) (cs := stc s A n c) (cs2 := stc ⟨0, 0, 0, 0, 0, 0, 0, []⟩ none 0 0) (cs3 := stc s none 0 0) h)
  clear h
  unfold stc
  go_enter Try.func14, Try.ntmps14
  go_wp2_with fail
  refine (toIntS_any A n c s.ws _ F.out.pr hn).mono ?_
  rintro e w1 ⟨A2, rfl, ho, hb⟩
  have F2 := Lib.hid (fn_below F.out hb)
  have HO := Lib.hid ho
  have z1 := F2.out.lt
  simp at z1
  have z2 := hb.size
  simp at z2
  have y0 : w.heap.size < w1.heap.size := by omega
  have y1 : w.heap.size + 1 < w1.heap.size := by omega
  have y2 : w.heap.size + 1 + 1 < w1.heap.size := by omega
  have y3 : w.heap.size + 2 < w1.heap.size := by omega
  have R1 := Lib.hid (show Blk w1 (w.heap.size + 1) 27 (stc ⟨0, 0, 0, 0, 0, 0, 0, []⟩ none 0 0) from F2.out.it 1 _ _ rfl)
  have L1 := Lib.hid (show Blk w1 (w.heap.size + 2) 27 (stc s none 0 0) from F2.out.it 2 _ _ rfl)
  obtain ⟨r0, r1, r2, r3, r4, r5, r6, r7⟩ := sc_blk R1.out
  obtain ⟨l0, l1, l2, l3, l4, l5, l6, l7⟩ := sc_blk L1.out
  have lf7 : w1.frozen? ⟨w.heap.size + 2, 7, none⟩ = false := blk_free L1.out 7
  have rf0 : w1.frozen? ⟨w.heap.size + 1, 0, none⟩ = false := blk_free R1.out 0
  have rf1 : w1.frozen? ⟨w.heap.size + 1, 1, none⟩ = false := blk_free R1.out 1
  have rf2 : w1.frozen? ⟨w.heap.size + 1, 2, none⟩ = false := blk_free R1.out 2
  have rf3 : w1.frozen? ⟨w.heap.size + 1, 3, none⟩ = false := blk_free R1.out 3
  have rf4 : w1.frozen? ⟨w.heap.size + 1, 4, none⟩ = false := blk_free R1.out 4
  have rf5 : w1.frozen? ⟨w.heap.size + 1, 5, none⟩ = false := blk_free R1.out 5
  have rf6 : w1.frozen? ⟨w.heap.size + 1, 6, none⟩ = false := blk_free R1.out 6
  have rf7 : w1.frozen? ⟨w.heap.size + 1, 7, none⟩ = false := blk_free R1.out 7
  have HB := Lib.hid F2.out.below
  clear F F2 ho hb
  go_wp2
  refine bodyPost_ret (v := .agg (stc s A2 n n)) (by simp [results, Try.results14, go_sem, stc, r0, r1, r2, r3, r4, r5, r6, r7]) rfl ⟨A2, n, rfl, ?_, ?_⟩
  · refine own_mono (b2 := w.heap.size) (base := w.heap.size + 3) ?_ (by omega)
    repeat with_reducible refine own_set_far ?_ (by simp <;> omega) _
    exact own_mono HO.out (by simp)
  · repeat refine Below.setCell ?_ (by simp <;> omega) _
    exact HB.out
set_option maxRecDepth 100000 in
set_option maxHeartbeats 400000 in
theorem eqSettings_same (s : St) (A A2 : Option Addr) (n c n2 c2 : Nat) (w : World) (h : NR w A n s.ws) (h2 : NR w A2 n2 s.ws) (hn : n ≤ 9223372036854775807) (hn2 : n2 ≤ 9223372036854775807) :
    Calls Try.prog 16 #[.agg (stc s A n c), .agg (stc s A2 n2 c2)] w fun e w' => e = .returned (.bool true) ∧ Below w.heap.size w w' := by
  have H := Lib.hid h
  have H2 := Lib.hid h2
  clear h h2
  unfold stc
  go_enter Try.func16, Try.ntmps16
  go_wp2_with fail
  refine (eqIntS_any A A2 n c n2 c2 s.ws s.ws _ (nr_alloc (nr_alloc H.out _) _) (nr_alloc (nr_alloc H2.out _) _) hn hn2).mono ?_
  rintro e w1 ⟨rfl, hb⟩
  rw [← ints_yes rfl]
  have HB := Lib.hid (below_seq2 (Below.refl w.heap.size w) hb)
  clear hb
  go_wp2
  go_ret
  exact ⟨rfl, HB.out⟩
set_option maxRecDepth 100000 in
set_option maxHeartbeats 400000 in
theorem markSettings_any (s : St) (base : Nat) (A : Option Addr) (n c : Nat) (k0 : Int) (us : List Int) (w : World) (h : w.ownsRow base 3 1 (.slice A n c) n (icells us)) (hn : n ≤ 4000000000) (hk : 0 ≤ k0 ∧ k0 ≤ 100000000) :
    Calls Try.prog 20 #[.agg (stc s A n c), .int .i64 k0] w (MarkIPost w base A n c k0) := by
  have H := Lib.hid h
  obtain ⟨x0, x1, x2, x3, x4, x5, x6, x7⟩ := sc_blk (blk_new w 27 (stc s A n c))
  clear h
  go_enter Try.func20, Try.ntmps20
  go_wp2_with fail
  refine (markIntS_any base A n c k0 us _ (H.out.alloc _) hn hk).mono ?_
  rintro e w1 ⟨rfl, ho, hg⟩
  have HO := Lib.hid (And.intro ho (g_allocA hg))
  clear ho hg
  go_wp2
  go_ret
  exact ⟨rfl, HO.out.1, HO.out.2⟩
end Go.Proofs.Ytiodhdcgfdlknaa
