/-
  Chapter 4: Reserve, Release, NewAccount; the model's. Conditions: a slice has at most 4000000000 numbers.
-/
import Derived.Test.YtkbjelchihdajaaA2
import Derived.Deep.DeepCutAuto
namespace Go.Proofs.Ytkbjelchihdajaa
open Go.RowKit

/-- an account and two bools are handed back; the numbers are the call's own -/
def APost2 (w : World) (lim each : Int) (us : List Int) (i ok : Bool) (e : Ending) (w' : World) : Prop :=
  ∃ A n c, e = .returned (.tuple #[.agg #[.int .i64 lim, .int .i64 each, (.slice A n c)], .bool i, .bool ok]) ∧ n = us.length ∧ w'.ownsRow w.heap.size 3 1 (.slice A n c) n (icells us) ∧ Below w.heap.size w w'
def APost1 (w : World) (lim each : Int) (us : List Int) (ok : Bool) (e : Ending) (w' : World) : Prop :=
  ∃ A n c, e = .returned (.tuple #[.agg #[.int .i64 lim, .int .i64 each, (.slice A n c)], .bool ok]) ∧ n = us.length ∧ w'.ownsRow w.heap.size 3 1 (.slice A n c) n (icells us) ∧ Below w.heap.size w w'
theorem apost2_mk {w w' : World} {lim each : Int} {us : List Int} {i ok : Bool} {e : Ending} {A : Option Addr} {n c : Nat} (he : e = .returned (.tuple #[.agg #[.int .i64 lim, .int .i64 each, (.slice A n c)], .bool i, .bool ok])) (ho : w'.ownsRow w.heap.size 3 1 (.slice A n c) n (icells us)) (hb : Below w.heap.size w w') : APost2 w lim each us i ok e w' :=
  ⟨A, n, c, he, ((nr_own ho).1).symm, ho, hb⟩
theorem apost1_mk {w w' : World} {lim each : Int} {us : List Int} {ok : Bool} {e : Ending} {A : Option Addr} {n c : Nat} (he : e = .returned (.tuple #[.agg #[.int .i64 lim, .int .i64 each, (.slice A n c)], .bool ok])) (ho : w'.ownsRow w.heap.size 3 1 (.slice A n c) n (icells us)) (hb : Below w.heap.size w w') : APost1 w lim each us ok e w' :=
  ⟨A, n, c, he, ((nr_own ho).1).symm, ho, hb⟩
def rsBs (lim each : Int) (A : Option Addr) (n c : Nat) : List (TypeId × Array Value) := [(25, #[.int .i64 lim, .int .i64 each, (.slice A n c)]), (25, #[.int .i64 0, .int .i64 0, (.slice none 0 0)])]
theorem rs_first {w : World} {A : Option Addr} {n : Nat} {us : List Int} (h : NR w A n us) (lim each : Int) (c : Nat) : Fn w (rsBs lim each A n c) A n us ((w.alloc (.cells #[.int .i64 lim, .int .i64 each, (.slice A n c)] 25)).alloc (.cells #[.int .i64 0, .int .i64 0, (.slice none 0 0)] 25)) := fn_two h _ _ _ _
def rsOk (lim each : Int) (us : List Int) (x b : Int) : Bool := frOk lim each us x && decide (0 ≤ b)
theorem rsOk_no {lim each : Int} {us : List Int} {x b : Int} (h : rsOk lim each us x b = false) : acB lim each us = false ∨ (acB lim each us = true ∧ prB x = false) ∨ (acB lim each us = true ∧ prB x = true ∧ b < 0) := by
  rcases hq : acB lim each us with _ | _
  · exact .inl rfl
  · rcases hx : prB x with _ | _
    · exact .inr (.inl ⟨rfl, rfl⟩)
    · exact .inr (.inr ⟨rfl, rfl, by simp [rsOk, frOk, hq, hx] at h; omega⟩)
theorem rsOk_of {lim each : Int} {us : List Int} {x b : Int} (h : rsOk lim each us x b = true) : acB lim each us = true ∧ prB x = true ∧ 0 ≤ b := by
  simp only [rsOk, frOk, Bool.and_eq_true, decide_eq_true_eq] at h
  exact ⟨h.1.1, h.1.2, h.2⟩
structure RS (w : World) (lim each : Int) (A : Option Addr) (n c : Nat) (us : List Int) (L : Nat) (b3 c3 : Nat) (xs : List Int) (wr : World) : Prop where
  fr : Fn w (rsBs lim each A n c) A n us wr
  l : Blk wr L 25 #[.int .i64 lim, .int .i64 each, (.slice (some ⟨b3, 0, none⟩) n c3)]
  own : wr.ownsRow (w.heap.size + 2) 3 1 (.slice (some ⟨b3, 0, none⟩) n c3) n (icells xs)
  ne : b3 ≠ L
  hL : w.heap.size + 2 ≤ L
section
variable {w w1 w2 : World} {lim each : Int} {A : Option Addr} {n c L b3 c3 : Nat} {us xs : List Int}
theorem rs_below (h : RS w lim each A n c us L b3 c3 xs w1) (hb : Below w1.heap.size w1 w2) : RS w lim each A n c us L b3 c3 xs w2 := ⟨fn_below h.fr hb, blk_below h.l hb (blk_lt h.l), own_below h.own hb, h.ne, h.hL⟩
theorem rs_drew (h : RS w lim each A n c us L b3 c3 xs w1) : RS w lim each A n c us L b3 c3 xs w1.drew := ⟨fn_drew h.fr, h.l, World.ownsRow.drew h.own, h.ne, h.hL⟩
theorem rs_put (h : RS w lim each A n c us L b3 c3 xs w1) (k : Nat) (x : Int) : RS w lim each A n c us L b3 c3 (xs.set k x) (w1.setCell ⟨b3, k, none⟩ (.int .i64 x)) := by
  have hb : w.heap.size + 2 ≤ b3 := (h.own.lt b3 rfl).1
  exact ⟨fn_set h.fr (by simp [rsBs]; omega) _, blk_far h.l (by simp; exact fun e => h.ne e.symm) _, own_set_int h.own k x, h.ne, h.hL⟩
/-- the end: the result's block is stored -/
theorem rs_end (h : RS w lim each A n c us L b3 c3 xs w1) (u0 u1 u2 : Value) : (((w1.setCell ⟨w.heap.size + 1, 0, none⟩ u0).setCell ⟨w.heap.size + 1, 1, none⟩ u1).setCell ⟨w.heap.size + 1, 2, none⟩ u2).ownsRow w.heap.size 3 1 (.slice (some ⟨b3, 0, none⟩) n c3) n (icells xs) ∧
    Below w.heap.size w (((w1.setCell ⟨w.heap.size + 1, 0, none⟩ u0).setCell ⟨w.heap.size + 1, 1, none⟩ u1).setCell ⟨w.heap.size + 1, 2, none⟩ u2) :=
  ⟨own_mono (own_set_far (own_set_far (own_set_far h.own (by simp) _) (by simp) _) (by simp) _) (by omega), Below.setCell (Below.setCell (Below.setCell h.fr.below (by simp) _) (by simp) _) (by simp) _⟩
theorem rs_cells (h : RS w lim each A n c us L b3 c3 xs w1) : (w1.cell? ⟨L, 0, none⟩ = some (.int .i64 lim) ∧ w1.cell? ⟨L, 1, none⟩ = some (.int .i64 each) ∧ w1.cell? ⟨L, 2, none⟩ = some (.slice (some ⟨b3, 0, none⟩) n c3)) ∧
    (w1.cell? ⟨w.heap.size + 1, 0, none⟩ = some (.int .i64 0) ∧ w1.cell? ⟨w.heap.size + 1, 1, none⟩ = some (.int .i64 0) ∧ w1.cell? ⟨w.heap.size + 1, 2, none⟩ = some (.slice none 0 0)) ∧ (w1.frozen? ⟨w.heap.size + 1, 0, none⟩ = false ∧ w1.frozen? ⟨w.heap.size + 1, 1, none⟩ = false ∧ w1.frozen? ⟨w.heap.size + 1, 2, none⟩ = false) :=
  ⟨⟨blk_cell h.l 0, blk_cell h.l 1, blk_cell h.l 2⟩, ⟨blk_cell (h.fr.it 1 _ _ rfl) 0, blk_cell (h.fr.it 1 _ _ rfl) 1, blk_cell (h.fr.it 1 _ _ rfl) 2⟩, blk_free (h.fr.it 1 _ _ rfl) 0, blk_free (h.fr.it 1 _ _ rfl) 1, blk_free (h.fr.it 1 _ _ rfl) 2⟩
end
theorem nr_at' {w : World} {A : Option Addr} {n : Nat} {xs : List Int} {k : Nat} {x : Int} (h : NR w A n xs) (hx : xs[k]? = some x) : ∃ b off, A = some ⟨b, off, none⟩ ∧ w.cell? ⟨b, off + k, none⟩ = some (.int .i64 x) ∧ k < n := by
  have hk : k < n := by
    rcases Nat.lt_or_ge k n with hl | hl
    · exact hl
    · rw [List.getElem?_eq_none (by rw [h.1]; exact hl)] at hx; cases hx
  obtain ⟨b, off, y, e, -, hy, hc⟩ := nr_at h hk
  obtain rfl : x = y := by rw [hx] at hy; injection hy
  exact ⟨b, off, e, hc, hk⟩
set_option maxHeartbeats 2000000 in
theorem rsvS_no (lim each : Int) (A : Option Addr) (n c : Nat) (us : List Int) (x b : Int) (w : World) (h : NR w A n us) (hn : n ≤ 4000000000) (hk : rsOk lim each us x b = false) :
    Calls Try.prog 17 #[.agg #[.int .i64 lim, .int .i64 each, (.slice A n c)], .int .i64 x, .int .i64 b] w (APost2 w 0 0 [] false false) := by
  have F0 := Lib.hid (rs_first h lim each c)
  clear h
  rcases rsOk_no hk with hq | ⟨hq, hx⟩ | ⟨hq, hx, hb⟩
  · have HQ := Lib.hid hq
    clear hq hk
    go_enter Try.func17, Try.ntmps17
    go_wp2_with fail
    refine (acS_any lim each A n c us _ F0.out.pr (by omega)).mono ?_
    rintro e w1 ⟨rfl, hb⟩
    rw [HQ.out]
    have F := Lib.hid (fn_below F0.out hb)
    clear hb F0
    have F0c0 : World.cell? w1 ⟨w.heap.size, 0, none⟩ = some (.int .i64 lim) := blk_cell (F.out.it 0 _ _ rfl) 0
    have F0f0 : World.frozen? w1 ⟨w.heap.size, 0, none⟩ = false := blk_free (F.out.it 0 _ _ rfl) 0
    have F0c1 : World.cell? w1 ⟨w.heap.size, 1, none⟩ = some (.int .i64 each) := blk_cell (F.out.it 0 _ _ rfl) 1
    have F0f1 : World.frozen? w1 ⟨w.heap.size, 1, none⟩ = false := blk_free (F.out.it 0 _ _ rfl) 1
    have F0c2 : World.cell? w1 ⟨w.heap.size, 2, none⟩ = some ((.slice A n c)) := blk_cell (F.out.it 0 _ _ rfl) 2
    have F0f2 : World.frozen? w1 ⟨w.heap.size, 2, none⟩ = false := blk_free (F.out.it 0 _ _ rfl) 2
    have F1c0 : World.cell? w1 ⟨w.heap.size + 1, 0, none⟩ = some (.int .i64 0) := blk_cell (F.out.it 1 _ _ rfl) 0
    have F1f0 : World.frozen? w1 ⟨w.heap.size + 1, 0, none⟩ = false := blk_free (F.out.it 1 _ _ rfl) 0
    have F1c1 : World.cell? w1 ⟨w.heap.size + 1, 1, none⟩ = some (.int .i64 0) := blk_cell (F.out.it 1 _ _ rfl) 1
    have F1f1 : World.frozen? w1 ⟨w.heap.size + 1, 1, none⟩ = false := blk_free (F.out.it 1 _ _ rfl) 1
    have F1c2 : World.cell? w1 ⟨w.heap.size + 1, 2, none⟩ = some ((.slice none 0 0)) := blk_cell (F.out.it 1 _ _ rfl) 2
    have F1f2 : World.frozen? w1 ⟨w.heap.size + 1, 2, none⟩ = false := blk_free (F.out.it 1 _ _ rfl) 2
    go_wp2
    refine bodyPost_ret (v := .tuple #[.agg #[.int .i64 0, .int .i64 0, (.slice none 0 0)], .bool false, .bool false]) (by simp [results, Try.results17, go_sem, F1c0, F1c1, F1c2]) rfl (apost2_mk rfl (World.ownsRow_nil _ _ _ _) ?_)
    repeat refine Below.setCell ?_ (by simp <;> omega) _
    exact F.out.below
  · have HQ := Lib.hid hq
    have HX := Lib.hid hx
    clear hq hk hx
    go_enter Try.func17, Try.ntmps17
    go_wp2_with fail
    refine (acS_any lim each A n c us _ F0.out.pr (by omega)).mono ?_
    rintro e w1 ⟨rfl, hb⟩
    rw [HQ.out]
    have F := Lib.hid (fn_below F0.out hb)
    clear hb F0
    have F0c0 : World.cell? w1 ⟨w.heap.size, 0, none⟩ = some (.int .i64 lim) := blk_cell (F.out.it 0 _ _ rfl) 0
    have F0f0 : World.frozen? w1 ⟨w.heap.size, 0, none⟩ = false := blk_free (F.out.it 0 _ _ rfl) 0
    have F0c1 : World.cell? w1 ⟨w.heap.size, 1, none⟩ = some (.int .i64 each) := blk_cell (F.out.it 0 _ _ rfl) 1
    have F0f1 : World.frozen? w1 ⟨w.heap.size, 1, none⟩ = false := blk_free (F.out.it 0 _ _ rfl) 1
    have F0c2 : World.cell? w1 ⟨w.heap.size, 2, none⟩ = some ((.slice A n c)) := blk_cell (F.out.it 0 _ _ rfl) 2
    have F0f2 : World.frozen? w1 ⟨w.heap.size, 2, none⟩ = false := blk_free (F.out.it 0 _ _ rfl) 2
    have F1c0 : World.cell? w1 ⟨w.heap.size + 1, 0, none⟩ = some (.int .i64 0) := blk_cell (F.out.it 1 _ _ rfl) 0
    have F1f0 : World.frozen? w1 ⟨w.heap.size + 1, 0, none⟩ = false := blk_free (F.out.it 1 _ _ rfl) 0
    have F1c1 : World.cell? w1 ⟨w.heap.size + 1, 1, none⟩ = some (.int .i64 0) := blk_cell (F.out.it 1 _ _ rfl) 1
    have F1f1 : World.frozen? w1 ⟨w.heap.size + 1, 1, none⟩ = false := blk_free (F.out.it 1 _ _ rfl) 1
    have F1c2 : World.cell? w1 ⟨w.heap.size + 1, 2, none⟩ = some ((.slice none 0 0)) := blk_cell (F.out.it 1 _ _ rfl) 2
    have F1f2 : World.frozen? w1 ⟨w.heap.size + 1, 2, none⟩ = false := blk_free (F.out.it 1 _ _ rfl) 2
    go_wp2_with fail
    refine (l4Peer_any x _).mono ?_
    rintro e w2 ⟨rfl, rfl⟩
    rw [HX.out]
    go_wp2
    refine bodyPost_ret (v := .tuple #[.agg #[.int .i64 0, .int .i64 0, (.slice none 0 0)], .bool false, .bool false]) (by simp [results, Try.results17, go_sem, F1c0, F1c1, F1c2]) rfl (apost2_mk rfl (World.ownsRow_nil _ _ _ _) ?_)
    repeat refine Below.setCell ?_ (by simp <;> omega) _
    exact F.out.below
  · have HQ := Lib.hid hq
    have HX := Lib.hid hx
    have hd : decide (b < 0) = true := by simp; omega
    clear hq hk hx
    go_enter Try.func17, Try.ntmps17
    go_wp2_with fail
    refine (acS_any lim each A n c us _ F0.out.pr (by omega)).mono ?_
    rintro e w1 ⟨rfl, hb⟩
    rw [HQ.out]
    have F := Lib.hid (fn_below F0.out hb)
    clear hb F0
    have F0c0 : World.cell? w1 ⟨w.heap.size, 0, none⟩ = some (.int .i64 lim) := blk_cell (F.out.it 0 _ _ rfl) 0
    have F0f0 : World.frozen? w1 ⟨w.heap.size, 0, none⟩ = false := blk_free (F.out.it 0 _ _ rfl) 0
    have F0c1 : World.cell? w1 ⟨w.heap.size, 1, none⟩ = some (.int .i64 each) := blk_cell (F.out.it 0 _ _ rfl) 1
    have F0f1 : World.frozen? w1 ⟨w.heap.size, 1, none⟩ = false := blk_free (F.out.it 0 _ _ rfl) 1
    have F0c2 : World.cell? w1 ⟨w.heap.size, 2, none⟩ = some ((.slice A n c)) := blk_cell (F.out.it 0 _ _ rfl) 2
    have F0f2 : World.frozen? w1 ⟨w.heap.size, 2, none⟩ = false := blk_free (F.out.it 0 _ _ rfl) 2
    have F1c0 : World.cell? w1 ⟨w.heap.size + 1, 0, none⟩ = some (.int .i64 0) := blk_cell (F.out.it 1 _ _ rfl) 0
    have F1f0 : World.frozen? w1 ⟨w.heap.size + 1, 0, none⟩ = false := blk_free (F.out.it 1 _ _ rfl) 0
    have F1c1 : World.cell? w1 ⟨w.heap.size + 1, 1, none⟩ = some (.int .i64 0) := blk_cell (F.out.it 1 _ _ rfl) 1
    have F1f1 : World.frozen? w1 ⟨w.heap.size + 1, 1, none⟩ = false := blk_free (F.out.it 1 _ _ rfl) 1
    have F1c2 : World.cell? w1 ⟨w.heap.size + 1, 2, none⟩ = some ((.slice none 0 0)) := blk_cell (F.out.it 1 _ _ rfl) 2
    have F1f2 : World.frozen? w1 ⟨w.heap.size + 1, 2, none⟩ = false := blk_free (F.out.it 1 _ _ rfl) 2
    go_wp2_with fail
    refine (l4Peer_any x _).mono ?_
    rintro e w2 ⟨rfl, rfl⟩
    rw [HX.out]
    go_wp2
    refine bodyPost_ret (v := .tuple #[.agg #[.int .i64 0, .int .i64 0, (.slice none 0 0)], .bool false, .bool false]) (by simp [results, Try.results17, go_sem, F1c0, F1c1, F1c2]) rfl (apost2_mk rfl (World.ownsRow_nil _ _ _ _) ?_)
    repeat refine Below.setCell ?_ (by simp <;> omega) _
    exact F.out.below
set_option maxHeartbeats 4000000 in
theorem rsvS_full (lim each : Int) (A : Option Addr) (n c : Nat) (us : List Int) (k : Nat) (u b : Int) (w : World) (h : NR w A n us) (hk : rsOk lim each us (k : Int) b = true) (hu : us[k]? = some u) (hlt : freeN lim each us u < b) :
    Calls Try.prog 17 #[.agg #[.int .i64 lim, .int .i64 each, (.slice A n c)], .int .i64 (k : Int), .int .i64 b] w (APost2 w lim each us false true) := by
  have F0 := Lib.hid (rs_first h lim each c)
  obtain ⟨hq, hx, hb0⟩ := rsOk_of hk
  obtain ⟨u0, u1, u2⟩ := ac_get hq hu
  obtain ⟨a1, a2, a3, a4, a5, a6⟩ := ac_of hq
  have hfl := free_le (lim := lim) (each := each) (u := u) (us := us)
  obtain ⟨f, hf⟩ : ∃ f, freeN lim each us u = f := ⟨_, rfl⟩
  rw [hf] at hfl hlt
  have f1 : f ≤ each - u := hfl.1
  have n8 : n = 8 := by have := h.1; omega
  have HQ := Lib.hid hq
  have HX := Lib.hid hx
  have HU := Lib.hid hu
  have HFV := Lib.hid hf
  have k8 : k < 8 := by
    rcases Nat.lt_or_ge k us.length with hl | hl
    · omega
    · rw [List.getElem?_eq_none hl] at hu; cases hu
  have hd : decide (b < 0) = false := by simp; omega
  subst n8
  clear h hk hq hx hu a1 a4 a5 a6 u2 hfl hf
  go_enter Try.func17, Try.ntmps17
  go_wp2_with fail
  refine (acS_any lim each A 8 c us _ F0.out.pr (by omega)).mono ?_
  rintro e w1 ⟨rfl, hb⟩
  rw [HQ.out]
  have F := Lib.hid (fn_below F0.out hb)
  clear hb F0
  have F0c0 : World.cell? w1 ⟨w.heap.size, 0, none⟩ = some (.int .i64 lim) := blk_cell (F.out.it 0 _ _ rfl) 0
  have F0f0 : World.frozen? w1 ⟨w.heap.size, 0, none⟩ = false := blk_free (F.out.it 0 _ _ rfl) 0
  have F0c1 : World.cell? w1 ⟨w.heap.size, 1, none⟩ = some (.int .i64 each) := blk_cell (F.out.it 0 _ _ rfl) 1
  have F0f1 : World.frozen? w1 ⟨w.heap.size, 1, none⟩ = false := blk_free (F.out.it 0 _ _ rfl) 1
  have F0c2 : World.cell? w1 ⟨w.heap.size, 2, none⟩ = some ((.slice A 8 c)) := blk_cell (F.out.it 0 _ _ rfl) 2
  have F0f2 : World.frozen? w1 ⟨w.heap.size, 2, none⟩ = false := blk_free (F.out.it 0 _ _ rfl) 2
  have F1c0 : World.cell? w1 ⟨w.heap.size + 1, 0, none⟩ = some (.int .i64 0) := blk_cell (F.out.it 1 _ _ rfl) 0
  have F1f0 : World.frozen? w1 ⟨w.heap.size + 1, 0, none⟩ = false := blk_free (F.out.it 1 _ _ rfl) 0
  have F1c1 : World.cell? w1 ⟨w.heap.size + 1, 1, none⟩ = some (.int .i64 0) := blk_cell (F.out.it 1 _ _ rfl) 1
  have F1f1 : World.frozen? w1 ⟨w.heap.size + 1, 1, none⟩ = false := blk_free (F.out.it 1 _ _ rfl) 1
  have F1c2 : World.cell? w1 ⟨w.heap.size + 1, 2, none⟩ = some ((.slice none 0 0)) := blk_cell (F.out.it 1 _ _ rfl) 2
  have F1f2 : World.frozen? w1 ⟨w.heap.size + 1, 2, none⟩ = false := blk_free (F.out.it 1 _ _ rfl) 2
  go_wp2_with fail
  refine (l4Peer_any _ _).mono ?_
  rintro e w2 ⟨rfl, rfl⟩
  rw [HX.out]
  go_wp2_with fail
  refine (l4Copy_any lim each A 8 c us _ F.out.pr (by omega)).mono ?_
  rintro e w3 ⟨A3, c3, rfl, ho3, hb3⟩
  obtain ⟨b3, c3', hv3, hb3a, hb3b⟩ := ho3.form (by omega)
  obtain ⟨rfl, rfl⟩ : A3 = some ⟨b3, 0, none⟩ ∧ c3 = c3' := by injection hv3 with e1 e2 e3; exact ⟨e1, e3⟩
  have z2 := F.out.lt
  simp [rsBs] at z2
  have z3 := hb3.size
  have S3 : Hid (RS w lim each A 8 c us w3.heap.size b3 c3 us (w3.alloc (.cells #[.int .i64 lim, .int .i64 each, (.slice (some ⟨b3, 0, none⟩) 8 c3)] 25))) := Lib.hid ⟨fn_alloc (fn_below F.out hb3) _, blk_new w3 _ _, own_mono (ho3.alloc _) (by omega), by omega, by omega⟩
  have F3 := Lib.hid (fn_below F.out hb3)
  clear F0c0 F0f0 F0c1 F0f1 F0c2 F0f2 F1c0 F1f0 F1c1 F1f1 F1c2 F1f2
  clear hb3 ho3 F hv3
  have F30c0 : World.cell? w3 ⟨w.heap.size, 0, none⟩ = some (.int .i64 lim) := blk_cell (F3.out.it 0 _ _ rfl) 0
  have F30f0 : World.frozen? w3 ⟨w.heap.size, 0, none⟩ = false := blk_free (F3.out.it 0 _ _ rfl) 0
  have F30c1 : World.cell? w3 ⟨w.heap.size, 1, none⟩ = some (.int .i64 each) := blk_cell (F3.out.it 0 _ _ rfl) 1
  have F30f1 : World.frozen? w3 ⟨w.heap.size, 1, none⟩ = false := blk_free (F3.out.it 0 _ _ rfl) 1
  have F30c2 : World.cell? w3 ⟨w.heap.size, 2, none⟩ = some ((.slice A 8 c)) := blk_cell (F3.out.it 0 _ _ rfl) 2
  have F30f2 : World.frozen? w3 ⟨w.heap.size, 2, none⟩ = false := blk_free (F3.out.it 0 _ _ rfl) 2
  have F31c0 : World.cell? w3 ⟨w.heap.size + 1, 0, none⟩ = some (.int .i64 0) := blk_cell (F3.out.it 1 _ _ rfl) 0
  have F31f0 : World.frozen? w3 ⟨w.heap.size + 1, 0, none⟩ = false := blk_free (F3.out.it 1 _ _ rfl) 0
  have F31c1 : World.cell? w3 ⟨w.heap.size + 1, 1, none⟩ = some (.int .i64 0) := blk_cell (F3.out.it 1 _ _ rfl) 1
  have F31f1 : World.frozen? w3 ⟨w.heap.size + 1, 1, none⟩ = false := blk_free (F3.out.it 1 _ _ rfl) 1
  have F31c2 : World.cell? w3 ⟨w.heap.size + 1, 2, none⟩ = some ((.slice none 0 0)) := blk_cell (F3.out.it 1 _ _ rfl) 2
  have F31f2 : World.frozen? w3 ⟨w.heap.size + 1, 2, none⟩ = false := blk_free (F3.out.it 1 _ _ rfl) 2
  have z4 : w.heap.size < w3.heap.size := by omega
  have z5 : w.heap.size + 1 < w3.heap.size := by omega
  go_wp2_with fail
  refine (l4Free_any lim each A 8 c us k u _ S3.out.fr.pr HQ.out HU.out).mono ?_
  rintro e w4 ⟨rfl, hb4⟩
  rw [HFV.out]
  have S4 := Lib.hid (rs_below S3.out hb4)
  clear F30c0 F30f0 F30c1 F30f1 F30c2 F30f2 F31c0 F31f0 F31c1 F31f1 F31c2 F31f2
  clear hb4 F3 S3
  obtain ⟨⟨l0, l1, l2⟩, ⟨o0, o1, o2⟩, f0', f1', f2'⟩ := rs_cells S4.out
  have x4 := blk_lt S4.out.l
  have hL := S4.out.hL
  go_wp2
  refine bodyPost_ret (v := .tuple #[.agg #[.int .i64 lim, .int .i64 each, (.slice (some ⟨b3, 0, none⟩) 8 c3)], .bool false, .bool true]) (by simp [results, Try.results17, go_sem, o0, o1, o2]) rfl (apost2_mk rfl (rs_end S4.out _ _ _).1 (rs_end S4.out _ _ _).2)
set_option maxHeartbeats 4000000 in
theorem rsvS_in (lim each : Int) (A : Option Addr) (n c : Nat) (us : List Int) (k : Nat) (u b : Int) (w : World) (h : NR w A n us) (hk : rsOk lim each us (k : Int) b = true) (hu : us[k]? = some u) (hlt : b ≤ freeN lim each us u) :
    Calls Try.prog 17 #[.agg #[.int .i64 lim, .int .i64 each, (.slice A n c)], .int .i64 (k : Int), .int .i64 b] w (APost2 w lim each (us.set k (u + b)) true true) := by
  have F0 := Lib.hid (rs_first h lim each c)
  obtain ⟨hq, hx, hb0⟩ := rsOk_of hk
  obtain ⟨u0, u1, u2⟩ := ac_get hq hu
  obtain ⟨a1, a2, a3, a4, a5, a6⟩ := ac_of hq
  have hfl := free_le (lim := lim) (each := each) (u := u) (us := us)
  obtain ⟨f, hf⟩ : ∃ f, freeN lim each us u = f := ⟨_, rfl⟩
  rw [hf] at hfl hlt
  have f1 : f ≤ each - u := hfl.1
  have n8 : n = 8 := by have := h.1; omega
  have HQ := Lib.hid hq
  have HX := Lib.hid hx
  have HU := Lib.hid hu
  have HFV := Lib.hid hf
  have k8 : k < 8 := by
    rcases Nat.lt_or_ge k us.length with hl | hl
    · omega
    · rw [List.getElem?_eq_none hl] at hu; cases hu
  have hd : decide (b < 0) = false := by simp; omega
  subst n8
  clear h hk hq hx hu a1 a4 a5 a6 u2 hfl hf
  go_enter Try.func17, Try.ntmps17
  go_wp2_with fail
  refine (acS_any lim each A 8 c us _ F0.out.pr (by omega)).mono ?_
  rintro e w1 ⟨rfl, hb⟩
  rw [HQ.out]
  have F := Lib.hid (fn_below F0.out hb)
  clear hb F0
  have F0c0 : World.cell? w1 ⟨w.heap.size, 0, none⟩ = some (.int .i64 lim) := blk_cell (F.out.it 0 _ _ rfl) 0
  have F0f0 : World.frozen? w1 ⟨w.heap.size, 0, none⟩ = false := blk_free (F.out.it 0 _ _ rfl) 0
  have F0c1 : World.cell? w1 ⟨w.heap.size, 1, none⟩ = some (.int .i64 each) := blk_cell (F.out.it 0 _ _ rfl) 1
  have F0f1 : World.frozen? w1 ⟨w.heap.size, 1, none⟩ = false := blk_free (F.out.it 0 _ _ rfl) 1
  have F0c2 : World.cell? w1 ⟨w.heap.size, 2, none⟩ = some ((.slice A 8 c)) := blk_cell (F.out.it 0 _ _ rfl) 2
  have F0f2 : World.frozen? w1 ⟨w.heap.size, 2, none⟩ = false := blk_free (F.out.it 0 _ _ rfl) 2
  have F1c0 : World.cell? w1 ⟨w.heap.size + 1, 0, none⟩ = some (.int .i64 0) := blk_cell (F.out.it 1 _ _ rfl) 0
  have F1f0 : World.frozen? w1 ⟨w.heap.size + 1, 0, none⟩ = false := blk_free (F.out.it 1 _ _ rfl) 0
  have F1c1 : World.cell? w1 ⟨w.heap.size + 1, 1, none⟩ = some (.int .i64 0) := blk_cell (F.out.it 1 _ _ rfl) 1
  have F1f1 : World.frozen? w1 ⟨w.heap.size + 1, 1, none⟩ = false := blk_free (F.out.it 1 _ _ rfl) 1
  have F1c2 : World.cell? w1 ⟨w.heap.size + 1, 2, none⟩ = some ((.slice none 0 0)) := blk_cell (F.out.it 1 _ _ rfl) 2
  have F1f2 : World.frozen? w1 ⟨w.heap.size + 1, 2, none⟩ = false := blk_free (F.out.it 1 _ _ rfl) 2
  go_wp2_with fail
  refine (l4Peer_any _ _).mono ?_
  rintro e w2 ⟨rfl, rfl⟩
  rw [HX.out]
  go_wp2_with fail
  refine (l4Copy_any lim each A 8 c us _ F.out.pr (by omega)).mono ?_
  rintro e w3 ⟨A3, c3, rfl, ho3, hb3⟩
  obtain ⟨b3, c3', hv3, hb3a, hb3b⟩ := ho3.form (by omega)
  obtain ⟨rfl, rfl⟩ : A3 = some ⟨b3, 0, none⟩ ∧ c3 = c3' := by injection hv3 with e1 e2 e3; exact ⟨e1, e3⟩
  have z2 := F.out.lt
  simp [rsBs] at z2
  have z3 := hb3.size
  have S3 : Hid (RS w lim each A 8 c us w3.heap.size b3 c3 us (w3.alloc (.cells #[.int .i64 lim, .int .i64 each, (.slice (some ⟨b3, 0, none⟩) 8 c3)] 25))) := Lib.hid ⟨fn_alloc (fn_below F.out hb3) _, blk_new w3 _ _, own_mono (ho3.alloc _) (by omega), by omega, by omega⟩
  have F3 := Lib.hid (fn_below F.out hb3)
  clear F0c0 F0f0 F0c1 F0f1 F0c2 F0f2 F1c0 F1f0 F1c1 F1f1 F1c2 F1f2
  clear hb3 ho3 F hv3
  have F30c0 : World.cell? w3 ⟨w.heap.size, 0, none⟩ = some (.int .i64 lim) := blk_cell (F3.out.it 0 _ _ rfl) 0
  have F30f0 : World.frozen? w3 ⟨w.heap.size, 0, none⟩ = false := blk_free (F3.out.it 0 _ _ rfl) 0
  have F30c1 : World.cell? w3 ⟨w.heap.size, 1, none⟩ = some (.int .i64 each) := blk_cell (F3.out.it 0 _ _ rfl) 1
  have F30f1 : World.frozen? w3 ⟨w.heap.size, 1, none⟩ = false := blk_free (F3.out.it 0 _ _ rfl) 1
  have F30c2 : World.cell? w3 ⟨w.heap.size, 2, none⟩ = some ((.slice A 8 c)) := blk_cell (F3.out.it 0 _ _ rfl) 2
  have F30f2 : World.frozen? w3 ⟨w.heap.size, 2, none⟩ = false := blk_free (F3.out.it 0 _ _ rfl) 2
  have F31c0 : World.cell? w3 ⟨w.heap.size + 1, 0, none⟩ = some (.int .i64 0) := blk_cell (F3.out.it 1 _ _ rfl) 0
  have F31f0 : World.frozen? w3 ⟨w.heap.size + 1, 0, none⟩ = false := blk_free (F3.out.it 1 _ _ rfl) 0
  have F31c1 : World.cell? w3 ⟨w.heap.size + 1, 1, none⟩ = some (.int .i64 0) := blk_cell (F3.out.it 1 _ _ rfl) 1
  have F31f1 : World.frozen? w3 ⟨w.heap.size + 1, 1, none⟩ = false := blk_free (F3.out.it 1 _ _ rfl) 1
  have F31c2 : World.cell? w3 ⟨w.heap.size + 1, 2, none⟩ = some ((.slice none 0 0)) := blk_cell (F3.out.it 1 _ _ rfl) 2
  have F31f2 : World.frozen? w3 ⟨w.heap.size + 1, 2, none⟩ = false := blk_free (F3.out.it 1 _ _ rfl) 2
  have z4 : w.heap.size < w3.heap.size := by omega
  have z5 : w.heap.size + 1 < w3.heap.size := by omega
  go_wp2_with fail
  refine (l4Free_any lim each A 8 c us k u _ S3.out.fr.pr HQ.out HU.out).mono ?_
  rintro e w4 ⟨rfl, hb4⟩
  rw [HFV.out]
  have S4 := Lib.hid (rs_below S3.out hb4)
  clear F30c0 F30f0 F30c1 F30f1 F30c2 F30f2 F31c0 F31f0 F31c1 F31f1 F31c2 F31f2
  clear hb4 F3 S3
  obtain ⟨⟨l0, l1, l2⟩, ⟨o0, o1, o2⟩, f0', f1', f2'⟩ := rs_cells S4.out
  have x4 := blk_lt S4.out.l
  have hL := S4.out.hL
  have hd2 : decide (f < b) = false := by simp; omega
  obtain ⟨b', off', e1, d0, -⟩ := nr_at' (nr_own S4.out.own) HU.out
  obtain ⟨rfl, rfl⟩ : b3 = b' ∧ 0 = off' := by injection e1 with e1; injection e1 with e2 e3; exact ⟨e2, e3⟩
  rw [Nat.zero_add] at d0
  have g0 := World.ownsRow.frozenAt S4.out.own k
  have k0 : (0 : Int) ≤ (k : Int) := by omega
  have k1 : (k : Int) < (8 : Int) := by omega
  have S5 := Lib.hid (rs_put S4.out k (u + b))
  obtain ⟨⟨m0, m1, m2⟩, ⟨p0, p1, p2⟩, h0', h1', h2'⟩ := rs_cells S5.out
  clear e1
  go_wp2_with fail
  go_region
  all_goals
    go_wp2
    refine bodyPost_ret (v := .tuple #[.agg #[.int .i64 lim, .int .i64 each, (.slice (some ⟨b3, 0, none⟩) 8 c3)], .bool true, .bool true]) (by simp [results, Try.results17, go_sem, p0, p1, p2]) rfl (apost2_mk rfl (rs_end (rs_drew S5.out) _ _ _).1 (rs_end (rs_drew S5.out) _ _ _).2)
set_option maxHeartbeats 2000000 in
theorem relS_no3 (lim each : Int) (A : Option Addr) (n c : Nat) (us : List Int) (x b : Int) (w : World) (h : NR w A n us) (hn : n ≤ 4000000000) (hk : rsOk lim each us x b = false) :
    Calls Try.prog 23 #[.agg #[.int .i64 lim, .int .i64 each, (.slice A n c)], .int .i64 x, .int .i64 b] w (APost1 w 0 0 [] false) := by
  have F0 := Lib.hid (rs_first h lim each c)
  clear h
  rcases rsOk_no hk with hq | ⟨hq, hx⟩ | ⟨hq, hx, hb⟩
  · have HQ := Lib.hid hq
    clear hq hk
    go_enter Try.func23, Try.ntmps23
    go_wp2_with fail
    refine (acS_any lim each A n c us _ F0.out.pr (by omega)).mono ?_
    rintro e w1 ⟨rfl, hb⟩
    rw [HQ.out]
    have F := Lib.hid (fn_below F0.out hb)
    clear hb F0
    have F0c0 : World.cell? w1 ⟨w.heap.size, 0, none⟩ = some (.int .i64 lim) := blk_cell (F.out.it 0 _ _ rfl) 0
    have F0f0 : World.frozen? w1 ⟨w.heap.size, 0, none⟩ = false := blk_free (F.out.it 0 _ _ rfl) 0
    have F0c1 : World.cell? w1 ⟨w.heap.size, 1, none⟩ = some (.int .i64 each) := blk_cell (F.out.it 0 _ _ rfl) 1
    have F0f1 : World.frozen? w1 ⟨w.heap.size, 1, none⟩ = false := blk_free (F.out.it 0 _ _ rfl) 1
    have F0c2 : World.cell? w1 ⟨w.heap.size, 2, none⟩ = some ((.slice A n c)) := blk_cell (F.out.it 0 _ _ rfl) 2
    have F0f2 : World.frozen? w1 ⟨w.heap.size, 2, none⟩ = false := blk_free (F.out.it 0 _ _ rfl) 2
    have F1c0 : World.cell? w1 ⟨w.heap.size + 1, 0, none⟩ = some (.int .i64 0) := blk_cell (F.out.it 1 _ _ rfl) 0
    have F1f0 : World.frozen? w1 ⟨w.heap.size + 1, 0, none⟩ = false := blk_free (F.out.it 1 _ _ rfl) 0
    have F1c1 : World.cell? w1 ⟨w.heap.size + 1, 1, none⟩ = some (.int .i64 0) := blk_cell (F.out.it 1 _ _ rfl) 1
    have F1f1 : World.frozen? w1 ⟨w.heap.size + 1, 1, none⟩ = false := blk_free (F.out.it 1 _ _ rfl) 1
    have F1c2 : World.cell? w1 ⟨w.heap.size + 1, 2, none⟩ = some ((.slice none 0 0)) := blk_cell (F.out.it 1 _ _ rfl) 2
    have F1f2 : World.frozen? w1 ⟨w.heap.size + 1, 2, none⟩ = false := blk_free (F.out.it 1 _ _ rfl) 2
    go_wp2
    refine bodyPost_ret (v := .tuple #[.agg #[.int .i64 0, .int .i64 0, (.slice none 0 0)], .bool false]) (by simp [results, Try.results23, go_sem, F1c0, F1c1, F1c2]) rfl (apost1_mk rfl (World.ownsRow_nil _ _ _ _) ?_)
    repeat refine Below.setCell ?_ (by simp <;> omega) _
    exact F.out.below
  · have HQ := Lib.hid hq
    have HX := Lib.hid hx
    clear hq hk hx
    go_enter Try.func23, Try.ntmps23
    go_wp2_with fail
    refine (acS_any lim each A n c us _ F0.out.pr (by omega)).mono ?_
    rintro e w1 ⟨rfl, hb⟩
    rw [HQ.out]
    have F := Lib.hid (fn_below F0.out hb)
    clear hb F0
    have F0c0 : World.cell? w1 ⟨w.heap.size, 0, none⟩ = some (.int .i64 lim) := blk_cell (F.out.it 0 _ _ rfl) 0
    have F0f0 : World.frozen? w1 ⟨w.heap.size, 0, none⟩ = false := blk_free (F.out.it 0 _ _ rfl) 0
    have F0c1 : World.cell? w1 ⟨w.heap.size, 1, none⟩ = some (.int .i64 each) := blk_cell (F.out.it 0 _ _ rfl) 1
    have F0f1 : World.frozen? w1 ⟨w.heap.size, 1, none⟩ = false := blk_free (F.out.it 0 _ _ rfl) 1
    have F0c2 : World.cell? w1 ⟨w.heap.size, 2, none⟩ = some ((.slice A n c)) := blk_cell (F.out.it 0 _ _ rfl) 2
    have F0f2 : World.frozen? w1 ⟨w.heap.size, 2, none⟩ = false := blk_free (F.out.it 0 _ _ rfl) 2
    have F1c0 : World.cell? w1 ⟨w.heap.size + 1, 0, none⟩ = some (.int .i64 0) := blk_cell (F.out.it 1 _ _ rfl) 0
    have F1f0 : World.frozen? w1 ⟨w.heap.size + 1, 0, none⟩ = false := blk_free (F.out.it 1 _ _ rfl) 0
    have F1c1 : World.cell? w1 ⟨w.heap.size + 1, 1, none⟩ = some (.int .i64 0) := blk_cell (F.out.it 1 _ _ rfl) 1
    have F1f1 : World.frozen? w1 ⟨w.heap.size + 1, 1, none⟩ = false := blk_free (F.out.it 1 _ _ rfl) 1
    have F1c2 : World.cell? w1 ⟨w.heap.size + 1, 2, none⟩ = some ((.slice none 0 0)) := blk_cell (F.out.it 1 _ _ rfl) 2
    have F1f2 : World.frozen? w1 ⟨w.heap.size + 1, 2, none⟩ = false := blk_free (F.out.it 1 _ _ rfl) 2
    go_wp2_with fail
    refine (l4Peer_any x _).mono ?_
    rintro e w2 ⟨rfl, rfl⟩
    rw [HX.out]
    go_wp2
    refine bodyPost_ret (v := .tuple #[.agg #[.int .i64 0, .int .i64 0, (.slice none 0 0)], .bool false]) (by simp [results, Try.results23, go_sem, F1c0, F1c1, F1c2]) rfl (apost1_mk rfl (World.ownsRow_nil _ _ _ _) ?_)
    repeat refine Below.setCell ?_ (by simp <;> omega) _
    exact F.out.below
  · have HQ := Lib.hid hq
    have HX := Lib.hid hx
    have hd : decide (b < 0) = true := by simp; omega
    clear hq hk hx
    go_enter Try.func23, Try.ntmps23
    go_wp2_with fail
    refine (acS_any lim each A n c us _ F0.out.pr (by omega)).mono ?_
    rintro e w1 ⟨rfl, hb⟩
    rw [HQ.out]
    have F := Lib.hid (fn_below F0.out hb)
    clear hb F0
    have F0c0 : World.cell? w1 ⟨w.heap.size, 0, none⟩ = some (.int .i64 lim) := blk_cell (F.out.it 0 _ _ rfl) 0
    have F0f0 : World.frozen? w1 ⟨w.heap.size, 0, none⟩ = false := blk_free (F.out.it 0 _ _ rfl) 0
    have F0c1 : World.cell? w1 ⟨w.heap.size, 1, none⟩ = some (.int .i64 each) := blk_cell (F.out.it 0 _ _ rfl) 1
    have F0f1 : World.frozen? w1 ⟨w.heap.size, 1, none⟩ = false := blk_free (F.out.it 0 _ _ rfl) 1
    have F0c2 : World.cell? w1 ⟨w.heap.size, 2, none⟩ = some ((.slice A n c)) := blk_cell (F.out.it 0 _ _ rfl) 2
    have F0f2 : World.frozen? w1 ⟨w.heap.size, 2, none⟩ = false := blk_free (F.out.it 0 _ _ rfl) 2
    have F1c0 : World.cell? w1 ⟨w.heap.size + 1, 0, none⟩ = some (.int .i64 0) := blk_cell (F.out.it 1 _ _ rfl) 0
    have F1f0 : World.frozen? w1 ⟨w.heap.size + 1, 0, none⟩ = false := blk_free (F.out.it 1 _ _ rfl) 0
    have F1c1 : World.cell? w1 ⟨w.heap.size + 1, 1, none⟩ = some (.int .i64 0) := blk_cell (F.out.it 1 _ _ rfl) 1
    have F1f1 : World.frozen? w1 ⟨w.heap.size + 1, 1, none⟩ = false := blk_free (F.out.it 1 _ _ rfl) 1
    have F1c2 : World.cell? w1 ⟨w.heap.size + 1, 2, none⟩ = some ((.slice none 0 0)) := blk_cell (F.out.it 1 _ _ rfl) 2
    have F1f2 : World.frozen? w1 ⟨w.heap.size + 1, 2, none⟩ = false := blk_free (F.out.it 1 _ _ rfl) 2
    go_wp2_with fail
    refine (l4Peer_any x _).mono ?_
    rintro e w2 ⟨rfl, rfl⟩
    rw [HX.out]
    go_wp2
    refine bodyPost_ret (v := .tuple #[.agg #[.int .i64 0, .int .i64 0, (.slice none 0 0)], .bool false]) (by simp [results, Try.results23, go_sem, F1c0, F1c1, F1c2]) rfl (apost1_mk rfl (World.ownsRow_nil _ _ _ _) ?_)
    repeat refine Below.setCell ?_ (by simp <;> omega) _
    exact F.out.below
set_option maxHeartbeats 2000000 in
theorem relS_more (lim each : Int) (A : Option Addr) (n c : Nat) (us : List Int) (k : Nat) (u b : Int) (w : World) (h : NR w A n us) (hk : rsOk lim each us (k : Int) b = true) (hu : us[k]? = some u) (hlt : u < b) :
    Calls Try.prog 23 #[.agg #[.int .i64 lim, .int .i64 each, (.slice A n c)], .int .i64 (k : Int), .int .i64 b] w (APost1 w 0 0 [] false) := by
  have F0 := Lib.hid (rs_first h lim each c)
  obtain ⟨hq, hx, hb0⟩ := rsOk_of hk
  have n8 : n ≤ 8 := by have := h.1; have := (ac_of hq).2.2.2.1; omega
  have HQ := Lib.hid hq
  have HX := Lib.hid hx
  have HU := Lib.hid hu
  have hd : decide (b < 0) = false := by simp; omega
  clear h hk hq hx hu
  go_enter Try.func23, Try.ntmps23
  go_wp2_with fail
  refine (acS_any lim each A n c us _ F0.out.pr (by omega)).mono ?_
  rintro e w1 ⟨rfl, hb⟩
  rw [HQ.out]
  have F := Lib.hid (fn_below F0.out hb)
  obtain ⟨b', off', rfl, d0, kn⟩ := nr_at' F.out.pr HU.out
  have k0 : (0 : Int) ≤ (k : Int) := by omega
  have k1 : (k : Int) < (n : Int) := by omega
  clear hb F0
  have F0c0 : World.cell? w1 ⟨w.heap.size, 0, none⟩ = some (.int .i64 lim) := blk_cell (F.out.it 0 _ _ rfl) 0
  have F0f0 : World.frozen? w1 ⟨w.heap.size, 0, none⟩ = false := blk_free (F.out.it 0 _ _ rfl) 0
  have F0c1 : World.cell? w1 ⟨w.heap.size, 1, none⟩ = some (.int .i64 each) := blk_cell (F.out.it 0 _ _ rfl) 1
  have F0f1 : World.frozen? w1 ⟨w.heap.size, 1, none⟩ = false := blk_free (F.out.it 0 _ _ rfl) 1
  have F0c2 : World.cell? w1 ⟨w.heap.size, 2, none⟩ = some ((.slice (some ⟨b', off', none⟩) n c)) := blk_cell (F.out.it 0 _ _ rfl) 2
  have F0f2 : World.frozen? w1 ⟨w.heap.size, 2, none⟩ = false := blk_free (F.out.it 0 _ _ rfl) 2
  have F1c0 : World.cell? w1 ⟨w.heap.size + 1, 0, none⟩ = some (.int .i64 0) := blk_cell (F.out.it 1 _ _ rfl) 0
  have F1f0 : World.frozen? w1 ⟨w.heap.size + 1, 0, none⟩ = false := blk_free (F.out.it 1 _ _ rfl) 0
  have F1c1 : World.cell? w1 ⟨w.heap.size + 1, 1, none⟩ = some (.int .i64 0) := blk_cell (F.out.it 1 _ _ rfl) 1
  have F1f1 : World.frozen? w1 ⟨w.heap.size + 1, 1, none⟩ = false := blk_free (F.out.it 1 _ _ rfl) 1
  have F1c2 : World.cell? w1 ⟨w.heap.size + 1, 2, none⟩ = some ((.slice none 0 0)) := blk_cell (F.out.it 1 _ _ rfl) 2
  have F1f2 : World.frozen? w1 ⟨w.heap.size + 1, 2, none⟩ = false := blk_free (F.out.it 1 _ _ rfl) 2
  go_wp2_with fail
  refine (l4Peer_any _ _).mono ?_
  rintro e w2 ⟨rfl, rfl⟩
  rw [HX.out]
  go_wp2
  refine bodyPost_ret (v := .tuple #[.agg #[.int .i64 0, .int .i64 0, (.slice none 0 0)], .bool false]) (by simp [results, Try.results23, go_sem, F1c0, F1c1, F1c2]) rfl (apost1_mk rfl (World.ownsRow_nil _ _ _ _) ?_)
  repeat refine Below.setCell ?_ (by simp <;> omega) _
  exact F.out.below
set_option maxHeartbeats 4000000 in
theorem relS_yes (lim each : Int) (A : Option Addr) (n c : Nat) (us : List Int) (k : Nat) (u b : Int) (w : World) (h : NR w A n us) (hk : rsOk lim each us (k : Int) b = true) (hu : us[k]? = some u) (hlt : b ≤ u) :
    Calls Try.prog 23 #[.agg #[.int .i64 lim, .int .i64 each, (.slice A n c)], .int .i64 (k : Int), .int .i64 b] w (APost1 w lim each (us.set k (u - b)) true) := by
  have F0 := Lib.hid (rs_first h lim each c)
  obtain ⟨hq, hx, hb0⟩ := rsOk_of hk
  obtain ⟨u0, u1, u2⟩ := ac_get hq hu
  obtain ⟨a1, a2, a3, a4, a5, a6⟩ := ac_of hq
  have n8 : n = 8 := by have := h.1; omega
  have HQ := Lib.hid hq
  have HX := Lib.hid hx
  have HU := Lib.hid hu
  have k8 : k < 8 := by
    rcases Nat.lt_or_ge k us.length with hl | hl
    · omega
    · rw [List.getElem?_eq_none hl] at hu; cases hu
  have hd : decide (b < 0) = false := by simp; omega
  have hd2 : decide (u < b) = false := by simp; omega
  subst n8
  clear h hk hq hx hu a1 a4 a5 a6 u2
  go_enter Try.func23, Try.ntmps23
  go_wp2_with fail
  refine (acS_any lim each A 8 c us _ F0.out.pr (by omega)).mono ?_
  rintro e w1 ⟨rfl, hb⟩
  rw [HQ.out]
  have F := Lib.hid (fn_below F0.out hb)
  obtain ⟨ba, offa, rfl, da, -⟩ := nr_at' F.out.pr HU.out
  have k0 : (0 : Int) ≤ (k : Int) := by omega
  have k1 : (k : Int) < (8 : Int) := by omega
  clear hb F0
  have F0c0 : World.cell? w1 ⟨w.heap.size, 0, none⟩ = some (.int .i64 lim) := blk_cell (F.out.it 0 _ _ rfl) 0
  have F0f0 : World.frozen? w1 ⟨w.heap.size, 0, none⟩ = false := blk_free (F.out.it 0 _ _ rfl) 0
  have F0c1 : World.cell? w1 ⟨w.heap.size, 1, none⟩ = some (.int .i64 each) := blk_cell (F.out.it 0 _ _ rfl) 1
  have F0f1 : World.frozen? w1 ⟨w.heap.size, 1, none⟩ = false := blk_free (F.out.it 0 _ _ rfl) 1
  have F0c2 : World.cell? w1 ⟨w.heap.size, 2, none⟩ = some ((.slice (some ⟨ba, offa, none⟩) 8 c)) := blk_cell (F.out.it 0 _ _ rfl) 2
  have F0f2 : World.frozen? w1 ⟨w.heap.size, 2, none⟩ = false := blk_free (F.out.it 0 _ _ rfl) 2
  have F1c0 : World.cell? w1 ⟨w.heap.size + 1, 0, none⟩ = some (.int .i64 0) := blk_cell (F.out.it 1 _ _ rfl) 0
  have F1f0 : World.frozen? w1 ⟨w.heap.size + 1, 0, none⟩ = false := blk_free (F.out.it 1 _ _ rfl) 0
  have F1c1 : World.cell? w1 ⟨w.heap.size + 1, 1, none⟩ = some (.int .i64 0) := blk_cell (F.out.it 1 _ _ rfl) 1
  have F1f1 : World.frozen? w1 ⟨w.heap.size + 1, 1, none⟩ = false := blk_free (F.out.it 1 _ _ rfl) 1
  have F1c2 : World.cell? w1 ⟨w.heap.size + 1, 2, none⟩ = some ((.slice none 0 0)) := blk_cell (F.out.it 1 _ _ rfl) 2
  have F1f2 : World.frozen? w1 ⟨w.heap.size + 1, 2, none⟩ = false := blk_free (F.out.it 1 _ _ rfl) 2
  go_wp2_with fail
  refine (l4Peer_any _ _).mono ?_
  rintro e w2 ⟨rfl, rfl⟩
  rw [HX.out]
  go_wp2_with fail
  refine (l4Copy_any lim each _ 8 c us _ F.out.pr (by omega)).mono ?_
  rintro e w3 ⟨A3, c3, rfl, ho3, hb3⟩
  obtain ⟨b3, c3', hv3, hb3a, hb3b⟩ := ho3.form (by omega)
  obtain ⟨rfl, rfl⟩ : A3 = some ⟨b3, 0, none⟩ ∧ c3 = c3' := by injection hv3 with e1 e2 e3; exact ⟨e1, e3⟩
  have z2 := F.out.lt
  simp [rsBs] at z2
  have z3 := hb3.size
  have S3 : Hid (RS w lim each (some ⟨ba, offa, none⟩) 8 c us w3.heap.size b3 c3 us (w3.alloc (.cells #[.int .i64 lim, .int .i64 each, (.slice (some ⟨b3, 0, none⟩) 8 c3)] 25))) := Lib.hid ⟨fn_alloc (fn_below F.out hb3) _, blk_new w3 _ _, own_mono (ho3.alloc _) (by omega), by omega, by omega⟩
  clear F0c0 F0f0 F0c1 F0f1 F0c2 F0f2 F1c0 F1f0 F1c1 F1f1 F1c2 F1f2
  clear hb3 ho3 F hv3 da
  obtain ⟨⟨l0, l1, l2⟩, ⟨o0, o1, o2⟩, f0', f1', f2'⟩ := rs_cells S3.out
  have hL := S3.out.hL
  have zw : w3.heap.size < (w3.alloc (.cells #[.int .i64 lim, .int .i64 each, (.slice (some ⟨b3, 0, none⟩) 8 c3)] 25)).heap.size := by simp
  obtain ⟨b', off', e1, d0, -⟩ := nr_at' (nr_own S3.out.own) HU.out
  obtain ⟨rfl, rfl⟩ : b3 = b' ∧ 0 = off' := by injection e1 with e1; injection e1 with e2 e3; exact ⟨e2, e3⟩
  rw [Nat.zero_add] at d0
  have g0 := World.ownsRow.frozenAt S3.out.own k
  have S5 := Lib.hid (rs_put S3.out k (u - b))
  obtain ⟨⟨m0, m1, m2⟩, ⟨p0, p1, p2⟩, h0', h1', h2'⟩ := rs_cells S5.out
  have zn : ¬ b3 = w3.heap.size := by omega
  clear e1
  go_upto_region 4 with fail
  generalize w3.alloc (.cells #[.int .i64 lim, .int .i64 each, (.slice (some ⟨b3, 0, none⟩) 8 c3)] 25) = W at S3 S5 l0 l1 l2 o0 o1 o2 f0' f1' f2' d0 g0 m0 m1 m2 p0 p1 p2 h0' h1' h2' zw ⊢
  go_region
  all_goals
    go_wp2
    refine bodyPost_ret (v := .tuple #[.agg #[.int .i64 lim, .int .i64 each, (.slice (some ⟨b3, 0, none⟩) 8 c3)], .bool true]) (by simp [results, Try.results23, go_sem, p0, p1, p2]) rfl (apost1_mk rfl (rs_end (rs_drew S5.out) _ _ _).1 (rs_end (rs_drew S5.out) _ _ _).2)
end Go.Proofs.Ytkbjelchihdajaa
