/-
  Chapter 5: which flow may send, the place of a peer: what the program's functions and the model's return. Conditions: flows that wait have a packet.
-/
import Derived.Test.YtehokkijfgiggaaR0
import Derived.Deep.RegionHeld3
import Derived.StillTailTactics
namespace Go.Proofs.Ytehokkijfgiggaa
open Go.RowKit

theorem blk_two {w : World} {b : Nat} {t : TypeId} {x y : Value} (h : Blk w b t #[x, y]) : w.cell? ⟨b, 0, none⟩ = some x ∧ w.cell? ⟨b, 1, none⟩ = some y ∧ w.frozen? ⟨b, 0, none⟩ = false ∧ w.frozen? ⟨b, 1, none⟩ = false :=
  ⟨blk_cell h 0, blk_cell h 1, blk_free h 0, blk_free h 1⟩
theorem blk_three {w : World} {b : Nat} {t : TypeId} {x y z : Value} (h : Blk w b t #[x, y, z]) : (w.cell? ⟨b, 0, none⟩ = some x ∧ w.cell? ⟨b, 1, none⟩ = some y ∧ w.cell? ⟨b, 2, none⟩ = some z) ∧ w.frozen? ⟨b, 0, none⟩ = false ∧ w.frozen? ⟨b, 1, none⟩ = false ∧ w.frozen? ⟨b, 2, none⟩ = false :=
  ⟨⟨blk_cell h 0, blk_cell h 1, blk_cell h 2⟩, blk_free h 0, blk_free h 1, blk_free h 2⟩
theorem fm_one (w : World) (t : TypeId) (cs : Array Value) : Fm w [⟨w.heap.size, w.heap.size + 1, BoxP w.heap.size t cs⟩] (w.alloc (.cells cs t)) := fm_box (fm_zero w) t cs
theorem fm_push {w w1 : World} {L : List Iv} (h : Fm w L w1) {s : Nat} (hs : w1.heap.size = s) (t : TypeId) (cs : Array Value) : Fm w (L ++ [⟨s, s + 1, BoxP s t cs⟩]) (w1.alloc (.cells cs t)) := by subst hs; exact fm_box h t cs
theorem fm_two (w : World) (t t2 : TypeId) (cs cs2 : Array Value) : Fm w [⟨w.heap.size, w.heap.size + 1, BoxP w.heap.size t cs⟩, ⟨w.heap.size + 1, w.heap.size + 2, BoxP (w.heap.size + 1) t2 cs2⟩] ((w.alloc (.cells cs t)).alloc (.cells cs2 t2)) := fm_push (fm_one w t cs) (by simp) t2 cs2
theorem fm_three (w : World) (t t2 t3 : TypeId) (cs cs2 cs3 : Array Value) : Fm w [⟨w.heap.size, w.heap.size + 1, BoxP w.heap.size t cs⟩, ⟨w.heap.size + 1, w.heap.size + 2, BoxP (w.heap.size + 1) t2 cs2⟩, ⟨w.heap.size + 2, w.heap.size + 3, BoxP (w.heap.size + 2) t3 cs3⟩] (((w.alloc (.cells cs t)).alloc (.cells cs2 t2)).alloc (.cells cs3 t3)) := fm_push (fm_two w t t2 cs cs2) (by simp) t3 cs3
/-- a store into a box -/
theorem fm_cell {w w1 : World} {L : List Iv} {a b g : Nat} {t : TypeId} {cs : Array Value} (h : Fm w L w1) (i : Nat) (hi : L[i]? = some ⟨a, b, BoxP g t cs⟩) (hg : a ≤ g ∧ g < b) (k : Nat) (u : Value) : Fm w (L.set i ⟨a, b, BoxP g t (cs.setIfInBounds k u)⟩) (w1.setCell ⟨g, k, none⟩ u) := by
  have hk := al_get i h.al hi
  refine fm_put h i hi (chg_grown (g_set (g_refl w1 (some g)) (.inl rfl) u) fun x e => by injection e with e; omega) ?_
  have hb := blk_set (show Blk w1 g t cs from fm_blk h i hi) k u
  exact at_mono (at_box hb) hg.1 (by omega) (by have := hk.1.fit; simpa using this)
set_option maxHeartbeats 1000000 in
theorem mayI_any (x d : Int) (ws : List Pkt) (A : Option Addr) (n c : Nat) (w : World) (h : PR w A n ws) (h0 : 0 < n) (hn : n ≤ 4000000000) :
    Calls Try.prog 79 #[.agg #[.int .i64 x, .int .i64 d, (.slice A n c)]] w fun e w' => e = .returned (.bool (may ⟨x, d, ws⟩)) ∧ Below w.heap.size w w' := by
  obtain ⟨b, off, p, rfl, hb, hp, c0, c1, c2, c3⟩ := pr_at h h0
  simp only [Nat.zero_mul, Nat.add_zero] at c0 c1 c2 c3
  have Q : Hid (may ⟨x, d, ws⟩ = decide (p.size ≤ d)) := Lib.hid (by
    cases ws with
    | nil => simp at hp
    | cons q r =>
      obtain rfl : q = p := by simpa using hp
      rfl)
  have B0 := Lib.hid (below_alloc (Below.refl w.heap.size w) (.cells #[.int .i64 x, .int .i64 d, (.slice (some ⟨b, off, none⟩) n c)] 40))
  have n0 : (0 : Int) < (n : Int) := by omega
  clear h hp
  go_enter Try.func79, Try.ntmps79
  go_wp2_with fail
  go_quiet (fail)
  go_wp2
  go_ret
  exact ⟨ret_bool Q.out.symm, below_drewN B0.out _⟩
def plN (fs : List Flw) (x : Int) : Int := if fix fs x < fs.length then (fix fs x : Int) else -1
def PlRel (w : World) (fs : List Flw) (x : Int) (n : Nat) (i : Value) (wr : World) : Prop :=
  ∃ k : Nat, k ≤ n ∧ i = .int .i64 (k : Int) ∧ (∀ j g, j < k → fs[j]? = some g → ¬ g.peer = x) ∧ Below w.heap.size w wr
theorem pl_here {fs : List Flw} {x : Int} {k : Nat} {f : Flw} (hf : fs[k]? = some f) (hx : f.peer = x) (hb : ∀ j g, j < k → fs[j]? = some g → ¬ g.peer = x) : (k : Int) = plN fs x := by
  have e := fix_eq hf hx hb
  have hlt : k < fs.length := by
    rcases Nat.lt_or_ge k fs.length with h | h
    · exact h
    · rw [List.getElem?_eq_none h] at hf; cases hf
  unfold plN
  rw [e, if_pos hlt]
theorem pl_no {fs : List Flw} {x : Int} (hb : ∀ j g, j < fs.length → fs[j]? = some g → ¬ g.peer = x) : -1 = plN fs x := by
  unfold plN
  rw [if_neg]
  intro hlt
  obtain ⟨f, hf, hx⟩ := fix_lt hlt
  exact hb _ f hlt hf hx
theorem pl_step {fs : List Flw} {x : Int} {k : Nat} {f : Flw} (h : ∀ j g, j < k → fs[j]? = some g → ¬ g.peer = x) (hf : fs[k]? = some f) (hx : ¬ f.peer = x) : ∀ j g, j < k + 1 → fs[j]? = some g → ¬ g.peer = x := by
  intro j g hj hg
  by_cases e : j = k
  · subst e
    rw [hf] at hg
    rw [← Option.some.inj hg]; exact hx
  · exact h j g (by omega) hg
set_option maxHeartbeats 1000000 in
theorem placeI_any (q : Int) (A : Option Addr) (n c : Nat) (fs : List Flw) (x : Int) (w : World) (h : FR w A n fs) :
    Calls Try.prog 66 #[.agg #[.int .i64 q, (.slice A n c)], .int .i64 x] w fun e w' => e = .returned (.int .i64 (plN fs x)) ∧ Below w.heap.size w w' := by
  have H := Lib.hid h
  have HL := Lib.hid (fr_lenF h)
  have R0 : Hid (PlRel w fs x n (.int .i64 0) (w.alloc (.cells #[.int .i64 q, (.slice A n c)] 25))) := Lib.hid ⟨0, Nat.zero_le _, rfl, fun j g hj => absurd hj (by omega), below_alloc (Below.refl _ _) _⟩
  have n4 : n ≤ 4000000000 := HL.out.2
  clear h
  go_enter Try.func66, Try.ntmps66
  go_wp2
  go_loopw [10] (fun i wr => PlRel w fs x n i wr) (fun i _ => n - (intOf i).toNat)
  case atStart => exact R0.out
  case round =>
    obtain ⟨k, hk, rfl, hall, hbl⟩ := hrel
    have HA := Lib.hid hall
    have HB := Lib.hid hbl
    clear R0 hall
    by_cases hlt : k < n
    · obtain ⟨b, off, f, A1, n1, c1', rfl, hb, hf, c0, c1, c2, -⟩ := fr_cells (fr_belowF H.out hbl) hlt
      have HF := Lib.hid hf
      clear hf hbl
      by_cases hx : f.peer = x
      · have hxb : (f.peer == x) = true := by simp [hx]
        have HE := Lib.hid (pl_here HF.out hx HA.out)
        clear hx
        go_wp2
        go_ret
        exact ⟨ret_int HE.out, below_alloc HB.out _⟩
      · have hxb : (f.peer == x) = false := by simp [hx]
        have HX := Lib.hid hx
        clear hx
        go_wp2
        go_roundw
        case rel => exact ⟨k + 1, by omega, by go_num, pl_step HA.out HF.out HX.out, below_alloc HB.out _⟩
        case measure => simp [intOf]; omega
    · obtain rfl : k = n := by omega
      have HE := Lib.hid (pl_no (x := x) fun j g hj hg => HA.out j g (by have := HL.out.1; omega) hg)
      clear hbl
      go_wp2
      go_ret
      exact ⟨ret_int HE.out, HB.out⟩
def FnRel (w : World) (q : Int) (A : Option Addr) (c : Nat) (fs : List Flw) (x : Int) (n : Nat) (i : Value) (wr : World) : Prop :=
  ∃ k : Nat, k ≤ n ∧ i = .int .i64 (k : Int) ∧ (∀ j g, j < k → fs[j]? = some g → ¬ g.peer = x) ∧ Fm w [⟨w.heap.size, w.heap.size + 1, BoxP w.heap.size 25 #[.int .i64 q, (.slice A n c)]⟩] wr
set_option maxHeartbeats 1000000 in
theorem findS_any (q : Int) (A : Option Addr) (n c : Nat) (fs : List Flw) (x : Int) (w : World) (h : FR w A n fs) :
    Calls Try.prog 68 #[.agg #[.int .i64 q, (.slice A n c)], .int .i64 x] w fun e w' => e = .returned (.int .i64 (plN fs x)) ∧ Below w.heap.size w w' := by
  have H := Lib.hid h
  have HL := Lib.hid (fr_lenF h)
  have R0 : Hid (FnRel w q A c fs x n (.int .i64 0) (w.alloc (.cells #[.int .i64 q, (.slice A n c)] 25))) := Lib.hid ⟨0, Nat.zero_le _, rfl, fun j g hj => absurd hj (by omega), fm_box (fm_zero w) _ _⟩
  have n4 : n ≤ 4000000000 := HL.out.2
  clear h
  go_enter Try.func68, Try.ntmps68
  go_wp2
  go_loopw [5] (fun i wr => FnRel w q A c fs x n i wr) (fun i _ => n - (intOf i).toNat)
  case atStart => exact R0.out
  case round =>
    obtain ⟨k, hk, rfl, hall, hF⟩ := hrel
    have HA := Lib.hid hall
    have HF0 := Lib.hid hF
    obtain ⟨q0, q1, -⟩ := blk_two (fm_blk hF 0 rfl)
    have hbl := hF.below
    clear R0 hall hF
    by_cases hlt : k < n
    · obtain ⟨b, off, f, A1, n1, c1', rfl, hb, hf, c0, c1, c2, -⟩ := fr_cells (fr_belowF H.out hbl) hlt
      have HF := Lib.hid hf
      clear hf hbl
      by_cases hx : f.peer = x
      · have hxb : (f.peer == x) = true := by simp [hx]
        have HE := Lib.hid (pl_here HF.out hx HA.out)
        clear hx
        go_wp2
        go_ret
        exact ⟨ret_int HE.out, HF0.out.below⟩
      · have hxb : (f.peer == x) = false := by simp [hx]
        have HX := Lib.hid hx
        clear hx
        go_wp2
        go_roundw
        case rel => exact ⟨k + 1, by omega, by go_num, pl_step HA.out HF.out HX.out, HF0.out⟩
        case measure => simp [intOf]; omega
    · obtain rfl : k = n := by omega
      have HE := Lib.hid (pl_no (x := x) fun j g hj hg => HA.out j g (by have := HL.out.1; omega) hg)
      clear hbl
      go_wp2
      go_ret
      exact ⟨ret_int HE.out, HF0.out.below⟩
end Go.Proofs.Ytehokkijfgiggaa
