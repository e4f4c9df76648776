/-
  The random source of the draws: open, pick, num. Conditions: the number of choices is at least 1, the counter is small.
-/
import Derived.Test.YtaccbmgbkalknabDoorBase
namespace Go.Proofs.YtaccbmgbkalknabDoor
open Go.RowKit

/-- the source at block g: it reads at most 2000 bytes that lie below g; its counter is at most q -/
def BR (w : World) (g : Nat) (A : Option Addr) (n : Nat) : Prop :=
  0 < n → ∃ b off, A = some ⟨b, off, none⟩ ∧ b < g ∧ ∀ k, k < n → ∃ x : Nat, x < 256 ∧ w.cell? ⟨b, off + k, none⟩ = some (.int .u8 (x : Int))
def RdAt (w : World) (g q : Nat) : Prop :=
  ∃ A n c p, Blk w g 53 #[.slice A n c, .int .i64 ((p : Nat) : Int)] ∧ n ≤ 2000 ∧ p ≤ q ∧ BR w g A n
theorem rd_lt {w : World} {g q : Nat} (h : RdAt w g q) : g < w.heap.size := by
  obtain ⟨A, n, c, p, hb, _⟩ := h
  exact blk_lt hb
theorem br_keep {w w' : World} {g n : Nat} {A : Option Addr} (h : BR w g A n) (hk : ∀ b x, b < g → w'.cell? ⟨b, x, none⟩ = w.cell? ⟨b, x, none⟩) : BR w' g A n := fun hn => by
  obtain ⟨b, off, e, hb, hc⟩ := h hn
  exact ⟨b, off, e, hb, fun k hk' => by
    obtain ⟨x, hx, hcx⟩ := hc k hk'
    exact ⟨x, hx, (hk b _ hb).trans hcx⟩⟩
theorem rd_below {w w' : World} {g q : Nat} (h : RdAt w g q) (hb : Below w.heap.size w w') : RdAt w' g q := by
  have hlt := rd_lt h
  obtain ⟨A, n, c, p, hB, hn, hp, hr⟩ := h
  exact ⟨A, n, c, p, blk_below hB hb hlt, hn, hp, br_keep hr fun b x hbg => (bcell hb).1 b x (by omega)⟩
theorem rd_alloc {w : World} {g q : Nat} (h : RdAt w g q) (o : Obj) : RdAt (w.alloc o) g q := rd_below h (below_alloc (Below.refl _ _) o)
theorem rd_drewN {w : World} {g q : Nat} (h : RdAt w g q) (n : Nat) : RdAt (w.drewN n) g q := h
theorem rd_more {w : World} {g q q' : Nat} (h : RdAt w g q) (hq : q ≤ q') : RdAt w g q' := by
  obtain ⟨A, n, c, p, hB, hn, hp, hr⟩ := h
  exact ⟨A, n, c, p, hB, hn, by omega, hr⟩
/-- other blocks above g may turn -/
theorem rd_new {w w' : World} {g q j : Nat} (h : RdAt w g q) (hk : w.grownBy w' (some j)) (hj : g < j) : RdAt w' g q := by
  have hlt := rd_lt h
  obtain ⟨A, n, c, p, hB, hn, hp, hr⟩ := h
  exact ⟨A, n, c, p, blk_grown hB hk (by omega), hn, hp, br_keep hr fun b x hbg => g_cell hk (by omega) (by omega)⟩
theorem rd_set {w : World} {g q : Nat} (h : RdAt w g q) {p : Addr} (hp : g < p.block) (u : Value) : RdAt (w.setCell p u) g q := by
  obtain ⟨A, n, c, p', hB, hn, hp', hr⟩ := h
  exact ⟨A, n, c, p', blk_far hB (by omega) u, hn, hp', br_keep hr fun b x hbg => World.cell?_setCell_other w p ⟨b, x, none⟩ u (fun e => by subst e; simp at hp; omega)⟩

def PickPost (w : World) (g q : Nat) (m : Int) (e : Ending) (w' : World) : Prop :=
  ∃ k : Nat, e = .returned (.int .i64 (k : Int)) ∧ (k : Int) < m ∧ w.grownBy w' (some g) ∧ RdAt w' g q

theorem pick_end {w : World} {g n c p q j k : Nat} {m : Int} {A : Option Addr} {e : Ending} (hB : Blk w g 53 #[.slice A n c, .int .i64 (p : Int)]) (hn : n ≤ 2000) (hp : p ≤ q) (hr : BR w g A n)
    (he : e = .returned (.int .i64 (k : Int))) (hk : (k : Int) < m) : PickPost w g (q + 1) m e ((w.setCell ⟨g, 1, none⟩ (.int .i64 ((p : Int) + 1))).drewN j) := by
  refine ⟨k, he, hk, g_drewN (g_set (g_refl _ _) (.inl rfl) _) _, A, n, c, p + 1, blk_set hB 1 _, hn, by omega, ?_⟩
  exact br_keep hr fun b x hb => World.cell?_setCell_other w _ ⟨b, x, none⟩ _ (fun e => by injection e; omega)

set_option maxRecDepth 100000 in
set_option maxHeartbeats 1000000 in
theorem pick_any (g q : Nat) (m : Int) (w : World) (h : RdAt w g q) (hq : q ≤ 1000000) (hm : 1 ≤ m) :
    Calls Tryd.prog 27 #[.pointer (some ⟨g, 0, none⟩), .int .i64 m] w (PickPost w g (q + 1) m) := by
  have hg := rd_lt h
  obtain ⟨A, n, c, p, hB, hn2, hpq, hr⟩ := h
  have c0 : w.cell? ⟨g, 0, none⟩ = some (.slice A n c) := blk_cell hB 0
  have c1 : w.cell? ⟨g, 1, none⟩ = some (.int .i64 p) := blk_cell hB 1
  have f1 := blk_free hB 1
  have hp : p ≤ 1000000 := by omega
  have HB := Lib.hid hB
  clear hB
  by_cases hn0 : n = 0
  · subst hn0
    go_enter Tryd.func27, Tryd.ntmps27
    go_wp2
    go_ret
    exact pick_end (j := 0) (k := 0) HB.out hn2 hpq hr rfl (by omega)
  · have hn : 0 < n := by omega
    obtain ⟨b, off, rfl, hbg, hx⟩ := hr hn
    by_cases hpn : p < n
    · obtain ⟨x1, hx1, e1⟩ := hx p hpn
      have m0 : 0 ≤ (x1 : Int) % m := Int.emod_nonneg _ (by omega)
      have m1 : (x1 : Int) % m < m := Int.emod_lt_of_pos _ (by omega)
      have hne : b ≠ g := by omega
      clear hx
      have HR := Lib.hid hr
      clear hr
      go_enter Tryd.func27, Tryd.ntmps27
      go_wp2
      go_ret
      exact pick_end (j := 0) (k := ((x1 : Int) % m).toNat) HB.out hn2 hpq HR.out (ret_int (by omega)) (by omega)
    · obtain ⟨x1, hx1, e1⟩ := hx (p % n) (Nat.mod_lt _ hn)
      obtain ⟨x2, hx2, e2⟩ := hx ((p * 7 + 3) % n) (Nat.mod_lt _ hn)
      clear hx
      have HR := Lib.hid hr
      clear hr
      have m0 : 0 ≤ (p : Int) % (n : Int) := Int.emod_nonneg _ (by omega)
      have m1 : (p : Int) % (n : Int) < (n : Int) := Int.emod_lt_of_pos _ (by omega)
      have m2 : 0 ≤ ((p : Int) * 7 + 3) % (n : Int) := Int.emod_nonneg _ (by omega)
      have m3 : ((p : Int) * 7 + 3) % (n : Int) < (n : Int) := Int.emod_lt_of_pos _ (by omega)
      have d0 : 0 ≤ (p : Int) / (n : Int) := Int.ediv_nonneg (by omega) (by omega)
      have d1 : (p : Int) / (n : Int) ≤ 1000000 := Int.le_trans (Int.ediv_le_self _ (by omega)) (by omega)
      go_enter Tryd.func27, Tryd.ntmps27
      go_wp2
      go_quiet (fail)
      obtain ⟨y, hy⟩ := xor_nat ((x1 : Int) * 131 + x2 * 1117 + p * 29 + p / n * 53) (by omega) (by omega)
      have Hy := Lib.hid hy
      clear hy
      go_wp2
      have t1 : ((y : Int)).tmod m = ((y : Int) % m) := Int.tmod_eq_emod_of_nonneg (by omega)
      have t2 : 0 ≤ (y : Int) % m := Int.emod_nonneg _ (by omega)
      have t3 : (y : Int) % m < m := Int.emod_lt_of_pos _ (by omega)
      go_ret
      exact pick_end (k := ((y : Int) % m).toNat) HB.out hn2 hpq HR.out (ret_int (by rw [Hy.out, t1]; omega)) (by omega)
end Go.Proofs.YtaccbmgbkalknabDoor
