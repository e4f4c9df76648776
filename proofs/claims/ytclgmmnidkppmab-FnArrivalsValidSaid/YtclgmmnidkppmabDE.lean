/-
  Chapter 10: the draws of arrivals: what they return, whatever the bytes. Conditions: the source is as open leaves it, its counter is small.
-/
import Derived.Test.YtclgmmnidkppmabDraw
import Derived.Test.YtclgmmnidkppmabEr
namespace Go.Proofs.Ytclgmmnidkppmab
open Go.RowKit

def ArrPost (w : World) (g q : Nat) (e : Ending) (w' : World) : Prop :=
  ∃ v n ps, e = .returned v ∧ n ≤ 9 ∧ w'.ownsRow w.heap.size 50 2 v n (acells ps) ∧ w.grownBy w' (some g) ∧ RdAt w' g q
theorem arr_step {w wr w1 w2 : World} {g q n : Nat} {ps : List Arr} {v : Value} {cs : Array Value} {t : TypeId} (hg : g < w.heap.size)
    (ho : wr.ownsRow w.heap.size 50 2 v n (acells ps)) (hgr : w.grownBy wr (some g)) (h1 : wr.grownBy w1 (some g)) (hr : RdAt w1 g q)
    (h2 : (w1.alloc (.cells cs t)).grownBy w2 v.ownBlock) : w.grownBy w2 (some g) ∧ RdAt w2 g q := by
  have hl : ∀ j, v.ownBlock = some j → w.heap.size ≤ j := fun j hj => (ho.lt j hj).1
  refine ⟨?_, ?_⟩
  · rcases hv : v.ownBlock with _ | j
    · rw [hv] at h2
      exact g_none (g_alloc (hgr.trans h1) _) h2
    · rw [hv] at h2
      exact g_new (g_alloc (hgr.trans h1) _) h2 (hl j hv)
  · rcases hv : v.ownBlock with _ | j
    · rw [hv] at h2
      exact rd_below (rd_alloc hr _) ⟨h2.os, h2.tape, h2.output, h2.size, fun i hi => h2.block i hi (by simp)⟩
    · rw [hv] at h2
      exact rd_new (rd_alloc hr _) h2 (by have := hl j hv; omega)
def ArrRel (w : World) (g q : Nat) (v t i : Value) (wr : World) : Prop :=
  ∃ (k n : Nat) (T : Int) (ps : List Arr), i = .int .i64 (k : Int) ∧ t = .int .i64 T ∧ 0 ≤ T ∧ T ≤ 100 + 10 * n ∧ k + n ≤ 9 ∧ wr.ownsRow w.heap.size 50 2 v n (acells ps) ∧ w.grownBy wr (some g) ∧ RdAt wr g (q + 2 * n)
set_option maxHeartbeats 1000000 in
theorem drawA_any (g q : Nat) (w : World) (h : RdAt w g q) (hq : q ≤ 800000) :
    Calls Try.prog 40 #[.pointer (some ⟨g, 0, none⟩)] w (ArrPost w g (q + 40)) := by
  have hg := rd_lt h
  go_enter Try.func40, Try.ntmps40
  go_wp2_with fail
  refine (num_lit g q _ _ _ _ [0, 3, 100] _ (rd_alloc h _) (by omega) (by simp) (by decide) rfl).mono ?_
  rintro e w1 ⟨x, hx, rfl, hg1, hr1⟩
  have hx9 : 0 ≤ x ∧ x ≤ 100 := by simp only [List.mem_cons, List.not_mem_nil, or_false] at hx; omega
  have HG1 := Lib.hid hg1
  have HR1 := Lib.hid hr1
  clear hx h hg1 hr1
  go_wp2_with fail
  refine (num_lit g (q + 1) _ _ _ _ [4, 3, 6, 2, 9, 0] _ HR1.out (by omega) (by simp) (by decide) rfl).mono ?_
  rintro e w2 ⟨y, hy, rfl, hg2, hr2⟩
  have hy9 : 0 ≤ y ∧ y ≤ 9 := by simp only [List.mem_cons, List.not_mem_nil, or_false] at hy; omega
  have R0 : ArrRel w g (q + 2) (.slice (some ⟨w.heap.size, 0, none⟩) 0 0) (.int .i64 x) (.int .i64 y) w2 := by
    refine ⟨y.toNat, 0, x, [], by rw [Int.toNat_of_nonneg hy9.1], rfl, hx9.1, by omega, by omega, ?_, ((g_alloc (g_refl _ _) _).trans HG1.out).trans hg2, hr2⟩
    refine ⟨rfl, .inr ⟨w.heap.size, 0, #[], rfl, Nat.le_refl _, ?_, Nat.le_refl _, by unfold maxLen; omega, rfl, rfl⟩⟩
    exact blk_grown (blk_grown (blk_new w 50 #[]) HG1.out (by omega)) hg2 (by omega)
  have H0 := Lib.hid R0
  clear R0 hg2 hr2 hy HG1 HR1
  go_wp2_with fail
  go_loopw [3, 4, 5] (fun v t i wr => ArrRel w g (q + 2) v t i wr) (fun _ _ i _ => (intOf i).toNat)
  case atStart => exact H0.out
  case round =>
    obtain ⟨k, n, T, ps, rfl, rfl, T0, T1, hkn, ho, hgr, hr⟩ := hrel
    clear H0
    by_cases hk : 0 < k
    · go_wp2_with fail
      refine (num_lit g _ _ _ _ _ [10, 30, 100, 1, 50] _ hr (by omega) (by simp) (by decide) rfl).mono ?_
      rintro e w3 ⟨z, hz, rfl, hg3, hr3⟩
      have HG := Lib.hid hgr
      have HG3 := Lib.hid hg3
      have hz' := hgr.size
      have hz3 := hg3.size
      have ho3 := ho.kept hg3 (own_block_none ho hg)
      have HO := Lib.hid ho
      have HR3 := Lib.hid hr3
      clear hgr hg3 hr ho hz hr3
      go_wp2_with (at_builtin; refine wp_app_arr _ rfl (.tmp 17) (.tmp 23) rfl w.heap.size u3 n ps ⟨T, z⟩ rfl ho3 _ rfl rfl (by omega) (by omega) ?_; intro v' w4 hown4 hg4; have L := Lib.hid (arr_step hg HO.out HG.out HG3.out HR3.out hg4); have hz4 := hg4.size; simp at hz4; have O4 := Lib.hid hown4; clear HO HG HG3 HR3 hg4 ho3 hown4)
      refine (num_lit g _ _ _ _ _ [1, 0, 3, 10, 2] _ L.out.2 (by omega) (by simp) (by decide) rfl).mono ?_
      rintro e w5 ⟨y2, hy2, rfl, hg5, hr5⟩
      have hy3 : 0 ≤ y2 ∧ y2 ≤ 10 := by simp only [List.mem_cons, List.not_mem_nil, or_false] at hy2; omega
      have K5 := Lib.hid (And.intro (O4.out.kept hg5 (own_block_none O4.out hg)) (And.intro (L.out.1.trans hg5) hr5))
      clear hy2 hg5 hr5 L O4
      go_wp2
      go_roundw
      case rel => exact ⟨k - 1, n + 1, T + y2, _, by rw [Int.ofNat_sub (by omega)]; rfl, rfl, by omega, by omega, by omega, K5.out.1, K5.out.2.1, rd_more K5.out.2.2 (by omega)⟩
      case measure => simp [intOf]; omega
    · have hk0 : k = 0 := by omega
      have HG := Lib.hid (And.intro ho (And.intro hgr hr))
      clear ho hgr hr
      go_wp2
      go_ret
      exact ⟨_, n, ps, rfl, by omega, HG.out.1, HG.out.2.1, rd_more HG.out.2.2 (by omega)⟩
set_option maxHeartbeats 1000000 in
theorem wrongA_any (g q : Nat) (A : Option Addr) (n c : Nat) (ps : List Arr) (w : World) (h : RdAt w g q) (hq : q ≤ 800000) (ha : AR w A n ps) (hn : n ≤ 9) :
    Calls Try.prog 39 #[.pointer (some ⟨g, 0, none⟩), .slice A n c] w (ArrPost w g (q + 3)) := by
  have hg := rd_lt h
  have HA := Lib.hid ha
  have O0 := Lib.hid (own_emptyA (W := w) rfl)
  have HR := Lib.hid h
  clear ha h
  rcases Nat.eq_zero_or_pos n with hn0 | hn0
  · have hnb : ((n : Int) == 0) = true := by simp; omega
    clear hn0
    go_enter Try.func39, Try.ntmps39
    go_wp2_with (at_builtin; refine wpl_app_arrs _ rfl (.tmp 7) (.tmp 8) rfl w.heap.size (.slice (some ⟨w.heap.size, 0, none⟩) 0 0) 0 [] rfl O0.out A n c ps rfl (ar_alloc HA.out _) (by omega) (by simp) ?_; intro v1 w1 ho1 hg1 hat1; simp only [List.nil_append, Nat.zero_add] at ho1; have L1 := Lib.hid (And.intro (g_new (g_alloc (g_refl w (some g)) _) hg1 (Nat.le_refl _)) (rd_new (rd_alloc HR.out _) hg1 (by omega))); have O1 := Lib.hid ho1; obtain ⟨A1, c1, rfl, hnc1, hcm1, -⟩ := own_form ho1; clear hg1 ho1 hat1)
    go_ret
    exact ⟨_, n, ps, rfl, hn, O1.out, L1.out.1, rd_more L1.out.2 (by omega)⟩
  · have hnb : ((n : Int) == 0) = false := by simp; omega
    go_enter Try.func39, Try.ntmps39
    go_wp2_with (at_builtin; refine wpl_app_arrs _ rfl (.tmp 7) (.tmp 8) rfl w.heap.size (.slice (some ⟨w.heap.size, 0, none⟩) 0 0) 0 [] rfl O0.out A n c ps rfl (ar_alloc HA.out _) (by omega) (by simp) ?_; intro v1 w1 ho1 hg1 hat1; simp only [List.nil_append, Nat.zero_add] at ho1; have L1 := Lib.hid (And.intro (g_new (g_alloc (g_refl w (some g)) _) hg1 (Nat.le_refl _)) (rd_new (rd_alloc HR.out _) hg1 (by omega))); have O1 := Lib.hid ho1; obtain ⟨A1, c1, rfl, hnc1, hcm1, -⟩ := own_form ho1; clear hg1 ho1 hat1)
    obtain ⟨b1, c1', hv1, hb1, hlt1⟩ := O1.out.form hn0
    obtain ⟨rfl, rfl⟩ : A1 = some ⟨b1, 0, none⟩ ∧ c1 = c1' := by injection hv1 with a1 a2 a3; exact ⟨a1, a3⟩
    clear hv1
    have hgb : g < b1 := by omega
    refine (pick_any g q _ _ L1.out.2 (by omega) (by omega)).mono ?_
    rintro e w2 ⟨k, rfl, hk, hg2, hr2⟩
    have O2 := Lib.hid (O1.out.kept hg2 (own_block_none O1.out hg))
    have L2 := Lib.hid (And.intro (L1.out.1.trans hg2) hr2)
    clear hg2 hr2 L1 O1
    go_wp2_with fail
    refine (pick_any g (q + 1) _ _ L2.out.2 (by omega) (by omega)).mono ?_
    rintro e w3 ⟨k2, rfl, hk2, hg3, hr3⟩
    have O3 := Lib.hid (O2.out.kept hg3 (own_block_none O2.out hg))
    have L3 := Lib.hid (And.intro (L2.out.1.trans hg3) hr3)
    clear hg3 hr3 L2 O2
    by_cases c0 : k2 = 0
    · subst c0
      go_wp2_with fail
      refine (num_lit g (q + 2) _ _ _ _ [0, 101] _ L3.out.2 (by omega) (by simp) (by decide) rfl).mono ?_
      rintro e w4 ⟨x, hx, rfl, hg4, hr4⟩
      have ho4 := O3.out.kept hg4 (own_block_none O3.out hg)
      obtain ⟨b', off, p, e1, e2, e3, d0, d1⟩ := ar_at (k := k) (ar_own ho4) (by omega)
      obtain ⟨rfl, rfl⟩ : b1 = b' ∧ 0 = off := by injection e1 with e1; injection e1 with a b; exact ⟨a, b⟩
      rw [Nat.zero_add] at d0 d1
      have f1 := World.ownsRow.frozenAt ho4 (k * 2 + 1)
      have G := Lib.hid (And.intro (own_set_arrZ ho4 k p e3 x) (And.intro (L3.out.1.trans hg4) hr4))
      clear ho4 hg4 hr4 e1 e2 e3 hx O3 L3
      go_wp2
      go_ret
      exact ⟨_, n, _, rfl, hn, G.out.1, g_set G.out.2.1 (.inr hb1) _, rd_set G.out.2.2 hgb _⟩
    · have n0 : ((k2 : Int) == 0) = false := by simp; omega
      by_cases c1' : k2 = 1
      · subst c1'
        go_wp2_with fail
        refine (num_lit g (q + 2) _ _ _ _ [-1, 10001, 0] _ L3.out.2 (by omega) (by simp) (by decide) rfl).mono ?_
        rintro e w4 ⟨x, hx, rfl, hg4, hr4⟩
        have ho4 := O3.out.kept hg4 (own_block_none O3.out hg)
        obtain ⟨b', off, p, e1, e2, e3, d0, d1⟩ := ar_at (k := k) (ar_own ho4) (by omega)
        obtain ⟨rfl, rfl⟩ : b1 = b' ∧ 0 = off := by injection e1 with e1; injection e1 with a b; exact ⟨a, b⟩
        rw [Nat.zero_add] at d0 d1
        have f1 := World.ownsRow.frozenAt ho4 (k * 2)
        have G := Lib.hid (And.intro (own_set_arrT ho4 k p e3 x) (And.intro (L3.out.1.trans hg4) hr4))
        clear ho4 hg4 hr4 e1 e2 e3 hx O3 L3
        go_wp2
        go_ret
        exact ⟨_, n, _, rfl, hn, G.out.1, g_set G.out.2.1 (.inr hb1) _, rd_set G.out.2.2 hgb _⟩
      · have n1 : ((k2 : Int) == 1) = false := by simp; omega
        go_wp2
        go_ret
        exact ⟨_, n, ps, rfl, hn, O3.out, L3.out.1, rd_more L3.out.2 (by omega)⟩
/-- arrivals that were drawn, and two numbers -/
def CaseA (w : World) (A : Option Addr) (n c : Nat) (ps : List Arr) (x y : Int) (w' : World) : Prop :=
  n ≤ 9 ∧ n ≤ c ∧ c ≤ maxLen ∧ 0 ≤ x ∧ x ≤ 1001 ∧ 0 ≤ y ∧ y ≤ 1000 ∧ AR w' A n ps ∧ Below w.heap.size w w'
def CasePost (w : World) (e : Ending) (w' : World) : Prop :=
  ∃ A n c ps x y, e = .returned (.tuple #[.slice A n c, .int .i64 x, .int .i64 y]) ∧ CaseA w A n c ps x y w'
/-- arrivals that were drawn, and one number -/
def OneA (w : World) (A : Option Addr) (n c : Nat) (ps : List Arr) (x : Int) (w' : World) : Prop :=
  n ≤ 9 ∧ n ≤ c ∧ c ≤ maxLen ∧ 0 ≤ x ∧ x ≤ 10001 ∧ AR w' A n ps ∧ Below w.heap.size w w'
def OneP (w : World) (e : Ending) (w' : World) : Prop :=
  ∃ A n c ps x, e = .returned (.tuple #[.slice A n c, .int .i64 x]) ∧ OneA w A n c ps x w'
end Go.Proofs.Ytclgmmnidkppmab
