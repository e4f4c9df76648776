/-
  The draws of lists of packets: what they return, whatever the bytes. Conditions: the source is as open leaves it, its counter is small.
-/
import Derived.Test.YtaccbmgbkalknabDoorDrawPkt
import Derived.Test.YtaccbmgbkalknabDoorAppPkt
namespace Go.Proofs.YtaccbmgbkalknabDoor
open Go.RowKit

def allVld (ps : List Pkt) : Prop := ∀ p ∈ ps, vldB p = true
def ListPost (w : World) (g q : Nat) (e : Ending) (w' : World) : Prop :=
  ∃ v n ps, e = .returned v ∧ n ≤ 9 ∧ allVld ps ∧ w'.ownsRow w.heap.size 47 4 v n (pcells ps) ∧ w.grownBy w' (some g) ∧ RdAt w' g q
def ListRel (w : World) (g q : Nat) (v i : Value) (wr : World) : Prop :=
  ∃ (k n : Nat) (ps : List Pkt), i = .int .i64 (k : Int) ∧ k + n ≤ 9 ∧ allVld ps ∧ wr.ownsRow w.heap.size 47 4 v n (pcells ps) ∧ w.grownBy wr (some g) ∧ RdAt wr g (q + 4 * n)
theorem list_step {w wr w1 w2 : World} {g q n : Nat} {ps : List Pkt} {p : Pkt} {v : Value} {cs : Array Value} {t : TypeId} (hg : g < w.heap.size)
    (hs : allVld ps) (ho : wr.ownsRow w.heap.size 47 4 v n (pcells ps)) (hgr : w.grownBy wr (some g)) (hp : vldB p = true) (h1 : wr.grownBy w1 (some g)) (hr : RdAt w1 g q)
    (h2 : (w1.alloc (.cells cs t)).grownBy w2 v.ownBlock) :
    allVld (ps ++ [p]) ∧ w.grownBy w2 (some g) ∧ RdAt w2 g q := by
  have hl : ∀ j, v.ownBlock = some j → w.heap.size ≤ j := fun j hj => (ho.lt j hj).1
  refine ⟨fun x hx => ?_, ?_, ?_⟩
  · rcases List.mem_append.1 hx with hx | hx
    · exact hs x hx
    · simp at hx; subst hx; exact hp
  · rcases hv : v.ownBlock with _ | j
    · rw [hv] at h2
      exact g_none (g_alloc (hgr.trans h1) _) h2
    · rw [hv] at h2
      exact g_new (g_alloc (hgr.trans h1) _) h2 (hl j hv)
  · rcases hv : v.ownBlock with _ | j
    · rw [hv] at h2
      exact rd_below (rd_alloc hr _) ⟨h2.os, h2.tape, h2.output, h2.size, fun i hi => h2.block i hi (by simp)⟩
    · rw [hv] at h2
      exact rd_new (rd_alloc hr _) h2 (by have := hl j hv; omega)
set_option maxRecDepth 100000 in
set_option maxHeartbeats 1000000 in
theorem l1List_any (g q : Nat) (w : World) (h : RdAt w g q) (hq : q ≤ 800000) :
    Calls Tryd.prog 28 #[.pointer (some ⟨g, 0, none⟩)] w (ListPost w g (q + 40)) := by
  have hg := rd_lt h
  go_enter Tryd.func28, Tryd.ntmps28
  go_wp2_with fail
  refine (num_lit g q _ _ _ _ [4, 3, 6, 2, 1, 0, 9] _ (rd_alloc h _) (by omega) (by simp) (by decide) rfl).mono ?_
  rintro e w1 ⟨x, hx, rfl, hg1, hr1⟩
  have hx9 : 0 ≤ x ∧ x ≤ 9 := by simp only [List.mem_cons, List.not_mem_nil, or_false] at hx; omega
  clear hx h
  have R0 : ListRel w g (q + 1) (.slice (some ⟨w.heap.size, 0, none⟩) 0 0) (.int .i64 x) w1 := by
    refine ⟨x.toNat, 0, [], by rw [Int.toNat_of_nonneg hx9.1], by omega, fun p hp => (by cases hp), ?_, (g_alloc (g_refl _ _) _).trans hg1, hr1⟩
    refine ⟨rfl, .inr ⟨w.heap.size, 0, #[], rfl, Nat.le_refl _, ?_, Nat.le_refl _, by unfold maxLen; omega, rfl, rfl⟩⟩
    exact blk_grown (blk_new w 47 #[]) hg1 (by omega)
  have H0 := Lib.hid R0
  clear R0 hg1 hr1
  go_wp2_with fail
  go_loopw [3, 4] (fun v i wr => ListRel w g (q + 1) v i wr) (fun _ i _ => (intOf i).toNat)
  case atStart => exact H0.out
  case round =>
    obtain ⟨k, n, ps, rfl, hkn, hs, ho, hgr, hr⟩ := hrel
    clear H0
    by_cases hk : 0 < k
    · go_wp2_with fail
      refine (l1Draw_any g _ _ hr (by omega)).mono ?_
      rintro e w2 ⟨p, rfl, hp, hg2, hr2⟩
      have HP := Lib.hid (hp rfl)
      have HS := Lib.hid hs
      have HG := Lib.hid hgr
      have HG2 := Lib.hid hg2
      have hz := hgr.size
      have hz2 := hg2.size
      have ho2 := ho.kept hg2 (own_block_none ho hg)
      have HO := Lib.hid ho
      clear hp hs hgr hg2 hr ho
      go_wp2_with (at_builtin; refine wp_app_pkt _ rfl (.tmp 13) (.tmp 16) rfl w.heap.size u3 n ps p rfl ho2 _ rfl rfl (by omega) (by omega) ?_; intro v' w3 hown3 hg3)
      have L := list_step hg HS.out HO.out HG.out HP.out HG2.out hr2 hg3
      clear HS HO HG HP HG2 hr2 hg3 ho2
      have HL := Lib.hid L
      clear L
      go_wp2
      go_roundw
      case rel => exact ⟨k - 1, n + 1, _, by rw [Int.ofNat_sub (by omega)]; rfl, by omega, HL.out.1, hown3, HL.out.2.1, rd_more HL.out.2.2 (by omega)⟩
      case measure => simp [intOf]; omega
    · have hk0 : k = 0 := by omega
      have HG := Lib.hid (And.intro hs (And.intro ho (And.intro hgr hr)))
      clear hs ho hgr hr
      go_wp2
      go_ret
      exact ⟨_, n, ps, rfl, by omega, HG.out.1, HG.out.2.1, HG.out.2.2.1, rd_more HG.out.2.2.2 (by omega)⟩
def SomePost (w : World) (g q : Nat) (e : Ending) (w' : World) : Prop :=
  ∃ v n ps, e = .returned v ∧ n ≤ 9 ∧ w'.ownsRow w.heap.size 47 4 v n (pcells ps) ∧ w.grownBy w' (some g) ∧ RdAt w' g q
set_option maxRecDepth 100000 in
set_option maxHeartbeats 1000000 in
theorem l1Some_any (g q : Nat) (w : World) (h : RdAt w g q) (hq : q ≤ 700000) :
    Calls Tryd.prog 17 #[.pointer (some ⟨g, 0, none⟩)] w (SomePost w g (q + 50)) := by
  have hg := rd_lt h
  go_enter Tryd.func17, Tryd.ntmps17
  go_wp2_with fail
  refine (l1List_any g q _ h (by omega)).mono ?_
  rintro e w1 ⟨v, n, ps, rfl, hn, hs, ho, hgr, hr⟩
  clear hs h
  by_cases hn0 : 0 < n
  · obtain ⟨b, c, hv, hb, hlt⟩ := ho.form hn0
    subst hv
    have HO := Lib.hid ho
    have HG := Lib.hid hgr
    clear ho hgr
    go_wp2_with fail
    refine (pick_any g _ _ _ hr (by omega) (by omega)).mono ?_
    rintro e w2 ⟨k, rfl, hk, hg2, hr2⟩
    have ho2 := HO.out.kept hg2 (own_block_none HO.out hg)
    obtain ⟨b', off, p, e1, e2, e3, e4⟩ := pr_at (k := k) (pr_own ho2) (by omega)
    obtain ⟨rfl, rfl⟩ : b = b' ∧ 0 = off := by injection e1 with e1; injection e1 with a b; exact ⟨a, b⟩
    obtain ⟨c0, c1, c2, c3⟩ := e4
    rw [Nat.zero_add] at c0 c1 c2 c3
    clear e1 e2 hr
    have HG2 := Lib.hid hg2
    have HO2 := Lib.hid ho2
    have E3 := Lib.hid e3
    clear hg2 ho2 e3 HO
    go_wp2_with fail
    refine (l1Wrong_any g _ p _ hr2 (by omega)).mono ?_
    rintro e w3 ⟨p', rfl, hp', hg3, hr3⟩
    have ho3 := HO2.out.kept hg3 (own_block_none HO2.out hg)
    clear hp' hr2 c0 c1 c2 c3
    obtain ⟨b', off, p2, e1, e2, e3, e4⟩ := pr_at (k := k) (pr_own ho3) (by omega)
    obtain ⟨rfl, rfl⟩ : b = b' ∧ 0 = off := by injection e1 with e1; injection e1 with a b; exact ⟨a, b⟩
    obtain ⟨c0, c1, c2, c3⟩ := e4
    rw [Nat.zero_add] at c0 c1 c2 c3
    clear e1 e2 e3
    have f0 := World.ownsRow.frozenAt ho3 (k * 4)
    have f1 := World.ownsRow.frozenAt ho3 (k * 4 + 1)
    have f2 := World.ownsRow.frozenAt ho3 (k * 4 + 2)
    have f3 := World.ownsRow.frozenAt ho3 (k * 4 + 3)
    have G := Lib.hid (And.intro (own_set_pkt ho3 k p') ((HG.out.trans HG2.out).trans hg3))
    clear ho3 hg3
    go_wp2
    go_ret
    refine ⟨_, n, _, rfl, by omega, G.out.1, ?_, ?_⟩
    · exact g_set (g_set (g_set (g_set G.out.2 (.inr hb) _) (.inr hb) _) (.inr hb) _) (.inr hb) _
    · have hgb : g < b := by omega
      exact rd_more (rd_set (rd_set (rd_set (rd_set hr3 hgb _) hgb _) hgb _) hgb _) (by omega)
  · obtain rfl : n = 0 := by omega
    have HG := Lib.hid (And.intro ho (And.intro hgr hr))
    clear ho hgr hr
    obtain ⟨A, c, rfl, _, _, _⟩ := own_form HG.out.1
    go_wp2
    go_ret
    exact ⟨_, 0, ps, rfl, by omega, HG.out.1, HG.out.2.1, rd_more HG.out.2.2 (by omega)⟩
def DrawnPost (w : World) (e : Ending) (w' : World) : Prop :=
  ∃ A n c ps, e = .returned (.slice A n c) ∧ n ≤ 9 ∧ n ≤ c ∧ c ≤ maxLen ∧ PR w' A n ps ∧ Below w.heap.size w w'
theorem drawn_end {w w1 w2 : World} {g q : Nat} {e : Ending} (hg : w.heap.size ≤ g) (h1 : Below w.heap.size w w1) (h : SomePost w1 g q e w2) : DrawnPost w e w2 := by
  obtain ⟨v, n, ps, rfl, hn, ho, hgr, hr⟩ := h
  obtain ⟨A, c, rfl, hnc, hc, _⟩ := own_form ho
  exact ⟨A, n, c, ps, rfl, hn, hnc, hc, pr_own ho, below_grown h1 h1.size hgr hg⟩
end Go.Proofs.YtaccbmgbkalknabDoor
