/-
  The draws of lists of packets: what they return, whatever the bytes. Conditions: the source is as open leaves it, its counter is small.
-/
import Derived.Test.YtehokkijfgiggaaDrawPkt
import Derived.Test.YtehokkijfgiggaaAppPkt
namespace Go.Proofs.Ytehokkijfgiggaa
open Go.RowKit

def allVld (ps : List Pkt) : Prop := ∀ p ∈ ps, vldB p = true
def ListPost (w : World) (g q : Nat) (e : Ending) (w' : World) : Prop :=
  ∃ v n ps, e = .returned v ∧ n ≤ 9 ∧ allVld ps ∧ w'.ownsRow w.heap.size 28 4 v n (pcells ps) ∧ w.grownBy w' (some g) ∧ RdAt w' g q
def ListRel (w : World) (g q : Nat) (v i : Value) (wr : World) : Prop :=
  ∃ (k n : Nat) (ps : List Pkt), i = .int .i64 (k : Int) ∧ k + n ≤ 9 ∧ allVld ps ∧ wr.ownsRow w.heap.size 28 4 v n (pcells ps) ∧ w.grownBy wr (some g) ∧ RdAt wr g (q + 4 * n)
theorem list_step {w wr w1 w2 : World} {g q n : Nat} {ps : List Pkt} {p : Pkt} {v : Value} {cs : Array Value} {t : TypeId} (hg : g < w.heap.size)
    (hs : allVld ps) (ho : wr.ownsRow w.heap.size 28 4 v n (pcells ps)) (hgr : w.grownBy wr (some g)) (hp : vldB p = true) (h1 : wr.grownBy w1 (some g)) (hr : RdAt w1 g q)
    (h2 : (w1.alloc (.cells cs t)).grownBy w2 v.ownBlock) :
    allVld (ps ++ [p]) ∧ w.grownBy w2 (some g) ∧ RdAt w2 g q := by
  have hl : ∀ j, v.ownBlock = some j → w.heap.size ≤ j := fun j hj => (ho.lt j hj).1
  refine ⟨fun x hx => ?_, ?_, ?_⟩
  · rcases List.mem_append.1 hx with hx | hx
    · exact hs x hx
    · simp at hx; subst hx; exact hp
  · rcases hv : v.ownBlock with _ | j
    · rw [hv] at h2
      exact g_none (g_alloc (hgr.trans h1) _) h2
    · rw [hv] at h2
      exact g_new (g_alloc (hgr.trans h1) _) h2 (hl j hv)
  · rcases hv : v.ownBlock with _ | j
    · rw [hv] at h2
      exact rd_below (rd_alloc hr _) ⟨h2.os, h2.tape, h2.output, h2.size, fun i hi => h2.block i hi (by simp)⟩
    · rw [hv] at h2
      exact rd_new (rd_alloc hr _) h2 (by have := hl j hv; omega)
set_option maxHeartbeats 1000000 in
theorem l1List_any (g q : Nat) (w : World) (h : RdAt w g q) (hq : q ≤ 800000) :
    Calls Try.prog 84 #[.pointer (some ⟨g, 0, none⟩)] w (ListPost w g (q + 40)) := by
  have hg := rd_lt h
  go_enter Try.func84, Try.ntmps84
  go_wp2_with fail
  refine (num_lit g q _ _ _ _ [4, 3, 6, 2, 1, 0, 9] _ (rd_alloc h _) (by omega) (by simp) (by decide) rfl).mono ?_
  rintro e w1 ⟨x, hx, rfl, hg1, hr1⟩
  have hx9 : 0 ≤ x ∧ x ≤ 9 := by simp only [List.mem_cons, List.not_mem_nil, or_false] at hx; omega
  clear hx h
  have R0 : ListRel w g (q + 1) (.slice (some ⟨w.heap.size, 0, none⟩) 0 0) (.int .i64 x) w1 := by
    refine ⟨x.toNat, 0, [], by rw [Int.toNat_of_nonneg hx9.1], by omega, fun p hp => (by cases hp), ?_, (g_alloc (g_refl _ _) _).trans hg1, hr1⟩
    refine ⟨rfl, .inr ⟨w.heap.size, 0, #[], rfl, Nat.le_refl _, ?_, Nat.le_refl _, by unfold maxLen; omega, rfl, rfl⟩⟩
    exact blk_grown (blk_new w 28 #[]) hg1 (by omega)
  have H0 := Lib.hid R0
  clear R0 hg1 hr1
  go_wp2_with fail
  go_loopw [3, 4] (fun v i wr => ListRel w g (q + 1) v i wr) (fun _ i _ => (intOf i).toNat)
  case atStart => exact H0.out
  case round =>
    obtain ⟨k, n, ps, rfl, hkn, hs, ho, hgr, hr⟩ := hrel
    clear H0
    by_cases hk : 0 < k
    · go_wp2_with fail
      refine (l1Draw_any g _ _ hr (by omega)).mono ?_
      rintro e w2 ⟨p, rfl, hp, hg2, hr2⟩
      have HP := Lib.hid (hp rfl)
      have HS := Lib.hid hs
      have HG := Lib.hid hgr
      have HG2 := Lib.hid hg2
      have hz := hgr.size
      have hz2 := hg2.size
      have ho2 := ho.kept hg2 (own_block_none ho hg)
      have HO := Lib.hid ho
      clear hp hs hgr hg2 hr ho
      go_wp2_with (at_builtin; refine wp_app_pkt _ rfl (.tmp 13) (.tmp 16) rfl w.heap.size u3 n ps p rfl ho2 _ rfl rfl (by omega) (by omega) ?_; intro v' w3 hown3 hg3)
      have L := list_step hg HS.out HO.out HG.out HP.out HG2.out hr2 hg3
      clear HS HO HG HP HG2 hr2 hg3 ho2
      have HL := Lib.hid L
      clear L
      go_wp2
      go_roundw
      case rel => exact ⟨k - 1, n + 1, _, by rw [Int.ofNat_sub (by omega)]; rfl, by omega, HL.out.1, hown3, HL.out.2.1, rd_more HL.out.2.2 (by omega)⟩
      case measure => simp [intOf]; omega
    · have hk0 : k = 0 := by omega
      have HG := Lib.hid (And.intro hs (And.intro ho (And.intro hgr hr)))
      clear hs ho hgr hr
      go_wp2
      go_ret
      exact ⟨_, n, ps, rfl, by omega, HG.out.1, HG.out.2.1, HG.out.2.2.1, rd_more HG.out.2.2.2 (by omega)⟩
end Go.Proofs.Ytehokkijfgiggaa
