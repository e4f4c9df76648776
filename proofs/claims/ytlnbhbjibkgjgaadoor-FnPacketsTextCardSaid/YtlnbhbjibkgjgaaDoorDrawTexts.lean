/-
  The draw of a text of packets. Conditions: none.
-/
import Derived.Test.YtlnbhbjibkgjgaaDoorDrawText
import Derived.Test.YtlnbhbjibkgjgaaDoorDrawList
import Derived.Test.YtlnbhbjibkgjgaaDoorFmtsS
import Derived.Test.YtlnbhbjibkgjgaaDoorJoinInj
namespace Go.Proofs.YtlnbhbjibkgjgaaDoor
open Go.RowKit
def DrawnTexts (w : World) (e : Ending) (w' : World) : Prop := ∃ s : ByteArray, e = .returned (.string s) ∧ s.size ≤ 402 ∧ Below w.heap.size w w'
set_option maxRecDepth 100000 in
set_option maxHeartbeats 2000000 in
theorem drawParsePackets_any (A : Option Addr) (n c : Nat) (w : World) (h : Bytes w A n c) :
    Calls Tryd.prog 24 #[.slice A n c] w (DrawnTexts w) := by
  go_enter Tryd.func24, Tryd.ntmps24
  go_wp2_with fail
  refine (open_any A n c _ h).mono ?_
  rintro e w1 ⟨g, rfl, hg, hb, hr⟩
  have hg1 := rd_lt hr
  have B1 := Lib.hid hb
  clear hb
  go_wp2_with fail
  refine (l1List_any g 0 _ hr (by omega)).mono ?_
  rintro e w2 ⟨v, m, ps, rfl, hm, hs, ho, hgr, hr2⟩
  obtain ⟨A1, c1, rfl, -, -, -⟩ := own_form ho
  have HP := Lib.hid (pr_own ho)
  have hl : ps.length ≤ 9 := by have := HP.out.1; omega
  have HK := Lib.hid (ok_vld hs (by omega))
  have hz := strJ_size ps
  have G2 := Lib.hid hgr
  clear ho hgr hr hs
  go_wp2_with fail
  refine (fmtsS_yes A1 m c1 ps _ HP.out HK.out).mono ?_
  rintro e w3 ⟨rfl, hb3⟩
  obtain ⟨T, hT⟩ : ∃ T, T = strJ ps := ⟨_, rfl⟩
  rw [← hT] at hz ⊢
  have G3 := Lib.hid (g_below G2.out hb3)
  have hr3 := rd_below hr2 hb3
  clear hb3 hr2 hT
  go_wp2_with fail
  refine (l1Bend_any 400 (by omega) g _ _ _ _ _ _ (rd_alloc hr3 _) (by omega) (by omega) (by omega) (rd_lt hr3) (lit_strs _ _ _ _ _ rfl ?_) (by simp)).mono ?_
  · intro k hk
    have : k = 0 ∨ k = 1 ∨ k = 2 ∨ k = 3 ∨ k = 4 := by omega
    rcases this with rfl | rfl | rfl | rfl | rfl <;> exact ⟨_, by decide, rfl⟩
  · rintro e w4 ⟨s, rfl, hs, hgr4, hr4⟩
    have HE := Lib.hid (below_grown B1.out B1.out.size ((g_alloc G3.out _).trans hgr4) hg)
    clear hgr4 hr4 hr3
    go_wp2
    go_ret
    exact ⟨s, rfl, hs, HE.out⟩
end Go.Proofs.YtlnbhbjibkgjgaaDoor
