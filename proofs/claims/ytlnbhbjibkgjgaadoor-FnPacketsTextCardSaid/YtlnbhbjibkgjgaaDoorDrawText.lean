/-
  The draws of texts: what they return, whatever the bytes. Conditions: the source is as open leaves it, its counter is small; the text has at most 100 bytes.
-/
import Derived.Test.YtlnbhbjibkgjgaaDoorDrawPkt
import Derived.Test.YtlnbhbjibkgjgaaDoorText
import Derived.Deep.RegionWith
namespace Go.Proofs.YtlnbhbjibkgjgaaDoor
open Go.RowKit

def StrPost (w : World) (g q k : Nat) (e : Ending) (w' : World) : Prop :=
  ∃ s : ByteArray, e = .returned (.string s) ∧ s.size ≤ k ∧ w.grownBy w' (some g) ∧ RdAt w' g q
set_option maxRecDepth 100000 in
set_option maxHeartbeats 400000 in
theorem of_any (g q b n c : Nat) (w : World) (h : RdAt w g q) (hq : q ≤ 1000000) (hn : 0 < n) (hg : g < b)
    (hc : ∀ k, k < n → ∃ s : ByteArray, s.size ≤ 1 ∧ w.cell? ⟨b, k, none⟩ = some (.string s)) (hb : b < w.heap.size) :
    Calls Tryd.prog 60 #[.pointer (some ⟨g, 0, none⟩), .slice (some ⟨b, 0, none⟩) n c] w (StrPost w g (q + 1) 1) := by
  have HC := Lib.hid hc
  clear hc
  go_enter Tryd.func60, Tryd.ntmps60
  go_wp2_with fail
  refine (pick_any g q _ _ h hq (by omega)).mono ?_
  rintro e w1 ⟨k, rfl, hk, hgr, hrd⟩
  have hkn : k < n := by omega
  obtain ⟨x, hx, e1⟩ := HC.out k hkn
  have e1 := (g_cell hgr hb (by omega)).trans e1
  have HG := Lib.hid hgr
  have HR := Lib.hid hrd
  clear hgr hrd h
  go_wp2
  go_ret
  exact ⟨x, rfl, hx, HG.out, HR.out⟩
theorem g_undrew {w w' : World} {r : Option Nat} (h : w.drew.grownBy w' r) : w.grownBy w' r := ⟨h.os, h.tape, h.output, h.size, h.block⟩
set_option maxRecDepth 100000 in
set_option maxHeartbeats 1000000 in
theorem l1Bend_any (N : Nat) (hN : N ≤ 1000) (g q b n c : Nat) (s : ByteArray) (w : World) (h : RdAt w g q) (hq : q ≤ 900000) (hs : s.size ≤ N) (hn : 0 < n) (hg : g < b)
    (hc : ∀ k, k < n → ∃ s : ByteArray, s.size ≤ 1 ∧ w.cell? ⟨b, k, none⟩ = some (.string s)) (hb : b < w.heap.size) :
    Calls Tryd.prog 41 #[.pointer (some ⟨g, 0, none⟩), .string s, .slice (some ⟨b, 0, none⟩) n c] w (StrPost w g (q + 4) (N + 2)) := by
  have HC := Lib.hid hc
  clear hc
  by_cases h0 : s.size = 0
  · go_enter Tryd.func41, Tryd.ntmps41
    go_wp2
    go_ret
    exact ⟨s, rfl, by omega, g_refl _ _, rd_more h (by omega)⟩
  · have hz : ((s.size : Int) == 0) = false := by simp only [beq_eq_false_iff_ne]; omega
    go_enter Tryd.func41, Tryd.ntmps41
    go_wp2_with fail
    refine (pick_any g q _ _ h (by omega) (by omega)).mono ?_
    rintro e w1 ⟨k1, rfl, hk1, hgr1, hr1⟩
    have G1 := Lib.hid hgr1
    have HC1 : Hid (∀ k, k < n → ∃ s : ByteArray, s.size ≤ 1 ∧ w1.cell? ⟨b, k, none⟩ = some (.string s)) := Lib.hid fun k hk => by
      obtain ⟨x, hx, e1⟩ := HC.out k hk
      exact ⟨x, hx, (g_cell hgr1 hb (by omega)).trans e1⟩
    have hb1 : b < w1.heap.size := Nat.lt_of_lt_of_le hb hgr1.size
    clear hgr1 h
    by_cases h1 : k1 = 0
    · subst h1
      go_wp2
      go_ret
      exact ⟨s, rfl, by omega, G1.out, rd_more hr1 (by omega)⟩
    · have hz1 : ((k1 : Int) == 0) = false := by simp only [beq_eq_false_iff_ne]; omega
      clear h1
      go_wp2_with fail
      refine (pick_any g _ _ _ hr1 (by omega) (by omega)).mono ?_
      rintro e w2 ⟨k, rfl, hk, hgr2, hr2⟩
      have G2 := Lib.hid (G1.out.trans hgr2)
      have HC2 : Hid (∀ k, k < n → ∃ s : ByteArray, s.size ≤ 1 ∧ w2.cell? ⟨b, k, none⟩ = some (.string s)) := Lib.hid fun k hk => by
        obtain ⟨x, hx, e1⟩ := HC1.out k hk
        exact ⟨x, hx, (g_cell hgr2 hb1 (by omega)).trans e1⟩
      have hb2 : b < w2.heap.size := Nat.lt_of_lt_of_le hb1 hgr2.size
      have hkn : k < s.size := by omega
      clear hgr2 hr1 hz hz1 h0
      go_wp2_with fail
      go_region_with (first | (go_at_call 60; refine (of_any g _ b n c _ (by assumption) (by omega) hn hg (by assumption) (by assumption)).mono ?_; rintro e w3 ⟨x, rfl, hx, hgr3, hr3⟩) | (go_at_call 54; refine (pick_any g _ _ _ (by assumption) (by omega) (by omega)).mono ?_; rintro e w4 ⟨k4, rfl, hk4, hgr4, hr4⟩; have y0 : (0 : Int) ≤ (k : Int) + (k4 : Int) := (by omega); have y1 : (k : Int) + (k4 : Int) ≤ (s.size : Int) := (by omega); have y2 : ((k : Int) + (k4 : Int)).toNat = k + k4 := (by omega); have y3 : IntKind.i64.wrap ((k : Int) + (k4 : Int)) = (k : Int) + (k4 : Int) := IntWalk.i64_in _ (by omega)))
      all_goals
        have HE := Lib.hid (And.intro ((G2.out.trans (g_undrew hgr3)).trans hgr4) hr4)
        clear hgr3 hgr4 hr4 hr3 y2 y3
        go_wp2
        go_ret
        refine ⟨_, rfl, ?_, HE.out.1, HE.out.2⟩
        show (s.extract 0 k ++ x ++ s.extract (k + k4) s.size).size ≤ N + 2
        rw [ByteArray.size_append, ByteArray.size_append, ByteArray.size_extract, ByteArray.size_extract]
        omega
theorem lit_strs (w : World) (t : TypeId) (cs : Array Value) (b n : Nat) (hb : b = w.heap.size) (h : ∀ k, k < n → ∃ s : ByteArray, s.size ≤ 1 ∧ cs[k]? = some (.string s)) :
    ∀ k, k < n → ∃ s : ByteArray, s.size ≤ 1 ∧ (w.alloc (.cells cs t)).cell? ⟨b, k, none⟩ = some (.string s) := fun k hk => by
  subst hb
  obtain ⟨s, hs, e⟩ := h k hk
  exact ⟨s, hs, (blk_cell (blk_new w t cs) k).trans e⟩
def DrawnText (w : World) (e : Ending) (w' : World) : Prop := ∃ s : ByteArray, e = .returned (.string s) ∧ s.size ≤ 102 ∧ Below w.heap.size w w'
theorem text_len (a b c d : Nat) : (textL a b c d).length ≤ 35 := by
  have h1 := decF_len 8 a
  have h2 := decF_len 8 b
  have h3 := decF_len 8 c
  have h4 := decF_len 8 d
  simp only [textL, List.length_append, List.length_cons]
  omega
theorem nat_pkt {p : Pkt} (h : vldB p = true) : ∃ a b c d : Nat, p.peer = (a : Int) ∧ p.lane = (b : Int) ∧ p.size = (c : Int) ∧ p.id = (d : Int) ∧ a ≤ 1000000 ∧ b ≤ 1000000 ∧ c ≤ 1000000 ∧ d ≤ 1000000 := by
  simp only [vldB, decide_eq_true_eq] at h
  exact ⟨p.peer.toNat, p.lane.toNat, p.size.toNat, p.id.toNat, by omega, by omega, by omega, by omega, by omega, by omega, by omega, by omega⟩
set_option maxRecDepth 100000 in
set_option maxHeartbeats 1000000 in
theorem drawParsePacket_any (A : Option Addr) (n c : Nat) (w : World) (h : Bytes w A n c) :
    Calls Tryd.prog 16 #[.slice A n c] w (DrawnText w) := by
  go_enter Tryd.func16, Tryd.ntmps16
  go_wp2_with fail
  refine (open_any A n c _ h).mono ?_
  rintro e w1 ⟨g, rfl, hg, hb, hr⟩
  have hg1 := rd_lt hr
  have B1 := Lib.hid hb
  clear hb
  go_wp2_with fail
  refine (l1Draw_any g 0 _ hr (by omega)).mono ?_
  rintro e w2 ⟨⟨x1, x2, x3, x4⟩, rfl, hp, hgr2, hr2⟩
  obtain ⟨a, b, c', d, e1, e2, e3, e4, ha, hb', hc', hd⟩ := nat_pkt (hp rfl)
  subst e1 e2 e3 e4
  have G2 := Lib.hid hgr2
  clear hp hgr2 hr
  go_wp2_with fail
  refine (l1Text_any a b c' d _ ha hb' hc' hd).mono ?_
  rintro e w3 ⟨rfl, hb3⟩
  have hl := text_len a b c' d
  have G3 := Lib.hid (g_below G2.out hb3)
  have hr3 := rd_below hr2 hb3
  clear hb3 hr2 ha hb' hc' hd
  go_wp2_with fail
  refine (l1Bend_any 100 (by omega) g _ _ _ _ _ _ (rd_alloc hr3 _) (by omega) (by show (textL a b c' d).toArray.size ≤ 100; simp; omega) (by omega) (rd_lt hr3) (lit_strs _ _ _ _ _ rfl ?_) (by simp)).mono ?_
  · intro k hk
    have : k = 0 ∨ k = 1 ∨ k = 2 ∨ k = 3 ∨ k = 4 ∨ k = 5 := by omega
    rcases this with rfl | rfl | rfl | rfl | rfl | rfl <;> exact ⟨_, by decide, rfl⟩
  · rintro e w4 ⟨s, rfl, hs, hgr4, hr4⟩
    have HE := Lib.hid (below_grown B1.out B1.out.size ((g_alloc G3.out _).trans hgr4) hg)
    clear hgr4 hr4 hr3
    go_wp2
    go_ret
    exact ⟨s, rfl, hs, HE.out⟩
end Go.Proofs.YtlnbhbjibkgjgaaDoor
