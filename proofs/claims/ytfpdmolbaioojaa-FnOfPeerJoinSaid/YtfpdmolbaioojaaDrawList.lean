/-
  The draws of lists of packets: what they return, whatever the bytes. Conditions: the source is as open leaves it, its counter is small.
-/
import Derived.Test.YtfpdmolbaioojaaDrawPkt
import Derived.Test.YtfpdmolbaioojaaAppPkt
namespace Go.Proofs.Ytfpdmolbaioojaa
open Go.RowKit

def allVld (ps : List Pkt) : Prop := ∀ p ∈ ps, vldB p = true
def ListPost (w : World) (g q : Nat) (e : Ending) (w' : World) : Prop :=
  ∃ v n ps, e = .returned v ∧ n ≤ 9 ∧ allVld ps ∧ w'.ownsRow w.heap.size 33 4 v n (pcells ps) ∧ w.grownBy w' (some g) ∧ RdAt w' g q
def ListRel (w : World) (g q : Nat) (v i : Value) (wr : World) : Prop :=
  ∃ (k n : Nat) (ps : List Pkt), i = .int .i64 (k : Int) ∧ k + n ≤ 9 ∧ allVld ps ∧ wr.ownsRow w.heap.size 33 4 v n (pcells ps) ∧ w.grownBy wr (some g) ∧ RdAt wr g (q + 4 * n)
theorem list_step {w wr w1 w2 : World} {g q n : Nat} {ps : List Pkt} {p : Pkt} {v : Value} {cs : Array Value} {t : TypeId} (hg : g < w.heap.size)
    (hs : allVld ps) (ho : wr.ownsRow w.heap.size 33 4 v n (pcells ps)) (hgr : w.grownBy wr (some g)) (hp : vldB p = true) (h1 : wr.grownBy w1 (some g)) (hr : RdAt w1 g q)
    (h2 : (w1.alloc (.cells cs t)).grownBy w2 v.ownBlock) :
    allVld (ps ++ [p]) ∧ w.grownBy w2 (some g) ∧ RdAt w2 g q := by
  have hl : ∀ j, v.ownBlock = some j → w.heap.size ≤ j := fun j hj => (ho.lt j hj).1
  refine ⟨fun x hx => ?_, ?_, ?_⟩
  · rcases List.mem_append.1 hx with hx | hx
    · exact hs x hx
    · simp at hx; subst hx; exact hp
  · rcases hv : v.ownBlock with _ | j
    · rw [hv] at h2
      exact g_none (g_alloc (hgr.trans h1) _) h2
    · rw [hv] at h2
      exact g_new (g_alloc (hgr.trans h1) _) h2 (hl j hv)
  · rcases hv : v.ownBlock with _ | j
    · rw [hv] at h2
      exact rd_below (rd_alloc hr _) ⟨h2.os, h2.tape, h2.output, h2.size, fun i hi => h2.block i hi (by simp)⟩
    · rw [hv] at h2
      exact rd_new (rd_alloc hr _) h2 (by have := hl j hv; omega)
set_option maxHeartbeats 1000000 in
theorem l1List_any (g q : Nat) (w : World) (h : RdAt w g q) (hq : q ≤ 800000) :
    Calls Try.prog 39 #[.pointer (some ⟨g, 0, none⟩)] w (ListPost w g (q + 40)) := by
  have hg := rd_lt h
  go_enter Try.func39, Try.ntmps39
  go_wp2_with fail
  refine (num_lit g q _ _ _ _ [4, 3, 6, 2, 1, 0, 9] _ (rd_alloc h _) (by omega) (by simp) (by decide) rfl).mono ?_
  rintro e w1 ⟨x, hx, rfl, hg1, hr1⟩
  have hx9 : 0 ≤ x ∧ x ≤ 9 := by simp only [List.mem_cons, List.not_mem_nil, or_false] at hx; omega
  clear hx h
  have R0 : ListRel w g (q + 1) (.slice (some ⟨w.heap.size, 0, none⟩) 0 0) (.int .i64 x) w1 := by
    refine ⟨x.toNat, 0, [], by rw [Int.toNat_of_nonneg hx9.1], by omega, fun p hp => (by cases hp), ?_, (g_alloc (g_refl _ _) _).trans hg1, hr1⟩
    refine ⟨rfl, .inr ⟨w.heap.size, 0, #[], rfl, Nat.le_refl _, ?_, Nat.le_refl _, by unfold maxLen; omega, rfl, rfl⟩⟩
    exact blk_grown (blk_new w 33 #[]) hg1 (by omega)
  have H0 := Lib.hid R0
  clear R0 hg1 hr1
  go_wp2_with fail
  go_loopw [3, 4] (fun v i wr => ListRel w g (q + 1) v i wr) (fun _ i _ => (intOf i).toNat)
  case atStart => exact H0.out
  case round =>
    obtain ⟨k, n, ps, rfl, hkn, hs, ho, hgr, hr⟩ := hrel
    clear H0
    by_cases hk : 0 < k
    · go_wp2_with fail
      refine (l1Draw_any g _ _ hr (by omega)).mono ?_
      rintro e w2 ⟨p, rfl, hp, hg2, hr2⟩
      have HP := Lib.hid (hp rfl)
      have HS := Lib.hid hs
      have HG := Lib.hid hgr
      have HG2 := Lib.hid hg2
      have hz := hgr.size
      have hz2 := hg2.size
      have ho2 := ho.kept hg2 (own_block_none ho hg)
      have HO := Lib.hid ho
      clear hp hs hgr hg2 hr ho
      go_wp2_with (at_builtin; refine wp_app_pkt _ rfl (.tmp 13) (.tmp 16) rfl w.heap.size u3 n ps p rfl ho2 _ rfl rfl (by omega) (by omega) ?_; intro v' w3 hown3 hg3)
      have L := list_step hg HS.out HO.out HG.out HP.out HG2.out hr2 hg3
      clear HS HO HG HP HG2 hr2 hg3 ho2
      have HL := Lib.hid L
      clear L
      go_wp2
      go_roundw
      case rel => exact ⟨k - 1, n + 1, _, by rw [Int.ofNat_sub (by omega)]; rfl, by omega, HL.out.1, hown3, HL.out.2.1, rd_more HL.out.2.2 (by omega)⟩
      case measure => simp [intOf]; omega
    · have hk0 : k = 0 := by omega
      have HG := Lib.hid (And.intro hs (And.intro ho (And.intro hgr hr)))
      clear hs ho hgr hr
      go_wp2
      go_ret
      exact ⟨_, n, ps, rfl, by omega, HG.out.1, HG.out.2.1, HG.out.2.2.1, rd_more HG.out.2.2.2 (by omega)⟩
def SomePost (w : World) (g q : Nat) (e : Ending) (w' : World) : Prop :=
  ∃ v n ps, e = .returned v ∧ n ≤ 9 ∧ w'.ownsRow w.heap.size 33 4 v n (pcells ps) ∧ w.grownBy w' (some g) ∧ RdAt w' g q
theorem pcells_set (ps : List Pkt) (k : Nat) (p : Pkt) :
    ((((pcells ps).set (k * 4) (.int .i64 p.peer)).set (k * 4 + 1) (.int .i64 p.lane)).set (k * 4 + 2) (.int .i64 p.size)).set (k * 4 + 3) (.int .i64 p.id) = pcells (ps.set k p) := by
  induction ps generalizing k with
  | nil => simp [pcells]
  | cons r l ih =>
    cases k with
    | zero => simp [pcells]
    | succ k =>
      have e : (k + 1) * 4 = k * 4 + 4 := by omega
      rw [e]
      simp only [pcells, List.set_cons_succ, Nat.add_right_comm _ 4, ← ih k]
theorem own_set_pkt {w : World} {base b n c : Nat} {e : TypeId} {ps : List Pkt} (h : w.ownsRow base e 4 (.slice (some ⟨b, 0, none⟩) n c) n (pcells ps)) (k : Nat) (p : Pkt) :
    ((((w.setCell ⟨b, k * 4, none⟩ (.int .i64 p.peer)).setCell ⟨b, k * 4 + 1, none⟩ (.int .i64 p.lane)).setCell ⟨b, k * 4 + 2, none⟩ (.int .i64 p.size)).setCell ⟨b, k * 4 + 3, none⟩ (.int .i64 p.id)).ownsRow base e 4 (.slice (some ⟨b, 0, none⟩) n c) n (pcells (ps.set k p)) := by
  have h1 := (h.stored (k * 4) (.int .i64 p.peer)).1
  have h2 := (h1.stored (k * 4 + 1) (.int .i64 p.lane)).1
  have h3 := (h2.stored (k * 4 + 2) (.int .i64 p.size)).1
  have h4 := (h3.stored (k * 4 + 3) (.int .i64 p.id)).1
  rw [pcells_set] at h4
  exact h4
set_option maxHeartbeats 1000000 in
theorem l1Some_any (g q : Nat) (w : World) (h : RdAt w g q) (hq : q ≤ 700000) :
    Calls Try.prog 24 #[.pointer (some ⟨g, 0, none⟩)] w (SomePost w g (q + 50)) := by
  have hg := rd_lt h
  go_enter Try.func24, Try.ntmps24
  go_wp2_with fail
  refine (l1List_any g q _ h (by omega)).mono ?_
  rintro e w1 ⟨v, n, ps, rfl, hn, hs, ho, hgr, hr⟩
  clear hs h
  by_cases hn0 : 0 < n
  · obtain ⟨b, c, hv, hb, hlt⟩ := ho.form hn0
    subst hv
    have HO := Lib.hid ho
    have HG := Lib.hid hgr
    clear ho hgr
    go_wp2_with fail
    refine (pick_any g _ _ _ hr (by omega) (by omega)).mono ?_
    rintro e w2 ⟨k, rfl, hk, hg2, hr2⟩
    have ho2 := HO.out.kept hg2 (own_block_none HO.out hg)
    obtain ⟨b', off, p, e1, e2, e3, e4⟩ := pr_at (k := k) (pr_own ho2) (by omega)
    obtain ⟨rfl, rfl⟩ : b = b' ∧ 0 = off := by injection e1 with e1; injection e1 with a b; exact ⟨a, b⟩
    obtain ⟨c0, c1, c2, c3⟩ := e4
    rw [Nat.zero_add] at c0 c1 c2 c3
    clear e1 e2 hr
    have HG2 := Lib.hid hg2
    have HO2 := Lib.hid ho2
    have E3 := Lib.hid e3
    clear hg2 ho2 e3 HO
    go_wp2_with fail
    refine (l1Wrong_any g _ p _ hr2 (by omega)).mono ?_
    rintro e w3 ⟨p', rfl, hp', hg3, hr3⟩
    have ho3 := HO2.out.kept hg3 (own_block_none HO2.out hg)
    clear hp' hr2 c0 c1 c2 c3
    obtain ⟨b', off, p2, e1, e2, e3, e4⟩ := pr_at (k := k) (pr_own ho3) (by omega)
    obtain ⟨rfl, rfl⟩ : b = b' ∧ 0 = off := by injection e1 with e1; injection e1 with a b; exact ⟨a, b⟩
    obtain ⟨c0, c1, c2, c3⟩ := e4
    rw [Nat.zero_add] at c0 c1 c2 c3
    clear e1 e2 e3
    have f0 := World.ownsRow.frozenAt ho3 (k * 4)
    have f1 := World.ownsRow.frozenAt ho3 (k * 4 + 1)
    have f2 := World.ownsRow.frozenAt ho3 (k * 4 + 2)
    have f3 := World.ownsRow.frozenAt ho3 (k * 4 + 3)
    have G := Lib.hid (And.intro (own_set_pkt ho3 k p') ((HG.out.trans HG2.out).trans hg3))
    clear ho3 hg3
    go_wp2
    go_ret
    refine ⟨_, n, _, rfl, by omega, G.out.1, ?_, ?_⟩
    · exact g_set (g_set (g_set (g_set G.out.2 (.inr hb) _) (.inr hb) _) (.inr hb) _) (.inr hb) _
    · have hgb : g < b := by omega
      exact rd_more (rd_set (rd_set (rd_set (rd_set hr3 hgb _) hgb _) hgb _) hgb _) (by omega)
  · obtain rfl : n = 0 := by omega
    have HG := Lib.hid (And.intro ho (And.intro hgr hr))
    clear ho hgr hr
    obtain ⟨A, c, rfl, _, _, _⟩ := own_form HG.out.1
    go_wp2
    go_ret
    exact ⟨_, 0, ps, rfl, by omega, HG.out.1, HG.out.2.1, rd_more HG.out.2.2 (by omega)⟩
def DrawnPost (w : World) (e : Ending) (w' : World) : Prop :=
  ∃ A n c ps, e = .returned (.slice A n c) ∧ n ≤ 9 ∧ n ≤ c ∧ c ≤ maxLen ∧ PR w' A n ps ∧ Below w.heap.size w w'
theorem drawn_end {w w1 w2 : World} {g q : Nat} {e : Ending} (hg : w.heap.size ≤ g) (h1 : Below w.heap.size w w1) (h : SomePost w1 g q e w2) : DrawnPost w e w2 := by
  obtain ⟨v, n, ps, rfl, hn, ho, hgr, hr⟩ := h
  obtain ⟨A, c, rfl, hnc, hc, _⟩ := own_form ho
  exact ⟨A, n, c, ps, rfl, hn, hnc, hc, pr_own ho, below_grown h1 h1.size hgr hg⟩
set_option maxHeartbeats 400000 in
theorem drawSizeOf_any (A : Option Addr) (n c : Nat) (w : World) (h : Bytes w A n c) :
    Calls Try.prog 10 #[.slice A n c] w (DrawnPost w) := by
  go_enter Try.func10, Try.ntmps10
  go_wp2_with fail
  refine (open_any A n c _ h).mono ?_
  rintro e w1 ⟨g, rfl, hg, hb, hr⟩
  go_wp2_with fail
  refine (l1Some_any g 0 _ hr (by omega)).mono ?_
  rintro e w2 hs
  obtain ⟨A2, n2, c2, ps, rfl, h1, h2, h3, h4, h5⟩ := drawn_end hg hb hs
  have H := Lib.hid (And.intro h1 (And.intro h2 (And.intro h3 (And.intro h4 h5))))
  clear h1 h2 h3 h4 h5 hs hr hb
  go_wp2
  go_ret
  exact ⟨A2, n2, c2, ps, rfl, H.out.1, H.out.2.1, H.out.2.2.1, H.out.2.2.2.1, H.out.2.2.2.2⟩
set_option maxHeartbeats 400000 in
theorem drawFormatPackets_any (A : Option Addr) (n c : Nat) (w : World) (h : Bytes w A n c) :
    Calls Try.prog 17 #[.slice A n c] w (DrawnPost w) := by
  go_enter Try.func17, Try.ntmps17
  go_wp2_with fail
  refine (open_any A n c _ h).mono ?_
  rintro e w1 ⟨g, rfl, hg, hb, hr⟩
  go_wp2_with fail
  refine (l1Some_any g 0 _ hr (by omega)).mono ?_
  rintro e w2 hs
  obtain ⟨A2, n2, c2, ps, rfl, h1, h2, h3, h4, h5⟩ := drawn_end hg hb hs
  have H := Lib.hid (And.intro h1 (And.intro h2 (And.intro h3 (And.intro h4 h5))))
  clear h1 h2 h3 h4 h5 hs hr hb
  go_wp2
  go_ret
  exact ⟨A2, n2, c2, ps, rfl, H.out.1, H.out.2.1, H.out.2.2.1, H.out.2.2.2.1, H.out.2.2.2.2⟩
def DrawnTwo (w : World) (e : Ending) (w' : World) : Prop :=
  ∃ A n c ps, ∃ x : Int, e = .returned (.tuple #[.slice A n c, .int .i64 x]) ∧ n ≤ 9 ∧ n ≤ c ∧ c ≤ maxLen ∧ PR w' A n ps ∧ Below w.heap.size w w'
theorem two_end {w w1 w2 w3 : World} {g q' : Nat} {v : Value} {n : Nat} {ps : List Pkt} {xs : List Int} {e : Ending} (hg : w.heap.size ≤ g) (hg1 : g < w1.heap.size) (h1 : Below w.heap.size w w1) (hn : n ≤ 9) (ho : w2.ownsRow w1.heap.size 33 4 v n (pcells ps)) (hgr : w1.grownBy w2 (some g))
    (h : NumPost w2 g q' xs e w3) : ∃ A c, v = .slice A n c ∧ (∃ x, e = .returned (.int .i64 x)) ∧ n ≤ 9 ∧ n ≤ c ∧ c ≤ maxLen ∧ PR w3 A n ps ∧ Below w.heap.size w w3 := by
  obtain ⟨x, _, rfl, hg3, _⟩ := h
  have ho3 := ho.kept hg3 (own_block_none ho hg1)
  obtain ⟨A, c, rfl, hnc, hc, _⟩ := own_form ho3
  exact ⟨A, c, rfl, ⟨x, rfl⟩, hn, hnc, hc, pr_own ho3, below_grown h1 h1.size (hgr.trans hg3) hg⟩
set_option maxHeartbeats 400000 in
theorem drawOfPeer_any (A : Option Addr) (n c : Nat) (w : World) (h : Bytes w A n c) :
    Calls Try.prog 13 #[.slice A n c] w (DrawnTwo w) := by
  go_enter Try.func13, Try.ntmps13
  go_wp2_with fail
  refine (open_any A n c _ h).mono ?_
  rintro e w1 ⟨g, rfl, hg, hb, hr⟩
  have hg1 := rd_lt hr
  go_wp2_with fail
  refine (l1Some_any g 0 _ hr (by omega)).mono ?_
  rintro e w2 ⟨v, m, ps, rfl, hm, ho, hgr, hr2⟩
  have HO := Lib.hid (And.intro ho hgr)
  clear ho hgr hr
  go_wp2_with fail
  refine (num_lit g _ _ _ _ _ [0, 1, 2, 3, 8] _ hr2 (by omega) (by simp) (by decide) rfl).mono ?_
  rintro e w3 hs
  obtain ⟨A2, c2, rfl, ⟨x, rfl⟩, h1, h2, h3, h4, h5⟩ := two_end hg hg1 hb hm HO.out.1 HO.out.2 hs
  have H := Lib.hid (And.intro h1 (And.intro h2 (And.intro h3 (And.intro h4 h5))))
  clear h1 h2 h3 h4 h5 hs hr2 hb
  go_wp2
  go_ret2
  exact ⟨A2, m, c2, ps, x, rfl, H.out.1, H.out.2.1, H.out.2.2.1, H.out.2.2.2.1, H.out.2.2.2.2⟩
end Go.Proofs.Ytfpdmolbaioojaa
