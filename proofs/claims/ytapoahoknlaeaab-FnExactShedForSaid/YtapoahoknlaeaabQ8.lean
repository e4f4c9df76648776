/-
  Chapter 3: ShedFor: what the program's function returns. Conditions: the slice has at most 4000000000 packets.
-/
import Derived.Test.YtapoahoknlaeaabQ6
import Derived.Test.YtapoahoknlaeaabQ5b
import Derived.Test.YtapoahoknlaeaabQ7
import Derived.Test.YtapoahoknlaeaabQ7b
namespace Go.Proofs.Ytapoahoknlaeaab
open Go.RowKit

def shedOk (lim : Int) (ps : List Pkt) (size : Int) : Bool := qvB lim ps && inB size 0 lim
theorem shed_no {lim : Int} {ps : List Pkt} {x : Int} (h : shedOk lim ps x = false) : qvB lim ps = false ∨ (qvB lim ps = true ∧ inB x 0 lim = false) := by
  rcases hq : qvB lim ps with _ | _
  · exact .inl rfl
  · exact .inr ⟨rfl, by simpa [shedOk, hq] using h⟩
theorem shed_of {lim : Int} {ps : List Pkt} {x : Int} (h : shedOk lim ps x = true) : qvB lim ps = true ∧ inB x 0 lim = true ∧ 0 ≤ x ∧ x ≤ lim := by
  have h' : qvB lim ps = true ∧ inB x 0 lim = true := by simpa [shedOk] using h
  have h2 := h'.2
  simp only [inB, decide_eq_true_eq] at h2
  exact ⟨h'.1, h'.2, h2.1, h2.2⟩
set_option maxHeartbeats 1000000 in
theorem shedI_no (lim : Int) (A : Option Addr) (n c : Nat) (ps : List Pkt) (x : Int) (w : World) (h : PR w A n ps) (hn : n ≤ 4000000000) (hk : shedOk lim ps x = false) :
    Calls Try.prog 41 #[.agg #[.int .i64 lim, (.slice A n c)], .int .i64 x] w (QPostL w 0 [] [] false) := by
  have F := Lib.hid (fr_drop h lim c)
  clear h
  rcases shed_no hk with hq | ⟨hq, hx⟩
  · have HQ := Lib.hid hq
    clear hq hk
    go_enter Try.func41, Try.ntmps41
    go_wp2_with fail
    refine (roomI_any lim A n c ps _ F.out.pr (by omega)).mono ?_
    rintro e w1 ⟨rfl, hb⟩
    rw [HQ.out]
    replace F := Lib.hid (fr_below F.out hb)
    clear hb
    have F0c0 : World.cell? w1 ⟨w.heap.size, 0, none⟩ = some (.int .i64 lim) := blk_cell (F.out.it 0 _ _ rfl) 0
    have F0f0 : World.frozen? w1 ⟨w.heap.size, 0, none⟩ = false := blk_free (F.out.it 0 _ _ rfl) 0
    have F0c1 : World.cell? w1 ⟨w.heap.size, 1, none⟩ = some ((.slice A n c)) := blk_cell (F.out.it 0 _ _ rfl) 1
    have F0f1 : World.frozen? w1 ⟨w.heap.size, 1, none⟩ = false := blk_free (F.out.it 0 _ _ rfl) 1
    have F1c0 : World.cell? w1 ⟨w.heap.size + 1, 0, none⟩ = some (.int .i64 0) := blk_cell (F.out.it 1 _ _ rfl) 0
    have F1f0 : World.frozen? w1 ⟨w.heap.size + 1, 0, none⟩ = false := blk_free (F.out.it 1 _ _ rfl) 0
    have F1c1 : World.cell? w1 ⟨w.heap.size + 1, 1, none⟩ = some ((.slice none 0 0)) := blk_cell (F.out.it 1 _ _ rfl) 1
    have F1f1 : World.frozen? w1 ⟨w.heap.size + 1, 1, none⟩ = false := blk_free (F.out.it 1 _ _ rfl) 1
    go_wp2
    refine bodyPost_ret (v := .tuple #[.agg #[.int .i64 0, (.slice none 0 0)], .slice none 0 0, .bool false]) (by simp [results, Try.results41, go_sem, F1c0, F1c1]) rfl (qpostl_mk rfl (World.ownsRow_nil _ _ _ _) (World.ownsRow_nil _ _ _ _) (fun b e => by cases e) ?_)
    repeat refine Below.setCell ?_ (by first | omega | (simp <;> omega)) _
    exact F.out.below
  · have HQ := Lib.hid hq
    clear hq hk
    go_enter Try.func41, Try.ntmps41
    go_wp2_with fail
    refine (roomI_any lim A n c ps _ F.out.pr (by omega)).mono ?_
    rintro e w1 ⟨rfl, hb⟩
    rw [HQ.out]
    replace F := Lib.hid (fr_below F.out hb)
    clear hb
    have F0c0 : World.cell? w1 ⟨w.heap.size, 0, none⟩ = some (.int .i64 lim) := blk_cell (F.out.it 0 _ _ rfl) 0
    have F0f0 : World.frozen? w1 ⟨w.heap.size, 0, none⟩ = false := blk_free (F.out.it 0 _ _ rfl) 0
    have F0c1 : World.cell? w1 ⟨w.heap.size, 1, none⟩ = some ((.slice A n c)) := blk_cell (F.out.it 0 _ _ rfl) 1
    have F0f1 : World.frozen? w1 ⟨w.heap.size, 1, none⟩ = false := blk_free (F.out.it 0 _ _ rfl) 1
    have F1c0 : World.cell? w1 ⟨w.heap.size + 1, 0, none⟩ = some (.int .i64 0) := blk_cell (F.out.it 1 _ _ rfl) 0
    have F1f0 : World.frozen? w1 ⟨w.heap.size + 1, 0, none⟩ = false := blk_free (F.out.it 1 _ _ rfl) 0
    have F1c1 : World.cell? w1 ⟨w.heap.size + 1, 1, none⟩ = some ((.slice none 0 0)) := blk_cell (F.out.it 1 _ _ rfl) 1
    have F1f1 : World.frozen? w1 ⟨w.heap.size + 1, 1, none⟩ = false := blk_free (F.out.it 1 _ _ rfl) 1
    go_wp2_with (go_at_call 48; refine (within_any _ _ _ _).mono ?_; rintro e w' ⟨rfl, rfl⟩)
    refine bodyPost_ret (v := .tuple #[.agg #[.int .i64 0, (.slice none 0 0)], .slice none 0 0, .bool false]) (by simp [results, Try.results41, go_sem, F1c0, F1c1]) rfl (qpostl_mk rfl (World.ownsRow_nil _ _ _ _) (World.ownsRow_nil _ _ _ _) (fun b e => by cases e) ?_)
    repeat refine Below.setCell ?_ (by first | omega | (simp <;> omega)) _
    exact F.out.below
theorem del_one (base b n c i : Nat) (ps : List Pkt) (w : World) (h : w.ownsRow base 51 4 (.slice (some ⟨b, 0, none⟩) n c) n (pcells ps)) (hi : i < n) (hn : n ≤ 4000000000) :
    Calls Try.prog 65 #[.slice (some ⟨b, 0, none⟩) n c, .int .i64 i, .int .i64 ((i : Int) + 1)] w (DelPost w base b n c i ps) :=
  del_any base b n c i (i + 1) ps w h hi rfl hn
theorem blk_fourS {w : World} {b : Nat} {t : TypeId} {x y z u : Value} (h : Blk w b t #[x, y, z, u]) : (w.cell? ⟨b, 0, none⟩ = some x ∧ w.cell? ⟨b, 1, none⟩ = some y ∧ w.cell? ⟨b, 2, none⟩ = some z ∧ w.cell? ⟨b, 3, none⟩ = some u) ∧ True :=
  ⟨⟨blk_cell h 0, blk_cell h 1, blk_cell h 2, blk_cell h 3⟩, trivial⟩
structure SK (w : World) (B2 L : Nat) (lim : Int) (A : Option Addr) (n c : Nat) (ps : List Pkt) (A2 : Option Addr) (m c2 : Nat) (cur : List Pkt) (Ag : Option Addr) (mg cg : Nat) (gone : List Pkt) (w' : World) : Prop where
  fr : Fr w (dropBs lim A n c) A n ps w'
  l : Blk w' L 25 #[.int .i64 lim, .slice A2 m c2]
  own : w'.ownsRow B2 51 4 (.slice A2 m c2) m (pcells cur)
  gown : w'.ownsRow (L + 1) 51 4 (.slice Ag mg cg) mg (pcells gone)
  sep : ∀ b, Value.ownBlock (.slice A2 m c2) = some b → b < L
  hB : w.heap.size + 2 ≤ B2
  hL : B2 ≤ L
section
variable {w w1 w2 : World} {B2 L : Nat} {lim : Int} {A : Option Addr} {n c : Nat} {ps : List Pkt} {A2 : Option Addr} {m c2 : Nat} {cur : List Pkt} {Ag : Option Addr} {mg cg : Nat} {gone : List Pkt}
theorem sk_below (h : SK w B2 L lim A n c ps A2 m c2 cur Ag mg cg gone w1) (hb : Below w1.heap.size w1 w2) : SK w B2 L lim A n c ps A2 m c2 cur Ag mg cg gone w2 :=
  ⟨fr_below h.fr hb, blk_below h.l hb (blk_lt h.l), own_below h.own hb, own_below h.gown hb, h.sep, h.hB, h.hL⟩
theorem sk_alloc (h : SK w B2 L lim A n c ps A2 m c2 cur Ag mg cg gone w1) (o : Obj) : SK w B2 L lim A n c ps A2 m c2 cur Ag mg cg gone (w1.alloc o) := sk_below h (below_alloc (Below.refl _ _) o)
theorem sk_del {b2 m2 : Nat} {cur2 : List Pkt} (h : SK w B2 L lim A n c ps (some ⟨b2, 0, none⟩) m c2 cur Ag mg cg gone w1) (hg : w1.grownBy w2 (some b2)) (ho : w2.ownsRow B2 51 4 (.slice (some ⟨b2, 0, none⟩) m2 c2) m2 (pcells cur2)) :
    SK w B2 L lim A n c ps (some ⟨b2, 0, none⟩) m2 c2 cur2 Ag mg cg gone (w2.setCell ⟨L, 1, none⟩ (.slice (some ⟨b2, 0, none⟩) m2 c2)) := by
  have h1 := (h.own.lt b2 rfl).1
  have h2 := h.sep b2 rfl
  have hB := h.hB
  have hL := h.hL
  exact ⟨fr_set (fr_grown h.fr hg (fun g e => by injection e with e; simp [dropBs]; omega)) (by simp [dropBs]; omega) _, blk_set (blk_grownQ h.l hg (fun e => by injection e with e; omega)) 1 _, own_set_ne ho (by simp [Value.ownBlock]; omega) _,
    own_set_far (h.gown.kept hg (own_block_none h.gown (by omega))) (by simp) _, fun b e => by simp [Value.ownBlock] at e; omega, hB, hL⟩
theorem sk_app {Ag2 : Option Addr} {mg2 cg2 : Nat} {gone2 : List Pkt} (h : SK w B2 L lim A n c ps A2 m c2 cur Ag mg cg gone w1) (hg : w1.grownBy w2 (Value.ownBlock (.slice Ag mg cg))) (ho : w2.ownsRow (L + 1) 51 4 (.slice Ag2 mg2 cg2) mg2 (pcells gone2)) :
    SK w B2 L lim A n c ps A2 m c2 cur Ag2 mg2 cg2 gone2 w2 := by
  have hr : ∀ g, Value.ownBlock (.slice Ag mg cg) = some g → L + 1 ≤ g := fun g e => (h.gown.lt g e).1
  have hB := h.hB
  have hL := h.hL
  refine ⟨fr_grown h.fr hg (fun g e => by have := hr g e; simp [dropBs]; omega), blk_grownQ h.l hg (fun e => by have := hr _ e.symm; omega), h.own.kept hg ?_, ho, h.sep, hB, hL⟩
  rcases hv : Value.ownBlock (.slice A2 m c2) with _ | b
  · exact .inl rfl
  · exact .inr (fun e => by have := h.sep b hv; have := hr b e.symm; omega)
theorem sk_out (h : SK w B2 L lim A n c ps A2 m c2 cur Ag mg cg gone w1) : Blk w1 (w.heap.size + 1) 25 #[.int .i64 0, (.slice none 0 0)] := h.fr.it 1 _ _ rfl
end
def ShRel (w : World) (B2 L : Nat) (lim size : Int) (A : Option Addr) (n c : Nat) (ps : List Pkt) (A2 : Option Addr) (c2 : Nat) (room sh : Value) (wr : World) : Prop :=
  ∃ (cur gone : List Pkt) (m : Nat) (Ag : Option Addr) (mg cg : Nat) (z : Int), room = .int .i64 (lim - z) ∧ z = sizeSum cur ∧ sh = .slice Ag mg cg ∧ qvB lim cur = true ∧ shedF lim size cur.length cur gone = shed lim size ps ∧ m + mg = n ∧ SK w B2 L lim A n c ps A2 m c2 cur Ag mg cg gone wr
set_option maxHeartbeats 2000000 in
theorem shedI_yes (lim : Int) (A : Option Addr) (n c : Nat) (ps : List Pkt) (size : Int) (w : World) (h : PR w A n ps) (hn : n ≤ 4000000000) (hk : shedOk lim ps size = true) :
    Calls Try.prog 41 #[.agg #[.int .i64 lim, (.slice A n c)], .int .i64 size] w (QPostL w lim (shed lim size ps).1 (shed lim size ps).2 true) := by
  have F := Lib.hid (fr_drop h lim c)
  obtain ⟨hq, hx, s0, s1⟩ := shed_of hk
  obtain ⟨q1, q2, q3, q4, q5, q6⟩ := qv_of hq
  have HQ := Lib.hid hq
  have HR := Lib.hid (room_yes hq)
  have HL := Lib.hid h.1
  have n64 : n ≤ 64 := by have := h.1; omega
  obtain ⟨z0, hz0⟩ : ∃ z, z = sizeSum ps := ⟨_, rfl⟩
  rw [← hz0] at q4 q5 HR
  have HZ := Lib.hid hz0
  clear h hk hq q1 q6 hz0
  go_enter Try.func41, Try.ntmps41
  go_wp2_with fail
  refine (roomI_any lim A n c ps _ F.out.pr (by omega)).mono ?_
  rintro e w1 ⟨rfl, hb⟩
  rw [HQ.out, HR.out]
  replace F := Lib.hid (fr_below F.out hb)
  have z1 := F.out.lt
  simp [dropBs] at z1
  have y1 : w.heap.size < w1.heap.size := by omega
  have y2 : w.heap.size + 1 < w1.heap.size := by omega
  clear hb
  have F0c0 : World.cell? w1 ⟨w.heap.size, 0, none⟩ = some (.int .i64 lim) := blk_cell (F.out.it 0 _ _ rfl) 0
  have F0f0 : World.frozen? w1 ⟨w.heap.size, 0, none⟩ = false := blk_free (F.out.it 0 _ _ rfl) 0
  have F0c1 : World.cell? w1 ⟨w.heap.size, 1, none⟩ = some ((.slice A n c)) := blk_cell (F.out.it 0 _ _ rfl) 1
  have F0f1 : World.frozen? w1 ⟨w.heap.size, 1, none⟩ = false := blk_free (F.out.it 0 _ _ rfl) 1
  have F1c0 : World.cell? w1 ⟨w.heap.size + 1, 0, none⟩ = some (.int .i64 0) := blk_cell (F.out.it 1 _ _ rfl) 0
  have F1f0 : World.frozen? w1 ⟨w.heap.size + 1, 0, none⟩ = false := blk_free (F.out.it 1 _ _ rfl) 0
  have F1c1 : World.cell? w1 ⟨w.heap.size + 1, 1, none⟩ = some ((.slice none 0 0)) := blk_cell (F.out.it 1 _ _ rfl) 1
  have F1f1 : World.frozen? w1 ⟨w.heap.size + 1, 1, none⟩ = false := blk_free (F.out.it 1 _ _ rfl) 1
  go_wp2_with (first
    | (go_at_call 48; refine (within_any _ _ _ _).mono ?_; rintro e w' ⟨rfl, rfl⟩)
    | (go_at_call 62
       refine (copyI_any lim A n c ps _ F.out.pr hn).mono ?_
       rintro e w2 ⟨A2, c2, rfl, ho2, hb2⟩
       have F2 := Lib.hid (fr_below F.out hb2)
       have z2 := hb2.size
       have K0 : Hid (SK w w1.heap.size w2.heap.size lim A n c ps A2 n c2 ps none 0 0 [] (w2.alloc (.cells #[.int .i64 lim, (.slice A2 n c2)] 25))) :=
         Lib.hid ⟨fr_alloc F2.out _, blk_new w2 _ _, ho2.alloc _, World.ownsRow_nil _ _ _ _, fun b e => (ho2.lt b e).2, z1, z2⟩
       clear hb2 ho2 F2))
  clear F0c0 F0f0 F0c1 F0f1 F1c0 F1f0 F1c1 F1f1
  clear hx
  have R0 : Hid (ShRel w w1.heap.size w2.heap.size lim size A n c ps A2 c2 (.int .i64 (lim - z0)) (.slice none 0 0) (w2.alloc (.cells #[.int .i64 lim, (.slice A2 n c2)] 25))) :=
    Lib.hid ⟨ps, [], n, none, 0, 0, z0, rfl, HZ.out, rfl, HQ.out, rfl, by omega, K0.out⟩
  go_loopw [7, 10] (fun room sh wr => ShRel w w1.heap.size w2.heap.size lim size A n c ps A2 c2 room sh wr) (fun room _ _ => (lim - intOf room).toNat)
  case atStart => exact R0.out
  case round =>
    obtain ⟨cur, gone, m, Ag, mg, cg, z, rfl, hz, rfl, hcq, hsh, hmn, hD⟩ := hrel
    clear R0 K0 F
    have HD := Lib.hid hD
    have HC := Lib.hid hcq
    have HS := Lib.hid hsh
    obtain ⟨r1, r2, r3, r4, r5, r6⟩ := qv_of hcq
    rw [← hz] at r4 r5
    have hm : cur.length = m := (pr_own hD.own).1
    obtain ⟨l0, l1, g0, g1⟩ := blk_two hD.l
    by_cases hlt : lim - z < size
    · have hne : 0 < cur.length := shed_some s1 (by rw [← hz]; omega)
      obtain ⟨k1, k2, p, k3, -, -⟩ := cut_spec (ok_of r1).2 hne
      have HG := Lib.hid (shed_go (lim := lim) (size := size) (g := gone) (by rw [← hz]; omega) k2 k3)
      have HE := Lib.hid (erase_sum k3)
      have hv := vld_size (ok_at r1 k3)
      have HO : Hid (qvB lim (cur.eraseIdx (cutIx cur)) = true) := Lib.hid (by
        have := erase_sum k3
        exact qv_mk (ok_mk (by have := erase_len k2; omega) (erase_all _ (ok_of r1).2)) r2 r3 (by omega))
      have HP := Lib.hid (show heavyP lim cur = true by simp [heavyP, hcq, hne])
      rw [hm] at k1 k2
      obtain ⟨i, hi⟩ : ∃ i, cutIx cur = i := ⟨_, rfl⟩
      rw [hi] at k1 k2 k3 HG HE HO
      obtain ⟨hp, hhp⟩ : ∃ q : Int, (heavy cur : Int) = q := ⟨_, rfl⟩
      rw [hhp] at k1
      have HK := Lib.hid (And.intro k1 (And.intro k3 (And.intro hz (And.intro hm hhp))))
      obtain ⟨b2, c2', hv2, -, -⟩ := hD.own.form (by omega)
      obtain ⟨rfl, rfl⟩ : A2 = some ⟨b2, 0, none⟩ ∧ c2 = c2' := by injection hv2 with a1 a2 a3; exact ⟨a1, a3⟩
      have p0 := hv.1
      have p1 := hv.2
      clear hcq hsh r1 hm hne k1 k3 hv hi hhp hD hz hv2
      go_wp2_with fail
      refine (heavyI_yes lim _ m c2 cur _ (pr_own HD.out.own) (by omega) HP.out).mono ?_
      rintro e w3 ⟨rfl, hb3⟩
      rw [HK.out.2.2.2.2]
      have D3 := Lib.hid (sk_below HD.out hb3)
      clear l0 l1 g0 g1 hb3
      obtain ⟨l0, l1, g0, g1⟩ := blk_two D3.out.l
      go_wp2_with fail
      refine (lastI_any _ m c2 cur _ _ (pr_own D3.out.own) (by omega)).mono ?_
      rintro e w4 ⟨rfl, hb4⟩
      rw [HK.out.1]
      have D4 := Lib.hid (sk_below D3.out hb4)
      clear l0 l1 g0 g1 hb4
      obtain ⟨l0, l1, g0, g1⟩ := blk_two D4.out.l
      obtain ⟨b', off', p', e1, e2, e3, c0, d1, d2, d3⟩ := pr_at (k := i) (pr_own D4.out.own) (by omega)
      obtain ⟨rfl, rfl⟩ : b2 = b' ∧ 0 = off' := by injection e1 with e1; injection e1 with a b; exact ⟨a, b⟩
      obtain rfl : p = p' := by rw [HK.out.2.1] at e3; injection e3
      rw [Nat.zero_add] at c0 d1 d2 d3
      have x0 : (0 : Int) ≤ (i : Int) := by omega
      have x1 : (i : Int) < (m : Int) := by omega
      have x2 := blk_lt D4.out.l
      have D5 := Lib.hid (sk_alloc D4.out (.cells #[.int .i64 p.peer, .int .i64 p.lane, .int .i64 p.size, .int .i64 p.id] 51))
      have PB := Lib.hid (blk_new w4 51 #[.int .i64 p.peer, .int .i64 p.lane, .int .i64 p.size, .int .i64 p.id])
      clear e1 e2 e3
      go_wp2_with fail
      refine (del_one w1.heap.size b2 m c2 i cur _ D5.out.own k2 (by omega)).mono ?_
      rintro e w5 ⟨rfl, ho5, hg5⟩
      have D6 := Lib.hid (sk_del D5.out hg5 ho5)
      have x3 := D4.out.sep b2 rfl
      have PB6 := Lib.hid (blk_far (p := ⟨w2.heap.size, 1, none⟩) (blk_grownQ PB.out hg5 (fun e => by injection e with e; omega)) (by simp; omega) (.slice (some ⟨b2, 0, none⟩) (i + (m - (i + 1))) c2))
      have gl := Lib.hid (show ∀ g, Value.ownBlock (.slice Ag mg cg) = some g → g < w4.heap.size from fun g e => (D4.out.gown.lt g e).2)
      have x5 : w4.heap.size < w5.heap.size := by have := hg5.size; simp at this; omega
      clear l0 l1 g0 g1 c0 d1 d2 d3
      obtain ⟨l0, l1, g0, g1⟩ := blk_two (blk_grownQ D5.out.l hg5 (fun e => by injection e with e; omega))
      obtain ⟨⟨m0, m1, m2, m3⟩, -⟩ := blk_fourS (blk_grownQ PB.out hg5 (fun e => by injection e with e; omega))
      have x6 : ¬ w4.heap.size = w2.heap.size := by omega
      have x7 : ¬ w2.heap.size = w4.heap.size := by omega
      clear hg5 ho5
      go_wp2_with (at_builtin
                   refine wpl_app_pkts _ rfl (.tmp 58) (.tmp 60) rfl (w2.heap.size + 1) (.slice Ag mg cg) mg gone rfl (D6.out.gown.alloc _) (some ⟨w5.heap.size, 0, none⟩) 1 1 [p] rfl (pr_single (blk_at (by simp) _ _)) (by omega) (by simp; omega) ?_
                   intro v7 w7 ho7 hg7 hat7
                   have PB7 := Lib.hid (blk_grownQ (blk_alloc PB6.out _) hg7 (fun e => by have := gl.out _ e.symm; omega))
                   obtain ⟨A7, c7, rfl, -, -, -⟩ := own_form ho7
                   have D7 := Lib.hid (sk_app (sk_alloc D6.out _) hg7 ho7)
                   obtain ⟨⟨n0, n1, n2, n3⟩, -⟩ := blk_fourS PB7.out
                   clear hg7 ho7 hat7 l0 l1 g0 g1 m0 m1 m2 m3)
      go_roundw
      case rel =>
        have e1 := HE.out
        have e2 := HK.out.2.2.1
        exact ⟨cur.eraseIdx i, gone ++ [p], i + (m - (i + 1)), A7, mg + 1, c7, z - p.size, by rw [show lim - (z - p.size) = lim - z + p.size by omega], by omega, rfl, HO.out, HG.out.symm.trans HS.out, by omega, D7.out⟩
      case measure => simp [intOf]; omega
    · have e1 := shed_stop (lim := lim) (size := size) (ps := cur) (g := gone) (by rw [← hz]; omega)
      rw [hsh] at e1
      have HX := Lib.hid e1
      obtain ⟨o0, o1, f0, f1⟩ := blk_two (sk_out hD)
      have x1 := blk_lt hD.l
      have hd : decide (lim - z < size) = false := by simp; omega
      clear hD hsh e1 hcq r1 hm hz hlt
      go_wp2
      rw [HX.out]
      refine bodyPost_ret (v := .tuple #[.agg #[.int .i64 lim, (.slice A2 m c2)], .slice Ag mg cg, .bool true]) (by simp [results, Try.results41, go_sem, o0, o1]) rfl (qpostl_mk rfl ?_ ?_ ?_ ?_)
      · exact own_mono (own_set_far (own_set_far HD.out.own (by simp; omega) _) (by simp; omega) _) (by omega)
      · exact own_mono (own_set_far (own_set_far HD.out.gown (by simp; omega) _) (by simp; omega) _) (by omega)
      · intro b e' e2
        have h1 := HD.out.sep b e'
        have h2 := (HD.out.gown.lt b e2).1
        omega
      · exact Below.setCell (Below.setCell HD.out.fr.below (by simp) _) (by simp) _
end Go.Proofs.Ytapoahoknlaeaab
