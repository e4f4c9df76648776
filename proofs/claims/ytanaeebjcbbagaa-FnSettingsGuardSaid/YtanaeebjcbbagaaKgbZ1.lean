/-
  Chapter 8: drawn settings, sometimes wrong ones: l8BadSet, DrawSettingsValid. Conditions: the source is as open leaves it, its counter is small; the weights lie in blocks above the source's.
  Conditions: each lemma says them.
-/
import Derived.Test.YtanaeebjcbbagaaKgsZ1
namespace Go.Proofs.Ytanaeebjcbbagaa
open Go.RowKit
structure BS (w : World) (g base : Nat) (s : St) (A : Option Addr) (n c : Nat) (wr : World) : Prop where
  p : Blk wr w.heap.size 25 (stc s A n c)
  o : Blk wr (w.heap.size + 1) 25 ZS
  own : wr.ownsRow base 3 1 (.slice A n c) n (icells s.ws)
  ne : ∀ k, w.heap.size ≤ k → Value.ownBlock (.slice A n c) ≠ some k
  gr : w.grownBy wr (some g)
  hg : g < w.heap.size
  hb : g < base
section
variable {w w1 w2 : World} {g base : Nat} {s : St} {A : Option Addr} {n c : Nat}
theorem bs_grown (h : BS w g base s A n c w1) (hg : w1.grownBy w2 (some g)) : BS w g base s A n c w2 :=
  ⟨blk_grown h.p hg (by have := h.hg; omega), blk_grown h.o hg (by have := h.hg; omega), h.own.kept hg (own_block_none h.own h.hb), h.ne, h.gr.trans hg, h.hg, h.hb⟩
theorem bs_put (h : BS w g base s A n c w1) (s2 : St) (k : Nat) (x : Value) (hc : (stc s A n c).setIfInBounds k x = stc s2 A n c) (hw : s2.ws = s.ws) : BS w g base s2 A n c (w1.setCell ⟨w.heap.size, k, none⟩ x) :=
  ⟨by have := blk_set h.p k x; rwa [hc] at this, blk_far h.o (by simp) _, by rw [hw]; exact own_set_ne h.own (fun e => h.ne _ (Nat.le_refl _) e) _, h.ne, g_set h.gr (.inr (by simp)) _, h.hg, h.hb⟩
theorem own_take3 {w : World} {base b n c k : Nat} {e : TypeId} {us : List Int} (h : w.ownsRow base e 1 (.slice (some ⟨b, 0, none⟩) n c) n (icells us)) (hk : k ≤ n) : w.ownsRow base e 1 (.slice (some ⟨b, 0, none⟩) k c) k (icells (us.take k)) := by
  have hl : us.length = n := (nr_own h).1
  rcases h.2 with ⟨hv, _⟩ | ⟨g, cap, cur, hv, hb, hg, hnc, hcm, hs, ht⟩
  · cases hv
  · obtain ⟨rfl, rfl⟩ : b = g ∧ c = cap := by injection hv with a1 a2 a3; injection a1 with a1; injection a1 with a1 _ _; exact ⟨a1, a3⟩
    refine ⟨by rw [icells_len, List.length_take]; omega, .inr ⟨b, c, cur, rfl, hb, hg, by omega, hcm, hs, ?_⟩⟩
    have h2 : icells (us.take k) = (icells us).take k := by unfold icells; rw [List.map_take]
    rw [h2, ← ht, List.take_take]
    congr 1
    omega
theorem bs_three {b : Nat} (h : BS w g base s (some ⟨b, 0, none⟩) 4 c w1) : BS w g base ⟨s.r, s.b, s.pr, s.pb, s.me, s.ea, s.q, s.ws.take 3⟩ (some ⟨b, 0, none⟩) 3 c (w1.setCell ⟨w.heap.size, 7, none⟩ (.slice (some ⟨b, 0, none⟩) 3 c)) :=
  ⟨blk_set h.p 7 _, blk_far h.o (by simp) _, own_set_ne (own_take3 h.own (by omega)) (fun e => h.ne _ (Nat.le_refl _) e) _, h.ne, g_set h.gr (.inr (by simp)) _, h.hg, h.hb⟩
theorem bs_cells (h : BS w g base s A n c w1) : SC w1 w.heap.size s A n c ∧ (w1.cell? ⟨w.heap.size + 1, 0, none⟩ = some (.int .i64 0) ∧ w1.cell? ⟨w.heap.size + 1, 1, none⟩ = some (.int .i64 0) ∧ w1.cell? ⟨w.heap.size + 1, 2, none⟩ = some (.int .i64 0) ∧ w1.cell? ⟨w.heap.size + 1, 3, none⟩ = some (.int .i64 0) ∧ w1.cell? ⟨w.heap.size + 1, 4, none⟩ = some (.int .i64 0) ∧ w1.cell? ⟨w.heap.size + 1, 5, none⟩ = some (.int .i64 0) ∧ w1.cell? ⟨w.heap.size + 1, 6, none⟩ = some (.int .i64 0) ∧ w1.cell? ⟨w.heap.size + 1, 7, none⟩ = some (.slice none 0 0)) ∧
    (w1.frozen? ⟨w.heap.size + 1, 0, none⟩ = false ∧ w1.frozen? ⟨w.heap.size + 1, 1, none⟩ = false ∧ w1.frozen? ⟨w.heap.size + 1, 2, none⟩ = false ∧ w1.frozen? ⟨w.heap.size + 1, 3, none⟩ = false ∧ w1.frozen? ⟨w.heap.size + 1, 4, none⟩ = false ∧ w1.frozen? ⟨w.heap.size + 1, 5, none⟩ = false ∧ w1.frozen? ⟨w.heap.size + 1, 6, none⟩ = false ∧ w1.frozen? ⟨w.heap.size + 1, 7, none⟩ = false) ∧
    (w1.frozen? ⟨w.heap.size, 0, none⟩ = false ∧ w1.frozen? ⟨w.heap.size, 3, none⟩ = false ∧ w1.frozen? ⟨w.heap.size, 5, none⟩ = false ∧ w1.frozen? ⟨w.heap.size, 6, none⟩ = false ∧ w1.frozen? ⟨w.heap.size, 7, none⟩ = false) ∧ w.heap.size + 1 < w1.heap.size :=
  ⟨sc_blk h.p, ⟨blk_cell h.o 0, blk_cell h.o 1, blk_cell h.o 2, blk_cell h.o 3, blk_cell h.o 4, blk_cell h.o 5, blk_cell h.o 6, blk_cell h.o 7⟩, ⟨blk_free h.o 0, blk_free h.o 1, blk_free h.o 2, blk_free h.o 3, blk_free h.o 4, blk_free h.o 5, blk_free h.o 6, blk_free h.o 7⟩, ⟨blk_free h.p 0, blk_free h.p 3, blk_free h.p 5, blk_free h.p 6, blk_free h.p 7⟩, blk_lt h.o⟩
def set8 (w1 : World) (b : Nat) (s : St) (A : Option Addr) (n c : Nat) : World :=
  (((((((w1.setCell ⟨b, 0, none⟩ (.int .i64 s.r)).setCell ⟨b, 1, none⟩ (.int .i64 s.b)).setCell ⟨b, 2, none⟩ (.int .i64 s.pr)).setCell ⟨b, 3, none⟩ (.int .i64 s.pb)).setCell ⟨b, 4, none⟩ (.int .i64 s.me)).setCell ⟨b, 5, none⟩ (.int .i64 s.ea)).setCell ⟨b, 6, none⟩ (.int .i64 s.q)).setCell ⟨b, 7, none⟩ (.slice A n c)
theorem bs_end {q : Nat} (h : BS w g base s A n c w1) (hr : RdAt w1 g q) : (set8 w1 (w.heap.size + 1) s A n c).ownsRow base 3 1 (.slice A n c) n (icells s.ws) ∧ w.grownBy (set8 w1 (w.heap.size + 1) s A n c) (some g) ∧ RdAt (set8 w1 (w.heap.size + 1) s A n c) g q := by
  have hg := h.hg
  have hn := h.ne (w.heap.size + 1) (by omega)
  unfold set8
  refine ⟨?_, ?_, ?_⟩
  · repeat refine own_set_ne ?_ hn _
    exact h.own
  · repeat refine g_set ?_ (.inr (by simp)) _
    exact h.gr
  · repeat refine rd_set ?_ (by simp; omega) _
    exact hr
end
def BadPost (w : World) (g q base : Nat) (e : Ending) (w' : World) : Prop :=
  ∃ s A n c, e = .returned (.agg (stc s A n c)) ∧ n ≤ 4 ∧ w'.ownsRow base 3 1 (.slice A n c) n (icells s.ws) ∧ w.grownBy w' (some g) ∧ RdAt w' g q
set_option maxRecDepth 100000 in
set_option maxHeartbeats 4000000 in
theorem l8BadSet_any (g q base : Nat) (s : St) (A : Option Addr) (c : Nat) (w : World) (h : RdAt w g q) (hq : q ≤ 700000) (ho : w.ownsRow base 3 1 (.slice A 4 c) 4 (icells s.ws)) (hb : g < base) :
    Calls Try.prog 25 #[.pointer (some ⟨g, 0, none⟩), .agg (stc s A 4 c)] w (BadPost w g (q + 4) base) := by
  have hg := rd_lt h
  obtain ⟨b, c', hv, hb1, hb2⟩ := ho.form (by omega)
  obtain ⟨rfl, rfl⟩ : A = some ⟨b, 0, none⟩ ∧ c = c' := by injection hv with e1 e2 e3; exact ⟨e1, e3⟩
  have hc : 4 ≤ c := by
    obtain ⟨A', c', hv, h1, -, -⟩ := own_form ho
    have : c = c' := by injection hv
    omega
  have HR := Lib.hid (rd_alloc (rd_alloc h (.cells (stc s (some ⟨b, 0, none⟩) 4 c) 25)) (.cells ZS 25))
  have HD : Hid (BS w g base s (some ⟨b, 0, none⟩) 4 c ((w.alloc (.cells (stc s (some ⟨b, 0, none⟩) 4 c) 25)).alloc (.cells ZS 25))) :=
    Lib.hid ⟨blk_alloc (blk_new w _ _) _, by have := blk_new (w.alloc (.cells (stc s (some ⟨b, 0, none⟩) 4 c) 25)) 25 ZS; simpa using this, (ho.alloc _).alloc _, fun k hk e => (by have := (ho.lt _ e).2; omega), g_alloc (g_alloc (g_refl w _) _) _, hg, hb⟩
  clear h ho hv
  unfold stc
  go_enter Try.func25, Try.ntmps25
  go_wp2_with fail
  refine (pick_any g q _ _ HR.out (by omega) (by omega)).mono ?_
  rintro e w2 ⟨k, rfl, hk, hg2, hr2⟩
  have HD2 := Lib.hid (bs_grown HD.out hg2)
  have HR2 := Lib.hid hr2
  clear hg2 hr2 HR HD
  obtain ⟨⟨l0, l1, l2, l3, l4, l5, l6, l7⟩, ⟨o0, o1, o2, o3, o4, o5, o6, o7⟩, ⟨f0, f1, f2, f3, f4, f5, f6, f7⟩, ⟨p0, p3, p5, p6, p7⟩, z2⟩ := bs_cells HD2.out
  by_cases hk0 : k = 0
  · subst hk0
    go_wp2_with fail
    refine (num_lit g _ _ 2 _ _ [-1, 1001] _ HR2.out (by omega) (by simp) ⟨rfl, by omega⟩ rfl).mono ?_
    rintro e w3 ⟨x, hx, rfl, hg3, hr3⟩
    have HD3 := Lib.hid (bs_put (bs_grown HD2.out hg3) ⟨x, s.b, s.pr, s.pb, s.me, s.ea, s.q, s.ws⟩ 0 (.int .i64 x) rfl rfl)
    have HR3 := Lib.hid (rd_set (p := ⟨w.heap.size, 0, none⟩) hr3 (by simp; omega) (.int .i64 x))
    clear l0 l1 l2 l3 l4 l5 l6 l7 o0 o1 o2 o3 o4 o5 o6 o7 f0 f1 f2 f3 f4 f5 f6 f7 p0 p3 p5 p6 p7 hx
    obtain ⟨⟨l0, l1, l2, l3, l4, l5, l6, l7⟩, ⟨o0, o1, o2, o3, o4, o5, o6, o7⟩, ⟨f0, f1, f2, f3, f4, f5, f6, f7⟩, ⟨p0, p3, p5, p6, p7⟩, z3⟩ := bs_cells (bs_grown HD2.out hg3)
    clear hg3 hr3
    go_wp2
    refine bodyPost_ret (v := .agg (stc ⟨x, s.b, s.pr, s.pb, s.me, s.ea, s.q, s.ws⟩ (some ⟨b, 0, none⟩) 4 c)) (by simp [results, Try.results25, go_sem, o0, o1, o2, o3, o4, o5, o6, o7, stc]) rfl ⟨⟨x, s.b, s.pr, s.pb, s.me, s.ea, s.q, s.ws⟩, _, 4, c, rfl, Nat.le_refl _, (bs_end HD3.out HR3.out).1, (bs_end HD3.out HR3.out).2.1, rd_more (bs_end HD3.out HR3.out).2.2 (by omega)⟩
  · have e0 : ((k : Int) == 0) = false := by simp; omega
    by_cases hk1 : k = 1
    · subst hk1
      go_wp2_with fail
      refine (num_lit g _ _ 2 _ _ [0, _] _ HR2.out (by omega) (by simp) ⟨rfl, by omega⟩ rfl).mono ?_
      rintro e w3 ⟨x, hx, rfl, hg3, hr3⟩
      have HD3 := Lib.hid (bs_put (bs_grown HD2.out hg3) ⟨s.r, s.b, s.pr, s.pb, s.me, x, s.q, s.ws⟩ 5 (.int .i64 x) rfl rfl)
      have HR3 := Lib.hid (rd_set (p := ⟨w.heap.size, 5, none⟩) hr3 (by simp; omega) (.int .i64 x))
      clear l0 l1 l2 l3 l4 l5 l6 l7 o0 o1 o2 o3 o4 o5 o6 o7 f0 f1 f2 f3 f4 f5 f6 f7 p0 p3 p5 p6 p7 hx
      obtain ⟨⟨l0, l1, l2, l3, l4, l5, l6, l7⟩, ⟨o0, o1, o2, o3, o4, o5, o6, o7⟩, ⟨f0, f1, f2, f3, f4, f5, f6, f7⟩, ⟨p0, p3, p5, p6, p7⟩, z3⟩ := bs_cells (bs_grown HD2.out hg3)
      clear hg3 hr3
      go_wp2
      refine bodyPost_ret (v := .agg (stc ⟨s.r, s.b, s.pr, s.pb, s.me, x, s.q, s.ws⟩ (some ⟨b, 0, none⟩) 4 c)) (by simp [results, Try.results25, go_sem, o0, o1, o2, o3, o4, o5, o6, o7, stc]) rfl ⟨⟨s.r, s.b, s.pr, s.pb, s.me, x, s.q, s.ws⟩, _, 4, c, rfl, Nat.le_refl _, (bs_end HD3.out HR3.out).1, (bs_end HD3.out HR3.out).2.1, rd_more (bs_end HD3.out HR3.out).2.2 (by omega)⟩
    · have e1 : ((k : Int) == 1) = false := by simp; omega
      by_cases hk2 : k = 2
      · subst hk2
        go_wp2_with fail
        refine (num_lit g _ _ 2 _ _ [0, 501] _ HR2.out (by omega) (by simp) ⟨rfl, by omega⟩ rfl).mono ?_
        rintro e w3 ⟨x, hx, rfl, hg3, hr3⟩
        have HD3 := Lib.hid (bs_put (bs_grown HD2.out hg3) ⟨s.r, s.b, s.pr, s.pb, s.me, s.ea, x, s.ws⟩ 6 (.int .i64 x) rfl rfl)
        have HR3 := Lib.hid (rd_set (p := ⟨w.heap.size, 6, none⟩) hr3 (by simp; omega) (.int .i64 x))
        clear l0 l1 l2 l3 l4 l5 l6 l7 o0 o1 o2 o3 o4 o5 o6 o7 f0 f1 f2 f3 f4 f5 f6 f7 p0 p3 p5 p6 p7 hx
        obtain ⟨⟨l0, l1, l2, l3, l4, l5, l6, l7⟩, ⟨o0, o1, o2, o3, o4, o5, o6, o7⟩, ⟨f0, f1, f2, f3, f4, f5, f6, f7⟩, ⟨p0, p3, p5, p6, p7⟩, z3⟩ := bs_cells (bs_grown HD2.out hg3)
        clear hg3 hr3
        go_wp2
        refine bodyPost_ret (v := .agg (stc ⟨s.r, s.b, s.pr, s.pb, s.me, s.ea, x, s.ws⟩ (some ⟨b, 0, none⟩) 4 c)) (by simp [results, Try.results25, go_sem, o0, o1, o2, o3, o4, o5, o6, o7, stc]) rfl ⟨⟨s.r, s.b, s.pr, s.pb, s.me, s.ea, x, s.ws⟩, _, 4, c, rfl, Nat.le_refl _, (bs_end HD3.out HR3.out).1, (bs_end HD3.out HR3.out).2.1, rd_more (bs_end HD3.out HR3.out).2.2 (by omega)⟩
      · have e2 : ((k : Int) == 2) = false := by simp; omega
        by_cases hk3 : k = 3
        · subst hk3
          have D3 := Lib.hid (bs_three HD2.out)
          have R3 := Lib.hid (rd_set (p := ⟨w.heap.size, 7, none⟩) HR2.out (by simp; omega) (.slice (some ⟨b, 0, none⟩) 3 c))
          have hc3 : (3 : Int) ≤ (c : Int) := by omega
          have hc3n : 3 ≤ c := by omega
          go_wp2
          refine bodyPost_ret (v := .agg (stc ⟨s.r, s.b, s.pr, s.pb, s.me, s.ea, s.q, s.ws.take 3⟩ (some ⟨b, 0, none⟩) 3 c)) (by simp [results, Try.results25, go_sem, o0, o1, o2, o3, o4, o5, o6, o7, stc]) rfl ⟨⟨s.r, s.b, s.pr, s.pb, s.me, s.ea, s.q, s.ws.take 3⟩, _, 3, c, rfl, by omega, (bs_end D3.out R3.out).1, (bs_end D3.out R3.out).2.1, rd_more (bs_end D3.out R3.out).2.2 (by omega)⟩
        · have e3 : ((k : Int) == 3) = false := by simp; omega
          by_cases hk4 : k = 4
          · subst hk4
            go_wp2_with fail
            refine (num_lit g _ _ 2 _ _ [0, 10001] _ HR2.out (by omega) (by simp) ⟨rfl, by omega⟩ rfl).mono ?_
            rintro e w3 ⟨x, hx, rfl, hg3, hr3⟩
            have HD3 := Lib.hid (bs_put (bs_grown HD2.out hg3) ⟨s.r, s.b, s.pr, x, s.me, s.ea, s.q, s.ws⟩ 3 (.int .i64 x) rfl rfl)
            have HR3 := Lib.hid (rd_set (p := ⟨w.heap.size, 3, none⟩) hr3 (by simp; omega) (.int .i64 x))
            clear l0 l1 l2 l3 l4 l5 l6 l7 o0 o1 o2 o3 o4 o5 o6 o7 f0 f1 f2 f3 f4 f5 f6 f7 p0 p3 p5 p6 p7 hx
            obtain ⟨⟨l0, l1, l2, l3, l4, l5, l6, l7⟩, ⟨o0, o1, o2, o3, o4, o5, o6, o7⟩, ⟨f0, f1, f2, f3, f4, f5, f6, f7⟩, ⟨p0, p3, p5, p6, p7⟩, z3⟩ := bs_cells (bs_grown HD2.out hg3)
            clear hg3 hr3
            go_wp2
            refine bodyPost_ret (v := .agg (stc ⟨s.r, s.b, s.pr, x, s.me, s.ea, s.q, s.ws⟩ (some ⟨b, 0, none⟩) 4 c)) (by simp [results, Try.results25, go_sem, o0, o1, o2, o3, o4, o5, o6, o7, stc]) rfl ⟨⟨s.r, s.b, s.pr, x, s.me, s.ea, s.q, s.ws⟩, _, 4, c, rfl, Nat.le_refl _, (bs_end HD3.out HR3.out).1, (bs_end HD3.out HR3.out).2.1, rd_more (bs_end HD3.out HR3.out).2.2 (by omega)⟩
          · have e4 : ((k : Int) == 4) = false := by simp; omega
            clear hk4 hk3 hk2 hk1 hk0
            go_wp2
            refine bodyPost_ret (v := .agg (stc s (some ⟨b, 0, none⟩) 4 c)) (by simp [results, Try.results25, go_sem, o0, o1, o2, o3, o4, o5, o6, o7, stc]) rfl ⟨s, _, 4, c, rfl, Nat.le_refl _, (bs_end HD2.out HR2.out).1, (bs_end HD2.out HR2.out).2.1, rd_more (bs_end HD2.out HR2.out).2.2 (by omega)⟩
def Drawn8 (w : World) (e : Ending) (w' : World) : Prop :=
  ∃ s A n c, e = .returned (.agg (stc s A n c)) ∧ n ≤ 4 ∧ w'.ownsRow w.heap.size 3 1 (.slice A n c) n (icells s.ws) ∧ Below w.heap.size w w'
theorem below_set8 {B b : Nat} {w0 w1 : World} (h : Below B w0 w1) (hb : B ≤ b) (s : St) (A : Option Addr) (n c : Nat) : Below B w0 (set8 w1 b s A n c) := by
  unfold set8
  repeat refine Below.setCell ?_ hb _
  exact h
theorem own_set8 {w1 : World} {base b n2 : Nat} {v : Value} {us : List Int} (h : w1.ownsRow base 3 1 v n2 (icells us)) (hb : b < base) (s : St) (A : Option Addr) (n c : Nat) : (set8 w1 b s A n c).ownsRow base 3 1 v n2 (icells us) := by
  unfold set8
  repeat refine own_set_far ?_ hb _
  exact h
set_option maxRecDepth 100000 in
set_option maxHeartbeats 2000000 in
theorem drawSettingsValid_any (A : Option Addr) (n c : Nat) (w : World) (h : Bytes w A n c) :
    Calls Try.prog 8 #[.slice A n c] w (Drawn8 w) := by
  go_enter Try.func8, Try.ntmps8
  go_wp2_with fail
  refine (open_any A n c _ (bytes_below h (below_alloc (Below.refl _ _) _))).mono ?_
  rintro e w1 ⟨g, rfl, hg, hb, hr⟩
  have O1 := Lib.hid (blk_below (blk_new w 25 ZS) hb (by simp))
  have B1 := Lib.hid (below_from (below_alloc (Below.refl w.heap.size w) (.cells ZS 25)) hb (by simp))
  have hz1 := hb.size
  simp at hz1 hg
  have HR := Lib.hid hr
  have zg1 := rd_lt hr
  clear hb hr h
  go_wp2_with fail
  refine (l8Set_any g 0 _ HR.out (by omega)).mono ?_
  rintro e w2 ⟨s2, A2, c2, rfl, hl2, ho2, hg2, hr2⟩
  have O2 := Lib.hid (blk_grown O1.out hg2 (by omega))
  have B2 := Lib.hid (below_grown B1.out (by omega) hg2 (by omega))
  have hz2 := hg2.size
  have HR2 := Lib.hid hr2
  have HO2 := Lib.hid ho2
  clear ho2 hg2 hr2 HR O1 B1
  go_wp2_with fail
  refine (l8BadSet_any g _ (w1.heap.size + 1) s2 A2 c2 _ HR2.out (by omega) HO2.out (by omega)).mono ?_
  rintro e w3 ⟨s3, A3, n3, c3, rfl, hn3, ho3, hg3, hr3⟩
  have O3 := Lib.hid (blk_grown O2.out hg3 (by omega))
  have B3 := Lib.hid (below_grown B2.out (by omega) hg3 (by omega))
  have HO3 := Lib.hid ho3
  clear ho3 hg3 hr3 O2 B2 HR2 HO2
  unfold stc
  have o0 : w3.cell? ⟨w.heap.size, 0, none⟩ = some (.int .i64 0) := blk_cell O3.out 0
  have o1 : w3.cell? ⟨w.heap.size, 1, none⟩ = some (.int .i64 0) := blk_cell O3.out 1
  have o2 : w3.cell? ⟨w.heap.size, 2, none⟩ = some (.int .i64 0) := blk_cell O3.out 2
  have o3 : w3.cell? ⟨w.heap.size, 3, none⟩ = some (.int .i64 0) := blk_cell O3.out 3
  have o4 : w3.cell? ⟨w.heap.size, 4, none⟩ = some (.int .i64 0) := blk_cell O3.out 4
  have o5 : w3.cell? ⟨w.heap.size, 5, none⟩ = some (.int .i64 0) := blk_cell O3.out 5
  have o6 : w3.cell? ⟨w.heap.size, 6, none⟩ = some (.int .i64 0) := blk_cell O3.out 6
  have o7 : w3.cell? ⟨w.heap.size, 7, none⟩ = some (.slice none 0 0) := blk_cell O3.out 7
  have f0 : w3.frozen? ⟨w.heap.size, 0, none⟩ = false := blk_free O3.out 0
  have f1 : w3.frozen? ⟨w.heap.size, 1, none⟩ = false := blk_free O3.out 1
  have f2 : w3.frozen? ⟨w.heap.size, 2, none⟩ = false := blk_free O3.out 2
  have f3 : w3.frozen? ⟨w.heap.size, 3, none⟩ = false := blk_free O3.out 3
  have f4 : w3.frozen? ⟨w.heap.size, 4, none⟩ = false := blk_free O3.out 4
  have f5 : w3.frozen? ⟨w.heap.size, 5, none⟩ = false := blk_free O3.out 5
  have f6 : w3.frozen? ⟨w.heap.size, 6, none⟩ = false := blk_free O3.out 6
  have f7 : w3.frozen? ⟨w.heap.size, 7, none⟩ = false := blk_free O3.out 7
  go_wp2
  refine bodyPost_ret (v := .agg (stc s3 A3 n3 c3)) (by simp [results, Try.results8, go_sem, o0, o1, o2, o3, o4, o5, o6, o7, stc]) rfl ⟨s3, A3, n3, c3, rfl, hn3, own_mono (own_set8 (s := s3) (A := A3) (n := n3) (c := c3) (b := w.heap.size) HO3.out (by omega)) (by omega), below_set8 (s := s3) (A := A3) (n := n3) (c := c3) (b := w.heap.size) B3.out (Nat.le_refl _)⟩
theorem byR_new (q : Int) (us : List Int) (i : Int) : byR (newN q us).rs i = 0 := by simp [newN, List.replicate, byR, wOf, sizeSum]
theorem bys_new (q : Int) (us : List Int) : bys (newN q us) = List.replicate 8 0 := by
  unfold bys
  rw [show (fun (i : Nat) => byR (newN q us).rs (i : Int)) = fun _ => 0 from funext fun i => byR_new q us i]
  rfl
theorem gv_newG {s : St} {t : Int} (h : SV s) (h0 : 0 ≤ t) (h1 : t ≤ 1000000) : GV (newG s t) := by
  have ha : 0 ≤ s.r ∧ s.r ≤ 1000 ∧ 1 ≤ s.b ∧ s.b ≤ 10000 := by simpa [rbB] using h.a
  have hp : 0 ≤ s.pr ∧ s.pr ≤ 1000 ∧ 1 ≤ s.pb ∧ s.pb ≤ 10000 := by simpa [rbB] using h.p
  refine ⟨h0, h1, rt_mk ?_, by simp [newG], by simp [newG], fun b hb => ?_, fun x hx => ?_, h.m, lv_new h.l, (bys_new _ _).symm⟩
  · show 0 ≤ s.r ∧ s.r ≤ 1000 ∧ 1 ≤ s.b ∧ s.b ≤ 10000 ∧ 0 ≤ s.b ∧ s.b ≤ s.b ∧ 0 ≤ t ∧ t ≤ t ∧ t ≤ 1000000
    omega
  · obtain rfl := List.eq_of_mem_replicate hb
    refine rt_mk ?_
    show 0 ≤ s.pr ∧ s.pr ≤ 1000 ∧ 1 ≤ s.pb ∧ s.pb ≤ 10000 ∧ 0 ≤ s.pb ∧ s.pb ≤ s.pb ∧ 0 ≤ t ∧ t ≤ t ∧ t ≤ 1000000
    omega
  · obtain rfl := List.eq_of_mem_replicate hx
    show stB 0 t 0 0 t = true
    simp [stB]
    omega
end Go.Proofs.Ytanaeebjcbbagaa
