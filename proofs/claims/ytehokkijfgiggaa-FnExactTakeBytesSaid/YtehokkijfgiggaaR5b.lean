/-
  Chapter 5: turns: what the program's takeNext returns. Conditions: the robin is valid and has flows.
-/
import Derived.Test.YtehokkijfgiggaaR5
namespace Go.Proofs.Ytehokkijfgiggaa
open Go.RowKit

/-- the tail of a slice of packets: the walk's if -/
theorem tail_ofR {n c : Nat} {A : Option Addr} {W : World} {p : Pkt} {r : List Pkt} (h : PR W A n (p :: r)) (hc : n ≤ c) :
    ∃ b off A1, A = some ⟨b, off, none⟩ ∧ (if c = 1 then (some ⟨b, off, none⟩ : Option Addr) else some ⟨b, off + 4, none⟩) = some A1 ∧ A1.block = b ∧ Hid (∀ V, PR V (some ⟨b, off, none⟩) n (p :: r) → PR V (some A1) (n - 1) r) := by
  have hn : 1 ≤ n := by have := h.1; simp at this; omega
  obtain ⟨b, off, rfl, -, -⟩ := h.2 hn
  by_cases hc1 : c = 1
  · refine ⟨b, off, _, rfl, if_pos hc1, rfl, Lib.hid fun V hV => ?_⟩
    have := pr_drop hV hn hc
    rw [if_pos hc1] at this
    exact this
  · refine ⟨b, off, _, rfl, if_neg hc1, rfl, Lib.hid fun V hV => ?_⟩
    have := pr_drop hV hn hc
    rw [if_neg hc1] at this
    simpa [Addr.add] using this
/-- flows whose row lies from block lo on, and whose packets lie below block W -/
structure FX (w : World) (X : Nat → Prop) (lo : Nat) (A : Option Addr) (n : Nat) (hs : List Fh) (fs : List Flw) : Prop where
  hr : HR w A n hs
  far : 0 < n → ∀ b, A.map (·.block) = some b → lo ≤ b
  wl : WL w X hs fs
  few : n ≤ 4000000000
theorem fx_set {w : World} {X : Nat → Prop} {lo n : Nat} {A : Option Addr} {hs : List Fh} {fs : List Flw} (h : FX w X lo A n hs fs) {p : Addr} (h1 : ¬ X p.block) (h2 : p.block < lo) (u : Value) : FX (w.setCell p u) X lo A n hs fs := by
  have hg := g_set (g_refl w (some p.block)) (p := p) (.inl rfl) u
  exact ⟨hr_grown h.hr hg fun hn b hb e => by have := h.far hn b hb; injection e with e; omega, h.far, wl_grown h.wl hg fun b hb e => by injection e with e; exact h1 (by rw [← e]; exact hb), h.few⟩
theorem fx_drew {w : World} {X : Nat → Prop} {lo n : Nat} {A : Option Addr} {hs : List Fh} {fs : List Flw} (h : FX w X lo A n hs fs) : FX w.drew X lo A n hs fs := ⟨hr_below h.hr (Below.refl _ _).drew, h.far, wl_below h.wl (Below.refl _ _).drew, h.few⟩
theorem fx_fr {w : World} {X : Nat → Prop} {lo n : Nat} {A : Option Addr} {hs : List Fh} {fs : List Flw} (h : FX w X lo A n hs fs) : FRX w (fun b => X b ∨ lo ≤ b) A n fs := ⟨hs, h.hr, fun hn b hb => .inr (h.far hn b hb), wl_mono h.wl fun _ hb => .inl hb, h.few⟩
theorem fx_own {w : World} {X : Nat → Prop} {lo g n c : Nat} {hs : List Fh} {fs : List Flw} (ho : w.ownsRow lo 40 3 (.slice (some ⟨g, 0, none⟩) n c) n (fcells hs)) (hw : WL w X hs fs) (hn : n ≤ 4000000000) : FX w X lo (some ⟨g, 0, none⟩) n hs fs :=
  ⟨hr_own ho, fun _ b hb => by have := (ho.lt g rfl).1; simp at hb; omega, hw, hn⟩
/-- the flows behind the first one: the walk's if -/
theorem tail_ofF {W : World} {g n c lo : Nat} {h : Fh} {hs : List Fh} (ho : W.ownsRow lo 40 3 (.slice (some ⟨g, 0, none⟩) n c) n (fcells (h :: hs))) :
    ∃ A1 : Addr, (if c = 1 then (some ⟨g, 0, none⟩ : Option Addr) else some ⟨g, 3, none⟩) = some A1 ∧ A1.block = g ∧ Hid (∀ V, HR V (some ⟨g, 0, none⟩) n (h :: hs) → HR V (some A1) (n - 1) hs) := by
  have hl : n = hs.length + 1 := by have := ho.1; rw [fcells_len] at this; simp at this; omega
  obtain ⟨A', c', hv, hnc, hcm, -⟩ := own_form ho
  obtain rfl : c = c' := by injection hv
  by_cases hc1 : c = 1
  · refine ⟨_, if_pos hc1, rfl, Lib.hid fun V hV => ?_⟩
    have := hr_drop hV (k := 1) (by omega) hnc
    rw [if_pos hc1] at this
    exact this
  · refine ⟨_, if_neg hc1, rfl, Lib.hid fun V hV => ?_⟩
    have := hr_drop hV (k := 1) (by omega) hnc
    rw [if_neg hc1] at this
    simpa [Addr.add] using this
def NxPost (w : World) (X : Nat → Prop) (q : Int) (fs : List Flw) (e : Ending) (w' : World) : Prop :=
  ∃ A n c, e = .returned (.tuple #[.agg #[.int .i64 q, (.slice A n c)], .agg #[.int .i64 (nxP q fs).peer, .int .i64 (nxP q fs).lane, .int .i64 (nxP q fs).size, .int .i64 (nxP q fs).id]]) ∧ FRX w' (fun b => X b ∨ w.heap.size ≤ b) A n (nxL q fs) ∧ Below w.heap.size w w'
/-- what is known when the packet is taken out of the first flow -/
structure Tk (w : World) (X : Nat → Prop) (q : Int) (A : Option Addr) (n c g c2 pb : Nat) (p : Pkt) (h : Fh) (hr : List Fh) (r : List Flw) (V : World) : Prop where
  row : V.ownsRow (w.heap.size + 3) 40 3 (.slice (some ⟨g, 0, none⟩) n c2) n (fcells (h :: hr))
  wl : WL V X hr r
  hX : ∀ b, X b → b < w.heap.size
  fm : Fm w [⟨w.heap.size, w.heap.size + 1, BoxP w.heap.size 25 #[.int .i64 q, (.slice A n c)]⟩, ⟨w.heap.size + 1, w.heap.size + 2, BoxP (w.heap.size + 1) 25 #[.int .i64 0, (.slice none 0 0)]⟩, ⟨w.heap.size + 2, w.heap.size + 3, BoxP (w.heap.size + 2) 28 #[.int .i64 0, .int .i64 0, .int .i64 0, .int .i64 0]⟩] V
  pk : Blk V pb 28 #[.int .i64 p.peer, .int .i64 p.lane, .int .i64 p.size, .int .i64 p.id]
  ne : pb ≠ g
  lo : w.heap.size + 3 ≤ pb
theorem tk_below {w V V2 : World} {X : Nat → Prop} {q : Int} {A : Option Addr} {n c g c2 pb : Nat} {p : Pkt} {h : Fh} {hr : List Fh} {r : List Flw} (T : Tk w X q A n c g c2 pb p h hr r V) (hb : Below V.heap.size V V2) : Tk w X q A n c g c2 pb p h hr r V2 :=
  ⟨own_below T.row hb, wl_below T.wl hb, T.hX, fm_below T.fm hb, blk_below T.pk hb (blk_lt T.pk), T.ne, T.lo⟩
theorem fm_grown3 {w w1 w2 : World} {q : Int} {A : Option Addr} {n c g : Nat} (h : Fm w [⟨w.heap.size, w.heap.size + 1, BoxP w.heap.size 25 #[.int .i64 q, (.slice A n c)]⟩, ⟨w.heap.size + 1, w.heap.size + 2, BoxP (w.heap.size + 1) 25 #[.int .i64 0, (.slice none 0 0)]⟩, ⟨w.heap.size + 2, w.heap.size + 3, BoxP (w.heap.size + 2) 28 #[.int .i64 0, .int .i64 0, .int .i64 0, .int .i64 0]⟩] w1) (hg : w1.grownBy w2 (some g)) (h3 : w.heap.size + 3 ≤ g) :
    Fm w [⟨w.heap.size, w.heap.size + 1, BoxP w.heap.size 25 #[.int .i64 q, (.slice A n c)]⟩, ⟨w.heap.size + 1, w.heap.size + 2, BoxP (w.heap.size + 1) 25 #[.int .i64 0, (.slice none 0 0)]⟩, ⟨w.heap.size + 2, w.heap.size + 3, BoxP (w.heap.size + 2) 28 #[.int .i64 0, .int .i64 0, .int .i64 0, .int .i64 0]⟩] w2 :=
  fm_grownO h hg fun b e => ⟨by injection e with e; omega, fun x hx => by
    injection e with e
    simp only [List.mem_cons, List.not_mem_nil, or_false] at hx
    rcases hx with rfl | rfl | rfl <;> (simp only; omega)⟩
theorem tk_store {w V : World} {X : Nat → Prop} {q : Int} {A : Option Addr} {n c g c2 pb : Nat} {p : Pkt} {h : Fh} {hr : List Fh} {r : List Flw} (T : Tk w X q A n c g c2 pb p h hr r V) (k : Nat) (u : Value) (h2 : Fh) (he : (fcells (h :: hr)).set k u = fcells (h2 :: hr)) : Tk w X q A n c g c2 pb p h2 hr r (V.setCell ⟨g, k, none⟩ u) := by
  have hg := g_set (g_refl V (some g)) (p := ⟨g, k, none⟩) (.inl rfl) u
  have h3 := (T.row.lt g rfl).1
  refine ⟨?_, wl_grown T.wl hg fun b hb e => by have := T.hX b hb; injection e with e; omega, T.hX, fm_grown3 T.fm hg h3, blk_far T.pk T.ne u, T.ne, T.lo⟩
  have := (T.row.stored k u).1
  rw [he] at this
  exact this
theorem pr_move {w V : World} {A : Option Addr} {n : Nat} {ps : List Pkt} (h : PR w A n ps) (hb : 0 < n → ∀ b, A.map (·.block) = some b → b < V.heap.size ∧ V.heap[b]? = w.heap[b]?) : PR V A n ps :=
  ⟨h.1, fun hn => by
    obtain ⟨b, off, rfl, hlt, hc⟩ := h.2 hn
    obtain ⟨h1, h2⟩ := hb hn b rfl
    exact ⟨b, off, rfl, h1, fun k p hp => pat_keep (hc k p hp) fun x => by simp only [World.cell?, h2]⟩⟩
theorem blk_fourR {w : World} {b : Nat} {t : TypeId} {x y z u : Value} (h : Blk w b t #[x, y, z, u]) : (w.cell? ⟨b, 0, none⟩ = some x ∧ w.cell? ⟨b, 1, none⟩ = some y ∧ w.cell? ⟨b, 2, none⟩ = some z ∧ w.cell? ⟨b, 3, none⟩ = some u) ∧ w.frozen? ⟨b, 0, none⟩ = false ∧ w.frozen? ⟨b, 1, none⟩ = false ∧ w.frozen? ⟨b, 2, none⟩ = false ∧ w.frozen? ⟨b, 3, none⟩ = false :=
  ⟨⟨blk_cell h 0, blk_cell h 1, blk_cell h 2, blk_cell h 3⟩, blk_free h 0, blk_free h 1, blk_free h 2, blk_free h 3⟩
set_option maxHeartbeats 4000000 in
theorem takeI_any (X : Nat → Prop) (q : Int) (A : Option Addr) (n c : Nat) (fs : List Flw) (w : World) (h : FRX w X A n fs) (hX : ∀ b, X b → b < w.heap.size) (hv : RV q fs) (h0 : fs ≠ []) :
    Calls Try.prog 50 #[.agg #[.int .i64 q, (.slice A n c)]] w (NxPost w X q fs) := by
  obtain ⟨f, r, p, ws, N⟩ := nexted_is hv h0
  obtain ⟨hs, hh, -, hw, n4⟩ := h
  have hl : fs.length = n := by rw [← hw.1]; exact hh.1
  have hn0 : 0 < n := by
    rcases Nat.eq_zero_or_pos n with e | e
    · exact absurd (List.eq_nil_of_length_eq_zero (by omega)) h0
    · exact e
  have HN := Lib.hid N
  have H := Lib.hid hh
  have W := Lib.hid hw
  have HV := Lib.hid (And.intro hv h0)
  have F := Lib.hid (fm_three w 25 25 28 #[.int .i64 q, (.slice A n c)] #[.int .i64 0, (.slice none 0 0)] #[.int .i64 0, .int .i64 0, .int .i64 0, .int .i64 0])
  clear hh hw hv h0 hl N
  go_enter Try.func50, Try.ntmps50
  go_wp2_with fail
  refine (cloneF_any A n c hs _ (hr_below H.out F.out.below) n4).mono ?_
  rintro e w1 ⟨A2, c2, rfl, ho1, hb1⟩
  obtain ⟨g, cap, hv2, hg1, hg2⟩ := ho1.form hn0
  obtain ⟨rfl, rfl⟩ : A2 = some ⟨g, 0, none⟩ ∧ c2 = cap := by injection hv2 with a1 a2 a3; exact ⟨a1, a3⟩
  have F1 := Lib.hid (fm_below F.out hb1)
  have z1 : w.heap.size + 3 ≤ g := by simpa using hg1
  have O1 := Lib.hid (own_mono (b2 := w.heap.size + 3) ho1 (by simp))
  have W1 := Lib.hid (wl_below W.out F1.out.below)
  obtain ⟨g0, g1, -⟩ := blk_two (fm_blk F1.out 0 rfl)
  have zb := blk_lt (fm_blk F1.out 0 rfl)
  clear hb1 ho1 hv2 F hg1 hg2
  go_wp2_with fail
  refine (begI_any (w.heap.size + 3) g n c2 q X hs fs _ O1.out W1.out (fun b hb => by have := hX b hb; omega) HV.out.1 HV.out.2 n4).mono ?_
  rintro e w2 ⟨rfl, hs2, ho2, hw2, hg2⟩
  rw [HN.out.t.is] at hw2
  have hlen := hw2.1
  cases hs2 with
  | nil => simp at hlen
  | cons h hr =>
    have F2 := Lib.hid (fm_grown3 F1.out hg2 z1)
    have O2 := Lib.hid ho2
    have W2 := Lib.hid hw2
    have hwh := (wl_head hw2).1
    obtain ⟨b, off, h', e1, -, hh, c0, c1, c2c⟩ := hr_at (k := 0) (hr_own ho2) hn0
    obtain ⟨rfl, rfl⟩ : g = b ∧ 0 = off := by injection e1 with e1; injection e1 with a1 a2; exact ⟨a1, a2⟩
    obtain rfl : h = h' := by simpa using hh
    simp only [Nat.zero_mul, Nat.zero_add] at c0 c1 c2c
    have hg : g < w2.heap.size := (ho2.lt g rfl).2
    have f0 := World.ownsRow.frozenAt ho2 0
    have f1 := World.ownsRow.frozenAt ho2 1
    have f2 := World.ownsRow.frozenAt ho2 2
    obtain ⟨x, d, A1, n1, c1'⟩ := h
    obtain ⟨x', d', ws'⟩ := f
    obtain rfl : x = x' := hwh.peer
    obtain rfl : d = d' := hwh.dfc
    obtain rfl : ws' = p :: ws := HN.out.hw
    have hn1 : n1 ≤ 4000000000 := hwh.few
    have hc1 : n1 ≤ c1' := hwh.cap
    have hl1 : n1 = ws.length + 1 := by have := hwh.pr.1; simpa using this.symm
    have hle := HN.out.le
    have hs1 := HN.out.s1
    have hs2 := HN.out.s2
    have hd1 := (rv_head HN.out.t.rv).1.d1
    have hq1 := HN.out.t.rv.q1
    simp only at c0 c1 c2c hle hd1
    obtain ⟨b1, off1, A1', rfl, hA1, hA1b, hP1⟩ := tail_ofR hwh.pr hc1
    have hpr : PR w2 (some ⟨b1, off1, none⟩) n1 (p :: ws) := hwh.pr
    have hPR := Lib.hid hpr
    obtain ⟨b1', off1', p', e2, hb1, hp', p0, p1, p2, p3⟩ := pr_at (k := 0) hpr (by omega)
    have HL1 := Lib.hid hl1
    obtain ⟨rfl, rfl⟩ : b1 = b1' ∧ off1 = off1' := by injection e2 with e2; injection e2 with a1 a2; exact ⟨a1, a2⟩
    obtain rfl : p = p' := by simpa using hp'
    simp only [Nat.zero_mul, Nat.add_zero] at p0 p1 p2 p3
    have y1 : IntKind.i64.wrap (d - p.size) = d - p.size := IntWalk.i64_in _ (by omega)
    have y2 : (0 : Int) < (n1 : Int) := by omega
    have y3 : (1 : Int) ≤ (n1 : Int) := by omega
    have y4 : (0 : Int) < (n : Int) := by omega
    have T : Hid (Tk w X q A n c g c2 w2.heap.size p ⟨x, d - p.size, some A1', n1 - 1, c1' - 1⟩ hr r (((w2.setCell ⟨g, 2, none⟩ (.slice (some A1') (n1 - 1) (c1' - 1))).setCell ⟨g, 1, none⟩ (.int .i64 (d - p.size))).alloc (.cells #[.int .i64 p.peer, .int .i64 p.lane, .int .i64 p.size, .int .i64 p.id] 28)).drew) := Lib.hid (by
      have G := g_set (g_set (g_refl w2 (some g)) (p := ⟨g, 2, none⟩) (.inl rfl) (.slice (some A1') (n1 - 1) (c1' - 1))) (p := ⟨g, 1, none⟩) (.inl rfl) (.int .i64 (d - p.size))
      have R2 := ((O2.out.stored 2 (.slice (some A1') (n1 - 1) (c1' - 1))).1.stored 1 (.int .i64 (d - p.size))).1
      have B := (below_alloc (Below.refl ((w2.setCell ⟨g, 2, none⟩ (.slice (some A1') (n1 - 1) (c1' - 1))).setCell ⟨g, 1, none⟩ (.int .i64 (d - p.size))).heap.size _) (.cells #[.int .i64 p.peer, .int .i64 p.lane, .int .i64 p.size, .int .i64 p.id] 28)).drew
      exact ⟨own_below R2 B, wl_below (wl_grown (wl_head W2.out).2 G fun b hb e => by have := hX b hb; injection e with e; omega) B, hX, fm_below (fm_grown3 F2.out G z1) B, blk_drewN (blk_at (by simp) _ _) 1, by omega, by omega⟩)
    have TP : Hid (∀ V, Below w.heap.size w V → PR V (some A1') (n1 - 1) ws) := Lib.hid fun V hV => hP1.out V (pr_move hPR.out fun hn b hb => by
      have hlt := hX b ((wl_head W2.out).1.far hn b hb)
      exact ⟨Nat.lt_of_lt_of_le hlt hV.size, (hV.block b hlt).trans (F2.out.below.block b hlt).symm⟩)
    have HF : Hid (X A1'.block) := Lib.hid (by rw [hA1b]; exact (wl_head W2.out).1.far (by simp only; omega) b1 rfl)
    clear hg2 ho2 hw2 hlen hwh e1 hh e2 hp' g0 g1 hl1
    go_wp2_with fail
    go_region
    clear c0 c1 c2c f0 f1 f2 hb1 p0 p1 p2 p3 y1 y2 y3 hg O2 W2 F2 O1 W1 F1 hA1 zb hpr
    generalize (((w2.setCell ⟨g, 2, none⟩ (.slice (some A1') (n1 - 1) (c1' - 1))).setCell ⟨g, 1, none⟩ (.int .i64 (d - p.size))).alloc (.cells #[.int .i64 p.peer, .int .i64 p.lane, .int .i64 p.size, .int .i64 p.id] 28)).drew = V at T ⊢
    obtain ⟨b, off, h', e1, -, hh, c0, c1, c2c⟩ := hr_at (k := 0) (hr_own T.out.row) hn0
    obtain ⟨rfl, rfl⟩ : g = b ∧ 0 = off := by injection e1 with e1; injection e1 with a1 a2; exact ⟨a1, a2⟩
    obtain rfl : (⟨x, d - p.size, some A1', n1 - 1, c1' - 1⟩ : Fh) = h' := by simpa using hh
    simp only [Nat.zero_mul, Nat.zero_add] at c0 c1 c2c
    have zg : g < V.heap.size := (T.out.row.lt g rfl).2
    have zp := blk_lt T.out.pk
    have ZL := Lib.hid T.out.lo
    have HPV := Lib.hid (TP.out V T.out.fm.below)
    have y5 : (1 : Int) ≤ (n : Int) := by omega
    clear e1 hh
    by_cases h0 : ws.length = 0
    · have hz : (((n1 - 1 : Nat) : Int) == 0) = true := by have := HL1.out; simp; omega
      have HE := Lib.hid (show nxL q fs = r by rw [HN.out.isL, if_pos h0])
      obtain ⟨A2', hA2, hA2b, hP2⟩ := tail_ofF T.out.row
      have hyc : 1 ≤ c2 := by
        obtain ⟨A', c', hv, hnc, -, -⟩ := own_form T.out.row
        obtain rfl : c2 = c' := by injection hv
        omega
      have XF : Hid (FX V X (w.heap.size + 3) (some A2') (n - 1) hr r) := Lib.hid ⟨hP2.out V (hr_own T.out.row), fun _ b hb => by have := (T.out.row.lt g rfl).1; simp at hb; omega, T.out.wl, by omega⟩
      clear h0
      obtain ⟨g0, g1, -⟩ := blk_two (fm_blk T.out.fm 0 rfl)
      obtain ⟨o0, o1, of0, of1⟩ := blk_two (fm_blk T.out.fm 1 rfl)
      obtain ⟨⟨k0, k1, k2, k3⟩, kf0, kf1, kf2, kf3⟩ := blk_fourR (fm_blk T.out.fm 2 rfl)
      obtain ⟨⟨p0, p1, p2, p3⟩, -⟩ := blk_fourR T.out.pk
      have zl1 : w.heap.size + 1 < w2.heap.size := by have := ZL.out; omega
      have zl2 : w.heap.size + 2 < w2.heap.size := by have := ZL.out; omega
      have zb0 := blk_lt (fm_blk T.out.fm 0 rfl)
      have zb1 := blk_lt (fm_blk T.out.fm 1 rfl)
      have zb2 := blk_lt (fm_blk T.out.fm 2 rfl)
      go_wp2_with fail
      go_region
      all_goals
        go_wp2
        refine bodyPost_ret (v := .tuple #[.agg #[.int .i64 q, (.slice (some A2') (n - 1) (c2 - 1))], .agg #[.int .i64 p.peer, .int .i64 p.lane, .int .i64 p.size, .int .i64 p.id]]) (by simp [results, Try.results50, go_sem, o0, o1, k0, k1, k2, k3]) rfl ⟨_, _, _, by rw [HN.out.isP], ?_, ?_⟩
        · rw [HE.out]
          refine frx_mono (fx_fr (X := X) (lo := w.heap.size + 3) (hs := hr) ?_) (fun b hb => hb.imp id fun h => by omega)
          refine fx_drew ?_
          iterate 6 (with_reducible refine fx_set ?_ (fun hx => by have := hX _ hx; simp at this; omega) (by simp <;> omega) _)
          exact XF.out
        · refine Below.drew ?_
          iterate 6 (with_reducible refine Below.setCell ?_ (by simp <;> omega) _)
          exact T.out.fm.below
    · have hz : (((n1 - 1 : Nat) : Int) == 0) = false := by have := HL1.out; simp; omega
      have hpos : 0 < n1 - 1 := by have := HL1.out; omega
      have WV : Hid (WL V X (⟨x, d - p.size, some A1', n1 - 1, c1' - 1⟩ :: hr) (spend ⟨x, d, p :: ws⟩ p ws :: r)) := Lib.hid (wl_cons T.out.wl ⟨rfl, rfl, HPV.out, by simp only; omega, by simp only; omega, fun _ b hb => by obtain rfl : A1'.block = b := Option.some.inj hb; exact HF.out⟩)
      have HI := Lib.hid (show nxL q fs = if may (spend ⟨x, d, p :: ws⟩ p ws) = true then spend ⟨x, d, p :: ws⟩ p ws :: r else r ++ [spend ⟨x, d, p :: ws⟩ p ws] by rw [HN.out.isL, if_neg h0])
      clear h0
      go_wp2_with fail
      refine (mayI_any x (d - p.size) ws (some A1') (n1 - 1) (c1' - 1) _ HPV.out hpos (by omega)).mono ?_
      rintro e w3 ⟨rfl, hb3⟩
      have T3 := Lib.hid (tk_below T.out hb3)
      have W3 := Lib.hid (wl_below WV.out hb3)
      have zg3 : g < w3.heap.size := Nat.lt_of_lt_of_le zg hb3.size
      have zp3 := blk_lt T3.out.pk
      clear hb3 c0 c1 c2c zg zp T HPV WV
      rcases hm : may ⟨x, d - p.size, ws⟩ with _ | _
      · have HE : Hid (nxL q fs = r ++ [spend ⟨x, d, p :: ws⟩ p ws]) := Lib.hid (by rw [HI.out, show may (spend ⟨x, d, p :: ws⟩ p ws) = false from hm]; rfl)
        clear hm
        go_wp2_with fail
        refine (moveI_any (w.heap.size + 3) g n c2 _ hr _ T3.out.row n4).mono ?_
        rintro e w5 ⟨rfl, ho5, hg5⟩
        have z5 := (ho5.lt g rfl).1
        have T : Hid (Fm w [⟨w.heap.size, w.heap.size + 1, BoxP w.heap.size 25 #[.int .i64 q, (.slice A n c)]⟩, ⟨w.heap.size + 1, w.heap.size + 2, BoxP (w.heap.size + 1) 25 #[.int .i64 0, (.slice none 0 0)]⟩, ⟨w.heap.size + 2, w.heap.size + 3, BoxP (w.heap.size + 2) 28 #[.int .i64 0, .int .i64 0, .int .i64 0, .int .i64 0]⟩] w5) := Lib.hid (fm_grown3 T3.out.fm hg5 z5)
        have PK : Hid (Blk w5 w2.heap.size 28 #[.int .i64 p.peer, .int .i64 p.lane, .int .i64 p.size, .int .i64 p.id]) := Lib.hid (blk_grownQ T3.out.pk hg5 (fun e => T3.out.ne (by injection e)))
        have hw5 := wl_grown W3.out hg5 (fun b hb e => by have := hX b hb; injection e with e; omega)
        have XF : Hid (FX w5 X (w.heap.size + 3) (some ⟨g, 0, none⟩) n (hr ++ [⟨x, d - p.size, some A1', n1 - 1, c1' - 1⟩]) (r ++ [spend ⟨x, d, p :: ws⟩ p ws])) := Lib.hid (fx_own ho5 (wl_snoc (wl_head hw5).2 (wl_head hw5).1) n4)
        clear ho5 hg5 hw5
        obtain ⟨g0, g1, -⟩ := blk_two (fm_blk T.out 0 rfl)
        obtain ⟨o0, o1, of0, of1⟩ := blk_two (fm_blk T.out 1 rfl)
        obtain ⟨⟨k0, k1, k2, k3⟩, kf0, kf1, kf2, kf3⟩ := blk_fourR (fm_blk T.out 2 rfl)
        obtain ⟨⟨p0, p1, p2, p3⟩, -⟩ := blk_fourR PK.out
        have zl1 : w.heap.size + 1 < w2.heap.size := by have := ZL.out; omega
        have zl2 : w.heap.size + 2 < w2.heap.size := by have := ZL.out; omega
        have zb0 := blk_lt (fm_blk T.out 0 rfl)
        have zb1 := blk_lt (fm_blk T.out 1 rfl)
        have zb2 := blk_lt (fm_blk T.out 2 rfl)
        have zp5 := blk_lt PK.out
        go_wp2_with fail
        go_region
        all_goals
          go_wp2
          refine bodyPost_ret (v := .tuple #[.agg #[.int .i64 q, (.slice (some ⟨g, 0, none⟩) n c2)], .agg #[.int .i64 p.peer, .int .i64 p.lane, .int .i64 p.size, .int .i64 p.id]]) (by simp [results, Try.results50, go_sem, o0, o1, k0, k1, k2, k3]) rfl ⟨_, _, _, by rw [HN.out.isP], ?_, ?_⟩
          · rw [HE.out]
            refine frx_mono (fx_fr (X := X) (lo := w.heap.size + 3) (hs := hr ++ [⟨x, d - p.size, some A1', n1 - 1, c1' - 1⟩]) ?_) (fun b hb => hb.imp id fun h => by omega)
            refine fx_drew ?_
            iterate 6 (with_reducible refine fx_set ?_ (fun hx => by have := hX _ hx; simp at this; omega) (by simp <;> omega) _)
            exact XF.out
          · refine Below.drew ?_
            iterate 6 (with_reducible refine Below.setCell ?_ (by simp <;> omega) _)
            exact T.out.below
      · have HE : Hid (nxL q fs = spend ⟨x, d, p :: ws⟩ p ws :: r) := Lib.hid (by rw [HI.out, show may (spend ⟨x, d, p :: ws⟩ p ws) = true from hm]; rfl)
        have XF : Hid (FX w3 X (w.heap.size + 3) (some ⟨g, 0, none⟩) n (⟨x, d - p.size, some A1', n1 - 1, c1' - 1⟩ :: hr) (spend ⟨x, d, p :: ws⟩ p ws :: r)) := Lib.hid (fx_own T3.out.row W3.out n4)
        clear hm
        obtain ⟨g0, g1, -⟩ := blk_two (fm_blk T3.out.fm 0 rfl)
        obtain ⟨o0, o1, of0, of1⟩ := blk_two (fm_blk T3.out.fm 1 rfl)
        obtain ⟨⟨k0, k1, k2, k3⟩, kf0, kf1, kf2, kf3⟩ := blk_fourR (fm_blk T3.out.fm 2 rfl)
        obtain ⟨⟨p0, p1, p2, p3⟩, -⟩ := blk_fourR T3.out.pk
        have zl1 : w.heap.size + 1 < w2.heap.size := by have := ZL.out; omega
        have zl2 : w.heap.size + 2 < w2.heap.size := by have := ZL.out; omega
        have zb0 := blk_lt (fm_blk T3.out.fm 0 rfl)
        have zb1 := blk_lt (fm_blk T3.out.fm 1 rfl)
        have zb2 := blk_lt (fm_blk T3.out.fm 2 rfl)
        go_wp2_with fail
        go_region
        all_goals
          go_wp2
          refine bodyPost_ret (v := .tuple #[.agg #[.int .i64 q, (.slice (some ⟨g, 0, none⟩) n c2)], .agg #[.int .i64 p.peer, .int .i64 p.lane, .int .i64 p.size, .int .i64 p.id]]) (by simp [results, Try.results50, go_sem, o0, o1, k0, k1, k2, k3]) rfl ⟨_, _, _, by rw [HN.out.isP], ?_, ?_⟩
          · rw [HE.out]
            refine frx_mono (fx_fr (X := X) (lo := w.heap.size + 3) (hs := ⟨x, d - p.size, some A1', n1 - 1, c1' - 1⟩ :: hr) ?_) (fun b hb => hb.imp id fun h => by omega)
            refine fx_drew ?_
            iterate 6 (with_reducible refine fx_set ?_ (fun hx => by have := hX _ hx; simp at this; omega) (by simp <;> omega) _)
            exact XF.out
          · refine Below.drew ?_
            iterate 6 (with_reducible refine Below.setCell ?_ (by simp <;> omega) _)
            exact T3.out.fm.below
end Go.Proofs.Ytehokkijfgiggaa
