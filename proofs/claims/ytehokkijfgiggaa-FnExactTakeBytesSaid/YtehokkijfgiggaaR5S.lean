/-
  Chapter 5: turns: what the model's l5Next returns. Conditions: the robin is valid and has flows.
-/
import Derived.Test.YtehokkijfgiggaaR5b
import Derived.Test.YtehokkijfgiggaaR4S
import Derived.Deep.CutBlock
namespace Go.Proofs.Ytehokkijfgiggaa
open Go.RowKit

def LX (lo M g0 : Nat) : Nat → Prop := fun b => lo ≤ b ∧ b < M ∧ b ≠ g0
theorem do_wl {w : World} {lo g0 n c : Nat} {hs : List Fh} {fs : List Flw} (D : DO w lo (.slice (some ⟨g0, 0, none⟩) n c) n hs fs) : WL w (LX lo w.heap.size g0) hs fs := by
  refine ⟨D.len, fun k h f h1 h2 => ?_⟩
  obtain ⟨e1, e2, e3, e4, e5⟩ := D.all k h f h1 h2
  have hp := pr_own (A := h.A) (n := h.n) (c := h.c) e4
  obtain ⟨A', c', hv, hc, _, _⟩ := own_form e4
  obtain ⟨-, -, rfl⟩ : h.A = A' ∧ True ∧ h.c = c' := by unfold Fh.sl at hv; injection hv with a1 a2 a3; exact ⟨a1, trivial, a3⟩
  refine ⟨e1, e2, hp, hc, e3, fun hn b hb => ?_⟩
  have hown : h.sl.ownBlock = some b := ?_
  · exact ⟨(e4.lt b hown).1, pr_old hp hn b hb, fun e => e5 b hown (by rw [e]; rfl)⟩
  unfold Fh.sl
  rcases hA : h.A with _ | a
  · rw [hA] at hb; cases hb
  · rw [hA] at hb
    have : a.block = b := by simpa using hb
    simp [Value.ownBlock, this]
def bx3 (w : World) (q : Int) (A : Option Addr) (n c : Nat) : List Iv := [⟨w.heap.size, w.heap.size + 1, BoxP w.heap.size 25 #[.int .i64 q, (.slice A n c)]⟩, ⟨w.heap.size + 1, w.heap.size + 2, BoxP (w.heap.size + 1) 25 #[.int .i64 0, (.slice none 0 0)]⟩, ⟨w.heap.size + 2, w.heap.size + 3, BoxP (w.heap.size + 2) 28 #[.int .i64 0, .int .i64 0, .int .i64 0, .int .i64 0]⟩]
theorem bx3_hi {w : World} {q : Int} {A : Option Addr} {n c g : Nat} (h : w.heap.size + 3 ≤ g) : ∀ x ∈ bx3 w q A n c, x.hi ≤ g := fun x hx => by
  simp only [bx3, List.mem_cons, List.not_mem_nil, or_false] at hx
  rcases hx with rfl | rfl | rfl <;> (simp only; omega)
/-- the copy that takes its turns: boxes, the copy's own box at M, its flows (at first at block g0), their packets -/
structure LnW (w : World) (q : Int) (A : Option Addr) (n c M g0 m : Nat) (Ao : Option Addr) (co : Nat) (hs : List Fh) (fs : List Flw) (wr : World) : Prop where
  row : wr.ownsRow (w.heap.size + 3) 40 3 (.slice Ao m co) m (fcells hs)
  wl : WL wr (LX (w.heap.size + 3) M g0) hs fs
  fm : Fm w (bx3 w q A n c) wr
  out : Blk wr M 25 #[.int .i64 q, (.slice Ao m co)]
  sep : ∀ b, Value.ownBlock (.slice Ao m co) = some b → b = g0 ∨ M < b
  z : w.heap.size + 3 ≤ g0 ∧ g0 < M
theorem ln_below {w w1 w2 : World} {q : Int} {A Ao : Option Addr} {n c M g0 m co : Nat} {hs : List Fh} {fs : List Flw} (h : LnW w q A n c M g0 m Ao co hs fs w1) (hb : Below w1.heap.size w1 w2) : LnW w q A n c M g0 m Ao co hs fs w2 :=
  ⟨own_below h.row hb, wl_below h.wl hb, fm_below h.fm hb, blk_below h.out hb (blk_lt h.out), h.sep, h.z⟩
theorem ln_drewN {w w1 : World} {q : Int} {A Ao : Option Addr} {n c M g0 m co : Nat} {hs : List Fh} {fs : List Flw} (h : LnW w q A n c M g0 m Ao co hs fs w1) (k : Nat) : LnW w q A n c M g0 m Ao co hs fs (w1.drewN k) := ln_below h (below_drewN (Below.refl _ _) k)
/-- a store into the row -/
theorem ln_set {w w1 : World} {q : Int} {A : Option Addr} {n c M g0 g m co : Nat} {h h2 : Fh} {hr : List Fh} {f f2 : Flw} {r : List Flw} (B : LnW w q A n c M g0 m (some ⟨g, 0, none⟩) co (h :: hr) (f :: r) w1) (e0 : h2.peer = f2.peer) (e1 : h2.dfc = f2.dfc) (e2 : h2.A = h.A) (e3 : h2.n = h.n) (e4 : h2.c = h.c) (e5 : f2.ws = f.ws) :
    LnW w q A n c M g0 m (some ⟨g, 0, none⟩) co (h2 :: hr) (f2 :: r) (((w1.setCell ⟨g, 0, none⟩ (.int .i64 h2.peer)).setCell ⟨g, 1, none⟩ (.int .i64 h2.dfc)).setCell ⟨g, 2, none⟩ (.slice h2.A h2.n h2.c)) := by
  have hg := B.sep g rfl
  have hlo := (B.row.lt g rfl).1
  have G := g_set (g_set (g_set (g_refl w1 (some g)) (p := ⟨g, 0, none⟩) (.inl rfl) (.int .i64 h2.peer)) (p := ⟨g, 1, none⟩) (.inl rfl) (.int .i64 h2.dfc)) (p := ⟨g, 2, none⟩) (.inl rfl) (.slice h2.A h2.n h2.c)
  have hz := B.z
  have hw := wl_grown B.wl G fun b hb e => by injection e with e; subst e; rcases hg with e | e; exact hb.2.2 e; have := hb.2.1; omega
  have hh := wl_head hw
  refine ⟨?_, wl_cons hh.2 ⟨e0, e1, ?_, by rw [e3, e4]; exact hh.1.cap, by rw [e3]; exact hh.1.few, by rw [e2, e3]; exact hh.1.far⟩, fm_grownO B.fm G fun b e => ⟨by injection e with e; omega, bx3_hi (by injection e with e; omega)⟩, blk_grownQ B.out G (fun e => by injection e with e; omega), B.sep, B.z⟩
  · have h1 := (B.row.stored 0 (.int .i64 h2.peer)).1
    have h3 := (h1.stored 1 (.int .i64 h2.dfc)).1
    exact (h3.stored 2 (.slice h2.A h2.n h2.c)).1
  · rw [e5]; have := hh.1.pr; rw [e2, e3, e4]; rw [e2, e3, e4] at this; exact this
/-- another row in the place of the row -/
theorem ln_new {w w1 w7 : World} {q : Int} {A Ao A7 : Option Addr} {n c M g0 m m7 co c7 s : Nat} {hs hs7 : List Fh} {fs fs7 : List Flw} (B : LnW w q A n c M g0 m Ao co hs fs w1) (hb : Below w1.heap.size w1 w7) (ho : w7.ownsRow s 40 3 (.slice A7 m7 c7) m7 (fcells hs7)) (hs' : w1.heap.size ≤ s) (hw : WL w7 (LX (w.heap.size + 3) M g0) hs7 fs7) :
    LnW w q A n c M g0 m7 A7 c7 hs7 fs7 (w7.setCell ⟨M, 1, none⟩ (.slice A7 m7 c7)) := by
  have hM := blk_lt B.out
  have hz := B.z
  have G := g_set (g_refl w7 (some M)) (p := ⟨M, 1, none⟩) (.inl rfl) (.slice A7 m7 c7)
  have hnew : ∀ b, Value.ownBlock (.slice A7 m7 c7) = some b → M < b := fun b e => by have := (ho.lt b e).1; omega
  refine ⟨own_mono (own_set_ne ho (fun e => by have := hnew M e; omega) _) (by omega), wl_grown hw G fun b hb e => by injection e with e; have := hb.2.1; omega, fm_grownO (fm_below B.fm hb) G fun b e => ⟨by injection e with e; omega, bx3_hi (by injection e with e; omega)⟩, blk_set (blk_below B.out hb hM) 1 _, fun b e => .inr (hnew b e), B.z⟩
structure LnR (w : World) (q : Int) (A : Option Addr) (n c M g0 : Nat) (T : List Flw) (m : Nat) (Ao : Option Addr) (co : Nat) (hs : List Fh) (fs : List Flw) (wr : World) : Prop where
  ln : LnW w q A n c M g0 m Ao co hs fs wr
  rv : RV q fs
  ne : fs ≠ []
  t : turned q fs = T
def lnM (M : Nat) (wr : World) : Nat := match wr.cell? ⟨M, 1, none⟩ with
  | some (.slice (some a) m _) => needW a.block wr m
  | _ => 0
theorem lnM_eq {w wr : World} {q : Int} {A : Option Addr} {n c M g0 m g co : Nat} {hs : List Fh} {fs : List Flw} (h : LnW w q A n c M g0 m (some ⟨g, 0, none⟩) co hs fs wr) : lnM M wr = need fs := by
  have e : wr.cell? ⟨M, 1, none⟩ = some (.slice (some ⟨g, 0, none⟩) m co) := blk_cell h.out 1
  simp only [lnM, e]
  exact needW_eq h.row h.wl
theorem ln_form {w wr : World} {q : Int} {A Ao : Option Addr} {n c M g0 m co : Nat} {h : Fh} {hr : List Fh} {f : Flw} {r : List Flw} (B : LnW w q A n c M g0 m Ao co (h :: hr) (f :: r) wr) :
    m = hr.length + 1 ∧ m ≤ co ∧ ∃ g, Ao = some ⟨g, 0, none⟩ := by
  have hl : m = hr.length + 1 := by have := B.row.1; rw [fcells_len] at this; simp at this; omega
  obtain ⟨g, cap, hv, -, -⟩ := B.row.form (by omega)
  obtain ⟨A', c', hv2, hnc, -, -⟩ := own_form B.row
  obtain rfl : co = c' := by injection hv2
  exact ⟨hl, hnc, g, by injection hv⟩
/-- flows whose row and whose packets lie from block lo on -/
structure FY (w : World) (lo : Nat) (A : Option Addr) (n : Nat) (hs : List Fh) (fs : List Flw) : Prop where
  hr : HR w A n hs
  far : 0 < n → ∀ b, A.map (·.block) = some b → lo ≤ b
  wl : WL w (fun b => lo ≤ b) hs fs
  few : n ≤ 4000000000
theorem fy_set {w : World} {lo n : Nat} {A : Option Addr} {hs : List Fh} {fs : List Flw} (h : FY w lo A n hs fs) {p : Addr} (h2 : p.block < lo) (u : Value) : FY (w.setCell p u) lo A n hs fs := by
  have hg := g_set (g_refl w (some p.block)) (p := p) (.inl rfl) u
  exact ⟨hr_grown h.hr hg fun hn b hb e => by have := h.far hn b hb; injection e with e; omega, h.far, wl_grown h.wl hg fun b hb e => by injection e with e; omega, h.few⟩
theorem fy_drew {w : World} {lo n : Nat} {A : Option Addr} {hs : List Fh} {fs : List Flw} (h : FY w lo A n hs fs) : FY w.drew lo A n hs fs := ⟨hr_below h.hr (Below.refl _ _).drew, h.far, wl_below h.wl (Below.refl _ _).drew, h.few⟩
theorem fy_fr {w : World} {lo n : Nat} {A : Option Addr} {hs : List Fh} {fs : List Flw} (h : FY w lo A n hs fs) : FRX w (fun b => lo ≤ b) A n fs := ⟨hs, h.hr, h.far, h.wl, h.few⟩
theorem fy_own {w : World} {lo m co : Nat} {A : Option Addr} {hs : List Fh} {fs : List Flw} (ho : w.ownsRow lo 40 3 (.slice A m co) m (fcells hs)) (hw : WL w (fun b => lo ≤ b) hs fs) (hn : m ≤ 4000000000) : FY w lo A m hs fs := by
  refine ⟨hr_own ho, fun _ b hb => ?_, hw, hn⟩
  obtain ⟨A', c', hv, -, -, hA⟩ := own_form ho
  obtain rfl : A = A' := by injection hv
  exact (hA b hb).1
theorem ln_hold {w w1 : World} {q : Int} {A Ao : Option Addr} {n c M g0 m co b5 : Nat} {hs : List Fh} {fs : List Flw} {x d : Int} {A1 : Option Addr} {n1 c1 : Nat} (B : LnW w q A n c M g0 m Ao co hs fs w1) (C : Blk w1 b5 40 #[.int .i64 x, .int .i64 d, (.slice A1 n1 c1)]) :
    (w1.cell? ⟨M, 0, none⟩ = some (.int .i64 q) ∧ w1.cell? ⟨M, 1, none⟩ = some (.slice Ao m co)) ∧ (w1.cell? ⟨b5, 0, none⟩ = some (.int .i64 x) ∧ w1.cell? ⟨b5, 1, none⟩ = some (.int .i64 d) ∧ w1.cell? ⟨b5, 2, none⟩ = some (.slice A1 n1 c1)) :=
  ⟨⟨blk_cell B.out 0, blk_cell B.out 1⟩, (blk_three C).1⟩
/-- the model's world at the switch: the copy as it was, the first flow and its packet in boxes of their own, the packets and the flows behind them in rows of their own -/
structure LnS (w : World) (q : Int) (A : Option Addr) (n c M g0 m : Nat) (Ao : Option Addr) (co : Nat) (h : Fh) (hr : List Fh) (f : Flw) (r : List Flw) (p : Pkt) (ws : List Pkt) (b6 : Nat) (d' : Int) (A3 : Option Addr) (n3 c3 : Nat) (A4 : Option Addr) (m4 c4 s4 : Nat) (V : World) : Prop where
  ln : LnW w q A n c M g0 m Ao co (h :: hr) (f :: r) V
  fb : Blk V b6 40 #[.int .i64 h.peer, .int .i64 d', (.slice A3 n3 c3)]
  pb : Blk V (b6 + 1) 28 #[.int .i64 p.peer, .int .i64 p.lane, .int .i64 p.size, .int .i64 p.id]
  r3 : V.ownsRow (b6 + 2) 28 4 (.slice A3 n3 c3) n3 (pcells ws)
  r4 : V.ownsRow s4 40 3 (.slice A4 m4 c4) m4 (fcells hr)
  s34 : ∀ b, Value.ownBlock (.slice A3 n3 c3) = some b → b < s4
  mb : M < b6
  gb : ∀ b, Value.ownBlock (.slice Ao m co) = some b → b < b6
  b64 : b6 + 2 ≤ s4
  s4V : s4 ≤ V.heap.size
/-- what is known behind the switch -/
def LnE (w : World) (q : Int) (A : Option Addr) (n c M : Nat) (G : List Flw) (p : Pkt) (b7 : Nat) (V : World) : Prop :=
  ∃ A5 n5 c5 hs5, FY V (w.heap.size + 3) A5 n5 hs5 G ∧ Blk V M 25 #[.int .i64 q, (.slice A5 n5 c5)] ∧ Fm w (bx3 w q A n c) V ∧ Blk V b7 28 #[.int .i64 p.peer, .int .i64 p.lane, .int .i64 p.size, .int .i64 p.id]
theorem lx_lo {w w1 : World} {M g0 : Nat} {hs : List Fh} {fs : List Flw} (h : WL w1 (LX (w.heap.size + 3) M g0) hs fs) : WL w1 (fun b => w.heap.size + 3 ≤ b) hs fs := wl_mono h fun _ hb => hb.1
theorem tkdrew {w V : World} {q : Int} {A : Option Addr} {n c M g0 m : Nat} {Ao : Option Addr} {co : Nat} {h : Fh} {hr : List Fh} {f : Flw} {r : List Flw} {p : Pkt} {ws : List Pkt} {b6 : Nat} {d' : Int} {A3 : Option Addr} {n3 c3 : Nat} {A4 : Option Addr} {m4 c4 s4 : Nat}
    (S : LnS w q A n c M g0 m Ao co h hr f r p ws b6 d' A3 n3 c3 A4 m4 c4 s4 V) : LnS w q A n c M g0 m Ao co h hr f r p ws b6 d' A3 n3 c3 A4 m4 c4 s4 V.drew :=
  ⟨ln_below S.ln (Below.refl _ _).drew, S.fb, S.pb, S.r3.drew, S.r4.drew, S.s34, S.mb, S.gb, S.b64, S.s4V⟩
section
variable {w V : World} {q : Int} {A : Option Addr} {n c M g0 m : Nat} {Ao : Option Addr} {co : Nat} {h : Fh} {hr : List Fh} {f : Flw} {r : List Flw} {p : Pkt} {ws : List Pkt} {b6 : Nat} {d' : Int} {A3 : Option Addr} {n3 c3 : Nat} {A4 : Option Addr} {m4 c4 s4 : Nat}
theorem lnE_a (S : LnS w q A n c M g0 m Ao co h hr f r p ws b6 d' A3 n3 c3 A4 m4 c4 s4 V) (hm : m4 ≤ 4000000000) : LnE w q A n c M r p (b6 + 1) (V.setCell ⟨M, 1, none⟩ (.slice A4 m4 c4)) := by
  have hz := S.ln.z
  have hM := S.mb
  have h64 := S.b64
  have G := g_set (g_refl V (some M)) (p := ⟨M, 1, none⟩) (.inl rfl) (.slice A4 m4 c4)
  exact ⟨A4, m4, c4, hr, fy_own (own_mono (own_set_far (p := ⟨M, 1, none⟩) S.r4 (by simp only; omega) _) (by omega)) (lx_lo (wl_grown (wl_head S.ln.wl).2 G fun b hb e => by injection e with e; have := hb.2.1; omega)) hm, blk_set S.ln.out 1 _, fm_grownO S.ln.fm G fun b e => ⟨by injection e with e; omega, bx3_hi (by injection e with e; omega)⟩, blk_far S.pb (by simp only; omega) _⟩
theorem lnE_b {w5 : World} {A5 : Option Addr} {m5 c5 : Nat} (S : LnS w q A n c M g0 m Ao co h hr f r p ws b6 d' A3 n3 c3 A4 m4 c4 s4 V) (hm : m5 ≤ 4000000000) (hn3 : n3 ≤ 4000000000) (hp : h.peer = f.peer) (o : Obj) (ho : w5.ownsRow s4 40 3 (.slice A5 m5 c5) m5 (fcells (hr ++ [⟨h.peer, d', A3, n3, c3⟩]))) (hg : (V.alloc o).grownBy w5 (Value.ownBlock (.slice A4 m4 c4))) :
    LnE w q A n c M (r ++ [⟨f.peer, d', ws⟩]) p (b6 + 1) (w5.setCell ⟨M, 1, none⟩ (.slice A5 m5 c5)) := by
  have hz := S.ln.z
  have hM := S.mb
  have h64 := S.b64
  have hMV := blk_lt S.ln.out
  have h4 : ∀ b, Value.ownBlock (.slice A4 m4 c4) = some b → s4 ≤ b := fun b e => (S.r4.lt b e).1
  have G0 : V.grownBy w5 (Value.ownBlock (.slice A4 m4 c4)) := (World.grownBy_alloc V o _).trans hg
  have hw := wl_grown (wl_head S.ln.wl).2 G0 fun b hb e => by have := h4 b e.symm; have := hb.2.1; omega
  have r3 : w5.ownsRow (b6 + 2) 28 4 (.slice A3 n3 c3) n3 (pcells ws) := S.r3.kept G0 (by
    rcases hub : Value.ownBlock (.slice A3 n3 c3) with _ | b
    · exact .inl rfl
    · exact .inr fun e => by have := S.s34 b hub; have := h4 b e.symm; omega)
  have G := g_set (g_refl w5 (some M)) (p := ⟨M, 1, none⟩) (.inl rfl) (.slice A5 m5 c5)
  have r3' := own_set_far (p := ⟨M, 1, none⟩) r3 (by simp only; omega) (.slice A5 m5 c5)
  obtain ⟨A', c', hv, hc, -, hA⟩ := own_form r3
  obtain ⟨rfl, rfl⟩ : A3 = A' ∧ c3 = c' := by injection hv with a1 a2 a3; exact ⟨a1, a3⟩
  refine ⟨A5, m5, c5, _, fy_own (own_mono (own_set_far (p := ⟨M, 1, none⟩) ho (by simp only; omega) _) (by omega)) (wl_snoc (lx_lo (wl_grown hw G fun b hb e => by injection e with e; have := hb.2.1; omega)) ⟨hp, rfl, pr_own r3', hc, hn3, fun _ b hb => by have := (hA b hb).1; omega⟩) hm, blk_set (blk_grownQ S.ln.out G0 (fun e => by have := h4 _ e.symm; omega)) 1 _, ?_, blk_far (blk_grownQ S.pb G0 (fun e => by have := h4 _ e.symm; omega)) (by simp only; omega) _⟩
  exact fm_grownO (fm_grownO S.ln.fm G0 fun b e => ⟨by have := h4 b e; omega, bx3_hi (by have := h4 b e; omega)⟩) G fun b e => ⟨by injection e with e; omega, bx3_hi (by injection e with e; omega)⟩
theorem lnE_c {g : Nat} (S : LnS w q A n c M g0 m (some ⟨g, 0, none⟩) co h hr f r p ws b6 d' A3 n3 c3 A4 m4 c4 s4 V) (hm : m ≤ 4000000000) (hn3 : n3 ≤ 4000000000) (hp : h.peer = f.peer) :
    LnE w q A n c M (⟨f.peer, d', ws⟩ :: r) p (b6 + 1) (((V.setCell ⟨g, 0, none⟩ (.int .i64 h.peer)).setCell ⟨g, 1, none⟩ (.int .i64 d')).setCell ⟨g, 2, none⟩ (.slice A3 n3 c3)) := by
  have hz := S.ln.z
  have hM := S.mb
  have hg := S.ln.sep g rfl
  have hgb := S.gb g rfl
  have hlo := (S.ln.row.lt g rfl).1
  have G := g_set (g_set (g_set (g_refl V (some g)) (p := ⟨g, 0, none⟩) (.inl rfl) (.int .i64 h.peer)) (p := ⟨g, 1, none⟩) (.inl rfl) (.int .i64 d')) (p := ⟨g, 2, none⟩) (.inl rfl) (.slice A3 n3 c3)
  have hw := wl_grown (wl_head S.ln.wl).2 G fun b hb e => by injection e with e; subst e; rcases hg with e | e; exact hb.2.2 e; have := hb.2.1; omega
  have r3 := S.r3.kept G (by
    rcases hub : Value.ownBlock (.slice A3 n3 c3) with _ | b
    · exact .inl rfl
    · exact .inr fun e => by have := (S.r3.lt b hub).1; injection e with e; omega)
  obtain ⟨A', c', hv, hc, -, hA⟩ := own_form r3
  obtain ⟨rfl, rfl⟩ : A3 = A' ∧ c3 = c' := by injection hv with a1 a2 a3; exact ⟨a1, a3⟩
  have h1 := (S.ln.row.stored 0 (.int .i64 h.peer)).1
  have h2 := (h1.stored 1 (.int .i64 d')).1
  have h3 := (h2.stored 2 (.slice A3 n3 c3)).1
  refine ⟨some ⟨g, 0, none⟩, m, co, ⟨h.peer, d', A3, n3, c3⟩ :: hr, fy_own h3 (wl_cons (lx_lo hw) ⟨hp, rfl, pr_own r3, hc, hn3, fun _ b hb => by have := (hA b hb).1; omega⟩) hm, blk_grownQ S.ln.out G (fun e => by injection e with e; omega), fm_grownO S.ln.fm G fun b e => ⟨by injection e with e; omega, bx3_hi (by injection e with e; omega)⟩, blk_grownQ S.pb G (fun e => by injection e with e; omega)⟩
end
set_option maxHeartbeats 8000000 in
theorem nextS_any (q : Int) (A : Option Addr) (n c : Nat) (fs : List Flw) (w : World) (h : FR w A n fs) (hv : RV q fs) (h0 : fs ≠ []) :
    Calls Try.prog 52 #[.agg #[.int .i64 q, (.slice A n c)]] w (NxPost w (fun _ => False) q fs) := by
  have H := Lib.hid h
  have hl := (fr_lenF h).1
  have HV := Lib.hid (And.intro hv h0)
  have hlen : 0 < fs.length := by
    rcases Nat.eq_zero_or_pos fs.length with e | e
    · exact absurd (List.eq_nil_of_length_eq_zero e) h0
    · exact e
  have q0 := hv.q0
  have q1 := hv.q1
  have F := Lib.hid (show Fm w (bx3 w q A n c) _ from fm_three w 25 25 28 #[.int .i64 q, (.slice A n c)] #[.int .i64 0, (.slice none 0 0)] #[.int .i64 0, .int .i64 0, .int .i64 0, .int .i64 0])
  clear h hl hv h0
  go_enter Try.func52, Try.ntmps52
  go_wp2_with fail
  refine (copyRS_any q A n c fs _ (fr_belowF H.out F.out.below)).mono ?_
  rintro e w1 ⟨A1, n1, c1, hs1, rfl, rfl, -, -, hD, hb1⟩
  obtain ⟨g0, cap, hv2, hg1, hg2⟩ := hD.row.form hlen
  obtain ⟨rfl, rfl⟩ : A1 = some ⟨g0, 0, none⟩ ∧ c1 = cap := by injection hv2 with a1 a2 a3; exact ⟨a1, a3⟩
  have z0 : w.heap.size + 3 ≤ g0 := by simpa using hg1
  have R0 : Hid (∃ m Ao co hs fs', LnR w q A n c w1.heap.size g0 (turned q fs) m Ao co hs fs' (w1.alloc (.cells #[.int .i64 q, (.slice (some ⟨g0, 0, none⟩) fs.length c1)] 25))) := Lib.hid ⟨_, _, _, _, fs, ⟨(own_mono hD.row (by simp)).alloc _, wl_below (wl_mono (do_wl hD) fun b hb => ⟨by have := hb.1; simpa using this, hb.2⟩) (below_alloc (Below.refl _ _) _), fm_alloc (fm_below F.out hb1) _, blk_new w1 _ _, fun b e => .inl (by injection e with e; exact e.symm), z0, hg2⟩, HV.out.1, HV.out.2, rfl⟩
  clear hD hb1 hv2 hg1
  go_upto_block 0 with fail
  go_cut [] from 11 to 55 (fun wx => ∃ m Ao co hs, LnW w q A n c w1.heap.size g0 m Ao co hs (turned q fs) wx)
  case first =>
    go_wp2_with fail
    go_loopw [] (fun wr => ∃ m Ao co hs fs', LnR w q A n c w1.heap.size g0 (turned q fs) m Ao co hs fs' wr) (fun wr => lnM w1.heap.size wr)
    case atStart => exact R0.out
    case round =>
      obtain ⟨m, Ao, co, hs, fs', B⟩ := hrel
      clear R0
      have hln := B.ln.wl.1
      cases fs' with
      | nil => exact absurd rfl B.ne
      | cons f r =>
        cases hs with
        | nil => simp at hln
        | cons h hr =>
          obtain ⟨hm, hmc, g, rfl⟩ := ln_form B.ln
          have hm8 : m ≤ 8 := by have := rv_len B.rv; rw [← hln] at this; simp at this; omega
          have HB := Lib.hid B
          have hwh := (wl_head B.ln.wl).1
          obtain ⟨b, off, h', e1, -, hh, c0, c1', c2⟩ := hr_at (k := 0) (hr_own B.ln.row) (by omega)
          obtain ⟨rfl, rfl⟩ : g = b ∧ 0 = off := by injection e1 with e1; injection e1 with a1 a2; exact ⟨a1, a2⟩
          obtain rfl : h = h' := by simpa using hh
          simp only [Nat.zero_mul, Nat.zero_add] at c0 c1' c2
          have hg : g < wr.heap.size := (B.ln.row.lt g rfl).2
          have hgM : g ≠ w1.heap.size := by have := B.ln.sep g rfl; omega
          have f0 := World.ownsRow.frozenAt B.ln.row 0
          have f1 := World.ownsRow.frozenAt B.ln.row 1
          have f2 := World.ownsRow.frozenAt B.ln.row 2
          obtain ⟨l0, l1, lf0, lf1⟩ := blk_two B.ln.out
          have zM := blk_lt B.ln.out
          have hvf := (rv_head B.rv).1
          obtain ⟨p, ws, hpw, s1, s2, -⟩ := vf_wait hvf
          obtain ⟨x, d, A1, n1, c1c⟩ := h
          obtain ⟨x', d', ws'⟩ := f
          obtain rfl : x = x' := hwh.peer
          obtain rfl : d = d' := hwh.dfc
          obtain rfl : ws' = p :: ws := hpw
          have hpr : PR wr A1 n1 (p :: ws) := hwh.pr
          have hl1 : n1 = ws.length + 1 := by have := hpr.1; simpa using this.symm
          obtain ⟨b1, off1, p', rfl, hb1, hp', p0, p1, p2, p3⟩ := pr_at (k := 0) hpr (by omega)
          obtain rfl : p = p' := by simpa using hp'
          simp only [Nat.zero_mul, Nat.add_zero] at p0 p1 p2 p3
          have hd0 := hvf.d0
          have hd1 := hvf.d1
          simp only at c0 c1' c2 hd0 hd1
          have HL1 := Lib.hid hl1
          have HM := Lib.hid hm
          have y1 : (0 : Int) < (n1 : Int) := by omega
          have y2 : (0 : Int) < (m : Int) := by omega
          have y3 : (1 : Int) ≤ (m : Int) := by omega
          have hm1 : 1 ≤ m := by omega
          have hco : 1 ≤ co := by omega
          have HMay : Hid (may ⟨x, d, p :: ws⟩ = decide (p.size ≤ d)) := Lib.hid rfl
          have HMay2 : Hid (may (addq q ⟨x, d, p :: ws⟩) = decide (p.size ≤ d + q)) := Lib.hid rfl
          clear B hln hwh e1 hh hvf hp' hpr hl1 hm
          by_cases hd : p.size ≤ d
          · have hdb : decide (d < p.size) = false := by simp; omega
            have HT : Hid (turned q fs = ⟨x, d, p :: ws⟩ :: r) := Lib.hid (HB.out.t.symm.trans (turned_may (by rw [HMay.out, decide_eq_true_eq]; exact hd)))
            clear hd
            go_wp2_with fail
            go_quiet (fail)
            go_wp2_with fail
            go_meet
            case rel => exact ⟨m, _, co, _, by rw [HT.out]; exact ln_drewN HB.out.ln _⟩
          · have hdb : decide (d < p.size) = true := by simp; omega
            have HM0 : Hid (may ⟨x, d, p :: ws⟩ = false) := Lib.hid (by rw [HMay.out, decide_eq_false_iff_not]; exact hd)
            have yq : IntKind.i64.wrap (d + q) = d + q := IntWalk.i64_in _ (by omega)
            clear hd
            by_cases hdq : p.size ≤ d + q
            · have hdb2 : decide (p.size ≤ d + q) = true := by simp; omega
              have HT : Hid (turned q fs = addq q ⟨x, d, p :: ws⟩ :: r) := Lib.hid (HB.out.t.symm.trans (turned_add HB.out.rv HM0.out (by rw [HMay2.out, hdb2])))
              clear hdq
              go_wp2_with fail
              go_region
              go_wp2_with fail
              go_region
              go_wp2_with fail
              go_meet
              case rel => exact ⟨m, _, co, _, by rw [HT.out]; exact ln_below (ln_set (h2 := ⟨x, d + q, some ⟨b1, off1, none⟩, n1, c1c⟩) (f2 := addq q ⟨x, d, p :: ws⟩) HB.out.ln rfl rfl rfl rfl rfl rfl) ((below_alloc (Below.refl _ _) (.cells #[.int .i64 x, (.int .i64 (d + q)), (.slice (some ⟨b1, off1, none⟩) n1 c1c)] 40)).drew.drew)⟩
            · have hdb2 : decide (p.size ≤ d + q) = false := by simp; omega
              have HM2 : Hid (may (addq q ⟨x, d, p :: ws⟩) = false) := Lib.hid (by rw [HMay2.out, hdb2])
              clear hdq
              go_wp2_with fail
              go_region
              go_wp2_with fail
              go_region
              go_wp2_with fail
              have LV := Lib.hid (ln_below HB.out.ln ((below_alloc (Below.refl _ _) (.cells #[.int .i64 x, (.int .i64 (d + q)), (.slice (some ⟨b1, off1, none⟩) n1 c1c)] 40)).drew.drew))
              have BF := Lib.hid (show Blk (wr.alloc (.cells #[.int .i64 x, (.int .i64 (d + q)), (.slice (some ⟨b1, off1, none⟩) n1 c1c)] 40)).drew.drew wr.heap.size 40 #[.int .i64 x, (.int .i64 (d + q)), (.slice (some ⟨b1, off1, none⟩) n1 c1c)] from blk_at (w := wr) rfl _ _)
              have zF : wr.heap.size < ((wr.alloc (.cells #[.int .i64 x, (.int .i64 (d + q)), (.slice (some ⟨b1, off1, none⟩) n1 c1c)] 40)).drew.drew).heap.size := by simp
              have HN := Lib.hid (lnM_eq HB.out.ln)
              obtain ⟨A2', hA2, hA2b, hP2⟩ := tail_ofF HB.out.ln.row
              clear c0 c1' c2 f0 f1 f2 l0 l1 lf0 lf1 zM hb1 p0 p1 p2 p3 hg
              generalize (wr.alloc (.cells #[.int .i64 x, (.int .i64 (d + q)), (.slice (some ⟨b1, off1, none⟩) n1 c1c)] 40)).drew.drew = V at LV BF zF ⊢
              obtain ⟨l0, l1, lf0, lf1⟩ := blk_two LV.out.out
              have hS0 := ln_hold (ln_below LV.out (Below.drew (Below.refl _ _))) (blk_drewN BF.out 1)
              refine held_start (S := (fun w' => (w'.cell? ⟨w1.heap.size, 0, none⟩ = some (.int .i64 q) ∧ w'.cell? ⟨w1.heap.size, 1, none⟩ = some (.slice (some ⟨g, 0, none⟩) m co)) ∧ (w'.cell? ⟨wr.heap.size, 0, none⟩ = some (.int .i64 x) ∧ w'.cell? ⟨wr.heap.size, 1, none⟩ = some (.int .i64 (d + q)) ∧ w'.cell? ⟨wr.heap.size, 2, none⟩ = some (.slice (some ⟨b1, off1, none⟩) n1 c1c)))) 9 (by kernel_rfl) ?_
              refine held_take (i := 1) (oi := { dst := some 48, op := Op.fieldAddr 25 (Operand.tmp 4) 1, type := 0, pos := "l5_robins.go:94", after := #[], guard := none }) (v := ?_) rfl (by kernel_rfl) (by kernel_rfl) (by kernel_rfl) (by kernel_rfl) (fun _ _ _ h => h) (Or.inl ⟨by rfl, ?_⟩) hS0 ?_
              rotate_left
              · (intro w9 hSw; (try dsimp only at hSw); go_simp; try with_reducible rfl)
              try simp only [Act.put, List.setIfInBounds_toArray, List.set_cons_zero, List.set_cons_succ]
              refine held_take (i := 2) (oi := { dst := some 49, op := Op.load 23 (Operand.tmp 48), type := 23, pos := "l5_robins.go:94", after := #[{ on := 1, ground := Ground.data }], guard := none }) (v := ?_) rfl (by kernel_rfl) (by kernel_rfl) (by kernel_rfl) (by kernel_rfl) (fun _ _ _ h => h) (Or.inl ⟨by rfl, ?_⟩) hS0 ?_
              rotate_left
              · (intro w9 hSw; (try dsimp only at hSw); go_simp; try with_reducible rfl)
              try simp only [Act.put, List.setIfInBounds_toArray, List.set_cons_zero, List.set_cons_succ]
              refine held_take (i := 3) (oi := { dst := some 50, op := Op.slice 23 (Operand.tmp 49) (some (Operand.const (Value.int IntKind.i64 1))) none none, type := 23, pos := "l5_robins.go:94", after := #[{ on := 2, ground := Ground.data }], guard := none }) (v := ?_) rfl (by kernel_rfl) (by kernel_rfl) (by kernel_rfl) (by kernel_rfl) (fun _ _ _ h => h) (Or.inl ⟨by rfl, ?_⟩) hS0 ?_
              rotate_left
              · (intro w9 hSw; (try dsimp only at hSw); go_simp; try with_reducible rfl)
              try simp only [Act.put, List.setIfInBounds_toArray, List.set_cons_zero, List.set_cons_succ]
              refine held_take (i := 5) (oi := { dst := some 52, op := Op.load 40 (Operand.tmp 5), type := 40, pos := "l5_robins.go:94", after := #[], guard := none }) (v := ?_) rfl (by kernel_rfl) (by kernel_rfl) (by kernel_rfl) (by kernel_rfl) (fun _ _ _ h => h) (Or.inl ⟨by rfl, ?_⟩) hS0 ?_
              rotate_left
              · (intro w9 hSw; (try dsimp only at hSw); go_simp; try with_reducible rfl)
              try simp only [Act.put, List.setIfInBounds_toArray, List.set_cons_zero, List.set_cons_succ]
              refine held_two (i := 0) (j := 6) (oi := { dst := some 47, op := Op.buildSlice 23 0 #[], type := 23, pos := "l5_robins.go:94", after := #[], guard := none }) (oj := { dst := some 53, op := Op.buildSlice 23 1 #[(0, Operand.tmp 52)], type := 23, pos := "l5_robins.go:94", after := #[{ on := 5, ground := Ground.data }], guard := none }) (by kernel_rfl) rfl rfl (fun K hK => ?_) (fun K hK => ?_)
              · go_simp
                have T1 := Lib.hid (show Below V.heap.size V _ from (below_alloc (Below.refl _ _) (.cells #[] 40)).drew)
                have hS1 := ln_hold (ln_below LV.out T1.out) (blk_below BF.out T1.out zF)
                refine hK.out _ _ (.inr hS1) ?_
                clear hK K
                try simp only [Act.put, List.setIfInBounds_toArray, List.set_cons_zero, List.set_cons_succ]
                refine held_two (i := 4) (j := 6) (oi := { dst := some 51, op := Op.call { callee := Callee.builtin Builtin.append, args := #[Operand.tmp 47, Operand.tmp 50], argTypes := #[23, 23] }, type := 23, pos := "l5_robins.go:94", after := #[{ on := 0, ground := Ground.data }, { on := 3, ground := Ground.data }], guard := none }) (oj := { dst := some 53, op := Op.buildSlice 23 1 #[(0, Operand.tmp 52)], type := 23, pos := "l5_robins.go:94", after := #[{ on := 5, ground := Ground.data }], guard := none }) (by kernel_rfl) rfl rfl (fun K hK => ?_) (fun K hK => ?_)
                · refine step_app_flws _ rfl (.tmp 47) (.tmp 50) rfl V.heap.size (.slice (some ⟨V.heap.size, 0, none⟩) 0 0) 0 [] rfl (World.ownsRow.drew (own_emptyF (W := V) (b := V.heap.size) rfl)) (some A2') (m - 1) (co - 1) hr rfl (hP2.out _ (hr_own (ln_below LV.out T1.out).row)) (by omega) (by simp <;> omega) ?_
                  intro v6 w6 ho6 hg6 hat6
                  simp only [List.nil_append, Nat.zero_add] at ho6
                  have T6 := Lib.hid (T1.out.grown hg6 T1.out.size fun b e => by have := ((World.ownsRow.drew (own_emptyF (W := V) (b := V.heap.size) rfl)).lt b e).1; simp at this ⊢; omega)
                  have z6 : V.heap.size ≤ w6.heap.size := (by have := hg6.size; simp at this ⊢; omega)
                  obtain ⟨A6, c6, rfl, -, -, -⟩ := own_form ho6
                  have O6 := Lib.hid ho6
                  have hS2 := ln_hold (ln_below LV.out T6.out) (blk_below BF.out T6.out zF)
                  refine hK.out _ _ (.inr hS2) ?_
                  clear hK K
                  try simp only [Act.put, List.setIfInBounds_toArray, List.set_cons_zero, List.set_cons_succ]
                  refine held_one (i := 6) (o := { dst := some 53, op := Op.buildSlice 23 1 #[(0, Operand.tmp 52)], type := 23, pos := "l5_robins.go:94", after := #[{ on := 5, ground := Ground.data }], guard := none }) (by kernel_rfl) rfl (fun K hK => ?_)
                  go_simp
                  have T3 := Lib.hid (show Below V.heap.size V _ from below_alloc T6.out (.cells #[.int .i64 x, (.int .i64 (d + q)), (.slice (some ⟨b1, off1, none⟩) n1 c1c)] 40))
                  have hS3 := ln_hold (ln_below LV.out T3.out) (blk_below BF.out T3.out zF)
                  refine hK.out _ _ (.inr hS3) ?_
                  clear hK K
                  try simp only [Act.put, List.setIfInBounds_toArray, List.set_cons_zero, List.set_cons_succ]
                  refine held_one (i := 7) (o := { dst := some 54, op := Op.call { callee := Callee.builtin Builtin.append, args := #[Operand.tmp 51, Operand.tmp 53], argTypes := #[23, 23] }, type := 23, pos := "l5_robins.go:94", after := #[{ on := 4, ground := Ground.data }, { on := 6, ground := Ground.data }, { on := 4, ground := Ground.chain }], guard := none }) (by kernel_rfl) rfl (fun K hK => ?_)
                  refine step_app_flws _ rfl (.tmp 51) (.tmp 53) rfl _ (.slice A6 (m - 1) c6) (m - 1) hr rfl (O6.out.alloc _) (some ⟨w6.heap.size, 0, none⟩) 1 1 [⟨x, d + q, some ⟨b1, off1, none⟩, n1, c1c⟩] rfl (hr_single (blk_at rfl _ _)) (by omega) (by first | exact z6 | (have := z6; simp at this ⊢; omega)) ?_
                  intro v7 w7 ho7 hg7 hat7
                  rw [show m - 1 + 1 = m by omega] at ho7
                  obtain ⟨A7, c7, rfl, -, -, -⟩ := own_form ho7
                  have T7 := Lib.hid (T3.out.grown hg7 T3.out.size fun b e => by have := (O6.out.lt b e).1; simp at this ⊢; omega)
                  have O7 := Lib.hid (own_mono (b2 := V.heap.size) ho7 (by simp))
                  obtain ⟨l0', l1', lf0', lf1'⟩ := blk_two (ln_below LV.out T7.out).out
                  have hS7 := ln_hold (ln_below LV.out T7.out) (blk_below BF.out T7.out zF)
                  clear hg7 hat7 ho7
                  refine hK.out _ _ (.inr hS7) ?_
                  clear hK K
                  try simp only [Act.put, List.setIfInBounds_toArray, List.set_cons_zero, List.set_cons_succ]
                  refine held_take (i := 8) (oi := { dst := some 55, op := Op.fieldAddr 25 (Operand.tmp 4) 1, type := 0, pos := "l5_robins.go:94", after := #[{ on := 0, ground := Ground.phase }, { on := 1, ground := Ground.phase }, { on := 2, ground := Ground.phase }, { on := 3, ground := Ground.phase }, { on := 4, ground := Ground.phase }, { on := 5, ground := Ground.phase }, { on := 6, ground := Ground.phase }, { on := 7, ground := Ground.phase }], guard := none }) (v := ?_) rfl (by kernel_rfl) (by kernel_rfl) (by kernel_rfl) (by kernel_rfl) (fun _ _ _ h => h) (Or.inl ⟨by rfl, ?_⟩) hS7 ?_
                  rotate_left
                  · (intro w9 hSw; (try dsimp only at hSw); go_simp; try with_reducible rfl)
                  try simp only [Act.put, List.setIfInBounds_toArray, List.set_cons_zero, List.set_cons_succ]
                  refine held_one (i := 9) (o := { dst := none, op := Op.store 23 (Operand.tmp 55) (Operand.tmp 54), type := 0, pos := "l5_robins.go:94", after := #[{ on := 8, ground := Ground.data }, { on := 7, ground := Ground.data }, { on := 7, ground := Ground.chain }, { on := 0, ground := Ground.phase }, { on := 1, ground := Ground.phase }, { on := 2, ground := Ground.phase }, { on := 3, ground := Ground.phase }, { on := 4, ground := Ground.phase }, { on := 5, ground := Ground.phase }, { on := 6, ground := Ground.phase }, { on := 7, ground := Ground.phase }], guard := none }) (by kernel_rfl) rfl (fun K hK => ?_)
                  go_simp
                  refine hK.out _ _ (.inl rfl) ?_
                  clear hK K
                  try simp only [Act.put, List.setIfInBounds_toArray, List.set_cons_zero, List.set_cons_succ]
                  refine held_done (by kernel_rfl) ?_ _
                  clear l0' l1' lf0' lf1'
                  go_wp2
                  go_roundw
                  case rel =>
                    have hw7 := wl_below LV.out.wl T7.out
                    exact ⟨_, A7, c7, _, r ++ [addq q ⟨x, d, p :: ws⟩], ln_new LV.out T7.out O7.out (Nat.le_refl _) (wl_snoc (wl_head hw7).2 (h := ⟨x, d + q, some ⟨b1, off1, none⟩, n1, c1c⟩) (f := addq q ⟨x, d, p :: ws⟩) ⟨rfl, rfl, (wl_head hw7).1.pr, (wl_head hw7).1.cap, (wl_head hw7).1.few, (wl_head hw7).1.far⟩), rv_rot HB.out.rv HM0.out, by simp, (turned_rot HB.out.rv HM0.out HM2.out).symm.trans HB.out.t⟩
                  case measure =>
                    have hw7 := wl_below LV.out.wl T7.out
                    have LN := ln_new LV.out T7.out O7.out (Nat.le_refl _) (wl_snoc (wl_head hw7).2 (h := ⟨x, d + q, some ⟨b1, off1, none⟩, n1, c1c⟩) (f := addq q ⟨x, d, p :: ws⟩) ⟨rfl, rfl, (wl_head hw7).1.pr, (wl_head hw7).1.cap, (wl_head hw7).1.few, (wl_head hw7).1.far⟩)
                    obtain ⟨g7, cap7, hv7, -, -⟩ := O7.out.form (by omega)
                    obtain rfl : A7 = some ⟨g7, 0, none⟩ := by injection hv7
                    rw [HN.out, lnM_eq LN]
                    exact need_rot HB.out.rv HM0.out
                · go_simp
                  have T3 := Lib.hid (show Below V.heap.size V _ from (below_alloc (below_alloc (Below.refl _ _) (.cells #[] 40)) (.cells #[.int .i64 x, (.int .i64 (d + q)), (.slice (some ⟨b1, off1, none⟩) n1 c1c)] 40)).drew)
                  have hS2 := ln_hold (ln_below LV.out T3.out) (blk_below BF.out T3.out zF)
                  refine hK.out _ _ (.inr hS2) ?_
                  clear hK K
                  try simp only [Act.put, List.setIfInBounds_toArray, List.set_cons_zero, List.set_cons_succ]
                  refine held_one (i := 4) (o := { dst := some 51, op := Op.call { callee := Callee.builtin Builtin.append, args := #[Operand.tmp 47, Operand.tmp 50], argTypes := #[23, 23] }, type := 23, pos := "l5_robins.go:94", after := #[{ on := 0, ground := Ground.data }, { on := 3, ground := Ground.data }], guard := none }) (by kernel_rfl) rfl (fun K hK => ?_)
                  refine step_app_flws _ rfl (.tmp 47) (.tmp 50) rfl V.heap.size (.slice (some ⟨V.heap.size, 0, none⟩) 0 0) 0 [] rfl (World.ownsRow.drew (World.ownsRow.alloc (own_emptyF (W := V) (b := V.heap.size) rfl) (.cells #[.int .i64 x, (.int .i64 (d + q)), (.slice (some ⟨b1, off1, none⟩) n1 c1c)] 40))) (some A2') (m - 1) (co - 1) hr rfl (hP2.out _ (hr_own (ln_below LV.out T3.out).row)) (by omega) (by simp <;> omega) ?_
                  intro v6 w6 ho6 hg6 hat6
                  simp only [List.nil_append, Nat.zero_add] at ho6
                  have T6 := Lib.hid (T3.out.grown hg6 T3.out.size fun b e => by have := ((World.ownsRow.drew (World.ownsRow.alloc (own_emptyF (W := V) (b := V.heap.size) rfl) (.cells #[.int .i64 x, (.int .i64 (d + q)), (.slice (some ⟨b1, off1, none⟩) n1 c1c)] 40))).lt b e).1; simp at this ⊢; omega)
                  have z6 : V.heap.size ≤ w6.heap.size := (by have := hg6.size; simp at this ⊢; omega)
                  obtain ⟨A6, c6, rfl, -, -, -⟩ := own_form ho6
                  have O6 := Lib.hid ho6
                  have hS4 := ln_hold (ln_below LV.out T6.out) (blk_below BF.out T6.out zF)
                  refine hK.out _ _ (.inr hS4) ?_
                  clear hK K
                  try simp only [Act.put, List.setIfInBounds_toArray, List.set_cons_zero, List.set_cons_succ]
                  refine held_one (i := 7) (o := { dst := some 54, op := Op.call { callee := Callee.builtin Builtin.append, args := #[Operand.tmp 51, Operand.tmp 53], argTypes := #[23, 23] }, type := 23, pos := "l5_robins.go:94", after := #[{ on := 4, ground := Ground.data }, { on := 6, ground := Ground.data }, { on := 4, ground := Ground.chain }], guard := none }) (by kernel_rfl) rfl (fun K hK => ?_)
                  refine step_app_flws _ rfl (.tmp 51) (.tmp 53) rfl _ (.slice A6 (m - 1) c6) (m - 1) hr rfl O6.out (some ⟨V.heap.size + 1, 0, none⟩) 1 1 [⟨x, d + q, some ⟨b1, off1, none⟩, n1, c1c⟩] rfl (hr_single (blk_grownQ (blk_drewN (blk_at (by simp) _ _) 1) hg6 (fun e => by simp [Value.ownBlock] at e))) (by omega) (by first | exact z6 | (have := z6; simp at this ⊢; omega)) ?_
                  intro v7 w7 ho7 hg7 hat7
                  rw [show m - 1 + 1 = m by omega] at ho7
                  obtain ⟨A7, c7, rfl, -, -, -⟩ := own_form ho7
                  have T7 := Lib.hid (T6.out.grown hg7 T6.out.size fun b e => by have := (O6.out.lt b e).1; simp at this ⊢; omega)
                  have O7 := Lib.hid (own_mono (b2 := V.heap.size) ho7 (by simp))
                  obtain ⟨l0', l1', lf0', lf1'⟩ := blk_two (ln_below LV.out T7.out).out
                  have hS7 := ln_hold (ln_below LV.out T7.out) (blk_below BF.out T7.out zF)
                  clear hg7 hat7 ho7
                  refine hK.out _ _ (.inr hS7) ?_
                  clear hK K
                  try simp only [Act.put, List.setIfInBounds_toArray, List.set_cons_zero, List.set_cons_succ]
                  refine held_take (i := 8) (oi := { dst := some 55, op := Op.fieldAddr 25 (Operand.tmp 4) 1, type := 0, pos := "l5_robins.go:94", after := #[{ on := 0, ground := Ground.phase }, { on := 1, ground := Ground.phase }, { on := 2, ground := Ground.phase }, { on := 3, ground := Ground.phase }, { on := 4, ground := Ground.phase }, { on := 5, ground := Ground.phase }, { on := 6, ground := Ground.phase }, { on := 7, ground := Ground.phase }], guard := none }) (v := ?_) rfl (by kernel_rfl) (by kernel_rfl) (by kernel_rfl) (by kernel_rfl) (fun _ _ _ h => h) (Or.inl ⟨by rfl, ?_⟩) hS7 ?_
                  rotate_left
                  · (intro w9 hSw; (try dsimp only at hSw); go_simp; try with_reducible rfl)
                  try simp only [Act.put, List.setIfInBounds_toArray, List.set_cons_zero, List.set_cons_succ]
                  refine held_one (i := 9) (o := { dst := none, op := Op.store 23 (Operand.tmp 55) (Operand.tmp 54), type := 0, pos := "l5_robins.go:94", after := #[{ on := 8, ground := Ground.data }, { on := 7, ground := Ground.data }, { on := 7, ground := Ground.chain }, { on := 0, ground := Ground.phase }, { on := 1, ground := Ground.phase }, { on := 2, ground := Ground.phase }, { on := 3, ground := Ground.phase }, { on := 4, ground := Ground.phase }, { on := 5, ground := Ground.phase }, { on := 6, ground := Ground.phase }, { on := 7, ground := Ground.phase }], guard := none }) (by kernel_rfl) rfl (fun K hK => ?_)
                  go_simp
                  refine hK.out _ _ (.inl rfl) ?_
                  clear hK K
                  try simp only [Act.put, List.setIfInBounds_toArray, List.set_cons_zero, List.set_cons_succ]
                  refine held_done (by kernel_rfl) ?_ _
                  clear l0' l1' lf0' lf1'
                  go_wp2
                  go_roundw
                  case rel =>
                    have hw7 := wl_below LV.out.wl T7.out
                    exact ⟨_, A7, c7, _, r ++ [addq q ⟨x, d, p :: ws⟩], ln_new LV.out T7.out O7.out (Nat.le_refl _) (wl_snoc (wl_head hw7).2 (h := ⟨x, d + q, some ⟨b1, off1, none⟩, n1, c1c⟩) (f := addq q ⟨x, d, p :: ws⟩) ⟨rfl, rfl, (wl_head hw7).1.pr, (wl_head hw7).1.cap, (wl_head hw7).1.few, (wl_head hw7).1.far⟩), rv_rot HB.out.rv HM0.out, by simp, (turned_rot HB.out.rv HM0.out HM2.out).symm.trans HB.out.t⟩
                  case measure =>
                    have hw7 := wl_below LV.out.wl T7.out
                    have LN := ln_new LV.out T7.out O7.out (Nat.le_refl _) (wl_snoc (wl_head hw7).2 (h := ⟨x, d + q, some ⟨b1, off1, none⟩, n1, c1c⟩) (f := addq q ⟨x, d, p :: ws⟩) ⟨rfl, rfl, (wl_head hw7).1.pr, (wl_head hw7).1.cap, (wl_head hw7).1.few, (wl_head hw7).1.far⟩)
                    obtain ⟨g7, cap7, hv7, -, -⟩ := O7.out.form (by omega)
                    obtain rfl : A7 = some ⟨g7, 0, none⟩ := by injection hv7
                    rw [HN.out, lnM_eq LN]
                    exact need_rot HB.out.rv HM0.out
              · go_simp
                have T1 := Lib.hid (show Below V.heap.size V _ from (below_alloc (Below.refl _ _) (.cells #[.int .i64 x, (.int .i64 (d + q)), (.slice (some ⟨b1, off1, none⟩) n1 c1c)] 40)).drew)
                have hS1 := ln_hold (ln_below LV.out T1.out) (blk_below BF.out T1.out zF)
                refine hK.out _ _ (.inr hS1) ?_
                clear hK K
                try simp only [Act.put, List.setIfInBounds_toArray, List.set_cons_zero, List.set_cons_succ]
                refine held_one (i := 0) (o := { dst := some 47, op := Op.buildSlice 23 0 #[], type := 23, pos := "l5_robins.go:94", after := #[], guard := none }) (by kernel_rfl) rfl (fun K hK => ?_)
                go_simp
                have T3 := Lib.hid (show Below V.heap.size V _ from (below_alloc (below_alloc (Below.refl _ _) (.cells #[.int .i64 x, (.int .i64 (d + q)), (.slice (some ⟨b1, off1, none⟩) n1 c1c)] 40)) (.cells #[] 40)).drew)
                have hS3 := ln_hold (ln_below LV.out T3.out) (blk_below BF.out T3.out zF)
                refine hK.out _ _ (.inr hS3) ?_
                clear hK K
                try simp only [Act.put, List.setIfInBounds_toArray, List.set_cons_zero, List.set_cons_succ]
                refine held_one (i := 4) (o := { dst := some 51, op := Op.call { callee := Callee.builtin Builtin.append, args := #[Operand.tmp 47, Operand.tmp 50], argTypes := #[23, 23] }, type := 23, pos := "l5_robins.go:94", after := #[{ on := 0, ground := Ground.data }, { on := 3, ground := Ground.data }], guard := none }) (by kernel_rfl) rfl (fun K hK => ?_)
                refine step_app_flws _ rfl (.tmp 47) (.tmp 50) rfl (V.alloc (.cells #[.int .i64 x, (.int .i64 (d + q)), (.slice (some ⟨b1, off1, none⟩) n1 c1c)] 40)).heap.size (.slice (some ⟨V.heap.size + 1, 0, none⟩) 0 0) 0 [] rfl (World.ownsRow.drew (own_emptyF (W := V.alloc (.cells #[.int .i64 x, (.int .i64 (d + q)), (.slice (some ⟨b1, off1, none⟩) n1 c1c)] 40)) (b := V.heap.size + 1) (by simp))) (some A2') (m - 1) (co - 1) hr rfl (hP2.out _ (hr_own (ln_below LV.out T3.out).row)) (by omega) (by simp <;> omega) ?_
                intro v6 w6 ho6 hg6 hat6
                simp only [List.nil_append, Nat.zero_add] at ho6
                have T6 := Lib.hid (T3.out.grown hg6 T3.out.size fun b e => by have := ((World.ownsRow.drew (own_emptyF (W := V.alloc (.cells #[.int .i64 x, (.int .i64 (d + q)), (.slice (some ⟨b1, off1, none⟩) n1 c1c)] 40)) (b := V.heap.size + 1) (by simp))).lt b e).1; simp at this ⊢; omega)
                have z6 : (V.alloc (.cells #[.int .i64 x, (.int .i64 (d + q)), (.slice (some ⟨b1, off1, none⟩) n1 c1c)] 40)).heap.size ≤ w6.heap.size := (by have := hg6.size; simp at this ⊢; omega)
                obtain ⟨A6, c6, rfl, -, -, -⟩ := own_form ho6
                have O6 := Lib.hid ho6
                have hS4 := ln_hold (ln_below LV.out T6.out) (blk_below BF.out T6.out zF)
                refine hK.out _ _ (.inr hS4) ?_
                clear hK K
                try simp only [Act.put, List.setIfInBounds_toArray, List.set_cons_zero, List.set_cons_succ]
                refine held_one (i := 7) (o := { dst := some 54, op := Op.call { callee := Callee.builtin Builtin.append, args := #[Operand.tmp 51, Operand.tmp 53], argTypes := #[23, 23] }, type := 23, pos := "l5_robins.go:94", after := #[{ on := 4, ground := Ground.data }, { on := 6, ground := Ground.data }, { on := 4, ground := Ground.chain }], guard := none }) (by kernel_rfl) rfl (fun K hK => ?_)
                refine step_app_flws _ rfl (.tmp 51) (.tmp 53) rfl _ (.slice A6 (m - 1) c6) (m - 1) hr rfl O6.out (some ⟨V.heap.size, 0, none⟩) 1 1 [⟨x, d + q, some ⟨b1, off1, none⟩, n1, c1c⟩] rfl (hr_single (blk_grownQ (blk_drewN (blk_alloc (blk_at rfl _ _) _) 1) hg6 (fun e => by simp [Value.ownBlock] at e))) (by omega) (by first | exact z6 | (have := z6; simp at this ⊢; omega)) ?_
                intro v7 w7 ho7 hg7 hat7
                rw [show m - 1 + 1 = m by omega] at ho7
                obtain ⟨A7, c7, rfl, -, -, -⟩ := own_form ho7
                have T7 := Lib.hid (T6.out.grown hg7 T6.out.size fun b e => by have := (O6.out.lt b e).1; simp at this ⊢; omega)
                have O7 := Lib.hid (own_mono (b2 := V.heap.size) ho7 (by simp))
                obtain ⟨l0', l1', lf0', lf1'⟩ := blk_two (ln_below LV.out T7.out).out
                have hS7 := ln_hold (ln_below LV.out T7.out) (blk_below BF.out T7.out zF)
                clear hg7 hat7 ho7
                refine hK.out _ _ (.inr hS7) ?_
                clear hK K
                try simp only [Act.put, List.setIfInBounds_toArray, List.set_cons_zero, List.set_cons_succ]
                refine held_take (i := 8) (oi := { dst := some 55, op := Op.fieldAddr 25 (Operand.tmp 4) 1, type := 0, pos := "l5_robins.go:94", after := #[{ on := 0, ground := Ground.phase }, { on := 1, ground := Ground.phase }, { on := 2, ground := Ground.phase }, { on := 3, ground := Ground.phase }, { on := 4, ground := Ground.phase }, { on := 5, ground := Ground.phase }, { on := 6, ground := Ground.phase }, { on := 7, ground := Ground.phase }], guard := none }) (v := ?_) rfl (by kernel_rfl) (by kernel_rfl) (by kernel_rfl) (by kernel_rfl) (fun _ _ _ h => h) (Or.inl ⟨by rfl, ?_⟩) hS7 ?_
                rotate_left
                · (intro w9 hSw; (try dsimp only at hSw); go_simp; try with_reducible rfl)
                try simp only [Act.put, List.setIfInBounds_toArray, List.set_cons_zero, List.set_cons_succ]
                refine held_one (i := 9) (o := { dst := none, op := Op.store 23 (Operand.tmp 55) (Operand.tmp 54), type := 0, pos := "l5_robins.go:94", after := #[{ on := 8, ground := Ground.data }, { on := 7, ground := Ground.data }, { on := 7, ground := Ground.chain }, { on := 0, ground := Ground.phase }, { on := 1, ground := Ground.phase }, { on := 2, ground := Ground.phase }, { on := 3, ground := Ground.phase }, { on := 4, ground := Ground.phase }, { on := 5, ground := Ground.phase }, { on := 6, ground := Ground.phase }, { on := 7, ground := Ground.phase }], guard := none }) (by kernel_rfl) rfl (fun K hK => ?_)
                go_simp
                refine hK.out _ _ (.inl rfl) ?_
                clear hK K
                try simp only [Act.put, List.setIfInBounds_toArray, List.set_cons_zero, List.set_cons_succ]
                refine held_done (by kernel_rfl) ?_ _
                clear l0' l1' lf0' lf1'
                go_wp2
                go_roundw
                case rel =>
                  have hw7 := wl_below LV.out.wl T7.out
                  exact ⟨_, A7, c7, _, r ++ [addq q ⟨x, d, p :: ws⟩], ln_new LV.out T7.out O7.out (Nat.le_refl _) (wl_snoc (wl_head hw7).2 (h := ⟨x, d + q, some ⟨b1, off1, none⟩, n1, c1c⟩) (f := addq q ⟨x, d, p :: ws⟩) ⟨rfl, rfl, (wl_head hw7).1.pr, (wl_head hw7).1.cap, (wl_head hw7).1.few, (wl_head hw7).1.far⟩), rv_rot HB.out.rv HM0.out, by simp, (turned_rot HB.out.rv HM0.out HM2.out).symm.trans HB.out.t⟩
                case measure =>
                  have hw7 := wl_below LV.out.wl T7.out
                  have LN := ln_new LV.out T7.out O7.out (Nat.le_refl _) (wl_snoc (wl_head hw7).2 (h := ⟨x, d + q, some ⟨b1, off1, none⟩, n1, c1c⟩) (f := addq q ⟨x, d, p :: ws⟩) ⟨rfl, rfl, (wl_head hw7).1.pr, (wl_head hw7).1.cap, (wl_head hw7).1.few, (wl_head hw7).1.far⟩)
                  obtain ⟨g7, cap7, hv7, -, -⟩ := O7.out.form (by omega)
                  obtain rfl : A7 = some ⟨g7, 0, none⟩ := by injection hv7
                  rw [HN.out, lnM_eq LN]
                  exact need_rot HB.out.rv HM0.out
  case rest =>
    obtain ⟨m, Ao, co, hs, B⟩ := hcut
    obtain ⟨f, r, p, ws, N⟩ := nexted_is HV.out.1 HV.out.2
    rw [N.t.is] at B
    have hln := B.wl.1
    cases hs with
    | nil => simp at hln
    | cons h hr =>
      obtain ⟨hm, hmc, g, rfl⟩ := ln_form B
      have hm8 : m ≤ 8 := by have := rv_len N.t.rv; rw [← hln] at this; simp at this; omega
      have HB := Lib.hid B
      have HN := Lib.hid N
      have hwh := (wl_head B.wl).1
      obtain ⟨b, off, h', e1, -, hh, c0, c1', c2⟩ := hr_at (k := 0) (hr_own B.row) (by omega)
      obtain ⟨rfl, rfl⟩ : g = b ∧ 0 = off := by injection e1 with e1; injection e1 with a1 a2; exact ⟨a1, a2⟩
      obtain rfl : h = h' := by simpa using hh
      simp only [Nat.zero_mul, Nat.zero_add] at c0 c1' c2
      have hg : g < wc.heap.size := (B.row.lt g rfl).2
      obtain ⟨l0, l1, lf0, lf1⟩ := blk_two B.out
      have zM := blk_lt B.out
      obtain ⟨x, d, A1, n1, c1c⟩ := h
      obtain ⟨x', d', ws'⟩ := f
      obtain rfl : x = x' := hwh.peer
      obtain rfl : d = d' := hwh.dfc
      obtain rfl : ws' = p :: ws := HN.out.hw
      have hpr : PR wc A1 n1 (p :: ws) := hwh.pr
      have hl1 : n1 = ws.length + 1 := by have := hpr.1; simpa using this.symm
      have hn1 : n1 ≤ 4000000000 := hwh.few
      have hcc : n1 ≤ c1c := hwh.cap
      obtain ⟨b1, off1, A1', rfl, hA1, hA1b, hP1⟩ := tail_ofR hpr hcc
      obtain ⟨b1', off1', p', e2, hb1, hp', p0, p1, p2, p3⟩ := pr_at (k := 0) hpr (by omega)
      obtain ⟨rfl, rfl⟩ : b1 = b1' ∧ off1 = off1' := by injection e2 with e2; injection e2 with a1 a2; exact ⟨a1, a2⟩
      obtain rfl : p = p' := by simpa using hp'
      simp only [Nat.zero_mul, Nat.add_zero] at p0 p1 p2 p3
      obtain ⟨A2', hA2, hA2b, hP2⟩ := tail_ofF HB.out.row
      have hle := HN.out.le
      have s1 := HN.out.s1
      have s2 := HN.out.s2
      have hd1 := (rv_head HN.out.t.rv).1.d1
      simp only at c0 c1' c2 hle hd1
      have HL1 := Lib.hid hl1
      have HPR := Lib.hid hpr
      have y0 : IntKind.i64.wrap (d - p.size) = d - p.size := IntWalk.i64_in _ (by omega)
      have y1 : (0 : Int) < (n1 : Int) := by omega
      have y1' : (1 : Int) ≤ (n1 : Int) := by omega
      have y2 : (0 : Int) < (m : Int) := by omega
      have y3 : (1 : Int) ≤ (m : Int) := by omega
      have hm1 : 1 ≤ m := by omega
      have hco : 1 ≤ co := by omega
      have hn11 : 1 ≤ n1 := by omega
      have hc11 : 1 ≤ c1c := by omega
      have O3 := Lib.hid (own_emptyQ (W := (wc.alloc (.cells #[.int .i64 x, (.int .i64 (d - p.size)), (.slice (some ⟨b1, off1, none⟩) n1 c1c)] 40)).alloc (.cells #[.int .i64 p.peer, .int .i64 p.lane, .int .i64 p.size, .int .i64 p.id] 28)) (b := wc.heap.size + 2) (by simp))
      clear B hln hwh e1 hh hp' hpr hl1 hm e2 N
      go_upto_block 2 with (first
        | (at_builtin
           refine wpl_app_flws _ rfl (.tmp 76) (.tmp 79) rfl (w3.setCell ⟨wc.heap.size, 2, none⟩ (.slice A3 (n1 - 1) c3)).heap.size (.slice (some ⟨w3.heap.size, 0, none⟩) 0 0) 0 [] rfl (own_emptyF (W := w3.setCell ⟨wc.heap.size, 2, none⟩ (.slice A3 (n1 - 1) c3)) (b := w3.heap.size) (by simp)) (some A2') (m - 1) (co - 1) hr rfl (hP2.out _ (hr_own (ln_below HB.out (below_alloc T3.out _)).row)) (by omega) (by simp) ?_
           intro v4 w4 ho4 hg4 hat4
           simp only [List.nil_append, Nat.zero_add] at ho4
           obtain ⟨A4, c4, rfl, -, -, -⟩ := own_form ho4
           have T4 := Lib.hid (show Below (w3.setCell ⟨wc.heap.size, 2, none⟩ (.slice A3 (n1 - 1) c3)).heap.size (w3.setCell ⟨wc.heap.size, 2, none⟩ (.slice A3 (n1 - 1) c3)) w4 from app_belowG (own_emptyF (b := w3.heap.size) (by simp)) (below_alloc (Below.refl _ _) _) hg4 (by simp))
           have O4 := Lib.hid ho4
           clear hg4 hat4 ho4)
        | (at_builtin
           refine wpl_app_pkts _ rfl (.tmp 70) (.tmp 73) rfl ((wc.alloc (.cells #[.int .i64 x, (.int .i64 (d - p.size)), (.slice (some ⟨b1, off1, none⟩) n1 c1c)] 40)).alloc (.cells #[.int .i64 p.peer, .int .i64 p.lane, .int .i64 p.size, .int .i64 p.id] 28)).heap.size (.slice (some ⟨wc.heap.size + 2, 0, none⟩) 0 0) 0 [] rfl O3.out (some A1') (n1 - 1) (c1c - 1) ws rfl (hP1.out _ (pr_alloc (pr_alloc (pr_alloc HPR.out _) _) _)) (by omega) (by simp) ?_
           intro v3 w3 ho3 hg3 hat3
           simp only [List.nil_append, Nat.zero_add] at ho3
           obtain ⟨A3, c3, rfl, -, -, -⟩ := own_form ho3
           have T2 := Lib.hid (show Below ((wc.alloc (.cells #[.int .i64 x, (.int .i64 (d - p.size)), (.slice (some ⟨b1, off1, none⟩) n1 c1c)] 40)).alloc (.cells #[.int .i64 p.peer, .int .i64 p.lane, .int .i64 p.size, .int .i64 p.id] 28)).heap.size ((wc.alloc (.cells #[.int .i64 x, (.int .i64 (d - p.size)), (.slice (some ⟨b1, off1, none⟩) n1 c1c)] 40)).alloc (.cells #[.int .i64 p.peer, .int .i64 p.lane, .int .i64 p.size, .int .i64 p.id] 28)) w3 from app_belowQ O3.out (below_alloc (Below.refl _ _) _) hg3 (by simp))
           have z3 : wc.heap.size + 2 ≤ w3.heap.size := (by have := T2.out.size; simp at this; omega)
           have BF := Lib.hid (show Blk w3 wc.heap.size 40 #[.int .i64 x, (.int .i64 (d - p.size)), (.slice (some ⟨b1, off1, none⟩) n1 c1c)] from blk_below (blk_alloc (blk_new wc _ _) (.cells #[.int .i64 p.peer, .int .i64 p.lane, .int .i64 p.size, .int .i64 p.id] 28)) T2.out (by simp <;> omega))
           have BP := Lib.hid (show Blk w3 (wc.heap.size + 1) 28 #[.int .i64 p.peer, .int .i64 p.lane, .int .i64 p.size, .int .i64 p.id] from blk_below (blk_at (w := wc.alloc (.cells #[.int .i64 x, (.int .i64 (d - p.size)), (.slice (some ⟨b1, off1, none⟩) n1 c1c)] 40)) (by simp) _ _) T2.out (by simp <;> omega))
           have T3 := Lib.hid (show Below wc.heap.size wc (w3.setCell ⟨wc.heap.size, 2, none⟩ (.slice A3 (n1 - 1) c3)) from (below_seq2 (Below.refl _ _) T2.out).setCell (Nat.le_refl _) _)
           have O3' := Lib.hid (own_set_far (p := ⟨wc.heap.size, 2, none⟩) ho3 (by simp <;> omega) (.slice A3 (n1 - 1) c3))
           obtain ⟨⟨d0, d1, d2⟩, df0, df1, df2⟩ := blk_three BF.out
           have zF : wc.heap.size < w3.heap.size := (by omega)
           have hgM := (bcell (below_seq2 (Below.refl _ _) T2.out)).1
           have l1' := (hgM w1.heap.size 1 zM).trans l1
           have zM3 : w1.heap.size < w3.heap.size := (by omega)
           clear hg3 hat3 ho3 hgM))
      have SS : Hid (LnS w q A n c w1.heap.size g0 m (some ⟨g, 0, none⟩) co ⟨x, d, some ⟨b1, off1, none⟩, n1, c1c⟩ hr ⟨x, d, p :: ws⟩ r p ws wc.heap.size (d - p.size) A3 (n1 - 1) c3 A4 (m - 1) c4 w3.heap.size w4) := Lib.hid (by
        have hz4 := T4.out.size
        simp at hz4
        refine ⟨ln_below (ln_below HB.out T3.out) T4.out, blk_below (blk_set BF.out 2 _) T4.out (by simpa using zF), blk_below (blk_far BP.out (by simp) _) T4.out (by simp; omega), own_mono (own_below O3'.out T4.out) (by simp), own_mono O4.out (by simp), fun b e => by have := (O3'.out.lt b e).2; simpa using this, zM, fun b e => by obtain rfl : g = b := Option.some.inj e; exact hg, z3, hz4⟩)
      clear T2 BF BP T3 O3' d0 d1 d2 df0 df1 df2 T4 O4 l0 l1 lf0 lf1 l1' c0 c1' c2 p0 p1 p2 p3 hb1 zF z3 hA1 hA2 hP1 hP2 HPR O3 y0 hA1b hA2b
      have zl1 : w.heap.size + 1 < wc.heap.size + 1 := by have := HB.out.z; omega
      have zl2 : w.heap.size + 2 < wc.heap.size + 1 := by have := HB.out.z; omega
      have zk1 : w.heap.size + 1 < w1.heap.size := by have := HB.out.z; omega
      have zk2 : w.heap.size + 2 < w1.heap.size := by have := HB.out.z; omega
      go_cut [] from 81 to 105 (fun wx => LnE w q A n c w1.heap.size (nxL q fs) p (wc.heap.size + 1) wx)
      case first =>
        obtain ⟨l0, l1, lf0, lf1⟩ := blk_two SS.out.ln.out
        obtain ⟨⟨d0, d1, d2⟩, df0, df1, df2⟩ := blk_three SS.out.fb
        have zM4 := blk_lt SS.out.ln.out
        have zF4 := blk_lt SS.out.fb
        by_cases h0 : ws.length = 0
        · have hz : (((n1 - 1 : Nat) : Int) == 0) = true := by have := HL1.out; simp; omega
          have HE := Lib.hid (show nxL q fs = r by rw [HN.out.isL, if_pos h0])
          clear h0
          go_wp2_with fail
          go_meet
          case rel => rw [HE.out]; exact lnE_a SS.out (by omega)
        · have hz : (((n1 - 1 : Nat) : Int) == 0) = false := by have := HL1.out; simp; omega
          have HI := Lib.hid (show nxL q fs = if may (spend ⟨x, d, p :: ws⟩ p ws) = true then spend ⟨x, d, p :: ws⟩ p ws :: r else r ++ [spend ⟨x, d, p :: ws⟩ p ws] by rw [HN.out.isL, if_neg h0])
          have hpos : 0 < n1 - 1 := by have := HL1.out; omega
          obtain ⟨b3, off3, p4, e3, hb3, hp4, t0, t1, t2, t3⟩ := pr_at (k := 0) (pr_own SS.out.r3) hpos
          obtain rfl : A3 = some ⟨b3, off3, none⟩ := e3
          simp only [Nat.zero_mul, Nat.add_zero] at t0 t1 t2 t3
          have HMay : Hid (may (spend ⟨x, d, p :: ws⟩ p ws) = decide (p4.size ≤ d - p.size)) := Lib.hid (by
            cases ws with
            | nil => simp at hp4
            | cons a b =>
              obtain rfl : a = p4 := by simpa using hp4
              rfl)
          have y6 : (0 : Int) < ((n1 - 1 : Nat) : Int) := by omega
          clear h0 hp4
          by_cases hd : p4.size ≤ d - p.size
          · have hdb : decide (d - p.size < p4.size) = false := by simp; omega
            have HE : Hid (nxL q fs = spend ⟨x, d, p :: ws⟩ p ws :: r) := Lib.hid (by rw [HI.out, HMay.out, decide_eq_true hd]; rfl)
            obtain ⟨b, off, h', e1, -, hh, c0, c1', c2⟩ := hr_at (k := 0) (hr_own SS.out.ln.row) (by omega)
            obtain ⟨rfl, rfl⟩ : g = b ∧ 0 = off := by injection e1 with e1; injection e1 with a1 a2; exact ⟨a1, a2⟩
            obtain rfl : (⟨x, d, some ⟨b1, off1, none⟩, n1, c1c⟩ : Fh) = h' := by simpa using hh
            simp only [Nat.zero_mul, Nat.zero_add] at c0 c1' c2
            have zg := (SS.out.ln.row.lt g rfl).2
            have f0 := World.ownsRow.frozenAt SS.out.ln.row 0
            have f1 := World.ownsRow.frozenAt SS.out.ln.row 1
            have f2 := World.ownsRow.frozenAt SS.out.ln.row 2
            clear hd e1 hh
            go_wp2_with fail
            go_region
            go_wp2_with fail
            go_meet
            case rel => rw [HE.out]; have E := lnE_c (tkdrew SS.out) (by omega) (by omega) rfl; exact E
          · have hdb : decide (d - p.size < p4.size) = true := by simp; omega
            have HE : Hid (nxL q fs = r ++ [spend ⟨x, d, p :: ws⟩ p ws]) := Lib.hid (by rw [HI.out, HMay.out, decide_eq_false hd]; rfl)
            clear hd
            go_wp2_with fail
            go_region
            have SV := Lib.hid (tkdrew SS.out)
            clear SS l0 l1 lf0 lf1 d0 d1 d2 df0 df1 df2 zM4 zF4 t0 t1 t2 t3 hb3 hdb
            generalize w4.drew = V at SV ⊢
            obtain ⟨l0, l1, lf0, lf1⟩ := blk_two SV.out.ln.out
            obtain ⟨⟨d0, d1, d2⟩, df0, df1, df2⟩ := blk_three SV.out.fb
            have zM4 := blk_lt SV.out.ln.out
            have zF4 := blk_lt SV.out.fb
            have z34 := SV.out.s4V
            go_wp2_with (at_builtin
                         refine wpl_app_flws _ rfl (.tmp 101) (.tmp 103) rfl w3.heap.size (.slice A4 (m - 1) c4) (m - 1) hr rfl (SV.out.r4.alloc _) (some ⟨V.heap.size, 0, none⟩) 1 1 [⟨x, d - p.size, some ⟨b3, off3, none⟩, n1 - 1, c3⟩] rfl (hr_single (blk_at rfl _ _)) (by omega) (by simp; omega) ?_
                         intro v5 w5 ho5 hg5 hat5
                         rw [show m - 1 + 1 = m by omega] at ho5
                         obtain ⟨A5, c5, rfl, -, -, -⟩ := own_form ho5
                         have E5 := Lib.hid (lnE_b SV.out (by omega) (by omega) rfl _ ho5 hg5)
                         have T5 := Lib.hid (blk_grownQ (blk_alloc SV.out.ln.out _) hg5 (fun e => by have := SV.out.mb; have := SV.out.b64; have := (SV.out.r4.lt _ e.symm).1; omega))
                         obtain ⟨m0, m1, mf0, mf1⟩ := blk_two T5.out
                         clear ho5 hg5 hat5 l0 l1 lf0 lf1 d0 d1 d2 df0 df1 df2)
            go_meet
            case rel => rw [HE.out]; exact E5.out
      case rest =>
        obtain ⟨A5, n5, c5, hs5, hY, hO, hF, hP⟩ := hcut
        have X := Lib.hid hY
        have FF := Lib.hid hF
        obtain ⟨l0, l1, -, -⟩ := blk_two hO
        obtain ⟨o0, o1, of0, of1⟩ := blk_two (fm_blk hF 1 rfl)
        obtain ⟨⟨k0, k1, k2, k3⟩, kf0, kf1, kf2, kf3⟩ := blk_fourR (fm_blk hF 2 rfl)
        obtain ⟨⟨p0, p1, p2, p3⟩, -⟩ := blk_fourR hP
        have zb1 := blk_lt (fm_blk hF 1 rfl)
        have zb2 := blk_lt (fm_blk hF 2 rfl)
        have zM5 := blk_lt hO
        have zP5 := blk_lt hP
        clear hY hO hF hP SS
        go_wp2_with fail
        go_region
        all_goals
          go_wp2
          refine bodyPost_ret (v := .tuple #[.agg #[.int .i64 q, (.slice A5 n5 c5)], .agg #[.int .i64 p.peer, .int .i64 p.lane, .int .i64 p.size, .int .i64 p.id]]) (by simp [results, Try.results52, go_sem, o0, o1, k0, k1, k2, k3]) rfl ⟨_, _, _, by rw [HN.out.isP], ?_, ?_⟩
          · refine frx_mono (fy_fr (lo := w.heap.size + 3) (hs := hs5) ?_) (fun b hb => .inr (by omega))
            refine fy_drew ?_
            iterate 6 (with_reducible refine fy_set ?_ (by simp <;> omega) _)
            exact X.out
          · refine Below.drew ?_
            iterate 6 (with_reducible refine Below.setCell ?_ (by simp <;> omega) _)
            exact FF.out.below
end Go.Proofs.Ytehokkijfgiggaa
