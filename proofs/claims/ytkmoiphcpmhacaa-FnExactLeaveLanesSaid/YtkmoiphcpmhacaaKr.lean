/-
  Lanes that stay as they are when only other blocks change. Conditions: none; every lemma says what it asks. Chapter 6: the next packet of lanes: what the model's function returns. Conditions: the lanes are valid, a lane is in turn. Chapter 6: the model's TakeLanes. Conditions: the lanes that are handed in are valid, the number is not below zero (refusals apart). Lanes that read blocks of a set alone: the program's turns share memory with what they are given. Conditions: none; every lemma says what it asks.
  Conditions: each lemma says them.
-/
import Derived.Test.YtkmoiphcpmhacaaKj
import Derived.Test.YtkmoiphcpmhacaaKq
import Derived.Test.YtkmoiphcpmhacaaKn
import Derived.Test.YtkmoiphcpmhacaaKe
import Derived.Test.YtkmoiphcpmhacaaKz
import Derived.Test.YtkmoiphcpmhacaaKm
import Derived.Test.YtkmoiphcpmhacaaKa
namespace Go.Proofs.Ytkmoiphcpmhacaa
open Go.RowKit

/-- the blocks that X names are the same, and there may be more of them -/
def Sam (X : Nat → Prop) (w w' : World) : Prop := w.heap.size ≤ w'.heap.size ∧ ∀ b, X b → b < w.heap.size → w'.heap[b]? = w.heap[b]?
section
variable {w w' w2 : World} {X Y : Nat → Prop}
theorem sam_refl (X : Nat → Prop) (w : World) : Sam X w w := ⟨Nat.le_refl _, fun _ _ _ => rfl⟩
theorem sam_trans (h : Sam X w w') (g : Sam X w' w2) : Sam X w w2 :=
  ⟨Nat.le_trans h.1 g.1, fun b h1 h2 => (g.2 b h1 (Nat.lt_of_lt_of_le h2 h.1)).trans (h.2 b h1 h2)⟩
theorem sam_mono (h : Sam X w w') (hx : ∀ b, Y b → b < w.heap.size → X b) : Sam Y w w' := ⟨h.1, fun b h1 h2 => h.2 b (hx b h1 h2) h2⟩
theorem sam_below (h : Below w.heap.size w w') : Sam X w w' := ⟨h.size, fun b _ h2 => h.block b h2⟩
theorem sam_grown {row : Option Nat} (hg : w.grownBy w' row) (hx : ∀ b, X b → some b ≠ row) : Sam X w w' := ⟨hg.size, fun b h1 h2 => hg.block b h2 (hx b h1)⟩
theorem sam_set {p : Addr} (hp : ¬ X p.block) (u : Value) : Sam X w (w.setCell p u) :=
  sam_grown (g_set (g_refl w (some p.block)) (.inl rfl) u) fun b hb e => hp (by injection e with e; rw [← e]; exact hb)
theorem sam_cell (h : Sam X w w') {b : Nat} (hb : X b) (hl : b < w.heap.size) (x : Nat) : w'.cell? ⟨b, x, none⟩ = w.cell? ⟨b, x, none⟩ := by
  have e := h.2 b hb hl
  simp only [World.cell?, e]
theorem sam_own {lo size n : Nat} {e : TypeId} {v : Value} {xs : List Value} (h : w.ownsRow lo e size v n xs) (hs : Sam X w w') (hl : ∀ b, lo ≤ b → b < w.heap.size → X b) : w'.ownsRow lo e size v n xs := by
  refine ⟨h.1, ?_⟩
  rcases h.2 with hn | ⟨g, cap, cur, hv, hg, hgg, rest⟩
  · exact .inl hn
  · subst hv
    have hlt := (h.lt g rfl).2
    exact .inr ⟨g, cap, cur, rfl, hg, (hs.2 g (hl g hg hlt) hlt).trans hgg, rest⟩
theorem sam_do {lo n : Nat} {v : Value} {hs : List Fh} {fs : List Flw} (D : DO w lo v n hs fs) (h : Sam X w w') (hl : ∀ b, lo ≤ b → b < w.heap.size → X b) : DO w' lo v n hs fs :=
  ⟨sam_own D.row h hl, D.len, fun k g f e1 e2 => by
    obtain ⟨a1, a2, a3, a4, a5⟩ := D.all k g f e1 e2
    exact ⟨a1, a2, a3, sam_own a4 h hl, a5⟩, D.apart⟩
theorem sam_dv {s e n : Nat} {v : Value} {hs : List Fh} {fs : List Flw} (D : DV w s e v n hs fs) (h : Sam X w w') (hl : ∀ b, s ≤ b → b < w.heap.size → X b) : DV w' s e v n hs fs := ⟨sam_do D.1 h hl, D.2⟩
theorem sam_frx {n : Nat} {A : Option Addr} {fs : List Flw} (H : FRX w Y A n fs) (h : Sam X w w') (hl : ∀ b, Y b → b < w.heap.size → X b) : FRX w' Y A n fs := by
  obtain ⟨hs, h1, h2, h3, h4⟩ := H
  refine ⟨hs, ⟨h1.1, fun hn => ?_⟩, h2, ⟨h3.1, fun k g f e1 e2 => ?_⟩, h4⟩
  · obtain ⟨b, off, rfl, hb, hc⟩ := h1.2 hn
    exact ⟨b, off, rfl, Nat.lt_of_lt_of_le hb h.1, fun k p hp => fat_keep (hc k p hp) fun x => sam_cell h (hl b (h2 hn b rfl) hb) hb x⟩
  · have W := h3.2 k g f e1 e2
    refine ⟨W.peer, W.dfc, ⟨W.pr.1, fun hn => ?_⟩, W.cap, W.few, W.far⟩
    obtain ⟨b, off, e, hb, hc⟩ := W.pr.2 hn
    exact ⟨b, off, e, Nat.lt_of_lt_of_le hb h.1, fun k p hp => pat_keep (hc k p hp) fun x => sam_cell h (hl b (W.far hn b (by rw [e]; rfl)) hb) hb x⟩
end
/-- lanes that can be read in every world that has the same blocks where X says so -/
def LaX (w : World) (X : Nat → Prop) (A : Option Addr) (n : Nat) (B : Option Addr) (m : Nat) (C : Option Addr) (k : Nat) (l : Ln) : Prop := ∀ w', Sam X w w' → LR w' A n B m C k l
section
variable {w w' : World} {X Y : Nat → Prop} {n m k : Nat} {A B C : Option Addr} {l : Ln}
theorem lax_lr (h : LaX w X A n B m C k l) : LR w A n B m C k l := h w (sam_refl _ _)
theorem lax_sam (h : LaX w X A n B m C k l) (hs : Sam X w w') : LaX w' X A n B m C k l := fun x hx => h x (sam_trans hs hx)
theorem lax_below (h : LaX w X A n B m C k l) (hb : Below w.heap.size w w') : LaX w' X A n B m C k l := lax_sam h (sam_below hb)
theorem lax_grown {row : Option Nat} (h : LaX w X A n B m C k l) (hg : w.grownBy w' row) (hx : ∀ b, X b → some b ≠ row) : LaX w' X A n B m C k l := lax_sam h (sam_grown hg hx)
theorem lax_set (h : LaX w X A n B m C k l) {p : Addr} (hp : ¬ X p.block) (u : Value) : LaX (w.setCell p u) X A n B m C k l := lax_sam h (sam_set hp u)
theorem lax_mono (h : LaX w X A n B m C k l) (hx : ∀ b, X b → b < w.heap.size → Y b) : LaX w Y A n B m C k l := fun x hs => h x (sam_mono hs hx)
theorem lax_drewN (h : LaX w X A n B m C k l) (j : Nat) : LaX (w.drewN j) X A n B m C k l := lax_below h (below_drewN (Below.refl _ _) j)
theorem lax_drew (h : LaX w X A n B m C k l) : LaX w.drew X A n B m C k l := lax_below h (Below.refl _ _).drew
theorem lax_lo {lo d c f : Nat} {hs : List Rh} {iv : Nat → Nat × Nat} (h : LO w lo (.slice A n c) n (.slice B m d) m (.slice C k f) k hs iv l) (hn : n ≤ 4000000000) (hm : m ≤ 4000000000) (ho : k ≤ 4000000000) (hl : ∀ b, lo ≤ b → b < w.heap.size → X b) : LaX w X A n B m C k l := by
  intro x hx
  refine ⟨⟨hs, hq_own (sam_own h.r.row hx hl), h.r.len, fun j g r e1 e2 => ?_, hn⟩, nr_own (sam_own h.b hx hl), nr_own (sam_own h.c hx hl), hm, ho⟩
  obtain ⟨a1, a2, a3, fh, a4⟩ := h.r.all j (by have := get_lt e1; have := (dr_len h.r).1; omega) g r e1 e2
  exact ⟨a1, do_fr (sam_dv a4 hx fun b h1 h2 => hl b (Nat.le_trans a3 h1) h2).1 a2⟩
end
end Go.Proofs.Ytkmoiphcpmhacaa
namespace Go.Proofs.Ytkmoiphcpmhacaa
open Go.RowKit

/-- lanes that hand back a packet: what is known of the answer -/
def NxS6 (w : World) (l : Ln) (i : Nat) (e : Ending) (w' : World) : Prop :=
  ∃ A c B d C f, e = .returned (.tuple #[.agg #[.slice A 4 c, .slice B 4 d, .slice C 4 f], .agg #[.int .i64 (nxQ l i).peer, .int .i64 (nxQ l i).lane, .int .i64 (nxQ l i).size, .int .i64 (nxQ l i).id]]) ∧ LaX w' (fun b => w.heap.size ≤ b) A 4 B 4 C 4 (nxN l i) ∧ Below w.heap.size w w'
structure XS (w : World) (va : Array Value) (LB : Nat) (vA vB vC : Value) (hs : List Rh) (iv : Nat → Nat × Nat) (l : Ln) (wr : World) : Prop where
  fm : Fm w [⟨w.heap.size, w.heap.size + 1, BoxP w.heap.size 26 va⟩, ⟨w.heap.size + 1, w.heap.size + 2, BoxP (w.heap.size + 1) 26 #[.slice none 0 0, .slice none 0 0, .slice none 0 0]⟩, ⟨w.heap.size + 2, w.heap.size + 3, BoxP (w.heap.size + 2) 29 #[.int .i64 0, .int .i64 0, .int .i64 0, .int .i64 0]⟩] wr
  out : Blk wr LB 26 #[vA, vB, vC]
  lo : LO wr (w.heap.size + 3) vA 4 vB 4 vC 4 hs iv l
  hi : ∀ j, (iv j).1 < (iv j).2 → w.heap.size + 3 ≤ (iv j).1
  hL : w.heap.size + 3 ≤ LB
  sa : Out6 vA iv LB
  sb : vB.ownBlock ≠ some LB
  sc : vC.ownBlock ≠ some LB
section
variable {w w1 w2 : World} {va : Array Value} {LB : Nat} {vA vB vC : Value} {hs : List Rh} {iv : Nat → Nat × Nat} {l : Ln}
theorem xs_below (h : XS w va LB vA vB vC hs iv l w1) (hb : Below w1.heap.size w1 w2) : XS w va LB vA vB vC hs iv l w2 :=
  ⟨fm_below h.fm hb, blk_below h.out hb (blk_lt h.out), lo_below h.lo hb, h.hi, h.hL, h.sa, h.sb, h.sc⟩
theorem xs_lr {A B C : Option Addr} {c d f : Nat} (h : XS w va LB (.slice A 4 c) (.slice B 4 d) (.slice C 4 f) hs iv l w1) : LR w1 A 4 B 4 C 4 l := lo_lr h.lo (by omega) (by omega) (by omega)
theorem xs_first {W1 w2 : World} (hf : Fm w [⟨w.heap.size, w.heap.size + 1, BoxP w.heap.size 26 va⟩, ⟨w.heap.size + 1, w.heap.size + 2, BoxP (w.heap.size + 1) 26 #[.slice none 0 0, .slice none 0 0, .slice none 0 0]⟩, ⟨w.heap.size + 2, w.heap.size + 3, BoxP (w.heap.size + 2) 29 #[.int .i64 0, .int .i64 0, .int .i64 0, .int .i64 0]⟩] w2) (hL : LO w2 W1.heap.size vA 4 vB 4 vC 4 hs iv l) (hI : ∀ k, (iv k).1 < (iv k).2 → W1.heap.size ≤ (iv k).1) (hz : w.heap.size + 3 ≤ W1.heap.size) (hz2 : W1.heap.size ≤ w2.heap.size) :
    XS w va w2.heap.size vA vB vC hs iv l (w2.alloc (.cells #[vA, vB, vC] 26)) :=
  ⟨fm_alloc hf _, blk_new w2 _ _, lo_mono (lo_below hL (below_alloc (Below.refl _ _) _)) hz, fun j hj => Nat.le_trans hz (hI j hj), by omega, ⟨fun e => (by have := (hL.r.row.lt _ e).2; omega), fun k => .inr (hL.r.top k)⟩, fun e => (by have := (hL.b.lt _ e).2; omega), fun e => (by have := (hL.c.lt _ e).2; omega)⟩
/-- new credits -/
theorem xs_newC {w5 : World} {v5 : Value} (X : XS w va LB vA vB vC hs iv l w1) (ho : w5.ownsRow (w.heap.size + 3) 3 1 v5 4 (icells l.ws)) (hg : (w1.alloc (.cells #[] 3)).grownBy w5 (some w1.heap.size)) (hat : v5.ownBlock = some w1.heap.size ∨ v5.ownBlock = some (w1.heap.size + 1)) :
    XS w va LB vA vB v5 hs iv ⟨l.rs, l.ws, l.ws⟩ (w5.setCell ⟨LB, 2, none⟩ v5) := by
  have zL := blk_lt X.out
  have zL2 := X.hL
  have X1 := xs_below X (below_alloc (Below.refl w1.heap.size w1) (.cells #[] 3))
  have za : ∀ b, vA.ownBlock = some b → b < w1.heap.size := fun b e => (X.lo.r.row.lt b e).2
  have zb : ∀ b, vB.ownBlock = some b → b < w1.heap.size := fun b e => (X.lo.b.lt b e).2
  have hv : ∀ b, v5.ownBlock = some b → w1.heap.size ≤ b := fun b e => by
    rcases hat with h | h
    · have := Option.some.inj (h.symm.trans e); omega
    · have := Option.some.inj (h.symm.trans e); omega
  have hO : ∀ b, w1.heap.size ≤ b → Out6 vA iv b := fun b hb => ⟨fun e => by have := za b e; omega, fun k => .inr (Nat.le_trans (X.lo.r.top k) hb)⟩
  have gL : w5.grownBy (w5.setCell ⟨LB, 2, none⟩ v5) (some LB) := g_set (g_refl w5 (some LB)) (.inl rfl) _
  have hz := X.fm.below.size
  refine ⟨fm_out (fm_grownO X1.fm hg fun b e => ⟨by injection e with e; omega, fun x hx => ?_⟩) (fun x hx => ?_) (by omega) _, blk_set (blk_grownQ X1.out hg fun e => by injection e with e; omega) 2 _, ⟨dr_grown (dr_grown X1.lo.r hg fun b e => hO b (by injection e with e; omega)) gL fun b e => by injection e with e; subst e; exact X.sa, own_kept6 (own_kept6 X1.lo.b hg fun b e e2 => by injection e with e; have := zb b e2; omega) gL fun b e e2 => by injection e with e; subst e; exact X.sb e2, own_kept6 ho gL fun b e e2 => by injection e with e; have := hv b e2; omega, X.lo.ab, fun b e => hO b (hv b e), fun b e e2 => by have := zb b e; have := hv b e2; omega⟩, X.hi, X.hL, X.sa, X.sb, fun e => by have := hv LB e; omega⟩
  · injection e with e
    simp only [List.mem_cons, List.not_mem_nil, or_false] at hx
    rcases hx with rfl | rfl | rfl <;> (simp only; omega)
  · simp only [List.mem_cons, List.not_mem_nil, or_false] at hx
    rcases hx with rfl | rfl | rfl <;> (simp only; omega)
end
/-- the lanes with one robin that is read only -/
structure YL (lo s g c4 : Nat) (vB vC : Value) (hs : List Rh) (rs : List Rb) (iv : Nat → Nat × Nat) (ws cs : List Int) (i : Nat) (A5 : Option Addr) (n5 : Nat) (gs : List Flw) (wr : World) : Prop where
  row : wr.ownsRow lo 37 2 (.slice (some ⟨g, 0, none⟩) 4 c4) 4 (rcells hs)
  oth : ∀ j, j ≠ i → ∀ (h : Rh) (r : Rb), hs[j]? = some h → rs[j]? = some r → h.q = r.q ∧ h.n ≤ 4000000000 ∧ lo ≤ (iv j).1 ∧ ∃ fh, DV wr (iv j).1 (iv j).2 h.sl h.n fh r.fs
  new : FRX wr (fun b => s ≤ b) A5 n5 gs
  b : wr.ownsRow lo 3 1 vB 4 (icells ws)
  c : wr.ownsRow lo 3 1 vC 4 (icells cs)
section
variable {lo s g c4 i n5 : Nat} {vB vC : Value} {hs : List Rh} {rs : List Rb} {iv : Nat → Nat × Nat} {ws cs : List Int} {A5 : Option Addr} {gs : List Flw} {wr w2 : World}
theorem yl_far (h : YL lo s g c4 vB vC hs rs iv ws cs i A5 n5 gs wr) {p : Addr} (hp : p.block < lo) (hs' : lo ≤ s) (u : Value) : YL lo s g c4 vB vC hs rs iv ws cs i A5 n5 gs (wr.setCell p u) :=
  ⟨own_set_far h.row hp u, fun j hj a r e1 e2 => by
    obtain ⟨a1, a2, a3, fh, a4⟩ := h.oth j hj a r e1 e2
    exact ⟨a1, a2, a3, fh, dv_grown a4 (g_set (g_refl wr (some p.block)) (.inl rfl) u) fun b e => by injection e with e; omega⟩, frx_set h.new (fun hb => by have h2 : s ≤ p.block := hb; omega) u, own_set_far h.b hp u, own_set_far h.c hp u⟩
theorem yl_drew (h : YL lo s g c4 vB vC hs rs iv ws cs i A5 n5 gs wr) : YL lo s g c4 vB vC hs rs iv ws cs i A5 n5 gs wr.drew :=
  ⟨own_below h.row (Below.refl _ _).drew, fun j hj a r e1 e2 => by
    obtain ⟨a1, a2, a3, fh, a4⟩ := h.oth j hj a r e1 e2
    exact ⟨a1, a2, a3, fh, dv_below a4 (Below.refl _ _).drew⟩, frx_drew h.new, own_below h.b (Below.refl _ _).drew, own_below h.c (Below.refl _ _).drew⟩
theorem yl_drewN (h : YL lo s g c4 vB vC hs rs iv ws cs i A5 n5 gs wr) (k : Nat) : YL lo s g c4 vB vC hs rs iv ws cs i A5 n5 gs (wr.drewN k) :=
  ⟨own_below h.row (below_drewN (Below.refl _ _) k), fun j hj a r e1 e2 => by
    obtain ⟨a1, a2, a3, fh, a4⟩ := h.oth j hj a r e1 e2
    exact ⟨a1, a2, a3, fh, dv_below a4 (below_drewN (Below.refl _ _) k)⟩, frx_below h.new (below_drewN (Below.refl _ _) k), own_below h.b (below_drewN (Below.refl _ _) k), own_below h.c (below_drewN (Below.refl _ _) k)⟩
theorem yl_sam (h : YL lo s g c4 vB vC hs rs iv ws cs i A5 n5 gs wr) (hs' : Sam (fun b => lo ≤ b) wr w2) (hl : lo ≤ s) : YL lo s g c4 vB vC hs rs iv ws cs i A5 n5 gs w2 :=
  ⟨sam_own h.row hs' fun _ h1 _ => h1, fun j hj a r e1 e2 => by
    obtain ⟨a1, a2, a3, fh, a4⟩ := h.oth j hj a r e1 e2
    exact ⟨a1, a2, a3, fh, sam_dv a4 hs' fun _ h1 _ => Nat.le_trans a3 h1⟩, sam_frx h.new hs' fun _ h1 _ => Nat.le_trans hl h1, sam_own h.b hs' fun _ h1 _ => h1, sam_own h.c hs' fun _ h1 _ => h1⟩
theorem yl_lr {B C : Option Addr} {d f c5 : Nat} {q : Int} (h : YL lo s g c4 (.slice B 4 d) (.slice C 4 f) hs rs iv ws cs i A5 n5 gs wr) (hi : hs[i]? = some ⟨q, A5, n5, c5⟩) (hl : rs.length = 4) : LR wr (some ⟨g, 0, none⟩) 4 B 4 C 4 ⟨rs.set i ⟨q, gs⟩, ws, cs⟩ := by
  have hlen : hs.length = 4 := by have := h.row.1; rw [rcells_len] at this; omega
  refine ⟨⟨hs, hq_own h.row, by simp [hlen, hl], fun k a r e1 e2 => ?_, by omega⟩, nr_own h.b, nr_own h.c, by omega, by omega⟩
  by_cases hk : i = k
  · subst hk
    rw [hi] at e1
    obtain rfl := Option.some.inj e1
    rw [List.getElem?_set_self (by have := get_lt hi; omega)] at e2
    obtain rfl := Option.some.inj e2
    exact ⟨rfl, frx_fr h.new⟩
  · rw [List.getElem?_set_ne hk] at e2
    obtain ⟨a1, a2, -, fh, a4⟩ := h.oth k (fun e => hk e.symm) a r e1 e2
    exact ⟨a1, do_fr a4.1 a2⟩
theorem yl_lx {B C : Option Addr} {d f c5 : Nat} {q : Int} (h : YL lo s g c4 (.slice B 4 d) (.slice C 4 f) hs rs iv ws cs i A5 n5 gs wr) (hi : hs[i]? = some ⟨q, A5, n5, c5⟩) (hl : rs.length = 4) (hs' : lo ≤ s) : LaX wr (fun b => lo ≤ b) (some ⟨g, 0, none⟩) 4 B 4 C 4 ⟨rs.set i ⟨q, gs⟩, ws, cs⟩ := fun _ hx => yl_lr (yl_sam h hx hs') hi hl
end
theorem yl_mk {w W8 : World} {va : Array Value} {LB g c4 gC fC i n5 c5 s : Nat} {vB : Value} {hs : List Rh} {iv : Nat → Nat × Nat} {l : Ln} {A5 : Option Addr} {gs : List Flw} (q x : Int) (X : XS w va LB (.slice (some ⟨g, 0, none⟩) 4 c4) vB (.slice (some ⟨gC, 0, none⟩) 4 fC) hs iv l W8) (hf : FRX W8 (fun b => s ≤ b) A5 n5 gs) (_ : i < 4) (hg : g < s) (hgC : gC < s) :
    YL (w.heap.size + 3) s g c4 vB (.slice (some ⟨gC, 0, none⟩) 4 fC) (hs.set i ⟨q, A5, n5, c5⟩) l.rs iv l.ws (l.cs.set i x) i A5 n5 gs (((W8.setCell ⟨g, i * 2, none⟩ (.int .i64 q)).setCell ⟨g, i * 2 + 1, none⟩ (.slice A5 n5 c5)).setCell ⟨gC, i, none⟩ (.int .i64 x)) := by
  have hgb : W8.grownBy ((W8.setCell ⟨g, i * 2, none⟩ (.int .i64 q)).setCell ⟨g, i * 2 + 1, none⟩ (.slice A5 n5 c5)) (some g) := g_set (g_set (g_refl W8 (some g)) (.inl rfl) _) (.inl rfl) _
  have gC' : ((W8.setCell ⟨g, i * 2, none⟩ (.int .i64 q)).setCell ⟨g, i * 2 + 1, none⟩ (.slice A5 n5 c5)).grownBy (((W8.setCell ⟨g, i * 2, none⟩ (.int .i64 q)).setCell ⟨g, i * 2 + 1, none⟩ (.slice A5 n5 c5)).setCell ⟨gC, i, none⟩ (.int .i64 x)) (some gC) := g_set (g_refl _ (some gC)) (.inl rfl) _
  have hO := X.lo.ac gC rfl
  have hne : gC ≠ g := fun e => hO.1 (by rw [e]; rfl)
  have row := ((X.lo.r.row.stored (i * 2) (.int .i64 q)).1.stored (i * 2 + 1) (.slice A5 n5 c5)).1
  have hst := rcells_set hs i ⟨q, A5, n5, c5⟩
  simp only at hst
  rw [hst] at row
  have hlen := dr_len X.lo.r
  refine ⟨own_kept6 row gC' fun b e e2 => ?_, fun j hj h r e1 e2 => ?_, frx_grown (frx_grown hf hgb fun b hb e => ?_) gC' fun b hb e => ?_, own_kept6 (own_kept6 X.lo.b hgb fun b e e2 => ?_) gC' fun b e e2 => ?_, ?_⟩
  · injection e with e; injection e2 with e2; exact hne (e.trans e2.symm)
  · rw [List.getElem?_set_ne (fun e => hj e.symm)] at e1
    obtain ⟨a1, a2, a3, fh, a4⟩ := X.lo.r.all j (by have := get_lt e1; omega) h r e1 e2
    exact ⟨a1, a2, a3, fh, dv_grown (dv_grown a4 hgb fun b e => by injection e with e; subst e; exact X.lo.r.off _ rfl j) gC' fun b e => by injection e with e; subst e; exact hO.2 j⟩
  · injection e with e; have h2 : s ≤ b := hb; omega
  · injection e with e; have h2 : s ≤ b := hb; omega
  · injection e with e; subst e; exact (X.lo.ab _ e2).1 rfl
  · injection e with e; subst e; exact X.lo.bc _ e2 rfl
  · exact own_set_int (own_kept6 X.lo.c hgb fun b e e2 => by injection e with e; injection e2 with e2; exact hne (e2.trans e.symm)) i x
theorem own_int_at7 {w : World} {base g n c k : Nat} {us : List Int} {x : Int} (h : w.ownsRow base 3 1 (.slice (some ⟨g, 0, none⟩) n c) n (icells us)) (hk : us[k]? = some x) : w.cell? ⟨g, k, none⟩ = some (.int .i64 x) := by
  have hl : us.length = n := (nr_own h).1
  obtain ⟨b, off, y, e, hb, hy, hc⟩ := nr_at (nr_own h) (k := k) (by have := get_lt hk; omega)
  obtain ⟨rfl, rfl⟩ : g = b ∧ 0 = off := by injection e with e; injection e with e1 e2; exact ⟨e1, e2⟩
  rw [hk] at hy
  obtain rfl := Option.some.inj hy
  simpa using hc
theorem fst_full {l : Ln} (hv : LV l) {i : Nat} (h : Fst l false i) : Fst ⟨l.rs, l.ws, l.ws⟩ true i := by
  have key : ∀ j, Has ⟨l.rs, l.ws, l.ws⟩ true j ↔ Has l false j := fun j => by
    constructor
    · intro hh; exact ⟨hh.1, fun e => by cases e⟩
    · intro hh
      obtain ⟨⟨r, hr, hn⟩, -⟩ := hh
      refine ⟨⟨r, hr, hn⟩, fun _ => ?_⟩
      obtain ⟨y, hy⟩ := get_of (xs := l.ws) (k := j) (by have := get_lt hr; have := hv.n0; have := hv.n1; omega)
      exact ⟨y, hy, by have := hv.wt j y hy; omega⟩
  exact ⟨(key i).2 h.1, fun j hj hh => h.2 j hj ((key j).1 hh)⟩
set_option maxRecDepth 100000 in
set_option maxHeartbeats 8000000 in
theorem nxS_any (A : Option Addr) (n c : Nat) (B : Option Addr) (m d : Nat) (C : Option Addr) (o f : Nat) (l : Ln) (i : Nat) (w : World) (h : LR w A n B m C o l) (hv : LV l) (ht : Turn6 l i) :
    Calls Try.prog 53 #[.agg #[.slice A n c, .slice B m d, .slice C o f]] w (NxS6 w l i) := by
  have H := Lib.hid h
  have HV := Lib.hid hv
  obtain ⟨r, x, y, hr, hn, hx, hy, hR, hi4, x0', xy, y1', y9⟩ := turn_get hv ht
  have HG := Lib.hid hr
  have HX := Lib.hid hx
  have HY := Lib.hid hy
  have HNE := Lib.hid hn
  have HRL := Lib.hid hR
  have F := Lib.hid (fm_three w 26 26 29 #[.slice A n c, .slice B m d, .slice C o f] #[.slice none 0 0, .slice none 0 0, .slice none 0 0] #[.int .i64 0, .int .i64 0, .int .i64 0, .int .i64 0])
  have HT := Lib.hid ht
  clear h hv hr hx hy hn hR ht
  go_enter Try.func53, Try.ntmps53
  go_wp2_with fail
  refine (copyLS_any A n c B m d C o f l _ (lr_below H.out F.out.below)).mono ?_
  rintro e w2 ⟨A4, n4, c4, B4, m4, d4, C4, o4, f4, hs4, iv4, rfl, e1, e2, e3, hL, hI, hb⟩
  obtain rfl : n4 = 4 := by have := HV.out.n0; omega
  obtain rfl : m4 = 4 := by have := HV.out.n1; omega
  obtain rfl : o4 = 4 := by have := HV.out.n2; omega
  have X2 := Lib.hid (xs_first (fm_below F.out hb) hL hI (by simp) hb.size)
  clear hL hI hb e1 e2 e3 F
  go_upto_region 2 with fail
  obtain ⟨LB, hLB⟩ : ∃ LB, w2.heap.size = LB := ⟨_, rfl⟩
  generalize (w2.alloc (.cells #[.slice A4 4 c4, .slice B4 4 d4, .slice C4 4 f4] 26)) = W2 at X2 ⊢
  rw [hLB] at X2 ⊢
  clear hLB
  obtain ⟨⟨y0, y1, y2⟩, -⟩ := blk_three X2.out.out
  go_wp2_with fail
  refine (fsS_any A4 4 c4 B4 4 d4 C4 4 f4 l _ (xs_lr X2.out) (by omega) true).mono ?_
  rintro e w3 ⟨he, hb⟩
  have X3 := Lib.hid (xs_below X2.out hb)
  clear hb y0 y1 y2 X2
  obtain ⟨⟨y0, y1, y2⟩, yf0, yf1, yf2⟩ := blk_three X3.out.out
  have zL := blk_lt X3.out.out
  rcases HT.out with ht | ⟨hno, hfst⟩
  · -- a credit is there
    have hpos : 0 < x := by
      obtain ⟨-, hc⟩ := ht.1
      obtain ⟨x', hx', hp⟩ := hc rfl
      obtain rfl : x = x' := Option.some.inj (HX.out.symm.trans hx')
      exact hp
    have HNN := Lib.hid (nxN_yes HG.out HX.out hpos)
    rcases he with ⟨i', hi', rfl⟩ | ⟨hno, -⟩
    · obtain rfl : i = i' := fst_uniq ht hi'
      obtain ⟨gC, fC, hvC, -, -⟩ := X3.out.lo.c.form (by omega)
      obtain ⟨rfl, rfl⟩ : C4 = some ⟨gC, 0, none⟩ ∧ f4 = fC := by injection hvC with a1 a2 a3; exact ⟨a1, a3⟩
      obtain ⟨x1, hx1⟩ : ∃ x1, x = x1 := ⟨_, rfl⟩
      subst hx1
      have HC1 := Lib.hid HX.out
      have hdi : decide ((i : Int) < 0) = false := decide_eq_false (by omega)
      have k0' : (0 : Int) ≤ (i : Int) := by omega
      have k1' : (i : Int) < 4 := by omega
      clear hvC hi' ht
      obtain ⟨g, cap, hvA, -, hglt⟩ := X3.out.lo.r.row.form (by omega)
      obtain ⟨rfl, rfl⟩ : A4 = some ⟨g, 0, none⟩ ∧ c4 = cap := by injection hvA with a1 a2 a3; exact ⟨a1, a3⟩
      obtain ⟨⟨y0, y1, y2⟩, yf0, yf1, yf2⟩ := blk_three X3.out.out
      have zL := blk_lt X3.out.out
      have zL2 := X3.out.hL
      obtain ⟨bb, oo, r', A1, n1, c1, ea, -, hr', d0, d1, hfr⟩ := rr_at (xs_lr X3.out).r (k := i) hi4
      obtain ⟨rfl, rfl⟩ : g = bb ∧ 0 = oo := by injection ea with ea; injection ea with a b; exact ⟨a, b⟩
      obtain rfl : r = r' := Option.some.inj (HG.out.symm.trans hr')
      rw [Nat.zero_add] at d0 d1
      have HFR := Lib.hid hfr
      clear hvA ea hr' hfr
      go_wp2_with fail
      refine (nextS_any r.q A1 n1 c1 r.fs _ HFR.out HRL.out.rv HNE.out).mono ?_
      rintro e w7 ⟨A5, n5, c5, rfl, hfx, hb⟩
      have X7 := Lib.hid (xs_below X3.out hb)
      have HX7 := Lib.hid (frx_mono (Y := fun b => w3.heap.size ≤ b) hfx (fun b hb => hb.resolve_left id))
      have z7 := hb.size
      have hgC : gC < w3.heap.size := (X3.out.lo.c.lt gC rfl).2
      have hcC := X3.out.lo.ac gC rfl
      have hgne : gC ≠ g := fun e => hcC.1 (by rw [e]; rfl)
      have hgL : g ≠ LB := fun e => X3.out.sa.1 (by rw [e]; rfl)
      have hCL : gC ≠ LB := fun e => X3.out.sc (by rw [e]; rfl)
      clear hb hfx y0 y1 y2 yf0 yf1 yf2 d0 d1 HFR hcC
      have BP := Lib.hid (below_alloc (below_alloc (Below.refl w7.heap.size w7) (.cells #[.int .i64 r.q, .slice A5 n5 c5] 37)) (.cells #[.int .i64 (nxP r.q r.fs).peer, .int .i64 (nxP r.q r.fs).lane, .int .i64 (nxP r.q r.fs).size, .int .i64 (nxP r.q r.fs).id] 29))
      have X8 := Lib.hid (xs_below X7.out BP.out)
      have HX8 := Lib.hid (frx_below HX7.out BP.out)
      have RB := Lib.hid (show Blk ((w7.alloc (.cells #[.int .i64 r.q, .slice A5 n5 c5] 37)).alloc (.cells #[.int .i64 (nxP r.q r.fs).peer, .int .i64 (nxP r.q r.fs).lane, .int .i64 (nxP r.q r.fs).size, .int .i64 (nxP r.q r.fs).id] 29)) w7.heap.size 37 #[.int .i64 r.q, .slice A5 n5 c5] from blk_alloc (blk_new w7 _ _) _)
      have PB := Lib.hid (show Blk ((w7.alloc (.cells #[.int .i64 r.q, .slice A5 n5 c5] 37)).alloc (.cells #[.int .i64 (nxP r.q r.fs).peer, .int .i64 (nxP r.q r.fs).lane, .int .i64 (nxP r.q r.fs).size, .int .i64 (nxP r.q r.fs).id] 29)) (w7.heap.size + 1) 29 #[.int .i64 (nxP r.q r.fs).peer, .int .i64 (nxP r.q r.fs).lane, .int .i64 (nxP r.q r.fs).size, .int .i64 (nxP r.q r.fs).id] from blk_new2 w7 _ _ _)
      have HQ := Lib.hid (nxQ_eq HG.out)
      generalize nxP r.q r.fs = pk at *
      go_upto_region 7 with fail
      generalize ((w7.alloc (.cells #[.int .i64 r.q, .slice A5 n5 c5] 37)).alloc (.cells #[.int .i64 pk.peer, .int .i64 pk.lane, .int .i64 pk.size, .int .i64 pk.id] 29)) = W8 at X8 HX8 RB PB ⊢
      obtain ⟨⟨y0, y1, y2⟩, yf0, yf1, yf2⟩ := blk_three X8.out.out
      obtain ⟨b0, b1, -, -⟩ := blk_two RB.out
      obtain ⟨⟨p0, p1, p2, p3⟩, -⟩ := blk_fourR PB.out
      have zR := blk_lt RB.out
      have zP := blk_lt PB.out
      obtain ⟨bb, oo, hh, ea, -, hhk, d0, d1⟩ := hq_at (hq_own X8.out.lo.r.row) hi4
      obtain ⟨rfl, rfl⟩ : g = bb ∧ 0 = oo := by injection ea with ea; injection ea with a b; exact ⟨a, b⟩
      rw [Nat.zero_add] at d0 d1
      have df0 := World.ownsRow.frozenAt X8.out.lo.r.row (i * 2)
      have df1 := World.ownsRow.frozenAt X8.out.lo.r.row (i * 2 + 1)
      have e0 := own_int_at7 X8.out.lo.c HC1.out
      have ef0 := World.ownsRow.frozenAt X8.out.lo.c i
      have YL1 := Lib.hid (yl_mk (c5 := c5) r.q (x - 1) X8.out HX8.out hi4 (by omega) hgC)
      have yw : IntKind.i64.wrap (x - 1) = x - 1 := IntWalk.i64_in _ (by omega)
      obtain ⟨⟨o0, o1, o2⟩, of0, of1, of2⟩ := blk_three (fm_blk X8.out.fm 1 rfl)
      obtain ⟨⟨k0, k1, k2, k3⟩, kf0, kf1, kf2, kf3⟩ := blk_fourR (fm_blk X8.out.fm 2 rfl)
      have zo1 := blk_lt (fm_blk X8.out.fm 1 rfl)
      have zo2 := blk_lt (fm_blk X8.out.fm 2 rfl)
      have hg3 := (X8.out.lo.r.row.lt g rfl).1
      have hgC3 := (X8.out.lo.c.lt gC rfl).1
      have zRB : w7.heap.size ≠ LB := by omega
      have zRg : w7.heap.size ≠ g := by omega
      have zRC : w7.heap.size ≠ gC := by omega
      have zPg : w7.heap.size + 1 ≠ g := by omega
      have zPC : w7.heap.size + 1 ≠ gC := by omega
      have zPL : w7.heap.size + 1 ≠ LB := by omega
      have zg1 : g ≠ w.heap.size + 1 := by omega
      have zg2 : g ≠ w.heap.size + 2 := by omega
      have zC1 : gC ≠ w.heap.size + 1 := by omega
      have zC2 : gC ≠ w.heap.size + 2 := by omega
      have zL1' : LB ≠ w.heap.size + 1 := by omega
      have zL2' : LB ≠ w.heap.size + 2 := by omega
      have FB := Lib.hid X8.out.fm.below
      clear ea hhk
      go_wp2_with fail
      go_region
      all_goals
        go_wp2_with fail
        go_region
        all_goals
          go_wp2
          refine bodyPost_ret (v := .tuple #[.agg #[.slice (some ⟨g, 0, none⟩) 4 c4, .slice B4 4 d4, .slice (some ⟨gC, 0, none⟩) 4 f4], .agg #[.int .i64 pk.peer, .int .i64 pk.lane, .int .i64 pk.size, .int .i64 pk.id]]) (by simp [results, Try.results53, go_sem, o0, o1, o2, k0, k1, k2, k3]) rfl ⟨some ⟨g, 0, none⟩, c4, B4, d4, some ⟨gC, 0, none⟩, f4, by rw [HQ.out], ?_, ?_⟩
          · rw [HNN.out]
            refine lax_mono (X := fun b => w.heap.size + 3 ≤ b) (yl_lx (d := d4) (f := f4) (i := i) (c5 := c5) (hs := hs4.set i ⟨r.q, A5, n5, c5⟩) (iv := iv4) (s := w3.heap.size) (c4 := c4) (rs := l.rs) ?_ (by rw [List.getElem?_set_self]; have := (dr_len X8.out.lo.r).1; omega) HV.out.n0 (by omega)) (fun b hb _ => by have hb' : w.heap.size + 3 ≤ b := hb; omega)
            repeat (first | (with_reducible refine yl_drewN ?_ _) | (with_reducible refine yl_drew ?_))
            iterate 7 (with_reducible refine yl_far ?_ (by simp <;> omega) (by omega) _)
            exact YL1.out
          · repeat (first | (with_reducible refine below_drewN ?_ _) | (with_reducible refine Below.drew ?_))
            iterate 10 (with_reducible refine Below.setCell ?_ (by simp <;> omega) _)
            exact FB.out
    · exact absurd ht.1 (hno i)
  · have hneg : ¬ 0 < x := fun hp => hno i ⟨hfst.1.1, fun _ => ⟨x, HX.out, hp⟩⟩
    have HNN := Lib.hid (nxN_no HG.out HX.out HY.out hneg)
    have hdm : decide ((-1 : Int) < 0) = true := by decide
    rcases he with ⟨i', hi', rfl⟩ | ⟨-, rfl⟩
    · exact absurd hi'.1 (hno i')
    · have zz := X3.out.hL
      have zw := X3.out.fm.below.size
      have E0 := Lib.hid (own_mono (b2 := w.heap.size + 3) (own_emptyI (W := w3) rfl) (by omega))
      have E1 := Lib.hid (nr_own (own_below X3.out.lo.b (below_alloc (Below.refl w3.heap.size w3) (.cells #[] 3))))
      have E2 := Lib.hid (blk_alloc X3.out.out (.cells #[] 3))
      go_wp2_with (at_builtin
                   refine wpl_app_ints _ rfl (.tmp 14) (.tmp 16) rfl (w.heap.size + 3) (.slice (some ⟨w3.heap.size, 0, none⟩) 0 0) 0 [] rfl E0.out B4 4 d4 l.ws rfl E1.out (by omega) (by simp; omega) ?_
                   intro v5 w5 ho5 hg5 hat5
                   simp only [List.nil_append, Nat.zero_add] at ho5
                   have X5 := Lib.hid (xs_newC X3.out ho5 hg5 (hat5.imp id (fun e => e.trans (by simp))))
                   obtain ⟨C5, f5, rfl, -, -, -⟩ := own_form ho5
                   have E3 := Lib.hid (blk_grownQ E2.out hg5 (fun e => by have h2 : LB = w3.heap.size := Option.some.inj e; omega))
                   have z5 := hg5.size
                   simp at z5
                   clear ho5 hg5 hat5 y0 y1 y2 yf0 yf1 yf2
                   obtain ⟨⟨y0, y1, y2⟩, yf0, yf1, yf2⟩ := blk_three E3.out)
      clear y0 y1 y2 yf0 yf1 yf2 E0 E1 E2 E3
      obtain ⟨⟨y0, y1, y2⟩, -⟩ := blk_three X5.out.out
      go_wp2_with fail
      refine (fsS_any A4 4 c4 B4 4 d4 C5 4 f5 ⟨l.rs, l.ws, l.ws⟩ _ (xs_lr X5.out) (by omega) true).mono ?_
      rintro e w6 ⟨he, hb⟩
      have X6 := Lib.hid (xs_below X5.out hb)
      clear hb y0 y1 y2 X5 zL
      rcases he with ⟨i', hi', rfl⟩ | ⟨hno', -⟩
      · obtain rfl : i = i' := fst_uniq (fst_full HV.out hfst) hi'
        obtain ⟨gC, fC, hvC, -, -⟩ := X6.out.lo.c.form (by omega)
        obtain ⟨rfl, rfl⟩ : C5 = some ⟨gC, 0, none⟩ ∧ f5 = fC := by injection hvC with a1 a2 a3; exact ⟨a1, a3⟩
        have HC1 := Lib.hid HY.out
        have hdi : decide ((i : Int) < 0) = false := decide_eq_false (by omega)
        have k0' : (0 : Int) ≤ (i : Int) := by omega
        have k1' : (i : Int) < 4 := by omega
        clear hvC hi' hfst hno zz zw
        obtain ⟨g, cap, hvA, -, hglt⟩ := X6.out.lo.r.row.form (by omega)
        obtain ⟨rfl, rfl⟩ : A4 = some ⟨g, 0, none⟩ ∧ c4 = cap := by injection hvA with a1 a2 a3; exact ⟨a1, a3⟩
        obtain ⟨⟨y0, y1, y2⟩, yf0, yf1, yf2⟩ := blk_three X6.out.out
        have zL := blk_lt X6.out.out
        have zL2 := X6.out.hL
        obtain ⟨bb, oo, r', A1, n1, c1, ea, -, hr', d0, d1, hfr⟩ := rr_at (xs_lr X6.out).r (k := i) hi4
        obtain ⟨rfl, rfl⟩ : g = bb ∧ 0 = oo := by injection ea with ea; injection ea with a b; exact ⟨a, b⟩
        obtain rfl : r = r' := Option.some.inj (HG.out.symm.trans hr')
        rw [Nat.zero_add] at d0 d1
        have HFR := Lib.hid hfr
        clear hvA ea hr' hfr
        go_wp2_with fail
        refine (nextS_any r.q A1 n1 c1 r.fs _ HFR.out HRL.out.rv HNE.out).mono ?_
        rintro e w7 ⟨A5, n5, c5, rfl, hfx, hb⟩
        have X7 := Lib.hid (xs_below X6.out hb)
        have HX7 := Lib.hid (frx_mono (Y := fun b => w6.heap.size ≤ b) hfx (fun b hb => hb.resolve_left id))
        have z7 := hb.size
        have hgC : gC < w6.heap.size := (X6.out.lo.c.lt gC rfl).2
        have hcC := X6.out.lo.ac gC rfl
        have hgne : gC ≠ g := fun e => hcC.1 (by rw [e]; rfl)
        have hgL : g ≠ LB := fun e => X6.out.sa.1 (by rw [e]; rfl)
        have hCL : gC ≠ LB := fun e => X6.out.sc (by rw [e]; rfl)
        clear hb hfx y0 y1 y2 yf0 yf1 yf2 d0 d1 HFR hcC
        have BP := Lib.hid (below_alloc (below_alloc (Below.refl w7.heap.size w7) (.cells #[.int .i64 r.q, .slice A5 n5 c5] 37)) (.cells #[.int .i64 (nxP r.q r.fs).peer, .int .i64 (nxP r.q r.fs).lane, .int .i64 (nxP r.q r.fs).size, .int .i64 (nxP r.q r.fs).id] 29))
        have X8 := Lib.hid (xs_below X7.out BP.out)
        have HX8 := Lib.hid (frx_below HX7.out BP.out)
        have RB := Lib.hid (show Blk ((w7.alloc (.cells #[.int .i64 r.q, .slice A5 n5 c5] 37)).alloc (.cells #[.int .i64 (nxP r.q r.fs).peer, .int .i64 (nxP r.q r.fs).lane, .int .i64 (nxP r.q r.fs).size, .int .i64 (nxP r.q r.fs).id] 29)) w7.heap.size 37 #[.int .i64 r.q, .slice A5 n5 c5] from blk_alloc (blk_new w7 _ _) _)
        have PB := Lib.hid (show Blk ((w7.alloc (.cells #[.int .i64 r.q, .slice A5 n5 c5] 37)).alloc (.cells #[.int .i64 (nxP r.q r.fs).peer, .int .i64 (nxP r.q r.fs).lane, .int .i64 (nxP r.q r.fs).size, .int .i64 (nxP r.q r.fs).id] 29)) (w7.heap.size + 1) 29 #[.int .i64 (nxP r.q r.fs).peer, .int .i64 (nxP r.q r.fs).lane, .int .i64 (nxP r.q r.fs).size, .int .i64 (nxP r.q r.fs).id] from blk_new2 w7 _ _ _)
        have HQ := Lib.hid (nxQ_eq HG.out)
        generalize nxP r.q r.fs = pk at *
        go_upto_region 7 with fail
        generalize ((w7.alloc (.cells #[.int .i64 r.q, .slice A5 n5 c5] 37)).alloc (.cells #[.int .i64 pk.peer, .int .i64 pk.lane, .int .i64 pk.size, .int .i64 pk.id] 29)) = W8 at X8 HX8 RB PB ⊢
        obtain ⟨⟨y0, y1, y2⟩, yf0, yf1, yf2⟩ := blk_three X8.out.out
        obtain ⟨b0, b1, -, -⟩ := blk_two RB.out
        obtain ⟨⟨p0, p1, p2, p3⟩, -⟩ := blk_fourR PB.out
        have zR := blk_lt RB.out
        have zP := blk_lt PB.out
        obtain ⟨bb, oo, hh, ea, -, hhk, d0, d1⟩ := hq_at (hq_own X8.out.lo.r.row) hi4
        obtain ⟨rfl, rfl⟩ : g = bb ∧ 0 = oo := by injection ea with ea; injection ea with a b; exact ⟨a, b⟩
        rw [Nat.zero_add] at d0 d1
        have df0 := World.ownsRow.frozenAt X8.out.lo.r.row (i * 2)
        have df1 := World.ownsRow.frozenAt X8.out.lo.r.row (i * 2 + 1)
        have e0 := own_int_at7 X8.out.lo.c HC1.out
        have ef0 := World.ownsRow.frozenAt X8.out.lo.c i
        have YL1 := Lib.hid (yl_mk (c5 := c5) r.q (y - 1) X8.out HX8.out hi4 (by omega) hgC)
        have yw : IntKind.i64.wrap (y - 1) = y - 1 := IntWalk.i64_in _ (by omega)
        obtain ⟨⟨o0, o1, o2⟩, of0, of1, of2⟩ := blk_three (fm_blk X8.out.fm 1 rfl)
        obtain ⟨⟨k0, k1, k2, k3⟩, kf0, kf1, kf2, kf3⟩ := blk_fourR (fm_blk X8.out.fm 2 rfl)
        have zo1 := blk_lt (fm_blk X8.out.fm 1 rfl)
        have zo2 := blk_lt (fm_blk X8.out.fm 2 rfl)
        have hg3 := (X8.out.lo.r.row.lt g rfl).1
        have hgC3 := (X8.out.lo.c.lt gC rfl).1
        have zRB : w7.heap.size ≠ LB := by omega
        have zRg : w7.heap.size ≠ g := by omega
        have zRC : w7.heap.size ≠ gC := by omega
        have zPg : w7.heap.size + 1 ≠ g := by omega
        have zPC : w7.heap.size + 1 ≠ gC := by omega
        have zPL : w7.heap.size + 1 ≠ LB := by omega
        have zg1 : g ≠ w.heap.size + 1 := by omega
        have zg2 : g ≠ w.heap.size + 2 := by omega
        have zC1 : gC ≠ w.heap.size + 1 := by omega
        have zC2 : gC ≠ w.heap.size + 2 := by omega
        have zL1' : LB ≠ w.heap.size + 1 := by omega
        have zL2' : LB ≠ w.heap.size + 2 := by omega
        have FB := Lib.hid X8.out.fm.below
        clear ea hhk
        go_wp2_with fail
        go_region
        all_goals
          go_wp2_with fail
          go_region
          all_goals
            go_wp2
            refine bodyPost_ret (v := .tuple #[.agg #[.slice (some ⟨g, 0, none⟩) 4 c4, .slice B4 4 d4, .slice (some ⟨gC, 0, none⟩) 4 f5], .agg #[.int .i64 pk.peer, .int .i64 pk.lane, .int .i64 pk.size, .int .i64 pk.id]]) (by simp [results, Try.results53, go_sem, o0, o1, o2, k0, k1, k2, k3]) rfl ⟨some ⟨g, 0, none⟩, c4, B4, d4, some ⟨gC, 0, none⟩, f5, by rw [HQ.out], ?_, ?_⟩
            · rw [HNN.out]
              refine lax_mono (X := fun b => w.heap.size + 3 ≤ b) (yl_lx (d := d4) (f := f5) (i := i) (c5 := c5) (hs := hs4.set i ⟨r.q, A5, n5, c5⟩) (iv := iv4) (s := w6.heap.size) (c4 := c4) (rs := l.rs) ?_ (by rw [List.getElem?_set_self]; have := (dr_len X8.out.lo.r).1; omega) HV.out.n0 (by omega)) (fun b hb _ => by have hb' : w.heap.size + 3 ≤ b := hb; omega)
              repeat (first | (with_reducible refine yl_drewN ?_ _) | (with_reducible refine yl_drew ?_))
              iterate 7 (with_reducible refine yl_far ?_ (by simp <;> omega) (by omega) _)
              exact YL1.out
            · repeat (first | (with_reducible refine below_drewN ?_ _) | (with_reducible refine Below.drew ?_))
              iterate 10 (with_reducible refine Below.setCell ?_ (by simp <;> omega) _)
              exact FB.out
      · exact absurd (fst_full HV.out hfst).1 (hno' i)
end Go.Proofs.Ytkmoiphcpmhacaa
namespace Go.Proofs.Ytkmoiphcpmhacaa
open Go.RowKit

def TkSNo (w : World) (e : Ending) (w' : World) : Prop :=
  ∃ At ct, e = .returned (.tuple #[.agg #[.slice none 0 0, .slice none 0 0, .slice none 0 0], .slice At 0 ct, .bool false]) ∧ Below w.heap.size w w'
def TkSYes (w : World) (l : Ln) (k : Nat) (e : Ending) (w' : World) : Prop :=
  ∃ A c B d C f At ct, e = .returned (.tuple #[.agg #[.slice A 4 c, .slice B 4 d, .slice C 4 f], .slice At (tkN k l).2.length ct, .bool true]) ∧ LR w' A 4 B 4 C 4 (tkN k l).1 ∧ w'.ownsRow w.heap.size 29 4 (.slice At (tkN k l).2.length ct) (tkN k l).2.length (pcells (tkN k l).2) ∧ Below w.heap.size w w'
/-- as TkSYes, with the blocks in which the lanes lie -/
def TkSYesX (w : World) (l : Ln) (k : Nat) (e : Ending) (w' : World) : Prop :=
  ∃ A c B d C f At ct, e = .returned (.tuple #[.agg #[.slice A 4 c, .slice B 4 d, .slice C 4 f], .slice At (tkN k l).2.length ct, .bool true]) ∧ LaX w' (fun b => w.heap.size ≤ b) A 4 B 4 C 4 (tkN k l).1 ∧ w'.ownsRow w.heap.size 29 4 (.slice At (tkN k l).2.length ct) (tkN k l).2.length (pcells (tkN k l).2) ∧ Below w.heap.size w w'
def lenV6 : Value → Nat
  | .slice _ n _ => n
  | _ => 0
structure TkR (w : World) (va : Array Value) (LB : Nat) (l : Ln) (k : Nat) (tk : Value) (A : Option Addr) (c : Nat) (B : Option Addr) (d : Nat) (C : Option Addr) (f : Nat) (wr : World) : Prop where
  fm : Fm w [⟨w.heap.size, w.heap.size + 1, BoxP w.heap.size 26 va⟩, ⟨w.heap.size + 1, w.heap.size + 2, BoxP (w.heap.size + 1) 26 #[.slice none 0 0, .slice none 0 0, .slice none 0 0]⟩] wr
  out : Blk wr LB 26 #[.slice A 4 c, .slice B 4 d, .slice C 4 f]
  lx : LaX wr (fun b => b ≠ LB ∧ w.heap.size + 3 ≤ b ∧ tk.ownBlock ≠ some b) A 4 B 4 C 4 (tkN k l).1
  own : wr.ownsRow (w.heap.size + 2) 29 4 tk (tkN k l).2.length (pcells (tkN k l).2)
  sep : tk.ownBlock ≠ some LB
  hL : w.heap.size + 3 ≤ LB
  len : (tkN k l).2.length = k
section
variable {w w1 w2 w3 w6 : World} {va : Array Value} {LB k c d f i c3 d3 f3 : Nat} {l : Ln} {tk v6 : Value} {A B C A3 B3 C3 : Option Addr}
theorem tkr_below (T : TkR w va LB l k tk A c B d C f w1) (hb : Below w1.heap.size w1 w2) : TkR w va LB l k tk A c B d C f w2 :=
  ⟨fm_below T.fm hb, blk_below T.out hb (blk_lt T.out), lax_below T.lx hb, own_below T.own hb, T.sep, T.hL, T.len⟩
theorem tkr_next (T : TkR w va LB l k tk A c B d C f w1) (ht : Turn6 (tkN k l).1 i) (hb : Below w1.heap.size w1 w3) (hx : LaX w3 (fun b => w1.heap.size ≤ b) A3 4 B3 4 C3 4 (nxN (tkN k l).1 i))
    (ho : w6.ownsRow (w.heap.size + 2) 29 4 v6 (k + 1) (pcells ((tkN k l).2 ++ [nxQ (tkN k l).1 i]))) (hg : w3.grownBy w6 tk.ownBlock) (hat : v6.ownBlock = tk.ownBlock ∨ ∃ g, v6.ownBlock = some g ∧ w3.heap.size ≤ g) :
    TkR w va LB l (k + 1) v6 A3 c3 B3 d3 C3 f3 (((w6.setCell ⟨LB, 0, none⟩ (.slice A3 4 c3)).setCell ⟨LB, 1, none⟩ (.slice B3 4 d3)).setCell ⟨LB, 2, none⟩ (.slice C3 4 f3)) := by
  have hR := blk_lt T.out
  have hz := hb.size
  have h3 := T.hL
  have hw : w.heap.size ≤ w1.heap.size := T.fm.below.size
  have hlo : ∀ g, tk.ownBlock = some g → w.heap.size + 2 ≤ g ∧ g < w1.heap.size := fun g e => T.own.lt g e
  have hsep : v6.ownBlock ≠ some LB := fun e => by
    rcases hat with h | ⟨g2, h, h2⟩
    · exact T.sep (h.symm.trans e)
    · rw [h] at e; injection e with e; omega
  have hE := tkN_snoc ht
  refine ⟨?_, ?_, ?_, ?_, hsep, T.hL, ?_⟩
  · refine fm_out (fm_out (fm_out (fm_grownO (fm_below T.fm hb) hg fun b e => ⟨by have := hlo b e; omega, fun x hx => ?_⟩) (fun x hx => ?_) (by omega) _) (fun x hx => ?_) (by omega) _) (fun x hx => ?_) (by omega) _
    · have := hlo b e
      simp only [List.mem_cons, List.not_mem_nil, or_false] at hx
      rcases hx with rfl | rfl <;> (simp only; omega)
    all_goals
      simp only [List.mem_cons, List.not_mem_nil, or_false] at hx
      rcases hx with rfl | rfl <;> (simp only; omega)
  · exact blk_set (blk_set (blk_set (blk_grownQ (blk_below T.out hb hR) hg fun e => T.sep e.symm) 0 _) 1 _) 2 _
  · rw [hE]
    have x1 := lax_mono hx (Y := fun b => w1.heap.size ≤ b ∧ b < w3.heap.size) fun b h1 h2 => ⟨h1, h2⟩
    have x2 := lax_grown x1 hg fun b hb e => by have := hlo b e.symm; have := hb.1; omega
    have x3 := lax_set (lax_set (lax_set x2 (p := ⟨LB, 0, none⟩) (fun h => by have := h.1; simp at this; omega) (.slice A3 4 c3)) (p := ⟨LB, 1, none⟩) (fun h => by have := h.1; simp at this; omega) (.slice B3 4 d3)) (p := ⟨LB, 2, none⟩) (fun h => by have := h.1; simp at this; omega) (.slice C3 4 f3)
    refine lax_mono x3 fun b hb _ => ⟨by have := hb.1; omega, by have := hb.1; omega, fun e => ?_⟩
    rcases hat with h | ⟨g2, h, h2⟩
    · have := hlo b (h.symm.trans e); have := hb.1; omega
    · rw [h] at e; injection e with e; have := hb.2; omega
  · rw [hE, List.length_append]
    simp only [List.length_cons, List.length_nil, T.len]
    exact own_set_ne (p := ⟨LB, 2, none⟩) (own_set_ne (p := ⟨LB, 1, none⟩) (own_set_ne (p := ⟨LB, 0, none⟩) ho hsep _) hsep _) hsep _
  · rw [hE, List.length_append, T.len]; rfl
end
set_option maxRecDepth 100000 in
set_option maxHeartbeats 4000000 in
theorem tkS_no (A : Option Addr) (n c : Nat) (B : Option Addr) (m d : Nat) (C : Option Addr) (o f : Nat) (l : Ln) (b : Int) (w : World) (h : LR w A n B m C o l) (hk : ¬ (LV l ∧ 0 ≤ b)) :
    Calls Try.prog 28 #[.agg #[.slice A n c, .slice B m d, .slice C o f], .int .i64 b] w (TkSNo w) := by
  have H := Lib.hid h
  have F := Lib.hid (fm_alloc (fm_two w 26 26 #[.slice A n c, .slice B m d, .slice C o f] #[.slice none 0 0, .slice none 0 0, .slice none 0 0]) (.cells #[] 29))
  obtain ⟨v, hv⟩ : ∃ v, lvB l = v := ⟨_, rfl⟩
  have hb : v = false ∨ (v = true ∧ b < 0) := by
    rcases v with _ | _
    · exact .inl rfl
    · exact .inr ⟨rfl, Int.not_le.1 fun h => hk ⟨lv_iff.1 hv, h⟩⟩
  have HR := Lib.hid hv
  clear h hk hv
  rcases hb with rfl | ⟨rfl, hb⟩
  · go_enter Try.func28, Try.ntmps28
    go_wp2_with (go_at_call 51
                 refine (lanS_any A n c B m d C o f l _ (lr_below H.out F.out.below)).mono ?_
                 rintro e w1 ⟨rfl, hb1⟩
                 rw [HR.out]
                 have F1 := Lib.hid (fm_below F.out hb1)
                 obtain ⟨⟨o0, o1, o2⟩, of0, of1, of2⟩ := blk_three (fm_blk F1.out 1 rfl)
                 have zo := blk_lt (fm_blk F1.out 1 rfl)
                 clear hb1)
    refine bodyPost_ret (v := .tuple #[.agg #[.slice none 0 0, .slice none 0 0, .slice none 0 0], .slice (some ⟨w.heap.size + 2, 0, none⟩) 0 0, .bool false]) (by simp [results, Try.results28, go_sem, o0, o1, o2]) rfl ⟨some ⟨w.heap.size + 2, 0, none⟩, 0, rfl, ?_⟩
    iterate 3 (with_reducible refine Below.setCell ?_ (by simp <;> omega) _)
    exact F1.out.below
  · have hd : decide (b < 0) = true := by simp; omega
    go_enter Try.func28, Try.ntmps28
    go_wp2_with (go_at_call 51
                 refine (lanS_any A n c B m d C o f l _ (lr_below H.out F.out.below)).mono ?_
                 rintro e w1 ⟨rfl, hb1⟩
                 rw [HR.out]
                 have F1 := Lib.hid (fm_below F.out hb1)
                 obtain ⟨⟨o0, o1, o2⟩, of0, of1, of2⟩ := blk_three (fm_blk F1.out 1 rfl)
                 have zo := blk_lt (fm_blk F1.out 1 rfl)
                 clear hb1)
    refine bodyPost_ret (v := .tuple #[.agg #[.slice none 0 0, .slice none 0 0, .slice none 0 0], .slice (some ⟨w.heap.size + 2, 0, none⟩) 0 0, .bool false]) (by simp [results, Try.results28, go_sem, o0, o1, o2]) rfl ⟨some ⟨w.heap.size + 2, 0, none⟩, 0, rfl, ?_⟩
    iterate 3 (with_reducible refine Below.setCell ?_ (by simp <;> omega) _)
    exact F1.out.below
theorem tkr_turn {l : Ln} {i : Nat} (h : Fst l false i) : ∃ j, Turn6 l j := by
  rcases turn_or l with h2 | h2
  · exact h2
  · exact absurd h.1 (empty_no h2 false i)
theorem tkr_empty {l : Ln} (h : ∀ j, ¬ Has l false j) : Empty6 l := no_empty6 h
set_option maxRecDepth 100000 in
set_option maxHeartbeats 8000000 in
theorem tkS_yesX (A0 : Option Addr) (n c0 : Nat) (B0 : Option Addr) (m d0 : Nat) (C0 : Option Addr) (o f0 : Nat) (l : Ln) (b : Nat) (w : World) (h : LR w A0 n B0 m C0 o l) (hv : LV l) :
    Calls Try.prog 28 #[.agg #[.slice A0 n c0, .slice B0 m d0, .slice C0 o f0], .int .i64 (b : Int)] w (TkSYesX w l b) := by
  have H := Lib.hid h
  have F := Lib.hid (fm_alloc (fm_two w 26 26 #[.slice A0 n c0, .slice B0 m d0, .slice C0 o f0] #[.slice none 0 0, .slice none 0 0, .slice none 0 0]) (.cells #[] 29))
  have O := Lib.hid (own_mono (b2 := w.heap.size + 2) (own_emptyQ (W := (w.alloc (.cells #[.slice A0 n c0, .slice B0 m d0, .slice C0 o f0] 26)).alloc (.cells #[.slice none 0 0, .slice none 0 0, .slice none 0 0] 26)) (b := w.heap.size + 2) (by simp)) (by simp))
  have HR := Lib.hid (lv_iff.2 hv)
  have HV := Lib.hid hv
  have hd : decide ((b : Int) < 0) = false := by simp
  have h4 := Lib.hid (lr_four h hv)
  clear h hv
  go_enter Try.func28, Try.ntmps28
  go_wp2_with (first
    | (go_at_call 51
       refine (lanS_any A0 n c0 B0 m d0 C0 o f0 l _ (lr_below H.out F.out.below)).mono ?_
       rintro e w1 ⟨rfl, hb1⟩
       rw [HR.out]
       have F1 := Lib.hid (fm_below F.out hb1)
       have O1 := Lib.hid (own_below O.out hb1)
       have Z1 := Lib.hid hb1.size
       obtain ⟨⟨g0, g1, g2⟩, -⟩ := blk_three (fm_blk F1.out 0 rfl)
       clear hb1)
    | (go_at_call 68
       refine (copyLS_any A0 n c0 B0 m d0 C0 o f0 l _ (lr_below H.out F1.out.below)).mono ?_
       rintro e w2 ⟨A2, n2, c2, B2, m2, d2, C2, o2, f2, hs2, iv2, rfl, hn2, hm2, ho2, hL2, hI2, hb2⟩
       have F2 := Lib.hid (fm_below F1.out hb2)
       have O2 := Lib.hid (own_below O1.out hb2)
       have L2 := Lib.hid hL2
       have Z2 := Lib.hid hb2.size
       have N2 := Lib.hid (And.intro hn2 (And.intro hm2 ho2))
       clear hb2 hL2 hI2 g0 g1 g2 hn2 hm2 ho2))
  obtain ⟨e1, e2, e3⟩ : n2 = 4 ∧ m2 = 4 ∧ o2 = 4 := by have := N2.out; have := HV.out.n0; have := HV.out.n1; have := HV.out.n2; omega
  subst e1 e2 e3
  have z1 : w.heap.size + 3 ≤ w1.heap.size := by have := Z1.out; simpa using this
  have z2 : w1.heap.size ≤ w2.heap.size := Z2.out
  have R0 : Hid (∃ k A c B d C f, k ≤ b ∧ TkR w #[.slice A0 n c0, .slice B0 m d0, .slice C0 o f0] w2.heap.size l k (.slice (some ⟨w.heap.size + 2, 0, none⟩) 0 0) A c B d C f (w2.alloc (.cells #[.slice A2 4 c2, .slice B2 4 d2, .slice C2 4 f2] 26))) := Lib.hid
    ⟨0, A2, c2, B2, d2, C2, f2, Nat.zero_le _, fm_alloc F2.out _, blk_new w2 _ _, lax_mono (lax_below (lax_lo (X := fun b => w1.heap.size ≤ b ∧ b < w2.heap.size) L2.out (by omega) (by omega) (by omega) fun b h1 h2 => ⟨h1, h2⟩) (below_alloc (Below.refl _ _) _)) fun b hb _ => ⟨by have := hb.2; omega, by have := hb.1; omega, fun e => by simp [Value.ownBlock] at e; have := hb.1; omega⟩, O2.out.alloc _, fun e => by simp [Value.ownBlock] at e; omega, by omega, rfl⟩
  clear hd F O O1 F1 O2 L2 N2
  go_loopw [7] (fun tk wr => ∃ k A c B d C f, k ≤ b ∧ TkR w #[.slice A0 n c0, .slice B0 m d0, .slice C0 o f0] w2.heap.size l k tk A c B d C f wr) (fun tk _ => b - lenV6 tk)
  case atStart => exact R0.out
  case round =>
    obtain ⟨k, A4, c4, B4, d4, C4, f4, hkb, T⟩ := hrel
    clear R0
    have HT := Lib.hid T
    have HKV := Lib.hid (tkN_valid k l HV.out)
    have hk2 : k ≤ 2048 := by have := HKV.out.2.1; have := tot_le HV.out; have := T.len; omega
    obtain ⟨⟨l0, l1, l2⟩, lf0, lf1, lf2⟩ := blk_three T.out
    have zR := blk_lt T.out
    have hlen := T.len
    have hT2 := T.own
    rw [hlen] at hT2
    obtain ⟨At, ct, rfl, -, -, -⟩ := own_form hT2
    have OT := Lib.hid hT2
    obtain ⟨⟨o0, o1, o2⟩, of0, of1, of2⟩ := blk_three (fm_blk T.fm 1 rfl)
    have zo := blk_lt (fm_blk T.fm 1 rfl)
    clear T hT2
    by_cases hlt : k < b
    · have hd : decide ((k : Int) < (b : Int)) = true := by simp; omega
      go_wp2_with fail
      refine (fsS_any A4 4 c4 B4 4 d4 C4 4 f4 (tkN k l).1 _ (lax_lr HT.out.lx) (by omega) false).mono ?_
      rintro r w3 ⟨⟨i, hi, rfl⟩ | ⟨hi, rfl⟩, hb3⟩
      · obtain ⟨j, hj⟩ := tkr_turn hi
        have HJ := Lib.hid hj
        have T3 := Lib.hid (tkr_below HT.out hb3)
        have i0 : decide ((i : Int) ≥ 0) = true := by simp
        clear hi hj hb3 l0 l1 l2 lf0 lf1 lf2 o0 o1 o2 of0 of1 of2
        obtain ⟨⟨l0, l1, l2⟩, lf0, lf1, lf2⟩ := blk_three T3.out.out
        obtain ⟨P, hP⟩ : ∃ P, P = nxQ (tkN k l).1 j := ⟨_, rfl⟩
        have HP := Lib.hid hP
        clear hP
        go_wp2_with (first
          | (go_at_call 53
             refine (nxS_any A4 4 c4 B4 4 d4 C4 4 f4 (tkN k l).1 j _ (lax_lr T3.out.lx) HKV.out.1 HJ.out).mono ?_
             rintro e w5 ⟨A5, c5, B5, d5, C5, f5, rfl, hx5, hb5⟩
             rw [← HP.out]
             have T5 := Lib.hid (tkr_below T3.out hb5)
             have X5 := Lib.hid hx5
             have Z5 := Lib.hid hb5
             have OT5 := Lib.hid T5.out.own
             rw [hlen] at OT5
             have zR5 := blk_lt T5.out.out
             clear hb5 hx5 l0 l1 l2 lf0 lf1 lf2)
          | (at_builtin
             refine wpl_app_pkts _ rfl (.tmp 37) (.tmp 39) rfl (w.heap.size + 2) (.slice At k ct) k (tkN k l).2 rfl (((OT5.out.alloc _).alloc _).alloc _) (some ⟨w5.heap.size + 1 + 1, 0, none⟩) 1 1 [P] rfl (pr_single (blk_at (by simp) _ _)) (by omega) (by simp <;> omega) ?_
             intro v6 w6 ho6 hg6 hat6
             obtain ⟨A6, c6, rfl, -, -, -⟩ := own_form ho6
             have hg6' := (g_alloc (g_alloc (g_alloc (g_refl _ _) _) _) _).trans hg6
             have T6 := Lib.hid (tkr_next (c3 := c5) (d3 := d5) (f3 := f5) T3.out HJ.out Z5.out X5.out (by rw [← HP.out]; exact ho6) hg6' (hat6.imp id fun h => ⟨_, h, by simp <;> omega⟩))
             have B6 := Lib.hid (blk_grownQ T5.out.out hg6' fun e => T5.out.sep e.symm)
             have L9 := Lib.hid (blk_grownQ (blk_alloc (blk_alloc (blk_new w5 26 #[.slice A5 4 c5, .slice B5 4 d5, .slice C5 4 f5]) (.cells #[.int .i64 P.peer, .int .i64 P.lane, .int .i64 P.size, .int .i64 P.id] 29)) (.cells #[.int .i64 P.peer, .int .i64 P.lane, .int .i64 P.size, .int .i64 P.id] 29)) hg6 fun e => by have := (T5.out.own.lt _ e.symm).2; omega)
             obtain ⟨⟨l0, l1, l2⟩, lf0, lf1, lf2⟩ := blk_three B6.out
             obtain ⟨⟨n0, n1, n2⟩, -, -, -⟩ := blk_three L9.out
             have zR6 := blk_lt B6.out
             clear ho6 hg6 hat6 hg6'))
        go_roundw
        case rel => exact ⟨_, _, _, _, _, _, _, hlt, T6.out⟩
        case measure => simp [lenV6]; omega
      · have EQ : Hid (tkN b l = tkN k l) := Lib.hid (tkN_stop (tkr_empty hi) (Nat.le_of_lt hlt))
        have TT := Lib.hid (tkr_below HT.out hb3)
        have OO := Lib.hid (own_below OT.out hb3)
        have i0 : decide ((-1 : Int) ≥ 0) = false := by decide
        clear hi hb3 l0 l1 l2 lf0 lf1 lf2 o0 o1 o2 of0 of1 of2
        obtain ⟨⟨l0, l1, l2⟩, lf0, lf1, lf2⟩ := blk_three TT.out.out
        obtain ⟨⟨o0, o1, o2⟩, of0, of1, of2⟩ := blk_three (fm_blk TT.out.fm 1 rfl)
        have zo := blk_lt (fm_blk TT.out.fm 1 rfl)
        have zR3 := blk_lt TT.out.out
        go_wp2_with fail
        refine bodyPost_ret (v := .tuple #[.agg #[.slice A4 4 c4, .slice B4 4 d4, .slice C4 4 f4], .slice At k ct, .bool true]) (by simp [results, Try.results28, go_sem, o0, o1, o2]) rfl ⟨A4, c4, B4, d4, C4, f4, At, ct, by rw [EQ.out, hlen], ?_, ?_, ?_⟩
        · rw [EQ.out]
          refine lax_mono (X := fun g => g ≠ w2.heap.size ∧ w.heap.size + 3 ≤ g ∧ (Value.slice At k ct).ownBlock ≠ some g) ?_ (fun b hb _ => by have := hb.2.1; show w.heap.size ≤ b; omega)
          iterate 3 (with_reducible refine lax_set ?_ (fun hx => by have := hx.2.1; simp at this <;> omega) _)
          exact TT.out.lx
        · rw [EQ.out, hlen]
          refine own_mono (base := w.heap.size + 2) ?_ (by omega)
          iterate 3 (with_reducible refine own_set_far ?_ (by simp <;> omega) _)
          exact OO.out
        · iterate 3 (with_reducible refine Below.setCell ?_ (by simp <;> omega) _)
          exact TT.out.fm.below
    · have hd : decide ((k : Int) < (b : Int)) = false := by simp; omega
      obtain rfl : k = b := by omega
      have TT := Lib.hid HT.out
      have OO := Lib.hid OT.out
      go_wp2_with fail
      refine bodyPost_ret (v := .tuple #[.agg #[.slice A4 4 c4, .slice B4 4 d4, .slice C4 4 f4], .slice At k ct, .bool true]) (by simp [results, Try.results28, go_sem, o0, o1, o2]) rfl ⟨A4, c4, B4, d4, C4, f4, At, ct, by rw [hlen], ?_, ?_, ?_⟩
      · refine lax_mono (X := fun g => g ≠ w2.heap.size ∧ w.heap.size + 3 ≤ g ∧ (Value.slice At k ct).ownBlock ≠ some g) ?_ (fun b hb _ => by have := hb.2.1; show w.heap.size ≤ b; omega)
        iterate 3 (with_reducible refine lax_set ?_ (fun hx => by have := hx.2.1; simp at this <;> omega) _)
        exact TT.out.lx
      · rw [hlen]
        refine own_mono (base := w.heap.size + 2) ?_ (by omega)
        iterate 3 (with_reducible refine own_set_far ?_ (by simp <;> omega) _)
        exact OO.out
      · iterate 3 (with_reducible refine Below.setCell ?_ (by simp <;> omega) _)
        exact TT.out.fm.below
theorem tkS_yes (A0 : Option Addr) (n c0 : Nat) (B0 : Option Addr) (m d0 : Nat) (C0 : Option Addr) (o f0 : Nat) (l : Ln) (b : Nat) (w : World) (h : LR w A0 n B0 m C0 o l) (hv : LV l) :
    Calls Try.prog 28 #[.agg #[.slice A0 n c0, .slice B0 m d0, .slice C0 o f0], .int .i64 (b : Int)] w (TkSYes w l b) :=
  (tkS_yesX A0 n c0 B0 m d0 C0 o f0 l b w h hv).mono fun _ _ hp => by
    obtain ⟨A, c, B, d, C, f, At, ct, rfl, h1, h2, h3⟩ := hp
    exact ⟨A, c, B, d, C, f, At, ct, rfl, lax_lr h1, h2, h3⟩
end Go.Proofs.Ytkmoiphcpmhacaa
namespace Go.Proofs.Ytkmoiphcpmhacaa
open Go.RowKit

/-- robins of a row, with the blocks in which the row and what waits may lie -/
def RRX (w : World) (X : Nat → Prop) (A : Option Addr) (n : Nat) (rs : List Rb) : Prop :=
  ∃ hs, HQ w A n hs ∧ (0 < n → ∀ b, A.map (·.block) = some b → X b) ∧ hs.length = rs.length ∧ (∀ (k : Nat) (h : Rh) (r : Rb), hs[k]? = some h → rs[k]? = some r → h.q = r.q ∧ FRX w X h.A h.n r.fs) ∧ n ≤ 4000000000
/-- numbers of a row, with the block in which the row may lie -/
def NRX (w : World) (X : Nat → Prop) (A : Option Addr) (n : Nat) (xs : List Int) : Prop := NR w A n xs ∧ (0 < n → ∀ b, A.map (·.block) = some b → X b)
structure LRX (w : World) (X : Nat → Prop) (A : Option Addr) (n : Nat) (B : Option Addr) (m : Nat) (C : Option Addr) (k : Nat) (l : Ln) : Prop where
  r : RRX w X A n l.rs
  wt : NRX w X B m l.ws
  cr : NRX w X C k l.cs
  mb : m ≤ 4000000000
  kb : k ≤ 4000000000
section
variable {w w' : World} {X Y : Nat → Prop} {A B C : Option Addr} {n m k c : Nat} {rs : List Rb} {xs : List Int} {l : Ln}
theorem rrx_rr (h : RRX w X A n rs) : RR w A n rs := by
  obtain ⟨hs, h1, -, h3, h4, h5⟩ := h
  exact ⟨hs, h1, h3, fun k g r e1 e2 => ⟨(h4 k g r e1 e2).1, frx_fr (h4 k g r e1 e2).2⟩, h5⟩
theorem rr_rrx (h : RR w A n rs) : RRX w (fun b => b < w.heap.size) A n rs := by
  obtain ⟨hs, h1, h3, h4, h5⟩ := h
  exact ⟨hs, h1, hq_old h1, h3, fun k g r e1 e2 => ⟨(h4 k g r e1 e2).1, fr_frx (h4 k g r e1 e2).2⟩, h5⟩
theorem rrx_mono (h : RRX w X A n rs) (hx : ∀ b, X b → Y b) : RRX w Y A n rs := by
  obtain ⟨hs, h1, h2, h3, h4, h5⟩ := h
  exact ⟨hs, h1, fun hn b e => hx b (h2 hn b e), h3, fun k g r e1 e2 => ⟨(h4 k g r e1 e2).1, frx_mono (h4 k g r e1 e2).2 hx⟩, h5⟩
theorem rrx_sam (h : RRX w X A n rs) (hs : Sam X w w') : RRX w' X A n rs := by
  obtain ⟨g, h1, h2, h3, h4, h5⟩ := h
  refine ⟨g, ⟨h1.1, fun hn => ?_⟩, h2, h3, fun k p r e1 e2 => ⟨(h4 k p r e1 e2).1, sam_frx (h4 k p r e1 e2).2 hs fun _ hb _ => hb⟩, h5⟩
  obtain ⟨b, off, e, hb, hc⟩ := h1.2 hn
  exact ⟨b, off, e, Nat.lt_of_lt_of_le hb hs.1, fun k p hp => rat_keep (hc k p hp) fun x => sam_cell hs (h2 hn b (by rw [e]; rfl)) hb x⟩
theorem nr_old6 (h : NR w A n xs) : 0 < n → ∀ b, A.map (·.block) = some b → b < w.heap.size := fun hn b hb => by
  obtain ⟨b', off, x, rfl, hlt, -, -⟩ := nr_at h hn
  obtain rfl : b' = b := by simpa using hb
  exact hlt
theorem nr_nrx (h : NR w A n xs) : NRX w (fun b => b < w.heap.size) A n xs := ⟨h, nr_old6 h⟩
theorem nrx_mono (h : NRX w X A n xs) (hx : ∀ b, X b → Y b) : NRX w Y A n xs := ⟨h.1, fun hn b e => hx b (h.2 hn b e)⟩
theorem nrx_sam (h : NRX w X A n xs) (hs : Sam X w w') : NRX w' X A n xs := by
  refine ⟨⟨h.1.1, fun hp => ?_⟩, h.2⟩
  have hn : 0 < n := by rw [← h.1.1]; exact hp
  obtain ⟨b, off, e, hb, hc⟩ := h.1.2 hp
  exact ⟨b, off, e, Nat.lt_of_lt_of_le hb hs.1, fun k x hx => (sam_cell hs (h.2 hn b (by rw [e]; rfl)) hb _).trans (hc k x hx)⟩
theorem own_nrx {base : Nat} {e : TypeId} (h : w.ownsRow base e 1 (.slice A n c) n (icells xs)) (hx : ∀ b, base ≤ b → X b) : NRX w X A n xs := by
  refine ⟨nr_own h, fun hn b e => ?_⟩
  obtain ⟨g, cap, hv, hg, -⟩ := h.form hn
  have hA : A = some ⟨g, 0, none⟩ := by injection hv
  subst hA
  obtain rfl : g = b := by simpa using e
  exact hx g hg
theorem lrx_lr (h : LRX w X A n B m C k l) : LR w A n B m C k l := ⟨rrx_rr h.r, h.wt.1, h.cr.1, h.mb, h.kb⟩
theorem lr_lrx (h : LR w A n B m C k l) : LRX w (fun b => b < w.heap.size) A n B m C k l := ⟨rr_rrx h.r, nr_nrx h.wt, nr_nrx h.cr, h.mb, h.kb⟩
theorem lrx_mono (h : LRX w X A n B m C k l) (hx : ∀ b, X b → Y b) : LRX w Y A n B m C k l := ⟨rrx_mono h.r hx, nrx_mono h.wt hx, nrx_mono h.cr hx, h.mb, h.kb⟩
theorem lrx_sam (h : LRX w X A n B m C k l) (hs : Sam X w w') : LRX w' X A n B m C k l := ⟨rrx_sam h.r hs, nrx_sam h.wt hs, nrx_sam h.cr hs, h.mb, h.kb⟩
theorem lrx_below (h : LRX w X A n B m C k l) (hb : Below w.heap.size w w') : LRX w' X A n B m C k l := lrx_sam h (sam_below hb)
theorem lrx_grown {row : Option Nat} (h : LRX w X A n B m C k l) (hg : w.grownBy w' row) (hx : ∀ b, X b → some b ≠ row) : LRX w' X A n B m C k l := lrx_sam h (sam_grown hg hx)
theorem lrx_set (h : LRX w X A n B m C k l) {p : Addr} (hp : ¬ X p.block) (u : Value) : LRX (w.setCell p u) X A n B m C k l := lrx_sam h (sam_set hp u)
theorem lrx_drewN (h : LRX w X A n B m C k l) (j : Nat) : LRX (w.drewN j) X A n B m C k l := lrx_below h (below_drewN (Below.refl _ _) j)
theorem lrx_drew (h : LRX w X A n B m C k l) : LRX w.drew X A n B m C k l := lrx_below h (Below.refl _ _).drew
theorem lrx_lax (h : LRX w X A n B m C k l) : LaX w X A n B m C k l := fun _ hs => lrx_lr (lrx_sam h hs)
/-- a row of one's own, one of whose robins has been stored anew -/
theorem own_rrx {base i : Nat} {e : TypeId} {A1 : Option Addr} {n1 c1 : Nat} {q : Int} {gs : List Flw} {hs : List Rh} (h : w.ownsRow base e 2 (.slice A n c) n (rcells (hs.set i ⟨q, A1, n1, c1⟩))) (hl : hs.length = rs.length) (hn : n ≤ 4000000000)
    (hx : ∀ b, base ≤ b → X b) (ha : ∀ (k : Nat) (g : Rh) (r : Rb), k ≠ i → hs[k]? = some g → rs[k]? = some r → g.q = r.q ∧ FRX w X g.A g.n r.fs) (hf : FRX w X A1 n1 gs) : RRX w X A n (rs.set i ⟨q, gs⟩) := by
  refine ⟨_, hq_own h, fun hn b e => ?_, by simp [hl], fun k g r e1 e2 => ?_, hn⟩
  · obtain ⟨g, cap, hv, hg, -⟩ := h.form hn
    have hA : A = some ⟨g, 0, none⟩ := by injection hv
    subst hA
    obtain rfl : g = b := by simpa using e
    exact hx g hg
  · by_cases hk : i = k
    · subst hk
      have hi : i < hs.length := by have := get_lt e1; simpa using this
      rw [List.getElem?_set_self hi] at e1
      rw [List.getElem?_set_self (by omega)] at e2
      obtain rfl := Option.some.inj e1
      obtain rfl := Option.some.inj e2
      exact ⟨rfl, hf⟩
    · rw [List.getElem?_set_ne hk] at e1 e2
      exact ha k g r (fun e => hk e.symm) e1 e2
end
end Go.Proofs.Ytkmoiphcpmhacaa
