/-
  Chapter 8: guards in memory: how they are read, and how they are owned. Conditions: none.
  Conditions: each lemma says them.
-/
import Derived.Test.YtanaeebjcbbagaaKb3Z1
import Derived.Test.YtanaeebjcbbagaaKoZ1
namespace Go.Proofs.Ytanaeebjcbbagaa
open Go.RowKit
structure Gh where
  E : Option Addr
  ne : Nat
  ce : Nat
  U : Option Addr
  nu : Nat
  cu : Nat
  A : Option Addr
  n : Nat
  c : Nat
  B : Option Addr
  m : Nat
  d : Nat
  C : Option Addr
  o : Nat
  f : Nat
  S : Option Addr
  ns : Nat
  cs : Nat
def gh0 : Gh := ⟨none, 0, 0, none, 0, 0, none, 0, 0, none, 0, 0, none, 0, 0, none, 0, 0⟩
def gd0 : Gd := ⟨0, ⟨0, 0, 0, 0⟩, [], 0, 0, [], ⟨[], [], []⟩, []⟩
def gcs (g : Gd) (h : Gh) : Array Value := #[.int .i64 g.tm, .int .i64 g.all.peer, .int .i64 g.all.lane, .int .i64 g.all.size, .int .i64 g.all.id, .slice h.E h.ne h.ce, .int .i64 g.lim, .int .i64 g.ea, .slice h.U h.nu h.cu, .slice h.A h.n h.c, .slice h.B h.m h.d, .slice h.C h.o h.f, .slice h.S h.ns h.cs]
structure GR (w : World) (h : Gh) (g : Gd) : Prop where
  e : PR w h.E h.ne g.each
  u : NR w h.U h.nu g.us
  l : LR w h.A h.n h.B h.m h.C h.o g.ln
  s : PR w h.S h.ns g.sc
  ke : h.ne ≤ 4000000000
  ku : h.nu ≤ 4000000000
  ks : h.ns ≤ 4000000000
section
variable {w w' : World} {h : Gh} {g : Gd}
theorem gr_below (G : GR w h g) (hb : Below w.heap.size w w') : GR w' h g := ⟨pr_below G.e hb, nr_below G.u hb, lr_below G.l hb, pr_below G.s hb, G.ke, G.ku, G.ks⟩
theorem gr_alloc (G : GR w h g) (o : Obj) : GR (w.alloc o) h g := gr_below G (below_alloc (Below.refl _ _) o)
structure GC (w : World) (b : Nat) (g : Gd) (h : Gh) : Prop where
  c0 : w.cell? ⟨b, 0, none⟩ = some (.int .i64 g.tm)
  c1 : w.cell? ⟨b, 1, none⟩ = some (.int .i64 g.all.peer)
  c2 : w.cell? ⟨b, 2, none⟩ = some (.int .i64 g.all.lane)
  c3 : w.cell? ⟨b, 3, none⟩ = some (.int .i64 g.all.size)
  c4 : w.cell? ⟨b, 4, none⟩ = some (.int .i64 g.all.id)
  c5 : w.cell? ⟨b, 5, none⟩ = some (.slice h.E h.ne h.ce)
  c6 : w.cell? ⟨b, 6, none⟩ = some (.int .i64 g.lim)
  c7 : w.cell? ⟨b, 7, none⟩ = some (.int .i64 g.ea)
  c8 : w.cell? ⟨b, 8, none⟩ = some (.slice h.U h.nu h.cu)
  c9 : w.cell? ⟨b, 9, none⟩ = some (.slice h.A h.n h.c)
  c10 : w.cell? ⟨b, 10, none⟩ = some (.slice h.B h.m h.d)
  c11 : w.cell? ⟨b, 11, none⟩ = some (.slice h.C h.o h.f)
  c12 : w.cell? ⟨b, 12, none⟩ = some (.slice h.S h.ns h.cs)
theorem gc_blk {b : Nat} {t : TypeId} (hB : Blk w b t (gcs g h)) : GC w b g h :=
  ⟨blk_cell hB 0, blk_cell hB 1, blk_cell hB 2, blk_cell hB 3, blk_cell hB 4, blk_cell hB 5, blk_cell hB 6, blk_cell hB 7, blk_cell hB 8, blk_cell hB 9, blk_cell hB 10, blk_cell hB 11, blk_cell hB 12⟩
end
structure Gi where
  e0 : Nat
  e1 : Nat
  u0 : Nat
  u1 : Nat
  l0 : Nat
  l1 : Nat
  s0 : Nat
  s1 : Nat
  hs : List Rh
  iv : Nat → Nat × Nat
def PE (h : Gh) (x : List Pkt) (i : Gi) : World → Prop := OwnP i.e0 i.e1 29 4 (.slice h.E h.ne h.ce) h.ne (pcells x)
def PU (h : Gh) (x : List Int) (i : Gi) : World → Prop := OwnP i.u0 i.u1 3 1 (.slice h.U h.nu h.cu) h.nu (icells x)
def PL (h : Gh) (x : Ln) (i : Gi) : World → Prop := LI i.l0 i.l1 (.slice h.A h.n h.c) h.n (.slice h.B h.m h.d) h.m (.slice h.C h.o h.f) h.o i.hs i.iv x
def PS (h : Gh) (x : List Pkt) (i : Gi) : World → Prop := OwnP i.s0 i.s1 70 4 (.slice h.S h.ns h.cs) h.ns (pcells x)
def Dj (a b c d : Nat) : Prop := b ≤ c ∨ d ≤ a
structure GP (lo hi : Nat) (h : Gh) (i : Gi) : Prop where
  e : lo ≤ i.e0 ∧ i.e0 ≤ i.e1 ∧ i.e1 ≤ hi
  u : lo ≤ i.u0 ∧ i.u0 ≤ i.u1 ∧ i.u1 ≤ hi
  l : lo ≤ i.l0 ∧ i.l0 ≤ i.l1 ∧ i.l1 ≤ hi
  s : lo ≤ i.s0 ∧ i.s0 ≤ i.s1 ∧ i.s1 ≤ hi
  eu : Dj i.e0 i.e1 i.u0 i.u1
  el : Dj i.e0 i.e1 i.l0 i.l1
  es : Dj i.e0 i.e1 i.s0 i.s1
  ul : Dj i.u0 i.u1 i.l0 i.l1
  us : Dj i.u0 i.u1 i.s0 i.s1
  ls : Dj i.l0 i.l1 i.s0 i.s1
  k : h.ne ≤ 4000000000 ∧ h.nu ≤ 4000000000 ∧ h.ns ≤ 4000000000 ∧ h.n ≤ 4000000000 ∧ h.m ≤ 4000000000 ∧ h.o ≤ 4000000000
structure GO (lo hi : Nat) (h : Gh) (g : Gd) (i : Gi) (w : World) : Prop where
  p : GP lo hi h i
  e : At i.e0 i.e1 (PE h g.each i) w
  u : At i.u0 i.u1 (PU h g.us i) w
  l : At i.l0 i.l1 (PL h g.ln i) w
  s : At i.s0 i.s1 (PS h g.sc i) w
section
variable {w w' : World} {h : Gh} {g : Gd} {i : Gi} {lo hi : Nat}
theorem go_gr (G : GO lo hi h g i w) : GR w h g :=
  ⟨pr_own G.e.it.1, nr_own G.u.it.1, li_lr G.l.it G.p.k.2.2.2.1 G.p.k.2.2.2.2.1 G.p.k.2.2.2.2.2, pr_own G.s.it.1, G.p.k.1, G.p.k.2.1, G.p.k.2.2.1⟩
theorem go_far {a b : Nat} (G : GO lo hi h g i w) (hc : Chg a b w w') (hd : hi ≤ a ∨ b ≤ lo) : GO lo hi h g i w' := by
  have p := G.p
  exact ⟨p, at_chg G.e hc (by have := p.e; omega), at_chg G.u hc (by have := p.u; omega), at_chg G.l hc (by have := p.l; omega), at_chg G.s hc (by have := p.s; omega)⟩
theorem gp_mono {lo2 hi2 : Nat} (p : GP lo hi h i) (h1 : lo2 ≤ lo) (h2 : hi ≤ hi2) : GP lo2 hi2 h i :=
  ⟨⟨by have := p.e; omega, p.e.2.1, by have := p.e; omega⟩, ⟨by have := p.u; omega, p.u.2.1, by have := p.u; omega⟩, ⟨by have := p.l; omega, p.l.2.1, by have := p.l; omega⟩, ⟨by have := p.s; omega, p.s.2.1, by have := p.s; omega⟩, p.eu, p.el, p.es, p.ul, p.us, p.ls, p.k⟩
theorem go_mono {lo2 hi2 : Nat} (G : GO lo hi h g i w) (h1 : lo2 ≤ lo) (h2 : hi ≤ hi2) : GO lo2 hi2 h g i w := ⟨gp_mono G.p h1 h2, G.e, G.u, G.l, G.s⟩
end
section
variable {w w' : World} {h : Gh} {g : Gd} {i : Gi} {lo hi : Nat}
theorem chg_cell (w : World) (p : Addr) (u : Value) : Chg p.block (p.block + 1) w (w.setCell p u) :=
  chg_grown (g_set (g_refl w (some p.block)) (.inl rfl) u) fun b e => by obtain rfl := Option.some.inj e; omega
theorem go_cell (G : GO lo hi h g i w) {p : Addr} (hp : p.block < lo) (u : Value) : GO lo hi h g i (w.setCell p u) := go_far G (chg_cell w p u) (.inr hp)
theorem go_new {h' : Gh} {x : List Pkt} {y : List Int} {l : Ln} {z : List Pkt} {t li ea : Int} {al : Pkt} {e0 e1 u0 u1 l0 l1 s0 s1 : Nat} {hs : List Rh} {iv : Nat → Nat × Nat} (p : GP lo hi h' ⟨e0, e1, u0, u1, l0, l1, s0, s1, hs, iv⟩)
    (e : At e0 e1 (PE h' x ⟨e0, e1, u0, u1, l0, l1, s0, s1, hs, iv⟩) w) (u : At u0 u1 (PU h' y ⟨e0, e1, u0, u1, l0, l1, s0, s1, hs, iv⟩) w) (l' : At l0 l1 (PL h' l ⟨e0, e1, u0, u1, l0, l1, s0, s1, hs, iv⟩) w) (s : At s0 s1 (PS h' z ⟨e0, e1, u0, u1, l0, l1, s0, s1, hs, iv⟩) w) :
    GO lo hi h' ⟨t, al, x, li, ea, y, l, z⟩ ⟨e0, e1, u0, u1, l0, l1, s0, s1, hs, iv⟩ w := ⟨p, e, u, l', s⟩
end
theorem own_none (w : World) (lo hi : Nat) (e : TypeId) (size : Nat) : OwnP lo hi e size (.slice none 0 0) 0 [] w := ⟨World.ownsRow_nil _ _ _ _, fun k e => by cases e⟩
theorem at_true {lo : Nat} {P : World → Prop} {w : World} (h : ∀ w, P w) (hl : lo ≤ w.heap.size) : At lo lo P w := ⟨h w, hl, fun w' _ _ => h w'⟩
def gi0 (n : Nat) : Gi := ⟨n, n, n, n, n, n, n, n, [], fun _ => (0, 0)⟩
theorem go_zero (w : World) {n : Nat} (hn : n ≤ w.heap.size) : GO n n gh0 gd0 (gi0 n) w :=
  ⟨⟨⟨Nat.le_refl _, Nat.le_refl _, Nat.le_refl _⟩, ⟨Nat.le_refl _, Nat.le_refl _, Nat.le_refl _⟩, ⟨Nat.le_refl _, Nat.le_refl _, Nat.le_refl _⟩, ⟨Nat.le_refl _, Nat.le_refl _, Nat.le_refl _⟩, .inl (Nat.le_refl _), .inl (Nat.le_refl _), .inl (Nat.le_refl _), .inl (Nat.le_refl _), .inl (Nat.le_refl _), .inl (Nat.le_refl _), by simp [gh0]⟩,
    at_true (fun w => own_none w _ _ _ _) hn, at_true (fun w => own_none w _ _ _ _) hn,
    at_true (fun w => ⟨⟨dr_nil w _, World.ownsRow_nil _ _ _ _, World.ownsRow_nil _ _ _ _, fun b e => (by cases e), fun b e => (by cases e), fun b e => (by cases e)⟩, fun b e => (by cases e), fun b e => (by cases e), fun b e => (by cases e), fun k => Nat.zero_le _⟩) hn, at_true (fun w => own_none w _ _ _ _) hn⟩
end Go.Proofs.Ytanaeebjcbbagaa
