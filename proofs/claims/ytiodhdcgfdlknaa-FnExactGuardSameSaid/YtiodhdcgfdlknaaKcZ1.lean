/-
  Chapter 5: robins as lists of flows: validity, joining, leaving, turns, taking; plain mathematics. Conditions: none; every lemma says what it asks. Flows in memory: rows of flows' headers, the packets that wait behind each, and flows that a call owns together with their packets. Conditions: none; every lemma says what it asks. Chapter 5: which flow may send, the place of a peer: what the program's functions and the model's return. Conditions: flows that wait have a packet. Chapter 5: validity of flows and robins: what the program's functions and the model's return. Conditions: a flow has at mo
  Conditions: each lemma says them.
-/
import Derived.Test.YtiodhdcgfdlknaaKbZ1
import Derived.Deep.RegionHeld3
import Derived.StillTailTactics
namespace Go.Proofs.Ytiodhdcgfdlknaa
open Go.RowKit
structure Flw where
  peer : Int
  dfc : Int
  ws : List Pkt
open Classical in
noncomputable def rsB (q : Int) (fs : List Flw) (q2 : Int) (gs : List Flw) : Bool := decide (q = q2 ∧ fs = gs)
theorem rs_refl (q : Int) (fs : List Flw) : rsB q fs q fs = true := by simp [rsB]
theorem rs_iff {q q2 : Int} {fs gs : List Flw} : rsB q fs q2 gs = true ↔ q = q2 ∧ fs = gs := by simp [rsB]
theorem rs_no {q q2 : Int} {fs gs : List Flw} (h : ¬ (q = q2 ∧ fs = gs)) : rsB q fs q2 gs = false := by simp [rsB, h]
def total : List Flw → Nat
  | [] => 0
  | f :: r => f.ws.length + total r
theorem total_append (a b : List Flw) : total (a ++ b) = total a + total b := by
  induction a with
  | nil => simp [total]
  | cons f r ih => simp only [List.cons_append, total, ih]; omega
end Go.Proofs.Ytiodhdcgfdlknaa
namespace Go.Proofs.Ytiodhdcgfdlknaa
open Go.RowKit
structure Fh where
  peer : Int
  dfc : Int
  A : Option Addr
  n : Nat
  c : Nat
def Fh.sl (h : Fh) : Value := .slice h.A h.n h.c
def fcells : List Fh → List Value
  | [] => []
  | h :: r => .int .i64 h.peer :: .int .i64 h.dfc :: .slice h.A h.n h.c :: fcells r
theorem fcells_len (hs : List Fh) : (fcells hs).length = hs.length * 3 := by
  induction hs with
  | nil => rfl
  | cons p r ih => simp only [fcells, List.length_cons, ih]; omega
theorem fcells_get (hs : List Fh) (k : Nat) (h : Fh) (e : hs[k]? = some h) :
    (fcells hs)[k * 3]? = some (.int .i64 h.peer) ∧ (fcells hs)[k * 3 + 1]? = some (.int .i64 h.dfc) ∧ (fcells hs)[k * 3 + 2]? = some (.slice h.A h.n h.c) := by
  induction hs generalizing k with
  | nil => simp at e
  | cons q r ih =>
    cases k with
    | zero =>
      simp only [List.getElem?_cons_zero, Option.some.injEq] at e
      subst e
      simp [fcells]
    | succ k =>
      have h' : r[k]? = some h := by simpa using e
      have := ih k h'
      have e : (k + 1) * 3 = k * 3 + 3 := by omega
      rw [e]
      simpa [fcells, Nat.add_right_comm] using this
theorem fcells_set (hs : List Fh) (k : Nat) (h : Fh) : (((fcells hs).set (k * 3) (.int .i64 h.peer)).set (k * 3 + 1) (.int .i64 h.dfc)).set (k * 3 + 2) (.slice h.A h.n h.c) = fcells (hs.set k h) := by
  induction hs generalizing k with
  | nil => simp [fcells]
  | cons p r ih =>
    cases k with
    | zero => simp [fcells]
    | succ k =>
      have e : (k + 1) * 3 = k * 3 + 3 := by omega
      rw [e]
      simp only [fcells, List.set_cons_succ, Nat.add_right_comm _ 3, ← ih k]
def FhAt (w : World) (b o : Nat) (h : Fh) : Prop :=
  w.cell? ⟨b, o, none⟩ = some (.int .i64 h.peer) ∧ w.cell? ⟨b, o + 1, none⟩ = some (.int .i64 h.dfc) ∧ w.cell? ⟨b, o + 2, none⟩ = some (.slice h.A h.n h.c)
theorem fat_keep {w w' : World} {b o : Nat} {h : Fh} (e : FhAt w b o h) (hk : ∀ x, w'.cell? ⟨b, x, none⟩ = w.cell? ⟨b, x, none⟩) : FhAt w' b o h :=
  ⟨(hk _).trans e.1, (hk _).trans e.2.1, (hk _).trans e.2.2⟩
def HR (w : World) (A : Option Addr) (n : Nat) (hs : List Fh) : Prop :=
  hs.length = n ∧ (0 < n → ∃ b off, A = some ⟨b, off, none⟩ ∧ b < w.heap.size ∧ ∀ (k : Nat) (h : Fh), hs[k]? = some h → FhAt w b (off + k * 3) h)
section
variable {w w' : World} {A : Option Addr} {n c : Nat} {hs : List Fh}
theorem hr_nil (w : World) (A : Option Addr) : HR w A 0 [] := ⟨rfl, fun h => absurd h (by omega)⟩
theorem hr_keep (h : HR w A n hs) (hz : w.heap.size ≤ w'.heap.size) (hk : ∀ b x, b < w.heap.size → A.map (·.block) = some b → w'.cell? ⟨b, x, none⟩ = w.cell? ⟨b, x, none⟩) : HR w' A n hs :=
  ⟨h.1, fun hn => by
    obtain ⟨b, off, rfl, hb, hc⟩ := h.2 hn
    exact ⟨b, off, rfl, Nat.lt_of_lt_of_le hb hz, fun k p hp => fat_keep (hc k p hp) fun x => hk b x hb rfl⟩⟩
theorem hr_below (h : HR w A n hs) (hb : Below w.heap.size w w') : HR w' A n hs := hr_keep h hb.size fun b x hlt _ => (bcell hb).1 b x hlt
theorem hr_at {k : Nat} (h : HR w A n hs) (hk : k < n) : ∃ b off p, A = some ⟨b, off, none⟩ ∧ b < w.heap.size ∧ hs[k]? = some p ∧ FhAt w b (off + k * 3) p := by
  obtain ⟨b, off, e, hb, hc⟩ := h.2 (by omega)
  have hl : k < hs.length := by have := h.1; omega
  exact ⟨b, off, hs[k], e, hb, List.getElem?_eq_getElem hl, hc k _ (List.getElem?_eq_getElem hl)⟩
theorem hr_own {base : Nat} {e : TypeId} (h : w.ownsRow base e 3 (.slice A n c) n (fcells hs)) : HR w A n hs := by
  have hl : hs.length = n := by have := h.1; rw [fcells_len] at this; omega
  refine ⟨hl, fun hn => ?_⟩
  obtain ⟨g, cap, hv, _, hlt⟩ := h.form hn
  have hA : A = some ⟨g, 0, none⟩ := by injection hv
  subst hA
  refine ⟨g, 0, rfl, hlt, fun k p hp => ?_⟩
  have hc := h.cells (g := g) rfl
  have hg := fcells_get hs k p hp
  have ha : ∀ j, (⟨g, 0, none⟩ : Addr).add j = ⟨g, j, none⟩ := fun j => by unfold Addr.add; split <;> simp_all
  simp only [ha] at hc
  rw [Nat.zero_add]
  exact ⟨hc _ _ hg.1, hc _ _ hg.2.1, hc _ _ hg.2.2⟩
end
structure WH (w : World) (X : Nat → Prop) (h : Fh) (f : Flw) : Prop where
  peer : h.peer = f.peer
  dfc : h.dfc = f.dfc
  pr : PR w h.A h.n f.ws
  cap : h.n ≤ h.c
  few : h.n ≤ 4000000000
  far : 0 < h.n → ∀ b, h.A.map (·.block) = some b → X b
def WL (w : World) (X : Nat → Prop) (hs : List Fh) (fs : List Flw) : Prop := hs.length = fs.length ∧ ∀ (k : Nat) (h : Fh) (f : Flw), hs[k]? = some h → fs[k]? = some f → WH w X h f
section
variable {w w' : World} {X Y : Nat → Prop} {hs : List Fh} {fs : List Flw}
theorem wh_below {h : Fh} {f : Flw} (e : WH w X h f) (hb : Below w.heap.size w w') : WH w' X h f := ⟨e.peer, e.dfc, pr_below e.pr hb, e.cap, e.few, e.far⟩
theorem wl_below (e : WL w X hs fs) (hb : Below w.heap.size w w') : WL w' X hs fs := ⟨e.1, fun k h f h1 h2 => wh_below (e.2 k h f h1 h2) hb⟩
theorem wl_mono (e : WL w X hs fs) (hx : ∀ b, X b → Y b) : WL w Y hs fs := ⟨e.1, fun k h f h1 h2 => by have := e.2 k h f h1 h2; exact ⟨this.peer, this.dfc, this.pr, this.cap, this.few, fun hn b hb => hx b (this.far hn b hb)⟩⟩
theorem wl_get {k : Nat} {h : Fh} (e : WL w X hs fs) (hk : hs[k]? = some h) : ∃ f, fs[k]? = some f ∧ WH w X h f := by
  have hl : k < hs.length := by
    rcases Nat.lt_or_ge k hs.length with hl | hl
    · exact hl
    · rw [List.getElem?_eq_none hl] at hk; cases hk
  have hl2 : k < fs.length := by rw [← e.1]; exact hl
  exact ⟨fs[k], List.getElem?_eq_getElem hl2, e.2 k h _ hk (List.getElem?_eq_getElem hl2)⟩
end
def FR (w : World) (A : Option Addr) (n : Nat) (fs : List Flw) : Prop := ∃ hs, HR w A n hs ∧ WL w (fun b => b < w.heap.size) hs fs ∧ n ≤ 4000000000
section
variable {w w' : World} {A : Option Addr} {n c : Nat} {fs : List Flw}
theorem fr_belowF (h : FR w A n fs) (hb : Below w.heap.size w w') : FR w' A n fs := by
  obtain ⟨hs, h1, h2, h3⟩ := h
  exact ⟨hs, hr_below h1 hb, wl_mono (wl_below h2 hb) fun b hlt => Nat.lt_of_lt_of_le hlt hb.size, h3⟩
theorem fr_allocF (h : FR w A n fs) (o : Obj) : FR (w.alloc o) A n fs := fr_belowF h (below_alloc (Below.refl _ _) o)
theorem fr_lenF (h : FR w A n fs) : fs.length = n ∧ n ≤ 4000000000 := by
  obtain ⟨hs, h1, h2, h3⟩ := h
  exact ⟨by rw [← h2.1]; exact h1.1, h3⟩
theorem fr_at {k : Nat} (h : FR w A n fs) (hk : k < n) : ∃ b off f g, A = some ⟨b, off, none⟩ ∧ b < w.heap.size ∧ fs[k]? = some f ∧ FhAt w b (off + k * 3) g ∧ g.peer = f.peer ∧ g.dfc = f.dfc ∧ PR w g.A g.n f.ws ∧ g.n ≤ g.c ∧ g.n ≤ 4000000000 := by
  obtain ⟨hs, h1, h2, h3⟩ := h
  obtain ⟨b, off, g, e, hb, hg, hat⟩ := hr_at h1 hk
  obtain ⟨f, hf, hw⟩ := wl_get h2 hg
  exact ⟨b, off, f, g, e, hb, hf, hat, hw.peer, hw.dfc, hw.pr, hw.cap, hw.few⟩
theorem fr_cells {k : Nat} (h : FR w A n fs) (hk : k < n) : ∃ b off f A1 n1 c1, A = some ⟨b, off, none⟩ ∧ b < w.heap.size ∧ fs[k]? = some f ∧ w.cell? ⟨b, off + k * 3, none⟩ = some (.int .i64 f.peer) ∧ w.cell? ⟨b, off + k * 3 + 1, none⟩ = some (.int .i64 f.dfc) ∧ w.cell? ⟨b, off + k * 3 + 2, none⟩ = some (.slice A1 n1 c1) ∧ PR w A1 n1 f.ws ∧ n1 ≤ c1 ∧ n1 ≤ 4000000000 := by
  obtain ⟨b, off, f, g, e, hb, hf, ⟨c0, c1, c2⟩, h1, h2, h3, h4, h5⟩ := fr_at h hk
  exact ⟨b, off, f, g.A, g.n, g.c, e, hb, hf, by rw [← h1]; exact c0, by rw [← h2]; exact c1, c2, h3, h4, h5⟩
end
structure DO (w : World) (lo : Nat) (v : Value) (n : Nat) (hs : List Fh) (fs : List Flw) : Prop where
  row : w.ownsRow lo 144 3 v n (fcells hs)
  len : hs.length = fs.length
  all : ∀ (k : Nat) (h : Fh) (f : Flw), hs[k]? = some h → fs[k]? = some f → h.peer = f.peer ∧ h.dfc = f.dfc ∧ h.n ≤ 4000000000 ∧ w.ownsRow lo 74 4 h.sl h.n (pcells f.ws) ∧ (∀ b, h.sl.ownBlock = some b → v.ownBlock ≠ some b)
  apart : ∀ (i j : Nat) (h g : Fh), i ≠ j → hs[i]? = some h → hs[j]? = some g → ∀ b, h.sl.ownBlock = some b → g.sl.ownBlock ≠ some b
theorem do_fr {w : World} {lo : Nat} {A : Option Addr} {n c : Nat} {hs : List Fh} {fs : List Flw} (h : DO w lo (.slice A n c) n hs fs) (hn : n ≤ 4000000000) : FR w A n fs := by
  refine ⟨hs, hr_own h.row, ⟨h.len, fun k g f h1 h2 => ?_⟩, hn⟩
  obtain ⟨e1, e2, e3, e4, _⟩ := h.all k g f h1 h2
  have hp := pr_own (A := g.A) (n := g.n) (c := g.c) e4
  obtain ⟨A', c', hv, hc, _, _⟩ := own_form e4
  obtain ⟨-, -, rfl⟩ : g.A = A' ∧ True ∧ g.c = c' := by unfold Fh.sl at hv; injection hv with a1 a2 a3; exact ⟨a1, trivial, a3⟩
  exact ⟨e1, e2, hp, hc, e3, pr_old hp⟩
theorem do_below {w w' : World} {lo : Nat} {v : Value} {n : Nat} {hs : List Fh} {fs : List Flw} (h : DO w lo v n hs fs) (hb : Below w.heap.size w w') : DO w' lo v n hs fs :=
  ⟨own_below h.row hb, h.len, fun k g f h1 h2 => by
    obtain ⟨e1, e2, e3, e4, e5⟩ := h.all k g f h1 h2
    exact ⟨e1, e2, e3, own_below e4 hb, e5⟩, h.apart⟩
theorem do_mono {w : World} {lo lo2 : Nat} {v : Value} {n : Nat} {hs : List Fh} {fs : List Flw} (h : DO w lo v n hs fs) (hl : lo2 ≤ lo) : DO w lo2 v n hs fs :=
  ⟨own_mono h.row hl, h.len, fun k g f h1 h2 => by
    obtain ⟨e1, e2, e3, e4, e5⟩ := h.all k g f h1 h2
    exact ⟨e1, e2, e3, own_mono e4 hl, e5⟩, h.apart⟩
theorem do_far {w : World} {lo : Nat} {v : Value} {n : Nat} {hs : List Fh} {fs : List Flw} (h : DO w lo v n hs fs) {p : Addr} (hp : p.block < lo) (u : Value) : DO (w.setCell p u) lo v n hs fs :=
  ⟨own_set_far h.row hp u, h.len, fun k g f h1 h2 => by
    obtain ⟨e1, e2, e3, e4, e5⟩ := h.all k g f h1 h2
    exact ⟨e1, e2, e3, own_set_far e4 hp u, e5⟩, h.apart⟩
theorem do_grown {w w' : World} {lo : Nat} {v : Value} {n : Nat} {hs : List Fh} {fs : List Flw} {row : Option Nat} (h : DO w lo v n hs fs) (hg : w.grownBy w' row) (h0 : ∀ b, row = some b → v.ownBlock ≠ some b) (h1 : ∀ (k : Nat) (g : Fh), hs[k]? = some g → ∀ b, row = some b → g.sl.ownBlock ≠ some b) : DO w' lo v n hs fs := by
  have key : ∀ {u : Value} {e : TypeId} {s m : Nat} {xs : List Value}, w.ownsRow lo e s u m xs → (∀ b, row = some b → u.ownBlock ≠ some b) → w'.ownsRow lo e s u m xs := by
    intro u e s m xs ho hu
    refine ho.kept hg ?_
    rcases hub : u.ownBlock with _ | b
    · exact .inl rfl
    · right
      intro e
      exact hu b (by rw [← e]) hub
  exact ⟨key h.row h0, h.len, fun k g f e1 e2 => by
    obtain ⟨a1, a2, a3, a4, a5⟩ := h.all k g f e1 e2
    exact ⟨a1, a2, a3, key a4 (h1 k g e1), a5⟩, h.apart⟩
end Go.Proofs.Ytiodhdcgfdlknaa
namespace Go.Proofs.Ytiodhdcgfdlknaa
open Go.RowKit
theorem blk_two {w : World} {b : Nat} {t : TypeId} {x y : Value} (h : Blk w b t #[x, y]) : w.cell? ⟨b, 0, none⟩ = some x ∧ w.cell? ⟨b, 1, none⟩ = some y ∧ w.frozen? ⟨b, 0, none⟩ = false ∧ w.frozen? ⟨b, 1, none⟩ = false :=
  ⟨blk_cell h 0, blk_cell h 1, blk_free h 0, blk_free h 1⟩
theorem blk_three {w : World} {b : Nat} {t : TypeId} {x y z : Value} (h : Blk w b t #[x, y, z]) : (w.cell? ⟨b, 0, none⟩ = some x ∧ w.cell? ⟨b, 1, none⟩ = some y ∧ w.cell? ⟨b, 2, none⟩ = some z) ∧ w.frozen? ⟨b, 0, none⟩ = false ∧ w.frozen? ⟨b, 1, none⟩ = false ∧ w.frozen? ⟨b, 2, none⟩ = false :=
  ⟨⟨blk_cell h 0, blk_cell h 1, blk_cell h 2⟩, blk_free h 0, blk_free h 1, blk_free h 2⟩
theorem fm_one (w : World) (t : TypeId) (cs : Array Value) : Fm w [⟨w.heap.size, w.heap.size + 1, BoxP w.heap.size t cs⟩] (w.alloc (.cells cs t)) := fm_box (fm_zero w) t cs
theorem fm_push {w w1 : World} {L : List Iv} (h : Fm w L w1) {s : Nat} (hs : w1.heap.size = s) (t : TypeId) (cs : Array Value) : Fm w (L ++ [⟨s, s + 1, BoxP s t cs⟩]) (w1.alloc (.cells cs t)) := by subst hs; exact fm_box h t cs
theorem fm_two (w : World) (t t2 : TypeId) (cs cs2 : Array Value) : Fm w [⟨w.heap.size, w.heap.size + 1, BoxP w.heap.size t cs⟩, ⟨w.heap.size + 1, w.heap.size + 2, BoxP (w.heap.size + 1) t2 cs2⟩] ((w.alloc (.cells cs t)).alloc (.cells cs2 t2)) := fm_push (fm_one w t cs) (by simp) t2 cs2
theorem fm_three (w : World) (t t2 t3 : TypeId) (cs cs2 cs3 : Array Value) : Fm w [⟨w.heap.size, w.heap.size + 1, BoxP w.heap.size t cs⟩, ⟨w.heap.size + 1, w.heap.size + 2, BoxP (w.heap.size + 1) t2 cs2⟩, ⟨w.heap.size + 2, w.heap.size + 3, BoxP (w.heap.size + 2) t3 cs3⟩] (((w.alloc (.cells cs t)).alloc (.cells cs2 t2)).alloc (.cells cs3 t3)) := fm_push (fm_two w t t2 cs cs2) (by simp) t3 cs3
theorem fm_cell {w w1 : World} {L : List Iv} {a b g : Nat} {t : TypeId} {cs : Array Value} (h : Fm w L w1) (i : Nat) (hi : L[i]? = some ⟨a, b, BoxP g t cs⟩) (hg : a ≤ g ∧ g < b) (k : Nat) (u : Value) : Fm w (L.set i ⟨a, b, BoxP g t (cs.setIfInBounds k u)⟩) (w1.setCell ⟨g, k, none⟩ u) := by
  have hk := al_get i h.al hi
  refine fm_put h i hi (chg_grown (g_set (g_refl w1 (some g)) (.inl rfl) u) fun x e => by injection e with e; omega) ?_
  have hb := blk_set (show Blk w1 g t cs from fm_blk h i hi) k u
  exact at_mono (at_box hb) hg.1 (by omega) (by have := hk.1.fit; simpa using this)
end Go.Proofs.Ytiodhdcgfdlknaa
namespace Go.Proofs.Ytiodhdcgfdlknaa
open Go.RowKit
end Go.Proofs.Ytiodhdcgfdlknaa
namespace Go.Proofs.Ytiodhdcgfdlknaa
open Go.RowKit
end Go.Proofs.Ytiodhdcgfdlknaa
