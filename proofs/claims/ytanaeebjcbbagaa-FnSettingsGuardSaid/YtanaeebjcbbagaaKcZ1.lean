/-
  Chapter 5: robins as lists of flows: validity, joining, leaving, turns, taking; plain mathematics. Conditions: none; every lemma says what it asks. Flows in memory: rows of flows' headers, the packets that wait behind each, and flows that a call owns together with their packets. Conditions: none; every lemma says what it asks. Chapter 5: which flow may send, the place of a peer: what the program's functions and the model's return. Conditions: flows that wait have a packet. Chapter 5: validity of flows and robins: what the program's functions and the model's return. Conditions: a flow has at mo
  Conditions: each lemma says them.
-/
import Derived.Test.YtanaeebjcbbagaaKbZ1
import Derived.Deep.RegionHeld3
import Derived.StillTailTactics
namespace Go.Proofs.Ytanaeebjcbbagaa
open Go.RowKit
structure Flw where
  peer : Int
  dfc : Int
  ws : List Pkt
structure VF (q : Int) (f : Flw) : Prop where
  p0 : 0 ≤ f.peer
  p7 : f.peer ≤ 7
  d0 : 0 ≤ f.dfc
  d1 : f.dfc < q + 100
  n0 : 0 < f.ws.length
  ok : okB f.ws = true
  own : ∀ p ∈ f.ws, p.peer = f.peer
def Apart (fs : List Flw) : Prop := fs.Pairwise (fun a b => a.peer ≠ b.peer)
structure RV (q : Int) (fs : List Flw) : Prop where
  q0 : 1 ≤ q
  q1 : q ≤ 500
  all : ∀ f ∈ fs, VF q f
  apart : Apart fs
open Classical in
noncomputable def vfB (q : Int) (f : Flw) : Bool := decide (VF q f)
open Classical in
noncomputable def rvB (q : Int) (fs : List Flw) : Bool := decide (RV q fs)
theorem rv_iff {q : Int} {fs : List Flw} : rvB q fs = true ↔ RV q fs := by simp [rvB]
theorem rv_yes {q : Int} {fs : List Flw} (h : RV q fs) : rvB q fs = true := rv_iff.2 h
theorem rv_no {q : Int} {fs : List Flw} (h : ¬ RV q fs) : rvB q fs = false := by simp [rvB, h]
theorem rv_not {q : Int} {fs : List Flw} (h : rvB q fs = false) : ¬ RV q fs := fun k => by rw [rv_yes k] at h; cases h
theorem vf_iff {q : Int} {f : Flw} : vfB q f = true ↔ VF q f := by simp [vfB]
theorem vf_no {q : Int} {f : Flw} (h : ¬ VF q f) : vfB q f = false := by simp [vfB, h]
theorem rv_nil {q : Int} (h0 : 1 ≤ q) (h1 : q ≤ 500) : RV q [] := ⟨h0, h1, fun f h => absurd h (by simp), List.Pairwise.nil⟩
def fix (fs : List Flw) (x : Int) : Nat := fs.findIdx (fun f => f.peer == x)
def wOf : List Flw → Int → List Pkt
  | [], _ => []
  | f :: r, x => if f.peer = x then f.ws else wOf r x
theorem fix_lt {fs : List Flw} {x : Int} (h : fix fs x < fs.length) : ∃ f, fs[fix fs x]? = some f ∧ f.peer = x := by
  refine ⟨fs[fix fs x], List.getElem?_eq_getElem h, ?_⟩
  have := List.findIdx_getElem (xs := fs) (p := fun f : Flw => f.peer == x) (w := h)
  rw [beq_iff_eq] at this
  exact this
theorem fix_le (fs : List Flw) (x : Int) : fix fs x ≤ fs.length := List.findIdx_le_length
theorem fix_before {fs : List Flw} {x : Int} {k : Nat} {f : Flw} (hk : k < fix fs x) (hf : fs[k]? = some f) : ¬ f.peer = x := by
  have h1 := List.not_of_lt_findIdx (p := fun f : Flw => f.peer == x) (xs := fs) (i := k) hk
  have hlt : k < fs.length := Nat.lt_of_lt_of_le hk (fix_le fs x)
  rw [List.getElem?_eq_getElem hlt] at hf
  rw [← Option.some.inj hf]
  simpa using h1
theorem w_fix {fs : List Flw} {x : Int} {f : Flw} (h : fs[fix fs x]? = some f) : wOf fs x = f.ws := by
  induction fs with
  | nil => simp at h
  | cons g r ih =>
    by_cases hg : g.peer = x
    · have e : fix (g :: r) x = 0 := by simp [fix, List.findIdx_cons, hg]
      rw [e] at h
      obtain rfl : g = f := by simpa using h
      simp [wOf, hg]
    · have hb : (g.peer == x) = false := by simp [hg]
      have e : fix (g :: r) x = fix r x + 1 := by simp only [fix, List.findIdx_cons, hb, cond_false]
      rw [e] at h
      simp only [wOf, hg, if_false]
      exact ih (by simpa using h)
theorem w_none {fs : List Flw} {x : Int} (h : ∀ f ∈ fs, ¬ f.peer = x) : wOf fs x = [] := by
  induction fs with
  | nil => rfl
  | cons g r ih => simp only [wOf, h g (by simp), if_false]; exact ih fun f hf => h f (by simp [hf])
theorem w_far {fs : List Flw} {x : Int} (h : ¬ fix fs x < fs.length) : wOf fs x = [] := w_none fun f hf hx => by
  obtain ⟨k, hk, e⟩ := List.getElem_of_mem hf
  exact fix_before (k := k) (x := x) (fs := fs) (by omega) (by rw [List.getElem?_eq_getElem hk, e]) hx
theorem w_append (a b : List Flw) (x : Int) (h : ∀ f ∈ a, ¬ f.peer = x) : wOf (a ++ b) x = wOf b x := by
  induction a with
  | nil => rfl
  | cons g r ih => simp only [List.cons_append, wOf, h g (by simp), if_false]; exact ih fun f hf => h f (by simp [hf])
theorem w_append2 (a b : List Flw) (x : Int) (h : ∀ f ∈ b, ¬ f.peer = x) : wOf (a ++ b) x = wOf a x := by
  induction a with
  | nil => simp only [List.nil_append]; rw [w_none h]; rfl
  | cons g r ih => simp only [List.cons_append, wOf, ih]
theorem apart_at {fs : List Flw} (h : Apart fs) {i j : Nat} {f g : Flw} (hi : fs[i]? = some f) (hj : fs[j]? = some g) (hp : f.peer = g.peer) : i = j := by
  have hil : i < fs.length := by
    rcases Nat.lt_or_ge i fs.length with h | h
    · exact h
    · rw [List.getElem?_eq_none h] at hi; cases hi
  have hjl : j < fs.length := by
    rcases Nat.lt_or_ge j fs.length with h | h
    · exact h
    · rw [List.getElem?_eq_none h] at hj; cases hj
  rw [List.getElem?_eq_getElem hil] at hi
  rw [List.getElem?_eq_getElem hjl] at hj
  have hi := Option.some.inj hi
  have hj := Option.some.inj hj
  rcases Nat.lt_trichotomy i j with e | e | e
  · exact absurd (by rw [hi, hj]; exact hp) (List.pairwise_iff_getElem.1 h i j hil hjl e)
  · exact e
  · exact absurd (by rw [hi, hj]; exact hp.symm) (List.pairwise_iff_getElem.1 h j i hjl hil e)
end Go.Proofs.Ytanaeebjcbbagaa
namespace Go.Proofs.Ytanaeebjcbbagaa
open Go.RowKit
structure Fh where
  peer : Int
  dfc : Int
  A : Option Addr
  n : Nat
  c : Nat
def Fh.sl (h : Fh) : Value := .slice h.A h.n h.c
def fcells : List Fh → List Value
  | [] => []
  | h :: r => .int .i64 h.peer :: .int .i64 h.dfc :: .slice h.A h.n h.c :: fcells r
theorem fcells_len (hs : List Fh) : (fcells hs).length = hs.length * 3 := by
  induction hs with
  | nil => rfl
  | cons p r ih => simp only [fcells, List.length_cons, ih]; omega
theorem fcells_get (hs : List Fh) (k : Nat) (h : Fh) (e : hs[k]? = some h) :
    (fcells hs)[k * 3]? = some (.int .i64 h.peer) ∧ (fcells hs)[k * 3 + 1]? = some (.int .i64 h.dfc) ∧ (fcells hs)[k * 3 + 2]? = some (.slice h.A h.n h.c) := by
  induction hs generalizing k with
  | nil => simp at e
  | cons q r ih =>
    cases k with
    | zero =>
      simp only [List.getElem?_cons_zero, Option.some.injEq] at e
      subst e
      simp [fcells]
    | succ k =>
      have h' : r[k]? = some h := by simpa using e
      have := ih k h'
      have e : (k + 1) * 3 = k * 3 + 3 := by omega
      rw [e]
      simpa [fcells, Nat.add_right_comm] using this
def FhAt (w : World) (b o : Nat) (h : Fh) : Prop :=
  w.cell? ⟨b, o, none⟩ = some (.int .i64 h.peer) ∧ w.cell? ⟨b, o + 1, none⟩ = some (.int .i64 h.dfc) ∧ w.cell? ⟨b, o + 2, none⟩ = some (.slice h.A h.n h.c)
theorem fat_keep {w w' : World} {b o : Nat} {h : Fh} (e : FhAt w b o h) (hk : ∀ x, w'.cell? ⟨b, x, none⟩ = w.cell? ⟨b, x, none⟩) : FhAt w' b o h :=
  ⟨(hk _).trans e.1, (hk _).trans e.2.1, (hk _).trans e.2.2⟩
def HR (w : World) (A : Option Addr) (n : Nat) (hs : List Fh) : Prop :=
  hs.length = n ∧ (0 < n → ∃ b off, A = some ⟨b, off, none⟩ ∧ b < w.heap.size ∧ ∀ (k : Nat) (h : Fh), hs[k]? = some h → FhAt w b (off + k * 3) h)
section
variable {w w' : World} {A : Option Addr} {n c : Nat} {hs : List Fh}
theorem hr_keep (h : HR w A n hs) (hz : w.heap.size ≤ w'.heap.size) (hk : ∀ b x, b < w.heap.size → A.map (·.block) = some b → w'.cell? ⟨b, x, none⟩ = w.cell? ⟨b, x, none⟩) : HR w' A n hs :=
  ⟨h.1, fun hn => by
    obtain ⟨b, off, rfl, hb, hc⟩ := h.2 hn
    exact ⟨b, off, rfl, Nat.lt_of_lt_of_le hb hz, fun k p hp => fat_keep (hc k p hp) fun x => hk b x hb rfl⟩⟩
theorem hr_below (h : HR w A n hs) (hb : Below w.heap.size w w') : HR w' A n hs := hr_keep h hb.size fun b x hlt _ => (bcell hb).1 b x hlt
theorem hr_at {k : Nat} (h : HR w A n hs) (hk : k < n) : ∃ b off p, A = some ⟨b, off, none⟩ ∧ b < w.heap.size ∧ hs[k]? = some p ∧ FhAt w b (off + k * 3) p := by
  obtain ⟨b, off, e, hb, hc⟩ := h.2 (by omega)
  have hl : k < hs.length := by have := h.1; omega
  exact ⟨b, off, hs[k], e, hb, List.getElem?_eq_getElem hl, hc k _ (List.getElem?_eq_getElem hl)⟩
theorem hr_own {base : Nat} {e : TypeId} (h : w.ownsRow base e 3 (.slice A n c) n (fcells hs)) : HR w A n hs := by
  have hl : hs.length = n := by have := h.1; rw [fcells_len] at this; omega
  refine ⟨hl, fun hn => ?_⟩
  obtain ⟨g, cap, hv, _, hlt⟩ := h.form hn
  have hA : A = some ⟨g, 0, none⟩ := by injection hv
  subst hA
  refine ⟨g, 0, rfl, hlt, fun k p hp => ?_⟩
  have hc := h.cells (g := g) rfl
  have hg := fcells_get hs k p hp
  have ha : ∀ j, (⟨g, 0, none⟩ : Addr).add j = ⟨g, j, none⟩ := fun j => by unfold Addr.add; split <;> simp_all
  simp only [ha] at hc
  rw [Nat.zero_add]
  exact ⟨hc _ _ hg.1, hc _ _ hg.2.1, hc _ _ hg.2.2⟩
end
structure WH (w : World) (X : Nat → Prop) (h : Fh) (f : Flw) : Prop where
  peer : h.peer = f.peer
  dfc : h.dfc = f.dfc
  pr : PR w h.A h.n f.ws
  cap : h.n ≤ h.c
  few : h.n ≤ 4000000000
  far : 0 < h.n → ∀ b, h.A.map (·.block) = some b → X b
def WL (w : World) (X : Nat → Prop) (hs : List Fh) (fs : List Flw) : Prop := hs.length = fs.length ∧ ∀ (k : Nat) (h : Fh) (f : Flw), hs[k]? = some h → fs[k]? = some f → WH w X h f
section
variable {w w' : World} {X Y : Nat → Prop} {hs : List Fh} {fs : List Flw}
theorem wh_below {h : Fh} {f : Flw} (e : WH w X h f) (hb : Below w.heap.size w w') : WH w' X h f := ⟨e.peer, e.dfc, pr_below e.pr hb, e.cap, e.few, e.far⟩
theorem wl_below (e : WL w X hs fs) (hb : Below w.heap.size w w') : WL w' X hs fs := ⟨e.1, fun k h f h1 h2 => wh_below (e.2 k h f h1 h2) hb⟩
theorem wl_mono (e : WL w X hs fs) (hx : ∀ b, X b → Y b) : WL w Y hs fs := ⟨e.1, fun k h f h1 h2 => by have := e.2 k h f h1 h2; exact ⟨this.peer, this.dfc, this.pr, this.cap, this.few, fun hn b hb => hx b (this.far hn b hb)⟩⟩
theorem wl_get {k : Nat} {h : Fh} (e : WL w X hs fs) (hk : hs[k]? = some h) : ∃ f, fs[k]? = some f ∧ WH w X h f := by
  have hl : k < hs.length := by
    rcases Nat.lt_or_ge k hs.length with hl | hl
    · exact hl
    · rw [List.getElem?_eq_none hl] at hk; cases hk
  have hl2 : k < fs.length := by rw [← e.1]; exact hl
  exact ⟨fs[k], List.getElem?_eq_getElem hl2, e.2 k h _ hk (List.getElem?_eq_getElem hl2)⟩
end
def FR (w : World) (A : Option Addr) (n : Nat) (fs : List Flw) : Prop := ∃ hs, HR w A n hs ∧ WL w (fun b => b < w.heap.size) hs fs ∧ n ≤ 4000000000
section
variable {w w' : World} {A : Option Addr} {n c : Nat} {fs : List Flw}
theorem fr_belowF (h : FR w A n fs) (hb : Below w.heap.size w w') : FR w' A n fs := by
  obtain ⟨hs, h1, h2, h3⟩ := h
  exact ⟨hs, hr_below h1 hb, wl_mono (wl_below h2 hb) fun b hlt => Nat.lt_of_lt_of_le hlt hb.size, h3⟩
theorem fr_allocF (h : FR w A n fs) (o : Obj) : FR (w.alloc o) A n fs := fr_belowF h (below_alloc (Below.refl _ _) o)
theorem fr_lenF (h : FR w A n fs) : fs.length = n ∧ n ≤ 4000000000 := by
  obtain ⟨hs, h1, h2, h3⟩ := h
  exact ⟨by rw [← h2.1]; exact h1.1, h3⟩
theorem fr_at {k : Nat} (h : FR w A n fs) (hk : k < n) : ∃ b off f g, A = some ⟨b, off, none⟩ ∧ b < w.heap.size ∧ fs[k]? = some f ∧ FhAt w b (off + k * 3) g ∧ g.peer = f.peer ∧ g.dfc = f.dfc ∧ PR w g.A g.n f.ws ∧ g.n ≤ g.c ∧ g.n ≤ 4000000000 := by
  obtain ⟨hs, h1, h2, h3⟩ := h
  obtain ⟨b, off, g, e, hb, hg, hat⟩ := hr_at h1 hk
  obtain ⟨f, hf, hw⟩ := wl_get h2 hg
  exact ⟨b, off, f, g, e, hb, hf, hat, hw.peer, hw.dfc, hw.pr, hw.cap, hw.few⟩
theorem fr_cells {k : Nat} (h : FR w A n fs) (hk : k < n) : ∃ b off f A1 n1 c1, A = some ⟨b, off, none⟩ ∧ b < w.heap.size ∧ fs[k]? = some f ∧ w.cell? ⟨b, off + k * 3, none⟩ = some (.int .i64 f.peer) ∧ w.cell? ⟨b, off + k * 3 + 1, none⟩ = some (.int .i64 f.dfc) ∧ w.cell? ⟨b, off + k * 3 + 2, none⟩ = some (.slice A1 n1 c1) ∧ PR w A1 n1 f.ws ∧ n1 ≤ c1 ∧ n1 ≤ 4000000000 := by
  obtain ⟨b, off, f, g, e, hb, hf, ⟨c0, c1, c2⟩, h1, h2, h3, h4, h5⟩ := fr_at h hk
  exact ⟨b, off, f, g.A, g.n, g.c, e, hb, hf, by rw [← h1]; exact c0, by rw [← h2]; exact c1, c2, h3, h4, h5⟩
end
structure DO (w : World) (lo : Nat) (v : Value) (n : Nat) (hs : List Fh) (fs : List Flw) : Prop where
  row : w.ownsRow lo 107 3 v n (fcells hs)
  len : hs.length = fs.length
  all : ∀ (k : Nat) (h : Fh) (f : Flw), hs[k]? = some h → fs[k]? = some f → h.peer = f.peer ∧ h.dfc = f.dfc ∧ h.n ≤ 4000000000 ∧ w.ownsRow lo 50 4 h.sl h.n (pcells f.ws) ∧ (∀ b, h.sl.ownBlock = some b → v.ownBlock ≠ some b)
  apart : ∀ (i j : Nat) (h g : Fh), i ≠ j → hs[i]? = some h → hs[j]? = some g → ∀ b, h.sl.ownBlock = some b → g.sl.ownBlock ≠ some b
theorem do_nil (w : World) (lo : Nat) : DO w lo (.slice none 0 0) 0 [] [] := ⟨World.ownsRow_nil _ _ _ _, rfl, fun k h f e => by simp at e, fun i j h g _ e => by simp at e⟩
theorem do_fr {w : World} {lo : Nat} {A : Option Addr} {n c : Nat} {hs : List Fh} {fs : List Flw} (h : DO w lo (.slice A n c) n hs fs) (hn : n ≤ 4000000000) : FR w A n fs := by
  refine ⟨hs, hr_own h.row, ⟨h.len, fun k g f h1 h2 => ?_⟩, hn⟩
  obtain ⟨e1, e2, e3, e4, _⟩ := h.all k g f h1 h2
  have hp := pr_own (A := g.A) (n := g.n) (c := g.c) e4
  obtain ⟨A', c', hv, hc, _, _⟩ := own_form e4
  obtain ⟨-, -, rfl⟩ : g.A = A' ∧ True ∧ g.c = c' := by unfold Fh.sl at hv; injection hv with a1 a2 a3; exact ⟨a1, trivial, a3⟩
  exact ⟨e1, e2, hp, hc, e3, pr_old hp⟩
theorem do_below {w w' : World} {lo : Nat} {v : Value} {n : Nat} {hs : List Fh} {fs : List Flw} (h : DO w lo v n hs fs) (hb : Below w.heap.size w w') : DO w' lo v n hs fs :=
  ⟨own_below h.row hb, h.len, fun k g f h1 h2 => by
    obtain ⟨e1, e2, e3, e4, e5⟩ := h.all k g f h1 h2
    exact ⟨e1, e2, e3, own_below e4 hb, e5⟩, h.apart⟩
theorem do_grown {w w' : World} {lo : Nat} {v : Value} {n : Nat} {hs : List Fh} {fs : List Flw} {row : Option Nat} (h : DO w lo v n hs fs) (hg : w.grownBy w' row) (h0 : ∀ b, row = some b → v.ownBlock ≠ some b) (h1 : ∀ (k : Nat) (g : Fh), hs[k]? = some g → ∀ b, row = some b → g.sl.ownBlock ≠ some b) : DO w' lo v n hs fs := by
  have key : ∀ {u : Value} {e : TypeId} {s m : Nat} {xs : List Value}, w.ownsRow lo e s u m xs → (∀ b, row = some b → u.ownBlock ≠ some b) → w'.ownsRow lo e s u m xs := by
    intro u e s m xs ho hu
    refine ho.kept hg ?_
    rcases hub : u.ownBlock with _ | b
    · exact .inl rfl
    · right
      intro e
      exact hu b (by rw [← e]) hub
  exact ⟨key h.row h0, h.len, fun k g f e1 e2 => by
    obtain ⟨a1, a2, a3, a4, a5⟩ := h.all k g f e1 e2
    exact ⟨a1, a2, a3, key a4 (h1 k g e1), a5⟩, h.apart⟩
end Go.Proofs.Ytanaeebjcbbagaa
namespace Go.Proofs.Ytanaeebjcbbagaa
open Go.RowKit
theorem blk_two {w : World} {b : Nat} {t : TypeId} {x y : Value} (h : Blk w b t #[x, y]) : w.cell? ⟨b, 0, none⟩ = some x ∧ w.cell? ⟨b, 1, none⟩ = some y ∧ w.frozen? ⟨b, 0, none⟩ = false ∧ w.frozen? ⟨b, 1, none⟩ = false :=
  ⟨blk_cell h 0, blk_cell h 1, blk_free h 0, blk_free h 1⟩
theorem blk_three {w : World} {b : Nat} {t : TypeId} {x y z : Value} (h : Blk w b t #[x, y, z]) : (w.cell? ⟨b, 0, none⟩ = some x ∧ w.cell? ⟨b, 1, none⟩ = some y ∧ w.cell? ⟨b, 2, none⟩ = some z) ∧ w.frozen? ⟨b, 0, none⟩ = false ∧ w.frozen? ⟨b, 1, none⟩ = false ∧ w.frozen? ⟨b, 2, none⟩ = false :=
  ⟨⟨blk_cell h 0, blk_cell h 1, blk_cell h 2⟩, blk_free h 0, blk_free h 1, blk_free h 2⟩
theorem fm_one (w : World) (t : TypeId) (cs : Array Value) : Fm w [⟨w.heap.size, w.heap.size + 1, BoxP w.heap.size t cs⟩] (w.alloc (.cells cs t)) := fm_box (fm_zero w) t cs
theorem fm_push {w w1 : World} {L : List Iv} (h : Fm w L w1) {s : Nat} (hs : w1.heap.size = s) (t : TypeId) (cs : Array Value) : Fm w (L ++ [⟨s, s + 1, BoxP s t cs⟩]) (w1.alloc (.cells cs t)) := by subst hs; exact fm_box h t cs
theorem fm_two (w : World) (t t2 : TypeId) (cs cs2 : Array Value) : Fm w [⟨w.heap.size, w.heap.size + 1, BoxP w.heap.size t cs⟩, ⟨w.heap.size + 1, w.heap.size + 2, BoxP (w.heap.size + 1) t2 cs2⟩] ((w.alloc (.cells cs t)).alloc (.cells cs2 t2)) := fm_push (fm_one w t cs) (by simp) t2 cs2
theorem fm_cell {w w1 : World} {L : List Iv} {a b g : Nat} {t : TypeId} {cs : Array Value} (h : Fm w L w1) (i : Nat) (hi : L[i]? = some ⟨a, b, BoxP g t cs⟩) (hg : a ≤ g ∧ g < b) (k : Nat) (u : Value) : Fm w (L.set i ⟨a, b, BoxP g t (cs.setIfInBounds k u)⟩) (w1.setCell ⟨g, k, none⟩ u) := by
  have hk := al_get i h.al hi
  refine fm_put h i hi (chg_grown (g_set (g_refl w1 (some g)) (.inl rfl) u) fun x e => by injection e with e; omega) ?_
  have hb := blk_set (show Blk w1 g t cs from fm_blk h i hi) k u
  exact at_mono (at_box hb) hg.1 (by omega) (by have := hk.1.fit; simpa using this)
end Go.Proofs.Ytanaeebjcbbagaa
namespace Go.Proofs.Ytanaeebjcbbagaa
open Go.RowKit
theorem vf_bad {q : Int} {f : Flw} (h : ¬ (0 ≤ f.peer ∧ f.peer ≤ 7 ∧ 0 ≤ f.dfc ∧ f.dfc < q + 100 ∧ 0 < f.ws.length ∧ okB f.ws = true)) : false = vfB q f :=
  (vf_no fun v => h ⟨v.p0, v.p7, v.d0, v.d1, v.n0, v.ok⟩).symm
theorem vf_alien {q : Int} {f : Flw} {k : Nat} {p : Pkt} (hp : f.ws[k]? = some p) (hx : ¬ p.peer = f.peer) : false = vfB q f :=
  (vf_no fun v => hx (v.own p (List.mem_of_getElem? hp))).symm
theorem vf_good {q : Int} {f : Flw} {n : Nat} (h : 0 ≤ f.peer ∧ f.peer ≤ 7 ∧ 0 ≤ f.dfc ∧ f.dfc < q + 100 ∧ 0 < f.ws.length ∧ okB f.ws = true) (hn : f.ws.length ≤ n) (ho : ∀ j p, j < n → f.ws[j]? = some p → p.peer = f.peer) : true = vfB q f :=
  (vf_iff.2 ⟨h.1, h.2.1, h.2.2.1, h.2.2.2.1, h.2.2.2.2.1, h.2.2.2.2.2, fun p hp => by
    obtain ⟨j, hj, e⟩ := List.getElem_of_mem hp
    exact ho j p (by omega) (by rw [List.getElem?_eq_getElem hj, e])⟩).symm
theorem own_step {ws : List Pkt} {x : Int} {k : Nat} {p : Pkt} (h : ∀ j p, j < k → ws[j]? = some p → p.peer = x) (hp : ws[k]? = some p) (hx : p.peer = x) : ∀ j p, j < k + 1 → ws[j]? = some p → p.peer = x := by
  intro j g hj hg
  by_cases e : j = k
  · subst e
    rw [hp] at hg
    rw [← Option.some.inj hg]; exact hx
  · exact h j g (by omega) hg
def FlRel (w : World) (x d : Int) (A : Option Addr) (c : Nat) (ws : List Pkt) (n : Nat) (i : Value) (wr : World) : Prop :=
  ∃ k : Nat, k ≤ n ∧ i = .int .i64 (k : Int) ∧ (∀ j p, j < k → ws[j]? = some p → p.peer = x) ∧ Fm w [⟨w.heap.size, w.heap.size + 1, BoxP w.heap.size 107 #[.int .i64 x, .int .i64 d, (.slice A n c)]⟩] wr
set_option maxHeartbeats 2000000 in
theorem flI_any (q x d : Int) (ws : List Pkt) (A : Option Addr) (n c : Nat) (w : World) (h : PR w A n ws) (hn : n ≤ 4000000000) (q0 : 1 ≤ q) (q1 : q ≤ 500) :
    Calls Try.prog 125 #[.agg #[.int .i64 x, .int .i64 d, (.slice A n c)], .int .i64 q] w fun e w' => e = .returned (.bool (vfB q ⟨x, d, ws⟩)) ∧ Below w.heap.size w w' := by
  have H := Lib.hid h
  have HL := Lib.hid h.1
  have F := Lib.hid (fm_one w 107 #[.int .i64 x, .int .i64 d, (.slice A n c)])
  have e1 : IntKind.i64.wrap (q + 100) = q + 100 := IntWalk.i64_in _ (by omega)
  have e2 : IntKind.i64.wrap (q + 100 - 1) = q + 100 - 1 := IntWalk.i64_in _ (by omega)
  clear h
  rcases h1 : inB x 0 7 with _ | _
  · have HE := Lib.hid (vf_bad (q := q) (f := ⟨x, d, ws⟩) fun h => by simp only [inB, decide_eq_false_iff_not] at h1; exact h1 ⟨h.1, h.2.1⟩)
    go_enter Try.func125, Try.ntmps125
    go_wp2_with (go_at_call 43; refine (within_any _ _ _ _).mono ?_; rintro e w' ⟨rfl, rfl⟩)
    go_ret
    exact ⟨ret_bool HE.out, F.out.below⟩
  rcases h2 : inB d 0 (q + 100 - 1) with _ | _
  · have HE := Lib.hid (vf_bad (q := q) (f := ⟨x, d, ws⟩) fun h => by simp only [inB, decide_eq_false_iff_not] at h2; exact h2 ⟨h.2.2.1, by have := h.2.2.2.1; simp only at this; omega⟩)
    go_enter Try.func125, Try.ntmps125
    go_wp2_with (go_at_call 43; refine (within_any _ _ _ _).mono ?_; rintro e w' ⟨rfl, rfl⟩)
    go_ret
    exact ⟨ret_bool HE.out, F.out.below⟩
  by_cases h3 : n = 0
  · subst h3
    have HE := Lib.hid (vf_bad (q := q) (f := ⟨x, d, ws⟩) fun h => by have := h.2.2.2.2.1; have := HL.out; simp only at *; omega)
    go_enter Try.func125, Try.ntmps125
    go_wp2_with (go_at_call 43; refine (within_any _ _ _ _).mono ?_; rintro e w' ⟨rfl, rfl⟩)
    go_ret
    exact ⟨ret_bool HE.out, F.out.below⟩
  have hnz : ((n : Int) == 0) = false := by simp; omega
  rcases h4 : okB ws with _ | _
  · have HE := Lib.hid (vf_bad (q := q) (f := ⟨x, d, ws⟩) fun h => by have := h.2.2.2.2.2; simp only at this; rw [h4] at this; cases this)
    have HK := Lib.hid h4
    clear h3 h4
    go_enter Try.func125, Try.ntmps125
    go_wp2_with (first
      | (go_at_call 43; refine (within_any _ _ _ _).mono ?_; rintro e w' ⟨rfl, rfl⟩)
      | (go_at_call 70; refine (okI_any A n c ws _ (pr_alloc H.out _) (by omega)).mono ?_; rintro e w2 ⟨rfl, hb2⟩; rw [HK.out]; have F2 := Lib.hid (fm_below F.out hb2); obtain ⟨⟨q0, q1, q2⟩, -⟩ := blk_three (fm_blk F2.out 0 rfl); clear hb2))
    go_ret
    exact ⟨ret_bool HE.out, F2.out.below⟩
  have HK := Lib.hid h4
  have HG := Lib.hid (show 0 ≤ x ∧ x ≤ 7 ∧ 0 ≤ d ∧ d < q + 100 ∧ 0 < ws.length ∧ okB ws = true by
    simp only [inB, decide_eq_true_eq] at h1 h2
    have := HL.out
    exact ⟨h1.1, h1.2, h2.1, by omega, by omega, h4⟩)
  have hn0 : 0 < n := by omega
  clear h3 h4
  go_enter Try.func125, Try.ntmps125
  go_wp2_with (first
    | (go_at_call 43; refine (within_any _ _ _ _).mono ?_; rintro e w' ⟨rfl, rfl⟩)
    | (go_at_call 70; refine (okI_any A n c ws _ (pr_alloc H.out _) (by omega)).mono ?_; rintro e w2 ⟨rfl, hb2⟩; rw [HK.out]; have F2 := Lib.hid (fm_below F.out hb2); obtain ⟨⟨q0, q1, q2⟩, -⟩ := blk_three (fm_blk F2.out 0 rfl); clear hb2))
  clear h1 h2 e1 e2 q0 q1 q2
  go_loopw [33] (fun i wr => FlRel w x d A c ws n i wr) (fun i _ => n - (intOf i).toNat)
  case atStart => exact ⟨0, Nat.zero_le _, rfl, fun j p hj => absurd hj (by omega), F2.out⟩
  case round =>
    obtain ⟨k, hk, rfl, hall, hF⟩ := hrel
    have HA := Lib.hid hall
    have HF := Lib.hid hF
    obtain ⟨⟨q0, q1, q2⟩, -⟩ := blk_three (fm_blk hF 0 rfl)
    have zb := blk_lt (fm_blk hF 0 rfl)
    have hbl := hF.below
    clear hall hF F2 F
    by_cases hlt : k < n
    · obtain ⟨b, off, p, rfl, hb, hp, c0, c1, c2, c3⟩ := pr_at (pr_below H.out hbl) hlt
      have HP := Lib.hid hp
      clear hp hbl
      by_cases hx : p.peer = x
      · have hxb : (p.peer != x) = false := by simp [hx]
        have HX := Lib.hid hx
        clear hx
        go_wp2
        go_roundw
        case rel => exact ⟨k + 1, by omega, by go_num, own_step HA.out HP.out HX.out, fm_alloc HF.out _⟩
        case measure => simp [intOf]; omega
      · have hxb : (p.peer != x) = true := by simp [hx]
        have HE := Lib.hid (vf_alien (q := q) (f := ⟨x, d, ws⟩) HP.out hx)
        clear hx
        go_wp2
        go_ret
        exact ⟨ret_bool HE.out, (fm_alloc HF.out _).below⟩
    · obtain rfl : k = n := by omega
      have HE := Lib.hid (vf_good (q := q) (f := ⟨x, d, ws⟩) HG.out (Nat.le_of_eq HL.out) HA.out)
      clear hbl
      go_wp2
      go_ret
      exact ⟨ret_bool HE.out, HF.out.below⟩
end Go.Proofs.Ytanaeebjcbbagaa
namespace Go.Proofs.Ytanaeebjcbbagaa
open Go.RowKit
theorem al_init {w : World} : ∀ {L M : List Iv} {lo : Nat}, Al lo (L ++ M) w → Al lo L w
  | [], _, _, h => al_lo h
  | _ :: _, _, _, ⟨h1, h3, h4, h5⟩ => ⟨h1, h3, h4, al_init h5⟩
theorem fm_init {w w1 : World} {L M : List Iv} (h : Fm w (L ++ M) w1) : Fm w L w1 := ⟨h.below, al_init h.al⟩
def hasP (fs : List Flw) (x : Int) : Bool := fs.any (fun f => f.peer == x)
def seen8 (fs : List Flw) : Array Value := #[.bool (hasP fs 0), .bool (hasP fs 1), .bool (hasP fs 2), .bool (hasP fs 3), .bool (hasP fs 4), .bool (hasP fs 5), .bool (hasP fs 6), .bool (hasP fs 7)]
theorem seen8_get (fs : List Flw) (j : Nat) (h : j < 8) : (seen8 fs)[j]? = some (.bool (hasP fs (j : Int))) := by
  have : j = 0 ∨ j = 1 ∨ j = 2 ∨ j = 3 ∨ j = 4 ∨ j = 5 ∨ j = 6 ∨ j = 7 := by omega
  rcases this with rfl | rfl | rfl | rfl | rfl | rfl | rfl | rfl <;> rfl
theorem hasP_hit {fs : List Flw} {k : Nat} {f : Flw} {x : Int} (h : fs[k]? = some f) (hx : f.peer = x) : hasP (fs.take (k + 1)) x = true := by
  rw [hasP, List.take_add_one, h]; simp [List.any_append, hx]
theorem hasP_miss {fs : List Flw} {k : Nat} {f : Flw} {x : Int} (h : fs[k]? = some f) (hx : f.peer ≠ x) : hasP (fs.take (k + 1)) x = hasP (fs.take k) x := by
  rw [hasP, List.take_add_one, h]; simp [List.any_append, hx, hasP]
theorem seen8_set {fs : List Flw} {k : Nat} {f : Flw} {j : Nat} (h : fs[k]? = some f) (hj : f.peer = (j : Int)) (h8 : j < 8) :
    (seen8 (fs.take k)).setIfInBounds j (.bool true) = seen8 (fs.take (k + 1)) := by
  have hx : ∀ x : Int, (j : Int) ≠ x → hasP (fs.take (k + 1)) x = hasP (fs.take k) x := fun x hx => hasP_miss h (by rw [hj]; exact hx)
  have hy := hasP_hit h hj
  have : j = 0 ∨ j = 1 ∨ j = 2 ∨ j = 3 ∨ j = 4 ∨ j = 5 ∨ j = 6 ∨ j = 7 := by omega
  rcases this with rfl | rfl | rfl | rfl | rfl | rfl | rfl | rfl
  · simp only [seen8]; rw [show hasP (fs.take (k + 1)) 0 = true from hy, hx 1 (by decide), hx 2 (by decide), hx 3 (by decide), hx 4 (by decide), hx 5 (by decide), hx 6 (by decide), hx 7 (by decide)]; rfl
  · simp only [seen8]; rw [show hasP (fs.take (k + 1)) 1 = true from hy, hx 0 (by decide), hx 2 (by decide), hx 3 (by decide), hx 4 (by decide), hx 5 (by decide), hx 6 (by decide), hx 7 (by decide)]; rfl
  · simp only [seen8]; rw [show hasP (fs.take (k + 1)) 2 = true from hy, hx 1 (by decide), hx 0 (by decide), hx 3 (by decide), hx 4 (by decide), hx 5 (by decide), hx 6 (by decide), hx 7 (by decide)]; rfl
  · simp only [seen8]; rw [show hasP (fs.take (k + 1)) 3 = true from hy, hx 1 (by decide), hx 2 (by decide), hx 0 (by decide), hx 4 (by decide), hx 5 (by decide), hx 6 (by decide), hx 7 (by decide)]; rfl
  · simp only [seen8]; rw [show hasP (fs.take (k + 1)) 4 = true from hy, hx 1 (by decide), hx 2 (by decide), hx 3 (by decide), hx 0 (by decide), hx 5 (by decide), hx 6 (by decide), hx 7 (by decide)]; rfl
  · simp only [seen8]; rw [show hasP (fs.take (k + 1)) 5 = true from hy, hx 1 (by decide), hx 2 (by decide), hx 3 (by decide), hx 4 (by decide), hx 0 (by decide), hx 6 (by decide), hx 7 (by decide)]; rfl
  · simp only [seen8]; rw [show hasP (fs.take (k + 1)) 6 = true from hy, hx 1 (by decide), hx 2 (by decide), hx 3 (by decide), hx 4 (by decide), hx 5 (by decide), hx 0 (by decide), hx 7 (by decide)]; rfl
  · simp only [seen8]; rw [show hasP (fs.take (k + 1)) 7 = true from hy, hx 1 (by decide), hx 2 (by decide), hx 3 (by decide), hx 4 (by decide), hx 5 (by decide), hx 6 (by decide), hx 0 (by decide)]; rfl
structure RvK (q : Int) (fs : List Flw) (k : Nat) : Prop where
  all : ∀ j f, j < k → fs[j]? = some f → VF q f
  apart : Apart (fs.take k)
theorem rvk_zero (q : Int) (fs : List Flw) : RvK q fs 0 := ⟨fun j f hj => absurd hj (by omega), by rw [List.take_zero]; exact List.Pairwise.nil⟩
theorem rvk_step {q : Int} {fs : List Flw} {k : Nat} {f : Flw} (h : RvK q fs k) (hf : fs[k]? = some f) (hv : VF q f) (hp : ∀ g ∈ fs.take k, g.peer ≠ f.peer) : RvK q fs (k + 1) :=
  ⟨fun j g hj hg => by
    by_cases e : j = k
    · subst e
      rw [hf] at hg
      rw [← Option.some.inj hg]; exact hv
    · exact h.all j g (by omega) hg, by
    rw [List.take_add_one, hf]
    exact List.pairwise_append.2 ⟨h.apart, List.pairwise_singleton _ _, fun a ha b hb => by
      obtain rfl : b = f := by simpa using hb
      exact hp a ha⟩⟩
theorem rvk_all {q : Int} {fs : List Flw} {n : Nat} (h : RvK q fs n) (hn : fs.length = n) (h0 : 1 ≤ q) (h1 : q ≤ 500) : true = rvB q fs := by
  refine (rv_yes ⟨h0, h1, fun f hf => ?_, ?_⟩).symm
  · obtain ⟨j, hj, e⟩ := List.getElem_of_mem hf
    exact h.all j f (by omega) (by rw [List.getElem?_eq_getElem hj, e])
  · have := h.apart
    rwa [List.take_of_length_le (by omega)] at this
theorem rv_bad {q : Int} {fs : List Flw} {k : Nat} {f : Flw} (hf : fs[k]? = some f) (hv : vfB q f = false) : false = rvB q fs :=
  (rv_no fun h => by rw [vf_iff.2 (h.all f (List.mem_of_getElem? hf))] at hv; cases hv).symm
theorem rv_twice {q : Int} {fs : List Flw} {k : Nat} {f g : Flw} (hf : fs[k]? = some f) (hg : g ∈ fs.take k) (hp : g.peer = f.peer) : false = rvB q fs :=
  (rv_no fun h => by
    obtain ⟨j, hj, e⟩ := List.getElem_of_mem hg
    have hjk : j < k := by rw [List.length_take] at hj; omega
    have hgj : fs[j]? = some g := by
      have : (fs.take k)[j]? = some g := by rw [List.getElem?_eq_getElem hj, e]
      rwa [List.getElem?_take_of_lt hjk] at this
    have := apart_at h.apart hgj hf hp
    omega).symm
theorem rv_quantum {q : Int} {fs : List Flw} (h : ¬ (1 ≤ q ∧ q ≤ 500)) : false = rvB q fs := (rv_no fun v => h ⟨v.q0, v.q1⟩).symm
def RvI (w : World) (q : Int) (A : Option Addr) (c : Nat) (fs : List Flw) (n : Nat) (i : Value) (wr : World) : Prop :=
  ∃ k : Nat, k ≤ n ∧ i = .int .i64 (k : Int) ∧ RvK q fs k ∧ Fm w [⟨w.heap.size, w.heap.size + 1, BoxP w.heap.size 100 #[.int .i64 q, (.slice A n c)]⟩, ⟨w.heap.size + 1, w.heap.size + 2, BoxP (w.heap.size + 1) 168 (seen8 (fs.take k))⟩] wr
set_option maxHeartbeats 2000000 in
theorem rvI_any (q : Int) (A : Option Addr) (n c : Nat) (fs : List Flw) (w : World) (h : FR w A n fs) :
    Calls Try.prog 105 #[.agg #[.int .i64 q, (.slice A n c)]] w fun e w' => e = .returned (.bool (rvB q fs)) ∧ Below w.heap.size w w' := by
  have H := Lib.hid h
  have HL := Lib.hid (fr_lenF h)
  have n4 : n ≤ 4000000000 := HL.out.2
  clear h
  by_cases hq : 1 ≤ q ∧ q ≤ 500
  · obtain ⟨q0, q1⟩ := hq
    have hin : inB q 1 500 = true := by simp [inB, q0, q1]
    have R0 : Hid (RvI w q A c fs n (.int .i64 0) ((w.alloc (.cells #[.int .i64 q, (.slice A n c)] 100)).alloc (.cells #[(.bool false), (.bool false), (.bool false), (.bool false), (.bool false), (.bool false), (.bool false), (.bool false)] 168))) := Lib.hid ⟨0, Nat.zero_le _, rfl, rvk_zero _ _, fm_two w _ _ _ _⟩
    go_enter Try.func105, Try.ntmps105
    go_wp2_with (go_at_call 43; refine (within_any _ _ _ _).mono ?_; rintro e w' ⟨rfl, rfl⟩; rw [hin])
    clear hin
    go_loopw [13] (fun i wr => RvI w q A c fs n i wr) (fun i _ => n - (intOf i).toNat)
    case atStart => exact R0.out
    case round =>
      obtain ⟨k, hk, rfl, hall, hF⟩ := hrel
      have HA := Lib.hid hall
      have HF0 := Lib.hid hF
      have hbl := hF.below
      have zb1 := blk_lt (fm_blk hF 0 rfl)
      have zb2 := blk_lt (fm_blk hF 1 rfl)
      obtain ⟨g0, g1, -⟩ := blk_two (fm_blk hF 0 rfl)
      clear R0 hall hF
      by_cases hlt : k < n
      · obtain ⟨b, off, f, A1, n1, c1', rfl, hb, hf, c0, c1, c2, hpr, hc1, hn1⟩ := fr_cells (fr_belowF H.out hbl) hlt
        have HF := Lib.hid hf
        have HP := Lib.hid hpr
        obtain ⟨x, d, ws⟩ := f
        simp only at c0 c1 c2
        have FB : Hid (Fm w [⟨w.heap.size, w.heap.size + 1, BoxP w.heap.size 100 #[.int .i64 q, (.slice (some ⟨b, off, none⟩) n c)]⟩, ⟨w.heap.size + 1, w.heap.size + 2, BoxP (w.heap.size + 1) 168 (seen8 (fs.take k))⟩, ⟨wr.heap.size, wr.heap.size + 1, BoxP wr.heap.size 107 #[.int .i64 x, .int .i64 d, (.slice A1 n1 c1')]⟩] (wr.alloc (.cells #[.int .i64 x, .int .i64 d, (.slice A1 n1 c1')] 107))) := Lib.hid (fm_push HF0.out rfl _ _)
        clear hf hpr hbl
        rcases hv : vfB q ⟨x, d, ws⟩ with _ | _
        · have HE := Lib.hid (rv_bad HF.out hv)
          have HV := Lib.hid hv
          clear hv
          go_wp2_with (go_at_call 125; refine (flI_any q x d ws A1 n1 c1' _ (pr_alloc HP.out _) hn1 q0 q1).mono ?_; rintro e w3 ⟨rfl, hb3⟩; rw [HV.out]; have F3 := Lib.hid (fm_below FB.out hb3); clear hb3)
          go_ret
          exact ⟨ret_bool HE.out, F3.out.below⟩
        · have HV := Lib.hid hv
          have hvf := vf_iff.1 hv
          have hp0 := hvf.p0
          have hp7 := hvf.p7
          simp only at hp0 hp7
          clear hv hvf
          obtain ⟨j, rfl⟩ := Int.eq_ofNat_of_zero_le hp0
          have hj8 : j < 8 := by omega
          have hj8i : (j : Int) < 8 := by omega
          clear hp0 hp7
          rcases hs : hasP (fs.take k) (j : Int) with _ | _
          · have HS : Hid (∀ g ∈ fs.take k, g.peer ≠ (j : Int)) := Lib.hid fun g hg e => by
              have : hasP (fs.take k) (j : Int) = true := List.any_eq_true.2 ⟨g, hg, by simp [e]⟩
              rw [hs] at this; cases this
            have HT := Lib.hid hs
            have HST := Lib.hid (seen8_set HF.out rfl hj8)
            clear hs
            go_wp2_with (go_at_call 125
                         refine (flI_any q (j : Int) d ws A1 n1 c1' _ (pr_alloc HP.out _) hn1 q0 q1).mono ?_
                         rintro e w3 ⟨rfl, hb3⟩
                         rw [HV.out]
                         have F3 := Lib.hid (fm_below FB.out hb3)
                         obtain ⟨⟨d0, d1, d2⟩, -⟩ := blk_three (fm_blk F3.out 2 rfl)
                         have e0 : w3.cell? ⟨w.heap.size + 1, j, none⟩ = some (.bool false) := (by rw [blk_cell (fm_blk F3.out 1 rfl), seen8_get _ j hj8, HT.out])
                         have e1 : w3.frozen? ⟨w.heap.size + 1, j, none⟩ = false := blk_free (fm_blk F3.out 1 rfl) j
                         clear hb3)
            go_roundw
            case rel =>
              refine ⟨k + 1, by omega, by go_num, rvk_step HA.out HF.out (vf_iff.1 HV.out) HS.out, ?_⟩
              have := fm_init (L := [_, _]) (M := [_]) (fm_cell F3.out 1 rfl ⟨Nat.le_refl _, Nat.lt_succ_self _⟩ j (.bool true))
              rw [HST.out] at this
              exact this
            case measure => simp [intOf]; omega
          · have HE : Hid (false = rvB q fs) := Lib.hid (by
              obtain ⟨g, hg, e⟩ := List.any_eq_true.1 hs
              exact rv_twice HF.out hg (by simpa using e))
            have HT := Lib.hid hs
            clear hs
            go_wp2_with (go_at_call 125
                         refine (flI_any q (j : Int) d ws A1 n1 c1' _ (pr_alloc HP.out _) hn1 q0 q1).mono ?_
                         rintro e w3 ⟨rfl, hb3⟩
                         rw [HV.out]
                         have F3 := Lib.hid (fm_below FB.out hb3)
                         obtain ⟨⟨d0, d1, d2⟩, -⟩ := blk_three (fm_blk F3.out 2 rfl)
                         have e0 : w3.cell? ⟨w.heap.size + 1, j, none⟩ = some (.bool true) := (by rw [blk_cell (fm_blk F3.out 1 rfl), seen8_get _ j hj8, HT.out])
                         clear hb3)
            go_ret
            exact ⟨ret_bool HE.out, F3.out.below⟩
      · obtain rfl : k = n := by omega
        have HE := Lib.hid (rvk_all HA.out HL.out.1 q0 q1)
        clear hbl
        go_wp2
        go_ret
        exact ⟨ret_bool HE.out, HF0.out.below⟩
  · have HE := Lib.hid (rv_quantum (fs := fs) hq)
    have hin : inB q 1 500 = false := by simp only [inB, decide_eq_false_iff_not]; exact hq
    have B0 := Lib.hid (below_alloc (Below.refl w.heap.size w) (.cells #[.int .i64 q, (.slice A n c)] 100))
    clear hq
    go_enter Try.func105, Try.ntmps105
    go_wp2_with (go_at_call 43; refine (within_any _ _ _ _).mono ?_; rintro e w' ⟨rfl, rfl⟩; rw [hin])
    go_ret
    exact ⟨ret_bool HE.out, B0.out⟩
end Go.Proofs.Ytanaeebjcbbagaa
