/-
  What is known of the memory that a walk has made, piece by piece: each piece lies in an interval of block numbers, and is about these blocks alone. Conditions: none.
-/
import Derived.Test.YtaccbmgbkalknabGn
namespace Go.Proofs.Ytaccbmgbkalknab
open Go.RowKit

/-- P holds, and is about the blocks from lo on and below hi alone -/
structure At (lo hi : Nat) (P : World → Prop) (w : World) : Prop where
  it : P w
  fit : hi ≤ w.heap.size
  loc : ∀ w', w.heap.size ≤ w'.heap.size → (∀ b, lo ≤ b → b < hi → w'.heap[b]? = w.heap[b]?) → P w'
/-- outside of the blocks from lo on and below hi, what was there is as it was -/
structure Chg (lo hi : Nat) (w w' : World) : Prop where
  os : w'.os = w.os
  tape : w'.tape = w.tape
  output : w'.output = w.output
  size : w.heap.size ≤ w'.heap.size
  block : ∀ k, k < w.heap.size → (k < lo ∨ hi ≤ k) → w'.heap[k]? = w.heap[k]?
theorem chg_grown {lo hi : Nat} {w w' : World} {row : Option Nat} (h : w.grownBy w' row) (hr : ∀ b, row = some b → lo ≤ b ∧ b < hi) : Chg lo hi w w' :=
  ⟨h.os, h.tape, h.output, h.size, fun k hk ho => h.block k hk (fun e => by have := hr k e.symm; omega)⟩
theorem chg_below {lo hi : Nat} {w w' : World} (h : Below w.heap.size w w') : Chg lo hi w w' := ⟨h.os, h.tape, h.output, h.size, fun k hk _ => h.block k hk⟩
theorem chg_trans {lo hi : Nat} {w w' w2 : World} (h : Chg lo hi w w') (k : Chg lo hi w' w2) : Chg lo hi w w2 :=
  ⟨k.os.trans h.os, k.tape.trans h.tape, k.output.trans h.output, Nat.le_trans h.size k.size, fun i hi ho => (k.block i (Nat.lt_of_lt_of_le hi h.size) ho).trans (h.block i hi ho)⟩
theorem chg_mono {lo hi lo2 hi2 : Nat} {w w' : World} (h : Chg lo hi w w') (h1 : lo2 ≤ lo) (h2 : hi ≤ hi2) : Chg lo2 hi2 w w' :=
  ⟨h.os, h.tape, h.output, h.size, fun k hk ho => h.block k hk (by omega)⟩
theorem below_chg {B lo hi : Nat} {a w w' : World} (h : Below B a w) (hB : B ≤ w.heap.size) (hc : Chg lo hi w w') (hl : B ≤ lo) : Below B a w' :=
  h.trans ⟨hc.os, hc.tape, hc.output, hc.size, fun k hk => hc.block k (by omega) (.inl (by omega))⟩
section
variable {lo hi : Nat} {P Q : World → Prop} {w w' : World}
theorem at_chg {l2 h2 : Nat} (h : At lo hi P w) (hc : Chg l2 h2 w w') (hd : hi ≤ l2 ∨ h2 ≤ lo) : At lo hi P w' := by
  have hf := h.fit
  have e : ∀ b, lo ≤ b → b < hi → w'.heap[b]? = w.heap[b]? := fun b h1 h3 => hc.block b (by omega) (by omega)
  exact ⟨h.loc w' hc.size e, Nat.le_trans hf hc.size, fun w2 hs hb => h.loc w2 (Nat.le_trans hc.size hs) fun b h1 h3 => (hb b h1 h3).trans (e b h1 h3)⟩
theorem at_below (h : At lo hi P w) (hb : Below w.heap.size w w') : At lo hi P w' := at_chg (l2 := hi) (h2 := hi) h (chg_below hb) (.inl (Nat.le_refl _))
theorem at_and (h : At lo hi P w) (k : At lo hi Q w) : At lo hi (fun w => P w ∧ Q w) w := ⟨⟨h.it, k.it⟩, h.fit, fun w2 hs hb => ⟨h.loc w2 hs hb, k.loc w2 hs hb⟩⟩
theorem at_imp (h : At lo hi P w) (f : ∀ w, P w → Q w) : At lo hi Q w := ⟨f w h.it, h.fit, fun w2 hs hb => f w2 (h.loc w2 hs hb)⟩
theorem at_mono {l2 h2 : Nat} (h : At lo hi P w) (h1 : l2 ≤ lo) (h3 : hi ≤ h2) (h4 : h2 ≤ w.heap.size) : At l2 h2 P w := ⟨h.it, h4, fun w2 hs hb => h.loc w2 hs fun b a c => hb b (by omega) (by omega)⟩
end
/-! Pieces -/
def BoxP (b : Nat) (t : TypeId) (cs : Array Value) (w : World) : Prop := Blk w b t cs
def OwnP (lo hi : Nat) (e : TypeId) (size : Nat) (v : Value) (n : Nat) (xs : List Value) (w : World) : Prop := w.ownsRow lo e size v n xs ∧ ∀ k, v.ownBlock = some k → lo ≤ k ∧ k < hi
theorem at_box {w : World} {b : Nat} {t : TypeId} {cs : Array Value} (h : Blk w b t cs) : At b (b + 1) (BoxP b t cs) w :=
  ⟨h, blk_lt h, fun _ _ hb => (hb b (Nat.le_refl _) (Nat.lt_succ_self _)).trans h⟩
theorem at_own {w : World} {lo hi : Nat} {e : TypeId} {size : Nat} {v : Value} {n : Nat} {xs : List Value} (h : w.ownsRow lo e size v n xs) (hf : hi ≤ w.heap.size) (hl : ∀ k, v.ownBlock = some k → k < hi) : At lo hi (OwnP lo hi e size v n xs) w := by
  refine ⟨⟨h, fun k hk => ⟨(h.lt k hk).1, hl k hk⟩⟩, hf, fun _ hs hb => ⟨⟨h.1, ?_⟩, fun k hk => ⟨(h.lt k hk).1, hl k hk⟩⟩⟩
  rcases h.2 with hn | ⟨g, cap, cur, rfl, hg, hgg, rest⟩
  · exact .inl hn
  · exact .inr ⟨g, cap, cur, rfl, hg, (hb g hg (hl g rfl)).trans hgg, rest⟩
theorem at_own_all {w : World} {lo : Nat} {e : TypeId} {size : Nat} {v : Value} {n : Nat} {xs : List Value} (h : w.ownsRow lo e size v n xs) : At lo w.heap.size (OwnP lo w.heap.size e size v n xs) w :=
  at_own h (Nat.le_refl _) fun k hk => (h.lt k hk).2

/-! A list of pieces, one behind the other -/
structure Iv where
  lo : Nat
  hi : Nat
  P : World → Prop
def Al : Nat → List Iv → World → Prop
  | lo, [], w => lo ≤ w.heap.size
  | lo, x :: r, w => lo ≤ x.lo ∧ x.lo ≤ x.hi ∧ At x.lo x.hi x.P w ∧ Al x.hi r w
theorem al_chg {w w' : World} {l2 h2 : Nat} (hc : Chg l2 h2 w w') : ∀ {L : List Iv} {lo : Nat}, h2 ≤ lo → Al lo L w → Al lo L w'
  | [], _, _, h => Nat.le_trans h hc.size
  | _ :: _, _, hl, ⟨h1, h3, h4, h5⟩ => ⟨h1, h3, at_chg h4 hc (.inr (by omega)), al_chg hc (by omega) h5⟩
theorem al_below {w w' : World} (hb : Below w.heap.size w w') {L : List Iv} {lo : Nat} (h : Al lo L w) : Al lo L w' := al_chg (l2 := 0) (h2 := 0) (chg_below hb) (Nat.zero_le _) h
theorem al_lo {w : World} : ∀ {L : List Iv} {lo : Nat}, Al lo L w → lo ≤ w.heap.size
  | [], _, h => h
  | _ :: _, _, ⟨h1, h3, h4, _⟩ => by have := h4.fit; omega
theorem al_get {w : World} : ∀ {L : List Iv} {lo : Nat} (i : Nat) {a b : Nat} {P : World → Prop}, Al lo L w → L[i]? = some ⟨a, b, P⟩ → At a b P w ∧ lo ≤ a ∧ a ≤ b
  | [], _, _, _, _, _, _, h => by simp at h
  | x :: r, _, 0, _, _, _, ⟨h1, h3, h4, h5⟩, h => by
    have h' := Option.some.inj (show some x = some _ from h)
    subst h'
    exact ⟨h4, h1, h3⟩
  | x :: r, _, i + 1, _, _, _, ⟨h1, h3, h4, h5⟩, h => by
    have := al_get i h5 (by simpa using h)
    exact ⟨this.1, by omega, this.2.2⟩
theorem al_snoc {w w' : World} (hb : Below w.heap.size w w') {a b : Nat} {P : World → Prop} (ha : w.heap.size ≤ a) (hab : a ≤ b) (hP : At a b P w') : ∀ {L : List Iv} {lo : Nat}, Al lo L w → Al lo (L ++ [⟨a, b, P⟩]) w'
  | [], _, h => ⟨Nat.le_trans h ha, hab, hP, hP.fit⟩
  | _ :: _, _, ⟨h1, h3, h4, h5⟩ => ⟨h1, h3, at_below h4 hb, al_snoc hb ha hab hP h5⟩
theorem al_put {w w' : World} : ∀ {L : List Iv} {lo : Nat} (i : Nat) {a b : Nat} {P Q : World → Prop}, Al lo L w → L[i]? = some ⟨a, b, P⟩ → Chg a b w w' → At a b Q w' → Al lo (L.set i ⟨a, b, Q⟩) w'
  | [], _, _, _, _, _, _, _, h, _, _ => by simp at h
  | x :: r, _, 0, a, b, _, Q, ⟨h1, h3, h4, h5⟩, h, hc, hq => by
    have h' := Option.some.inj (show some x = some _ from h)
    subst h'
    exact ⟨h1, h3, hq, al_chg hc (Nat.le_refl _) h5⟩
  | x :: r, _, i + 1, a, b, _, Q, ⟨h1, h3, h4, h5⟩, h, hc, hq => by
    have hg := al_get i h5 (by simpa using h)
    exact ⟨h1, h3, at_chg h4 hc (.inl hg.2.1), al_put i h5 (by simpa using h) hc hq⟩

/-- the walk began at w; it has made these pieces -/
structure Fm (w : World) (L : List Iv) (w' : World) : Prop where
  below : Below w.heap.size w w'
  al : Al w.heap.size L w'
section
variable {w w1 w2 : World} {L : List Iv}
theorem fm_zero (w : World) : Fm w [] w := ⟨Below.refl _ _, Nat.le_refl _⟩
theorem fm_below (h : Fm w L w1) (hb : Below w1.heap.size w1 w2) : Fm w L w2 := ⟨below_seq h.below hb, al_below hb h.al⟩
theorem fm_drew (h : Fm w L w1) : Fm w L w1.drew := fm_below h (Below.refl _ _).drew
theorem fm_drewN (h : Fm w L w1) (n : Nat) : Fm w L (w1.drewN n) := fm_below h (below_drewN (Below.refl _ _) n)
theorem fm_alloc (h : Fm w L w1) (o : Obj) : Fm w L (w1.alloc o) := fm_below h (below_alloc (Below.refl _ _) o)
/-- a block of its own -/
theorem fm_box (h : Fm w L w1) (t : TypeId) (cs : Array Value) : Fm w (L ++ [⟨w1.heap.size, w1.heap.size + 1, BoxP w1.heap.size t cs⟩]) (w1.alloc (.cells cs t)) :=
  ⟨below_alloc h.below _, al_snoc (below_alloc (Below.refl _ _) _) (Nat.le_refl _) (Nat.le_succ _) (at_box (blk_new w1 t cs)) h.al⟩
/-- a row that a call has made, from block s on -/
theorem fm_own {s : Nat} {e : TypeId} {size : Nat} {v : Value} {n : Nat} {xs : List Value} (h : Fm w L w1) (hb : Below w1.heap.size w1 w2) (ho : w2.ownsRow w1.heap.size e size v n xs) (hs : w1.heap.size = s) : Fm w (L ++ [⟨s, w2.heap.size, OwnP s w2.heap.size e size v n xs⟩]) w2 := by
  subst hs
  exact ⟨below_seq h.below hb, al_snoc hb (Nat.le_refl _) hb.size (at_own_all ho) h.al⟩
/-- any piece that a call has made, from block s on -/
theorem fm_at {s : Nat} {P : World → Prop} (h : Fm w L w1) (hb : Below w1.heap.size w1 w2) (hP : At w1.heap.size w2.heap.size P w2) (hs : w1.heap.size = s) : Fm w (L ++ [⟨s, w2.heap.size, P⟩]) w2 := by
  subst hs
  exact ⟨below_seq h.below hb, al_snoc hb (Nat.le_refl _) hb.size hP h.al⟩
theorem fm_get (h : Fm w L w1) (i : Nat) {a b : Nat} {P : World → Prop} (hi : L[i]? = some ⟨a, b, P⟩) : P w1 := (al_get i h.al hi).1.it
theorem fm_put (h : Fm w L w1) (i : Nat) {a b : Nat} {P Q : World → Prop} (hi : L[i]? = some ⟨a, b, P⟩) (hc : Chg a b w1 w2) (hq : At a b Q w2) : Fm w (L.set i ⟨a, b, Q⟩) w2 := by
  have hg := al_get i h.al hi
  exact ⟨below_chg h.below h.below.size hc hg.2.1, al_put i h.al hi hc hq⟩
/-- a row is written over -/
theorem fm_mark {a b : Nat} {e : TypeId} {size : Nat} {v : Value} {n : Nat} {xs ys : List Value} (h : Fm w L w1) (i : Nat) (hi : L[i]? = some ⟨a, b, OwnP a b e size v n xs⟩) (hg : w1.grownBy w2 v.ownBlock) (ho : w2.ownsRow a e size v n ys) : Fm w (L.set i ⟨a, b, OwnP a b e size v n ys⟩) w2 := by
  have hk := al_get i h.al hi
  have hl := hk.1.it.2
  exact fm_put h i hi (chg_grown hg fun b e => hl b e) (at_own ho (Nat.le_trans hk.1.fit hg.size) fun k e => (hl k e).2)
theorem fm_row {a b : Nat} {e : TypeId} {size : Nat} {v : Value} {n : Nat} {xs : List Value} (h : Fm w L w1) (i : Nat) (hi : L[i]? = some ⟨a, b, OwnP a b e size v n xs⟩) : w1.ownsRow a e size v n xs := (fm_get h i hi).1
theorem fm_blk {a b g : Nat} {t : TypeId} {cs : Array Value} (h : Fm w L w1) (i : Nat) (hi : L[i]? = some ⟨a, b, BoxP g t cs⟩) : Blk w1 g t cs := fm_get h i hi
theorem fm_lt (h : Fm w L w1) (i : Nat) {a b : Nat} {P : World → Prop} (hi : L[i]? = some ⟨a, b, P⟩) : w.heap.size ≤ a ∧ a ≤ b ∧ b ≤ w1.heap.size := by
  have := al_get i h.al hi
  exact ⟨this.2.1, this.2.2, this.1.fit⟩
end
end Go.Proofs.Ytaccbmgbkalknab
