/-
  Chapter 6: lanes as lists: validity, whose turn it is, taking, joining, leaving, counting; plain mathematics. Conditions: none; every lemma says what it asks. Lanes in memory: rows of robins' headers, the flows behind each; lanes that read as lists. Conditions: none; every lemma says what it asks. Chapter 6: rows of numbers: equality, copies. Conditions: what is copied has at most 4000000000 numbers. Lanes of one's own in memory: the row of robins, the flows of each robin in an interval of blocks, the intervals apart. Conditions: none; every lemma says what it asks. Appending and copying rows 
  Conditions: each lemma says them.
-/
import Derived.Test.YtanaeebjcbbagaaKcZ1
import Derived.Test.YtanaeebjcbbagaaKhZ1
import Derived.Test.YtanaeebjcbbagaaKdZ1
import Derived.Test.YtanaeebjcbbagaaKbZ1
import Derived.Lib.SliceRun
namespace Go.Proofs.Ytanaeebjcbbagaa
open Go.RowKit
structure Rb where
  q : Int
  fs : List Flw
structure Ln where
  rs : List Rb
  ws : List Int
  cs : List Int
def inLane (fs : List Flw) (k : Int) : Prop := ∀ f ∈ fs, ∀ p ∈ f.ws, p.lane = k
structure RL (k : Int) (r : Rb) : Prop where
  rv : RV r.q r.fs
  ln : inLane r.fs k
structure LV (l : Ln) : Prop where
  n0 : l.rs.length = 4
  n1 : l.ws.length = 4
  n2 : l.cs.length = 4
  rb : ∀ (k : Nat) (r : Rb), l.rs[k]? = some r → RL (k : Int) r
  wt : ∀ (k : Nat) (y : Int), l.ws[k]? = some y → 1 ≤ y ∧ y ≤ 9
  cr : ∀ (k : Nat) (x y : Int), l.cs[k]? = some x → l.ws[k]? = some y → 0 ≤ x ∧ x ≤ y
open Classical in
noncomputable def lvB (l : Ln) : Bool := decide (LV l)
open Classical in
noncomputable def rlB (k : Int) (r : Rb) : Bool := decide (RL k r)
theorem lv_iff {l : Ln} : lvB l = true ↔ LV l := by simp [lvB]
theorem lv_yes {l : Ln} (h : LV l) : lvB l = true := lv_iff.2 h
theorem lv_no {l : Ln} (h : ¬ LV l) : lvB l = false := by simp [lvB, h]
theorem lv_not {l : Ln} (h : lvB l = false) : ¬ LV l := fun k => by rw [lv_yes k] at h; cases h
theorem rl_yes {k : Int} {r : Rb} (h : RL k r) : rlB k r = true := by simp [rlB, h]
theorem rl_no {k : Int} {r : Rb} (h : ¬ RL k r) : rlB k r = false := by simp [rlB, h]
theorem rl_iff {k : Int} {r : Rb} : rlB k r = true ↔ RL k r := by simp [rlB]
theorem ln_ext {a b : Ln} (h0 : a.rs = b.rs) (h1 : a.ws = b.ws) (h2 : a.cs = b.cs) : a = b := by cases a; cases b; simp_all
theorem get_lt {α : Type} {xs : List α} {k : Nat} {x : α} (h : xs[k]? = some x) : k < xs.length := by
  rcases Nat.lt_or_ge k xs.length with hl | hl
  · exact hl
  · rw [List.getElem?_eq_none hl] at h; cases h
theorem get_of {α : Type} {xs : List α} {k : Nat} (h : k < xs.length) : ∃ x, xs[k]? = some x := ⟨xs[k], List.getElem?_eq_getElem h⟩
end Go.Proofs.Ytanaeebjcbbagaa
namespace Go.Proofs.Ytanaeebjcbbagaa
open Go.RowKit
structure Rh where
  q : Int
  A : Option Addr
  n : Nat
  c : Nat
def Rh.sl (h : Rh) : Value := .slice h.A h.n h.c
def rcells : List Rh → List Value
  | [] => []
  | h :: r => .int .i64 h.q :: .slice h.A h.n h.c :: rcells r
theorem rcells_len (hs : List Rh) : (rcells hs).length = hs.length * 2 := by
  induction hs with
  | nil => rfl
  | cons p r ih => simp only [rcells, List.length_cons, ih]; omega
theorem rcells_append (a b : List Rh) : rcells (a ++ b) = rcells a ++ rcells b := by
  induction a with
  | nil => rfl
  | cons p r ih => simp only [rcells, List.cons_append, ih]
theorem rcells_get (hs : List Rh) (k : Nat) (h : Rh) (e : hs[k]? = some h) : (rcells hs)[k * 2]? = some (.int .i64 h.q) ∧ (rcells hs)[k * 2 + 1]? = some (.slice h.A h.n h.c) := by
  induction hs generalizing k with
  | nil => simp at e
  | cons q r ih =>
    cases k with
    | zero =>
      simp only [List.getElem?_cons_zero, Option.some.injEq] at e
      subst e
      simp [rcells]
    | succ k =>
      have h' : r[k]? = some h := by simpa using e
      have := ih k h'
      have e : (k + 1) * 2 = k * 2 + 2 := by omega
      rw [e]
      simpa [rcells, Nat.add_right_comm] using this
theorem rcells_one (hs : List Rh) : ∀ u ∈ rcells hs, u.oneCell' = true := by
  induction hs with
  | nil => intro u hu; cases hu
  | cons p r ih =>
    intro u hu
    simp only [rcells, List.mem_cons] at hu
    rcases hu with rfl | rfl | hu
    · rfl
    · rfl
    · exact ih u hu
def RhAt (w : World) (b o : Nat) (h : Rh) : Prop := w.cell? ⟨b, o, none⟩ = some (.int .i64 h.q) ∧ w.cell? ⟨b, o + 1, none⟩ = some (.slice h.A h.n h.c)
theorem rat_keep {w w' : World} {b o : Nat} {h : Rh} (e : RhAt w b o h) (hk : ∀ x, w'.cell? ⟨b, x, none⟩ = w.cell? ⟨b, x, none⟩) : RhAt w' b o h := ⟨(hk _).trans e.1, (hk _).trans e.2⟩
def HQ (w : World) (A : Option Addr) (n : Nat) (hs : List Rh) : Prop :=
  hs.length = n ∧ (0 < n → ∃ b off, A = some ⟨b, off, none⟩ ∧ b < w.heap.size ∧ ∀ (k : Nat) (h : Rh), hs[k]? = some h → RhAt w b (off + k * 2) h)
section
variable {w w' : World} {A : Option Addr} {n c : Nat} {hs : List Rh}
theorem hq_below (h : HQ w A n hs) (hb : Below w.heap.size w w') : HQ w' A n hs :=
  ⟨h.1, fun hn => by
    obtain ⟨b, off, rfl, hlt, hc⟩ := h.2 hn
    exact ⟨b, off, rfl, Nat.lt_of_lt_of_le hlt hb.size, fun k p hp => rat_keep (hc k p hp) fun x => (bcell hb).1 b x hlt⟩⟩
theorem hq_at {k : Nat} (h : HQ w A n hs) (hk : k < n) : ∃ b off p, A = some ⟨b, off, none⟩ ∧ b < w.heap.size ∧ hs[k]? = some p ∧ RhAt w b (off + k * 2) p := by
  obtain ⟨b, off, e, hb, hc⟩ := h.2 (by omega)
  have hl : k < hs.length := by have := h.1; omega
  exact ⟨b, off, hs[k], e, hb, List.getElem?_eq_getElem hl, hc k _ (List.getElem?_eq_getElem hl)⟩
theorem hq_own {base : Nat} {e : TypeId} (h : w.ownsRow base e 2 (.slice A n c) n (rcells hs)) : HQ w A n hs := by
  have hl : hs.length = n := by have := h.1; rw [rcells_len] at this; omega
  refine ⟨hl, fun hn => ?_⟩
  obtain ⟨g, cap, hv, _, hlt⟩ := h.form hn
  have hA : A = some ⟨g, 0, none⟩ := by injection hv
  subst hA
  refine ⟨g, 0, rfl, hlt, fun k p hp => ?_⟩
  have hc := h.cells (g := g) rfl
  have hg := rcells_get hs k p hp
  have ha : ∀ j, (⟨g, 0, none⟩ : Addr).add j = ⟨g, j, none⟩ := fun j => by unfold Addr.add; split <;> simp_all
  simp only [ha] at hc
  rw [Nat.zero_add]
  exact ⟨hc _ _ hg.1, hc _ _ hg.2⟩
end
def RR (w : World) (A : Option Addr) (n : Nat) (rs : List Rb) : Prop :=
  ∃ hs, HQ w A n hs ∧ hs.length = rs.length ∧ (∀ (k : Nat) (h : Rh) (r : Rb), hs[k]? = some h → rs[k]? = some r → h.q = r.q ∧ FR w h.A h.n r.fs) ∧ n ≤ 4000000000
section
variable {w w' : World} {A : Option Addr} {n c : Nat} {rs : List Rb}
theorem rr_len (h : RR w A n rs) : rs.length = n ∧ n ≤ 4000000000 := by
  obtain ⟨hs, h1, h2, h3, h4⟩ := h
  exact ⟨by rw [← h2]; exact h1.1, h4⟩
theorem rr_below (h : RR w A n rs) (hb : Below w.heap.size w w') : RR w' A n rs := by
  obtain ⟨hs, h1, h2, h3, h4⟩ := h
  exact ⟨hs, hq_below h1 hb, h2, fun k g r e1 e2 => ⟨(h3 k g r e1 e2).1, fr_belowF (h3 k g r e1 e2).2 hb⟩, h4⟩
theorem rr_at {k : Nat} (h : RR w A n rs) (hk : k < n) : ∃ b off r A1 n1 c1, A = some ⟨b, off, none⟩ ∧ b < w.heap.size ∧ rs[k]? = some r ∧ w.cell? ⟨b, off + k * 2, none⟩ = some (.int .i64 r.q) ∧ w.cell? ⟨b, off + k * 2 + 1, none⟩ = some (.slice A1 n1 c1) ∧ FR w A1 n1 r.fs := by
  obtain ⟨hs, h1, h2, h3, h4⟩ := h
  obtain ⟨b, off, g, e, hb, hg, c0, c1⟩ := hq_at h1 hk
  obtain ⟨r, hr⟩ := get_of (xs := rs) (k := k) (by rw [← h2, h1.1]; exact hk)
  obtain ⟨a1, a2⟩ := h3 k g r hg hr
  exact ⟨b, off, r, g.A, g.n, g.c, e, hb, hr, by rw [← a1]; exact c0, c1, a2⟩
end
structure LR (w : World) (A : Option Addr) (n : Nat) (B : Option Addr) (m : Nat) (C : Option Addr) (k : Nat) (l : Ln) : Prop where
  r : RR w A n l.rs
  wt : NR w B m l.ws
  cr : NR w C k l.cs
  mb : m ≤ 4000000000
  kb : k ≤ 4000000000
section
variable {w w' : World} {A B C : Option Addr} {n m k : Nat} {l : Ln}
theorem lr_below (h : LR w A n B m C k l) (hb : Below w.heap.size w w') : LR w' A n B m C k l := ⟨rr_below h.r hb, nr_below h.wt hb, nr_below h.cr hb, h.mb, h.kb⟩
theorem lr_len (h : LR w A n B m C k l) : l.rs.length = n ∧ l.ws.length = m ∧ l.cs.length = k := ⟨(rr_len h.r).1, h.wt.1, h.cr.1⟩
theorem lr_four (h : LR w A n B m C k l) (hv : LV l) : n = 4 ∧ m = 4 ∧ k = 4 := by
  have := lr_len h
  have := hv.n0
  have := hv.n1
  have := hv.n2
  omega
end
end Go.Proofs.Ytanaeebjcbbagaa
namespace Go.Proofs.Ytanaeebjcbbagaa
open Go.RowKit
def OwnN (w : World) (n : Nat) (us : List Int) (e : Ending) (w' : World) : Prop :=
  ∃ A c, e = .returned (.slice A n c) ∧ w'.ownsRow w.heap.size 3 1 (.slice A n c) n (icells us) ∧ Below w.heap.size w w'
theorem nr_noneN {w : World} {n : Nat} {us : List Int} (h : NR w none n us) : n = 0 ∧ us = [] := by
  have hm : n = 0 := by
    rcases Nat.eq_zero_or_pos n with hm | hm
    · exact hm
    · obtain ⟨b, off, e, _⟩ := h.2 (by rw [h.1]; exact hm)
      cases e
  subst hm
  exact ⟨rfl, List.eq_nil_of_length_eq_zero h.1⟩
theorem app_belowN {w w1 w2 : World} {v : Value} {n : Nat} {xs : List Value} (ho : w1.ownsRow w.heap.size 3 1 v n xs) (hb : Below w.heap.size w w1) (hg : w1.grownBy w2 v.ownBlock) : Below w.heap.size w w2 :=
  hb.grown hg hb.size fun k hk => (ho.lt k hk).1
set_option maxRecDepth 100000 in
set_option maxHeartbeats 1000000 in
theorem cloneN_any (A : Option Addr) (n c : Nat) (us : List Int) (w : World) (h : NR w A n us) (hn : n ≤ 4000000000) :
    Calls Try.prog 62 #[.slice A n c] w (OwnN w n us) := by
  cases A with
  | none =>
    obtain ⟨rfl, rfl⟩ := nr_noneN h
    clear h
    have q23 : ∀ (w : World) (a : Option Addr) (n c n' c' : Nat), (binOp .eql 23 (.slice a n c) (.slice none n' c')).run Try.prog w = .ok (.bool a.isNone) w := fun w a n c n' c' => Lib.run_eql_slice_nil w _ _ a n c n' c' Try.underlying23
    go_enter Try.func62, Try.ntmps62
    go_wp2
    go_ret
    exact ⟨none, 0, rfl, World.ownsRow_nil _ _ _ _, Below.refl _ _⟩
  | some ad =>
    have H := Lib.hid h
    have O0 := Lib.hid (own_emptyI (W := w) (b := w.heap.size) rfl)
    clear h
    have q23 : ∀ (w : World) (a : Option Addr) (n c n' c' : Nat), (binOp .eql 23 (.slice a n c) (.slice none n' c')).run Try.prog w = .ok (.bool a.isNone) w := fun w a n c n' c' => Lib.run_eql_slice_nil w _ _ a n c n' c' Try.underlying23
    go_enter Try.func62, Try.ntmps62
    go_wp2_with (at_builtin; refine wpl_app_ints _ rfl (.tmp 5) (.tmp 6) rfl w.heap.size (.slice (some ⟨w.heap.size, 0, none⟩) 0 0) 0 [] rfl O0.out (some ad) n c us rfl (nr_alloc H.out _) (by omega) (by simp) ?_; intro v1 w3 ho3 hg3 hat3; simp only [List.nil_append, Nat.zero_add] at ho3; have T3 := Lib.hid (app_belowN O0.out (below_alloc (Below.refl _ _) _) hg3); clear hg3 hat3)
    obtain ⟨A2, c2, rfl, hmc, hcm, -⟩ := own_form ho3
    have O3 := Lib.hid ho3
    clear ho3
    go_wp2
    go_ret
    exact ⟨A2, c2, rfl, O3.out, T3.out⟩
end Go.Proofs.Ytanaeebjcbbagaa
namespace Go.Proofs.Ytanaeebjcbbagaa
open Go.RowKit
def DV (w : World) (s e : Nat) (v : Value) (n : Nat) (hs : List Fh) (fs : List Flw) : Prop :=
  DO w s v n hs fs ∧ (∀ b, v.ownBlock = some b → b < e) ∧ ∀ (k : Nat) (h : Fh), hs[k]? = some h → ∀ b, h.sl.ownBlock = some b → b < e
theorem do_lo6 {w : World} {lo : Nat} {v : Value} {n : Nat} {hs : List Fh} {fs : List Flw} (D : DO w lo v n hs fs) : (∀ b, v.ownBlock = some b → lo ≤ b ∧ b < w.heap.size) ∧ ∀ (k : Nat) (h : Fh), hs[k]? = some h → ∀ b, h.sl.ownBlock = some b → lo ≤ b ∧ b < w.heap.size :=
  ⟨fun b e => D.row.lt b e, fun k h hk b e => (D.all k h _ hk (List.getElem?_eq_getElem (by rw [← D.len]; exact get_lt hk))).2.2.2.1.lt b e⟩
section
variable {w w' : World} {s e lo n : Nat} {v : Value} {hs : List Fh} {fs : List Flw}
theorem dv_all (D : DO w lo v n hs fs) : DV w lo w.heap.size v n hs fs := ⟨D, fun b e => ((do_lo6 D).1 b e).2, fun k h hk b e => ((do_lo6 D).2 k h hk b e).2⟩
theorem dv_grown {row : Option Nat} (D : DV w s e v n hs fs) (hg : w.grownBy w' row) (hr : ∀ b, row = some b → b < s ∨ e ≤ b) : DV w' s e v n hs fs :=
  ⟨do_grown D.1 hg (fun b e1 e2 => by have := hr b e1; have := (do_lo6 D.1).1 b e2; have := D.2.1 b e2; omega) (fun k h hk b e1 e2 => by have := hr b e1; have := (do_lo6 D.1).2 k h hk b e2; have := D.2.2 k h hk b e2; omega), D.2⟩
theorem dv_below (D : DV w s e v n hs fs) (hb : Below w.heap.size w w') : DV w' s e v n hs fs := ⟨do_below D.1 hb, D.2⟩
end
def Up (iv : Nat → Nat × Nat) (k : Nat) (p : Nat × Nat) : Nat → Nat × Nat := fun j => if j = k then p else iv j
theorem up_self (iv : Nat → Nat × Nat) (k : Nat) (p : Nat × Nat) : Up iv k p k = p := by simp [Up]
theorem up_ne (iv : Nat → Nat × Nat) {k j : Nat} (h : j ≠ k) (p : Nat × Nat) : Up iv k p j = iv j := by simp [Up, h]
def Out6 (v : Value) (iv : Nat → Nat × Nat) (b : Nat) : Prop := v.ownBlock ≠ some b ∧ ∀ k, b < (iv k).1 ∨ (iv k).2 ≤ b
structure DR (w : World) (lo : Nat) (v : Value) (n : Nat) (hs : List Rh) (rs : List Rb) (iv : Nat → Nat × Nat) (D : Nat → Prop) : Prop where
  row : w.ownsRow lo 100 2 v n (rcells hs)
  len : hs.length = rs.length
  all : ∀ k, D k → ∀ (h : Rh) (r : Rb), hs[k]? = some h → rs[k]? = some r → h.q = r.q ∧ h.n ≤ 4000000000 ∧ lo ≤ (iv k).1 ∧ ∃ fh, DV w (iv k).1 (iv k).2 h.sl h.n fh r.fs
  off : ∀ b, v.ownBlock = some b → ∀ k, b < (iv k).1 ∨ (iv k).2 ≤ b
  apart : ∀ i j, i ≠ j → (iv i).2 ≤ (iv j).1 ∨ (iv j).2 ≤ (iv i).1
  top : ∀ k, (iv k).2 ≤ w.heap.size
section
variable {w w' : World} {lo n : Nat} {v : Value} {hs : List Rh} {rs : List Rb} {iv : Nat → Nat × Nat} {D E : Nat → Prop}
theorem dr_weak (h : DR w lo v n hs rs iv D) (he : ∀ k, E k → D k) : DR w lo v n hs rs iv E := ⟨h.row, h.len, fun k hk => h.all k (he k hk), h.off, h.apart, h.top⟩
theorem dr_mono {lo2 : Nat} (h : DR w lo v n hs rs iv D) (hl : lo2 ≤ lo) : DR w lo2 v n hs rs iv D :=
  ⟨own_mono h.row hl, h.len, fun k hk g r e1 e2 => by
    obtain ⟨a1, a2, a3, a4⟩ := h.all k hk g r e1 e2
    exact ⟨a1, a2, Nat.le_trans hl a3, a4⟩, h.off, h.apart, h.top⟩
theorem dr_below (h : DR w lo v n hs rs iv D) (hb : Below w.heap.size w w') : DR w' lo v n hs rs iv D :=
  ⟨own_below h.row hb, h.len, fun k hk g r e1 e2 => by
    obtain ⟨a1, a2, a3, fh, a4⟩ := h.all k hk g r e1 e2
    exact ⟨a1, a2, a3, fh, dv_below a4 hb⟩, h.off, h.apart, fun k => Nat.le_trans (h.top k) hb.size⟩
theorem own_kept6 {row : Option Nat} {b2 size m : Nat} {e : TypeId} {u : Value} {xs : List Value} (h : w.ownsRow b2 e size u m xs) (hg : w.grownBy w' row) (hr : ∀ b, row = some b → u.ownBlock ≠ some b) : w'.ownsRow b2 e size u m xs := by
  refine h.kept hg ?_
  rcases hub : u.ownBlock with _ | b
  · exact .inl rfl
  · exact .inr fun e => hr b e.symm hub
theorem dr_grown {row : Option Nat} (h : DR w lo v n hs rs iv D) (hg : w.grownBy w' row) (hr : ∀ b, row = some b → Out6 v iv b) : DR w' lo v n hs rs iv D :=
  ⟨own_kept6 h.row hg fun b e => (hr b e).1, h.len, fun k hk g r e1 e2 => by
    obtain ⟨a1, a2, a3, fh, a4⟩ := h.all k hk g r e1 e2
    exact ⟨a1, a2, a3, fh, dv_grown a4 hg fun b e => (hr b e).2 k⟩, h.off, h.apart, fun k => Nat.le_trans (h.top k) hg.size⟩
theorem dr_len (h : DR w lo v n hs rs iv D) : hs.length = n ∧ rs.length = n := by
  have := h.row.1
  rw [rcells_len] at this
  have := h.len
  omega
theorem dr_snoc {s e : Nat} {v' : Value} {h : Rh} {r : Rb} {fh : List Fh} (H : DR w lo v n hs rs iv D) (hr : w'.ownsRow lo 100 2 v' (n + 1) (rcells (hs ++ [h]))) (hg : w.grownBy w' v.ownBlock) (hat : v'.ownBlock = v.ownBlock ∨ v'.ownBlock = some w.heap.size)
    (hq : h.q = r.q) (hn : h.n ≤ 4000000000) (hl : lo ≤ s) (he : e ≤ w.heap.size) (hd : DV w s e h.sl h.n fh r.fs) (ho : ∀ b, v.ownBlock = some b → b < s ∨ e ≤ b) (hap : ∀ j, j ≠ n → (iv j).2 ≤ s ∨ e ≤ (iv j).1) :
    DR w' lo v' (n + 1) (hs ++ [h]) (rs ++ [r]) (Up iv n (s, e)) (fun j => j = n ∨ D j) := by
  have hlen := dr_len H
  have hz := hg.size
  refine ⟨hr, by simp [H.len], fun j hj q r' e1 e2 => ?_, fun b hb j => ?_, fun i j hij => ?_, fun j => ?_⟩
  · by_cases hjk : j = n
    · subst hjk
      rw [List.getElem?_append_right (by omega), show j - hs.length = 0 by omega] at e1
      rw [List.getElem?_append_right (by omega), show j - rs.length = 0 by omega] at e2
      obtain rfl : h = q := Option.some.inj e1
      obtain rfl : r = r' := Option.some.inj e2
      rw [up_self]
      exact ⟨hq, hn, hl, fh, dv_grown hd hg ho⟩
    · have hjl : j < n := by
        have := get_lt e1
        simp at this
        omega
      rw [List.getElem?_append_left (by omega)] at e1 e2
      rw [up_ne _ hjk]
      obtain ⟨a1, a2, a3, fh2, a4⟩ := H.all j (hj.resolve_left hjk) q r' e1 e2
      exact ⟨a1, a2, a3, fh2, dv_grown a4 hg fun b e => H.off b e j⟩
  · rcases hat with h1 | h1
    · rw [h1] at hb
      by_cases hjk : j = n
      · subst hjk; rw [up_self]; exact ho b hb
      · rw [up_ne _ hjk]; exact H.off b hb j
    · obtain rfl : w.heap.size = b := Option.some.inj (h1.symm.trans hb)
      by_cases hjk : j = n
      · subst hjk; rw [up_self]; exact .inr he
      · rw [up_ne _ hjk]; exact .inr (H.top j)
  · by_cases hi : i = n
    · subst hi
      rw [up_self, up_ne _ (fun e => hij e.symm)]
      exact (hap j fun e => hij e.symm).symm
    · rw [up_ne _ hi]
      by_cases hj : j = n
      · subst hj
        rw [up_self]
        exact hap i hi
      · rw [up_ne _ hj]; exact H.apart i j hij
  · by_cases hjk : j = n
    · subst hjk; rw [up_self]; exact Nat.le_trans he hz
    · rw [up_ne _ hjk]; exact Nat.le_trans (H.top j) hz
theorem dr_nil (w : World) (lo : Nat) : DR w lo (.slice none 0 0) 0 [] [] (fun _ => (0, 0)) D :=
  ⟨World.ownsRow_nil _ _ _ _, rfl, fun k _ h r e => (by simp at e), fun b e => (by cases e), fun i j _ => .inl (Nat.le_refl _), fun k => Nat.zero_le _⟩
theorem dr_rr {A : Option Addr} {c : Nat} (h : DR w lo (.slice A n c) n hs rs iv D) (hd : ∀ k, k < n → D k) (hn : n ≤ 4000000000) : RR w A n rs := by
  have hlen := dr_len h
  refine ⟨hs, hq_own h.row, h.len, fun k g r e1 e2 => ?_, hn⟩
  obtain ⟨a1, a2, a3, fh, a4⟩ := h.all k (hd k (by have := get_lt e1; omega)) g r e1 e2
  exact ⟨a1, do_fr a4.1 a2⟩
end
structure LO (w : World) (lo : Nat) (vA : Value) (n : Nat) (vB : Value) (m : Nat) (vC : Value) (o : Nat) (hs : List Rh) (iv : Nat → Nat × Nat) (l : Ln) : Prop where
  r : DR w lo vA n hs l.rs iv (fun k => k < n)
  b : w.ownsRow lo 3 1 vB m (icells l.ws)
  c : w.ownsRow lo 3 1 vC o (icells l.cs)
  ab : ∀ b, vB.ownBlock = some b → Out6 vA iv b
  ac : ∀ b, vC.ownBlock = some b → Out6 vA iv b
  bc : ∀ b, vB.ownBlock = some b → vC.ownBlock ≠ some b
section
variable {w w' : World} {lo n m o : Nat} {vA vB vC : Value} {hs : List Rh} {iv : Nat → Nat × Nat} {l : Ln}
theorem lo_below (h : LO w lo vA n vB m vC o hs iv l) (hb : Below w.heap.size w w') : LO w' lo vA n vB m vC o hs iv l := ⟨dr_below h.r hb, own_below h.b hb, own_below h.c hb, h.ab, h.ac, h.bc⟩
theorem lo_mono {lo2 : Nat} (h : LO w lo vA n vB m vC o hs iv l) (hl : lo2 ≤ lo) : LO w lo2 vA n vB m vC o hs iv l := ⟨dr_mono h.r hl, own_mono h.b hl, own_mono h.c hl, h.ab, h.ac, h.bc⟩
theorem lo_grown {row : Option Nat} (h : LO w lo vA n vB m vC o hs iv l) (hg : w.grownBy w' row) (h0 : ∀ b, row = some b → Out6 vA iv b ∧ vB.ownBlock ≠ some b ∧ vC.ownBlock ≠ some b) : LO w' lo vA n vB m vC o hs iv l :=
  ⟨dr_grown h.r hg fun b e => (h0 b e).1, own_kept6 h.b hg fun b e => (h0 b e).2.1, own_kept6 h.c hg fun b e => (h0 b e).2.2, h.ab, h.ac, h.bc⟩
theorem lo_far (h : LO w lo vA n vB m vC o hs iv l) {p : Addr} (hp : p.block < lo) (hi : ∀ k, (iv k).1 < (iv k).2 → lo ≤ (iv k).1) (u : Value) : LO (w.setCell p u) lo vA n vB m vC o hs iv l :=
  lo_grown h (g_set (g_refl w (some p.block)) (.inl rfl) u) fun b e => by
    obtain rfl : p.block = b := Option.some.inj e
    refine ⟨⟨fun e => ?_, fun k => ?_⟩, fun e => ?_, fun e => ?_⟩
    · have := (h.r.row.lt _ e).1; omega
    · rcases Nat.lt_or_ge (iv k).1 (iv k).2 with hk | hk
      · have := hi k hk; omega
      · omega
    · have := (h.b.lt _ e).1; omega
    · have := (h.c.lt _ e).1; omega
end
theorem lo_lr {w : World} {lo n c m d o f : Nat} {A B C : Option Addr} {hs : List Rh} {iv : Nat → Nat × Nat} {l : Ln} (h : LO w lo (.slice A n c) n (.slice B m d) m (.slice C o f) o hs iv l) (hn : n ≤ 4000000000) (hm : m ≤ 4000000000) (ho : o ≤ 4000000000) : LR w A n B m C o l :=
  ⟨dr_rr h.r (fun _ h => h) hn, nr_own h.b, nr_own h.c, hm, ho⟩
end Go.Proofs.Ytanaeebjcbbagaa
namespace Go.Proofs.Ytanaeebjcbbagaa
open Go.RowKit
theorem infoRob : (Try.prog.info? 100).map (fun i => (i.zero, i.size, i.bytes)) = some (some (.agg #[.int .i64 0, .slice none 0 0]), 2, 32) := by kernel_rfl
theorem run_app_robs (w : World) (ty : TypeId) (base : Nat) (v : Value) (n : Nat) (ps : List Rh) (hown : w.ownsRow base 100 2 v n (rcells ps))
    (A : Option Addr) (m c : Nat) (qs : List Rh) (hr : HQ w A m qs) (hn : n + m ≤ 4000000000) (hb : base ≤ w.heap.size) :
    ∃ v' w', (Builtin.append_ #[33, 33] ty #[v, .slice A m c]).run Try.prog w = .ok v' w' ∧ w'.ownsRow base 100 2 v' (n + m) (rcells (ps ++ qs)) ∧ w.grownBy w' v.ownBlock ∧
      (v'.ownBlock = v.ownBlock ∨ v'.ownBlock = some w.heap.size) := by
  obtain ⟨i0, hi, hz0, hz1, hz2⟩ := info_parts infoRob
  by_cases h0 : A = none
  · subst h0
    have hm : m = 0 := by
      rcases Nat.eq_zero_or_pos m with hm | hm
      · exact hm
      · obtain ⟨b, off, e, _⟩ := hr.2 hm
        cases e
    subst hm
    have hq : qs = [] := List.eq_nil_of_length_eq_zero hr.1
    subst hq
    exact ⟨v, w, run_app_nil (P := Try.prog) w base 33 ty 100 i0 2 Try.underlying33 hi v n _ hown c, by simpa using hown, g_refl _ _, .inl rfl⟩
  · obtain ⟨ad, rfl⟩ : ∃ ad, A = some ad := by
      cases A with
      | none => exact absurd rfl h0
      | some ad => exact ⟨ad, rfl⟩
    obtain ⟨v', w', e1, e2, e3, _, e5⟩ := run_append_own_at (P := Try.prog) w base 33 ty 100 i0 _ 2 32 Try.underlying33 hi hz0 hz1 hz2 rfl (by decide) v n _ hown ad m c (rcells qs) (by rw [rcells_len, hr.1]) (by
      intro j u hj
      have hjl : j < m * 2 := by
        rcases Nat.lt_or_ge j (rcells qs).length with hl | hl
        · rw [rcells_len, hr.1] at hl; exact hl
        · rw [List.getElem?_eq_none hl] at hj; cases hj
      obtain ⟨b, off, e, hlt, hc⟩ := hr.2 (by omega)
      obtain rfl : ad = ⟨b, off, none⟩ := by injection e
      have ha : ∀ j, (⟨b, off, none⟩ : Addr).add j = ⟨b, off + j, none⟩ := fun j => by unfold Addr.add; split <;> simp_all
      rw [ha]
      have hk : j / 2 < qs.length := by rw [hr.1]; omega
      have hq := hc (j / 2) _ (List.getElem?_eq_getElem hk)
      have hp := rcells_get qs (j / 2) _ (List.getElem?_eq_getElem hk)
      have hcase : j = j / 2 * 2 ∨ j = j / 2 * 2 + 1 := by omega
      generalize j / 2 = k3 at hk hq hp hcase
      obtain ⟨q0, q1⟩ := hq
      obtain ⟨p0, p1⟩ := hp
      rcases hcase with e | e
      · subst e; rw [p0] at hj; have hj := Option.some.inj hj; rw [← hj]; exact q0
      · subst e; rw [p1] at hj; have hj := Option.some.inj hj; rw [← hj, ← Nat.add_assoc]; exact q1) (rcells_one qs) (by unfold maxLen; omega) (by omega) hb
    exact ⟨v', w', e1, by rw [rcells_append]; exact e2, e3, e5⟩
theorem wpl_app_robs (w : World) {ops : Array Oper} {rest : List Oper} {o : Oper} {a : Act} {Q : Exit → Act → World → Prop} (hgd : o.guard = none) (s x : Operand)
    (ho : o.op = .call { callee := .builtin .append, args := #[s, x], argTypes := #[33, 33] })
    (base : Nat) (v : Value) (n : Nat) (ps : List Rh) (hs : a.eval s = v) (hown : w.ownsRow base 100 2 v n (rcells ps))
    (A : Option Addr) (m c : Nat) (qs : List Rh) (hx : a.eval x = .slice A m c) (hr : HQ w A m qs) (hn : n + m ≤ 4000000000) (hb : base ≤ w.heap.size)
    (h : ∀ v' w', w'.ownsRow base 100 2 v' (n + m) (rcells (ps ++ qs)) → w.grownBy w' v.ownBlock → (v'.ownBlock = v.ownBlock ∨ v'.ownBlock = some w.heap.size) → wpList Try.prog ops Q rest (a.put o.dst v') w') :
    wpList Try.prog ops Q (o :: rest) a w := by
  refine wpList_plain hgd fun K hK => ?_
  obtain ⟨v', w', hr', h2, h3, h4⟩ := run_app_robs w o.type base v n ps hown A m c qs hr hn hb
  unfold Oper.wp execOp
  simp only [ho, resolve, invoke, builtin, Sem.run_bind, Sem.run_pure, Result.andThen_ok, List.map_toArray, List.map_cons, List.map_nil, hs, hx, hr']
  exact hK _ _ (h v' w' h2 h3 h4)
theorem hq_single {w : World} {b : Nat} {t : TypeId} {h : Rh} (e : Blk w b t #[.int .i64 h.q, .slice h.A h.n h.c]) : HQ w (some ⟨b, 0, none⟩) 1 [h] :=
  ⟨rfl, fun _ => ⟨b, 0, rfl, blk_lt e, fun k q hk => by
    have hk0 : k = 0 := by
      rcases Nat.eq_zero_or_pos k with e | e
      · exact e
      · rw [List.getElem?_eq_none (by simp; omega)] at hk; cases hk
    subst hk0
    obtain rfl : h = q := by simpa using hk
    exact ⟨blk_cell e 0, blk_cell e 1⟩⟩⟩
end Go.Proofs.Ytanaeebjcbbagaa
