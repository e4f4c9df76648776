/-
  What the exact laws know of flows: an argument's flows, flows that a call owns in an interval of blocks, marks. Conditions: none; every lemma says what it asks.
-/
import Derived.Test.YtehokkijfgiggaaEx1
import Derived.Test.YtehokkijfgiggaaRDw
namespace Go.Proofs.Ytehokkijfgiggaa
open Go.RowKit

/-! An argument's flows -/
def FA (w : World) (A : Option Addr) (n : Nat) (fs : List Flw) : Prop :=
  ∃ hs, HR w A n hs ∧ hs.length = fs.length ∧ ∀ (k : Nat) (h : Fh) (f : Flw), hs[k]? = some h → fs[k]? = some f → h.peer = f.peer ∧ h.dfc = f.dfc ∧ PR w h.A h.n f.ws ∧ h.n ≤ 9223372036854775807
section
variable {w w' : World} {A : Option Addr} {n c : Nat} {fs : List Flw}
theorem fa_len (h : FA w A n fs) : fs.length = n := by
  obtain ⟨hs, h1, h2, h3⟩ := h
  rw [← h2]; exact h1.1
theorem fa_below (h : FA w A n fs) (hb : Below w.heap.size w w') : FA w' A n fs := by
  obtain ⟨hs, h1, h2, h3⟩ := h
  refine ⟨hs, hr_below h1 hb, h2, fun k h f e1 e2 => ?_⟩
  obtain ⟨a1, a2, a3, a4⟩ := h3 k h f e1 e2
  exact ⟨a1, a2, pr_below a3 hb, a4⟩
theorem fa_alloc (h : FA w A n fs) (o : Obj) : FA (w.alloc o) A n fs := fa_below h (below_alloc (Below.refl _ _) o)
theorem fr_fa (h : FR w A n fs) : FA w A n fs := by
  obtain ⟨hs, h1, h2, h3⟩ := h
  refine ⟨hs, h1, h2.1, fun k h f e1 e2 => ?_⟩
  have W := h2.2 k h f e1 e2
  exact ⟨W.peer, W.dfc, W.pr, Nat.le_trans W.few (by omega)⟩
theorem fa_at {k : Nat} (h : FA w A n fs) (hk : k < n) : ∃ b off f A1 n1 c1, A = some ⟨b, off, none⟩ ∧ b < w.heap.size ∧ fs[k]? = some f ∧ w.cell? ⟨b, off + k * 3, none⟩ = some (.int .i64 f.peer) ∧ w.cell? ⟨b, off + k * 3 + 1, none⟩ = some (.int .i64 f.dfc) ∧ w.cell? ⟨b, off + k * 3 + 2, none⟩ = some (.slice A1 n1 c1) ∧ PR w A1 n1 f.ws ∧ n1 ≤ 9223372036854775807 := by
  obtain ⟨hs, h1, h2, h3⟩ := h
  obtain ⟨b, off, g, e, hb, hg, c0, c1, c2⟩ := hr_at h1 hk
  have hl : k < fs.length := by rw [← h2, h1.1]; exact hk
  obtain ⟨a1, a2, a3, a4⟩ := h3 k g _ hg (List.getElem?_eq_getElem hl)
  exact ⟨b, off, fs[k], g.A, g.n, g.c, e, hb, List.getElem?_eq_getElem hl, by rw [← a1]; exact c0, by rw [← a2]; exact c1, c2, a3, a4⟩
end
theorem total_take {fs : List Flw} {k : Nat} {f : Flw} (h : fs[k]? = some f) : total (fs.take (k + 1)) = total (fs.take k) + f.ws.length := by
  rw [List.take_add_one, h, total_append]; simp [total]
theorem total_take_le (fs : List Flw) (k : Nat) : total (fs.take k) ≤ total fs := by
  have := total_append (fs.take k) (fs.drop k)
  rw [List.take_append_drop] at this
  omega
theorem ws_le_total {fs : List Flw} {k : Nat} {f : Flw} (h : fs[k]? = some f) : f.ws.length ≤ total fs := by
  have := total_take h
  have := total_take_le fs (k + 1)
  omega

/-! Flows that a call owns, in an interval of blocks -/
/-- a flow is written -/
theorem do_set {w : World} {lo g n c k : Nat} {hs : List Fh} {fs : List Flw} {h : Fh} {f : Flw} (D : DO w lo (.slice (some ⟨g, 0, none⟩) n c) n hs fs) (hk : k < hs.length) (h0 : h.peer = f.peer) (h1 : h.dfc = f.dfc) (h2 : h.n ≤ 4000000000)
    (ho : w.ownsRow lo 28 4 h.sl h.n (pcells f.ws)) (hg : ∀ b, h.sl.ownBlock = some b → b ≠ g) (hap : ∀ (j : Nat) (q : Fh), j ≠ k → hs[j]? = some q → ∀ b, h.sl.ownBlock = some b → q.sl.ownBlock ≠ some b) :
    DO (((w.setCell ⟨g, k * 3, none⟩ (.int .i64 h.peer)).setCell ⟨g, k * 3 + 1, none⟩ (.int .i64 h.dfc)).setCell ⟨g, k * 3 + 2, none⟩ (.slice h.A h.n h.c)) lo (.slice (some ⟨g, 0, none⟩) n c) n (hs.set k h) (fs.set k f) := by
  have hget : ∀ (j : Nat) (q : Fh), (hs.set k h)[j]? = some q → (j = k ∧ q = h) ∨ (j ≠ k ∧ hs[j]? = some q) := by
    intro j q e
    by_cases hjk : k = j
    · subst hjk
      rw [List.getElem?_set_self hk] at e
      exact .inl ⟨rfl, (Option.some.inj e).symm⟩
    · rw [List.getElem?_set_ne hjk] at e
      exact .inr ⟨fun e => hjk e.symm, e⟩
  have far : ∀ {u : Value} {m : Nat} {xs : List Value}, w.ownsRow lo 28 4 u m xs → (∀ b, u.ownBlock = some b → b ≠ g) →
      (((w.setCell ⟨g, k * 3, none⟩ (.int .i64 h.peer)).setCell ⟨g, k * 3 + 1, none⟩ (.int .i64 h.dfc)).setCell ⟨g, k * 3 + 2, none⟩ (.slice h.A h.n h.c)).ownsRow lo 28 4 u m xs := fun e1 e2 =>
    own_set_ne (p := ⟨g, k * 3 + 2, none⟩) (own_set_ne (p := ⟨g, k * 3 + 1, none⟩) (own_set_ne (p := ⟨g, k * 3, none⟩) e1 (fun e => e2 g e rfl) _) (fun e => e2 g e rfl) _) (fun e => e2 g e rfl) _
  have hv : Value.ownBlock (.slice (some ⟨g, 0, none⟩) n c) = some g := rfl
  refine ⟨?_, by rw [List.length_set, List.length_set]; exact D.len, fun j q f' e1 e2 => ?_, fun i j q q2 hij e1 e2 b hb1 hb2 => ?_⟩
  · have a := (((D.row.stored (k * 3) (.int .i64 h.peer)).1.stored (k * 3 + 1) (.int .i64 h.dfc)).1.stored (k * 3 + 2) (.slice h.A h.n h.c)).1
    rw [fcells_set] at a
    exact a
  · rcases hget j q e1 with ⟨rfl, rfl⟩ | ⟨hjk, hq⟩
    · rw [List.getElem?_set_self (by rw [← D.len]; exact hk)] at e2
      obtain rfl := Option.some.inj e2
      exact ⟨h0, h1, h2, far ho hg, fun b e e3 => hg b e (by rw [hv] at e3; injection e3 with e3; exact e3.symm)⟩
    · rw [List.getElem?_set_ne (fun e => hjk e.symm)] at e2
      obtain ⟨a1, a2, a3, a4, a5⟩ := D.all j q f' hq e2
      exact ⟨a1, a2, a3, far a4 (fun b e e3 => a5 b e (by rw [hv, e3])), a5⟩
  · rcases hget i q e1 with ⟨rfl, rfl⟩ | ⟨hik, hq⟩
    · rcases hget j q2 e2 with ⟨rfl, rfl⟩ | ⟨hjk, hq2⟩
      · exact hij rfl
      · exact hap j q2 hjk hq2 b hb1 hb2
    · rcases hget j q2 e2 with ⟨rfl, rfl⟩ | ⟨hjk, hq2⟩
      · exact hap i q hik hq b hb2 hb1
      · exact D.apart i j q q2 hij hq hq2 b hb1 hb2
/-- all of its blocks lie from lo on and below hi -/
def DOI (lo hi : Nat) (v : Value) (n : Nat) (hs : List Fh) (fs : List Flw) (w : World) : Prop :=
  DO w lo v n hs fs ∧ (∀ b, v.ownBlock = some b → b < hi) ∧ ∀ (k : Nat) (h : Fh), hs[k]? = some h → ∀ b, h.sl.ownBlock = some b → b < hi
theorem own_loc {w w' : World} {lo hi : Nat} {e : TypeId} {size : Nat} {v : Value} {n : Nat} {xs : List Value} (h : w.ownsRow lo e size v n xs) (hl : ∀ k, v.ownBlock = some k → k < hi) (hb : ∀ b, lo ≤ b → b < hi → w'.heap[b]? = w.heap[b]?) : w'.ownsRow lo e size v n xs := by
  refine ⟨h.1, ?_⟩
  rcases h.2 with hn | ⟨g, cap, cur, rfl, hg, hgg, rest⟩
  · exact .inl hn
  · exact .inr ⟨g, cap, cur, rfl, hg, (hb g hg (hl g rfl)).trans hgg, rest⟩
theorem doi_loc {w w' : World} {lo hi : Nat} {v : Value} {n : Nat} {hs : List Fh} {fs : List Flw} (D : DOI lo hi v n hs fs w) (hb : ∀ b, lo ≤ b → b < hi → w'.heap[b]? = w.heap[b]?) : DOI lo hi v n hs fs w' :=
  ⟨⟨own_loc D.1.row D.2.1 hb, D.1.len, fun k h f e1 e2 => by
    obtain ⟨a1, a2, a3, a4, a5⟩ := D.1.all k h f e1 e2
    exact ⟨a1, a2, a3, own_loc a4 (D.2.2 k h e1) hb, a5⟩, D.1.apart⟩, D.2⟩
theorem at_doi {w : World} {lo hi : Nat} {v : Value} {n : Nat} {hs : List Fh} {fs : List Flw} (D : DOI lo hi v n hs fs w) (hf : hi ≤ w.heap.size) : At lo hi (DOI lo hi v n hs fs) w :=
  ⟨D, hf, fun _ _ hb => doi_loc D hb⟩
theorem doi_all {w : World} {lo : Nat} {v : Value} {n : Nat} {hs : List Fh} {fs : List Flw} (D : DO w lo v n hs fs) : DOI lo w.heap.size v n hs fs w :=
  ⟨D, fun b e => ((do_lo D).1 b e).2, fun k h e b eb => ((do_lo D).2 k h e b eb).2⟩

/-! Marks -/
def cntF : List Flw → Int
  | [] => 0
  | f :: r => 2 + 4 * (f.ws.length : Int) + cntF r
def markF : List Flw → Int → List Flw
  | [], _ => []
  | f :: r, k => ⟨k, k + 1, markL f.ws.length (k + 2)⟩ :: markF r (k + 2 + 4 * (f.ws.length : Int))
theorem cntF_append (a b : List Flw) : cntF (a ++ b) = cntF a + cntF b := by
  induction a with
  | nil => simp [cntF]
  | cons f r ih => simp only [List.cons_append, cntF, ih]; omega
theorem cntF_take {fs : List Flw} {k : Nat} {f : Flw} (h : fs[k]? = some f) : cntF (fs.take (k + 1)) = cntF (fs.take k) + 2 + 4 * (f.ws.length : Int) := by
  rw [List.take_add_one, h, cntF_append]; simp [cntF]; omega
theorem cntF_eq (fs : List Flw) : cntF fs = 2 * (fs.length : Int) + 4 * (total fs : Int) := by
  induction fs with
  | nil => rfl
  | cons f r ih => simp only [cntF, ih, List.length_cons, total]; omega
theorem cntF_take_le (fs : List Flw) (k : Nat) : 0 ≤ cntF (fs.take k) ∧ cntF (fs.take k) ≤ cntF fs := by
  have h1 := cntF_append (fs.take k) (fs.drop k)
  rw [List.take_append_drop] at h1
  have h2 := cntF_eq (fs.take k)
  have h3 := cntF_eq (fs.drop k)
  omega
theorem markF_len (fs : List Flw) (k : Int) : (markF fs k).length = fs.length := by
  induction fs generalizing k with
  | nil => rfl
  | cons f r ih => simp [markF, ih]
theorem markF_append (a b : List Flw) (k : Int) : markF (a ++ b) k = markF a k ++ markF b (k + cntF a) := by
  induction a generalizing k with
  | nil => simp [markF, cntF]
  | cons f r ih =>
    simp only [List.cons_append, markF, cntF, ih]
    rw [show k + 2 + 4 * (f.ws.length : Int) + cntF r = k + (2 + 4 * (f.ws.length : Int) + cntF r) from by omega]
theorem markF_take {fs : List Flw} {k : Nat} {f : Flw} (h : fs[k]? = some f) (x : Int) : markF (fs.take (k + 1)) x = markF (fs.take k) x ++ [⟨x + cntF (fs.take k), x + cntF (fs.take k) + 1, markL f.ws.length (x + cntF (fs.take k) + 2)⟩] := by
  rw [List.take_add_one, h, markF_append]; simp [markF]
theorem markF_get {fs : List Flw} {k : Nat} {f : Flw} (h : fs[k]? = some f) (x : Int) : (markF fs x)[k]? = some ⟨x + cntF (fs.take k), x + cntF (fs.take k) + 1, markL f.ws.length (x + cntF (fs.take k) + 2)⟩ := by
  have hl : k < fs.length := by
    rcases Nat.lt_or_ge k fs.length with hl | hl
    · exact hl
    · rw [List.getElem?_eq_none hl] at h; cases h
  have e : markF fs x = markF (fs.take (k + 1)) x ++ markF (fs.drop (k + 1)) (x + cntF (fs.take (k + 1))) := by rw [← markF_append, List.take_append_drop]
  have h2 : (markF (fs.take k) x).length = k := by rw [markF_len, List.length_take]; omega
  rw [e, List.getElem?_append_left (by rw [markF_len, List.length_take]; omega), markF_take h, List.getElem?_append_right (by omega), h2]
  simp
/-- the list while it is marked -/
def midF (fs : List Flw) (k : Nat) (x : Int) : List Flw := markF (fs.take k) x ++ fs.drop k
theorem midF_len (fs : List Flw) (k : Nat) (x : Int) : (midF fs k x).length = fs.length := by
  unfold midF
  rw [List.length_append, markF_len, ← List.length_append, List.take_append_drop]
theorem midF_get {fs : List Flw} {k : Nat} {f : Flw} (h : fs[k]? = some f) (x : Int) : (midF fs k x)[k]? = some f := by
  have hl : k < fs.length := by
    rcases Nat.lt_or_ge k fs.length with hl | hl
    · exact hl
    · rw [List.getElem?_eq_none hl] at h; cases h
  have h2 : (markF (fs.take k) x).length = k := by rw [markF_len, List.length_take]; omega
  unfold midF
  rw [List.getElem?_append_right (by omega), h2, Nat.sub_self, List.getElem?_drop]
  exact h
theorem midF_set {fs : List Flw} {k : Nat} {f : Flw} (h : fs[k]? = some f) (x : Int) : (midF fs k x).set k ⟨x + cntF (fs.take k), x + cntF (fs.take k) + 1, markL f.ws.length (x + cntF (fs.take k) + 2)⟩ = midF fs (k + 1) x := by
  have hl : k < fs.length := by
    rcases Nat.lt_or_ge k fs.length with hl | hl
    · exact hl
    · rw [List.getElem?_eq_none hl] at h; cases h
  have h2 : (markF (fs.take k) x).length = k := by rw [markF_len, List.length_take]; omega
  have h3 : fs.drop k = f :: fs.drop (k + 1) := by
    rw [List.drop_eq_getElem_cons hl]
    rw [List.getElem?_eq_getElem hl] at h
    rw [Option.some.inj h]
  unfold midF
  rw [List.set_append_right _ _ (by omega), h2, Nat.sub_self, h3, List.set_cons_zero, markF_take h, List.append_assoc]
  rfl
theorem midF_all (fs : List Flw) (x : Int) : midF fs fs.length x = markF fs x := by simp [midF]
theorem midF_zero (fs : List Flw) (x : Int) : midF fs 0 x = fs := by simp [midF, markF]
end Go.Proofs.Ytehokkijfgiggaa
