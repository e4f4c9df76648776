/-
  Chapter 5: robins as lists of flows: validity, joining, leaving, turns, taking; plain mathematics. Conditions: none; every lemma says what it asks. Flows in memory: rows of flows' headers, the packets that wait behind each, and flows that a call owns together with their packets. Conditions: none; every lemma says what it asks. Chapter 5: which flow may send, the place of a peer: what the program's functions and the model's return. Conditions: flows that wait have a packet. Chapter 5: validity of flows and robins: what the program's functions and the model's return. Conditions: a flow has at mo
  Conditions: each lemma says them.
-/
import Derived.Test.YtkmoiphcpmhacaaKb
import Derived.Deep.RegionHeld3
import Derived.StillTailTactics
namespace Go.Proofs.Ytkmoiphcpmhacaa
open Go.RowKit

structure Flw where
  peer : Int
  dfc : Int
  ws : List Pkt
structure VF (q : Int) (f : Flw) : Prop where
  p0 : 0 ≤ f.peer
  p7 : f.peer ≤ 7
  d0 : 0 ≤ f.dfc
  d1 : f.dfc < q + 100
  n0 : 0 < f.ws.length
  ok : okB f.ws = true
  own : ∀ p ∈ f.ws, p.peer = f.peer
def Apart (fs : List Flw) : Prop := fs.Pairwise (fun a b => a.peer ≠ b.peer)
structure RV (q : Int) (fs : List Flw) : Prop where
  q0 : 1 ≤ q
  q1 : q ≤ 500
  all : ∀ f ∈ fs, VF q f
  apart : Apart fs
open Classical in
noncomputable def vfB (q : Int) (f : Flw) : Bool := decide (VF q f)
open Classical in
noncomputable def rvB (q : Int) (fs : List Flw) : Bool := decide (RV q fs)
open Classical in
noncomputable def rsB (q : Int) (fs : List Flw) (q2 : Int) (gs : List Flw) : Bool := decide (q = q2 ∧ fs = gs)
theorem rv_iff {q : Int} {fs : List Flw} : rvB q fs = true ↔ RV q fs := by simp [rvB]
theorem rv_yes {q : Int} {fs : List Flw} (h : RV q fs) : rvB q fs = true := rv_iff.2 h
theorem rv_no {q : Int} {fs : List Flw} (h : ¬ RV q fs) : rvB q fs = false := by simp [rvB, h]
theorem rv_not {q : Int} {fs : List Flw} (h : rvB q fs = false) : ¬ RV q fs := fun k => by rw [rv_yes k] at h; cases h
theorem vf_iff {q : Int} {f : Flw} : vfB q f = true ↔ VF q f := by simp [vfB]
theorem vf_no {q : Int} {f : Flw} (h : ¬ VF q f) : vfB q f = false := by simp [vfB, h]
theorem rs_refl (q : Int) (fs : List Flw) : rsB q fs q fs = true := by simp [rsB]
theorem rs_iff {q q2 : Int} {fs gs : List Flw} : rsB q fs q2 gs = true ↔ q = q2 ∧ fs = gs := by simp [rsB]
theorem rs_no {q q2 : Int} {fs gs : List Flw} (h : ¬ (q = q2 ∧ fs = gs)) : rsB q fs q2 gs = false := by simp [rsB, h]
theorem flw_ext {f g : Flw} (h0 : f.peer = g.peer) (h1 : f.dfc = g.dfc) (h2 : f.ws = g.ws) : f = g := by
  cases f; cases g; simp_all

theorem pig : ∀ (n : Nat) (l : List Int), l.Pairwise (fun a b => a ≠ b) → (∀ x ∈ l, 0 ≤ x ∧ x < n) → l.length ≤ n := by
  intro n
  induction n with
  | zero =>
    intro l _ h
    cases l with
    | nil => simp
    | cons a r => have := h a (by simp); omega
  | succ n ih =>
    intro l hp h
    have key : ∀ l : List Int, l.Pairwise (fun a b => a ≠ b) → l.length ≤ (l.filter (fun x => !(x == (n : Int)))).length + 1 := by
      intro l
      induction l with
      | nil => simp
      | cons a r ihr =>
        intro hp
        have hp' := List.pairwise_cons.1 hp
        by_cases ha : a = (n : Int)
        · have e : (r.filter (fun x => !(x == (n : Int)))) = r := List.filter_eq_self.2 fun x hx => by
            have := hp'.1 x hx
            simp; omega
          simp [ha, e]
        · have e : ((a :: r).filter (fun x => !(x == (n : Int)))) = a :: r.filter (fun x => !(x == (n : Int))) := by simp [ha]
          rw [e]
          have := ihr hp'.2
          simp only [List.length_cons]; omega
    have h1 := key l hp
    have h2 := ih (l.filter (fun x => !(x == (n : Int)))) (hp.filter _) fun x hx => by
      have hm := List.mem_filter.1 hx
      have := h x hm.1
      have : x ≠ (n : Int) := by simpa using hm.2
      omega
    omega
theorem rv_len {q : Int} {fs : List Flw} (h : RV q fs) : fs.length ≤ 8 := by
  have ha : (fs.map Flw.peer).Pairwise (fun a b => a ≠ b) := List.pairwise_map.2 h.apart
  have := pig 8 (fs.map Flw.peer) ha fun x hx => by
    obtain ⟨f, hf, rfl⟩ := List.mem_map.1 hx
    have hv := h.all f hf
    have := hv.p0
    have := hv.p7
    exact ⟨hv.p0, by omega⟩
  simpa using this
theorem rv_tail {q : Int} {f : Flw} {r : List Flw} (h : RV q (f :: r)) : RV q r := ⟨h.q0, h.q1, fun g hg => h.all g (List.mem_cons_of_mem _ hg), (List.pairwise_cons.1 h.apart).2⟩
theorem rv_nil {q : Int} (h0 : 1 ≤ q) (h1 : q ≤ 500) : RV q [] := ⟨h0, h1, fun f h => absurd h (by simp), List.Pairwise.nil⟩
theorem rv_snoc {q : Int} {r : List Flw} {f : Flw} (h : RV q r) (hf : VF q f) (hp : ∀ g ∈ r, g.peer ≠ f.peer) : RV q (r ++ [f]) :=
  ⟨h.q0, h.q1, fun g hg => by
    rcases List.mem_append.1 hg with hg | hg
    · exact h.all g hg
    · obtain rfl : g = f := by simpa using hg
      exact hf, List.pairwise_append.2 ⟨h.apart, List.pairwise_singleton _ _, fun a ha b hb => by
    obtain rfl : b = f := by simpa using hb
    exact hp a ha⟩⟩
theorem rv_cons {q : Int} {r : List Flw} {f : Flw} (h : RV q r) (hf : VF q f) (hp : ∀ g ∈ r, f.peer ≠ g.peer) : RV q (f :: r) :=
  ⟨h.q0, h.q1, fun g hg => by
    rcases List.mem_cons.1 hg with rfl | hg
    · exact hf
    · exact h.all g hg, List.pairwise_cons.2 ⟨hp, h.apart⟩⟩
theorem rv_head {q : Int} {f : Flw} {r : List Flw} (h : RV q (f :: r)) : VF q f ∧ ∀ g ∈ r, f.peer ≠ g.peer := ⟨h.all f (by simp), (List.pairwise_cons.1 h.apart).1⟩
theorem vf_wait {q : Int} {f : Flw} (h : VF q f) : ∃ p ws, f.ws = p :: ws ∧ 1 ≤ p.size ∧ p.size ≤ 100 ∧ okB ws = true ∧ (∀ x ∈ ws, x.peer = f.peer) ∧ p.peer = f.peer := by
  rcases hw : f.ws with _ | ⟨p, ws⟩
  · have := h.n0; rw [hw] at this; simp at this
  · have ho := h.ok
    have hown := h.own
    rw [hw] at ho hown
    have h1 := ok_of ho
    have h2 := vld_size (ok_at ho (k := 0) rfl)
    exact ⟨p, ws, rfl, h2.1, h2.2, ok_mk (by have := h1.1; simp at this; omega) (by have := h1.2; simp at this; simpa using this.2), fun x hx => hown x (by simp [hx]), hown p (by simp)⟩

/-! The flow of a peer -/
def fix (fs : List Flw) (x : Int) : Nat := fs.findIdx (fun f => f.peer == x)
def wOf : List Flw → Int → List Pkt
  | [], _ => []
  | f :: r, x => if f.peer = x then f.ws else wOf r x
theorem fix_lt {fs : List Flw} {x : Int} (h : fix fs x < fs.length) : ∃ f, fs[fix fs x]? = some f ∧ f.peer = x := by
  refine ⟨fs[fix fs x], List.getElem?_eq_getElem h, ?_⟩
  have := List.findIdx_getElem (xs := fs) (p := fun f : Flw => f.peer == x) (w := h)
  rw [beq_iff_eq] at this
  exact this
theorem fix_le (fs : List Flw) (x : Int) : fix fs x ≤ fs.length := List.findIdx_le_length
theorem fix_before {fs : List Flw} {x : Int} {k : Nat} {f : Flw} (hk : k < fix fs x) (hf : fs[k]? = some f) : ¬ f.peer = x := by
  have h1 := List.not_of_lt_findIdx (p := fun f : Flw => f.peer == x) (xs := fs) (i := k) hk
  have hlt : k < fs.length := Nat.lt_of_lt_of_le hk (fix_le fs x)
  rw [List.getElem?_eq_getElem hlt] at hf
  rw [← Option.some.inj hf]
  simpa using h1
theorem fix_eq {fs : List Flw} {x : Int} {k : Nat} {f : Flw} (hf : fs[k]? = some f) (hx : f.peer = x) (hb : ∀ j g, j < k → fs[j]? = some g → ¬ g.peer = x) : fix fs x = k := by
  have hlt : k < fs.length := by
    rcases Nat.lt_or_ge k fs.length with h | h
    · exact h
    · rw [List.getElem?_eq_none h] at hf; cases hf
  rcases Nat.lt_trichotomy (fix fs x) k with h | h | h
  · obtain ⟨g, hg, hgx⟩ := fix_lt (fs := fs) (x := x) (by omega)
    exact absurd hgx (hb _ g h hg)
  · exact h
  · exact absurd hx (fix_before h hf)
theorem fix_none {fs : List Flw} {x : Int} (hb : ∀ f ∈ fs, ¬ f.peer = x) : fix fs x = fs.length := by
  rcases Nat.lt_or_ge (fix fs x) fs.length with h | h
  · obtain ⟨f, hf, hx⟩ := fix_lt h
    exact absurd hx (hb f (List.mem_of_getElem? hf))
  · have := fix_le fs x; omega
theorem w_fix {fs : List Flw} {x : Int} {f : Flw} (h : fs[fix fs x]? = some f) : wOf fs x = f.ws := by
  induction fs with
  | nil => simp at h
  | cons g r ih =>
    by_cases hg : g.peer = x
    · have e : fix (g :: r) x = 0 := by simp [fix, List.findIdx_cons, hg]
      rw [e] at h
      obtain rfl : g = f := by simpa using h
      simp [wOf, hg]
    · have hb : (g.peer == x) = false := by simp [hg]
      have e : fix (g :: r) x = fix r x + 1 := by simp only [fix, List.findIdx_cons, hb, cond_false]
      rw [e] at h
      simp only [wOf, hg, if_false]
      exact ih (by simpa using h)
theorem w_none {fs : List Flw} {x : Int} (h : ∀ f ∈ fs, ¬ f.peer = x) : wOf fs x = [] := by
  induction fs with
  | nil => rfl
  | cons g r ih => simp only [wOf, h g (by simp), if_false]; exact ih fun f hf => h f (by simp [hf])
theorem w_far {fs : List Flw} {x : Int} (h : ¬ fix fs x < fs.length) : wOf fs x = [] := w_none fun f hf hx => by
  obtain ⟨k, hk, e⟩ := List.getElem_of_mem hf
  exact fix_before (k := k) (x := x) (fs := fs) (by omega) (by rw [List.getElem?_eq_getElem hk, e]) hx
theorem w_mem {fs : List Flw} {f : Flw} (ha : Apart fs) (h : f ∈ fs) : wOf fs f.peer = f.ws := by
  induction fs with
  | nil => simp at h
  | cons g r ih =>
    have hp := List.pairwise_cons.1 ha
    rcases List.mem_cons.1 h with rfl | h
    · simp [wOf]
    · have : ¬ g.peer = f.peer := hp.1 f h
      simp only [wOf, this, if_false]
      exact ih hp.2 h
theorem w_append (a b : List Flw) (x : Int) (h : ∀ f ∈ a, ¬ f.peer = x) : wOf (a ++ b) x = wOf b x := by
  induction a with
  | nil => rfl
  | cons g r ih => simp only [List.cons_append, wOf, h g (by simp), if_false]; exact ih fun f hf => h f (by simp [hf])
theorem w_append2 (a b : List Flw) (x : Int) (h : ∀ f ∈ b, ¬ f.peer = x) : wOf (a ++ b) x = wOf a x := by
  induction a with
  | nil => simp only [List.nil_append]; rw [w_none h]; rfl
  | cons g r ih => simp only [List.cons_append, wOf, ih]
/-- a flow goes behind the others -/
theorem w_rot {f f' : Flw} {r : List Flw} (hp : ∀ g ∈ r, f.peer ≠ g.peer) (h1 : f'.peer = f.peer) (h2 : f'.ws = f.ws) (x : Int) : wOf (r ++ [f']) x = wOf (f :: r) x := by
  by_cases hx : f.peer = x
  · rw [w_append _ _ _ fun g hg e => hp g hg (hx.trans e.symm)]
    simp [wOf, h1, hx, h2]
  · rw [w_append2 _ _ _ fun g hg => by
      obtain rfl : g = f' := by simpa using hg
      rw [h1]; exact hx]
    simp [wOf, hx]

/-! Joining and leaving -/
def joinL (fs : List Flw) (p : Pkt) : List Flw :=
  match fs[fix fs p.peer]? with
  | some f => fs.set (fix fs p.peer) ⟨f.peer, f.dfc, f.ws ++ [p]⟩
  | none => fs ++ [⟨p.peer, 0, [p]⟩]
def leaveL (fs : List Flw) (x : Int) : List Flw := fs.eraseIdx (fix fs x)
def joinOk (q : Int) (fs : List Flw) (p : Pkt) : Prop := RV q fs ∧ vldB p = true ∧ (wOf fs p.peer).length < 64
theorem join_old {fs : List Flw} {p : Pkt} {f : Flw} (h : fs[fix fs p.peer]? = some f) : joinL fs p = fs.set (fix fs p.peer) ⟨f.peer, f.dfc, f.ws ++ [p]⟩ := by simp [joinL, h]
theorem join_new {fs : List Flw} {p : Pkt} (h : ¬ fix fs p.peer < fs.length) : joinL fs p = fs ++ [⟨p.peer, 0, [p]⟩] := by
  simp [joinL, List.getElem?_eq_none (Nat.le_of_not_lt h)]
theorem mem_set_ne {fs : List Flw} {k : Nat} {f' g : Flw} (h : g ∈ fs.set k f') : g = f' ∨ ∃ j, j ≠ k ∧ fs[j]? = some g := by
  obtain ⟨j, hj⟩ := List.getElem?_of_mem h
  by_cases e : k = j
  · subst e
    rw [List.getElem?_set] at hj
    rw [if_pos rfl] at hj
    split at hj
    · exact .inl (by injection hj with hj; exact hj.symm)
    · cases hj
  · rw [List.getElem?_set_ne e] at hj
    exact .inr ⟨j, fun e2 => e e2.symm, hj⟩
theorem apart_at {fs : List Flw} (h : Apart fs) {i j : Nat} {f g : Flw} (hi : fs[i]? = some f) (hj : fs[j]? = some g) (hp : f.peer = g.peer) : i = j := by
  have hil : i < fs.length := by
    rcases Nat.lt_or_ge i fs.length with h | h
    · exact h
    · rw [List.getElem?_eq_none h] at hi; cases hi
  have hjl : j < fs.length := by
    rcases Nat.lt_or_ge j fs.length with h | h
    · exact h
    · rw [List.getElem?_eq_none h] at hj; cases hj
  rw [List.getElem?_eq_getElem hil] at hi
  rw [List.getElem?_eq_getElem hjl] at hj
  have hi := Option.some.inj hi
  have hj := Option.some.inj hj
  rcases Nat.lt_trichotomy i j with e | e | e
  · exact absurd (by rw [hi, hj]; exact hp) (List.pairwise_iff_getElem.1 h i j hil hjl e)
  · exact e
  · exact absurd (by rw [hi, hj]; exact hp.symm) (List.pairwise_iff_getElem.1 h j i hjl hil e)
theorem apart_set {fs : List Flw} (h : Apart fs) {k : Nat} {f f' : Flw} (hk : fs[k]? = some f) (hp : f'.peer = f.peer) : Apart (fs.set k f') := by
  have e : (fs.set k f').map (·.peer) = fs.map (·.peer) := by
    rw [List.map_set]
    apply List.ext_getElem?
    intro i
    by_cases hi : k = i
    · subst hi
      have hl : k < fs.length := by
        rcases Nat.lt_or_ge k fs.length with h | h
        · exact h
        · rw [List.getElem?_eq_none h] at hk; cases hk
      rw [List.getElem?_set_self (by simpa using hl), List.getElem?_map, hk]
      simp [hp]
    · rw [List.getElem?_set_ne hi]
  have h1 : (fs.map (·.peer)).Pairwise (fun a b => a ≠ b) := List.pairwise_map.2 h
  rw [← e] at h1
  exact List.pairwise_map.1 h1
theorem w_set {fs : List Flw} {k : Nat} {f f' : Flw} (h : Apart fs) (hk : fs[k]? = some f) (hp : f'.peer = f.peer) (x : Int) : wOf (fs.set k f') x = if f.peer = x then f'.ws else wOf fs x := by
  have ha := apart_set h hk hp
  have hl : k < fs.length := by
    rcases Nat.lt_or_ge k fs.length with h | h
    · exact h
    · rw [List.getElem?_eq_none h] at hk; cases hk
  by_cases hx : f.peer = x
  · rw [if_pos hx, ← hx, ← hp]
    exact w_mem ha (List.mem_of_getElem? (List.getElem?_set_self hl))
  · rw [if_neg hx]
    induction fs generalizing k with
    | nil => rfl
    | cons g r ih =>
      cases k with
      | zero =>
        obtain rfl : g = f := by simpa using hk
        have h1 : ¬ f'.peer = x := by rw [hp]; exact hx
        simp [wOf, hx, h1]
      | succ k =>
        have ha' : Apart (g :: r.set k f') := ha
        have := ih (k := k) (List.pairwise_cons.1 h).2 (by simpa using hk) (List.pairwise_cons.1 ha').2 (by simpa using hl)
        simp only [List.set_cons_succ, wOf, this]
theorem rv_join {q : Int} {fs : List Flw} {p : Pkt} (h : joinOk q fs p) : RV q (joinL fs p) := by
  obtain ⟨hv, hp, hl⟩ := h
  have hp' := hp
  simp only [vldB, decide_eq_true_eq] at hp'
  rcases hf : fs[fix fs p.peer]? with _ | f
  · have hn : ¬ fix fs p.peer < fs.length := fun hlt => by rw [List.getElem?_eq_getElem hlt] at hf; cases hf
    rw [join_new hn]
    refine rv_snoc hv ⟨hp'.1, hp'.2.1, Int.le_refl _, by have := hv.q0; show (0 : Int) < q + 100; omega, by simp, by simp [okB, hp], fun x hx => congrArg Pkt.peer (List.mem_singleton.1 hx)⟩ fun g hg e => ?_
    obtain ⟨k, hk, hge⟩ := List.getElem_of_mem hg
    exact fix_before (fs := fs) (x := p.peer) (k := k) (by have := fix_le fs p.peer; omega) (by rw [List.getElem?_eq_getElem hk, hge]) e
  · rw [join_old hf]
    have hfm := hv.all f (List.mem_of_getElem? hf)
    have hpe : f.peer = p.peer := by
      have hlt : fix fs p.peer < fs.length := by
        rcases Nat.lt_or_ge (fix fs p.peer) fs.length with h | h
        · exact h
        · rw [List.getElem?_eq_none h] at hf; cases hf
      obtain ⟨g, hg, hgx⟩ := fix_lt hlt
      rw [hf] at hg
      rw [Option.some.inj hg]; exact hgx
    rw [w_fix hf] at hl
    have hok := ok_of hfm.ok
    refine ⟨hv.q0, hv.q1, fun g hg => ?_, apart_set hv.apart hf rfl⟩
    rcases mem_set_ne hg with rfl | ⟨j, -, hj⟩
    · exact ⟨hfm.p0, hfm.p7, hfm.d0, hfm.d1, by simp, ok_mk (by simp; omega) (by rw [List.all_append, hok.2]; simp [hp]), fun x hx => by
        rcases List.mem_append.1 hx with hx | hx
        · exact hfm.own x hx
        · obtain rfl : x = p := by simpa using hx
          exact hpe.symm⟩
    · exact hv.all g (List.mem_of_getElem? hj)
theorem w_join {fs : List Flw} {p : Pkt} (ha : Apart fs) (x : Int) : wOf (joinL fs p) x = if p.peer = x then wOf fs x ++ [p] else wOf fs x := by
  rcases hf : fs[fix fs p.peer]? with _ | f
  · have hn : ¬ fix fs p.peer < fs.length := fun hlt => by rw [List.getElem?_eq_getElem hlt] at hf; cases hf
    rw [join_new hn]
    have hno : ∀ g ∈ fs, ¬ g.peer = p.peer := fun g hg e => by
      obtain ⟨k, hk, hge⟩ := List.getElem_of_mem hg
      exact fix_before (fs := fs) (x := p.peer) (k := k) (by have := fix_le fs p.peer; omega) (by rw [List.getElem?_eq_getElem hk, hge]) e
    by_cases hx : p.peer = x
    · subst hx
      rw [if_pos rfl, w_append _ _ _ hno, w_none hno]
      simp [wOf]
    · rw [if_neg hx, w_append2 _ _ _ fun g hg => by
        obtain rfl : g = ⟨p.peer, 0, [p]⟩ := by simpa using hg
        exact hx]
  · rw [join_old hf, w_set (f' := ⟨f.peer, f.dfc, f.ws ++ [p]⟩) ha hf rfl]
    have hpe : f.peer = p.peer := by
      have hlt : fix fs p.peer < fs.length := by
        rcases Nat.lt_or_ge (fix fs p.peer) fs.length with h | h
        · exact h
        · rw [List.getElem?_eq_none h] at hf; cases hf
      obtain ⟨g, hg, hgx⟩ := fix_lt hlt
      rw [hf] at hg
      rw [Option.some.inj hg]; exact hgx
    rw [hpe]
    by_cases hx : p.peer = x
    · subst hx
      rw [if_pos rfl, if_pos rfl, w_fix hf]
    · rw [if_neg hx, if_neg hx]
theorem apart_erase {fs : List Flw} (h : Apart fs) (k : Nat) : Apart (fs.eraseIdx k) := List.Pairwise.sublist (List.eraseIdx_sublist fs k) h
theorem rv_leave {q : Int} {fs : List Flw} (h : RV q fs) (x : Int) : RV q (leaveL fs x) := ⟨h.q0, h.q1, fun f hf => h.all f ((List.eraseIdx_sublist fs _).subset hf), apart_erase h.apart _⟩
theorem w_leave {fs : List Flw} (h : Apart fs) (x y : Int) : wOf (leaveL fs x) y = if x = y then [] else wOf fs y := by
  unfold leaveL
  induction fs with
  | nil => simp [wOf]
  | cons g r ih =>
    have hp := List.pairwise_cons.1 h
    by_cases hg : g.peer = x
    · have e : fix (g :: r) x = 0 := by simp [fix, List.findIdx_cons, hg]
      rw [e]
      simp only [List.eraseIdx_zero, List.tail_cons]
      by_cases hxy : x = y
      · rw [if_pos hxy]
        exact w_none fun f hf e => hp.1 f hf (by rw [hg, e, hxy])
      · rw [if_neg hxy]
        simp only [wOf]
        rw [if_neg (by rw [hg]; exact hxy)]
    · have hb : (g.peer == x) = false := by simp [hg]
      have e : fix (g :: r) x = fix r x + 1 := by simp only [fix, List.findIdx_cons, hb, cond_false]
      rw [e]
      simp only [List.eraseIdx_cons_succ, wOf]
      rw [ih hp.2]
      by_cases hxy : x = y
      · rw [if_pos hxy, if_neg (by rw [← hxy]; exact hg), if_pos hxy]
      · rw [if_neg hxy, if_neg hxy]

/-! Turns -/
def may (f : Flw) : Bool := match f.ws with
  | [] => true
  | p :: _ => decide (p.size ≤ f.dfc)
def addq (q : Int) (f : Flw) : Flw := ⟨f.peer, f.dfc + q, f.ws⟩
def trn (q : Int) : Nat → List Flw → List Flw
  | _, [] => []
  | 0, f :: r => f :: r
  | n + 1, f :: r => if may f = true then f :: r else if may (addq q f) = true then addq q f :: r else trn q n (r ++ [addq q f])
def need : List Flw → Nat
  | [] => 0
  | f :: r => (100 - f.dfc).toNat + need r
def turned (q : Int) (fs : List Flw) : List Flw := trn q (need fs) fs
theorem need_append (a b : List Flw) : need (a ++ b) = need a + need b := by
  induction a with
  | nil => simp [need]
  | cons f r ih => simp only [List.cons_append, need, ih]; omega
theorem trn_may {q : Int} {n : Nat} {f : Flw} {r : List Flw} (h : may f = true) : trn q n (f :: r) = f :: r := by
  cases n with
  | zero => rfl
  | succ n => simp [trn, h]
theorem may_of {f : Flw} {p : Pkt} {ws : List Pkt} (h : f.ws = p :: ws) : may f = decide (p.size ≤ f.dfc) := by simp [may, h]
theorem vf_addq {q : Int} {f : Flw} (h0 : 1 ≤ q) (h : VF q f) (hm : may f = false) : VF q (addq q f) := by
  obtain ⟨p, ws, hw, h1, h2, -⟩ := vf_wait h
  rw [may_of hw, decide_eq_false_iff_not] at hm
  have := h.d0
  exact ⟨h.p0, h.p7, by show 0 ≤ f.dfc + q; omega, by show f.dfc + q < q + 100; omega, h.n0, h.ok, h.own⟩
theorem rv_rot {q : Int} {f : Flw} {r : List Flw} (h : RV q (f :: r)) (hm : may f = false) : RV q (r ++ [addq q f]) :=
  rv_snoc (rv_tail h) (vf_addq h.q0 (rv_head h).1 hm) fun g hg e => (rv_head h).2 g hg e.symm
theorem need_rot {q : Int} {f : Flw} {r : List Flw} (h : RV q (f :: r)) (hm : may f = false) : need (r ++ [addq q f]) < need (f :: r) := by
  obtain ⟨p, ws, hw, h1, h2, -⟩ := vf_wait (rv_head h).1
  rw [may_of hw, decide_eq_false_iff_not] at hm
  have := h.q0
  have := (rv_head h).1.d0
  rw [need_append]
  simp only [need, addq]
  omega
theorem trn_enough {q : Int} : ∀ (n m : Nat) (fs : List Flw), RV q fs → need fs ≤ n → need fs ≤ m → trn q n fs = trn q m fs := by
  intro n
  induction n with
  | zero =>
    intro m fs h h0 _
    cases fs with
    | nil => cases m <;> rfl
    | cons f r =>
      rcases hm : may f with _ | _
      · have := need_rot h hm; omega
      · rw [trn_may hm, trn_may hm]
  | succ n ih =>
    intro m fs h h1 h2
    cases fs with
    | nil => cases m <;> rfl
    | cons f r =>
      rcases hm : may f with _ | _
      · have hn := need_rot h hm
        cases m with
        | zero => omega
        | succ m =>
          rcases ha : may (addq q f) with _ | _
          · simp only [trn, hm, ha, Bool.false_eq_true, if_false]
            exact ih m _ (rv_rot h hm) (by omega) (by omega)
          · simp only [trn, hm, ha, Bool.false_eq_true, if_false, if_true]
      · rw [trn_may hm, trn_may hm]
theorem turned_may {q : Int} {f : Flw} {r : List Flw} (h : may f = true) : turned q (f :: r) = f :: r := trn_may h
theorem turned_add {q : Int} {f : Flw} {r : List Flw} (h : RV q (f :: r)) (hm : may f = false) (ha : may (addq q f) = true) : turned q (f :: r) = addq q f :: r := by
  unfold turned
  rw [trn_enough (need (f :: r)) (need (f :: r) + 1) _ h (Nat.le_refl _) (by omega)]
  simp [trn, hm, ha]
theorem turned_rot {q : Int} {f : Flw} {r : List Flw} (h : RV q (f :: r)) (hm : may f = false) (ha : may (addq q f) = false) : turned q (f :: r) = turned q (r ++ [addq q f]) := by
  unfold turned
  rw [trn_enough (need (f :: r)) (need (f :: r) + 1) _ h (Nat.le_refl _) (by omega)]
  have hn := need_rot h hm
  simp only [trn, hm, ha, Bool.false_eq_true, if_false]
  exact trn_enough _ _ _ (rv_rot h hm) (by omega) (Nat.le_refl _)
/-- what stands first when its turn has begun -/
structure Turned (q : Int) (fs : List Flw) (f : Flw) (r : List Flw) : Prop where
  is : turned q fs = f :: r
  rv : RV q (f :: r)
  may : may f = true
  w : ∀ x, wOf (f :: r) x = wOf fs x
  len : (f :: r).length = fs.length
theorem turned_is {q : Int} : ∀ (n : Nat) (fs : List Flw), need fs ≤ n → RV q fs → fs ≠ [] → ∃ f r, Turned q fs f r := by
  intro n
  induction n with
  | zero =>
    intro fs hn h h0
    cases fs with
    | nil => exact absurd rfl h0
    | cons f r =>
      rcases hm : may f with _ | _
      · have := need_rot h hm; omega
      · exact ⟨f, r, turned_may hm, h, hm, fun _ => rfl, rfl⟩
  | succ n ih =>
    intro fs hn h h0
    cases fs with
    | nil => exact absurd rfl h0
    | cons f r =>
      rcases hm : may f with _ | _
      · have hnr := need_rot h hm
        rcases ha : may (addq q f) with _ | _
        · obtain ⟨g, s, hg⟩ := ih (r ++ [addq q f]) (by omega) (rv_rot h hm) (by simp)
          exact ⟨g, s, by rw [turned_rot h hm ha]; exact hg.is, hg.rv, hg.may, fun x => (hg.w x).trans (w_rot (f' := addq q f) (rv_head h).2 rfl rfl x), hg.len.trans (by simp)⟩
        · exact ⟨addq q f, r, turned_add h hm ha, rv_cons (rv_tail h) (vf_addq h.q0 (rv_head h).1 hm) (rv_head h).2, ha, fun x => rfl, rfl⟩
      · exact ⟨f, r, turned_may hm, h, hm, fun _ => rfl, rfl⟩

/-! The next packet -/
def spend (f : Flw) (p : Pkt) (ws : List Pkt) : Flw := ⟨f.peer, f.dfc - p.size, ws⟩
def nxL (q : Int) (fs : List Flw) : List Flw := match turned q fs with
  | [] => []
  | f :: r => match f.ws with
    | [] => f :: r
    | p :: ws => if ws.length = 0 then r else if may (spend f p ws) = true then spend f p ws :: r else r ++ [spend f p ws]
def nxP (q : Int) (fs : List Flw) : Pkt := match turned q fs with
  | [] => ⟨0, 0, 0, 0⟩
  | f :: _ => match f.ws with
    | [] => ⟨0, 0, 0, 0⟩
    | p :: _ => p
structure Nexted (q : Int) (fs : List Flw) (f : Flw) (r : List Flw) (p : Pkt) (ws : List Pkt) : Prop where
  t : Turned q fs f r
  hw : f.ws = p :: ws
  le : p.size ≤ f.dfc
  s1 : 1 ≤ p.size
  s2 : p.size ≤ 100
  isP : nxP q fs = p
  isL : nxL q fs = if ws.length = 0 then r else if may (spend f p ws) = true then spend f p ws :: r else r ++ [spend f p ws]
  rv : RV q (nxL q fs)
  pp : p.peer = f.peer
theorem nexted_is {q : Int} {fs : List Flw} (h : RV q fs) (h0 : fs ≠ []) : ∃ f r p ws, Nexted q fs f r p ws := by
  obtain ⟨f, r, ht⟩ := turned_is _ fs (Nat.le_refl _) h h0
  have hv := (rv_head ht.rv).1
  obtain ⟨p, ws, hw, h1, h2, ho, hown, hpp⟩ := vf_wait hv
  have hm := ht.may
  rw [may_of hw, decide_eq_true_eq] at hm
  have eL : nxL q fs = if ws.length = 0 then r else if may (spend f p ws) = true then spend f p ws :: r else r ++ [spend f p ws] := by simp only [nxL, ht.is, hw]
  refine ⟨f, r, p, ws, ht, hw, hm, h1, h2, by simp only [nxP, ht.is, hw], eL, ?_, hpp⟩
  rw [eL]
  by_cases hz : ws.length = 0
  · rw [if_pos hz]; exact rv_tail ht.rv
  · have hs : VF q (spend f p ws) := ⟨hv.p0, hv.p7, by show 0 ≤ f.dfc - p.size; omega, by have := hv.d1; show f.dfc - p.size < q + 100; omega, by show 0 < ws.length; omega, ho, hown⟩
    rw [if_neg hz]
    split
    · exact rv_cons (rv_tail ht.rv) hs (rv_head ht.rv).2
    · exact rv_snoc (rv_tail ht.rv) hs fun g hg e => (rv_head ht.rv).2 g hg e.symm
theorem w_next {q : Int} {fs : List Flw} {f : Flw} {r : List Flw} {p : Pkt} {ws : List Pkt} (h : Nexted q fs f r p ws) (x : Int) : wOf fs x = if p.peer = x then p :: wOf (nxL q fs) x else wOf (nxL q fs) x := by
  rw [← h.t.w x, h.isL]
  have hp := (rv_head h.t.rv).2
  have hpp := h.pp
  have e : wOf (f :: r) x = if p.peer = x then p :: (if f.peer = x then ws else wOf r x) else wOf r x := by
    simp only [wOf, hpp]
    by_cases hx : f.peer = x
    · rw [if_pos hx, if_pos hx, if_pos hx, h.hw]
    · rw [if_neg hx, if_neg hx]
  rw [e]
  have er : f.peer = x → wOf r x = [] := fun hx => w_none fun g hg e => hp g hg (hx.trans e.symm)
  have e1 : wOf (spend f p ws :: r) x = if f.peer = x then ws else wOf r x := rfl
  by_cases hz : ws.length = 0
  · rw [if_pos hz]
    have hz' : ws = [] := List.eq_nil_of_length_eq_zero hz
    by_cases hx : f.peer = x
    · rw [if_pos (hpp.trans hx), if_pos (hpp.trans hx), if_pos hx, er hx, hz']
    · rw [if_neg (by rw [hpp]; exact hx), if_neg (by rw [hpp]; exact hx)]
  · rw [if_neg hz]
    have e2 : wOf (r ++ [spend f p ws]) x = if f.peer = x then ws else wOf r x := by
      rw [w_rot (f := spend f p ws) (f' := spend f p ws) (r := r) hp rfl rfl x]; exact e1
    rcases hm : may (spend f p ws) with _ | _
    · rw [if_neg (show ¬ false = true from Bool.false_ne_true), e2]
      by_cases hx : f.peer = x
      · rw [if_pos (hpp.trans hx), if_pos (hpp.trans hx), if_pos hx]
      · rw [if_neg (by rw [hpp]; exact hx), if_neg (by rw [hpp]; exact hx), if_neg hx]
    · rw [if_pos (show true = true from rfl), e1]
      by_cases hx : f.peer = x
      · rw [if_pos (hpp.trans hx), if_pos (hpp.trans hx), if_pos hx]
      · rw [if_neg (by rw [hpp]; exact hx), if_neg (by rw [hpp]; exact hx), if_neg hx]
def total : List Flw → Nat
  | [] => 0
  | f :: r => f.ws.length + total r
theorem total_append (a b : List Flw) : total (a ++ b) = total a + total b := by
  induction a with
  | nil => simp [total]
  | cons f r ih => simp only [List.cons_append, total, ih]; omega
theorem total_trn {q : Int} : ∀ (n : Nat) (fs : List Flw), total (trn q n fs) = total fs := by
  intro n
  induction n with
  | zero => intro fs; cases fs <;> rfl
  | succ n ih =>
    intro fs
    cases fs with
    | nil => rfl
    | cons f r =>
      simp only [trn]
      split
      · rfl
      · split
        · rfl
        · rw [ih, total_append]; simp only [total, addq]; omega
theorem total_next {q : Int} {fs : List Flw} {f : Flw} {r : List Flw} {p : Pkt} {ws : List Pkt} (h : Nexted q fs f r p ws) : total fs = total (nxL q fs) + 1 := by
  have e : total (turned q fs) = total fs := total_trn _ _
  rw [h.t.is] at e
  rw [h.isL, ← e]
  have : f.ws.length = ws.length + 1 := by rw [h.hw]; rfl
  split
  · simp only [total]; omega
  · split
    · simp only [total, spend]; omega
    · rw [total_append]; simp only [total, spend]; omega
theorem total_zero {q : Int} {fs : List Flw} (h : RV q fs) (h0 : total fs = 0) : fs = [] := by
  cases fs with
  | nil => rfl
  | cons f r => have := (rv_head h).1.n0; simp only [total] at h0; omega
theorem total_le {q : Int} {fs : List Flw} (h : RV q fs) : total fs ≤ 64 * fs.length := by
  induction fs with
  | nil => simp [total]
  | cons f r ih =>
    have := ih (rv_tail h)
    have := (ok_of (rv_head h).1.ok).1
    simp only [total, List.length_cons]; omega

/-! All, and as many as fit -/
def tkA (q : Int) : Nat → List Flw → List Pkt
  | 0, _ => []
  | _ + 1, [] => []
  | n + 1, f :: r => nxP q (f :: r) :: tkA q n (nxL q (f :: r))
def takeA (q : Int) (fs : List Flw) : List Pkt := tkA q (total fs) fs
def tkB (q : Int) : Nat → Int → List Flw → List Flw × List Pkt
  | 0, _, fs => (fs, [])
  | _ + 1, _, [] => ([], [])
  | n + 1, b, f :: r => if (nxP q (f :: r)).size ≤ b then ((tkB q n (b - (nxP q (f :: r)).size) (nxL q (f :: r))).1, nxP q (f :: r) :: (tkB q n (b - (nxP q (f :: r)).size) (nxL q (f :: r))).2) else (f :: r, [])
def takeB (q : Int) (b : Int) (fs : List Flw) : List Flw × List Pkt := tkB q (total fs) b fs
theorem takeA_nil (q : Int) : takeA q [] = [] := rfl
theorem takeA_cons {q : Int} {fs : List Flw} (h : RV q fs) (h0 : fs ≠ []) : takeA q fs = nxP q fs :: takeA q (nxL q fs) := by
  obtain ⟨f, r, p, ws, hn⟩ := nexted_is h h0
  have ht := total_next hn
  cases fs with
  | nil => exact absurd rfl h0
  | cons g s => unfold takeA; rw [ht]; rfl
theorem takeB_nil (q b : Int) : takeB q b [] = ([], []) := rfl
theorem takeB_yes {q b : Int} {fs : List Flw} (h : RV q fs) (h0 : fs ≠ []) (hb : (nxP q fs).size ≤ b) : takeB q b fs = ((takeB q (b - (nxP q fs).size) (nxL q fs)).1, nxP q fs :: (takeB q (b - (nxP q fs).size) (nxL q fs)).2) := by
  obtain ⟨f, r, p, ws, hn⟩ := nexted_is h h0
  have ht := total_next hn
  cases fs with
  | nil => exact absurd rfl h0
  | cons g s => unfold takeB; rw [ht]; simp only [tkB]; rw [if_pos hb]
theorem takeB_no {q b : Int} {fs : List Flw} (h : RV q fs) (h0 : fs ≠ []) (hb : ¬ (nxP q fs).size ≤ b) : takeB q b fs = (fs, []) := by
  obtain ⟨f, r, p, ws, hn⟩ := nexted_is h h0
  have ht := total_next hn
  cases fs with
  | nil => exact absurd rfl h0
  | cons g s => unfold takeB; rw [ht]; simp only [tkB]; rw [if_neg hb]
/-- by how many wait -/
theorem by_total {q : Int} {motive : List Flw → Prop} (hnil : motive []) (hnext : ∀ fs, RV q fs → fs ≠ [] → motive (nxL q fs) → motive fs) : ∀ fs, RV q fs → motive fs := by
  have key : ∀ (n : Nat) (fs : List Flw), total fs ≤ n → RV q fs → motive fs := by
    intro n
    induction n with
    | zero => intro fs hn h; rw [total_zero h (by omega)]; exact hnil
    | succ n ih =>
      intro fs hn h
      by_cases h0 : fs = []
      · rw [h0]; exact hnil
      · obtain ⟨f, r, p, ws, hx⟩ := nexted_is h h0
        exact hnext fs h h0 (ih _ (by have := total_next hx; omega) hx.rv)
  exact fun fs h => key _ fs (Nat.le_refl _) h
theorem takeA_len {q : Int} : ∀ fs, RV q fs → (takeA q fs).length = total fs := by
  refine by_total rfl fun fs h h0 ih => ?_
  obtain ⟨f, r, p, ws, hx⟩ := nexted_is h h0
  rw [takeA_cons h h0, List.length_cons, ih, total_next hx]
theorem takeA_peer {q : Int} (x : Int) : ∀ fs, RV q fs → ofPeer (takeA q fs) x = wOf fs x := by
  refine by_total rfl fun fs h h0 ih => ?_
  obtain ⟨f, r, p, ws, hx⟩ := nexted_is h h0
  rw [takeA_cons h h0, w_next hx x, hx.isP]
  by_cases hp : p.peer = x
  · rw [if_pos hp, ← ih]; simp [ofPeer, hp]
  · rw [if_neg hp, ← ih]; simp [ofPeer, hp]
theorem takeA_vld {q : Int} : ∀ fs, RV q fs → ∀ p ∈ takeA q fs, 1 ≤ p.size ∧ p.size ≤ 100 := by
  refine by_total (fun p hp => by simp [takeA_nil] at hp) fun fs h h0 ih => ?_
  obtain ⟨f, r, p, ws, hx⟩ := nexted_is h h0
  rw [takeA_cons h h0, hx.isP]
  intro x hm
  rcases List.mem_cons.1 hm with rfl | hm
  · exact ⟨hx.s1, hx.s2⟩
  · exact ih x hm
theorem sizeSum_cons (p : Pkt) (r : List Pkt) : sizeSum (p :: r) = p.size + sizeSum r := rfl
theorem takeA_sum {q : Int} : ∀ fs, RV q fs → sizeSum (takeA q fs) ≤ 100 * total fs ∧ 0 ≤ sizeSum (takeA q fs) := by
  refine by_total ⟨by simp [takeA_nil, sizeSum, total], by simp [takeA_nil, sizeSum]⟩ fun fs h h0 ih => ?_
  obtain ⟨f, r, p, ws, hx⟩ := nexted_is h h0
  rw [takeA_cons h h0, hx.isP, sizeSum_cons, total_next hx]
  have := hx.s1
  have := hx.s2
  omega
/-- with enough bytes, all are taken -/
theorem takeB_all {q : Int} : ∀ fs, RV q fs → ∀ b : Int, sizeSum (takeA q fs) ≤ b → takeB q b fs = ([], takeA q fs) := by
  refine by_total (fun b _ => rfl) fun fs h h0 ih => ?_
  obtain ⟨f, r, p, ws, hx⟩ := nexted_is h h0
  intro b hb
  rw [takeA_cons h h0, sizeSum_cons] at hb
  have := (takeA_sum _ hx.rv).2
  rw [takeB_yes h h0 (by omega), ih _ (by omega), takeA_cons h h0]
/-- what is taken is a beginning of all; the rest is valid; the bytes are enough, and not enough for one more -/
theorem takeB_part {q : Int} : ∀ fs, RV q fs → ∀ b : Int, RV q (takeB q b fs).1 ∧ takeA q fs = (takeB q b fs).2 ++ takeA q (takeB q b fs).1 ∧ (0 ≤ b → sizeSum (takeB q b fs).2 ≤ b) ∧
    ((takeB q b fs).1 ≠ [] → b < sizeSum (takeB q b fs).2 + (nxP q (takeB q b fs).1).size) := by
  intro fs hfs
  refine by_total (motive := fun fs => RV q fs → ∀ b : Int, RV q (takeB q b fs).1 ∧ takeA q fs = (takeB q b fs).2 ++ takeA q (takeB q b fs).1 ∧ (0 ≤ b → sizeSum (takeB q b fs).2 ≤ b) ∧
    ((takeB q b fs).1 ≠ [] → b < sizeSum (takeB q b fs).2 + (nxP q (takeB q b fs).1).size)) (fun h b => ⟨h, rfl, fun hb => hb, fun h => absurd rfl h⟩) (fun fs h h0 ih _ b => ?_) fs hfs hfs
  obtain ⟨f, r, p, ws, hx⟩ := nexted_is h h0
  by_cases hb : (nxP q fs).size ≤ b
  · obtain ⟨i1, i2, i3, i4⟩ := ih hx.rv (b - (nxP q fs).size)
    rw [takeB_yes h h0 hb]
    refine ⟨i1, by rw [takeA_cons h h0, i2]; rfl, fun h0 => ?_, fun hne => ?_⟩
    · have := i3 (by omega)
      dsimp only
      rw [sizeSum_cons]; omega
    · have := i4 hne
      dsimp only
      rw [sizeSum_cons]; omega
  · rw [takeB_no h h0 hb]
    refine ⟨h, rfl, fun h0 => h0, fun _ => ?_⟩
    show b < sizeSum [] + _
    simp only [sizeSum]; omega
theorem next_len {q : Int} {fs : List Flw} {f : Flw} {r : List Flw} {p : Pkt} {ws : List Pkt} (h : Nexted q fs f r p ws) : (nxL q fs).length = fs.length ∨ (nxL q fs).length + 1 = fs.length := by
  have := h.t.len
  rw [h.isL]
  simp only [List.length_cons] at this
  split
  · right; omega
  · split
    · left; simp; omega
    · left; simp; omega
end Go.Proofs.Ytkmoiphcpmhacaa
namespace Go.Proofs.Ytkmoiphcpmhacaa
open Go.RowKit

/-- a flow as its three cells say it -/
structure Fh where
  peer : Int
  dfc : Int
  A : Option Addr
  n : Nat
  c : Nat
def Fh.sl (h : Fh) : Value := .slice h.A h.n h.c
def fcells : List Fh → List Value
  | [] => []
  | h :: r => .int .i64 h.peer :: .int .i64 h.dfc :: .slice h.A h.n h.c :: fcells r
theorem fcells_len (hs : List Fh) : (fcells hs).length = hs.length * 3 := by
  induction hs with
  | nil => rfl
  | cons p r ih => simp only [fcells, List.length_cons, ih]; omega
theorem fcells_append (a b : List Fh) : fcells (a ++ b) = fcells a ++ fcells b := by
  induction a with
  | nil => rfl
  | cons p r ih => simp only [fcells, List.cons_append, ih]
theorem fcells_get (hs : List Fh) (k : Nat) (h : Fh) (e : hs[k]? = some h) :
    (fcells hs)[k * 3]? = some (.int .i64 h.peer) ∧ (fcells hs)[k * 3 + 1]? = some (.int .i64 h.dfc) ∧ (fcells hs)[k * 3 + 2]? = some (.slice h.A h.n h.c) := by
  induction hs generalizing k with
  | nil => simp at e
  | cons q r ih =>
    cases k with
    | zero =>
      simp only [List.getElem?_cons_zero, Option.some.injEq] at e
      subst e
      simp [fcells]
    | succ k =>
      have h' : r[k]? = some h := by simpa using e
      have := ih k h'
      have e : (k + 1) * 3 = k * 3 + 3 := by omega
      rw [e]
      simpa [fcells, Nat.add_right_comm] using this
theorem fcells_one (hs : List Fh) : ∀ u ∈ fcells hs, u.oneCell' = true := by
  induction hs with
  | nil => intro u hu; cases hu
  | cons p r ih =>
    intro u hu
    simp only [fcells, List.mem_cons] at hu
    rcases hu with rfl | rfl | rfl | hu
    · rfl
    · rfl
    · rfl
    · exact ih u hu
theorem fcells_set (hs : List Fh) (k : Nat) (h : Fh) : (((fcells hs).set (k * 3) (.int .i64 h.peer)).set (k * 3 + 1) (.int .i64 h.dfc)).set (k * 3 + 2) (.slice h.A h.n h.c) = fcells (hs.set k h) := by
  induction hs generalizing k with
  | nil => simp [fcells]
  | cons p r ih =>
    cases k with
    | zero => simp [fcells]
    | succ k =>
      have e : (k + 1) * 3 = k * 3 + 3 := by omega
      rw [e]
      simp only [fcells, List.set_cons_succ, Nat.add_right_comm _ 3, ← ih k]
theorem fcells_set1 (hs : List Fh) (k : Nat) (h : Fh) (x : Int) (e : hs[k]? = some h) : (fcells hs).set (k * 3 + 1) (.int .i64 x) = fcells (hs.set k ⟨h.peer, x, h.A, h.n, h.c⟩) := by
  induction hs generalizing k with
  | nil => simp [fcells]
  | cons p r ih =>
    cases k with
    | zero =>
      obtain rfl : p = h := by simpa using e
      simp [fcells]
    | succ k =>
      have e2 : (k + 1) * 3 = k * 3 + 3 := by omega
      rw [e2]
      simp only [fcells, List.set_cons_succ, Nat.add_right_comm _ 3, ← ih k (by simpa using e)]
theorem fcells_set2 (hs : List Fh) (k : Nat) (h : Fh) (A : Option Addr) (n c : Nat) (e : hs[k]? = some h) : (fcells hs).set (k * 3 + 2) (.slice A n c) = fcells (hs.set k ⟨h.peer, h.dfc, A, n, c⟩) := by
  induction hs generalizing k with
  | nil => simp [fcells]
  | cons p r ih =>
    cases k with
    | zero =>
      obtain rfl : p = h := by simpa using e
      simp [fcells]
    | succ k =>
      have e2 : (k + 1) * 3 = k * 3 + 3 := by omega
      rw [e2]
      simp only [fcells, List.set_cons_succ, Nat.add_right_comm _ 3, ← ih k (by simpa using e)]

def FhAt (w : World) (b o : Nat) (h : Fh) : Prop :=
  w.cell? ⟨b, o, none⟩ = some (.int .i64 h.peer) ∧ w.cell? ⟨b, o + 1, none⟩ = some (.int .i64 h.dfc) ∧ w.cell? ⟨b, o + 2, none⟩ = some (.slice h.A h.n h.c)
theorem fat_keep {w w' : World} {b o : Nat} {h : Fh} (e : FhAt w b o h) (hk : ∀ x, w'.cell? ⟨b, x, none⟩ = w.cell? ⟨b, x, none⟩) : FhAt w' b o h :=
  ⟨(hk _).trans e.1, (hk _).trans e.2.1, (hk _).trans e.2.2⟩
/-- the slice of n flows at A has the headers hs -/
def HR (w : World) (A : Option Addr) (n : Nat) (hs : List Fh) : Prop :=
  hs.length = n ∧ (0 < n → ∃ b off, A = some ⟨b, off, none⟩ ∧ b < w.heap.size ∧ ∀ (k : Nat) (h : Fh), hs[k]? = some h → FhAt w b (off + k * 3) h)
section
variable {w w' : World} {A : Option Addr} {n c : Nat} {hs : List Fh}
theorem hr_nil (w : World) (A : Option Addr) : HR w A 0 [] := ⟨rfl, fun h => absurd h (by omega)⟩
theorem hr_keep (h : HR w A n hs) (hz : w.heap.size ≤ w'.heap.size) (hk : ∀ b x, b < w.heap.size → A.map (·.block) = some b → w'.cell? ⟨b, x, none⟩ = w.cell? ⟨b, x, none⟩) : HR w' A n hs :=
  ⟨h.1, fun hn => by
    obtain ⟨b, off, rfl, hb, hc⟩ := h.2 hn
    exact ⟨b, off, rfl, Nat.lt_of_lt_of_le hb hz, fun k p hp => fat_keep (hc k p hp) fun x => hk b x hb rfl⟩⟩
theorem hr_below (h : HR w A n hs) (hb : Below w.heap.size w w') : HR w' A n hs := hr_keep h hb.size fun b x hlt _ => (bcell hb).1 b x hlt
theorem hr_alloc (h : HR w A n hs) (o : Obj) : HR (w.alloc o) A n hs := hr_below h (below_alloc (Below.refl _ _) o)
theorem hr_drewN (h : HR w A n hs) (k : Nat) : HR (w.drewN k) A n hs := h
theorem hr_at {k : Nat} (h : HR w A n hs) (hk : k < n) : ∃ b off p, A = some ⟨b, off, none⟩ ∧ b < w.heap.size ∧ hs[k]? = some p ∧ FhAt w b (off + k * 3) p := by
  obtain ⟨b, off, e, hb, hc⟩ := h.2 (by omega)
  have hl : k < hs.length := by have := h.1; omega
  exact ⟨b, off, hs[k], e, hb, List.getElem?_eq_getElem hl, hc k _ (List.getElem?_eq_getElem hl)⟩
theorem hr_own {base : Nat} {e : TypeId} (h : w.ownsRow base e 3 (.slice A n c) n (fcells hs)) : HR w A n hs := by
  have hl : hs.length = n := by have := h.1; rw [fcells_len] at this; omega
  refine ⟨hl, fun hn => ?_⟩
  obtain ⟨g, cap, hv, _, hlt⟩ := h.form hn
  have hA : A = some ⟨g, 0, none⟩ := by injection hv
  subst hA
  refine ⟨g, 0, rfl, hlt, fun k p hp => ?_⟩
  have hc := h.cells (g := g) rfl
  have hg := fcells_get hs k p hp
  have ha : ∀ j, (⟨g, 0, none⟩ : Addr).add j = ⟨g, j, none⟩ := fun j => by unfold Addr.add; split <;> simp_all
  simp only [ha] at hc
  rw [Nat.zero_add]
  exact ⟨hc _ _ hg.1, hc _ _ hg.2.1, hc _ _ hg.2.2⟩
theorem hr_take (h : HR w A n hs) {k : Nat} (hk : k ≤ n) : HR w A k (hs.take k) :=
  ⟨by rw [List.length_take, h.1]; omega, fun hn => by
    obtain ⟨b, off, e, hb, hc⟩ := h.2 (by omega)
    exact ⟨b, off, e, hb, fun j p hp => hc j p (by
      rw [List.getElem?_take] at hp
      split at hp
      · exact hp
      · cases hp)⟩⟩
theorem hr_drop (h : HR w A n hs) {k : Nat} (hk : k ≤ n) (hc : n ≤ c) : HR w (if c = k then A else A.map (·.add (k * 3))) (n - k) (hs.drop k) := by
  refine ⟨by rw [List.length_drop, h.1], fun hn => ?_⟩
  obtain ⟨b, off, rfl, hb, hcell⟩ := h.2 (by omega)
  rw [if_neg (by omega)]
  refine ⟨b, off + k * 3, ?_, hb, fun j p hp => ?_⟩
  · simp only [Option.map_some, Addr.add]
    split
    · rw [show k * 3 = 0 from by assumption, Nat.add_zero]
    · rfl
  · have := hcell (k + j) p (by rw [← hp, List.getElem?_drop])
    rw [show off + k * 3 + j * 3 = off + (k + j) * 3 from by omega]
    exact this
theorem hr_old (h : HR w A n hs) : 0 < n → ∀ b, A.map (·.block) = some b → b < w.heap.size := fun hn b hb => by
  obtain ⟨b', off, rfl, hlt, _⟩ := h.2 hn
  obtain rfl : b' = b := by simpa using hb
  exact hlt
theorem hr_grown {row : Option Nat} (h : HR w A n hs) (hg : w.grownBy w' row) (hne : 0 < n → ∀ b, A.map (·.block) = some b → some b ≠ row) : HR w' A n hs :=
  ⟨h.1, fun hn => by
    obtain ⟨b, off, rfl, hb, hc⟩ := h.2 hn
    exact ⟨b, off, rfl, Nat.lt_of_lt_of_le hb hg.size, fun k q hq => fat_keep (hc k q hq) fun x => hg.cell_far ⟨b, x, none⟩ hb (hne hn b rfl)⟩⟩
end
/-- the packets behind the headers: all of them in blocks that X names -/
structure WH (w : World) (X : Nat → Prop) (h : Fh) (f : Flw) : Prop where
  peer : h.peer = f.peer
  dfc : h.dfc = f.dfc
  pr : PR w h.A h.n f.ws
  cap : h.n ≤ h.c
  few : h.n ≤ 4000000000
  far : 0 < h.n → ∀ b, h.A.map (·.block) = some b → X b
def WL (w : World) (X : Nat → Prop) (hs : List Fh) (fs : List Flw) : Prop := hs.length = fs.length ∧ ∀ (k : Nat) (h : Fh) (f : Flw), hs[k]? = some h → fs[k]? = some f → WH w X h f
section
variable {w w' : World} {X Y : Nat → Prop} {hs : List Fh} {fs : List Flw}
theorem wh_grown {h : Fh} {f : Flw} {row : Option Nat} (e : WH w X h f) (hg : w.grownBy w' row) (hx : ∀ b, X b → some b ≠ row) : WH w' X h f :=
  ⟨e.peer, e.dfc, pr_grown e.pr hg fun hn b hb => hx b (e.far hn b hb), e.cap, e.few, e.far⟩
theorem wl_grown {row : Option Nat} (e : WL w X hs fs) (hg : w.grownBy w' row) (hx : ∀ b, X b → some b ≠ row) : WL w' X hs fs := ⟨e.1, fun k h f h1 h2 => wh_grown (e.2 k h f h1 h2) hg hx⟩
theorem wh_below {h : Fh} {f : Flw} (e : WH w X h f) (hb : Below w.heap.size w w') : WH w' X h f := ⟨e.peer, e.dfc, pr_below e.pr hb, e.cap, e.few, e.far⟩
theorem wl_below (e : WL w X hs fs) (hb : Below w.heap.size w w') : WL w' X hs fs := ⟨e.1, fun k h f h1 h2 => wh_below (e.2 k h f h1 h2) hb⟩
theorem wl_mono (e : WL w X hs fs) (hx : ∀ b, X b → Y b) : WL w Y hs fs := ⟨e.1, fun k h f h1 h2 => by have := e.2 k h f h1 h2; exact ⟨this.peer, this.dfc, this.pr, this.cap, this.few, fun hn b hb => hx b (this.far hn b hb)⟩⟩
/-- blocks that are there -/
theorem wl_old (e : WL w X hs fs) : WL w (fun b => b < w.heap.size) hs fs := ⟨e.1, fun k h f h1 h2 => by have := e.2 k h f h1 h2; exact ⟨this.peer, this.dfc, this.pr, this.cap, this.few, pr_old this.pr⟩⟩
theorem wl_get {k : Nat} {h : Fh} (e : WL w X hs fs) (hk : hs[k]? = some h) : ∃ f, fs[k]? = some f ∧ WH w X h f := by
  have hl : k < hs.length := by
    rcases Nat.lt_or_ge k hs.length with hl | hl
    · exact hl
    · rw [List.getElem?_eq_none hl] at hk; cases hk
  have hl2 : k < fs.length := by rw [← e.1]; exact hl
  exact ⟨fs[k], List.getElem?_eq_getElem hl2, e.2 k h _ hk (List.getElem?_eq_getElem hl2)⟩
theorem wl_nil : WL w X [] [] := ⟨rfl, fun k h f h1 => by simp at h1⟩
theorem wl_snoc {h : Fh} {f : Flw} (e : WL w X hs fs) (n : WH w X h f) : WL w X (hs ++ [h]) (fs ++ [f]) :=
  ⟨by simp [e.1], fun k g i h1 h2 => by
    rcases Nat.lt_or_ge k hs.length with hl | hl
    · rw [List.getElem?_append_left hl] at h1
      rw [List.getElem?_append_left (by rw [← e.1]; exact hl)] at h2
      exact e.2 k g i h1 h2
    · rw [List.getElem?_append_right hl] at h1
      rw [List.getElem?_append_right (by rw [← e.1]; exact hl), ← e.1] at h2
      have h0 : k - hs.length = 0 := by
        rcases Nat.eq_zero_or_pos (k - hs.length) with e | e
        · exact e
        · rw [List.getElem?_eq_none (by simp; omega)] at h1; cases h1
      rw [h0] at h1 h2
      obtain rfl : h = g := by simpa using h1
      obtain rfl : f = i := by simpa using h2
      exact n⟩
theorem wl_cons {h : Fh} {f : Flw} (e : WL w X hs fs) (n : WH w X h f) : WL w X (h :: hs) (f :: fs) :=
  ⟨by simp [e.1], fun k g i h1 h2 => by
    cases k with
    | zero =>
      obtain rfl : h = g := by simpa using h1
      obtain rfl : f = i := by simpa using h2
      exact n
    | succ k => exact e.2 k g i (by simpa using h1) (by simpa using h2)⟩
theorem wl_head {h : Fh} {f : Flw} (e : WL w X (h :: hs) (f :: fs)) : WH w X h f ∧ WL w X hs fs :=
  ⟨e.2 0 h f rfl rfl, by simpa using e.1, fun k g i h1 h2 => e.2 (k + 1) g i (by simpa using h1) (by simpa using h2)⟩
theorem wl_set {k : Nat} {h : Fh} {f : Flw} (e : WL w X hs fs) (n : WH w X h f) : WL w X (hs.set k h) (fs.set k f) :=
  ⟨by simp [e.1], fun j g i h1 h2 => by
    by_cases hj : k = j
    · subst hj
      rw [List.getElem?_set] at h1 h2
      rw [if_pos rfl] at h1 h2
      split at h1
      · split at h2
        · obtain rfl : h = g := by simpa using h1
          obtain rfl : f = i := by simpa using h2
          exact n
        · cases h2
      · cases h1
    · rw [List.getElem?_set_ne hj] at h1 h2
      exact e.2 j g i h1 h2⟩
theorem wl_erase (e : WL w X hs fs) (k : Nat) : WL w X (hs.eraseIdx k) (fs.eraseIdx k) :=
  ⟨by rw [List.length_eraseIdx, List.length_eraseIdx, e.1], fun j g i h1 h2 => by
    rw [List.getElem?_eraseIdx] at h1 h2
    split at h1
    · rename_i hl; rw [if_pos hl] at h2; exact e.2 j g i h1 h2
    · rename_i hl; rw [if_neg hl] at h2; exact e.2 (j + 1) g i h1 h2⟩
theorem wl_take (e : WL w X hs fs) (k : Nat) : WL w X (hs.take k) (fs.take k) :=
  ⟨by rw [List.length_take, List.length_take, e.1], fun j g i h1 h2 => by
    rw [List.getElem?_take] at h1 h2
    split at h1
    · rename_i hl; rw [if_pos hl] at h2; exact e.2 j g i h1 h2
    · cases h1⟩
theorem wl_drop (e : WL w X hs fs) (k : Nat) : WL w X (hs.drop k) (fs.drop k) :=
  ⟨by rw [List.length_drop, List.length_drop, e.1], fun j g i h1 h2 => by
    rw [List.getElem?_drop] at h1 h2
    exact e.2 (k + j) g i h1 h2⟩
end
/-- the slice of n flows at A reads as fs -/
def FR (w : World) (A : Option Addr) (n : Nat) (fs : List Flw) : Prop := ∃ hs, HR w A n hs ∧ WL w (fun b => b < w.heap.size) hs fs ∧ n ≤ 4000000000
section
variable {w w' : World} {A : Option Addr} {n c : Nat} {fs : List Flw}
theorem fr_nilF (w : World) (A : Option Addr) : FR w A 0 [] := ⟨[], hr_nil _ _, wl_nil, by omega⟩
theorem fr_belowF (h : FR w A n fs) (hb : Below w.heap.size w w') : FR w' A n fs := by
  obtain ⟨hs, h1, h2, h3⟩ := h
  exact ⟨hs, hr_below h1 hb, wl_mono (wl_below h2 hb) fun b hlt => Nat.lt_of_lt_of_le hlt hb.size, h3⟩
theorem fr_allocF (h : FR w A n fs) (o : Obj) : FR (w.alloc o) A n fs := fr_belowF h (below_alloc (Below.refl _ _) o)
theorem fr_drewNF (h : FR w A n fs) (k : Nat) : FR (w.drewN k) A n fs := fr_belowF h (below_drewN (Below.refl _ _) k)
theorem fr_drewF (h : FR w A n fs) : FR w.drew A n fs := fr_belowF h (Below.refl _ _).drew
theorem fr_lenF (h : FR w A n fs) : fs.length = n ∧ n ≤ 4000000000 := by
  obtain ⟨hs, h1, h2, h3⟩ := h
  exact ⟨by rw [← h2.1]; exact h1.1, h3⟩
/-- one flow is read -/
theorem fr_at {k : Nat} (h : FR w A n fs) (hk : k < n) : ∃ b off f g, A = some ⟨b, off, none⟩ ∧ b < w.heap.size ∧ fs[k]? = some f ∧ FhAt w b (off + k * 3) g ∧ g.peer = f.peer ∧ g.dfc = f.dfc ∧ PR w g.A g.n f.ws ∧ g.n ≤ g.c ∧ g.n ≤ 4000000000 := by
  obtain ⟨hs, h1, h2, h3⟩ := h
  obtain ⟨b, off, g, e, hb, hg, hat⟩ := hr_at h1 hk
  obtain ⟨f, hf, hw⟩ := wl_get h2 hg
  exact ⟨b, off, f, g, e, hb, hf, hat, hw.peer, hw.dfc, hw.pr, hw.cap, hw.few⟩
/-- the same, in cells -/
theorem fr_cells {k : Nat} (h : FR w A n fs) (hk : k < n) : ∃ b off f A1 n1 c1, A = some ⟨b, off, none⟩ ∧ b < w.heap.size ∧ fs[k]? = some f ∧ w.cell? ⟨b, off + k * 3, none⟩ = some (.int .i64 f.peer) ∧ w.cell? ⟨b, off + k * 3 + 1, none⟩ = some (.int .i64 f.dfc) ∧ w.cell? ⟨b, off + k * 3 + 2, none⟩ = some (.slice A1 n1 c1) ∧ PR w A1 n1 f.ws ∧ n1 ≤ c1 ∧ n1 ≤ 4000000000 := by
  obtain ⟨b, off, f, g, e, hb, hf, ⟨c0, c1, c2⟩, h1, h2, h3, h4, h5⟩ := fr_at h hk
  exact ⟨b, off, f, g.A, g.n, g.c, e, hb, hf, by rw [← h1]; exact c0, by rw [← h2]; exact c1, c2, h3, h4, h5⟩
end
/-- the same, with the blocks in which the row and the packets may lie -/
def FRX (w : World) (X : Nat → Prop) (A : Option Addr) (n : Nat) (fs : List Flw) : Prop := ∃ hs, HR w A n hs ∧ (0 < n → ∀ b, A.map (·.block) = some b → X b) ∧ WL w X hs fs ∧ n ≤ 4000000000
section
variable {w w' : World} {X Y : Nat → Prop} {A : Option Addr} {n : Nat} {fs : List Flw}
theorem frx_fr (h : FRX w X A n fs) : FR w A n fs := by
  obtain ⟨hs, h1, -, h3, h4⟩ := h
  exact ⟨hs, h1, wl_old h3, h4⟩
theorem fr_frx (h : FR w A n fs) : FRX w (fun b => b < w.heap.size) A n fs := by
  obtain ⟨hs, h1, h2, h3⟩ := h
  exact ⟨hs, h1, hr_old h1, h2, h3⟩
theorem frx_mono (h : FRX w X A n fs) (hx : ∀ b, X b → Y b) : FRX w Y A n fs := by
  obtain ⟨hs, h1, h2, h3, h4⟩ := h
  exact ⟨hs, h1, fun hn b hb => hx b (h2 hn b hb), wl_mono h3 hx, h4⟩
theorem frx_below (h : FRX w X A n fs) (hb : Below w.heap.size w w') : FRX w' X A n fs := by
  obtain ⟨hs, h1, h2, h3, h4⟩ := h
  exact ⟨hs, hr_below h1 hb, h2, wl_below h3 hb, h4⟩
theorem frx_alloc (h : FRX w X A n fs) (o : Obj) : FRX (w.alloc o) X A n fs := frx_below h (below_alloc (Below.refl _ _) o)
theorem frx_drew (h : FRX w X A n fs) : FRX w.drew X A n fs := frx_below h (Below.refl _ _).drew
theorem frx_grown {row : Option Nat} (h : FRX w X A n fs) (hg : w.grownBy w' row) (hx : ∀ b, X b → some b ≠ row) : FRX w' X A n fs := by
  obtain ⟨hs, h1, h2, h3, h4⟩ := h
  exact ⟨hs, hr_grown h1 hg fun hn b hb => hx b (h2 hn b hb), h2, wl_grown h3 hg hx, h4⟩
theorem frx_set (h : FRX w X A n fs) {p : Addr} (hp : ¬ X p.block) (u : Value) : FRX (w.setCell p u) X A n fs :=
  frx_grown h (g_set (g_refl w (some p.block)) (.inl rfl) u) fun b hb e => hp (by injection e with e; rw [← e]; exact hb)
end
/-- flows that a call owns, each with its packets -/
structure DO (w : World) (lo : Nat) (v : Value) (n : Nat) (hs : List Fh) (fs : List Flw) : Prop where
  row : w.ownsRow lo 82 3 v n (fcells hs)
  len : hs.length = fs.length
  all : ∀ (k : Nat) (h : Fh) (f : Flw), hs[k]? = some h → fs[k]? = some f → h.peer = f.peer ∧ h.dfc = f.dfc ∧ h.n ≤ 4000000000 ∧ w.ownsRow lo 29 4 h.sl h.n (pcells f.ws) ∧ (∀ b, h.sl.ownBlock = some b → v.ownBlock ≠ some b)
  apart : ∀ (i j : Nat) (h g : Fh), i ≠ j → hs[i]? = some h → hs[j]? = some g → ∀ b, h.sl.ownBlock = some b → g.sl.ownBlock ≠ some b
theorem do_nil (w : World) (lo : Nat) : DO w lo (.slice none 0 0) 0 [] [] := ⟨World.ownsRow_nil _ _ _ _, rfl, fun k h f e => by simp at e, fun i j h g _ e => by simp at e⟩
theorem do_fr {w : World} {lo : Nat} {A : Option Addr} {n c : Nat} {hs : List Fh} {fs : List Flw} (h : DO w lo (.slice A n c) n hs fs) (hn : n ≤ 4000000000) : FR w A n fs := by
  refine ⟨hs, hr_own h.row, ⟨h.len, fun k g f h1 h2 => ?_⟩, hn⟩
  obtain ⟨e1, e2, e3, e4, _⟩ := h.all k g f h1 h2
  have hp := pr_own (A := g.A) (n := g.n) (c := g.c) e4
  obtain ⟨A', c', hv, hc, _, _⟩ := own_form e4
  obtain ⟨-, -, rfl⟩ : g.A = A' ∧ True ∧ g.c = c' := by unfold Fh.sl at hv; injection hv with a1 a2 a3; exact ⟨a1, trivial, a3⟩
  exact ⟨e1, e2, hp, hc, e3, pr_old hp⟩
theorem do_below {w w' : World} {lo : Nat} {v : Value} {n : Nat} {hs : List Fh} {fs : List Flw} (h : DO w lo v n hs fs) (hb : Below w.heap.size w w') : DO w' lo v n hs fs :=
  ⟨own_below h.row hb, h.len, fun k g f h1 h2 => by
    obtain ⟨e1, e2, e3, e4, e5⟩ := h.all k g f h1 h2
    exact ⟨e1, e2, e3, own_below e4 hb, e5⟩, h.apart⟩
theorem do_alloc {w : World} {lo : Nat} {v : Value} {n : Nat} {hs : List Fh} {fs : List Flw} (h : DO w lo v n hs fs) (o : Obj) : DO (w.alloc o) lo v n hs fs := do_below h (below_alloc (Below.refl _ _) o)
theorem do_mono {w : World} {lo lo2 : Nat} {v : Value} {n : Nat} {hs : List Fh} {fs : List Flw} (h : DO w lo v n hs fs) (hl : lo2 ≤ lo) : DO w lo2 v n hs fs :=
  ⟨own_mono h.row hl, h.len, fun k g f h1 h2 => by
    obtain ⟨e1, e2, e3, e4, e5⟩ := h.all k g f h1 h2
    exact ⟨e1, e2, e3, own_mono e4 hl, e5⟩, h.apart⟩
/-- a store elsewhere -/
theorem do_far {w : World} {lo : Nat} {v : Value} {n : Nat} {hs : List Fh} {fs : List Flw} (h : DO w lo v n hs fs) {p : Addr} (hp : p.block < lo) (u : Value) : DO (w.setCell p u) lo v n hs fs :=
  ⟨own_set_far h.row hp u, h.len, fun k g f h1 h2 => by
    obtain ⟨e1, e2, e3, e4, e5⟩ := h.all k g f h1 h2
    exact ⟨e1, e2, e3, own_set_far e4 hp u, e5⟩, h.apart⟩
/-- other blocks turn -/
theorem do_grown {w w' : World} {lo : Nat} {v : Value} {n : Nat} {hs : List Fh} {fs : List Flw} {row : Option Nat} (h : DO w lo v n hs fs) (hg : w.grownBy w' row) (h0 : ∀ b, row = some b → v.ownBlock ≠ some b) (h1 : ∀ (k : Nat) (g : Fh), hs[k]? = some g → ∀ b, row = some b → g.sl.ownBlock ≠ some b) : DO w' lo v n hs fs := by
  have key : ∀ {u : Value} {e : TypeId} {s m : Nat} {xs : List Value}, w.ownsRow lo e s u m xs → (∀ b, row = some b → u.ownBlock ≠ some b) → w'.ownsRow lo e s u m xs := by
    intro u e s m xs ho hu
    refine ho.kept hg ?_
    rcases hub : u.ownBlock with _ | b
    · exact .inl rfl
    · right
      intro e
      exact hu b (by rw [← e]) hub
  exact ⟨key h.row h0, h.len, fun k g f e1 e2 => by
    obtain ⟨a1, a2, a3, a4, a5⟩ := h.all k g f e1 e2
    exact ⟨a1, a2, a3, key a4 (h1 k g e1), a5⟩, h.apart⟩
end Go.Proofs.Ytkmoiphcpmhacaa
namespace Go.Proofs.Ytkmoiphcpmhacaa
open Go.RowKit

theorem blk_two {w : World} {b : Nat} {t : TypeId} {x y : Value} (h : Blk w b t #[x, y]) : w.cell? ⟨b, 0, none⟩ = some x ∧ w.cell? ⟨b, 1, none⟩ = some y ∧ w.frozen? ⟨b, 0, none⟩ = false ∧ w.frozen? ⟨b, 1, none⟩ = false :=
  ⟨blk_cell h 0, blk_cell h 1, blk_free h 0, blk_free h 1⟩
theorem blk_three {w : World} {b : Nat} {t : TypeId} {x y z : Value} (h : Blk w b t #[x, y, z]) : (w.cell? ⟨b, 0, none⟩ = some x ∧ w.cell? ⟨b, 1, none⟩ = some y ∧ w.cell? ⟨b, 2, none⟩ = some z) ∧ w.frozen? ⟨b, 0, none⟩ = false ∧ w.frozen? ⟨b, 1, none⟩ = false ∧ w.frozen? ⟨b, 2, none⟩ = false :=
  ⟨⟨blk_cell h 0, blk_cell h 1, blk_cell h 2⟩, blk_free h 0, blk_free h 1, blk_free h 2⟩
theorem fm_one (w : World) (t : TypeId) (cs : Array Value) : Fm w [⟨w.heap.size, w.heap.size + 1, BoxP w.heap.size t cs⟩] (w.alloc (.cells cs t)) := fm_box (fm_zero w) t cs
theorem fm_push {w w1 : World} {L : List Iv} (h : Fm w L w1) {s : Nat} (hs : w1.heap.size = s) (t : TypeId) (cs : Array Value) : Fm w (L ++ [⟨s, s + 1, BoxP s t cs⟩]) (w1.alloc (.cells cs t)) := by subst hs; exact fm_box h t cs
theorem fm_two (w : World) (t t2 : TypeId) (cs cs2 : Array Value) : Fm w [⟨w.heap.size, w.heap.size + 1, BoxP w.heap.size t cs⟩, ⟨w.heap.size + 1, w.heap.size + 2, BoxP (w.heap.size + 1) t2 cs2⟩] ((w.alloc (.cells cs t)).alloc (.cells cs2 t2)) := fm_push (fm_one w t cs) (by simp) t2 cs2
theorem fm_three (w : World) (t t2 t3 : TypeId) (cs cs2 cs3 : Array Value) : Fm w [⟨w.heap.size, w.heap.size + 1, BoxP w.heap.size t cs⟩, ⟨w.heap.size + 1, w.heap.size + 2, BoxP (w.heap.size + 1) t2 cs2⟩, ⟨w.heap.size + 2, w.heap.size + 3, BoxP (w.heap.size + 2) t3 cs3⟩] (((w.alloc (.cells cs t)).alloc (.cells cs2 t2)).alloc (.cells cs3 t3)) := fm_push (fm_two w t t2 cs cs2) (by simp) t3 cs3
/-- a store into a box -/
theorem fm_cell {w w1 : World} {L : List Iv} {a b g : Nat} {t : TypeId} {cs : Array Value} (h : Fm w L w1) (i : Nat) (hi : L[i]? = some ⟨a, b, BoxP g t cs⟩) (hg : a ≤ g ∧ g < b) (k : Nat) (u : Value) : Fm w (L.set i ⟨a, b, BoxP g t (cs.setIfInBounds k u)⟩) (w1.setCell ⟨g, k, none⟩ u) := by
  have hk := al_get i h.al hi
  refine fm_put h i hi (chg_grown (g_set (g_refl w1 (some g)) (.inl rfl) u) fun x e => by injection e with e; omega) ?_
  have hb := blk_set (show Blk w1 g t cs from fm_blk h i hi) k u
  exact at_mono (at_box hb) hg.1 (by omega) (by have := hk.1.fit; simpa using this)
set_option maxHeartbeats 1000000 in
theorem mayI_any (x d : Int) (ws : List Pkt) (A : Option Addr) (n c : Nat) (w : World) (h : PR w A n ws) (h0 : 0 < n) (hn : n ≤ 4000000000) :
    Calls Try.prog 98 #[.agg #[.int .i64 x, .int .i64 d, (.slice A n c)]] w fun e w' => e = .returned (.bool (may ⟨x, d, ws⟩)) ∧ Below w.heap.size w w' := by
  obtain ⟨b, off, p, rfl, hb, hp, c0, c1, c2, c3⟩ := pr_at h h0
  simp only [Nat.zero_mul, Nat.add_zero] at c0 c1 c2 c3
  have Q : Hid (may ⟨x, d, ws⟩ = decide (p.size ≤ d)) := Lib.hid (by
    cases ws with
    | nil => simp at hp
    | cons q r =>
      obtain rfl : q = p := by simpa using hp
      rfl)
  have B0 := Lib.hid (below_alloc (Below.refl w.heap.size w) (.cells #[.int .i64 x, .int .i64 d, (.slice (some ⟨b, off, none⟩) n c)] 82))
  have n0 : (0 : Int) < (n : Int) := by omega
  clear h hp
  go_enter Try.func98, Try.ntmps98
  go_wp2_with fail
  go_quiet (fail)
  go_wp2
  go_ret
  exact ⟨ret_bool Q.out.symm, below_drewN B0.out _⟩
def plN (fs : List Flw) (x : Int) : Int := if fix fs x < fs.length then (fix fs x : Int) else -1
def PlRel (w : World) (fs : List Flw) (x : Int) (n : Nat) (i : Value) (wr : World) : Prop :=
  ∃ k : Nat, k ≤ n ∧ i = .int .i64 (k : Int) ∧ (∀ j g, j < k → fs[j]? = some g → ¬ g.peer = x) ∧ Below w.heap.size w wr
theorem pl_here {fs : List Flw} {x : Int} {k : Nat} {f : Flw} (hf : fs[k]? = some f) (hx : f.peer = x) (hb : ∀ j g, j < k → fs[j]? = some g → ¬ g.peer = x) : (k : Int) = plN fs x := by
  have e := fix_eq hf hx hb
  have hlt : k < fs.length := by
    rcases Nat.lt_or_ge k fs.length with h | h
    · exact h
    · rw [List.getElem?_eq_none h] at hf; cases hf
  unfold plN
  rw [e, if_pos hlt]
theorem pl_no {fs : List Flw} {x : Int} (hb : ∀ j g, j < fs.length → fs[j]? = some g → ¬ g.peer = x) : -1 = plN fs x := by
  unfold plN
  rw [if_neg]
  intro hlt
  obtain ⟨f, hf, hx⟩ := fix_lt hlt
  exact hb _ f hlt hf hx
theorem pl_step {fs : List Flw} {x : Int} {k : Nat} {f : Flw} (h : ∀ j g, j < k → fs[j]? = some g → ¬ g.peer = x) (hf : fs[k]? = some f) (hx : ¬ f.peer = x) : ∀ j g, j < k + 1 → fs[j]? = some g → ¬ g.peer = x := by
  intro j g hj hg
  by_cases e : j = k
  · subst e
    rw [hf] at hg
    rw [← Option.some.inj hg]; exact hx
  · exact h j g (by omega) hg
set_option maxHeartbeats 1000000 in
theorem placeI_any (q : Int) (A : Option Addr) (n c : Nat) (fs : List Flw) (x : Int) (w : World) (h : FR w A n fs) :
    Calls Try.prog 103 #[.agg #[.int .i64 q, (.slice A n c)], .int .i64 x] w fun e w' => e = .returned (.int .i64 (plN fs x)) ∧ Below w.heap.size w w' := by
  have H := Lib.hid h
  have HL := Lib.hid (fr_lenF h)
  have R0 : Hid (PlRel w fs x n (.int .i64 0) (w.alloc (.cells #[.int .i64 q, (.slice A n c)] 37))) := Lib.hid ⟨0, Nat.zero_le _, rfl, fun j g hj => absurd hj (by omega), below_alloc (Below.refl _ _) _⟩
  have n4 : n ≤ 4000000000 := HL.out.2
  clear h
  go_enter Try.func103, Try.ntmps103
  go_wp2
  go_loopw [10] (fun i wr => PlRel w fs x n i wr) (fun i _ => n - (intOf i).toNat)
  case atStart => exact R0.out
  case round =>
    obtain ⟨k, hk, rfl, hall, hbl⟩ := hrel
    have HA := Lib.hid hall
    have HB := Lib.hid hbl
    clear R0 hall
    by_cases hlt : k < n
    · obtain ⟨b, off, f, A1, n1, c1', rfl, hb, hf, c0, c1, c2, -⟩ := fr_cells (fr_belowF H.out hbl) hlt
      have HF := Lib.hid hf
      clear hf hbl
      by_cases hx : f.peer = x
      · have hxb : (f.peer == x) = true := by simp [hx]
        have HE := Lib.hid (pl_here HF.out hx HA.out)
        clear hx
        go_wp2
        go_ret
        exact ⟨ret_int HE.out, below_alloc HB.out _⟩
      · have hxb : (f.peer == x) = false := by simp [hx]
        have HX := Lib.hid hx
        clear hx
        go_wp2
        go_roundw
        case rel => exact ⟨k + 1, by omega, by go_num, pl_step HA.out HF.out HX.out, below_alloc HB.out _⟩
        case measure => simp [intOf]; omega
    · obtain rfl : k = n := by omega
      have HE := Lib.hid (pl_no (x := x) fun j g hj hg => HA.out j g (by have := HL.out.1; omega) hg)
      clear hbl
      go_wp2
      go_ret
      exact ⟨ret_int HE.out, HB.out⟩
def FnRel (w : World) (q : Int) (A : Option Addr) (c : Nat) (fs : List Flw) (x : Int) (n : Nat) (i : Value) (wr : World) : Prop :=
  ∃ k : Nat, k ≤ n ∧ i = .int .i64 (k : Int) ∧ (∀ j g, j < k → fs[j]? = some g → ¬ g.peer = x) ∧ Fm w [⟨w.heap.size, w.heap.size + 1, BoxP w.heap.size 37 #[.int .i64 q, (.slice A n c)]⟩] wr
set_option maxHeartbeats 1000000 in
theorem findS_any (q : Int) (A : Option Addr) (n c : Nat) (fs : List Flw) (x : Int) (w : World) (h : FR w A n fs) :
    Calls Try.prog 106 #[.agg #[.int .i64 q, (.slice A n c)], .int .i64 x] w fun e w' => e = .returned (.int .i64 (plN fs x)) ∧ Below w.heap.size w w' := by
  have H := Lib.hid h
  have HL := Lib.hid (fr_lenF h)
  have R0 : Hid (FnRel w q A c fs x n (.int .i64 0) (w.alloc (.cells #[.int .i64 q, (.slice A n c)] 37))) := Lib.hid ⟨0, Nat.zero_le _, rfl, fun j g hj => absurd hj (by omega), fm_box (fm_zero w) _ _⟩
  have n4 : n ≤ 4000000000 := HL.out.2
  clear h
  go_enter Try.func106, Try.ntmps106
  go_wp2
  go_loopw [5] (fun i wr => FnRel w q A c fs x n i wr) (fun i _ => n - (intOf i).toNat)
  case atStart => exact R0.out
  case round =>
    obtain ⟨k, hk, rfl, hall, hF⟩ := hrel
    have HA := Lib.hid hall
    have HF0 := Lib.hid hF
    obtain ⟨q0, q1, -⟩ := blk_two (fm_blk hF 0 rfl)
    have hbl := hF.below
    clear R0 hall hF
    by_cases hlt : k < n
    · obtain ⟨b, off, f, A1, n1, c1', rfl, hb, hf, c0, c1, c2, -⟩ := fr_cells (fr_belowF H.out hbl) hlt
      have HF := Lib.hid hf
      clear hf hbl
      by_cases hx : f.peer = x
      · have hxb : (f.peer == x) = true := by simp [hx]
        have HE := Lib.hid (pl_here HF.out hx HA.out)
        clear hx
        go_wp2
        go_ret
        exact ⟨ret_int HE.out, HF0.out.below⟩
      · have hxb : (f.peer == x) = false := by simp [hx]
        have HX := Lib.hid hx
        clear hx
        go_wp2
        go_roundw
        case rel => exact ⟨k + 1, by omega, by go_num, pl_step HA.out HF.out HX.out, HF0.out⟩
        case measure => simp [intOf]; omega
    · obtain rfl : k = n := by omega
      have HE := Lib.hid (pl_no (x := x) fun j g hj hg => HA.out j g (by have := HL.out.1; omega) hg)
      clear hbl
      go_wp2
      go_ret
      exact ⟨ret_int HE.out, HF0.out.below⟩
end Go.Proofs.Ytkmoiphcpmhacaa
namespace Go.Proofs.Ytkmoiphcpmhacaa
open Go.RowKit

theorem vf_bad {q : Int} {f : Flw} (h : ¬ (0 ≤ f.peer ∧ f.peer ≤ 7 ∧ 0 ≤ f.dfc ∧ f.dfc < q + 100 ∧ 0 < f.ws.length ∧ okB f.ws = true)) : false = vfB q f :=
  (vf_no fun v => h ⟨v.p0, v.p7, v.d0, v.d1, v.n0, v.ok⟩).symm
theorem vf_alien {q : Int} {f : Flw} {k : Nat} {p : Pkt} (hp : f.ws[k]? = some p) (hx : ¬ p.peer = f.peer) : false = vfB q f :=
  (vf_no fun v => hx (v.own p (List.mem_of_getElem? hp))).symm
theorem vf_good {q : Int} {f : Flw} {n : Nat} (h : 0 ≤ f.peer ∧ f.peer ≤ 7 ∧ 0 ≤ f.dfc ∧ f.dfc < q + 100 ∧ 0 < f.ws.length ∧ okB f.ws = true) (hn : f.ws.length ≤ n) (ho : ∀ j p, j < n → f.ws[j]? = some p → p.peer = f.peer) : true = vfB q f :=
  (vf_iff.2 ⟨h.1, h.2.1, h.2.2.1, h.2.2.2.1, h.2.2.2.2.1, h.2.2.2.2.2, fun p hp => by
    obtain ⟨j, hj, e⟩ := List.getElem_of_mem hp
    exact ho j p (by omega) (by rw [List.getElem?_eq_getElem hj, e])⟩).symm
theorem own_step {ws : List Pkt} {x : Int} {k : Nat} {p : Pkt} (h : ∀ j p, j < k → ws[j]? = some p → p.peer = x) (hp : ws[k]? = some p) (hx : p.peer = x) : ∀ j p, j < k + 1 → ws[j]? = some p → p.peer = x := by
  intro j g hj hg
  by_cases e : j = k
  · subst e
    rw [hp] at hg
    rw [← Option.some.inj hg]; exact hx
  · exact h j g (by omega) hg
def FlRel (w : World) (x d : Int) (A : Option Addr) (c : Nat) (ws : List Pkt) (n : Nat) (i : Value) (wr : World) : Prop :=
  ∃ k : Nat, k ≤ n ∧ i = .int .i64 (k : Int) ∧ (∀ j p, j < k → ws[j]? = some p → p.peer = x) ∧ Fm w [⟨w.heap.size, w.heap.size + 1, BoxP w.heap.size 82 #[.int .i64 x, .int .i64 d, (.slice A n c)]⟩] wr
set_option maxHeartbeats 2000000 in
theorem flI_any (q x d : Int) (ws : List Pkt) (A : Option Addr) (n c : Nat) (w : World) (h : PR w A n ws) (hn : n ≤ 4000000000) (q0 : 1 ≤ q) (q1 : q ≤ 500) :
    Calls Try.prog 95 #[.agg #[.int .i64 x, .int .i64 d, (.slice A n c)], .int .i64 q] w fun e w' => e = .returned (.bool (vfB q ⟨x, d, ws⟩)) ∧ Below w.heap.size w w' := by
  have H := Lib.hid h
  have HL := Lib.hid h.1
  have F := Lib.hid (fm_one w 82 #[.int .i64 x, .int .i64 d, (.slice A n c)])
  have e1 : IntKind.i64.wrap (q + 100) = q + 100 := IntWalk.i64_in _ (by omega)
  have e2 : IntKind.i64.wrap (q + 100 - 1) = q + 100 - 1 := IntWalk.i64_in _ (by omega)
  clear h
  rcases h1 : inB x 0 7 with _ | _
  · have HE := Lib.hid (vf_bad (q := q) (f := ⟨x, d, ws⟩) fun h => by simp only [inB, decide_eq_false_iff_not] at h1; exact h1 ⟨h.1, h.2.1⟩)
    go_enter Try.func95, Try.ntmps95
    go_wp2_with (go_at_call 62; refine (within_any _ _ _ _).mono ?_; rintro e w' ⟨rfl, rfl⟩)
    go_ret
    exact ⟨ret_bool HE.out, F.out.below⟩
  rcases h2 : inB d 0 (q + 100 - 1) with _ | _
  · have HE := Lib.hid (vf_bad (q := q) (f := ⟨x, d, ws⟩) fun h => by simp only [inB, decide_eq_false_iff_not] at h2; exact h2 ⟨h.2.2.1, by have := h.2.2.2.1; simp only at this; omega⟩)
    go_enter Try.func95, Try.ntmps95
    go_wp2_with (go_at_call 62; refine (within_any _ _ _ _).mono ?_; rintro e w' ⟨rfl, rfl⟩)
    go_ret
    exact ⟨ret_bool HE.out, F.out.below⟩
  by_cases h3 : n = 0
  · subst h3
    have HE := Lib.hid (vf_bad (q := q) (f := ⟨x, d, ws⟩) fun h => by have := h.2.2.2.2.1; have := HL.out; simp only at *; omega)
    go_enter Try.func95, Try.ntmps95
    go_wp2_with (go_at_call 62; refine (within_any _ _ _ _).mono ?_; rintro e w' ⟨rfl, rfl⟩)
    go_ret
    exact ⟨ret_bool HE.out, F.out.below⟩
  have hnz : ((n : Int) == 0) = false := by simp; omega
  rcases h4 : okB ws with _ | _
  · have HE := Lib.hid (vf_bad (q := q) (f := ⟨x, d, ws⟩) fun h => by have := h.2.2.2.2.2; simp only at this; rw [h4] at this; cases this)
    have HK := Lib.hid h4
    clear h3 h4
    go_enter Try.func95, Try.ntmps95
    go_wp2_with (first
      | (go_at_call 62; refine (within_any _ _ _ _).mono ?_; rintro e w' ⟨rfl, rfl⟩)
      | (go_at_call 117; refine (okI_any A n c ws _ (pr_alloc H.out _) (by omega)).mono ?_; rintro e w2 ⟨rfl, hb2⟩; rw [HK.out]; have F2 := Lib.hid (fm_below F.out hb2); obtain ⟨⟨q0, q1, q2⟩, -⟩ := blk_three (fm_blk F2.out 0 rfl); clear hb2))
    go_ret
    exact ⟨ret_bool HE.out, F2.out.below⟩
  have HK := Lib.hid h4
  have HG := Lib.hid (show 0 ≤ x ∧ x ≤ 7 ∧ 0 ≤ d ∧ d < q + 100 ∧ 0 < ws.length ∧ okB ws = true by
    simp only [inB, decide_eq_true_eq] at h1 h2
    have := HL.out
    exact ⟨h1.1, h1.2, h2.1, by omega, by omega, h4⟩)
  have hn0 : 0 < n := by omega
  clear h3 h4
  go_enter Try.func95, Try.ntmps95
  go_wp2_with (first
    | (go_at_call 62; refine (within_any _ _ _ _).mono ?_; rintro e w' ⟨rfl, rfl⟩)
    | (go_at_call 117; refine (okI_any A n c ws _ (pr_alloc H.out _) (by omega)).mono ?_; rintro e w2 ⟨rfl, hb2⟩; rw [HK.out]; have F2 := Lib.hid (fm_below F.out hb2); obtain ⟨⟨q0, q1, q2⟩, -⟩ := blk_three (fm_blk F2.out 0 rfl); clear hb2))
  clear h1 h2 e1 e2 q0 q1 q2
  go_loopw [33] (fun i wr => FlRel w x d A c ws n i wr) (fun i _ => n - (intOf i).toNat)
  case atStart => exact ⟨0, Nat.zero_le _, rfl, fun j p hj => absurd hj (by omega), F2.out⟩
  case round =>
    obtain ⟨k, hk, rfl, hall, hF⟩ := hrel
    have HA := Lib.hid hall
    have HF := Lib.hid hF
    obtain ⟨⟨q0, q1, q2⟩, -⟩ := blk_three (fm_blk hF 0 rfl)
    have zb := blk_lt (fm_blk hF 0 rfl)
    have hbl := hF.below
    clear hall hF F2 F
    by_cases hlt : k < n
    · obtain ⟨b, off, p, rfl, hb, hp, c0, c1, c2, c3⟩ := pr_at (pr_below H.out hbl) hlt
      have HP := Lib.hid hp
      clear hp hbl
      by_cases hx : p.peer = x
      · have hxb : (p.peer != x) = false := by simp [hx]
        have HX := Lib.hid hx
        clear hx
        go_wp2
        go_roundw
        case rel => exact ⟨k + 1, by omega, by go_num, own_step HA.out HP.out HX.out, fm_alloc HF.out _⟩
        case measure => simp [intOf]; omega
      · have hxb : (p.peer != x) = true := by simp [hx]
        have HE := Lib.hid (vf_alien (q := q) (f := ⟨x, d, ws⟩) HP.out hx)
        clear hx
        go_wp2
        go_ret
        exact ⟨ret_bool HE.out, (fm_alloc HF.out _).below⟩
    · obtain rfl : k = n := by omega
      have HE := Lib.hid (vf_good (q := q) (f := ⟨x, d, ws⟩) HG.out (Nat.le_of_eq HL.out) HA.out)
      clear hbl
      go_wp2
      go_ret
      exact ⟨ret_bool HE.out, HF.out.below⟩
theorem all_peer_len {ws : List Pkt} {x : Int} : (ofPeer ws x).length = ws.length ↔ ∀ p ∈ ws, p.peer = x := by
  unfold ofPeer
  constructor
  · intro h p hp
    have := List.length_filter_eq_length_iff.1 h p hp
    simpa using this
  · intro h
    exact List.length_filter_eq_length_iff.2 fun p hp => by simpa using h p hp
theorem vf_last {q : Int} {f : Flw} {n m : Nat} (h : 0 ≤ f.peer ∧ f.peer ≤ 7 ∧ 0 ≤ f.dfc ∧ f.dfc < q + 100 ∧ 0 < f.ws.length ∧ okB f.ws = true) (hn : f.ws.length = n) (hm : (ofPeer f.ws f.peer).length = m) : ((m : Int) == (n : Int)) = vfB q f := by
  subst hn hm
  rw [Bool.eq_iff_iff, vf_iff, beq_iff_eq]
  constructor
  · intro e
    exact ⟨h.1, h.2.1, h.2.2.1, h.2.2.2.1, h.2.2.2.2.1, h.2.2.2.2.2, all_peer_len.1 (by omega)⟩
  · intro v
    have := all_peer_len.2 v.own
    omega
set_option maxHeartbeats 4000000 in
theorem flS_any (q x d : Int) (ws : List Pkt) (A : Option Addr) (n c : Nat) (w : World) (h : PR w A n ws) (hn : n ≤ 4000000000) (q0 : 1 ≤ q) (q1 : q ≤ 500) :
    Calls Try.prog 116 #[.agg #[.int .i64 x, .int .i64 d, (.slice A n c)], .int .i64 q] w fun e w' => e = .returned (.bool (vfB q ⟨x, d, ws⟩)) ∧ Below w.heap.size w w' := by
  have H := Lib.hid h
  have HL := Lib.hid h.1
  have F := Lib.hid (fm_one w 82 #[.int .i64 x, .int .i64 d, (.slice A n c)])
  have e1 : IntKind.i64.wrap (q + 100) = q + 100 := IntWalk.i64_in _ (by omega)
  clear h
  by_cases hd : 0 ≤ x ∧ x ≤ 7 ∧ 0 ≤ d ∧ d < q + 100 ∧ 0 < n
  · obtain ⟨d1, d2, d3, d4, d5⟩ := hd
    have y1 : decide (x < 0) = false := by simp; omega
    have y2 : decide (8 ≤ x) = false := by simp; omega
    have y3 : decide (d < 0) = false := by simp; omega
    have y4 : decide (q + 100 ≤ d) = false := by simp; omega
    have y5 : ((n : Int) == 0) = false := by simp; omega
    rcases h4 : okB ws with _ | _
    · have HE := Lib.hid (vf_bad (q := q) (f := ⟨x, d, ws⟩) fun h => by have := h.2.2.2.2.2; simp only at this; rw [h4] at this; cases this)
      have HK := Lib.hid h4
      clear h4
      go_enter Try.func116, Try.ntmps116
      go_wp2_with (go_at_call 125; refine (okS_any A n c ws _ (pr_alloc H.out _) (by omega)).mono ?_; rintro e w2 ⟨rfl, hb2⟩; rw [HK.out]; have F2 := Lib.hid (fm_below F.out hb2); clear hb2)
      go_ret
      exact ⟨ret_bool HE.out, F2.out.below⟩
    · have HG := Lib.hid (show 0 ≤ x ∧ x ≤ 7 ∧ 0 ≤ d ∧ d < q + 100 ∧ 0 < ws.length ∧ okB ws = true from ⟨d1, d2, d3, d4, by have := HL.out; omega, h4⟩)
      have HK := Lib.hid h4
      clear h4
      go_enter Try.func116, Try.ntmps116
      go_wp2_with (go_at_call 125; refine (okS_any A n c ws _ (pr_alloc H.out _) (by omega)).mono ?_; rintro e w2 ⟨rfl, hb2⟩; rw [HK.out]; have F2 := Lib.hid (fm_below F.out hb2); clear hb2)
      clear e1 d1 d2 d3 d4 y1 y2 y3 y4 y5
      have K0 : (w2.drew.cell? ⟨w.heap.size, 0, none⟩ = some (.int .i64 x) ∧ w2.drew.cell? ⟨w.heap.size, 1, none⟩ = some (.int .i64 d) ∧ w2.drew.cell? ⟨w.heap.size, 2, none⟩ = some (.slice A n c)) ∧ Fm w [⟨w.heap.size, w.heap.size + 1, BoxP w.heap.size 82 #[.int .i64 x, .int .i64 d, (.slice A n c)]⟩] w2.drew := ⟨(blk_three (fm_blk (fm_drew F2.out) 0 rfl)).1, fm_drew F2.out⟩
      go_region_held3 (fun w' => (w'.cell? ⟨w.heap.size, 0, none⟩ = some (.int .i64 x) ∧ w'.cell? ⟨w.heap.size, 1, none⟩ = some (.int .i64 d) ∧ w'.cell? ⟨w.heap.size, 2, none⟩ = some (.slice A n c)) ∧ Fm w [⟨w.heap.size, w.heap.size + 1, BoxP w.heap.size 82 #[.int .i64 x, .int .i64 d, (.slice A n c)]⟩] w')
        (first | (with_reducible assumption) | fail)
        (first
          | (go_at_call 126
             refine (ofS_any A n c ws x _ (pr_below H.out (fm_drew F2.out).below) (by omega)).mono ?_
             rintro e w3 ⟨A3, n3, c3, rfl, hn3, hc3, hm3, ho3, hb3⟩
             have L3 := Lib.hid ((pr_own ho3).1)
             have hl3 : n3 ≤ 4000000000 := (by have := HL.out; omega)
             have F3 := Lib.hid (fm_below (fm_drew F2.out) hb3)
             have K3 := (And.intro (blk_three (fm_blk F3.out 0 rfl)).1 F3.out)
             clear ho3 hb3 hn3 hc3 hm3))
      all_goals
        have HE := Lib.hid (vf_last (q := q) (f := ⟨x, d, ws⟩) HG.out HL.out L3.out)
        go_wp2
        go_ret
        exact ⟨ret_bool HE.out, F3.out.below⟩
  · have HE := Lib.hid (vf_bad (q := q) (f := ⟨x, d, ws⟩) fun h => hd ⟨h.1, h.2.1, h.2.2.1, h.2.2.2.1, by have := h.2.2.2.2.1; have := HL.out; simp only at *; omega⟩)
    have hor : x < 0 ∨ (0 ≤ x ∧ 8 ≤ x) ∨ (0 ≤ x ∧ x ≤ 7 ∧ d < 0) ∨ (0 ≤ x ∧ x ≤ 7 ∧ 0 ≤ d ∧ q + 100 ≤ d) ∨ (0 ≤ x ∧ x ≤ 7 ∧ 0 ≤ d ∧ d < q + 100 ∧ n = 0) := by omega
    clear hd
    rcases hor with d1 | ⟨d1, d2⟩ | ⟨d1, d2, d3⟩ | ⟨d1, d2, d3, d4⟩ | ⟨d1, d2, d3, d4, d5⟩
    · go_enter Try.func116, Try.ntmps116
      go_wp2
      all_goals
        go_ret
        exact ⟨ret_bool HE.out, F.out.below⟩
    · go_enter Try.func116, Try.ntmps116
      go_wp2
      all_goals
        go_ret
        exact ⟨ret_bool HE.out, F.out.below⟩
    · go_enter Try.func116, Try.ntmps116
      go_wp2
      all_goals
        go_ret
        exact ⟨ret_bool HE.out, F.out.below⟩
    · go_enter Try.func116, Try.ntmps116
      go_wp2
      all_goals
        go_ret
        exact ⟨ret_bool HE.out, F.out.below⟩
    · subst d5
      go_enter Try.func116, Try.ntmps116
      go_wp2
      all_goals
        go_ret
        exact ⟨ret_bool HE.out, F.out.below⟩
end Go.Proofs.Ytkmoiphcpmhacaa
namespace Go.Proofs.Ytkmoiphcpmhacaa
open Go.RowKit

theorem al_init {w : World} : ∀ {L M : List Iv} {lo : Nat}, Al lo (L ++ M) w → Al lo L w
  | [], _, _, h => al_lo h
  | _ :: _, _, _, ⟨h1, h3, h4, h5⟩ => ⟨h1, h3, h4, al_init h5⟩
theorem fm_init {w w1 : World} {L M : List Iv} (h : Fm w (L ++ M) w1) : Fm w L w1 := ⟨h.below, al_init h.al⟩
def hasP (fs : List Flw) (x : Int) : Bool := fs.any (fun f => f.peer == x)
def seen8 (fs : List Flw) : Array Value := #[.bool (hasP fs 0), .bool (hasP fs 1), .bool (hasP fs 2), .bool (hasP fs 3), .bool (hasP fs 4), .bool (hasP fs 5), .bool (hasP fs 6), .bool (hasP fs 7)]
theorem seen8_nil : seen8 [] = #[.bool false, .bool false, .bool false, .bool false, .bool false, .bool false, .bool false, .bool false] := rfl
theorem seen8_get (fs : List Flw) (j : Nat) (h : j < 8) : (seen8 fs)[j]? = some (.bool (hasP fs (j : Int))) := by
  have : j = 0 ∨ j = 1 ∨ j = 2 ∨ j = 3 ∨ j = 4 ∨ j = 5 ∨ j = 6 ∨ j = 7 := by omega
  rcases this with rfl | rfl | rfl | rfl | rfl | rfl | rfl | rfl <;> rfl
theorem hasP_hit {fs : List Flw} {k : Nat} {f : Flw} {x : Int} (h : fs[k]? = some f) (hx : f.peer = x) : hasP (fs.take (k + 1)) x = true := by
  rw [hasP, List.take_add_one, h]; simp [List.any_append, hx]
theorem hasP_miss {fs : List Flw} {k : Nat} {f : Flw} {x : Int} (h : fs[k]? = some f) (hx : f.peer ≠ x) : hasP (fs.take (k + 1)) x = hasP (fs.take k) x := by
  rw [hasP, List.take_add_one, h]; simp [List.any_append, hx, hasP]
theorem seen8_set {fs : List Flw} {k : Nat} {f : Flw} {j : Nat} (h : fs[k]? = some f) (hj : f.peer = (j : Int)) (h8 : j < 8) :
    (seen8 (fs.take k)).setIfInBounds j (.bool true) = seen8 (fs.take (k + 1)) := by
  have hx : ∀ x : Int, (j : Int) ≠ x → hasP (fs.take (k + 1)) x = hasP (fs.take k) x := fun x hx => hasP_miss h (by rw [hj]; exact hx)
  have hy := hasP_hit h hj
  have : j = 0 ∨ j = 1 ∨ j = 2 ∨ j = 3 ∨ j = 4 ∨ j = 5 ∨ j = 6 ∨ j = 7 := by omega
  rcases this with rfl | rfl | rfl | rfl | rfl | rfl | rfl | rfl
  · simp only [seen8]; rw [show hasP (fs.take (k + 1)) 0 = true from hy, hx 1 (by decide), hx 2 (by decide), hx 3 (by decide), hx 4 (by decide), hx 5 (by decide), hx 6 (by decide), hx 7 (by decide)]; rfl
  · simp only [seen8]; rw [show hasP (fs.take (k + 1)) 1 = true from hy, hx 0 (by decide), hx 2 (by decide), hx 3 (by decide), hx 4 (by decide), hx 5 (by decide), hx 6 (by decide), hx 7 (by decide)]; rfl
  · simp only [seen8]; rw [show hasP (fs.take (k + 1)) 2 = true from hy, hx 1 (by decide), hx 0 (by decide), hx 3 (by decide), hx 4 (by decide), hx 5 (by decide), hx 6 (by decide), hx 7 (by decide)]; rfl
  · simp only [seen8]; rw [show hasP (fs.take (k + 1)) 3 = true from hy, hx 1 (by decide), hx 2 (by decide), hx 0 (by decide), hx 4 (by decide), hx 5 (by decide), hx 6 (by decide), hx 7 (by decide)]; rfl
  · simp only [seen8]; rw [show hasP (fs.take (k + 1)) 4 = true from hy, hx 1 (by decide), hx 2 (by decide), hx 3 (by decide), hx 0 (by decide), hx 5 (by decide), hx 6 (by decide), hx 7 (by decide)]; rfl
  · simp only [seen8]; rw [show hasP (fs.take (k + 1)) 5 = true from hy, hx 1 (by decide), hx 2 (by decide), hx 3 (by decide), hx 4 (by decide), hx 0 (by decide), hx 6 (by decide), hx 7 (by decide)]; rfl
  · simp only [seen8]; rw [show hasP (fs.take (k + 1)) 6 = true from hy, hx 1 (by decide), hx 2 (by decide), hx 3 (by decide), hx 4 (by decide), hx 5 (by decide), hx 0 (by decide), hx 7 (by decide)]; rfl
  · simp only [seen8]; rw [show hasP (fs.take (k + 1)) 7 = true from hy, hx 1 (by decide), hx 2 (by decide), hx 3 (by decide), hx 4 (by decide), hx 5 (by decide), hx 6 (by decide), hx 0 (by decide)]; rfl
/-- the first k flows are valid, and of different peers -/
structure RvK (q : Int) (fs : List Flw) (k : Nat) : Prop where
  all : ∀ j f, j < k → fs[j]? = some f → VF q f
  apart : Apart (fs.take k)
theorem rvk_zero (q : Int) (fs : List Flw) : RvK q fs 0 := ⟨fun j f hj => absurd hj (by omega), by rw [List.take_zero]; exact List.Pairwise.nil⟩
theorem rvk_step {q : Int} {fs : List Flw} {k : Nat} {f : Flw} (h : RvK q fs k) (hf : fs[k]? = some f) (hv : VF q f) (hp : ∀ g ∈ fs.take k, g.peer ≠ f.peer) : RvK q fs (k + 1) :=
  ⟨fun j g hj hg => by
    by_cases e : j = k
    · subst e
      rw [hf] at hg
      rw [← Option.some.inj hg]; exact hv
    · exact h.all j g (by omega) hg, by
    rw [List.take_add_one, hf]
    exact List.pairwise_append.2 ⟨h.apart, List.pairwise_singleton _ _, fun a ha b hb => by
      obtain rfl : b = f := by simpa using hb
      exact hp a ha⟩⟩
theorem rvk_all {q : Int} {fs : List Flw} {n : Nat} (h : RvK q fs n) (hn : fs.length = n) (h0 : 1 ≤ q) (h1 : q ≤ 500) : true = rvB q fs := by
  refine (rv_yes ⟨h0, h1, fun f hf => ?_, ?_⟩).symm
  · obtain ⟨j, hj, e⟩ := List.getElem_of_mem hf
    exact h.all j f (by omega) (by rw [List.getElem?_eq_getElem hj, e])
  · have := h.apart
    rwa [List.take_of_length_le (by omega)] at this
theorem rv_bad {q : Int} {fs : List Flw} {k : Nat} {f : Flw} (hf : fs[k]? = some f) (hv : vfB q f = false) : false = rvB q fs :=
  (rv_no fun h => by rw [vf_iff.2 (h.all f (List.mem_of_getElem? hf))] at hv; cases hv).symm
theorem rv_twice {q : Int} {fs : List Flw} {k : Nat} {f g : Flw} (hf : fs[k]? = some f) (hg : g ∈ fs.take k) (hp : g.peer = f.peer) : false = rvB q fs :=
  (rv_no fun h => by
    obtain ⟨j, hj, e⟩ := List.getElem_of_mem hg
    have hjk : j < k := by rw [List.length_take] at hj; omega
    have hgj : fs[j]? = some g := by
      have : (fs.take k)[j]? = some g := by rw [List.getElem?_eq_getElem hj, e]
      rwa [List.getElem?_take_of_lt hjk] at this
    have := apart_at h.apart hgj hf hp
    omega).symm
theorem rv_quantum {q : Int} {fs : List Flw} (h : ¬ (1 ≤ q ∧ q ≤ 500)) : false = rvB q fs := (rv_no fun v => h ⟨v.q0, v.q1⟩).symm
theorem rv_many {q : Int} {fs : List Flw} (h : 8 < fs.length) : false = rvB q fs := (rv_no fun v => by have := rv_len v; omega).symm
def RvI (w : World) (q : Int) (A : Option Addr) (c : Nat) (fs : List Flw) (n : Nat) (i : Value) (wr : World) : Prop :=
  ∃ k : Nat, k ≤ n ∧ i = .int .i64 (k : Int) ∧ RvK q fs k ∧ Fm w [⟨w.heap.size, w.heap.size + 1, BoxP w.heap.size 37 #[.int .i64 q, (.slice A n c)]⟩, ⟨w.heap.size + 1, w.heap.size + 2, BoxP (w.heap.size + 1) 109 (seen8 (fs.take k))⟩] wr
set_option maxHeartbeats 2000000 in
theorem rvI_any (q : Int) (A : Option Addr) (n c : Nat) (fs : List Flw) (w : World) (h : FR w A n fs) :
    Calls Try.prog 57 #[.agg #[.int .i64 q, (.slice A n c)]] w fun e w' => e = .returned (.bool (rvB q fs)) ∧ Below w.heap.size w w' := by
  have H := Lib.hid h
  have HL := Lib.hid (fr_lenF h)
  have n4 : n ≤ 4000000000 := HL.out.2
  clear h
  by_cases hq : 1 ≤ q ∧ q ≤ 500
  · obtain ⟨q0, q1⟩ := hq
    have hin : inB q 1 500 = true := by simp [inB, q0, q1]
    have R0 : Hid (RvI w q A c fs n (.int .i64 0) ((w.alloc (.cells #[.int .i64 q, (.slice A n c)] 37)).alloc (.cells #[(.bool false), (.bool false), (.bool false), (.bool false), (.bool false), (.bool false), (.bool false), (.bool false)] 109))) := Lib.hid ⟨0, Nat.zero_le _, rfl, rvk_zero _ _, fm_two w _ _ _ _⟩
    go_enter Try.func57, Try.ntmps57
    go_wp2_with (go_at_call 62; refine (within_any _ _ _ _).mono ?_; rintro e w' ⟨rfl, rfl⟩; rw [hin])
    clear hin
    go_loopw [13] (fun i wr => RvI w q A c fs n i wr) (fun i _ => n - (intOf i).toNat)
    case atStart => exact R0.out
    case round =>
      obtain ⟨k, hk, rfl, hall, hF⟩ := hrel
      have HA := Lib.hid hall
      have HF0 := Lib.hid hF
      have hbl := hF.below
      have zb1 := blk_lt (fm_blk hF 0 rfl)
      have zb2 := blk_lt (fm_blk hF 1 rfl)
      obtain ⟨g0, g1, -⟩ := blk_two (fm_blk hF 0 rfl)
      clear R0 hall hF
      by_cases hlt : k < n
      · obtain ⟨b, off, f, A1, n1, c1', rfl, hb, hf, c0, c1, c2, hpr, hc1, hn1⟩ := fr_cells (fr_belowF H.out hbl) hlt
        have HF := Lib.hid hf
        have HP := Lib.hid hpr
        obtain ⟨x, d, ws⟩ := f
        simp only at c0 c1 c2
        have FB : Hid (Fm w [⟨w.heap.size, w.heap.size + 1, BoxP w.heap.size 37 #[.int .i64 q, (.slice (some ⟨b, off, none⟩) n c)]⟩, ⟨w.heap.size + 1, w.heap.size + 2, BoxP (w.heap.size + 1) 109 (seen8 (fs.take k))⟩, ⟨wr.heap.size, wr.heap.size + 1, BoxP wr.heap.size 82 #[.int .i64 x, .int .i64 d, (.slice A1 n1 c1')]⟩] (wr.alloc (.cells #[.int .i64 x, .int .i64 d, (.slice A1 n1 c1')] 82))) := Lib.hid (fm_push HF0.out rfl _ _)
        clear hf hpr hbl
        rcases hv : vfB q ⟨x, d, ws⟩ with _ | _
        · have HE := Lib.hid (rv_bad HF.out hv)
          have HV := Lib.hid hv
          clear hv
          go_wp2_with (go_at_call 95; refine (flI_any q x d ws A1 n1 c1' _ (pr_alloc HP.out _) hn1 q0 q1).mono ?_; rintro e w3 ⟨rfl, hb3⟩; rw [HV.out]; have F3 := Lib.hid (fm_below FB.out hb3); clear hb3)
          go_ret
          exact ⟨ret_bool HE.out, F3.out.below⟩
        · have HV := Lib.hid hv
          have hvf := vf_iff.1 hv
          have hp0 := hvf.p0
          have hp7 := hvf.p7
          simp only at hp0 hp7
          clear hv hvf
          obtain ⟨j, rfl⟩ := Int.eq_ofNat_of_zero_le hp0
          have hj8 : j < 8 := by omega
          have hj8i : (j : Int) < 8 := by omega
          clear hp0 hp7
          rcases hs : hasP (fs.take k) (j : Int) with _ | _
          · have HS : Hid (∀ g ∈ fs.take k, g.peer ≠ (j : Int)) := Lib.hid fun g hg e => by
              have : hasP (fs.take k) (j : Int) = true := List.any_eq_true.2 ⟨g, hg, by simp [e]⟩
              rw [hs] at this; cases this
            have HT := Lib.hid hs
            have HST := Lib.hid (seen8_set HF.out rfl hj8)
            clear hs
            go_wp2_with (go_at_call 95
                         refine (flI_any q (j : Int) d ws A1 n1 c1' _ (pr_alloc HP.out _) hn1 q0 q1).mono ?_
                         rintro e w3 ⟨rfl, hb3⟩
                         rw [HV.out]
                         have F3 := Lib.hid (fm_below FB.out hb3)
                         obtain ⟨⟨d0, d1, d2⟩, -⟩ := blk_three (fm_blk F3.out 2 rfl)
                         have e0 : w3.cell? ⟨w.heap.size + 1, j, none⟩ = some (.bool false) := (by rw [blk_cell (fm_blk F3.out 1 rfl), seen8_get _ j hj8, HT.out])
                         have e1 : w3.frozen? ⟨w.heap.size + 1, j, none⟩ = false := blk_free (fm_blk F3.out 1 rfl) j
                         clear hb3)
            go_roundw
            case rel =>
              refine ⟨k + 1, by omega, by go_num, rvk_step HA.out HF.out (vf_iff.1 HV.out) HS.out, ?_⟩
              have := fm_init (L := [_, _]) (M := [_]) (fm_cell F3.out 1 rfl ⟨Nat.le_refl _, Nat.lt_succ_self _⟩ j (.bool true))
              rw [HST.out] at this
              exact this
            case measure => simp [intOf]; omega
          · have HE : Hid (false = rvB q fs) := Lib.hid (by
              obtain ⟨g, hg, e⟩ := List.any_eq_true.1 hs
              exact rv_twice HF.out hg (by simpa using e))
            have HT := Lib.hid hs
            clear hs
            go_wp2_with (go_at_call 95
                         refine (flI_any q (j : Int) d ws A1 n1 c1' _ (pr_alloc HP.out _) hn1 q0 q1).mono ?_
                         rintro e w3 ⟨rfl, hb3⟩
                         rw [HV.out]
                         have F3 := Lib.hid (fm_below FB.out hb3)
                         obtain ⟨⟨d0, d1, d2⟩, -⟩ := blk_three (fm_blk F3.out 2 rfl)
                         have e0 : w3.cell? ⟨w.heap.size + 1, j, none⟩ = some (.bool true) := (by rw [blk_cell (fm_blk F3.out 1 rfl), seen8_get _ j hj8, HT.out])
                         clear hb3)
            go_ret
            exact ⟨ret_bool HE.out, F3.out.below⟩
      · obtain rfl : k = n := by omega
        have HE := Lib.hid (rvk_all HA.out HL.out.1 q0 q1)
        clear hbl
        go_wp2
        go_ret
        exact ⟨ret_bool HE.out, HF0.out.below⟩
  · have HE := Lib.hid (rv_quantum (fs := fs) hq)
    have hin : inB q 1 500 = false := by simp only [inB, decide_eq_false_iff_not]; exact hq
    have B0 := Lib.hid (below_alloc (Below.refl w.heap.size w) (.cells #[.int .i64 q, (.slice A n c)] 37))
    clear hq
    go_enter Try.func57, Try.ntmps57
    go_wp2_with (go_at_call 62; refine (within_any _ _ _ _).mono ?_; rintro e w' ⟨rfl, rfl⟩; rw [hin])
    go_ret
    exact ⟨ret_bool HE.out, B0.out⟩
def RvS (w : World) (q : Int) (A : Option Addr) (c : Nat) (fs : List Flw) (n : Nat) (i : Value) (wr : World) : Prop :=
  ∃ k : Nat, k ≤ n ∧ i = .int .i64 (k : Int) ∧ RvK q fs k ∧ Fm w [⟨w.heap.size, w.heap.size + 1, BoxP w.heap.size 37 #[.int .i64 q, (.slice A n c)]⟩] wr
def RvSi (w : World) (q : Int) (A : Option Addr) (c : Nat) (fs : List Flw) (n : Nat) (k : Nat) (x : Int) (i : Value) (wr : World) : Prop :=
  ∃ m : Nat, m ≤ k ∧ i = .int .i64 (m : Int) ∧ (∀ j g, j < m → fs[j]? = some g → ¬ g.peer = x) ∧ Fm w [⟨w.heap.size, w.heap.size + 1, BoxP w.heap.size 37 #[.int .i64 q, (.slice A n c)]⟩] wr
theorem apart_take {fs : List Flw} {k : Nat} {x : Int} (h : ∀ j g, j < k → fs[j]? = some g → ¬ g.peer = x) : ∀ g ∈ fs.take k, g.peer ≠ x := fun g hg => by
  obtain ⟨j, hj, e⟩ := List.getElem_of_mem hg
  have hjk : j < k := by rw [List.length_take] at hj; omega
  have : (fs.take k)[j]? = some g := by rw [List.getElem?_eq_getElem hj, e]
  rw [List.getElem?_take_of_lt hjk] at this
  exact h j g hjk this
set_option maxHeartbeats 4000000 in
theorem rvS_any (q : Int) (A : Option Addr) (n c : Nat) (fs : List Flw) (w : World) (h : FR w A n fs) :
    Calls Try.prog 92 #[.agg #[.int .i64 q, (.slice A n c)]] w fun e w' => e = .returned (.bool (rvB q fs)) ∧ Below w.heap.size w w' := by
  have H := Lib.hid h
  have HL := Lib.hid (fr_lenF h)
  have n4 : n ≤ 4000000000 := HL.out.2
  have F := Lib.hid (fm_one w 37 #[.int .i64 q, (.slice A n c)])
  clear h
  by_cases hq : 1 ≤ q ∧ q ≤ 500 ∧ n ≤ 8
  · obtain ⟨q0, q1, q2⟩ := hq
    have R0 : Hid (RvS w q A c fs n (.int .i64 0) (w.alloc (.cells #[.int .i64 q, (.slice A n c)] 37))) := Lib.hid ⟨0, Nat.zero_le _, rfl, rvk_zero _ _, F.out⟩
    have y1 : decide (q < 1) = false := by simp; omega
    have y2 : decide (500 < q) = false := by simp; omega
    have y3 : decide (8 < (n : Int)) = false := by simp; omega
    clear F
    go_enter Try.func92, Try.ntmps92
    go_wp2
    clear y1 y2 y3
    go_loopw [3] (fun i wr => RvS w q A c fs n i wr) (fun i _ => n - (intOf i).toNat)
    case atStart => exact R0.out
    case round =>
      obtain ⟨k, hk, rfl, hall, hF⟩ := hrel
      have HA := Lib.hid hall
      have HF0 := Lib.hid hF
      have hbl := hF.below
      have zb1 := blk_lt (fm_blk hF 0 rfl)
      obtain ⟨g0, g1, -⟩ := blk_two (fm_blk hF 0 rfl)
      clear R0 hall hF
      by_cases hlt : k < n
      · obtain ⟨b, off, f, A1, n1, c1', rfl, hb, hf, c0, c1, c2, hpr, hc1, hn1⟩ := fr_cells (fr_belowF H.out hbl) hlt
        have HF := Lib.hid hf
        have HP := Lib.hid hpr
        obtain ⟨x, d, ws⟩ := f
        simp only at c0 c1 c2
        have k0 : (0 : Int) ≤ (k : Int) := by omega
        have k1 : (k : Int) < (n : Int) := by omega
        have K0 : (wr.drew.cell? ⟨w.heap.size, 0, none⟩ = some (.int .i64 q) ∧ wr.drew.cell? ⟨w.heap.size, 1, none⟩ = some (.slice (some ⟨b, off, none⟩) n c)) ∧ (wr.drew.cell? ⟨b, off + k * 3, none⟩ = some (.int .i64 x) ∧ wr.drew.cell? ⟨b, off + k * 3 + 1, none⟩ = some (.int .i64 d) ∧ wr.drew.cell? ⟨b, off + k * 3 + 2, none⟩ = some (.slice A1 n1 c1')) ∧ Fm w [⟨w.heap.size, w.heap.size + 1, BoxP w.heap.size 37 #[.int .i64 q, (.slice (some ⟨b, off, none⟩) n c)]⟩] wr.drew := ⟨⟨g0, g1⟩, ⟨c0, c1, c2⟩, fm_drew HF0.out⟩
        clear hf hpr hbl
        rcases hv : vfB q ⟨x, d, ws⟩ with _ | _
        · have HE := Lib.hid (rv_bad HF.out hv)
          have HV := Lib.hid hv
          clear hv
          go_wp2_with fail
          go_region_held3 (fun w' => (w'.cell? ⟨w.heap.size, 0, none⟩ = some (.int .i64 q) ∧ w'.cell? ⟨w.heap.size, 1, none⟩ = some (.slice (some ⟨b, off, none⟩) n c)) ∧ (w'.cell? ⟨b, off + k * 3, none⟩ = some (.int .i64 x) ∧ w'.cell? ⟨b, off + k * 3 + 1, none⟩ = some (.int .i64 d) ∧ w'.cell? ⟨b, off + k * 3 + 2, none⟩ = some (.slice A1 n1 c1')) ∧ Fm w [⟨w.heap.size, w.heap.size + 1, BoxP w.heap.size 37 #[.int .i64 q, (.slice (some ⟨b, off, none⟩) n c)]⟩] w')
            (first | (with_reducible assumption) | fail)
            (first
              | (go_at_call 116
                 refine (flS_any q x d ws A1 n1 c1' _ (pr_drewN HP.out 1) hn1 q0 q1).mono ?_
                 rintro e w3 ⟨rfl, hb3⟩
                 rw [HV.out]
                 have F3 := Lib.hid (fm_below (fm_drew HF0.out) hb3)
                 obtain ⟨t0, t1, -⟩ := blk_two (fm_blk F3.out 0 rfl)
                 have K3 := (And.intro (And.intro t0 t1) (And.intro (And.intro (((bcell hb3).1 b _ hb).trans c0) (And.intro (((bcell hb3).1 b _ hb).trans c1) (((bcell hb3).1 b _ hb).trans c2))) F3.out))
                 clear hb3))
          all_goals
            go_wp2
            go_ret
            exact ⟨ret_bool HE.out, F3.out.below⟩
        · have HV := Lib.hid hv
          clear hv
          go_wp2_with fail
          go_region_held3 (fun w' => (w'.cell? ⟨w.heap.size, 0, none⟩ = some (.int .i64 q) ∧ w'.cell? ⟨w.heap.size, 1, none⟩ = some (.slice (some ⟨b, off, none⟩) n c)) ∧ (w'.cell? ⟨b, off + k * 3, none⟩ = some (.int .i64 x) ∧ w'.cell? ⟨b, off + k * 3 + 1, none⟩ = some (.int .i64 d) ∧ w'.cell? ⟨b, off + k * 3 + 2, none⟩ = some (.slice A1 n1 c1')) ∧ Fm w [⟨w.heap.size, w.heap.size + 1, BoxP w.heap.size 37 #[.int .i64 q, (.slice (some ⟨b, off, none⟩) n c)]⟩] w')
            (first | (with_reducible assumption) | fail)
            (first
              | (go_at_call 116
                 refine (flS_any q x d ws A1 n1 c1' _ (pr_drewN HP.out 1) hn1 q0 q1).mono ?_
                 rintro e w3 ⟨rfl, hb3⟩
                 rw [HV.out]
                 have F3 := Lib.hid (fm_below (fm_drew HF0.out) hb3)
                 obtain ⟨t0, t1, -⟩ := blk_two (fm_blk F3.out 0 rfl)
                 have K3 := (And.intro (And.intro t0 t1) (And.intro (And.intro (((bcell hb3).1 b _ hb).trans c0) (And.intro (((bcell hb3).1 b _ hb).trans c1) (((bcell hb3).1 b _ hb).trans c2))) F3.out))
                 clear hb3))
          all_goals
            clear K0 K3 t0 t1 c0 c1 c2 HP g0 g1
            have R1 : Hid (RvSi w q (some ⟨b, off, none⟩) c fs n k x (.int .i64 0) w3) := Lib.hid ⟨0, Nat.zero_le _, rfl, fun j g hj => absurd hj (by omega), F3.out⟩
            go_wp2
            go_loopw [4] (fun i wr => RvSi w q (some ⟨b, off, none⟩) c fs n k x i wr) (fun i _ => k - (intOf i).toNat)
            case atStart => exact R1.out
            case round =>
              obtain ⟨m, hm, rfl, hno, hG⟩ := hrel
              have HN := Lib.hid hno
              have HG := Lib.hid hG
              have hbl := hG.below
              have zb3 := blk_lt (fm_blk hG 0 rfl)
              obtain ⟨g0, g1, -⟩ := blk_two (fm_blk hG 0 rfl)
              clear R1 hno hG F3 HF0
              by_cases hlm : m < k
              · obtain ⟨b', off', f', A2, n2, c2', e1, hb', hf', d0, -⟩ := fr_cells (fr_belowF H.out hbl) (show m < n by omega)
                obtain ⟨b2, off2, f2, A3, n3, c3', e2, hb2, hf2, d1, -⟩ := fr_cells (fr_belowF H.out hbl) hlt
                obtain ⟨rfl, rfl⟩ : b = b' ∧ off = off' := by injection e1 with e1; injection e1 with a1 a2; exact ⟨a1, a2⟩
                obtain ⟨rfl, rfl⟩ : b = b2 ∧ off = off2 := by injection e2 with e2; injection e2 with a1 a2; exact ⟨a1, a2⟩
                obtain rfl : (⟨x, d, ws⟩ : Flw) = f2 := by have := HF.out; rw [hf2] at this; exact (Option.some.inj this).symm
                obtain ⟨x', d', ws'⟩ := f'
                simp only at d0 d1
                have HF' := Lib.hid hf'
                have m0 : (0 : Int) ≤ (m : Int) := by omega
                have m1 : (m : Int) < (n : Int) := by omega
                clear e1 e2 hf' hf2 hbl
                by_cases hx : x' = x
                · have hxb : (x' == x) = true := by simp [hx]
                  have HE : Hid (false = rvB q fs) := Lib.hid (rv_twice (g := ⟨x', d', ws'⟩) HF.out (by
                    refine List.mem_of_getElem? (i := m) ?_
                    rw [List.getElem?_take_of_lt hlm]; exact HF'.out) hx)
                  clear hx
                  go_wp2_with fail
                  go_quiet (fail)
                  go_wp2
                  go_ret
                  exact ⟨ret_bool HE.out, (fm_drewN HG.out _).below⟩
                · have hxb : (x' == x) = false := by simp [hx]
                  have HX := Lib.hid hx
                  clear hx
                  go_wp2_with fail
                  go_quiet (fail)
                  go_wp2
                  go_roundw
                  case rel => exact ⟨m + 1, by omega, by go_num, pl_step (f := ⟨x', d', ws'⟩) HN.out HF'.out HX.out, fm_drewN HG.out _⟩
                  case measure => simp [intOf]; omega
              · obtain rfl : m = k := by omega
                clear hbl
                go_wp2
                go_roundw
                case rel => exact ⟨m + 1, by omega, by go_num, rvk_step HA.out HF.out (vf_iff.1 HV.out) (apart_take HN.out), HG.out⟩
                case measure => simp [intOf]; omega
      · obtain rfl : k = n := by omega
        have HE := Lib.hid (rvk_all HA.out HL.out.1 q0 q1)
        clear hbl
        go_wp2
        go_ret
        exact ⟨ret_bool HE.out, HF0.out.below⟩
  · have HE : Hid (false = rvB q fs) := Lib.hid (by
      by_cases h8 : n ≤ 8
      · exact rv_quantum fun h => hq ⟨h.1, h.2, h8⟩
      · exact rv_many (by have := HL.out.1; omega))
    have hor : q < 1 ∨ (1 ≤ q ∧ 500 < q) ∨ (1 ≤ q ∧ q ≤ 500 ∧ 8 < n) := by omega
    clear hq
    rcases hor with d1 | ⟨d1, d2⟩ | ⟨d1, d2, d3⟩
    · have y1 : decide (q < 1) = true := by simp; omega
      go_enter Try.func92, Try.ntmps92
      go_wp2
      all_goals
        go_ret
        exact ⟨ret_bool HE.out, F.out.below⟩
    · have y1 : decide (q < 1) = false := by simp; omega
      have y2 : decide (500 < q) = true := by simp; omega
      go_enter Try.func92, Try.ntmps92
      go_wp2
      all_goals
        go_ret
        exact ⟨ret_bool HE.out, F.out.below⟩
    · have y1 : decide (q < 1) = false := by simp; omega
      have y2 : decide (500 < q) = false := by simp; omega
      have y3 : decide (8 < (n : Int)) = true := by simp; omega
      go_enter Try.func92, Try.ntmps92
      go_wp2
      all_goals
        go_ret
        exact ⟨ret_bool HE.out, F.out.below⟩
end Go.Proofs.Ytkmoiphcpmhacaa
