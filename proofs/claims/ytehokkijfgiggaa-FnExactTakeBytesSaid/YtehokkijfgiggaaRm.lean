/-
  Chapter 5: robins as lists of flows: validity, joining, leaving, turns, taking; plain mathematics. Conditions: none; every lemma says what it asks.
-/
import Derived.Test.YtehokkijfgiggaaQm
namespace Go.Proofs.Ytehokkijfgiggaa
open Go.RowKit

structure Flw where
  peer : Int
  dfc : Int
  ws : List Pkt
structure VF (q : Int) (f : Flw) : Prop where
  p0 : 0 ≤ f.peer
  p7 : f.peer ≤ 7
  d0 : 0 ≤ f.dfc
  d1 : f.dfc < q + 100
  n0 : 0 < f.ws.length
  ok : okB f.ws = true
  own : ∀ p ∈ f.ws, p.peer = f.peer
def Apart (fs : List Flw) : Prop := fs.Pairwise (fun a b => a.peer ≠ b.peer)
structure RV (q : Int) (fs : List Flw) : Prop where
  q0 : 1 ≤ q
  q1 : q ≤ 500
  all : ∀ f ∈ fs, VF q f
  apart : Apart fs
open Classical in
noncomputable def vfB (q : Int) (f : Flw) : Bool := decide (VF q f)
open Classical in
noncomputable def rvB (q : Int) (fs : List Flw) : Bool := decide (RV q fs)
open Classical in
noncomputable def rsB (q : Int) (fs : List Flw) (q2 : Int) (gs : List Flw) : Bool := decide (q = q2 ∧ fs = gs)
theorem rv_iff {q : Int} {fs : List Flw} : rvB q fs = true ↔ RV q fs := by simp [rvB]
theorem rv_yes {q : Int} {fs : List Flw} (h : RV q fs) : rvB q fs = true := rv_iff.2 h
theorem rv_no {q : Int} {fs : List Flw} (h : ¬ RV q fs) : rvB q fs = false := by simp [rvB, h]
theorem rv_not {q : Int} {fs : List Flw} (h : rvB q fs = false) : ¬ RV q fs := fun k => by rw [rv_yes k] at h; cases h
theorem vf_iff {q : Int} {f : Flw} : vfB q f = true ↔ VF q f := by simp [vfB]
theorem vf_no {q : Int} {f : Flw} (h : ¬ VF q f) : vfB q f = false := by simp [vfB, h]
theorem rs_refl (q : Int) (fs : List Flw) : rsB q fs q fs = true := by simp [rsB]
theorem rs_iff {q q2 : Int} {fs gs : List Flw} : rsB q fs q2 gs = true ↔ q = q2 ∧ fs = gs := by simp [rsB]
theorem rs_no {q q2 : Int} {fs gs : List Flw} (h : ¬ (q = q2 ∧ fs = gs)) : rsB q fs q2 gs = false := by simp [rsB, h]
theorem flw_ext {f g : Flw} (h0 : f.peer = g.peer) (h1 : f.dfc = g.dfc) (h2 : f.ws = g.ws) : f = g := by
  cases f; cases g; simp_all

theorem pig : ∀ (n : Nat) (l : List Int), l.Pairwise (fun a b => a ≠ b) → (∀ x ∈ l, 0 ≤ x ∧ x < n) → l.length ≤ n := by
  intro n
  induction n with
  | zero =>
    intro l _ h
    cases l with
    | nil => simp
    | cons a r => have := h a (by simp); omega
  | succ n ih =>
    intro l hp h
    have key : ∀ l : List Int, l.Pairwise (fun a b => a ≠ b) → l.length ≤ (l.filter (fun x => !(x == (n : Int)))).length + 1 := by
      intro l
      induction l with
      | nil => simp
      | cons a r ihr =>
        intro hp
        have hp' := List.pairwise_cons.1 hp
        by_cases ha : a = (n : Int)
        · have e : (r.filter (fun x => !(x == (n : Int)))) = r := List.filter_eq_self.2 fun x hx => by
            have := hp'.1 x hx
            simp; omega
          simp [ha, e]
        · have e : ((a :: r).filter (fun x => !(x == (n : Int)))) = a :: r.filter (fun x => !(x == (n : Int))) := by simp [ha]
          rw [e]
          have := ihr hp'.2
          simp only [List.length_cons]; omega
    have h1 := key l hp
    have h2 := ih (l.filter (fun x => !(x == (n : Int)))) (hp.filter _) fun x hx => by
      have hm := List.mem_filter.1 hx
      have := h x hm.1
      have : x ≠ (n : Int) := by simpa using hm.2
      omega
    omega
theorem rv_len {q : Int} {fs : List Flw} (h : RV q fs) : fs.length ≤ 8 := by
  have ha : (fs.map Flw.peer).Pairwise (fun a b => a ≠ b) := List.pairwise_map.2 h.apart
  have := pig 8 (fs.map Flw.peer) ha fun x hx => by
    obtain ⟨f, hf, rfl⟩ := List.mem_map.1 hx
    have hv := h.all f hf
    have := hv.p0
    have := hv.p7
    exact ⟨hv.p0, by omega⟩
  simpa using this
theorem rv_tail {q : Int} {f : Flw} {r : List Flw} (h : RV q (f :: r)) : RV q r := ⟨h.q0, h.q1, fun g hg => h.all g (List.mem_cons_of_mem _ hg), (List.pairwise_cons.1 h.apart).2⟩
theorem rv_nil {q : Int} (h0 : 1 ≤ q) (h1 : q ≤ 500) : RV q [] := ⟨h0, h1, fun f h => absurd h (by simp), List.Pairwise.nil⟩
theorem rv_snoc {q : Int} {r : List Flw} {f : Flw} (h : RV q r) (hf : VF q f) (hp : ∀ g ∈ r, g.peer ≠ f.peer) : RV q (r ++ [f]) :=
  ⟨h.q0, h.q1, fun g hg => by
    rcases List.mem_append.1 hg with hg | hg
    · exact h.all g hg
    · obtain rfl : g = f := by simpa using hg
      exact hf, List.pairwise_append.2 ⟨h.apart, List.pairwise_singleton _ _, fun a ha b hb => by
    obtain rfl : b = f := by simpa using hb
    exact hp a ha⟩⟩
theorem rv_cons {q : Int} {r : List Flw} {f : Flw} (h : RV q r) (hf : VF q f) (hp : ∀ g ∈ r, f.peer ≠ g.peer) : RV q (f :: r) :=
  ⟨h.q0, h.q1, fun g hg => by
    rcases List.mem_cons.1 hg with rfl | hg
    · exact hf
    · exact h.all g hg, List.pairwise_cons.2 ⟨hp, h.apart⟩⟩
theorem rv_head {q : Int} {f : Flw} {r : List Flw} (h : RV q (f :: r)) : VF q f ∧ ∀ g ∈ r, f.peer ≠ g.peer := ⟨h.all f (by simp), (List.pairwise_cons.1 h.apart).1⟩
theorem vf_wait {q : Int} {f : Flw} (h : VF q f) : ∃ p ws, f.ws = p :: ws ∧ 1 ≤ p.size ∧ p.size ≤ 100 ∧ okB ws = true ∧ (∀ x ∈ ws, x.peer = f.peer) ∧ p.peer = f.peer := by
  rcases hw : f.ws with _ | ⟨p, ws⟩
  · have := h.n0; rw [hw] at this; simp at this
  · have ho := h.ok
    have hown := h.own
    rw [hw] at ho hown
    have h1 := ok_of ho
    have h2 := vld_size (ok_at ho (k := 0) rfl)
    exact ⟨p, ws, rfl, h2.1, h2.2, ok_mk (by have := h1.1; simp at this; omega) (by have := h1.2; simp at this; simpa using this.2), fun x hx => hown x (by simp [hx]), hown p (by simp)⟩

/-! The flow of a peer -/
def fix (fs : List Flw) (x : Int) : Nat := fs.findIdx (fun f => f.peer == x)
def wOf : List Flw → Int → List Pkt
  | [], _ => []
  | f :: r, x => if f.peer = x then f.ws else wOf r x
theorem fix_lt {fs : List Flw} {x : Int} (h : fix fs x < fs.length) : ∃ f, fs[fix fs x]? = some f ∧ f.peer = x := by
  refine ⟨fs[fix fs x], List.getElem?_eq_getElem h, ?_⟩
  have := List.findIdx_getElem (xs := fs) (p := fun f : Flw => f.peer == x) (w := h)
  rw [beq_iff_eq] at this
  exact this
theorem fix_le (fs : List Flw) (x : Int) : fix fs x ≤ fs.length := List.findIdx_le_length
theorem fix_before {fs : List Flw} {x : Int} {k : Nat} {f : Flw} (hk : k < fix fs x) (hf : fs[k]? = some f) : ¬ f.peer = x := by
  have h1 := List.not_of_lt_findIdx (p := fun f : Flw => f.peer == x) (xs := fs) (i := k) hk
  have hlt : k < fs.length := Nat.lt_of_lt_of_le hk (fix_le fs x)
  rw [List.getElem?_eq_getElem hlt] at hf
  rw [← Option.some.inj hf]
  simpa using h1
theorem fix_eq {fs : List Flw} {x : Int} {k : Nat} {f : Flw} (hf : fs[k]? = some f) (hx : f.peer = x) (hb : ∀ j g, j < k → fs[j]? = some g → ¬ g.peer = x) : fix fs x = k := by
  have hlt : k < fs.length := by
    rcases Nat.lt_or_ge k fs.length with h | h
    · exact h
    · rw [List.getElem?_eq_none h] at hf; cases hf
  rcases Nat.lt_trichotomy (fix fs x) k with h | h | h
  · obtain ⟨g, hg, hgx⟩ := fix_lt (fs := fs) (x := x) (by omega)
    exact absurd hgx (hb _ g h hg)
  · exact h
  · exact absurd hx (fix_before h hf)
theorem fix_none {fs : List Flw} {x : Int} (hb : ∀ f ∈ fs, ¬ f.peer = x) : fix fs x = fs.length := by
  rcases Nat.lt_or_ge (fix fs x) fs.length with h | h
  · obtain ⟨f, hf, hx⟩ := fix_lt h
    exact absurd hx (hb f (List.mem_of_getElem? hf))
  · have := fix_le fs x; omega
theorem w_fix {fs : List Flw} {x : Int} {f : Flw} (h : fs[fix fs x]? = some f) : wOf fs x = f.ws := by
  induction fs with
  | nil => simp at h
  | cons g r ih =>
    by_cases hg : g.peer = x
    · have e : fix (g :: r) x = 0 := by simp [fix, List.findIdx_cons, hg]
      rw [e] at h
      obtain rfl : g = f := by simpa using h
      simp [wOf, hg]
    · have hb : (g.peer == x) = false := by simp [hg]
      have e : fix (g :: r) x = fix r x + 1 := by simp only [fix, List.findIdx_cons, hb, cond_false]
      rw [e] at h
      simp only [wOf, hg, if_false]
      exact ih (by simpa using h)
theorem w_none {fs : List Flw} {x : Int} (h : ∀ f ∈ fs, ¬ f.peer = x) : wOf fs x = [] := by
  induction fs with
  | nil => rfl
  | cons g r ih => simp only [wOf, h g (by simp), if_false]; exact ih fun f hf => h f (by simp [hf])
theorem w_far {fs : List Flw} {x : Int} (h : ¬ fix fs x < fs.length) : wOf fs x = [] := w_none fun f hf hx => by
  obtain ⟨k, hk, e⟩ := List.getElem_of_mem hf
  exact fix_before (k := k) (x := x) (fs := fs) (by omega) (by rw [List.getElem?_eq_getElem hk, e]) hx
theorem w_mem {fs : List Flw} {f : Flw} (ha : Apart fs) (h : f ∈ fs) : wOf fs f.peer = f.ws := by
  induction fs with
  | nil => simp at h
  | cons g r ih =>
    have hp := List.pairwise_cons.1 ha
    rcases List.mem_cons.1 h with rfl | h
    · simp [wOf]
    · have : ¬ g.peer = f.peer := hp.1 f h
      simp only [wOf, this, if_false]
      exact ih hp.2 h
theorem w_append (a b : List Flw) (x : Int) (h : ∀ f ∈ a, ¬ f.peer = x) : wOf (a ++ b) x = wOf b x := by
  induction a with
  | nil => rfl
  | cons g r ih => simp only [List.cons_append, wOf, h g (by simp), if_false]; exact ih fun f hf => h f (by simp [hf])
theorem w_append2 (a b : List Flw) (x : Int) (h : ∀ f ∈ b, ¬ f.peer = x) : wOf (a ++ b) x = wOf a x := by
  induction a with
  | nil => simp only [List.nil_append]; rw [w_none h]; rfl
  | cons g r ih => simp only [List.cons_append, wOf, ih]
/-- a flow goes behind the others -/
theorem w_rot {f f' : Flw} {r : List Flw} (hp : ∀ g ∈ r, f.peer ≠ g.peer) (h1 : f'.peer = f.peer) (h2 : f'.ws = f.ws) (x : Int) : wOf (r ++ [f']) x = wOf (f :: r) x := by
  by_cases hx : f.peer = x
  · rw [w_append _ _ _ fun g hg e => hp g hg (hx.trans e.symm)]
    simp [wOf, h1, hx, h2]
  · rw [w_append2 _ _ _ fun g hg => by
      obtain rfl : g = f' := by simpa using hg
      rw [h1]; exact hx]
    simp [wOf, hx]

/-! Joining and leaving -/
def joinL (fs : List Flw) (p : Pkt) : List Flw :=
  match fs[fix fs p.peer]? with
  | some f => fs.set (fix fs p.peer) ⟨f.peer, f.dfc, f.ws ++ [p]⟩
  | none => fs ++ [⟨p.peer, 0, [p]⟩]
def leaveL (fs : List Flw) (x : Int) : List Flw := fs.eraseIdx (fix fs x)
def joinOk (q : Int) (fs : List Flw) (p : Pkt) : Prop := RV q fs ∧ vldB p = true ∧ (wOf fs p.peer).length < 64
theorem join_old {fs : List Flw} {p : Pkt} {f : Flw} (h : fs[fix fs p.peer]? = some f) : joinL fs p = fs.set (fix fs p.peer) ⟨f.peer, f.dfc, f.ws ++ [p]⟩ := by simp [joinL, h]
theorem join_new {fs : List Flw} {p : Pkt} (h : ¬ fix fs p.peer < fs.length) : joinL fs p = fs ++ [⟨p.peer, 0, [p]⟩] := by
  simp [joinL, List.getElem?_eq_none (Nat.le_of_not_lt h)]
theorem mem_set_ne {fs : List Flw} {k : Nat} {f' g : Flw} (h : g ∈ fs.set k f') : g = f' ∨ ∃ j, j ≠ k ∧ fs[j]? = some g := by
  obtain ⟨j, hj⟩ := List.getElem?_of_mem h
  by_cases e : k = j
  · subst e
    rw [List.getElem?_set] at hj
    rw [if_pos rfl] at hj
    split at hj
    · exact .inl (by injection hj with hj; exact hj.symm)
    · cases hj
  · rw [List.getElem?_set_ne e] at hj
    exact .inr ⟨j, fun e2 => e e2.symm, hj⟩
theorem apart_at {fs : List Flw} (h : Apart fs) {i j : Nat} {f g : Flw} (hi : fs[i]? = some f) (hj : fs[j]? = some g) (hp : f.peer = g.peer) : i = j := by
  have hil : i < fs.length := by
    rcases Nat.lt_or_ge i fs.length with h | h
    · exact h
    · rw [List.getElem?_eq_none h] at hi; cases hi
  have hjl : j < fs.length := by
    rcases Nat.lt_or_ge j fs.length with h | h
    · exact h
    · rw [List.getElem?_eq_none h] at hj; cases hj
  rw [List.getElem?_eq_getElem hil] at hi
  rw [List.getElem?_eq_getElem hjl] at hj
  have hi := Option.some.inj hi
  have hj := Option.some.inj hj
  rcases Nat.lt_trichotomy i j with e | e | e
  · exact absurd (by rw [hi, hj]; exact hp) (List.pairwise_iff_getElem.1 h i j hil hjl e)
  · exact e
  · exact absurd (by rw [hi, hj]; exact hp.symm) (List.pairwise_iff_getElem.1 h j i hjl hil e)
theorem apart_set {fs : List Flw} (h : Apart fs) {k : Nat} {f f' : Flw} (hk : fs[k]? = some f) (hp : f'.peer = f.peer) : Apart (fs.set k f') := by
  have e : (fs.set k f').map (·.peer) = fs.map (·.peer) := by
    rw [List.map_set]
    apply List.ext_getElem?
    intro i
    by_cases hi : k = i
    · subst hi
      have hl : k < fs.length := by
        rcases Nat.lt_or_ge k fs.length with h | h
        · exact h
        · rw [List.getElem?_eq_none h] at hk; cases hk
      rw [List.getElem?_set_self (by simpa using hl), List.getElem?_map, hk]
      simp [hp]
    · rw [List.getElem?_set_ne hi]
  have h1 : (fs.map (·.peer)).Pairwise (fun a b => a ≠ b) := List.pairwise_map.2 h
  rw [← e] at h1
  exact List.pairwise_map.1 h1
theorem w_set {fs : List Flw} {k : Nat} {f f' : Flw} (h : Apart fs) (hk : fs[k]? = some f) (hp : f'.peer = f.peer) (x : Int) : wOf (fs.set k f') x = if f.peer = x then f'.ws else wOf fs x := by
  have ha := apart_set h hk hp
  have hl : k < fs.length := by
    rcases Nat.lt_or_ge k fs.length with h | h
    · exact h
    · rw [List.getElem?_eq_none h] at hk; cases hk
  by_cases hx : f.peer = x
  · rw [if_pos hx, ← hx, ← hp]
    exact w_mem ha (List.mem_of_getElem? (List.getElem?_set_self hl))
  · rw [if_neg hx]
    induction fs generalizing k with
    | nil => rfl
    | cons g r ih =>
      cases k with
      | zero =>
        obtain rfl : g = f := by simpa using hk
        have h1 : ¬ f'.peer = x := by rw [hp]; exact hx
        simp [wOf, hx, h1]
      | succ k =>
        have ha' : Apart (g :: r.set k f') := ha
        have := ih (k := k) (List.pairwise_cons.1 h).2 (by simpa using hk) (List.pairwise_cons.1 ha').2 (by simpa using hl)
        simp only [List.set_cons_succ, wOf, this]
theorem rv_join {q : Int} {fs : List Flw} {p : Pkt} (h : joinOk q fs p) : RV q (joinL fs p) := by
  obtain ⟨hv, hp, hl⟩ := h
  have hp' := hp
  simp only [vldB, decide_eq_true_eq] at hp'
  rcases hf : fs[fix fs p.peer]? with _ | f
  · have hn : ¬ fix fs p.peer < fs.length := fun hlt => by rw [List.getElem?_eq_getElem hlt] at hf; cases hf
    rw [join_new hn]
    refine rv_snoc hv ⟨hp'.1, hp'.2.1, Int.le_refl _, by have := hv.q0; show (0 : Int) < q + 100; omega, by simp, by simp [okB, hp], fun x hx => congrArg Pkt.peer (List.mem_singleton.1 hx)⟩ fun g hg e => ?_
    obtain ⟨k, hk, hge⟩ := List.getElem_of_mem hg
    exact fix_before (fs := fs) (x := p.peer) (k := k) (by have := fix_le fs p.peer; omega) (by rw [List.getElem?_eq_getElem hk, hge]) e
  · rw [join_old hf]
    have hfm := hv.all f (List.mem_of_getElem? hf)
    have hpe : f.peer = p.peer := by
      have hlt : fix fs p.peer < fs.length := by
        rcases Nat.lt_or_ge (fix fs p.peer) fs.length with h | h
        · exact h
        · rw [List.getElem?_eq_none h] at hf; cases hf
      obtain ⟨g, hg, hgx⟩ := fix_lt hlt
      rw [hf] at hg
      rw [Option.some.inj hg]; exact hgx
    rw [w_fix hf] at hl
    have hok := ok_of hfm.ok
    refine ⟨hv.q0, hv.q1, fun g hg => ?_, apart_set hv.apart hf rfl⟩
    rcases mem_set_ne hg with rfl | ⟨j, -, hj⟩
    · exact ⟨hfm.p0, hfm.p7, hfm.d0, hfm.d1, by simp, ok_mk (by simp; omega) (by rw [List.all_append, hok.2]; simp [hp]), fun x hx => by
        rcases List.mem_append.1 hx with hx | hx
        · exact hfm.own x hx
        · obtain rfl : x = p := by simpa using hx
          exact hpe.symm⟩
    · exact hv.all g (List.mem_of_getElem? hj)
theorem w_join {fs : List Flw} {p : Pkt} (ha : Apart fs) (x : Int) : wOf (joinL fs p) x = if p.peer = x then wOf fs x ++ [p] else wOf fs x := by
  rcases hf : fs[fix fs p.peer]? with _ | f
  · have hn : ¬ fix fs p.peer < fs.length := fun hlt => by rw [List.getElem?_eq_getElem hlt] at hf; cases hf
    rw [join_new hn]
    have hno : ∀ g ∈ fs, ¬ g.peer = p.peer := fun g hg e => by
      obtain ⟨k, hk, hge⟩ := List.getElem_of_mem hg
      exact fix_before (fs := fs) (x := p.peer) (k := k) (by have := fix_le fs p.peer; omega) (by rw [List.getElem?_eq_getElem hk, hge]) e
    by_cases hx : p.peer = x
    · subst hx
      rw [if_pos rfl, w_append _ _ _ hno, w_none hno]
      simp [wOf]
    · rw [if_neg hx, w_append2 _ _ _ fun g hg => by
        obtain rfl : g = ⟨p.peer, 0, [p]⟩ := by simpa using hg
        exact hx]
  · rw [join_old hf, w_set (f' := ⟨f.peer, f.dfc, f.ws ++ [p]⟩) ha hf rfl]
    have hpe : f.peer = p.peer := by
      have hlt : fix fs p.peer < fs.length := by
        rcases Nat.lt_or_ge (fix fs p.peer) fs.length with h | h
        · exact h
        · rw [List.getElem?_eq_none h] at hf; cases hf
      obtain ⟨g, hg, hgx⟩ := fix_lt hlt
      rw [hf] at hg
      rw [Option.some.inj hg]; exact hgx
    rw [hpe]
    by_cases hx : p.peer = x
    · subst hx
      rw [if_pos rfl, if_pos rfl, w_fix hf]
    · rw [if_neg hx, if_neg hx]
theorem apart_erase {fs : List Flw} (h : Apart fs) (k : Nat) : Apart (fs.eraseIdx k) := List.Pairwise.sublist (List.eraseIdx_sublist fs k) h
theorem rv_leave {q : Int} {fs : List Flw} (h : RV q fs) (x : Int) : RV q (leaveL fs x) := ⟨h.q0, h.q1, fun f hf => h.all f ((List.eraseIdx_sublist fs _).subset hf), apart_erase h.apart _⟩
theorem w_leave {fs : List Flw} (h : Apart fs) (x y : Int) : wOf (leaveL fs x) y = if x = y then [] else wOf fs y := by
  unfold leaveL
  induction fs with
  | nil => simp [wOf]
  | cons g r ih =>
    have hp := List.pairwise_cons.1 h
    by_cases hg : g.peer = x
    · have e : fix (g :: r) x = 0 := by simp [fix, List.findIdx_cons, hg]
      rw [e]
      simp only [List.eraseIdx_zero, List.tail_cons]
      by_cases hxy : x = y
      · rw [if_pos hxy]
        exact w_none fun f hf e => hp.1 f hf (by rw [hg, e, hxy])
      · rw [if_neg hxy]
        simp only [wOf]
        rw [if_neg (by rw [hg]; exact hxy)]
    · have hb : (g.peer == x) = false := by simp [hg]
      have e : fix (g :: r) x = fix r x + 1 := by simp only [fix, List.findIdx_cons, hb, cond_false]
      rw [e]
      simp only [List.eraseIdx_cons_succ, wOf]
      rw [ih hp.2]
      by_cases hxy : x = y
      · rw [if_pos hxy, if_neg (by rw [← hxy]; exact hg), if_pos hxy]
      · rw [if_neg hxy, if_neg hxy]

/-! Turns -/
def may (f : Flw) : Bool := match f.ws with
  | [] => true
  | p :: _ => decide (p.size ≤ f.dfc)
def addq (q : Int) (f : Flw) : Flw := ⟨f.peer, f.dfc + q, f.ws⟩
def trn (q : Int) : Nat → List Flw → List Flw
  | _, [] => []
  | 0, f :: r => f :: r
  | n + 1, f :: r => if may f = true then f :: r else if may (addq q f) = true then addq q f :: r else trn q n (r ++ [addq q f])
def need : List Flw → Nat
  | [] => 0
  | f :: r => (100 - f.dfc).toNat + need r
def turned (q : Int) (fs : List Flw) : List Flw := trn q (need fs) fs
theorem need_append (a b : List Flw) : need (a ++ b) = need a + need b := by
  induction a with
  | nil => simp [need]
  | cons f r ih => simp only [List.cons_append, need, ih]; omega
theorem trn_may {q : Int} {n : Nat} {f : Flw} {r : List Flw} (h : may f = true) : trn q n (f :: r) = f :: r := by
  cases n with
  | zero => rfl
  | succ n => simp [trn, h]
theorem may_of {f : Flw} {p : Pkt} {ws : List Pkt} (h : f.ws = p :: ws) : may f = decide (p.size ≤ f.dfc) := by simp [may, h]
theorem vf_addq {q : Int} {f : Flw} (h0 : 1 ≤ q) (h : VF q f) (hm : may f = false) : VF q (addq q f) := by
  obtain ⟨p, ws, hw, h1, h2, -⟩ := vf_wait h
  rw [may_of hw, decide_eq_false_iff_not] at hm
  have := h.d0
  exact ⟨h.p0, h.p7, by show 0 ≤ f.dfc + q; omega, by show f.dfc + q < q + 100; omega, h.n0, h.ok, h.own⟩
theorem rv_rot {q : Int} {f : Flw} {r : List Flw} (h : RV q (f :: r)) (hm : may f = false) : RV q (r ++ [addq q f]) :=
  rv_snoc (rv_tail h) (vf_addq h.q0 (rv_head h).1 hm) fun g hg e => (rv_head h).2 g hg e.symm
theorem need_rot {q : Int} {f : Flw} {r : List Flw} (h : RV q (f :: r)) (hm : may f = false) : need (r ++ [addq q f]) < need (f :: r) := by
  obtain ⟨p, ws, hw, h1, h2, -⟩ := vf_wait (rv_head h).1
  rw [may_of hw, decide_eq_false_iff_not] at hm
  have := h.q0
  have := (rv_head h).1.d0
  rw [need_append]
  simp only [need, addq]
  omega
theorem trn_enough {q : Int} : ∀ (n m : Nat) (fs : List Flw), RV q fs → need fs ≤ n → need fs ≤ m → trn q n fs = trn q m fs := by
  intro n
  induction n with
  | zero =>
    intro m fs h h0 _
    cases fs with
    | nil => cases m <;> rfl
    | cons f r =>
      rcases hm : may f with _ | _
      · have := need_rot h hm; omega
      · rw [trn_may hm, trn_may hm]
  | succ n ih =>
    intro m fs h h1 h2
    cases fs with
    | nil => cases m <;> rfl
    | cons f r =>
      rcases hm : may f with _ | _
      · have hn := need_rot h hm
        cases m with
        | zero => omega
        | succ m =>
          rcases ha : may (addq q f) with _ | _
          · simp only [trn, hm, ha, Bool.false_eq_true, if_false]
            exact ih m _ (rv_rot h hm) (by omega) (by omega)
          · simp only [trn, hm, ha, Bool.false_eq_true, if_false, if_true]
      · rw [trn_may hm, trn_may hm]
theorem turned_may {q : Int} {f : Flw} {r : List Flw} (h : may f = true) : turned q (f :: r) = f :: r := trn_may h
theorem turned_add {q : Int} {f : Flw} {r : List Flw} (h : RV q (f :: r)) (hm : may f = false) (ha : may (addq q f) = true) : turned q (f :: r) = addq q f :: r := by
  unfold turned
  rw [trn_enough (need (f :: r)) (need (f :: r) + 1) _ h (Nat.le_refl _) (by omega)]
  simp [trn, hm, ha]
theorem turned_rot {q : Int} {f : Flw} {r : List Flw} (h : RV q (f :: r)) (hm : may f = false) (ha : may (addq q f) = false) : turned q (f :: r) = turned q (r ++ [addq q f]) := by
  unfold turned
  rw [trn_enough (need (f :: r)) (need (f :: r) + 1) _ h (Nat.le_refl _) (by omega)]
  have hn := need_rot h hm
  simp only [trn, hm, ha, Bool.false_eq_true, if_false]
  exact trn_enough _ _ _ (rv_rot h hm) (by omega) (Nat.le_refl _)
/-- what stands first when its turn has begun -/
structure Turned (q : Int) (fs : List Flw) (f : Flw) (r : List Flw) : Prop where
  is : turned q fs = f :: r
  rv : RV q (f :: r)
  may : may f = true
  w : ∀ x, wOf (f :: r) x = wOf fs x
  len : (f :: r).length = fs.length
theorem turned_is {q : Int} : ∀ (n : Nat) (fs : List Flw), need fs ≤ n → RV q fs → fs ≠ [] → ∃ f r, Turned q fs f r := by
  intro n
  induction n with
  | zero =>
    intro fs hn h h0
    cases fs with
    | nil => exact absurd rfl h0
    | cons f r =>
      rcases hm : may f with _ | _
      · have := need_rot h hm; omega
      · exact ⟨f, r, turned_may hm, h, hm, fun _ => rfl, rfl⟩
  | succ n ih =>
    intro fs hn h h0
    cases fs with
    | nil => exact absurd rfl h0
    | cons f r =>
      rcases hm : may f with _ | _
      · have hnr := need_rot h hm
        rcases ha : may (addq q f) with _ | _
        · obtain ⟨g, s, hg⟩ := ih (r ++ [addq q f]) (by omega) (rv_rot h hm) (by simp)
          exact ⟨g, s, by rw [turned_rot h hm ha]; exact hg.is, hg.rv, hg.may, fun x => (hg.w x).trans (w_rot (f' := addq q f) (rv_head h).2 rfl rfl x), hg.len.trans (by simp)⟩
        · exact ⟨addq q f, r, turned_add h hm ha, rv_cons (rv_tail h) (vf_addq h.q0 (rv_head h).1 hm) (rv_head h).2, ha, fun x => rfl, rfl⟩
      · exact ⟨f, r, turned_may hm, h, hm, fun _ => rfl, rfl⟩

/-! The next packet -/
def spend (f : Flw) (p : Pkt) (ws : List Pkt) : Flw := ⟨f.peer, f.dfc - p.size, ws⟩
def nxL (q : Int) (fs : List Flw) : List Flw := match turned q fs with
  | [] => []
  | f :: r => match f.ws with
    | [] => f :: r
    | p :: ws => if ws.length = 0 then r else if may (spend f p ws) = true then spend f p ws :: r else r ++ [spend f p ws]
def nxP (q : Int) (fs : List Flw) : Pkt := match turned q fs with
  | [] => ⟨0, 0, 0, 0⟩
  | f :: _ => match f.ws with
    | [] => ⟨0, 0, 0, 0⟩
    | p :: _ => p
structure Nexted (q : Int) (fs : List Flw) (f : Flw) (r : List Flw) (p : Pkt) (ws : List Pkt) : Prop where
  t : Turned q fs f r
  hw : f.ws = p :: ws
  le : p.size ≤ f.dfc
  s1 : 1 ≤ p.size
  s2 : p.size ≤ 100
  isP : nxP q fs = p
  isL : nxL q fs = if ws.length = 0 then r else if may (spend f p ws) = true then spend f p ws :: r else r ++ [spend f p ws]
  rv : RV q (nxL q fs)
  pp : p.peer = f.peer
theorem nexted_is {q : Int} {fs : List Flw} (h : RV q fs) (h0 : fs ≠ []) : ∃ f r p ws, Nexted q fs f r p ws := by
  obtain ⟨f, r, ht⟩ := turned_is _ fs (Nat.le_refl _) h h0
  have hv := (rv_head ht.rv).1
  obtain ⟨p, ws, hw, h1, h2, ho, hown, hpp⟩ := vf_wait hv
  have hm := ht.may
  rw [may_of hw, decide_eq_true_eq] at hm
  have eL : nxL q fs = if ws.length = 0 then r else if may (spend f p ws) = true then spend f p ws :: r else r ++ [spend f p ws] := by simp only [nxL, ht.is, hw]
  refine ⟨f, r, p, ws, ht, hw, hm, h1, h2, by simp only [nxP, ht.is, hw], eL, ?_, hpp⟩
  rw [eL]
  by_cases hz : ws.length = 0
  · rw [if_pos hz]; exact rv_tail ht.rv
  · have hs : VF q (spend f p ws) := ⟨hv.p0, hv.p7, by show 0 ≤ f.dfc - p.size; omega, by have := hv.d1; show f.dfc - p.size < q + 100; omega, by show 0 < ws.length; omega, ho, hown⟩
    rw [if_neg hz]
    split
    · exact rv_cons (rv_tail ht.rv) hs (rv_head ht.rv).2
    · exact rv_snoc (rv_tail ht.rv) hs fun g hg e => (rv_head ht.rv).2 g hg e.symm
theorem w_next {q : Int} {fs : List Flw} {f : Flw} {r : List Flw} {p : Pkt} {ws : List Pkt} (h : Nexted q fs f r p ws) (x : Int) : wOf fs x = if p.peer = x then p :: wOf (nxL q fs) x else wOf (nxL q fs) x := by
  rw [← h.t.w x, h.isL]
  have hp := (rv_head h.t.rv).2
  have hpp := h.pp
  have e : wOf (f :: r) x = if p.peer = x then p :: (if f.peer = x then ws else wOf r x) else wOf r x := by
    simp only [wOf, hpp]
    by_cases hx : f.peer = x
    · rw [if_pos hx, if_pos hx, if_pos hx, h.hw]
    · rw [if_neg hx, if_neg hx]
  rw [e]
  have er : f.peer = x → wOf r x = [] := fun hx => w_none fun g hg e => hp g hg (hx.trans e.symm)
  have e1 : wOf (spend f p ws :: r) x = if f.peer = x then ws else wOf r x := rfl
  by_cases hz : ws.length = 0
  · rw [if_pos hz]
    have hz' : ws = [] := List.eq_nil_of_length_eq_zero hz
    by_cases hx : f.peer = x
    · rw [if_pos (hpp.trans hx), if_pos (hpp.trans hx), if_pos hx, er hx, hz']
    · rw [if_neg (by rw [hpp]; exact hx), if_neg (by rw [hpp]; exact hx)]
  · rw [if_neg hz]
    have e2 : wOf (r ++ [spend f p ws]) x = if f.peer = x then ws else wOf r x := by
      rw [w_rot (f := spend f p ws) (f' := spend f p ws) (r := r) hp rfl rfl x]; exact e1
    rcases hm : may (spend f p ws) with _ | _
    · rw [if_neg (show ¬ false = true from Bool.false_ne_true), e2]
      by_cases hx : f.peer = x
      · rw [if_pos (hpp.trans hx), if_pos (hpp.trans hx), if_pos hx]
      · rw [if_neg (by rw [hpp]; exact hx), if_neg (by rw [hpp]; exact hx), if_neg hx]
    · rw [if_pos (show true = true from rfl), e1]
      by_cases hx : f.peer = x
      · rw [if_pos (hpp.trans hx), if_pos (hpp.trans hx), if_pos hx]
      · rw [if_neg (by rw [hpp]; exact hx), if_neg (by rw [hpp]; exact hx), if_neg hx]
def total : List Flw → Nat
  | [] => 0
  | f :: r => f.ws.length + total r
theorem total_append (a b : List Flw) : total (a ++ b) = total a + total b := by
  induction a with
  | nil => simp [total]
  | cons f r ih => simp only [List.cons_append, total, ih]; omega
theorem total_trn {q : Int} : ∀ (n : Nat) (fs : List Flw), total (trn q n fs) = total fs := by
  intro n
  induction n with
  | zero => intro fs; cases fs <;> rfl
  | succ n ih =>
    intro fs
    cases fs with
    | nil => rfl
    | cons f r =>
      simp only [trn]
      split
      · rfl
      · split
        · rfl
        · rw [ih, total_append]; simp only [total, addq]; omega
theorem total_next {q : Int} {fs : List Flw} {f : Flw} {r : List Flw} {p : Pkt} {ws : List Pkt} (h : Nexted q fs f r p ws) : total fs = total (nxL q fs) + 1 := by
  have e : total (turned q fs) = total fs := total_trn _ _
  rw [h.t.is] at e
  rw [h.isL, ← e]
  have : f.ws.length = ws.length + 1 := by rw [h.hw]; rfl
  split
  · simp only [total]; omega
  · split
    · simp only [total, spend]; omega
    · rw [total_append]; simp only [total, spend]; omega
theorem total_zero {q : Int} {fs : List Flw} (h : RV q fs) (h0 : total fs = 0) : fs = [] := by
  cases fs with
  | nil => rfl
  | cons f r => have := (rv_head h).1.n0; simp only [total] at h0; omega
theorem total_le {q : Int} {fs : List Flw} (h : RV q fs) : total fs ≤ 64 * fs.length := by
  induction fs with
  | nil => simp [total]
  | cons f r ih =>
    have := ih (rv_tail h)
    have := (ok_of (rv_head h).1.ok).1
    simp only [total, List.length_cons]; omega

/-! All, and as many as fit -/
def tkA (q : Int) : Nat → List Flw → List Pkt
  | 0, _ => []
  | _ + 1, [] => []
  | n + 1, f :: r => nxP q (f :: r) :: tkA q n (nxL q (f :: r))
def takeA (q : Int) (fs : List Flw) : List Pkt := tkA q (total fs) fs
def tkB (q : Int) : Nat → Int → List Flw → List Flw × List Pkt
  | 0, _, fs => (fs, [])
  | _ + 1, _, [] => ([], [])
  | n + 1, b, f :: r => if (nxP q (f :: r)).size ≤ b then ((tkB q n (b - (nxP q (f :: r)).size) (nxL q (f :: r))).1, nxP q (f :: r) :: (tkB q n (b - (nxP q (f :: r)).size) (nxL q (f :: r))).2) else (f :: r, [])
def takeB (q : Int) (b : Int) (fs : List Flw) : List Flw × List Pkt := tkB q (total fs) b fs
theorem takeA_nil (q : Int) : takeA q [] = [] := rfl
theorem takeA_cons {q : Int} {fs : List Flw} (h : RV q fs) (h0 : fs ≠ []) : takeA q fs = nxP q fs :: takeA q (nxL q fs) := by
  obtain ⟨f, r, p, ws, hn⟩ := nexted_is h h0
  have ht := total_next hn
  cases fs with
  | nil => exact absurd rfl h0
  | cons g s => unfold takeA; rw [ht]; rfl
theorem takeB_nil (q b : Int) : takeB q b [] = ([], []) := rfl
theorem takeB_yes {q b : Int} {fs : List Flw} (h : RV q fs) (h0 : fs ≠ []) (hb : (nxP q fs).size ≤ b) : takeB q b fs = ((takeB q (b - (nxP q fs).size) (nxL q fs)).1, nxP q fs :: (takeB q (b - (nxP q fs).size) (nxL q fs)).2) := by
  obtain ⟨f, r, p, ws, hn⟩ := nexted_is h h0
  have ht := total_next hn
  cases fs with
  | nil => exact absurd rfl h0
  | cons g s => unfold takeB; rw [ht]; simp only [tkB]; rw [if_pos hb]
theorem takeB_no {q b : Int} {fs : List Flw} (h : RV q fs) (h0 : fs ≠ []) (hb : ¬ (nxP q fs).size ≤ b) : takeB q b fs = (fs, []) := by
  obtain ⟨f, r, p, ws, hn⟩ := nexted_is h h0
  have ht := total_next hn
  cases fs with
  | nil => exact absurd rfl h0
  | cons g s => unfold takeB; rw [ht]; simp only [tkB]; rw [if_neg hb]
/-- by how many wait -/
theorem by_total {q : Int} {motive : List Flw → Prop} (hnil : motive []) (hnext : ∀ fs, RV q fs → fs ≠ [] → motive (nxL q fs) → motive fs) : ∀ fs, RV q fs → motive fs := by
  have key : ∀ (n : Nat) (fs : List Flw), total fs ≤ n → RV q fs → motive fs := by
    intro n
    induction n with
    | zero => intro fs hn h; rw [total_zero h (by omega)]; exact hnil
    | succ n ih =>
      intro fs hn h
      by_cases h0 : fs = []
      · rw [h0]; exact hnil
      · obtain ⟨f, r, p, ws, hx⟩ := nexted_is h h0
        exact hnext fs h h0 (ih _ (by have := total_next hx; omega) hx.rv)
  exact fun fs h => key _ fs (Nat.le_refl _) h
theorem takeA_len {q : Int} : ∀ fs, RV q fs → (takeA q fs).length = total fs := by
  refine by_total rfl fun fs h h0 ih => ?_
  obtain ⟨f, r, p, ws, hx⟩ := nexted_is h h0
  rw [takeA_cons h h0, List.length_cons, ih, total_next hx]
theorem takeA_peer {q : Int} (x : Int) : ∀ fs, RV q fs → ofPeer (takeA q fs) x = wOf fs x := by
  refine by_total rfl fun fs h h0 ih => ?_
  obtain ⟨f, r, p, ws, hx⟩ := nexted_is h h0
  rw [takeA_cons h h0, w_next hx x, hx.isP]
  by_cases hp : p.peer = x
  · rw [if_pos hp, ← ih]; simp [ofPeer, hp]
  · rw [if_neg hp, ← ih]; simp [ofPeer, hp]
theorem takeA_vld {q : Int} : ∀ fs, RV q fs → ∀ p ∈ takeA q fs, 1 ≤ p.size ∧ p.size ≤ 100 := by
  refine by_total (fun p hp => by simp [takeA_nil] at hp) fun fs h h0 ih => ?_
  obtain ⟨f, r, p, ws, hx⟩ := nexted_is h h0
  rw [takeA_cons h h0, hx.isP]
  intro x hm
  rcases List.mem_cons.1 hm with rfl | hm
  · exact ⟨hx.s1, hx.s2⟩
  · exact ih x hm
theorem sizeSum_cons (p : Pkt) (r : List Pkt) : sizeSum (p :: r) = p.size + sizeSum r := rfl
theorem takeA_sum {q : Int} : ∀ fs, RV q fs → sizeSum (takeA q fs) ≤ 100 * total fs ∧ 0 ≤ sizeSum (takeA q fs) := by
  refine by_total ⟨by simp [takeA_nil, sizeSum, total], by simp [takeA_nil, sizeSum]⟩ fun fs h h0 ih => ?_
  obtain ⟨f, r, p, ws, hx⟩ := nexted_is h h0
  rw [takeA_cons h h0, hx.isP, sizeSum_cons, total_next hx]
  have := hx.s1
  have := hx.s2
  omega
/-- with enough bytes, all are taken -/
theorem takeB_all {q : Int} : ∀ fs, RV q fs → ∀ b : Int, sizeSum (takeA q fs) ≤ b → takeB q b fs = ([], takeA q fs) := by
  refine by_total (fun b _ => rfl) fun fs h h0 ih => ?_
  obtain ⟨f, r, p, ws, hx⟩ := nexted_is h h0
  intro b hb
  rw [takeA_cons h h0, sizeSum_cons] at hb
  have := (takeA_sum _ hx.rv).2
  rw [takeB_yes h h0 (by omega), ih _ (by omega), takeA_cons h h0]
/-- what is taken is a beginning of all; the rest is valid; the bytes are enough, and not enough for one more -/
theorem takeB_part {q : Int} : ∀ fs, RV q fs → ∀ b : Int, RV q (takeB q b fs).1 ∧ takeA q fs = (takeB q b fs).2 ++ takeA q (takeB q b fs).1 ∧ (0 ≤ b → sizeSum (takeB q b fs).2 ≤ b) ∧
    ((takeB q b fs).1 ≠ [] → b < sizeSum (takeB q b fs).2 + (nxP q (takeB q b fs).1).size) := by
  intro fs hfs
  refine by_total (motive := fun fs => RV q fs → ∀ b : Int, RV q (takeB q b fs).1 ∧ takeA q fs = (takeB q b fs).2 ++ takeA q (takeB q b fs).1 ∧ (0 ≤ b → sizeSum (takeB q b fs).2 ≤ b) ∧
    ((takeB q b fs).1 ≠ [] → b < sizeSum (takeB q b fs).2 + (nxP q (takeB q b fs).1).size)) (fun h b => ⟨h, rfl, fun hb => hb, fun h => absurd rfl h⟩) (fun fs h h0 ih _ b => ?_) fs hfs hfs
  obtain ⟨f, r, p, ws, hx⟩ := nexted_is h h0
  by_cases hb : (nxP q fs).size ≤ b
  · obtain ⟨i1, i2, i3, i4⟩ := ih hx.rv (b - (nxP q fs).size)
    rw [takeB_yes h h0 hb]
    refine ⟨i1, by rw [takeA_cons h h0, i2]; rfl, fun h0 => ?_, fun hne => ?_⟩
    · have := i3 (by omega)
      dsimp only
      rw [sizeSum_cons]; omega
    · have := i4 hne
      dsimp only
      rw [sizeSum_cons]; omega
  · rw [takeB_no h h0 hb]
    refine ⟨h, rfl, fun h0 => h0, fun _ => ?_⟩
    show b < sizeSum [] + _
    simp only [sizeSum]; omega
theorem next_len {q : Int} {fs : List Flw} {f : Flw} {r : List Flw} {p : Pkt} {ws : List Pkt} (h : Nexted q fs f r p ws) : (nxL q fs).length = fs.length ∨ (nxL q fs).length + 1 = fs.length := by
  have := h.t.len
  rw [h.isL]
  simp only [List.length_cons] at this
  split
  · right; omega
  · split
    · left; simp; omega
    · left; simp; omega
end Go.Proofs.Ytehokkijfgiggaa
