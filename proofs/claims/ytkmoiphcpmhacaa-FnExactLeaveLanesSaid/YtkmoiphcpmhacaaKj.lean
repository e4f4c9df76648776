/-
  Chapter 6: lanes as lists: validity, whose turn it is, taking, joining, leaving, counting; plain mathematics. Conditions: none; every lemma says what it asks. Lanes in memory: rows of robins' headers, the flows behind each; lanes that read as lists. Conditions: none; every lemma says what it asks. Chapter 6: rows of numbers: equality, copies. Conditions: what is copied has at most 4000000000 numbers. Lanes of one's own in memory: the row of robins, the flows of each robin in an interval of blocks, the intervals apart. Conditions: none; every lemma says what it asks. Appending and copying rows 
  Conditions: each lemma says them.
-/
import Derived.Test.YtkmoiphcpmhacaaKc
import Derived.Test.YtkmoiphcpmhacaaKh
import Derived.Test.YtkmoiphcpmhacaaKd
import Derived.Test.YtkmoiphcpmhacaaKb
import Derived.Lib.SliceRun
namespace Go.Proofs.Ytkmoiphcpmhacaa
open Go.RowKit

structure Rb where
  q : Int
  fs : List Flw
structure Ln where
  rs : List Rb
  ws : List Int
  cs : List Int
def inLane (fs : List Flw) (k : Int) : Prop := ∀ f ∈ fs, ∀ p ∈ f.ws, p.lane = k
structure RL (k : Int) (r : Rb) : Prop where
  rv : RV r.q r.fs
  ln : inLane r.fs k
structure LV (l : Ln) : Prop where
  n0 : l.rs.length = 4
  n1 : l.ws.length = 4
  n2 : l.cs.length = 4
  rb : ∀ (k : Nat) (r : Rb), l.rs[k]? = some r → RL (k : Int) r
  wt : ∀ (k : Nat) (y : Int), l.ws[k]? = some y → 1 ≤ y ∧ y ≤ 9
  cr : ∀ (k : Nat) (x y : Int), l.cs[k]? = some x → l.ws[k]? = some y → 0 ≤ x ∧ x ≤ y
open Classical in
noncomputable def lvB (l : Ln) : Bool := decide (LV l)
open Classical in
noncomputable def rlB (k : Int) (r : Rb) : Bool := decide (RL k r)
open Classical in
noncomputable def lsB (a b : Ln) : Bool := decide (a = b)
theorem lv_iff {l : Ln} : lvB l = true ↔ LV l := by simp [lvB]
theorem lv_yes {l : Ln} (h : LV l) : lvB l = true := lv_iff.2 h
theorem lv_no {l : Ln} (h : ¬ LV l) : lvB l = false := by simp [lvB, h]
theorem lv_not {l : Ln} (h : lvB l = false) : ¬ LV l := fun k => by rw [lv_yes k] at h; cases h
theorem rl_yes {k : Int} {r : Rb} (h : RL k r) : rlB k r = true := by simp [rlB, h]
theorem rl_no {k : Int} {r : Rb} (h : ¬ RL k r) : rlB k r = false := by simp [rlB, h]
theorem rl_iff {k : Int} {r : Rb} : rlB k r = true ↔ RL k r := by simp [rlB]
theorem ls_refl (a : Ln) : lsB a a = true := by simp [lsB]
theorem ls_iff {a b : Ln} : lsB a b = true ↔ a = b := by simp [lsB]
theorem ls_no {a b : Ln} (h : a ≠ b) : lsB a b = false := by simp [lsB, h]
theorem rb_ext {a b : Rb} (h0 : a.q = b.q) (h1 : a.fs = b.fs) : a = b := by cases a; cases b; simp_all
theorem ln_ext {a b : Ln} (h0 : a.rs = b.rs) (h1 : a.ws = b.ws) (h2 : a.cs = b.cs) : a = b := by cases a; cases b; simp_all
theorem ls_comm (a b : Ln) : lsB a b = lsB b a := by simp only [lsB]; congr 1; exact propext ⟨Eq.symm, Eq.symm⟩
theorem get_lt {α : Type} {xs : List α} {k : Nat} {x : α} (h : xs[k]? = some x) : k < xs.length := by
  rcases Nat.lt_or_ge k xs.length with hl | hl
  · exact hl
  · rw [List.getElem?_eq_none hl] at h; cases h
theorem get_of {α : Type} {xs : List α} {k : Nat} (h : k < xs.length) : ∃ x, xs[k]? = some x := ⟨xs[k], List.getElem?_eq_getElem h⟩

/-! Whose turn it is -/
/-- the lane i has packets, and a credit where one is asked for -/
def Has (l : Ln) (c : Bool) (i : Nat) : Prop := (∃ r, l.rs[i]? = some r ∧ r.fs ≠ []) ∧ (c = true → ∃ x, l.cs[i]? = some x ∧ 0 < x)
/-- the first one of them -/
def Fst (l : Ln) (c : Bool) (i : Nat) : Prop := Has l c i ∧ ∀ j, j < i → ¬ Has l c j
/-- the lane whose turn it is -/
def Turn6 (l : Ln) (i : Nat) : Prop := Fst l true i ∨ ((∀ j, ¬ Has l true j) ∧ Fst l false i)
def Empty6 (l : Ln) : Prop := ∀ r ∈ l.rs, r.fs = []
theorem has_weak {l : Ln} {i : Nat} (h : Has l true i) : Has l false i := ⟨h.1, fun e => by cases e⟩
theorem fst_or (l : Ln) (c : Bool) : (∃ i, Fst l c i) ∨ ∀ j, ¬ Has l c j := by
  by_cases h : ∃ j, Has l c j
  · left
    obtain ⟨j, hj⟩ := h
    induction j using Nat.strongRecOn with
    | ind j ih =>
      by_cases h2 : ∃ k, k < j ∧ Has l c k
      · obtain ⟨k, hk, hh⟩ := h2
        exact ih k hk hh
      · exact ⟨j, hj, fun k hk hh => h2 ⟨k, hk, hh⟩⟩
  · exact .inr fun j hj => h ⟨j, hj⟩
theorem fst_uniq {l : Ln} {c : Bool} {i j : Nat} (h : Fst l c i) (k : Fst l c j) : i = j := by
  rcases Nat.lt_trichotomy i j with e | e | e
  · exact absurd h.1 (k.2 i e)
  · exact e
  · exact absurd k.1 (h.2 j e)
theorem turn_uniq {l : Ln} {i j : Nat} (h : Turn6 l i) (k : Turn6 l j) : i = j := by
  rcases h with h | ⟨h1, h2⟩ <;> rcases k with k | ⟨k1, k2⟩
  · exact fst_uniq h k
  · exact absurd h.1 (k1 i)
  · exact absurd k.1 (h1 j)
  · exact fst_uniq h2 k2
theorem turn_or (l : Ln) : (∃ i, Turn6 l i) ∨ Empty6 l := by
  rcases fst_or l true with ⟨i, h⟩ | h
  · exact .inl ⟨i, .inl h⟩
  · rcases fst_or l false with ⟨i, k⟩ | k
    · exact .inl ⟨i, .inr ⟨h, k⟩⟩
    · refine .inr fun r hr => ?_
      obtain ⟨i, hi⟩ := List.getElem?_of_mem hr
      by_cases e : r.fs = []
      · exact e
      · exact absurd ⟨⟨r, hi, e⟩, fun e => by cases e⟩ (k i)
theorem turn_has {l : Ln} {i : Nat} (h : Turn6 l i) : Has l false i := by
  rcases h with h | h
  · exact has_weak h.1
  · exact h.2.1
theorem empty_no {l : Ln} (h : Empty6 l) (c : Bool) (i : Nat) : ¬ Has l c i := fun ⟨⟨r, hr, hn⟩, _⟩ => hn (h r (List.mem_of_getElem? hr))
theorem turn_get {l : Ln} {i : Nat} (hv : LV l) (h : Turn6 l i) : ∃ r x y, l.rs[i]? = some r ∧ r.fs ≠ [] ∧ l.cs[i]? = some x ∧ l.ws[i]? = some y ∧ RL (i : Int) r ∧ i < 4 ∧ 0 ≤ x ∧ x ≤ y ∧ 1 ≤ y ∧ y ≤ 9 := by
  obtain ⟨⟨r, hr, hn⟩, -⟩ := turn_has h
  have hi : i < 4 := by rw [← hv.n0]; exact get_lt hr
  obtain ⟨x, hx⟩ := get_of (xs := l.cs) (k := i) (by rw [hv.n2]; exact hi)
  obtain ⟨y, hy⟩ := get_of (xs := l.ws) (k := i) (by rw [hv.n1]; exact hi)
  have h1 := hv.cr i x y hx hy
  have h2 := hv.wt i y hy
  exact ⟨r, x, y, hr, hn, hx, hy, hv.rb i r hr, hi, h1.1, h1.2, h2.1, h2.2⟩
/-- a lane without a credit is in turn only where no lane with packets has one -/
theorem turn_zero {l : Ln} {i : Nat} (h : Turn6 l i) {x : Int} (hx : l.cs[i]? = some x) (h0 : ¬ 0 < x) : ∀ j, ¬ Has l true j := by
  rcases h with h | h
  · obtain ⟨x', hx', hp⟩ := h.1.2 rfl
    rw [hx] at hx'
    obtain rfl := Option.some.inj hx'
    exact absurd hp h0
  · exact h.1

/-! The next packet -/
def crs (l : Ln) (i : Nat) : List Int := if 0 < (l.cs[i]?.getD 0) then l.cs else l.ws
def nxR (l : Ln) (i : Nat) : Rb := ⟨((l.rs[i]?).getD ⟨0, []⟩).q, nxL ((l.rs[i]?).getD ⟨0, []⟩).q ((l.rs[i]?).getD ⟨0, []⟩).fs⟩
def nxN (l : Ln) (i : Nat) : Ln := ⟨l.rs.set i (nxR l i), l.ws, (crs l i).set i (((crs l i)[i]?).getD 0 - 1)⟩
def nxQ (l : Ln) (i : Nat) : Pkt := nxP ((l.rs[i]?).getD ⟨0, []⟩).q ((l.rs[i]?).getD ⟨0, []⟩).fs
theorem nxQ_eq {l : Ln} {i : Nat} {r : Rb} (h : l.rs[i]? = some r) : nxQ l i = nxP r.q r.fs := by simp [nxQ, h]
theorem nxR_eq {l : Ln} {i : Nat} {r : Rb} (h : l.rs[i]? = some r) : nxR l i = ⟨r.q, nxL r.q r.fs⟩ := by simp [nxR, h]
theorem crs_yes {l : Ln} {i : Nat} {x : Int} (h : l.cs[i]? = some x) (h0 : 0 < x) : crs l i = l.cs := by simp [crs, h, h0]
theorem crs_no {l : Ln} {i : Nat} {x : Int} (h : l.cs[i]? = some x) (h0 : ¬ 0 < x) : crs l i = l.ws := by simp [crs, h, h0]
theorem nxN_yes {l : Ln} {i : Nat} {r : Rb} {x : Int} (hr : l.rs[i]? = some r) (hx : l.cs[i]? = some x) (h0 : 0 < x) : nxN l i = ⟨l.rs.set i ⟨r.q, nxL r.q r.fs⟩, l.ws, l.cs.set i (x - 1)⟩ := by
  simp [nxN, nxR_eq hr, crs_yes hx h0, hx]
theorem nxN_no {l : Ln} {i : Nat} {r : Rb} {x y : Int} (hr : l.rs[i]? = some r) (hx : l.cs[i]? = some x) (hy : l.ws[i]? = some y) (h0 : ¬ 0 < x) : nxN l i = ⟨l.rs.set i ⟨r.q, nxL r.q r.fs⟩, l.ws, l.ws.set i (y - 1)⟩ := by
  simp [nxN, nxR_eq hr, crs_no hx h0, hy]
theorem inLane_next {q : Int} {fs : List Flw} {k : Int} (h : RV q fs) (h0 : fs ≠ []) (hl : inLane fs k) : inLane (nxL q fs) k ∧ (nxP q fs).lane = k := by
  obtain ⟨f, r, p, ws, N⟩ := nexted_is h h0
  -- every packet that waits behind is one that waited before
  have key : ∀ x : Int, ∀ y ∈ wOf fs x, y.lane = k := by
    intro x y hy
    by_cases hlt : fix fs x < fs.length
    · obtain ⟨g, hg, -⟩ := fix_lt hlt
      rw [w_fix hg] at hy
      exact hl g (List.mem_of_getElem? hg) y hy
    · rw [w_far hlt] at hy; cases hy
  refine ⟨fun g hg y hy => ?_, ?_⟩
  · have h1 := w_mem N.rv.apart hg
    have h2 := w_next N g.peer
    refine key g.peer y ?_
    rw [h2, h1]
    split
    · exact List.mem_cons_of_mem _ hy
    · exact hy
  · have h2 := w_next N p.peer
    rw [if_pos rfl] at h2
    rw [N.isP]
    exact key p.peer p (by rw [h2]; simp)
theorem lv_next {l : Ln} {i : Nat} (hv : LV l) (h : Turn6 l i) : LV (nxN l i) ∧ (nxQ l i).lane = (i : Int) := by
  obtain ⟨r, x, y, hr, hn, hx, hy, hR, hi, x0, xy, y1, y9⟩ := turn_get hv h
  obtain ⟨f, s, p, ws, N⟩ := nexted_is hR.rv hn
  obtain ⟨hl, hp⟩ := inLane_next hR.rv hn hR.ln
  refine ⟨?_, by rw [nxQ_eq hr]; exact hp⟩
  have hrs : ∀ (k : Nat) (z : Rb), (l.rs.set i ⟨r.q, nxL r.q r.fs⟩)[k]? = some z → RL (k : Int) z := by
    intro k z hz
    by_cases hk : i = k
    · subst hk
      rw [List.getElem?_set_self (get_lt hr)] at hz
      obtain rfl := Option.some.inj hz
      exact ⟨N.rv, hl⟩
    · rw [List.getElem?_set_ne hk] at hz
      exact hv.rb k z hz
  by_cases h0 : 0 < x
  · rw [nxN_yes hr hx h0]
    refine ⟨by simp [hv.n0], hv.n1, by simp [hv.n2], hrs, hv.wt, fun k a b ha hb => ?_⟩
    by_cases hk : i = k
    · subst hk
      rw [List.getElem?_set_self (get_lt hx)] at ha
      obtain rfl := Option.some.inj ha
      have := hv.cr i x b hx hb
      omega
    · rw [List.getElem?_set_ne hk] at ha
      exact hv.cr k a b ha hb
  · rw [nxN_no hr hx hy h0]
    refine ⟨by simp [hv.n0], hv.n1, by simp [hv.n1], hrs, hv.wt, fun k a b ha hb => ?_⟩
    by_cases hk : i = k
    · subst hk
      rw [List.getElem?_set_self (get_lt hy)] at ha
      obtain rfl := Option.some.inj ha
      have hb' : l.ws[i]? = some b := hb
      rw [hy] at hb'
      obtain rfl := Option.some.inj hb'
      omega
    · rw [List.getElem?_set_ne hk] at ha
      have hb' : l.ws[k]? = some b := hb
      rw [hb'] at ha
      obtain rfl := Option.some.inj ha
      have := hv.wt k b hb'
      omega

/-! Counting -/
def cnts (l : Ln) : List Int := l.rs.map fun r => (total r.fs : Int)
def totN (l : Ln) : Nat := (l.rs.map fun r => total r.fs).sum
theorem sum_set {xs : List Nat} {i : Nat} {a b : Nat} (h : xs[i]? = some a) : (xs.set i b).sum + a = xs.sum + b := by
  induction xs generalizing i with
  | nil => simp at h
  | cons x r ih =>
    cases i with
    | zero =>
      obtain rfl : x = a := by simpa using h
      simp; omega
    | succ i =>
      have := ih (i := i) (by simpa using h)
      simp; omega
theorem tot_next {l : Ln} {i : Nat} (hv : LV l) (h : Turn6 l i) : totN l = totN (nxN l i) + 1 := by
  obtain ⟨r, x, y, hr, hn, -, -, hR, -⟩ := turn_get hv h
  obtain ⟨f, s, p, ws, N⟩ := nexted_is hR.rv hn
  have ht := total_next N
  have h1 : (l.rs.map fun r => total r.fs)[i]? = some (total r.fs) := by rw [List.getElem?_map, hr]; rfl
  have h2 := sum_set (b := total (nxL r.q r.fs)) h1
  have h3 : totN (nxN l i) = ((l.rs.map fun r => total r.fs).set i (total (nxL r.q r.fs))).sum := by
    unfold totN nxN
    simp only [nxR_eq hr, List.map_set]
  unfold totN at h3 ⊢
  omega
theorem tot_empty {l : Ln} (h : totN l = 0) (hv : LV l) : Empty6 l := by
  intro r hr
  obtain ⟨k, hk⟩ := List.getElem?_of_mem hr
  have h1 : (l.rs.map fun r => total r.fs)[k]? = some (total r.fs) := by rw [List.getElem?_map, hk]; rfl
  have h2 := sum_set (b := 0) h1
  unfold totN at h
  exact total_zero (hv.rb k r hk).rv (by omega)
theorem tot_le {l : Ln} (hv : LV l) : totN l ≤ 2048 := by
  have key : ∀ (xs : List Nat), (∀ x ∈ xs, x ≤ 512) → xs.sum ≤ 512 * xs.length := by
    intro xs
    induction xs with
    | nil => simp
    | cons x r ih =>
      intro h
      have h1 := h x (by simp)
      have h2 := ih fun y hy => h y (by simp [hy])
      simp; omega
  have h := key (l.rs.map fun r => total r.fs) fun x hx => by
    obtain ⟨r, hr, rfl⟩ := List.mem_map.1 hx
    obtain ⟨k, hk⟩ := List.getElem?_of_mem hr
    have h1 := (hv.rb k r hk).rv
    have h2 := total_le h1
    have h3 := rv_len h1
    omega
  rw [List.length_map, hv.n0] at h
  exact h

/-! Taking -/
open Classical in
noncomputable def tkN : Nat → Ln → Ln × List Pkt
  | 0, l => (l, [])
  | n + 1, l => if h : ∃ i, Turn6 l i then ((tkN n (nxN l h.choose)).1, nxQ l h.choose :: (tkN n (nxN l h.choose)).2) else (l, [])
theorem tkN_yes {n : Nat} {l : Ln} {i : Nat} (h : Turn6 l i) : tkN (n + 1) l = ((tkN n (nxN l i)).1, nxQ l i :: (tkN n (nxN l i)).2) := by
  have hx : ∃ i, Turn6 l i := ⟨i, h⟩
  have e : hx.choose = i := turn_uniq hx.choose_spec h
  simp only [tkN, dif_pos hx, e]
theorem tkN_no {n : Nat} {l : Ln} (h : Empty6 l) : tkN n l = (l, []) := by
  cases n with
  | zero => rfl
  | succ n =>
    have hx : ¬ ∃ i, Turn6 l i := fun ⟨i, hi⟩ => empty_no h false i (turn_has hi)
    simp only [tkN, dif_neg hx]
theorem tkN_valid : ∀ (n : Nat) (l : Ln), LV l → LV (tkN n l).1 ∧ totN l = totN (tkN n l).1 + (tkN n l).2.length ∧ (tkN n l).2.length ≤ n ∧ ((tkN n l).2.length = n ∨ Empty6 (tkN n l).1) := by
  intro n
  induction n with
  | zero => intro l h; exact ⟨h, rfl, Nat.le_refl _, .inl rfl⟩
  | succ n ih =>
    intro l h
    rcases turn_or l with ⟨i, hi⟩ | he
    · have h1 := lv_next h hi
      obtain ⟨a1, a2, a3, a4⟩ := ih (nxN l i) h1.1
      have h2 := tot_next h hi
      rw [tkN_yes hi]
      refine ⟨a1, ?_, ?_, ?_⟩
      · simp only [List.length_cons]; omega
      · simp only [List.length_cons]; omega
      · rcases a4 with a4 | a4
        · left; simp only [List.length_cons]; omega
        · exact .inr a4
    · rw [tkN_no he]
      exact ⟨h, rfl, by simp, .inr he⟩
theorem tkN_split : ∀ (a b : Nat) (l : Ln), tkN (a + b) l = ((tkN b (tkN a l).1).1, (tkN a l).2 ++ (tkN b (tkN a l).1).2) := by
  intro a
  induction a with
  | zero => intro b l; simp [tkN]
  | succ a ih =>
    intro b l
    rcases turn_or l with ⟨i, hi⟩ | he
    · rw [show a + 1 + b = (a + b) + 1 by omega, tkN_yes hi, tkN_yes hi, ih]
      rfl
    · rw [tkN_no he, tkN_no he, tkN_no he]
      rfl
/-- one step behind the others -/
theorem tkN_snoc {n : Nat} {l : Ln} {i : Nat} (h : Turn6 (tkN n l).1 i) : tkN (n + 1) l = (nxN (tkN n l).1 i, (tkN n l).2 ++ [nxQ (tkN n l).1 i]) := by
  rw [tkN_split n 1 l, tkN_yes h]
  rfl
theorem tkN_stop {n m : Nat} {l : Ln} (h : Empty6 (tkN n l).1) (hm : n ≤ m) : tkN m l = tkN n l := by
  obtain ⟨d, rfl⟩ : ∃ d, m = n + d := ⟨m - n, by omega⟩
  rw [tkN_split, tkN_no h]
  simp
/-! Leaving and joining -/
def lvN (l : Ln) (x : Int) : Ln := ⟨l.rs.map fun r => ⟨r.q, leaveL r.fs x⟩, l.ws, l.cs⟩
def gone (l : Ln) (x : Int) : List Pkt := (l.rs.map fun r => wOf r.fs x).flatten
theorem inLane_leave {fs : List Flw} {k : Int} (h : inLane fs k) (x : Int) : inLane (leaveL fs x) k := fun f hf => h f ((List.eraseIdx_sublist fs _).subset hf)
theorem lv_leaveN {l : Ln} (hv : LV l) (x : Int) : LV (lvN l x) := by
  refine ⟨by simp [lvN, hv.n0], hv.n1, hv.n2, fun k z hz => ?_, hv.wt, hv.cr⟩
  simp only [lvN, List.getElem?_map] at hz
  rcases hr : l.rs[k]? with _ | r
  · rw [hr] at hz; cases hz
  · rw [hr] at hz
    obtain rfl := Option.some.inj hz
    have h := hv.rb k r hr
    exact ⟨rv_leave h.rv x, inLane_leave h.ln x⟩
def jnN (l : Ln) (k : Nat) (r : Rb) (p : Pkt) : Ln := ⟨l.rs.set k ⟨r.q, joinL r.fs p⟩, l.ws, l.cs⟩
structure JnOk (l : Ln) (p : Pkt) (k : Nat) (r : Rb) : Prop where
  lv : LV l
  pv : vldB p = true
  lane : p.lane = (k : Int)
  get : l.rs[k]? = some r
  jn : joinOk r.q r.fs p
theorem inLane_join {q : Int} {fs : List Flw} {k : Int} {p : Pkt} (_ : RV q fs) (h : inLane fs k) (hp : p.lane = k) : inLane (joinL fs p) k := by
  intro f hf y hy
  rcases hg : fs[fix fs p.peer]? with _ | g
  · have hn : ¬ fix fs p.peer < fs.length := fun hlt => by rw [List.getElem?_eq_getElem hlt] at hg; cases hg
    rw [join_new hn] at hf
    rcases List.mem_append.1 hf with hf | hf
    · exact h f hf y hy
    · obtain rfl := List.mem_singleton.1 hf
      obtain rfl := List.mem_singleton.1 hy
      exact hp
  · rw [join_old hg] at hf
    rcases List.mem_or_eq_of_mem_set hf with hf | rfl
    · exact h f hf y hy
    · rcases List.mem_append.1 hy with hy | hy
      · exact h g (List.mem_of_getElem? hg) y hy
      · obtain rfl := List.mem_singleton.1 hy
        exact hp
theorem lv_join {l : Ln} {p : Pkt} {k : Nat} {r : Rb} (h : JnOk l p k r) : LV (jnN l k r p) := by
  refine ⟨by simp [jnN, h.lv.n0], h.lv.n1, h.lv.n2, fun j z hz => ?_, h.lv.wt, h.lv.cr⟩
  simp only [jnN] at hz
  by_cases hj : k = j
  · subst hj
    rw [List.getElem?_set_self (get_lt h.get)] at hz
    obtain rfl := Option.some.inj hz
    exact ⟨rv_join h.jn, inLane_join h.jn.1 (h.lv.rb k r h.get).ln h.lane⟩
  · rw [List.getElem?_set_ne hj] at hz
    exact h.lv.rb j z hz
end Go.Proofs.Ytkmoiphcpmhacaa
namespace Go.Proofs.Ytkmoiphcpmhacaa
open Go.RowKit

/-- a robin as its two cells say it -/
structure Rh where
  q : Int
  A : Option Addr
  n : Nat
  c : Nat
def Rh.sl (h : Rh) : Value := .slice h.A h.n h.c
def rcells : List Rh → List Value
  | [] => []
  | h :: r => .int .i64 h.q :: .slice h.A h.n h.c :: rcells r
theorem rcells_len (hs : List Rh) : (rcells hs).length = hs.length * 2 := by
  induction hs with
  | nil => rfl
  | cons p r ih => simp only [rcells, List.length_cons, ih]; omega
theorem rcells_append (a b : List Rh) : rcells (a ++ b) = rcells a ++ rcells b := by
  induction a with
  | nil => rfl
  | cons p r ih => simp only [rcells, List.cons_append, ih]
theorem rcells_get (hs : List Rh) (k : Nat) (h : Rh) (e : hs[k]? = some h) : (rcells hs)[k * 2]? = some (.int .i64 h.q) ∧ (rcells hs)[k * 2 + 1]? = some (.slice h.A h.n h.c) := by
  induction hs generalizing k with
  | nil => simp at e
  | cons q r ih =>
    cases k with
    | zero =>
      simp only [List.getElem?_cons_zero, Option.some.injEq] at e
      subst e
      simp [rcells]
    | succ k =>
      have h' : r[k]? = some h := by simpa using e
      have := ih k h'
      have e : (k + 1) * 2 = k * 2 + 2 := by omega
      rw [e]
      simpa [rcells, Nat.add_right_comm] using this
theorem rcells_one (hs : List Rh) : ∀ u ∈ rcells hs, u.oneCell' = true := by
  induction hs with
  | nil => intro u hu; cases hu
  | cons p r ih =>
    intro u hu
    simp only [rcells, List.mem_cons] at hu
    rcases hu with rfl | rfl | hu
    · rfl
    · rfl
    · exact ih u hu
theorem rcells_set (hs : List Rh) (k : Nat) (h : Rh) : ((rcells hs).set (k * 2) (.int .i64 h.q)).set (k * 2 + 1) (.slice h.A h.n h.c) = rcells (hs.set k h) := by
  induction hs generalizing k with
  | nil => simp [rcells]
  | cons p r ih =>
    cases k with
    | zero => simp [rcells]
    | succ k =>
      have e : (k + 1) * 2 = k * 2 + 2 := by omega
      rw [e]
      simp only [rcells, List.set_cons_succ, Nat.add_right_comm _ 2, ← ih k]
def RhAt (w : World) (b o : Nat) (h : Rh) : Prop := w.cell? ⟨b, o, none⟩ = some (.int .i64 h.q) ∧ w.cell? ⟨b, o + 1, none⟩ = some (.slice h.A h.n h.c)
theorem rat_keep {w w' : World} {b o : Nat} {h : Rh} (e : RhAt w b o h) (hk : ∀ x, w'.cell? ⟨b, x, none⟩ = w.cell? ⟨b, x, none⟩) : RhAt w' b o h := ⟨(hk _).trans e.1, (hk _).trans e.2⟩
/-- the slice of n robins at A has the headers hs -/
def HQ (w : World) (A : Option Addr) (n : Nat) (hs : List Rh) : Prop :=
  hs.length = n ∧ (0 < n → ∃ b off, A = some ⟨b, off, none⟩ ∧ b < w.heap.size ∧ ∀ (k : Nat) (h : Rh), hs[k]? = some h → RhAt w b (off + k * 2) h)
section
variable {w w' : World} {A : Option Addr} {n c : Nat} {hs : List Rh}
theorem hq_nil (w : World) (A : Option Addr) : HQ w A 0 [] := ⟨rfl, fun h => absurd h (by omega)⟩
theorem hq_below (h : HQ w A n hs) (hb : Below w.heap.size w w') : HQ w' A n hs :=
  ⟨h.1, fun hn => by
    obtain ⟨b, off, rfl, hlt, hc⟩ := h.2 hn
    exact ⟨b, off, rfl, Nat.lt_of_lt_of_le hlt hb.size, fun k p hp => rat_keep (hc k p hp) fun x => (bcell hb).1 b x hlt⟩⟩
theorem hq_at {k : Nat} (h : HQ w A n hs) (hk : k < n) : ∃ b off p, A = some ⟨b, off, none⟩ ∧ b < w.heap.size ∧ hs[k]? = some p ∧ RhAt w b (off + k * 2) p := by
  obtain ⟨b, off, e, hb, hc⟩ := h.2 (by omega)
  have hl : k < hs.length := by have := h.1; omega
  exact ⟨b, off, hs[k], e, hb, List.getElem?_eq_getElem hl, hc k _ (List.getElem?_eq_getElem hl)⟩
theorem hq_own {base : Nat} {e : TypeId} (h : w.ownsRow base e 2 (.slice A n c) n (rcells hs)) : HQ w A n hs := by
  have hl : hs.length = n := by have := h.1; rw [rcells_len] at this; omega
  refine ⟨hl, fun hn => ?_⟩
  obtain ⟨g, cap, hv, _, hlt⟩ := h.form hn
  have hA : A = some ⟨g, 0, none⟩ := by injection hv
  subst hA
  refine ⟨g, 0, rfl, hlt, fun k p hp => ?_⟩
  have hc := h.cells (g := g) rfl
  have hg := rcells_get hs k p hp
  have ha : ∀ j, (⟨g, 0, none⟩ : Addr).add j = ⟨g, j, none⟩ := fun j => by unfold Addr.add; split <;> simp_all
  simp only [ha] at hc
  rw [Nat.zero_add]
  exact ⟨hc _ _ hg.1, hc _ _ hg.2⟩
theorem hq_take (h : HQ w A n hs) {k : Nat} (hk : k ≤ n) : HQ w A k (hs.take k) :=
  ⟨by rw [List.length_take, h.1]; omega, fun hn => by
    obtain ⟨b, off, e, hb, hc⟩ := h.2 (by omega)
    exact ⟨b, off, e, hb, fun j p hp => hc j p (by
      rw [List.getElem?_take] at hp
      split at hp
      · exact hp
      · cases hp)⟩⟩
theorem hq_old (h : HQ w A n hs) : 0 < n → ∀ b, A.map (·.block) = some b → b < w.heap.size := fun hn b hb => by
  obtain ⟨b', off, rfl, hlt, _⟩ := h.2 hn
  obtain rfl : b' = b := by simpa using hb
  exact hlt
end
/-- the slice of n robins at A reads as rs -/
def RR (w : World) (A : Option Addr) (n : Nat) (rs : List Rb) : Prop :=
  ∃ hs, HQ w A n hs ∧ hs.length = rs.length ∧ (∀ (k : Nat) (h : Rh) (r : Rb), hs[k]? = some h → rs[k]? = some r → h.q = r.q ∧ FR w h.A h.n r.fs) ∧ n ≤ 4000000000
section
variable {w w' : World} {A : Option Addr} {n c : Nat} {rs : List Rb}
theorem rr_nil (w : World) (A : Option Addr) : RR w A 0 [] := ⟨[], hq_nil _ _, rfl, fun k h r e => by simp at e, by omega⟩
theorem rr_len (h : RR w A n rs) : rs.length = n ∧ n ≤ 4000000000 := by
  obtain ⟨hs, h1, h2, h3, h4⟩ := h
  exact ⟨by rw [← h2]; exact h1.1, h4⟩
theorem rr_below (h : RR w A n rs) (hb : Below w.heap.size w w') : RR w' A n rs := by
  obtain ⟨hs, h1, h2, h3, h4⟩ := h
  exact ⟨hs, hq_below h1 hb, h2, fun k g r e1 e2 => ⟨(h3 k g r e1 e2).1, fr_belowF (h3 k g r e1 e2).2 hb⟩, h4⟩
theorem rr_at {k : Nat} (h : RR w A n rs) (hk : k < n) : ∃ b off r A1 n1 c1, A = some ⟨b, off, none⟩ ∧ b < w.heap.size ∧ rs[k]? = some r ∧ w.cell? ⟨b, off + k * 2, none⟩ = some (.int .i64 r.q) ∧ w.cell? ⟨b, off + k * 2 + 1, none⟩ = some (.slice A1 n1 c1) ∧ FR w A1 n1 r.fs := by
  obtain ⟨hs, h1, h2, h3, h4⟩ := h
  obtain ⟨b, off, g, e, hb, hg, c0, c1⟩ := hq_at h1 hk
  obtain ⟨r, hr⟩ := get_of (xs := rs) (k := k) (by rw [← h2, h1.1]; exact hk)
  obtain ⟨a1, a2⟩ := h3 k g r hg hr
  exact ⟨b, off, r, g.A, g.n, g.c, e, hb, hr, by rw [← a1]; exact c0, c1, a2⟩
end
/-- lanes as a value, and what they read as -/
structure LR (w : World) (A : Option Addr) (n : Nat) (B : Option Addr) (m : Nat) (C : Option Addr) (k : Nat) (l : Ln) : Prop where
  r : RR w A n l.rs
  wt : NR w B m l.ws
  cr : NR w C k l.cs
  mb : m ≤ 4000000000
  kb : k ≤ 4000000000
section
variable {w w' : World} {A B C : Option Addr} {n m k : Nat} {l : Ln}
theorem lr_nil (w : World) (A B C : Option Addr) : LR w A 0 B 0 C 0 ⟨[], [], []⟩ := ⟨rr_nil _ _, nr_nil _ _, nr_nil _ _, by omega, by omega⟩
theorem lr_below (h : LR w A n B m C k l) (hb : Below w.heap.size w w') : LR w' A n B m C k l := ⟨rr_below h.r hb, nr_below h.wt hb, nr_below h.cr hb, h.mb, h.kb⟩
theorem lr_alloc (h : LR w A n B m C k l) (o : Obj) : LR (w.alloc o) A n B m C k l := lr_below h (below_alloc (Below.refl _ _) o)
theorem lr_drew (h : LR w A n B m C k l) : LR w.drew A n B m C k l := lr_below h (Below.refl _ _).drew
theorem lr_drewN (h : LR w A n B m C k l) (j : Nat) : LR (w.drewN j) A n B m C k l := lr_below h (below_drewN (Below.refl _ _) j)
theorem lr_len (h : LR w A n B m C k l) : l.rs.length = n ∧ l.ws.length = m ∧ l.cs.length = k := ⟨(rr_len h.r).1, h.wt.1, h.cr.1⟩
theorem lr_four (h : LR w A n B m C k l) (hv : LV l) : n = 4 ∧ m = 4 ∧ k = 4 := by
  have := lr_len h
  have := hv.n0
  have := hv.n1
  have := hv.n2
  omega
end
end Go.Proofs.Ytkmoiphcpmhacaa
namespace Go.Proofs.Ytkmoiphcpmhacaa
open Go.RowKit

open Classical in
noncomputable def isB (us vs : List Int) : Bool := decide (us = vs)
theorem is_refl (us : List Int) : isB us us = true := by simp [isB]
theorem is_yes {us vs : List Int} (h : us = vs) : true = isB us vs := by simp [isB, h]
theorem is_no {us vs : List Int} (h : ¬ us = vs) : false = isB us vs := by simp [isB, h]
theorem takeN_step {us vs : List Int} {k : Nat} {x : Int} (h : us.take k = vs.take k) (hx : us[k]? = some x) (hy : vs[k]? = some x) : us.take (k + 1) = vs.take (k + 1) := by
  rw [List.take_add_one, List.take_add_one, h, hx, hy]
theorem takeN_all {us vs : List Int} {k : Nat} (h : us.take k = vs.take k) (h1 : us.length ≤ k) (h2 : vs.length ≤ k) : us = vs := by
  rw [List.take_of_length_le h1, List.take_of_length_le h2] at h; exact h
def InRelN (us vs : List Int) (w : World) (n : Nat) (i : Value) (wr : World) : Prop :=
  ∃ k : Nat, k ≤ n ∧ i = .int .i64 (k : Int) ∧ us.take k = vs.take k ∧ Below w.heap.size w wr
set_option maxRecDepth 100000 in
set_option maxHeartbeats 2000000 in
theorem eqN_any (A A2 : Option Addr) (n c n2 c2 : Nat) (us vs : List Int) (w : World) (h : NR w A n us) (h2 : NR w A2 n2 vs) (hn : n ≤ 9223372036854775807) (hn2 : n2 ≤ 9223372036854775807) :
    Calls Try.prog 55 #[.slice A n c, .slice A2 n2 c2] w fun e w' => e = .returned (.bool (isB us vs)) ∧ Below w.heap.size w w' := by
  have H := Lib.hid h
  have H2 := Lib.hid h2
  clear h h2
  by_cases hl : n = n2
  · subst hl
    go_enter Try.func55, Try.ntmps55
    go_wp2
    go_loopw [13] (fun i wr => InRelN us vs w n i wr) (fun i _ => n - (intOf i).toNat)
    case atStart => exact ⟨0, Nat.zero_le _, rfl, by simp, Below.refl _ _⟩
    case round =>
      obtain ⟨k, hk, rfl, ht, hbl⟩ := hrel
      have HT := Lib.hid ht
      have HB := Lib.hid hbl
      clear ht
      by_cases hlt : k < n
      · obtain ⟨b, off, x, rfl, hb, hx, c0⟩ := nr_at (nr_below H.out hbl) hlt
        obtain ⟨b2, off2, y, rfl, hb2, hy, d0⟩ := nr_at (nr_below H2.out hbl) hlt
        have HX := Lib.hid hx
        have HY := Lib.hid hy
        have k0 : (0 : Int) ≤ (k : Int) := by omega
        have k1 : (k : Int) < (n : Int) := by omega
        clear hbl hx hy
        by_cases hxy : x = y
        · subst hxy
          go_wp2_with fail
          go_quiet (fail)
          go_wp2
          go_roundw
          case rel => exact ⟨k + 1, by omega, by go_num, takeN_step HT.out HX.out HY.out, below_drewN HB.out _⟩
          case measure => simp [intOf]; omega
        · have hne : (x != y) = true := by simp [hxy]
          have HN := Lib.hid hxy
          clear hxy
          go_wp2_with fail
          go_quiet (fail)
          go_wp2
          go_ret
          exact ⟨ret_bool (is_no (by rintro rfl; have := HX.out; rw [HY.out] at this; injection this with this; exact HN.out this.symm)), below_drewN HB.out _⟩
      · obtain rfl : k = n := by omega
        clear hbl
        go_wp2
        go_ret
        exact ⟨ret_bool (is_yes (takeN_all HT.out (by have := H.out.1; omega) (by have := H2.out.1; omega))), HB.out⟩
  · have hlb : ((n : Int) != (n2 : Int)) = true := by simp; omega
    have HL := Lib.hid hl
    clear hl
    go_enter Try.func55, Try.ntmps55
    go_wp2
    go_ret
    exact ⟨ret_bool (is_no (by rintro rfl; exact HL.out (H.out.1.symm.trans H2.out.1))), Below.refl _ _⟩
def OwnN (w : World) (n : Nat) (us : List Int) (e : Ending) (w' : World) : Prop :=
  ∃ A c, e = .returned (.slice A n c) ∧ w'.ownsRow w.heap.size 3 1 (.slice A n c) n (icells us) ∧ Below w.heap.size w w'
theorem nr_noneN {w : World} {n : Nat} {us : List Int} (h : NR w none n us) : n = 0 ∧ us = [] := by
  have hm : n = 0 := by
    rcases Nat.eq_zero_or_pos n with hm | hm
    · exact hm
    · obtain ⟨b, off, e, _⟩ := h.2 (by rw [h.1]; exact hm)
      cases e
  subst hm
  exact ⟨rfl, List.eq_nil_of_length_eq_zero h.1⟩
theorem app_belowN {w w1 w2 : World} {v : Value} {n : Nat} {xs : List Value} (ho : w1.ownsRow w.heap.size 3 1 v n xs) (hb : Below w.heap.size w w1) (hg : w1.grownBy w2 v.ownBlock) : Below w.heap.size w w2 :=
  hb.grown hg hb.size fun k hk => (ho.lt k hk).1
set_option maxRecDepth 100000 in
set_option maxHeartbeats 1000000 in
theorem cloneN_any (A : Option Addr) (n c : Nat) (us : List Int) (w : World) (h : NR w A n us) (hn : n ≤ 4000000000) :
    Calls Try.prog 75 #[.slice A n c] w (OwnN w n us) := by
  cases A with
  | none =>
    obtain ⟨rfl, rfl⟩ := nr_noneN h
    clear h
    have q23 : ∀ (w : World) (a : Option Addr) (n c n' c' : Nat), (binOp .eql 24 (.slice a n c) (.slice none n' c')).run Try.prog w = .ok (.bool a.isNone) w := fun w a n c n' c' => Lib.run_eql_slice_nil w _ _ a n c n' c' Try.underlying24
    go_enter Try.func75, Try.ntmps75
    go_wp2
    go_ret
    exact ⟨none, 0, rfl, World.ownsRow_nil _ _ _ _, Below.refl _ _⟩
  | some ad =>
    have H := Lib.hid h
    have O0 := Lib.hid (own_emptyI (W := w) (b := w.heap.size) rfl)
    clear h
    have q23 : ∀ (w : World) (a : Option Addr) (n c n' c' : Nat), (binOp .eql 24 (.slice a n c) (.slice none n' c')).run Try.prog w = .ok (.bool a.isNone) w := fun w a n c n' c' => Lib.run_eql_slice_nil w _ _ a n c n' c' Try.underlying24
    go_enter Try.func75, Try.ntmps75
    go_wp2_with (at_builtin; refine wpl_app_ints _ rfl (.tmp 5) (.tmp 6) rfl w.heap.size (.slice (some ⟨w.heap.size, 0, none⟩) 0 0) 0 [] rfl O0.out (some ad) n c us rfl (nr_alloc H.out _) (by omega) (by simp) ?_; intro v1 w3 ho3 hg3 hat3; simp only [List.nil_append, Nat.zero_add] at ho3; have T3 := Lib.hid (app_belowN O0.out (below_alloc (Below.refl _ _) _) hg3); clear hg3 hat3)
    obtain ⟨A2, c2, rfl, hmc, hcm, -⟩ := own_form ho3
    have O3 := Lib.hid ho3
    clear ho3
    go_wp2
    go_ret
    exact ⟨A2, c2, rfl, O3.out, T3.out⟩
end Go.Proofs.Ytkmoiphcpmhacaa
namespace Go.Proofs.Ytkmoiphcpmhacaa
open Go.RowKit

/-- a robin of one's own whose blocks lie from s on and below e -/
def DV (w : World) (s e : Nat) (v : Value) (n : Nat) (hs : List Fh) (fs : List Flw) : Prop :=
  DO w s v n hs fs ∧ (∀ b, v.ownBlock = some b → b < e) ∧ ∀ (k : Nat) (h : Fh), hs[k]? = some h → ∀ b, h.sl.ownBlock = some b → b < e
theorem do_lo6 {w : World} {lo : Nat} {v : Value} {n : Nat} {hs : List Fh} {fs : List Flw} (D : DO w lo v n hs fs) : (∀ b, v.ownBlock = some b → lo ≤ b ∧ b < w.heap.size) ∧ ∀ (k : Nat) (h : Fh), hs[k]? = some h → ∀ b, h.sl.ownBlock = some b → lo ≤ b ∧ b < w.heap.size :=
  ⟨fun b e => D.row.lt b e, fun k h hk b e => (D.all k h _ hk (List.getElem?_eq_getElem (by rw [← D.len]; exact get_lt hk))).2.2.2.1.lt b e⟩
section
variable {w w' : World} {s e lo n : Nat} {v : Value} {hs : List Fh} {fs : List Flw}
theorem dv_all (D : DO w lo v n hs fs) : DV w lo w.heap.size v n hs fs := ⟨D, fun b e => ((do_lo6 D).1 b e).2, fun k h hk b e => ((do_lo6 D).2 k h hk b e).2⟩
theorem dv_grown {row : Option Nat} (D : DV w s e v n hs fs) (hg : w.grownBy w' row) (hr : ∀ b, row = some b → b < s ∨ e ≤ b) : DV w' s e v n hs fs :=
  ⟨do_grown D.1 hg (fun b e1 e2 => by have := hr b e1; have := (do_lo6 D.1).1 b e2; have := D.2.1 b e2; omega) (fun k h hk b e1 e2 => by have := hr b e1; have := (do_lo6 D.1).2 k h hk b e2; have := D.2.2 k h hk b e2; omega), D.2⟩
theorem dv_below (D : DV w s e v n hs fs) (hb : Below w.heap.size w w') : DV w' s e v n hs fs := ⟨do_below D.1 hb, D.2⟩
end
def Up (iv : Nat → Nat × Nat) (k : Nat) (p : Nat × Nat) : Nat → Nat × Nat := fun j => if j = k then p else iv j
theorem up_self (iv : Nat → Nat × Nat) (k : Nat) (p : Nat × Nat) : Up iv k p k = p := by simp [Up]
theorem up_ne (iv : Nat → Nat × Nat) {k j : Nat} (h : j ≠ k) (p : Nat × Nat) : Up iv k p j = iv j := by simp [Up, h]
/-- a block lies outside of the row and of every interval -/
def Out6 (v : Value) (iv : Nat → Nat × Nat) (b : Nat) : Prop := v.ownBlock ≠ some b ∧ ∀ k, b < (iv k).1 ∨ (iv k).2 ≤ b
structure DR (w : World) (lo : Nat) (v : Value) (n : Nat) (hs : List Rh) (rs : List Rb) (iv : Nat → Nat × Nat) (D : Nat → Prop) : Prop where
  row : w.ownsRow lo 37 2 v n (rcells hs)
  len : hs.length = rs.length
  all : ∀ k, D k → ∀ (h : Rh) (r : Rb), hs[k]? = some h → rs[k]? = some r → h.q = r.q ∧ h.n ≤ 4000000000 ∧ lo ≤ (iv k).1 ∧ ∃ fh, DV w (iv k).1 (iv k).2 h.sl h.n fh r.fs
  off : ∀ b, v.ownBlock = some b → ∀ k, b < (iv k).1 ∨ (iv k).2 ≤ b
  apart : ∀ i j, i ≠ j → (iv i).2 ≤ (iv j).1 ∨ (iv j).2 ≤ (iv i).1
  top : ∀ k, (iv k).2 ≤ w.heap.size
section
variable {w w' : World} {lo n : Nat} {v : Value} {hs : List Rh} {rs : List Rb} {iv : Nat → Nat × Nat} {D E : Nat → Prop}
theorem dr_weak (h : DR w lo v n hs rs iv D) (he : ∀ k, E k → D k) : DR w lo v n hs rs iv E := ⟨h.row, h.len, fun k hk => h.all k (he k hk), h.off, h.apart, h.top⟩
theorem dr_mono {lo2 : Nat} (h : DR w lo v n hs rs iv D) (hl : lo2 ≤ lo) : DR w lo2 v n hs rs iv D :=
  ⟨own_mono h.row hl, h.len, fun k hk g r e1 e2 => by
    obtain ⟨a1, a2, a3, a4⟩ := h.all k hk g r e1 e2
    exact ⟨a1, a2, Nat.le_trans hl a3, a4⟩, h.off, h.apart, h.top⟩
theorem dr_below (h : DR w lo v n hs rs iv D) (hb : Below w.heap.size w w') : DR w' lo v n hs rs iv D :=
  ⟨own_below h.row hb, h.len, fun k hk g r e1 e2 => by
    obtain ⟨a1, a2, a3, fh, a4⟩ := h.all k hk g r e1 e2
    exact ⟨a1, a2, a3, fh, dv_below a4 hb⟩, h.off, h.apart, fun k => Nat.le_trans (h.top k) hb.size⟩
theorem own_kept6 {row : Option Nat} {b2 size m : Nat} {e : TypeId} {u : Value} {xs : List Value} (h : w.ownsRow b2 e size u m xs) (hg : w.grownBy w' row) (hr : ∀ b, row = some b → u.ownBlock ≠ some b) : w'.ownsRow b2 e size u m xs := by
  refine h.kept hg ?_
  rcases hub : u.ownBlock with _ | b
  · exact .inl rfl
  · exact .inr fun e => hr b e.symm hub
theorem dr_grown {row : Option Nat} (h : DR w lo v n hs rs iv D) (hg : w.grownBy w' row) (hr : ∀ b, row = some b → Out6 v iv b) : DR w' lo v n hs rs iv D :=
  ⟨own_kept6 h.row hg fun b e => (hr b e).1, h.len, fun k hk g r e1 e2 => by
    obtain ⟨a1, a2, a3, fh, a4⟩ := h.all k hk g r e1 e2
    exact ⟨a1, a2, a3, fh, dv_grown a4 hg fun b e => (hr b e).2 k⟩, h.off, h.apart, fun k => Nat.le_trans (h.top k) hg.size⟩
theorem dr_len (h : DR w lo v n hs rs iv D) : hs.length = n ∧ rs.length = n := by
  have := h.row.1
  rw [rcells_len] at this
  have := h.len
  omega
/-- one robin is stored -/
theorem dr_put {g c k s e : Nat} {h : Rh} {r : Rb} {fh : List Fh} (H : DR w lo (.slice (some ⟨g, 0, none⟩) n c) n hs rs iv D) (hk : k < n) (hq : h.q = r.q) (hn : h.n ≤ 4000000000) (hl : lo ≤ s) (he : e ≤ w.heap.size)
    (hd : DV w s e h.sl h.n fh r.fs) (hg : g < s ∨ e ≤ g) (hap : ∀ j, j ≠ k → (iv j).2 ≤ s ∨ e ≤ (iv j).1) :
    DR ((w.setCell ⟨g, k * 2, none⟩ (.int .i64 h.q)).setCell ⟨g, k * 2 + 1, none⟩ (.slice h.A h.n h.c)) lo (.slice (some ⟨g, 0, none⟩) n c) n (hs.set k h) (rs.set k r) (Up iv k (s, e)) (fun j => j = k ∨ D j) := by
  have hgb : w.grownBy ((w.setCell ⟨g, k * 2, none⟩ (.int .i64 h.q)).setCell ⟨g, k * 2 + 1, none⟩ (.slice h.A h.n h.c)) (some g) := g_set (g_set (g_refl w (some g)) (.inl rfl) _) (.inl rfl) _
  have hlen := dr_len H
  refine ⟨?_, by rw [List.length_set, List.length_set]; exact H.len, fun j hj q r' e1 e2 => ?_, fun b hb j => ?_, fun i j hij => ?_, fun j => ?_⟩
  · have a := ((H.row.stored (k * 2) (.int .i64 h.q)).1.stored (k * 2 + 1) (.slice h.A h.n h.c)).1
    rw [rcells_set] at a
    exact a
  · by_cases hjk : j = k
    · subst hjk
      rw [List.getElem?_set_self (by omega)] at e1 e2
      obtain rfl := Option.some.inj e1
      obtain rfl := Option.some.inj e2
      rw [up_self]
      exact ⟨hq, hn, hl, fh, dv_grown hd hgb fun b e => by injection e with e; subst e; exact hg⟩
    · rw [List.getElem?_set_ne (fun e => hjk e.symm)] at e1 e2
      rw [up_ne _ hjk]
      obtain ⟨a1, a2, a3, fh2, a4⟩ := H.all j (hj.resolve_left hjk) q r' e1 e2
      exact ⟨a1, a2, a3, fh2, dv_grown a4 hgb fun b e => by injection e with e; subst e; exact H.off _ rfl j⟩
  · by_cases hjk : j = k
    · subst hjk
      rw [up_self]
      obtain rfl : g = b := Option.some.inj hb
      exact hg
    · rw [up_ne _ hjk]; exact H.off b hb j
  · by_cases hi : i = k
    · subst hi
      rw [up_self, up_ne _ (fun e => hij e.symm)]
      exact (hap j fun e => hij e.symm).symm
    · rw [up_ne _ hi]
      by_cases hj : j = k
      · subst hj
        rw [up_self]
        exact hap i hi
      · rw [up_ne _ hj]; exact H.apart i j hij
  · have hz := hgb.size
    by_cases hjk : j = k
    · subst hjk; rw [up_self]; exact Nat.le_trans he hz
    · rw [up_ne _ hjk]; exact Nat.le_trans (H.top j) hz
/-- one robin more -/
theorem dr_snoc {s e : Nat} {v' : Value} {h : Rh} {r : Rb} {fh : List Fh} (H : DR w lo v n hs rs iv D) (hr : w'.ownsRow lo 37 2 v' (n + 1) (rcells (hs ++ [h]))) (hg : w.grownBy w' v.ownBlock) (hat : v'.ownBlock = v.ownBlock ∨ v'.ownBlock = some w.heap.size)
    (hq : h.q = r.q) (hn : h.n ≤ 4000000000) (hl : lo ≤ s) (he : e ≤ w.heap.size) (hd : DV w s e h.sl h.n fh r.fs) (ho : ∀ b, v.ownBlock = some b → b < s ∨ e ≤ b) (hap : ∀ j, j ≠ n → (iv j).2 ≤ s ∨ e ≤ (iv j).1) :
    DR w' lo v' (n + 1) (hs ++ [h]) (rs ++ [r]) (Up iv n (s, e)) (fun j => j = n ∨ D j) := by
  have hlen := dr_len H
  have hz := hg.size
  refine ⟨hr, by simp [H.len], fun j hj q r' e1 e2 => ?_, fun b hb j => ?_, fun i j hij => ?_, fun j => ?_⟩
  · by_cases hjk : j = n
    · subst hjk
      rw [List.getElem?_append_right (by omega), show j - hs.length = 0 by omega] at e1
      rw [List.getElem?_append_right (by omega), show j - rs.length = 0 by omega] at e2
      obtain rfl : h = q := Option.some.inj e1
      obtain rfl : r = r' := Option.some.inj e2
      rw [up_self]
      exact ⟨hq, hn, hl, fh, dv_grown hd hg ho⟩
    · have hjl : j < n := by
        have := get_lt e1
        simp at this
        omega
      rw [List.getElem?_append_left (by omega)] at e1 e2
      rw [up_ne _ hjk]
      obtain ⟨a1, a2, a3, fh2, a4⟩ := H.all j (hj.resolve_left hjk) q r' e1 e2
      exact ⟨a1, a2, a3, fh2, dv_grown a4 hg fun b e => H.off b e j⟩
  · rcases hat with h1 | h1
    · rw [h1] at hb
      by_cases hjk : j = n
      · subst hjk; rw [up_self]; exact ho b hb
      · rw [up_ne _ hjk]; exact H.off b hb j
    · obtain rfl : w.heap.size = b := Option.some.inj (h1.symm.trans hb)
      by_cases hjk : j = n
      · subst hjk; rw [up_self]; exact .inr he
      · rw [up_ne _ hjk]; exact .inr (H.top j)
  · by_cases hi : i = n
    · subst hi
      rw [up_self, up_ne _ (fun e => hij e.symm)]
      exact (hap j fun e => hij e.symm).symm
    · rw [up_ne _ hi]
      by_cases hj : j = n
      · subst hj
        rw [up_self]
        exact hap i hi
      · rw [up_ne _ hj]; exact H.apart i j hij
  · by_cases hjk : j = n
    · subst hjk; rw [up_self]; exact Nat.le_trans he hz
    · rw [up_ne _ hjk]; exact Nat.le_trans (H.top j) hz
theorem dr_nil (w : World) (lo : Nat) : DR w lo (.slice none 0 0) 0 [] [] (fun _ => (0, 0)) D :=
  ⟨World.ownsRow_nil _ _ _ _, rfl, fun k _ h r e => (by simp at e), fun b e => (by cases e), fun i j _ => .inl (Nat.le_refl _), fun k => Nat.zero_le _⟩
theorem dr_rr {A : Option Addr} {c : Nat} (h : DR w lo (.slice A n c) n hs rs iv D) (hd : ∀ k, k < n → D k) (hn : n ≤ 4000000000) : RR w A n rs := by
  have hlen := dr_len h
  refine ⟨hs, hq_own h.row, h.len, fun k g r e1 e2 => ?_, hn⟩
  obtain ⟨a1, a2, a3, fh, a4⟩ := h.all k (hd k (by have := get_lt e1; omega)) g r e1 e2
  exact ⟨a1, do_fr a4.1 a2⟩
end
/-- lanes of one's own -/
structure LO (w : World) (lo : Nat) (vA : Value) (n : Nat) (vB : Value) (m : Nat) (vC : Value) (o : Nat) (hs : List Rh) (iv : Nat → Nat × Nat) (l : Ln) : Prop where
  r : DR w lo vA n hs l.rs iv (fun k => k < n)
  b : w.ownsRow lo 3 1 vB m (icells l.ws)
  c : w.ownsRow lo 3 1 vC o (icells l.cs)
  ab : ∀ b, vB.ownBlock = some b → Out6 vA iv b
  ac : ∀ b, vC.ownBlock = some b → Out6 vA iv b
  bc : ∀ b, vB.ownBlock = some b → vC.ownBlock ≠ some b
section
variable {w w' : World} {lo n m o : Nat} {vA vB vC : Value} {hs : List Rh} {iv : Nat → Nat × Nat} {l : Ln}
theorem lo_below (h : LO w lo vA n vB m vC o hs iv l) (hb : Below w.heap.size w w') : LO w' lo vA n vB m vC o hs iv l := ⟨dr_below h.r hb, own_below h.b hb, own_below h.c hb, h.ab, h.ac, h.bc⟩
theorem lo_mono {lo2 : Nat} (h : LO w lo vA n vB m vC o hs iv l) (hl : lo2 ≤ lo) : LO w lo2 vA n vB m vC o hs iv l := ⟨dr_mono h.r hl, own_mono h.b hl, own_mono h.c hl, h.ab, h.ac, h.bc⟩
theorem lo_grown {row : Option Nat} (h : LO w lo vA n vB m vC o hs iv l) (hg : w.grownBy w' row) (h0 : ∀ b, row = some b → Out6 vA iv b ∧ vB.ownBlock ≠ some b ∧ vC.ownBlock ≠ some b) : LO w' lo vA n vB m vC o hs iv l :=
  ⟨dr_grown h.r hg fun b e => (h0 b e).1, own_kept6 h.b hg fun b e => (h0 b e).2.1, own_kept6 h.c hg fun b e => (h0 b e).2.2, h.ab, h.ac, h.bc⟩
/-- a store below -/
theorem lo_far (h : LO w lo vA n vB m vC o hs iv l) {p : Addr} (hp : p.block < lo) (hi : ∀ k, (iv k).1 < (iv k).2 → lo ≤ (iv k).1) (u : Value) : LO (w.setCell p u) lo vA n vB m vC o hs iv l :=
  lo_grown h (g_set (g_refl w (some p.block)) (.inl rfl) u) fun b e => by
    obtain rfl : p.block = b := Option.some.inj e
    refine ⟨⟨fun e => ?_, fun k => ?_⟩, fun e => ?_, fun e => ?_⟩
    · have := (h.r.row.lt _ e).1; omega
    · rcases Nat.lt_or_ge (iv k).1 (iv k).2 with hk | hk
      · have := hi k hk; omega
      · omega
    · have := (h.b.lt _ e).1; omega
    · have := (h.c.lt _ e).1; omega
end
theorem lo_lr {w : World} {lo n c m d o f : Nat} {A B C : Option Addr} {hs : List Rh} {iv : Nat → Nat × Nat} {l : Ln} (h : LO w lo (.slice A n c) n (.slice B m d) m (.slice C o f) o hs iv l) (hn : n ≤ 4000000000) (hm : m ≤ 4000000000) (ho : o ≤ 4000000000) : LR w A n B m C o l :=
  ⟨dr_rr h.r (fun _ h => h) hn, nr_own h.b, nr_own h.c, hm, ho⟩
/-- what a call hands back that made lanes of its own -/
def LnPost (w : World) (l : Ln) (e : Ending) (w' : World) : Prop :=
  ∃ A n c B m d C o f hs iv, e = .returned (.agg #[.slice A n c, .slice B m d, .slice C o f]) ∧ n = l.rs.length ∧ m = l.ws.length ∧ o = l.cs.length ∧ LO w' w.heap.size (.slice A n c) n (.slice B m d) m (.slice C o f) o hs iv l ∧ (∀ k, (iv k).1 < (iv k).2 → w.heap.size ≤ (iv k).1) ∧ Below w.heap.size w w'
end Go.Proofs.Ytkmoiphcpmhacaa
namespace Go.Proofs.Ytkmoiphcpmhacaa
open Go.RowKit

theorem infoRob : (Try.prog.info? 37).map (fun i => (i.zero, i.size, i.bytes)) = some (some (.agg #[.int .i64 0, .slice none 0 0]), 2, 32) := by kernel_rfl
theorem run_app_robs (w : World) (ty : TypeId) (base : Nat) (v : Value) (n : Nat) (ps : List Rh) (hown : w.ownsRow base 37 2 v n (rcells ps))
    (A : Option Addr) (m c : Nat) (qs : List Rh) (hr : HQ w A m qs) (hn : n + m ≤ 4000000000) (hb : base ≤ w.heap.size) :
    ∃ v' w', (Builtin.append_ #[23, 23] ty #[v, .slice A m c]).run Try.prog w = .ok v' w' ∧ w'.ownsRow base 37 2 v' (n + m) (rcells (ps ++ qs)) ∧ w.grownBy w' v.ownBlock ∧
      (v'.ownBlock = v.ownBlock ∨ v'.ownBlock = some w.heap.size) := by
  obtain ⟨i0, hi, hz0, hz1, hz2⟩ := info_parts infoRob
  by_cases h0 : A = none
  · subst h0
    have hm : m = 0 := by
      rcases Nat.eq_zero_or_pos m with hm | hm
      · exact hm
      · obtain ⟨b, off, e, _⟩ := hr.2 hm
        cases e
    subst hm
    have hq : qs = [] := List.eq_nil_of_length_eq_zero hr.1
    subst hq
    exact ⟨v, w, run_app_nil (P := Try.prog) w base 23 ty 37 i0 2 Try.underlying23 hi v n _ hown c, by simpa using hown, g_refl _ _, .inl rfl⟩
  · obtain ⟨ad, rfl⟩ : ∃ ad, A = some ad := by
      cases A with
      | none => exact absurd rfl h0
      | some ad => exact ⟨ad, rfl⟩
    obtain ⟨v', w', e1, e2, e3, _, e5⟩ := run_append_own_at (P := Try.prog) w base 23 ty 37 i0 _ 2 32 Try.underlying23 hi hz0 hz1 hz2 rfl (by decide) v n _ hown ad m c (rcells qs) (by rw [rcells_len, hr.1]) (by
      intro j u hj
      have hjl : j < m * 2 := by
        rcases Nat.lt_or_ge j (rcells qs).length with hl | hl
        · rw [rcells_len, hr.1] at hl; exact hl
        · rw [List.getElem?_eq_none hl] at hj; cases hj
      obtain ⟨b, off, e, hlt, hc⟩ := hr.2 (by omega)
      obtain rfl : ad = ⟨b, off, none⟩ := by injection e
      have ha : ∀ j, (⟨b, off, none⟩ : Addr).add j = ⟨b, off + j, none⟩ := fun j => by unfold Addr.add; split <;> simp_all
      rw [ha]
      have hk : j / 2 < qs.length := by rw [hr.1]; omega
      have hq := hc (j / 2) _ (List.getElem?_eq_getElem hk)
      have hp := rcells_get qs (j / 2) _ (List.getElem?_eq_getElem hk)
      have hcase : j = j / 2 * 2 ∨ j = j / 2 * 2 + 1 := by omega
      generalize j / 2 = k3 at hk hq hp hcase
      obtain ⟨q0, q1⟩ := hq
      obtain ⟨p0, p1⟩ := hp
      rcases hcase with e | e
      · subst e; rw [p0] at hj; have hj := Option.some.inj hj; rw [← hj]; exact q0
      · subst e; rw [p1] at hj; have hj := Option.some.inj hj; rw [← hj, ← Nat.add_assoc]; exact q1) (rcells_one qs) (by unfold maxLen; omega) (by omega) hb
    exact ⟨v', w', e1, by rw [rcells_append]; exact e2, e3, e5⟩
/-- at the list of a plain region's operations -/
theorem wpl_app_robs (w : World) {ops : Array Oper} {rest : List Oper} {o : Oper} {a : Act} {Q : Exit → Act → World → Prop} (hgd : o.guard = none) (s x : Operand)
    (ho : o.op = .call { callee := .builtin .append, args := #[s, x], argTypes := #[23, 23] })
    (base : Nat) (v : Value) (n : Nat) (ps : List Rh) (hs : a.eval s = v) (hown : w.ownsRow base 37 2 v n (rcells ps))
    (A : Option Addr) (m c : Nat) (qs : List Rh) (hx : a.eval x = .slice A m c) (hr : HQ w A m qs) (hn : n + m ≤ 4000000000) (hb : base ≤ w.heap.size)
    (h : ∀ v' w', w'.ownsRow base 37 2 v' (n + m) (rcells (ps ++ qs)) → w.grownBy w' v.ownBlock → (v'.ownBlock = v.ownBlock ∨ v'.ownBlock = some w.heap.size) → wpList Try.prog ops Q rest (a.put o.dst v') w') :
    wpList Try.prog ops Q (o :: rest) a w := by
  refine wpList_plain hgd fun K hK => ?_
  obtain ⟨v', w', hr', h2, h3, h4⟩ := run_app_robs w o.type base v n ps hown A m c qs hr hn hb
  unfold Oper.wp execOp
  simp only [ho, resolve, invoke, builtin, Sem.run_bind, Sem.run_pure, Result.andThen_ok, List.map_toArray, List.map_cons, List.map_nil, hs, hx, hr']
  exact hK _ _ (h v' w' h2 h3 h4)
/-- at a step of a region that draws -/
theorem step_app_robs (w : World) {ops : Array Oper} {o : Oper} {a : Act} {K : Act → World → Prop} {Q : Exit → Act → World → Prop} {E : Prop} (hgd : o.guard = none) (s x : Operand)
    (ho : o.op = .call { callee := .builtin .append, args := #[s, x], argTypes := #[23, 23] })
    (base : Nat) (v : Value) (n : Nat) (ps : List Rh) (hs : a.eval s = v) (hown : w.ownsRow base 37 2 v n (rcells ps))
    (A : Option Addr) (m c : Nat) (qs : List Rh) (hx : a.eval x = .slice A m c) (hr : HQ w A m qs) (hn : n + m ≤ 4000000000) (hb : base ≤ w.heap.size)
    (h : ∀ v' w', w'.ownsRow base 37 2 v' (n + m) (rcells (ps ++ qs)) → w.grownBy w' v.ownBlock → (v'.ownBlock = v.ownBlock ∨ v'.ownBlock = some w.heap.size) → K (a.put o.dst v') w') :
    if Region.wanted o (yielded ops a.tmps) = true then Oper.wp Try.prog o a w K Q else E := by
  have hw : Region.wanted o (yielded ops a.tmps) = true := by simp [Region.wanted, hgd]
  rw [if_pos hw]
  obtain ⟨v', w', hr', h2, h3, h4⟩ := run_app_robs w o.type base v n ps hown A m c qs hr hn hb
  unfold Oper.wp execOp
  simp only [ho, resolve, invoke, builtin, Sem.run_bind, Sem.run_pure, Result.andThen_ok, List.map_toArray, List.map_cons, List.map_nil, hs, hx, hr']
  exact h v' w' h2 h3 h4
theorem hq_single {w : World} {b : Nat} {t : TypeId} {h : Rh} (e : Blk w b t #[.int .i64 h.q, .slice h.A h.n h.c]) : HQ w (some ⟨b, 0, none⟩) 1 [h] :=
  ⟨rfl, fun _ => ⟨b, 0, rfl, blk_lt e, fun k q hk => by
    have hk0 : k = 0 := by
      rcases Nat.eq_zero_or_pos k with e | e
      · exact e
      · rw [List.getElem?_eq_none (by simp; omega)] at hk; cases hk
    subst hk0
    obtain rfl : h = q := by simpa using hk
    exact ⟨blk_cell e 0, blk_cell e 1⟩⟩⟩
theorem own_emptyR {W : World} {b : Nat} (hb : b = W.heap.size) : (W.alloc (.cells #[] 37)).ownsRow W.heap.size 37 2 (.slice (some ⟨b, 0, none⟩) 0 0) 0 (rcells []) := by
  subst hb
  exact ⟨rfl, .inr ⟨W.heap.size, 0, #[], rfl, Nat.le_refl _, blk_new W _ _, Nat.le_refl _, by unfold maxLen; omega, rfl, rfl⟩⟩
/-- what a call hands back that made a row of robins of its own, whose flows are the old ones -/
def OwnPostR (w : World) (n : Nat) (hs : List Rh) (e : Ending) (w' : World) : Prop :=
  ∃ A c, e = .returned (.slice A n c) ∧ w'.ownsRow w.heap.size 37 2 (.slice A n c) n (rcells hs) ∧ Below w.heap.size w w'
set_option maxRecDepth 100000 in
set_option maxHeartbeats 1000000 in
theorem cloneR_any (A : Option Addr) (n c : Nat) (ps : List Rh) (w : World) (h : HQ w A n ps) (hn : n ≤ 4000000000) :
    Calls Try.prog 101 #[.slice A n c] w (OwnPostR w n ps) := by
  cases A with
  | none =>
    have hm : n = 0 := by
      rcases Nat.eq_zero_or_pos n with hm | hm
      · exact hm
      · obtain ⟨b, off, e, _⟩ := h.2 hm
        cases e
    subst hm
    have hq : ps = [] := List.eq_nil_of_length_eq_zero h.1
    subst hq
    clear h
    have q23 : ∀ (w : World) (a : Option Addr) (n c n' c' : Nat), (binOp .eql 23 (.slice a n c) (.slice none n' c')).run Try.prog w = .ok (.bool a.isNone) w := fun w a n c n' c' => Lib.run_eql_slice_nil w _ _ a n c n' c' Try.underlying23
    go_enter Try.func101, Try.ntmps101
    go_wp2
    go_ret
    exact ⟨none, 0, rfl, World.ownsRow_nil _ _ _ _, Below.refl _ _⟩
  | some ad =>
    have H := Lib.hid h
    have O0 := Lib.hid (own_emptyR (W := w) rfl)
    clear h
    have q23 : ∀ (w : World) (a : Option Addr) (n c n' c' : Nat), (binOp .eql 23 (.slice a n c) (.slice none n' c')).run Try.prog w = .ok (.bool a.isNone) w := fun w a n c n' c' => Lib.run_eql_slice_nil w _ _ a n c n' c' Try.underlying23
    go_enter Try.func101, Try.ntmps101
    go_wp2_with (at_builtin; refine wpl_app_robs _ rfl (.tmp 5) (.tmp 6) rfl w.heap.size (.slice (some ⟨w.heap.size, 0, none⟩) 0 0) 0 [] rfl O0.out (some ad) n c ps rfl (hq_below H.out (below_alloc (Below.refl _ _) _)) (by omega) (by simp) ?_; intro v1 w3 ho3 hg3 hat3; clear hat3; simp only [List.nil_append, Nat.zero_add] at ho3; have T3 := Lib.hid (app_belowG O0.out (below_alloc (Below.refl _ _) _) hg3 (by simp)); clear hg3)
    obtain ⟨A2, c2, rfl, hmc, hcm, -⟩ := own_form ho3
    have O3 := Lib.hid ho3
    clear ho3
    go_wp2
    go_ret
    exact ⟨A2, c2, rfl, O3.out, T3.out⟩
end Go.Proofs.Ytkmoiphcpmhacaa
