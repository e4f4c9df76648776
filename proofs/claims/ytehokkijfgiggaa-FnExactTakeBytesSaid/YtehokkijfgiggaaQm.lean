/-
  Chapter 3: queues as lists: validity, the heaviest peer, the last packet of a peer, shedding; plain mathematics. Conditions: none; every lemma says what it asks.
-/
import Derived.Test.YtehokkijfgiggaaC1
import Derived.Test.YtehokkijfgiggaaC1b
import Derived.Test.YtehokkijfgiggaaC1c
namespace Go.Proofs.Ytehokkijfgiggaa
open Go.RowKit

/-! Queues as lists -/
def qvB (lim : Int) (ps : List Pkt) : Bool := okB ps && decide (1 ≤ lim ∧ lim ≤ 1000 ∧ sizeSum ps ≤ lim)
theorem qv_of {lim : Int} {ps : List Pkt} (h : qvB lim ps = true) : okB ps = true ∧ 1 ≤ lim ∧ lim ≤ 1000 ∧ sizeSum ps ≤ lim ∧ 0 ≤ sizeSum ps ∧ ps.length ≤ 64 := by
  simp only [qvB, Bool.and_eq_true, decide_eq_true_eq] at h
  have h1 := ok_of h.1
  have h2 := sum_bound ps h1.2
  exact ⟨h.1, h.2.1, h.2.2.1, h.2.2.2, by omega, h1.1⟩
theorem qv_mk {lim : Int} {ps : List Pkt} (h : okB ps = true) (h1 : 1 ≤ lim) (h2 : lim ≤ 1000) (h3 : sizeSum ps ≤ lim) : qvB lim ps = true := by
  simp [qvB, h, h1, h2, h3]
theorem qv_bad {lim : Int} {ps : List Pkt} (h : okB ps = false) : qvB lim ps = false := by simp [qvB, h]
theorem qv_lim {lim : Int} {ps : List Pkt} (h : ¬ (1 ≤ lim ∧ lim ≤ 1000 ∧ sizeSum ps ≤ lim)) : qvB lim ps = false := by
  rw [qvB, decide_eq_false h, Bool.and_false]
theorem ok_mk {ps : List Pkt} (h1 : ps.length ≤ 64) (h2 : ps.all vldB = true) : okB ps = true := by simp [okB, h1, h2]
theorem ok_nil : okB [] = true := rfl
def restOf (ps : List Pkt) (x : Int) : List Pkt := ps.filter (fun p => !(p.peer == x))
theorem restOf_hit {ps : List Pkt} {k : Nat} {p : Pkt} {x : Int} (h : ps[k]? = some p) (hx : p.peer = x) : restOf (ps.take (k + 1)) x = restOf (ps.take k) x := by
  rw [List.take_add_one, h]; simp [restOf, List.filter_append, hx]
theorem restOf_miss {ps : List Pkt} {k : Nat} {p : Pkt} {x : Int} (h : ps[k]? = some p) (hx : ¬ p.peer = x) : restOf (ps.take (k + 1)) x = restOf (ps.take k) x ++ [p] := by
  rw [List.take_add_one, h]; simp [restOf, List.filter_append, hx]
theorem restOf_len (ps : List Pkt) (x : Int) : (restOf ps x).length ≤ ps.length := List.length_filter_le _ _
theorem sizeSum_append (a b : List Pkt) : sizeSum (a ++ b) = sizeSum a + sizeSum b := by
  induction a with
  | nil => simp [sizeSum]
  | cons p r ih => simp only [List.cons_append, sizeSum, ih]; omega
theorem split_sum (ps : List Pkt) (x : Int) : sizeSum (ofPeer ps x) + sizeSum (restOf ps x) = sizeSum ps := by
  induction ps with
  | nil => rfl
  | cons p r ih =>
    by_cases h : p.peer = x
    · have h1 : ofPeer (p :: r) x = p :: ofPeer r x := by simp [ofPeer, h]
      have h2 : restOf (p :: r) x = restOf r x := by simp [restOf, h]
      rw [h1, h2]; simp only [sizeSum]; omega
    · have h1 : ofPeer (p :: r) x = ofPeer r x := by simp [ofPeer, h]
      have h2 : restOf (p :: r) x = p :: restOf r x := by simp [restOf, h]
      rw [h1, h2]; simp only [sizeSum]; omega
theorem all_filter {ps : List Pkt} (f : Pkt → Bool) (h : ps.all vldB = true) : (ps.filter f).all vldB = true := by
  rw [List.all_eq_true] at h ⊢
  exact fun x hx => h x (List.mem_filter.1 hx).1
theorem ok_of_peer {ps : List Pkt} (x : Int) (h : okB ps = true) : okB (ofPeer ps x) = true :=
  ok_mk (Nat.le_trans (ofPeer_len ps x) (ok_of h).1) (all_filter _ (ok_of h).2)
theorem ok_rest {ps : List Pkt} (x : Int) (h : okB ps = true) : okB (restOf ps x) = true :=
  ok_mk (Nat.le_trans (restOf_len ps x) (ok_of h).1) (all_filter _ (ok_of h).2)
theorem qv_rest {lim : Int} {ps : List Pkt} (x : Int) (h : qvB lim ps = true) : qvB lim (restOf ps x) = true := by
  obtain ⟨h1, h2, h3, h4, h5, h6⟩ := qv_of h
  have := split_sum ps x
  have := sum_bound (ofPeer ps x) (ok_of (ok_of_peer x h1)).2
  exact qv_mk (ok_rest x h1) h2 h3 (by omega)
def bytesOf (ps : List Pkt) (x : Int) : Int := sizeSum (ofPeer ps x)
theorem bytes_bd {ps : List Pkt} (h : ps.all vldB = true) (x : Int) : 0 ≤ bytesOf ps x ∧ bytesOf ps x ≤ sizeSum ps := by
  have h1 := split_sum ps x
  have h2 := sum_bound (ofPeer ps x) (all_filter _ h)
  have h3 := sum_bound (restOf ps x) (all_filter _ h)
  unfold bytesOf
  omega
theorem bytes_hit {ps : List Pkt} {k : Nat} {p : Pkt} {x : Int} (h : ps[k]? = some p) (hx : p.peer = x) : bytesOf (ps.take (k + 1)) x = bytesOf (ps.take k) x + p.size := by
  rw [bytesOf, ofPeer_hit h hx, sizeSum_snoc]; rfl
theorem bytes_miss {ps : List Pkt} {k : Nat} {p : Pkt} {x : Int} (h : ps[k]? = some p) (hx : ¬ p.peer = x) : bytesOf (ps.take (k + 1)) x = bytesOf (ps.take k) x := by
  rw [bytesOf, ofPeer_miss h hx]; rfl
theorem mem_size {ps : List Pkt} {p : Pkt} (h : ps.all vldB = true) (hp : p ∈ ps) : p.size ≤ sizeSum ps := by
  induction ps with
  | nil => cases hp
  | cons q r ih =>
    simp only [List.all_cons, Bool.and_eq_true] at h
    have h1 := vld_size h.1
    have h2 := sum_bound r h.2
    simp only [sizeSum]
    rcases List.mem_cons.1 hp with rfl | hp
    · omega
    · have := ih h.2 hp; omega
theorem bytes_mem {ps : List Pkt} {p : Pkt} (h : ps.all vldB = true) (hp : p ∈ ps) : p.size ≤ bytesOf ps p.peer :=
  mem_size (all_filter _ h) (List.mem_filter.2 ⟨hp, by simp⟩)

/-! The heaviest peer -/
def heavyN (ps : List Pkt) : Nat → Nat
  | 0 => 0
  | k + 1 => if bytesOf ps (heavyN ps k) < bytesOf ps k then k else heavyN ps k
def heavy (ps : List Pkt) : Nat := heavyN ps 8
theorem heavyN_yes {ps : List Pkt} {k : Nat} (h : bytesOf ps (heavyN ps k) < bytesOf ps k) : heavyN ps (k + 1) = k := if_pos h
theorem heavyN_no {ps : List Pkt} {k : Nat} (h : ¬ bytesOf ps (heavyN ps k) < bytesOf ps k) : heavyN ps (k + 1) = heavyN ps k := if_neg h
theorem heavyN_one (ps : List Pkt) : heavyN ps 1 = 0 := by simp [heavyN]
theorem heavyN_lt (ps : List Pkt) (k : Nat) : heavyN ps k < k ∨ heavyN ps k = 0 := by
  induction k with
  | zero => exact .inr rfl
  | succ k ih =>
    by_cases h : bytesOf ps (heavyN ps k) < bytesOf ps k
    · rw [heavyN_yes h]; omega
    · rw [heavyN_no h]; omega
theorem heavyN_max (ps : List Pkt) (k : Nat) : ∀ j : Nat, j < k → bytesOf ps j ≤ bytesOf ps (heavyN ps k) := by
  induction k with
  | zero => intro j hj; omega
  | succ k ih =>
    intro j hj
    by_cases h : bytesOf ps (heavyN ps k) < bytesOf ps k
    · rw [heavyN_yes h]
      rcases Nat.lt_or_ge j k with h1 | h1
      · have := ih j h1; omega
      · obtain rfl : j = k := by omega
        omega
    · rw [heavyN_no h]
      rcases Nat.lt_or_ge j k with h1 | h1
      · exact ih j h1
      · obtain rfl : j = k := by omega
        omega
theorem heavyN_first (ps : List Pkt) (k : Nat) : ∀ j : Nat, j < heavyN ps k → bytesOf ps j < bytesOf ps (heavyN ps k) := by
  induction k with
  | zero => intro j hj; simp [heavyN] at hj
  | succ k ih =>
    intro j hj
    by_cases h : bytesOf ps (heavyN ps k) < bytesOf ps k
    · rw [heavyN_yes h] at hj ⊢
      have := heavyN_max ps k j hj
      omega
    · rw [heavyN_no h] at hj ⊢
      exact ih j hj
theorem heavy_le (ps : List Pkt) : heavy ps ≤ 7 := by have := heavyN_lt ps 8; unfold heavy; omega
theorem heavy_max (ps : List Pkt) (x : Nat) (h : x ≤ 7) : bytesOf ps x ≤ bytesOf ps (heavy ps) := heavyN_max ps 8 x (by omega)
theorem heavy_first (ps : List Pkt) (x : Nat) (h : x < heavy ps) : bytesOf ps x < bytesOf ps (heavy ps) := heavyN_first ps 8 x h
theorem vld_peer {p : Pkt} (h : vldB p = true) : 0 ≤ p.peer ∧ p.peer ≤ 7 := by
  simp only [vldB, decide_eq_true_eq] at h
  omega
theorem heavy_pos {ps : List Pkt} (h : ps.all vldB = true) (hne : 0 < ps.length) : 1 ≤ bytesOf ps (heavy ps) := by
  cases ps with
  | nil => simp at hne
  | cons q r =>
    have hq : vldB q = true := by simp only [List.all_cons, Bool.and_eq_true] at h; exact h.1
    obtain ⟨h0, h7⟩ := vld_peer hq
    have h1 := bytes_mem h (List.mem_cons_self (a := q) (l := r))
    have h2 := heavy_max (q :: r) q.peer.toNat (by omega)
    rw [Int.toNat_of_nonneg h0] at h2
    have := vld_size hq
    omega

/-! The last packet of a peer -/
def lastN (ps : List Pkt) (x : Int) : Nat → Int
  | 0 => -1
  | k + 1 => match ps[k]? with
    | some p => if p.peer = x then (k : Int) else lastN ps x k
    | none => lastN ps x k
theorem lastN_hit {ps : List Pkt} {k : Nat} {p : Pkt} {x : Int} (h : ps[k]? = some p) (hx : p.peer = x) : lastN ps x (k + 1) = k := by
  simp [lastN, h, hx]
theorem lastN_miss {ps : List Pkt} {k : Nat} {p : Pkt} {x : Int} (h : ps[k]? = some p) (hx : ¬ p.peer = x) : lastN ps x (k + 1) = lastN ps x k := by
  simp [lastN, h, hx]
theorem lastN_out {ps : List Pkt} {k : Nat} {x : Int} (h : ps[k]? = none) : lastN ps x (k + 1) = lastN ps x k := by
  simp [lastN, h]
theorem lastN_bd (ps : List Pkt) (x : Int) (k : Nat) : -1 ≤ lastN ps x k ∧ lastN ps x k < k := by
  induction k with
  | zero => simp [lastN]
  | succ k ih =>
    rcases h : ps[k]? with _ | p
    · rw [lastN_out h]; omega
    · by_cases hx : p.peer = x
      · rw [lastN_hit h hx]; omega
      · rw [lastN_miss h hx]; omega
theorem last_get (ps : List Pkt) (x : Int) (k : Nat) (h0 : 0 ≤ lastN ps x k) : ps[(lastN ps x k).toNat]? = (ofPeer (ps.take k) x).getLast? ∧ ∃ p, ps[(lastN ps x k).toNat]? = some p ∧ p.peer = x := by
  induction k with
  | zero => simp [lastN] at h0
  | succ k ih =>
    rcases h : ps[k]? with _ | p
    · rw [lastN_out h] at h0 ⊢
      rw [List.take_add_one, h]
      simpa using ih h0
    · by_cases hx : p.peer = x
      · rw [lastN_hit h hx, ofPeer_hit h hx]
        simp [h, hx]
      · rw [lastN_miss h hx] at h0 ⊢
        rw [ofPeer_miss h hx]
        exact ih h0
theorem last_there (ps : List Pkt) (x : Int) (k : Nat) (h : ofPeer (ps.take k) x ≠ []) : 0 ≤ lastN ps x k := by
  induction k with
  | zero => simp [ofPeer] at h
  | succ k ih =>
    rcases hk : ps[k]? with _ | p
    · rw [lastN_out hk]
      rw [List.take_add_one, hk] at h
      exact ih (by simpa using h)
    · by_cases hx : p.peer = x
      · rw [lastN_hit hk hx]; omega
      · rw [lastN_miss hk hx]
        rw [ofPeer_miss hk hx] at h
        exact ih h

/-! Shedding -/
def cutIx (ps : List Pkt) : Nat := (lastN ps (heavy ps) ps.length).toNat
theorem cut_spec {ps : List Pkt} (h : ps.all vldB = true) (hne : 0 < ps.length) :
    lastN ps (heavy ps) ps.length = (cutIx ps : Int) ∧ cutIx ps < ps.length ∧ ∃ p, ps[cutIx ps]? = some p ∧ p.peer = (heavy ps : Int) ∧ (ofPeer ps (heavy ps)).getLast? = some p := by
  have h1 := heavy_pos h hne
  have h2 : ofPeer (ps.take ps.length) (heavy ps) ≠ [] := by
    intro e
    rw [List.take_length] at e
    simp [bytesOf, e, sizeSum] at h1
  have h3 := last_there ps (heavy ps) ps.length h2
  have h4 := lastN_bd ps (heavy ps) ps.length
  obtain ⟨h5, p, h6, h7⟩ := last_get ps (heavy ps) ps.length h3
  rw [List.take_length, h6] at h5
  exact ⟨by unfold cutIx; omega, by unfold cutIx; omega, p, h6, h7, h5.symm⟩
theorem erase_sum {ps : List Pkt} {i : Nat} {p : Pkt} (h : ps[i]? = some p) : sizeSum (ps.eraseIdx i) + p.size = sizeSum ps := by
  induction ps generalizing i with
  | nil => simp at h
  | cons q r ih =>
    cases i with
    | zero =>
      simp only [List.getElem?_cons_zero, Option.some.injEq] at h
      subst h
      simp only [List.eraseIdx_cons_zero, sizeSum]; omega
    | succ i =>
      have := ih (i := i) (by simpa using h)
      simp only [List.eraseIdx_cons_succ, sizeSum]; omega
theorem erase_all {ps : List Pkt} (i : Nat) (h : ps.all vldB = true) : (ps.eraseIdx i).all vldB = true := by
  rw [List.all_eq_true] at h ⊢
  exact fun x hx => h x (List.mem_of_mem_eraseIdx hx)
theorem erase_len {ps : List Pkt} {i : Nat} (h : i < ps.length) : (ps.eraseIdx i).length + 1 = ps.length := by
  rw [List.length_eraseIdx]; split <;> omega
def shedF (lim size : Int) : Nat → List Pkt → List Pkt → List Pkt × List Pkt
  | 0, ps, g => (ps, g)
  | f + 1, ps, g => if lim < sizeSum ps + size then
      match ps[cutIx ps]? with
      | some p => shedF lim size f (ps.eraseIdx (cutIx ps)) (g ++ [p])
      | none => (ps, g)
    else (ps, g)
def shed (lim size : Int) (ps : List Pkt) : List Pkt × List Pkt := shedF lim size ps.length ps []
theorem shed_stop {lim size : Int} {ps g : List Pkt} (h : sizeSum ps + size ≤ lim) : shedF lim size ps.length ps g = (ps, g) := by
  have h' : ¬ lim < sizeSum ps + size := by omega
  cases ps with
  | nil => rfl
  | cons q r => simp only [List.length_cons, shedF, if_neg h']
theorem shed_go {lim size : Int} {ps g : List Pkt} {p : Pkt} (h : lim < sizeSum ps + size) (hc : cutIx ps < ps.length) (hp : ps[cutIx ps]? = some p) :
    shedF lim size ps.length ps g = shedF lim size (ps.eraseIdx (cutIx ps)).length (ps.eraseIdx (cutIx ps)) (g ++ [p]) := by
  have h1 := erase_len hc
  rw [← h1]
  simp only [shedF, if_pos h, hp]
theorem shed_some {lim size : Int} {ps : List Pkt} (hs : size ≤ lim) (h : lim < sizeSum ps + size) : 0 < ps.length := by
  cases ps with
  | nil => simp [sizeSum] at h; omega
  | cons q r => simp
/-- what the rounds of shedding keep -/
theorem shed_facts (lim size : Int) (hs : size ≤ lim) (f : Nat) : ∀ (ps g : List Pkt), ps.length = f → ps.all vldB = true →
    (shedF lim size f ps g).1.all vldB = true ∧ (shedF lim size f ps g).1.length + (shedF lim size f ps g).2.length = ps.length + g.length ∧ sizeSum (shedF lim size f ps g).1 + size ≤ lim ∧
    sizeSum (shedF lim size f ps g).1 + sizeSum (shedF lim size f ps g).2 = sizeSum ps + sizeSum g ∧ g <+: (shedF lim size f ps g).2 ∧
    (lim < sizeSum ps + size → ∃ h p q, (shedF lim size f ps g).2 = h ++ [p] ∧ lim < sizeSum (shedF lim size f ps g).1 + size + p.size ∧ ps[cutIx ps]? = some q ∧ (g ++ [q]) <+: (shedF lim size f ps g).2) := by
  induction f with
  | zero =>
    intro ps g hl hv
    have hn : ps = [] := List.eq_nil_of_length_eq_zero hl
    subst hn
    refine ⟨hv, rfl, by simp [shedF, sizeSum]; omega, rfl, List.prefix_refl _, fun h => ?_⟩
    simp [sizeSum] at h; omega
  | succ f ih =>
    intro ps g hl hv
    by_cases h : lim < sizeSum ps + size
    · obtain ⟨-, hc, p, hp, -, -⟩ := cut_spec hv (shed_some hs h)
      have e : shedF lim size (f + 1) ps g = shedF lim size f (ps.eraseIdx (cutIx ps)) (g ++ [p]) := by
        simp only [shedF, if_pos h, hp]
      have h1 := erase_len hc
      have h2 := erase_sum hp
      obtain ⟨i1, i2, i3, i4, i5, i6⟩ := ih (ps.eraseIdx (cutIx ps)) (g ++ [p]) (by omega) (erase_all _ hv)
      rw [e]
      refine ⟨i1, by rw [i2]; simp; omega, i3, by rw [i4, sizeSum_snoc]; omega, List.IsPrefix.trans (List.prefix_append _ _) i5, fun _ => ?_⟩
      by_cases h' : lim < sizeSum (ps.eraseIdx (cutIx ps)) + size
      · obtain ⟨a, b, c, j1, j2, j3, j4⟩ := i6 h'
        exact ⟨a, b, p, j1, j2, hp, i5⟩
      · have e2 : shedF lim size f (ps.eraseIdx (cutIx ps)) (g ++ [p]) = (ps.eraseIdx (cutIx ps), g ++ [p]) := by
          rw [show f = (ps.eraseIdx (cutIx ps)).length by omega]
          exact shed_stop (by omega)
        rw [e2]
        exact ⟨g, p, p, rfl, by simp only; omega, hp, List.prefix_refl _⟩
    · have e : shedF lim size (f + 1) ps g = (ps, g) := by simp only [shedF, if_neg h]
      rw [e]
      exact ⟨hv, rfl, by simp only; omega, rfl, List.prefix_refl _, fun h' => absurd h' h⟩
theorem shed_qv {lim size : Int} {ps : List Pkt} (h : qvB lim ps = true) (h0 : 0 ≤ size) (hs : size ≤ lim) : qvB lim (shed lim size ps).1 = true := by
  obtain ⟨h1, h2, h3, h4, h5, h6⟩ := qv_of h
  obtain ⟨i1, i2, i3, i4, i5, i6⟩ := shed_facts lim size hs ps.length ps [] rfl (ok_of h1).2
  refine qv_mk (ok_mk ?_ i1) h2 h3 (by unfold shed; omega)
  have : (shedF lim size ps.length ps []).1.length ≤ ps.length := by simp at i2; omega
  unfold shed; omega
theorem of_rest_same (ps : List Pkt) (x : Int) : ofPeer (restOf ps x) x = [] := by
  unfold ofPeer restOf
  rw [List.filter_filter]
  simp
theorem of_rest_other (ps : List Pkt) {x y : Int} (h : y ≠ x) : ofPeer (restOf ps x) y = ofPeer ps y := by
  unfold ofPeer restOf
  rw [List.filter_filter]
  apply List.filter_congr
  intro p _
  by_cases e : p.peer = y
  · simp [e, h]
  · simp [e]
theorem rest_rest (ps : List Pkt) (x : Int) : restOf (restOf ps x) x = restOf ps x := by
  unfold restOf
  rw [List.filter_filter]
  simp
/-- is there room for a packet behind the others? -/
def inQ (lim : Int) (ps : List Pkt) (p : Pkt) : Bool := decide (ps.length < 64 ∧ sizeSum ps + p.size ≤ lim)
theorem qv_push {lim : Int} {ps : List Pkt} {p : Pkt} (h : qvB lim ps = true) (hp : vldB p = true) : qvB lim (ps ++ [p]) = inQ lim ps p := by
  obtain ⟨h1, h2, h3, h4, h5, h6⟩ := qv_of h
  have h7 := (ok_of h1).2
  have h8 : okB (ps ++ [p]) = decide (ps.length < 64) := by
    simp only [okB, List.all_append, h7, List.all_cons, hp, List.all_nil, Bool.and_true, List.length_append, List.length_cons, List.length_nil]
    rw [decide_eq_decide]; omega
  rw [qvB, h8, sizeSum_snoc, inQ, Bool.eq_iff_iff, Bool.and_eq_true, decide_eq_true_eq, decide_eq_true_eq, decide_eq_true_eq]
  omega
theorem qv_tail {lim : Int} {p : Pkt} {r : List Pkt} (h : qvB lim (p :: r) = true) : qvB lim r = true := by
  obtain ⟨h1, h2, h3, h4, h5, h6⟩ := qv_of h
  have h7 := (ok_of h1).2
  simp only [List.all_cons, Bool.and_eq_true] at h7
  have := vld_size h7.1
  simp only [sizeSum] at h4
  simp only [List.length_cons] at h6
  exact qv_mk (ok_mk (by omega) h7.2) h2 h3 (by omega)

/-! The sums of the peers -/
def sums8 (ps : List Pkt) : Array Value := #[.int .i64 (bytesOf ps 0), .int .i64 (bytesOf ps 1), .int .i64 (bytesOf ps 2), .int .i64 (bytesOf ps 3), .int .i64 (bytesOf ps 4), .int .i64 (bytesOf ps 5), .int .i64 (bytesOf ps 6), .int .i64 (bytesOf ps 7)]
theorem sums8_get (ps : List Pkt) (j : Nat) (h : j < 8) : (sums8 ps)[j]? = some (.int .i64 (bytesOf ps (j : Int))) := by
  have : j = 0 ∨ j = 1 ∨ j = 2 ∨ j = 3 ∨ j = 4 ∨ j = 5 ∨ j = 6 ∨ j = 7 := by omega
  rcases this with rfl | rfl | rfl | rfl | rfl | rfl | rfl | rfl <;> rfl
theorem sums8_set {ps : List Pkt} {k : Nat} {p : Pkt} {j : Nat} (h : ps[k]? = some p) (hj : p.peer = (j : Int)) (h8 : j < 8) :
    (sums8 (ps.take k)).setIfInBounds j (.int .i64 (bytesOf (ps.take k) (j : Int) + p.size)) = sums8 (ps.take (k + 1)) := by
  have hx : ∀ x : Int, x ≠ j → bytesOf (ps.take (k + 1)) x = bytesOf (ps.take k) x := fun x hx => bytes_miss h (by rw [hj]; exact fun e => hx e.symm)
  have hy := bytes_hit h hj
  have : j = 0 ∨ j = 1 ∨ j = 2 ∨ j = 3 ∨ j = 4 ∨ j = 5 ∨ j = 6 ∨ j = 7 := by omega
  rcases this with rfl | rfl | rfl | rfl | rfl | rfl | rfl | rfl
  · simp only [sums8, ← hy, hx 1 (by decide), hx 2 (by decide), hx 3 (by decide), hx 4 (by decide), hx 5 (by decide), hx 6 (by decide), hx 7 (by decide)]; rfl
  · simp only [sums8, ← hy, hx 0 (by decide), hx 2 (by decide), hx 3 (by decide), hx 4 (by decide), hx 5 (by decide), hx 6 (by decide), hx 7 (by decide)]; rfl
  · simp only [sums8, ← hy, hx 1 (by decide), hx 0 (by decide), hx 3 (by decide), hx 4 (by decide), hx 5 (by decide), hx 6 (by decide), hx 7 (by decide)]; rfl
  · simp only [sums8, ← hy, hx 1 (by decide), hx 2 (by decide), hx 0 (by decide), hx 4 (by decide), hx 5 (by decide), hx 6 (by decide), hx 7 (by decide)]; rfl
  · simp only [sums8, ← hy, hx 1 (by decide), hx 2 (by decide), hx 3 (by decide), hx 0 (by decide), hx 5 (by decide), hx 6 (by decide), hx 7 (by decide)]; rfl
  · simp only [sums8, ← hy, hx 1 (by decide), hx 2 (by decide), hx 3 (by decide), hx 4 (by decide), hx 0 (by decide), hx 6 (by decide), hx 7 (by decide)]; rfl
  · simp only [sums8, ← hy, hx 1 (by decide), hx 2 (by decide), hx 3 (by decide), hx 4 (by decide), hx 5 (by decide), hx 0 (by decide), hx 7 (by decide)]; rfl
  · simp only [sums8, ← hy, hx 1 (by decide), hx 2 (by decide), hx 3 (by decide), hx 4 (by decide), hx 5 (by decide), hx 6 (by decide), hx 0 (by decide)]; rfl
end Go.Proofs.Ytehokkijfgiggaa
