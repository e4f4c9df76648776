/-
  Chapter 6: plain mathematics for the laws of lanes: what is taken of each lane and peer, no lane waits forever, who leaves, single packets. Conditions: none; every lemma says what it asks. Chapter 6: who leaves all lanes: what is known in the rounds of LeaveLanes, of the program and of the model. Conditions: none; every lemma says what it asks.
  Conditions: each lemma says them.
-/
import Derived.Test.YtkmoiphcpmhacaaKj
import Derived.Test.YtkmoiphcpmhacaaKh
import Derived.Test.YtkmoiphcpmhacaaKf
import Derived.Test.YtkmoiphcpmhacaaKr
import Derived.Test.YtkmoiphcpmhacaaKp
import Derived.Test.YtkmoiphcpmhacaaKa
namespace Go.Proofs.Ytkmoiphcpmhacaa
open Go.RowKit

def lpK (ps : List Pkt) (k x : Int) : List Pkt := ps.filter (fun p => p.lane == k && p.peer == x)
def lnK (ps : List Pkt) (k : Int) : List Pkt := ps.filter (fun p => p.lane == k)
theorem lpK_cons (p : Pkt) (ps : List Pkt) (k x : Int) : lpK (p :: ps) k x = if p.lane = k ∧ p.peer = x then p :: lpK ps k x else lpK ps k x := by
  simp only [lpK, List.filter_cons, Bool.and_eq_true, beq_iff_eq]
theorem lnK_cons (p : Pkt) (ps : List Pkt) (k : Int) : lnK (p :: ps) k = if p.lane = k then p :: lnK ps k else lnK ps k := by
  simp only [lnK, List.filter_cons, beq_iff_eq]
theorem lnK_append (a b : List Pkt) (k : Int) : lnK (a ++ b) k = lnK a k ++ lnK b k := by simp [lnK]
theorem next_rs {l : Ln} {i k : Nat} {r : Rb} (hr : l.rs[k]? = some r) : (nxN l i).rs[k]? = some (if k = i then ⟨r.q, nxL r.q r.fs⟩ else r) := by
  simp only [nxN]
  by_cases h : i = k
  · subst h
    rw [List.getElem?_set_self (get_lt hr), if_pos rfl, nxR_eq hr]
  · rw [List.getElem?_set_ne h, if_neg (fun e => h e.symm), hr]
theorem nexted_at {l : Ln} {i : Nat} (hv : LV l) (h : Turn6 l i) {r : Rb} (hr : l.rs[i]? = some r) : ∃ f s ws, Nexted r.q r.fs f s (nxQ l i) ws := by
  obtain ⟨r', x, y, hr', hn, -, -, hR, -⟩ := turn_get hv h
  obtain rfl := Option.some.inj (hr.symm.trans hr')
  obtain ⟨f, s, p, ws, N⟩ := nexted_is hR.rv hn
  have e := N.isP
  rw [← nxQ_eq hr] at e
  subst e
  exact ⟨f, s, ws, N⟩
/-- what is taken of a peer in a lane is what waited there first -/
theorem tk_peers : ∀ (n : Nat) (l : Ln), LV l → ∀ (k : Nat) (r r' : Rb), l.rs[k]? = some r → (tkN n l).1.rs[k]? = some r' → ∀ x : Int, wOf r.fs x = lpK (tkN n l).2 (k : Int) x ++ wOf r'.fs x := by
  intro n
  induction n with
  | zero =>
    intro l _ k r r' h1 h2 x
    obtain rfl := Option.some.inj (h1.symm.trans h2)
    rfl
  | succ n ih =>
    intro l hv k r r' h1 h2 x
    rcases turn_or l with ⟨i, hi⟩ | he
    · have hn := lv_next hv hi
      rw [tkN_yes hi] at h2 ⊢
      have hk := next_rs (i := i) h1
      have h3 := ih (nxN l i) hn.1 k _ r' hk h2 x
      rw [lpK_cons, hn.2]
      by_cases hki : k = i
      · subst hki
        rw [if_pos rfl] at h3
        obtain ⟨f, s, ws, N⟩ := nexted_at hv hi h1
        rw [w_next N x, h3]
        by_cases hp : (nxQ l k).peer = x
        · rw [if_pos hp, if_pos ⟨rfl, hp⟩]; rfl
        · rw [if_neg hp, if_neg fun e => hp e.2]
      · rw [if_neg hki] at h3
        rw [if_neg fun e => hki (by have := e.1; omega)]
        exact h3
    · rw [tkN_no he] at h2 ⊢
      obtain rfl := Option.some.inj (h1.symm.trans h2)
      rfl
/-- a lane's count goes down by what is taken of it -/
theorem tk_counts : ∀ (n : Nat) (l : Ln), LV l → ∀ (k : Nat) (r r' : Rb), l.rs[k]? = some r → (tkN n l).1.rs[k]? = some r' → total r.fs = (lnK (tkN n l).2 (k : Int)).length + total r'.fs := by
  intro n
  induction n with
  | zero =>
    intro l _ k r r' h1 h2
    obtain rfl := Option.some.inj (h1.symm.trans h2)
    simp [tkN, lnK]
  | succ n ih =>
    intro l hv k r r' h1 h2
    rcases turn_or l with ⟨i, hi⟩ | he
    · have hn := lv_next hv hi
      rw [tkN_yes hi] at h2 ⊢
      have hk := next_rs (i := i) h1
      have h3 := ih (nxN l i) hn.1 k _ r' hk h2
      rw [lnK_cons, hn.2]
      by_cases hki : k = i
      · subst hki
        rw [if_pos rfl] at h3
        obtain ⟨f, s, ws, N⟩ := nexted_at hv hi h1
        have := total_next N
        rw [if_pos rfl, List.length_cons]
        simp only at h3
        omega
      · rw [if_neg hki] at h3
        rw [if_neg fun e => hki (by omega)]
        exact h3
    · rw [tkN_no he] at h2 ⊢
      obtain rfl := Option.some.inj (h1.symm.trans h2)
      simp [lnK]

/-! No lane waits forever -/
theorem sumL_nonneg {xs : List Int} (h : ∀ x ∈ xs, 0 ≤ x) : 0 ≤ sumL xs := by
  induction xs with
  | nil => simp [sumL]
  | cons y r ih =>
    have := h y (by simp)
    have := ih fun a ha => h a (by simp [ha])
    simp only [sumL]; omega
theorem sumL_ge {xs : List Int} (h : ∀ x ∈ xs, 0 ≤ x) {k : Nat} {x : Int} (hx : xs[k]? = some x) : x ≤ sumL xs ∧ 0 ≤ sumL xs := by
  refine ⟨?_, sumL_nonneg h⟩
  induction xs generalizing k with
  | nil => simp at hx
  | cons y r ih =>
    have hy := h y (by simp)
    have h0 : 0 ≤ sumL r := sumL_nonneg fun a ha => h a (by simp [ha])
    cases k with
    | zero =>
      obtain rfl : y = x := by simpa using hx
      simp only [sumL]; omega
    | succ k =>
      have := ih (fun a ha => h a (by simp [ha])) (k := k) (by simpa using hx)
      simp only [sumL]; omega
def phi (l : Ln) (k : Nat) : Int := if 0 < (l.cs[k]?.getD 0) then sumL l.cs else sumL l.cs + sumL l.ws
theorem lv_nonneg {l : Ln} (hv : LV l) : (∀ x ∈ l.cs, 0 ≤ x) ∧ ∀ y ∈ l.ws, 1 ≤ y ∧ y ≤ 9 := by
  refine ⟨fun x hx => ?_, fun y hy => ?_⟩
  · obtain ⟨k, hk⟩ := List.getElem?_of_mem hx
    obtain ⟨y, hy⟩ := get_of (xs := l.ws) (k := k) (by have := get_lt hk; have := hv.n1; have := hv.n2; omega)
    exact (hv.cr k x y hk hy).1
  · obtain ⟨k, hk⟩ := List.getElem?_of_mem hy
    exact hv.wt k y hk
theorem phi_pos {l : Ln} (hv : LV l) {k : Nat} (hk : k < 4) : 1 ≤ phi l k ∧ phi l k ≤ 2 * sumL l.ws ∧ 4 ≤ sumL l.ws ∧ sumL l.ws ≤ 36 := by
  obtain ⟨x, hx⟩ := get_of (xs := l.cs) (k := k) (by have := hv.n2; omega)
  obtain ⟨y, hy⟩ := get_of (xs := l.ws) (k := k) (by have := hv.n1; omega)
  obtain ⟨n1, n2⟩ := lv_nonneg hv
  have h1 := sumL_ge n1 hx
  have h2 := sumL_ge (fun y hy => by have := n2 y hy; omega) hy
  have h3 := hv.wt k y hy
  have h4 := (sumL_le (s := l.cs) (t := l.ws) (by have := hv.n1; have := hv.n2; omega) fun i a b ha hb => (hv.cr i a b ha hb).2).1
  have h5 := (sumL_bd (xs := l.ws) (B := 9) fun y hy => by have := n2 y hy; omega).2
  have h6 : sumL (List.replicate 4 (1 : Int)) ≤ sumL l.ws := (sumL_le (s := List.replicate 4 1) (t := l.ws) (by simp [hv.n1]) fun i a b ha hb => by
    have := hv.wt i b hb
    have : a = 1 := List.eq_of_mem_replicate (List.mem_of_getElem? ha)
    omega).1
  have h7 : sumL (List.replicate 4 (1 : Int)) = 4 := by decide
  rw [hv.n1] at h5
  unfold phi
  rw [hx]
  simp only [Option.getD_some]
  split <;> omega
theorem starve_step {l : Ln} {i k : Nat} {r : Rb} (hv : LV l) (h : Turn6 l i) (hk : k ≠ i) (hr : l.rs[k]? = some r) (hn : r.fs ≠ []) : (nxN l i).rs[k]? = some r ∧ phi (nxN l i) k + 1 ≤ phi l k := by
  obtain ⟨ri, x, y, hri, hni, hx, hy, hR, hi, x0, xy, y1, y9⟩ := turn_get hv h
  have hk4 : k < 4 := by rw [← hv.n0]; exact get_lt hr
  obtain ⟨z, hz⟩ := get_of (xs := l.cs) (k := k) (by have := hv.n2; omega)
  obtain ⟨u, hu⟩ := get_of (xs := l.ws) (k := k) (by have := hv.n1; omega)
  refine ⟨by rw [next_rs hr, if_neg hk], ?_⟩
  have hu1 := hv.wt k u hu
  have hz0 := hv.cr k z u hz hu
  have hs0 := (sumL_ge (lv_nonneg hv).1 hz).2
  by_cases h0 : 0 < x
  · rw [nxN_yes hri hx h0]
    unfold phi
    simp only
    rw [List.getElem?_set_ne (fun e => hk e.symm), hz, sumL_set hx]
    simp only [Option.getD_some]
    split <;> omega
  · have hno := turn_zero h hx h0 k
    have hzz : ¬ 0 < z := fun hp => hno ⟨⟨r, hr, hn⟩, fun _ => ⟨z, hz, hp⟩⟩
    rw [nxN_no hri hx hy h0]
    unfold phi
    simp only
    rw [List.getElem?_set_ne (fun e => hk e.symm), hz, hu, sumL_set hy]
    simp only [Option.getD_some]
    rw [if_pos (by omega), if_neg hzz]
    omega
theorem starve : ∀ (n : Nat) (l : Ln) (k : Nat) (r : Rb), LV l → l.rs[k]? = some r → r.fs ≠ [] → phi l k ≤ (n : Int) → ∃ p ∈ (tkN n l).2, p.lane = (k : Int) := by
  intro n
  induction n with
  | zero =>
    intro l k r hv hr _ h
    have := (phi_pos hv (k := k) (by rw [← hv.n0]; exact get_lt hr)).1
    omega
  | succ n ih =>
    intro l k r hv hr hn h
    rcases turn_or l with ⟨i, hi⟩ | he
    · have h1 := lv_next hv hi
      rw [tkN_yes hi]
      by_cases hk : k = i
      · subst hk
        exact ⟨_, List.mem_cons_self, h1.2⟩
      · obtain ⟨a, b⟩ := starve_step hv hi hk hr hn
        obtain ⟨p, hp, hl⟩ := ih (nxN l i) k r h1.1 a hn (by omega)
        exact ⟨p, List.mem_cons_of_mem _ hp, hl⟩
    · exact absurd (he r (List.mem_of_getElem? hr)) hn
/-- among so many packets as twice all weights there is one of each lane that has packets, and of no other -/
theorem no_starve {l : Ln} (hv : LV l) {k : Nat} {r : Rb} (hr : l.rs[k]? = some r) {n : Nat} (hn : (n : Int) = 2 * sumL l.ws) : (∃ p ∈ (tkN n l).2, p.lane = (k : Int)) ↔ 0 < total r.fs := by
  have hk : k < 4 := by rw [← hv.n0]; exact get_lt hr
  constructor
  · rintro ⟨p, hp, hl⟩
    obtain ⟨r', hr'⟩ := get_of (xs := (tkN n l).1.rs) (k := k) (by rw [(tkN_valid n l hv).1.n0]; exact hk)
    have h := tk_counts n l hv k r r' hr hr'
    have : 0 < (lnK (tkN n l).2 (k : Int)).length := List.length_pos_of_mem (List.mem_filter.2 ⟨hp, by simp [hl]⟩)
    omega
  · intro h
    have hne : r.fs ≠ [] := fun e => by rw [e] at h; simp [total] at h
    exact starve n l k r hv hr hne (by have := (phi_pos hv hk).2.1; omega)

/-! Leaving -/
theorem leave_twice {q : Int} {fs : List Flw} (h : RV q fs) (x : Int) : leaveL (leaveL fs x) x = leaveL fs x := by
  have hv := rv_leave h x
  refine (leave_none fun hlt => ?_).1
  obtain ⟨f, hf, hp⟩ := fix_lt hlt
  have h1 := w_fix hf
  rw [w_leave h.apart, if_pos rfl] at h1
  have := (hv.all f (List.mem_of_getElem? hf)).n0
  rw [← h1] at this
  simp at this
theorem total_erase {fs : List Flw} {k : Nat} {f : Flw} (h : fs[k]? = some f) : total fs = total (fs.eraseIdx k) + f.ws.length := by
  induction fs generalizing k with
  | nil => simp at h
  | cons g r ih =>
    cases k with
    | zero =>
      obtain rfl : g = f := by simpa using h
      simp [total]; omega
    | succ k =>
      have := ih (k := k) (by simpa using h)
      simp only [List.eraseIdx_cons_succ, total]
      omega
theorem total_leave (fs : List Flw) (x : Int) : total fs = total (leaveL fs x) + (wOf fs x).length := by
  by_cases hlt : fix fs x < fs.length
  · obtain ⟨f, hf, hw, -⟩ := leave_some hlt
    rw [hw]
    exact total_erase hf
  · obtain ⟨a, b, -⟩ := leave_none hlt
    rw [a, b]; simp
theorem lvN_twice {l : Ln} (hv : LV l) (x : Int) : lvN (lvN l x) x = lvN l x := by
  refine ln_ext ?_ rfl rfl
  simp only [lvN, List.map_map]
  refine List.map_congr_left fun r hr => ?_
  obtain ⟨k, hk⟩ := List.getElem?_of_mem hr
  exact rb_ext rfl (leave_twice (hv.rb k r hk).rv x)
theorem gone_none {l : Ln} (hv : LV l) (x : Int) : gone (lvN l x) x = [] := by
  simp only [gone, lvN, List.map_map, List.flatten_eq_nil_iff, List.mem_map]
  rintro a ⟨r, hr, rfl⟩
  obtain ⟨k, hk⟩ := List.getElem?_of_mem hr
  simp only [Function.comp]
  rw [w_leave (hv.rb k r hk).rv.apart, if_pos rfl]
theorem w_lane {fs : List Flw} {k : Int} (h : inLane fs k) (x : Int) : ∀ p ∈ wOf fs x, p.lane = k := by
  intro p hp
  by_cases hlt : fix fs x < fs.length
  · obtain ⟨f, hf, hw, -⟩ := leave_some hlt
    rw [hw] at hp
    exact h f (List.mem_of_getElem? hf) p hp
  · rw [w_far hlt] at hp; cases hp
theorem lnK_all {ps : List Pkt} {k : Int} (h : ∀ p ∈ ps, p.lane = k) : lnK ps k = ps := List.filter_eq_self.2 fun p hp => by simp [h p hp]
theorem lnK_none {ps : List Pkt} {k j : Int} (h : ∀ p ∈ ps, p.lane = j) (hj : j ≠ k) : lnK ps k = [] := List.filter_eq_nil_iff.2 fun p hp => by simp [h p hp, hj]
theorem gone_lane : ∀ (rs : List Rb) (x : Int) (b : Nat), (∀ (k : Nat) (r : Rb), rs[k]? = some r → inLane r.fs ((b + k : Nat) : Int)) → ∀ (k : Nat) (r : Rb), rs[k]? = some r → lnK (rs.map fun r => wOf r.fs x).flatten ((b + k : Nat) : Int) = wOf r.fs x ∧ ∀ j : Nat, j < b → lnK (rs.map fun r => wOf r.fs x).flatten (j : Int) = [] := by
  intro rs x
  induction rs with
  | nil => intro b _ k r h; simp at h
  | cons s t ih =>
    intro b h k r hr
    have h0 := w_lane (h 0 s rfl) x
    have ht : ∀ (k : Nat) (r : Rb), t[k]? = some r → inLane r.fs ((b + 1 + k : Nat) : Int) := fun k r hk => by
      have := h (k + 1) r (by simpa using hk)
      rw [show b + 1 + k = b + (k + 1) by omega]
      exact this
    have low : ∀ j : Nat, j < b + 1 → lnK (t.map fun r => wOf r.fs x).flatten (j : Int) = [] := by
      intro j hj
      rcases t with _ | ⟨u, v⟩
      · rfl
      · exact (ih (b + 1) ht 0 u rfl).2 j hj
    refine ⟨?_, fun j hj => ?_⟩
    · simp only [List.map_cons, List.flatten_cons, lnK_append]
      cases k with
      | zero =>
        obtain rfl : s = r := by simpa using hr
        rw [Nat.add_zero] at h0 ⊢
        rw [low b (by omega), List.append_nil]
        exact lnK_all h0
      | succ k =>
        rw [lnK_none h0 (by omega), List.nil_append, show b + (k + 1) = b + 1 + k by omega]
        exact (ih (b + 1) ht k r (by simpa using hr)).1
    · simp only [List.map_cons, List.flatten_cons, lnK_append]
      rw [low j (by omega), lnK_none h0 (by omega)]
      rfl
theorem gone_at {l : Ln} (hv : LV l) (x : Int) {k : Nat} {r : Rb} (hr : l.rs[k]? = some r) : lnK (gone l x) (k : Int) = wOf r.fs x := by
  have h := (gone_lane l.rs x 0 (fun k r hk => by have := (hv.rb k r hk).ln; simpa using this) k r hr).1
  rw [Nat.zero_add] at h
  exact h
theorem leave_counts {l : Ln} (hv : LV l) (x : Int) {k : Nat} {r : Rb} (hr : l.rs[k]? = some r) : (lvN l x).rs[k]? = some ⟨r.q, leaveL r.fs x⟩ ∧ total r.fs = total (leaveL r.fs x) + (lnK (gone l x) (k : Int)).length := by
  refine ⟨by simp [lvN, hr], ?_⟩
  rw [gone_at hv x hr]
  exact total_leave r.fs x
theorem w_len64 {q : Int} {fs : List Flw} (h : RV q fs) (x : Int) : (wOf fs x).length ≤ 64 := by
  by_cases hlt : fix fs x < fs.length
  · obtain ⟨f, hf, hw, -⟩ := leave_some hlt
    rw [hw]
    exact (ok_of (h.all f (List.mem_of_getElem? hf)).ok).1
  · rw [w_far hlt]; simp
theorem gone_len {l : Ln} (hv : LV l) (x : Int) : (gone l x).length ≤ 256 := by
  have key : ∀ rs : List Rb, (∀ r ∈ rs, (wOf r.fs x).length ≤ 64) → ((rs.map fun r => wOf r.fs x).flatten).length ≤ 64 * rs.length := by
    intro rs
    induction rs with
    | nil => simp
    | cons s t ih =>
      intro h
      have h1 := h s (by simp)
      have h2 := ih fun r hr => h r (by simp [hr])
      simp only [List.map_cons, List.flatten_cons, List.length_append, List.length_cons]
      omega
  have h := key l.rs fun r hr => by
    obtain ⟨k, hk⟩ := List.getElem?_of_mem hr
    exact w_len64 (hv.rb k r hk).rv x
  rw [hv.n0] at h
  exact h

/-! A single packet -/
theorem next_single {q : Int} {p : Pkt} (h : RV q [⟨p.peer, 0, [p]⟩]) : nxP q [⟨p.peer, 0, [p]⟩] = p := by
  obtain ⟨f, s, p', ws, N⟩ := nexted_is h (by simp)
  have h1 := w_next N p'.peer
  rw [if_pos rfl] at h1
  simp only [wOf] at h1
  rw [N.isP]
  split at h1
  · simp only [List.cons.injEq] at h1; exact h1.1.symm
  · cases h1
end Go.Proofs.Ytkmoiphcpmhacaa
namespace Go.Proofs.Ytkmoiphcpmhacaa
open Go.RowKit

def LlOk (l : Ln) (x : Int) : Prop := LV l ∧ 0 ≤ x ∧ x ≤ 7
def LlNo (w : World) (e : Ending) (w' : World) : Prop :=
  ∃ At ct, e = .returned (.tuple #[.agg #[.slice none 0 0, .slice none 0 0, .slice none 0 0], .slice At 0 ct, .bool false]) ∧ Below w.heap.size w w'
def LlYes (w : World) (l : Ln) (x : Int) (e : Ending) (w' : World) : Prop :=
  ∃ A c B d C f tk hs iv, e = .returned (.tuple #[.agg #[.slice A 4 c, .slice B 4 d, .slice C 4 f], tk, .bool true]) ∧ LO w' w.heap.size (.slice A 4 c) 4 (.slice B 4 d) 4 (.slice C 4 f) 4 hs iv (lvN l x) ∧ (∀ k, (iv k).1 < (iv k).2 → w.heap.size ≤ (iv k).1) ∧
    w'.ownsRow w.heap.size 29 4 tk (gone l x).length (pcells (gone l x)) ∧ (∀ b, tk.ownBlock = some b → Out6 (.slice A 4 c) iv b ∧ (Value.slice B 4 d).ownBlock ≠ some b ∧ (Value.slice C 4 f).ownBlock ≠ some b) ∧ Below w.heap.size w w'
def LlYesS (w : World) (l : Ln) (x : Int) (e : Ending) (w' : World) : Prop :=
  ∃ A c B d C f At ct, e = .returned (.tuple #[.agg #[.slice A 4 c, .slice B 4 d, .slice C 4 f], .slice At (gone l x).length ct, .bool true]) ∧ LR w' A 4 B 4 C 4 (lvN l x) ∧ w'.ownsRow w.heap.size 29 4 (.slice At (gone l x).length ct) (gone l x).length (pcells (gone l x)) ∧ Below w.heap.size w w'
/-- the robins when k of them have been left -/
def leftR (rs : List Rb) (x : Int) (k : Nat) : List Rb := (rs.take k).map (fun r => ⟨r.q, leaveL r.fs x⟩) ++ rs.drop k
def goneR (rs : List Rb) (x : Int) (k : Nat) : List Pkt := ((rs.take k).map fun r => wOf r.fs x).flatten
theorem left_zero (rs : List Rb) (x : Int) : leftR rs x 0 = rs := by simp [leftR]
theorem left_len (rs : List Rb) (x : Int) (k : Nat) : (leftR rs x k).length = rs.length := by
  unfold leftR
  rw [List.length_append, List.length_map, ← List.length_append, List.take_append_drop]
theorem left_get {rs : List Rb} {k : Nat} {r : Rb} (h : rs[k]? = some r) (x : Int) : (leftR rs x k)[k]? = some r := by
  have hl := get_lt h
  have h2 : ((rs.take k).map (fun r => (⟨r.q, leaveL r.fs x⟩ : Rb))).length = k := by rw [List.length_map, List.length_take]; omega
  unfold leftR
  rw [List.getElem?_append_right (by omega), h2, Nat.sub_self, List.getElem?_drop]
  exact h
theorem left_set {rs : List Rb} {k : Nat} {r : Rb} (h : rs[k]? = some r) (x : Int) : (leftR rs x k).set k ⟨r.q, leaveL r.fs x⟩ = leftR rs x (k + 1) := by
  have hl := get_lt h
  have h2 : ((rs.take k).map (fun r => (⟨r.q, leaveL r.fs x⟩ : Rb))).length = k := by rw [List.length_map, List.length_take]; omega
  have h3 : rs.drop k = r :: rs.drop (k + 1) := by
    rw [List.drop_eq_getElem_cons hl]
    rw [List.getElem?_eq_getElem hl] at h
    rw [Option.some.inj h]
  unfold leftR
  rw [List.set_append_right _ _ (by omega), h2, Nat.sub_self, h3, List.set_cons_zero, List.take_add_one, h, List.map_append, List.append_assoc]
  rfl
theorem left_all {l : Ln} (hv : LV l) (x : Int) : leftR l.rs x 4 = (lvN l x).rs := by
  unfold leftR lvN
  rw [List.take_of_length_le (by have := hv.n0; omega), List.drop_of_length_le (by have := hv.n0; omega), List.append_nil]
theorem gone_step {rs : List Rb} {k : Nat} {r : Rb} (h : rs[k]? = some r) (x : Int) : goneR rs x (k + 1) = goneR rs x k ++ wOf r.fs x := by
  unfold goneR
  rw [List.take_add_one, h]
  simp
theorem gone_all {l : Ln} (hv : LV l) (x : Int) : goneR l.rs x 4 = gone l x := by
  unfold goneR gone
  rw [List.take_of_length_le (by have := hv.n0; omega)]
theorem gone_few {l : Ln} (hv : LV l) (x : Int) (k : Nat) : (goneR l.rs x k).length ≤ 256 := by
  have h1 := gone_len hv x
  have h2 : gone l x = goneR l.rs x k ++ ((l.rs.drop k).map fun r => wOf r.fs x).flatten := by
    unfold gone goneR
    rw [← List.flatten_append, ← List.map_append, List.take_append_drop]
  rw [h2, List.length_append] at h1
  omega
/-- one robin is stored that was made behind all others -/
theorem lo_put2 {w1 w2 : World} {lo g c n m o k : Nat} {vB vC : Value} {hs : List Rh} {iv : Nat → Nat × Nat} {l : Ln} {h : Rh} {r : Rb} {fh : List Fh} (H : LO w1 lo (.slice (some ⟨g, 0, none⟩) n c) n vB m vC o hs iv l) (hb : Below w1.heap.size w1 w2) (hk : k < n) (hq : h.q = r.q) (hn : h.n ≤ 4000000000) (hd : DO w2 w1.heap.size h.sl h.n fh r.fs) :
    LO ((w2.setCell ⟨g, k * 2, none⟩ (.int .i64 h.q)).setCell ⟨g, k * 2 + 1, none⟩ (.slice h.A h.n h.c)) lo (.slice (some ⟨g, 0, none⟩) n c) n vB m vC o (hs.set k h) (Up iv k (w1.heap.size, w2.heap.size)) ⟨l.rs.set k r, l.ws, l.cs⟩ := by
  have H2 := lo_below H hb
  have gB := H.r.row.lt g rfl
  have gg : w2.grownBy ((w2.setCell ⟨g, k * 2, none⟩ (.int .i64 h.q)).setCell ⟨g, k * 2 + 1, none⟩ (.slice h.A h.n h.c)) (some g) := g_set (g_set (g_refl w2 (some g)) (.inl rfl) _) (.inl rfl) _
  have DD := dr_put (s := w1.heap.size) (e := w2.heap.size) H2.r hk hq hn (by omega) (Nat.le_refl _) (dv_all hd) (.inl gB.2) (fun j _ => .inl (H.r.top j))
  have key : ∀ b, b < w1.heap.size → Out6 (.slice (some ⟨g, 0, none⟩) n c) iv b → Out6 (.slice (some ⟨g, 0, none⟩) n c) (Up iv k (w1.heap.size, w2.heap.size)) b := fun b hlt hO => ⟨hO.1, fun j => by
    by_cases hj : j = k
    · subst hj; rw [up_self]; exact .inl hlt
    · rw [up_ne _ hj]; exact hO.2 j⟩
  exact ⟨dr_weak DD fun j hj => .inr hj, own_kept6 H2.b gg fun b e e2 => by injection e with e; subst e; exact (H.ab _ e2).1 rfl, own_kept6 H2.c gg fun b e e2 => by injection e with e; subst e; exact (H.ac _ e2).1 rfl,
    fun b e => key b (H.b.lt b e).2 (H.ab b e), fun b e => key b (H.c.lt b e).2 (H.ac b e), H.bc⟩
/-- what is known in a round of the program -/
structure LvW (w : World) (va : Array Value) (LB g c4 : Nat) (vB vC : Value) (l : Ln) (x : Int) (k : Nat) (tk : Value) (hs : List Rh) (iv : Nat → Nat × Nat) (wr : World) : Prop where
  fm : Fm w [⟨w.heap.size, w.heap.size + 1, BoxP w.heap.size 26 va⟩, ⟨w.heap.size + 1, w.heap.size + 2, BoxP (w.heap.size + 1) 26 #[.slice none 0 0, .slice none 0 0, .slice none 0 0]⟩] wr
  out : Blk wr LB 26 #[.slice (some ⟨g, 0, none⟩) 4 c4, vB, vC]
  lo : LO wr (w.heap.size + 2) (.slice (some ⟨g, 0, none⟩) 4 c4) 4 vB 4 vC 4 hs iv ⟨leftR l.rs x k, l.ws, l.cs⟩
  hi : ∀ j, (iv j).1 < (iv j).2 → w.heap.size + 2 ≤ (iv j).1
  sL : Out6 (.slice (some ⟨g, 0, none⟩) 4 c4) iv LB ∧ vB.ownBlock ≠ some LB ∧ vC.ownBlock ≠ some LB
  own : wr.ownsRow (w.heap.size + 2) 29 4 tk (goneR l.rs x k).length (pcells (goneR l.rs x k))
  sep : tk.ownBlock ≠ some LB
  st : ∀ b, tk.ownBlock = some b → Out6 (.slice (some ⟨g, 0, none⟩) 4 c4) iv b ∧ vB.ownBlock ≠ some b ∧ vC.ownBlock ≠ some b
  hL : w.heap.size + 2 ≤ LB
section
variable {w w1 w2 w6 : World} {va : Array Value} {LB g c4 k n5 c5 : Nat} {vB vC tk v6 : Value} {l : Ln} {x : Int} {hs : List Rh} {iv : Nat → Nat × Nat} {A5 : Option Addr} {fh : List Fh} {r : Rb} {ob : Obj}
theorem lvw_below (T : LvW w va LB g c4 vB vC l x k tk hs iv w1) (hb : Below w1.heap.size w1 w2) : LvW w va LB g c4 vB vC l x k tk hs iv w2 :=
  ⟨fm_below T.fm hb, blk_below T.out hb (blk_lt T.out), lo_below T.lo hb, T.hi, T.sL, own_below T.own hb, T.sep, T.st, T.hL⟩
theorem lvw_next (T : LvW w va LB g c4 vB vC l x k tk hs iv w1) (hr : l.rs[k]? = some r) (hk : k < 4) (hb : Below w1.heap.size w1 w2) (hd : DO w2 w1.heap.size (.slice A5 n5 c5) n5 fh (leaveL r.fs x)) (hn : n5 ≤ 4000000000)
    (ho : w6.ownsRow (w.heap.size + 2) 29 4 v6 ((goneR l.rs x k).length + (wOf r.fs x).length) (pcells (goneR l.rs x k ++ wOf r.fs x)))
    (hg : (((w2.setCell ⟨g, k * 2, none⟩ (.int .i64 r.q)).setCell ⟨g, k * 2 + 1, none⟩ (.slice A5 n5 c5)).alloc ob).grownBy w6 tk.ownBlock) (hat : v6.ownBlock = tk.ownBlock ∨ v6.ownBlock = some (w2.heap.size + 1)) :
    LvW w va LB g c4 vB vC l x (k + 1) v6 (hs.set k ⟨r.q, A5, n5, c5⟩) (Up iv k (w1.heap.size, w2.heap.size)) w6 := by
  have zL := blk_lt T.out
  have zL2 := T.hL
  have z2 := hb.size
  have gB := T.lo.r.row.lt g rfl
  have gL : g ≠ LB := fun e => T.sL.1.1 (by rw [e]; rfl)
  have tB : ∀ b, tk.ownBlock = some b → w.heap.size + 2 ≤ b ∧ b < w1.heap.size := fun b e => T.own.lt b e
  have gg : w2.grownBy ((w2.setCell ⟨g, k * 2, none⟩ (.int .i64 r.q)).setCell ⟨g, k * 2 + 1, none⟩ (.slice A5 n5 c5)) (some g) := g_set (g_set (g_refl w2 (some g)) (.inl rfl) _) (.inl rfl) _
  have L3 := lo_put2 (h := ⟨r.q, A5, n5, c5⟩) (r := ⟨r.q, leaveL r.fs x⟩) T.lo hb hk rfl hn hd
  rw [left_set hr x] at L3
  have key : ∀ b, b < w1.heap.size → Out6 (.slice (some ⟨g, 0, none⟩) 4 c4) iv b → Out6 (.slice (some ⟨g, 0, none⟩) 4 c4) (Up iv k (w1.heap.size, w2.heap.size)) b := fun b hlt hO => ⟨hO.1, fun j => by
    by_cases hj : j = k
    · subst hj; rw [up_self]; exact .inl hlt
    · rw [up_ne _ hj]; exact hO.2 j⟩
  have key2 : ∀ b, w2.heap.size ≤ b → Out6 (.slice (some ⟨g, 0, none⟩) 4 c4) (Up iv k (w1.heap.size, w2.heap.size)) b ∧ vB.ownBlock ≠ some b ∧ vC.ownBlock ≠ some b := fun b hle =>
    ⟨⟨fun e => by have e2 : g = b := Option.some.inj e; omega, fun j => by
      by_cases hj : j = k
      · subst hj; rw [up_self]; exact .inr hle
      · rw [up_ne _ hj]; exact .inr (Nat.le_trans (T.lo.r.top j) (by omega))⟩, fun e => by have := (T.lo.b.lt b e).2; omega, fun e => by have := (T.lo.c.lt b e).2; omega⟩
  have st2 : ∀ b, tk.ownBlock = some b → Out6 (.slice (some ⟨g, 0, none⟩) 4 c4) (Up iv k (w1.heap.size, w2.heap.size)) b ∧ vB.ownBlock ≠ some b ∧ vC.ownBlock ≠ some b := fun b e => ⟨key b (tB b e).2 (T.st b e).1, (T.st b e).2⟩
  have hst : ∀ b, v6.ownBlock = some b → Out6 (.slice (some ⟨g, 0, none⟩) 4 c4) (Up iv k (w1.heap.size, w2.heap.size)) b ∧ vB.ownBlock ≠ some b ∧ vC.ownBlock ≠ some b := fun b e => by
    rcases hat with h | h
    · exact st2 b (h.symm.trans e)
    · obtain rfl := Option.some.inj (h.symm.trans e)
      exact key2 _ (by omega)
  refine ⟨?_, ?_, lo_grown (lo_below L3 (below_alloc (Below.refl _ _) ob)) hg fun b e => ?_, up_lo T.hi (by omega), ⟨key LB zL T.sL.1, T.sL.2⟩, ?_, fun e => ?_, hst, T.hL⟩
  · refine fm_grownO (fm_alloc (fm_out (fm_out (fm_below T.fm hb) (fun y hy => ?_) (by omega) _) (fun y hy => ?_) (by omega) _) ob) hg fun b e => ⟨by have := tB b e; omega, fun y hy => ?_⟩
    all_goals
      simp only [List.mem_cons, List.not_mem_nil, or_false] at hy
    · rcases hy with rfl | rfl <;> (simp only; omega)
    · rcases hy with rfl | rfl <;> (simp only; omega)
    · have := tB b e
      rcases hy with rfl | rfl <;> (simp only; omega)
  · exact blk_grownQ (blk_alloc (blk_far (blk_far (blk_below T.out hb zL) (fun e => gL e.symm) _) (fun e => gL e.symm) _) ob) hg fun e => T.sep e.symm
  · exact st2 b e
  · rw [gone_step hr x, List.length_append]
    exact ho
  · rcases hat with h | h
    · exact T.sep (h.symm.trans e)
    · have := Option.some.inj (h.symm.trans e); omega
end
theorem lvw_start {w w1 w2 : World} {va : Array Value} {g c4 : Nat} {vB vC : Value} {l : Ln} {x : Int} {hs : List Rh} {iv : Nat → Nat × Nat} (F : Fm w [⟨w.heap.size, w.heap.size + 1, BoxP w.heap.size 26 va⟩, ⟨w.heap.size + 1, w.heap.size + 2, BoxP (w.heap.size + 1) 26 #[.slice none 0 0, .slice none 0 0, .slice none 0 0]⟩] w2)
    (L : LO w2 w1.heap.size (.slice (some ⟨g, 0, none⟩) 4 c4) 4 vB 4 vC 4 hs iv l) (I : ∀ k, (iv k).1 < (iv k).2 → w1.heap.size ≤ (iv k).1) (z1 : w.heap.size + 2 ≤ w1.heap.size) (z2 : w1.heap.size ≤ w2.heap.size) :
    LvW w va w2.heap.size g c4 vB vC l x 0 (.slice none 0 0) hs iv (w2.alloc (.cells #[.slice (some ⟨g, 0, none⟩) 4 c4, vB, vC] 26)) := by
  refine ⟨fm_alloc F _, blk_new w2 _ _, ?_, fun j hj => Nat.le_trans z1 (I j hj), ⟨⟨fun e => ?_, fun j => .inr (L.r.top j)⟩, fun e => ?_, fun e => ?_⟩, World.ownsRow_nil _ _ _ _, fun e => (by cases e), fun b e => (by cases e), by omega⟩
  · rw [left_zero]; exact lo_mono (lo_below L (below_alloc (Below.refl _ _) _)) z1
  · have := (L.r.row.lt _ e).2; omega
  · have := (L.b.lt _ e).2; omega
  · have := (L.c.lt _ e).2; omega
/-- the blocks in which the model's robins' flows may lie -/
def X8 (w : World) (g LB : Nat) (tk : Value) (b : Nat) : Prop := b ≠ g ∧ b ≠ LB ∧ tk.ownBlock ≠ some b ∧ w.heap.size + 3 ≤ b
/-- what is known in a round of the model -/
structure LvS (w : World) (va : Array Value) (LB g c4 : Nat) (vB vC : Value) (l : Ln) (x : Int) (k : Nat) (tk : Value) (hs : List Rh) (wr : World) : Prop where
  fm : Fm w [⟨w.heap.size, w.heap.size + 1, BoxP w.heap.size 26 va⟩, ⟨w.heap.size + 1, w.heap.size + 2, BoxP (w.heap.size + 1) 26 #[.slice none 0 0, .slice none 0 0, .slice none 0 0]⟩] wr
  out : Blk wr LB 26 #[.slice (some ⟨g, 0, none⟩) 4 c4, vB, vC]
  row : wr.ownsRow (w.heap.size + 3) 37 2 (.slice (some ⟨g, 0, none⟩) 4 c4) 4 (rcells hs)
  len : hs.length = 4
  all : ∀ (j : Nat) (h : Rh) (r : Rb), hs[j]? = some h → (leftR l.rs x k)[j]? = some r → h.q = r.q ∧ FRX wr (X8 w g LB tk) h.A h.n r.fs
  b : wr.ownsRow (w.heap.size + 3) 3 1 vB 4 (icells l.ws)
  c : wr.ownsRow (w.heap.size + 3) 3 1 vC 4 (icells l.cs)
  own : wr.ownsRow (w.heap.size + 2) 29 4 tk (goneR l.rs x k).length (pcells (goneR l.rs x k))
  sep : tk.ownBlock ≠ some LB ∧ tk.ownBlock ≠ some g ∧ g ≠ LB
  sB : vB.ownBlock ≠ some LB ∧ vB.ownBlock ≠ some g ∧ ∀ b, tk.ownBlock = some b → vB.ownBlock ≠ some b
  sC : vC.ownBlock ≠ some LB ∧ vC.ownBlock ≠ some g ∧ ∀ b, tk.ownBlock = some b → vC.ownBlock ≠ some b
  hL : w.heap.size + 3 ≤ LB
theorem rcells_stored {w : World} {lo g c4 k : Nat} {hs : List Rh} (h : w.ownsRow lo 37 2 (.slice (some ⟨g, 0, none⟩) 4 c4) 4 (rcells hs)) (r : Rh) :
    ((w.setCell ⟨g, k * 2, none⟩ (.int .i64 r.q)).setCell ⟨g, k * 2 + 1, none⟩ (.slice r.A r.n r.c)).ownsRow lo 37 2 (.slice (some ⟨g, 0, none⟩) 4 c4) 4 (rcells (hs.set k r)) := by
  have a := ((h.stored (k * 2) (.int .i64 r.q)).1.stored (k * 2 + 1) (.slice r.A r.n r.c)).1
  rw [rcells_set] at a
  exact a
section
variable {w w1 w2 w6 : World} {va : Array Value} {LB g c4 k n5 c5 : Nat} {vB vC tk v6 : Value} {l : Ln} {x : Int} {hs : List Rh} {A5 : Option Addr} {r : Rb} {ob : Obj}
theorem lvs_below (T : LvS w va LB g c4 vB vC l x k tk hs w1) (hb : Below w1.heap.size w1 w2) : LvS w va LB g c4 vB vC l x k tk hs w2 :=
  ⟨fm_below T.fm hb, blk_below T.out hb (blk_lt T.out), own_below T.row hb, T.len, fun j h r e1 e2 => ⟨(T.all j h r e1 e2).1, frx_below (T.all j h r e1 e2).2 hb⟩, own_below T.b hb, own_below T.c hb, own_below T.own hb, T.sep, T.sB, T.sC, T.hL⟩
theorem lvs_lr {B C : Option Addr} {d f : Nat} (T : LvS w va LB g c4 (.slice B 4 d) (.slice C 4 f) l x k tk hs w1) (hv : l.rs.length = 4) : LR w1 (some ⟨g, 0, none⟩) 4 B 4 C 4 ⟨leftR l.rs x k, l.ws, l.cs⟩ :=
  ⟨⟨hs, hq_own T.row, by rw [T.len, left_len, hv], fun j h r e1 e2 => ⟨(T.all j h r e1 e2).1, frx_fr (T.all j h r e1 e2).2⟩, by omega⟩, nr_own T.b, nr_own T.c, by omega, by omega⟩
theorem lvs_next (T : LvS w va LB g c4 vB vC l x k tk hs w1) (hr : l.rs[k]? = some r) (_ : k < 4) (hb : Below w1.heap.size w1 w2) (hf : FRX w2 (fun b => w1.heap.size ≤ b) A5 n5 (leaveL r.fs x))
    (ho : w6.ownsRow (w.heap.size + 2) 29 4 v6 ((goneR l.rs x k).length + (wOf r.fs x).length) (pcells (goneR l.rs x k ++ wOf r.fs x)))
    (hg : (((w2.setCell ⟨g, k * 2, none⟩ (.int .i64 r.q)).setCell ⟨g, k * 2 + 1, none⟩ (.slice A5 n5 c5)).alloc ob).grownBy w6 tk.ownBlock) (hat : v6.ownBlock = tk.ownBlock ∨ v6.ownBlock = some (w2.heap.size + 1)) :
    LvS w va LB g c4 vB vC l x (k + 1) v6 (hs.set k ⟨r.q, A5, n5, c5⟩) w6 := by
  have zL := blk_lt T.out
  have zL2 := T.hL
  have z2 := hb.size
  have gB := T.row.lt g rfl
  have gL : g ≠ LB := T.sep.2.2
  have tB : ∀ b, tk.ownBlock = some b → w.heap.size + 2 ≤ b ∧ b < w1.heap.size := fun b e => T.own.lt b e
  have bB : ∀ b, vB.ownBlock = some b → b < w1.heap.size := fun b e => (T.b.lt b e).2
  have cB : ∀ b, vC.ownBlock = some b → b < w1.heap.size := fun b e => (T.c.lt b e).2
  have vat : ∀ b, v6.ownBlock = some b → tk.ownBlock = some b ∨ b = w2.heap.size + 1 := fun b e => by
    rcases hat with h | h
    · exact .inl (h.symm.trans e)
    · exact .inr (Option.some.inj (h.symm.trans e)).symm
  have gg : w2.grownBy ((w2.setCell ⟨g, k * 2, none⟩ (.int .i64 r.q)).setCell ⟨g, k * 2 + 1, none⟩ (.slice A5 n5 c5)) (some g) := g_set (g_set (g_refl w2 (some g)) (.inl rfl) _) (.inl rfl) _
  have keep : ∀ {e : TypeId} {size n : Nat} {lo : Nat} {v : Value} {xs : List Value}, w2.ownsRow lo e size v n xs → v.ownBlock ≠ some g → (∀ b, tk.ownBlock = some b → v.ownBlock ≠ some b) → w6.ownsRow lo e size v n xs := fun h h1 h2 =>
    own_kept6 ((own_kept6 h gg fun b e => by injection e with e; subst e; exact h1).alloc ob) hg fun b e => h2 b e
  refine ⟨?_, ?_, own_kept6 ((rcells_stored (own_below T.row hb) ⟨r.q, A5, n5, c5⟩).alloc ob) hg fun b e e2 => ?_, by rw [List.length_set]; exact T.len, fun j h r' e1 e2 => ?_, keep (own_below T.b hb) T.sB.2.1 T.sB.2.2, keep (own_below T.c hb) T.sC.2.1 T.sC.2.2, ?_, ⟨fun e => ?_, fun e => ?_, gL⟩, ⟨T.sB.1, T.sB.2.1, fun b e e2 => ?_⟩, ⟨T.sC.1, T.sC.2.1, fun b e e2 => ?_⟩, T.hL⟩
  · refine fm_grownO (fm_alloc (fm_out (fm_out (fm_below T.fm hb) (fun y hy => ?_) (by omega) _) (fun y hy => ?_) (by omega) _) ob) hg fun b e => ⟨by have := tB b e; omega, fun y hy => ?_⟩
    all_goals
      simp only [List.mem_cons, List.not_mem_nil, or_false] at hy
    · rcases hy with rfl | rfl <;> (simp only; omega)
    · rcases hy with rfl | rfl <;> (simp only; omega)
    · have := tB b e
      rcases hy with rfl | rfl <;> (simp only; omega)
  · exact blk_grownQ (blk_alloc (blk_far (blk_far (blk_below T.out hb zL) (fun e => gL e.symm) _) (fun e => gL e.symm) _) ob) hg fun e => T.sep.1 e.symm
  · injection e2 with e2; subst e2; exact T.sep.2.1 e
  · have hxg : ∀ {q : Nat → Prop}, (∀ b, q b → X8 w g LB tk b) → ∀ {B : Option Addr} {m : Nat} {fs : List Flw}, FRX w2 q B m fs → FRX w6 q B m fs := fun hq _ _ _ h =>
      frx_grown (frx_alloc (frx_set (frx_set h (fun hx => (hq _ hx).1 rfl) _) (fun hx => (hq _ hx).1 rfl) _) ob) hg fun b hx e => (hq b hx).2.2.1 e.symm
    rw [← left_set hr x] at e2
    by_cases hj : k = j
    · subst hj
      rw [List.getElem?_set_self (by have := get_lt e1; simpa using this)] at e1
      rw [List.getElem?_set_self (by have := get_lt e2; simpa using this)] at e2
      obtain rfl := Option.some.inj e1
      obtain rfl := Option.some.inj e2
      refine ⟨rfl, frx_mono (hxg (q := fun b => w1.heap.size ≤ b ∧ b < w2.heap.size) (fun b hx => ⟨by omega, by omega, fun e => by have := (tB b e).2; omega, by omega⟩) (frx_lt hf)) fun b hx => ⟨by omega, by omega, fun e => ?_, by omega⟩⟩
      rcases vat b e with h | h
      · have := (tB b h).2; omega
      · omega
    · rw [List.getElem?_set_ne hj] at e1 e2
      obtain ⟨a1, a2⟩ := T.all j h r' e1 e2
      refine ⟨a1, frx_mono (hxg (q := fun b => X8 w g LB tk b ∧ b < w1.heap.size) (fun b hx => hx.1) (frx_below (frx_lt a2) hb)) fun b hx => ⟨hx.1.1, hx.1.2.1, fun e => ?_, hx.1.2.2.2⟩⟩
      rcases vat b e with h | h
      · exact hx.1.2.2.1 h
      · have := hx.2; omega
  · rw [gone_step hr x, List.length_append]
    exact ho
  · rcases vat _ e with h | h
    · exact T.sep.1 h
    · omega
  · rcases vat _ e with h | h
    · exact T.sep.2.1 h
    · omega
  · rcases vat _ e with h | h
    · exact T.sB.2.2 b h e2
    · have := bB b e2; omega
  · rcases vat _ e with h | h
    · exact T.sC.2.2 b h e2
    · have := cB b e2; omega
end
/-- a robin of one's own reads blocks of its interval alone -/
theorem dv_frx {w : World} {s e n c : Nat} {A : Option Addr} {hs : List Fh} {fs : List Flw} (D : DV w s e (.slice A n c) n hs fs) (hn : n ≤ 4000000000) : FRX w (fun b => s ≤ b ∧ b < e) A n fs := by
  have hl : hs.length = n := by have := D.1.row.1; rw [fcells_len] at this; omega
  refine ⟨hs, hr_own D.1.row, fun hn0 b hb => ?_, ⟨by rw [← D.1.len, hl], fun k g f e1 e2 => ?_⟩, hn⟩
  · obtain ⟨q, cap, hv, h1, -⟩ := D.1.row.form hn0
    obtain rfl : A = some ⟨q, 0, none⟩ := by injection hv
    obtain rfl : q = b := by simpa using hb
    exact ⟨h1, D.2.1 _ rfl⟩
  · obtain ⟨a1, a2, a3, a4, -⟩ := D.1.all k g f e1 e2
    obtain ⟨_, c', hv, h1, -, -⟩ := own_form a4
    refine ⟨a1, a2, pr_own a4, by injection hv with b1 b2 b3; omega, a3, fun h0 b hb => ?_⟩
    obtain ⟨q, cap, hv2, h2, -⟩ := a4.form h0
    obtain hq : g.A = some ⟨q, 0, none⟩ := by injection hv2
    rw [hq] at hb
    obtain rfl : q = b := by simpa using hb
    exact ⟨h2, D.2.2 k g e1 _ (by show Value.ownBlock (.slice g.A g.n g.c) = _; rw [hq]; rfl)⟩
theorem lvs_start {w w1 w2 : World} {va : Array Value} {g c4 d f : Nat} {B C : Option Addr} {l : Ln} {x : Int} {hs : List Rh} {iv : Nat → Nat × Nat} (F : Fm w [⟨w.heap.size, w.heap.size + 1, BoxP w.heap.size 26 va⟩, ⟨w.heap.size + 1, w.heap.size + 2, BoxP (w.heap.size + 1) 26 #[.slice none 0 0, .slice none 0 0, .slice none 0 0]⟩] w2)
    (L : LO w2 w1.heap.size (.slice (some ⟨g, 0, none⟩) 4 c4) 4 (.slice B 4 d) 4 (.slice C 4 f) 4 hs iv l) (_ : ∀ k, (iv k).1 < (iv k).2 → w1.heap.size ≤ (iv k).1) (O : w2.ownsRow (w.heap.size + 2) 29 4 (.slice (some ⟨w.heap.size + 2, 0, none⟩) 0 0) 0 (pcells [])) (z1 : w.heap.size + 3 ≤ w1.heap.size) (z2 : w1.heap.size ≤ w2.heap.size) :
    LvS w va w2.heap.size g c4 (.slice B 4 d) (.slice C 4 f) l x 0 (.slice (some ⟨w.heap.size + 2, 0, none⟩) 0 0) hs (w2.alloc (.cells #[.slice (some ⟨g, 0, none⟩) 4 c4, .slice B 4 d, .slice C 4 f] 26)) := by
  have gB := L.r.row.lt g rfl
  have hl := dr_len L.r
  refine ⟨fm_alloc F _, blk_new w2 _ _, own_mono (L.r.row.alloc _) z1, hl.1, fun j h r e1 e2 => ?_, own_mono (L.b.alloc _) z1, own_mono (L.c.alloc _) z1, O.alloc _, ⟨fun e => ?_, fun e => ?_, by omega⟩, ⟨fun e => ?_, fun e => ?_, fun b e e2 => ?_⟩, ⟨fun e => ?_, fun e => ?_, fun b e e2 => ?_⟩, by omega⟩
  · rw [left_zero] at e2
    obtain ⟨a1, a2, a3, fh, a4⟩ := L.r.all j (by have := get_lt e1; omega) h r e1 e2
    refine ⟨a1, frx_alloc (frx_mono (X := fun b => (iv j).1 ≤ b ∧ b < (iv j).2) (dv_frx a4 a2) fun b hb => ⟨fun e => ?_, ?_, fun e => ?_, by omega⟩) _⟩
    · have := L.r.off g rfl j; omega
    · have := L.r.top j; omega
    · simp [Value.ownBlock] at e; omega
  · simp [Value.ownBlock] at e; omega
  · simp [Value.ownBlock] at e; omega
  · have := (L.b.lt _ e).2; omega
  · exact (L.ab g e).1 rfl
  · simp [Value.ownBlock] at e; have := (L.b.lt b e2).1; omega
  · have := (L.c.lt _ e).2; omega
  · exact (L.ac g e).1 rfl
  · simp [Value.ownBlock] at e; have := (L.c.lt b e2).1; omega
theorem lvs_end {w w1 : World} {va : Array Value} {LB g c4 k d f : Nat} {B C : Option Addr} {tk : Value} {l : Ln} {x : Int} {hs : List Rh} (T : LvS w va LB g c4 (.slice B 4 d) (.slice C 4 f) l x k tk hs w1) (hv : l.rs.length = 4) (u0 u1 u2 : Value) :
    LR (((w1.setCell ⟨w.heap.size + 1, 0, none⟩ u0).setCell ⟨w.heap.size + 1, 1, none⟩ u1).setCell ⟨w.heap.size + 1, 2, none⟩ u2) (some ⟨g, 0, none⟩) 4 B 4 C 4 ⟨leftR l.rs x k, l.ws, l.cs⟩ := by
  have hx : ¬ X8 w g LB tk (w.heap.size + 1) := fun h => by have := h.2.2.2; omega
  refine ⟨⟨hs, hq_own (own_set_far (own_set_far (own_set_far T.row (by simp) _) (by simp) _) (by simp) _), by rw [T.len, left_len, hv], fun j h r e1 e2 => ⟨(T.all j h r e1 e2).1, frx_fr (frx_set (frx_set (frx_set (T.all j h r e1 e2).2 hx _) hx _) hx _)⟩, by omega⟩, nr_own (own_set_far (own_set_far (own_set_far T.b (by simp) _) (by simp) _) (by simp) _), nr_own (own_set_far (own_set_far (own_set_far T.c (by simp) _) (by simp) _) (by simp) _), by omega, by omega⟩
end Go.Proofs.Ytkmoiphcpmhacaa
