/-
  Flows in memory: rows of flows' headers, the packets that wait behind each, and flows that a call owns together with their packets. Conditions: none; every lemma says what it asks.
-/
import Derived.Test.YtehokkijfgiggaaRm
import Derived.Test.YtehokkijfgiggaaStep
import Derived.Test.YtehokkijfgiggaaIv
namespace Go.Proofs.Ytehokkijfgiggaa
open Go.RowKit

/-- a flow as its three cells say it -/
structure Fh where
  peer : Int
  dfc : Int
  A : Option Addr
  n : Nat
  c : Nat
def Fh.sl (h : Fh) : Value := .slice h.A h.n h.c
def fcells : List Fh → List Value
  | [] => []
  | h :: r => .int .i64 h.peer :: .int .i64 h.dfc :: .slice h.A h.n h.c :: fcells r
theorem fcells_len (hs : List Fh) : (fcells hs).length = hs.length * 3 := by
  induction hs with
  | nil => rfl
  | cons p r ih => simp only [fcells, List.length_cons, ih]; omega
theorem fcells_append (a b : List Fh) : fcells (a ++ b) = fcells a ++ fcells b := by
  induction a with
  | nil => rfl
  | cons p r ih => simp only [fcells, List.cons_append, ih]
theorem fcells_get (hs : List Fh) (k : Nat) (h : Fh) (e : hs[k]? = some h) :
    (fcells hs)[k * 3]? = some (.int .i64 h.peer) ∧ (fcells hs)[k * 3 + 1]? = some (.int .i64 h.dfc) ∧ (fcells hs)[k * 3 + 2]? = some (.slice h.A h.n h.c) := by
  induction hs generalizing k with
  | nil => simp at e
  | cons q r ih =>
    cases k with
    | zero =>
      simp only [List.getElem?_cons_zero, Option.some.injEq] at e
      subst e
      simp [fcells]
    | succ k =>
      have h' : r[k]? = some h := by simpa using e
      have := ih k h'
      have e : (k + 1) * 3 = k * 3 + 3 := by omega
      rw [e]
      simpa [fcells, Nat.add_right_comm] using this
theorem fcells_one (hs : List Fh) : ∀ u ∈ fcells hs, u.oneCell' = true := by
  induction hs with
  | nil => intro u hu; cases hu
  | cons p r ih =>
    intro u hu
    simp only [fcells, List.mem_cons] at hu
    rcases hu with rfl | rfl | rfl | hu
    · rfl
    · rfl
    · rfl
    · exact ih u hu
theorem fcells_set (hs : List Fh) (k : Nat) (h : Fh) : (((fcells hs).set (k * 3) (.int .i64 h.peer)).set (k * 3 + 1) (.int .i64 h.dfc)).set (k * 3 + 2) (.slice h.A h.n h.c) = fcells (hs.set k h) := by
  induction hs generalizing k with
  | nil => simp [fcells]
  | cons p r ih =>
    cases k with
    | zero => simp [fcells]
    | succ k =>
      have e : (k + 1) * 3 = k * 3 + 3 := by omega
      rw [e]
      simp only [fcells, List.set_cons_succ, Nat.add_right_comm _ 3, ← ih k]
theorem fcells_set1 (hs : List Fh) (k : Nat) (h : Fh) (x : Int) (e : hs[k]? = some h) : (fcells hs).set (k * 3 + 1) (.int .i64 x) = fcells (hs.set k ⟨h.peer, x, h.A, h.n, h.c⟩) := by
  induction hs generalizing k with
  | nil => simp [fcells]
  | cons p r ih =>
    cases k with
    | zero =>
      obtain rfl : p = h := by simpa using e
      simp [fcells]
    | succ k =>
      have e2 : (k + 1) * 3 = k * 3 + 3 := by omega
      rw [e2]
      simp only [fcells, List.set_cons_succ, Nat.add_right_comm _ 3, ← ih k (by simpa using e)]
theorem fcells_set2 (hs : List Fh) (k : Nat) (h : Fh) (A : Option Addr) (n c : Nat) (e : hs[k]? = some h) : (fcells hs).set (k * 3 + 2) (.slice A n c) = fcells (hs.set k ⟨h.peer, h.dfc, A, n, c⟩) := by
  induction hs generalizing k with
  | nil => simp [fcells]
  | cons p r ih =>
    cases k with
    | zero =>
      obtain rfl : p = h := by simpa using e
      simp [fcells]
    | succ k =>
      have e2 : (k + 1) * 3 = k * 3 + 3 := by omega
      rw [e2]
      simp only [fcells, List.set_cons_succ, Nat.add_right_comm _ 3, ← ih k (by simpa using e)]

def FhAt (w : World) (b o : Nat) (h : Fh) : Prop :=
  w.cell? ⟨b, o, none⟩ = some (.int .i64 h.peer) ∧ w.cell? ⟨b, o + 1, none⟩ = some (.int .i64 h.dfc) ∧ w.cell? ⟨b, o + 2, none⟩ = some (.slice h.A h.n h.c)
theorem fat_keep {w w' : World} {b o : Nat} {h : Fh} (e : FhAt w b o h) (hk : ∀ x, w'.cell? ⟨b, x, none⟩ = w.cell? ⟨b, x, none⟩) : FhAt w' b o h :=
  ⟨(hk _).trans e.1, (hk _).trans e.2.1, (hk _).trans e.2.2⟩
/-- the slice of n flows at A has the headers hs -/
def HR (w : World) (A : Option Addr) (n : Nat) (hs : List Fh) : Prop :=
  hs.length = n ∧ (0 < n → ∃ b off, A = some ⟨b, off, none⟩ ∧ b < w.heap.size ∧ ∀ (k : Nat) (h : Fh), hs[k]? = some h → FhAt w b (off + k * 3) h)
section
variable {w w' : World} {A : Option Addr} {n c : Nat} {hs : List Fh}
theorem hr_nil (w : World) (A : Option Addr) : HR w A 0 [] := ⟨rfl, fun h => absurd h (by omega)⟩
theorem hr_keep (h : HR w A n hs) (hz : w.heap.size ≤ w'.heap.size) (hk : ∀ b x, b < w.heap.size → A.map (·.block) = some b → w'.cell? ⟨b, x, none⟩ = w.cell? ⟨b, x, none⟩) : HR w' A n hs :=
  ⟨h.1, fun hn => by
    obtain ⟨b, off, rfl, hb, hc⟩ := h.2 hn
    exact ⟨b, off, rfl, Nat.lt_of_lt_of_le hb hz, fun k p hp => fat_keep (hc k p hp) fun x => hk b x hb rfl⟩⟩
theorem hr_below (h : HR w A n hs) (hb : Below w.heap.size w w') : HR w' A n hs := hr_keep h hb.size fun b x hlt _ => (bcell hb).1 b x hlt
theorem hr_alloc (h : HR w A n hs) (o : Obj) : HR (w.alloc o) A n hs := hr_below h (below_alloc (Below.refl _ _) o)
theorem hr_drewN (h : HR w A n hs) (k : Nat) : HR (w.drewN k) A n hs := h
theorem hr_at {k : Nat} (h : HR w A n hs) (hk : k < n) : ∃ b off p, A = some ⟨b, off, none⟩ ∧ b < w.heap.size ∧ hs[k]? = some p ∧ FhAt w b (off + k * 3) p := by
  obtain ⟨b, off, e, hb, hc⟩ := h.2 (by omega)
  have hl : k < hs.length := by have := h.1; omega
  exact ⟨b, off, hs[k], e, hb, List.getElem?_eq_getElem hl, hc k _ (List.getElem?_eq_getElem hl)⟩
theorem hr_own {base : Nat} {e : TypeId} (h : w.ownsRow base e 3 (.slice A n c) n (fcells hs)) : HR w A n hs := by
  have hl : hs.length = n := by have := h.1; rw [fcells_len] at this; omega
  refine ⟨hl, fun hn => ?_⟩
  obtain ⟨g, cap, hv, _, hlt⟩ := h.form hn
  have hA : A = some ⟨g, 0, none⟩ := by injection hv
  subst hA
  refine ⟨g, 0, rfl, hlt, fun k p hp => ?_⟩
  have hc := h.cells (g := g) rfl
  have hg := fcells_get hs k p hp
  have ha : ∀ j, (⟨g, 0, none⟩ : Addr).add j = ⟨g, j, none⟩ := fun j => by unfold Addr.add; split <;> simp_all
  simp only [ha] at hc
  rw [Nat.zero_add]
  exact ⟨hc _ _ hg.1, hc _ _ hg.2.1, hc _ _ hg.2.2⟩
theorem hr_take (h : HR w A n hs) {k : Nat} (hk : k ≤ n) : HR w A k (hs.take k) :=
  ⟨by rw [List.length_take, h.1]; omega, fun hn => by
    obtain ⟨b, off, e, hb, hc⟩ := h.2 (by omega)
    exact ⟨b, off, e, hb, fun j p hp => hc j p (by
      rw [List.getElem?_take] at hp
      split at hp
      · exact hp
      · cases hp)⟩⟩
theorem hr_drop (h : HR w A n hs) {k : Nat} (hk : k ≤ n) (hc : n ≤ c) : HR w (if c = k then A else A.map (·.add (k * 3))) (n - k) (hs.drop k) := by
  refine ⟨by rw [List.length_drop, h.1], fun hn => ?_⟩
  obtain ⟨b, off, rfl, hb, hcell⟩ := h.2 (by omega)
  rw [if_neg (by omega)]
  refine ⟨b, off + k * 3, ?_, hb, fun j p hp => ?_⟩
  · simp only [Option.map_some, Addr.add]
    split
    · rw [show k * 3 = 0 from by assumption, Nat.add_zero]
    · rfl
  · have := hcell (k + j) p (by rw [← hp, List.getElem?_drop])
    rw [show off + k * 3 + j * 3 = off + (k + j) * 3 from by omega]
    exact this
theorem hr_old (h : HR w A n hs) : 0 < n → ∀ b, A.map (·.block) = some b → b < w.heap.size := fun hn b hb => by
  obtain ⟨b', off, rfl, hlt, _⟩ := h.2 hn
  obtain rfl : b' = b := by simpa using hb
  exact hlt
theorem hr_grown {row : Option Nat} (h : HR w A n hs) (hg : w.grownBy w' row) (hne : 0 < n → ∀ b, A.map (·.block) = some b → some b ≠ row) : HR w' A n hs :=
  ⟨h.1, fun hn => by
    obtain ⟨b, off, rfl, hb, hc⟩ := h.2 hn
    exact ⟨b, off, rfl, Nat.lt_of_lt_of_le hb hg.size, fun k q hq => fat_keep (hc k q hq) fun x => hg.cell_far ⟨b, x, none⟩ hb (hne hn b rfl)⟩⟩
end
/-- the packets behind the headers: all of them in blocks that X names -/
structure WH (w : World) (X : Nat → Prop) (h : Fh) (f : Flw) : Prop where
  peer : h.peer = f.peer
  dfc : h.dfc = f.dfc
  pr : PR w h.A h.n f.ws
  cap : h.n ≤ h.c
  few : h.n ≤ 4000000000
  far : 0 < h.n → ∀ b, h.A.map (·.block) = some b → X b
def WL (w : World) (X : Nat → Prop) (hs : List Fh) (fs : List Flw) : Prop := hs.length = fs.length ∧ ∀ (k : Nat) (h : Fh) (f : Flw), hs[k]? = some h → fs[k]? = some f → WH w X h f
section
variable {w w' : World} {X Y : Nat → Prop} {hs : List Fh} {fs : List Flw}
theorem wh_grown {h : Fh} {f : Flw} {row : Option Nat} (e : WH w X h f) (hg : w.grownBy w' row) (hx : ∀ b, X b → some b ≠ row) : WH w' X h f :=
  ⟨e.peer, e.dfc, pr_grown e.pr hg fun hn b hb => hx b (e.far hn b hb), e.cap, e.few, e.far⟩
theorem wl_grown {row : Option Nat} (e : WL w X hs fs) (hg : w.grownBy w' row) (hx : ∀ b, X b → some b ≠ row) : WL w' X hs fs := ⟨e.1, fun k h f h1 h2 => wh_grown (e.2 k h f h1 h2) hg hx⟩
theorem wh_below {h : Fh} {f : Flw} (e : WH w X h f) (hb : Below w.heap.size w w') : WH w' X h f := ⟨e.peer, e.dfc, pr_below e.pr hb, e.cap, e.few, e.far⟩
theorem wl_below (e : WL w X hs fs) (hb : Below w.heap.size w w') : WL w' X hs fs := ⟨e.1, fun k h f h1 h2 => wh_below (e.2 k h f h1 h2) hb⟩
theorem wl_mono (e : WL w X hs fs) (hx : ∀ b, X b → Y b) : WL w Y hs fs := ⟨e.1, fun k h f h1 h2 => by have := e.2 k h f h1 h2; exact ⟨this.peer, this.dfc, this.pr, this.cap, this.few, fun hn b hb => hx b (this.far hn b hb)⟩⟩
/-- blocks that are there -/
theorem wl_old (e : WL w X hs fs) : WL w (fun b => b < w.heap.size) hs fs := ⟨e.1, fun k h f h1 h2 => by have := e.2 k h f h1 h2; exact ⟨this.peer, this.dfc, this.pr, this.cap, this.few, pr_old this.pr⟩⟩
theorem wl_get {k : Nat} {h : Fh} (e : WL w X hs fs) (hk : hs[k]? = some h) : ∃ f, fs[k]? = some f ∧ WH w X h f := by
  have hl : k < hs.length := by
    rcases Nat.lt_or_ge k hs.length with hl | hl
    · exact hl
    · rw [List.getElem?_eq_none hl] at hk; cases hk
  have hl2 : k < fs.length := by rw [← e.1]; exact hl
  exact ⟨fs[k], List.getElem?_eq_getElem hl2, e.2 k h _ hk (List.getElem?_eq_getElem hl2)⟩
theorem wl_nil : WL w X [] [] := ⟨rfl, fun k h f h1 => by simp at h1⟩
theorem wl_snoc {h : Fh} {f : Flw} (e : WL w X hs fs) (n : WH w X h f) : WL w X (hs ++ [h]) (fs ++ [f]) :=
  ⟨by simp [e.1], fun k g i h1 h2 => by
    rcases Nat.lt_or_ge k hs.length with hl | hl
    · rw [List.getElem?_append_left hl] at h1
      rw [List.getElem?_append_left (by rw [← e.1]; exact hl)] at h2
      exact e.2 k g i h1 h2
    · rw [List.getElem?_append_right hl] at h1
      rw [List.getElem?_append_right (by rw [← e.1]; exact hl), ← e.1] at h2
      have h0 : k - hs.length = 0 := by
        rcases Nat.eq_zero_or_pos (k - hs.length) with e | e
        · exact e
        · rw [List.getElem?_eq_none (by simp; omega)] at h1; cases h1
      rw [h0] at h1 h2
      obtain rfl : h = g := by simpa using h1
      obtain rfl : f = i := by simpa using h2
      exact n⟩
theorem wl_cons {h : Fh} {f : Flw} (e : WL w X hs fs) (n : WH w X h f) : WL w X (h :: hs) (f :: fs) :=
  ⟨by simp [e.1], fun k g i h1 h2 => by
    cases k with
    | zero =>
      obtain rfl : h = g := by simpa using h1
      obtain rfl : f = i := by simpa using h2
      exact n
    | succ k => exact e.2 k g i (by simpa using h1) (by simpa using h2)⟩
theorem wl_head {h : Fh} {f : Flw} (e : WL w X (h :: hs) (f :: fs)) : WH w X h f ∧ WL w X hs fs :=
  ⟨e.2 0 h f rfl rfl, by simpa using e.1, fun k g i h1 h2 => e.2 (k + 1) g i (by simpa using h1) (by simpa using h2)⟩
theorem wl_set {k : Nat} {h : Fh} {f : Flw} (e : WL w X hs fs) (n : WH w X h f) : WL w X (hs.set k h) (fs.set k f) :=
  ⟨by simp [e.1], fun j g i h1 h2 => by
    by_cases hj : k = j
    · subst hj
      rw [List.getElem?_set] at h1 h2
      rw [if_pos rfl] at h1 h2
      split at h1
      · split at h2
        · obtain rfl : h = g := by simpa using h1
          obtain rfl : f = i := by simpa using h2
          exact n
        · cases h2
      · cases h1
    · rw [List.getElem?_set_ne hj] at h1 h2
      exact e.2 j g i h1 h2⟩
theorem wl_erase (e : WL w X hs fs) (k : Nat) : WL w X (hs.eraseIdx k) (fs.eraseIdx k) :=
  ⟨by rw [List.length_eraseIdx, List.length_eraseIdx, e.1], fun j g i h1 h2 => by
    rw [List.getElem?_eraseIdx] at h1 h2
    split at h1
    · rename_i hl; rw [if_pos hl] at h2; exact e.2 j g i h1 h2
    · rename_i hl; rw [if_neg hl] at h2; exact e.2 (j + 1) g i h1 h2⟩
theorem wl_take (e : WL w X hs fs) (k : Nat) : WL w X (hs.take k) (fs.take k) :=
  ⟨by rw [List.length_take, List.length_take, e.1], fun j g i h1 h2 => by
    rw [List.getElem?_take] at h1 h2
    split at h1
    · rename_i hl; rw [if_pos hl] at h2; exact e.2 j g i h1 h2
    · cases h1⟩
theorem wl_drop (e : WL w X hs fs) (k : Nat) : WL w X (hs.drop k) (fs.drop k) :=
  ⟨by rw [List.length_drop, List.length_drop, e.1], fun j g i h1 h2 => by
    rw [List.getElem?_drop] at h1 h2
    exact e.2 (k + j) g i h1 h2⟩
end
/-- the slice of n flows at A reads as fs -/
def FR (w : World) (A : Option Addr) (n : Nat) (fs : List Flw) : Prop := ∃ hs, HR w A n hs ∧ WL w (fun b => b < w.heap.size) hs fs ∧ n ≤ 4000000000
section
variable {w w' : World} {A : Option Addr} {n c : Nat} {fs : List Flw}
theorem fr_nilF (w : World) (A : Option Addr) : FR w A 0 [] := ⟨[], hr_nil _ _, wl_nil, by omega⟩
theorem fr_belowF (h : FR w A n fs) (hb : Below w.heap.size w w') : FR w' A n fs := by
  obtain ⟨hs, h1, h2, h3⟩ := h
  exact ⟨hs, hr_below h1 hb, wl_mono (wl_below h2 hb) fun b hlt => Nat.lt_of_lt_of_le hlt hb.size, h3⟩
theorem fr_allocF (h : FR w A n fs) (o : Obj) : FR (w.alloc o) A n fs := fr_belowF h (below_alloc (Below.refl _ _) o)
theorem fr_drewNF (h : FR w A n fs) (k : Nat) : FR (w.drewN k) A n fs := fr_belowF h (below_drewN (Below.refl _ _) k)
theorem fr_drewF (h : FR w A n fs) : FR w.drew A n fs := fr_belowF h (Below.refl _ _).drew
theorem fr_lenF (h : FR w A n fs) : fs.length = n ∧ n ≤ 4000000000 := by
  obtain ⟨hs, h1, h2, h3⟩ := h
  exact ⟨by rw [← h2.1]; exact h1.1, h3⟩
/-- one flow is read -/
theorem fr_at {k : Nat} (h : FR w A n fs) (hk : k < n) : ∃ b off f g, A = some ⟨b, off, none⟩ ∧ b < w.heap.size ∧ fs[k]? = some f ∧ FhAt w b (off + k * 3) g ∧ g.peer = f.peer ∧ g.dfc = f.dfc ∧ PR w g.A g.n f.ws ∧ g.n ≤ g.c ∧ g.n ≤ 4000000000 := by
  obtain ⟨hs, h1, h2, h3⟩ := h
  obtain ⟨b, off, g, e, hb, hg, hat⟩ := hr_at h1 hk
  obtain ⟨f, hf, hw⟩ := wl_get h2 hg
  exact ⟨b, off, f, g, e, hb, hf, hat, hw.peer, hw.dfc, hw.pr, hw.cap, hw.few⟩
/-- the same, in cells -/
theorem fr_cells {k : Nat} (h : FR w A n fs) (hk : k < n) : ∃ b off f A1 n1 c1, A = some ⟨b, off, none⟩ ∧ b < w.heap.size ∧ fs[k]? = some f ∧ w.cell? ⟨b, off + k * 3, none⟩ = some (.int .i64 f.peer) ∧ w.cell? ⟨b, off + k * 3 + 1, none⟩ = some (.int .i64 f.dfc) ∧ w.cell? ⟨b, off + k * 3 + 2, none⟩ = some (.slice A1 n1 c1) ∧ PR w A1 n1 f.ws ∧ n1 ≤ c1 ∧ n1 ≤ 4000000000 := by
  obtain ⟨b, off, f, g, e, hb, hf, ⟨c0, c1, c2⟩, h1, h2, h3, h4, h5⟩ := fr_at h hk
  exact ⟨b, off, f, g.A, g.n, g.c, e, hb, hf, by rw [← h1]; exact c0, by rw [← h2]; exact c1, c2, h3, h4, h5⟩
end
/-- the same, with the blocks in which the row and the packets may lie -/
def FRX (w : World) (X : Nat → Prop) (A : Option Addr) (n : Nat) (fs : List Flw) : Prop := ∃ hs, HR w A n hs ∧ (0 < n → ∀ b, A.map (·.block) = some b → X b) ∧ WL w X hs fs ∧ n ≤ 4000000000
section
variable {w w' : World} {X Y : Nat → Prop} {A : Option Addr} {n : Nat} {fs : List Flw}
theorem frx_fr (h : FRX w X A n fs) : FR w A n fs := by
  obtain ⟨hs, h1, -, h3, h4⟩ := h
  exact ⟨hs, h1, wl_old h3, h4⟩
theorem fr_frx (h : FR w A n fs) : FRX w (fun b => b < w.heap.size) A n fs := by
  obtain ⟨hs, h1, h2, h3⟩ := h
  exact ⟨hs, h1, hr_old h1, h2, h3⟩
theorem frx_mono (h : FRX w X A n fs) (hx : ∀ b, X b → Y b) : FRX w Y A n fs := by
  obtain ⟨hs, h1, h2, h3, h4⟩ := h
  exact ⟨hs, h1, fun hn b hb => hx b (h2 hn b hb), wl_mono h3 hx, h4⟩
theorem frx_below (h : FRX w X A n fs) (hb : Below w.heap.size w w') : FRX w' X A n fs := by
  obtain ⟨hs, h1, h2, h3, h4⟩ := h
  exact ⟨hs, hr_below h1 hb, h2, wl_below h3 hb, h4⟩
theorem frx_alloc (h : FRX w X A n fs) (o : Obj) : FRX (w.alloc o) X A n fs := frx_below h (below_alloc (Below.refl _ _) o)
theorem frx_drew (h : FRX w X A n fs) : FRX w.drew X A n fs := frx_below h (Below.refl _ _).drew
theorem frx_grown {row : Option Nat} (h : FRX w X A n fs) (hg : w.grownBy w' row) (hx : ∀ b, X b → some b ≠ row) : FRX w' X A n fs := by
  obtain ⟨hs, h1, h2, h3, h4⟩ := h
  exact ⟨hs, hr_grown h1 hg fun hn b hb => hx b (h2 hn b hb), h2, wl_grown h3 hg hx, h4⟩
theorem frx_set (h : FRX w X A n fs) {p : Addr} (hp : ¬ X p.block) (u : Value) : FRX (w.setCell p u) X A n fs :=
  frx_grown h (g_set (g_refl w (some p.block)) (.inl rfl) u) fun b hb e => hp (by injection e with e; rw [← e]; exact hb)
end
/-- flows that a call owns, each with its packets -/
structure DO (w : World) (lo : Nat) (v : Value) (n : Nat) (hs : List Fh) (fs : List Flw) : Prop where
  row : w.ownsRow lo 40 3 v n (fcells hs)
  len : hs.length = fs.length
  all : ∀ (k : Nat) (h : Fh) (f : Flw), hs[k]? = some h → fs[k]? = some f → h.peer = f.peer ∧ h.dfc = f.dfc ∧ h.n ≤ 4000000000 ∧ w.ownsRow lo 28 4 h.sl h.n (pcells f.ws) ∧ (∀ b, h.sl.ownBlock = some b → v.ownBlock ≠ some b)
  apart : ∀ (i j : Nat) (h g : Fh), i ≠ j → hs[i]? = some h → hs[j]? = some g → ∀ b, h.sl.ownBlock = some b → g.sl.ownBlock ≠ some b
theorem do_nil (w : World) (lo : Nat) : DO w lo (.slice none 0 0) 0 [] [] := ⟨World.ownsRow_nil _ _ _ _, rfl, fun k h f e => by simp at e, fun i j h g _ e => by simp at e⟩
theorem do_fr {w : World} {lo : Nat} {A : Option Addr} {n c : Nat} {hs : List Fh} {fs : List Flw} (h : DO w lo (.slice A n c) n hs fs) (hn : n ≤ 4000000000) : FR w A n fs := by
  refine ⟨hs, hr_own h.row, ⟨h.len, fun k g f h1 h2 => ?_⟩, hn⟩
  obtain ⟨e1, e2, e3, e4, _⟩ := h.all k g f h1 h2
  have hp := pr_own (A := g.A) (n := g.n) (c := g.c) e4
  obtain ⟨A', c', hv, hc, _, _⟩ := own_form e4
  obtain ⟨-, -, rfl⟩ : g.A = A' ∧ True ∧ g.c = c' := by unfold Fh.sl at hv; injection hv with a1 a2 a3; exact ⟨a1, trivial, a3⟩
  exact ⟨e1, e2, hp, hc, e3, pr_old hp⟩
theorem do_below {w w' : World} {lo : Nat} {v : Value} {n : Nat} {hs : List Fh} {fs : List Flw} (h : DO w lo v n hs fs) (hb : Below w.heap.size w w') : DO w' lo v n hs fs :=
  ⟨own_below h.row hb, h.len, fun k g f h1 h2 => by
    obtain ⟨e1, e2, e3, e4, e5⟩ := h.all k g f h1 h2
    exact ⟨e1, e2, e3, own_below e4 hb, e5⟩, h.apart⟩
theorem do_alloc {w : World} {lo : Nat} {v : Value} {n : Nat} {hs : List Fh} {fs : List Flw} (h : DO w lo v n hs fs) (o : Obj) : DO (w.alloc o) lo v n hs fs := do_below h (below_alloc (Below.refl _ _) o)
theorem do_mono {w : World} {lo lo2 : Nat} {v : Value} {n : Nat} {hs : List Fh} {fs : List Flw} (h : DO w lo v n hs fs) (hl : lo2 ≤ lo) : DO w lo2 v n hs fs :=
  ⟨own_mono h.row hl, h.len, fun k g f h1 h2 => by
    obtain ⟨e1, e2, e3, e4, e5⟩ := h.all k g f h1 h2
    exact ⟨e1, e2, e3, own_mono e4 hl, e5⟩, h.apart⟩
/-- a store elsewhere -/
theorem do_far {w : World} {lo : Nat} {v : Value} {n : Nat} {hs : List Fh} {fs : List Flw} (h : DO w lo v n hs fs) {p : Addr} (hp : p.block < lo) (u : Value) : DO (w.setCell p u) lo v n hs fs :=
  ⟨own_set_far h.row hp u, h.len, fun k g f h1 h2 => by
    obtain ⟨e1, e2, e3, e4, e5⟩ := h.all k g f h1 h2
    exact ⟨e1, e2, e3, own_set_far e4 hp u, e5⟩, h.apart⟩
/-- other blocks turn -/
theorem do_grown {w w' : World} {lo : Nat} {v : Value} {n : Nat} {hs : List Fh} {fs : List Flw} {row : Option Nat} (h : DO w lo v n hs fs) (hg : w.grownBy w' row) (h0 : ∀ b, row = some b → v.ownBlock ≠ some b) (h1 : ∀ (k : Nat) (g : Fh), hs[k]? = some g → ∀ b, row = some b → g.sl.ownBlock ≠ some b) : DO w' lo v n hs fs := by
  have key : ∀ {u : Value} {e : TypeId} {s m : Nat} {xs : List Value}, w.ownsRow lo e s u m xs → (∀ b, row = some b → u.ownBlock ≠ some b) → w'.ownsRow lo e s u m xs := by
    intro u e s m xs ho hu
    refine ho.kept hg ?_
    rcases hub : u.ownBlock with _ | b
    · exact .inl rfl
    · right
      intro e
      exact hu b (by rw [← e]) hub
  exact ⟨key h.row h0, h.len, fun k g f e1 e2 => by
    obtain ⟨a1, a2, a3, a4, a5⟩ := h.all k g f e1 e2
    exact ⟨a1, a2, a3, key a4 (h1 k g e1), a5⟩, h.apart⟩
end Go.Proofs.Ytehokkijfgiggaa
