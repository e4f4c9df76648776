/-
  Chapter 5: turns: what the program's moveBehind and beginTurns leave in the flows' memory. Conditions: a robin has at most 4000000000 flows. Chapter 5: turns: what the program's takeNext returns. Conditions: the robin is valid and has flows. Chapter 5: turns: what the model's l5Next returns. Conditions: the robin is valid and has flows. Chapter 5: NextPacket: what the program's function and the model's return. Conditions: none.
  Conditions: each lemma says them.
-/
import Derived.Test.YtkmoiphcpmhacaaKd
import Derived.Test.YtkmoiphcpmhacaaKc
import Derived.Laws.IdiomCopy
import Derived.Deep.CutBlock
namespace Go.Proofs.Ytkmoiphcpmhacaa
open Go.RowKit

def setLs (xs : List Value) : Nat → List Value → List Value
  | _, [] => xs
  | o, v :: r => setLs (xs.set o v) (o + 1) r
theorem setLs_get (vs : List Value) : ∀ (xs : List Value) (o j : Nat), o + vs.length ≤ xs.length → (setLs xs o vs)[j]? = if o ≤ j ∧ j < o + vs.length then vs[j - o]? else xs[j]? := by
  induction vs with
  | nil =>
    intro xs o j _
    rw [if_neg (by simp only [List.length_nil]; omega)]
    rfl
  | cons v r ih =>
    intro xs o j h
    simp only [List.length_cons] at h
    simp only [setLs]
    rw [ih _ _ _ (by simp; omega)]
    by_cases h1 : o + 1 ≤ j ∧ j < o + 1 + r.length
    · rw [if_pos h1, if_pos (by simp; omega), show j - o = j - (o + 1) + 1 by omega, List.getElem?_cons_succ]
    · rw [if_neg h1]
      by_cases h2 : j = o
      · subst h2
        rw [if_pos (by simp), List.getElem?_set_self (by omega), Nat.sub_self]
        rfl
      · rw [if_neg (by simp; omega), List.getElem?_set_ne (by omega)]
theorem own_setCells {base e size g n c : Nat} (vs : List Value) : ∀ {w : World} {xs : List Value} (o : Nat), w.ownsRow base e size (.slice (some ⟨g, 0, none⟩) n c) n xs → (w.setCells g o vs).ownsRow base e size (.slice (some ⟨g, 0, none⟩) n c) n (setLs xs o vs) := by
  induction vs with
  | nil => intro w xs o h; exact h
  | cons v r ih => intro w xs o h; exact ih (o + 1) (h.stored o v).1
theorem grown_setCellsR {g : Nat} (vs : List Value) : ∀ {a w : World} (o : Nat), a.grownBy w (some g) → a.grownBy (w.setCells g o vs) (some g) := by
  induction vs with
  | nil => intro a w o h; exact h
  | cons v r ih => intro a w o h; exact ih (o + 1) (g_set h (.inl rfl) v)
theorem moved_cells (h : Fh) (r : List Fh) : setLs (fcells (h :: r)) 0 (fcells r) = fcells (r ++ (h :: r).drop r.length) := by
  have hl : (fcells (h :: r)).length = (r.length + 1) * 3 := by rw [fcells_len]; rfl
  have hr : (fcells r).length = r.length * 3 := fcells_len r
  have ht : fcells (h :: r) = fcells ((h :: r).take r.length) ++ fcells ((h :: r).drop r.length) := by rw [← fcells_append, List.take_append_drop]
  have htl : (fcells ((h :: r).take r.length)).length = r.length * 3 := by rw [fcells_len, List.length_take]; simp
  apply List.ext_getElem?
  intro j
  rw [setLs_get _ _ _ _ (by omega), fcells_append]
  by_cases hj : j < r.length * 3
  · rw [if_pos (by omega), List.getElem?_append_left (by omega)]
    rfl
  · rw [if_neg (by omega), List.getElem?_append_right (by omega), ht, List.getElem?_append_right (by omega), htl, hr]
theorem moved_last (h : Fh) (r : List Fh) : (r ++ (h :: r).drop r.length).set r.length h = r ++ [h] := by
  have hd : ∃ z, (h :: r).drop r.length = [z] := by
    have hl : ((h :: r).drop r.length).length = 1 := by rw [List.length_drop]; simp
    match hz : (h :: r).drop r.length, hl with
    | [z], _ => exact ⟨z, rfl⟩
  obtain ⟨z, hz⟩ := hd
  rw [hz]
  apply List.ext_getElem?
  intro j
  by_cases hj : r.length = j
  · subst hj
    rw [List.getElem?_set_self (by simp), List.getElem?_append_right (Nat.le_refl _)]
    simp
  · rw [List.getElem?_set_ne hj]
    rcases Nat.lt_or_ge j r.length with hlt | hge
    · rw [List.getElem?_append_left hlt, List.getElem?_append_left hlt]
    · rw [List.getElem?_eq_none (by simp; omega), List.getElem?_eq_none (by simp; omega)]
theorem run_copy_sized {P : Program} (w : World) (dT sT ty elem : TypeId) (s b o dLen dCap : Nat) (a : Addr) (sLen sCap : Nat) (cs : List Value)
    (hu : P.underlying dT = some (.slice elem)) (hs : (P.info? elem).map (·.size) = some s) (hn : cs.length = Nat.min sLen dLen * s)
    (hsrc : ∀ j v, cs[j]? = some v → w.cell? (a.add j) = some v) (hc : ∀ j, j < cs.length → (w.cell? ⟨b, o + j, none⟩).isSome = true) (hf : ∀ j, j < cs.length → w.frozen? ⟨b, o + j, none⟩ = false) (h1 : ∀ v ∈ cs, v.oneCell' = true) :
    (Builtin.copy_ #[dT, sT] ty #[.slice (some ⟨b, o, none⟩) dLen dCap, .slice (some a) sLen sCap]).run P w = .ok (goInt (Nat.min sLen dLen)) (w.setCells b o cs) := by
  have hl := run_loadCells_list (P := P) w a cs hsrc
  have hst := run_storeCells_cells (P := P) b o cs 0 w (by simpa using hc) (by simpa using hf) h1
  cases hq : P.info? elem with
  | none => simp [hq] at hs
  | some i =>
    have hi : i.size = s := by simpa [hq] using hs
    simp [Builtin.copy_, run_underlying hu, Builtin.lenOf, Builtin.firstCells, sizeOf, typeInfo, hq, hi, ← hn, hl, hst]
def MvPost (w : World) (lo g n c : Nat) (hs : List Fh) (e : Ending) (w' : World) : Prop :=
  e = .returned (.tuple #[]) ∧ w'.ownsRow lo 82 3 (.slice (some ⟨g, 0, none⟩) n c) n (fcells hs) ∧ w.grownBy w' (some g)
set_option maxHeartbeats 1000000 in
theorem moveI_any (lo g n c : Nat) (h : Fh) (r : List Fh) (w : World) (ho : w.ownsRow lo 82 3 (.slice (some ⟨g, 0, none⟩) n c) n (fcells (h :: r))) (hn : n ≤ 4000000000) :
    Calls Try.prog 99 #[.slice (some ⟨g, 0, none⟩) n c] w (MvPost w lo g n c (r ++ [h])) := by
  have hl : n = r.length + 1 := by have := ho.1; rw [fcells_len] at this; simp at this; omega
  obtain ⟨A', c', hv, hnc, hcm, -⟩ := own_form ho
  obtain rfl : c = c' := by injection hv
  have hg : g < w.heap.size := (ho.lt g rfl).2
  obtain ⟨b, off, h', e1, -, hh, c0, c1, c2⟩ := hr_at (k := 0) (hr_own ho) (by omega)
  obtain ⟨rfl, rfl⟩ : g = b ∧ 0 = off := by injection e1 with e1; injection e1 with a1 a2; exact ⟨a1, a2⟩
  obtain rfl : h = h' := by simpa using hh
  simp only [Nat.zero_mul, Nat.zero_add] at c0 c1 c2
  have hN := Lib.hid hl
  have OA := Lib.hid (ho.alloc (.cells #[.int .i64 h.peer, .int .i64 h.dfc, (.slice h.A h.n h.c)] 82))
  obtain ⟨W1, hW1⟩ : ∃ W1, W1 = (w.alloc (.cells #[.int .i64 h.peer, .int .i64 h.dfc, (.slice h.A h.n h.c)] 82)).setCells g 0 (fcells r) := ⟨_, rfl⟩
  have O1 : Hid (W1.ownsRow lo 82 3 (.slice (some ⟨g, 0, none⟩) n c) n (fcells (r ++ (h :: r).drop r.length))) := Lib.hid (by rw [hW1, ← moved_cells]; exact own_setCells _ 0 OA.out)
  have G1 : Hid (w.grownBy W1 (some g)) := Lib.hid (by rw [hW1]; exact grown_setCellsR _ 0 (g_alloc (g_refl w _) _))
  have hcell : ∀ t, t < n * 3 → (w.alloc (.cells #[.int .i64 h.peer, .int .i64 h.dfc, (.slice h.A h.n h.c)] 82)).cell? ⟨g, t, none⟩ = (fcells (h :: r))[t]? := fun t ht => OA.out.cellAt t ht
  obtain ⟨A1, hA, hrun⟩ : ∃ A1 : Addr, (if c = 1 then some (⟨g, 0, none⟩ : Addr) else some ⟨g, 3, none⟩) = some A1 ∧ ∀ ty, (Builtin.copy_ #[35, 35] ty #[.slice (some ⟨g, 0, none⟩) n c, .slice (some A1) (n - 1) (c - 1)]).run Try.prog (w.alloc (.cells #[.int .i64 h.peer, .int .i64 h.dfc, (.slice h.A h.n h.c)] 82)) = .ok (goInt (Nat.min (n - 1) n)) W1 := by
    obtain ⟨i0, hi, hz0, hz1, hz2⟩ := info_parts infoFlw
    have hlen : (fcells r).length = Nat.min (n - 1) n * 3 := by rw [fcells_len, show Nat.min (n - 1) n = n - 1 from Nat.min_eq_left (by omega)]; rw [show r.length = n - 1 by omega]
    have hmin : Nat.min (n - 1) n = n - 1 := Nat.min_eq_left (by omega)
    have run : ∀ A1 : Addr, (∀ j v, (fcells r)[j]? = some v → (w.alloc (.cells #[.int .i64 h.peer, .int .i64 h.dfc, (.slice h.A h.n h.c)] 82)).cell? (A1.add j) = some v) → ∀ ty, (Builtin.copy_ #[35, 35] ty #[.slice (some ⟨g, 0, none⟩) n c, .slice (some A1) (n - 1) (c - 1)]).run Try.prog (w.alloc (.cells #[.int .i64 h.peer, .int .i64 h.dfc, (.slice h.A h.n h.c)] 82)) = .ok (goInt (Nat.min (n - 1) n)) W1 := by
      intro A1 hsrc ty
      rw [hW1]
      refine run_copy_sized _ _ _ ty 82 3 g 0 n c A1 (n - 1) (c - 1) (fcells r) Try.underlying35 (by simp [hi, hz1]) hlen hsrc (fun j hj => ?_) (fun j _ => by rw [Nat.zero_add]; exact OA.out.frozenAt j) (fcells_one r)
      rw [Nat.zero_add, hcell j (by rw [hlen, hmin] at hj; omega), List.getElem?_eq_getElem (by rw [fcells_len]; rw [hlen, hmin] at hj; simp; omega)]
      rfl
    by_cases hc1 : c = 1
    · refine ⟨_, if_pos hc1, run _ fun j v hj => ?_⟩
      have : r = [] := List.eq_nil_of_length_eq_zero (by omega)
      subst this
      simp [fcells] at hj
    · refine ⟨_, if_neg hc1, run _ fun j v hj => ?_⟩
      have hj3 : j < r.length * 3 := by
        rcases Nat.lt_or_ge j (fcells r).length with h | h
        · rw [fcells_len] at h; exact h
        · rw [List.getElem?_eq_none h] at hj; cases hj
      have ha : (⟨g, 3, none⟩ : Addr).add j = ⟨g, 3 + j, none⟩ := by unfold Addr.add; split <;> simp_all
      rw [ha, hcell _ (by omega), show fcells (h :: r) = [.int .i64 h.peer, .int .i64 h.dfc, .slice h.A h.n h.c] ++ fcells r from rfl, List.getElem?_append_right (by simp)]
      rw [← hj, show 3 + j - ([.int .i64 h.peer, .int .i64 h.dfc, .slice h.A h.n h.c] : List Value).length = j from by simp]
  have D : Hid (Blk W1 w.heap.size 82 #[.int .i64 h.peer, .int .i64 h.dfc, (.slice h.A h.n h.c)]) := Lib.hid (by
    rw [hW1]
    exact blk_grownQ (blk_new w _ _) (grown_setCellsR _ 0 (g_refl _ (some g))) (fun e => by injection e with e; omega))
  have E : Hid (∀ i, i < 3 → (W1.cell? ⟨g, (n - 1) * 3 + i, none⟩).isSome = true) := Lib.hid (fun i hi => by
    rw [O1.out.cellAt _ (by omega), List.getElem?_eq_getElem (by rw [O1.out.1]; omega)]; rfl)
  have f0 := World.ownsRow.frozenAt O1.out ((n - 1) * 3)
  have f1 := World.ownsRow.frozenAt O1.out ((n - 1) * 3 + 1)
  have f2 := World.ownsRow.frozenAt O1.out ((n - 1) * 3 + 2)
  obtain ⟨v0, e0⟩ := Option.isSome_iff_exists.1 (E.out 0 (by omega))
  obtain ⟨v1, e1'⟩ := Option.isSome_iff_exists.1 (E.out 1 (by omega))
  obtain ⟨v2, e2⟩ := Option.isSome_iff_exists.1 (E.out 2 (by omega))
  rw [Nat.add_zero] at e0
  obtain ⟨⟨d0, d1, d2⟩, -⟩ := blk_three D.out
  have y1 : (1 : Int) ≤ (n : Int) := by omega
  have y2 : (0 : Int) < (n : Int) := by omega
  have y3 : 1 ≤ n := by omega
  have y4 : 1 ≤ c := by omega
  clear e1 hh hv hcm hl ho hcell hW1
  go_enter Try.func99, Try.ntmps99
  go_wp2_with fail
  refine bodyPost_ret (v := .tuple #[]) (by simp [results, Try.results99, go_sem]) rfl ⟨rfl, ?_, ?_⟩
  · have h1 := (O1.out.stored ((n - 1) * 3) (.int .i64 h.peer)).1
    have h2 := (h1.stored ((n - 1) * 3 + 1) (.int .i64 h.dfc)).1
    have h3 := (h2.stored ((n - 1) * 3 + 2) (.slice h.A h.n h.c)).1
    rw [fcells_set, show n - 1 = r.length by have := hN.out; omega, moved_last] at h3
    rw [show n - 1 = r.length by have := hN.out; omega]
    exact h3
  · exact g_set (g_set (g_set G1.out (.inl rfl) _) (.inl rfl) _) (.inl rfl) _
def needW (g : Nat) (wr : World) : Nat → Nat
  | 0 => 0
  | k + 1 => needW g wr k + (match wr.cell? ⟨g, k * 3 + 1, none⟩ with
    | some (.int _ d) => (100 - d).toNat
    | _ => 0)
theorem needW_eq {wr : World} {lo g n c : Nat} {X : Nat → Prop} {hs : List Fh} {fs : List Flw} (ho : wr.ownsRow lo 82 3 (.slice (some ⟨g, 0, none⟩) n c) n (fcells hs)) (hw : WL wr X hs fs) : needW g wr n = need fs := by
  have hl : fs.length = n := by have := ho.1; rw [fcells_len, hw.1] at this; omega
  have key : ∀ k, k ≤ n → needW g wr k = need (fs.take k) := by
    intro k
    induction k with
    | zero => intro _; simp [needW, need]
    | succ k ih =>
      intro hk
      obtain ⟨b, off, h, e1, -, hh, -, c1, -⟩ := hr_at (k := k) (hr_own ho) (by omega)
      obtain ⟨rfl, rfl⟩ : g = b ∧ 0 = off := by injection e1 with e1; injection e1 with a1 a2; exact ⟨a1, a2⟩
      obtain ⟨f, hf, hwh⟩ := wl_get hw hh
      rw [Nat.zero_add] at c1
      simp only [needW, c1, ih (by omega)]
      rw [List.take_add_one, hf, need_append, hwh.dfc]
      simp [need]
  rw [key n (Nat.le_refl _), List.take_of_length_le (by omega)]
theorem need_add {q : Int} {f : Flw} {r : List Flw} (h : RV q (f :: r)) (hm : may f = false) : need (addq q f :: r) < need (f :: r) := by
  have := need_rot h hm
  rw [need_append] at this
  simp only [need] at this ⊢
  omega
structure BtR (w : World) (lo g n c : Nat) (q : Int) (X : Nat → Prop) (T : List Flw) (hs : List Fh) (fs : List Flw) (wr : World) : Prop where
  rv : RV q fs
  ne : fs ≠ []
  t : turned q fs = T
  row : wr.ownsRow lo 82 3 (.slice (some ⟨g, 0, none⟩) n c) n (fcells hs)
  wl : WL wr X hs fs
  gr : w.grownBy wr (some g)
def BtPost (w : World) (lo g n c : Nat) (X : Nat → Prop) (T : List Flw) (e : Ending) (w' : World) : Prop :=
  e = .returned (.tuple #[]) ∧ ∃ hs, w'.ownsRow lo 82 3 (.slice (some ⟨g, 0, none⟩) n c) n (fcells hs) ∧ WL w' X hs T ∧ w.grownBy w' (some g)
theorem bt_below {w w1 w2 : World} {lo g n c : Nat} {q : Int} {X : Nat → Prop} {T : List Flw} {hs : List Fh} {fs : List Flw} (h : BtR w lo g n c q X T hs fs w1) (hb : Below w1.heap.size w1 w2) : BtR w lo g n c q X T hs fs w2 :=
  ⟨h.rv, h.ne, h.t, own_below h.row hb, wl_below h.wl hb, g_below h.gr hb⟩
/-- the first flow's deficit grows -/
theorem bt_add {w w1 : World} {lo g n c : Nat} {q : Int} {X : Nat → Prop} {T : List Flw} {h : Fh} {hs : List Fh} {f : Flw} {fs : List Flw} (B : BtR w lo g n c q X T (h :: hs) (f :: fs) w1) (hX : ∀ b, X b → b ≠ g) (d : Int) (hd : d = f.dfc + q) :
    (w1.setCell ⟨g, 1, none⟩ (.int .i64 d)).ownsRow lo 82 3 (.slice (some ⟨g, 0, none⟩) n c) n (fcells (⟨h.peer, d, h.A, h.n, h.c⟩ :: hs)) ∧ WL (w1.setCell ⟨g, 1, none⟩ (.int .i64 d)) X (⟨h.peer, d, h.A, h.n, h.c⟩ :: hs) (addq q f :: fs) ∧ w.grownBy (w1.setCell ⟨g, 1, none⟩ (.int .i64 d)) (some g) := by
  have e := wl_grown B.wl (g_set (g_refl w1 (some g)) (p := ⟨g, 1, none⟩) (.inl rfl) (.int .i64 d)) fun b hb e => hX b hb (by injection e)
  have hw := wl_head e
  exact ⟨(B.row.stored 1 (.int .i64 d)).1, wl_cons hw.2 ⟨hw.1.peer, hd, hw.1.pr, hw.1.cap, hw.1.few, hw.1.far⟩, g_set B.gr (.inl rfl) _⟩
set_option maxHeartbeats 2000000 in
theorem begI_any (lo g n c : Nat) (q : Int) (X : Nat → Prop) (hs : List Fh) (fs : List Flw) (w : World) (ho : w.ownsRow lo 82 3 (.slice (some ⟨g, 0, none⟩) n c) n (fcells hs)) (hw : WL w X hs fs) (hX : ∀ b, X b → b ≠ g) (hv : RV q fs) (h0 : fs ≠ []) (hn : n ≤ 4000000000) :
    Calls Try.prog 97 #[.slice (some ⟨g, 0, none⟩) n c, .int .i64 q] w (BtPost w lo g n c X (turned q fs)) := by
  obtain ⟨T, hT⟩ : ∃ T, turned q fs = T := ⟨_, rfl⟩
  rw [hT]
  have hl : fs.length = n := by have := ho.1; rw [fcells_len, hw.1] at this; omega
  have hn0 : 0 < n := by
    rcases Nat.eq_zero_or_pos n with e | e
    · exact absurd (List.eq_nil_of_length_eq_zero (by omega)) h0
    · exact e
  have q0 := hv.q0
  have q1 := hv.q1
  have R0 : Hid (∃ hs fs, BtR w lo g n c q X T hs fs w) := Lib.hid ⟨hs, fs, hv, h0, hT, ho, hw, g_refl _ _⟩
  have HX := Lib.hid hX
  have y1 : (0 : Int) < (n : Int) := by omega
  clear ho hw hX hv h0 hT hl
  go_enter Try.func97, Try.ntmps97
  go_wp2
  go_loopw [] (fun wr => ∃ hs fs, BtR w lo g n c q X T hs fs wr) (fun wr => needW g wr n)
  case atStart => exact R0.out
  case round =>
    obtain ⟨hs1, fs1, B⟩ := hrel
    clear R0
    have hlen := B.wl.1
    cases fs1 with
    | nil => exact absurd rfl B.ne
    | cons f r =>
      cases hs1 with
      | nil => simp at hlen
      | cons h hr =>
        have HB := Lib.hid B
        have hwh := (wl_head B.wl).1
        obtain ⟨b, off, h', e1, -, hh, c0, c1, c2⟩ := hr_at (k := 0) (hr_own B.row) hn0
        obtain ⟨rfl, rfl⟩ : g = b ∧ 0 = off := by injection e1 with e1; injection e1 with a1 a2; exact ⟨a1, a2⟩
        obtain rfl : h = h' := by simpa using hh
        simp only [Nat.zero_mul, Nat.zero_add] at c0 c1 c2
        have hg : g < wr.heap.size := (B.row.lt g rfl).2
        have f1 := World.ownsRow.frozenAt B.row 1
        have hvf := (rv_head B.rv).1
        obtain ⟨x, d, A1, n1, c1'⟩ := h
        obtain ⟨x', d', ws⟩ := f
        obtain rfl : x = x' := hwh.peer
        obtain rfl : d = d' := hwh.dfc
        have hn1 : n1 ≤ 4000000000 := hwh.few
        have hpos : 0 < n1 := by have := hvf.n0; have := hwh.pr.1; simp only at *; omega
        have HP := Lib.hid hwh.pr
        have hd0 := hvf.d0
        have hd1 := hvf.d1
        simp only at c0 c1 c2 hd0 hd1
        clear B hlen hwh e1 hh hvf
        go_wp2_with fail
        refine (mayI_any x d ws A1 n1 c1' _ HP.out hpos hn1).mono ?_
        rintro e w2 ⟨rfl, hb2⟩
        have B2 := Lib.hid (bt_below HB.out hb2)
        have d1 := ((bcell hb2).1 g 1 hg).trans c1
        have e1 := ((bcell hb2).2 g 1 hg).trans f1
        have d0 := ((bcell hb2).1 g 0 hg).trans c0
        have d2 := ((bcell hb2).1 g 2 hg).trans c2
        have hg2 : g < w2.heap.size := Nat.lt_of_lt_of_le hg hb2.size
        clear hb2 c0 c1 c2 f1 hg
        rcases hm : may ⟨x, d, ws⟩ with _ | _
        · have HM := Lib.hid hm
          have y2 : IntKind.i64.wrap (d + q) = d + q := IntWalk.i64_in _ (by omega)
          have HA := Lib.hid (bt_add B2.out HX.out (d + q) rfl)
          have HP2 := Lib.hid (wl_head HA.out.2.1).1.pr
          have hgS : g < (w2.setCell ⟨g, 1, none⟩ (.int .i64 (d + q))).heap.size := by simpa using hg2
          have HR := Lib.hid B2.out.rv
          have HN := Lib.hid (needW_eq HB.out.row HB.out.wl)
          clear hm
          go_wp2_with fail
          refine (mayI_any x (d + q) ws A1 n1 c1' _ HP2.out hpos hn1).mono ?_
          rintro e w4 ⟨rfl, hb4⟩
          have A4 := Lib.hid (And.intro (own_below HA.out.1 hb4) (And.intro (wl_below HA.out.2.1 hb4) (g_below HA.out.2.2 hb4)))
          clear hb4 d0 d1 d2 e1 hgS
          rcases hm2 : may ⟨x, d + q, ws⟩ with _ | _
          · have HM2 := Lib.hid hm2
            clear hm2
            go_wp2_with fail
            refine (moveI_any lo g n c ⟨x, d + q, A1, n1, c1'⟩ hr _ A4.out.1 hn).mono ?_
            rintro e w5 ⟨rfl, ho5, hg5⟩
            have W5 := Lib.hid (wl_grown A4.out.2.1 hg5 fun b hb e => HX.out b hb (by injection e))
            have O5 := Lib.hid ho5
            have G5 := Lib.hid (A4.out.2.2.trans hg5)
            clear ho5 hg5
            go_wp2
            go_roundw
            case rel => exact ⟨_, r ++ [addq q ⟨x, d, ws⟩], rv_rot HR.out HM.out, by simp, (turned_rot HR.out HM.out HM2.out).symm.trans B2.out.t, O5.out, wl_snoc (wl_head W5.out).2 (wl_head W5.out).1, G5.out⟩
            case measure => rw [HN.out, needW_eq O5.out (wl_snoc (wl_head W5.out).2 (wl_head W5.out).1)]; exact need_rot HR.out HM.out
          · have HM2 := Lib.hid hm2
            clear hm2
            go_wp2
            go_roundw
            case rel => exact ⟨_, addq q ⟨x, d, ws⟩ :: r, rv_cons (rv_tail HR.out) (vf_addq q0 (rv_head HR.out).1 HM.out) (rv_head HR.out).2, by simp, (turned_may HM2.out).trans ((turned_add HR.out HM.out HM2.out).symm.trans B2.out.t), A4.out.1, A4.out.2.1, A4.out.2.2⟩
            case measure => rw [HN.out, needW_eq A4.out.1 A4.out.2.1]; exact need_add HR.out HM.out
        · have HT := Lib.hid ((turned_may hm).symm.trans B2.out.t)
          clear hm
          go_wp2
          refine bodyPost_ret (v := .tuple #[]) (by simp [results, Try.results97, go_sem]) rfl ⟨rfl, _, B2.out.row, by rw [← HT.out]; exact B2.out.wl, B2.out.gr⟩
end Go.Proofs.Ytkmoiphcpmhacaa
namespace Go.Proofs.Ytkmoiphcpmhacaa
open Go.RowKit

/-- the tail of a slice of packets: the walk's if -/
theorem tail_ofR {n c : Nat} {A : Option Addr} {W : World} {p : Pkt} {r : List Pkt} (h : PR W A n (p :: r)) (hc : n ≤ c) :
    ∃ b off A1, A = some ⟨b, off, none⟩ ∧ (if c = 1 then (some ⟨b, off, none⟩ : Option Addr) else some ⟨b, off + 4, none⟩) = some A1 ∧ A1.block = b ∧ Hid (∀ V, PR V (some ⟨b, off, none⟩) n (p :: r) → PR V (some A1) (n - 1) r) := by
  have hn : 1 ≤ n := by have := h.1; simp at this; omega
  obtain ⟨b, off, rfl, -, -⟩ := h.2 hn
  by_cases hc1 : c = 1
  · refine ⟨b, off, _, rfl, if_pos hc1, rfl, Lib.hid fun V hV => ?_⟩
    have := pr_drop hV hn hc
    rw [if_pos hc1] at this
    exact this
  · refine ⟨b, off, _, rfl, if_neg hc1, rfl, Lib.hid fun V hV => ?_⟩
    have := pr_drop hV hn hc
    rw [if_neg hc1] at this
    simpa [Addr.add] using this
/-- flows whose row lies from block lo on, and whose packets lie below block W -/
structure FX (w : World) (X : Nat → Prop) (lo : Nat) (A : Option Addr) (n : Nat) (hs : List Fh) (fs : List Flw) : Prop where
  hr : HR w A n hs
  far : 0 < n → ∀ b, A.map (·.block) = some b → lo ≤ b
  wl : WL w X hs fs
  few : n ≤ 4000000000
theorem fx_set {w : World} {X : Nat → Prop} {lo n : Nat} {A : Option Addr} {hs : List Fh} {fs : List Flw} (h : FX w X lo A n hs fs) {p : Addr} (h1 : ¬ X p.block) (h2 : p.block < lo) (u : Value) : FX (w.setCell p u) X lo A n hs fs := by
  have hg := g_set (g_refl w (some p.block)) (p := p) (.inl rfl) u
  exact ⟨hr_grown h.hr hg fun hn b hb e => by have := h.far hn b hb; injection e with e; omega, h.far, wl_grown h.wl hg fun b hb e => by injection e with e; exact h1 (by rw [← e]; exact hb), h.few⟩
theorem fx_drew {w : World} {X : Nat → Prop} {lo n : Nat} {A : Option Addr} {hs : List Fh} {fs : List Flw} (h : FX w X lo A n hs fs) : FX w.drew X lo A n hs fs := ⟨hr_below h.hr (Below.refl _ _).drew, h.far, wl_below h.wl (Below.refl _ _).drew, h.few⟩
theorem fx_fr {w : World} {X : Nat → Prop} {lo n : Nat} {A : Option Addr} {hs : List Fh} {fs : List Flw} (h : FX w X lo A n hs fs) : FRX w (fun b => X b ∨ lo ≤ b) A n fs := ⟨hs, h.hr, fun hn b hb => .inr (h.far hn b hb), wl_mono h.wl fun _ hb => .inl hb, h.few⟩
theorem fx_own {w : World} {X : Nat → Prop} {lo g n c : Nat} {hs : List Fh} {fs : List Flw} (ho : w.ownsRow lo 82 3 (.slice (some ⟨g, 0, none⟩) n c) n (fcells hs)) (hw : WL w X hs fs) (hn : n ≤ 4000000000) : FX w X lo (some ⟨g, 0, none⟩) n hs fs :=
  ⟨hr_own ho, fun _ b hb => by have := (ho.lt g rfl).1; simp at hb; omega, hw, hn⟩
/-- the flows behind the first one: the walk's if -/
theorem tail_ofF {W : World} {g n c lo : Nat} {h : Fh} {hs : List Fh} (ho : W.ownsRow lo 82 3 (.slice (some ⟨g, 0, none⟩) n c) n (fcells (h :: hs))) :
    ∃ A1 : Addr, (if c = 1 then (some ⟨g, 0, none⟩ : Option Addr) else some ⟨g, 3, none⟩) = some A1 ∧ A1.block = g ∧ Hid (∀ V, HR V (some ⟨g, 0, none⟩) n (h :: hs) → HR V (some A1) (n - 1) hs) := by
  have hl : n = hs.length + 1 := by have := ho.1; rw [fcells_len] at this; simp at this; omega
  obtain ⟨A', c', hv, hnc, hcm, -⟩ := own_form ho
  obtain rfl : c = c' := by injection hv
  by_cases hc1 : c = 1
  · refine ⟨_, if_pos hc1, rfl, Lib.hid fun V hV => ?_⟩
    have := hr_drop hV (k := 1) (by omega) hnc
    rw [if_pos hc1] at this
    exact this
  · refine ⟨_, if_neg hc1, rfl, Lib.hid fun V hV => ?_⟩
    have := hr_drop hV (k := 1) (by omega) hnc
    rw [if_neg hc1] at this
    simpa [Addr.add] using this
def NxPost (w : World) (X : Nat → Prop) (q : Int) (fs : List Flw) (e : Ending) (w' : World) : Prop :=
  ∃ A n c, e = .returned (.tuple #[.agg #[.int .i64 q, (.slice A n c)], .agg #[.int .i64 (nxP q fs).peer, .int .i64 (nxP q fs).lane, .int .i64 (nxP q fs).size, .int .i64 (nxP q fs).id]]) ∧ FRX w' (fun b => X b ∨ w.heap.size ≤ b) A n (nxL q fs) ∧ Below w.heap.size w w'
/-- what is known when the packet is taken out of the first flow -/
structure Tk (w : World) (X : Nat → Prop) (q : Int) (A : Option Addr) (n c g c2 pb : Nat) (p : Pkt) (h : Fh) (hr : List Fh) (r : List Flw) (V : World) : Prop where
  row : V.ownsRow (w.heap.size + 3) 82 3 (.slice (some ⟨g, 0, none⟩) n c2) n (fcells (h :: hr))
  wl : WL V X hr r
  hX : ∀ b, X b → b < w.heap.size
  fm : Fm w [⟨w.heap.size, w.heap.size + 1, BoxP w.heap.size 37 #[.int .i64 q, (.slice A n c)]⟩, ⟨w.heap.size + 1, w.heap.size + 2, BoxP (w.heap.size + 1) 37 #[.int .i64 0, (.slice none 0 0)]⟩, ⟨w.heap.size + 2, w.heap.size + 3, BoxP (w.heap.size + 2) 29 #[.int .i64 0, .int .i64 0, .int .i64 0, .int .i64 0]⟩] V
  pk : Blk V pb 29 #[.int .i64 p.peer, .int .i64 p.lane, .int .i64 p.size, .int .i64 p.id]
  ne : pb ≠ g
  lo : w.heap.size + 3 ≤ pb
theorem tk_below {w V V2 : World} {X : Nat → Prop} {q : Int} {A : Option Addr} {n c g c2 pb : Nat} {p : Pkt} {h : Fh} {hr : List Fh} {r : List Flw} (T : Tk w X q A n c g c2 pb p h hr r V) (hb : Below V.heap.size V V2) : Tk w X q A n c g c2 pb p h hr r V2 :=
  ⟨own_below T.row hb, wl_below T.wl hb, T.hX, fm_below T.fm hb, blk_below T.pk hb (blk_lt T.pk), T.ne, T.lo⟩
theorem fm_grown3 {w w1 w2 : World} {q : Int} {A : Option Addr} {n c g : Nat} (h : Fm w [⟨w.heap.size, w.heap.size + 1, BoxP w.heap.size 37 #[.int .i64 q, (.slice A n c)]⟩, ⟨w.heap.size + 1, w.heap.size + 2, BoxP (w.heap.size + 1) 37 #[.int .i64 0, (.slice none 0 0)]⟩, ⟨w.heap.size + 2, w.heap.size + 3, BoxP (w.heap.size + 2) 29 #[.int .i64 0, .int .i64 0, .int .i64 0, .int .i64 0]⟩] w1) (hg : w1.grownBy w2 (some g)) (h3 : w.heap.size + 3 ≤ g) :
    Fm w [⟨w.heap.size, w.heap.size + 1, BoxP w.heap.size 37 #[.int .i64 q, (.slice A n c)]⟩, ⟨w.heap.size + 1, w.heap.size + 2, BoxP (w.heap.size + 1) 37 #[.int .i64 0, (.slice none 0 0)]⟩, ⟨w.heap.size + 2, w.heap.size + 3, BoxP (w.heap.size + 2) 29 #[.int .i64 0, .int .i64 0, .int .i64 0, .int .i64 0]⟩] w2 :=
  fm_grownO h hg fun b e => ⟨by injection e with e; omega, fun x hx => by
    injection e with e
    simp only [List.mem_cons, List.not_mem_nil, or_false] at hx
    rcases hx with rfl | rfl | rfl <;> (simp only; omega)⟩
theorem tk_store {w V : World} {X : Nat → Prop} {q : Int} {A : Option Addr} {n c g c2 pb : Nat} {p : Pkt} {h : Fh} {hr : List Fh} {r : List Flw} (T : Tk w X q A n c g c2 pb p h hr r V) (k : Nat) (u : Value) (h2 : Fh) (he : (fcells (h :: hr)).set k u = fcells (h2 :: hr)) : Tk w X q A n c g c2 pb p h2 hr r (V.setCell ⟨g, k, none⟩ u) := by
  have hg := g_set (g_refl V (some g)) (p := ⟨g, k, none⟩) (.inl rfl) u
  have h3 := (T.row.lt g rfl).1
  refine ⟨?_, wl_grown T.wl hg fun b hb e => by have := T.hX b hb; injection e with e; omega, T.hX, fm_grown3 T.fm hg h3, blk_far T.pk T.ne u, T.ne, T.lo⟩
  have := (T.row.stored k u).1
  rw [he] at this
  exact this
theorem pr_move {w V : World} {A : Option Addr} {n : Nat} {ps : List Pkt} (h : PR w A n ps) (hb : 0 < n → ∀ b, A.map (·.block) = some b → b < V.heap.size ∧ V.heap[b]? = w.heap[b]?) : PR V A n ps :=
  ⟨h.1, fun hn => by
    obtain ⟨b, off, rfl, hlt, hc⟩ := h.2 hn
    obtain ⟨h1, h2⟩ := hb hn b rfl
    exact ⟨b, off, rfl, h1, fun k p hp => pat_keep (hc k p hp) fun x => by simp only [World.cell?, h2]⟩⟩
theorem blk_fourR {w : World} {b : Nat} {t : TypeId} {x y z u : Value} (h : Blk w b t #[x, y, z, u]) : (w.cell? ⟨b, 0, none⟩ = some x ∧ w.cell? ⟨b, 1, none⟩ = some y ∧ w.cell? ⟨b, 2, none⟩ = some z ∧ w.cell? ⟨b, 3, none⟩ = some u) ∧ w.frozen? ⟨b, 0, none⟩ = false ∧ w.frozen? ⟨b, 1, none⟩ = false ∧ w.frozen? ⟨b, 2, none⟩ = false ∧ w.frozen? ⟨b, 3, none⟩ = false :=
  ⟨⟨blk_cell h 0, blk_cell h 1, blk_cell h 2, blk_cell h 3⟩, blk_free h 0, blk_free h 1, blk_free h 2, blk_free h 3⟩
set_option maxHeartbeats 4000000 in
theorem takeI_any (X : Nat → Prop) (q : Int) (A : Option Addr) (n c : Nat) (fs : List Flw) (w : World) (h : FRX w X A n fs) (hX : ∀ b, X b → b < w.heap.size) (hv : RV q fs) (h0 : fs ≠ []) :
    Calls Try.prog 58 #[.agg #[.int .i64 q, (.slice A n c)]] w (NxPost w X q fs) := by
  obtain ⟨f, r, p, ws, N⟩ := nexted_is hv h0
  obtain ⟨hs, hh, -, hw, n4⟩ := h
  have hl : fs.length = n := by rw [← hw.1]; exact hh.1
  have hn0 : 0 < n := by
    rcases Nat.eq_zero_or_pos n with e | e
    · exact absurd (List.eq_nil_of_length_eq_zero (by omega)) h0
    · exact e
  have HN := Lib.hid N
  have H := Lib.hid hh
  have W := Lib.hid hw
  have HV := Lib.hid (And.intro hv h0)
  have F := Lib.hid (fm_three w 37 37 29 #[.int .i64 q, (.slice A n c)] #[.int .i64 0, (.slice none 0 0)] #[.int .i64 0, .int .i64 0, .int .i64 0, .int .i64 0])
  clear hh hw hv h0 hl N
  go_enter Try.func58, Try.ntmps58
  go_wp2_with fail
  refine (cloneF_any A n c hs _ (hr_below H.out F.out.below) n4).mono ?_
  rintro e w1 ⟨A2, c2, rfl, ho1, hb1⟩
  obtain ⟨g, cap, hv2, hg1, hg2⟩ := ho1.form hn0
  obtain ⟨rfl, rfl⟩ : A2 = some ⟨g, 0, none⟩ ∧ c2 = cap := by injection hv2 with a1 a2 a3; exact ⟨a1, a3⟩
  have F1 := Lib.hid (fm_below F.out hb1)
  have z1 : w.heap.size + 3 ≤ g := by simpa using hg1
  have O1 := Lib.hid (own_mono (b2 := w.heap.size + 3) ho1 (by simp))
  have W1 := Lib.hid (wl_below W.out F1.out.below)
  obtain ⟨g0, g1, -⟩ := blk_two (fm_blk F1.out 0 rfl)
  have zb := blk_lt (fm_blk F1.out 0 rfl)
  clear hb1 ho1 hv2 F hg1 hg2
  go_wp2_with fail
  refine (begI_any (w.heap.size + 3) g n c2 q X hs fs _ O1.out W1.out (fun b hb => by have := hX b hb; omega) HV.out.1 HV.out.2 n4).mono ?_
  rintro e w2 ⟨rfl, hs2, ho2, hw2, hg2⟩
  rw [HN.out.t.is] at hw2
  have hlen := hw2.1
  cases hs2 with
  | nil => simp at hlen
  | cons h hr =>
    have F2 := Lib.hid (fm_grown3 F1.out hg2 z1)
    have O2 := Lib.hid ho2
    have W2 := Lib.hid hw2
    have hwh := (wl_head hw2).1
    obtain ⟨b, off, h', e1, -, hh, c0, c1, c2c⟩ := hr_at (k := 0) (hr_own ho2) hn0
    obtain ⟨rfl, rfl⟩ : g = b ∧ 0 = off := by injection e1 with e1; injection e1 with a1 a2; exact ⟨a1, a2⟩
    obtain rfl : h = h' := by simpa using hh
    simp only [Nat.zero_mul, Nat.zero_add] at c0 c1 c2c
    have hg : g < w2.heap.size := (ho2.lt g rfl).2
    have f0 := World.ownsRow.frozenAt ho2 0
    have f1 := World.ownsRow.frozenAt ho2 1
    have f2 := World.ownsRow.frozenAt ho2 2
    obtain ⟨x, d, A1, n1, c1'⟩ := h
    obtain ⟨x', d', ws'⟩ := f
    obtain rfl : x = x' := hwh.peer
    obtain rfl : d = d' := hwh.dfc
    obtain rfl : ws' = p :: ws := HN.out.hw
    have hn1 : n1 ≤ 4000000000 := hwh.few
    have hc1 : n1 ≤ c1' := hwh.cap
    have hl1 : n1 = ws.length + 1 := by have := hwh.pr.1; simpa using this.symm
    have hle := HN.out.le
    have hs1 := HN.out.s1
    have hs2 := HN.out.s2
    have hd1 := (rv_head HN.out.t.rv).1.d1
    have hq1 := HN.out.t.rv.q1
    simp only at c0 c1 c2c hle hd1
    obtain ⟨b1, off1, A1', rfl, hA1, hA1b, hP1⟩ := tail_ofR hwh.pr hc1
    have hpr : PR w2 (some ⟨b1, off1, none⟩) n1 (p :: ws) := hwh.pr
    have hPR := Lib.hid hpr
    obtain ⟨b1', off1', p', e2, hb1, hp', p0, p1, p2, p3⟩ := pr_at (k := 0) hpr (by omega)
    have HL1 := Lib.hid hl1
    obtain ⟨rfl, rfl⟩ : b1 = b1' ∧ off1 = off1' := by injection e2 with e2; injection e2 with a1 a2; exact ⟨a1, a2⟩
    obtain rfl : p = p' := by simpa using hp'
    simp only [Nat.zero_mul, Nat.add_zero] at p0 p1 p2 p3
    have y1 : IntKind.i64.wrap (d - p.size) = d - p.size := IntWalk.i64_in _ (by omega)
    have y2 : (0 : Int) < (n1 : Int) := by omega
    have y3 : (1 : Int) ≤ (n1 : Int) := by omega
    have y4 : (0 : Int) < (n : Int) := by omega
    have T : Hid (Tk w X q A n c g c2 w2.heap.size p ⟨x, d - p.size, some A1', n1 - 1, c1' - 1⟩ hr r (((w2.setCell ⟨g, 2, none⟩ (.slice (some A1') (n1 - 1) (c1' - 1))).setCell ⟨g, 1, none⟩ (.int .i64 (d - p.size))).alloc (.cells #[.int .i64 p.peer, .int .i64 p.lane, .int .i64 p.size, .int .i64 p.id] 29)).drew) := Lib.hid (by
      have G := g_set (g_set (g_refl w2 (some g)) (p := ⟨g, 2, none⟩) (.inl rfl) (.slice (some A1') (n1 - 1) (c1' - 1))) (p := ⟨g, 1, none⟩) (.inl rfl) (.int .i64 (d - p.size))
      have R2 := ((O2.out.stored 2 (.slice (some A1') (n1 - 1) (c1' - 1))).1.stored 1 (.int .i64 (d - p.size))).1
      have B := (below_alloc (Below.refl ((w2.setCell ⟨g, 2, none⟩ (.slice (some A1') (n1 - 1) (c1' - 1))).setCell ⟨g, 1, none⟩ (.int .i64 (d - p.size))).heap.size _) (.cells #[.int .i64 p.peer, .int .i64 p.lane, .int .i64 p.size, .int .i64 p.id] 29)).drew
      exact ⟨own_below R2 B, wl_below (wl_grown (wl_head W2.out).2 G fun b hb e => by have := hX b hb; injection e with e; omega) B, hX, fm_below (fm_grown3 F2.out G z1) B, blk_drewN (blk_at (by simp) _ _) 1, by omega, by omega⟩)
    have TP : Hid (∀ V, Below w.heap.size w V → PR V (some A1') (n1 - 1) ws) := Lib.hid fun V hV => hP1.out V (pr_move hPR.out fun hn b hb => by
      have hlt := hX b ((wl_head W2.out).1.far hn b hb)
      exact ⟨Nat.lt_of_lt_of_le hlt hV.size, (hV.block b hlt).trans (F2.out.below.block b hlt).symm⟩)
    have HF : Hid (X A1'.block) := Lib.hid (by rw [hA1b]; exact (wl_head W2.out).1.far (by simp only; omega) b1 rfl)
    clear hg2 ho2 hw2 hlen hwh e1 hh e2 hp' g0 g1 hl1
    go_wp2_with fail
    go_region
    clear c0 c1 c2c f0 f1 f2 hb1 p0 p1 p2 p3 y1 y2 y3 hg O2 W2 F2 O1 W1 F1 hA1 zb hpr
    generalize (((w2.setCell ⟨g, 2, none⟩ (.slice (some A1') (n1 - 1) (c1' - 1))).setCell ⟨g, 1, none⟩ (.int .i64 (d - p.size))).alloc (.cells #[.int .i64 p.peer, .int .i64 p.lane, .int .i64 p.size, .int .i64 p.id] 29)).drew = V at T ⊢
    obtain ⟨b, off, h', e1, -, hh, c0, c1, c2c⟩ := hr_at (k := 0) (hr_own T.out.row) hn0
    obtain ⟨rfl, rfl⟩ : g = b ∧ 0 = off := by injection e1 with e1; injection e1 with a1 a2; exact ⟨a1, a2⟩
    obtain rfl : (⟨x, d - p.size, some A1', n1 - 1, c1' - 1⟩ : Fh) = h' := by simpa using hh
    simp only [Nat.zero_mul, Nat.zero_add] at c0 c1 c2c
    have zg : g < V.heap.size := (T.out.row.lt g rfl).2
    have zp := blk_lt T.out.pk
    have ZL := Lib.hid T.out.lo
    have HPV := Lib.hid (TP.out V T.out.fm.below)
    have y5 : (1 : Int) ≤ (n : Int) := by omega
    clear e1 hh
    by_cases h0 : ws.length = 0
    · have hz : (((n1 - 1 : Nat) : Int) == 0) = true := by have := HL1.out; simp; omega
      have HE := Lib.hid (show nxL q fs = r by rw [HN.out.isL, if_pos h0])
      obtain ⟨A2', hA2, hA2b, hP2⟩ := tail_ofF T.out.row
      have hyc : 1 ≤ c2 := by
        obtain ⟨A', c', hv, hnc, -, -⟩ := own_form T.out.row
        obtain rfl : c2 = c' := by injection hv
        omega
      have XF : Hid (FX V X (w.heap.size + 3) (some A2') (n - 1) hr r) := Lib.hid ⟨hP2.out V (hr_own T.out.row), fun _ b hb => by have := (T.out.row.lt g rfl).1; simp at hb; omega, T.out.wl, by omega⟩
      clear h0
      obtain ⟨g0, g1, -⟩ := blk_two (fm_blk T.out.fm 0 rfl)
      obtain ⟨o0, o1, of0, of1⟩ := blk_two (fm_blk T.out.fm 1 rfl)
      obtain ⟨⟨k0, k1, k2, k3⟩, kf0, kf1, kf2, kf3⟩ := blk_fourR (fm_blk T.out.fm 2 rfl)
      obtain ⟨⟨p0, p1, p2, p3⟩, -⟩ := blk_fourR T.out.pk
      have zl1 : w.heap.size + 1 < w2.heap.size := by have := ZL.out; omega
      have zl2 : w.heap.size + 2 < w2.heap.size := by have := ZL.out; omega
      have zb0 := blk_lt (fm_blk T.out.fm 0 rfl)
      have zb1 := blk_lt (fm_blk T.out.fm 1 rfl)
      have zb2 := blk_lt (fm_blk T.out.fm 2 rfl)
      go_wp2_with fail
      go_region
      all_goals
        go_wp2
        refine bodyPost_ret (v := .tuple #[.agg #[.int .i64 q, (.slice (some A2') (n - 1) (c2 - 1))], .agg #[.int .i64 p.peer, .int .i64 p.lane, .int .i64 p.size, .int .i64 p.id]]) (by simp [results, Try.results58, go_sem, o0, o1, k0, k1, k2, k3]) rfl ⟨_, _, _, by rw [HN.out.isP], ?_, ?_⟩
        · rw [HE.out]
          refine frx_mono (fx_fr (X := X) (lo := w.heap.size + 3) (hs := hr) ?_) (fun b hb => hb.imp id fun h => by omega)
          refine fx_drew ?_
          iterate 6 (with_reducible refine fx_set ?_ (fun hx => by have := hX _ hx; simp at this; omega) (by simp <;> omega) _)
          exact XF.out
        · refine Below.drew ?_
          iterate 6 (with_reducible refine Below.setCell ?_ (by simp <;> omega) _)
          exact T.out.fm.below
    · have hz : (((n1 - 1 : Nat) : Int) == 0) = false := by have := HL1.out; simp; omega
      have hpos : 0 < n1 - 1 := by have := HL1.out; omega
      have WV : Hid (WL V X (⟨x, d - p.size, some A1', n1 - 1, c1' - 1⟩ :: hr) (spend ⟨x, d, p :: ws⟩ p ws :: r)) := Lib.hid (wl_cons T.out.wl ⟨rfl, rfl, HPV.out, by simp only; omega, by simp only; omega, fun _ b hb => by obtain rfl : A1'.block = b := Option.some.inj hb; exact HF.out⟩)
      have HI := Lib.hid (show nxL q fs = if may (spend ⟨x, d, p :: ws⟩ p ws) = true then spend ⟨x, d, p :: ws⟩ p ws :: r else r ++ [spend ⟨x, d, p :: ws⟩ p ws] by rw [HN.out.isL, if_neg h0])
      clear h0
      go_wp2_with fail
      refine (mayI_any x (d - p.size) ws (some A1') (n1 - 1) (c1' - 1) _ HPV.out hpos (by omega)).mono ?_
      rintro e w3 ⟨rfl, hb3⟩
      have T3 := Lib.hid (tk_below T.out hb3)
      have W3 := Lib.hid (wl_below WV.out hb3)
      have zg3 : g < w3.heap.size := Nat.lt_of_lt_of_le zg hb3.size
      have zp3 := blk_lt T3.out.pk
      clear hb3 c0 c1 c2c zg zp T HPV WV
      rcases hm : may ⟨x, d - p.size, ws⟩ with _ | _
      · have HE : Hid (nxL q fs = r ++ [spend ⟨x, d, p :: ws⟩ p ws]) := Lib.hid (by rw [HI.out, show may (spend ⟨x, d, p :: ws⟩ p ws) = false from hm]; rfl)
        clear hm
        go_wp2_with fail
        refine (moveI_any (w.heap.size + 3) g n c2 _ hr _ T3.out.row n4).mono ?_
        rintro e w5 ⟨rfl, ho5, hg5⟩
        have z5 := (ho5.lt g rfl).1
        have T : Hid (Fm w [⟨w.heap.size, w.heap.size + 1, BoxP w.heap.size 37 #[.int .i64 q, (.slice A n c)]⟩, ⟨w.heap.size + 1, w.heap.size + 2, BoxP (w.heap.size + 1) 37 #[.int .i64 0, (.slice none 0 0)]⟩, ⟨w.heap.size + 2, w.heap.size + 3, BoxP (w.heap.size + 2) 29 #[.int .i64 0, .int .i64 0, .int .i64 0, .int .i64 0]⟩] w5) := Lib.hid (fm_grown3 T3.out.fm hg5 z5)
        have PK : Hid (Blk w5 w2.heap.size 29 #[.int .i64 p.peer, .int .i64 p.lane, .int .i64 p.size, .int .i64 p.id]) := Lib.hid (blk_grownQ T3.out.pk hg5 (fun e => T3.out.ne (by injection e)))
        have hw5 := wl_grown W3.out hg5 (fun b hb e => by have := hX b hb; injection e with e; omega)
        have XF : Hid (FX w5 X (w.heap.size + 3) (some ⟨g, 0, none⟩) n (hr ++ [⟨x, d - p.size, some A1', n1 - 1, c1' - 1⟩]) (r ++ [spend ⟨x, d, p :: ws⟩ p ws])) := Lib.hid (fx_own ho5 (wl_snoc (wl_head hw5).2 (wl_head hw5).1) n4)
        clear ho5 hg5 hw5
        obtain ⟨g0, g1, -⟩ := blk_two (fm_blk T.out 0 rfl)
        obtain ⟨o0, o1, of0, of1⟩ := blk_two (fm_blk T.out 1 rfl)
        obtain ⟨⟨k0, k1, k2, k3⟩, kf0, kf1, kf2, kf3⟩ := blk_fourR (fm_blk T.out 2 rfl)
        obtain ⟨⟨p0, p1, p2, p3⟩, -⟩ := blk_fourR PK.out
        have zl1 : w.heap.size + 1 < w2.heap.size := by have := ZL.out; omega
        have zl2 : w.heap.size + 2 < w2.heap.size := by have := ZL.out; omega
        have zb0 := blk_lt (fm_blk T.out 0 rfl)
        have zb1 := blk_lt (fm_blk T.out 1 rfl)
        have zb2 := blk_lt (fm_blk T.out 2 rfl)
        have zp5 := blk_lt PK.out
        go_wp2_with fail
        go_region
        all_goals
          go_wp2
          refine bodyPost_ret (v := .tuple #[.agg #[.int .i64 q, (.slice (some ⟨g, 0, none⟩) n c2)], .agg #[.int .i64 p.peer, .int .i64 p.lane, .int .i64 p.size, .int .i64 p.id]]) (by simp [results, Try.results58, go_sem, o0, o1, k0, k1, k2, k3]) rfl ⟨_, _, _, by rw [HN.out.isP], ?_, ?_⟩
          · rw [HE.out]
            refine frx_mono (fx_fr (X := X) (lo := w.heap.size + 3) (hs := hr ++ [⟨x, d - p.size, some A1', n1 - 1, c1' - 1⟩]) ?_) (fun b hb => hb.imp id fun h => by omega)
            refine fx_drew ?_
            iterate 6 (with_reducible refine fx_set ?_ (fun hx => by have := hX _ hx; simp at this; omega) (by simp <;> omega) _)
            exact XF.out
          · refine Below.drew ?_
            iterate 6 (with_reducible refine Below.setCell ?_ (by simp <;> omega) _)
            exact T.out.below
      · have HE : Hid (nxL q fs = spend ⟨x, d, p :: ws⟩ p ws :: r) := Lib.hid (by rw [HI.out, show may (spend ⟨x, d, p :: ws⟩ p ws) = true from hm]; rfl)
        have XF : Hid (FX w3 X (w.heap.size + 3) (some ⟨g, 0, none⟩) n (⟨x, d - p.size, some A1', n1 - 1, c1' - 1⟩ :: hr) (spend ⟨x, d, p :: ws⟩ p ws :: r)) := Lib.hid (fx_own T3.out.row W3.out n4)
        clear hm
        obtain ⟨g0, g1, -⟩ := blk_two (fm_blk T3.out.fm 0 rfl)
        obtain ⟨o0, o1, of0, of1⟩ := blk_two (fm_blk T3.out.fm 1 rfl)
        obtain ⟨⟨k0, k1, k2, k3⟩, kf0, kf1, kf2, kf3⟩ := blk_fourR (fm_blk T3.out.fm 2 rfl)
        obtain ⟨⟨p0, p1, p2, p3⟩, -⟩ := blk_fourR T3.out.pk
        have zl1 : w.heap.size + 1 < w2.heap.size := by have := ZL.out; omega
        have zl2 : w.heap.size + 2 < w2.heap.size := by have := ZL.out; omega
        have zb0 := blk_lt (fm_blk T3.out.fm 0 rfl)
        have zb1 := blk_lt (fm_blk T3.out.fm 1 rfl)
        have zb2 := blk_lt (fm_blk T3.out.fm 2 rfl)
        go_wp2_with fail
        go_region
        all_goals
          go_wp2
          refine bodyPost_ret (v := .tuple #[.agg #[.int .i64 q, (.slice (some ⟨g, 0, none⟩) n c2)], .agg #[.int .i64 p.peer, .int .i64 p.lane, .int .i64 p.size, .int .i64 p.id]]) (by simp [results, Try.results58, go_sem, o0, o1, k0, k1, k2, k3]) rfl ⟨_, _, _, by rw [HN.out.isP], ?_, ?_⟩
          · rw [HE.out]
            refine frx_mono (fx_fr (X := X) (lo := w.heap.size + 3) (hs := ⟨x, d - p.size, some A1', n1 - 1, c1' - 1⟩ :: hr) ?_) (fun b hb => hb.imp id fun h => by omega)
            refine fx_drew ?_
            iterate 6 (with_reducible refine fx_set ?_ (fun hx => by have := hX _ hx; simp at this; omega) (by simp <;> omega) _)
            exact XF.out
          · refine Below.drew ?_
            iterate 6 (with_reducible refine Below.setCell ?_ (by simp <;> omega) _)
            exact T3.out.fm.below
end Go.Proofs.Ytkmoiphcpmhacaa
namespace Go.Proofs.Ytkmoiphcpmhacaa
open Go.RowKit

def LX (lo M g0 : Nat) : Nat → Prop := fun b => lo ≤ b ∧ b < M ∧ b ≠ g0
theorem do_wl {w : World} {lo g0 n c : Nat} {hs : List Fh} {fs : List Flw} (D : DO w lo (.slice (some ⟨g0, 0, none⟩) n c) n hs fs) : WL w (LX lo w.heap.size g0) hs fs := by
  refine ⟨D.len, fun k h f h1 h2 => ?_⟩
  obtain ⟨e1, e2, e3, e4, e5⟩ := D.all k h f h1 h2
  have hp := pr_own (A := h.A) (n := h.n) (c := h.c) e4
  obtain ⟨A', c', hv, hc, _, _⟩ := own_form e4
  obtain ⟨-, -, rfl⟩ : h.A = A' ∧ True ∧ h.c = c' := by unfold Fh.sl at hv; injection hv with a1 a2 a3; exact ⟨a1, trivial, a3⟩
  refine ⟨e1, e2, hp, hc, e3, fun hn b hb => ?_⟩
  have hown : h.sl.ownBlock = some b := ?_
  · exact ⟨(e4.lt b hown).1, pr_old hp hn b hb, fun e => e5 b hown (by rw [e]; rfl)⟩
  unfold Fh.sl
  rcases hA : h.A with _ | a
  · rw [hA] at hb; cases hb
  · rw [hA] at hb
    have : a.block = b := by simpa using hb
    simp [Value.ownBlock, this]
def bx3 (w : World) (q : Int) (A : Option Addr) (n c : Nat) : List Iv := [⟨w.heap.size, w.heap.size + 1, BoxP w.heap.size 37 #[.int .i64 q, (.slice A n c)]⟩, ⟨w.heap.size + 1, w.heap.size + 2, BoxP (w.heap.size + 1) 37 #[.int .i64 0, (.slice none 0 0)]⟩, ⟨w.heap.size + 2, w.heap.size + 3, BoxP (w.heap.size + 2) 29 #[.int .i64 0, .int .i64 0, .int .i64 0, .int .i64 0]⟩]
theorem bx3_hi {w : World} {q : Int} {A : Option Addr} {n c g : Nat} (h : w.heap.size + 3 ≤ g) : ∀ x ∈ bx3 w q A n c, x.hi ≤ g := fun x hx => by
  simp only [bx3, List.mem_cons, List.not_mem_nil, or_false] at hx
  rcases hx with rfl | rfl | rfl <;> (simp only; omega)
/-- the copy that takes its turns: boxes, the copy's own box at M, its flows (at first at block g0), their packets -/
structure LnW (w : World) (q : Int) (A : Option Addr) (n c M g0 m : Nat) (Ao : Option Addr) (co : Nat) (hs : List Fh) (fs : List Flw) (wr : World) : Prop where
  row : wr.ownsRow (w.heap.size + 3) 82 3 (.slice Ao m co) m (fcells hs)
  wl : WL wr (LX (w.heap.size + 3) M g0) hs fs
  fm : Fm w (bx3 w q A n c) wr
  out : Blk wr M 37 #[.int .i64 q, (.slice Ao m co)]
  sep : ∀ b, Value.ownBlock (.slice Ao m co) = some b → b = g0 ∨ M < b
  z : w.heap.size + 3 ≤ g0 ∧ g0 < M
theorem ln_below {w w1 w2 : World} {q : Int} {A Ao : Option Addr} {n c M g0 m co : Nat} {hs : List Fh} {fs : List Flw} (h : LnW w q A n c M g0 m Ao co hs fs w1) (hb : Below w1.heap.size w1 w2) : LnW w q A n c M g0 m Ao co hs fs w2 :=
  ⟨own_below h.row hb, wl_below h.wl hb, fm_below h.fm hb, blk_below h.out hb (blk_lt h.out), h.sep, h.z⟩
theorem ln_drewN {w w1 : World} {q : Int} {A Ao : Option Addr} {n c M g0 m co : Nat} {hs : List Fh} {fs : List Flw} (h : LnW w q A n c M g0 m Ao co hs fs w1) (k : Nat) : LnW w q A n c M g0 m Ao co hs fs (w1.drewN k) := ln_below h (below_drewN (Below.refl _ _) k)
/-- a store into the row -/
theorem ln_set {w w1 : World} {q : Int} {A : Option Addr} {n c M g0 g m co : Nat} {h h2 : Fh} {hr : List Fh} {f f2 : Flw} {r : List Flw} (B : LnW w q A n c M g0 m (some ⟨g, 0, none⟩) co (h :: hr) (f :: r) w1) (e0 : h2.peer = f2.peer) (e1 : h2.dfc = f2.dfc) (e2 : h2.A = h.A) (e3 : h2.n = h.n) (e4 : h2.c = h.c) (e5 : f2.ws = f.ws) :
    LnW w q A n c M g0 m (some ⟨g, 0, none⟩) co (h2 :: hr) (f2 :: r) (((w1.setCell ⟨g, 0, none⟩ (.int .i64 h2.peer)).setCell ⟨g, 1, none⟩ (.int .i64 h2.dfc)).setCell ⟨g, 2, none⟩ (.slice h2.A h2.n h2.c)) := by
  have hg := B.sep g rfl
  have hlo := (B.row.lt g rfl).1
  have G := g_set (g_set (g_set (g_refl w1 (some g)) (p := ⟨g, 0, none⟩) (.inl rfl) (.int .i64 h2.peer)) (p := ⟨g, 1, none⟩) (.inl rfl) (.int .i64 h2.dfc)) (p := ⟨g, 2, none⟩) (.inl rfl) (.slice h2.A h2.n h2.c)
  have hz := B.z
  have hw := wl_grown B.wl G fun b hb e => by injection e with e; subst e; rcases hg with e | e; exact hb.2.2 e; have := hb.2.1; omega
  have hh := wl_head hw
  refine ⟨?_, wl_cons hh.2 ⟨e0, e1, ?_, by rw [e3, e4]; exact hh.1.cap, by rw [e3]; exact hh.1.few, by rw [e2, e3]; exact hh.1.far⟩, fm_grownO B.fm G fun b e => ⟨by injection e with e; omega, bx3_hi (by injection e with e; omega)⟩, blk_grownQ B.out G (fun e => by injection e with e; omega), B.sep, B.z⟩
  · have h1 := (B.row.stored 0 (.int .i64 h2.peer)).1
    have h3 := (h1.stored 1 (.int .i64 h2.dfc)).1
    exact (h3.stored 2 (.slice h2.A h2.n h2.c)).1
  · rw [e5]; have := hh.1.pr; rw [e2, e3, e4]; rw [e2, e3, e4] at this; exact this
/-- another row in the place of the row -/
theorem ln_new {w w1 w7 : World} {q : Int} {A Ao A7 : Option Addr} {n c M g0 m m7 co c7 s : Nat} {hs hs7 : List Fh} {fs fs7 : List Flw} (B : LnW w q A n c M g0 m Ao co hs fs w1) (hb : Below w1.heap.size w1 w7) (ho : w7.ownsRow s 82 3 (.slice A7 m7 c7) m7 (fcells hs7)) (hs' : w1.heap.size ≤ s) (hw : WL w7 (LX (w.heap.size + 3) M g0) hs7 fs7) :
    LnW w q A n c M g0 m7 A7 c7 hs7 fs7 (w7.setCell ⟨M, 1, none⟩ (.slice A7 m7 c7)) := by
  have hM := blk_lt B.out
  have hz := B.z
  have G := g_set (g_refl w7 (some M)) (p := ⟨M, 1, none⟩) (.inl rfl) (.slice A7 m7 c7)
  have hnew : ∀ b, Value.ownBlock (.slice A7 m7 c7) = some b → M < b := fun b e => by have := (ho.lt b e).1; omega
  refine ⟨own_mono (own_set_ne ho (fun e => by have := hnew M e; omega) _) (by omega), wl_grown hw G fun b hb e => by injection e with e; have := hb.2.1; omega, fm_grownO (fm_below B.fm hb) G fun b e => ⟨by injection e with e; omega, bx3_hi (by injection e with e; omega)⟩, blk_set (blk_below B.out hb hM) 1 _, fun b e => .inr (hnew b e), B.z⟩
structure LnR (w : World) (q : Int) (A : Option Addr) (n c M g0 : Nat) (T : List Flw) (m : Nat) (Ao : Option Addr) (co : Nat) (hs : List Fh) (fs : List Flw) (wr : World) : Prop where
  ln : LnW w q A n c M g0 m Ao co hs fs wr
  rv : RV q fs
  ne : fs ≠ []
  t : turned q fs = T
def lnM (M : Nat) (wr : World) : Nat := match wr.cell? ⟨M, 1, none⟩ with
  | some (.slice (some a) m _) => needW a.block wr m
  | _ => 0
theorem lnM_eq {w wr : World} {q : Int} {A : Option Addr} {n c M g0 m g co : Nat} {hs : List Fh} {fs : List Flw} (h : LnW w q A n c M g0 m (some ⟨g, 0, none⟩) co hs fs wr) : lnM M wr = need fs := by
  have e : wr.cell? ⟨M, 1, none⟩ = some (.slice (some ⟨g, 0, none⟩) m co) := blk_cell h.out 1
  simp only [lnM, e]
  exact needW_eq h.row h.wl
theorem ln_form {w wr : World} {q : Int} {A Ao : Option Addr} {n c M g0 m co : Nat} {h : Fh} {hr : List Fh} {f : Flw} {r : List Flw} (B : LnW w q A n c M g0 m Ao co (h :: hr) (f :: r) wr) :
    m = hr.length + 1 ∧ m ≤ co ∧ ∃ g, Ao = some ⟨g, 0, none⟩ := by
  have hl : m = hr.length + 1 := by have := B.row.1; rw [fcells_len] at this; simp at this; omega
  obtain ⟨g, cap, hv, -, -⟩ := B.row.form (by omega)
  obtain ⟨A', c', hv2, hnc, -, -⟩ := own_form B.row
  obtain rfl : co = c' := by injection hv2
  exact ⟨hl, hnc, g, by injection hv⟩
/-- flows whose row and whose packets lie from block lo on -/
structure FY (w : World) (lo : Nat) (A : Option Addr) (n : Nat) (hs : List Fh) (fs : List Flw) : Prop where
  hr : HR w A n hs
  far : 0 < n → ∀ b, A.map (·.block) = some b → lo ≤ b
  wl : WL w (fun b => lo ≤ b) hs fs
  few : n ≤ 4000000000
theorem fy_set {w : World} {lo n : Nat} {A : Option Addr} {hs : List Fh} {fs : List Flw} (h : FY w lo A n hs fs) {p : Addr} (h2 : p.block < lo) (u : Value) : FY (w.setCell p u) lo A n hs fs := by
  have hg := g_set (g_refl w (some p.block)) (p := p) (.inl rfl) u
  exact ⟨hr_grown h.hr hg fun hn b hb e => by have := h.far hn b hb; injection e with e; omega, h.far, wl_grown h.wl hg fun b hb e => by injection e with e; omega, h.few⟩
theorem fy_drew {w : World} {lo n : Nat} {A : Option Addr} {hs : List Fh} {fs : List Flw} (h : FY w lo A n hs fs) : FY w.drew lo A n hs fs := ⟨hr_below h.hr (Below.refl _ _).drew, h.far, wl_below h.wl (Below.refl _ _).drew, h.few⟩
theorem fy_fr {w : World} {lo n : Nat} {A : Option Addr} {hs : List Fh} {fs : List Flw} (h : FY w lo A n hs fs) : FRX w (fun b => lo ≤ b) A n fs := ⟨hs, h.hr, h.far, h.wl, h.few⟩
theorem fy_own {w : World} {lo m co : Nat} {A : Option Addr} {hs : List Fh} {fs : List Flw} (ho : w.ownsRow lo 82 3 (.slice A m co) m (fcells hs)) (hw : WL w (fun b => lo ≤ b) hs fs) (hn : m ≤ 4000000000) : FY w lo A m hs fs := by
  refine ⟨hr_own ho, fun _ b hb => ?_, hw, hn⟩
  obtain ⟨A', c', hv, -, -, hA⟩ := own_form ho
  obtain rfl : A = A' := by injection hv
  exact (hA b hb).1
theorem ln_hold {w w1 : World} {q : Int} {A Ao : Option Addr} {n c M g0 m co b5 : Nat} {hs : List Fh} {fs : List Flw} {x d : Int} {A1 : Option Addr} {n1 c1 : Nat} (B : LnW w q A n c M g0 m Ao co hs fs w1) (C : Blk w1 b5 82 #[.int .i64 x, .int .i64 d, (.slice A1 n1 c1)]) :
    (w1.cell? ⟨M, 0, none⟩ = some (.int .i64 q) ∧ w1.cell? ⟨M, 1, none⟩ = some (.slice Ao m co)) ∧ (w1.cell? ⟨b5, 0, none⟩ = some (.int .i64 x) ∧ w1.cell? ⟨b5, 1, none⟩ = some (.int .i64 d) ∧ w1.cell? ⟨b5, 2, none⟩ = some (.slice A1 n1 c1)) :=
  ⟨⟨blk_cell B.out 0, blk_cell B.out 1⟩, (blk_three C).1⟩
/-- the model's world at the switch: the copy as it was, the first flow and its packet in boxes of their own, the packets and the flows behind them in rows of their own -/
structure LnS (w : World) (q : Int) (A : Option Addr) (n c M g0 m : Nat) (Ao : Option Addr) (co : Nat) (h : Fh) (hr : List Fh) (f : Flw) (r : List Flw) (p : Pkt) (ws : List Pkt) (b6 : Nat) (d' : Int) (A3 : Option Addr) (n3 c3 : Nat) (A4 : Option Addr) (m4 c4 s4 : Nat) (V : World) : Prop where
  ln : LnW w q A n c M g0 m Ao co (h :: hr) (f :: r) V
  fb : Blk V b6 82 #[.int .i64 h.peer, .int .i64 d', (.slice A3 n3 c3)]
  pb : Blk V (b6 + 1) 29 #[.int .i64 p.peer, .int .i64 p.lane, .int .i64 p.size, .int .i64 p.id]
  r3 : V.ownsRow (b6 + 2) 29 4 (.slice A3 n3 c3) n3 (pcells ws)
  r4 : V.ownsRow s4 82 3 (.slice A4 m4 c4) m4 (fcells hr)
  s34 : ∀ b, Value.ownBlock (.slice A3 n3 c3) = some b → b < s4
  mb : M < b6
  gb : ∀ b, Value.ownBlock (.slice Ao m co) = some b → b < b6
  b64 : b6 + 2 ≤ s4
  s4V : s4 ≤ V.heap.size
/-- what is known behind the switch -/
def LnE (w : World) (q : Int) (A : Option Addr) (n c M : Nat) (G : List Flw) (p : Pkt) (b7 : Nat) (V : World) : Prop :=
  ∃ A5 n5 c5 hs5, FY V (w.heap.size + 3) A5 n5 hs5 G ∧ Blk V M 37 #[.int .i64 q, (.slice A5 n5 c5)] ∧ Fm w (bx3 w q A n c) V ∧ Blk V b7 29 #[.int .i64 p.peer, .int .i64 p.lane, .int .i64 p.size, .int .i64 p.id]
theorem lx_lo {w w1 : World} {M g0 : Nat} {hs : List Fh} {fs : List Flw} (h : WL w1 (LX (w.heap.size + 3) M g0) hs fs) : WL w1 (fun b => w.heap.size + 3 ≤ b) hs fs := wl_mono h fun _ hb => hb.1
theorem tkdrew {w V : World} {q : Int} {A : Option Addr} {n c M g0 m : Nat} {Ao : Option Addr} {co : Nat} {h : Fh} {hr : List Fh} {f : Flw} {r : List Flw} {p : Pkt} {ws : List Pkt} {b6 : Nat} {d' : Int} {A3 : Option Addr} {n3 c3 : Nat} {A4 : Option Addr} {m4 c4 s4 : Nat}
    (S : LnS w q A n c M g0 m Ao co h hr f r p ws b6 d' A3 n3 c3 A4 m4 c4 s4 V) : LnS w q A n c M g0 m Ao co h hr f r p ws b6 d' A3 n3 c3 A4 m4 c4 s4 V.drew :=
  ⟨ln_below S.ln (Below.refl _ _).drew, S.fb, S.pb, S.r3.drew, S.r4.drew, S.s34, S.mb, S.gb, S.b64, S.s4V⟩
section
variable {w V : World} {q : Int} {A : Option Addr} {n c M g0 m : Nat} {Ao : Option Addr} {co : Nat} {h : Fh} {hr : List Fh} {f : Flw} {r : List Flw} {p : Pkt} {ws : List Pkt} {b6 : Nat} {d' : Int} {A3 : Option Addr} {n3 c3 : Nat} {A4 : Option Addr} {m4 c4 s4 : Nat}
theorem lnE_a (S : LnS w q A n c M g0 m Ao co h hr f r p ws b6 d' A3 n3 c3 A4 m4 c4 s4 V) (hm : m4 ≤ 4000000000) : LnE w q A n c M r p (b6 + 1) (V.setCell ⟨M, 1, none⟩ (.slice A4 m4 c4)) := by
  have hz := S.ln.z
  have hM := S.mb
  have h64 := S.b64
  have G := g_set (g_refl V (some M)) (p := ⟨M, 1, none⟩) (.inl rfl) (.slice A4 m4 c4)
  exact ⟨A4, m4, c4, hr, fy_own (own_mono (own_set_far (p := ⟨M, 1, none⟩) S.r4 (by simp only; omega) _) (by omega)) (lx_lo (wl_grown (wl_head S.ln.wl).2 G fun b hb e => by injection e with e; have := hb.2.1; omega)) hm, blk_set S.ln.out 1 _, fm_grownO S.ln.fm G fun b e => ⟨by injection e with e; omega, bx3_hi (by injection e with e; omega)⟩, blk_far S.pb (by simp only; omega) _⟩
theorem lnE_b {w5 : World} {A5 : Option Addr} {m5 c5 : Nat} (S : LnS w q A n c M g0 m Ao co h hr f r p ws b6 d' A3 n3 c3 A4 m4 c4 s4 V) (hm : m5 ≤ 4000000000) (hn3 : n3 ≤ 4000000000) (hp : h.peer = f.peer) (o : Obj) (ho : w5.ownsRow s4 82 3 (.slice A5 m5 c5) m5 (fcells (hr ++ [⟨h.peer, d', A3, n3, c3⟩]))) (hg : (V.alloc o).grownBy w5 (Value.ownBlock (.slice A4 m4 c4))) :
    LnE w q A n c M (r ++ [⟨f.peer, d', ws⟩]) p (b6 + 1) (w5.setCell ⟨M, 1, none⟩ (.slice A5 m5 c5)) := by
  have hz := S.ln.z
  have hM := S.mb
  have h64 := S.b64
  have hMV := blk_lt S.ln.out
  have h4 : ∀ b, Value.ownBlock (.slice A4 m4 c4) = some b → s4 ≤ b := fun b e => (S.r4.lt b e).1
  have G0 : V.grownBy w5 (Value.ownBlock (.slice A4 m4 c4)) := (World.grownBy_alloc V o _).trans hg
  have hw := wl_grown (wl_head S.ln.wl).2 G0 fun b hb e => by have := h4 b e.symm; have := hb.2.1; omega
  have r3 : w5.ownsRow (b6 + 2) 29 4 (.slice A3 n3 c3) n3 (pcells ws) := S.r3.kept G0 (by
    rcases hub : Value.ownBlock (.slice A3 n3 c3) with _ | b
    · exact .inl rfl
    · exact .inr fun e => by have := S.s34 b hub; have := h4 b e.symm; omega)
  have G := g_set (g_refl w5 (some M)) (p := ⟨M, 1, none⟩) (.inl rfl) (.slice A5 m5 c5)
  have r3' := own_set_far (p := ⟨M, 1, none⟩) r3 (by simp only; omega) (.slice A5 m5 c5)
  obtain ⟨A', c', hv, hc, -, hA⟩ := own_form r3
  obtain ⟨rfl, rfl⟩ : A3 = A' ∧ c3 = c' := by injection hv with a1 a2 a3; exact ⟨a1, a3⟩
  refine ⟨A5, m5, c5, _, fy_own (own_mono (own_set_far (p := ⟨M, 1, none⟩) ho (by simp only; omega) _) (by omega)) (wl_snoc (lx_lo (wl_grown hw G fun b hb e => by injection e with e; have := hb.2.1; omega)) ⟨hp, rfl, pr_own r3', hc, hn3, fun _ b hb => by have := (hA b hb).1; omega⟩) hm, blk_set (blk_grownQ S.ln.out G0 (fun e => by have := h4 _ e.symm; omega)) 1 _, ?_, blk_far (blk_grownQ S.pb G0 (fun e => by have := h4 _ e.symm; omega)) (by simp only; omega) _⟩
  exact fm_grownO (fm_grownO S.ln.fm G0 fun b e => ⟨by have := h4 b e; omega, bx3_hi (by have := h4 b e; omega)⟩) G fun b e => ⟨by injection e with e; omega, bx3_hi (by injection e with e; omega)⟩
theorem lnE_c {g : Nat} (S : LnS w q A n c M g0 m (some ⟨g, 0, none⟩) co h hr f r p ws b6 d' A3 n3 c3 A4 m4 c4 s4 V) (hm : m ≤ 4000000000) (hn3 : n3 ≤ 4000000000) (hp : h.peer = f.peer) :
    LnE w q A n c M (⟨f.peer, d', ws⟩ :: r) p (b6 + 1) (((V.setCell ⟨g, 0, none⟩ (.int .i64 h.peer)).setCell ⟨g, 1, none⟩ (.int .i64 d')).setCell ⟨g, 2, none⟩ (.slice A3 n3 c3)) := by
  have hz := S.ln.z
  have hM := S.mb
  have hg := S.ln.sep g rfl
  have hgb := S.gb g rfl
  have hlo := (S.ln.row.lt g rfl).1
  have G := g_set (g_set (g_set (g_refl V (some g)) (p := ⟨g, 0, none⟩) (.inl rfl) (.int .i64 h.peer)) (p := ⟨g, 1, none⟩) (.inl rfl) (.int .i64 d')) (p := ⟨g, 2, none⟩) (.inl rfl) (.slice A3 n3 c3)
  have hw := wl_grown (wl_head S.ln.wl).2 G fun b hb e => by injection e with e; subst e; rcases hg with e | e; exact hb.2.2 e; have := hb.2.1; omega
  have r3 := S.r3.kept G (by
    rcases hub : Value.ownBlock (.slice A3 n3 c3) with _ | b
    · exact .inl rfl
    · exact .inr fun e => by have := (S.r3.lt b hub).1; injection e with e; omega)
  obtain ⟨A', c', hv, hc, -, hA⟩ := own_form r3
  obtain ⟨rfl, rfl⟩ : A3 = A' ∧ c3 = c' := by injection hv with a1 a2 a3; exact ⟨a1, a3⟩
  have h1 := (S.ln.row.stored 0 (.int .i64 h.peer)).1
  have h2 := (h1.stored 1 (.int .i64 d')).1
  have h3 := (h2.stored 2 (.slice A3 n3 c3)).1
  refine ⟨some ⟨g, 0, none⟩, m, co, ⟨h.peer, d', A3, n3, c3⟩ :: hr, fy_own h3 (wl_cons (lx_lo hw) ⟨hp, rfl, pr_own r3, hc, hn3, fun _ b hb => by have := (hA b hb).1; omega⟩) hm, blk_grownQ S.ln.out G (fun e => by injection e with e; omega), fm_grownO S.ln.fm G fun b e => ⟨by injection e with e; omega, bx3_hi (by injection e with e; omega)⟩, blk_grownQ S.pb G (fun e => by injection e with e; omega)⟩
end
set_option maxHeartbeats 8000000 in
theorem nextS_any (q : Int) (A : Option Addr) (n c : Nat) (fs : List Flw) (w : World) (h : FR w A n fs) (hv : RV q fs) (h0 : fs ≠ []) :
    Calls Try.prog 94 #[.agg #[.int .i64 q, (.slice A n c)]] w (NxPost w (fun _ => False) q fs) := by
  have H := Lib.hid h
  have hl := (fr_lenF h).1
  have HV := Lib.hid (And.intro hv h0)
  have hlen : 0 < fs.length := by
    rcases Nat.eq_zero_or_pos fs.length with e | e
    · exact absurd (List.eq_nil_of_length_eq_zero e) h0
    · exact e
  have q0 := hv.q0
  have q1 := hv.q1
  have F := Lib.hid (show Fm w (bx3 w q A n c) _ from fm_three w 37 37 29 #[.int .i64 q, (.slice A n c)] #[.int .i64 0, (.slice none 0 0)] #[.int .i64 0, .int .i64 0, .int .i64 0, .int .i64 0])
  clear h hl hv h0
  go_enter Try.func94, Try.ntmps94
  go_wp2_with fail
  refine (copyRS_any q A n c fs _ (fr_belowF H.out F.out.below)).mono ?_
  rintro e w1 ⟨A1, n1, c1, hs1, rfl, rfl, -, -, hD, hb1⟩
  obtain ⟨g0, cap, hv2, hg1, hg2⟩ := hD.row.form hlen
  obtain ⟨rfl, rfl⟩ : A1 = some ⟨g0, 0, none⟩ ∧ c1 = cap := by injection hv2 with a1 a2 a3; exact ⟨a1, a3⟩
  have z0 : w.heap.size + 3 ≤ g0 := by simpa using hg1
  have R0 : Hid (∃ m Ao co hs fs', LnR w q A n c w1.heap.size g0 (turned q fs) m Ao co hs fs' (w1.alloc (.cells #[.int .i64 q, (.slice (some ⟨g0, 0, none⟩) fs.length c1)] 37))) := Lib.hid ⟨_, _, _, _, fs, ⟨(own_mono hD.row (by simp)).alloc _, wl_below (wl_mono (do_wl hD) fun b hb => ⟨by have := hb.1; simpa using this, hb.2⟩) (below_alloc (Below.refl _ _) _), fm_alloc (fm_below F.out hb1) _, blk_new w1 _ _, fun b e => .inl (by injection e with e; exact e.symm), z0, hg2⟩, HV.out.1, HV.out.2, rfl⟩
  clear hD hb1 hv2 hg1
  go_upto_block 0 with fail
  go_cut [] from 11 to 55 (fun wx => ∃ m Ao co hs, LnW w q A n c w1.heap.size g0 m Ao co hs (turned q fs) wx)
  case first =>
    go_wp2_with fail
    go_loopw [] (fun wr => ∃ m Ao co hs fs', LnR w q A n c w1.heap.size g0 (turned q fs) m Ao co hs fs' wr) (fun wr => lnM w1.heap.size wr)
    case atStart => exact R0.out
    case round =>
      obtain ⟨m, Ao, co, hs, fs', B⟩ := hrel
      clear R0
      have hln := B.ln.wl.1
      cases fs' with
      | nil => exact absurd rfl B.ne
      | cons f r =>
        cases hs with
        | nil => simp at hln
        | cons h hr =>
          obtain ⟨hm, hmc, g, rfl⟩ := ln_form B.ln
          have hm8 : m ≤ 8 := by have := rv_len B.rv; rw [← hln] at this; simp at this; omega
          have HB := Lib.hid B
          have hwh := (wl_head B.ln.wl).1
          obtain ⟨b, off, h', e1, -, hh, c0, c1', c2⟩ := hr_at (k := 0) (hr_own B.ln.row) (by omega)
          obtain ⟨rfl, rfl⟩ : g = b ∧ 0 = off := by injection e1 with e1; injection e1 with a1 a2; exact ⟨a1, a2⟩
          obtain rfl : h = h' := by simpa using hh
          simp only [Nat.zero_mul, Nat.zero_add] at c0 c1' c2
          have hg : g < wr.heap.size := (B.ln.row.lt g rfl).2
          have hgM : g ≠ w1.heap.size := by have := B.ln.sep g rfl; omega
          have f0 := World.ownsRow.frozenAt B.ln.row 0
          have f1 := World.ownsRow.frozenAt B.ln.row 1
          have f2 := World.ownsRow.frozenAt B.ln.row 2
          obtain ⟨l0, l1, lf0, lf1⟩ := blk_two B.ln.out
          have zM := blk_lt B.ln.out
          have hvf := (rv_head B.rv).1
          obtain ⟨p, ws, hpw, s1, s2, -⟩ := vf_wait hvf
          obtain ⟨x, d, A1, n1, c1c⟩ := h
          obtain ⟨x', d', ws'⟩ := f
          obtain rfl : x = x' := hwh.peer
          obtain rfl : d = d' := hwh.dfc
          obtain rfl : ws' = p :: ws := hpw
          have hpr : PR wr A1 n1 (p :: ws) := hwh.pr
          have hl1 : n1 = ws.length + 1 := by have := hpr.1; simpa using this.symm
          obtain ⟨b1, off1, p', rfl, hb1, hp', p0, p1, p2, p3⟩ := pr_at (k := 0) hpr (by omega)
          obtain rfl : p = p' := by simpa using hp'
          simp only [Nat.zero_mul, Nat.add_zero] at p0 p1 p2 p3
          have hd0 := hvf.d0
          have hd1 := hvf.d1
          simp only at c0 c1' c2 hd0 hd1
          have HL1 := Lib.hid hl1
          have HM := Lib.hid hm
          have y1 : (0 : Int) < (n1 : Int) := by omega
          have y2 : (0 : Int) < (m : Int) := by omega
          have y3 : (1 : Int) ≤ (m : Int) := by omega
          have hm1 : 1 ≤ m := by omega
          have hco : 1 ≤ co := by omega
          have HMay : Hid (may ⟨x, d, p :: ws⟩ = decide (p.size ≤ d)) := Lib.hid rfl
          have HMay2 : Hid (may (addq q ⟨x, d, p :: ws⟩) = decide (p.size ≤ d + q)) := Lib.hid rfl
          clear B hln hwh e1 hh hvf hp' hpr hl1 hm
          by_cases hd : p.size ≤ d
          · have hdb : decide (d < p.size) = false := by simp; omega
            have HT : Hid (turned q fs = ⟨x, d, p :: ws⟩ :: r) := Lib.hid (HB.out.t.symm.trans (turned_may (by rw [HMay.out, decide_eq_true_eq]; exact hd)))
            clear hd
            go_wp2_with fail
            go_quiet (fail)
            go_wp2_with fail
            go_meet
            case rel => exact ⟨m, _, co, _, by rw [HT.out]; exact ln_drewN HB.out.ln _⟩
          · have hdb : decide (d < p.size) = true := by simp; omega
            have HM0 : Hid (may ⟨x, d, p :: ws⟩ = false) := Lib.hid (by rw [HMay.out, decide_eq_false_iff_not]; exact hd)
            have yq : IntKind.i64.wrap (d + q) = d + q := IntWalk.i64_in _ (by omega)
            clear hd
            by_cases hdq : p.size ≤ d + q
            · have hdb2 : decide (p.size ≤ d + q) = true := by simp; omega
              have HT : Hid (turned q fs = addq q ⟨x, d, p :: ws⟩ :: r) := Lib.hid (HB.out.t.symm.trans (turned_add HB.out.rv HM0.out (by rw [HMay2.out, hdb2])))
              clear hdq
              go_wp2_with fail
              go_region
              go_wp2_with fail
              go_region
              go_wp2_with fail
              go_meet
              case rel => exact ⟨m, _, co, _, by rw [HT.out]; exact ln_below (ln_set (h2 := ⟨x, d + q, some ⟨b1, off1, none⟩, n1, c1c⟩) (f2 := addq q ⟨x, d, p :: ws⟩) HB.out.ln rfl rfl rfl rfl rfl rfl) ((below_alloc (Below.refl _ _) (.cells #[.int .i64 x, (.int .i64 (d + q)), (.slice (some ⟨b1, off1, none⟩) n1 c1c)] 82)).drew.drew)⟩
            · have hdb2 : decide (p.size ≤ d + q) = false := by simp; omega
              have HM2 : Hid (may (addq q ⟨x, d, p :: ws⟩) = false) := Lib.hid (by rw [HMay2.out, hdb2])
              clear hdq
              go_wp2_with fail
              go_region
              go_wp2_with fail
              go_region
              go_wp2_with fail
              have LV := Lib.hid (ln_below HB.out.ln ((below_alloc (Below.refl _ _) (.cells #[.int .i64 x, (.int .i64 (d + q)), (.slice (some ⟨b1, off1, none⟩) n1 c1c)] 82)).drew.drew))
              have BF := Lib.hid (show Blk (wr.alloc (.cells #[.int .i64 x, (.int .i64 (d + q)), (.slice (some ⟨b1, off1, none⟩) n1 c1c)] 82)).drew.drew wr.heap.size 82 #[.int .i64 x, (.int .i64 (d + q)), (.slice (some ⟨b1, off1, none⟩) n1 c1c)] from blk_at (w := wr) rfl _ _)
              have zF : wr.heap.size < ((wr.alloc (.cells #[.int .i64 x, (.int .i64 (d + q)), (.slice (some ⟨b1, off1, none⟩) n1 c1c)] 82)).drew.drew).heap.size := by simp
              have HN := Lib.hid (lnM_eq HB.out.ln)
              obtain ⟨A2', hA2, hA2b, hP2⟩ := tail_ofF HB.out.ln.row
              clear c0 c1' c2 f0 f1 f2 l0 l1 lf0 lf1 zM hb1 p0 p1 p2 p3 hg
              generalize (wr.alloc (.cells #[.int .i64 x, (.int .i64 (d + q)), (.slice (some ⟨b1, off1, none⟩) n1 c1c)] 82)).drew.drew = V at LV BF zF ⊢
              obtain ⟨l0, l1, lf0, lf1⟩ := blk_two LV.out.out
              have hS0 := ln_hold (ln_below LV.out (Below.drew (Below.refl _ _))) (blk_drewN BF.out 1)
              refine held_start (S := (fun w' => (w'.cell? ⟨w1.heap.size, 0, none⟩ = some (.int .i64 q) ∧ w'.cell? ⟨w1.heap.size, 1, none⟩ = some (.slice (some ⟨g, 0, none⟩) m co)) ∧ (w'.cell? ⟨wr.heap.size, 0, none⟩ = some (.int .i64 x) ∧ w'.cell? ⟨wr.heap.size, 1, none⟩ = some (.int .i64 (d + q)) ∧ w'.cell? ⟨wr.heap.size, 2, none⟩ = some (.slice (some ⟨b1, off1, none⟩) n1 c1c)))) 9 (by kernel_rfl) ?_
              refine held_take (i := 1) (oi := { dst := some 48, op := Op.fieldAddr 37 (Operand.tmp 4) 1, type := 0, pos := "l5_robins.go:94", after := #[], guard := none }) (v := ?_) rfl (by kernel_rfl) (by kernel_rfl) (by kernel_rfl) (by kernel_rfl) (fun _ _ _ h => h) (Or.inl ⟨by rfl, ?_⟩) hS0 ?_
              rotate_left
              · (intro w9 hSw; (try dsimp only at hSw); go_simp; try with_reducible rfl)
              try simp only [Act.put, List.setIfInBounds_toArray, List.set_cons_zero, List.set_cons_succ]
              refine held_take (i := 2) (oi := { dst := some 49, op := Op.load 35 (Operand.tmp 48), type := 35, pos := "l5_robins.go:94", after := #[{ on := 1, ground := Ground.data }], guard := none }) (v := ?_) rfl (by kernel_rfl) (by kernel_rfl) (by kernel_rfl) (by kernel_rfl) (fun _ _ _ h => h) (Or.inl ⟨by rfl, ?_⟩) hS0 ?_
              rotate_left
              · (intro w9 hSw; (try dsimp only at hSw); go_simp; try with_reducible rfl)
              try simp only [Act.put, List.setIfInBounds_toArray, List.set_cons_zero, List.set_cons_succ]
              refine held_take (i := 3) (oi := { dst := some 50, op := Op.slice 35 (Operand.tmp 49) (some (Operand.const (Value.int IntKind.i64 1))) none none, type := 35, pos := "l5_robins.go:94", after := #[{ on := 2, ground := Ground.data }], guard := none }) (v := ?_) rfl (by kernel_rfl) (by kernel_rfl) (by kernel_rfl) (by kernel_rfl) (fun _ _ _ h => h) (Or.inl ⟨by rfl, ?_⟩) hS0 ?_
              rotate_left
              · (intro w9 hSw; (try dsimp only at hSw); go_simp; try with_reducible rfl)
              try simp only [Act.put, List.setIfInBounds_toArray, List.set_cons_zero, List.set_cons_succ]
              refine held_take (i := 5) (oi := { dst := some 52, op := Op.load 82 (Operand.tmp 5), type := 82, pos := "l5_robins.go:94", after := #[], guard := none }) (v := ?_) rfl (by kernel_rfl) (by kernel_rfl) (by kernel_rfl) (by kernel_rfl) (fun _ _ _ h => h) (Or.inl ⟨by rfl, ?_⟩) hS0 ?_
              rotate_left
              · (intro w9 hSw; (try dsimp only at hSw); go_simp; try with_reducible rfl)
              try simp only [Act.put, List.setIfInBounds_toArray, List.set_cons_zero, List.set_cons_succ]
              refine held_two (i := 0) (j := 6) (oi := { dst := some 47, op := Op.buildSlice 35 0 #[], type := 35, pos := "l5_robins.go:94", after := #[], guard := none }) (oj := { dst := some 53, op := Op.buildSlice 35 1 #[(0, Operand.tmp 52)], type := 35, pos := "l5_robins.go:94", after := #[{ on := 5, ground := Ground.data }], guard := none }) (by kernel_rfl) rfl rfl (fun K hK => ?_) (fun K hK => ?_)
              · go_simp
                have T1 := Lib.hid (show Below V.heap.size V _ from (below_alloc (Below.refl _ _) (.cells #[] 82)).drew)
                have hS1 := ln_hold (ln_below LV.out T1.out) (blk_below BF.out T1.out zF)
                refine hK.out _ _ (.inr hS1) ?_
                clear hK K
                try simp only [Act.put, List.setIfInBounds_toArray, List.set_cons_zero, List.set_cons_succ]
                refine held_two (i := 4) (j := 6) (oi := { dst := some 51, op := Op.call { callee := Callee.builtin Builtin.append, args := #[Operand.tmp 47, Operand.tmp 50], argTypes := #[35, 35] }, type := 35, pos := "l5_robins.go:94", after := #[{ on := 0, ground := Ground.data }, { on := 3, ground := Ground.data }], guard := none }) (oj := { dst := some 53, op := Op.buildSlice 35 1 #[(0, Operand.tmp 52)], type := 35, pos := "l5_robins.go:94", after := #[{ on := 5, ground := Ground.data }], guard := none }) (by kernel_rfl) rfl rfl (fun K hK => ?_) (fun K hK => ?_)
                · refine step_app_flws _ rfl (.tmp 47) (.tmp 50) rfl V.heap.size (.slice (some ⟨V.heap.size, 0, none⟩) 0 0) 0 [] rfl (World.ownsRow.drew (own_emptyF (W := V) (b := V.heap.size) rfl)) (some A2') (m - 1) (co - 1) hr rfl (hP2.out _ (hr_own (ln_below LV.out T1.out).row)) (by omega) (by simp <;> omega) ?_
                  intro v6 w6 ho6 hg6 hat6
                  simp only [List.nil_append, Nat.zero_add] at ho6
                  have T6 := Lib.hid (T1.out.grown hg6 T1.out.size fun b e => by have := ((World.ownsRow.drew (own_emptyF (W := V) (b := V.heap.size) rfl)).lt b e).1; simp at this ⊢; omega)
                  have z6 : V.heap.size ≤ w6.heap.size := (by have := hg6.size; simp at this ⊢; omega)
                  obtain ⟨A6, c6, rfl, -, -, -⟩ := own_form ho6
                  have O6 := Lib.hid ho6
                  have hS2 := ln_hold (ln_below LV.out T6.out) (blk_below BF.out T6.out zF)
                  refine hK.out _ _ (.inr hS2) ?_
                  clear hK K
                  try simp only [Act.put, List.setIfInBounds_toArray, List.set_cons_zero, List.set_cons_succ]
                  refine held_one (i := 6) (o := { dst := some 53, op := Op.buildSlice 35 1 #[(0, Operand.tmp 52)], type := 35, pos := "l5_robins.go:94", after := #[{ on := 5, ground := Ground.data }], guard := none }) (by kernel_rfl) rfl (fun K hK => ?_)
                  go_simp
                  have T3 := Lib.hid (show Below V.heap.size V _ from below_alloc T6.out (.cells #[.int .i64 x, (.int .i64 (d + q)), (.slice (some ⟨b1, off1, none⟩) n1 c1c)] 82))
                  have hS3 := ln_hold (ln_below LV.out T3.out) (blk_below BF.out T3.out zF)
                  refine hK.out _ _ (.inr hS3) ?_
                  clear hK K
                  try simp only [Act.put, List.setIfInBounds_toArray, List.set_cons_zero, List.set_cons_succ]
                  refine held_one (i := 7) (o := { dst := some 54, op := Op.call { callee := Callee.builtin Builtin.append, args := #[Operand.tmp 51, Operand.tmp 53], argTypes := #[35, 35] }, type := 35, pos := "l5_robins.go:94", after := #[{ on := 4, ground := Ground.data }, { on := 6, ground := Ground.data }, { on := 4, ground := Ground.chain }], guard := none }) (by kernel_rfl) rfl (fun K hK => ?_)
                  refine step_app_flws _ rfl (.tmp 51) (.tmp 53) rfl _ (.slice A6 (m - 1) c6) (m - 1) hr rfl (O6.out.alloc _) (some ⟨w6.heap.size, 0, none⟩) 1 1 [⟨x, d + q, some ⟨b1, off1, none⟩, n1, c1c⟩] rfl (hr_single (blk_at rfl _ _)) (by omega) (by first | exact z6 | (have := z6; simp at this ⊢; omega)) ?_
                  intro v7 w7 ho7 hg7 hat7
                  rw [show m - 1 + 1 = m by omega] at ho7
                  obtain ⟨A7, c7, rfl, -, -, -⟩ := own_form ho7
                  have T7 := Lib.hid (T3.out.grown hg7 T3.out.size fun b e => by have := (O6.out.lt b e).1; simp at this ⊢; omega)
                  have O7 := Lib.hid (own_mono (b2 := V.heap.size) ho7 (by simp))
                  obtain ⟨l0', l1', lf0', lf1'⟩ := blk_two (ln_below LV.out T7.out).out
                  have hS7 := ln_hold (ln_below LV.out T7.out) (blk_below BF.out T7.out zF)
                  clear hg7 hat7 ho7
                  refine hK.out _ _ (.inr hS7) ?_
                  clear hK K
                  try simp only [Act.put, List.setIfInBounds_toArray, List.set_cons_zero, List.set_cons_succ]
                  refine held_take (i := 8) (oi := { dst := some 55, op := Op.fieldAddr 37 (Operand.tmp 4) 1, type := 0, pos := "l5_robins.go:94", after := #[{ on := 0, ground := Ground.phase }, { on := 1, ground := Ground.phase }, { on := 2, ground := Ground.phase }, { on := 3, ground := Ground.phase }, { on := 4, ground := Ground.phase }, { on := 5, ground := Ground.phase }, { on := 6, ground := Ground.phase }, { on := 7, ground := Ground.phase }], guard := none }) (v := ?_) rfl (by kernel_rfl) (by kernel_rfl) (by kernel_rfl) (by kernel_rfl) (fun _ _ _ h => h) (Or.inl ⟨by rfl, ?_⟩) hS7 ?_
                  rotate_left
                  · (intro w9 hSw; (try dsimp only at hSw); go_simp; try with_reducible rfl)
                  try simp only [Act.put, List.setIfInBounds_toArray, List.set_cons_zero, List.set_cons_succ]
                  refine held_one (i := 9) (o := { dst := none, op := Op.store 35 (Operand.tmp 55) (Operand.tmp 54), type := 0, pos := "l5_robins.go:94", after := #[{ on := 8, ground := Ground.data }, { on := 7, ground := Ground.data }, { on := 7, ground := Ground.chain }, { on := 0, ground := Ground.phase }, { on := 1, ground := Ground.phase }, { on := 2, ground := Ground.phase }, { on := 3, ground := Ground.phase }, { on := 4, ground := Ground.phase }, { on := 5, ground := Ground.phase }, { on := 6, ground := Ground.phase }, { on := 7, ground := Ground.phase }], guard := none }) (by kernel_rfl) rfl (fun K hK => ?_)
                  go_simp
                  refine hK.out _ _ (.inl rfl) ?_
                  clear hK K
                  try simp only [Act.put, List.setIfInBounds_toArray, List.set_cons_zero, List.set_cons_succ]
                  refine held_done (by kernel_rfl) ?_ _
                  clear l0' l1' lf0' lf1'
                  go_wp2
                  go_roundw
                  case rel =>
                    have hw7 := wl_below LV.out.wl T7.out
                    exact ⟨_, A7, c7, _, r ++ [addq q ⟨x, d, p :: ws⟩], ln_new LV.out T7.out O7.out (Nat.le_refl _) (wl_snoc (wl_head hw7).2 (h := ⟨x, d + q, some ⟨b1, off1, none⟩, n1, c1c⟩) (f := addq q ⟨x, d, p :: ws⟩) ⟨rfl, rfl, (wl_head hw7).1.pr, (wl_head hw7).1.cap, (wl_head hw7).1.few, (wl_head hw7).1.far⟩), rv_rot HB.out.rv HM0.out, by simp, (turned_rot HB.out.rv HM0.out HM2.out).symm.trans HB.out.t⟩
                  case measure =>
                    have hw7 := wl_below LV.out.wl T7.out
                    have LN := ln_new LV.out T7.out O7.out (Nat.le_refl _) (wl_snoc (wl_head hw7).2 (h := ⟨x, d + q, some ⟨b1, off1, none⟩, n1, c1c⟩) (f := addq q ⟨x, d, p :: ws⟩) ⟨rfl, rfl, (wl_head hw7).1.pr, (wl_head hw7).1.cap, (wl_head hw7).1.few, (wl_head hw7).1.far⟩)
                    obtain ⟨g7, cap7, hv7, -, -⟩ := O7.out.form (by omega)
                    obtain rfl : A7 = some ⟨g7, 0, none⟩ := by injection hv7
                    rw [HN.out, lnM_eq LN]
                    exact need_rot HB.out.rv HM0.out
                · go_simp
                  have T3 := Lib.hid (show Below V.heap.size V _ from (below_alloc (below_alloc (Below.refl _ _) (.cells #[] 82)) (.cells #[.int .i64 x, (.int .i64 (d + q)), (.slice (some ⟨b1, off1, none⟩) n1 c1c)] 82)).drew)
                  have hS2 := ln_hold (ln_below LV.out T3.out) (blk_below BF.out T3.out zF)
                  refine hK.out _ _ (.inr hS2) ?_
                  clear hK K
                  try simp only [Act.put, List.setIfInBounds_toArray, List.set_cons_zero, List.set_cons_succ]
                  refine held_one (i := 4) (o := { dst := some 51, op := Op.call { callee := Callee.builtin Builtin.append, args := #[Operand.tmp 47, Operand.tmp 50], argTypes := #[35, 35] }, type := 35, pos := "l5_robins.go:94", after := #[{ on := 0, ground := Ground.data }, { on := 3, ground := Ground.data }], guard := none }) (by kernel_rfl) rfl (fun K hK => ?_)
                  refine step_app_flws _ rfl (.tmp 47) (.tmp 50) rfl V.heap.size (.slice (some ⟨V.heap.size, 0, none⟩) 0 0) 0 [] rfl (World.ownsRow.drew (World.ownsRow.alloc (own_emptyF (W := V) (b := V.heap.size) rfl) (.cells #[.int .i64 x, (.int .i64 (d + q)), (.slice (some ⟨b1, off1, none⟩) n1 c1c)] 82))) (some A2') (m - 1) (co - 1) hr rfl (hP2.out _ (hr_own (ln_below LV.out T3.out).row)) (by omega) (by simp <;> omega) ?_
                  intro v6 w6 ho6 hg6 hat6
                  simp only [List.nil_append, Nat.zero_add] at ho6
                  have T6 := Lib.hid (T3.out.grown hg6 T3.out.size fun b e => by have := ((World.ownsRow.drew (World.ownsRow.alloc (own_emptyF (W := V) (b := V.heap.size) rfl) (.cells #[.int .i64 x, (.int .i64 (d + q)), (.slice (some ⟨b1, off1, none⟩) n1 c1c)] 82))).lt b e).1; simp at this ⊢; omega)
                  have z6 : V.heap.size ≤ w6.heap.size := (by have := hg6.size; simp at this ⊢; omega)
                  obtain ⟨A6, c6, rfl, -, -, -⟩ := own_form ho6
                  have O6 := Lib.hid ho6
                  have hS4 := ln_hold (ln_below LV.out T6.out) (blk_below BF.out T6.out zF)
                  refine hK.out _ _ (.inr hS4) ?_
                  clear hK K
                  try simp only [Act.put, List.setIfInBounds_toArray, List.set_cons_zero, List.set_cons_succ]
                  refine held_one (i := 7) (o := { dst := some 54, op := Op.call { callee := Callee.builtin Builtin.append, args := #[Operand.tmp 51, Operand.tmp 53], argTypes := #[35, 35] }, type := 35, pos := "l5_robins.go:94", after := #[{ on := 4, ground := Ground.data }, { on := 6, ground := Ground.data }, { on := 4, ground := Ground.chain }], guard := none }) (by kernel_rfl) rfl (fun K hK => ?_)
                  refine step_app_flws _ rfl (.tmp 51) (.tmp 53) rfl _ (.slice A6 (m - 1) c6) (m - 1) hr rfl O6.out (some ⟨V.heap.size + 1, 0, none⟩) 1 1 [⟨x, d + q, some ⟨b1, off1, none⟩, n1, c1c⟩] rfl (hr_single (blk_grownQ (blk_drewN (blk_at (by simp) _ _) 1) hg6 (fun e => by simp [Value.ownBlock] at e))) (by omega) (by first | exact z6 | (have := z6; simp at this ⊢; omega)) ?_
                  intro v7 w7 ho7 hg7 hat7
                  rw [show m - 1 + 1 = m by omega] at ho7
                  obtain ⟨A7, c7, rfl, -, -, -⟩ := own_form ho7
                  have T7 := Lib.hid (T6.out.grown hg7 T6.out.size fun b e => by have := (O6.out.lt b e).1; simp at this ⊢; omega)
                  have O7 := Lib.hid (own_mono (b2 := V.heap.size) ho7 (by simp))
                  obtain ⟨l0', l1', lf0', lf1'⟩ := blk_two (ln_below LV.out T7.out).out
                  have hS7 := ln_hold (ln_below LV.out T7.out) (blk_below BF.out T7.out zF)
                  clear hg7 hat7 ho7
                  refine hK.out _ _ (.inr hS7) ?_
                  clear hK K
                  try simp only [Act.put, List.setIfInBounds_toArray, List.set_cons_zero, List.set_cons_succ]
                  refine held_take (i := 8) (oi := { dst := some 55, op := Op.fieldAddr 37 (Operand.tmp 4) 1, type := 0, pos := "l5_robins.go:94", after := #[{ on := 0, ground := Ground.phase }, { on := 1, ground := Ground.phase }, { on := 2, ground := Ground.phase }, { on := 3, ground := Ground.phase }, { on := 4, ground := Ground.phase }, { on := 5, ground := Ground.phase }, { on := 6, ground := Ground.phase }, { on := 7, ground := Ground.phase }], guard := none }) (v := ?_) rfl (by kernel_rfl) (by kernel_rfl) (by kernel_rfl) (by kernel_rfl) (fun _ _ _ h => h) (Or.inl ⟨by rfl, ?_⟩) hS7 ?_
                  rotate_left
                  · (intro w9 hSw; (try dsimp only at hSw); go_simp; try with_reducible rfl)
                  try simp only [Act.put, List.setIfInBounds_toArray, List.set_cons_zero, List.set_cons_succ]
                  refine held_one (i := 9) (o := { dst := none, op := Op.store 35 (Operand.tmp 55) (Operand.tmp 54), type := 0, pos := "l5_robins.go:94", after := #[{ on := 8, ground := Ground.data }, { on := 7, ground := Ground.data }, { on := 7, ground := Ground.chain }, { on := 0, ground := Ground.phase }, { on := 1, ground := Ground.phase }, { on := 2, ground := Ground.phase }, { on := 3, ground := Ground.phase }, { on := 4, ground := Ground.phase }, { on := 5, ground := Ground.phase }, { on := 6, ground := Ground.phase }, { on := 7, ground := Ground.phase }], guard := none }) (by kernel_rfl) rfl (fun K hK => ?_)
                  go_simp
                  refine hK.out _ _ (.inl rfl) ?_
                  clear hK K
                  try simp only [Act.put, List.setIfInBounds_toArray, List.set_cons_zero, List.set_cons_succ]
                  refine held_done (by kernel_rfl) ?_ _
                  clear l0' l1' lf0' lf1'
                  go_wp2
                  go_roundw
                  case rel =>
                    have hw7 := wl_below LV.out.wl T7.out
                    exact ⟨_, A7, c7, _, r ++ [addq q ⟨x, d, p :: ws⟩], ln_new LV.out T7.out O7.out (Nat.le_refl _) (wl_snoc (wl_head hw7).2 (h := ⟨x, d + q, some ⟨b1, off1, none⟩, n1, c1c⟩) (f := addq q ⟨x, d, p :: ws⟩) ⟨rfl, rfl, (wl_head hw7).1.pr, (wl_head hw7).1.cap, (wl_head hw7).1.few, (wl_head hw7).1.far⟩), rv_rot HB.out.rv HM0.out, by simp, (turned_rot HB.out.rv HM0.out HM2.out).symm.trans HB.out.t⟩
                  case measure =>
                    have hw7 := wl_below LV.out.wl T7.out
                    have LN := ln_new LV.out T7.out O7.out (Nat.le_refl _) (wl_snoc (wl_head hw7).2 (h := ⟨x, d + q, some ⟨b1, off1, none⟩, n1, c1c⟩) (f := addq q ⟨x, d, p :: ws⟩) ⟨rfl, rfl, (wl_head hw7).1.pr, (wl_head hw7).1.cap, (wl_head hw7).1.few, (wl_head hw7).1.far⟩)
                    obtain ⟨g7, cap7, hv7, -, -⟩ := O7.out.form (by omega)
                    obtain rfl : A7 = some ⟨g7, 0, none⟩ := by injection hv7
                    rw [HN.out, lnM_eq LN]
                    exact need_rot HB.out.rv HM0.out
              · go_simp
                have T1 := Lib.hid (show Below V.heap.size V _ from (below_alloc (Below.refl _ _) (.cells #[.int .i64 x, (.int .i64 (d + q)), (.slice (some ⟨b1, off1, none⟩) n1 c1c)] 82)).drew)
                have hS1 := ln_hold (ln_below LV.out T1.out) (blk_below BF.out T1.out zF)
                refine hK.out _ _ (.inr hS1) ?_
                clear hK K
                try simp only [Act.put, List.setIfInBounds_toArray, List.set_cons_zero, List.set_cons_succ]
                refine held_one (i := 0) (o := { dst := some 47, op := Op.buildSlice 35 0 #[], type := 35, pos := "l5_robins.go:94", after := #[], guard := none }) (by kernel_rfl) rfl (fun K hK => ?_)
                go_simp
                have T3 := Lib.hid (show Below V.heap.size V _ from (below_alloc (below_alloc (Below.refl _ _) (.cells #[.int .i64 x, (.int .i64 (d + q)), (.slice (some ⟨b1, off1, none⟩) n1 c1c)] 82)) (.cells #[] 82)).drew)
                have hS3 := ln_hold (ln_below LV.out T3.out) (blk_below BF.out T3.out zF)
                refine hK.out _ _ (.inr hS3) ?_
                clear hK K
                try simp only [Act.put, List.setIfInBounds_toArray, List.set_cons_zero, List.set_cons_succ]
                refine held_one (i := 4) (o := { dst := some 51, op := Op.call { callee := Callee.builtin Builtin.append, args := #[Operand.tmp 47, Operand.tmp 50], argTypes := #[35, 35] }, type := 35, pos := "l5_robins.go:94", after := #[{ on := 0, ground := Ground.data }, { on := 3, ground := Ground.data }], guard := none }) (by kernel_rfl) rfl (fun K hK => ?_)
                refine step_app_flws _ rfl (.tmp 47) (.tmp 50) rfl (V.alloc (.cells #[.int .i64 x, (.int .i64 (d + q)), (.slice (some ⟨b1, off1, none⟩) n1 c1c)] 82)).heap.size (.slice (some ⟨V.heap.size + 1, 0, none⟩) 0 0) 0 [] rfl (World.ownsRow.drew (own_emptyF (W := V.alloc (.cells #[.int .i64 x, (.int .i64 (d + q)), (.slice (some ⟨b1, off1, none⟩) n1 c1c)] 82)) (b := V.heap.size + 1) (by simp))) (some A2') (m - 1) (co - 1) hr rfl (hP2.out _ (hr_own (ln_below LV.out T3.out).row)) (by omega) (by simp <;> omega) ?_
                intro v6 w6 ho6 hg6 hat6
                simp only [List.nil_append, Nat.zero_add] at ho6
                have T6 := Lib.hid (T3.out.grown hg6 T3.out.size fun b e => by have := ((World.ownsRow.drew (own_emptyF (W := V.alloc (.cells #[.int .i64 x, (.int .i64 (d + q)), (.slice (some ⟨b1, off1, none⟩) n1 c1c)] 82)) (b := V.heap.size + 1) (by simp))).lt b e).1; simp at this ⊢; omega)
                have z6 : (V.alloc (.cells #[.int .i64 x, (.int .i64 (d + q)), (.slice (some ⟨b1, off1, none⟩) n1 c1c)] 82)).heap.size ≤ w6.heap.size := (by have := hg6.size; simp at this ⊢; omega)
                obtain ⟨A6, c6, rfl, -, -, -⟩ := own_form ho6
                have O6 := Lib.hid ho6
                have hS4 := ln_hold (ln_below LV.out T6.out) (blk_below BF.out T6.out zF)
                refine hK.out _ _ (.inr hS4) ?_
                clear hK K
                try simp only [Act.put, List.setIfInBounds_toArray, List.set_cons_zero, List.set_cons_succ]
                refine held_one (i := 7) (o := { dst := some 54, op := Op.call { callee := Callee.builtin Builtin.append, args := #[Operand.tmp 51, Operand.tmp 53], argTypes := #[35, 35] }, type := 35, pos := "l5_robins.go:94", after := #[{ on := 4, ground := Ground.data }, { on := 6, ground := Ground.data }, { on := 4, ground := Ground.chain }], guard := none }) (by kernel_rfl) rfl (fun K hK => ?_)
                refine step_app_flws _ rfl (.tmp 51) (.tmp 53) rfl _ (.slice A6 (m - 1) c6) (m - 1) hr rfl O6.out (some ⟨V.heap.size, 0, none⟩) 1 1 [⟨x, d + q, some ⟨b1, off1, none⟩, n1, c1c⟩] rfl (hr_single (blk_grownQ (blk_drewN (blk_alloc (blk_at rfl _ _) _) 1) hg6 (fun e => by simp [Value.ownBlock] at e))) (by omega) (by first | exact z6 | (have := z6; simp at this ⊢; omega)) ?_
                intro v7 w7 ho7 hg7 hat7
                rw [show m - 1 + 1 = m by omega] at ho7
                obtain ⟨A7, c7, rfl, -, -, -⟩ := own_form ho7
                have T7 := Lib.hid (T6.out.grown hg7 T6.out.size fun b e => by have := (O6.out.lt b e).1; simp at this ⊢; omega)
                have O7 := Lib.hid (own_mono (b2 := V.heap.size) ho7 (by simp))
                obtain ⟨l0', l1', lf0', lf1'⟩ := blk_two (ln_below LV.out T7.out).out
                have hS7 := ln_hold (ln_below LV.out T7.out) (blk_below BF.out T7.out zF)
                clear hg7 hat7 ho7
                refine hK.out _ _ (.inr hS7) ?_
                clear hK K
                try simp only [Act.put, List.setIfInBounds_toArray, List.set_cons_zero, List.set_cons_succ]
                refine held_take (i := 8) (oi := { dst := some 55, op := Op.fieldAddr 37 (Operand.tmp 4) 1, type := 0, pos := "l5_robins.go:94", after := #[{ on := 0, ground := Ground.phase }, { on := 1, ground := Ground.phase }, { on := 2, ground := Ground.phase }, { on := 3, ground := Ground.phase }, { on := 4, ground := Ground.phase }, { on := 5, ground := Ground.phase }, { on := 6, ground := Ground.phase }, { on := 7, ground := Ground.phase }], guard := none }) (v := ?_) rfl (by kernel_rfl) (by kernel_rfl) (by kernel_rfl) (by kernel_rfl) (fun _ _ _ h => h) (Or.inl ⟨by rfl, ?_⟩) hS7 ?_
                rotate_left
                · (intro w9 hSw; (try dsimp only at hSw); go_simp; try with_reducible rfl)
                try simp only [Act.put, List.setIfInBounds_toArray, List.set_cons_zero, List.set_cons_succ]
                refine held_one (i := 9) (o := { dst := none, op := Op.store 35 (Operand.tmp 55) (Operand.tmp 54), type := 0, pos := "l5_robins.go:94", after := #[{ on := 8, ground := Ground.data }, { on := 7, ground := Ground.data }, { on := 7, ground := Ground.chain }, { on := 0, ground := Ground.phase }, { on := 1, ground := Ground.phase }, { on := 2, ground := Ground.phase }, { on := 3, ground := Ground.phase }, { on := 4, ground := Ground.phase }, { on := 5, ground := Ground.phase }, { on := 6, ground := Ground.phase }, { on := 7, ground := Ground.phase }], guard := none }) (by kernel_rfl) rfl (fun K hK => ?_)
                go_simp
                refine hK.out _ _ (.inl rfl) ?_
                clear hK K
                try simp only [Act.put, List.setIfInBounds_toArray, List.set_cons_zero, List.set_cons_succ]
                refine held_done (by kernel_rfl) ?_ _
                clear l0' l1' lf0' lf1'
                go_wp2
                go_roundw
                case rel =>
                  have hw7 := wl_below LV.out.wl T7.out
                  exact ⟨_, A7, c7, _, r ++ [addq q ⟨x, d, p :: ws⟩], ln_new LV.out T7.out O7.out (Nat.le_refl _) (wl_snoc (wl_head hw7).2 (h := ⟨x, d + q, some ⟨b1, off1, none⟩, n1, c1c⟩) (f := addq q ⟨x, d, p :: ws⟩) ⟨rfl, rfl, (wl_head hw7).1.pr, (wl_head hw7).1.cap, (wl_head hw7).1.few, (wl_head hw7).1.far⟩), rv_rot HB.out.rv HM0.out, by simp, (turned_rot HB.out.rv HM0.out HM2.out).symm.trans HB.out.t⟩
                case measure =>
                  have hw7 := wl_below LV.out.wl T7.out
                  have LN := ln_new LV.out T7.out O7.out (Nat.le_refl _) (wl_snoc (wl_head hw7).2 (h := ⟨x, d + q, some ⟨b1, off1, none⟩, n1, c1c⟩) (f := addq q ⟨x, d, p :: ws⟩) ⟨rfl, rfl, (wl_head hw7).1.pr, (wl_head hw7).1.cap, (wl_head hw7).1.few, (wl_head hw7).1.far⟩)
                  obtain ⟨g7, cap7, hv7, -, -⟩ := O7.out.form (by omega)
                  obtain rfl : A7 = some ⟨g7, 0, none⟩ := by injection hv7
                  rw [HN.out, lnM_eq LN]
                  exact need_rot HB.out.rv HM0.out
  case rest =>
    obtain ⟨m, Ao, co, hs, B⟩ := hcut
    obtain ⟨f, r, p, ws, N⟩ := nexted_is HV.out.1 HV.out.2
    rw [N.t.is] at B
    have hln := B.wl.1
    cases hs with
    | nil => simp at hln
    | cons h hr =>
      obtain ⟨hm, hmc, g, rfl⟩ := ln_form B
      have hm8 : m ≤ 8 := by have := rv_len N.t.rv; rw [← hln] at this; simp at this; omega
      have HB := Lib.hid B
      have HN := Lib.hid N
      have hwh := (wl_head B.wl).1
      obtain ⟨b, off, h', e1, -, hh, c0, c1', c2⟩ := hr_at (k := 0) (hr_own B.row) (by omega)
      obtain ⟨rfl, rfl⟩ : g = b ∧ 0 = off := by injection e1 with e1; injection e1 with a1 a2; exact ⟨a1, a2⟩
      obtain rfl : h = h' := by simpa using hh
      simp only [Nat.zero_mul, Nat.zero_add] at c0 c1' c2
      have hg : g < wc.heap.size := (B.row.lt g rfl).2
      obtain ⟨l0, l1, lf0, lf1⟩ := blk_two B.out
      have zM := blk_lt B.out
      obtain ⟨x, d, A1, n1, c1c⟩ := h
      obtain ⟨x', d', ws'⟩ := f
      obtain rfl : x = x' := hwh.peer
      obtain rfl : d = d' := hwh.dfc
      obtain rfl : ws' = p :: ws := HN.out.hw
      have hpr : PR wc A1 n1 (p :: ws) := hwh.pr
      have hl1 : n1 = ws.length + 1 := by have := hpr.1; simpa using this.symm
      have hn1 : n1 ≤ 4000000000 := hwh.few
      have hcc : n1 ≤ c1c := hwh.cap
      obtain ⟨b1, off1, A1', rfl, hA1, hA1b, hP1⟩ := tail_ofR hpr hcc
      obtain ⟨b1', off1', p', e2, hb1, hp', p0, p1, p2, p3⟩ := pr_at (k := 0) hpr (by omega)
      obtain ⟨rfl, rfl⟩ : b1 = b1' ∧ off1 = off1' := by injection e2 with e2; injection e2 with a1 a2; exact ⟨a1, a2⟩
      obtain rfl : p = p' := by simpa using hp'
      simp only [Nat.zero_mul, Nat.add_zero] at p0 p1 p2 p3
      obtain ⟨A2', hA2, hA2b, hP2⟩ := tail_ofF HB.out.row
      have hle := HN.out.le
      have s1 := HN.out.s1
      have s2 := HN.out.s2
      have hd1 := (rv_head HN.out.t.rv).1.d1
      simp only at c0 c1' c2 hle hd1
      have HL1 := Lib.hid hl1
      have HPR := Lib.hid hpr
      have y0 : IntKind.i64.wrap (d - p.size) = d - p.size := IntWalk.i64_in _ (by omega)
      have y1 : (0 : Int) < (n1 : Int) := by omega
      have y1' : (1 : Int) ≤ (n1 : Int) := by omega
      have y2 : (0 : Int) < (m : Int) := by omega
      have y3 : (1 : Int) ≤ (m : Int) := by omega
      have hm1 : 1 ≤ m := by omega
      have hco : 1 ≤ co := by omega
      have hn11 : 1 ≤ n1 := by omega
      have hc11 : 1 ≤ c1c := by omega
      have O3 := Lib.hid (own_emptyQ (W := (wc.alloc (.cells #[.int .i64 x, (.int .i64 (d - p.size)), (.slice (some ⟨b1, off1, none⟩) n1 c1c)] 82)).alloc (.cells #[.int .i64 p.peer, .int .i64 p.lane, .int .i64 p.size, .int .i64 p.id] 29)) (b := wc.heap.size + 2) (by simp))
      clear B hln hwh e1 hh hp' hpr hl1 hm e2 N
      go_upto_block 2 with (first
        | (at_builtin
           refine wpl_app_flws _ rfl (.tmp 76) (.tmp 79) rfl (w3.setCell ⟨wc.heap.size, 2, none⟩ (.slice A3 (n1 - 1) c3)).heap.size (.slice (some ⟨w3.heap.size, 0, none⟩) 0 0) 0 [] rfl (own_emptyF (W := w3.setCell ⟨wc.heap.size, 2, none⟩ (.slice A3 (n1 - 1) c3)) (b := w3.heap.size) (by simp)) (some A2') (m - 1) (co - 1) hr rfl (hP2.out _ (hr_own (ln_below HB.out (below_alloc T3.out _)).row)) (by omega) (by simp) ?_
           intro v4 w4 ho4 hg4 hat4
           simp only [List.nil_append, Nat.zero_add] at ho4
           obtain ⟨A4, c4, rfl, -, -, -⟩ := own_form ho4
           have T4 := Lib.hid (show Below (w3.setCell ⟨wc.heap.size, 2, none⟩ (.slice A3 (n1 - 1) c3)).heap.size (w3.setCell ⟨wc.heap.size, 2, none⟩ (.slice A3 (n1 - 1) c3)) w4 from app_belowG (own_emptyF (b := w3.heap.size) (by simp)) (below_alloc (Below.refl _ _) _) hg4 (by simp))
           have O4 := Lib.hid ho4
           clear hg4 hat4 ho4)
        | (at_builtin
           refine wpl_app_pkts _ rfl (.tmp 70) (.tmp 73) rfl ((wc.alloc (.cells #[.int .i64 x, (.int .i64 (d - p.size)), (.slice (some ⟨b1, off1, none⟩) n1 c1c)] 82)).alloc (.cells #[.int .i64 p.peer, .int .i64 p.lane, .int .i64 p.size, .int .i64 p.id] 29)).heap.size (.slice (some ⟨wc.heap.size + 2, 0, none⟩) 0 0) 0 [] rfl O3.out (some A1') (n1 - 1) (c1c - 1) ws rfl (hP1.out _ (pr_alloc (pr_alloc (pr_alloc HPR.out _) _) _)) (by omega) (by simp) ?_
           intro v3 w3 ho3 hg3 hat3
           simp only [List.nil_append, Nat.zero_add] at ho3
           obtain ⟨A3, c3, rfl, -, -, -⟩ := own_form ho3
           have T2 := Lib.hid (show Below ((wc.alloc (.cells #[.int .i64 x, (.int .i64 (d - p.size)), (.slice (some ⟨b1, off1, none⟩) n1 c1c)] 82)).alloc (.cells #[.int .i64 p.peer, .int .i64 p.lane, .int .i64 p.size, .int .i64 p.id] 29)).heap.size ((wc.alloc (.cells #[.int .i64 x, (.int .i64 (d - p.size)), (.slice (some ⟨b1, off1, none⟩) n1 c1c)] 82)).alloc (.cells #[.int .i64 p.peer, .int .i64 p.lane, .int .i64 p.size, .int .i64 p.id] 29)) w3 from app_belowQ O3.out (below_alloc (Below.refl _ _) _) hg3 (by simp))
           have z3 : wc.heap.size + 2 ≤ w3.heap.size := (by have := T2.out.size; simp at this; omega)
           have BF := Lib.hid (show Blk w3 wc.heap.size 82 #[.int .i64 x, (.int .i64 (d - p.size)), (.slice (some ⟨b1, off1, none⟩) n1 c1c)] from blk_below (blk_alloc (blk_new wc _ _) (.cells #[.int .i64 p.peer, .int .i64 p.lane, .int .i64 p.size, .int .i64 p.id] 29)) T2.out (by simp <;> omega))
           have BP := Lib.hid (show Blk w3 (wc.heap.size + 1) 29 #[.int .i64 p.peer, .int .i64 p.lane, .int .i64 p.size, .int .i64 p.id] from blk_below (blk_at (w := wc.alloc (.cells #[.int .i64 x, (.int .i64 (d - p.size)), (.slice (some ⟨b1, off1, none⟩) n1 c1c)] 82)) (by simp) _ _) T2.out (by simp <;> omega))
           have T3 := Lib.hid (show Below wc.heap.size wc (w3.setCell ⟨wc.heap.size, 2, none⟩ (.slice A3 (n1 - 1) c3)) from (below_seq2 (Below.refl _ _) T2.out).setCell (Nat.le_refl _) _)
           have O3' := Lib.hid (own_set_far (p := ⟨wc.heap.size, 2, none⟩) ho3 (by simp <;> omega) (.slice A3 (n1 - 1) c3))
           obtain ⟨⟨d0, d1, d2⟩, df0, df1, df2⟩ := blk_three BF.out
           have zF : wc.heap.size < w3.heap.size := (by omega)
           have hgM := (bcell (below_seq2 (Below.refl _ _) T2.out)).1
           have l1' := (hgM w1.heap.size 1 zM).trans l1
           have zM3 : w1.heap.size < w3.heap.size := (by omega)
           clear hg3 hat3 ho3 hgM))
      have SS : Hid (LnS w q A n c w1.heap.size g0 m (some ⟨g, 0, none⟩) co ⟨x, d, some ⟨b1, off1, none⟩, n1, c1c⟩ hr ⟨x, d, p :: ws⟩ r p ws wc.heap.size (d - p.size) A3 (n1 - 1) c3 A4 (m - 1) c4 w3.heap.size w4) := Lib.hid (by
        have hz4 := T4.out.size
        simp at hz4
        refine ⟨ln_below (ln_below HB.out T3.out) T4.out, blk_below (blk_set BF.out 2 _) T4.out (by simpa using zF), blk_below (blk_far BP.out (by simp) _) T4.out (by simp; omega), own_mono (own_below O3'.out T4.out) (by simp), own_mono O4.out (by simp), fun b e => by have := (O3'.out.lt b e).2; simpa using this, zM, fun b e => by obtain rfl : g = b := Option.some.inj e; exact hg, z3, hz4⟩)
      clear T2 BF BP T3 O3' d0 d1 d2 df0 df1 df2 T4 O4 l0 l1 lf0 lf1 l1' c0 c1' c2 p0 p1 p2 p3 hb1 zF z3 hA1 hA2 hP1 hP2 HPR O3 y0 hA1b hA2b
      have zl1 : w.heap.size + 1 < wc.heap.size + 1 := by have := HB.out.z; omega
      have zl2 : w.heap.size + 2 < wc.heap.size + 1 := by have := HB.out.z; omega
      have zk1 : w.heap.size + 1 < w1.heap.size := by have := HB.out.z; omega
      have zk2 : w.heap.size + 2 < w1.heap.size := by have := HB.out.z; omega
      go_cut [] from 81 to 105 (fun wx => LnE w q A n c w1.heap.size (nxL q fs) p (wc.heap.size + 1) wx)
      case first =>
        obtain ⟨l0, l1, lf0, lf1⟩ := blk_two SS.out.ln.out
        obtain ⟨⟨d0, d1, d2⟩, df0, df1, df2⟩ := blk_three SS.out.fb
        have zM4 := blk_lt SS.out.ln.out
        have zF4 := blk_lt SS.out.fb
        by_cases h0 : ws.length = 0
        · have hz : (((n1 - 1 : Nat) : Int) == 0) = true := by have := HL1.out; simp; omega
          have HE := Lib.hid (show nxL q fs = r by rw [HN.out.isL, if_pos h0])
          clear h0
          go_wp2_with fail
          go_meet
          case rel => rw [HE.out]; exact lnE_a SS.out (by omega)
        · have hz : (((n1 - 1 : Nat) : Int) == 0) = false := by have := HL1.out; simp; omega
          have HI := Lib.hid (show nxL q fs = if may (spend ⟨x, d, p :: ws⟩ p ws) = true then spend ⟨x, d, p :: ws⟩ p ws :: r else r ++ [spend ⟨x, d, p :: ws⟩ p ws] by rw [HN.out.isL, if_neg h0])
          have hpos : 0 < n1 - 1 := by have := HL1.out; omega
          obtain ⟨b3, off3, p4, e3, hb3, hp4, t0, t1, t2, t3⟩ := pr_at (k := 0) (pr_own SS.out.r3) hpos
          obtain rfl : A3 = some ⟨b3, off3, none⟩ := e3
          simp only [Nat.zero_mul, Nat.add_zero] at t0 t1 t2 t3
          have HMay : Hid (may (spend ⟨x, d, p :: ws⟩ p ws) = decide (p4.size ≤ d - p.size)) := Lib.hid (by
            cases ws with
            | nil => simp at hp4
            | cons a b =>
              obtain rfl : a = p4 := by simpa using hp4
              rfl)
          have y6 : (0 : Int) < ((n1 - 1 : Nat) : Int) := by omega
          clear h0 hp4
          by_cases hd : p4.size ≤ d - p.size
          · have hdb : decide (d - p.size < p4.size) = false := by simp; omega
            have HE : Hid (nxL q fs = spend ⟨x, d, p :: ws⟩ p ws :: r) := Lib.hid (by rw [HI.out, HMay.out, decide_eq_true hd]; rfl)
            obtain ⟨b, off, h', e1, -, hh, c0, c1', c2⟩ := hr_at (k := 0) (hr_own SS.out.ln.row) (by omega)
            obtain ⟨rfl, rfl⟩ : g = b ∧ 0 = off := by injection e1 with e1; injection e1 with a1 a2; exact ⟨a1, a2⟩
            obtain rfl : (⟨x, d, some ⟨b1, off1, none⟩, n1, c1c⟩ : Fh) = h' := by simpa using hh
            simp only [Nat.zero_mul, Nat.zero_add] at c0 c1' c2
            have zg := (SS.out.ln.row.lt g rfl).2
            have f0 := World.ownsRow.frozenAt SS.out.ln.row 0
            have f1 := World.ownsRow.frozenAt SS.out.ln.row 1
            have f2 := World.ownsRow.frozenAt SS.out.ln.row 2
            clear hd e1 hh
            go_wp2_with fail
            go_region
            go_wp2_with fail
            go_meet
            case rel => rw [HE.out]; have E := lnE_c (tkdrew SS.out) (by omega) (by omega) rfl; exact E
          · have hdb : decide (d - p.size < p4.size) = true := by simp; omega
            have HE : Hid (nxL q fs = r ++ [spend ⟨x, d, p :: ws⟩ p ws]) := Lib.hid (by rw [HI.out, HMay.out, decide_eq_false hd]; rfl)
            clear hd
            go_wp2_with fail
            go_region
            have SV := Lib.hid (tkdrew SS.out)
            clear SS l0 l1 lf0 lf1 d0 d1 d2 df0 df1 df2 zM4 zF4 t0 t1 t2 t3 hb3 hdb
            generalize w4.drew = V at SV ⊢
            obtain ⟨l0, l1, lf0, lf1⟩ := blk_two SV.out.ln.out
            obtain ⟨⟨d0, d1, d2⟩, df0, df1, df2⟩ := blk_three SV.out.fb
            have zM4 := blk_lt SV.out.ln.out
            have zF4 := blk_lt SV.out.fb
            have z34 := SV.out.s4V
            go_wp2_with (at_builtin
                         refine wpl_app_flws _ rfl (.tmp 101) (.tmp 103) rfl w3.heap.size (.slice A4 (m - 1) c4) (m - 1) hr rfl (SV.out.r4.alloc _) (some ⟨V.heap.size, 0, none⟩) 1 1 [⟨x, d - p.size, some ⟨b3, off3, none⟩, n1 - 1, c3⟩] rfl (hr_single (blk_at rfl _ _)) (by omega) (by simp; omega) ?_
                         intro v5 w5 ho5 hg5 hat5
                         rw [show m - 1 + 1 = m by omega] at ho5
                         obtain ⟨A5, c5, rfl, -, -, -⟩ := own_form ho5
                         have E5 := Lib.hid (lnE_b SV.out (by omega) (by omega) rfl _ ho5 hg5)
                         have T5 := Lib.hid (blk_grownQ (blk_alloc SV.out.ln.out _) hg5 (fun e => by have := SV.out.mb; have := SV.out.b64; have := (SV.out.r4.lt _ e.symm).1; omega))
                         obtain ⟨m0, m1, mf0, mf1⟩ := blk_two T5.out
                         clear ho5 hg5 hat5 l0 l1 lf0 lf1 d0 d1 d2 df0 df1 df2)
            go_meet
            case rel => rw [HE.out]; exact E5.out
      case rest =>
        obtain ⟨A5, n5, c5, hs5, hY, hO, hF, hP⟩ := hcut
        have X := Lib.hid hY
        have FF := Lib.hid hF
        obtain ⟨l0, l1, -, -⟩ := blk_two hO
        obtain ⟨o0, o1, of0, of1⟩ := blk_two (fm_blk hF 1 rfl)
        obtain ⟨⟨k0, k1, k2, k3⟩, kf0, kf1, kf2, kf3⟩ := blk_fourR (fm_blk hF 2 rfl)
        obtain ⟨⟨p0, p1, p2, p3⟩, -⟩ := blk_fourR hP
        have zb1 := blk_lt (fm_blk hF 1 rfl)
        have zb2 := blk_lt (fm_blk hF 2 rfl)
        have zM5 := blk_lt hO
        have zP5 := blk_lt hP
        clear hY hO hF hP SS
        go_wp2_with fail
        go_region
        all_goals
          go_wp2
          refine bodyPost_ret (v := .tuple #[.agg #[.int .i64 q, (.slice A5 n5 c5)], .agg #[.int .i64 p.peer, .int .i64 p.lane, .int .i64 p.size, .int .i64 p.id]]) (by simp [results, Try.results94, go_sem, o0, o1, k0, k1, k2, k3]) rfl ⟨_, _, _, by rw [HN.out.isP], ?_, ?_⟩
          · refine frx_mono (fy_fr (lo := w.heap.size + 3) (hs := hs5) ?_) (fun b hb => .inr (by omega))
            refine fy_drew ?_
            iterate 6 (with_reducible refine fy_set ?_ (by simp <;> omega) _)
            exact X.out
          · refine Below.drew ?_
            iterate 6 (with_reducible refine Below.setCell ?_ (by simp <;> omega) _)
            exact FF.out.below
end Go.Proofs.Ytkmoiphcpmhacaa
namespace Go.Proofs.Ytkmoiphcpmhacaa
open Go.RowKit

theorem rv_dec (q : Int) (fs : List Flw) : RV q fs ∨ rvB q fs = false := by
  rcases h : rvB q fs with _ | _
  · exact .inr rfl
  · exact .inl (rv_iff.1 h)
def NxOk (q : Int) (fs : List Flw) : Prop := RV q fs ∧ fs ≠ []
/-- what NextPacket hands back when there is nothing to take -/
def NpNo (w : World) (e : Ending) (w' : World) : Prop := e = .returned (.tuple #[.agg #[.int .i64 0, (.slice none 0 0)], .agg #[.int .i64 0, .int .i64 0, .int .i64 0, .int .i64 0], .bool false]) ∧ Below w.heap.size w w'
def NpYes (w : World) (q : Int) (fs : List Flw) (e : Ending) (w' : World) : Prop :=
  ∃ A n c hs, e = .returned (.tuple #[.agg #[.int .i64 q, (.slice A n c)], .agg #[.int .i64 (nxP q fs).peer, .int .i64 (nxP q fs).lane, .int .i64 (nxP q fs).size, .int .i64 (nxP q fs).id], .bool true]) ∧ DO w' w.heap.size (.slice A n c) n hs (nxL q fs) ∧ Below w.heap.size w w'
def NpYesS (w : World) (q : Int) (fs : List Flw) (e : Ending) (w' : World) : Prop :=
  ∃ A n c, e = .returned (.tuple #[.agg #[.int .i64 q, (.slice A n c)], .agg #[.int .i64 (nxP q fs).peer, .int .i64 (nxP q fs).lane, .int .i64 (nxP q fs).size, .int .i64 (nxP q fs).id], .bool true]) ∧ FR w' A n (nxL q fs) ∧ Below w.heap.size w w'
set_option maxHeartbeats 2000000 in
theorem npI_no (q : Int) (A : Option Addr) (n c : Nat) (fs : List Flw) (w : World) (h : FR w A n fs) (hk : ¬ NxOk q fs) :
    Calls Try.prog 20 #[.agg #[.int .i64 q, (.slice A n c)]] w (NpNo w) := by
  have H := Lib.hid h
  have HL := Lib.hid (fr_lenF h)
  have F := Lib.hid (show Fm w (bx3 w q A n c) _ from fm_three w 37 37 29 #[.int .i64 q, (.slice A n c)] #[.int .i64 0, (.slice none 0 0)] #[.int .i64 0, .int .i64 0, .int .i64 0, .int .i64 0])
  clear h
  rcases hr : rvB q fs with _ | _
  · have HR := Lib.hid hr
    clear hr hk
    go_enter Try.func20, Try.ntmps20
    go_wp2_with (go_at_call 57
                 refine (rvI_any q A n c fs _ (fr_belowF H.out F.out.below)).mono ?_
                 rintro e w1 ⟨rfl, hb1⟩
                 rw [HR.out]
                 have F1 := Lib.hid (fm_below F.out hb1)
                 obtain ⟨o0, o1, of0, of1⟩ := blk_two (fm_blk F1.out 1 rfl)
                 obtain ⟨⟨k0, k1, k2, k3⟩, kf0, kf1, kf2, kf3⟩ := blk_fourR (fm_blk F1.out 2 rfl)
                 clear hb1)
    refine bodyPost_ret (v := .tuple #[.agg #[.int .i64 0, (.slice none 0 0)], .agg #[.int .i64 0, .int .i64 0, .int .i64 0, .int .i64 0], .bool false]) (by simp [results, Try.results20, go_sem, o0, o1, k0, k1, k2, k3]) rfl ⟨rfl, ?_⟩
    iterate 6 (with_reducible refine Below.setCell ?_ (by simp <;> omega) _)
    exact F1.out.below
  · have h0 : n = 0 := by
      have : fs = [] := Classical.byContradiction fun h => hk ⟨rv_iff.1 hr, h⟩
      have := HL.out.1
      simp_all
    subst h0
    have HR := Lib.hid hr
    clear hr hk
    go_enter Try.func20, Try.ntmps20
    go_wp2_with (go_at_call 57
                 refine (rvI_any q A 0 c fs _ (fr_belowF H.out F.out.below)).mono ?_
                 rintro e w1 ⟨rfl, hb1⟩
                 rw [HR.out]
                 have F1 := Lib.hid (fm_below F.out hb1)
                 obtain ⟨g0, g1, -⟩ := blk_two (fm_blk F1.out 0 rfl)
                 obtain ⟨o0, o1, of0, of1⟩ := blk_two (fm_blk F1.out 1 rfl)
                 obtain ⟨⟨k0, k1, k2, k3⟩, kf0, kf1, kf2, kf3⟩ := blk_fourR (fm_blk F1.out 2 rfl)
                 clear hb1)
    refine bodyPost_ret (v := .tuple #[.agg #[.int .i64 0, (.slice none 0 0)], .agg #[.int .i64 0, .int .i64 0, .int .i64 0, .int .i64 0], .bool false]) (by simp [results, Try.results20, go_sem, o0, o1, k0, k1, k2, k3]) rfl ⟨rfl, ?_⟩
    iterate 6 (with_reducible refine Below.setCell ?_ (by simp <;> omega) _)
    exact F1.out.below
set_option maxHeartbeats 2000000 in
theorem npI_yes (q : Int) (A : Option Addr) (n c : Nat) (fs : List Flw) (w : World) (h : FR w A n fs) (hk : NxOk q fs) :
    Calls Try.prog 20 #[.agg #[.int .i64 q, (.slice A n c)]] w (NpYes w q fs) := by
  have H := Lib.hid h
  have hl := (fr_lenF h).1
  have F := Lib.hid (show Fm w (bx3 w q A n c) _ from fm_three w 37 37 29 #[.int .i64 q, (.slice A n c)] #[.int .i64 0, (.slice none 0 0)] #[.int .i64 0, .int .i64 0, .int .i64 0, .int .i64 0])
  have hnz : ((n : Int) == 0) = false := by
    have : 0 < fs.length := by
      rcases Nat.eq_zero_or_pos fs.length with e | e
      · exact absurd (List.eq_nil_of_length_eq_zero e) hk.2
      · exact e
    simp; omega
  have HK := Lib.hid hk
  have HR := Lib.hid (rv_yes hk.1)
  obtain ⟨P, hP⟩ : ∃ P, P = nxP q fs := ⟨_, rfl⟩
  have HP := Lib.hid hP
  clear h hl hk hP
  go_enter Try.func20, Try.ntmps20
  go_wp2_with (first
    | (go_at_call 57
       refine (rvI_any q A n c fs _ (fr_belowF H.out F.out.below)).mono ?_
       rintro e w1 ⟨rfl, hb1⟩
       rw [HR.out]
       have F1 := Lib.hid (fm_below F.out hb1)
       obtain ⟨g0, g1, -⟩ := blk_two (fm_blk F1.out 0 rfl)
       clear hb1)
    | (go_at_call 58
       refine (takeI_any (fun b => b < w.heap.size) q A n c fs _ (frx_below (fr_frx H.out) F1.out.below) (fun b hb => by have := F1.out.below.size; omega) HK.out.1 HK.out.2).mono ?_
       rintro e w2 ⟨A2, n2, c2, rfl, hf2, hb2⟩
       rw [← HP.out]
       have F2 := Lib.hid (fm_below F1.out hb2)
       have R2 := Lib.hid (frx_fr hf2)
       clear hb2 hf2 g0 g1))
  have F3 := Lib.hid (fm_below F2.out (below_alloc (below_alloc (Below.refl _ _) (.cells #[.int .i64 q, (.slice A2 n2 c2)] 37)) (.cells #[.int .i64 P.peer, .int .i64 P.lane, .int .i64 P.size, .int .i64 P.id] 29)).drew)
  have B5 := Lib.hid (show Blk ((w2.alloc (.cells #[.int .i64 q, (.slice A2 n2 c2)] 37)).alloc (.cells #[.int .i64 P.peer, .int .i64 P.lane, .int .i64 P.size, .int .i64 P.id] 29)).drew (w2.heap.size + 1) 29 #[.int .i64 P.peer, .int .i64 P.lane, .int .i64 P.size, .int .i64 P.id] from blk_at (w := w2.alloc (.cells #[.int .i64 q, (.slice A2 n2 c2)] 37)) (by simp) _ _)
  obtain ⟨⟨p0, p1, p2, p3⟩, -⟩ := blk_fourR B5.out
  have zf := F2.out.below.size
  go_region_with (go_at_call 59
                  refine (copyRI_any q A2 n2 c2 _ _ (fr_drewF (fr_allocF (fr_allocF R2.out _) _))).mono ?_
                  rintro e w4 ⟨A4, n4, c4, hs4, rfl, -, -, -, hD, hb4⟩
                  have D4 := Lib.hid hD
                  have F4 := Lib.hid (fm_below F3.out hb4)
                  obtain ⟨⟨p0, p1, p2, p3⟩, -⟩ := blk_fourR (blk_below B5.out hb4 (by simp))
                  obtain ⟨o0, o1, of0, of1⟩ := blk_two (fm_blk F4.out 1 rfl)
                  obtain ⟨⟨k0, k1, k2, k3⟩, kf0, kf1, kf2, kf3⟩ := blk_fourR (fm_blk F4.out 2 rfl)
                  have zl := hb4.size
                  simp at zl
                  have zl1 : w.heap.size + 1 < w2.heap.size + 1 := (by have := blk_lt (fm_blk F2.out 1 rfl); omega)
                  have zl2 : w.heap.size + 2 < w2.heap.size + 1 := (by have := blk_lt (fm_blk F2.out 2 rfl); omega)
                  clear hb4 hD)
  all_goals
    have zm : w.heap.size + 3 ≤ w2.heap.size := by have := blk_lt (fm_blk F2.out 2 rfl); omega
    go_wp2
    refine bodyPost_ret (v := .tuple #[.agg #[.int .i64 q, (.slice A4 n4 c4)], .agg #[.int .i64 P.peer, .int .i64 P.lane, .int .i64 P.size, .int .i64 P.id], .bool true]) (by simp [results, Try.results20, go_sem, o0, o1, k0, k1, k2, k3]) rfl ⟨A4, n4, c4, hs4, by rw [HP.out], ?_, ?_⟩
    · refine do_mono (lo := w2.heap.size + 2) ?_ (by omega)
      iterate 6 (with_reducible refine do_far ?_ (by simp <;> omega) _)
      exact do_mono D4.out (by simp)
    · iterate 6 (with_reducible refine Below.setCell ?_ (by simp <;> omega) _)
      exact F4.out.below
end Go.Proofs.Ytkmoiphcpmhacaa
