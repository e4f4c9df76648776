/-
  Chapter 5: turns: what the program's moveBehind and beginTurns leave in the flows' memory. Conditions: a robin has at most 4000000000 flows.
-/
import Derived.Test.YtehokkijfgiggaaR4
import Derived.Laws.IdiomCopy
namespace Go.Proofs.Ytehokkijfgiggaa
open Go.RowKit

def setLs (xs : List Value) : Nat → List Value → List Value
  | _, [] => xs
  | o, v :: r => setLs (xs.set o v) (o + 1) r
theorem setLs_get (vs : List Value) : ∀ (xs : List Value) (o j : Nat), o + vs.length ≤ xs.length → (setLs xs o vs)[j]? = if o ≤ j ∧ j < o + vs.length then vs[j - o]? else xs[j]? := by
  induction vs with
  | nil =>
    intro xs o j _
    rw [if_neg (by simp only [List.length_nil]; omega)]
    rfl
  | cons v r ih =>
    intro xs o j h
    simp only [List.length_cons] at h
    simp only [setLs]
    rw [ih _ _ _ (by simp; omega)]
    by_cases h1 : o + 1 ≤ j ∧ j < o + 1 + r.length
    · rw [if_pos h1, if_pos (by simp; omega), show j - o = j - (o + 1) + 1 by omega, List.getElem?_cons_succ]
    · rw [if_neg h1]
      by_cases h2 : j = o
      · subst h2
        rw [if_pos (by simp), List.getElem?_set_self (by omega), Nat.sub_self]
        rfl
      · rw [if_neg (by simp; omega), List.getElem?_set_ne (by omega)]
theorem own_setCells {base e size g n c : Nat} (vs : List Value) : ∀ {w : World} {xs : List Value} (o : Nat), w.ownsRow base e size (.slice (some ⟨g, 0, none⟩) n c) n xs → (w.setCells g o vs).ownsRow base e size (.slice (some ⟨g, 0, none⟩) n c) n (setLs xs o vs) := by
  induction vs with
  | nil => intro w xs o h; exact h
  | cons v r ih => intro w xs o h; exact ih (o + 1) (h.stored o v).1
theorem grown_setCellsR {g : Nat} (vs : List Value) : ∀ {a w : World} (o : Nat), a.grownBy w (some g) → a.grownBy (w.setCells g o vs) (some g) := by
  induction vs with
  | nil => intro a w o h; exact h
  | cons v r ih => intro a w o h; exact ih (o + 1) (g_set h (.inl rfl) v)
theorem moved_cells (h : Fh) (r : List Fh) : setLs (fcells (h :: r)) 0 (fcells r) = fcells (r ++ (h :: r).drop r.length) := by
  have hl : (fcells (h :: r)).length = (r.length + 1) * 3 := by rw [fcells_len]; rfl
  have hr : (fcells r).length = r.length * 3 := fcells_len r
  have ht : fcells (h :: r) = fcells ((h :: r).take r.length) ++ fcells ((h :: r).drop r.length) := by rw [← fcells_append, List.take_append_drop]
  have htl : (fcells ((h :: r).take r.length)).length = r.length * 3 := by rw [fcells_len, List.length_take]; simp
  apply List.ext_getElem?
  intro j
  rw [setLs_get _ _ _ _ (by omega), fcells_append]
  by_cases hj : j < r.length * 3
  · rw [if_pos (by omega), List.getElem?_append_left (by omega)]
    rfl
  · rw [if_neg (by omega), List.getElem?_append_right (by omega), ht, List.getElem?_append_right (by omega), htl, hr]
theorem moved_last (h : Fh) (r : List Fh) : (r ++ (h :: r).drop r.length).set r.length h = r ++ [h] := by
  have hd : ∃ z, (h :: r).drop r.length = [z] := by
    have hl : ((h :: r).drop r.length).length = 1 := by rw [List.length_drop]; simp
    match hz : (h :: r).drop r.length, hl with
    | [z], _ => exact ⟨z, rfl⟩
  obtain ⟨z, hz⟩ := hd
  rw [hz]
  apply List.ext_getElem?
  intro j
  by_cases hj : r.length = j
  · subst hj
    rw [List.getElem?_set_self (by simp), List.getElem?_append_right (Nat.le_refl _)]
    simp
  · rw [List.getElem?_set_ne hj]
    rcases Nat.lt_or_ge j r.length with hlt | hge
    · rw [List.getElem?_append_left hlt, List.getElem?_append_left hlt]
    · rw [List.getElem?_eq_none (by simp; omega), List.getElem?_eq_none (by simp; omega)]
theorem run_copy_sized {P : Program} (w : World) (dT sT ty elem : TypeId) (s b o dLen dCap : Nat) (a : Addr) (sLen sCap : Nat) (cs : List Value)
    (hu : P.underlying dT = some (.slice elem)) (hs : (P.info? elem).map (·.size) = some s) (hn : cs.length = Nat.min sLen dLen * s)
    (hsrc : ∀ j v, cs[j]? = some v → w.cell? (a.add j) = some v) (hc : ∀ j, j < cs.length → (w.cell? ⟨b, o + j, none⟩).isSome = true) (hf : ∀ j, j < cs.length → w.frozen? ⟨b, o + j, none⟩ = false) (h1 : ∀ v ∈ cs, v.oneCell' = true) :
    (Builtin.copy_ #[dT, sT] ty #[.slice (some ⟨b, o, none⟩) dLen dCap, .slice (some a) sLen sCap]).run P w = .ok (goInt (Nat.min sLen dLen)) (w.setCells b o cs) := by
  have hl := run_loadCells_list (P := P) w a cs hsrc
  have hst := run_storeCells_cells (P := P) b o cs 0 w (by simpa using hc) (by simpa using hf) h1
  cases hq : P.info? elem with
  | none => simp [hq] at hs
  | some i =>
    have hi : i.size = s := by simpa [hq] using hs
    simp [Builtin.copy_, run_underlying hu, Builtin.lenOf, Builtin.firstCells, sizeOf, typeInfo, hq, hi, ← hn, hl, hst]
def MvPost (w : World) (lo g n c : Nat) (hs : List Fh) (e : Ending) (w' : World) : Prop :=
  e = .returned (.tuple #[]) ∧ w'.ownsRow lo 40 3 (.slice (some ⟨g, 0, none⟩) n c) n (fcells hs) ∧ w.grownBy w' (some g)
set_option maxHeartbeats 1000000 in
theorem moveI_any (lo g n c : Nat) (h : Fh) (r : List Fh) (w : World) (ho : w.ownsRow lo 40 3 (.slice (some ⟨g, 0, none⟩) n c) n (fcells (h :: r))) (hn : n ≤ 4000000000) :
    Calls Try.prog 80 #[.slice (some ⟨g, 0, none⟩) n c] w (MvPost w lo g n c (r ++ [h])) := by
  have hl : n = r.length + 1 := by have := ho.1; rw [fcells_len] at this; simp at this; omega
  obtain ⟨A', c', hv, hnc, hcm, -⟩ := own_form ho
  obtain rfl : c = c' := by injection hv
  have hg : g < w.heap.size := (ho.lt g rfl).2
  obtain ⟨b, off, h', e1, -, hh, c0, c1, c2⟩ := hr_at (k := 0) (hr_own ho) (by omega)
  obtain ⟨rfl, rfl⟩ : g = b ∧ 0 = off := by injection e1 with e1; injection e1 with a1 a2; exact ⟨a1, a2⟩
  obtain rfl : h = h' := by simpa using hh
  simp only [Nat.zero_mul, Nat.zero_add] at c0 c1 c2
  have hN := Lib.hid hl
  have OA := Lib.hid (ho.alloc (.cells #[.int .i64 h.peer, .int .i64 h.dfc, (.slice h.A h.n h.c)] 40))
  obtain ⟨W1, hW1⟩ : ∃ W1, W1 = (w.alloc (.cells #[.int .i64 h.peer, .int .i64 h.dfc, (.slice h.A h.n h.c)] 40)).setCells g 0 (fcells r) := ⟨_, rfl⟩
  have O1 : Hid (W1.ownsRow lo 40 3 (.slice (some ⟨g, 0, none⟩) n c) n (fcells (r ++ (h :: r).drop r.length))) := Lib.hid (by rw [hW1, ← moved_cells]; exact own_setCells _ 0 OA.out)
  have G1 : Hid (w.grownBy W1 (some g)) := Lib.hid (by rw [hW1]; exact grown_setCellsR _ 0 (g_alloc (g_refl w _) _))
  have hcell : ∀ t, t < n * 3 → (w.alloc (.cells #[.int .i64 h.peer, .int .i64 h.dfc, (.slice h.A h.n h.c)] 40)).cell? ⟨g, t, none⟩ = (fcells (h :: r))[t]? := fun t ht => OA.out.cellAt t ht
  obtain ⟨A1, hA, hrun⟩ : ∃ A1 : Addr, (if c = 1 then some (⟨g, 0, none⟩ : Addr) else some ⟨g, 3, none⟩) = some A1 ∧ ∀ ty, (Builtin.copy_ #[23, 23] ty #[.slice (some ⟨g, 0, none⟩) n c, .slice (some A1) (n - 1) (c - 1)]).run Try.prog (w.alloc (.cells #[.int .i64 h.peer, .int .i64 h.dfc, (.slice h.A h.n h.c)] 40)) = .ok (goInt (Nat.min (n - 1) n)) W1 := by
    obtain ⟨i0, hi, hz0, hz1, hz2⟩ := info_parts infoFlw
    have hlen : (fcells r).length = Nat.min (n - 1) n * 3 := by rw [fcells_len, show Nat.min (n - 1) n = n - 1 from Nat.min_eq_left (by omega)]; rw [show r.length = n - 1 by omega]
    have hmin : Nat.min (n - 1) n = n - 1 := Nat.min_eq_left (by omega)
    have run : ∀ A1 : Addr, (∀ j v, (fcells r)[j]? = some v → (w.alloc (.cells #[.int .i64 h.peer, .int .i64 h.dfc, (.slice h.A h.n h.c)] 40)).cell? (A1.add j) = some v) → ∀ ty, (Builtin.copy_ #[23, 23] ty #[.slice (some ⟨g, 0, none⟩) n c, .slice (some A1) (n - 1) (c - 1)]).run Try.prog (w.alloc (.cells #[.int .i64 h.peer, .int .i64 h.dfc, (.slice h.A h.n h.c)] 40)) = .ok (goInt (Nat.min (n - 1) n)) W1 := by
      intro A1 hsrc ty
      rw [hW1]
      refine run_copy_sized _ _ _ ty 40 3 g 0 n c A1 (n - 1) (c - 1) (fcells r) Try.underlying23 (by simp [hi, hz1]) hlen hsrc (fun j hj => ?_) (fun j _ => by rw [Nat.zero_add]; exact OA.out.frozenAt j) (fcells_one r)
      rw [Nat.zero_add, hcell j (by rw [hlen, hmin] at hj; omega), List.getElem?_eq_getElem (by rw [fcells_len]; rw [hlen, hmin] at hj; simp; omega)]
      rfl
    by_cases hc1 : c = 1
    · refine ⟨_, if_pos hc1, run _ fun j v hj => ?_⟩
      have : r = [] := List.eq_nil_of_length_eq_zero (by omega)
      subst this
      simp [fcells] at hj
    · refine ⟨_, if_neg hc1, run _ fun j v hj => ?_⟩
      have hj3 : j < r.length * 3 := by
        rcases Nat.lt_or_ge j (fcells r).length with h | h
        · rw [fcells_len] at h; exact h
        · rw [List.getElem?_eq_none h] at hj; cases hj
      have ha : (⟨g, 3, none⟩ : Addr).add j = ⟨g, 3 + j, none⟩ := by unfold Addr.add; split <;> simp_all
      rw [ha, hcell _ (by omega), show fcells (h :: r) = [.int .i64 h.peer, .int .i64 h.dfc, .slice h.A h.n h.c] ++ fcells r from rfl, List.getElem?_append_right (by simp)]
      rw [← hj, show 3 + j - ([.int .i64 h.peer, .int .i64 h.dfc, .slice h.A h.n h.c] : List Value).length = j from by simp]
  have D : Hid (Blk W1 w.heap.size 40 #[.int .i64 h.peer, .int .i64 h.dfc, (.slice h.A h.n h.c)]) := Lib.hid (by
    rw [hW1]
    exact blk_grownQ (blk_new w _ _) (grown_setCellsR _ 0 (g_refl _ (some g))) (fun e => by injection e with e; omega))
  have E : Hid (∀ i, i < 3 → (W1.cell? ⟨g, (n - 1) * 3 + i, none⟩).isSome = true) := Lib.hid (fun i hi => by
    rw [O1.out.cellAt _ (by omega), List.getElem?_eq_getElem (by rw [O1.out.1]; omega)]; rfl)
  have f0 := World.ownsRow.frozenAt O1.out ((n - 1) * 3)
  have f1 := World.ownsRow.frozenAt O1.out ((n - 1) * 3 + 1)
  have f2 := World.ownsRow.frozenAt O1.out ((n - 1) * 3 + 2)
  obtain ⟨v0, e0⟩ := Option.isSome_iff_exists.1 (E.out 0 (by omega))
  obtain ⟨v1, e1'⟩ := Option.isSome_iff_exists.1 (E.out 1 (by omega))
  obtain ⟨v2, e2⟩ := Option.isSome_iff_exists.1 (E.out 2 (by omega))
  rw [Nat.add_zero] at e0
  obtain ⟨⟨d0, d1, d2⟩, -⟩ := blk_three D.out
  have y1 : (1 : Int) ≤ (n : Int) := by omega
  have y2 : (0 : Int) < (n : Int) := by omega
  have y3 : 1 ≤ n := by omega
  have y4 : 1 ≤ c := by omega
  clear e1 hh hv hcm hl ho hcell hW1
  go_enter Try.func80, Try.ntmps80
  go_wp2_with fail
  refine bodyPost_ret (v := .tuple #[]) (by simp [results, Try.results80, go_sem]) rfl ⟨rfl, ?_, ?_⟩
  · have h1 := (O1.out.stored ((n - 1) * 3) (.int .i64 h.peer)).1
    have h2 := (h1.stored ((n - 1) * 3 + 1) (.int .i64 h.dfc)).1
    have h3 := (h2.stored ((n - 1) * 3 + 2) (.slice h.A h.n h.c)).1
    rw [fcells_set, show n - 1 = r.length by have := hN.out; omega, moved_last] at h3
    rw [show n - 1 = r.length by have := hN.out; omega]
    exact h3
  · exact g_set (g_set (g_set G1.out (.inl rfl) _) (.inl rfl) _) (.inl rfl) _
def needW (g : Nat) (wr : World) : Nat → Nat
  | 0 => 0
  | k + 1 => needW g wr k + (match wr.cell? ⟨g, k * 3 + 1, none⟩ with
    | some (.int _ d) => (100 - d).toNat
    | _ => 0)
theorem needW_eq {wr : World} {lo g n c : Nat} {X : Nat → Prop} {hs : List Fh} {fs : List Flw} (ho : wr.ownsRow lo 40 3 (.slice (some ⟨g, 0, none⟩) n c) n (fcells hs)) (hw : WL wr X hs fs) : needW g wr n = need fs := by
  have hl : fs.length = n := by have := ho.1; rw [fcells_len, hw.1] at this; omega
  have key : ∀ k, k ≤ n → needW g wr k = need (fs.take k) := by
    intro k
    induction k with
    | zero => intro _; simp [needW, need]
    | succ k ih =>
      intro hk
      obtain ⟨b, off, h, e1, -, hh, -, c1, -⟩ := hr_at (k := k) (hr_own ho) (by omega)
      obtain ⟨rfl, rfl⟩ : g = b ∧ 0 = off := by injection e1 with e1; injection e1 with a1 a2; exact ⟨a1, a2⟩
      obtain ⟨f, hf, hwh⟩ := wl_get hw hh
      rw [Nat.zero_add] at c1
      simp only [needW, c1, ih (by omega)]
      rw [List.take_add_one, hf, need_append, hwh.dfc]
      simp [need]
  rw [key n (Nat.le_refl _), List.take_of_length_le (by omega)]
theorem need_add {q : Int} {f : Flw} {r : List Flw} (h : RV q (f :: r)) (hm : may f = false) : need (addq q f :: r) < need (f :: r) := by
  have := need_rot h hm
  rw [need_append] at this
  simp only [need] at this ⊢
  omega
structure BtR (w : World) (lo g n c : Nat) (q : Int) (X : Nat → Prop) (T : List Flw) (hs : List Fh) (fs : List Flw) (wr : World) : Prop where
  rv : RV q fs
  ne : fs ≠ []
  t : turned q fs = T
  row : wr.ownsRow lo 40 3 (.slice (some ⟨g, 0, none⟩) n c) n (fcells hs)
  wl : WL wr X hs fs
  gr : w.grownBy wr (some g)
def BtPost (w : World) (lo g n c : Nat) (X : Nat → Prop) (T : List Flw) (e : Ending) (w' : World) : Prop :=
  e = .returned (.tuple #[]) ∧ ∃ hs, w'.ownsRow lo 40 3 (.slice (some ⟨g, 0, none⟩) n c) n (fcells hs) ∧ WL w' X hs T ∧ w.grownBy w' (some g)
theorem bt_below {w w1 w2 : World} {lo g n c : Nat} {q : Int} {X : Nat → Prop} {T : List Flw} {hs : List Fh} {fs : List Flw} (h : BtR w lo g n c q X T hs fs w1) (hb : Below w1.heap.size w1 w2) : BtR w lo g n c q X T hs fs w2 :=
  ⟨h.rv, h.ne, h.t, own_below h.row hb, wl_below h.wl hb, g_below h.gr hb⟩
/-- the first flow's deficit grows -/
theorem bt_add {w w1 : World} {lo g n c : Nat} {q : Int} {X : Nat → Prop} {T : List Flw} {h : Fh} {hs : List Fh} {f : Flw} {fs : List Flw} (B : BtR w lo g n c q X T (h :: hs) (f :: fs) w1) (hX : ∀ b, X b → b ≠ g) (d : Int) (hd : d = f.dfc + q) :
    (w1.setCell ⟨g, 1, none⟩ (.int .i64 d)).ownsRow lo 40 3 (.slice (some ⟨g, 0, none⟩) n c) n (fcells (⟨h.peer, d, h.A, h.n, h.c⟩ :: hs)) ∧ WL (w1.setCell ⟨g, 1, none⟩ (.int .i64 d)) X (⟨h.peer, d, h.A, h.n, h.c⟩ :: hs) (addq q f :: fs) ∧ w.grownBy (w1.setCell ⟨g, 1, none⟩ (.int .i64 d)) (some g) := by
  have e := wl_grown B.wl (g_set (g_refl w1 (some g)) (p := ⟨g, 1, none⟩) (.inl rfl) (.int .i64 d)) fun b hb e => hX b hb (by injection e)
  have hw := wl_head e
  exact ⟨(B.row.stored 1 (.int .i64 d)).1, wl_cons hw.2 ⟨hw.1.peer, hd, hw.1.pr, hw.1.cap, hw.1.few, hw.1.far⟩, g_set B.gr (.inl rfl) _⟩
set_option maxHeartbeats 2000000 in
theorem begI_any (lo g n c : Nat) (q : Int) (X : Nat → Prop) (hs : List Fh) (fs : List Flw) (w : World) (ho : w.ownsRow lo 40 3 (.slice (some ⟨g, 0, none⟩) n c) n (fcells hs)) (hw : WL w X hs fs) (hX : ∀ b, X b → b ≠ g) (hv : RV q fs) (h0 : fs ≠ []) (hn : n ≤ 4000000000) :
    Calls Try.prog 78 #[.slice (some ⟨g, 0, none⟩) n c, .int .i64 q] w (BtPost w lo g n c X (turned q fs)) := by
  obtain ⟨T, hT⟩ : ∃ T, turned q fs = T := ⟨_, rfl⟩
  rw [hT]
  have hl : fs.length = n := by have := ho.1; rw [fcells_len, hw.1] at this; omega
  have hn0 : 0 < n := by
    rcases Nat.eq_zero_or_pos n with e | e
    · exact absurd (List.eq_nil_of_length_eq_zero (by omega)) h0
    · exact e
  have q0 := hv.q0
  have q1 := hv.q1
  have R0 : Hid (∃ hs fs, BtR w lo g n c q X T hs fs w) := Lib.hid ⟨hs, fs, hv, h0, hT, ho, hw, g_refl _ _⟩
  have HX := Lib.hid hX
  have y1 : (0 : Int) < (n : Int) := by omega
  clear ho hw hX hv h0 hT hl
  go_enter Try.func78, Try.ntmps78
  go_wp2
  go_loopw [] (fun wr => ∃ hs fs, BtR w lo g n c q X T hs fs wr) (fun wr => needW g wr n)
  case atStart => exact R0.out
  case round =>
    obtain ⟨hs1, fs1, B⟩ := hrel
    clear R0
    have hlen := B.wl.1
    cases fs1 with
    | nil => exact absurd rfl B.ne
    | cons f r =>
      cases hs1 with
      | nil => simp at hlen
      | cons h hr =>
        have HB := Lib.hid B
        have hwh := (wl_head B.wl).1
        obtain ⟨b, off, h', e1, -, hh, c0, c1, c2⟩ := hr_at (k := 0) (hr_own B.row) hn0
        obtain ⟨rfl, rfl⟩ : g = b ∧ 0 = off := by injection e1 with e1; injection e1 with a1 a2; exact ⟨a1, a2⟩
        obtain rfl : h = h' := by simpa using hh
        simp only [Nat.zero_mul, Nat.zero_add] at c0 c1 c2
        have hg : g < wr.heap.size := (B.row.lt g rfl).2
        have f1 := World.ownsRow.frozenAt B.row 1
        have hvf := (rv_head B.rv).1
        obtain ⟨x, d, A1, n1, c1'⟩ := h
        obtain ⟨x', d', ws⟩ := f
        obtain rfl : x = x' := hwh.peer
        obtain rfl : d = d' := hwh.dfc
        have hn1 : n1 ≤ 4000000000 := hwh.few
        have hpos : 0 < n1 := by have := hvf.n0; have := hwh.pr.1; simp only at *; omega
        have HP := Lib.hid hwh.pr
        have hd0 := hvf.d0
        have hd1 := hvf.d1
        simp only at c0 c1 c2 hd0 hd1
        clear B hlen hwh e1 hh hvf
        go_wp2_with fail
        refine (mayI_any x d ws A1 n1 c1' _ HP.out hpos hn1).mono ?_
        rintro e w2 ⟨rfl, hb2⟩
        have B2 := Lib.hid (bt_below HB.out hb2)
        have d1 := ((bcell hb2).1 g 1 hg).trans c1
        have e1 := ((bcell hb2).2 g 1 hg).trans f1
        have d0 := ((bcell hb2).1 g 0 hg).trans c0
        have d2 := ((bcell hb2).1 g 2 hg).trans c2
        have hg2 : g < w2.heap.size := Nat.lt_of_lt_of_le hg hb2.size
        clear hb2 c0 c1 c2 f1 hg
        rcases hm : may ⟨x, d, ws⟩ with _ | _
        · have HM := Lib.hid hm
          have y2 : IntKind.i64.wrap (d + q) = d + q := IntWalk.i64_in _ (by omega)
          have HA := Lib.hid (bt_add B2.out HX.out (d + q) rfl)
          have HP2 := Lib.hid (wl_head HA.out.2.1).1.pr
          have hgS : g < (w2.setCell ⟨g, 1, none⟩ (.int .i64 (d + q))).heap.size := by simpa using hg2
          have HR := Lib.hid B2.out.rv
          have HN := Lib.hid (needW_eq HB.out.row HB.out.wl)
          clear hm
          go_wp2_with fail
          refine (mayI_any x (d + q) ws A1 n1 c1' _ HP2.out hpos hn1).mono ?_
          rintro e w4 ⟨rfl, hb4⟩
          have A4 := Lib.hid (And.intro (own_below HA.out.1 hb4) (And.intro (wl_below HA.out.2.1 hb4) (g_below HA.out.2.2 hb4)))
          clear hb4 d0 d1 d2 e1 hgS
          rcases hm2 : may ⟨x, d + q, ws⟩ with _ | _
          · have HM2 := Lib.hid hm2
            clear hm2
            go_wp2_with fail
            refine (moveI_any lo g n c ⟨x, d + q, A1, n1, c1'⟩ hr _ A4.out.1 hn).mono ?_
            rintro e w5 ⟨rfl, ho5, hg5⟩
            have W5 := Lib.hid (wl_grown A4.out.2.1 hg5 fun b hb e => HX.out b hb (by injection e))
            have O5 := Lib.hid ho5
            have G5 := Lib.hid (A4.out.2.2.trans hg5)
            clear ho5 hg5
            go_wp2
            go_roundw
            case rel => exact ⟨_, r ++ [addq q ⟨x, d, ws⟩], rv_rot HR.out HM.out, by simp, (turned_rot HR.out HM.out HM2.out).symm.trans B2.out.t, O5.out, wl_snoc (wl_head W5.out).2 (wl_head W5.out).1, G5.out⟩
            case measure => rw [HN.out, needW_eq O5.out (wl_snoc (wl_head W5.out).2 (wl_head W5.out).1)]; exact need_rot HR.out HM.out
          · have HM2 := Lib.hid hm2
            clear hm2
            go_wp2
            go_roundw
            case rel => exact ⟨_, addq q ⟨x, d, ws⟩ :: r, rv_cons (rv_tail HR.out) (vf_addq q0 (rv_head HR.out).1 HM.out) (rv_head HR.out).2, by simp, (turned_may HM2.out).trans ((turned_add HR.out HM.out HM2.out).symm.trans B2.out.t), A4.out.1, A4.out.2.1, A4.out.2.2⟩
            case measure => rw [HN.out, needW_eq A4.out.1 A4.out.2.1]; exact need_add HR.out HM.out
        · have HT := Lib.hid ((turned_may hm).symm.trans B2.out.t)
          clear hm
          go_wp2
          refine bodyPost_ret (v := .tuple #[]) (by simp [results, Try.results78, go_sem]) rfl ⟨rfl, _, B2.out.row, by rw [← HT.out]; exact B2.out.wl, B2.out.gr⟩
end Go.Proofs.Ytehokkijfgiggaa
