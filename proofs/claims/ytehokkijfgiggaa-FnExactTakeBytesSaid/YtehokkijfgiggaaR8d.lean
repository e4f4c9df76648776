/-
  slices.Delete of one flow out of a row that the call owns. Conditions: the index lies in the row; the row has at most 4000000000 flows.
-/
import Derived.Test.YtehokkijfgiggaaR5
namespace Go.Proofs.Ytehokkijfgiggaa
open Go.RowKit

def setLF (cs : Array Value) : Nat → List Value → Array Value
  | _, [] => cs
  | o, v :: r => setLF (cs.setIfInBounds o v) (o + 1) r
theorem setL_sizeF (vs : List Value) : ∀ (cs : Array Value) (o : Nat), (setLF cs o vs).size = cs.size := by
  induction vs with
  | nil => intro cs o; rfl
  | cons v r ih => intro cs o; simp only [setLF]; rw [ih]; simp
theorem setL_getF (vs : List Value) : ∀ (cs : Array Value) (o j : Nat), o + vs.length ≤ cs.size → (setLF cs o vs)[j]? = if o ≤ j ∧ j < o + vs.length then vs[j - o]? else cs[j]? := by
  induction vs with
  | nil =>
    intro cs o j _
    rw [if_neg (by simp only [List.length_nil]; omega)]
    rfl
  | cons v r ih =>
    intro cs o j h
    simp only [List.length_cons] at h
    simp only [setLF]
    rw [ih _ _ _ (by simp; omega)]
    by_cases h1 : o + 1 ≤ j ∧ j < o + 1 + r.length
    · rw [if_pos h1, if_pos (by simp; omega), show j - o = j - (o + 1) + 1 by omega, List.getElem?_cons_succ]
    · rw [if_neg h1]
      by_cases h2 : j = o
      · subst h2
        rw [if_pos (by simp), Array.getElem?_setIfInBounds_self_of_lt (by omega), Nat.sub_self]
        rfl
      · rw [if_neg (by simp; omega), Array.getElem?_setIfInBounds_ne (by omega)]
theorem blk_setCellsF {t : TypeId} {g : Nat} (vs : List Value) : ∀ {w : World} {cs : Array Value} (o : Nat), Blk w g t cs → Blk (w.setCells g o vs) g t (setLF cs o vs) := by
  induction vs with
  | nil => intro w cs o h; exact h
  | cons v r ih => intro w cs o h; exact ih (o + 1) (blk_set h o v)
theorem grown_setCellsF {g : Nat} (vs : List Value) : ∀ {a w : World} (o : Nat), a.grownBy w (some g) → a.grownBy (w.setCells g o vs) (some g) := by
  induction vs with
  | nil => intro a w o h; exact h
  | cons v r ih => intro a w o h; exact ih (o + 1) (g_set h (.inl rfl) v)
theorem fcells_erase (ps : List Fh) (i : Nat) : fcells (ps.eraseIdx i) = fcells (ps.take i) ++ fcells (ps.drop (i + 1)) := by
  rw [List.eraseIdx_eq_take_drop_succ, fcells_append]
theorem fcells_split (ps : List Fh) (i : Nat) : fcells ps = fcells (ps.take i) ++ fcells (ps.drop i) := by
  rw [← fcells_append, List.take_append_drop]
/-- the row behind the deletion -/
theorem own_deletedF {w : World} {base b n c i : Nat} {ps : List Fh} (h : w.ownsRow base 40 3 (.slice (some ⟨b, 0, none⟩) n c) n (fcells ps)) (hi : i < n) (zs : List Value) (hz : zs.length = 3) :
    ((w.drew.setCells b (0 + i * 3) (fcells (ps.drop (i + 1)))).setCells b ((i + (n - (i + 1))) * 3) zs).ownsRow base 40 3 (.slice (some ⟨b, 0, none⟩) (i + (n - (i + 1))) c) (i + (n - (i + 1))) (fcells (ps.eraseIdx i)) := by
  have hl : ps.length = n := (hr_own h).1
  rcases h.2 with ⟨hv, _⟩ | ⟨g, cap, cur, hv, hb, hg, hnc, hcm, hs, ht⟩
  · cases hv
  · obtain ⟨rfl, rfl⟩ : b = g ∧ c = cap := by injection hv with a1 a2 a3; injection a1 with a1; injection a1 with a1 _ _; exact ⟨a1, a3⟩
    have hgD : Blk w.drew b 40 cur := hg
    have h1 := blk_setCellsF (fcells (ps.drop (i + 1))) (0 + i * 3) hgD
    have h2 := blk_setCellsF zs ((i + (n - (i + 1))) * 3) h1
    have hle : (fcells (ps.drop (i + 1))).length = (n - (i + 1)) * 3 := by rw [fcells_len, List.length_drop, hl]
    refine ⟨by rw [fcells_len, List.length_eraseIdx, hl]; split <;> omega, .inr ⟨b, c, _, rfl, hb, h2, by omega, hcm, by rw [setL_sizeF, setL_sizeF]; exact hs, ?_⟩⟩
    apply List.ext_getElem?
    intro j
    by_cases hj : j < (i + (n - (i + 1))) * 3
    · rw [List.getElem?_take_of_lt hj, Array.getElem?_toList, setL_getF _ _ _ _ (by rw [setL_sizeF, hs, hz]; omega), if_neg (by omega), setL_getF _ _ _ _ (by rw [hs, hle]; omega), hle, fcells_erase]
      have hlt : (fcells (ps.take i)).length = i * 3 := by rw [fcells_len, List.length_take, hl]; congr 1; omega
      by_cases h3 : 0 + i * 3 ≤ j
      · rw [if_pos (by omega), List.getElem?_append_right (by omega), hlt]
        congr 1; omega
      · rw [if_neg (by omega), List.getElem?_append_left (by omega)]
        have e : (cur.toList.take (n * 3))[j]? = (fcells ps)[j]? := by rw [ht]
        rw [List.getElem?_take_of_lt (by omega), Array.getElem?_toList, fcells_split ps i, List.getElem?_append_left (by omega)] at e
        exact e
    · rw [List.getElem?_eq_none (by rw [List.length_take, Array.length_toList, setL_sizeF, setL_sizeF]; omega), List.getElem?_eq_none (by rw [fcells_len, List.length_eraseIdx, hl]; split <;> omega)]
theorem run_clear_oneF {P : Program} (w : World) (t e ty : TypeId) (ht : P.underlying t = some (.slice e)) (hv : ∀ w, (zeroValue e).run P w = .ok (.agg #[.int .i64 0, .int .i64 0, .slice none 0 0]) w) (b o c : Nat)
    (hc : ∀ j, j < 3 → (w.cell? ⟨b, o + j, none⟩).isSome = true) (hf : ∀ j, j < 3 → w.frozen? ⟨b, o + j, none⟩ = false) :
    (Builtin.clear_ #[t] ty #[.slice (some ⟨b, o, none⟩) 1 c]).run P w = .ok (.tuple #[]) (w.setCells b o [.int .i64 0, .int .i64 0, .slice none 0 0]) := by
  have hst := run_storeCells_cells (P := P) b o [.int .i64 0, .int .i64 0, .slice none 0 0] 0 w (by simpa using hc) (by simpa using hf) (by intro v hv'; simp at hv'; rcases hv' with rfl | rfl <;> rfl)
  simp only [Nat.add_zero] at hst
  have hzc : (Builtin.zeroCells (Value.cells (.agg #[.int .i64 0, .int .i64 0, .slice none 0 0])) 1).toList = [.int .i64 0, .int .i64 0, .slice none 0 0] := by simp [Builtin.zeroCells, Value.cells]; rfl
  simp [Builtin.clear_, run_underlying ht, hv, hzc, hst]
def DelPostF (w : World) (base b n c i : Nat) (ps : List Fh) (e : Ending) (w' : World) : Prop :=
  e = .returned (.slice (some ⟨b, 0, none⟩) (i + (n - (i + 1))) c) ∧ w'.ownsRow base 40 3 (.slice (some ⟨b, 0, none⟩) (i + (n - (i + 1))) c) (i + (n - (i + 1))) (fcells (ps.eraseIdx i)) ∧ w.grownBy w' (some b)
set_option maxHeartbeats 1000000 in
theorem del_anyF (base b n c i j : Nat) (ps : List Fh) (w : World) (h : w.ownsRow base 40 3 (.slice (some ⟨b, 0, none⟩) n c) n (fcells ps)) (hi : i < n) (hj : j = i + 1) (hn : n ≤ 4000000000) :
    Calls Try.prog 76 #[.slice (some ⟨b, 0, none⟩) n c, .int .i64 i, .int .i64 j] w (DelPostF w base b n c i ps) := by
  obtain ⟨i0, hi0, hz0, hz1, hz2⟩ := info_parts infoFlw
  have hl : ps.length = n := (hr_own h).1
  obtain ⟨A', c', hv, hnc, hcm, -⟩ := own_form h
  obtain ⟨-, -, rfl⟩ : A' = some ⟨b, 0, none⟩ ∧ True ∧ c = c' := by injection hv with a1 a2 a3; exact ⟨a1.symm, trivial, a3⟩
  clear hv
  have hm : c ≤ 9223372036854775807 := by unfold maxLen at hcm; omega
  clear hcm
  obtain ⟨news, hnews⟩ : ∃ news, news = fcells (ps.drop j) := ⟨_, rfl⟩
  have hlen : news.length = (n - j) * 3 := by rw [hnews, fcells_len, List.length_drop, hl]
  have hcell : ∀ t, t < n * 3 → w.cell? ⟨b, t, none⟩ = (fcells ps)[t]? := fun t ht => h.cellAt t ht
  have hget : ∀ t u, news[t]? = some u → w.cell? ⟨b, j * 3 + t, none⟩ = some u := by
    intro t u hu
    have ht : t < (n - j) * 3 := by
      rcases Nat.lt_or_ge t news.length with hl | hl
      · omega
      · rw [List.getElem?_eq_none hl] at hu; cases hu
    rw [hcell _ (by omega), fcells_split ps j, List.getElem?_append_right (by rw [fcells_len, List.length_take, hl]; omega), fcells_len, List.length_take, hl, show j * 3 + t - min j n * 3 = t by omega, ← hnews]
    exact hu
  obtain ⟨A, hA, hsrc⟩ : ∃ A : Addr, (if c = j then some (⟨b, 0, none⟩ : Addr) else some ⟨b, j * 3, none⟩) = some A ∧ Hid (∀ t u, news[t]? = some u → w.drew.cell? (A.add t) = some u) := by
    by_cases h : c = j
    · refine ⟨⟨b, 0, none⟩, by simp [h], Lib.hid fun t u hu => ?_⟩
      have h0 : news.length = 0 := by rw [hlen]; omega
      rw [List.length_eq_zero_iff.1 h0] at hu
      simp at hu
    · refine ⟨⟨b, j * 3, none⟩, by simp [h], Lib.hid fun t u hu => ?_⟩
      rw [Addr.add_lit]
      exact hget t u hu
  have s1 : Hid (news.length = (n - j) * 3) := Lib.hid hlen
  have s2 : Hid (∀ u ∈ news, u.oneCell' = true) := Lib.hid (by rw [hnews]; exact fcells_one _)
  have s3 : Hid (∀ t, t < news.length → (w.drew.cell? ⟨b, 0 + i * 3 + t, none⟩).isSome = true ∧ w.drew.frozen? ⟨b, 0 + i * 3 + t, none⟩ = false) := Lib.hid (by
    intro t ht
    rw [hlen] at ht
    refine ⟨?_, h.frozenAt _⟩
    show (w.cell? _).isSome = true
    rw [hcell _ (by omega), List.getElem?_eq_getElem (by rw [fcells_len, hl]; omega)]; rfl)
  obtain ⟨W1, hW1⟩ : ∃ W1, W1 = w.drew.setCells b (0 + i * 3) news := ⟨_, rfl⟩
  have hcl : ∀ ty, (Builtin.clear_ #[23] ty #[.slice (some ⟨b, (i + (n - j)) * 3, none⟩) (n - (i + (n - j))) (c - (i + (n - j)))]).run Try.prog W1 = .ok (.tuple #[]) (W1.setCells b ((i + (n - j)) * 3) [.int .i64 0, .int .i64 0, .slice none 0 0]) := by
    intro ty
    rw [show n - (i + (n - j)) = 1 by omega]
    rcases h.2 with ⟨hv, _⟩ | ⟨g, cap, cur, hv, hb, hg, -, -, hs, -⟩
    · cases hv
    obtain ⟨rfl, rfl⟩ : b = g ∧ c = cap := by injection hv with a1 a2 a3; injection a1 with a1; injection a1 with a1 _ _; exact ⟨a1, a3⟩
    have hB : Blk W1 b 40 (setLF cur (0 + i * 3) news) := by rw [hW1]; exact blk_setCellsF news _ (show Blk w.drew b _ cur from hg)
    refine run_clear_oneF W1 _ _ ty Try.underlying23 (fun _ => by kernel_rfl) b _ _ (fun t ht => ?_) (fun t ht => blk_free hB _)
    rw [blk_cell hB, Array.getElem?_eq_getElem (by rw [setL_sizeF, hs]; omega)]; rfl
  have HE := Lib.hid (own_deletedF h hi [.int .i64 0, .int .i64 0, .slice none 0 0] rfl)
  have HW : Hid (W1 = w.drew.setCells b (0 + i * 3) news) := Lib.hid hW1
  have HN : Hid (news = fcells (ps.drop j)) := Lib.hid hnews
  have HJ : Hid (j = i + 1) := Lib.hid hj
  have heq : ((i : Int) == (j : Int)) = false := by simp; omega
  have hij : i ≤ j := by omega
  have hjn : j ≤ n := by omega
  have hic : i ≤ c := by omega
  have hjc : j ≤ c := by omega
  have hcm : ¬ c = i + (n - j) := by omega
  clear hW1 hnews hlen hcell hget h hj hl
  go_enter Try.func76, Try.ntmps76
  go_wp2_with fail
  go_region_law (refine step_append_room rfl (.tmp 22) (.tmp 25) 23 rfl 40 i0 3 Try.underlying23 hi0 hz1 b 0 i c (by simp [Act.eval, Act.put]) A (n - j) (c - j) news (by simp [Act.eval, Act.put]) s1.out hsrc.out s2.out (by omega) s3.out ?_; rw [← HW.out])
  go_wp2
  go_ret
  have e1 := HJ.out
  subst e1
  refine ⟨rfl, ?_, ?_⟩
  · rw [HW.out, HN.out]; exact HE.out
  · rw [HW.out]
    exact grown_setCellsF _ _ (grown_setCellsF _ _ ⟨rfl, rfl, rfl, Nat.le_refl _, fun _ _ _ => rfl⟩)
end Go.Proofs.Ytehokkijfgiggaa
