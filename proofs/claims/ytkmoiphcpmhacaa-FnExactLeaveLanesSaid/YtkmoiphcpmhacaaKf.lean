/-
  Chapter 5: TakeBytes and TakeAll: what the program's functions and the model's return. Conditions: none. Chapter 5: TakeAll, and the model's TakeBytes and TakeAll: what they return. Conditions: none. slices.Delete of one flow out of a row that the call owns. Conditions: the index lies in the row; the row has at most 4000000000 flows. Chapter 5: WaitingOf and LeaveRobin: what the program's functions and the model's return. Conditions: none. Chapter 5: WaitingOf and LeaveRobin: what the model's functions return. Conditions: none.
  Conditions: each lemma says them.
-/
import Derived.Test.YtkmoiphcpmhacaaKe
namespace Go.Proofs.Ytkmoiphcpmhacaa
open Go.RowKit

theorem frx_lt {w : World} {X : Nat → Prop} {A : Option Addr} {n : Nat} {fs : List Flw} (h : FRX w X A n fs) : FRX w (fun b => X b ∧ b < w.heap.size) A n fs := by
  obtain ⟨hs, h1, h2, h3, h4⟩ := h
  exact ⟨hs, h1, fun hn b hb => ⟨h2 hn b hb, hr_old h1 hn b hb⟩, ⟨h3.1, fun k g f e1 e2 => by have := h3.2 k g f e1 e2; exact ⟨this.peer, this.dfc, this.pr, this.cap, this.few, fun hn b hb => ⟨this.far hn b hb, pr_old this.pr hn b hb⟩⟩⟩, h4⟩
def bx2 (w : World) (q : Int) (A : Option Addr) (n c : Nat) : List Iv := [⟨w.heap.size, w.heap.size + 1, BoxP w.heap.size 37 #[.int .i64 q, (.slice A n c)]⟩, ⟨w.heap.size + 1, w.heap.size + 2, BoxP (w.heap.size + 1) 37 #[.int .i64 0, (.slice none 0 0)]⟩]
theorem bx2_hi {w : World} {q : Int} {A : Option Addr} {n c g : Nat} (h : w.heap.size + 2 ≤ g) : ∀ x ∈ bx2 w q A n c, x.hi ≤ g := fun x hx => by
  simp only [bx2, List.mem_cons, List.not_mem_nil, or_false] at hx
  rcases hx with rfl | rfl <;> (simp only; omega)
/-- what TakeBytes hands back when it takes nothing because it may not -/
def TbNo (w : World) (e : Ending) (w' : World) : Prop := ∃ At ct, e = .returned (.tuple #[.agg #[.int .i64 0, (.slice none 0 0)], .slice At 0 ct, .bool false]) ∧ w'.ownsRow w.heap.size 29 4 (.slice At 0 ct) 0 (pcells []) ∧ Below w.heap.size w w'
def TbYes (w : World) (q b : Int) (fs : List Flw) (e : Ending) (w' : World) : Prop :=
  ∃ A n c hs At nt ct lo, e = .returned (.tuple #[.agg #[.int .i64 q, (.slice A n c)], .slice At nt ct, .bool true]) ∧ DO w' lo (.slice A n c) n hs (takeB q b fs).1 ∧ w.heap.size ≤ lo ∧ nt = (takeB q b fs).2.length ∧ w'.ownsRow w.heap.size 29 4 (.slice At nt ct) nt (pcells (takeB q b fs).2) ∧
    (∀ g, Value.ownBlock (.slice At nt ct) = some g → g < lo) ∧ Below w.heap.size w w'
def TbYesS (w : World) (q b : Int) (fs : List Flw) (e : Ending) (w' : World) : Prop :=
  ∃ A n c At nt ct, e = .returned (.tuple #[.agg #[.int .i64 q, (.slice A n c)], .slice At nt ct, .bool true]) ∧ FR w' A n (takeB q b fs).1 ∧ nt = (takeB q b fs).2.length ∧ w'.ownsRow w.heap.size 29 4 (.slice At nt ct) nt (pcells (takeB q b fs).2) ∧ Below w.heap.size w w'
/-- the taking as far as it goes -/
structure TbR (w : World) (q : Int) (A : Option Addr) (n c R : Nat) (X : Nat → Prop) (b : Int) (fs : List Flw) (b' : Int) (fs' : List Flw) (An : Option Addr) (nn cc : Nat) (ts : List Pkt) (v : Value) (wr : World) : Prop where
  b0 : 0 ≤ b'
  bb : b' ≤ b
  rv : RV q fs'
  eq : takeB q b fs = ((takeB q b' fs').1, ts ++ (takeB q b' fs').2)
  few : ts.length + total fs' ≤ 512
  fm : Fm w (bx2 w q A n c) wr
  box : Blk wr R 37 #[.int .i64 q, (.slice An nn cc)]
  fl : FRX wr (fun g => X g ∧ v.ownBlock ≠ some g) An nn fs'
  tk : wr.ownsRow (w.heap.size + 2) 29 4 v ts.length (pcells ts)
  sep : ∀ g, v.ownBlock = some g → g ≠ R
  R2 : w.heap.size + 2 ≤ R
  XR : ¬ X R
  XU : ∀ g, R < g → X g
section
variable {w w1 w2 : World} {q : Int} {A : Option Addr} {n c R : Nat} {X : Nat → Prop} {b : Int} {fs : List Flw} {b' : Int} {fs' : List Flw} {An : Option Addr} {nn cc : Nat} {ts : List Pkt} {tk : Value}
theorem tb_below (T : TbR w q A n c R X b fs b' fs' An nn cc ts tk w1) (hb : Below w1.heap.size w1 w2) : TbR w q A n c R X b fs b' fs' An nn cc ts tk w2 :=
  ⟨T.b0, T.bb, T.rv, T.eq, T.few, fm_below T.fm hb, blk_below T.box hb (blk_lt T.box), frx_below T.fl hb, own_below T.tk hb, T.sep, T.R2, T.XR, T.XU⟩
/-- a packet is taken: the rest stands in its place, the packet behind the others -/
theorem tb_next {w3 w6 : World} {An3 : Option Addr} {n3 c3 : Nat} {P : Pkt} {v6 : Value} {s : Nat} (T : TbR w q A n c R X b fs b' fs' An nn cc ts tk w1) (h0 : fs' ≠ []) (hP : P = nxP q fs') (hle : P.size ≤ b') (hb : Below w1.heap.size w1 w3) (hf : FRX w3 (fun g => ((X g ∧ tk.ownBlock ≠ some g) ∧ g < s) ∨ w1.heap.size ≤ g) An3 n3 (nxL q fs'))
    (ho : w6.ownsRow (w.heap.size + 2) 29 4 v6 (ts.length + 1) (pcells (ts ++ [P]))) (hg : ((w3.setCell ⟨R, 0, none⟩ (.int .i64 q)).setCell ⟨R, 1, none⟩ (.slice An3 n3 c3)).grownBy w6 tk.ownBlock) (hat : v6.ownBlock = tk.ownBlock ∨ ∃ g, v6.ownBlock = some g ∧ w3.heap.size ≤ g) :
    TbR w q A n c R X b fs (b' - P.size) (nxL q fs') An3 n3 c3 (ts ++ [P]) v6 w6 := by
  obtain ⟨f, r, p, ws, N⟩ := nexted_is T.rv h0
  have hs1 := N.s1
  rw [← N.isP, ← hP] at hs1
  have hR := blk_lt T.box
  have hz := hb.size
  have hR2 := T.R2
  have hlo : ∀ g, tk.ownBlock = some g → w.heap.size + 2 ≤ g := fun g e => (T.tk.lt g e).1
  have G := g_set (g_set (g_refl w3 (some R)) (p := ⟨R, 0, none⟩) (.inl rfl) (.int .i64 q)) (p := ⟨R, 1, none⟩) (.inl rfl) (.slice An3 n3 c3)
  have hXX : ∀ g, (((X g ∧ tk.ownBlock ≠ some g) ∧ g < s) ∨ w1.heap.size ≤ g) → X g ∧ tk.ownBlock ≠ some g := fun g hg => hg.elim (fun h => h.1) fun h => ⟨T.XU g (by omega), fun e => by have := (T.tk.lt g e).2; omega⟩
  have hf1 := frx_grown (frx_lt (frx_mono hf hXX)) G fun g hg e => by injection e with e; exact T.XR (by rw [← e]; exact hg.1.1)
  have hf2 := frx_mono (frx_grown hf1 hg fun g hx e => hx.1.2 e.symm) (Y := fun g => X g ∧ v6.ownBlock ≠ some g) fun g hx => ⟨hx.1.1, fun e => by
    rcases hat with h | ⟨g2, h, h2⟩
    · exact hx.1.2 (h.symm.trans e)
    · rw [h] at e; injection e with e; have := hx.2; omega⟩
  refine ⟨by omega, by have := T.bb; omega, N.rv, ?_, by rw [List.length_append]; have := T.few; rw [total_next N] at this; simp; omega, ?_, ?_, hf2, by rw [List.length_append]; exact ho, fun g e => ?_, T.R2, T.XR, T.XU⟩
  · rw [T.eq, takeB_yes T.rv h0 (by rw [← hP]; exact hle), ← hP]; simp
  · refine fm_grownO (fm_grownO (fm_below T.fm hb) G fun g e => ?_) hg fun g e => ?_
    · injection e with e; subst e; exact ⟨by omega, bx2_hi hR2⟩
    · have := hlo g e; exact ⟨by omega, bx2_hi this⟩
  · refine blk_grownQ (cs := #[.int .i64 q, (.slice An3 n3 c3)]) ?_ hg fun e => T.sep R e.symm rfl
    exact blk_set (blk_set (blk_below T.box hb hR) 0 _) 1 _
  · rcases hat with h | ⟨g2, h, h2⟩
    · exact T.sep g (h.symm.trans e)
    · rw [h] at e; injection e with e; omega
end
/-- behind the loop -/
def TbE (w : World) (q : Int) (A : Option Addr) (n c R : Nat) (X : Nat → Prop) (b : Int) (fs : List Flw) (tk : Value) (wx : World) : Prop :=
  ∃ An nn cc, Fm w (bx2 w q A n c) wx ∧ Blk wx R 37 #[.int .i64 q, (.slice An nn cc)] ∧ FRX wx X An nn (takeB q b fs).1 ∧ wx.ownsRow (w.heap.size + 2) 29 4 tk (takeB q b fs).2.length (pcells (takeB q b fs).2) ∧ w.heap.size + 2 ≤ R ∧ ¬ X R
theorem tbE_nil {w w1 : World} {q : Int} {A : Option Addr} {n c R : Nat} {X : Nat → Prop} {b : Int} {fs : List Flw} {b' : Int} {An : Option Addr} {nn cc : Nat} {ts : List Pkt} {tk : Value} (T : TbR w q A n c R X b fs b' [] An nn cc ts tk w1) : TbE w q A n c R X b fs tk w1 := by
  have e : takeB q b fs = ([], ts) := by rw [T.eq, takeB_nil]; simp
  exact ⟨An, nn, cc, T.fm, T.box, by rw [e]; exact frx_mono T.fl fun g hg => hg.1, by rw [e]; exact T.tk, T.R2, T.XR⟩
theorem tbE_no {w w1 : World} {q : Int} {A : Option Addr} {n c R : Nat} {X : Nat → Prop} {b : Int} {fs : List Flw} {b' : Int} {fs' : List Flw} {An : Option Addr} {nn cc : Nat} {ts : List Pkt} {tk : Value} (T : TbR w q A n c R X b fs b' fs' An nn cc ts tk w1) (h0 : fs' ≠ []) (hn : ¬ (nxP q fs').size ≤ b') : TbE w q A n c R X b fs tk w1 := by
  have e : takeB q b fs = (fs', ts) := by rw [T.eq, takeB_no T.rv h0 hn]; simp
  exact ⟨An, nn, cc, T.fm, T.box, by rw [e]; exact frx_mono T.fl fun g hg => hg.1, by rw [e]; exact T.tk, T.R2, T.XR⟩
end Go.Proofs.Ytkmoiphcpmhacaa
namespace Go.Proofs.Ytkmoiphcpmhacaa
open Go.RowKit

def TaNo (w : World) (e : Ending) (w' : World) : Prop := ∃ At ct, e = .returned (.tuple #[.slice At 0 ct, .bool false]) ∧ w'.ownsRow w.heap.size 29 4 (.slice At 0 ct) 0 (pcells []) ∧ Below w.heap.size w w'
def TaYes (w : World) (q : Int) (fs : List Flw) (e : Ending) (w' : World) : Prop :=
  ∃ At nt ct, e = .returned (.tuple #[.slice At nt ct, .bool true]) ∧ nt = (takeA q fs).length ∧ w'.ownsRow w.heap.size 29 4 (.slice At nt ct) nt (pcells (takeA q fs)) ∧ Below w.heap.size w w'
theorem takeA_512 {q : Int} {fs : List Flw} (h : RV q fs) : (takeA q fs).length ≤ 512 ∧ sizeSum (takeA q fs) ≤ 51200 := by
  have := total_le h
  have := rv_len h
  have := takeA_sum fs h
  rw [takeA_len fs h]
  omega
theorem do_frx {w : World} {lo : Nat} {A : Option Addr} {n c : Nat} {hs : List Fh} {fs : List Flw} (D : DO w lo (.slice A n c) n hs fs) (hn : n ≤ 4000000000) : FRX w (fun b => lo ≤ b ∧ b < w.heap.size) A n fs := by
  obtain ⟨A', c', hv, -, -, hA⟩ := own_form D.row
  obtain rfl : A = A' := by injection hv
  refine ⟨hs, hr_own D.row, fun _ b hb => hA b hb, ⟨D.len, fun k h f h1 h2 => ?_⟩, hn⟩
  obtain ⟨e1, e2, e3, e4, -⟩ := D.all k h f h1 h2
  obtain ⟨A2, c2, hv2, hc2, -, hA2⟩ := own_form e4
  obtain ⟨h3, rfl⟩ : h.A = A2 ∧ h.c = c2 := by unfold Fh.sl at hv2; injection hv2 with a1 a2 a3; exact ⟨a1, a3⟩
  exact ⟨e1, e2, pr_own (A := h.A) (n := h.n) (c := h.c) e4, hc2, e3, fun _ b hb => hA2 b (by rw [← h3]; exact hb)⟩
end Go.Proofs.Ytkmoiphcpmhacaa
namespace Go.Proofs.Ytkmoiphcpmhacaa
open Go.RowKit

def setLF (cs : Array Value) : Nat → List Value → Array Value
  | _, [] => cs
  | o, v :: r => setLF (cs.setIfInBounds o v) (o + 1) r
theorem setL_sizeF (vs : List Value) : ∀ (cs : Array Value) (o : Nat), (setLF cs o vs).size = cs.size := by
  induction vs with
  | nil => intro cs o; rfl
  | cons v r ih => intro cs o; simp only [setLF]; rw [ih]; simp
theorem setL_getF (vs : List Value) : ∀ (cs : Array Value) (o j : Nat), o + vs.length ≤ cs.size → (setLF cs o vs)[j]? = if o ≤ j ∧ j < o + vs.length then vs[j - o]? else cs[j]? := by
  induction vs with
  | nil =>
    intro cs o j _
    rw [if_neg (by simp only [List.length_nil]; omega)]
    rfl
  | cons v r ih =>
    intro cs o j h
    simp only [List.length_cons] at h
    simp only [setLF]
    rw [ih _ _ _ (by simp; omega)]
    by_cases h1 : o + 1 ≤ j ∧ j < o + 1 + r.length
    · rw [if_pos h1, if_pos (by simp; omega), show j - o = j - (o + 1) + 1 by omega, List.getElem?_cons_succ]
    · rw [if_neg h1]
      by_cases h2 : j = o
      · subst h2
        rw [if_pos (by simp), Array.getElem?_setIfInBounds_self_of_lt (by omega), Nat.sub_self]
        rfl
      · rw [if_neg (by simp; omega), Array.getElem?_setIfInBounds_ne (by omega)]
theorem blk_setCellsF {t : TypeId} {g : Nat} (vs : List Value) : ∀ {w : World} {cs : Array Value} (o : Nat), Blk w g t cs → Blk (w.setCells g o vs) g t (setLF cs o vs) := by
  induction vs with
  | nil => intro w cs o h; exact h
  | cons v r ih => intro w cs o h; exact ih (o + 1) (blk_set h o v)
theorem grown_setCellsF {g : Nat} (vs : List Value) : ∀ {a w : World} (o : Nat), a.grownBy w (some g) → a.grownBy (w.setCells g o vs) (some g) := by
  induction vs with
  | nil => intro a w o h; exact h
  | cons v r ih => intro a w o h; exact ih (o + 1) (g_set h (.inl rfl) v)
theorem fcells_erase (ps : List Fh) (i : Nat) : fcells (ps.eraseIdx i) = fcells (ps.take i) ++ fcells (ps.drop (i + 1)) := by
  rw [List.eraseIdx_eq_take_drop_succ, fcells_append]
theorem fcells_split (ps : List Fh) (i : Nat) : fcells ps = fcells (ps.take i) ++ fcells (ps.drop i) := by
  rw [← fcells_append, List.take_append_drop]
/-- the row behind the deletion -/
theorem own_deletedF {w : World} {base b n c i : Nat} {ps : List Fh} (h : w.ownsRow base 82 3 (.slice (some ⟨b, 0, none⟩) n c) n (fcells ps)) (hi : i < n) (zs : List Value) (hz : zs.length = 3) :
    ((w.drew.setCells b (0 + i * 3) (fcells (ps.drop (i + 1)))).setCells b ((i + (n - (i + 1))) * 3) zs).ownsRow base 82 3 (.slice (some ⟨b, 0, none⟩) (i + (n - (i + 1))) c) (i + (n - (i + 1))) (fcells (ps.eraseIdx i)) := by
  have hl : ps.length = n := (hr_own h).1
  rcases h.2 with ⟨hv, _⟩ | ⟨g, cap, cur, hv, hb, hg, hnc, hcm, hs, ht⟩
  · cases hv
  · obtain ⟨rfl, rfl⟩ : b = g ∧ c = cap := by injection hv with a1 a2 a3; injection a1 with a1; injection a1 with a1 _ _; exact ⟨a1, a3⟩
    have hgD : Blk w.drew b 82 cur := hg
    have h1 := blk_setCellsF (fcells (ps.drop (i + 1))) (0 + i * 3) hgD
    have h2 := blk_setCellsF zs ((i + (n - (i + 1))) * 3) h1
    have hle : (fcells (ps.drop (i + 1))).length = (n - (i + 1)) * 3 := by rw [fcells_len, List.length_drop, hl]
    refine ⟨by rw [fcells_len, List.length_eraseIdx, hl]; split <;> omega, .inr ⟨b, c, _, rfl, hb, h2, by omega, hcm, by rw [setL_sizeF, setL_sizeF]; exact hs, ?_⟩⟩
    apply List.ext_getElem?
    intro j
    by_cases hj : j < (i + (n - (i + 1))) * 3
    · rw [List.getElem?_take_of_lt hj, Array.getElem?_toList, setL_getF _ _ _ _ (by rw [setL_sizeF, hs, hz]; omega), if_neg (by omega), setL_getF _ _ _ _ (by rw [hs, hle]; omega), hle, fcells_erase]
      have hlt : (fcells (ps.take i)).length = i * 3 := by rw [fcells_len, List.length_take, hl]; congr 1; omega
      by_cases h3 : 0 + i * 3 ≤ j
      · rw [if_pos (by omega), List.getElem?_append_right (by omega), hlt]
        congr 1; omega
      · rw [if_neg (by omega), List.getElem?_append_left (by omega)]
        have e : (cur.toList.take (n * 3))[j]? = (fcells ps)[j]? := by rw [ht]
        rw [List.getElem?_take_of_lt (by omega), Array.getElem?_toList, fcells_split ps i, List.getElem?_append_left (by omega)] at e
        exact e
    · rw [List.getElem?_eq_none (by rw [List.length_take, Array.length_toList, setL_sizeF, setL_sizeF]; omega), List.getElem?_eq_none (by rw [fcells_len, List.length_eraseIdx, hl]; split <;> omega)]
theorem run_clear_oneF {P : Program} (w : World) (t e ty : TypeId) (ht : P.underlying t = some (.slice e)) (hv : ∀ w, (zeroValue e).run P w = .ok (.agg #[.int .i64 0, .int .i64 0, .slice none 0 0]) w) (b o c : Nat)
    (hc : ∀ j, j < 3 → (w.cell? ⟨b, o + j, none⟩).isSome = true) (hf : ∀ j, j < 3 → w.frozen? ⟨b, o + j, none⟩ = false) :
    (Builtin.clear_ #[t] ty #[.slice (some ⟨b, o, none⟩) 1 c]).run P w = .ok (.tuple #[]) (w.setCells b o [.int .i64 0, .int .i64 0, .slice none 0 0]) := by
  have hst := run_storeCells_cells (P := P) b o [.int .i64 0, .int .i64 0, .slice none 0 0] 0 w (by simpa using hc) (by simpa using hf) (by intro v hv'; simp at hv'; rcases hv' with rfl | rfl <;> rfl)
  simp only [Nat.add_zero] at hst
  have hzc : (Builtin.zeroCells (Value.cells (.agg #[.int .i64 0, .int .i64 0, .slice none 0 0])) 1).toList = [.int .i64 0, .int .i64 0, .slice none 0 0] := by simp [Builtin.zeroCells, Value.cells]; rfl
  simp [Builtin.clear_, run_underlying ht, hv, hzc, hst]
def DelPostF (w : World) (base b n c i : Nat) (ps : List Fh) (e : Ending) (w' : World) : Prop :=
  e = .returned (.slice (some ⟨b, 0, none⟩) (i + (n - (i + 1))) c) ∧ w'.ownsRow base 82 3 (.slice (some ⟨b, 0, none⟩) (i + (n - (i + 1))) c) (i + (n - (i + 1))) (fcells (ps.eraseIdx i)) ∧ w.grownBy w' (some b)
set_option maxHeartbeats 1000000 in
theorem del_anyF (base b n c i j : Nat) (ps : List Fh) (w : World) (h : w.ownsRow base 82 3 (.slice (some ⟨b, 0, none⟩) n c) n (fcells ps)) (hi : i < n) (hj : j = i + 1) (hn : n ≤ 4000000000) :
    Calls Try.prog 104 #[.slice (some ⟨b, 0, none⟩) n c, .int .i64 i, .int .i64 j] w (DelPostF w base b n c i ps) := by
  obtain ⟨i0, hi0, hz0, hz1, hz2⟩ := info_parts infoFlw
  have hl : ps.length = n := (hr_own h).1
  obtain ⟨A', c', hv, hnc, hcm, -⟩ := own_form h
  obtain ⟨-, -, rfl⟩ : A' = some ⟨b, 0, none⟩ ∧ True ∧ c = c' := by injection hv with a1 a2 a3; exact ⟨a1.symm, trivial, a3⟩
  clear hv
  have hm : c ≤ 9223372036854775807 := by unfold maxLen at hcm; omega
  clear hcm
  obtain ⟨news, hnews⟩ : ∃ news, news = fcells (ps.drop j) := ⟨_, rfl⟩
  have hlen : news.length = (n - j) * 3 := by rw [hnews, fcells_len, List.length_drop, hl]
  have hcell : ∀ t, t < n * 3 → w.cell? ⟨b, t, none⟩ = (fcells ps)[t]? := fun t ht => h.cellAt t ht
  have hget : ∀ t u, news[t]? = some u → w.cell? ⟨b, j * 3 + t, none⟩ = some u := by
    intro t u hu
    have ht : t < (n - j) * 3 := by
      rcases Nat.lt_or_ge t news.length with hl | hl
      · omega
      · rw [List.getElem?_eq_none hl] at hu; cases hu
    rw [hcell _ (by omega), fcells_split ps j, List.getElem?_append_right (by rw [fcells_len, List.length_take, hl]; omega), fcells_len, List.length_take, hl, show j * 3 + t - min j n * 3 = t by omega, ← hnews]
    exact hu
  obtain ⟨A, hA, hsrc⟩ : ∃ A : Addr, (if c = j then some (⟨b, 0, none⟩ : Addr) else some ⟨b, j * 3, none⟩) = some A ∧ Hid (∀ t u, news[t]? = some u → w.drew.cell? (A.add t) = some u) := by
    by_cases h : c = j
    · refine ⟨⟨b, 0, none⟩, by simp [h], Lib.hid fun t u hu => ?_⟩
      have h0 : news.length = 0 := by rw [hlen]; omega
      rw [List.length_eq_zero_iff.1 h0] at hu
      simp at hu
    · refine ⟨⟨b, j * 3, none⟩, by simp [h], Lib.hid fun t u hu => ?_⟩
      rw [Addr.add_lit]
      exact hget t u hu
  have s1 : Hid (news.length = (n - j) * 3) := Lib.hid hlen
  have s2 : Hid (∀ u ∈ news, u.oneCell' = true) := Lib.hid (by rw [hnews]; exact fcells_one _)
  have s3 : Hid (∀ t, t < news.length → (w.drew.cell? ⟨b, 0 + i * 3 + t, none⟩).isSome = true ∧ w.drew.frozen? ⟨b, 0 + i * 3 + t, none⟩ = false) := Lib.hid (by
    intro t ht
    rw [hlen] at ht
    refine ⟨?_, h.frozenAt _⟩
    show (w.cell? _).isSome = true
    rw [hcell _ (by omega), List.getElem?_eq_getElem (by rw [fcells_len, hl]; omega)]; rfl)
  obtain ⟨W1, hW1⟩ : ∃ W1, W1 = w.drew.setCells b (0 + i * 3) news := ⟨_, rfl⟩
  have hcl : ∀ ty, (Builtin.clear_ #[35] ty #[.slice (some ⟨b, (i + (n - j)) * 3, none⟩) (n - (i + (n - j))) (c - (i + (n - j)))]).run Try.prog W1 = .ok (.tuple #[]) (W1.setCells b ((i + (n - j)) * 3) [.int .i64 0, .int .i64 0, .slice none 0 0]) := by
    intro ty
    rw [show n - (i + (n - j)) = 1 by omega]
    rcases h.2 with ⟨hv, _⟩ | ⟨g, cap, cur, hv, hb, hg, -, -, hs, -⟩
    · cases hv
    obtain ⟨rfl, rfl⟩ : b = g ∧ c = cap := by injection hv with a1 a2 a3; injection a1 with a1; injection a1 with a1 _ _; exact ⟨a1, a3⟩
    have hB : Blk W1 b 82 (setLF cur (0 + i * 3) news) := by rw [hW1]; exact blk_setCellsF news _ (show Blk w.drew b _ cur from hg)
    refine run_clear_oneF W1 _ _ ty Try.underlying35 (fun _ => by kernel_rfl) b _ _ (fun t ht => ?_) (fun t ht => blk_free hB _)
    rw [blk_cell hB, Array.getElem?_eq_getElem (by rw [setL_sizeF, hs]; omega)]; rfl
  have HE := Lib.hid (own_deletedF h hi [.int .i64 0, .int .i64 0, .slice none 0 0] rfl)
  have HW : Hid (W1 = w.drew.setCells b (0 + i * 3) news) := Lib.hid hW1
  have HN : Hid (news = fcells (ps.drop j)) := Lib.hid hnews
  have HJ : Hid (j = i + 1) := Lib.hid hj
  have heq : ((i : Int) == (j : Int)) = false := by simp; omega
  have hij : i ≤ j := by omega
  have hjn : j ≤ n := by omega
  have hic : i ≤ c := by omega
  have hjc : j ≤ c := by omega
  have hcm : ¬ c = i + (n - j) := by omega
  clear hW1 hnews hlen hcell hget h hj hl
  go_enter Try.func104, Try.ntmps104
  go_wp2_with fail
  go_region_law (refine step_append_room rfl (.tmp 22) (.tmp 25) 35 rfl 82 i0 3 Try.underlying35 hi0 hz1 b 0 i c (by simp [Act.eval, Act.put]) A (n - j) (c - j) news (by simp [Act.eval, Act.put]) s1.out hsrc.out s2.out (by omega) s3.out ?_; rw [← HW.out])
  go_wp2
  go_ret
  have e1 := HJ.out
  subst e1
  refine ⟨rfl, ?_, ?_⟩
  · rw [HW.out, HN.out]; exact HE.out
  · rw [HW.out]
    exact grown_setCellsF _ _ (grown_setCellsF _ _ ⟨rfl, rfl, rfl, Nat.le_refl _, fun _ _ _ => rfl⟩)
end Go.Proofs.Ytkmoiphcpmhacaa
namespace Go.Proofs.Ytkmoiphcpmhacaa
open Go.RowKit

theorem del_oneF (base b n c i : Nat) (hs : List Fh) (w : World) (h : w.ownsRow base 82 3 (.slice (some ⟨b, 0, none⟩) n c) n (fcells hs)) (hi : i < n) (hn : n ≤ 4000000000) :
    Calls Try.prog 104 #[.slice (some ⟨b, 0, none⟩) n c, .int .i64 i, .int .i64 ((i : Int) + 1)] w (DelPostF w base b n c i hs) :=
  del_anyF base b n c i (i + 1) hs w h hi rfl hn
theorem erase_get {α : Type} {l : List α} {k j : Nat} {x : α} (h : (l.eraseIdx k)[j]? = some x) : l[if j < k then j else j + 1]? = some x := by
  rw [List.getElem?_eraseIdx] at h
  split
  · rename_i hlt; rw [if_pos hlt] at h; exact h
  · rename_i hlt; rw [if_neg hlt] at h; exact h
theorem do_erase {w w3 : World} {lo b n c m k : Nat} {hs : List Fh} {fs : List Flw} (D : DO w lo (.slice (some ⟨b, 0, none⟩) n c) n hs fs) (hg : w.grownBy w3 (some b)) (ho : w3.ownsRow lo 82 3 (.slice (some ⟨b, 0, none⟩) m c) m (fcells (hs.eraseIdx k))) :
    DO w3 lo (.slice (some ⟨b, 0, none⟩) m c) m (hs.eraseIdx k) (fs.eraseIdx k) := by
  refine ⟨ho, by rw [List.length_eraseIdx, List.length_eraseIdx, D.len], fun j h f h1 h2 => ?_, fun i j h g hij h1 h2 => ?_⟩
  · obtain ⟨e1, e2, e3, e4, e5⟩ := D.all _ h f (erase_get h1) (erase_get h2)
    refine ⟨e1, e2, e3, e4.kept hg ?_, e5⟩
    rcases hub : h.sl.ownBlock with _ | g
    · exact .inl rfl
    · exact .inr fun e => e5 g hub (by injection e with e; rw [← e]; rfl)
  · refine D.apart _ _ h g (fun e => hij ?_) (erase_get h1) (erase_get h2)
    split at e <;> split at e <;> omega
/-- one flow's packets, kept when the row turns -/
theorem do_waits {w w3 : World} {lo b n c k : Nat} {hs : List Fh} {fs : List Flw} {h : Fh} {f : Flw} (D : DO w lo (.slice (some ⟨b, 0, none⟩) n c) n hs fs) (hg : w.grownBy w3 (some b)) (h1 : hs[k]? = some h) (h2 : fs[k]? = some f) :
    w3.ownsRow lo 29 4 h.sl h.n (pcells f.ws) ∧ h.n = f.ws.length ∧ ∀ (j : Nat) (g : Fh), (hs.eraseIdx k)[j]? = some g → ∀ x, h.sl.ownBlock = some x → g.sl.ownBlock ≠ some x := by
  obtain ⟨e1, e2, e3, e4, e5⟩ := D.all _ h f h1 h2
  refine ⟨e4.kept hg ?_, by have := e4.1; rw [pcells_len] at this; omega, fun j g hj => D.apart _ _ h g ?_ h1 (erase_get hj)⟩
  · rcases hub : h.sl.ownBlock with _ | g
    · exact .inl rfl
    · exact .inr fun e => e5 g hub (by injection e with e; rw [← e]; rfl)
  · split <;> omega
def LvOk (q : Int) (fs : List Flw) (x : Int) : Prop := RV q fs ∧ 0 ≤ x ∧ x ≤ 7
def LvYes (w : World) (q : Int) (fs : List Flw) (x : Int) (e : Ending) (w' : World) : Prop :=
  ∃ A n c hs At nt ct, e = .returned (.tuple #[.agg #[.int .i64 q, (.slice A n c)], .slice At nt ct, .bool true]) ∧ DO w' w.heap.size (.slice A n c) n hs (leaveL fs x) ∧ nt = (wOf fs x).length ∧ w'.ownsRow w.heap.size 29 4 (.slice At nt ct) nt (pcells (wOf fs x)) ∧
    (∀ g, Value.ownBlock (.slice At nt ct) = some g → Value.ownBlock (.slice A n c) ≠ some g) ∧ (∀ (j : Nat) (h : Fh), hs[j]? = some h → ∀ g, Value.ownBlock (.slice At nt ct) = some g → h.sl.ownBlock ≠ some g) ∧ Below w.heap.size w w'
def LvYesS (w : World) (q : Int) (fs : List Flw) (x : Int) (e : Ending) (w' : World) : Prop :=
  ∃ A n c At nt ct, e = .returned (.tuple #[.agg #[.int .i64 q, (.slice A n c)], .slice At nt ct, .bool true]) ∧ FR w' A n (leaveL fs x) ∧ nt = (wOf fs x).length ∧ w'.ownsRow w.heap.size 29 4 (.slice At nt ct) nt (pcells (wOf fs x)) ∧ Below w.heap.size w w'
def WoYes (w : World) (fs : List Flw) (x : Int) (e : Ending) (w' : World) : Prop :=
  ∃ At nt ct, e = .returned (.tuple #[.slice At nt ct, .bool true]) ∧ nt = (wOf fs x).length ∧ w'.ownsRow w.heap.size 29 4 (.slice At nt ct) nt (pcells (wOf fs x)) ∧ Below w.heap.size w w'
theorem leave_none {fs : List Flw} {x : Int} (h : ¬ fix fs x < fs.length) : leaveL fs x = fs ∧ wOf fs x = [] ∧ plN fs x = -1 := by
  refine ⟨?_, w_far h, if_neg h⟩
  unfold leaveL
  have := fix_le fs x
  exact List.eraseIdx_of_length_le (by omega)
theorem leave_some {fs : List Flw} {x : Int} (h : fix fs x < fs.length) : ∃ f, fs[fix fs x]? = some f ∧ wOf fs x = f.ws ∧ plN fs x = (fix fs x : Int) := by
  obtain ⟨f, hf, -⟩ := fix_lt h
  exact ⟨f, hf, w_fix hf, if_pos h⟩
set_option maxHeartbeats 2000000 in
theorem lvI_no (q : Int) (A : Option Addr) (n c : Nat) (fs : List Flw) (x : Int) (w : World) (h : FR w A n fs) (hk : ¬ LvOk q fs x) :
    Calls Try.prog 70 #[.agg #[.int .i64 q, (.slice A n c)], .int .i64 x] w (TbNo w) := by
  have H := Lib.hid h
  have F := Lib.hid (show Fm w (bx2 w q A n c) _ from fm_two w 37 37 #[.int .i64 q, (.slice A n c)] #[.int .i64 0, (.slice none 0 0)])
  obtain ⟨v, hv⟩ : ∃ v, rvB q fs = v := ⟨_, rfl⟩
  have hb : v = false ∨ (v = true ∧ inB x 0 7 = false) := by
    rcases v with _ | _
    · exact .inl rfl
    · exact .inr ⟨rfl, by simp only [inB, decide_eq_false_iff_not]; exact fun h => hk ⟨rv_iff.1 hv, h.1, h.2⟩⟩
  have HR := Lib.hid hv
  clear h hk hv
  rcases hb with rfl | ⟨rfl, hb⟩
  · go_enter Try.func70, Try.ntmps70
    go_wp2_with (go_at_call 57
                 refine (rvI_any q A n c fs _ (fr_belowF H.out F.out.below)).mono ?_
                 rintro e w1 ⟨rfl, hb1⟩
                 rw [HR.out]
                 have F1 := Lib.hid (fm_below F.out hb1)
                 obtain ⟨o0, o1, of0, of1⟩ := blk_two (fm_blk F1.out 1 rfl)
                 clear hb1)
    refine bodyPost_ret (v := .tuple #[.agg #[.int .i64 0, (.slice none 0 0)], .slice none 0 0, .bool false]) (by simp [results, Try.results70, go_sem, o0, o1]) rfl ⟨none, 0, rfl, World.ownsRow_nil _ _ _ _, ?_⟩
    iterate 2 (with_reducible refine Below.setCell ?_ (by simp <;> omega) _)
    exact F1.out.below
  · go_enter Try.func70, Try.ntmps70
    go_wp2_with (first
      | (go_at_call 57
         refine (rvI_any q A n c fs _ (fr_belowF H.out F.out.below)).mono ?_
         rintro e w1 ⟨rfl, hb1⟩
         rw [HR.out]
         have F1 := Lib.hid (fm_below F.out hb1)
         obtain ⟨o0, o1, of0, of1⟩ := blk_two (fm_blk F1.out 1 rfl)
         clear hb1)
      | (go_at_call 62; refine (within_any _ _ _ _).mono ?_; rintro e w' ⟨rfl, rfl⟩))
    refine bodyPost_ret (v := .tuple #[.agg #[.int .i64 0, (.slice none 0 0)], .slice none 0 0, .bool false]) (by simp [results, Try.results70, go_sem, o0, o1]) rfl ⟨none, 0, rfl, World.ownsRow_nil _ _ _ _, ?_⟩
    iterate 2 (with_reducible refine Below.setCell ?_ (by simp <;> omega) _)
    exact F1.out.below
set_option maxHeartbeats 4000000 in
theorem lvI_yes (q : Int) (A : Option Addr) (n c : Nat) (fs : List Flw) (x : Int) (w : World) (h : FR w A n fs) (hk : LvOk q fs x) :
    Calls Try.prog 70 #[.agg #[.int .i64 q, (.slice A n c)], .int .i64 x] w (LvYes w q fs x) := by
  have H := Lib.hid h
  have F := Lib.hid (show Fm w (bx2 w q A n c) _ from fm_two w 37 37 #[.int .i64 q, (.slice A n c)] #[.int .i64 0, (.slice none 0 0)])
  have HR := Lib.hid (rv_yes hk.1)
  have h8 := rv_len hk.1
  have hin : inB x 0 7 = true := by simp only [inB, decide_eq_true_eq]; exact hk.2
  clear h hk
  by_cases hlt : fix fs x < fs.length
  · obtain ⟨f, hf, hw, hp⟩ := leave_some hlt
    obtain ⟨k, hk⟩ : ∃ k, k = fix fs x := ⟨_, rfl⟩
    rw [← hk] at hf hp hlt
    have HF := Lib.hid hf
    have HW := Lib.hid hw
    have HP := Lib.hid hp
    have HL : Hid (leaveL fs x = fs.eraseIdx k) := Lib.hid (by rw [hk]; rfl)
    have hd : decide ((k : Int) < 0) = false := decide_eq_false (by omega)
    clear hf hw hp hk
    go_enter Try.func70, Try.ntmps70
    go_wp2_with (first
      | (go_at_call 57
         refine (rvI_any q A n c fs _ (fr_belowF H.out F.out.below)).mono ?_
         rintro e w1 ⟨rfl, hb1⟩
         rw [HR.out]
         have F1 := Lib.hid (fm_below F.out hb1)
         obtain ⟨g0, g1, -⟩ := blk_two (fm_blk F1.out 0 rfl)
         clear hb1)
      | (go_at_call 62; refine (within_any _ _ _ _).mono ?_; rintro e w' ⟨rfl, rfl⟩; rw [hin])
      | (go_at_call 59
         refine (copyRI_any q A n c fs _ (fr_belowF H.out F1.out.below)).mono ?_
         rintro e w2 ⟨A2, n2, c2, hs2, rfl, rfl, -, -, hD, hb2⟩
         have F2 := Lib.hid (fm_below F1.out hb2)
         have D2 := Lib.hid hD
         have Z2 := Lib.hid hb2.size
         clear hb2 hD g0 g1
         obtain ⟨g0, g1, -⟩ := blk_two (fm_blk F2.out 0 rfl)
         have zg0 := blk_lt (fm_blk F2.out 0 rfl))
      | (go_at_call 103
         refine (placeI_any q A n c fs x _ (fr_belowF H.out (below_alloc F2.out.below _))).mono ?_
         rintro e w3 ⟨rfl, hb3⟩
         rw [HP.out]
         have F3 := Lib.hid (fm_below F2.out (below_seq1 (Below.refl _ _) hb3))
         have D3 := Lib.hid (do_below D2.out (below_seq1 (Below.refl _ _) hb3))
         have B3 := Lib.hid (blk_below (blk_new w2 37 #[.int .i64 q, (.slice A2 fs.length c2)]) hb3 (by simp))
         have z3 := blk_lt B3.out
         obtain ⟨g, cap, hv, hg1, hg2⟩ := D3.out.row.form (by omega)
         obtain ⟨rfl, rfl⟩ : A2 = some ⟨g, 0, none⟩ ∧ c2 = cap := (by injection hv with a1 a2 a3; exact ⟨a1, a3⟩)
         obtain ⟨l0, l1, lf0, lf1⟩ := blk_two B3.out
         obtain ⟨b', off', hk, e1, hb', hhk, c0, c1, c2'⟩ := hr_at (k := k) (hr_own D3.out.row) hlt
         obtain ⟨rfl, rfl⟩ : g = b' ∧ 0 = off' := (by injection e1 with e1; injection e1 with a1 a2; exact ⟨a1, a2⟩)
         simp only [Nat.zero_add] at c0 c1 c2'
         have HH := Lib.hid hhk
         clear hb3 g0 g1 hv e1 hhk))
    refine (del_oneF w1.heap.size g fs.length c2 k hs2 _ (own_mono D3.out.row (by simp)) hlt (by omega)).mono ?_
    rintro e w4 ⟨rfl, ho4, hg4⟩
    have hgR : g < w2.heap.size := (D2.out.row.lt g rfl).2
    have hgl : w1.heap.size ≤ g := (D2.out.row.lt g rfl).1
    have zw1 : w.heap.size + 2 ≤ w1.heap.size := by have := blk_lt (fm_blk F1.out 1 rfl); omega
    have zw2 : w1.heap.size ≤ w2.heap.size := by have := Z2.out; omega
    have D4 := Lib.hid (do_erase (do_mono D3.out (Nat.le_refl _)) hg4 ho4)
    have HW4 := Lib.hid (do_waits D3.out hg4 HH.out HF.out)
    have F4 := Lib.hid (fm_grownO F3.out hg4 fun b e => ⟨by injection e with e; omega, bx2_hi (by injection e with e; omega)⟩)
    have B4 := Lib.hid (blk_grownQ B3.out hg4 (fun e => by injection e with e; omega))
    have NE := Lib.hid (show ∀ (j : Nat) (h : Fh), (hs2.eraseIdx k)[j]? = some h → ∀ b, h.sl.ownBlock = some b → b ≠ w2.heap.size from fun j h hj b e => by
      have hj2 := erase_get hj
      obtain ⟨f', hf'⟩ : ∃ f', fs[if j < k then j else j + 1]? = some f' := ⟨_, List.getElem?_eq_getElem (by
        rw [← D2.out.len]
        rcases Nat.lt_or_ge (if j < k then j else j + 1) hs2.length with hlt | hge
        · exact hlt
        · rw [List.getElem?_eq_none hge] at hj2; cases hj2)⟩
      have := ((D2.out.all _ h f' hj2 hf').2.2.2.1.lt b e).2
      omega)
    have NH := Lib.hid (show ∀ b, hk.sl.ownBlock = some b → b < w2.heap.size from fun b e => ((D2.out.all k hk f HH.out HF.out).2.2.2.1.lt b e).2)
    have NG := Lib.hid (show ∀ b, hk.sl.ownBlock = some b → b ≠ g from fun b e h => (D2.out.all k hk f HH.out HF.out).2.2.2.2 b e (by rw [h]; rfl))
    obtain ⟨l0, l1, lf0, lf1⟩ := blk_two B4.out
    obtain ⟨o0, o1, of0, of1⟩ := blk_two (fm_blk F4.out 1 rfl)
    have zb4 := blk_lt (fm_blk F4.out 1 rfl)
    have z4 := blk_lt B4.out
    have zn : w.heap.size + 1 < w2.heap.size := by omega
    clear hg4 ho4 c0 c1 c2' z3 hg1 hg2 hb' zg0 F1 F2 F3 D2 D3 B3
    go_wp2_with fail
    refine bodyPost_ret (v := .tuple #[.agg #[.int .i64 q, (.slice (some ⟨g, 0, none⟩) (k + (fs.length - (k + 1))) c2)], .slice hk.A hk.n hk.c, .bool true]) (by simp [results, Try.results70, go_sem, o0, o1]) rfl ⟨_, _, _, hs2.eraseIdx k, _, _, _, rfl, ?_, by rw [HW4.out.2.1, HW.out], ?_, fun b e e2 => NG.out b e (by injection e2 with e2; exact e2.symm), fun j h hj b e => HW4.out.2.2 j h hj b e, ?_⟩
    · rw [HL.out]
      refine do_mono (lo := w1.heap.size) ?_ (by omega)
      iterate 2 (with_reducible refine do_far ?_ (by simp <;> omega) _)
      exact do_ne D4.out (fun b e => by obtain rfl : g = b := Option.some.inj e; simp; omega) (fun j h hj b e => NE.out j h hj b e) _
    · rw [HW.out]
      refine own_mono (base := w1.heap.size) ?_ (by omega)
      iterate 2 (with_reducible refine own_set_far ?_ (by simp <;> omega) _)
      exact own_set_ne HW4.out.1 (fun e => by have := NH.out _ e; simp at this) _
    · iterate 3 (with_reducible refine Below.setCell ?_ (by simp <;> omega) _)
      exact F4.out.below
  · obtain ⟨hL, hW, hP⟩ := leave_none hlt
    have HL := Lib.hid hL
    have HW := Lib.hid hW
    have HP := Lib.hid hP
    clear hL hW hP hlt
    go_enter Try.func70, Try.ntmps70
    go_wp2_with (first
      | (go_at_call 57
         refine (rvI_any q A n c fs _ (fr_belowF H.out F.out.below)).mono ?_
         rintro e w1 ⟨rfl, hb1⟩
         rw [HR.out]
         have F1 := Lib.hid (fm_below F.out hb1)
         obtain ⟨g0, g1, -⟩ := blk_two (fm_blk F1.out 0 rfl)
         clear hb1)
      | (go_at_call 62; refine (within_any _ _ _ _).mono ?_; rintro e w' ⟨rfl, rfl⟩; rw [hin])
      | (go_at_call 59
         refine (copyRI_any q A n c fs _ (fr_belowF H.out F1.out.below)).mono ?_
         rintro e w2 ⟨A2, n2, c2, hs2, rfl, -, -, -, hD, hb2⟩
         have F2 := Lib.hid (fm_below F1.out hb2)
         have D2 := Lib.hid hD
         have Z2 := Lib.hid hb2.size
         clear hb2 hD g0 g1
         obtain ⟨g0, g1, -⟩ := blk_two (fm_blk F2.out 0 rfl)
         have zg0 := blk_lt (fm_blk F2.out 0 rfl))
      | (go_at_call 103
         refine (placeI_any q A n c fs x _ (fr_belowF H.out (below_alloc F2.out.below _))).mono ?_
         rintro e w3 ⟨rfl, hb3⟩
         rw [HP.out]
         have F3 := Lib.hid (fm_below F2.out (below_seq1 (Below.refl _ _) hb3))
         have D3 := Lib.hid (do_below D2.out (below_seq1 (Below.refl _ _) hb3))
         have B3 := Lib.hid (blk_below (blk_new w2 37 #[.int .i64 q, (.slice A2 n2 c2)]) hb3 (by simp))
         have z3 := blk_lt B3.out
         obtain ⟨l0, l1, lf0, lf1⟩ := blk_two B3.out
         obtain ⟨o0, o1, of0, of1⟩ := blk_two (fm_blk F3.out 1 rfl)
         have zb4 := blk_lt (fm_blk F3.out 1 rfl)
         have zw1 : w.heap.size + 2 ≤ w1.heap.size := (by have := blk_lt (fm_blk F1.out 1 rfl); omega)
         clear hb3 g0 g1))
    refine bodyPost_ret (v := .tuple #[.agg #[.int .i64 q, (.slice A2 n2 c2)], .slice none 0 0, .bool true]) (by simp [results, Try.results70, go_sem, o0, o1]) rfl ⟨_, _, _, hs2, _, _, _, rfl, ?_, by rw [HW.out]; rfl, ?_, fun b e => (by simp [Value.ownBlock] at e), fun j h hj b e => (by simp [Value.ownBlock] at e), ?_⟩
    · rw [HL.out]
      refine do_mono (lo := w1.heap.size) ?_ (by omega)
      iterate 2 (with_reducible refine do_far ?_ (by simp <;> omega) _)
      exact D3.out
    · rw [HW.out]
      exact World.ownsRow_nil _ _ _ _
    · iterate 2 (with_reducible refine Below.setCell ?_ (by simp <;> omega) _)
      exact F3.out.below
set_option maxHeartbeats 1000000 in
theorem woI_no (q : Int) (A : Option Addr) (n c : Nat) (fs : List Flw) (x : Int) (w : World) (h : FR w A n fs) (hk : ¬ LvOk q fs x) :
    Calls Try.prog 33 #[.agg #[.int .i64 q, (.slice A n c)], .int .i64 x] w (TaNo w) := by
  have H := Lib.hid h
  have HK := Lib.hid hk
  clear h hk
  go_enter Try.func33, Try.ntmps33
  go_wp2_with (go_at_call 70
               refine (lvI_no q A n c fs x _ (fr_allocF H.out _) HK.out).mono ?_
               rintro e w1 ⟨At, ct, rfl, ho, hb1⟩
               have B1 := Lib.hid (below_seq1 (Below.refl _ _) hb1)
               have O1 := Lib.hid (own_mono (b2 := w.heap.size) ho (by simp))
               clear ho hb1)
  go_ret2
  exact ⟨At, ct, rfl, O1.out.alloc _, below_alloc B1.out _⟩
set_option maxHeartbeats 1000000 in
theorem woI_yes (q : Int) (A : Option Addr) (n c : Nat) (fs : List Flw) (x : Int) (w : World) (h : FR w A n fs) (hk : LvOk q fs x) :
    Calls Try.prog 33 #[.agg #[.int .i64 q, (.slice A n c)], .int .i64 x] w (WoYes w fs x) := by
  have H := Lib.hid h
  have HK := Lib.hid hk
  clear h hk
  go_enter Try.func33, Try.ntmps33
  go_wp2_with (go_at_call 70
               refine (lvI_yes q A n c fs x _ (fr_allocF H.out _) HK.out).mono ?_
               rintro e w1 ⟨A1, n1, c1, hs1, At, nt, ct, rfl, -, hnt, ho, -, -, hb1⟩
               have B1 := Lib.hid (below_seq1 (Below.refl _ _) hb1)
               have O1 := Lib.hid (own_mono (b2 := w.heap.size) ho (by simp))
               have HNT := Lib.hid hnt
               clear ho hb1 hnt)
  go_ret2
  exact ⟨At, nt, ct, rfl, HNT.out, O1.out.alloc _, below_alloc B1.out _⟩
end Go.Proofs.Ytkmoiphcpmhacaa
namespace Go.Proofs.Ytkmoiphcpmhacaa
open Go.RowKit

set_option maxHeartbeats 2000000 in
theorem woS_no (q : Int) (A : Option Addr) (n c : Nat) (fs : List Flw) (x : Int) (w : World) (h : FR w A n fs) (hk : ¬ LvOk q fs x) :
    Calls Try.prog 105 #[.agg #[.int .i64 q, (.slice A n c)], .int .i64 x] w (TaNo w) := by
  have H := Lib.hid h
  have B0 := Lib.hid (below_alloc (Below.refl w.heap.size w) (.cells #[.int .i64 q, (.slice A n c)] 37))
  obtain ⟨v, hv⟩ : ∃ v, rvB q fs = v := ⟨_, rfl⟩
  have hb : v = false ∨ (v = true ∧ x < 0) ∨ (v = true ∧ 0 ≤ x ∧ 8 ≤ x) := by
    rcases v with _ | _
    · exact .inl rfl
    · have := fun h => hk ⟨rv_iff.1 hv, h⟩
      rcases Int.lt_or_le x 0 with hx | hx
      · exact .inr (.inl ⟨rfl, hx⟩)
      · exact .inr (.inr ⟨rfl, hx, by rcases Int.lt_or_le 7 x with h | h; exact h; exact absurd ⟨hx, h⟩ this⟩)
  have HR := Lib.hid hv
  clear h hk hv
  rcases hb with rfl | ⟨rfl, hx⟩ | ⟨rfl, hx, hx2⟩
  · go_enter Try.func105, Try.ntmps105
    go_wp2_with (go_at_call 92
                 refine (rvS_any q A n c fs _ (fr_allocF H.out _)).mono ?_
                 rintro e w1 ⟨rfl, hb1⟩
                 rw [HR.out]
                 have B1 := Lib.hid (below_seq B0.out hb1)
                 clear hb1)
    go_ret2
    exact ⟨_, 0, rfl, own_mono (own_emptyQ rfl) (B1.out.size), below_alloc B1.out _⟩
  · have hd : decide (x < 0) = true := decide_eq_true hx
    go_enter Try.func105, Try.ntmps105
    go_wp2_with (go_at_call 92
                 refine (rvS_any q A n c fs _ (fr_allocF H.out _)).mono ?_
                 rintro e w1 ⟨rfl, hb1⟩
                 rw [HR.out]
                 have B1 := Lib.hid (below_seq B0.out hb1)
                 clear hb1)
    go_ret2
    exact ⟨_, 0, rfl, own_mono (own_emptyQ rfl) (B1.out.size), below_alloc B1.out _⟩
  · have hd : decide (x < 0) = false := decide_eq_false (by omega)
    have hd2 : decide (8 ≤ x) = true := decide_eq_true hx2
    go_enter Try.func105, Try.ntmps105
    go_wp2_with (go_at_call 92
                 refine (rvS_any q A n c fs _ (fr_allocF H.out _)).mono ?_
                 rintro e w1 ⟨rfl, hb1⟩
                 rw [HR.out]
                 have B1 := Lib.hid (below_seq B0.out hb1)
                 clear hb1)
    go_ret2
    exact ⟨_, 0, rfl, own_mono (own_emptyQ rfl) (B1.out.size), below_alloc B1.out _⟩
set_option maxHeartbeats 2000000 in
theorem woS_yes (q : Int) (A : Option Addr) (n c : Nat) (fs : List Flw) (x : Int) (w : World) (h : FR w A n fs) (hk : LvOk q fs x) :
    Calls Try.prog 105 #[.agg #[.int .i64 q, (.slice A n c)], .int .i64 x] w (WoYes w fs x) := by
  have H := Lib.hid h
  have F := Lib.hid (fm_one w 37 #[.int .i64 q, (.slice A n c)])
  have HR := Lib.hid (rv_yes hk.1)
  have hl := (fr_lenF h).1
  have h8 := rv_len hk.1
  have hd1 : decide (x < 0) = false := decide_eq_false (by have := hk.2; omega)
  have hd2 : decide (8 ≤ x) = false := decide_eq_false (by have := hk.2; omega)
  clear h hk
  by_cases hlt : fix fs x < fs.length
  · obtain ⟨f, hf, hw, hp⟩ := leave_some hlt
    obtain ⟨k, hk⟩ : ∃ k, k = fix fs x := ⟨_, rfl⟩
    rw [← hk] at hf hp hlt
    have HF := Lib.hid hf
    have HW := Lib.hid hw
    have HP := Lib.hid hp
    have hkn : k < n := by omega
    have hkn0 : (0 : Int) ≤ (k : Int) := by omega
    have hkn1 : (k : Int) < (n : Int) := by omega
    have hd : decide ((k : Int) < 0) = false := decide_eq_false (by omega)
    clear hf hw hp hk hl
    go_enter Try.func105, Try.ntmps105
    go_wp2_with (first
      | (go_at_call 92
         refine (rvS_any q A n c fs _ (fr_allocF H.out _)).mono ?_
         rintro e w1 ⟨rfl, hb1⟩
         rw [HR.out]
         have F1 := Lib.hid (fm_below F.out hb1)
         obtain ⟨g0, g1, -⟩ := blk_two (fm_blk F1.out 0 rfl)
         clear hb1)
      | (go_at_call 106
         refine (findS_any q A n c fs x _ (fr_belowF H.out F1.out.below)).mono ?_
         rintro e w2 ⟨rfl, hb2⟩
         rw [HP.out]
         have F2 := Lib.hid (fm_below F1.out hb2)
         clear hb2 g0 g1
         obtain ⟨g0, g1, -⟩ := blk_two (fm_blk F2.out 0 rfl)
         have zg0 := blk_lt (fm_blk F2.out 0 rfl)
         obtain ⟨b, off, f', A1, n1, c1, hA, hbl, hf', c0, c1', c2', hpr, hc1, hn1⟩ := fr_cells (fr_belowF H.out F2.out.below) hkn
         obtain rfl := hA
         obtain rfl : f = f' := (by have := HF.out; rw [hf'] at this; exact (Option.some.inj this).symm)
         have PP := Lib.hid hpr
         have O2 := Lib.hid (own_emptyQ (W := w2) rfl)
         clear hpr hf')
      | (at_builtin
         refine wpl_app_pkts _ rfl (.tmp 25) (.tmp 31) rfl w2.heap.size (.slice (some ⟨w2.heap.size, 0, none⟩) 0 0) 0 [] rfl O2.out A1 n1 c1 f.ws rfl (pr_alloc PP.out _) (by omega) (by simp) ?_
         intro v3 w3 ho3 hg3 hat3
         simp only [List.nil_append, Nat.zero_add] at ho3
         obtain ⟨A3, c3, rfl, -, -, -⟩ := own_form ho3
         have B3 := Lib.hid (below_seq F2.out.below (app_belowQ O2.out (below_alloc (Below.refl _ _) _) hg3 (by simp)))
         have O3 := Lib.hid (own_mono (b2 := w.heap.size) ho3 (F2.out.below.size))
         clear ho3 hg3 hat3))
    go_ret2
    exact ⟨A3, n1, c3, rfl, by rw [HW.out]; exact PP.out.1.symm, by rw [HW.out]; exact O3.out, B3.out⟩
  · obtain ⟨-, hW, hP⟩ := leave_none hlt
    have HW := Lib.hid hW
    have HP := Lib.hid hP
    clear hW hP hlt
    go_enter Try.func105, Try.ntmps105
    go_wp2_with (first
      | (go_at_call 92
         refine (rvS_any q A n c fs _ (fr_allocF H.out _)).mono ?_
         rintro e w1 ⟨rfl, hb1⟩
         rw [HR.out]
         have F1 := Lib.hid (fm_below F.out hb1)
         obtain ⟨g0, g1, -⟩ := blk_two (fm_blk F1.out 0 rfl)
         clear hb1)
      | (go_at_call 106
         refine (findS_any q A n c fs x _ (fr_belowF H.out F1.out.below)).mono ?_
         rintro e w2 ⟨rfl, hb2⟩
         rw [HP.out]
         have F2 := Lib.hid (fm_below F1.out hb2)
         clear hb2 g0 g1))
    go_ret2
    exact ⟨_, 0, 0, rfl, by rw [HW.out]; rfl, by rw [HW.out]; exact own_mono (own_emptyQ rfl) F2.out.below.size, below_alloc F2.out.below _⟩
theorem lv_hold {w : World} {R : Nat} {q : Int} {A : Option Addr} {n c : Nat} (B : Blk w R 37 #[.int .i64 q, (.slice A n c)]) : w.cell? ⟨R, 0, none⟩ = some (.int .i64 q) ∧ w.cell? ⟨R, 1, none⟩ = some (.slice A n c) := ⟨blk_cell B 0, blk_cell B 1⟩
theorem do_wl2 {w : World} {lo : Nat} {A : Option Addr} {n c : Nat} {hs : List Fh} {fs : List Flw} (D : DO w lo (.slice A n c) n hs fs) : WL w (fun b => lo ≤ b ∧ b < w.heap.size) hs fs := by
  refine ⟨D.len, fun k h f h1 h2 => ?_⟩
  obtain ⟨e1, e2, e3, e4, -⟩ := D.all k h f h1 h2
  obtain ⟨A2, c2, hv2, hc2, -, hA2⟩ := own_form e4
  obtain ⟨h3, rfl⟩ : h.A = A2 ∧ h.c = c2 := by unfold Fh.sl at hv2; injection hv2 with a1 a2 a3; exact ⟨a1, a3⟩
  exact ⟨e1, e2, pr_own (A := h.A) (n := h.n) (c := h.c) e4, hc2, e3, fun _ b hb => hA2 b (by rw [← h3]; exact hb)⟩
set_option maxHeartbeats 2000000 in
theorem lvS_no (q : Int) (A : Option Addr) (n c : Nat) (fs : List Flw) (x : Int) (w : World) (h : FR w A n fs) (hk : ¬ LvOk q fs x) :
    Calls Try.prog 71 #[.agg #[.int .i64 q, (.slice A n c)], .int .i64 x] w (TbNo w) := by
  have H := Lib.hid h
  have HK := Lib.hid hk
  have F := Lib.hid (show Fm w (bx2 w q A n c) _ from fm_two w 37 37 #[.int .i64 q, (.slice A n c)] #[.int .i64 0, (.slice none 0 0)])
  clear h hk
  go_enter Try.func71, Try.ntmps71
  go_wp2_with (go_at_call 105
               refine (woS_no q A n c fs x _ (fr_belowF H.out F.out.below) HK.out).mono ?_
               rintro e w1 ⟨At, ct, rfl, ho, hb1⟩
               have F1 := Lib.hid (fm_below F.out hb1)
               obtain ⟨o0, o1, of0, of1⟩ := blk_two (fm_blk F1.out 1 rfl)
               have zb := blk_lt (fm_blk F1.out 1 rfl)
               clear ho hb1)
  have BB := blk_alloc (blk_set (blk_set (show Blk w1 (w.heap.size + 1) 37 #[.int .i64 0, (.slice none 0 0)] from fm_blk F1.out 1 rfl) 0 (.int .i64 0)) 1 (.slice none 0 0)) (.cells #[] 29)
  obtain ⟨e0, e1, -, -⟩ := blk_two (x := .int .i64 0) (y := .slice none 0 0) BB
  refine bodyPost_ret (v := .tuple #[.agg #[.int .i64 0, (.slice none 0 0)], .slice (some ⟨w1.heap.size, 0, none⟩) 0 0, .bool false]) (by simp [results, Try.results71, go_sem, e0, e1]) rfl ⟨_, 0, rfl, own_mono (own_emptyQ (by simp)) (by simp; omega), ?_⟩
  refine below_alloc ?_ _
  iterate 2 (with_reducible refine Below.setCell ?_ (by simp <;> omega) _)
  exact F1.out.below
/-- as LvYesS, with the blocks in which the answer's flows lie -/
def LvYesSX (w : World) (q : Int) (fs : List Flw) (x : Int) (e : Ending) (w' : World) : Prop :=
  ∃ A n c At nt ct, e = .returned (.tuple #[.agg #[.int .i64 q, (.slice A n c)], .slice At nt ct, .bool true]) ∧ FRX w' (fun b => w.heap.size ≤ b) A n (leaveL fs x) ∧ nt = (wOf fs x).length ∧ w'.ownsRow w.heap.size 29 4 (.slice At nt ct) nt (pcells (wOf fs x)) ∧ Below w.heap.size w w'
set_option maxHeartbeats 4000000 in
theorem lvS_yesX (q : Int) (A : Option Addr) (n c : Nat) (fs : List Flw) (x : Int) (w : World) (h : FR w A n fs) (hk : LvOk q fs x) :
    Calls Try.prog 71 #[.agg #[.int .i64 q, (.slice A n c)], .int .i64 x] w (LvYesSX w q fs x) := by
  have H := Lib.hid h
  have HK := Lib.hid hk
  have F := Lib.hid (show Fm w (bx2 w q A n c) _ from fm_two w 37 37 #[.int .i64 q, (.slice A n c)] #[.int .i64 0, (.slice none 0 0)])
  have h8 := rv_len hk.1
  clear h hk
  by_cases hlt : fix fs x < fs.length
  · obtain ⟨f, hf, hw, hp⟩ := leave_some hlt
    obtain ⟨k, hk⟩ : ∃ k, k = fix fs x := ⟨_, rfl⟩
    rw [← hk] at hf hp hlt
    have HP := Lib.hid hp
    have HL : Hid (leaveL fs x = fs.eraseIdx k) := Lib.hid (by rw [hk]; rfl)
    have hd : decide (0 ≤ (k : Int)) = true := decide_eq_true (by omega)
    clear hf hw hp hk
    go_enter Try.func71, Try.ntmps71
    go_wp2_with (first
      | (go_at_call 105
         refine (woS_yes q A n c fs x _ (fr_belowF H.out F.out.below) HK.out).mono ?_
         rintro e w1 ⟨At, nt, ct, rfl, hnt, ho, hb1⟩
         have F1 := Lib.hid (fm_below F.out hb1)
         have O1 := Lib.hid (own_mono (b2 := w.heap.size + 2) ho (by simp))
         have NT := Lib.hid hnt
         obtain ⟨g0, g1, -⟩ := blk_two (fm_blk F1.out 0 rfl)
         clear ho hb1 hnt)
      | (go_at_call 102
         refine (copyRS_any q A n c fs _ (fr_belowF H.out F1.out.below)).mono ?_
         rintro e w2 ⟨A2, n2, c2, hs2, rfl, rfl, hnc, hcm, hD, hb2⟩
         have F2 := Lib.hid (fm_below F1.out hb2)
         have O2 := Lib.hid (own_below O1.out hb2)
         have D2 := Lib.hid hD
         have Z2 := Lib.hid hb2.size
         have NC := Lib.hid (And.intro hnc hcm)
         clear hb2 hD g0 g1 hnc hcm
         obtain ⟨g0, g1, -⟩ := blk_two (fm_blk F2.out 0 rfl)
         have zg0 := blk_lt (fm_blk F2.out 0 rfl))
      | (go_at_call 106
         refine (findS_any q A n c fs x _ (fr_belowF H.out (below_alloc F2.out.below _))).mono ?_
         rintro e w3 ⟨rfl, hb3⟩
         rw [HP.out]
         have T3 := Lib.hid (below_seq1 (Below.refl _ _) hb3)
         have F3 := Lib.hid (fm_below F2.out T3.out)
         have B3 := Lib.hid (blk_below (blk_new w2 37 #[.int .i64 q, (.slice A2 fs.length c2)]) hb3 (by simp))
         clear hb3 g0 g1))
    obtain ⟨g, cap, hv, hg1, hg2⟩ := D2.out.row.form (by omega)
    obtain ⟨rfl, rfl⟩ : A2 = some ⟨g, 0, none⟩ ∧ c2 = cap := by injection hv with a1 a2 a3; exact ⟨a1, a3⟩
    have D3 := Lib.hid (do_below D2.out T3.out)
    have O3 := Lib.hid (own_below O2.out T3.out)
    have zR := blk_lt B3.out
    have hnc := NC.out.1
    have x5 : ((k : Int) + 1).toNat = k + 1 := by omega
    have x6 : IntKind.i64.wrap ((k : Int) + 1) = (k : Int) + 1 := IntWalk.i64_in _ (by omega)
    have x7 : (k : Int) + 1 ≤ (fs.length : Int) := by omega
    have x8 : k + 1 ≤ fs.length := by omega
    have x9 : k ≤ c2 := by omega
    have x10 : (0 : Int) ≤ (k : Int) + 1 := by omega
    have x11 : (0 : Int) ≤ (k : Int) := by omega
    obtain ⟨A9, hA9, hP9⟩ : ∃ A9, (if c2 = k + 1 then (some ⟨g, 0, none⟩ : Option Addr) else some ⟨g, (k + 1) * 3, none⟩) = some A9 ∧ Hid (∀ W, HR W (some ⟨g, 0, none⟩) fs.length hs2 → HR W (some A9) (fs.length - (k + 1)) (hs2.drop (k + 1))) := by
      by_cases hc1 : c2 = k + 1
      · refine ⟨_, if_pos hc1, Lib.hid fun W hW => ?_⟩
        have := hr_drop hW x8 hnc
        rw [if_pos hc1] at this
        exact this
      · refine ⟨_, if_neg hc1, Lib.hid fun W hW => ?_⟩
        have := hr_drop hW x8 hnc
        rw [if_neg hc1] at this
        simpa [Addr.add] using this
    have HR3 := Lib.hid (hr_own D3.out.row)
    have hS0 := lv_hold (blk_below B3.out (Below.refl _ _).drew zR)
    clear hv hg1 hg2 zg0
    go_wp2_with fail
    refine held_start (S := (fun w' => w'.cell? ⟨w2.heap.size, 0, none⟩ = some (.int .i64 q) ∧ w'.cell? ⟨w2.heap.size, 1, none⟩ = some (.slice (some ⟨g, 0, none⟩) fs.length c2))) 13 (by kernel_rfl) ?_
    refine held_take (i := 1) (oi := { dst := some 29, op := Op.fieldAddr 37 (Operand.tmp 9) 1, type := 0, pos := "l5_robins.go:175", after := #[], guard := none }) (v := ?_) rfl (by kernel_rfl) (by kernel_rfl) (by kernel_rfl) (by kernel_rfl) (fun _ _ _ h => h) (Or.inl ⟨by rfl, ?_⟩) hS0 ?_
    rotate_left
    · (intro w9 hSw; (try dsimp only at hSw); go_simp; try with_reducible rfl)
    try simp only [Act.put, List.setIfInBounds_toArray, List.set_cons_zero, List.set_cons_succ]
    refine held_take (i := 2) (oi := { dst := some 30, op := Op.load 35 (Operand.tmp 29), type := 35, pos := "l5_robins.go:175", after := #[{ on := 1, ground := Ground.data }], guard := none }) (v := ?_) rfl (by kernel_rfl) (by kernel_rfl) (by kernel_rfl) (by kernel_rfl) (fun _ _ _ h => h) (Or.inl ⟨by rfl, ?_⟩) hS0 ?_
    rotate_left
    · (intro w9 hSw; (try dsimp only at hSw); go_simp; try with_reducible rfl)
    try simp only [Act.put, List.setIfInBounds_toArray, List.set_cons_zero, List.set_cons_succ]
    refine held_take (i := 3) (oi := { dst := some 31, op := Op.move (Operand.tmp 10), type := 3, pos := "l5_robins.go:175", after := #[], guard := none }) (v := ?_) rfl (by kernel_rfl) (by kernel_rfl) (by kernel_rfl) (by kernel_rfl) (fun _ _ _ h => h) (Or.inl ⟨by rfl, ?_⟩) hS0 ?_
    rotate_left
    · (intro w9 hSw; (try dsimp only at hSw); go_simp; try with_reducible rfl)
    try simp only [Act.put, List.setIfInBounds_toArray, List.set_cons_zero, List.set_cons_succ]
    refine held_take (i := 4) (oi := { dst := some 32, op := Op.slice 35 (Operand.tmp 30) none (some (Operand.tmp 31)) none, type := 35, pos := "l5_robins.go:175", after := #[{ on := 2, ground := Ground.data }, { on := 3, ground := Ground.data }], guard := none }) (v := ?_) rfl (by kernel_rfl) (by kernel_rfl) (by kernel_rfl) (by kernel_rfl) (fun _ _ _ h => h) (Or.inl ⟨by rfl, ?_⟩) hS0 ?_
    rotate_left
    · (intro w9 hSw; (try dsimp only at hSw); go_simp; try with_reducible rfl)
    try simp only [Act.put, List.setIfInBounds_toArray, List.set_cons_zero, List.set_cons_succ]
    refine held_take (i := 6) (oi := { dst := some 34, op := Op.fieldAddr 37 (Operand.tmp 9) 1, type := 0, pos := "l5_robins.go:175", after := #[], guard := none }) (v := ?_) rfl (by kernel_rfl) (by kernel_rfl) (by kernel_rfl) (by kernel_rfl) (fun _ _ _ h => h) (Or.inl ⟨by rfl, ?_⟩) hS0 ?_
    rotate_left
    · (intro w9 hSw; (try dsimp only at hSw); go_simp; try with_reducible rfl)
    try simp only [Act.put, List.setIfInBounds_toArray, List.set_cons_zero, List.set_cons_succ]
    refine held_take (i := 7) (oi := { dst := some 35, op := Op.load 35 (Operand.tmp 34), type := 35, pos := "l5_robins.go:175", after := #[{ on := 6, ground := Ground.data }], guard := none }) (v := ?_) rfl (by kernel_rfl) (by kernel_rfl) (by kernel_rfl) (by kernel_rfl) (fun _ _ _ h => h) (Or.inl ⟨by rfl, ?_⟩) hS0 ?_
    rotate_left
    · (intro w9 hSw; (try dsimp only at hSw); go_simp; try with_reducible rfl)
    try simp only [Act.put, List.setIfInBounds_toArray, List.set_cons_zero, List.set_cons_succ]
    refine held_take (i := 8) (oi := { dst := some 36, op := Op.move (Operand.tmp 10), type := 3, pos := "l5_robins.go:175", after := #[], guard := none }) (v := ?_) rfl (by kernel_rfl) (by kernel_rfl) (by kernel_rfl) (by kernel_rfl) (fun _ _ _ h => h) (Or.inl ⟨by rfl, ?_⟩) hS0 ?_
    rotate_left
    · (intro w9 hSw; (try dsimp only at hSw); go_simp; try with_reducible rfl)
    try simp only [Act.put, List.setIfInBounds_toArray, List.set_cons_zero, List.set_cons_succ]
    refine held_take (i := 9) (oi := { dst := some 37, op := Op.binOp BinOp.add 3 (Operand.tmp 36) (Operand.const (Value.int IntKind.i64 1)) 3, type := 3, pos := "l5_robins.go:175", after := #[{ on := 8, ground := Ground.data }], guard := none }) (v := ?_) rfl (by kernel_rfl) (by kernel_rfl) (by kernel_rfl) (by kernel_rfl) (fun _ _ _ h => h) (Or.inl ⟨by rfl, ?_⟩) hS0 ?_
    rotate_left
    · (intro w9 hSw; (try dsimp only at hSw); go_simp; try with_reducible rfl)
    try simp only [Act.put, List.setIfInBounds_toArray, List.set_cons_zero, List.set_cons_succ]
    refine held_take (i := 10) (oi := { dst := some 38, op := Op.slice 35 (Operand.tmp 35) (some (Operand.tmp 37)) none none, type := 35, pos := "l5_robins.go:175", after := #[{ on := 7, ground := Ground.data }, { on := 9, ground := Ground.data }], guard := none }) (v := ?_) rfl (by kernel_rfl) (by kernel_rfl) (by kernel_rfl) (by kernel_rfl) (fun _ _ _ h => h) (Or.inl ⟨by rfl, ?_⟩) hS0 ?_
    rotate_left
    · (intro w9 hSw; (try dsimp only at hSw); go_simp; try with_reducible rfl)
    try simp only [Act.put, List.setIfInBounds_toArray, List.set_cons_zero, List.set_cons_succ]
    refine held_one (i := 0) (o := { dst := some 28, op := Op.buildSlice 35 0 #[], type := 35, pos := "l5_robins.go:175", after := #[], guard := none }) (by kernel_rfl) rfl (fun K hK => ?_)
    go_simp
    have T1 := Lib.hid (show Below w3.heap.size w3 _ from (below_alloc (Below.refl _ _) (.cells #[] 82)).drew)
    have hS1 := lv_hold (blk_below B3.out T1.out zR)
    refine hK.out _ _ (.inr hS1) ?_
    clear hK K
    try simp only [Act.put, List.setIfInBounds_toArray, List.set_cons_zero, List.set_cons_succ]
    refine held_one (i := 5) (o := { dst := some 33, op := Op.call { callee := Callee.builtin Builtin.append, args := #[Operand.tmp 28, Operand.tmp 32], argTypes := #[35, 35] }, type := 35, pos := "l5_robins.go:175", after := #[{ on := 0, ground := Ground.data }, { on := 4, ground := Ground.data }], guard := none }) (by kernel_rfl) rfl (fun K hK => ?_)
    refine step_app_flws _ rfl (.tmp 28) (.tmp 32) rfl w3.heap.size (.slice (some ⟨w3.heap.size, 0, none⟩) 0 0) 0 [] rfl (World.ownsRow.drew (own_emptyF (W := w3) (b := w3.heap.size) rfl)) (some ⟨g, 0, none⟩) k c2 (hs2.take k) rfl (hr_take (hr_below HR3.out T1.out) (by omega)) (by omega) (by simp) ?_
    intro v5 w5 ho5 hg5 hat5
    simp only [List.nil_append, Nat.zero_add] at ho5
    have T5 := Lib.hid (T1.out.grown hg5 T1.out.size fun b e => by simp [Value.ownBlock] at e; omega)
    obtain ⟨A5, c5, rfl, -, -, -⟩ := own_form ho5
    have O5 := Lib.hid ho5
    have hS5 := lv_hold (blk_below B3.out T5.out zR)
    clear hg5 hat5 ho5
    refine hK.out _ _ (.inr hS5) ?_
    clear hK K
    try simp only [Act.put, List.setIfInBounds_toArray, List.set_cons_zero, List.set_cons_succ]
    refine held_one (i := 11) (o := { dst := some 39, op := Op.call { callee := Callee.builtin Builtin.append, args := #[Operand.tmp 33, Operand.tmp 38], argTypes := #[35, 35] }, type := 35, pos := "l5_robins.go:175", after := #[{ on := 5, ground := Ground.data }, { on := 10, ground := Ground.data }, { on := 5, ground := Ground.chain }], guard := none }) (by kernel_rfl) rfl (fun K hK => ?_)
    refine step_app_flws _ rfl (.tmp 33) (.tmp 38) rfl w3.heap.size (.slice A5 k c5) k (hs2.take k) rfl O5.out (some A9) (fs.length - (k + 1)) (c2 - (k + 1)) (hs2.drop (k + 1)) rfl (hP9.out _ (hr_below HR3.out T5.out)) (by omega) T5.out.size ?_
    intro v7 w7 ho7 hg7 hat7
    obtain ⟨A7, c7, rfl, -, -, -⟩ := own_form ho7
    have T7 := Lib.hid (T5.out.grown hg7 T5.out.size fun b e => (O5.out.lt b e).1)
    have O7 := Lib.hid ho7
    obtain ⟨l0', l1', lf0', lf1'⟩ := blk_two (blk_below B3.out T7.out zR)
    have hS7 := lv_hold (blk_below B3.out T7.out zR)
    clear hg7 hat7 ho7
    refine hK.out _ _ (.inr hS7) ?_
    clear hK K
    try simp only [Act.put, List.setIfInBounds_toArray, List.set_cons_zero, List.set_cons_succ]
    refine held_take (i := 12) (oi := { dst := some 40, op := Op.fieldAddr 37 (Operand.tmp 9) 1, type := 0, pos := "l5_robins.go:175", after := #[{ on := 0, ground := Ground.phase }, { on := 1, ground := Ground.phase }, { on := 2, ground := Ground.phase }, { on := 3, ground := Ground.phase }, { on := 4, ground := Ground.phase }, { on := 5, ground := Ground.phase }, { on := 6, ground := Ground.phase }, { on := 7, ground := Ground.phase }, { on := 8, ground := Ground.phase }, { on := 9, ground := Ground.phase }, { on := 10, ground := Ground.phase }, { on := 11, ground := Ground.phase }], guard := none }) (v := ?_) rfl (by kernel_rfl) (by kernel_rfl) (by kernel_rfl) (by kernel_rfl) (fun _ _ _ h => h) (Or.inl ⟨by rfl, ?_⟩) hS7 ?_
    rotate_left
    · (intro w9 hSw; (try dsimp only at hSw); go_simp; try with_reducible rfl)
    try simp only [Act.put, List.setIfInBounds_toArray, List.set_cons_zero, List.set_cons_succ]
    refine held_one (i := 13) (o := { dst := none, op := Op.store 35 (Operand.tmp 40) (Operand.tmp 39), type := 0, pos := "l5_robins.go:175", after := #[{ on := 12, ground := Ground.data }, { on := 11, ground := Ground.data }, { on := 11, ground := Ground.chain }, { on := 0, ground := Ground.phase }, { on := 1, ground := Ground.phase }, { on := 2, ground := Ground.phase }, { on := 3, ground := Ground.phase }, { on := 4, ground := Ground.phase }, { on := 5, ground := Ground.phase }, { on := 6, ground := Ground.phase }, { on := 7, ground := Ground.phase }, { on := 8, ground := Ground.phase }, { on := 9, ground := Ground.phase }, { on := 10, ground := Ground.phase }, { on := 11, ground := Ground.phase }], guard := none }) (by kernel_rfl) rfl (fun K hK => ?_)
    go_simp
    refine hK.out _ _ (.inl rfl) ?_
    clear hK K
    try simp only [Act.put, List.setIfInBounds_toArray, List.set_cons_zero, List.set_cons_succ]
    refine held_done (by kernel_rfl) ?_ _
    clear hS0 hS1 hS5 hS7 l0' l1' lf0' lf1'
    have zw1 : w.heap.size + 2 ≤ w1.heap.size := by have := blk_lt (fm_blk F1.out 1 rfl); omega
    have zw2 : w1.heap.size ≤ w2.heap.size := by have := Z2.out; omega
    have hz3 := T3.out.size
    have F8 := Lib.hid (fm_below F3.out T7.out)
    obtain ⟨o0, o1, of0, of1⟩ := blk_two (fm_blk F8.out 1 rfl)
    have zb8 := blk_lt (fm_blk F8.out 1 rfl)
    have B8 := Lib.hid (blk_below B3.out T7.out zR)
    obtain ⟨l0, l1, -, -⟩ := blk_two B8.out
    have zR8 := blk_lt B8.out
    have zn : w.heap.size + 1 < w2.heap.size := by omega
    have X8 : Hid (FRX w7 (fun b => (w1.heap.size ≤ b ∧ b < w2.heap.size) ∨ w3.heap.size ≤ b) A7 (k + (fs.length - (k + 1))) (leaveL fs x)) := Lib.hid (by
      rw [HL.out]
      have hw := (do_frx D2.out (by omega))
      obtain ⟨hs', e1, -, -, -⟩ := hw
      refine ⟨_, hr_own O7.out, fun _ b hb => .inr ?_, ?_, by omega⟩
      · obtain ⟨A', c', hv, -, -, hA⟩ := own_form O7.out
        obtain rfl : A7 = A' := by injection hv
        exact (hA b hb).1
      · rw [← List.eraseIdx_eq_take_drop_succ]
        exact wl_erase (wl_mono (wl_below (do_wl2 D2.out) (T3.out.trans (T7.out.mono hz3))) fun b hb => .inl hb) k)
    go_wp2_with fail
    refine bodyPost_ret (v := .tuple #[.agg #[.int .i64 q, (.slice A7 (k + (fs.length - (k + 1))) c7)], .slice At nt ct, .bool true]) (by simp [results, Try.results71, go_sem, o0, o1]) rfl ⟨A7, _, c7, At, nt, ct, rfl, ?_, NT.out, ?_, ?_⟩
    · refine frx_mono (X := fun b => (w1.heap.size ≤ b ∧ b < w2.heap.size) ∨ w3.heap.size ≤ b) ?_ (fun b hb => by show w.heap.size ≤ b; omega)
      iterate 3 (with_reducible refine frx_set ?_ (fun hx => by simp at hx; omega) _)
      exact X8.out
    · refine own_mono (base := w.heap.size + 2) ?_ (by omega)
      iterate 2 (with_reducible refine own_set_far ?_ (by simp <;> omega) _)
      refine own_set_ne (own_below O3.out T7.out) (fun e => ?_) _
      have := (O1.out.lt _ e).2
      simp at this
      omega
    · iterate 3 (with_reducible refine Below.setCell ?_ (by simp <;> omega) _)
      exact F8.out.below
  · obtain ⟨hL, -, hP⟩ := leave_none hlt
    have HL := Lib.hid hL
    have HP := Lib.hid hP
    clear hL hP hlt
    go_enter Try.func71, Try.ntmps71
    go_wp2_with (first
      | (go_at_call 105
         refine (woS_yes q A n c fs x _ (fr_belowF H.out F.out.below) HK.out).mono ?_
         rintro e w1 ⟨At, nt, ct, rfl, hnt, ho, hb1⟩
         have F1 := Lib.hid (fm_below F.out hb1)
         have O1 := Lib.hid (own_mono (b2 := w.heap.size + 2) ho (by simp))
         have NT := Lib.hid hnt
         obtain ⟨g0, g1, -⟩ := blk_two (fm_blk F1.out 0 rfl)
         clear ho hb1 hnt)
      | (go_at_call 102
         refine (copyRS_any q A n c fs _ (fr_belowF H.out F1.out.below)).mono ?_
         rintro e w2 ⟨A2, n2, c2, hs2, rfl, hn2, -, -, hD, hb2⟩
         have F2 := Lib.hid (fm_below F1.out hb2)
         have O2 := Lib.hid (own_below O1.out hb2)
         have D2 := Lib.hid (do_frx hD (by omega))
         have Z2 := Lib.hid hb2.size
         clear hb2 hD g0 g1 hn2
         obtain ⟨g0, g1, -⟩ := blk_two (fm_blk F2.out 0 rfl)
         have zg0 := blk_lt (fm_blk F2.out 0 rfl))
      | (go_at_call 106
         refine (findS_any q A n c fs x _ (fr_belowF H.out (below_alloc F2.out.below _))).mono ?_
         rintro e w3 ⟨rfl, hb3⟩
         rw [HP.out]
         have T3 := Lib.hid (below_seq1 (Below.refl _ _) hb3)
         have F3 := Lib.hid (fm_below F2.out T3.out)
         have B3 := Lib.hid (blk_below (blk_new w2 37 #[.int .i64 q, (.slice A2 n2 c2)]) hb3 (by simp))
         obtain ⟨l0, l1, -, -⟩ := blk_two B3.out
         obtain ⟨o0, o1, of0, of1⟩ := blk_two (fm_blk F3.out 1 rfl)
         have zR := blk_lt B3.out
         have zb3 := blk_lt (fm_blk F3.out 1 rfl)
         have zw1 : w.heap.size + 2 ≤ w1.heap.size := (by have := blk_lt (fm_blk F1.out 1 rfl); omega)
         clear hb3 g0 g1))
    refine bodyPost_ret (v := .tuple #[.agg #[.int .i64 q, (.slice A2 n2 c2)], .slice At nt ct, .bool true]) (by simp [results, Try.results71, go_sem, o0, o1]) rfl ⟨A2, _, c2, At, nt, ct, rfl, ?_, NT.out, ?_, ?_⟩
    · rw [HL.out]
      refine frx_mono (X := fun b => w1.heap.size ≤ b ∧ b < w2.heap.size) ?_ (fun b hb => by show w.heap.size ≤ b; omega)
      iterate 2 (with_reducible refine frx_set ?_ (fun hx => by simp at hx; omega) _)
      exact frx_below D2.out T3.out
    · refine own_mono (base := w.heap.size + 2) ?_ (by omega)
      iterate 2 (with_reducible refine own_set_far ?_ (by simp <;> omega) _)
      exact own_below O2.out T3.out
    · iterate 2 (with_reducible refine Below.setCell ?_ (by simp <;> omega) _)
      exact F3.out.below
theorem lvS_yes (q : Int) (A : Option Addr) (n c : Nat) (fs : List Flw) (x : Int) (w : World) (h : FR w A n fs) (hk : LvOk q fs x) :
    Calls Try.prog 71 #[.agg #[.int .i64 q, (.slice A n c)], .int .i64 x] w (LvYesS w q fs x) :=
  (lvS_yesX q A n c fs x w h hk).mono fun _ _ hp => by
    obtain ⟨A2, n2, c2, At, nt, ct, rfl, h1, h2, h3, h4⟩ := hp
    exact ⟨A2, n2, c2, At, nt, ct, rfl, frx_fr h1, h2, h3, h4⟩
end Go.Proofs.Ytkmoiphcpmhacaa
