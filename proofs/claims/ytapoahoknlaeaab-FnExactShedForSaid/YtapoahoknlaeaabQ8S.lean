/-
  Chapter 3: ShedFor: what the model returns. Conditions: the slice has at most 4000000000 packets.
-/
import Derived.Test.YtapoahoknlaeaabQ8
import Derived.Test.YtapoahoknlaeaabQ6S
namespace Go.Proofs.Ytapoahoknlaeaab
open Go.RowKit

theorem ibL {x lim : Int} (h : inB x 0 lim = false) : x < 0 ∨ lim < x := by
  simp only [inB, decide_eq_false_iff_not] at h; omega
set_option maxHeartbeats 1000000 in
theorem shedS_no (lim : Int) (A : Option Addr) (n c : Nat) (ps : List Pkt) (x : Int) (w : World) (h : PR w A n ps) (hn : n ≤ 4000000000) (hk : shedOk lim ps x = false) :
    Calls Try.prog 40 #[.agg #[.int .i64 lim, (.slice A n c)], .int .i64 x] w (QPostL w 0 [] [] false) := by
  have F := Lib.hid (fr_alloc (fr_drop h lim c) (.cells #[] 51))
  have E := Lib.hid (own_emptyQ (W := ((w.alloc (.cells #[.int .i64 lim, (.slice A n c)] 25)).alloc (.cells #[.int .i64 0, (.slice none 0 0)] 25))) (b := w.heap.size + 2) (by simp))
  clear h
  rcases shed_no hk with hq | ⟨hq, hx⟩
  · have HQ := Lib.hid hq
    clear hq hk
    go_enter Try.func40, Try.ntmps40
    go_wp2_with fail
    refine (qvS_any lim A n c ps _ F.out.pr (by omega)).mono ?_
    rintro e w1 ⟨rfl, hb⟩
    rw [HQ.out]
    replace F := Lib.hid (fr_below F.out hb)
    have E1 := Lib.hid (own_below E.out hb)
    have z1 := F.out.lt
    simp [dropBs] at z1
    have y1 : w.heap.size < w1.heap.size := by omega
    have y2 : w.heap.size + 1 < w1.heap.size := by omega
    clear hb
    have F0c0 : World.cell? w1 ⟨w.heap.size, 0, none⟩ = some (.int .i64 lim) := blk_cell (F.out.it 0 _ _ rfl) 0
    have F0f0 : World.frozen? w1 ⟨w.heap.size, 0, none⟩ = false := blk_free (F.out.it 0 _ _ rfl) 0
    have F0c1 : World.cell? w1 ⟨w.heap.size, 1, none⟩ = some ((.slice A n c)) := blk_cell (F.out.it 0 _ _ rfl) 1
    have F0f1 : World.frozen? w1 ⟨w.heap.size, 1, none⟩ = false := blk_free (F.out.it 0 _ _ rfl) 1
    have F1c0 : World.cell? w1 ⟨w.heap.size + 1, 0, none⟩ = some (.int .i64 0) := blk_cell (F.out.it 1 _ _ rfl) 0
    have F1f0 : World.frozen? w1 ⟨w.heap.size + 1, 0, none⟩ = false := blk_free (F.out.it 1 _ _ rfl) 0
    have F1c1 : World.cell? w1 ⟨w.heap.size + 1, 1, none⟩ = some ((.slice none 0 0)) := blk_cell (F.out.it 1 _ _ rfl) 1
    have F1f1 : World.frozen? w1 ⟨w.heap.size + 1, 1, none⟩ = false := blk_free (F.out.it 1 _ _ rfl) 1
    go_wp2
    refine bodyPost_ret (v := .tuple #[.agg #[.int .i64 0, (.slice none 0 0)], .slice (some ⟨w.heap.size + 2, 0, none⟩) 0 0, .bool false]) (by simp [results, Try.results40, go_sem, F1c0, F1c1]) rfl (qpostl_mk rfl (World.ownsRow_nil _ _ _ _) (gs := []) ?_ (fun b e => by cases e) ?_)
    · exact own_mono (own_set_far (own_set_far E1.out (by simp) _) (by simp) _) (by simp <;> omega)
    · exact Below.setCell (Below.setCell F.out.below (by simp) _) (by simp) _
  · have HQ := Lib.hid hq
    have hx' := ibL hx
    clear hq hk hx
    by_cases h0 : x < 0
    · clear hx'
      go_enter Try.func40, Try.ntmps40
      go_wp2_with fail
      refine (qvS_any lim A n c ps _ F.out.pr (by omega)).mono ?_
      rintro e w1 ⟨rfl, hb⟩
      rw [HQ.out]
      replace F := Lib.hid (fr_below F.out hb)
      have E1 := Lib.hid (own_below E.out hb)
      have z1 := F.out.lt
      simp [dropBs] at z1
      have y1 : w.heap.size < w1.heap.size := by omega
      have y2 : w.heap.size + 1 < w1.heap.size := by omega
      clear hb
      have F0c0 : World.cell? w1 ⟨w.heap.size, 0, none⟩ = some (.int .i64 lim) := blk_cell (F.out.it 0 _ _ rfl) 0
      have F0f0 : World.frozen? w1 ⟨w.heap.size, 0, none⟩ = false := blk_free (F.out.it 0 _ _ rfl) 0
      have F0c1 : World.cell? w1 ⟨w.heap.size, 1, none⟩ = some ((.slice A n c)) := blk_cell (F.out.it 0 _ _ rfl) 1
      have F0f1 : World.frozen? w1 ⟨w.heap.size, 1, none⟩ = false := blk_free (F.out.it 0 _ _ rfl) 1
      have F1c0 : World.cell? w1 ⟨w.heap.size + 1, 0, none⟩ = some (.int .i64 0) := blk_cell (F.out.it 1 _ _ rfl) 0
      have F1f0 : World.frozen? w1 ⟨w.heap.size + 1, 0, none⟩ = false := blk_free (F.out.it 1 _ _ rfl) 0
      have F1c1 : World.cell? w1 ⟨w.heap.size + 1, 1, none⟩ = some ((.slice none 0 0)) := blk_cell (F.out.it 1 _ _ rfl) 1
      have F1f1 : World.frozen? w1 ⟨w.heap.size + 1, 1, none⟩ = false := blk_free (F.out.it 1 _ _ rfl) 1
      go_wp2
      refine bodyPost_ret (v := .tuple #[.agg #[.int .i64 0, (.slice none 0 0)], .slice (some ⟨w.heap.size + 2, 0, none⟩) 0 0, .bool false]) (by simp [results, Try.results40, go_sem, F1c0, F1c1]) rfl (qpostl_mk rfl (World.ownsRow_nil _ _ _ _) (gs := []) ?_ (fun b e => by cases e) ?_)
      · exact own_mono (own_set_far (own_set_far E1.out (by simp) _) (by simp) _) (by simp <;> omega)
      · exact Below.setCell (Below.setCell F.out.below (by simp) _) (by simp) _
    · have e0 : decide (x < 0) = false := by simp; omega
      have h8 : lim < x := by omega
      clear h0 hx'
      go_enter Try.func40, Try.ntmps40
      go_wp2_with fail
      refine (qvS_any lim A n c ps _ F.out.pr (by omega)).mono ?_
      rintro e w1 ⟨rfl, hb⟩
      rw [HQ.out]
      replace F := Lib.hid (fr_below F.out hb)
      have E1 := Lib.hid (own_below E.out hb)
      have z1 := F.out.lt
      simp [dropBs] at z1
      have y1 : w.heap.size < w1.heap.size := by omega
      have y2 : w.heap.size + 1 < w1.heap.size := by omega
      clear hb
      have F0c0 : World.cell? w1 ⟨w.heap.size, 0, none⟩ = some (.int .i64 lim) := blk_cell (F.out.it 0 _ _ rfl) 0
      have F0f0 : World.frozen? w1 ⟨w.heap.size, 0, none⟩ = false := blk_free (F.out.it 0 _ _ rfl) 0
      have F0c1 : World.cell? w1 ⟨w.heap.size, 1, none⟩ = some ((.slice A n c)) := blk_cell (F.out.it 0 _ _ rfl) 1
      have F0f1 : World.frozen? w1 ⟨w.heap.size, 1, none⟩ = false := blk_free (F.out.it 0 _ _ rfl) 1
      have F1c0 : World.cell? w1 ⟨w.heap.size + 1, 0, none⟩ = some (.int .i64 0) := blk_cell (F.out.it 1 _ _ rfl) 0
      have F1f0 : World.frozen? w1 ⟨w.heap.size + 1, 0, none⟩ = false := blk_free (F.out.it 1 _ _ rfl) 0
      have F1c1 : World.cell? w1 ⟨w.heap.size + 1, 1, none⟩ = some ((.slice none 0 0)) := blk_cell (F.out.it 1 _ _ rfl) 1
      have F1f1 : World.frozen? w1 ⟨w.heap.size + 1, 1, none⟩ = false := blk_free (F.out.it 1 _ _ rfl) 1
      go_wp2
      refine bodyPost_ret (v := .tuple #[.agg #[.int .i64 0, (.slice none 0 0)], .slice (some ⟨w.heap.size + 2, 0, none⟩) 0 0, .bool false]) (by simp [results, Try.results40, go_sem, F1c0, F1c1]) rfl (qpostl_mk rfl (World.ownsRow_nil _ _ _ _) (gs := []) ?_ (fun b e => by cases e) ?_)
      · exact own_mono (own_set_far (own_set_far E1.out (by simp) _) (by simp) _) (by simp <;> omega)
      · exact Below.setCell (Below.setCell F.out.below (by simp) _) (by simp) _
structure SS (w : World) (L : Nat) (lim : Int) (A : Option Addr) (n c : Nat) (ps : List Pkt) (A2 : Option Addr) (m c2 : Nat) (cur : List Pkt) (Ag : Option Addr) (mg cg : Nat) (gone : List Pkt) (w' : World) : Prop where
  fr : Fr w (dropBs lim A n c) A n ps w'
  l : Blk w' L 25 #[.int .i64 lim, .slice A2 m c2]
  own : w'.ownsRow (w.heap.size + 2) 51 4 (.slice A2 m c2) m (pcells cur)
  gown : w'.ownsRow (w.heap.size + 2) 51 4 (.slice Ag mg cg) mg (pcells gone)
  ne1 : Value.ownBlock (.slice A2 m c2) ≠ some L
  ne2 : Value.ownBlock (.slice Ag mg cg) ≠ some L
  sep : ∀ b, Value.ownBlock (.slice A2 m c2) = some b → Value.ownBlock (.slice Ag mg cg) ≠ some b
  hL : w.heap.size + 2 ≤ L
section
variable {w w1 w2 : World} {L : Nat} {lim : Int} {A : Option Addr} {n c : Nat} {ps : List Pkt} {A2 : Option Addr} {m c2 : Nat} {cur : List Pkt} {Ag : Option Addr} {mg cg : Nat} {gone : List Pkt}
theorem ss_below (h : SS w L lim A n c ps A2 m c2 cur Ag mg cg gone w1) (hb : Below w1.heap.size w1 w2) : SS w L lim A n c ps A2 m c2 cur Ag mg cg gone w2 :=
  ⟨fr_below h.fr hb, blk_below h.l hb (blk_lt h.l), own_below h.own hb, own_below h.gown hb, h.ne1, h.ne2, h.sep, h.hL⟩
theorem ss_alloc (h : SS w L lim A n c ps A2 m c2 cur Ag mg cg gone w1) (o : Obj) : SS w L lim A n c ps A2 m c2 cur Ag mg cg gone (w1.alloc o) := ss_below h (below_alloc (Below.refl _ _) o)
theorem ss_drewN (h : SS w L lim A n c ps A2 m c2 cur Ag mg cg gone w1) (k : Nat) : SS w L lim A n c ps A2 m c2 cur Ag mg cg gone (w1.drewN k) := ⟨fr_drewN h.fr k, h.l, h.own, h.gown, h.ne1, h.ne2, h.sep, h.hL⟩
theorem ss_drew (h : SS w L lim A n c ps A2 m c2 cur Ag mg cg gone w1) : SS w L lim A n c ps A2 m c2 cur Ag mg cg gone w1.drew := ⟨fr_drew h.fr, h.l, h.own, h.gown, h.ne1, h.ne2, h.sep, h.hL⟩
/-- the row of what went out grows -/
theorem ss_app {Ag2 : Option Addr} {mg2 cg2 : Nat} {gone2 : List Pkt} (h : SS w L lim A n c ps A2 m c2 cur Ag mg cg gone w1) (hg : w1.grownBy w2 (Value.ownBlock (.slice Ag mg cg))) (ho : w2.ownsRow (w.heap.size + 2) 51 4 (.slice Ag2 mg2 cg2) mg2 (pcells gone2))
    (hat : Value.ownBlock (.slice Ag2 mg2 cg2) = Value.ownBlock (.slice Ag mg cg) ∨ Value.ownBlock (.slice Ag2 mg2 cg2) = some w1.heap.size) : SS w L lim A n c ps A2 m c2 cur Ag2 mg2 cg2 gone2 w2 := by
  have hr : ∀ g, Value.ownBlock (.slice Ag mg cg) = some g → w.heap.size + 2 ≤ g := fun g e => (h.gown.lt g e).1
  have hlt := blk_lt h.l
  refine ⟨fr_grown h.fr hg (fun g e => by have := hr g e; simp [dropBs]; omega), blk_grownQ h.l hg (fun e => h.ne2 e.symm), h.own.kept hg ?_, ho, h.ne1, ?_, ?_, h.hL⟩
  · rcases hv : Value.ownBlock (.slice A2 m c2) with _ | b
    · exact .inl rfl
    · exact .inr (fun e => h.sep b hv e.symm)
  · rcases hat with e | e
    · rw [e]; exact h.ne2
    · rw [e]; intro e2; injection e2 with e2; omega
  · intro b hb
    have := (h.own.lt b hb).2
    rcases hat with e | e
    · rw [e]; exact h.sep b hb
    · rw [e]; intro e2; injection e2 with e2; omega
/-- a new row of what stays, stored -/
theorem ss_row {A3 : Option Addr} {m3 c3 : Nat} {cur3 : List Pkt} (h : SS w L lim A n c ps A2 m c2 cur Ag mg cg gone w1) (hb : Below w1.heap.size w1 w2) (ho : w2.ownsRow w1.heap.size 51 4 (.slice A3 m3 c3) m3 (pcells cur3)) :
    SS w L lim A n c ps A3 m3 c3 cur3 Ag mg cg gone (w2.setCell ⟨L, 1, none⟩ (.slice A3 m3 c3)) := by
  have hlt := blk_lt h.l
  have hL := h.hL
  have hs := h.fr.lt
  simp [dropBs] at hs
  have hne : Value.ownBlock (.slice A3 m3 c3) ≠ some L := fun e => by have := (ho.lt L e).1; omega
  exact ⟨fr_set (fr_below h.fr hb) (by simp [dropBs]; omega) _, blk_set (blk_below h.l hb hlt) 1 _, own_set_ne (own_mono ho (by omega)) hne _, own_set_ne (own_below h.gown hb) h.ne2 _, hne, h.ne2, fun b e e2 => by have := (ho.lt b e).1; have := (h.gown.lt b e2).2; omega, hL⟩
end
def SsRel (w : World) (L : Nat) (lim size : Int) (A : Option Addr) (n c : Nat) (ps : List Pkt) (sh : Value) (wr : World) : Prop :=
  ∃ (cur gone : List Pkt) (A2 : Option Addr) (m c2 : Nat) (Ag : Option Addr) (mg cg : Nat), sh = .slice Ag mg cg ∧ qvB lim cur = true ∧ shedF lim size cur.length cur gone = shed lim size ps ∧ m + mg = n ∧ SS w L lim A n c ps A2 m c2 cur Ag mg cg gone wr
theorem last_stop {ps : List Pkt} {x : Int} {j i : Nat} {p : Pkt} (h : lastN ps x (j + 1) = (i : Int)) (hp : ps[j]? = some p) : (p.peer = x → j = i) ∧ (¬ p.peer = x → lastN ps x j = (i : Int) ∧ i < j) := by
  refine ⟨fun hx => ?_, fun hx => ?_⟩
  · rw [lastN_hit hp hx] at h; omega
  · rw [lastN_miss hp hx] at h
    have := lastN_bd ps x j
    exact ⟨h, by omega⟩
end Go.Proofs.Ytapoahoknlaeaab
