/-
  The draws of the arguments of scores' functions: what they return, whatever the bytes. Conditions: none.
-/
import Derived.Test.YtffgblphimjipabDSc
namespace Go.Proofs.Ytffgblphimjipab
open Go.RowKit

/-- a bucket at block b, and all older memory as it was -/
structure KeepC (w : World) (b : Nat) (r s l t : Int) (w' : World) : Prop where
  it : Blk w' b 24 #[.int .i64 r, .int .i64 s, .int .i64 l, .int .i64 t]
  below : Below w.heap.size w w'
  lt : w.heap.size < b
/-- the result, zeros, at the first new block -/
def OutZ (w w' : World) : Prop := Blk w' w.heap.size 24 #[.int .i64 0, .int .i64 0, .int .i64 0, .int .i64 0]
section
variable {w w1 w2 : World} {b g : Nat} {r s l t : Int}
theorem kc_below (h : KeepC w b r s l t w1) (hb : Below w1.heap.size w1 w2) : KeepC w b r s l t w2 :=
  ⟨blk_below h.it hb (blk_lt h.it), h.below.trans (hb.mono h.below.size), h.lt⟩
theorem kc_alloc (h : KeepC w b r s l t w1) (o : Obj) : KeepC w b r s l t (w1.alloc o) := kc_below h (below_alloc (Below.refl _ _) o)
theorem kc_drew (h : KeepC w b r s l t w1) : KeepC w b r s l t w1.drew := ⟨h.it, h.below.drew, h.lt⟩
theorem kc_grown (h : KeepC w b r s l t w1) (hb : w1.grownBy w2 (some g)) (hg : b < g) : KeepC w b r s l t w2 :=
  ⟨blk_grown h.it hb (by omega), below_grown h.below h.below.size hb (by have := h.lt; omega), h.lt⟩
theorem kc_set (h : KeepC w b r s l t w1) (k : Nat) (v : Value) : KeepC w b r s l t (w1.setCell ⟨w.heap.size, k, none⟩ v) :=
  ⟨blk_far h.it (by have := h.lt; simp; omega) v, h.below.setCell (Nat.le_refl _) v, h.lt⟩
theorem kc_cells (h : KeepC w b r s l t w1) : w1.cell? ⟨b, 0, none⟩ = some (.int .i64 r) ∧ w1.cell? ⟨b, 1, none⟩ = some (.int .i64 s) ∧ w1.cell? ⟨b, 2, none⟩ = some (.int .i64 l) ∧ w1.cell? ⟨b, 3, none⟩ = some (.int .i64 t) ∧ KeepC w b r s l t w1 :=
  ⟨blk_cell h.it 0, blk_cell h.it 1, blk_cell h.it 2, blk_cell h.it 3, h⟩
theorem kc_of (h : w1.cell? ⟨b, 0, none⟩ = some (.int .i64 r) ∧ w1.cell? ⟨b, 1, none⟩ = some (.int .i64 s) ∧ w1.cell? ⟨b, 2, none⟩ = some (.int .i64 l) ∧ w1.cell? ⟨b, 3, none⟩ = some (.int .i64 t) ∧ KeepC w b r s l t w1) : KeepC w b r s l t w1 := h.2.2.2.2
theorem oz_below (h : OutZ w w1) (hb : Below w1.heap.size w1 w2) : OutZ w w2 := blk_below h hb (blk_lt h)
theorem oz_alloc (h : OutZ w w1) (o : Obj) : OutZ w (w1.alloc o) := blk_alloc h o
theorem oz_grown (h : OutZ w w1) (hb : w1.grownBy w2 (some g)) (hg : w.heap.size < g) : OutZ w w2 := blk_grown h hb (by omega)
theorem oz_cells (h : OutZ w w1) : (w1.cell? ⟨w.heap.size, 0, none⟩ = some (.int .i64 0) ∧ w1.cell? ⟨w.heap.size, 1, none⟩ = some (.int .i64 0) ∧ w1.cell? ⟨w.heap.size, 2, none⟩ = some (.int .i64 0) ∧ w1.cell? ⟨w.heap.size, 3, none⟩ = some (.int .i64 0)) ∧
    w1.frozen? ⟨w.heap.size, 0, none⟩ = false ∧ w1.frozen? ⟨w.heap.size, 1, none⟩ = false ∧ w1.frozen? ⟨w.heap.size, 2, none⟩ = false ∧ w1.frozen? ⟨w.heap.size, 3, none⟩ = false :=
  ⟨⟨blk_cell h 0, blk_cell h 1, blk_cell h 2, blk_cell h 3⟩, blk_free h 0, blk_free h 1, blk_free h 2, blk_free h 3⟩
end
set_option maxHeartbeats 400000 in
theorem num_ne (g q b n : Nat) (t : TypeId) (cs : Array Value) (xs : List Int) (w : World) (h : RdAt w g q) (hB : Blk w b t cs) (hq : q ≤ 1000000) (hg : b ≠ g) (hx : xs.length = n ∧ 0 < n) (hcs : cs.toList = xs.map (Value.int .i64)) :
    Calls Try.prog 54 #[.pointer (some ⟨g, 0, none⟩), .slice (some ⟨b, 0, none⟩) n n] w (NumPost w g (q + 1) xs) := by
  obtain ⟨hn, hx'⟩ := hx
  have HN := Lib.hid hn
  have HB := Lib.hid hB
  have hlt := blk_lt hB
  have HC : Hid (∀ k x, xs[k]? = some x → w.cell? ⟨b, k, none⟩ = some (.int .i64 x)) := Lib.hid (fun k x hk => by rw [blk_cell hB, ← Array.getElem?_toList, hcs, List.getElem?_map, hk]; rfl)
  clear hn hB hcs
  go_enter Try.func54, Try.ntmps54
  go_wp2_with fail
  refine (pick_any g q _ _ h hq (by omega)).mono ?_
  rintro e w1 ⟨k, rfl, hk, hgr, hrd⟩
  have hkn : k < n := by omega
  have e1 : w1.cell? ⟨b, k, none⟩ = some (.int .i64 (xs[k]'(by rw [HN.out]; exact hkn))) :=
    (g_cell hgr hlt hg).trans (HC.out k _ (List.getElem?_eq_getElem (by rw [HN.out]; exact hkn)))
  have HG := Lib.hid hgr
  have HR := Lib.hid hrd
  clear hgr hrd h
  obtain ⟨x, hxx⟩ : ∃ x, x = xs[k]'(by rw [HN.out]; exact hkn) := ⟨_, rfl⟩
  rw [← hxx] at e1
  have hmem : x ∈ xs := by rw [hxx]; exact List.getElem_mem _
  clear hxx
  go_wp2
  go_ret
  exact ⟨x, hmem, rfl, HG.out, HR.out⟩
def DrawnBkt (w : World) (e : Ending) (w' : World) : Prop := ∃ r s l t : Int, e = .returned (.agg #[.int .i64 r, .int .i64 s, .int .i64 l, .int .i64 t]) ∧ Below w.heap.size w w'
set_option maxHeartbeats 1000000 in
theorem drawScoreValid_any (A : Option Addr) (n c : Nat) (w : World) (h : Bytes w A n c) :
    Calls Try.prog 15 #[.slice A n c] w (DrawnBkt w) := by
  go_enter Try.func15, Try.ntmps15
  go_wp2_with fail
  refine (open_any A n c _ (bytes_below h (below_alloc (Below.refl _ _) _))).mono ?_
  rintro e w1 ⟨g, rfl, hg, hb, hr⟩
  have hg1 := rd_lt hr
  have HB := Lib.hid hb
  clear hb
  go_wp2_with fail
  refine (l7Draw_any g 0 _ hr (by omega)).mono ?_
  rintro e w2 ⟨r, s, l, t, rfl, hp, hgr2, hr2⟩
  have G2 := Lib.hid hgr2
  clear hp hgr2 hr
  go_wp2_with fail
  refine (l7Wrong_any g _ r s l t _ hr2 (by omega)).mono ?_
  rintro e w3 ⟨r3, s3, l3, t3, rfl, hgr3, hr3⟩
  have G3 := Lib.hid (G2.out.trans hgr3)
  clear hgr3 hr2
  go_wp2_with fail
  refine (l7Wrong_any g _ r3 s3 l3 t3 _ hr3 (by omega)).mono ?_
  rintro e w4 ⟨r4, s4, l4, t4, rfl, hgr4, hr4⟩
  have G4 := Lib.hid (G3.out.trans hgr4)
  clear hgr4 hr3
  have hne : w.heap.size < g := by simp at hg; omega
  have E := Lib.hid (show Blk w4 (w.heap.size) 24 #[.int .i64 0, .int .i64 0, .int .i64 0, .int .i64 0] from (blk_grown (blk_below (blk_new w 24 #[.int .i64 0, .int .i64 0, .int .i64 0, .int .i64 0]) HB.out (by simp)) G4.out (by omega)))
  have Ec0 : World.cell? w4 ⟨w.heap.size, 0, none⟩ = some (.int .i64 0) := blk_cell E.out 0
  have Ef0 : World.frozen? w4 ⟨w.heap.size, 0, none⟩ = false := blk_free E.out 0
  have Ec1 : World.cell? w4 ⟨w.heap.size, 1, none⟩ = some (.int .i64 0) := blk_cell E.out 1
  have Ef1 : World.frozen? w4 ⟨w.heap.size, 1, none⟩ = false := blk_free E.out 1
  have Ec2 : World.cell? w4 ⟨w.heap.size, 2, none⟩ = some (.int .i64 0) := blk_cell E.out 2
  have Ef2 : World.frozen? w4 ⟨w.heap.size, 2, none⟩ = false := blk_free E.out 2
  have Ec3 : World.cell? w4 ⟨w.heap.size, 3, none⟩ = some (.int .i64 0) := blk_cell E.out 3
  have Ef3 : World.frozen? w4 ⟨w.heap.size, 3, none⟩ = false := blk_free E.out 3
  have BW := Lib.hid (below_grown (below_from (below_alloc (Below.refl w.heap.size w) (.cells #[.int .i64 0, .int .i64 0, .int .i64 0, .int .i64 0] 24)) HB.out (by simp)) (by have := HB.out.size; simp at this; omega) G4.out (by omega))
  clear hr4 hg1 hne hg
  go_wp2
  refine bodyPost_ret (v := .agg #[.int .i64 r4, .int .i64 s4, .int .i64 l4, .int .i64 t4]) (by simp [results, Try.results15, go_sem, Ec0, Ec1, Ec2, Ec3]) rfl ⟨r4, s4, l4, t4, rfl, ?_⟩
  exact (((BW.out.setCell (Nat.le_refl _) _).setCell (Nat.le_refl _) _).setCell (Nat.le_refl _) _).setCell (Nat.le_refl _) _
set_option maxHeartbeats 1000000 in
theorem drawFreeAt_any (A : Option Addr) (n c : Nat) (w : World) (h : Bytes w A n c) :
    Calls Try.prog 21 #[.slice A n c] w (DrawnBkt w) := by
  go_enter Try.func21, Try.ntmps21
  go_wp2_with fail
  refine (l7Case_any A n c _ (bytes_below h (below_alloc (Below.refl _ _) _))).mono ?_
  rintro e w1 ⟨r, s, l, t, m, rfl, hb⟩
  have hz := hb.size
  simp at hz
  have hlt : w1.heap.size ≠ w.heap.size := by omega
  have X := Lib.hid (show Blk (w1.alloc (.cells #[.int .i64 r, .int .i64 s, .int .i64 l, .int .i64 t] 24)) w.heap.size 24 #[.int .i64 0, .int .i64 0, .int .i64 0, .int .i64 0] ∧ Blk (w1.alloc (.cells #[.int .i64 r, .int .i64 s, .int .i64 l, .int .i64 t] 24)) w1.heap.size 24 #[.int .i64 r, .int .i64 s, .int .i64 l, .int .i64 t] ∧ Below w.heap.size w (w1.alloc (.cells #[.int .i64 r, .int .i64 s, .int .i64 l, .int .i64 t] 24)) from
    ⟨blk_alloc (blk_below (blk_new w _ #[.int .i64 0, .int .i64 0, .int .i64 0, .int .i64 0]) hb (by simp)) _, blk_new w1 _ _, below_alloc (below_from (below_alloc (Below.refl _ _) _) hb (by simp)) _⟩)
  clear hb hz h
  go_upto_region 2 with fail
  generalize w1.alloc (.cells #[.int .i64 r, .int .i64 s, .int .i64 l, .int .i64 t] 24) = W at X ⊢
  have E := Lib.hid (show Blk W (w.heap.size) 24 #[.int .i64 0, .int .i64 0, .int .i64 0, .int .i64 0] from (X.out.1))
  have Ec0 : World.cell? W ⟨w.heap.size, 0, none⟩ = some (.int .i64 0) := blk_cell E.out 0
  have Ef0 : World.frozen? W ⟨w.heap.size, 0, none⟩ = false := blk_free E.out 0
  have Ec1 : World.cell? W ⟨w.heap.size, 1, none⟩ = some (.int .i64 0) := blk_cell E.out 1
  have Ef1 : World.frozen? W ⟨w.heap.size, 1, none⟩ = false := blk_free E.out 1
  have Ec2 : World.cell? W ⟨w.heap.size, 2, none⟩ = some (.int .i64 0) := blk_cell E.out 2
  have Ef2 : World.frozen? W ⟨w.heap.size, 2, none⟩ = false := blk_free E.out 2
  have Ec3 : World.cell? W ⟨w.heap.size, 3, none⟩ = some (.int .i64 0) := blk_cell E.out 3
  have Ef3 : World.frozen? W ⟨w.heap.size, 3, none⟩ = false := blk_free E.out 3
  have D := Lib.hid (show Blk W (w1.heap.size) 24 #[.int .i64 r, .int .i64 s, .int .i64 l, .int .i64 t] from (X.out.2.1))
  have Dc0 : World.cell? W ⟨w1.heap.size, 0, none⟩ = some (.int .i64 r) := blk_cell D.out 0
  have Df0 : World.frozen? W ⟨w1.heap.size, 0, none⟩ = false := blk_free D.out 0
  have Dc1 : World.cell? W ⟨w1.heap.size, 1, none⟩ = some (.int .i64 s) := blk_cell D.out 1
  have Df1 : World.frozen? W ⟨w1.heap.size, 1, none⟩ = false := blk_free D.out 1
  have Dc2 : World.cell? W ⟨w1.heap.size, 2, none⟩ = some (.int .i64 l) := blk_cell D.out 2
  have Df2 : World.frozen? W ⟨w1.heap.size, 2, none⟩ = false := blk_free D.out 2
  have Dc3 : World.cell? W ⟨w1.heap.size, 3, none⟩ = some (.int .i64 t) := blk_cell D.out 3
  have Df3 : World.frozen? W ⟨w1.heap.size, 3, none⟩ = false := blk_free D.out 3
  clear D E
  go_wp2
  refine bodyPost_ret (v := .agg #[.int .i64 r, .int .i64 s, .int .i64 l, .int .i64 t]) (by simp [results, Try.results21, go_sem, Ec0, Ec1, Ec2, Ec3]) rfl ⟨r, s, l, t, rfl, ?_⟩
  repeat refine Below.setCell ?_ (by simp) _
  exact X.out.2.2
end Go.Proofs.Ytffgblphimjipab
