/-
  The draws of the arguments of scores' functions: what they return, whatever the bytes. Conditions: none.
-/
import Derived.Test.YtffgblphimjipaaDSc
namespace Go.Proofs.Ytffgblphimjipaa
open Go.RowKit

/-- a bucket at block b, and all older memory as it was -/
structure KeepC (w : World) (b : Nat) (r s l t : Int) (w' : World) : Prop where
  it : Blk w' b 24 #[.int .i64 r, .int .i64 s, .int .i64 l, .int .i64 t]
  below : Below w.heap.size w w'
  lt : w.heap.size < b
/-- the result, zeros, at the first new block -/
def OutZ (w w' : World) : Prop := Blk w' w.heap.size 24 #[.int .i64 0, .int .i64 0, .int .i64 0, .int .i64 0]
section
variable {w w1 w2 : World} {b g : Nat} {r s l t : Int}
theorem kc_below (h : KeepC w b r s l t w1) (hb : Below w1.heap.size w1 w2) : KeepC w b r s l t w2 :=
  ⟨blk_below h.it hb (blk_lt h.it), h.below.trans (hb.mono h.below.size), h.lt⟩
theorem kc_alloc (h : KeepC w b r s l t w1) (o : Obj) : KeepC w b r s l t (w1.alloc o) := kc_below h (below_alloc (Below.refl _ _) o)
theorem kc_drew (h : KeepC w b r s l t w1) : KeepC w b r s l t w1.drew := ⟨h.it, h.below.drew, h.lt⟩
theorem kc_grown (h : KeepC w b r s l t w1) (hb : w1.grownBy w2 (some g)) (hg : b < g) : KeepC w b r s l t w2 :=
  ⟨blk_grown h.it hb (by omega), below_grown h.below h.below.size hb (by have := h.lt; omega), h.lt⟩
theorem kc_set (h : KeepC w b r s l t w1) (k : Nat) (v : Value) : KeepC w b r s l t (w1.setCell ⟨w.heap.size, k, none⟩ v) :=
  ⟨blk_far h.it (by have := h.lt; simp; omega) v, h.below.setCell (Nat.le_refl _) v, h.lt⟩
theorem kc_cells (h : KeepC w b r s l t w1) : w1.cell? ⟨b, 0, none⟩ = some (.int .i64 r) ∧ w1.cell? ⟨b, 1, none⟩ = some (.int .i64 s) ∧ w1.cell? ⟨b, 2, none⟩ = some (.int .i64 l) ∧ w1.cell? ⟨b, 3, none⟩ = some (.int .i64 t) ∧ KeepC w b r s l t w1 :=
  ⟨blk_cell h.it 0, blk_cell h.it 1, blk_cell h.it 2, blk_cell h.it 3, h⟩
theorem kc_of (h : w1.cell? ⟨b, 0, none⟩ = some (.int .i64 r) ∧ w1.cell? ⟨b, 1, none⟩ = some (.int .i64 s) ∧ w1.cell? ⟨b, 2, none⟩ = some (.int .i64 l) ∧ w1.cell? ⟨b, 3, none⟩ = some (.int .i64 t) ∧ KeepC w b r s l t w1) : KeepC w b r s l t w1 := h.2.2.2.2
theorem oz_below (h : OutZ w w1) (hb : Below w1.heap.size w1 w2) : OutZ w w2 := blk_below h hb (blk_lt h)
theorem oz_alloc (h : OutZ w w1) (o : Obj) : OutZ w (w1.alloc o) := blk_alloc h o
theorem oz_grown (h : OutZ w w1) (hb : w1.grownBy w2 (some g)) (hg : w.heap.size < g) : OutZ w w2 := blk_grown h hb (by omega)
theorem oz_cells (h : OutZ w w1) : (w1.cell? ⟨w.heap.size, 0, none⟩ = some (.int .i64 0) ∧ w1.cell? ⟨w.heap.size, 1, none⟩ = some (.int .i64 0) ∧ w1.cell? ⟨w.heap.size, 2, none⟩ = some (.int .i64 0) ∧ w1.cell? ⟨w.heap.size, 3, none⟩ = some (.int .i64 0)) ∧
    w1.frozen? ⟨w.heap.size, 0, none⟩ = false ∧ w1.frozen? ⟨w.heap.size, 1, none⟩ = false ∧ w1.frozen? ⟨w.heap.size, 2, none⟩ = false ∧ w1.frozen? ⟨w.heap.size, 3, none⟩ = false :=
  ⟨⟨blk_cell h 0, blk_cell h 1, blk_cell h 2, blk_cell h 3⟩, blk_free h 0, blk_free h 1, blk_free h 2, blk_free h 3⟩
end
set_option maxHeartbeats 400000 in
theorem num_ne (g q b n : Nat) (t : TypeId) (cs : Array Value) (xs : List Int) (w : World) (h : RdAt w g q) (hB : Blk w b t cs) (hq : q ≤ 1000000) (hg : b ≠ g) (hx : xs.length = n ∧ 0 < n) (hcs : cs.toList = xs.map (Value.int .i64)) :
    Calls Try.prog 37 #[.pointer (some ⟨g, 0, none⟩), .slice (some ⟨b, 0, none⟩) n n] w (NumPost w g (q + 1) xs) := by
  obtain ⟨hn, hx'⟩ := hx
  have HN := Lib.hid hn
  have HB := Lib.hid hB
  have hlt := blk_lt hB
  have HC : Hid (∀ k x, xs[k]? = some x → w.cell? ⟨b, k, none⟩ = some (.int .i64 x)) := Lib.hid (fun k x hk => by rw [blk_cell hB, ← Array.getElem?_toList, hcs, List.getElem?_map, hk]; rfl)
  clear hn hB hcs
  go_enter Try.func37, Try.ntmps37
  go_wp2_with fail
  refine (pick_any g q _ _ h hq (by omega)).mono ?_
  rintro e w1 ⟨k, rfl, hk, hgr, hrd⟩
  have hkn : k < n := by omega
  have e1 : w1.cell? ⟨b, k, none⟩ = some (.int .i64 (xs[k]'(by rw [HN.out]; exact hkn))) :=
    (g_cell hgr hlt hg).trans (HC.out k _ (List.getElem?_eq_getElem (by rw [HN.out]; exact hkn)))
  have HG := Lib.hid hgr
  have HR := Lib.hid hrd
  clear hgr hrd h
  obtain ⟨x, hxx⟩ : ∃ x, x = xs[k]'(by rw [HN.out]; exact hkn) := ⟨_, rfl⟩
  rw [← hxx] at e1
  have hmem : x ∈ xs := by rw [hxx]; exact List.getElem_mem _
  clear hxx
  go_wp2
  go_ret
  exact ⟨x, hmem, rfl, HG.out, HR.out⟩
def CountPost (w : World) (e : Ending) (w' : World) : Prop :=
  ∃ r s l t n c : Int, e = .returned (.tuple #[.agg #[.int .i64 r, .int .i64 s, .int .i64 l, .int .i64 t], .int .i64 n, .int .i64 c]) ∧ Below w.heap.size w w'
set_option maxHeartbeats 4000000 in
theorem drawBlame_any (A : Option Addr) (n c : Nat) (w : World) (h : Bytes w A n c) :
    Calls Try.prog 15 #[.slice A n c] w (CountPost w) := by
  go_enter Try.func15, Try.ntmps15
  go_wp2_with fail
  refine (l7Case_any A n c _ (bytes_below h (below_alloc (Below.refl _ _) _))).mono ?_
  rintro e w1 ⟨r, s, l, t, m, rfl, hb⟩
  have hz := hb.size
  have h1 := bytes_below (bytes_below h (below_alloc (Below.refl _ _) _)) hb
  have K : KeepC w w1.heap.size r s l t (w1.alloc (.cells #[.int .i64 r, .int .i64 s, .int .i64 l, .int .i64 t] 24)) :=
    ⟨blk_new w1 _ _, below_alloc (below_from (below_alloc (Below.refl _ _) _) hb (by simp)) _, by simp at hz; omega⟩
  have HK := Lib.hid K
  have HO := Lib.hid (show OutZ w (w1.alloc (.cells #[.int .i64 r, .int .i64 s, .int .i64 l, .int .i64 t] 24)) from blk_alloc (blk_below (blk_new w _ #[.int .i64 0, .int .i64 0, .int .i64 0, .int .i64 0]) hb (by simp)) _)
  have hy1 : Bytes (w1.alloc (.cells #[.int .i64 r, .int .i64 s, .int .i64 l, .int .i64 t] 24)) A n c := bytes_below h1 (below_alloc (Below.refl _ _) _)
  have hy2 : Bytes ((w1.alloc (.cells #[.int .i64 r, .int .i64 s, .int .i64 l, .int .i64 t] 24)).alloc (.cells #[.int .i64 10, .int .i64 50, .int .i64 100, .int .i64 0, .int .i64 1, .int .i64 99, .int .i64 1000, .int .i64 (-1), .int .i64 1001] 3)) A n c := bytes_below hy1 (below_alloc (Below.refl _ _) _)
  have HY := Lib.hid (And.intro hy1 hy2)
  have HB2 := Lib.hid (show Blk ((w1.alloc (.cells #[.int .i64 r, .int .i64 s, .int .i64 l, .int .i64 t] 24)).alloc (.cells #[.int .i64 10, .int .i64 50, .int .i64 100, .int .i64 0, .int .i64 1, .int .i64 99, .int .i64 1000, .int .i64 (-1), .int .i64 1001] 3)).drew (w1.heap.size + 1) 3 #[.int .i64 10, .int .i64 50, .int .i64 100, .int .i64 0, .int .i64 1, .int .i64 99, .int .i64 1000, .int .i64 (-1), .int .i64 1001] from blk_new2 _ _ _ _)
  clear hb h1 hy1 hy2 K
  go_wp2_with fail
  have hS := kc_cells (kc_drew HK.out)
  go_region_held3 (fun w' => w'.cell? ⟨w1.heap.size, 0, none⟩ = some (.int .i64 r) ∧ w'.cell? ⟨w1.heap.size, 1, none⟩ = some (.int .i64 s) ∧ w'.cell? ⟨w1.heap.size, 2, none⟩ = some (.int .i64 l) ∧ w'.cell? ⟨w1.heap.size, 3, none⟩ = some (.int .i64 t) ∧ KeepC w w1.heap.size r s l t w') (first | assumption | (exact kc_cells (kc_alloc (kc_of (by assumption)) _)) | (exact kc_cells (kc_set (kc_set (kc_set (kc_set (kc_of (by assumption)) _ _) _ _) _ _) _ _)))
    (first
      | (go_at_call 36; refine (open_any A n c _ (by first | exact HY.out.1 | exact HY.out.2)).mono ?_; rintro e w2 ⟨g, rfl, hg, hb2, hr2⟩; have hS2 := kc_cells (kc_below (by first | exact kc_drew HK.out | exact kc_drew (kc_alloc HK.out _)) hb2); have hg' : w1.heap.size < g := (by simp at hg; omega); have hg3 := hg; simp at hg3; have hO2 := Lib.hid (oz_below (by first | exact HO.out | exact oz_alloc HO.out _) hb2); have hR := Lib.hid (And.intro hb2 hr2); clear hb2 hr2 hg)
      | (go_at_call 37; refine (num_ne g 0 _ 9 3 _ [10, 50, 100, 0, 1, 99, 1000, -1, 1001] _ (by first | exact hR.out.2 | exact rd_alloc hR.out.2 _) (by first | exact blk_new _ _ _ | exact blk_below HB2.out hR.out.1 (by simp)) (by omega) (by first | (have := rd_lt hR.out.2; omega) | omega) (by simp) rfl).mono ?_; rintro e w3 ⟨x, hx, rfl, hgr3, hr3⟩; have hS3 := kc_cells (kc_grown (by first | exact kc_alloc (kc_of (by assumption)) _ | exact kc_of (by assumption)) hgr3 hg'); have hO3 := Lib.hid (oz_grown (by first | exact oz_alloc hO2.out _ | exact hO2.out) hgr3 (by have := HK.out.lt; omega)); obtain ⟨⟨e0, e1, e2, e3⟩, f0, f1, f2, f3⟩ := oz_cells hO3.out; clear hgr3 hr3))
  all_goals
    have BW : Hid (Below w.heap.size w w3) := Lib.hid (kc_of hS3).below
    clear hO3 hO2 hR
    go_wp2
    refine bodyPost_ret (v := .tuple #[.agg #[.int .i64 r, .int .i64 s, .int .i64 l, .int .i64 t], .int .i64 m, .int .i64 x]) (by simp [results, Try.results15, go_sem, e0, e1, e2, e3]) rfl ⟨r, s, l, t, m, x, rfl, ?_⟩
    exact Below.setCell (Below.setCell (Below.setCell (Below.setCell BW.out (Nat.le_refl _) _) (Nat.le_refl _) _) (Nat.le_refl _) _) (Nat.le_refl _) _
set_option maxHeartbeats 400000 in
theorem drawPointsAt_any (A : Option Addr) (n c : Nat) (w : World) (h : Bytes w A n c) :
    Calls Try.prog 21 #[.slice A n c] w (CasePost w) := by
  go_enter Try.func21, Try.ntmps21
  go_wp2_with fail
  refine (l7Case_any A n c _ (bytes_below h (below_alloc (Below.refl _ _) _))).mono ?_
  rintro e w1 ⟨r, s, l, t, m, rfl, hb⟩
  have E := Lib.hid (show Blk w1 (w.heap.size) 24 #[.int .i64 0, .int .i64 0, .int .i64 0, .int .i64 0] from (blk_below (blk_new w _ #[.int .i64 0, .int .i64 0, .int .i64 0, .int .i64 0]) hb (by simp)))
  have Ec0 : World.cell? w1 ⟨w.heap.size, 0, none⟩ = some (.int .i64 0) := blk_cell E.out 0
  have Ef0 : World.frozen? w1 ⟨w.heap.size, 0, none⟩ = false := blk_free E.out 0
  have Ec1 : World.cell? w1 ⟨w.heap.size, 1, none⟩ = some (.int .i64 0) := blk_cell E.out 1
  have Ef1 : World.frozen? w1 ⟨w.heap.size, 1, none⟩ = false := blk_free E.out 1
  have Ec2 : World.cell? w1 ⟨w.heap.size, 2, none⟩ = some (.int .i64 0) := blk_cell E.out 2
  have Ef2 : World.frozen? w1 ⟨w.heap.size, 2, none⟩ = false := blk_free E.out 2
  have Ec3 : World.cell? w1 ⟨w.heap.size, 3, none⟩ = some (.int .i64 0) := blk_cell E.out 3
  have Ef3 : World.frozen? w1 ⟨w.heap.size, 3, none⟩ = false := blk_free E.out 3
  have BW := Lib.hid (below_from (below_alloc (Below.refl _ _) _) hb (by simp))
  clear hb
  go_wp2
  refine bodyPost_ret (v := .tuple #[.agg #[.int .i64 r, .int .i64 s, .int .i64 l, .int .i64 t], .int .i64 m]) (by simp [results, Try.results21, go_sem, Ec0, Ec1, Ec2, Ec3]) rfl ⟨r, s, l, t, m, rfl, ?_⟩
  repeat refine Below.setCell ?_ (by simp) _
  exact BW.out
set_option maxHeartbeats 400000 in
theorem drawIsBanned_any (A : Option Addr) (n c : Nat) (w : World) (h : Bytes w A n c) :
    Calls Try.prog 23 #[.slice A n c] w (CasePost w) := by
  go_enter Try.func23, Try.ntmps23
  go_wp2_with fail
  refine (l7Case_any A n c _ (bytes_below h (below_alloc (Below.refl _ _) _))).mono ?_
  rintro e w1 ⟨r, s, l, t, m, rfl, hb⟩
  have E := Lib.hid (show Blk w1 (w.heap.size) 24 #[.int .i64 0, .int .i64 0, .int .i64 0, .int .i64 0] from (blk_below (blk_new w _ #[.int .i64 0, .int .i64 0, .int .i64 0, .int .i64 0]) hb (by simp)))
  have Ec0 : World.cell? w1 ⟨w.heap.size, 0, none⟩ = some (.int .i64 0) := blk_cell E.out 0
  have Ef0 : World.frozen? w1 ⟨w.heap.size, 0, none⟩ = false := blk_free E.out 0
  have Ec1 : World.cell? w1 ⟨w.heap.size, 1, none⟩ = some (.int .i64 0) := blk_cell E.out 1
  have Ef1 : World.frozen? w1 ⟨w.heap.size, 1, none⟩ = false := blk_free E.out 1
  have Ec2 : World.cell? w1 ⟨w.heap.size, 2, none⟩ = some (.int .i64 0) := blk_cell E.out 2
  have Ef2 : World.frozen? w1 ⟨w.heap.size, 2, none⟩ = false := blk_free E.out 2
  have Ec3 : World.cell? w1 ⟨w.heap.size, 3, none⟩ = some (.int .i64 0) := blk_cell E.out 3
  have Ef3 : World.frozen? w1 ⟨w.heap.size, 3, none⟩ = false := blk_free E.out 3
  have BW := Lib.hid (below_from (below_alloc (Below.refl _ _) _) hb (by simp))
  clear hb
  go_wp2
  refine bodyPost_ret (v := .tuple #[.agg #[.int .i64 r, .int .i64 s, .int .i64 l, .int .i64 t], .int .i64 m]) (by simp [results, Try.results23, go_sem, Ec0, Ec1, Ec2, Ec3]) rfl ⟨r, s, l, t, m, rfl, ?_⟩
  repeat refine Below.setCell ?_ (by simp) _
  exact BW.out
set_option maxHeartbeats 400000 in
theorem drawPardon_any (A : Option Addr) (n c : Nat) (w : World) (h : Bytes w A n c) :
    Calls Try.prog 29 #[.slice A n c] w (CasePost w) := by
  go_enter Try.func29, Try.ntmps29
  go_wp2_with fail
  refine (l7Case_any A n c _ (bytes_below h (below_alloc (Below.refl _ _) _))).mono ?_
  rintro e w1 ⟨r, s, l, t, m, rfl, hb⟩
  have E := Lib.hid (show Blk w1 (w.heap.size) 24 #[.int .i64 0, .int .i64 0, .int .i64 0, .int .i64 0] from (blk_below (blk_new w _ #[.int .i64 0, .int .i64 0, .int .i64 0, .int .i64 0]) hb (by simp)))
  have Ec0 : World.cell? w1 ⟨w.heap.size, 0, none⟩ = some (.int .i64 0) := blk_cell E.out 0
  have Ef0 : World.frozen? w1 ⟨w.heap.size, 0, none⟩ = false := blk_free E.out 0
  have Ec1 : World.cell? w1 ⟨w.heap.size, 1, none⟩ = some (.int .i64 0) := blk_cell E.out 1
  have Ef1 : World.frozen? w1 ⟨w.heap.size, 1, none⟩ = false := blk_free E.out 1
  have Ec2 : World.cell? w1 ⟨w.heap.size, 2, none⟩ = some (.int .i64 0) := blk_cell E.out 2
  have Ef2 : World.frozen? w1 ⟨w.heap.size, 2, none⟩ = false := blk_free E.out 2
  have Ec3 : World.cell? w1 ⟨w.heap.size, 3, none⟩ = some (.int .i64 0) := blk_cell E.out 3
  have Ef3 : World.frozen? w1 ⟨w.heap.size, 3, none⟩ = false := blk_free E.out 3
  have BW := Lib.hid (below_from (below_alloc (Below.refl _ _) _) hb (by simp))
  clear hb
  go_wp2
  refine bodyPost_ret (v := .tuple #[.agg #[.int .i64 r, .int .i64 s, .int .i64 l, .int .i64 t], .int .i64 m]) (by simp [results, Try.results29, go_sem, Ec0, Ec1, Ec2, Ec3]) rfl ⟨r, s, l, t, m, rfl, ?_⟩
  repeat refine Below.setCell ?_ (by simp) _
  exact BW.out
def DrawnBkt (w : World) (e : Ending) (w' : World) : Prop := ∃ r s l t : Int, e = .returned (.agg #[.int .i64 r, .int .i64 s, .int .i64 l, .int .i64 t]) ∧ Below w.heap.size w w'
set_option maxHeartbeats 1000000 in
theorem drawBanLength_any (A : Option Addr) (n c : Nat) (w : World) (h : Bytes w A n c) :
    Calls Try.prog 25 #[.slice A n c] w (DrawnBkt w) := by
  go_enter Try.func25, Try.ntmps25
  go_wp2_with fail
  refine (l7Case_any A n c _ (bytes_below h (below_alloc (Below.refl _ _) _))).mono ?_
  rintro e w1 ⟨r, s, l, t, m, rfl, hb⟩
  have hz := hb.size
  simp at hz
  have hlt : w1.heap.size ≠ w.heap.size := by omega
  have X := Lib.hid (show Blk (w1.alloc (.cells #[.int .i64 r, .int .i64 s, .int .i64 l, .int .i64 t] 24)) w.heap.size 24 #[.int .i64 0, .int .i64 0, .int .i64 0, .int .i64 0] ∧ Blk (w1.alloc (.cells #[.int .i64 r, .int .i64 s, .int .i64 l, .int .i64 t] 24)) w1.heap.size 24 #[.int .i64 r, .int .i64 s, .int .i64 l, .int .i64 t] ∧ Below w.heap.size w (w1.alloc (.cells #[.int .i64 r, .int .i64 s, .int .i64 l, .int .i64 t] 24)) from
    ⟨blk_alloc (blk_below (blk_new w _ #[.int .i64 0, .int .i64 0, .int .i64 0, .int .i64 0]) hb (by simp)) _, blk_new w1 _ _, below_alloc (below_from (below_alloc (Below.refl _ _) _) hb (by simp)) _⟩)
  clear hb hz h
  go_upto_region 2 with fail
  generalize w1.alloc (.cells #[.int .i64 r, .int .i64 s, .int .i64 l, .int .i64 t] 24) = W at X ⊢
  have E := Lib.hid (show Blk W (w.heap.size) 24 #[.int .i64 0, .int .i64 0, .int .i64 0, .int .i64 0] from (X.out.1))
  have Ec0 : World.cell? W ⟨w.heap.size, 0, none⟩ = some (.int .i64 0) := blk_cell E.out 0
  have Ef0 : World.frozen? W ⟨w.heap.size, 0, none⟩ = false := blk_free E.out 0
  have Ec1 : World.cell? W ⟨w.heap.size, 1, none⟩ = some (.int .i64 0) := blk_cell E.out 1
  have Ef1 : World.frozen? W ⟨w.heap.size, 1, none⟩ = false := blk_free E.out 1
  have Ec2 : World.cell? W ⟨w.heap.size, 2, none⟩ = some (.int .i64 0) := blk_cell E.out 2
  have Ef2 : World.frozen? W ⟨w.heap.size, 2, none⟩ = false := blk_free E.out 2
  have Ec3 : World.cell? W ⟨w.heap.size, 3, none⟩ = some (.int .i64 0) := blk_cell E.out 3
  have Ef3 : World.frozen? W ⟨w.heap.size, 3, none⟩ = false := blk_free E.out 3
  have D := Lib.hid (show Blk W (w1.heap.size) 24 #[.int .i64 r, .int .i64 s, .int .i64 l, .int .i64 t] from (X.out.2.1))
  have Dc0 : World.cell? W ⟨w1.heap.size, 0, none⟩ = some (.int .i64 r) := blk_cell D.out 0
  have Df0 : World.frozen? W ⟨w1.heap.size, 0, none⟩ = false := blk_free D.out 0
  have Dc1 : World.cell? W ⟨w1.heap.size, 1, none⟩ = some (.int .i64 s) := blk_cell D.out 1
  have Df1 : World.frozen? W ⟨w1.heap.size, 1, none⟩ = false := blk_free D.out 1
  have Dc2 : World.cell? W ⟨w1.heap.size, 2, none⟩ = some (.int .i64 l) := blk_cell D.out 2
  have Df2 : World.frozen? W ⟨w1.heap.size, 2, none⟩ = false := blk_free D.out 2
  have Dc3 : World.cell? W ⟨w1.heap.size, 3, none⟩ = some (.int .i64 t) := blk_cell D.out 3
  have Df3 : World.frozen? W ⟨w1.heap.size, 3, none⟩ = false := blk_free D.out 3
  clear D E
  go_wp2
  refine bodyPost_ret (v := .agg #[.int .i64 r, .int .i64 s, .int .i64 l, .int .i64 t]) (by simp [results, Try.results25, go_sem, Ec0, Ec1, Ec2, Ec3]) rfl ⟨r, s, l, t, rfl, ?_⟩
  repeat refine Below.setCell ?_ (by simp) _
  exact X.out.2.2
set_option maxHeartbeats 1000000 in
theorem drawFreeAt_any (A : Option Addr) (n c : Nat) (w : World) (h : Bytes w A n c) :
    Calls Try.prog 33 #[.slice A n c] w (DrawnBkt w) := by
  go_enter Try.func33, Try.ntmps33
  go_wp2_with fail
  refine (l7Case_any A n c _ (bytes_below h (below_alloc (Below.refl _ _) _))).mono ?_
  rintro e w1 ⟨r, s, l, t, m, rfl, hb⟩
  have hz := hb.size
  simp at hz
  have hlt : w1.heap.size ≠ w.heap.size := by omega
  have X := Lib.hid (show Blk (w1.alloc (.cells #[.int .i64 r, .int .i64 s, .int .i64 l, .int .i64 t] 24)) w.heap.size 24 #[.int .i64 0, .int .i64 0, .int .i64 0, .int .i64 0] ∧ Blk (w1.alloc (.cells #[.int .i64 r, .int .i64 s, .int .i64 l, .int .i64 t] 24)) w1.heap.size 24 #[.int .i64 r, .int .i64 s, .int .i64 l, .int .i64 t] ∧ Below w.heap.size w (w1.alloc (.cells #[.int .i64 r, .int .i64 s, .int .i64 l, .int .i64 t] 24)) from
    ⟨blk_alloc (blk_below (blk_new w _ #[.int .i64 0, .int .i64 0, .int .i64 0, .int .i64 0]) hb (by simp)) _, blk_new w1 _ _, below_alloc (below_from (below_alloc (Below.refl _ _) _) hb (by simp)) _⟩)
  clear hb hz h
  go_upto_region 2 with fail
  generalize w1.alloc (.cells #[.int .i64 r, .int .i64 s, .int .i64 l, .int .i64 t] 24) = W at X ⊢
  have E := Lib.hid (show Blk W (w.heap.size) 24 #[.int .i64 0, .int .i64 0, .int .i64 0, .int .i64 0] from (X.out.1))
  have Ec0 : World.cell? W ⟨w.heap.size, 0, none⟩ = some (.int .i64 0) := blk_cell E.out 0
  have Ef0 : World.frozen? W ⟨w.heap.size, 0, none⟩ = false := blk_free E.out 0
  have Ec1 : World.cell? W ⟨w.heap.size, 1, none⟩ = some (.int .i64 0) := blk_cell E.out 1
  have Ef1 : World.frozen? W ⟨w.heap.size, 1, none⟩ = false := blk_free E.out 1
  have Ec2 : World.cell? W ⟨w.heap.size, 2, none⟩ = some (.int .i64 0) := blk_cell E.out 2
  have Ef2 : World.frozen? W ⟨w.heap.size, 2, none⟩ = false := blk_free E.out 2
  have Ec3 : World.cell? W ⟨w.heap.size, 3, none⟩ = some (.int .i64 0) := blk_cell E.out 3
  have Ef3 : World.frozen? W ⟨w.heap.size, 3, none⟩ = false := blk_free E.out 3
  have D := Lib.hid (show Blk W (w1.heap.size) 24 #[.int .i64 r, .int .i64 s, .int .i64 l, .int .i64 t] from (X.out.2.1))
  have Dc0 : World.cell? W ⟨w1.heap.size, 0, none⟩ = some (.int .i64 r) := blk_cell D.out 0
  have Df0 : World.frozen? W ⟨w1.heap.size, 0, none⟩ = false := blk_free D.out 0
  have Dc1 : World.cell? W ⟨w1.heap.size, 1, none⟩ = some (.int .i64 s) := blk_cell D.out 1
  have Df1 : World.frozen? W ⟨w1.heap.size, 1, none⟩ = false := blk_free D.out 1
  have Dc2 : World.cell? W ⟨w1.heap.size, 2, none⟩ = some (.int .i64 l) := blk_cell D.out 2
  have Df2 : World.frozen? W ⟨w1.heap.size, 2, none⟩ = false := blk_free D.out 2
  have Dc3 : World.cell? W ⟨w1.heap.size, 3, none⟩ = some (.int .i64 t) := blk_cell D.out 3
  have Df3 : World.frozen? W ⟨w1.heap.size, 3, none⟩ = false := blk_free D.out 3
  clear D E
  go_wp2
  refine bodyPost_ret (v := .agg #[.int .i64 r, .int .i64 s, .int .i64 l, .int .i64 t]) (by simp [results, Try.results33, go_sem, Ec0, Ec1, Ec2, Ec3]) rfl ⟨r, s, l, t, rfl, ?_⟩
  repeat refine Below.setCell ?_ (by simp) _
  exact X.out.2.2
end Go.Proofs.Ytffgblphimjipaa
