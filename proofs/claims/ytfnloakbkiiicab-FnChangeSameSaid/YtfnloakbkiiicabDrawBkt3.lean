/-
  The draws of the arguments of NewBucket and ChangeRate: what they return, whatever the bytes. Conditions: none.
-/
import Derived.Test.YtfnloakbkiiicabDrawBkt2
namespace Go.Proofs.Ytfnloakbkiiicab
open Go.RowKit

def FourPost (w : World) (e : Ending) (w' : World) : Prop :=
  ∃ r s l t n a b : Int, e = .returned (.tuple #[.agg #[.int .i64 r, .int .i64 s, .int .i64 l, .int .i64 t], .int .i64 n, .int .i64 a, .int .i64 b]) ∧ Below w.heap.size w w'
set_option maxHeartbeats 8000000 in
theorem drawChangeRate_any (A : Option Addr) (n c : Nat) (w : World) (h : Bytes w A n c) :
    Calls Try.prog 19 #[.slice A n c] w (FourPost w) := by
  go_enter Try.func19, Try.ntmps19
  go_wp2_with fail
  refine (l2Case_any A n c _ (bytes_below h (below_alloc (Below.refl _ _) _))).mono ?_
  rintro e w1 ⟨r, s, l, t, m, rfl, hb⟩
  have hz := hb.size
  have h1 := bytes_below (bytes_below h (below_alloc (Below.refl _ _) _)) hb
  have K : KeepC w w1.heap.size r s l t (w1.alloc (.cells #[.int .i64 r, .int .i64 s, .int .i64 l, .int .i64 t] 24)) :=
    ⟨blk_new w1 _ _, below_alloc (below_from (below_alloc (Below.refl _ _) _) hb (by simp)) _, by simp at hz; omega⟩
  have HK := Lib.hid K
  have HO := Lib.hid (show OutZ w (w1.alloc (.cells #[.int .i64 r, .int .i64 s, .int .i64 l, .int .i64 t] 24)) from blk_alloc (blk_below (blk_new w _ #[.int .i64 0, .int .i64 0, .int .i64 0, .int .i64 0]) hb (by simp)) _)
  have hy1 : Bytes (w1.alloc (.cells #[.int .i64 r, .int .i64 s, .int .i64 l, .int .i64 t] 24)) A n c := bytes_below h1 (below_alloc (Below.refl _ _) _)
  have HY := Lib.hid hy1
  clear hb h1 hy1 K
  go_wp2_with fail
  refine (open_any A n c _ HY.out).mono ?_
  rintro e w2 ⟨g, rfl, hg, hb2, hr2⟩
  have hgl := rd_lt hr2
  have hk2 := kc_below HK.out hb2
  have hS2 := kc_cells (kc_drew hk2)
  have HK2 := Lib.hid hk2
  have HO2 := Lib.hid (oz_below HO.out hb2)
  have hgb : w1.heap.size < g := by simp at hg; omega
  have HR2 := Lib.hid hr2
  clear hb2 hk2 hr2 hg
  have NA := Lib.hid (show Blk (w2.alloc (.cells #[.int .i64 5, .int .i64 0, .int .i64 1000, .int .i64 1001] 3)).drew w2.heap.size 3 #[.int .i64 5, .int .i64 0, .int .i64 1000, .int .i64 1001] ∧ RdAt (w2.alloc (.cells #[.int .i64 5, .int .i64 0, .int .i64 1000, .int .i64 1001] 3)).drew g 0 ∧ OutZ w (w2.alloc (.cells #[.int .i64 5, .int .i64 0, .int .i64 1000, .int .i64 1001] 3)).drew from
    ⟨blk_new w2 _ _, rd_alloc HR2.out _, oz_alloc HO2.out _⟩)
  have NB := Lib.hid (show (Blk ((w2.alloc (.cells #[.int .i64 5, .int .i64 0, .int .i64 1000, .int .i64 1001] 3)).alloc (.cells #[.int .i64 20, .int .i64 1, .int .i64 10000, .int .i64 0] 3)).drew w2.heap.size 3 #[.int .i64 5, .int .i64 0, .int .i64 1000, .int .i64 1001] ∧ RdAt ((w2.alloc (.cells #[.int .i64 5, .int .i64 0, .int .i64 1000, .int .i64 1001] 3)).alloc (.cells #[.int .i64 20, .int .i64 1, .int .i64 10000, .int .i64 0] 3)).drew g 0 ∧ OutZ w ((w2.alloc (.cells #[.int .i64 5, .int .i64 0, .int .i64 1000, .int .i64 1001] 3)).alloc (.cells #[.int .i64 20, .int .i64 1, .int .i64 10000, .int .i64 0] 3)).drew) ∧
      Blk ((w2.alloc (.cells #[.int .i64 5, .int .i64 0, .int .i64 1000, .int .i64 1001] 3)).alloc (.cells #[.int .i64 20, .int .i64 1, .int .i64 10000, .int .i64 0] 3)).drew (w2.heap.size + 1) 3 #[.int .i64 20, .int .i64 1, .int .i64 10000, .int .i64 0] from
    ⟨⟨blk_alloc (blk_new w2 _ _) _, rd_alloc (rd_alloc HR2.out _) _, oz_alloc (oz_alloc HO2.out _) _⟩, blk_new2 _ _ _ _⟩)
  have NC := Lib.hid (show (Blk ((w2.alloc (.cells #[.int .i64 20, .int .i64 1, .int .i64 10000, .int .i64 0] 3)).alloc (.cells #[.int .i64 5, .int .i64 0, .int .i64 1000, .int .i64 1001] 3)).drew (w2.heap.size + 1) 3 #[.int .i64 5, .int .i64 0, .int .i64 1000, .int .i64 1001] ∧ RdAt ((w2.alloc (.cells #[.int .i64 20, .int .i64 1, .int .i64 10000, .int .i64 0] 3)).alloc (.cells #[.int .i64 5, .int .i64 0, .int .i64 1000, .int .i64 1001] 3)).drew g 0 ∧ OutZ w ((w2.alloc (.cells #[.int .i64 20, .int .i64 1, .int .i64 10000, .int .i64 0] 3)).alloc (.cells #[.int .i64 5, .int .i64 0, .int .i64 1000, .int .i64 1001] 3)).drew) ∧
      Blk ((w2.alloc (.cells #[.int .i64 20, .int .i64 1, .int .i64 10000, .int .i64 0] 3)).alloc (.cells #[.int .i64 5, .int .i64 0, .int .i64 1000, .int .i64 1001] 3)).drew w2.heap.size 3 #[.int .i64 20, .int .i64 1, .int .i64 10000, .int .i64 0] from
    ⟨⟨blk_new2 _ _ _ _, rd_alloc (rd_alloc HR2.out _) _, oz_alloc (oz_alloc HO2.out _) _⟩, blk_alloc (blk_new w2 _ _) _⟩)
  clear HO2
  go_wp2_with fail
  go_region_held3 (fun w' => w'.cell? ⟨w1.heap.size, 0, none⟩ = some (.int .i64 r) ∧ w'.cell? ⟨w1.heap.size, 1, none⟩ = some (.int .i64 s) ∧ w'.cell? ⟨w1.heap.size, 2, none⟩ = some (.int .i64 l) ∧ w'.cell? ⟨w1.heap.size, 3, none⟩ = some (.int .i64 t) ∧ KeepC w w1.heap.size r s l t w') (first | assumption | (exact kc_cells (kc_alloc (kc_of (by assumption)) _)) | (exact kc_cells (kc_set (kc_set (kc_set (kc_set (kc_of (by assumption)) _ _) _ _) _ _) _ _)))
    (first
      | (go_at_call 39; refine (num_ne g 0 _ 4 3 _ [5, 0, 1000, 1001] _ (by first | exact NA.out.2.1 | exact NB.out.1.2.1 | exact NC.out.1.2.1) (by first | exact NA.out.1 | exact NB.out.1.1 | exact NC.out.1.1) (by omega) (by have := HR2; omega) (by simp) rfl).mono ?_; rintro e w3 ⟨x, hx, rfl, hgr3, hr3⟩; have hS3 := kc_cells (kc_grown (kc_of (by assumption)) hgr3 hgb); have HO3 := Lib.hid (oz_grown (by first | exact NA.out.2.2 | exact NB.out.1.2.2 | exact NC.out.1.2.2) hgr3 (by have := HK.out.lt; omega)); have hz3 := hgr3.size; simp at hz3; have HG3 := Lib.hid (And.intro hgr3 hr3); clear HR2 hgr3 hr3 hx)
      | (go_at_call 39; refine (num_ne g 1 _ 4 3 _ [20, 1, 10000, 0] _ (by first | exact HG3.out.2 | exact rd_alloc HG3.out.2 _) (by first | exact blk_new _ _ _ | exact blk_grown NB.out.2 HG3.out.1 (by omega) | exact blk_grown NC.out.2 HG3.out.1 (by omega)) (by omega) (by omega) (by simp) rfl).mono ?_; rintro e w4 ⟨x2, hx2, rfl, hgr4, hr4⟩; have hS4 := kc_cells (kc_grown (by first | exact kc_of (by assumption) | exact kc_alloc (kc_of (by assumption)) _) hgr4 hgb); have HO4 := Lib.hid (oz_grown (by first | exact HO3.out | exact oz_alloc HO3.out _) hgr4 (by have := HK.out.lt; omega)); obtain ⟨⟨e0, e1, e2, e3⟩, f0, f1, f2, f3⟩ := oz_cells HO4.out; clear hgr4 hr4 hx2))
  all_goals
    have BW : Hid (Below w.heap.size w w4) := Lib.hid (kc_of hS4).below
    clear HO4 HO3 HG3 NA NB NC
    go_wp2
    refine bodyPost_ret (v := .tuple #[.agg #[.int .i64 r, .int .i64 s, .int .i64 l, .int .i64 t], .int .i64 m, .int .i64 x, .int .i64 x2]) (by simp [results, Try.results19, go_sem, e0, e1, e2, e3]) rfl ⟨r, s, l, t, m, x, x2, rfl, ?_⟩
    exact Below.setCell (Below.setCell (Below.setCell (Below.setCell BW.out (Nat.le_refl _) _) (Nat.le_refl _) _) (Nat.le_refl _) _) (Nat.le_refl _) _
end Go.Proofs.Ytfnloakbkiiicab
