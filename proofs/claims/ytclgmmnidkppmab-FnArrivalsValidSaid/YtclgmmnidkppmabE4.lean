/-
  Chapter 10: Conforms: what the program's function and the model's return. Conditions: a slice's length fits an int.
-/
import Derived.Test.YtclgmmnidkppmabE2
import Derived.Deep.RegionHeld3
import Derived.Deep.DeepCutAuto
namespace Go.Proofs.Ytclgmmnidkppmab
open Go.RowKit

noncomputable def cfR (ps : List Arr) (r s : Int) : Bool := bkB ps r s && conf r s ps
theorem cfR_no {ps : List Arr} {r s : Int} (h : bkB ps r s = false) : cfR ps r s = false := by rw [cfR, h, Bool.false_and]
theorem cfR_yes {ps : List Arr} {r s : Int} (h : bkB ps r s = true) : cfR ps r s = conf r s ps := by rw [cfR, h, Bool.true_and]
theorem ret_bb {a b a2 b2 : Bool} (h : a = a2) (h2 : b = b2) : Ending.returned (.tuple #[.bool a, .bool b]) = .returned (.tuple #[.bool a2, .bool b2]) := by rw [h, h2]
def CfRel (w : World) (ps : List Arr) (r s : Int) (n B : Nat) (i : Value) (wr : World) : Prop :=
  ∃ (k : Nat) (L T : Int), k ≤ n ∧ i = .int .i64 (k : Int) ∧ conf r s ps = cfB r s L T (ps.drop k) ∧ avL T (ps.drop k) = true ∧ bvB r s L T = true ∧ Blk wr B 62 #[.int .i64 r, .int .i64 s, .int .i64 L, .int .i64 T] ∧ Below w.heap.size w wr
theorem cf_go {r s L T : Int} {ps : List Arr} {k : Nat} {p : Arr} {R : Bool} (h : R = cfB r s L T (ps.drop k)) (hp : ps[k]? = some p) (hz : p.z ≤ lv r s L T p.t) : R = cfB r s (lv r s L T p.t - p.z) p.t (ps.drop (k + 1)) := by
  rw [h, drop_at hp]
  simp only [cfB]
  rw [decide_eq_true hz, Bool.true_and]
theorem cf_stop {r s L T : Int} {ps : List Arr} {k : Nat} {p : Arr} {R : Bool} (h : R = cfB r s L T (ps.drop k)) (hp : ps[k]? = some p) (hz : lv r s L T p.t < p.z) : R = false := by
  rw [h, drop_at hp]
  simp only [cfB]
  rw [decide_eq_false (by omega), Bool.false_and]
theorem cf_end {r s L T : Int} {ps : List Arr} {k : Nat} {R : Bool} (h : R = cfB r s L T (ps.drop k)) (hk : ps.length ≤ k) : R = true := by
  rw [h, drop_end hk]; rfl
theorem bv_full {r s : Int} (h : rbB r s = true) : bvB r s s 0 = true := by rw [bv_at0]; exact h
theorem rt_next {r s L T t : Int} (h : bvB r s L T = true) (h1 : T ≤ t) (h2 : t ≤ 10000) : rtB r s L T t = true := by
  have := bv_of h
  exact rt_mk (by omega)
theorem ne_new {w w1 : World} {A : Option Addr} {n : Nat} {ps : List Arr} (h : AR w A n ps) (hs : w.heap.size ≤ w1.heap.size) : 0 < n → ∀ b, A.map (·.block) = some b → b ≠ w1.heap.size := fun hn b hb => by
  have := ar_old h hn b hb
  omega
set_option maxHeartbeats 2000000 in
theorem cfI_any (A : Option Addr) (n c : Nat) (ps : List Arr) (r s : Int) (w : World) (h : AR w A n ps) (hn : n ≤ 9223372036854775807) :
    Calls Try.prog 27 #[.slice A n c, .int .i64 r, .int .i64 s] w fun e w' => e = .returned (.tuple #[.bool (cfR ps r s), .bool (bkB ps r s)]) ∧ Below w.heap.size w w' := by
  have H := Lib.hid h
  clear h
  rcases hk : bkB ps r s with _ | _
  · have HK := Lib.hid hk
    clear hk
    go_enter Try.func27, Try.ntmps27
    go_wp2_with fail
    refine (bfI_no A n c ps r s _ H.out hn HK.out).mono ?_
    rintro e w1 ⟨rfl, hb1⟩
    have B1 := Lib.hid (below_alloc hb1 (.cells #[.int .i64 0, .int .i64 0, .int .i64 0, .int .i64 0] 62))
    clear hb1
    go_wp2
    go_ret2
    exact ⟨ret_bb (cfR_no HK.out).symm rfl, B1.out⟩
  · have HK := Lib.hid hk
    obtain ⟨hv, hrb⟩ := bk_of hk
    have V0 := Lib.hid (av_of hv).2
    have hn32 : n ≤ 32 := by have := (av_of hv).1; have := H.out.1; omega
    have HF := Lib.hid (bv_full hrb)
    clear hk hv hrb
    go_enter Try.func27, Try.ntmps27
    go_wp2_with fail
    refine (bfI_yes A n c ps r s _ H.out hn HK.out).mono ?_
    rintro e w1 ⟨rfl, hb1⟩
    have hzw := hb1.size
    have R0 : CfRel w ps r s n w1.heap.size (.int .i64 0) (w1.alloc (.cells #[.int .i64 r, .int .i64 s, .int .i64 s, .int .i64 0] 62)) := ⟨0, s, 0, Nat.zero_le _, rfl, rfl, V0.out, HF.out, blk_new w1 _ _, below_alloc hb1 _⟩
    have HR0 := Lib.hid R0
    clear hb1 R0
    go_wp2
    go_loopw [26] (fun i wr => CfRel w ps r s n w1.heap.size i wr) (fun i _ => n - (intOf i).toNat)
    case atStart => exact HR0.out
    case round =>
      obtain ⟨k, L, T, hk, rfl, he, hav, hbv, hB, hbl⟩ := hrel
      have HE := Lib.hid he
      clear he HR0
      by_cases hlt : k < n
      · obtain ⟨b, off, p, rfl, hb, hp, c0, c1⟩ := ar_at (ar_below H.out hbl) hlt
        obtain ⟨t0, t1, z0, z1, hav'⟩ := av_next hav hp
        have hrt := rt_next hbv t0 t1
        have hlb := lv_bd hrt
        have htk := tk_mk hrt (c := p.z) (by omega)
        obtain ⟨V, hV⟩ : ∃ V, V = lv r s L T p.t := ⟨_, rfl⟩
        have hblt := blk_lt hB
        have HP := Lib.hid hp
        have HA := Lib.hid hav'
        have HT := Lib.hid htk
        have HV := Lib.hid hV
        have HRT := Lib.hid hrt
        have HBB := Lib.hid hB
        have HBL := Lib.hid hbl
        have q0 := blk_cell hB 0
        have q1 := blk_cell hB 1
        have q2 := blk_cell hB 2
        have q3 := blk_cell hB 3
        simp only [List.getElem?_toArray, List.getElem?_cons_zero, List.getElem?_cons_succ] at q0 q1 q2 q3
        rw [← hV] at hlb
        clear hp hav hav' htk hrt hB hbl hV hbv
        by_cases hz : p.z ≤ V
        · have HZ := Lib.hid (show p.z ≤ lv r s L T p.t by rw [← HV.out]; exact hz)
          go_wp2_with fail
          refine (takeI_yes r s L T p.t p.z _ HT.out HZ.out).mono ?_
          rintro e w2 ⟨rfl, hb2⟩
          rw [← HV.out]
          have hb2z := hb2.size
          simp at hb2z
          have HB2 := Lib.hid (blk_below (blk_alloc HBB.out _) hb2 (by simp; omega))
          have HBL2 := Lib.hid (below_seq (below_alloc HBL.out _) hb2)
          have hb12 : w1.heap.size < w2.heap.size := by omega
          have f0 := blk_free HB2.out 0
          have f1 := blk_free HB2.out 1
          have f2 := blk_free HB2.out 2
          have f3 := blk_free HB2.out 3
          have e0 := blk_cell HB2.out 0
          have e1 := blk_cell HB2.out 1
          have e2 := blk_cell HB2.out 2
          have e3 := blk_cell HB2.out 3
          simp only [List.getElem?_toArray, List.getElem?_cons_zero, List.getElem?_cons_succ] at e0 e1 e2 e3
          clear hb2 q0 q1 q2 q3 c0 c1
          go_wp2
          go_roundw
          case rel =>
            refine ⟨k + 1, V - p.z, p.t, by omega, by go_num, by rw [HV.out]; exact cf_go HE.out HP.out HZ.out, HA.out, by rw [HV.out]; exact bv_rt HRT.out (by rw [← HV.out]; omega) (by rw [← HV.out]; omega), ?_, ?_⟩
            · exact blk_alloc (blk_set (blk_set (blk_set (blk_set HB2.out 0 _) 1 _) 2 _) 3 _) _
            · exact below_alloc ((((HBL2.out.setCell (by show w.heap.size ≤ w1.heap.size; omega) _).setCell (by show w.heap.size ≤ w1.heap.size; omega) _).setCell (by show w.heap.size ≤ w1.heap.size; omega) _).setCell (by show w.heap.size ≤ w1.heap.size; omega) _) _
          case measure => simp [intOf]; omega
        · have HZ := Lib.hid (show lv r s L T p.t < p.z by rw [← HV.out]; omega)
          go_wp2_with fail
          refine (takeI_over r s L T p.t p.z _ HT.out HZ.out).mono ?_
          rintro e w2 ⟨rfl, hb2⟩
          have HBL2 := Lib.hid (below_seq (below_alloc HBL.out _) hb2)
          clear hb2
          go_wp2
          go_ret2
          exact ⟨ret_bb (by rw [cfR_yes HK.out]; exact (cf_stop HE.out HP.out HZ.out).symm) rfl, below_alloc HBL2.out _⟩
      · obtain rfl : k = n := by omega
        have HBL := Lib.hid hbl
        clear hbl hB
        go_wp2
        go_ret2
        exact ⟨ret_bb (by rw [cfR_yes HK.out]; exact (cf_end HE.out (by have := H.out.1; omega)).symm) rfl, HBL.out⟩
end Go.Proofs.Ytclgmmnidkppmab
