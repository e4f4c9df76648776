/-
  Chapter 10: the model's run and Conforms. Conditions: a slice's length fits an int; the run is asked of valid arrivals and a valid bucket.
-/
import Derived.Test.YtclgmmnidkppmabE4
import Derived.Deep.RegionHeld3
import Derived.Deep.DeepCutAuto
namespace Go.Proofs.Ytclgmmnidkppmab
open Go.RowKit

/-- a bucket's box, an arrival, and what lay below -/
structure SX (w : World) (g b o : Nat) (r s L T : Int) (p : Arr) (w' : World) : Prop where
  box : Blk w' g 62 #[.int .i64 r, .int .i64 s, .int .i64 L, .int .i64 T]
  arr : AAt w' b o p
  lt : b < w'.heap.size
  bel : Below w.heap.size w w'
  ge : w.heap.size ≤ g
section
variable {w w1 w2 : World} {g b o : Nat} {r s L T : Int} {p : Arr}
theorem sx_below (h : SX w g b o r s L T p w1) (hb : Below w1.heap.size w1 w2) : SX w g b o r s L T p w2 :=
  ⟨blk_below h.box hb (blk_lt h.box), aat_below h.arr hb h.lt, Nat.lt_of_lt_of_le h.lt hb.size, below_seq h.bel hb, h.ge⟩
theorem sx_alloc (h : SX w g b o r s L T p w1) (ob : Obj) : SX w g b o r s L T p (w1.alloc ob) := sx_below h (below_alloc (Below.refl _ _) ob)
theorem sx_drew (h : SX w g b o r s L T p w1) : SX w g b o r s L T p w1.drew := sx_below h (Below.refl _ _).drew
theorem sx_drewN (h : SX w g b o r s L T p w1) (n : Nat) : SX w g b o r s L T p (w1.drewN n) := sx_below h (below_drewN (Below.refl _ _) n)
theorem sx_set (h : SX w g b o r s L T p w1) {a : Addr} (h1 : a.block ≠ g) (h2 : a.block ≠ b) (h3 : w.heap.size ≤ a.block) (u : Value) : SX w g b o r s L T p (w1.setCell a u) :=
  ⟨blk_far h.box (Ne.symm h1) u, aat_keep h.arr fun x => World.cell?_setCell_other w1 a ⟨b, x, none⟩ u (fun e => h2 (by rw [e])), by have := h.lt; simpa using this, h.bel.setCell h3 u, h.ge⟩
theorem sx_lt (h : SX w g b o r s L T p w1) : g < w1.heap.size := blk_lt h.box
theorem sx_cells (h : SX w g b o r s L T p w1) : (w1.cell? ⟨g, 0, none⟩ = some (.int .i64 r) ∧ w1.cell? ⟨g, 1, none⟩ = some (.int .i64 s) ∧ w1.cell? ⟨g, 2, none⟩ = some (.int .i64 L) ∧ w1.cell? ⟨g, 3, none⟩ = some (.int .i64 T) ∧ w1.cell? ⟨b, o, none⟩ = some (.int .i64 p.t) ∧ w1.cell? ⟨b, o + 1, none⟩ = some (.int .i64 p.z)) ∧ SX w g b o r s L T p w1 :=
  ⟨⟨blk_cell h.box 0, blk_cell h.box 1, blk_cell h.box 2, blk_cell h.box 3, h.arr.1, h.arr.2⟩, h⟩
theorem sxO {P : Prop} (h : P ∧ SX w g b o r s L T p w1) : SX w g b o r s L T p w1 := h.2
theorem blk_4 {t : TypeId} {x0 x1 x2 x3 : Value} (h : Blk w g t #[x0, x1, x2, x3]) : (w.cell? ⟨g, 0, none⟩ = some x0 ∧ w.cell? ⟨g, 1, none⟩ = some x1 ∧ w.cell? ⟨g, 2, none⟩ = some x2 ∧ w.cell? ⟨g, 3, none⟩ = some x3) ∧ w.frozen? ⟨g, 0, none⟩ = false ∧ w.frozen? ⟨g, 1, none⟩ = false ∧ w.frozen? ⟨g, 2, none⟩ = false ∧ w.frozen? ⟨g, 3, none⟩ = false :=
  ⟨⟨blk_cell h 0, blk_cell h 1, blk_cell h 2, blk_cell h 3⟩, blk_free h 0, blk_free h 1, blk_free h 2, blk_free h 3⟩
end
set_option maxHeartbeats 2000000 in
theorem runS_any (A : Option Addr) (n c : Nat) (ps : List Arr) (r s : Int) (w : World) (h : AR w A n ps) (hv : avB ps = true) (hrb : rbB r s = true) :
    Calls Try.prog 51 #[.slice A n c, .int .i64 r, .int .i64 s] w fun e w' => e = .returned (.bool (conf r s ps)) ∧ Below w.heap.size w w' := by
  have H := Lib.hid h
  have V0 := Lib.hid (av_of hv).2
  have hn32 : n ≤ 32 := by have := (av_of hv).1; have := H.out.1; omega
  have R0 : CfRel w ps r s n w.heap.size (.int .i64 0) (w.alloc (.cells #[.int .i64 r, .int .i64 s, .int .i64 s, .int .i64 0] 62)) := ⟨0, s, 0, Nat.zero_le _, rfl, rfl, V0.out, bv_full hrb, blk_new w _ _, below_alloc (Below.refl _ _) _⟩
  have HR0 := Lib.hid R0
  clear h hv hrb R0
  go_enter Try.func51, Try.ntmps51
  go_wp2
  go_loopw [8] (fun i wr => CfRel w ps r s n w.heap.size i wr) (fun i _ => n - (intOf i).toNat)
  case atStart => exact HR0.out
  case round =>
    obtain ⟨k, L, T, hk, rfl, he, hav, hbv, hB, hbl⟩ := hrel
    have HE := Lib.hid he
    clear he HR0
    by_cases hlt : k < n
    · have hold := ar_old H.out (by omega)
      obtain ⟨b, off, p, rfl, hb, hp, hat⟩ := ar_at (ar_below H.out hbl) hlt
      have hbw : b < w.heap.size := hold b rfl
      obtain ⟨t0, t1, z0, z1, hav'⟩ := av_next hav hp
      have hrt := rt_next hbv t0 t1
      have hlb := lv_bd hrt
      have htk := tk_mk hrt (c := p.z) (by omega)
      obtain ⟨V, hV⟩ : ∃ V, V = lv r s L T p.t := ⟨_, rfl⟩
      have hblt := blk_lt hB
      have X0 := Lib.hid (show SX w w.heap.size b (off + k * 2) r s L T p wr from ⟨hB, hat, hb, hbl, Nat.le_refl _⟩)
      have hS := sx_cells (sx_drew X0.out)
      obtain ⟨⟨q0, q1, q2, q3, c0, c1⟩, -⟩ := sx_cells X0.out
      have HP := Lib.hid hp
      have HA := Lib.hid hav'
      have HT := Lib.hid htk
      have HV := Lib.hid hV
      have HRT := Lib.hid hrt
      rw [← hV] at hlb
      have hne : b ≠ w.heap.size := by omega
      clear hp hav hav' htk hrt hB hbl hV hbv hat hold
      by_cases hz : p.z ≤ V
      · have HZ := Lib.hid (show p.z ≤ lv r s L T p.t by rw [← HV.out]; exact hz)
        go_upto_region 5 with fail
        go_cut [9, 10] from 22 to 37 (fun s9 s10 wx => ∃ b9, s9 = .pointer (some ⟨b9, 0, none⟩) ∧ s10 = .bool true ∧ Blk wx b9 62 #[.int .i64 r, .int .i64 s, .int .i64 (V - p.z), .int .i64 p.t] ∧ b9 ≠ w.heap.size ∧ SX w w.heap.size b (off + k * 2) r s L T p wx)
        case first =>
          go_region_held3 (fun w' => (w'.cell? ⟨w.heap.size, 0, none⟩ = some (.int .i64 r) ∧ w'.cell? ⟨w.heap.size, 1, none⟩ = some (.int .i64 s) ∧ w'.cell? ⟨w.heap.size, 2, none⟩ = some (.int .i64 L) ∧ w'.cell? ⟨w.heap.size, 3, none⟩ = some (.int .i64 T) ∧ w'.cell? ⟨b, off + k * 2, none⟩ = some (.int .i64 p.t) ∧ w'.cell? ⟨b, off + k * 2 + 1, none⟩ = some (.int .i64 p.z)) ∧ SX w w.heap.size b (off + k * 2) r s L T p w')
            (first
              | (with_reducible assumption)
              | (with_reducible exact sx_cells (sx_drew (sx_alloc X0.out _)))
              | (with_reducible exact sx_cells (sx_alloc X3.out _))
              | (refine sx_cells ?_; with_reducible refine sx_set ?_ ?_ ?_ ?_ _; with_reducible refine sx_set ?_ ?_ ?_ ?_ _; with_reducible refine sx_set ?_ ?_ ?_ ?_ _; with_reducible refine sx_set ?_ ?_ ?_ ?_ _; with_reducible exact X3.out; all_goals (simp <;> omega))
              | fail)
            (first
              | (go_at_call 57
                 refine (takeS_yes r s L T p.t p.z _ HT.out HZ.out).mono ?_
                 rintro e w3 ⟨rfl, hb3⟩
                 rw [← HV.out]
                 have X3 := Lib.hid (sx_below (sxO (by with_reducible assumption)) hb3)
                 have hS3 := sx_cells X3.out
                 have z3 := hb3.size
                 try simp at z3
                 try (have o0 := (show Blk (wr.alloc (.cells #[.int .i64 0, .int .i64 0, .int .i64 0, .int .i64 0] 62)).drew wr.heap.size 62 #[.int .i64 0, .int .i64 0, .int .i64 0, .int .i64 0] from blk_new wr _ _); have o1 := blk_below o0 hb3 (blk_lt o0); obtain ⟨⟨n0, n1, n2, n3⟩, m0, m1, m2, m3⟩ := blk_4 o1; have nB := Lib.hid o1; clear o0 o1)
                 clear hb3))
          all_goals
            go_wp2_with fail
            go_meet
            first
              | exact ⟨_, rfl, rfl, blk_new w3 _ _, by have := sx_lt X3.out; omega, sx_alloc X3.out _⟩
              | exact ⟨_, rfl, rfl, blk_set (blk_set (blk_set (blk_set nB.out 0 _) 1 _) 2 _) 3 _, by omega, sx_set (sx_set (sx_set (sx_set X3.out (by show wr.heap.size ≠ _; omega) (by show wr.heap.size ≠ _; omega) (by show _ ≤ wr.heap.size; omega) _) (by show wr.heap.size ≠ _; omega) (by show wr.heap.size ≠ _; omega) (by show _ ≤ wr.heap.size; omega) _) (by show wr.heap.size ≠ _; omega) (by show wr.heap.size ≠ _; omega) (by show _ ≤ wr.heap.size; omega) _) (by show wr.heap.size ≠ _; omega) (by show wr.heap.size ≠ _; omega) (by show _ ≤ wr.heap.size; omega) _⟩
        case rest =>
        obtain ⟨b9, rfl, rfl, hB9, hne9, hX⟩ := hcut
        have B9 := Lib.hid hB9
        have X9 := Lib.hid hX
        obtain ⟨⟨n0, n1, n2, n3⟩, -⟩ := blk_4 hB9
        obtain ⟨⟨q0', q1', q2', q3'⟩, m0, m1, m2, m3⟩ := blk_4 hX.box
        have hlt9 := blk_lt hB9
        have hltg := sx_lt hX
        clear hB9 hX hS q0 q1 q2 q3 c0 c1
        go_wp2
        go_roundw
        case rel =>
          refine ⟨k + 1, V - p.z, p.t, by omega, by go_num, by rw [HV.out]; exact cf_go HE.out HP.out HZ.out, HA.out, by rw [HV.out]; exact bv_rt HRT.out (by rw [← HV.out]; omega) (by rw [← HV.out]; omega), ?_, ?_⟩
          · exact blk_set (blk_set (blk_set (blk_set X9.out.box 0 _) 1 _) 2 _) 3 _
          · exact (((X9.out.bel.setCell (Nat.le_refl _) _).setCell (Nat.le_refl _) _).setCell (Nat.le_refl _) _).setCell (Nat.le_refl _) _
        case measure => simp [intOf]; omega
      · have HZ := Lib.hid (show lv r s L T p.t < p.z by rw [← HV.out]; omega)
        go_upto_region 5 with fail
        go_cut [9, 10] from 22 to 37 (fun s9 s10 wx => s10 = .bool false ∧ SX w w.heap.size b (off + k * 2) r s L T p wx)
        case first =>
          go_region_held3 (fun w' => (w'.cell? ⟨w.heap.size, 0, none⟩ = some (.int .i64 r) ∧ w'.cell? ⟨w.heap.size, 1, none⟩ = some (.int .i64 s) ∧ w'.cell? ⟨w.heap.size, 2, none⟩ = some (.int .i64 L) ∧ w'.cell? ⟨w.heap.size, 3, none⟩ = some (.int .i64 T) ∧ w'.cell? ⟨b, off + k * 2, none⟩ = some (.int .i64 p.t) ∧ w'.cell? ⟨b, off + k * 2 + 1, none⟩ = some (.int .i64 p.z)) ∧ SX w w.heap.size b (off + k * 2) r s L T p w')
            (first
              | (with_reducible assumption)
              | (with_reducible exact sx_cells (sx_drew (sx_alloc X0.out _)))
              | (with_reducible exact sx_cells (sx_alloc X3.out _))
              | (refine sx_cells ?_; with_reducible refine sx_set ?_ ?_ ?_ ?_ _; with_reducible refine sx_set ?_ ?_ ?_ ?_ _; with_reducible refine sx_set ?_ ?_ ?_ ?_ _; with_reducible refine sx_set ?_ ?_ ?_ ?_ _; with_reducible exact X3.out; all_goals (simp <;> omega))
              | fail)
            (first
              | (go_at_call 57
                 refine (takeS_over r s L T p.t p.z _ HT.out HZ.out).mono ?_
                 rintro e w3 ⟨rfl, hb3⟩
                 rw [← HV.out]
                 have X3 := Lib.hid (sx_below (sxO (by with_reducible assumption)) hb3)
                 have hS3 := sx_cells X3.out
                 have z3 := hb3.size
                 try simp at z3
                 try (have o0 := (show Blk (wr.alloc (.cells #[.int .i64 0, .int .i64 0, .int .i64 0, .int .i64 0] 62)).drew wr.heap.size 62 #[.int .i64 0, .int .i64 0, .int .i64 0, .int .i64 0] from blk_new wr _ _); have o1 := blk_below o0 hb3 (blk_lt o0); obtain ⟨⟨n0, n1, n2, n3⟩, m0, m1, m2, m3⟩ := blk_4 o1; have nB := Lib.hid o1; clear o0 o1)
                 clear hb3))
          all_goals
            go_wp2_with fail
            go_meet
            first
              | exact ⟨rfl, sx_alloc X3.out _⟩
              | exact ⟨rfl, sx_set (sx_set (sx_set (sx_set X3.out (by show wr.heap.size ≠ _; omega) (by show wr.heap.size ≠ _; omega) (by show _ ≤ wr.heap.size; omega) _) (by show wr.heap.size ≠ _; omega) (by show wr.heap.size ≠ _; omega) (by show _ ≤ wr.heap.size; omega) _) (by show wr.heap.size ≠ _; omega) (by show wr.heap.size ≠ _; omega) (by show _ ≤ wr.heap.size; omega) _) (by show wr.heap.size ≠ _; omega) (by show wr.heap.size ≠ _; omega) (by show _ ≤ wr.heap.size; omega) _⟩
        case rest =>
        obtain ⟨rfl, hX⟩ := hcut
        have X9 := Lib.hid hX
        clear hX hS q0 q1 q2 q3 c0 c1
        go_wp2
        go_ret
        exact ⟨ret_bool (cf_stop HE.out HP.out HZ.out).symm, X9.out.bel⟩
    · obtain rfl : k = n := by omega
      have HBL := Lib.hid hbl
      clear hbl hB
      go_wp2
      go_ret
      exact ⟨ret_bool (cf_end HE.out (by have := H.out.1; omega)).symm, HBL.out⟩
set_option maxHeartbeats 1000000 in
theorem cfS_any (A : Option Addr) (n c : Nat) (ps : List Arr) (r s : Int) (w : World) (h : AR w A n ps) (hn : n ≤ 9223372036854775807) :
    Calls Try.prog 26 #[.slice A n c, .int .i64 r, .int .i64 s] w fun e w' => e = .returned (.tuple #[.bool (cfR ps r s), .bool (bkB ps r s)]) ∧ Below w.heap.size w w' := by
  have H := Lib.hid h
  clear h
  rcases h1 : avB ps with _ | _
  · have HK := Lib.hid (show bkB ps r s = false by rw [bkB, h1, Bool.false_and])
    go_enter Try.func26, Try.ntmps26
    go_wp2_with (go_at_call 16; refine (avS_any A n c ps _ H.out hn).mono ?_; rintro e w1 ⟨rfl, hb1⟩; have B1 := Lib.hid hb1; clear hb1)
    go_ret2
    exact ⟨ret_bb (cfR_no HK.out).symm HK.out.symm, B1.out⟩
  · rcases h2 : rbB r s with _ | _
    · have HK := Lib.hid (show bkB ps r s = false by rw [bkB, h2, Bool.and_false])
      go_enter Try.func26, Try.ntmps26
      go_wp2_with (first | (go_at_call 16; refine (avS_any A n c ps _ H.out hn).mono ?_; rintro e w1 ⟨rfl, hb1⟩; have B1 := Lib.hid hb1; clear hb1) | (go_at_call 50; refine (ratesS_any _ _ _).mono ?_; rintro e w' ⟨rfl, rfl⟩))
      go_ret2
      exact ⟨ret_bb (cfR_no HK.out).symm HK.out.symm, B1.out⟩
    · have HK := Lib.hid (show bkB ps r s = true by rw [bkB, h1, h2]; rfl)
      have HV := Lib.hid h1
      have HR := Lib.hid h2
      go_enter Try.func26, Try.ntmps26
      go_wp2_with (first | (go_at_call 16; refine (avS_any A n c ps _ H.out hn).mono ?_; rintro e w1 ⟨rfl, hb1⟩; have B1 := Lib.hid hb1; clear hb1) | (go_at_call 50; refine (ratesS_any _ _ _).mono ?_; rintro e w' ⟨rfl, rfl⟩) | (go_at_call 51; refine (runS_any A n c ps r s _ (ar_below H.out B1.out) HV.out HR.out).mono ?_; rintro e w2 ⟨rfl, hb2⟩; have B2 := Lib.hid (below_seq B1.out hb2); clear hb2))
      go_ret2
      exact ⟨ret_bb (cfR_yes HK.out).symm HK.out.symm, B2.out⟩
end Go.Proofs.Ytclgmmnidkppmab
