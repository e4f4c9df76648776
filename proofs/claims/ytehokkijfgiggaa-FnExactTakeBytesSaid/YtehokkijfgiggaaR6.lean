/-
  Chapter 5: NextPacket: what the program's function and the model's return. Conditions: none.
-/
import Derived.Test.YtehokkijfgiggaaR5S
import Derived.Test.YtehokkijfgiggaaR2b
namespace Go.Proofs.Ytehokkijfgiggaa
open Go.RowKit

theorem rv_dec (q : Int) (fs : List Flw) : RV q fs ∨ rvB q fs = false := by
  rcases h : rvB q fs with _ | _
  · exact .inr rfl
  · exact .inl (rv_iff.1 h)
def NxOk (q : Int) (fs : List Flw) : Prop := RV q fs ∧ fs ≠ []
/-- what NextPacket hands back when there is nothing to take -/
def NpNo (w : World) (e : Ending) (w' : World) : Prop := e = .returned (.tuple #[.agg #[.int .i64 0, (.slice none 0 0)], .agg #[.int .i64 0, .int .i64 0, .int .i64 0, .int .i64 0], .bool false]) ∧ Below w.heap.size w w'
def NpYes (w : World) (q : Int) (fs : List Flw) (e : Ending) (w' : World) : Prop :=
  ∃ A n c hs, e = .returned (.tuple #[.agg #[.int .i64 q, (.slice A n c)], .agg #[.int .i64 (nxP q fs).peer, .int .i64 (nxP q fs).lane, .int .i64 (nxP q fs).size, .int .i64 (nxP q fs).id], .bool true]) ∧ DO w' w.heap.size (.slice A n c) n hs (nxL q fs) ∧ Below w.heap.size w w'
def NpYesS (w : World) (q : Int) (fs : List Flw) (e : Ending) (w' : World) : Prop :=
  ∃ A n c, e = .returned (.tuple #[.agg #[.int .i64 q, (.slice A n c)], .agg #[.int .i64 (nxP q fs).peer, .int .i64 (nxP q fs).lane, .int .i64 (nxP q fs).size, .int .i64 (nxP q fs).id], .bool true]) ∧ FR w' A n (nxL q fs) ∧ Below w.heap.size w w'
set_option maxHeartbeats 2000000 in
theorem npI_no (q : Int) (A : Option Addr) (n c : Nat) (fs : List Flw) (w : World) (h : FR w A n fs) (hk : ¬ NxOk q fs) :
    Calls Try.prog 18 #[.agg #[.int .i64 q, (.slice A n c)]] w (NpNo w) := by
  have H := Lib.hid h
  have HL := Lib.hid (fr_lenF h)
  have F := Lib.hid (show Fm w (bx3 w q A n c) _ from fm_three w 25 25 28 #[.int .i64 q, (.slice A n c)] #[.int .i64 0, (.slice none 0 0)] #[.int .i64 0, .int .i64 0, .int .i64 0, .int .i64 0])
  clear h
  rcases hr : rvB q fs with _ | _
  · have HR := Lib.hid hr
    clear hr hk
    go_enter Try.func18, Try.ntmps18
    go_wp2_with (go_at_call 23
                 refine (rvI_any q A n c fs _ (fr_belowF H.out F.out.below)).mono ?_
                 rintro e w1 ⟨rfl, hb1⟩
                 rw [HR.out]
                 have F1 := Lib.hid (fm_below F.out hb1)
                 obtain ⟨o0, o1, of0, of1⟩ := blk_two (fm_blk F1.out 1 rfl)
                 obtain ⟨⟨k0, k1, k2, k3⟩, kf0, kf1, kf2, kf3⟩ := blk_fourR (fm_blk F1.out 2 rfl)
                 clear hb1)
    refine bodyPost_ret (v := .tuple #[.agg #[.int .i64 0, (.slice none 0 0)], .agg #[.int .i64 0, .int .i64 0, .int .i64 0, .int .i64 0], .bool false]) (by simp [results, Try.results18, go_sem, o0, o1, k0, k1, k2, k3]) rfl ⟨rfl, ?_⟩
    iterate 6 (with_reducible refine Below.setCell ?_ (by simp <;> omega) _)
    exact F1.out.below
  · have h0 : n = 0 := by
      have : fs = [] := Classical.byContradiction fun h => hk ⟨rv_iff.1 hr, h⟩
      have := HL.out.1
      simp_all
    subst h0
    have HR := Lib.hid hr
    clear hr hk
    go_enter Try.func18, Try.ntmps18
    go_wp2_with (go_at_call 23
                 refine (rvI_any q A 0 c fs _ (fr_belowF H.out F.out.below)).mono ?_
                 rintro e w1 ⟨rfl, hb1⟩
                 rw [HR.out]
                 have F1 := Lib.hid (fm_below F.out hb1)
                 obtain ⟨g0, g1, -⟩ := blk_two (fm_blk F1.out 0 rfl)
                 obtain ⟨o0, o1, of0, of1⟩ := blk_two (fm_blk F1.out 1 rfl)
                 obtain ⟨⟨k0, k1, k2, k3⟩, kf0, kf1, kf2, kf3⟩ := blk_fourR (fm_blk F1.out 2 rfl)
                 clear hb1)
    refine bodyPost_ret (v := .tuple #[.agg #[.int .i64 0, (.slice none 0 0)], .agg #[.int .i64 0, .int .i64 0, .int .i64 0, .int .i64 0], .bool false]) (by simp [results, Try.results18, go_sem, o0, o1, k0, k1, k2, k3]) rfl ⟨rfl, ?_⟩
    iterate 6 (with_reducible refine Below.setCell ?_ (by simp <;> omega) _)
    exact F1.out.below
set_option maxHeartbeats 2000000 in
theorem npI_yes (q : Int) (A : Option Addr) (n c : Nat) (fs : List Flw) (w : World) (h : FR w A n fs) (hk : NxOk q fs) :
    Calls Try.prog 18 #[.agg #[.int .i64 q, (.slice A n c)]] w (NpYes w q fs) := by
  have H := Lib.hid h
  have hl := (fr_lenF h).1
  have F := Lib.hid (show Fm w (bx3 w q A n c) _ from fm_three w 25 25 28 #[.int .i64 q, (.slice A n c)] #[.int .i64 0, (.slice none 0 0)] #[.int .i64 0, .int .i64 0, .int .i64 0, .int .i64 0])
  have hnz : ((n : Int) == 0) = false := by
    have : 0 < fs.length := by
      rcases Nat.eq_zero_or_pos fs.length with e | e
      · exact absurd (List.eq_nil_of_length_eq_zero e) hk.2
      · exact e
    simp; omega
  have HK := Lib.hid hk
  have HR := Lib.hid (rv_yes hk.1)
  obtain ⟨P, hP⟩ : ∃ P, P = nxP q fs := ⟨_, rfl⟩
  have HP := Lib.hid hP
  clear h hl hk hP
  go_enter Try.func18, Try.ntmps18
  go_wp2_with (first
    | (go_at_call 23
       refine (rvI_any q A n c fs _ (fr_belowF H.out F.out.below)).mono ?_
       rintro e w1 ⟨rfl, hb1⟩
       rw [HR.out]
       have F1 := Lib.hid (fm_below F.out hb1)
       obtain ⟨g0, g1, -⟩ := blk_two (fm_blk F1.out 0 rfl)
       clear hb1)
    | (go_at_call 50
       refine (takeI_any (fun b => b < w.heap.size) q A n c fs _ (frx_below (fr_frx H.out) F1.out.below) (fun b hb => by have := F1.out.below.size; omega) HK.out.1 HK.out.2).mono ?_
       rintro e w2 ⟨A2, n2, c2, rfl, hf2, hb2⟩
       rw [← HP.out]
       have F2 := Lib.hid (fm_below F1.out hb2)
       have R2 := Lib.hid (frx_fr hf2)
       clear hb2 hf2 g0 g1))
  have F3 := Lib.hid (fm_below F2.out (below_alloc (below_alloc (Below.refl _ _) (.cells #[.int .i64 q, (.slice A2 n2 c2)] 25)) (.cells #[.int .i64 P.peer, .int .i64 P.lane, .int .i64 P.size, .int .i64 P.id] 28)).drew)
  have B5 := Lib.hid (show Blk ((w2.alloc (.cells #[.int .i64 q, (.slice A2 n2 c2)] 25)).alloc (.cells #[.int .i64 P.peer, .int .i64 P.lane, .int .i64 P.size, .int .i64 P.id] 28)).drew (w2.heap.size + 1) 28 #[.int .i64 P.peer, .int .i64 P.lane, .int .i64 P.size, .int .i64 P.id] from blk_at (w := w2.alloc (.cells #[.int .i64 q, (.slice A2 n2 c2)] 25)) (by simp) _ _)
  obtain ⟨⟨p0, p1, p2, p3⟩, -⟩ := blk_fourR B5.out
  have zf := F2.out.below.size
  go_region_with (go_at_call 51
                  refine (copyRI_any q A2 n2 c2 _ _ (fr_drewF (fr_allocF (fr_allocF R2.out _) _))).mono ?_
                  rintro e w4 ⟨A4, n4, c4, hs4, rfl, -, -, -, hD, hb4⟩
                  have D4 := Lib.hid hD
                  have F4 := Lib.hid (fm_below F3.out hb4)
                  obtain ⟨⟨p0, p1, p2, p3⟩, -⟩ := blk_fourR (blk_below B5.out hb4 (by simp))
                  obtain ⟨o0, o1, of0, of1⟩ := blk_two (fm_blk F4.out 1 rfl)
                  obtain ⟨⟨k0, k1, k2, k3⟩, kf0, kf1, kf2, kf3⟩ := blk_fourR (fm_blk F4.out 2 rfl)
                  have zl := hb4.size
                  simp at zl
                  have zl1 : w.heap.size + 1 < w2.heap.size + 1 := (by have := blk_lt (fm_blk F2.out 1 rfl); omega)
                  have zl2 : w.heap.size + 2 < w2.heap.size + 1 := (by have := blk_lt (fm_blk F2.out 2 rfl); omega)
                  clear hb4 hD)
  all_goals
    have zm : w.heap.size + 3 ≤ w2.heap.size := by have := blk_lt (fm_blk F2.out 2 rfl); omega
    go_wp2
    refine bodyPost_ret (v := .tuple #[.agg #[.int .i64 q, (.slice A4 n4 c4)], .agg #[.int .i64 P.peer, .int .i64 P.lane, .int .i64 P.size, .int .i64 P.id], .bool true]) (by simp [results, Try.results18, go_sem, o0, o1, k0, k1, k2, k3]) rfl ⟨A4, n4, c4, hs4, by rw [HP.out], ?_, ?_⟩
    · refine do_mono (lo := w2.heap.size + 2) ?_ (by omega)
      iterate 6 (with_reducible refine do_far ?_ (by simp <;> omega) _)
      exact do_mono D4.out (by simp)
    · iterate 6 (with_reducible refine Below.setCell ?_ (by simp <;> omega) _)
      exact F4.out.below
set_option maxHeartbeats 2000000 in
theorem npS_no (q : Int) (A : Option Addr) (n c : Nat) (fs : List Flw) (w : World) (h : FR w A n fs) (hk : ¬ NxOk q fs) :
    Calls Try.prog 19 #[.agg #[.int .i64 q, (.slice A n c)]] w (NpNo w) := by
  have H := Lib.hid h
  have HL := Lib.hid (fr_lenF h)
  have F := Lib.hid (show Fm w (bx3 w q A n c) _ from fm_three w 25 25 28 #[.int .i64 q, (.slice A n c)] #[.int .i64 0, (.slice none 0 0)] #[.int .i64 0, .int .i64 0, .int .i64 0, .int .i64 0])
  clear h
  rcases hr : rvB q fs with _ | _
  · have HR := Lib.hid hr
    clear hr hk
    go_enter Try.func19, Try.ntmps19
    go_wp2_with (go_at_call 36
                 refine (rvS_any q A n c fs _ (fr_belowF H.out F.out.below)).mono ?_
                 rintro e w1 ⟨rfl, hb1⟩
                 rw [HR.out]
                 have F1 := Lib.hid (fm_below F.out hb1)
                 obtain ⟨o0, o1, of0, of1⟩ := blk_two (fm_blk F1.out 1 rfl)
                 obtain ⟨⟨k0, k1, k2, k3⟩, kf0, kf1, kf2, kf3⟩ := blk_fourR (fm_blk F1.out 2 rfl)
                 clear hb1)
    refine bodyPost_ret (v := .tuple #[.agg #[.int .i64 0, (.slice none 0 0)], .agg #[.int .i64 0, .int .i64 0, .int .i64 0, .int .i64 0], .bool false]) (by simp [results, Try.results19, go_sem, o0, o1, k0, k1, k2, k3]) rfl ⟨rfl, ?_⟩
    iterate 6 (with_reducible refine Below.setCell ?_ (by simp <;> omega) _)
    exact F1.out.below
  · have h0 : n = 0 := by
      have : fs = [] := Classical.byContradiction fun h => hk ⟨rv_iff.1 hr, h⟩
      have := HL.out.1
      simp_all
    subst h0
    have HR := Lib.hid hr
    clear hr hk
    go_enter Try.func19, Try.ntmps19
    go_wp2_with (go_at_call 36
                 refine (rvS_any q A 0 c fs _ (fr_belowF H.out F.out.below)).mono ?_
                 rintro e w1 ⟨rfl, hb1⟩
                 rw [HR.out]
                 have F1 := Lib.hid (fm_below F.out hb1)
                 obtain ⟨g0, g1, -⟩ := blk_two (fm_blk F1.out 0 rfl)
                 obtain ⟨o0, o1, of0, of1⟩ := blk_two (fm_blk F1.out 1 rfl)
                 obtain ⟨⟨k0, k1, k2, k3⟩, kf0, kf1, kf2, kf3⟩ := blk_fourR (fm_blk F1.out 2 rfl)
                 clear hb1)
    refine bodyPost_ret (v := .tuple #[.agg #[.int .i64 0, (.slice none 0 0)], .agg #[.int .i64 0, .int .i64 0, .int .i64 0, .int .i64 0], .bool false]) (by simp [results, Try.results19, go_sem, o0, o1, k0, k1, k2, k3]) rfl ⟨rfl, ?_⟩
    iterate 6 (with_reducible refine Below.setCell ?_ (by simp <;> omega) _)
    exact F1.out.below
set_option maxHeartbeats 2000000 in
theorem npS_yes (q : Int) (A : Option Addr) (n c : Nat) (fs : List Flw) (w : World) (h : FR w A n fs) (hk : NxOk q fs) :
    Calls Try.prog 19 #[.agg #[.int .i64 q, (.slice A n c)]] w (NpYesS w q fs) := by
  have H := Lib.hid h
  have hl := (fr_lenF h).1
  have F := Lib.hid (show Fm w (bx3 w q A n c) _ from fm_three w 25 25 28 #[.int .i64 q, (.slice A n c)] #[.int .i64 0, (.slice none 0 0)] #[.int .i64 0, .int .i64 0, .int .i64 0, .int .i64 0])
  have hnz : ((n : Int) == 0) = false := by
    have : 0 < fs.length := by
      rcases Nat.eq_zero_or_pos fs.length with e | e
      · exact absurd (List.eq_nil_of_length_eq_zero e) hk.2
      · exact e
    simp; omega
  have HK := Lib.hid hk
  have HR := Lib.hid (rv_yes hk.1)
  obtain ⟨P, hP⟩ : ∃ P, P = nxP q fs := ⟨_, rfl⟩
  have HP := Lib.hid hP
  clear h hl hk hP
  go_enter Try.func19, Try.ntmps19
  go_wp2_with (first
    | (go_at_call 36
       refine (rvS_any q A n c fs _ (fr_belowF H.out F.out.below)).mono ?_
       rintro e w1 ⟨rfl, hb1⟩
       rw [HR.out]
       have F1 := Lib.hid (fm_below F.out hb1)
       obtain ⟨g0, g1, -⟩ := blk_two (fm_blk F1.out 0 rfl)
       clear hb1)
    | (go_at_call 52
       refine (nextS_any q A n c fs _ (fr_belowF H.out F1.out.below) HK.out.1 HK.out.2).mono ?_
       rintro e w2 ⟨A2, n2, c2, rfl, hf2, hb2⟩
       rw [← HP.out]
       have F2 := Lib.hid (fm_below F1.out hb2)
       have R2 := Lib.hid hf2
       have ZZ := Lib.hid hb2.size
       clear hb2 hf2 g0 g1))
  have zw : w.heap.size + 3 ≤ w1.heap.size := by have := blk_lt (fm_blk F1.out 2 rfl); omega
  have F3 := Lib.hid (fm_below F2.out (below_alloc (below_alloc (Below.refl _ _) (.cells #[.int .i64 q, (.slice A2 n2 c2)] 25)) (.cells #[.int .i64 P.peer, .int .i64 P.lane, .int .i64 P.size, .int .i64 P.id] 28)))
  have B4 := Lib.hid (show Blk ((w2.alloc (.cells #[.int .i64 q, (.slice A2 n2 c2)] 25)).alloc (.cells #[.int .i64 P.peer, .int .i64 P.lane, .int .i64 P.size, .int .i64 P.id] 28)) w2.heap.size 25 #[.int .i64 q, (.slice A2 n2 c2)] from blk_alloc (blk_new w2 _ _) _)
  have B5 := Lib.hid (show Blk ((w2.alloc (.cells #[.int .i64 q, (.slice A2 n2 c2)] 25)).alloc (.cells #[.int .i64 P.peer, .int .i64 P.lane, .int .i64 P.size, .int .i64 P.id] 28)) (w2.heap.size + 1) 28 #[.int .i64 P.peer, .int .i64 P.lane, .int .i64 P.size, .int .i64 P.id] from blk_at (w := w2.alloc (.cells #[.int .i64 q, (.slice A2 n2 c2)] 25)) (by simp) _ _)
  have R3 := Lib.hid (frx_alloc (frx_alloc R2.out (.cells #[.int .i64 q, (.slice A2 n2 c2)] 25)) (.cells #[.int .i64 P.peer, .int .i64 P.lane, .int .i64 P.size, .int .i64 P.id] 28))
  have z2 : w1.heap.size ≤ w2.heap.size := ZZ.out
  generalize (w2.alloc (.cells #[.int .i64 q, (.slice A2 n2 c2)] 25)).alloc (.cells #[.int .i64 P.peer, .int .i64 P.lane, .int .i64 P.size, .int .i64 P.id] 28) = V at F3 B4 B5 R3 ⊢
  obtain ⟨l0, l1, -, -⟩ := blk_two B4.out
  obtain ⟨⟨p0, p1, p2, p3⟩, -⟩ := blk_fourR B5.out
  obtain ⟨o0, o1, of0, of1⟩ := blk_two (fm_blk F3.out 1 rfl)
  obtain ⟨⟨k0, k1, k2, k3⟩, kf0, kf1, kf2, kf3⟩ := blk_fourR (fm_blk F3.out 2 rfl)
  have zb1 := blk_lt (fm_blk F3.out 1 rfl)
  have zb2 := blk_lt (fm_blk F3.out 2 rfl)
  have zv := blk_lt B5.out
  have zn1 : w.heap.size + 1 < w2.heap.size := by omega
  have zn2 : w.heap.size + 2 < w2.heap.size := by omega
  have zn3 : w.heap.size + 1 < w2.heap.size + 1 := by omega
  have zn4 : w.heap.size + 2 < w2.heap.size + 1 := by omega
  go_region
  all_goals
    go_wp2
    refine bodyPost_ret (v := .tuple #[.agg #[.int .i64 q, (.slice A2 n2 c2)], .agg #[.int .i64 P.peer, .int .i64 P.lane, .int .i64 P.size, .int .i64 P.id], .bool true]) (by simp [results, Try.results19, go_sem, o0, o1, k0, k1, k2, k3]) rfl ⟨A2, n2, c2, by rw [HP.out], ?_, ?_⟩
    · refine frx_fr (X := fun b => False ∨ w1.heap.size ≤ b) ?_
      refine frx_drew ?_
      iterate 6 (with_reducible refine frx_set ?_ (fun hx => by simp at hx; omega) _)
      exact R3.out
    · refine Below.drew ?_
      iterate 6 (with_reducible refine Below.setCell ?_ (by simp <;> omega) _)
      exact F3.out.below
end Go.Proofs.Ytehokkijfgiggaa
