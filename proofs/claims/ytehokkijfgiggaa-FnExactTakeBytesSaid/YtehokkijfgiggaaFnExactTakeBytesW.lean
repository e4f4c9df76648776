/-
  The law FnExactTakeBytes returns true at every argument: the program's TakeBytes answers as the model's, writes into no argument, and its answer owns its memory. Conditions: none.
-/
import Derived.Test.YtehokkijfgiggaaREx
namespace Go.Proofs.Ytehokkijfgiggaa.fnExactTakeBytes
open Go.ChangeShapes Go.WideShapes Go.ChangeAt Go.RowKit

theorem both (q : Int) (fs : List Flw) (x : Int) (hx : x ≤ 9223372036854775807) : ∃ (Q : Int) (gs : List Flw) (ps : List Pkt) (ok : Bool), gs.length ≤ 8 ∧ total gs ≤ 512 ∧ ps.length ≤ 512 ∧
    Hid (∀ (A : Option Addr) (n c : Nat) (w : World), FR w A n fs → Calls Try.prog 29 #[.agg #[.int .i64 q, (.slice A n c)], .int .i64 x] w (RbS w Q gs ps ok)) ∧
    Hid (∀ (A : Option Addr) (n c : Nat) (w : World), FR w A n fs → Calls Try.prog 28 #[.agg #[.int .i64 q, (.slice A n c)], .int .i64 x] w (RbI w Q gs ps ok)) := by
  by_cases hk : RV q fs ∧ 0 ≤ x
  · obtain ⟨a1, a2, -, -⟩ := takeB_part fs hk.1 x
    have h1 := rv_len a1
    have h2 := total_le a1
    have h3 := (takeA_512 hk.1).1
    have h4 : (takeB q x fs).2.length ≤ 512 := by rw [a2, List.length_append] at h3; omega
    refine ⟨q, (takeB q x fs).1, (takeB q x fs).2, true, h1, by omega, h4, Lib.hid fun A n c w h => tbS_yes q A n c fs x w h hk.1 hk.2 hx, Lib.hid fun A n c w h => (tbI_yes q A n c fs x w h hk.1 hk.2 hx).mono fun _ _ h => ?_⟩
    obtain ⟨A2, n2, c2, hs, At, nt, ct, lo, e1, e2, e3, e4, e5, e6, e7⟩ := h
    exact ⟨A2, n2, c2, hs, At, nt, ct, e1, e4, tb_gp e2 e3 e5 e6, e7⟩
  · skip
    have keyS : ∀ {w : World} {e : Ending} {w' : World}, TbNo w e w' → RbS w 0 [] [] false e w' := fun h => by
      obtain ⟨At, ct, h1, h2, h3⟩ := h
      exact ⟨none, 0, 0, At, 0, ct, h1, fr_nilF _ _, rfl, h2, h3⟩
    have keyI : ∀ {w : World} {e : Ending} {w' : World}, TbNo w e w' → RbI w 0 [] [] false e w' := fun h => by
      obtain ⟨At, ct, h1, h2, h3⟩ := h
      exact ⟨none, 0, 0, [], At, 0, ct, h1, rfl, lv_gp (do_nil _ _) h2 (fun g _ e => by cases e) (fun j h e => by simp at e), h3⟩
    exact ⟨0, [], [], false, by simp, by simp [total], by simp, Lib.hid fun A n c w h => (tbS_no q A n c fs x w h hk).mono fun _ _ h => keyS h, Lib.hid fun A n c w h => (tbI_no q A n c fs x w h hk).mono fun _ _ h => keyI h⟩

set_option maxRecDepth 100000 in
set_option maxHeartbeats 8000000 in
theorem walk (q : Int) (A : Option Addr) (n c : Nat) (fs : List Flw) (x : Int) (w : World) (h : FA w A n fs) (hn : n ≤ 9223372036854775807) (hwx : (Lit.int .i64 x).wf = true) :
    Calls Try.prog 14 #[.agg #[.int .i64 q, (.slice A n c)], .int .i64 x] w fun e w' => e = .returned (.bool true) ∧ Below w.heap.size w w' := by
  have H := Lib.hid h
  have B0 := Lib.hid (below_alloc (Below.refl w.heap.size w) (.cells #[.int .i64 q, (.slice A n c)] 51))
  have A0 := Lib.hid (blk_new w 51 #[.int .i64 q, (.slice A n c)])
  clear h
  by_cases hbig : (n : Int) + (total fs : Int) ≤ 1048576
  · obtain ⟨Q, gs, ps, ok, hgl, hgt, hpl, HS0, HI0⟩ := both q fs x (wf_hi hwx)
    have hn1 : n ≤ 1048576 := by omega
    have ht1 : total fs ≤ 1048576 := by omega
    have hfl := fa_len H.out
    have hc := cntF_eq fs
    have kx : decide (1 + cntF fs < 0) = false := by simp; omega
    have kx0 : 0 ≤ 1 + cntF fs := by omega
    have hle : ¬ (1048576 : Int) < (n : Int) + (total fs : Int) := by omega
    have hd : decide ((1048576 : Int) - (n : Int) - (total fs : Int) < 0) = false := by simp; omega
    have hc2 := cntF_eq gs
    have kg : 0 ≤ 1 + cntF gs ∧ 1 + cntF gs ≤ 1000000 := by omega
    have kg0 : decide (1 + cntF gs < 0) = false := by simp; omega
    have hgt1 : total gs ≤ 1048576 := by omega
    have hgl1 : gs.length ≤ 1048576 := by omega
    clear hc2
    clear hc hfl
    go_enter Try.func14, Try.ntmps14
    go_wp2_with fail
    refine (szRobin_any q A n c fs 1048576 _ (fa_below H.out B0.out) hn (by omega)).mono ?_
    rintro e w1 ⟨rfl, hb⟩
    rw [if_neg (by omega)]
    have B1 := Lib.hid (below_seq B0.out hb)
    have A1 := Lib.hid (blk_below A0.out hb (by simp))
    clear hb hle
    obtain ⟨q0, q1, -, -⟩ := blk_two (A1.out)
    go_wp2_with fail
    refine (toRobin_any q A n c fs _ (fa_below H.out B1.out) hn1 ht1).mono ?_
    rintro e w2 ⟨A2, hs2, rfl, hD, hb⟩
    have X2 := Lib.hid (do_fr hD (by omega))
    have B2 := Lib.hid (below_seq B1.out hb)
    have A2b := Lib.hid (blk_below A1.out hb (blk_lt A1.out))
    clear hb hD q0 q1
    go_wp2_with fail
    refine (HS0.out A2 n n _ X2.out).mono ?_
    rintro e w3 ⟨Aw, nw, cw, Bw, mw, dw, rfl, hF, hm, hp, hb⟩
    have B3 := Lib.hid (below_seq B2.out hb)
    have A3 := Lib.hid (blk_below A2b.out hb (blk_lt A2b.out))
    have FW := Lib.hid hF
    have PW := Lib.hid (pr_own hp)
    have lmw : mw ≤ 1048576 := by omega
    have za : w.heap.size < w3.heap.size := blk_lt A3.out
    clear hb X2 A2b hF hm hp
    have F3 : Hid (Fm w3 [] w3) := Lib.hid (fm_zero w3)
    have F3a : Hid (Fm w3 [⟨w3.heap.size, w3.heap.size + 1, BoxP (w3.heap.size) 25 #[.int .i64 Q, (.slice Aw nw cw)]⟩] (w3.alloc (.cells #[.int .i64 Q, (.slice Aw nw cw)] 25))) := Lib.hid (fm_push F3.out (by simp) _ _)
    clear F3
    obtain ⟨q0, q1, -, -⟩ := blk_two (blk_below A3.out F3a.out.below za)
    go_wp2_with fail
    refine (toRobin_any q A n c fs _ (fa_below H.out (below_seq B3.out F3a.out.below)) hn1 ht1).mono ?_
    rintro e w4 ⟨A4, hs4, rfl, hD, hb⟩
    have F4 : Hid (Fm w3 [⟨w3.heap.size, w3.heap.size + 1, BoxP (w3.heap.size) 25 #[.int .i64 Q, (.slice Aw nw cw)]⟩, ⟨w3.heap.size + 1, w4.heap.size, DOI (w3.heap.size + 1) w4.heap.size (.slice A4 n n) n hs4 fs⟩] w4) := Lib.hid (fm_doi F3a.out hb hD (by simp))
    clear F3a
    clear hb hD q0 q1
    have F4b : Hid (Fm w3 [⟨w3.heap.size, w3.heap.size + 1, BoxP (w3.heap.size) 25 #[.int .i64 Q, (.slice Aw nw cw)]⟩, ⟨w3.heap.size + 1, w4.heap.size, DOI (w3.heap.size + 1) w4.heap.size (.slice A4 n n) n hs4 fs⟩, ⟨w4.heap.size, w4.heap.size + 1, BoxP (w4.heap.size) 25 #[.int .i64 q, (.slice A4 n n)]⟩] (w4.alloc (.cells #[.int .i64 q, (.slice A4 n n)] 25))) := Lib.hid (fm_push F4.out (by simp) _ _)
    clear F4
    obtain ⟨x0, x1, -, -⟩ := blk_two (fm_blk F4b.out 2 rfl)
    go_wp2_with fail
    refine (HI0.out A4 n n _ (doi_fr (fm_get F4b.out 1 rfl) (by omega))).mono ?_
    rintro e w5 ⟨Ag, ng, cg, hsg, Bg, mg, dg, rfl, hm, hG, hb⟩
    have lng : ng ≤ 1048576 := by have := do_cap hG.d.1; omega
    have lmg : mg ≤ 1048576 := by omega
    have F5 : Hid (Fm w3 [⟨w3.heap.size, w3.heap.size + 1, BoxP (w3.heap.size) 25 #[.int .i64 Q, (.slice Aw nw cw)]⟩, ⟨w3.heap.size + 1, w4.heap.size, DOI (w3.heap.size + 1) w4.heap.size (.slice A4 n n) n hs4 fs⟩, ⟨w4.heap.size, w4.heap.size + 1, BoxP (w4.heap.size) 25 #[.int .i64 q, (.slice A4 n n)]⟩, ⟨w4.heap.size + 1, w5.heap.size, GP (w4.heap.size + 1) w5.heap.size (.slice Ag ng cg) ng hsg gs (.slice Bg mg dg) mg ps⟩] w5) := Lib.hid (fm_gp F4b.out hb hG (by simp))
    clear F4b
    clear hb hG hm
    clear x0 x1
    have F5a : Hid (Fm w3 [⟨w3.heap.size, w3.heap.size + 1, BoxP (w3.heap.size) 25 #[.int .i64 Q, (.slice Aw nw cw)]⟩, ⟨w3.heap.size + 1, w4.heap.size, DOI (w3.heap.size + 1) w4.heap.size (.slice A4 n n) n hs4 fs⟩, ⟨w4.heap.size, w4.heap.size + 1, BoxP (w4.heap.size) 25 #[.int .i64 q, (.slice A4 n n)]⟩, ⟨w4.heap.size + 1, w5.heap.size, GP (w4.heap.size + 1) w5.heap.size (.slice Ag ng cg) ng hsg gs (.slice Bg mg dg) mg ps⟩, ⟨w5.heap.size, w5.heap.size + 1, BoxP (w5.heap.size) 25 #[.int .i64 Q, (.slice Ag ng cg)]⟩] (w5.alloc (.cells #[.int .i64 Q, (.slice Ag ng cg)] 25))) := Lib.hid (fm_push F5.out (by simp) _ _)
    clear F5
    obtain ⟨g0, g1, -, -⟩ := blk_two (fm_blk F5a.out 4 rfl)
    obtain ⟨u0, u1, -, -⟩ := blk_two (fm_blk F5a.out 0 rfl)
    go_wp2_with fail
    refine (eqRobin_same Q Ag Aw ng cg nw cw gs _ (doi_fr (fm_get F5a.out 3 rfl).d (by omega)) (fr_belowF FW.out F5a.out.below)).mono ?_
    rintro e w8a ⟨rfl, hb⟩
    have Fw8a : Hid (Fm w3 [⟨w3.heap.size, w3.heap.size + 1, BoxP (w3.heap.size) 25 #[.int .i64 Q, (.slice Aw nw cw)]⟩, ⟨w3.heap.size + 1, w4.heap.size, DOI (w3.heap.size + 1) w4.heap.size (.slice A4 n n) n hs4 fs⟩, ⟨w4.heap.size, w4.heap.size + 1, BoxP (w4.heap.size) 25 #[.int .i64 q, (.slice A4 n n)]⟩, ⟨w4.heap.size + 1, w5.heap.size, GP (w4.heap.size + 1) w5.heap.size (.slice Ag ng cg) ng hsg gs (.slice Bg mg dg) mg ps⟩, ⟨w5.heap.size, w5.heap.size + 1, BoxP (w5.heap.size) 25 #[.int .i64 Q, (.slice Ag ng cg)]⟩] w8a) := Lib.hid (fm_below F5a.out hb)
    clear F5a
    clear hb g0 g1 u0 u1
    go_wp2_with fail
    refine (eqPacketS_any Bg Bw mg dg mw dw ps ps _ (pr_own (fm_get Fw8a.out 3 rfl).o) (pr_below PW.out Fw8a.out.below) (by omega) (by omega)).mono ?_
    rintro e w8c ⟨rfl, hb⟩
    rw [← same_yes rfl]
    have Fw8c : Hid (Fm w3 [⟨w3.heap.size, w3.heap.size + 1, BoxP (w3.heap.size) 25 #[.int .i64 Q, (.slice Aw nw cw)]⟩, ⟨w3.heap.size + 1, w4.heap.size, DOI (w3.heap.size + 1) w4.heap.size (.slice A4 n n) n hs4 fs⟩, ⟨w4.heap.size, w4.heap.size + 1, BoxP (w4.heap.size) 25 #[.int .i64 q, (.slice A4 n n)]⟩, ⟨w4.heap.size + 1, w5.heap.size, GP (w4.heap.size + 1) w5.heap.size (.slice Ag ng cg) ng hsg gs (.slice Bg mg dg) mg ps⟩, ⟨w5.heap.size, w5.heap.size + 1, BoxP (w5.heap.size) 25 #[.int .i64 Q, (.slice Ag ng cg)]⟩] w8c) := Lib.hid (fm_below Fw8a.out hb)
    clear Fw8a
    clear hb
    have hS := fm_rd22 (fm_drew Fw8c.out) A3.out 2 rfl
    go_wp2_with fail
    go_region_held3 (fun w' => (w'.cell? ⟨w.heap.size, 0, none⟩ = some (.int .i64 q) ∧ w'.cell? ⟨w.heap.size, 1, none⟩ = some (.slice A n c)) ∧ (w'.cell? ⟨w4.heap.size, 0, none⟩ = some (.int .i64 q) ∧ w'.cell? ⟨w4.heap.size, 1, none⟩ = some (.slice A4 n n)) ∧ Fm w3 [⟨w3.heap.size, w3.heap.size + 1, BoxP (w3.heap.size) 25 #[.int .i64 Q, (.slice Aw nw cw)]⟩, ⟨w3.heap.size + 1, w4.heap.size, DOI (w3.heap.size + 1) w4.heap.size (.slice A4 n n) n hs4 fs⟩, ⟨w4.heap.size, w4.heap.size + 1, BoxP (w4.heap.size) 25 #[.int .i64 q, (.slice A4 n n)]⟩, ⟨w4.heap.size + 1, w5.heap.size, GP (w4.heap.size + 1) w5.heap.size (.slice Ag ng cg) ng hsg gs (.slice Bg mg dg) mg ps⟩, ⟨w5.heap.size, w5.heap.size + 1, BoxP (w5.heap.size) 25 #[.int .i64 Q, (.slice Ag ng cg)]⟩] w')
      (first | (with_reducible assumption) | fail)
      (first
        | (go_at_call 38
           refine (eqRobin_same q A4 A6 n n n n fs _ (doi_fr (fm_get FX6.out 1 rfl) (by omega)) PX6.out).mono ?_
           rintro e w7 ⟨rfl, hb7⟩
           have FX7 : Hid (Fm w3 [⟨w3.heap.size, w3.heap.size + 1, BoxP (w3.heap.size) 25 #[.int .i64 Q, (.slice Aw nw cw)]⟩, ⟨w3.heap.size + 1, w4.heap.size, DOI (w3.heap.size + 1) w4.heap.size (.slice A4 n n) n hs4 fs⟩, ⟨w4.heap.size, w4.heap.size + 1, BoxP (w4.heap.size) 25 #[.int .i64 q, (.slice A4 n n)]⟩, ⟨w4.heap.size + 1, w5.heap.size, GP (w4.heap.size + 1) w5.heap.size (.slice Ag ng cg) ng hsg gs (.slice Bg mg dg) mg ps⟩, ⟨w5.heap.size, w5.heap.size + 1, BoxP (w5.heap.size) 25 #[.int .i64 Q, (.slice Ag ng cg)]⟩] w7) := Lib.hid (fm_below FX6.out hb7)
           have hS7 := fm_rd22 FX7.out A3.out 2 rfl
           clear hb7)
        | (go_at_call 37
           refine (toRobin_any q A n c fs _ (fa_below H.out (below_seq B3.out (fm_drew Fw8c.out).below)) hn1 ht1).mono ?_
           rintro e w6 ⟨A6, hs6, rfl, ho6, hb6⟩
           have PX6 := Lib.hid (do_fr ho6 (by omega))
           have FX6 : Hid (Fm w3 [⟨w3.heap.size, w3.heap.size + 1, BoxP (w3.heap.size) 25 #[.int .i64 Q, (.slice Aw nw cw)]⟩, ⟨w3.heap.size + 1, w4.heap.size, DOI (w3.heap.size + 1) w4.heap.size (.slice A4 n n) n hs4 fs⟩, ⟨w4.heap.size, w4.heap.size + 1, BoxP (w4.heap.size) 25 #[.int .i64 q, (.slice A4 n n)]⟩, ⟨w4.heap.size + 1, w5.heap.size, GP (w4.heap.size + 1) w5.heap.size (.slice Ag ng cg) ng hsg gs (.slice Bg mg dg) mg ps⟩, ⟨w5.heap.size, w5.heap.size + 1, BoxP (w5.heap.size) 25 #[.int .i64 Q, (.slice Ag ng cg)]⟩] w6) := Lib.hid (fm_below (fm_drew Fw8c.out) hb6)
           have hS6 := fm_rd22 FX6.out A3.out 2 rfl
           clear hb6 ho6))
    all_goals
      clear PX6 FX6 Fw8c hS hS6 hS7
      obtain ⟨x0, x1, -, -⟩ := blk_two (fm_blk FX7.out 2 rfl)
      go_wp2_with fail
      refine (markRobin_any q (w3.heap.size + 1) w4.heap.size A4 n n hs4 fs 1 _ (fm_get FX7.out 1 rfl) (fm_lt FX7.out 1 rfl).2.2 hn1 ht1 (by omega)).mono ?_
      rintro e w10 ⟨cur, rfl, hD, hc, hsl, hk⟩
      have F10 : Hid (Fm w3 [⟨w3.heap.size, w3.heap.size + 1, BoxP (w3.heap.size) 25 #[.int .i64 Q, (.slice Aw nw cw)]⟩, ⟨w3.heap.size + 1, w4.heap.size, DOI (w3.heap.size + 1) w4.heap.size (.slice A4 n n) n cur (markF fs 1)⟩, ⟨w4.heap.size, w4.heap.size + 1, BoxP (w4.heap.size) 25 #[.int .i64 q, (.slice A4 n n)]⟩, ⟨w4.heap.size + 1, w5.heap.size, GP (w4.heap.size + 1) w5.heap.size (.slice Ag ng cg) ng hsg gs (.slice Bg mg dg) mg ps⟩, ⟨w5.heap.size, w5.heap.size + 1, BoxP (w5.heap.size) 25 #[.int .i64 Q, (.slice Ag ng cg)]⟩] w10) := Lib.hid (fm_put FX7.out 1 rfl hc (at_doi hD (Nat.le_trans (fm_lt FX7.out 1 rfl).2.2 hc.size)))
      clear FX7
      clear hD hc hsl hk x0 x1
      obtain ⟨g0, g1, -, -⟩ := blk_two (fm_blk F10.out 4 rfl)
      obtain ⟨u0, u1, -, -⟩ := blk_two (fm_blk F10.out 0 rfl)
      go_wp2_with fail
      refine (eqRobin_same Q Ag Aw ng cg nw cw gs _ (doi_fr (fm_get F10.out 3 rfl).d (by omega)) (fr_belowF FW.out F10.out.below)).mono ?_
      rintro e w11a ⟨rfl, hb⟩
      have Fw11a : Hid (Fm w3 [⟨w3.heap.size, w3.heap.size + 1, BoxP (w3.heap.size) 25 #[.int .i64 Q, (.slice Aw nw cw)]⟩, ⟨w3.heap.size + 1, w4.heap.size, DOI (w3.heap.size + 1) w4.heap.size (.slice A4 n n) n cur (markF fs 1)⟩, ⟨w4.heap.size, w4.heap.size + 1, BoxP (w4.heap.size) 25 #[.int .i64 q, (.slice A4 n n)]⟩, ⟨w4.heap.size + 1, w5.heap.size, GP (w4.heap.size + 1) w5.heap.size (.slice Ag ng cg) ng hsg gs (.slice Bg mg dg) mg ps⟩, ⟨w5.heap.size, w5.heap.size + 1, BoxP (w5.heap.size) 25 #[.int .i64 Q, (.slice Ag ng cg)]⟩] w11a) := Lib.hid (fm_below F10.out hb)
      clear F10
      clear hb g0 g1 u0 u1
      go_wp2_with fail
      refine (eqPacketS_any Bg Bw mg dg mw dw ps ps _ (pr_own (fm_get Fw11a.out 3 rfl).o) (pr_below PW.out Fw11a.out.below) (by omega) (by omega)).mono ?_
      rintro e w11c ⟨rfl, hb⟩
      rw [← same_yes rfl]
      have Fw11c : Hid (Fm w3 [⟨w3.heap.size, w3.heap.size + 1, BoxP (w3.heap.size) 25 #[.int .i64 Q, (.slice Aw nw cw)]⟩, ⟨w3.heap.size + 1, w4.heap.size, DOI (w3.heap.size + 1) w4.heap.size (.slice A4 n n) n cur (markF fs 1)⟩, ⟨w4.heap.size, w4.heap.size + 1, BoxP (w4.heap.size) 25 #[.int .i64 q, (.slice A4 n n)]⟩, ⟨w4.heap.size + 1, w5.heap.size, GP (w4.heap.size + 1) w5.heap.size (.slice Ag ng cg) ng hsg gs (.slice Bg mg dg) mg ps⟩, ⟨w5.heap.size, w5.heap.size + 1, BoxP (w5.heap.size) 25 #[.int .i64 Q, (.slice Ag ng cg)]⟩] w11c) := Lib.hid (fm_below Fw11a.out hb)
      clear Fw11a
      clear hb
      obtain ⟨g0, g1, -, -⟩ := blk_two (fm_blk Fw11c.out 4 rfl)
      go_wp2_with fail
      refine (markRobin_any Q (w4.heap.size + 1) w5.heap.size Ag ng cg hsg gs 1 _ (fm_get Fw11c.out 3 rfl).d (fm_lt Fw11c.out 3 rfl).2.2 lng hgt1 (by omega)).mono ?_
      rintro e w12 ⟨curg, rfl, hD, hc, hsl, hk⟩
      have F12 : Hid (Fm w3 [⟨w3.heap.size, w3.heap.size + 1, BoxP (w3.heap.size) 25 #[.int .i64 Q, (.slice Aw nw cw)]⟩, ⟨w3.heap.size + 1, w4.heap.size, DOI (w3.heap.size + 1) w4.heap.size (.slice A4 n n) n cur (markF fs 1)⟩, ⟨w4.heap.size, w4.heap.size + 1, BoxP (w4.heap.size) 25 #[.int .i64 q, (.slice A4 n n)]⟩, ⟨w4.heap.size + 1, w5.heap.size, GP (w4.heap.size + 1) w5.heap.size (.slice Ag ng cg) ng curg (markF gs 1) (.slice Bg mg dg) mg ps⟩, ⟨w5.heap.size, w5.heap.size + 1, BoxP (w5.heap.size) 25 #[.int .i64 Q, (.slice Ag ng cg)]⟩] w12) := Lib.hid (fm_put Fw11c.out 3 rfl hc (at_gp (gp_mark_r (fm_get Fw11c.out 3 rfl) hD hsl hk) (Nat.le_trans (fm_lt Fw11c.out 3 rfl).2.2 hc.size)))
      clear Fw11c
      clear hD hc hsl hk g0 g1
      go_wp2_with fail
      refine (markPacketS_any (w4.heap.size + 1) Bg mg dg (1 + cntF gs) ps _ (fm_get F12.out 3 rfl).o (by omega) (by omega)).mono ?_
      rintro e w12b ⟨rfl, ho, hg⟩
      have F12b : Hid (Fm w3 [⟨w3.heap.size, w3.heap.size + 1, BoxP (w3.heap.size) 25 #[.int .i64 Q, (.slice Aw nw cw)]⟩, ⟨w3.heap.size + 1, w4.heap.size, DOI (w3.heap.size + 1) w4.heap.size (.slice A4 n n) n cur (markF fs 1)⟩, ⟨w4.heap.size, w4.heap.size + 1, BoxP (w4.heap.size) 25 #[.int .i64 q, (.slice A4 n n)]⟩, ⟨w4.heap.size + 1, w5.heap.size, GP (w4.heap.size + 1) w5.heap.size (.slice Ag ng cg) ng curg (markF gs 1) (.slice Bg mg dg) mg (markL mg (1 + cntF gs))⟩, ⟨w5.heap.size, w5.heap.size + 1, BoxP (w5.heap.size) 25 #[.int .i64 Q, (.slice Ag ng cg)]⟩] w12b) := Lib.hid (fm_put F12.out 3 rfl (chg_grown hg fun b e => ⟨((fm_get F12.out 3 rfl).o.lt b e).1, (fm_get F12.out 3 rfl).oh b e⟩) (at_gp (gp_mark_p (fm_get F12.out 3 rfl) hg ho) (Nat.le_trans (fm_lt F12.out 3 rfl).2.2 hg.size)))
      clear F12
      clear ho hg
      have km : decide ((1 + cntF gs) + 4 * (mg : Int) < 0) = false := by simp; omega
      obtain ⟨g0, g1, -, -⟩ := blk_two (fm_blk F12b.out 4 rfl)
      go_wp2_with fail
      refine (heldRobin_any Q Ag ng cg gs 1 _ (doi_fr (fm_get F12b.out 3 rfl).d (by omega)) lng hgt1 (by omega)).mono ?_
      rintro e w13a ⟨rfl, hb⟩
      have Fw13a : Hid (Fm w3 [⟨w3.heap.size, w3.heap.size + 1, BoxP (w3.heap.size) 25 #[.int .i64 Q, (.slice Aw nw cw)]⟩, ⟨w3.heap.size + 1, w4.heap.size, DOI (w3.heap.size + 1) w4.heap.size (.slice A4 n n) n cur (markF fs 1)⟩, ⟨w4.heap.size, w4.heap.size + 1, BoxP (w4.heap.size) 25 #[.int .i64 q, (.slice A4 n n)]⟩, ⟨w4.heap.size + 1, w5.heap.size, GP (w4.heap.size + 1) w5.heap.size (.slice Ag ng cg) ng curg (markF gs 1) (.slice Bg mg dg) mg (markL mg (1 + cntF gs))⟩, ⟨w5.heap.size, w5.heap.size + 1, BoxP (w5.heap.size) 25 #[.int .i64 Q, (.slice Ag ng cg)]⟩] w13a) := Lib.hid (fm_below F12b.out hb)
      clear F12b
      clear hb g0 g1
      go_wp2_with fail
      refine (heldPacketS_any Bg mg dg (1 + cntF gs) _ (pr_own (fm_get Fw13a.out 3 rfl).o) (by omega) (by omega)).mono ?_
      rintro e w13_ ⟨rfl, rfl⟩
      obtain ⟨q0, q1, -, -⟩ := blk_two (blk_below A3.out Fw13a.out.below za)
      go_wp2_with fail
      refine (toRobin_any q A n c fs _ (fa_below H.out (below_seq B3.out Fw13a.out.below)) hn1 ht1).mono ?_
      rintro e w14 ⟨A14, hs14, rfl, hD, hb⟩
      have X14 := Lib.hid (do_fr hD (by omega))
      have F14 : Hid (Fm w3 [⟨w3.heap.size, w3.heap.size + 1, BoxP (w3.heap.size) 25 #[.int .i64 Q, (.slice Aw nw cw)]⟩, ⟨w3.heap.size + 1, w4.heap.size, DOI (w3.heap.size + 1) w4.heap.size (.slice A4 n n) n cur (markF fs 1)⟩, ⟨w4.heap.size, w4.heap.size + 1, BoxP (w4.heap.size) 25 #[.int .i64 q, (.slice A4 n n)]⟩, ⟨w4.heap.size + 1, w5.heap.size, GP (w4.heap.size + 1) w5.heap.size (.slice Ag ng cg) ng curg (markF gs 1) (.slice Bg mg dg) mg (markL mg (1 + cntF gs))⟩, ⟨w5.heap.size, w5.heap.size + 1, BoxP (w5.heap.size) 25 #[.int .i64 Q, (.slice Ag ng cg)]⟩] w14) := Lib.hid (fm_below Fw13a.out hb)
      clear Fw13a
      clear hb hD q0 q1
      go_wp2_with fail
      refine (HI0.out A14 n n _ X14.out).mono ?_
      rintro e w15 ⟨Ah, nh, ch, hsh, Bh, mh, dh, rfl, hm, hG, hb⟩
      have FH := Lib.hid (doi_fr hG.d (by have := do_cap hG.d.1; omega))
      have PH := Lib.hid (pr_own hG.o)
      have lmh : mh ≤ 1048576 := by omega
      have F15 : Hid (Fm w3 [⟨w3.heap.size, w3.heap.size + 1, BoxP (w3.heap.size) 25 #[.int .i64 Q, (.slice Aw nw cw)]⟩, ⟨w3.heap.size + 1, w4.heap.size, DOI (w3.heap.size + 1) w4.heap.size (.slice A4 n n) n cur (markF fs 1)⟩, ⟨w4.heap.size, w4.heap.size + 1, BoxP (w4.heap.size) 25 #[.int .i64 q, (.slice A4 n n)]⟩, ⟨w4.heap.size + 1, w5.heap.size, GP (w4.heap.size + 1) w5.heap.size (.slice Ag ng cg) ng curg (markF gs 1) (.slice Bg mg dg) mg (markL mg (1 + cntF gs))⟩, ⟨w5.heap.size, w5.heap.size + 1, BoxP (w5.heap.size) 25 #[.int .i64 Q, (.slice Ag ng cg)]⟩] w15) := Lib.hid (fm_below F14.out hb)
      clear F14
      have F0 : Hid (Fm w15 [] w15) := Lib.hid (fm_zero w15)
      clear hb X14 hG hm
      have F15a : Hid (Fm w3 [⟨w3.heap.size, w3.heap.size + 1, BoxP (w3.heap.size) 25 #[.int .i64 Q, (.slice Aw nw cw)]⟩, ⟨w3.heap.size + 1, w4.heap.size, DOI (w3.heap.size + 1) w4.heap.size (.slice A4 n n) n cur (markF fs 1)⟩, ⟨w4.heap.size, w4.heap.size + 1, BoxP (w4.heap.size) 25 #[.int .i64 q, (.slice A4 n n)]⟩, ⟨w4.heap.size + 1, w5.heap.size, GP (w4.heap.size + 1) w5.heap.size (.slice Ag ng cg) ng curg (markF gs 1) (.slice Bg mg dg) mg (markL mg (1 + cntF gs))⟩, ⟨w5.heap.size, w5.heap.size + 1, BoxP (w5.heap.size) 25 #[.int .i64 Q, (.slice Ag ng cg)]⟩, ⟨w15.heap.size, w15.heap.size + 1, BoxP (w15.heap.size) 25 #[.int .i64 Q, (.slice Ah nh ch)]⟩] (w15.alloc (.cells #[.int .i64 Q, (.slice Ah nh ch)] 25))) := Lib.hid (fm_push F15.out (by simp) _ _)
      clear F15
      replace FH := Lib.hid (fr_belowF FH.out (below_alloc (Below.refl w15.heap.size w15) (.cells #[.int .i64 Q, (.slice Ah nh ch)] 25)))
      obtain ⟨g0, g1, -, -⟩ := blk_two (fm_blk F15a.out 5 rfl)
      obtain ⟨u0, u1, -, -⟩ := blk_two (fm_blk F15a.out 0 rfl)
      go_wp2_with fail
      refine (eqRobin_same Q Ah Aw nh ch nw cw gs _ FH.out (fr_belowF FW.out F15a.out.below)).mono ?_
      rintro e w16a ⟨rfl, hb⟩
      have Fw16a : Hid (Fm w3 [⟨w3.heap.size, w3.heap.size + 1, BoxP (w3.heap.size) 25 #[.int .i64 Q, (.slice Aw nw cw)]⟩, ⟨w3.heap.size + 1, w4.heap.size, DOI (w3.heap.size + 1) w4.heap.size (.slice A4 n n) n cur (markF fs 1)⟩, ⟨w4.heap.size, w4.heap.size + 1, BoxP (w4.heap.size) 25 #[.int .i64 q, (.slice A4 n n)]⟩, ⟨w4.heap.size + 1, w5.heap.size, GP (w4.heap.size + 1) w5.heap.size (.slice Ag ng cg) ng curg (markF gs 1) (.slice Bg mg dg) mg (markL mg (1 + cntF gs))⟩, ⟨w5.heap.size, w5.heap.size + 1, BoxP (w5.heap.size) 25 #[.int .i64 Q, (.slice Ag ng cg)]⟩, ⟨w15.heap.size, w15.heap.size + 1, BoxP (w15.heap.size) 25 #[.int .i64 Q, (.slice Ah nh ch)]⟩] w16a) := Lib.hid (fm_below F15a.out hb)
      clear F15a
      replace PH := Lib.hid (pr_below (pr_alloc PH.out _) hb)
      clear hb g0 g1 u0 u1 FH
      go_wp2_with fail
      refine (eqPacketS_any Bh Bw mh dh mw dw ps ps _ PH.out (pr_below PW.out Fw16a.out.below) (by omega) (by omega)).mono ?_
      rintro e w16c ⟨rfl, hb⟩
      rw [← same_yes rfl]
      have Fw16c : Hid (Fm w3 [⟨w3.heap.size, w3.heap.size + 1, BoxP (w3.heap.size) 25 #[.int .i64 Q, (.slice Aw nw cw)]⟩, ⟨w3.heap.size + 1, w4.heap.size, DOI (w3.heap.size + 1) w4.heap.size (.slice A4 n n) n cur (markF fs 1)⟩, ⟨w4.heap.size, w4.heap.size + 1, BoxP (w4.heap.size) 25 #[.int .i64 q, (.slice A4 n n)]⟩, ⟨w4.heap.size + 1, w5.heap.size, GP (w4.heap.size + 1) w5.heap.size (.slice Ag ng cg) ng curg (markF gs 1) (.slice Bg mg dg) mg (markL mg (1 + cntF gs))⟩, ⟨w5.heap.size, w5.heap.size + 1, BoxP (w5.heap.size) 25 #[.int .i64 Q, (.slice Ag ng cg)]⟩, ⟨w15.heap.size, w15.heap.size + 1, BoxP (w15.heap.size) 25 #[.int .i64 Q, (.slice Ah nh ch)]⟩] w16c) := Lib.hid (fm_below Fw16a.out hb)
      clear Fw16a
      clear hb
      obtain ⟨g0, g1, -, -⟩ := blk_two (fm_blk Fw16c.out 4 rfl)
      go_wp2_with fail
      refine (heldRobin_any Q Ag ng cg gs 1 _ (doi_fr (fm_get Fw16c.out 3 rfl).d (by omega)) lng hgt1 (by omega)).mono ?_
      rintro e w17a ⟨rfl, hb⟩
      have Fw17a : Hid (Fm w3 [⟨w3.heap.size, w3.heap.size + 1, BoxP (w3.heap.size) 25 #[.int .i64 Q, (.slice Aw nw cw)]⟩, ⟨w3.heap.size + 1, w4.heap.size, DOI (w3.heap.size + 1) w4.heap.size (.slice A4 n n) n cur (markF fs 1)⟩, ⟨w4.heap.size, w4.heap.size + 1, BoxP (w4.heap.size) 25 #[.int .i64 q, (.slice A4 n n)]⟩, ⟨w4.heap.size + 1, w5.heap.size, GP (w4.heap.size + 1) w5.heap.size (.slice Ag ng cg) ng curg (markF gs 1) (.slice Bg mg dg) mg (markL mg (1 + cntF gs))⟩, ⟨w5.heap.size, w5.heap.size + 1, BoxP (w5.heap.size) 25 #[.int .i64 Q, (.slice Ag ng cg)]⟩, ⟨w15.heap.size, w15.heap.size + 1, BoxP (w15.heap.size) 25 #[.int .i64 Q, (.slice Ah nh ch)]⟩] w17a) := Lib.hid (fm_below Fw16c.out hb)
      clear Fw16c
      clear hb g0 g1
      go_wp2_with fail
      refine (heldPacketS_any Bg mg dg (1 + cntF gs) _ (pr_own (fm_get Fw17a.out 3 rfl).o) (by omega) (by omega)).mono ?_
      rintro e w17_ ⟨rfl, rfl⟩
      go_wp2
      go_ret
      exact ⟨rfl, below_seq B3.out Fw17a.out.below⟩
  · have hle : (1048576 : Int) < (n : Int) + (total fs : Int) := by omega
    go_enter Try.func14, Try.ntmps14
    go_wp2_with fail
    refine (szRobin_any q A n c fs 1048576 _ (fa_below H.out B0.out) hn (by omega)).mono ?_
    rintro e w1 ⟨rfl, hb⟩
    rw [if_pos (by omega)]
    have B1 := Lib.hid (below_seq B0.out hb)
    clear hb hle hbig
    go_wp2
    go_ret
    exact ⟨rfl, B1.out⟩
theorem own : ownKnob Try.prog.godebug = none := by kernel_rfl
theorem laidOut : laidOutB Try.prog = true := by kernel_rfl
set_option maxRecDepth 100000 in
theorem lifted (os : Os) (started : os.Started) (H : Type) (enc : TypeId × Value → H) :
    ReturnsInHanded {} Try.checked os 14 .any (Rows.fnExactTakeBytesSpec.pre6 enc Try.prog Try.f14 Rows.fnExactTakeBytesRow.domain false) (Rows.fnExactTakeBytesSpec.post enc Try.prog Try.f14 false true false false) := by
  refine returnsInHanded_of_change (C := Try.checked) own started (by kernel_rfl) Try.func14
    (ChangeSpec.witness6 (enc := enc) (C := Try.checked) false ⟨#[], #[.agg #[.int .i64 0, .slice none 0 0], .int .i64 0], []⟩ 8 (by kernel_rfl) (by kernel_rfl) (by kernel_rfl) (by kernel_rfl)) ?_
  intro W base args ds gs before hval0 hW _ _
  have hval : ∀ (j : Nat) t v, Try.f14.params[j]? = some t → args[j]? = some v → Value.okWide Try.prog W .any base t v := hval0
  have hW' := hW
  obtain ⟨p, q, hA0, hV, rfl, _, _⟩ := hW
  have hA : DataW.TrodAll enc Try.prog W 0 (fun _ => true) true Try.f14.params.toList args.toList ds p := hA0
  rw [Try.params14] at hA hval
  obtain ⟨v0, vs0, d0, ds0, p0, q0, hargs, rfl, rfl, h0, r0⟩ := trodAll_cons hA
  obtain ⟨v1, vs1, d1, ds1, p1, q1, rfl, rfl, rfl, h1, r1⟩ := trodAll_cons r0
  obtain ⟨rfl, rfl, rfl⟩ := trodAll_nil r1
  obtain rfl : args = #[v0, v1] := by cases args; simp_all
  obtain ⟨rfl, rfl⟩ := trodVars_none hV
  have lt0 : ∀ x ∈ p0, x.block < W.heap.size := by obtain ⟨m, hm⟩ := h0; exact DataW.trod_lt m _ _ _ hm
  have ok0 := (hval 0 51 v0 rfl rfl)
  obtain ⟨p0a, p0b, y0a, y0b, nf0, rfl, _, _, t0a, t0b⟩ := Go.Joins.open_agg2 Try.underlying51 (by kernel_rfl) (by kernel_rfl) ok0 h0
  obtain ⟨x0a, e0a, _, _⟩ := DataW.trod_int Try.underlying3 t0a
  obtain rfl : p0a = .int .i64 x0a := by simpa using e0a
  obtain ⟨a0, n0, c0, x0, rfl, w0, m0⟩ := flws_open1 t0b
  obtain ⟨x1, rfl, rfl, rfl, w1⟩ := open_int Try.underlying3 (hval 1 3 v1 rfl rfl) h1
  clear hA0 hval0
  refine (walk x0a a0 n0 c0 x0 x1 W w0 m0 w1).mono fun e W' ⟨he, bel⟩ => ?_
  subst he
  exact ⟨_, rfl, _, _, _, [], _, [], hW', trodAll_mk1 (shut_bool Try.underlying4 _), (trodAll_cons_mk (Below.trod laidOut (by kernel_rfl) (of_decide_eq_true (by kernel_rfl)) h0 bel lt0) (trodAll_cons_mk (shut_int Try.underlying3 w1) trodAll_mk0)), rfl, bel.frame _, fun h => by cases h⟩
end Go.Proofs.Ytehokkijfgiggaa.fnExactTakeBytes
