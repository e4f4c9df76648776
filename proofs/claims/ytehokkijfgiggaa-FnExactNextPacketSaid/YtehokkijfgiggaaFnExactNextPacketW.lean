/-
  The law FnExactNextPacket returns true at every argument: the program's NextPacket answers as the model's, writes into no argument, and its answer owns its memory. Conditions: none.
-/
import Derived.Test.YtehokkijfgiggaaREx
namespace Go.Proofs.Ytehokkijfgiggaa.fnExactNextPacket
open Go.ChangeShapes Go.WideShapes Go.ChangeAt Go.RowKit

theorem both (q : Int) (fs : List Flw) : ∃ (Q : Int) (gs : List Flw) (p : Pkt) (ok : Bool), gs.length ≤ 8 ∧ total gs ≤ 512 ∧
    Hid (∀ (A : Option Addr) (n c : Nat) (w : World), FR w A n fs → Calls Try.prog 19 #[.agg #[.int .i64 q, (.slice A n c)]] w (NxS w Q gs p ok)) ∧
    Hid (∀ (A : Option Addr) (n c : Nat) (w : World), FR w A n fs → Calls Try.prog 18 #[.agg #[.int .i64 q, (.slice A n c)]] w (NxI w Q gs p ok)) := by
  by_cases hk : NxOk q fs
  · obtain ⟨f, r, p, ws, N⟩ := nexted_is hk.1 hk.2
    have h1 := rv_len N.rv
    have h2 := total_le N.rv
    exact ⟨q, nxL q fs, nxP q fs, true, h1, by omega, Lib.hid fun A n c w h => npS_yes q A n c fs w h hk, Lib.hid fun A n c w h => npI_yes q A n c fs w h hk⟩
  · exact ⟨0, [], ⟨0, 0, 0, 0⟩, false, by simp, by simp [total], Lib.hid fun A n c w h => (npS_no q A n c fs w h hk).mono fun _ _ h => ⟨none, 0, 0, h.1, fr_nilF _ _, h.2⟩, Lib.hid fun A n c w h => (npI_no q A n c fs w h hk).mono fun _ _ h => ⟨none, 0, 0, [], h.1, do_nil _ _, h.2⟩⟩

set_option maxRecDepth 100000 in
set_option maxHeartbeats 8000000 in
theorem walk (q : Int) (A : Option Addr) (n c : Nat) (fs : List Flw) (w : World) (h : FA w A n fs) (hn : n ≤ 9223372036854775807)  :
    Calls Try.prog 12 #[.agg #[.int .i64 q, (.slice A n c)]] w fun e w' => e = .returned (.bool true) ∧ Below w.heap.size w w' := by
  have H := Lib.hid h
  have B0 := Lib.hid (below_alloc (Below.refl w.heap.size w) (.cells #[.int .i64 q, (.slice A n c)] 51))
  have A0 := Lib.hid (blk_new w 51 #[.int .i64 q, (.slice A n c)])
  clear h
  by_cases hbig : (n : Int) + (total fs : Int) ≤ 1048576
  · obtain ⟨Q, gs, p, ok, hgl, hgt, HS0, HI0⟩ := both q fs
    have hn1 : n ≤ 1048576 := by omega
    have ht1 : total fs ≤ 1048576 := by omega
    have hfl := fa_len H.out
    have hc := cntF_eq fs
    have kx : decide (1 + cntF fs < 0) = false := by simp; omega
    have kx0 : 0 ≤ 1 + cntF fs := by omega
    have hle : ¬ (1048576 : Int) < (n : Int) + (total fs : Int) := by omega
    have hd : decide ((1048576 : Int) - (n : Int) - (total fs : Int) < 0) = false := by simp; omega
    have hc2 := cntF_eq gs
    have kg : 0 ≤ 1 + cntF gs ∧ 1 + cntF gs ≤ 1000000 := by omega
    have kg0 : decide (1 + cntF gs < 0) = false := by simp; omega
    have hgt1 : total gs ≤ 1048576 := by omega
    have hgl1 : gs.length ≤ 1048576 := by omega
    clear hc2
    clear hc hfl
    go_enter Try.func12, Try.ntmps12
    go_wp2_with fail
    refine (szRobin_any q A n c fs 1048576 _ (fa_below H.out B0.out) hn (by omega)).mono ?_
    rintro e w1 ⟨rfl, hb⟩
    rw [if_neg (by omega)]
    have B1 := Lib.hid (below_seq B0.out hb)
    have A1 := Lib.hid (blk_below A0.out hb (by simp))
    clear hb hle
    obtain ⟨q0, q1, -, -⟩ := blk_two (A1.out)
    go_wp2_with fail
    refine (toRobin_any q A n c fs _ (fa_below H.out B1.out) hn1 ht1).mono ?_
    rintro e w2 ⟨A2, hs2, rfl, hD, hb⟩
    have X2 := Lib.hid (do_fr hD (by omega))
    have B2 := Lib.hid (below_seq B1.out hb)
    have A2b := Lib.hid (blk_below A1.out hb (blk_lt A1.out))
    clear hb hD q0 q1
    go_wp2_with fail
    refine (HS0.out A2 n n _ X2.out).mono ?_
    rintro e w3 ⟨Aw, nw, cw, rfl, hF, hb⟩
    have B3 := Lib.hid (below_seq B2.out hb)
    have A3 := Lib.hid (blk_below A2b.out hb (blk_lt A2b.out))
    have FW := Lib.hid hF
    have za : w.heap.size < w3.heap.size := blk_lt A3.out
    clear hb X2 A2b hF
    have F3 : Hid (Fm w3 [] w3) := Lib.hid (fm_zero w3)
    have F3a : Hid (Fm w3 [⟨w3.heap.size, w3.heap.size + 1, BoxP (w3.heap.size) 25 #[.int .i64 Q, (.slice Aw nw cw)]⟩] (w3.alloc (.cells #[.int .i64 Q, (.slice Aw nw cw)] 25))) := Lib.hid (fm_push F3.out (by simp) _ _)
    clear F3
    have F3b : Hid (Fm w3 [⟨w3.heap.size, w3.heap.size + 1, BoxP (w3.heap.size) 25 #[.int .i64 Q, (.slice Aw nw cw)]⟩, ⟨w3.heap.size + 1, w3.heap.size + 2, BoxP (w3.heap.size + 1) 28 #[.int .i64 p.peer, .int .i64 p.lane, .int .i64 p.size, .int .i64 p.id]⟩] ((w3.alloc (.cells #[.int .i64 Q, (.slice Aw nw cw)] 25)).alloc (.cells #[.int .i64 p.peer, .int .i64 p.lane, .int .i64 p.size, .int .i64 p.id] 28))) := Lib.hid (fm_push F3a.out (by simp) _ _)
    clear F3a
    obtain ⟨q0, q1, -, -⟩ := blk_two (blk_below A3.out F3b.out.below za)
    go_wp2_with fail
    refine (toRobin_any q A n c fs _ (fa_below H.out (below_seq B3.out F3b.out.below)) hn1 ht1).mono ?_
    rintro e w4 ⟨A4, hs4, rfl, hD, hb⟩
    have F4 : Hid (Fm w3 [⟨w3.heap.size, w3.heap.size + 1, BoxP (w3.heap.size) 25 #[.int .i64 Q, (.slice Aw nw cw)]⟩, ⟨w3.heap.size + 1, w3.heap.size + 2, BoxP (w3.heap.size + 1) 28 #[.int .i64 p.peer, .int .i64 p.lane, .int .i64 p.size, .int .i64 p.id]⟩, ⟨w3.heap.size + 2, w4.heap.size, DOI (w3.heap.size + 2) w4.heap.size (.slice A4 n n) n hs4 fs⟩] w4) := Lib.hid (fm_doi F3b.out hb hD (by simp))
    clear F3b
    clear hb hD q0 q1
    have F4b : Hid (Fm w3 [⟨w3.heap.size, w3.heap.size + 1, BoxP (w3.heap.size) 25 #[.int .i64 Q, (.slice Aw nw cw)]⟩, ⟨w3.heap.size + 1, w3.heap.size + 2, BoxP (w3.heap.size + 1) 28 #[.int .i64 p.peer, .int .i64 p.lane, .int .i64 p.size, .int .i64 p.id]⟩, ⟨w3.heap.size + 2, w4.heap.size, DOI (w3.heap.size + 2) w4.heap.size (.slice A4 n n) n hs4 fs⟩, ⟨w4.heap.size, w4.heap.size + 1, BoxP (w4.heap.size) 25 #[.int .i64 q, (.slice A4 n n)]⟩] (w4.alloc (.cells #[.int .i64 q, (.slice A4 n n)] 25))) := Lib.hid (fm_push F4.out (by simp) _ _)
    clear F4
    obtain ⟨x0, x1, -, -⟩ := blk_two (fm_blk F4b.out 3 rfl)
    go_wp2_with fail
    refine (HI0.out A4 n n _ (doi_fr (fm_get F4b.out 2 rfl) (by omega))).mono ?_
    rintro e w5 ⟨Ag, ng, cg, hsg, rfl, hD, hb⟩
    have lng : ng ≤ 1048576 := by have := do_cap hD; omega
    have F5 : Hid (Fm w3 [⟨w3.heap.size, w3.heap.size + 1, BoxP (w3.heap.size) 25 #[.int .i64 Q, (.slice Aw nw cw)]⟩, ⟨w3.heap.size + 1, w3.heap.size + 2, BoxP (w3.heap.size + 1) 28 #[.int .i64 p.peer, .int .i64 p.lane, .int .i64 p.size, .int .i64 p.id]⟩, ⟨w3.heap.size + 2, w4.heap.size, DOI (w3.heap.size + 2) w4.heap.size (.slice A4 n n) n hs4 fs⟩, ⟨w4.heap.size, w4.heap.size + 1, BoxP (w4.heap.size) 25 #[.int .i64 q, (.slice A4 n n)]⟩, ⟨w4.heap.size + 1, w5.heap.size, DOI (w4.heap.size + 1) w5.heap.size (.slice Ag ng cg) ng hsg gs⟩] w5) := Lib.hid (fm_doi F4b.out hb hD (by simp))
    clear F4b
    clear hb hD
    clear x0 x1
    have F5a : Hid (Fm w3 [⟨w3.heap.size, w3.heap.size + 1, BoxP (w3.heap.size) 25 #[.int .i64 Q, (.slice Aw nw cw)]⟩, ⟨w3.heap.size + 1, w3.heap.size + 2, BoxP (w3.heap.size + 1) 28 #[.int .i64 p.peer, .int .i64 p.lane, .int .i64 p.size, .int .i64 p.id]⟩, ⟨w3.heap.size + 2, w4.heap.size, DOI (w3.heap.size + 2) w4.heap.size (.slice A4 n n) n hs4 fs⟩, ⟨w4.heap.size, w4.heap.size + 1, BoxP (w4.heap.size) 25 #[.int .i64 q, (.slice A4 n n)]⟩, ⟨w4.heap.size + 1, w5.heap.size, DOI (w4.heap.size + 1) w5.heap.size (.slice Ag ng cg) ng hsg gs⟩, ⟨w5.heap.size, w5.heap.size + 1, BoxP (w5.heap.size) 25 #[.int .i64 Q, (.slice Ag ng cg)]⟩] (w5.alloc (.cells #[.int .i64 Q, (.slice Ag ng cg)] 25))) := Lib.hid (fm_push F5.out (by simp) _ _)
    clear F5
    have F5b : Hid (Fm w3 [⟨w3.heap.size, w3.heap.size + 1, BoxP (w3.heap.size) 25 #[.int .i64 Q, (.slice Aw nw cw)]⟩, ⟨w3.heap.size + 1, w3.heap.size + 2, BoxP (w3.heap.size + 1) 28 #[.int .i64 p.peer, .int .i64 p.lane, .int .i64 p.size, .int .i64 p.id]⟩, ⟨w3.heap.size + 2, w4.heap.size, DOI (w3.heap.size + 2) w4.heap.size (.slice A4 n n) n hs4 fs⟩, ⟨w4.heap.size, w4.heap.size + 1, BoxP (w4.heap.size) 25 #[.int .i64 q, (.slice A4 n n)]⟩, ⟨w4.heap.size + 1, w5.heap.size, DOI (w4.heap.size + 1) w5.heap.size (.slice Ag ng cg) ng hsg gs⟩, ⟨w5.heap.size, w5.heap.size + 1, BoxP (w5.heap.size) 25 #[.int .i64 Q, (.slice Ag ng cg)]⟩, ⟨w5.heap.size + 1, w5.heap.size + 2, BoxP (w5.heap.size + 1) 28 #[.int .i64 p.peer, .int .i64 p.lane, .int .i64 p.size, .int .i64 p.id]⟩] ((w5.alloc (.cells #[.int .i64 Q, (.slice Ag ng cg)] 25)).alloc (.cells #[.int .i64 p.peer, .int .i64 p.lane, .int .i64 p.size, .int .i64 p.id] 28))) := Lib.hid (fm_push F5a.out (by simp) _ _)
    clear F5a
    obtain ⟨g0, g1, -, -⟩ := blk_two (fm_blk F5b.out 5 rfl)
    obtain ⟨u0, u1, -, -⟩ := blk_two (fm_blk F5b.out 0 rfl)
    go_wp2_with fail
    refine (eqRobin_same Q Ag Aw ng cg nw cw gs _ (doi_fr (fm_get F5b.out 4 rfl) (by omega)) (fr_belowF FW.out F5b.out.below)).mono ?_
    rintro e w8a ⟨rfl, hb⟩
    have Fw8a : Hid (Fm w3 [⟨w3.heap.size, w3.heap.size + 1, BoxP (w3.heap.size) 25 #[.int .i64 Q, (.slice Aw nw cw)]⟩, ⟨w3.heap.size + 1, w3.heap.size + 2, BoxP (w3.heap.size + 1) 28 #[.int .i64 p.peer, .int .i64 p.lane, .int .i64 p.size, .int .i64 p.id]⟩, ⟨w3.heap.size + 2, w4.heap.size, DOI (w3.heap.size + 2) w4.heap.size (.slice A4 n n) n hs4 fs⟩, ⟨w4.heap.size, w4.heap.size + 1, BoxP (w4.heap.size) 25 #[.int .i64 q, (.slice A4 n n)]⟩, ⟨w4.heap.size + 1, w5.heap.size, DOI (w4.heap.size + 1) w5.heap.size (.slice Ag ng cg) ng hsg gs⟩, ⟨w5.heap.size, w5.heap.size + 1, BoxP (w5.heap.size) 25 #[.int .i64 Q, (.slice Ag ng cg)]⟩, ⟨w5.heap.size + 1, w5.heap.size + 2, BoxP (w5.heap.size + 1) 28 #[.int .i64 p.peer, .int .i64 p.lane, .int .i64 p.size, .int .i64 p.id]⟩] w8a) := Lib.hid (fm_below F5b.out hb)
    clear F5b
    clear hb g0 g1 u0 u1
    obtain ⟨⟨g0, g1, g2, g3⟩, -⟩ := blk_fourR (fm_blk Fw8a.out 6 rfl)
    obtain ⟨⟨u0, u1, u2, u3⟩, -⟩ := blk_fourR (fm_blk Fw8a.out 1 rfl)
    go_wp2_with fail
    refine (eqPacket_any p p _).mono ?_
    rintro e w8b ⟨rfl, hb⟩
    rw [← pktB_yes rfl]
    have Fw8b : Hid (Fm w3 [⟨w3.heap.size, w3.heap.size + 1, BoxP (w3.heap.size) 25 #[.int .i64 Q, (.slice Aw nw cw)]⟩, ⟨w3.heap.size + 1, w3.heap.size + 2, BoxP (w3.heap.size + 1) 28 #[.int .i64 p.peer, .int .i64 p.lane, .int .i64 p.size, .int .i64 p.id]⟩, ⟨w3.heap.size + 2, w4.heap.size, DOI (w3.heap.size + 2) w4.heap.size (.slice A4 n n) n hs4 fs⟩, ⟨w4.heap.size, w4.heap.size + 1, BoxP (w4.heap.size) 25 #[.int .i64 q, (.slice A4 n n)]⟩, ⟨w4.heap.size + 1, w5.heap.size, DOI (w4.heap.size + 1) w5.heap.size (.slice Ag ng cg) ng hsg gs⟩, ⟨w5.heap.size, w5.heap.size + 1, BoxP (w5.heap.size) 25 #[.int .i64 Q, (.slice Ag ng cg)]⟩, ⟨w5.heap.size + 1, w5.heap.size + 2, BoxP (w5.heap.size + 1) 28 #[.int .i64 p.peer, .int .i64 p.lane, .int .i64 p.size, .int .i64 p.id]⟩] w8b) := Lib.hid (fm_below Fw8a.out hb)
    clear Fw8a
    clear hb g0 g1 g2 g3 u0 u1 u2 u3
    have hS := fm_rd22 (fm_drew Fw8b.out) A3.out 3 rfl
    go_wp2_with fail
    go_region_held3 (fun w' => (w'.cell? ⟨w.heap.size, 0, none⟩ = some (.int .i64 q) ∧ w'.cell? ⟨w.heap.size, 1, none⟩ = some (.slice A n c)) ∧ (w'.cell? ⟨w4.heap.size, 0, none⟩ = some (.int .i64 q) ∧ w'.cell? ⟨w4.heap.size, 1, none⟩ = some (.slice A4 n n)) ∧ Fm w3 [⟨w3.heap.size, w3.heap.size + 1, BoxP (w3.heap.size) 25 #[.int .i64 Q, (.slice Aw nw cw)]⟩, ⟨w3.heap.size + 1, w3.heap.size + 2, BoxP (w3.heap.size + 1) 28 #[.int .i64 p.peer, .int .i64 p.lane, .int .i64 p.size, .int .i64 p.id]⟩, ⟨w3.heap.size + 2, w4.heap.size, DOI (w3.heap.size + 2) w4.heap.size (.slice A4 n n) n hs4 fs⟩, ⟨w4.heap.size, w4.heap.size + 1, BoxP (w4.heap.size) 25 #[.int .i64 q, (.slice A4 n n)]⟩, ⟨w4.heap.size + 1, w5.heap.size, DOI (w4.heap.size + 1) w5.heap.size (.slice Ag ng cg) ng hsg gs⟩, ⟨w5.heap.size, w5.heap.size + 1, BoxP (w5.heap.size) 25 #[.int .i64 Q, (.slice Ag ng cg)]⟩, ⟨w5.heap.size + 1, w5.heap.size + 2, BoxP (w5.heap.size + 1) 28 #[.int .i64 p.peer, .int .i64 p.lane, .int .i64 p.size, .int .i64 p.id]⟩] w')
      (first | (with_reducible assumption) | fail)
      (first
        | (go_at_call 38
           refine (eqRobin_same q A4 A6 n n n n fs _ (doi_fr (fm_get FX6.out 2 rfl) (by omega)) PX6.out).mono ?_
           rintro e w7 ⟨rfl, hb7⟩
           have FX7 : Hid (Fm w3 [⟨w3.heap.size, w3.heap.size + 1, BoxP (w3.heap.size) 25 #[.int .i64 Q, (.slice Aw nw cw)]⟩, ⟨w3.heap.size + 1, w3.heap.size + 2, BoxP (w3.heap.size + 1) 28 #[.int .i64 p.peer, .int .i64 p.lane, .int .i64 p.size, .int .i64 p.id]⟩, ⟨w3.heap.size + 2, w4.heap.size, DOI (w3.heap.size + 2) w4.heap.size (.slice A4 n n) n hs4 fs⟩, ⟨w4.heap.size, w4.heap.size + 1, BoxP (w4.heap.size) 25 #[.int .i64 q, (.slice A4 n n)]⟩, ⟨w4.heap.size + 1, w5.heap.size, DOI (w4.heap.size + 1) w5.heap.size (.slice Ag ng cg) ng hsg gs⟩, ⟨w5.heap.size, w5.heap.size + 1, BoxP (w5.heap.size) 25 #[.int .i64 Q, (.slice Ag ng cg)]⟩, ⟨w5.heap.size + 1, w5.heap.size + 2, BoxP (w5.heap.size + 1) 28 #[.int .i64 p.peer, .int .i64 p.lane, .int .i64 p.size, .int .i64 p.id]⟩] w7) := Lib.hid (fm_below FX6.out hb7)
           have hS7 := fm_rd22 FX7.out A3.out 3 rfl
           clear hb7)
        | (go_at_call 37
           refine (toRobin_any q A n c fs _ (fa_below H.out (below_seq B3.out (fm_drew Fw8b.out).below)) hn1 ht1).mono ?_
           rintro e w6 ⟨A6, hs6, rfl, ho6, hb6⟩
           have PX6 := Lib.hid (do_fr ho6 (by omega))
           have FX6 : Hid (Fm w3 [⟨w3.heap.size, w3.heap.size + 1, BoxP (w3.heap.size) 25 #[.int .i64 Q, (.slice Aw nw cw)]⟩, ⟨w3.heap.size + 1, w3.heap.size + 2, BoxP (w3.heap.size + 1) 28 #[.int .i64 p.peer, .int .i64 p.lane, .int .i64 p.size, .int .i64 p.id]⟩, ⟨w3.heap.size + 2, w4.heap.size, DOI (w3.heap.size + 2) w4.heap.size (.slice A4 n n) n hs4 fs⟩, ⟨w4.heap.size, w4.heap.size + 1, BoxP (w4.heap.size) 25 #[.int .i64 q, (.slice A4 n n)]⟩, ⟨w4.heap.size + 1, w5.heap.size, DOI (w4.heap.size + 1) w5.heap.size (.slice Ag ng cg) ng hsg gs⟩, ⟨w5.heap.size, w5.heap.size + 1, BoxP (w5.heap.size) 25 #[.int .i64 Q, (.slice Ag ng cg)]⟩, ⟨w5.heap.size + 1, w5.heap.size + 2, BoxP (w5.heap.size + 1) 28 #[.int .i64 p.peer, .int .i64 p.lane, .int .i64 p.size, .int .i64 p.id]⟩] w6) := Lib.hid (fm_below (fm_drew Fw8b.out) hb6)
           have hS6 := fm_rd22 FX6.out A3.out 3 rfl
           clear hb6 ho6))
    all_goals
      clear PX6 FX6 Fw8b hS hS6 hS7
      obtain ⟨x0, x1, -, -⟩ := blk_two (fm_blk FX7.out 3 rfl)
      go_wp2_with fail
      refine (markRobin_any q (w3.heap.size + 2) w4.heap.size A4 n n hs4 fs 1 _ (fm_get FX7.out 2 rfl) (fm_lt FX7.out 2 rfl).2.2 hn1 ht1 (by omega)).mono ?_
      rintro e w10 ⟨cur, rfl, hD, hc, hsl, hk⟩
      have F10 : Hid (Fm w3 [⟨w3.heap.size, w3.heap.size + 1, BoxP (w3.heap.size) 25 #[.int .i64 Q, (.slice Aw nw cw)]⟩, ⟨w3.heap.size + 1, w3.heap.size + 2, BoxP (w3.heap.size + 1) 28 #[.int .i64 p.peer, .int .i64 p.lane, .int .i64 p.size, .int .i64 p.id]⟩, ⟨w3.heap.size + 2, w4.heap.size, DOI (w3.heap.size + 2) w4.heap.size (.slice A4 n n) n cur (markF fs 1)⟩, ⟨w4.heap.size, w4.heap.size + 1, BoxP (w4.heap.size) 25 #[.int .i64 q, (.slice A4 n n)]⟩, ⟨w4.heap.size + 1, w5.heap.size, DOI (w4.heap.size + 1) w5.heap.size (.slice Ag ng cg) ng hsg gs⟩, ⟨w5.heap.size, w5.heap.size + 1, BoxP (w5.heap.size) 25 #[.int .i64 Q, (.slice Ag ng cg)]⟩, ⟨w5.heap.size + 1, w5.heap.size + 2, BoxP (w5.heap.size + 1) 28 #[.int .i64 p.peer, .int .i64 p.lane, .int .i64 p.size, .int .i64 p.id]⟩] w10) := Lib.hid (fm_put FX7.out 2 rfl hc (at_doi hD (Nat.le_trans (fm_lt FX7.out 2 rfl).2.2 hc.size)))
      clear FX7
      clear hD hc hsl hk x0 x1
      obtain ⟨g0, g1, -, -⟩ := blk_two (fm_blk F10.out 5 rfl)
      obtain ⟨u0, u1, -, -⟩ := blk_two (fm_blk F10.out 0 rfl)
      go_wp2_with fail
      refine (eqRobin_same Q Ag Aw ng cg nw cw gs _ (doi_fr (fm_get F10.out 4 rfl) (by omega)) (fr_belowF FW.out F10.out.below)).mono ?_
      rintro e w11a ⟨rfl, hb⟩
      have Fw11a : Hid (Fm w3 [⟨w3.heap.size, w3.heap.size + 1, BoxP (w3.heap.size) 25 #[.int .i64 Q, (.slice Aw nw cw)]⟩, ⟨w3.heap.size + 1, w3.heap.size + 2, BoxP (w3.heap.size + 1) 28 #[.int .i64 p.peer, .int .i64 p.lane, .int .i64 p.size, .int .i64 p.id]⟩, ⟨w3.heap.size + 2, w4.heap.size, DOI (w3.heap.size + 2) w4.heap.size (.slice A4 n n) n cur (markF fs 1)⟩, ⟨w4.heap.size, w4.heap.size + 1, BoxP (w4.heap.size) 25 #[.int .i64 q, (.slice A4 n n)]⟩, ⟨w4.heap.size + 1, w5.heap.size, DOI (w4.heap.size + 1) w5.heap.size (.slice Ag ng cg) ng hsg gs⟩, ⟨w5.heap.size, w5.heap.size + 1, BoxP (w5.heap.size) 25 #[.int .i64 Q, (.slice Ag ng cg)]⟩, ⟨w5.heap.size + 1, w5.heap.size + 2, BoxP (w5.heap.size + 1) 28 #[.int .i64 p.peer, .int .i64 p.lane, .int .i64 p.size, .int .i64 p.id]⟩] w11a) := Lib.hid (fm_below F10.out hb)
      clear F10
      clear hb g0 g1 u0 u1
      obtain ⟨⟨g0, g1, g2, g3⟩, -⟩ := blk_fourR (fm_blk Fw11a.out 6 rfl)
      obtain ⟨⟨u0, u1, u2, u3⟩, -⟩ := blk_fourR (fm_blk Fw11a.out 1 rfl)
      go_wp2_with fail
      refine (eqPacket_any p p _).mono ?_
      rintro e w11b ⟨rfl, hb⟩
      rw [← pktB_yes rfl]
      have Fw11b : Hid (Fm w3 [⟨w3.heap.size, w3.heap.size + 1, BoxP (w3.heap.size) 25 #[.int .i64 Q, (.slice Aw nw cw)]⟩, ⟨w3.heap.size + 1, w3.heap.size + 2, BoxP (w3.heap.size + 1) 28 #[.int .i64 p.peer, .int .i64 p.lane, .int .i64 p.size, .int .i64 p.id]⟩, ⟨w3.heap.size + 2, w4.heap.size, DOI (w3.heap.size + 2) w4.heap.size (.slice A4 n n) n cur (markF fs 1)⟩, ⟨w4.heap.size, w4.heap.size + 1, BoxP (w4.heap.size) 25 #[.int .i64 q, (.slice A4 n n)]⟩, ⟨w4.heap.size + 1, w5.heap.size, DOI (w4.heap.size + 1) w5.heap.size (.slice Ag ng cg) ng hsg gs⟩, ⟨w5.heap.size, w5.heap.size + 1, BoxP (w5.heap.size) 25 #[.int .i64 Q, (.slice Ag ng cg)]⟩, ⟨w5.heap.size + 1, w5.heap.size + 2, BoxP (w5.heap.size + 1) 28 #[.int .i64 p.peer, .int .i64 p.lane, .int .i64 p.size, .int .i64 p.id]⟩] w11b) := Lib.hid (fm_below Fw11a.out hb)
      clear Fw11a
      clear hb g0 g1 g2 g3 u0 u1 u2 u3
      obtain ⟨g0, g1, -, -⟩ := blk_two (fm_blk Fw11b.out 5 rfl)
      go_wp2_with fail
      refine (markRobin_any Q (w4.heap.size + 1) w5.heap.size Ag ng cg hsg gs 1 _ (fm_get Fw11b.out 4 rfl) (fm_lt Fw11b.out 4 rfl).2.2 lng hgt1 (by omega)).mono ?_
      rintro e w12 ⟨curg, rfl, hD, hc, hsl, hk⟩
      have F12 : Hid (Fm w3 [⟨w3.heap.size, w3.heap.size + 1, BoxP (w3.heap.size) 25 #[.int .i64 Q, (.slice Aw nw cw)]⟩, ⟨w3.heap.size + 1, w3.heap.size + 2, BoxP (w3.heap.size + 1) 28 #[.int .i64 p.peer, .int .i64 p.lane, .int .i64 p.size, .int .i64 p.id]⟩, ⟨w3.heap.size + 2, w4.heap.size, DOI (w3.heap.size + 2) w4.heap.size (.slice A4 n n) n cur (markF fs 1)⟩, ⟨w4.heap.size, w4.heap.size + 1, BoxP (w4.heap.size) 25 #[.int .i64 q, (.slice A4 n n)]⟩, ⟨w4.heap.size + 1, w5.heap.size, DOI (w4.heap.size + 1) w5.heap.size (.slice Ag ng cg) ng curg (markF gs 1)⟩, ⟨w5.heap.size, w5.heap.size + 1, BoxP (w5.heap.size) 25 #[.int .i64 Q, (.slice Ag ng cg)]⟩, ⟨w5.heap.size + 1, w5.heap.size + 2, BoxP (w5.heap.size + 1) 28 #[.int .i64 p.peer, .int .i64 p.lane, .int .i64 p.size, .int .i64 p.id]⟩] w12) := Lib.hid (fm_put Fw11b.out 4 rfl hc (at_doi hD (Nat.le_trans (fm_lt Fw11b.out 4 rfl).2.2 hc.size)))
      clear Fw11b
      clear hD hc hsl hk g0 g1
      obtain ⟨g0, g1, -, -⟩ := blk_two (fm_blk F12.out 5 rfl)
      go_wp2_with fail
      refine (heldRobin_any Q Ag ng cg gs 1 _ (doi_fr (fm_get F12.out 4 rfl) (by omega)) lng hgt1 (by omega)).mono ?_
      rintro e w13a ⟨rfl, hb⟩
      have Fw13a : Hid (Fm w3 [⟨w3.heap.size, w3.heap.size + 1, BoxP (w3.heap.size) 25 #[.int .i64 Q, (.slice Aw nw cw)]⟩, ⟨w3.heap.size + 1, w3.heap.size + 2, BoxP (w3.heap.size + 1) 28 #[.int .i64 p.peer, .int .i64 p.lane, .int .i64 p.size, .int .i64 p.id]⟩, ⟨w3.heap.size + 2, w4.heap.size, DOI (w3.heap.size + 2) w4.heap.size (.slice A4 n n) n cur (markF fs 1)⟩, ⟨w4.heap.size, w4.heap.size + 1, BoxP (w4.heap.size) 25 #[.int .i64 q, (.slice A4 n n)]⟩, ⟨w4.heap.size + 1, w5.heap.size, DOI (w4.heap.size + 1) w5.heap.size (.slice Ag ng cg) ng curg (markF gs 1)⟩, ⟨w5.heap.size, w5.heap.size + 1, BoxP (w5.heap.size) 25 #[.int .i64 Q, (.slice Ag ng cg)]⟩, ⟨w5.heap.size + 1, w5.heap.size + 2, BoxP (w5.heap.size + 1) 28 #[.int .i64 p.peer, .int .i64 p.lane, .int .i64 p.size, .int .i64 p.id]⟩] w13a) := Lib.hid (fm_below F12.out hb)
      clear F12
      clear hb g0 g1
      obtain ⟨q0, q1, -, -⟩ := blk_two (blk_below A3.out Fw13a.out.below za)
      go_wp2_with fail
      refine (toRobin_any q A n c fs _ (fa_below H.out (below_seq B3.out Fw13a.out.below)) hn1 ht1).mono ?_
      rintro e w14 ⟨A14, hs14, rfl, hD, hb⟩
      have X14 := Lib.hid (do_fr hD (by omega))
      have F14 : Hid (Fm w3 [⟨w3.heap.size, w3.heap.size + 1, BoxP (w3.heap.size) 25 #[.int .i64 Q, (.slice Aw nw cw)]⟩, ⟨w3.heap.size + 1, w3.heap.size + 2, BoxP (w3.heap.size + 1) 28 #[.int .i64 p.peer, .int .i64 p.lane, .int .i64 p.size, .int .i64 p.id]⟩, ⟨w3.heap.size + 2, w4.heap.size, DOI (w3.heap.size + 2) w4.heap.size (.slice A4 n n) n cur (markF fs 1)⟩, ⟨w4.heap.size, w4.heap.size + 1, BoxP (w4.heap.size) 25 #[.int .i64 q, (.slice A4 n n)]⟩, ⟨w4.heap.size + 1, w5.heap.size, DOI (w4.heap.size + 1) w5.heap.size (.slice Ag ng cg) ng curg (markF gs 1)⟩, ⟨w5.heap.size, w5.heap.size + 1, BoxP (w5.heap.size) 25 #[.int .i64 Q, (.slice Ag ng cg)]⟩, ⟨w5.heap.size + 1, w5.heap.size + 2, BoxP (w5.heap.size + 1) 28 #[.int .i64 p.peer, .int .i64 p.lane, .int .i64 p.size, .int .i64 p.id]⟩] w14) := Lib.hid (fm_below Fw13a.out hb)
      clear Fw13a
      clear hb hD q0 q1
      go_wp2_with fail
      refine (HI0.out A14 n n _ X14.out).mono ?_
      rintro e w15 ⟨Ah, nh, ch, hsh, rfl, hD, hb⟩
      have FH := Lib.hid (do_fr hD (by have := do_cap hD; omega))
      have F15 : Hid (Fm w3 [⟨w3.heap.size, w3.heap.size + 1, BoxP (w3.heap.size) 25 #[.int .i64 Q, (.slice Aw nw cw)]⟩, ⟨w3.heap.size + 1, w3.heap.size + 2, BoxP (w3.heap.size + 1) 28 #[.int .i64 p.peer, .int .i64 p.lane, .int .i64 p.size, .int .i64 p.id]⟩, ⟨w3.heap.size + 2, w4.heap.size, DOI (w3.heap.size + 2) w4.heap.size (.slice A4 n n) n cur (markF fs 1)⟩, ⟨w4.heap.size, w4.heap.size + 1, BoxP (w4.heap.size) 25 #[.int .i64 q, (.slice A4 n n)]⟩, ⟨w4.heap.size + 1, w5.heap.size, DOI (w4.heap.size + 1) w5.heap.size (.slice Ag ng cg) ng curg (markF gs 1)⟩, ⟨w5.heap.size, w5.heap.size + 1, BoxP (w5.heap.size) 25 #[.int .i64 Q, (.slice Ag ng cg)]⟩, ⟨w5.heap.size + 1, w5.heap.size + 2, BoxP (w5.heap.size + 1) 28 #[.int .i64 p.peer, .int .i64 p.lane, .int .i64 p.size, .int .i64 p.id]⟩] w15) := Lib.hid (fm_below F14.out hb)
      clear F14
      have F0 : Hid (Fm w15 [] w15) := Lib.hid (fm_zero w15)
      clear hb X14 hD
      have F15a : Hid (Fm w3 [⟨w3.heap.size, w3.heap.size + 1, BoxP (w3.heap.size) 25 #[.int .i64 Q, (.slice Aw nw cw)]⟩, ⟨w3.heap.size + 1, w3.heap.size + 2, BoxP (w3.heap.size + 1) 28 #[.int .i64 p.peer, .int .i64 p.lane, .int .i64 p.size, .int .i64 p.id]⟩, ⟨w3.heap.size + 2, w4.heap.size, DOI (w3.heap.size + 2) w4.heap.size (.slice A4 n n) n cur (markF fs 1)⟩, ⟨w4.heap.size, w4.heap.size + 1, BoxP (w4.heap.size) 25 #[.int .i64 q, (.slice A4 n n)]⟩, ⟨w4.heap.size + 1, w5.heap.size, DOI (w4.heap.size + 1) w5.heap.size (.slice Ag ng cg) ng curg (markF gs 1)⟩, ⟨w5.heap.size, w5.heap.size + 1, BoxP (w5.heap.size) 25 #[.int .i64 Q, (.slice Ag ng cg)]⟩, ⟨w5.heap.size + 1, w5.heap.size + 2, BoxP (w5.heap.size + 1) 28 #[.int .i64 p.peer, .int .i64 p.lane, .int .i64 p.size, .int .i64 p.id]⟩, ⟨w15.heap.size, w15.heap.size + 1, BoxP (w15.heap.size) 25 #[.int .i64 Q, (.slice Ah nh ch)]⟩] (w15.alloc (.cells #[.int .i64 Q, (.slice Ah nh ch)] 25))) := Lib.hid (fm_push F15.out (by simp) _ _)
      clear F15
      have F15b : Hid (Fm w3 [⟨w3.heap.size, w3.heap.size + 1, BoxP (w3.heap.size) 25 #[.int .i64 Q, (.slice Aw nw cw)]⟩, ⟨w3.heap.size + 1, w3.heap.size + 2, BoxP (w3.heap.size + 1) 28 #[.int .i64 p.peer, .int .i64 p.lane, .int .i64 p.size, .int .i64 p.id]⟩, ⟨w3.heap.size + 2, w4.heap.size, DOI (w3.heap.size + 2) w4.heap.size (.slice A4 n n) n cur (markF fs 1)⟩, ⟨w4.heap.size, w4.heap.size + 1, BoxP (w4.heap.size) 25 #[.int .i64 q, (.slice A4 n n)]⟩, ⟨w4.heap.size + 1, w5.heap.size, DOI (w4.heap.size + 1) w5.heap.size (.slice Ag ng cg) ng curg (markF gs 1)⟩, ⟨w5.heap.size, w5.heap.size + 1, BoxP (w5.heap.size) 25 #[.int .i64 Q, (.slice Ag ng cg)]⟩, ⟨w5.heap.size + 1, w5.heap.size + 2, BoxP (w5.heap.size + 1) 28 #[.int .i64 p.peer, .int .i64 p.lane, .int .i64 p.size, .int .i64 p.id]⟩, ⟨w15.heap.size, w15.heap.size + 1, BoxP (w15.heap.size) 25 #[.int .i64 Q, (.slice Ah nh ch)]⟩, ⟨w15.heap.size + 1, w15.heap.size + 2, BoxP (w15.heap.size + 1) 28 #[.int .i64 p.peer, .int .i64 p.lane, .int .i64 p.size, .int .i64 p.id]⟩] ((w15.alloc (.cells #[.int .i64 Q, (.slice Ah nh ch)] 25)).alloc (.cells #[.int .i64 p.peer, .int .i64 p.lane, .int .i64 p.size, .int .i64 p.id] 28))) := Lib.hid (fm_push F15a.out (by simp) _ _)
      clear F15a
      replace FH := Lib.hid (fr_belowF FH.out (below_alloc (below_alloc (Below.refl w15.heap.size w15) (.cells #[.int .i64 Q, (.slice Ah nh ch)] 25)) (.cells #[.int .i64 p.peer, .int .i64 p.lane, .int .i64 p.size, .int .i64 p.id] 28)))
      obtain ⟨g0, g1, -, -⟩ := blk_two (fm_blk F15b.out 7 rfl)
      obtain ⟨u0, u1, -, -⟩ := blk_two (fm_blk F15b.out 0 rfl)
      go_wp2_with fail
      refine (eqRobin_same Q Ah Aw nh ch nw cw gs _ FH.out (fr_belowF FW.out F15b.out.below)).mono ?_
      rintro e w16a ⟨rfl, hb⟩
      have Fw16a : Hid (Fm w3 [⟨w3.heap.size, w3.heap.size + 1, BoxP (w3.heap.size) 25 #[.int .i64 Q, (.slice Aw nw cw)]⟩, ⟨w3.heap.size + 1, w3.heap.size + 2, BoxP (w3.heap.size + 1) 28 #[.int .i64 p.peer, .int .i64 p.lane, .int .i64 p.size, .int .i64 p.id]⟩, ⟨w3.heap.size + 2, w4.heap.size, DOI (w3.heap.size + 2) w4.heap.size (.slice A4 n n) n cur (markF fs 1)⟩, ⟨w4.heap.size, w4.heap.size + 1, BoxP (w4.heap.size) 25 #[.int .i64 q, (.slice A4 n n)]⟩, ⟨w4.heap.size + 1, w5.heap.size, DOI (w4.heap.size + 1) w5.heap.size (.slice Ag ng cg) ng curg (markF gs 1)⟩, ⟨w5.heap.size, w5.heap.size + 1, BoxP (w5.heap.size) 25 #[.int .i64 Q, (.slice Ag ng cg)]⟩, ⟨w5.heap.size + 1, w5.heap.size + 2, BoxP (w5.heap.size + 1) 28 #[.int .i64 p.peer, .int .i64 p.lane, .int .i64 p.size, .int .i64 p.id]⟩, ⟨w15.heap.size, w15.heap.size + 1, BoxP (w15.heap.size) 25 #[.int .i64 Q, (.slice Ah nh ch)]⟩, ⟨w15.heap.size + 1, w15.heap.size + 2, BoxP (w15.heap.size + 1) 28 #[.int .i64 p.peer, .int .i64 p.lane, .int .i64 p.size, .int .i64 p.id]⟩] w16a) := Lib.hid (fm_below F15b.out hb)
      clear F15b
      clear hb g0 g1 u0 u1 FH
      obtain ⟨⟨g0, g1, g2, g3⟩, -⟩ := blk_fourR (fm_blk Fw16a.out 8 rfl)
      obtain ⟨⟨u0, u1, u2, u3⟩, -⟩ := blk_fourR (fm_blk Fw16a.out 1 rfl)
      go_wp2_with fail
      refine (eqPacket_any p p _).mono ?_
      rintro e w16b ⟨rfl, hb⟩
      rw [← pktB_yes rfl]
      have Fw16b : Hid (Fm w3 [⟨w3.heap.size, w3.heap.size + 1, BoxP (w3.heap.size) 25 #[.int .i64 Q, (.slice Aw nw cw)]⟩, ⟨w3.heap.size + 1, w3.heap.size + 2, BoxP (w3.heap.size + 1) 28 #[.int .i64 p.peer, .int .i64 p.lane, .int .i64 p.size, .int .i64 p.id]⟩, ⟨w3.heap.size + 2, w4.heap.size, DOI (w3.heap.size + 2) w4.heap.size (.slice A4 n n) n cur (markF fs 1)⟩, ⟨w4.heap.size, w4.heap.size + 1, BoxP (w4.heap.size) 25 #[.int .i64 q, (.slice A4 n n)]⟩, ⟨w4.heap.size + 1, w5.heap.size, DOI (w4.heap.size + 1) w5.heap.size (.slice Ag ng cg) ng curg (markF gs 1)⟩, ⟨w5.heap.size, w5.heap.size + 1, BoxP (w5.heap.size) 25 #[.int .i64 Q, (.slice Ag ng cg)]⟩, ⟨w5.heap.size + 1, w5.heap.size + 2, BoxP (w5.heap.size + 1) 28 #[.int .i64 p.peer, .int .i64 p.lane, .int .i64 p.size, .int .i64 p.id]⟩, ⟨w15.heap.size, w15.heap.size + 1, BoxP (w15.heap.size) 25 #[.int .i64 Q, (.slice Ah nh ch)]⟩, ⟨w15.heap.size + 1, w15.heap.size + 2, BoxP (w15.heap.size + 1) 28 #[.int .i64 p.peer, .int .i64 p.lane, .int .i64 p.size, .int .i64 p.id]⟩] w16b) := Lib.hid (fm_below Fw16a.out hb)
      clear Fw16a
      clear hb g0 g1 g2 g3 u0 u1 u2 u3
      obtain ⟨g0, g1, -, -⟩ := blk_two (fm_blk Fw16b.out 5 rfl)
      go_wp2_with fail
      refine (heldRobin_any Q Ag ng cg gs 1 _ (doi_fr (fm_get Fw16b.out 4 rfl) (by omega)) lng hgt1 (by omega)).mono ?_
      rintro e w17a ⟨rfl, hb⟩
      have Fw17a : Hid (Fm w3 [⟨w3.heap.size, w3.heap.size + 1, BoxP (w3.heap.size) 25 #[.int .i64 Q, (.slice Aw nw cw)]⟩, ⟨w3.heap.size + 1, w3.heap.size + 2, BoxP (w3.heap.size + 1) 28 #[.int .i64 p.peer, .int .i64 p.lane, .int .i64 p.size, .int .i64 p.id]⟩, ⟨w3.heap.size + 2, w4.heap.size, DOI (w3.heap.size + 2) w4.heap.size (.slice A4 n n) n cur (markF fs 1)⟩, ⟨w4.heap.size, w4.heap.size + 1, BoxP (w4.heap.size) 25 #[.int .i64 q, (.slice A4 n n)]⟩, ⟨w4.heap.size + 1, w5.heap.size, DOI (w4.heap.size + 1) w5.heap.size (.slice Ag ng cg) ng curg (markF gs 1)⟩, ⟨w5.heap.size, w5.heap.size + 1, BoxP (w5.heap.size) 25 #[.int .i64 Q, (.slice Ag ng cg)]⟩, ⟨w5.heap.size + 1, w5.heap.size + 2, BoxP (w5.heap.size + 1) 28 #[.int .i64 p.peer, .int .i64 p.lane, .int .i64 p.size, .int .i64 p.id]⟩, ⟨w15.heap.size, w15.heap.size + 1, BoxP (w15.heap.size) 25 #[.int .i64 Q, (.slice Ah nh ch)]⟩, ⟨w15.heap.size + 1, w15.heap.size + 2, BoxP (w15.heap.size + 1) 28 #[.int .i64 p.peer, .int .i64 p.lane, .int .i64 p.size, .int .i64 p.id]⟩] w17a) := Lib.hid (fm_below Fw16b.out hb)
      clear Fw16b
      clear hb g0 g1
      go_wp2
      go_ret
      exact ⟨rfl, below_seq B3.out Fw17a.out.below⟩
  · have hle : (1048576 : Int) < (n : Int) + (total fs : Int) := by omega
    go_enter Try.func12, Try.ntmps12
    go_wp2_with fail
    refine (szRobin_any q A n c fs 1048576 _ (fa_below H.out B0.out) hn (by omega)).mono ?_
    rintro e w1 ⟨rfl, hb⟩
    rw [if_pos (by omega)]
    have B1 := Lib.hid (below_seq B0.out hb)
    clear hb hle hbig
    go_wp2
    go_ret
    exact ⟨rfl, B1.out⟩
end Go.Proofs.Ytehokkijfgiggaa.fnExactNextPacket
