/-
  The law FnExactWaitingOf returns true at every argument: the program's WaitingOf answers as the model's, writes into no argument, and its answer owns its memory. Conditions: none.
-/
import Derived.Test.YtehokkijfgiggaaREx
namespace Go.Proofs.Ytehokkijfgiggaa.fnExactWaitingOf
open Go.ChangeShapes Go.WideShapes Go.ChangeAt Go.RowKit

theorem wo_len {q : Int} {fs : List Flw} (h : RV q fs) (x : Int) : (wOf fs x).length ≤ 64 := by
  by_cases hlt : fix fs x < fs.length
  · obtain ⟨f, hf, hw, -⟩ := leave_some hlt
    rw [hw]
    exact (ok_of (h.all f (List.mem_of_getElem? hf)).ok).1
  · rw [w_far hlt]; simp
theorem both (q : Int) (fs : List Flw) (x : Int) : ∃ (ps : List Pkt) (ok : Bool), ps.length ≤ 512 ∧
    Hid (∀ (A : Option Addr) (n c : Nat) (w : World), FR w A n fs → Calls Try.prog 34 #[.agg #[.int .i64 q, (.slice A n c)], .int .i64 x] w (LsP w ps ok)) ∧
    Hid (∀ (A : Option Addr) (n c : Nat) (w : World), FR w A n fs → Calls Try.prog 21 #[.agg #[.int .i64 q, (.slice A n c)], .int .i64 x] w (LsP w ps ok)) := by
  by_cases hk : LvOk q fs x
  · exact ⟨wOf fs x, true, Nat.le_trans (wo_len hk.1 x) (by omega), Lib.hid fun A n c w h => woS_yes q A n c fs x w h hk, Lib.hid fun A n c w h => woI_yes q A n c fs x w h hk⟩
  · have key : ∀ {w : World} {e : Ending} {w' : World}, TaNo w e w' → LsP w [] false e w' := fun h => by
      obtain ⟨At, ct, h1, h2, h3⟩ := h
      exact ⟨At, 0, ct, h1, rfl, h2, h3⟩
    exact ⟨[], false, by simp, Lib.hid fun A n c w h => (woS_no q A n c fs x w h hk).mono fun _ _ h => key h, Lib.hid fun A n c w h => (woI_no q A n c fs x w h hk).mono fun _ _ h => key h⟩

set_option maxRecDepth 100000 in
set_option maxHeartbeats 8000000 in
theorem walk (q : Int) (A : Option Addr) (n c : Nat) (fs : List Flw) (x : Int) (w : World) (h : FA w A n fs) (hn : n ≤ 9223372036854775807) (_hwx : (Lit.int .i64 x).wf = true) :
    Calls Try.prog 15 #[.agg #[.int .i64 q, (.slice A n c)], .int .i64 x] w fun e w' => e = .returned (.bool true) ∧ Below w.heap.size w w' := by
  have H := Lib.hid h
  have B0 := Lib.hid (below_alloc (Below.refl w.heap.size w) (.cells #[.int .i64 q, (.slice A n c)] 51))
  have A0 := Lib.hid (blk_new w 51 #[.int .i64 q, (.slice A n c)])
  clear h
  by_cases hbig : (n : Int) + (total fs : Int) ≤ 1048576
  · obtain ⟨ps, ok, hpl, HS0, HI0⟩ := both q fs x
    have hn1 : n ≤ 1048576 := by omega
    have ht1 : total fs ≤ 1048576 := by omega
    have hfl := fa_len H.out
    have hc := cntF_eq fs
    have kx : decide (1 + cntF fs < 0) = false := by simp; omega
    have kx0 : 0 ≤ 1 + cntF fs := by omega
    have hle : ¬ (1048576 : Int) < (n : Int) + (total fs : Int) := by omega
    have hd : decide ((1048576 : Int) - (n : Int) - (total fs : Int) < 0) = false := by simp; omega
    clear hc hfl
    go_enter Try.func15, Try.ntmps15
    go_wp2_with fail
    refine (szRobin_any q A n c fs 1048576 _ (fa_below H.out B0.out) hn (by omega)).mono ?_
    rintro e w1 ⟨rfl, hb⟩
    rw [if_neg (by omega)]
    have B1 := Lib.hid (below_seq B0.out hb)
    have A1 := Lib.hid (blk_below A0.out hb (by simp))
    clear hb hle
    obtain ⟨q0, q1, -, -⟩ := blk_two (A1.out)
    go_wp2_with fail
    refine (toRobin_any q A n c fs _ (fa_below H.out B1.out) hn1 ht1).mono ?_
    rintro e w2 ⟨A2, hs2, rfl, hD, hb⟩
    have X2 := Lib.hid (do_fr hD (by omega))
    have B2 := Lib.hid (below_seq B1.out hb)
    have A2b := Lib.hid (blk_below A1.out hb (blk_lt A1.out))
    clear hb hD q0 q1
    go_wp2_with fail
    refine (HS0.out A2 n n _ X2.out).mono ?_
    rintro e w3 ⟨Bw, mw, dw, rfl, hm, hp, hb⟩
    have B3 := Lib.hid (below_seq B2.out hb)
    have A3 := Lib.hid (blk_below A2b.out hb (blk_lt A2b.out))
    have PW := Lib.hid (pr_own hp)
    have lmw : mw ≤ 1048576 := by omega
    have za : w.heap.size < w3.heap.size := blk_lt A3.out
    clear hb X2 A2b hm hp
    have F3 : Hid (Fm w3 [] w3) := Lib.hid (fm_zero w3)
    obtain ⟨q0, q1, -, -⟩ := blk_two (blk_below A3.out F3.out.below za)
    go_wp2_with fail
    refine (toRobin_any q A n c fs _ (fa_below H.out (below_seq B3.out F3.out.below)) hn1 ht1).mono ?_
    rintro e w4 ⟨A4, hs4, rfl, hD, hb⟩
    have F4 : Hid (Fm w3 [⟨w3.heap.size, w4.heap.size, DOI (w3.heap.size) w4.heap.size (.slice A4 n n) n hs4 fs⟩] w4) := Lib.hid (fm_doi F3.out hb hD (by simp))
    clear F3
    clear hb hD q0 q1
    have F4b : Hid (Fm w3 [⟨w3.heap.size, w4.heap.size, DOI (w3.heap.size) w4.heap.size (.slice A4 n n) n hs4 fs⟩, ⟨w4.heap.size, w4.heap.size + 1, BoxP (w4.heap.size) 25 #[.int .i64 q, (.slice A4 n n)]⟩] (w4.alloc (.cells #[.int .i64 q, (.slice A4 n n)] 25))) := Lib.hid (fm_push F4.out (by simp) _ _)
    clear F4
    obtain ⟨x0, x1, -, -⟩ := blk_two (fm_blk F4b.out 1 rfl)
    go_wp2_with fail
    refine (HI0.out A4 n n _ (doi_fr (fm_get F4b.out 0 rfl) (by omega))).mono ?_
    rintro e w5 ⟨Bg, mg, dg, rfl, hm, hp, hb⟩
    have lmg : mg ≤ 1048576 := by omega
    have F5 : Hid (Fm w3 [⟨w3.heap.size, w4.heap.size, DOI (w3.heap.size) w4.heap.size (.slice A4 n n) n hs4 fs⟩, ⟨w4.heap.size, w4.heap.size + 1, BoxP (w4.heap.size) 25 #[.int .i64 q, (.slice A4 n n)]⟩, ⟨w4.heap.size + 1, w5.heap.size, OwnP (w4.heap.size + 1) w5.heap.size 28 4 (.slice Bg mg dg) mg (pcells ps)⟩] w5) := Lib.hid (fm_own F4b.out hb hp (by simp))
    clear F4b
    clear hb hp hm
    clear x0 x1
    go_wp2_with fail
    refine (eqPacketS_any Bg Bw mg dg mw dw ps ps _ (pr_own (fm_row F5.out 2 rfl)) (pr_below PW.out F5.out.below) (by omega) (by omega)).mono ?_
    rintro e w8c ⟨rfl, hb⟩
    rw [← same_yes rfl]
    have Fw8c : Hid (Fm w3 [⟨w3.heap.size, w4.heap.size, DOI (w3.heap.size) w4.heap.size (.slice A4 n n) n hs4 fs⟩, ⟨w4.heap.size, w4.heap.size + 1, BoxP (w4.heap.size) 25 #[.int .i64 q, (.slice A4 n n)]⟩, ⟨w4.heap.size + 1, w5.heap.size, OwnP (w4.heap.size + 1) w5.heap.size 28 4 (.slice Bg mg dg) mg (pcells ps)⟩] w8c) := Lib.hid (fm_below F5.out hb)
    clear F5
    clear hb
    have hS := fm_rd22 (fm_drew Fw8c.out) A3.out 1 rfl
    go_wp2_with fail
    go_region_held3 (fun w' => (w'.cell? ⟨w.heap.size, 0, none⟩ = some (.int .i64 q) ∧ w'.cell? ⟨w.heap.size, 1, none⟩ = some (.slice A n c)) ∧ (w'.cell? ⟨w4.heap.size, 0, none⟩ = some (.int .i64 q) ∧ w'.cell? ⟨w4.heap.size, 1, none⟩ = some (.slice A4 n n)) ∧ Fm w3 [⟨w3.heap.size, w4.heap.size, DOI (w3.heap.size) w4.heap.size (.slice A4 n n) n hs4 fs⟩, ⟨w4.heap.size, w4.heap.size + 1, BoxP (w4.heap.size) 25 #[.int .i64 q, (.slice A4 n n)]⟩, ⟨w4.heap.size + 1, w5.heap.size, OwnP (w4.heap.size + 1) w5.heap.size 28 4 (.slice Bg mg dg) mg (pcells ps)⟩] w')
      (first | (with_reducible assumption) | fail)
      (first
        | (go_at_call 38
           refine (eqRobin_same q A4 A6 n n n n fs _ (doi_fr (fm_get FX6.out 0 rfl) (by omega)) PX6.out).mono ?_
           rintro e w7 ⟨rfl, hb7⟩
           have FX7 : Hid (Fm w3 [⟨w3.heap.size, w4.heap.size, DOI (w3.heap.size) w4.heap.size (.slice A4 n n) n hs4 fs⟩, ⟨w4.heap.size, w4.heap.size + 1, BoxP (w4.heap.size) 25 #[.int .i64 q, (.slice A4 n n)]⟩, ⟨w4.heap.size + 1, w5.heap.size, OwnP (w4.heap.size + 1) w5.heap.size 28 4 (.slice Bg mg dg) mg (pcells ps)⟩] w7) := Lib.hid (fm_below FX6.out hb7)
           have hS7 := fm_rd22 FX7.out A3.out 1 rfl
           clear hb7)
        | (go_at_call 37
           refine (toRobin_any q A n c fs _ (fa_below H.out (below_seq B3.out (fm_drew Fw8c.out).below)) hn1 ht1).mono ?_
           rintro e w6 ⟨A6, hs6, rfl, ho6, hb6⟩
           have PX6 := Lib.hid (do_fr ho6 (by omega))
           have FX6 : Hid (Fm w3 [⟨w3.heap.size, w4.heap.size, DOI (w3.heap.size) w4.heap.size (.slice A4 n n) n hs4 fs⟩, ⟨w4.heap.size, w4.heap.size + 1, BoxP (w4.heap.size) 25 #[.int .i64 q, (.slice A4 n n)]⟩, ⟨w4.heap.size + 1, w5.heap.size, OwnP (w4.heap.size + 1) w5.heap.size 28 4 (.slice Bg mg dg) mg (pcells ps)⟩] w6) := Lib.hid (fm_below (fm_drew Fw8c.out) hb6)
           have hS6 := fm_rd22 FX6.out A3.out 1 rfl
           clear hb6 ho6))
    all_goals
      clear PX6 FX6 Fw8c hS hS6 hS7
      obtain ⟨x0, x1, -, -⟩ := blk_two (fm_blk FX7.out 1 rfl)
      go_wp2_with fail
      refine (markRobin_any q (w3.heap.size) w4.heap.size A4 n n hs4 fs 1 _ (fm_get FX7.out 0 rfl) (fm_lt FX7.out 0 rfl).2.2 hn1 ht1 (by omega)).mono ?_
      rintro e w10 ⟨cur, rfl, hD, hc, hsl, hk⟩
      have F10 : Hid (Fm w3 [⟨w3.heap.size, w4.heap.size, DOI (w3.heap.size) w4.heap.size (.slice A4 n n) n cur (markF fs 1)⟩, ⟨w4.heap.size, w4.heap.size + 1, BoxP (w4.heap.size) 25 #[.int .i64 q, (.slice A4 n n)]⟩, ⟨w4.heap.size + 1, w5.heap.size, OwnP (w4.heap.size + 1) w5.heap.size 28 4 (.slice Bg mg dg) mg (pcells ps)⟩] w10) := Lib.hid (fm_put FX7.out 0 rfl hc (at_doi hD (Nat.le_trans (fm_lt FX7.out 0 rfl).2.2 hc.size)))
      clear FX7
      clear hD hc hsl hk x0 x1
      go_wp2_with fail
      refine (eqPacketS_any Bg Bw mg dg mw dw ps ps _ (pr_own (fm_row F10.out 2 rfl)) (pr_below PW.out F10.out.below) (by omega) (by omega)).mono ?_
      rintro e w11c ⟨rfl, hb⟩
      rw [← same_yes rfl]
      have Fw11c : Hid (Fm w3 [⟨w3.heap.size, w4.heap.size, DOI (w3.heap.size) w4.heap.size (.slice A4 n n) n cur (markF fs 1)⟩, ⟨w4.heap.size, w4.heap.size + 1, BoxP (w4.heap.size) 25 #[.int .i64 q, (.slice A4 n n)]⟩, ⟨w4.heap.size + 1, w5.heap.size, OwnP (w4.heap.size + 1) w5.heap.size 28 4 (.slice Bg mg dg) mg (pcells ps)⟩] w11c) := Lib.hid (fm_below F10.out hb)
      clear F10
      clear hb
      go_wp2_with fail
      refine (markPacketS_any (w4.heap.size + 1) Bg mg dg 1 ps _ (fm_row Fw11c.out 2 rfl) (by omega) (by omega)).mono ?_
      rintro e w12b ⟨rfl, ho, hg⟩
      have F12b : Hid (Fm w3 [⟨w3.heap.size, w4.heap.size, DOI (w3.heap.size) w4.heap.size (.slice A4 n n) n cur (markF fs 1)⟩, ⟨w4.heap.size, w4.heap.size + 1, BoxP (w4.heap.size) 25 #[.int .i64 q, (.slice A4 n n)]⟩, ⟨w4.heap.size + 1, w5.heap.size, OwnP (w4.heap.size + 1) w5.heap.size 28 4 (.slice Bg mg dg) mg (pcells (markL mg 1))⟩] w12b) := Lib.hid (fm_mark Fw11c.out 2 rfl hg ho)
      clear Fw11c
      clear ho hg
      have km : decide (1 + 4 * (mg : Int) < 0) = false := by simp; omega
      go_wp2_with fail
      refine (heldPacketS_any Bg mg dg 1 _ (pr_own (fm_row F12b.out 2 rfl)) (by omega) (by omega)).mono ?_
      rintro e w13_ ⟨rfl, rfl⟩
      obtain ⟨q0, q1, -, -⟩ := blk_two (blk_below A3.out F12b.out.below za)
      go_wp2_with fail
      refine (toRobin_any q A n c fs _ (fa_below H.out (below_seq B3.out F12b.out.below)) hn1 ht1).mono ?_
      rintro e w14 ⟨A14, hs14, rfl, hD, hb⟩
      have X14 := Lib.hid (do_fr hD (by omega))
      have F14 : Hid (Fm w3 [⟨w3.heap.size, w4.heap.size, DOI (w3.heap.size) w4.heap.size (.slice A4 n n) n cur (markF fs 1)⟩, ⟨w4.heap.size, w4.heap.size + 1, BoxP (w4.heap.size) 25 #[.int .i64 q, (.slice A4 n n)]⟩, ⟨w4.heap.size + 1, w5.heap.size, OwnP (w4.heap.size + 1) w5.heap.size 28 4 (.slice Bg mg dg) mg (pcells (markL mg 1))⟩] w14) := Lib.hid (fm_below F12b.out hb)
      clear F12b
      clear hb hD q0 q1
      go_wp2_with fail
      refine (HI0.out A14 n n _ X14.out).mono ?_
      rintro e w15 ⟨Bh, mh, dh, rfl, hm, hp, hb⟩
      have PH := Lib.hid (pr_own hp)
      have lmh : mh ≤ 1048576 := by omega
      have F15 : Hid (Fm w3 [⟨w3.heap.size, w4.heap.size, DOI (w3.heap.size) w4.heap.size (.slice A4 n n) n cur (markF fs 1)⟩, ⟨w4.heap.size, w4.heap.size + 1, BoxP (w4.heap.size) 25 #[.int .i64 q, (.slice A4 n n)]⟩, ⟨w4.heap.size + 1, w5.heap.size, OwnP (w4.heap.size + 1) w5.heap.size 28 4 (.slice Bg mg dg) mg (pcells (markL mg 1))⟩] w15) := Lib.hid (fm_below F14.out hb)
      clear F14
      have F0 : Hid (Fm w15 [] w15) := Lib.hid (fm_zero w15)
      clear hb X14 hp hm
      go_wp2_with fail
      refine (eqPacketS_any Bh Bw mh dh mw dw ps ps _ PH.out (pr_below PW.out F15.out.below) (by omega) (by omega)).mono ?_
      rintro e w16c ⟨rfl, hb⟩
      rw [← same_yes rfl]
      have Fw16c : Hid (Fm w3 [⟨w3.heap.size, w4.heap.size, DOI (w3.heap.size) w4.heap.size (.slice A4 n n) n cur (markF fs 1)⟩, ⟨w4.heap.size, w4.heap.size + 1, BoxP (w4.heap.size) 25 #[.int .i64 q, (.slice A4 n n)]⟩, ⟨w4.heap.size + 1, w5.heap.size, OwnP (w4.heap.size + 1) w5.heap.size 28 4 (.slice Bg mg dg) mg (pcells (markL mg 1))⟩] w16c) := Lib.hid (fm_below F15.out hb)
      clear F15
      clear hb
      go_wp2_with fail
      refine (heldPacketS_any Bg mg dg 1 _ (pr_own (fm_row Fw16c.out 2 rfl)) (by omega) (by omega)).mono ?_
      rintro e w17_ ⟨rfl, rfl⟩
      go_wp2
      go_ret
      exact ⟨rfl, below_seq B3.out Fw16c.out.below⟩
  · have hle : (1048576 : Int) < (n : Int) + (total fs : Int) := by omega
    go_enter Try.func15, Try.ntmps15
    go_wp2_with fail
    refine (szRobin_any q A n c fs 1048576 _ (fa_below H.out B0.out) hn (by omega)).mono ?_
    rintro e w1 ⟨rfl, hb⟩
    rw [if_pos (by omega)]
    have B1 := Lib.hid (below_seq B0.out hb)
    clear hb hle hbig
    go_wp2
    go_ret
    exact ⟨rfl, B1.out⟩
theorem own : ownKnob Try.prog.godebug = none := by kernel_rfl
theorem laidOut : laidOutB Try.prog = true := by kernel_rfl
set_option maxRecDepth 100000 in
theorem lifted (os : Os) (started : os.Started) (H : Type) (enc : TypeId × Value → H) :
    ReturnsInHanded {} Try.checked os 15 .any (Rows.fnExactWaitingOfSpec.pre6 enc Try.prog Try.f15 Rows.fnExactWaitingOfRow.domain false) (Rows.fnExactWaitingOfSpec.post enc Try.prog Try.f15 false true false false) := by
  refine returnsInHanded_of_change (C := Try.checked) own started (by kernel_rfl) Try.func15
    (ChangeSpec.witness6 (enc := enc) (C := Try.checked) false ⟨#[], #[.agg #[.int .i64 0, .slice none 0 0], .int .i64 0], []⟩ 8 (by kernel_rfl) (by kernel_rfl) (by kernel_rfl) (by kernel_rfl)) ?_
  intro W base args ds gs before hval0 hW _ _
  have hval : ∀ (j : Nat) t v, Try.f15.params[j]? = some t → args[j]? = some v → Value.okWide Try.prog W .any base t v := hval0
  have hW' := hW
  obtain ⟨p, q, hA0, hV, rfl, _, _⟩ := hW
  have hA : DataW.TrodAll enc Try.prog W 0 (fun _ => true) true Try.f15.params.toList args.toList ds p := hA0
  rw [Try.params15] at hA hval
  obtain ⟨v0, vs0, d0, ds0, p0, q0, hargs, rfl, rfl, h0, r0⟩ := trodAll_cons hA
  obtain ⟨v1, vs1, d1, ds1, p1, q1, rfl, rfl, rfl, h1, r1⟩ := trodAll_cons r0
  obtain ⟨rfl, rfl, rfl⟩ := trodAll_nil r1
  obtain rfl : args = #[v0, v1] := by cases args; simp_all
  obtain ⟨rfl, rfl⟩ := trodVars_none hV
  have lt0 : ∀ x ∈ p0, x.block < W.heap.size := by obtain ⟨m, hm⟩ := h0; exact DataW.trod_lt m _ _ _ hm
  have ok0 := (hval 0 51 v0 rfl rfl)
  obtain ⟨p0a, p0b, y0a, y0b, nf0, rfl, _, _, t0a, t0b⟩ := Go.Joins.open_agg2 Try.underlying51 (by kernel_rfl) (by kernel_rfl) ok0 h0
  obtain ⟨x0a, e0a, _, _⟩ := DataW.trod_int Try.underlying3 t0a
  obtain rfl : p0a = .int .i64 x0a := by simpa using e0a
  obtain ⟨a0, n0, c0, x0, rfl, w0, m0⟩ := flws_open1 t0b
  obtain ⟨x1, rfl, rfl, rfl, w1⟩ := open_int Try.underlying3 (hval 1 3 v1 rfl rfl) h1
  clear hA0 hval0
  refine (walk x0a a0 n0 c0 x0 x1 W w0 m0 w1).mono fun e W' ⟨he, bel⟩ => ?_
  subst he
  exact ⟨_, rfl, _, _, _, [], _, [], hW', trodAll_mk1 (shut_bool Try.underlying4 _), (trodAll_cons_mk (Below.trod laidOut (by kernel_rfl) (of_decide_eq_true (by kernel_rfl)) h0 bel lt0) (trodAll_cons_mk (shut_int Try.underlying3 w1) trodAll_mk0)), rfl, bel.frame _, fun h => by cases h⟩
end Go.Proofs.Ytehokkijfgiggaa.fnExactWaitingOf
