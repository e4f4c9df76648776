/-
  The law FnExactFreeFor returns true at every argument: the program's FreeFor answers as the model's and writes into no argument. Conditions: none.
-/
import Derived.Test.YtkbjelchihdajabExA
namespace Go.Proofs.Ytkbjelchihdajab.fnExactFreeFor
open Go.ChangeShapes Go.WideShapes Go.ChangeAt Go.RowKit

theorem free_both (lim each : Int) (us : List Int) (x : Int) : ∃ (f : Int) (ok : Bool),
    Hid (∀ (A : Option Addr) (n c : Nat) (w : World), NR w A n us → n ≤ 4000000000 → Calls Try.prog 20 #[.agg #[.int .i64 lim, .int .i64 each, (.slice A n c)], .int .i64 x] w (fun e w' => e = .returned (.tuple #[.int .i64 f, .bool ok]) ∧ Below w.heap.size w w')) ∧
    Hid (∀ (A : Option Addr) (n c : Nat) (w : World), NR w A n us → n ≤ 4000000000 → Calls Try.prog 19 #[.agg #[.int .i64 lim, .int .i64 each, (.slice A n c)], .int .i64 x] w (fun e w' => e = .returned (.tuple #[.int .i64 f, .bool ok]) ∧ Below w.heap.size w w')) := by
  rcases hk : frOk lim each us x with _ | _
  · exact ⟨0, false, Lib.hid fun A n c w h hn => freeS_no lim each A n c us x w h (by omega) hk, Lib.hid fun A n c w h hn => freeI_no lim each A n c us x w h (by omega) hk⟩
  · obtain ⟨hq, hx⟩ := frOk_of hk
    obtain ⟨k, rfl, hk8⟩ := k_of hx
    obtain ⟨u, hu⟩ := ac_at hq hk8
    exact ⟨freeN lim each us u, true, Lib.hid fun A n c w h _ => freeS_yes lim each A n c us k u w h hq hx hu, Lib.hid fun A n c w h _ => freeI_yes lim each A n c us k u w h hq hx hu⟩

set_option maxHeartbeats 4000000 in
theorem walk (lim each : Int) (A : Option Addr) (n c : Nat) (us : List Int) (x : Int) (w : World) (h : NR w A n us) (hn : n ≤ 9223372036854775807) (_ : (Lit.int .i64 x).wf = true) :
    Calls Try.prog 11 #[.agg #[.int .i64 lim, .int .i64 each, (.slice A n c)], .int .i64 x] w fun e w' => e = .returned (.bool true) ∧ Below w.heap.size w w' := by
  have H := Lib.hid h
  have F0 : Hid (Fm w [⟨w.heap.size, w.heap.size + 1, BoxP w.heap.size 43 #[.int .i64 lim, .int .i64 each, (.slice A n c)]⟩] (w.alloc (.cells #[.int .i64 lim, .int .i64 each, (.slice A n c)] 43))) := Lib.hid (fm_box (fm_zero w) _ _)
  clear h
  by_cases hbig : n ≤ 1048576
  · obtain ⟨f, ok, HS0, HI0⟩ := free_both lim each us x
    have hd : 0 ≤ (1048576 : Int) - (n : Int) := by omega
    go_enter Try.func11, Try.ntmps11
    go_wp2_with fail
    refine (szAccount_any lim each A n c 1048576 _ hn (by omega)).mono ?_
    rintro e w1 ⟨rfl, hb⟩
    rw [if_neg (by omega)]
    have F1 : Hid (Fm w [⟨w.heap.size, w.heap.size + 1, BoxP w.heap.size 43 #[.int .i64 lim, .int .i64 each, (.slice A n c)]⟩] w1) := Lib.hid (fm_below F0.out hb)
    clear hb F0
    obtain ⟨⟨q0, q1, q2⟩, -⟩ := blk_three (fm_blk F1.out 0 rfl)
    go_wp2_with fail
    refine (toAccount_any lim each A n c us _ (nr_below H.out F1.out.below) hbig).mono ?_
    rintro e w2 ⟨A2, c2, rfl, ho, hb⟩
    have X2 := Lib.hid (nr_own ho)
    have F2 : Hid (Fm w [⟨w.heap.size, w.heap.size + 1, BoxP w.heap.size 43 #[.int .i64 lim, .int .i64 each, (.slice A n c)]⟩] w2) := Lib.hid (fm_below F1.out hb)
    clear hb ho q0 q1 q2 F1
    go_wp2_with fail
    refine (HS0.out A2 n c2 _ X2.out (by omega)).mono ?_
    rintro e w3 ⟨rfl, hb⟩
    have F3 : Hid (Fm w [⟨w.heap.size, w.heap.size + 1, BoxP w.heap.size 43 #[.int .i64 lim, .int .i64 each, (.slice A n c)]⟩] w3) := Lib.hid (fm_below F2.out hb)
    clear hb F2 X2
    obtain ⟨⟨q0, q1, q2⟩, -⟩ := blk_three (fm_blk F3.out 0 rfl)
    go_wp2_with fail
    refine (toAccount_any lim each A n c us _ (nr_below H.out F3.out.below) hbig).mono ?_
    rintro e w4 ⟨A4, c4, rfl, ho, hb⟩
    have F4 : Hid (Fm w [⟨w.heap.size, w.heap.size + 1, BoxP w.heap.size 43 #[.int .i64 lim, .int .i64 each, (.slice A n c)]⟩, ⟨w3.heap.size, w4.heap.size, OwnP w3.heap.size w4.heap.size 3 1 (.slice A4 n c4) n (icells us)⟩] w4) := Lib.hid (fm_own F3.out hb ho rfl)
    clear hb ho q0 q1 q2 F3
    have F4b : Hid (Fm w [⟨w.heap.size, w.heap.size + 1, BoxP w.heap.size 43 #[.int .i64 lim, .int .i64 each, (.slice A n c)]⟩, ⟨w3.heap.size, w4.heap.size, OwnP w3.heap.size w4.heap.size 3 1 (.slice A4 n c4) n (icells us)⟩, ⟨w4.heap.size, w4.heap.size + 1, BoxP w4.heap.size 31 #[.int .i64 lim, .int .i64 each, (.slice A4 n c4)]⟩] (w4.alloc (.cells #[.int .i64 lim, .int .i64 each, (.slice A4 n c4)] 31))) := Lib.hid (fm_box F4.out _ _)
    obtain ⟨⟨x0, x1, x2⟩, -⟩ := blk_three (fm_blk F4b.out 2 rfl)
    clear F4
    go_wp2_with fail
    refine (HI0.out A4 n c4 _ (nr_own (fm_row F4b.out 1 rfl)) (by omega)).mono ?_
    rintro e w5 ⟨rfl, hb⟩
    have F5 : Hid (Fm w [⟨w.heap.size, w.heap.size + 1, BoxP w.heap.size 43 #[.int .i64 lim, .int .i64 each, (.slice A n c)]⟩, ⟨w3.heap.size, w4.heap.size, OwnP w3.heap.size w4.heap.size 3 1 (.slice A4 n c4) n (icells us)⟩, ⟨w4.heap.size, w4.heap.size + 1, BoxP w4.heap.size 31 #[.int .i64 lim, .int .i64 each, (.slice A4 n c4)]⟩] w5) := Lib.hid (fm_below F4b.out hb)
    clear hb x0 x1 x2 F4b
    have hS := fm_rd33 (fm_drew F5.out) 0 2 rfl rfl
    go_wp2_with fail
    go_region_held3 (fun w' => (w'.cell? ⟨w.heap.size, 0, none⟩ = some (.int .i64 lim) ∧ w'.cell? ⟨w.heap.size, 1, none⟩ = some (.int .i64 each) ∧ w'.cell? ⟨w.heap.size, 2, none⟩ = some (.slice A n c)) ∧ (w'.cell? ⟨w4.heap.size, 0, none⟩ = some (.int .i64 lim) ∧ w'.cell? ⟨w4.heap.size, 1, none⟩ = some (.int .i64 each) ∧ w'.cell? ⟨w4.heap.size, 2, none⟩ = some (.slice A4 n c4)) ∧ Fm w [⟨w.heap.size, w.heap.size + 1, BoxP w.heap.size 43 #[.int .i64 lim, .int .i64 each, (.slice A n c)]⟩, ⟨w3.heap.size, w4.heap.size, OwnP w3.heap.size w4.heap.size 3 1 (.slice A4 n c4) n (icells us)⟩, ⟨w4.heap.size, w4.heap.size + 1, BoxP w4.heap.size 31 #[.int .i64 lim, .int .i64 each, (.slice A4 n c4)]⟩] w')
      (first | (with_reducible assumption) | fail)
      (first
        | (go_at_call 26
           refine (eqAccount_same lim each A4 A6 n c4 n c6 us _ (nr_own (fm_row FX6.out 1 rfl)) PX6.out (by omega) (by omega)).mono ?_
           rintro e w7 ⟨rfl, hb7⟩
           have FX7 : Hid (Fm w [⟨w.heap.size, w.heap.size + 1, BoxP w.heap.size 43 #[.int .i64 lim, .int .i64 each, (.slice A n c)]⟩, ⟨w3.heap.size, w4.heap.size, OwnP w3.heap.size w4.heap.size 3 1 (.slice A4 n c4) n (icells us)⟩, ⟨w4.heap.size, w4.heap.size + 1, BoxP w4.heap.size 31 #[.int .i64 lim, .int .i64 each, (.slice A4 n c4)]⟩] w7) := Lib.hid (fm_below FX6.out hb7)
           have hS7 := fm_rd33 FX7.out 0 2 rfl rfl
           clear hb7)
        | (go_at_call 31
           refine (toAccount_any lim each A n c us _ (nr_below H.out (fm_drew F5.out).below) hbig).mono ?_
           rintro e w6 ⟨A6, c6, rfl, ho6, hb6⟩
           have PX6 := Lib.hid (nr_own ho6)
           have FX6 : Hid (Fm w [⟨w.heap.size, w.heap.size + 1, BoxP w.heap.size 43 #[.int .i64 lim, .int .i64 each, (.slice A n c)]⟩, ⟨w3.heap.size, w4.heap.size, OwnP w3.heap.size w4.heap.size 3 1 (.slice A4 n c4) n (icells us)⟩, ⟨w4.heap.size, w4.heap.size + 1, BoxP w4.heap.size 31 #[.int .i64 lim, .int .i64 each, (.slice A4 n c4)]⟩] w6) := Lib.hid (fm_below (fm_drew F5.out) hb6)
           have hS6 := fm_rd33 FX6.out 0 2 rfl rfl
           clear hb6 ho6))
    all_goals
      go_wp2
      go_ret
      exact ⟨rfl, FX7.out.below⟩
  · go_enter Try.func11, Try.ntmps11
    go_wp2_with fail
    refine (szAccount_any lim each A n c 1048576 _ hn (by omega)).mono ?_
    rintro e w1 ⟨rfl, hb⟩
    rw [if_pos (by omega)]
    have F1 : Hid (Fm w [⟨w.heap.size, w.heap.size + 1, BoxP w.heap.size 43 #[.int .i64 lim, .int .i64 each, (.slice A n c)]⟩] w1) := Lib.hid (fm_below F0.out hb)
    clear hb F0
    go_wp2
    go_ret
    exact ⟨rfl, F1.out.below⟩
theorem own : ownKnob Try.prog.godebug = none := by kernel_rfl
theorem laidOut : laidOutB Try.prog = true := by kernel_rfl
set_option maxRecDepth 100000 in
theorem lifted (os : Os) (started : os.Started) (H : Type) (enc : TypeId × Value → H) :
    ReturnsInHanded {} Try.checked os 11 .any (Rows.fnExactFreeForSpec.pre6 enc Try.prog Try.f11 Rows.fnExactFreeForRow.domain false) (Rows.fnExactFreeForSpec.post enc Try.prog Try.f11 false true false false) := by
  refine returnsInHanded_of_change (C := Try.checked) own started (by kernel_rfl) Try.func11
    (ChangeSpec.witness6 (enc := enc) (C := Try.checked) false ⟨#[], #[.agg #[.int .i64 0, .int .i64 0, .slice none 0 0], .int .i64 0], []⟩ 8 (by kernel_rfl) (by kernel_rfl) (by kernel_rfl) (by kernel_rfl)) ?_
  intro W base args ds gs before hval0 hW _ _
  have hval : ∀ (j : Nat) t v, Try.f11.params[j]? = some t → args[j]? = some v → Value.okWide Try.prog W .any base t v := hval0
  have hW' := hW
  obtain ⟨p, q, hA0, hV, rfl, _, _⟩ := hW
  have hA : DataW.TrodAll enc Try.prog W 0 (fun _ => true) true Try.f11.params.toList args.toList ds p := hA0
  rw [Try.params11] at hA hval
  obtain ⟨v0, vs0, d0, ds0, p0, q0, hargs, rfl, rfl, h0, r0⟩ := trodAll_cons hA
  obtain ⟨v1, vs1, d1, ds1, p1, q1, rfl, rfl, rfl, h1, r1⟩ := trodAll_cons r0
  obtain ⟨rfl, rfl, rfl⟩ := trodAll_nil r1
  obtain rfl : args = #[v0, v1] := by cases args; simp_all
  obtain ⟨rfl, rfl⟩ := trodVars_none hV
  have lt0 : ∀ x ∈ p0, x.block < W.heap.size := by obtain ⟨m, hm⟩ := h0; exact DataW.trod_lt m _ _ _ hm
  have ok0 := (hval 0 43 v0 rfl rfl)
  obtain ⟨p0a, p0b, p0c, y0a, y0b, y0c, nf0, rfl, _, _, t0a, t0b, t0c⟩ := Go.Joins.open_agg3 Try.underlying43 (by kernel_rfl) (by kernel_rfl) ok0 h0
  obtain ⟨x0a, e0a, _, _⟩ := DataW.trod_int Try.underlying3 t0a
  obtain rfl : p0a = .int .i64 x0a := by simpa using e0a
  obtain ⟨x0b, e0b, _, _⟩ := DataW.trod_int Try.underlying3 t0b
  obtain rfl : p0b = .int .i64 x0b := by simpa using e0b
  obtain ⟨a0, n0, c0, x0, rfl, w0, m0⟩ := ints_open1 t0c
  obtain ⟨x1, rfl, rfl, rfl, w1⟩ := open_int Try.underlying3 (hval 1 3 v1 rfl rfl) h1
  clear hA0 hval0
  refine (walk x0a x0b a0 n0 c0 x0 x1 W w0 m0 w1).mono fun e W' ⟨he, bel⟩ => ?_
  subst he
  exact ⟨_, rfl, _, _, _, [], _, [], hW', trodAll_mk1 (shut_bool Try.underlying4 _), (trodAll_cons_mk (Below.trod laidOut (by kernel_rfl) (of_decide_eq_true (by kernel_rfl)) h0 bel lt0) (trodAll_cons_mk (shut_int Try.underlying3 w1) trodAll_mk0)), rfl, bel.frame _, fun h => by cases h⟩
theorem over : Rows.fnExactFreeForRow.holds Try.pinned (OpenSpec.ofChange Rows.fnExactFreeForSpec) :=
  OpenClaim.holds_of_wide 11 Try.f11 rfl rfl rfl rfl rfl rfl rfl ⟨rfl, rfl, rfl, rfl, rfl⟩ rfl rfl rfl rfl rfl (by kernel_rfl) Try.func11 (by kernel_rfl)
    (of_decide_eq_true (by kernel_rfl)) (by unfold Func.isWrapper; first | (rw [if_pos (by decide +kernel)]; kernel_rfl) | (rw [if_neg (by decide +kernel)]; exact ⟨rfl, rfl⟩))
    (fun os started H enc _ => lifted os started H enc)
/-- the given statement -/
theorem proved : Rows.FnExactFreeForSaid := over
end Go.Proofs.Ytkbjelchihdajab.fnExactFreeFor
