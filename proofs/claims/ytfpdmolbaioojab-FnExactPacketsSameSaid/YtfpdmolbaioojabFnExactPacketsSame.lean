/-
  The law FnExactPacketsSame returns true at every argument: the program's PacketsSame answers as the model's and writes into no argument. Conditions: none.
-/
import Derived.Test.YtfpdmolbaioojabLiftPkts
import Derived.Test.YtfpdmolbaioojabEx1
import Derived.Test.YtfpdmolbaioojabC1c
namespace Go.Proofs.Ytfpdmolbaioojab.fnExactPacketsSame
open Go.ChangeShapes Go.WideShapes Go.ChangeAt Go.RowKit
set_option maxHeartbeats 2000000 in
theorem walk (A : Option Addr) (n c : Nat) (ps : List Pkt) (B : Option Addr) (m d : Nat) (qs : List Pkt) (w : World) (h : PR w A n ps) (hn : n ≤ 9223372036854775807) (h' : PR w B m qs) (hm : m ≤ 9223372036854775807) :
    Calls Try.prog 6 #[.slice A n c, .slice B m d] w fun e w' => e = .returned (.bool true) ∧ Below w.heap.size w w' := by
  have H := Lib.hid h
  have I := Lib.hid h'
  clear h h'
  by_cases hbig : n ≤ 1048576
  · by_cases hbig2 : m ≤ 1048576 - n
    · have hm2 : m ≤ 1048576 := by omega
      have hd : 0 ≤ (1048576 : Int) - (n : Int) := by omega
      have hd2 : 0 ≤ (1048576 : Int) - (n : Int) - (m : Int) := by omega
      go_enter Try.func6, Try.ntmps6
      go_wp2_with fail
      refine (szPacketS_any A n c 1048576 _ hn (by omega)).mono ?_
      rintro e w1 ⟨rfl, rfl⟩
      rw [if_neg (by omega)]
      go_wp2_with fail
      refine (szPacketS_any B m d _ _ hm (by omega)).mono ?_
      rintro e w1 ⟨rfl, rfl⟩
      rw [if_neg (by omega)]
      go_wp2_with fail
      refine (toPacketS_any A n c ps _ H.out hbig).mono ?_
      rintro e w2 ⟨rfl, h2a, h2b⟩
      have HX2 := Lib.hid (pr_own h2a)
      have H2 := Lib.hid (pr_below H.out h2b)
      have I2 := Lib.hid (pr_below I.out h2b)
      have HB2 := Lib.hid h2b
      clear h2a h2b
      go_wp2_with fail
      refine (toPacketS_any B m d qs _ I2.out hm2).mono ?_
      rintro e w3 ⟨rfl, h3a, h3b⟩
      have HY3 := Lib.hid (pr_own h3a)
      have HX3 := Lib.hid (pr_below HX2.out h3b)
      have H3 := Lib.hid (pr_below H2.out h3b)
      have I3 := Lib.hid (pr_below I2.out h3b)
      have HB3 := Lib.hid (below_seq HB2.out h3b)
      clear h3a h3b
      go_wp2_with fail
      refine (sameS_any _ _ n n m m ps qs _ HX3.out HY3.out (by omega) (by omega)).mono ?_
      rintro e w4 ⟨rfl, hb4⟩
      have H4 := Lib.hid (pr_below H3.out hb4)
      have I4 := Lib.hid (pr_below I3.out hb4)
      have HB4 := Lib.hid (below_seq HB3.out hb4)
      clear hb4
      go_wp2_with fail
      refine (toPacketS_any A n c ps _ H4.out hbig).mono ?_
      rintro e w5 ⟨rfl, h5a, h5b⟩
      have HX5 := Lib.hid (pr_own h5a)
      have H5 := Lib.hid (pr_below H4.out h5b)
      have I5 := Lib.hid (pr_below I4.out h5b)
      have HB5 := Lib.hid (below_seq HB4.out h5b)
      clear h5a h5b
      go_wp2_with fail
      refine (toPacketS_any B m d qs _ I5.out hm2).mono ?_
      rintro e w6 ⟨rfl, h6a, h6b⟩
      have HY6 := Lib.hid (pr_own h6a)
      have HX6 := Lib.hid (pr_below HX5.out h6b)
      have H6 := Lib.hid (pr_below H5.out h6b)
      have I6 := Lib.hid (pr_below I5.out h6b)
      have HB6 := Lib.hid (below_seq HB5.out h6b)
      clear h6a h6b
      go_wp2_with fail
      refine (sameI_any _ _ n n m m ps qs _ HX6.out HY6.out (by omega) (by omega)).mono ?_
      rintro e w7 ⟨rfl, hb7⟩
      have HX7 := Lib.hid (pr_below HX6.out hb7)
      have HY7 := Lib.hid (pr_below HY6.out hb7)
      have H7 := Lib.hid (pr_below H6.out hb7)
      have I7 := Lib.hid (pr_below I6.out hb7)
      have HB7 := Lib.hid (below_seq HB6.out hb7)
      clear hb7
      go_wp2_with fail
      refine (toPacketS_any A n c ps _ H7.out hbig).mono ?_
      rintro e w8 ⟨rfl, h8a, h8b⟩
      have HZ8 := Lib.hid (pr_own h8a)
      have HX8 := Lib.hid (pr_below HX7.out h8b)
      have HY8 := Lib.hid (pr_below HY7.out h8b)
      have I8 := Lib.hid (pr_below I7.out h8b)
      have HB8 := Lib.hid (below_seq HB7.out h8b)
      clear h8a h8b
      go_wp2_with fail
      refine (eqPacketS_any _ _ n n n n ps ps _ HX8.out HZ8.out (by omega) (by omega)).mono ?_
      rintro e w9 ⟨rfl, hb9⟩
      rw [← same_yes rfl]
      have HY9 := Lib.hid (pr_below HY8.out hb9)
      have I9 := Lib.hid (pr_below I8.out hb9)
      have HB9 := Lib.hid (below_seq HB8.out hb9)
      clear hb9
      go_wp2_with fail
      refine (toPacketS_any B m d qs _ I9.out hm2).mono ?_
      rintro e w10 ⟨rfl, h10a, h10b⟩
      have HZ10 := Lib.hid (pr_own h10a)
      have HY10 := Lib.hid (pr_below HY9.out h10b)
      have HB10 := Lib.hid (below_seq HB9.out h10b)
      clear h10a h10b
      go_wp2_with fail
      refine (eqPacketS_any _ _ m m m m qs qs _ HY10.out HZ10.out (by omega) (by omega)).mono ?_
      rintro e w11 ⟨rfl, hb11⟩
      rw [← same_yes rfl]
      have HB11 := Lib.hid (below_seq HB10.out hb11)
      clear hb11
      go_wp2
      go_ret
      exact ⟨rfl, HB11.out⟩
    · have hd : 0 ≤ (1048576 : Int) - (n : Int) := by omega
      go_enter Try.func6, Try.ntmps6
      go_wp2_with fail
      refine (szPacketS_any A n c 1048576 _ hn (by omega)).mono ?_
      rintro e w1 ⟨rfl, rfl⟩
      rw [if_neg (by omega)]
      go_wp2_with fail
      refine (szPacketS_any B m d _ _ hm (by omega)).mono ?_
      rintro e w1 ⟨rfl, rfl⟩
      rw [if_pos (by omega)]
      go_wp2
      go_ret
      exact ⟨rfl, Below.refl _ _⟩
  · go_enter Try.func6, Try.ntmps6
    go_wp2_with fail
    refine (szPacketS_any A n c 1048576 _ hn (by omega)).mono ?_
    rintro e w1 ⟨rfl, rfl⟩
    rw [if_pos (by omega)]
    go_wp2
    go_ret
    exact ⟨rfl, Below.refl _ _⟩
theorem own : ownKnob Try.prog.godebug = none := by kernel_rfl
theorem laidOut : laidOutB Try.prog = true := by kernel_rfl
set_option maxRecDepth 100000 in
theorem lifted (os : Os) (started : os.Started) (H : Type) (enc : TypeId × Value → H) :
    ReturnsInHanded {} Try.checked os 6 .any (Rows.fnExactPacketsSameSpec.pre6 enc Try.prog Try.f6 Rows.fnExactPacketsSameRow.domain false) (Rows.fnExactPacketsSameSpec.post enc Try.prog Try.f6 false true false false) := by
  refine returnsInHanded_of_change (C := Try.checked) own started (by kernel_rfl) Try.func6
    (ChangeSpec.witness6 (enc := enc) (C := Try.checked) false ⟨#[], #[.slice none 0 0, .slice none 0 0], []⟩ 8 (by kernel_rfl) (by kernel_rfl) (by kernel_rfl) (by kernel_rfl)) ?_
  intro W base args ds gs before hval0 hW _ _
  have hval : ∀ (j : Nat) t v, Try.f6.params[j]? = some t → args[j]? = some v → Value.okWide Try.prog W .any base t v := hval0
  have hW' := hW
  obtain ⟨p, q, hA0, hV, rfl, _, _⟩ := hW
  have hA : DataW.TrodAll enc Try.prog W 0 (fun _ => true) true Try.f6.params.toList args.toList ds p := hA0
  rw [Try.params6] at hA hval
  obtain ⟨v0, vs0, d0, ds0, p0, q0, hargs, rfl, rfl, h0, r0⟩ := trodAll_cons hA
  obtain ⟨v1, vs1, d1, ds1, p1, q1, rfl, rfl, rfl, h1, r1⟩ := trodAll_cons r0
  obtain ⟨rfl, rfl, rfl⟩ := trodAll_nil r1
  obtain rfl : args = #[v0, v1] := by cases args; simp_all
  obtain ⟨rfl, rfl⟩ := trodVars_none hV
  have lt0 : ∀ x ∈ p0, x.block < W.heap.size := by obtain ⟨m, hm⟩ := h0; exact DataW.trod_lt m _ _ _ hm
  obtain ⟨a0, n0, c0, rfl⟩ := okWide_slice Try.underlying28 (hval 0 28 v0 rfl rfl)
  obtain ⟨x0, w0, m0⟩ := pkts_open h0
  have lt1 : ∀ x ∈ p1, x.block < W.heap.size := by obtain ⟨m, hm⟩ := h1; exact DataW.trod_lt m _ _ _ hm
  obtain ⟨a1, n1, c1, rfl⟩ := okWide_slice Try.underlying28 (hval 1 28 v1 rfl rfl)
  obtain ⟨x1, w1, m1⟩ := pkts_open h1
  clear hA0 hval0
  refine (walk a0 n0 c0 x0 a1 n1 c1 x1 W w0 m0 w1 m1).mono fun e W' ⟨he, bel⟩ => ?_
  subst he
  exact ⟨_, rfl, _, _, _, [], _, [], hW', trodAll_mk1 (shut_bool Try.underlying4 _), (trodAll_cons_mk (Below.trod laidOut (by kernel_rfl) (of_decide_eq_true (by kernel_rfl)) h0 bel lt0) (trodAll_cons_mk (Below.trod laidOut (by kernel_rfl) (of_decide_eq_true (by kernel_rfl)) h1 bel lt1) trodAll_mk0)), rfl, bel.frame _, fun h => by cases h⟩
theorem over : Rows.fnExactPacketsSameRow.holds Try.pinned (OpenSpec.ofChange Rows.fnExactPacketsSameSpec) :=
  OpenClaim.holds_of_wide 6 Try.f6 rfl rfl rfl rfl rfl rfl rfl ⟨rfl, rfl, rfl, rfl, rfl⟩ rfl rfl rfl rfl rfl (by kernel_rfl) Try.func6 (by kernel_rfl)
    (of_decide_eq_true (by kernel_rfl)) (by unfold Func.isWrapper; first | (rw [if_pos (by decide +kernel)]; kernel_rfl) | (rw [if_neg (by decide +kernel)]; exact ⟨rfl, rfl⟩))
    (fun os started H enc _ => lifted os started H enc)
/-- the given statement -/
theorem proved : Rows.FnExactPacketsSameSaid := over
end Go.Proofs.Ytfpdmolbaioojab.fnExactPacketsSame
