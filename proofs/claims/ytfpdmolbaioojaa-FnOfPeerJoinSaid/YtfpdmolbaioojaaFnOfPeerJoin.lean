/-
  The law FnOfPeerJoin returns true at every argument: the packets of a peer in two lists are those of both, one behind the other. Conditions: none.
-/
import Derived.Test.YtfpdmolbaioojaaLift
import Derived.Test.YtfpdmolbaioojaaDrawList
import Derived.Test.YtfpdmolbaioojaaC1
import Derived.Test.YtfpdmolbaioojaaC1b
import Derived.Test.YtfpdmolbaioojaaC1c
namespace Go.Proofs.Ytfpdmolbaioojaa.fnOfPeerJoin
open Go.ChangeShapes Go.WideShapes Go.ChangeAt Go.RowKit

theorem of_append (a b : List Pkt) (x : Int) : ofPeer (a ++ b) x = ofPeer a x ++ ofPeer b x := by simp [ofPeer, List.filter_append]
theorem app_below {w w1 w2 : World} {base : Nat} {v : Value} {n : Nat} {xs : List Value} {e : TypeId} (ho : w1.ownsRow base e 4 v n xs) (hb : Below base w w1) (hg : w1.grownBy w2 v.ownBlock) (hs : base ≤ w1.heap.size) : Below base w w2 :=
  hb.grown hg hs fun k hk => (ho.lt k hk).1
set_option maxHeartbeats 2000000 in
theorem walk (A : Option Addr) (n c : Nat) (B : Option Addr) (m d : Nat) (w : World) (h : Bytes w A n c) (h' : Bytes w B m d) :
    Calls Try.prog 8 #[.slice A n c, .slice B m d] w fun e w' => e = .returned (.bool true) ∧ Below w.heap.size w w' := by
  have HB := Lib.hid h
  have HB' := Lib.hid h'
  clear h h'
  by_cases hbig : n ≤ 1048576
  · by_cases hbig2 : m ≤ 1048576
    · go_enter Try.func8, Try.ntmps8
      go_wp2_with fail
      refine (drawOfPeer_any A n c _ HB.out).mono ?_
      rintro e w1 ⟨A1, n1, c1, ps, x, rfl, hn9, hnc, hcm, hpr, hb1⟩
      have HP1 := Lib.hid hpr
      have HB1 := Lib.hid hb1
      clear hpr hb1 hnc hcm
      go_wp2_with fail
      refine (drawOfPeer_any B m d _ (bytes_below HB'.out HB1.out)).mono ?_
      rintro e w2 ⟨A2, n2, c2, qs, y, rfl, hm9, hnc, hcm, hpr, hb2⟩
      have HQ2 := Lib.hid hpr
      have HP2 := Lib.hid (pr_below HP1.out hb2)
      have HB2 := Lib.hid (below_seq HB1.out hb2)
      clear hpr hb2 hnc hcm
      go_wp2_with fail
      refine (ofI_any A1 n1 c1 ps x _ HP2.out (by omega)).mono ?_
      rintro e w3 ⟨A3, n3, c3, rfl, h3a, h3b, h3c, h3d, h3e⟩
      have HP3 := Lib.hid (pr_below HP2.out h3e)
      have HQ3 := Lib.hid (pr_below HQ2.out h3e)
      have HX3 := Lib.hid (pr_own h3d)
      have HB3 := Lib.hid (below_seq HB2.out h3e)
      have h39 : n3 ≤ 9 := by have := HP1.out.1; omega
      clear h3a h3b h3c h3d h3e
      go_wp2_with fail
      refine (ofS_any A1 n1 c1 ps x _ HP3.out (by omega)).mono ?_
      rintro e w4 ⟨A4, n4, c4, rfl, h4a, h4b, h4c, h4d, h4e⟩
      have HP4 := Lib.hid (pr_below HP3.out h4e)
      have HQ4 := Lib.hid (pr_below HQ3.out h4e)
      have HX4 := Lib.hid (pr_below HX3.out h4e)
      have HY4 := Lib.hid (pr_own h4d)
      have HB4 := Lib.hid (below_seq HB3.out h4e)
      have h49 : n4 ≤ 9 := by have := HP1.out.1; omega
      clear h4a h4b h4c h4d h4e
      go_wp2_with fail
      refine (sameI_any A3 A4 n3 c3 n4 c4 _ _ _ HX4.out HY4.out (by omega) (by omega)).mono ?_
      rintro e w5 ⟨rfl, hb5⟩
      rw [← same_yes rfl]
      have HP5 := Lib.hid (pr_below HP4.out hb5)
      have HQ5 := Lib.hid (pr_below HQ4.out hb5)
      have HX5 := Lib.hid (pr_below HX4.out hb5)
      have HB5 := Lib.hid (below_seq HB4.out hb5)
      clear hb5
      have O0 := Lib.hid (own_empty (w := w5) (Below.refl _ _))
      go_wp2_with (first
        | (at_builtin; refine wp_app_pkts _ rfl (.tmp 38) (.tmp 39) rfl w5.heap.size (.slice (some ⟨w5.heap.size, 0, none⟩) 0 0) 0 [] rfl O0.out A1 n1 c1 ps rfl (pr_alloc HP5.out _) (by omega) (by simp) ?_; intro v1 w6 ho6 hg6; simp only [List.nil_append, Nat.zero_add] at ho6; have T6 := Lib.hid (app_below O0.out (below_alloc (Below.refl _ _) _) hg6 (by simp)); clear hg6)
        | (at_builtin; refine wp_app_pkts _ rfl (.tmp 40) (.tmp 41) rfl w5.heap.size v1 n1 ps rfl ho6 A2 n2 c2 qs rfl (pr_below HQ5.out T6.out) (by omega) T6.out.size ?_; intro v2 w7 ho7 hg7))
      have T7 := app_below ho6 T6.out hg7 T6.out.size
      have HQ7 := Lib.hid (pr_below HQ5.out T7)
      have HX7 := Lib.hid (pr_below HX5.out T7)
      have HB7 := Lib.hid (below_seq HB5.out T7)
      obtain ⟨A7, c7, rfl, _, _, _⟩ := own_form ho7
      have HA7 := Lib.hid (pr_own ho7)
      clear ho6 ho7 hg7 T7 T6 O0
      go_wp2_with fail
      refine (ofI_any A7 (n1 + n2) c7 (ps ++ qs) x _ HA7.out (by omega)).mono ?_
      rintro e w8 ⟨A8, n8, c8, rfl, h8a, h8b, h8c, h8d, h8e⟩
      have HQ8 := Lib.hid (pr_below HQ7.out h8e)
      have HX8 := Lib.hid (pr_below HX7.out h8e)
      have HR8 := Lib.hid (pr_own h8d)
      have HB8 := Lib.hid (below_seq HB7.out h8e)
      have h89 : n8 ≤ 18 := by have := HA7.out.1; omega
      clear h8a h8b h8c h8d h8e
      have O8 := Lib.hid (own_empty (w := w8) (Below.refl _ _))
      go_wp2_with (at_builtin; refine wp_app_pkts _ rfl (.tmp 46) (.tmp 47) rfl w8.heap.size (.slice (some ⟨w8.heap.size, 0, none⟩) 0 0) 0 [] rfl O8.out A3 n3 c3 _ rfl (pr_alloc HX8.out _) (by omega) (by simp) ?_; intro v9 w9 ho9 hg9; simp only [List.nil_append, Nat.zero_add] at ho9; have T9 := Lib.hid (app_below O8.out (below_alloc (Below.refl _ _) _) hg9 (by simp)); clear hg9)
      refine (ofI_any A2 n2 c2 qs x _ (pr_below HQ8.out T9.out) (by omega)).mono ?_
      rintro e w10 ⟨A10, n10, c10, rfl, h10a, h10b, h10c, h10d, h10e⟩
      have T10 := Lib.hid (T9.out.trans (h10e.mono T9.out.size))
      have ho10 := own_below ho9 h10e
      have HY10 := Lib.hid (pr_own h10d)
      have h109 : n10 ≤ 9 := by have := HQ2.out.1; omega
      clear h10a h10b h10c h10d h10e ho9 T9
      go_wp2_with (at_builtin; refine wp_app_pkts _ rfl (.tmp 48) (.tmp 51) rfl w8.heap.size v9 n3 _ rfl ho10 A10 n10 c10 _ rfl HY10.out (by omega) T10.out.size ?_; intro v11 w11 ho11 hg11)
      have T11 := app_below ho10 T10.out hg11 T10.out.size
      obtain ⟨A11, c11, rfl, _, _, _⟩ := own_form ho11
      have HA11 := Lib.hid (pr_own ho11)
      have HR11 := Lib.hid (pr_below HR8.out T11)
      have HB11 := Lib.hid (below_seq HB8.out T11)
      clear ho10 ho11 hg11 T10 T11 O8
      go_wp2_with fail
      refine (sameI_any A8 A11 n8 c8 (n3 + n10) c11 _ _ _ HR11.out HA11.out (by omega) (by omega)).mono ?_
      rintro e w12 ⟨rfl, hb12⟩
      rw [← same_yes (of_append ps qs x)]
      have HB12 := Lib.hid (below_seq HB11.out hb12)
      clear hb12
      go_wp2
      go_ret
      exact ⟨rfl, HB12.out⟩
    · have hd : decide ((1048576 : Int) < (m : Int)) = true := by simp only [decide_eq_true_eq]; omega
      go_enter Try.func8, Try.ntmps8
      go_wp2
      go_ret
      exact ⟨rfl, Below.refl _ _⟩
  · go_enter Try.func8, Try.ntmps8
    go_wp2
    go_ret
    exact ⟨rfl, Below.refl _ _⟩
theorem own : ownKnob Try.prog.godebug = none := by kernel_rfl
theorem laidOut : laidOutB Try.prog = true := by kernel_rfl
set_option maxRecDepth 100000 in
theorem lifted (os : Os) (started : os.Started) (H : Type) (enc : TypeId × Value → H) :
    ReturnsInHanded {} Try.checked os 8 .any (Rows.fnOfPeerJoinSpec.pre6 enc Try.prog Try.f8 Rows.fnOfPeerJoinRow.domain false) (Rows.fnOfPeerJoinSpec.post enc Try.prog Try.f8 false true false false) := by
  refine returnsInHanded_of_change (C := Try.checked) own started (by kernel_rfl) Try.func8
    (ChangeSpec.witness6 (enc := enc) (C := Try.checked) false ⟨#[], #[.slice none 0 0, .slice none 0 0], []⟩ 8 (by kernel_rfl) (by kernel_rfl) (by kernel_rfl) (by kernel_rfl)) ?_
  intro W base args ds gs before hval0 hW _ _
  have hval : ∀ (j : Nat) t v, Try.f8.params[j]? = some t → args[j]? = some v → Value.okWide Try.prog W .any base t v := hval0
  have hW' := hW
  obtain ⟨p, q, hA0, hV, rfl, _, _⟩ := hW
  have hA : DataW.TrodAll enc Try.prog W 0 (fun _ => true) true Try.f8.params.toList args.toList ds p := hA0
  rw [Try.params8] at hA hval
  obtain ⟨v0, vs0, d0, ds0, p0, q0, hargs, rfl, rfl, h0, r0⟩ := trodAll_cons hA
  obtain ⟨v1, vs1, d1, ds1, p1, q1, rfl, rfl, rfl, h1, r1⟩ := trodAll_cons r0
  obtain ⟨rfl, rfl, rfl⟩ := trodAll_nil r1
  obtain rfl : args = #[v0, v1] := by cases args; simp_all
  obtain ⟨rfl, rfl⟩ := trodVars_none hV
  obtain ⟨a0, n0, c0, rfl⟩ := okWide_slice Try.underlying22 (hval 0 22 v0 rfl rfl)
  have lt0 : ∀ x ∈ p0, x.block < W.heap.size := by obtain ⟨m, hm⟩ := h0; exact DataW.trod_lt m _ _ _ hm
  have w0 : Bytes W a0 n0 c0 := bytes_open h0
  obtain ⟨a1, n1, c1, rfl⟩ := okWide_slice Try.underlying22 (hval 1 22 v1 rfl rfl)
  have lt1 : ∀ x ∈ p1, x.block < W.heap.size := by obtain ⟨m, hm⟩ := h1; exact DataW.trod_lt m _ _ _ hm
  have w1 : Bytes W a1 n1 c1 := bytes_open h1
  clear hA0 hval0
  refine (walk a0 n0 c0 a1 n1 c1 W w0 w1).mono fun e W' ⟨he, bel⟩ => ?_
  subst he
  exact ⟨_, rfl, _, _, _, [], _, [], hW', trodAll_mk1 (shut_bool Try.underlying4 _), (trodAll_cons_mk (Below.trod laidOut (by kernel_rfl) (of_decide_eq_true (by kernel_rfl)) h0 bel lt0) (trodAll_cons_mk (Below.trod laidOut (by kernel_rfl) (of_decide_eq_true (by kernel_rfl)) h1 bel lt1) trodAll_mk0)), rfl, bel.frame _, fun h => by cases h⟩
theorem over : Rows.fnOfPeerJoinRow.holds Try.pinned (OpenSpec.ofChange Rows.fnOfPeerJoinSpec) :=
  OpenClaim.holds_of_wide 8 Try.f8 rfl rfl rfl rfl rfl rfl rfl ⟨rfl, rfl, rfl, rfl, rfl⟩ rfl rfl rfl rfl rfl (by kernel_rfl) Try.func8 (by kernel_rfl)
    (of_decide_eq_true (by kernel_rfl)) (by unfold Func.isWrapper; first | (rw [if_pos (by decide +kernel)]; kernel_rfl) | (rw [if_neg (by decide +kernel)]; exact ⟨rfl, rfl⟩))
    (fun os started H enc _ => lifted os started H enc)
/-- the given statement -/
theorem proved : Rows.FnOfPeerJoinSaid := over
end Go.Proofs.Ytfpdmolbaioojaa.fnOfPeerJoin
