/-
  The law FnExactParsePacket returns true at every argument: the program's ParsePacket answers as the model's. Conditions: none.
-/
import Derived.Test.YtfpdmolbaioojabParseW
import Derived.Test.YtfpdmolbaioojabEx1
namespace Go.Proofs.Ytfpdmolbaioojab.fnExactParsePacket
open Go.ChangeShapes Go.WideShapes Go.ChangeAt Go.RowKit
open Go.ChangeMaps (open_string shut_string)
set_option maxHeartbeats 2000000 in
theorem walk (s : ByteArray) (w : World) (hs : s.size ≤ maxLen) :
    Calls Try.prog 3 #[.string s] w fun e w' => e = .returned (.bool true) ∧ Below w.heap.size w w' := by
  have hs' : s.size ≤ 9223372036854775807 := by unfold maxLen at hs; omega
  clear hs
  by_cases hbig : s.size ≤ 1048576
  · go_enter Try.func3, Try.ntmps3
    go_wp2_with fail
    refine (parseS_any s _ hs').mono ?_
    rintro e w1 ⟨h1, hb1⟩
    have B1 := Lib.hid hb1
    clear hb1
    rcases h1 with ⟨hk, rfl⟩ | ⟨hk, rfl⟩
    · have HK := Lib.hid hk
      clear hk
      go_wp2_with fail
      refine (parseI_any s _ hs').mono ?_
      rintro e w2 ⟨h2, hb2⟩
      rcases h2 with ⟨_, rfl⟩ | ⟨hk, rfl⟩
      · have hpt : PAt w2 w1.heap.size 0 (pktOf s) := pat_keep (pat_new w1 23 (pktOf s)) fun x => (bcell hb2).1 _ x (by simp)
        have hlt : w1.heap.size < w2.heap.size := by have := hb2.size; simp at this; omega
        have B2 := Lib.hid (B1.out.trans ((Below.alloc (Below.refl w.heap.size w1) B1.out.size _).trans (hb2.mono (by have := B1.out.size; simp; omega))))
        obtain ⟨q0, q1, q2, q3⟩ := hpt
        clear hb2
        go_wp2_with fail
        refine (eqPacket_any (pktOf s) (pktOf s) _).mono ?_
        rintro e w3 ⟨rfl, hb3⟩
        rw [← pktB_yes rfl]
        have B3 := Lib.hid (B2.out.trans ((Below.alloc (Below.refl w.heap.size w2) B2.out.size _).trans (hb3.mono (by have := B2.out.size; simp; omega))))
        clear hb3
        go_wp2
        go_ret
        exact ⟨rfl, B3.out⟩
      · rw [HK.out] at hk; cases hk
    · have HK := Lib.hid hk
      clear hk
      go_wp2_with fail
      refine (parseI_any s _ hs').mono ?_
      rintro e w2 ⟨h2, hb2⟩
      rcases h2 with ⟨hk, rfl⟩ | ⟨_, rfl⟩
      · rw [HK.out] at hk; cases hk
      · have hpt : PAt w2 w1.heap.size 0 (⟨0, 0, 0, 0⟩ : Pkt) := pat_keep (pat_new w1 23 (⟨0, 0, 0, 0⟩ : Pkt)) fun x => (bcell hb2).1 _ x (by simp)
        have hlt : w1.heap.size < w2.heap.size := by have := hb2.size; simp at this; omega
        have B2 := Lib.hid (B1.out.trans ((Below.alloc (Below.refl w.heap.size w1) B1.out.size _).trans (hb2.mono (by have := B1.out.size; simp; omega))))
        obtain ⟨q0, q1, q2, q3⟩ := hpt
        clear hb2
        go_wp2_with fail
        refine (eqPacket_any (⟨0, 0, 0, 0⟩ : Pkt) (⟨0, 0, 0, 0⟩ : Pkt) _).mono ?_
        rintro e w3 ⟨rfl, hb3⟩
        rw [← pktB_yes rfl]
        have B3 := Lib.hid (B2.out.trans ((Below.alloc (Below.refl w.heap.size w2) B2.out.size _).trans (hb3.mono (by have := B2.out.size; simp; omega))))
        clear hb3
        go_wp2
        go_ret
        exact ⟨rfl, B3.out⟩
  · go_enter Try.func3, Try.ntmps3
    go_wp2
    go_ret
    exact ⟨rfl, Below.refl _ _⟩
theorem own : ownKnob Try.prog.godebug = none := by kernel_rfl
theorem laidOut : laidOutB Try.prog = true := by kernel_rfl
set_option maxRecDepth 100000 in
theorem lifted (os : Os) (started : os.Started) (H : Type) (enc : TypeId × Value → H) :
    ReturnsInHanded {} Try.checked os 3 .any (Rows.fnExactParsePacketSpec.pre6 enc Try.prog Try.f3 Rows.fnExactParsePacketRow.domain false) (Rows.fnExactParsePacketSpec.post enc Try.prog Try.f3 false true false false) := by
  refine returnsInHanded_of_change (C := Try.checked) own started (by kernel_rfl) Try.func3
    (ChangeSpec.witness6 (enc := enc) (C := Try.checked) false ⟨#[], #[.string .empty], []⟩ 8 (by kernel_rfl) (by kernel_rfl) (by kernel_rfl) (by kernel_rfl)) ?_
  intro W base args ds gs before hval0 hW _ _
  have hval : ∀ (j : Nat) t v, Try.f3.params[j]? = some t → args[j]? = some v → Value.okWide Try.prog W .any base t v := hval0
  have hW' := hW
  obtain ⟨p, q, hA0, hV, rfl, _, _⟩ := hW
  have hA : DataW.TrodAll enc Try.prog W 0 (fun _ => true) true Try.f3.params.toList args.toList ds p := hA0
  rw [Try.params3] at hA hval
  obtain ⟨v0, vs0, d0, ds0, p0, q0, hargs, rfl, rfl, h0, r0⟩ := trodAll_cons hA
  obtain ⟨rfl, rfl, rfl⟩ := trodAll_nil r0
  obtain rfl : args = #[v0] := by cases args; simp_all
  obtain ⟨rfl, rfl⟩ := trodVars_none hV
  obtain ⟨x0, rfl, rfl, rfl, w0⟩ := open_string Try.underlying9 (hval 0 9 v0 rfl rfl) h0
  clear hA0 hval0
  refine (walk x0 W w0).mono fun e W' ⟨he, bel⟩ => ?_
  subst he
  exact ⟨_, rfl, _, _, _, [], _, [], hW', trodAll_mk1 (shut_bool Try.underlying4 _), (trodAll_cons_mk (shut_string Try.underlying9 w0) trodAll_mk0), rfl, bel.frame _, fun h => by cases h⟩
theorem over : Rows.fnExactParsePacketRow.holds Try.pinned (OpenSpec.ofChange Rows.fnExactParsePacketSpec) :=
  OpenClaim.holds_of_wide 3 Try.f3 rfl rfl rfl rfl rfl rfl rfl ⟨rfl, rfl, rfl, rfl, rfl⟩ rfl rfl rfl rfl rfl (by kernel_rfl) Try.func3 (by kernel_rfl)
    (of_decide_eq_true (by kernel_rfl)) (by unfold Func.isWrapper; first | (rw [if_pos (by decide +kernel)]; kernel_rfl) | (rw [if_neg (by decide +kernel)]; exact ⟨rfl, rfl⟩))
    (fun os started H enc _ => lifted os started H enc)
/-- the given statement -/
theorem proved : Rows.FnExactParsePacketSaid := over
end Go.Proofs.Ytfpdmolbaioojab.fnExactParsePacket
