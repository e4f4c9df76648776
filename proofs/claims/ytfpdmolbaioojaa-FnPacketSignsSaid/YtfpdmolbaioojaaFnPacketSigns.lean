/-
  The law FnPacketSigns returns true at every argument: a text that is a packet has each of its three signs once. Conditions: none.
-/
import Derived.Test.YtfpdmolbaioojaaLift
import Derived.Test.YtfpdmolbaioojaaDrawText
import Derived.Test.YtfpdmolbaioojaaParseW
namespace Go.Proofs.Ytfpdmolbaioojaa.fnPacketSigns
open Go.ChangeShapes Go.WideShapes Go.ChangeAt Go.RowKit

def cnt (l : List UInt8) (c : UInt8) : Nat := (l.filter (fun x => x == c)).length
theorem cnt_append (a b : List UInt8) (c : UInt8) : cnt (a ++ b) c = cnt a c + cnt b c := by simp [cnt, List.filter_append]
theorem cnt_dig {l : List UInt8} {c : UInt8} (h : l.all dig = true) (hc : dig c = false) : cnt l c = 0 := by
  rw [cnt, List.length_eq_zero_iff, List.filter_eq_nil_iff]
  intro x hx he
  have h1 := List.all_eq_true.1 h x hx
  have h2 : x = c := by simpa using he
  rw [h2, hc] at h1
  cases h1
theorem digs_of {l : List UInt8} (h : numOk l = true) : l.all dig = true := by
  rw [numOk, Bool.and_eq_true] at h
  exact h.2
theorem cnt_one {s : ByteArray} (h : okT s = true) (c : UInt8) (hc : c = 47 ∨ c = 58 ∨ c = 35) : cnt s.data.toList c = 1 := by
  obtain ⟨f1, f2, f3⟩ := ok_found h
  simp only [okT, Bool.and_eq_true] at h
  obtain ⟨⟨⟨⟨ha, hb⟩, hc'⟩, hd⟩, _⟩ := h
  have e := cut_split f1
  rw [cut_split f2, cut_split f3] at e
  have hn : dig c = false := by rcases hc with rfl | rfl | rfl <;> rfl
  have a0 := cnt_dig (digs_of ha) hn
  have b0 := cnt_dig (digs_of hb) hn
  have c0 := cnt_dig (digs_of hc') hn
  have d0 := cnt_dig (digs_of hd) hn
  have one : ∀ (x : UInt8) (l : List UInt8), cnt (x :: l) c = (if x = c then 1 else 0) + cnt l c := by
    intro x l
    by_cases hx : x = c
    · simp [cnt, hx]; omega
    · simp [cnt, hx]
  have e2 : s.data.toList = (partsOf s).a.data.toList ++ 47 :: ((partsOf s).b.data.toList ++ 58 :: ((partsOf s).c.data.toList ++ 35 :: (partsOf s).d.data.toList)) := e
  rw [e2, cnt_append, one, cnt_append, one, cnt_append, one, a0, b0, c0, d0]
  rcases hc with rfl | rfl | rfl <;> decide
theorem cnt_take {s : ByteArray} {k : Nat} (h : k < s.size) (c : UInt8) : cnt (s.data.toList.take (k + 1)) c = cnt (s.data.toList.take k) c + (if s[k] = c then 1 else 0) := by
  rw [bytes_take s k h, cnt_append]
  by_cases hx : s[k] = c
  · simp [cnt, hx]
  · simp [cnt, hx]
theorem cnt_le (s : ByteArray) (k : Nat) (c : UInt8) (hk : k ≤ s.size) : cnt (s.data.toList.take k) c ≤ s.size := by
  have h1 : cnt (s.data.toList.take k) c ≤ (s.data.toList.take k).length := List.length_filter_le _ _
  rw [List.length_take, len_bytes] at h1
  omega
set_option maxHeartbeats 4000000 in
theorem walk (A : Option Addr) (n c : Nat) (w : World) (h : Bytes w A n c) :
    Calls Try.prog 7 #[.slice A n c] w fun e w' => e = .returned (.bool true) ∧ Below w.heap.size w w' := by
  have HB := Lib.hid h
  clear h
  by_cases hbig : n ≤ 1048576
  · go_enter Try.func7, Try.ntmps7
    go_wp2_with fail
    refine (drawParsePacket_any A n c _ HB.out).mono ?_
    rintro e w1 ⟨s, rfl, hs, hb1⟩
    have B1 := Lib.hid hb1
    clear hb1
    go_wp2_with fail
    refine (parseI_any s _ (by omega)).mono ?_
    rintro e w2 ⟨h2, hb2⟩
    have B2 := Lib.hid (below_seq B1.out hb2)
    clear hb2
    rcases h2 with ⟨hk, rfl⟩ | ⟨hk, rfl⟩
    · have HK := Lib.hid hk
      clear hk
      go_wp2_with fail
      refine (parseS_any s _ (by omega)).mono ?_
      rintro e w3 ⟨h3, hb3⟩
      rcases h3 with ⟨_, rfl⟩ | ⟨hk, rfl⟩
      · obtain ⟨q0, q1, q2, q3⟩ := (show PAt w3 w2.heap.size 0 (pktOf s) from pat_keep (pat_new w2 33 (pktOf s)) fun x => (bcell hb3).1 _ x (by simp))
        have hlt : w2.heap.size < w3.heap.size := by have := hb3.size; simp at this; omega
        have B3 := Lib.hid (B2.out.trans ((Below.alloc (Below.refl w.heap.size w2) B2.out.size _).trans (hb3.mono (by have := B2.out.size; simp; omega))))
        clear hb3
        generalize hp : pktOf s = p at q0 q1 q2 q3 ⊢
        have HP := Lib.hid hp
        clear hp
        go_wp2
        go_loop [49] (fun i => ∃ j : Nat, j ≤ 3 ∧ i = .int .i64 (j : Int)) (fun i => 3 - (intOf i).toNat)
        case atStart => exact ⟨0, by omega, rfl⟩
        case round =>
          obtain ⟨j, hj, rfl⟩ := hrel
          have hj4 : j = 0 ∨ j = 1 ∨ j = 2 ∨ j = 3 := by omega
          clear hj
          rcases hj4 with rfl | rfl | rfl | rfl
          · go_wp2
            go_loop [10, 11] (fun v i => ∃ k : Nat, k ≤ s.size ∧ i = .int .i64 (k : Int) ∧ v = .int .i64 ((cnt (s.data.toList.take k) 47 : Nat) : Int)) (fun _ i => s.size - (intOf i).toNat)
            case atStart => exact ⟨0, Nat.zero_le _, rfl, rfl⟩
            case round =>
              obtain ⟨k, hk, rfl, rfl⟩ := hrel
              by_cases hlt2 : k < s.size
              · have HC := Lib.hid (cnt_take hlt2 47)
                have hle := cnt_le s k 47 hk
                by_cases hc : s[k] = 47
                · have hcb : (((s[k].toNat : Nat) : Int) == 47) = true := by rw [hc]; rfl
                  have HE := Lib.hid hc
                  clear hc
                  go_wp2
                  go_round
                  case rel => exact ⟨k + 1, by omega, by go_num, by rw [HC.out, if_pos HE.out]; go_num⟩
                  case measure => simp [intOf]; omega
                · have hcb : (((s[k].toNat : Nat) : Int) == 47) = false := by
                    simp only [beq_eq_false_iff_ne]
                    intro he
                    exact hc (UInt8.toNat_inj.1 (by show s[k].toNat = 47; omega))
                  have HE := Lib.hid hc
                  clear hc
                  go_wp2
                  go_round
                  case rel => exact ⟨k + 1, by omega, by go_num, by rw [HC.out, if_neg HE.out, Nat.add_zero]⟩
                  case measure => simp [intOf]; omega
              · obtain rfl : k = s.size := by omega
                have hone : cnt (s.data.toList.take s.size) 47 = 1 := by
                  rw [List.take_of_length_le (by rw [len_bytes]; exact Nat.le_refl _)]
                  exact cnt_one HK.out 47 (by simp)
                rw [hone]
                clear hone
                go_wp2
                go_round
                case rel => exact ⟨1, by omega, rfl⟩
                case measure => simp [intOf]
          · go_wp2
            go_loop [10, 11] (fun v i => ∃ k : Nat, k ≤ s.size ∧ i = .int .i64 (k : Int) ∧ v = .int .i64 ((cnt (s.data.toList.take k) 58 : Nat) : Int)) (fun _ i => s.size - (intOf i).toNat)
            case atStart => exact ⟨0, Nat.zero_le _, rfl, rfl⟩
            case round =>
              obtain ⟨k, hk, rfl, rfl⟩ := hrel
              by_cases hlt2 : k < s.size
              · have HC := Lib.hid (cnt_take hlt2 58)
                have hle := cnt_le s k 58 hk
                by_cases hc : s[k] = 58
                · have hcb : (((s[k].toNat : Nat) : Int) == 58) = true := by rw [hc]; rfl
                  have HE := Lib.hid hc
                  clear hc
                  go_wp2
                  go_round
                  case rel => exact ⟨k + 1, by omega, by go_num, by rw [HC.out, if_pos HE.out]; go_num⟩
                  case measure => simp [intOf]; omega
                · have hcb : (((s[k].toNat : Nat) : Int) == 58) = false := by
                    simp only [beq_eq_false_iff_ne]
                    intro he
                    exact hc (UInt8.toNat_inj.1 (by show s[k].toNat = 58; omega))
                  have HE := Lib.hid hc
                  clear hc
                  go_wp2
                  go_round
                  case rel => exact ⟨k + 1, by omega, by go_num, by rw [HC.out, if_neg HE.out, Nat.add_zero]⟩
                  case measure => simp [intOf]; omega
              · obtain rfl : k = s.size := by omega
                have hone : cnt (s.data.toList.take s.size) 58 = 1 := by
                  rw [List.take_of_length_le (by rw [len_bytes]; exact Nat.le_refl _)]
                  exact cnt_one HK.out 58 (by simp)
                rw [hone]
                clear hone
                go_wp2
                go_round
                case rel => exact ⟨2, by omega, rfl⟩
                case measure => simp [intOf]
          · go_wp2
            go_loop [10, 11] (fun v i => ∃ k : Nat, k ≤ s.size ∧ i = .int .i64 (k : Int) ∧ v = .int .i64 ((cnt (s.data.toList.take k) 35 : Nat) : Int)) (fun _ i => s.size - (intOf i).toNat)
            case atStart => exact ⟨0, Nat.zero_le _, rfl, rfl⟩
            case round =>
              obtain ⟨k, hk, rfl, rfl⟩ := hrel
              by_cases hlt2 : k < s.size
              · have HC := Lib.hid (cnt_take hlt2 35)
                have hle := cnt_le s k 35 hk
                by_cases hc : s[k] = 35
                · have hcb : (((s[k].toNat : Nat) : Int) == 35) = true := by rw [hc]; rfl
                  have HE := Lib.hid hc
                  clear hc
                  go_wp2
                  go_round
                  case rel => exact ⟨k + 1, by omega, by go_num, by rw [HC.out, if_pos HE.out]; go_num⟩
                  case measure => simp [intOf]; omega
                · have hcb : (((s[k].toNat : Nat) : Int) == 35) = false := by
                    simp only [beq_eq_false_iff_ne]
                    intro he
                    exact hc (UInt8.toNat_inj.1 (by show s[k].toNat = 35; omega))
                  have HE := Lib.hid hc
                  clear hc
                  go_wp2
                  go_round
                  case rel => exact ⟨k + 1, by omega, by go_num, by rw [HC.out, if_neg HE.out, Nat.add_zero]⟩
                  case measure => simp [intOf]; omega
              · obtain rfl : k = s.size := by omega
                have hone : cnt (s.data.toList.take s.size) 35 = 1 := by
                  rw [List.take_of_length_le (by rw [len_bytes]; exact Nat.le_refl _)]
                  exact cnt_one HK.out 35 (by simp)
                rw [hone]
                clear hone
                go_wp2
                go_round
                case rel => exact ⟨3, by omega, rfl⟩
                case measure => simp [intOf]
          · go_wp2_with fail
            refine (vldI_any p _).mono ?_
            rintro e w4 ⟨rfl, hb4⟩
            have hv : vldB p = true := by
              have := HK.out
              simp only [okT, Bool.and_eq_true] at this
              rw [← HP.out]; exact this.2
            rw [hv]
            have B4 := Lib.hid (B3.out.trans ((((Below.refl w.heap.size w3).alloc B3.out.size _).alloc (by have := B3.out.size; simp; omega) _).trans (hb4.mono (by have := B3.out.size; simp; omega))))
            clear hb4 hv
            go_wp2
            go_ret
            exact ⟨rfl, B4.out⟩
      · rw [HK.out] at hk; cases hk
    · have HK := Lib.hid hk
      clear hk
      go_wp2_with fail
      refine (parseS_any s _ (by omega)).mono ?_
      rintro e w3 ⟨h3, hb3⟩
      rcases h3 with ⟨hk, rfl⟩ | ⟨_, rfl⟩
      · rw [HK.out] at hk; cases hk
      · obtain ⟨q0, q1, q2, q3⟩ := (show PAt w3 w2.heap.size 0 (⟨0, 0, 0, 0⟩ : Pkt) from pat_keep (pat_new w2 33 (⟨0, 0, 0, 0⟩ : Pkt)) fun x => (bcell hb3).1 _ x (by simp))
        have hlt : w2.heap.size < w3.heap.size := by have := hb3.size; simp at this; omega
        have B3 := Lib.hid (B2.out.trans ((Below.alloc (Below.refl w.heap.size w2) B2.out.size _).trans (hb3.mono (by have := B2.out.size; simp; omega))))
        clear hb3
        go_wp2
        go_ret
        exact ⟨rfl, B3.out.alloc B3.out.size _⟩
  · go_enter Try.func7, Try.ntmps7
    go_wp2
    go_ret
    exact ⟨rfl, Below.refl _ _⟩
theorem own : ownKnob Try.prog.godebug = none := by kernel_rfl
theorem laidOut : laidOutB Try.prog = true := by kernel_rfl
set_option maxRecDepth 100000 in
theorem lifted (os : Os) (started : os.Started) (H : Type) (enc : TypeId × Value → H) :
    ReturnsInHanded {} Try.checked os 7 .any (Rows.fnPacketSignsSpec.pre6 enc Try.prog Try.f7 Rows.fnPacketSignsRow.domain false) (Rows.fnPacketSignsSpec.post enc Try.prog Try.f7 false true false false) := by
  refine returnsInHanded_of_change (C := Try.checked) own started (by kernel_rfl) Try.func7
    (ChangeSpec.witness6 (enc := enc) (C := Try.checked) false ⟨#[], #[.slice none 0 0], []⟩ 8 (by kernel_rfl) (by kernel_rfl) (by kernel_rfl) (by kernel_rfl)) ?_
  intro W base args ds gs before hval0 hW _ _
  have hval : ∀ (j : Nat) t v, Try.f7.params[j]? = some t → args[j]? = some v → Value.okWide Try.prog W .any base t v := hval0
  have hW' := hW
  obtain ⟨p, q, hA0, hV, rfl, _, _⟩ := hW
  have hA : DataW.TrodAll enc Try.prog W 0 (fun _ => true) true Try.f7.params.toList args.toList ds p := hA0
  rw [Try.params7] at hA hval
  obtain ⟨v0, vs0, d0, ds0, p0, q0, hargs, rfl, rfl, h0, r0⟩ := trodAll_cons hA
  obtain ⟨rfl, rfl, rfl⟩ := trodAll_nil r0
  obtain rfl : args = #[v0] := by cases args; simp_all
  obtain ⟨rfl, rfl⟩ := trodVars_none hV
  have lt0 : ∀ x ∈ p0, x.block < W.heap.size := by obtain ⟨m, hm⟩ := h0; exact DataW.trod_lt m _ _ _ hm
  obtain ⟨a0, n0, c0, rfl⟩ := okWide_slice Try.underlying22 (hval 0 22 v0 rfl rfl)
  have w0 : Bytes W a0 n0 c0 := bytes_open h0
  clear hA0 hval0
  refine (walk a0 n0 c0 W w0).mono fun e W' ⟨he, bel⟩ => ?_
  subst he
  exact ⟨_, rfl, _, _, _, [], _, [], hW', trodAll_mk1 (shut_bool Try.underlying4 _), (trodAll_cons_mk (Below.trod laidOut (by kernel_rfl) (of_decide_eq_true (by kernel_rfl)) h0 bel lt0) trodAll_mk0), rfl, bel.frame _, fun h => by cases h⟩
theorem over : Rows.fnPacketSignsRow.holds Try.pinned (OpenSpec.ofChange Rows.fnPacketSignsSpec) :=
  OpenClaim.holds_of_wide 7 Try.f7 rfl rfl rfl rfl rfl rfl rfl ⟨rfl, rfl, rfl, rfl, rfl⟩ rfl rfl rfl rfl rfl (by kernel_rfl) Try.func7 (by kernel_rfl)
    (of_decide_eq_true (by kernel_rfl)) (by unfold Func.isWrapper; first | (rw [if_pos (by decide +kernel)]; kernel_rfl) | (rw [if_neg (by decide +kernel)]; exact ⟨rfl, rfl⟩))
    (fun os started H enc _ => lifted os started H enc)
/-- the given statement -/
theorem proved : Rows.FnPacketSignsSaid := over
end Go.Proofs.Ytfpdmolbaioojaa.fnPacketSigns
