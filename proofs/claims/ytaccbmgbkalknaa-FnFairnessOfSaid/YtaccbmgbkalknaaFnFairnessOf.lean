/-
  The law FnFairnessOf returns true at every argument: fairness is 1000 exactly for equal shares, and does not depend on their order. Conditions: none.
-/
import Derived.Test.YtaccbmgbkalknaaLift
import Derived.Test.YtaccbmgbkalknaaYd
import Derived.Test.YtaccbmgbkalknaaYL
import Derived.Test.YtaccbmgbkalknaaMay
import Derived.Test.YtaccbmgbkalknaaLifts
import Derived.Test.YtaccbmgbkalknaaMake
namespace Go.Proofs.Ytaccbmgbkalknaa.fnFairnessOf
open Go.ChangeShapes Go.WideShapes Go.ChangeAt Go.RowKit

def allEq (x0 : Int) (us : List Int) : Bool := us.all (fun y => y == x0)
theorem allEq_step {us : List Int} {k : Nat} {x x0 : Int} (hx : us[k]? = some x) : allEq x0 (us.take (k + 1)) = (allEq x0 (us.take k) && (x == x0)) := by
  rw [List.take_add_one, hx, allEq, List.all_append]; simp [allEq]
theorem allEq_iff {x0 : Int} {us : List Int} (h0 : 0 < us.length → us[0]? = some x0) : allEq x0 us = true ↔ ∃ x, ∀ y ∈ us, y = x := by
  simp only [allEq, List.all_eq_true, beq_iff_eq]
  constructor
  · exact fun h => ⟨x0, h⟩
  · rintro ⟨x, h⟩ y hy
    have hl : 0 < us.length := List.length_pos_of_mem hy
    rw [h y hy, h x0 (List.mem_of_getElem? (h0 hl))]
theorem fr_flag {x0 : Int} {us : List Int} (h0 : 0 < us.length → us[0]? = some x0) : (frN us == 1000) = allEq x0 us := by
  rw [Bool.eq_iff_iff, beq_iff_eq, fr_eq, allEq_iff h0]
theorem rev_get {us : List Int} {k : Nat} {x : Int} (hk : k < us.length) (hx : us[us.length - 1 - k]? = some x) : us.reverse.take (k + 1) = us.reverse.take k ++ [x] := by
  rw [List.take_add_one, List.getElem?_reverse hk, hx]; rfl
theorem sh_rev {us : List Int} (h : shB us = true) : shB us.reverse = true := by
  obtain ⟨h1, h2⟩ := sh_of h
  exact sh_mk (by rw [List.length_reverse]; exact h1) fun x hx => h2 x (List.mem_reverse.1 hx)
def RvRel (w : World) (n : Nat) (us : List Int) (x0 : Int) (e v i : Value) (wr : World) : Prop :=
  ∃ (k : Nat) (A : Option Addr) (c : Nat), k ≤ n ∧ i = .int .i64 (k : Int) ∧ v = .slice A k c ∧ e = .bool (allEq x0 (us.take k)) ∧ Below w.heap.size w wr ∧ wr.ownsRow w.heap.size 3 1 (.slice A k c) k (icells (us.reverse.take k))
set_option maxHeartbeats 8000000 in
theorem walk (A : Option Addr) (n c : Nat) (w : World) (h : Bytes w A n c) :
    Calls Try.prog 5 #[.slice A n c] w fun e w' => e = .returned (.bool true) ∧ Below w.heap.size w w' := by
  have HB := Lib.hid h
  clear h
  by_cases hbig : ¬ n ≤ 1048576
  · go_enter Try.func5, Try.ntmps5
    go_wp2
    go_ret
    exact ⟨rfl, Below.refl _ _⟩
  have hbig' : n ≤ 1048576 := by omega
  clear hbig
  go_enter Try.func5, Try.ntmps5
  go_wp2_with fail
  refine (drawFair_any A n c _ HB.out).mono ?_
  rintro e w1 ⟨A1, n1, c1, us, rfl, hn9, hnc, hcm, hr, hb⟩
  obtain ⟨hc1, hf1⟩ := bcell hb
  have B1 := Lib.hid (show Below w.heap.size w w1 from (by first | exact below_seq (Below.refl w.heap.size w) hb | exact below_seq1 (Below.refl w.heap.size w) hb | exact below_seq2 (Below.refl w.heap.size w) hb | exact below_seq3 (Below.refl w.heap.size w) hb | exact below_seq4 (Below.refl w.heap.size w) hb))
  have R1 := Lib.hid hb
  have hz1 := hb.size
  try simp at hz1
  clear hb
  have Q1 := Lib.hid hr
  have OLD := Lib.hid (nr_old hr)
  clear hr
  obtain ⟨F, hF⟩ : ∃ F, frV us = F := ⟨_, rfl⟩
  have HFV := Lib.hid hF
  rcases hk : shB us with _ | _
  · have HK := Lib.hid hk
    obtain rfl : F = 0 := by rw [← hF, frV, hk]; rfl
    clear hk hF
    go_wp2_with fail
    refine (frI_any A1 n1 c1 us 0 false _ Q1.out (by omega) HFV.out HK.out).mono ?_
    rintro e w2 ⟨rfl, hb⟩
    obtain ⟨hc2, hf2⟩ := bcell hb
    have B2 := Lib.hid (show Below w.heap.size w w2 from (by first | exact below_seq B1.out hb | exact below_seq1 B1.out hb | exact below_seq2 B1.out hb | exact below_seq3 B1.out hb | exact below_seq4 B1.out hb))
    have R2 := Lib.hid hb
    have hz2 := hb.size
    try simp at hz2
    clear hb
    try have y20 : w.heap.size < w2.heap.size := by omega
    try have y20a : w.heap.size + 1 < w2.heap.size := by omega
    try have y20b : w.heap.size < w2.heap.size + 1 + 1 := by omega
    try have y20c : w.heap.size + 1 < w2.heap.size + 1 + 1 := by omega
    try have y21 : w1.heap.size < w2.heap.size := by omega
    try have y21a : w1.heap.size + 1 < w2.heap.size := by omega
    try have y21b : w1.heap.size < w2.heap.size + 1 + 1 := by omega
    try have y21c : w1.heap.size + 1 < w2.heap.size + 1 + 1 := by omega
    have Q2 := Lib.hid (nr_below Q1.out R2.out)
    go_wp2_with fail
    refine (frS_any A1 n1 c1 us 0 false _ Q2.out (by omega) HFV.out HK.out).mono ?_
    rintro e w3 ⟨rfl, hb⟩
    obtain ⟨hc3, hf3⟩ := bcell hb
    have B3 := Lib.hid (show Below w.heap.size w w3 from (by first | exact below_seq B2.out hb | exact below_seq1 B2.out hb | exact below_seq2 B2.out hb | exact below_seq3 B2.out hb | exact below_seq4 B2.out hb))
    have R3 := Lib.hid hb
    have hz3 := hb.size
    try simp at hz3
    clear hb
    try have y30 : w.heap.size < w3.heap.size := by omega
    try have y30a : w.heap.size + 1 < w3.heap.size := by omega
    try have y30b : w.heap.size < w3.heap.size + 1 + 1 := by omega
    try have y30c : w.heap.size + 1 < w3.heap.size + 1 + 1 := by omega
    try have y31 : w1.heap.size < w3.heap.size := by omega
    try have y31a : w1.heap.size + 1 < w3.heap.size := by omega
    try have y31b : w1.heap.size < w3.heap.size + 1 + 1 := by omega
    try have y31c : w1.heap.size + 1 < w3.heap.size + 1 + 1 := by omega
    try have y32 : w2.heap.size < w3.heap.size := by omega
    try have y32a : w2.heap.size + 1 < w3.heap.size := by omega
    try have y32b : w2.heap.size < w3.heap.size + 1 + 1 := by omega
    try have y32c : w2.heap.size + 1 < w3.heap.size + 1 + 1 := by omega
    go_wp2
    all_goals
      go_ret
      refine ⟨rfl, ?_⟩
      repeat refine below_alloc ?_ _
      exact B3.out
  · have HK := Lib.hid hk
    have HF : Hid (F = frN us) := Lib.hid (by rw [← hF, frV, hk]; rfl)
    have HV := Lib.hid (sh_of hk).2
    clear hk hF
    go_wp2_with fail
    refine (frI_any A1 n1 c1 us F true _ Q1.out (by omega) HFV.out HK.out).mono ?_
    rintro e w2 ⟨rfl, hb⟩
    obtain ⟨hc2, hf2⟩ := bcell hb
    have B2 := Lib.hid (show Below w.heap.size w w2 from (by first | exact below_seq B1.out hb | exact below_seq1 B1.out hb | exact below_seq2 B1.out hb | exact below_seq3 B1.out hb | exact below_seq4 B1.out hb))
    have R2 := Lib.hid hb
    have hz2 := hb.size
    try simp at hz2
    clear hb
    try have y20 : w.heap.size < w2.heap.size := by omega
    try have y20a : w.heap.size + 1 < w2.heap.size := by omega
    try have y20b : w.heap.size < w2.heap.size + 1 + 1 := by omega
    try have y20c : w.heap.size + 1 < w2.heap.size + 1 + 1 := by omega
    try have y21 : w1.heap.size < w2.heap.size := by omega
    try have y21a : w1.heap.size + 1 < w2.heap.size := by omega
    try have y21b : w1.heap.size < w2.heap.size + 1 + 1 := by omega
    try have y21c : w1.heap.size + 1 < w2.heap.size + 1 + 1 := by omega
    have Q2 := Lib.hid (nr_below Q1.out R2.out)
    go_wp2_with fail
    refine (frS_any A1 n1 c1 us F true _ Q2.out (by omega) HFV.out HK.out).mono ?_
    rintro e w3 ⟨rfl, hb⟩
    obtain ⟨hc3, hf3⟩ := bcell hb
    have B3 := Lib.hid (show Below w.heap.size w w3 from (by first | exact below_seq B2.out hb | exact below_seq1 B2.out hb | exact below_seq2 B2.out hb | exact below_seq3 B2.out hb | exact below_seq4 B2.out hb))
    have R3 := Lib.hid hb
    have hz3 := hb.size
    try simp at hz3
    clear hb
    try have y30 : w.heap.size < w3.heap.size := by omega
    try have y30a : w.heap.size + 1 < w3.heap.size := by omega
    try have y30b : w.heap.size < w3.heap.size + 1 + 1 := by omega
    try have y30c : w.heap.size + 1 < w3.heap.size + 1 + 1 := by omega
    try have y31 : w1.heap.size < w3.heap.size := by omega
    try have y31a : w1.heap.size + 1 < w3.heap.size := by omega
    try have y31b : w1.heap.size < w3.heap.size + 1 + 1 := by omega
    try have y31c : w1.heap.size + 1 < w3.heap.size + 1 + 1 := by omega
    try have y32 : w2.heap.size < w3.heap.size := by omega
    try have y32a : w2.heap.size + 1 < w3.heap.size := by omega
    try have y32b : w2.heap.size < w3.heap.size + 1 + 1 := by omega
    try have y32c : w2.heap.size + 1 < w3.heap.size + 1 + 1 := by omega
    have Q3 := Lib.hid (nr_below Q2.out R3.out)
    obtain ⟨x0, hx0⟩ : ∃ x0 : Int, 0 < us.length → us[0]? = some x0 := by
      rcases us with _ | ⟨a, r⟩
      · exact ⟨0, fun h => by simp at h⟩
      · exact ⟨a, fun _ => rfl⟩
    have HX0 := Lib.hid hx0
    have R0 : Hid (RvRel w3 n1 us x0 (.bool true) (.slice (some ⟨w3.heap.size, 0, none⟩) 0 0) (.int .i64 0) (w3.alloc (.cells #[] 3))) := Lib.hid ⟨0, _, 0, Nat.zero_le _, rfl, rfl, rfl, below_alloc (Below.refl _ _) _, own_emptyI rfl⟩
    clear hx0
    go_wp2
    go_loopw [8, 9, 10] (fun e v i wr => RvRel w3 n1 us x0 e v i wr) (fun _ _ i _ => n1 - (intOf i).toNat)
    case atStart => exact R0.out
    case round =>
      obtain ⟨k, A2, c2, hk, rfl, rfl, rfl, hbl, ho⟩ := hrel
      clear R0
      have HO := Lib.hid ho
      have HBL := Lib.hid hbl
      have zb := hbl.size
      by_cases hlt : k < n1
      · obtain ⟨b, off, x, rfl, hbb, hx, c0⟩ := nr_at (nr_below Q3.out hbl) hlt
        obtain ⟨b2, off2, y, e2, hb2, hy, d0⟩ := nr_at (k := 0) (nr_below Q3.out hbl) (by omega)
        obtain ⟨rfl, rfl⟩ : b = b2 ∧ off = off2 := by injection e2 with e1; injection e1 with a b; exact ⟨a, b⟩
        obtain rfl : y = x0 := by have := HX0.out (by have := Q1.out.1; omega); rw [this] at hy; exact (Option.some.inj hy).symm
        obtain ⟨m, hm⟩ : ∃ m, n1 - 1 - k = m := ⟨_, rfl⟩
        obtain ⟨b3, off3, z, e3, hb3, hz, f0⟩ := nr_at (k := m) (nr_below Q3.out hbl) (by omega)
        obtain ⟨rfl, rfl⟩ : b = b3 ∧ off = off3 := by injection e3 with e1; injection e1 with a b; exact ⟨a, b⟩
        rw [Nat.add_zero] at d0
        have HX := Lib.hid hx
        have HZ := Lib.hid (rev_get (us := us) (k := k) (x := z) (by have := Q1.out.1; omega) (by rw [Q1.out.1, hm]; exact hz))
        have k1 : (k : Int) < (n1 : Int) := by omega
        have k0 : (0 : Int) ≤ (k : Int) := by omega
        have m0 : (n1 : Int) - 1 - (k : Int) = (m : Int) := by omega
        have m1 : (m : Int) < (n1 : Int) := by omega
        have m2 : (0 : Int) ≤ (m : Int) := by omega
        have n0 : (0 : Int) < (n1 : Int) := by omega
        clear hbl ho hx e2 hy e3 hz
        rcases he : allEq y (us.take k) with _ | _
        · have HE : Hid (allEq y (us.take (k + 1)) = false) := Lib.hid (by rw [allEq_step HX.out, he]; rfl)
          clear he
          go_wp2_with fail
          go_quiet (fail)
          go_wp2_with (at_builtin
                       refine wpl_app_ints _ rfl (.tmp 70) (.tmp 79) rfl w3.heap.size (.slice A2 k c2) k (us.reverse.take k) rfl (World.ownsRow.alloc (own_below HO.out (below_drewN (Below.refl _ _) nq)) _) (some ⟨wr.heap.size, 0, none⟩) 1 1 [z] rfl (int_single (blk_at (by simp) _ _)) (by omega) (by simp; omega) ?_
                       intro v7 w7 ho7 hg7 hat7
                       obtain ⟨A7, c7, rfl, -, -, -⟩ := own_form ho7
                       have D7 : Hid (Below w3.heap.size w3 w7 ∧ w7.ownsRow w3.heap.size 3 1 (.slice A7 (k + 1) c7) (k + 1) (icells (us.reverse.take (k + 1)))) := Lib.hid ⟨app_belowG (World.ownsRow.alloc (own_below HO.out (below_drewN (Below.refl _ _) nq)) _) (below_alloc (below_drewN HBL.out nq) _) hg7 (by simp; omega), by rw [HZ.out]; exact ho7⟩
                       clear ho7 hg7 hat7)
          go_roundw
          case rel => exact ⟨k + 1, A7, c7, by omega, by go_num, rfl, by rw [HE.out], D7.out.1, D7.out.2⟩
          case measure => simp [intOf]; omega
        · obtain ⟨q, hq⟩ : ∃ q, (x == y) = q := ⟨_, rfl⟩
          have HE : Hid (allEq y (us.take (k + 1)) = q) := Lib.hid (by rw [allEq_step HX.out, he, hq]; rfl)
          clear he
          rcases q with _ | _
          · go_wp2_with fail
            go_quiet (fail)
            go_wp2_with (at_builtin
                         refine wpl_app_ints _ rfl (.tmp 70) (.tmp 79) rfl w3.heap.size (.slice A2 k c2) k (us.reverse.take k) rfl (World.ownsRow.alloc (own_below HO.out (below_drewN (Below.refl _ _) nq)) _) (some ⟨wr.heap.size, 0, none⟩) 1 1 [z] rfl (int_single (blk_at (by simp) _ _)) (by omega) (by simp; omega) ?_
                         intro v7 w7 ho7 hg7 hat7
                         obtain ⟨A7, c7, rfl, -, -, -⟩ := own_form ho7
                         have D7 : Hid (Below w3.heap.size w3 w7 ∧ w7.ownsRow w3.heap.size 3 1 (.slice A7 (k + 1) c7) (k + 1) (icells (us.reverse.take (k + 1)))) := Lib.hid ⟨app_belowG (World.ownsRow.alloc (own_below HO.out (below_drewN (Below.refl _ _) nq)) _) (below_alloc (below_drewN HBL.out nq) _) hg7 (by simp; omega), by rw [HZ.out]; exact ho7⟩
                         clear ho7 hg7 hat7)
            go_roundw
            case rel => exact ⟨k + 1, A7, c7, by omega, by go_num, rfl, by rw [HE.out], D7.out.1, D7.out.2⟩
            case measure => simp [intOf]; omega
          · go_wp2_with fail
            go_quiet (fail)
            go_wp2_with (at_builtin
                         refine wpl_app_ints _ rfl (.tmp 70) (.tmp 79) rfl w3.heap.size (.slice A2 k c2) k (us.reverse.take k) rfl (World.ownsRow.alloc (own_below HO.out (below_drewN (Below.refl _ _) nq)) _) (some ⟨wr.heap.size, 0, none⟩) 1 1 [z] rfl (int_single (blk_at (by simp) _ _)) (by omega) (by simp; omega) ?_
                         intro v7 w7 ho7 hg7 hat7
                         obtain ⟨A7, c7, rfl, -, -, -⟩ := own_form ho7
                         have D7 : Hid (Below w3.heap.size w3 w7 ∧ w7.ownsRow w3.heap.size 3 1 (.slice A7 (k + 1) c7) (k + 1) (icells (us.reverse.take (k + 1)))) := Lib.hid ⟨app_belowG (World.ownsRow.alloc (own_below HO.out (below_drewN (Below.refl _ _) nq)) _) (below_alloc (below_drewN HBL.out nq) _) hg7 (by simp; omega), by rw [HZ.out]; exact ho7⟩
                         clear ho7 hg7 hat7)
            go_roundw
            case rel => exact ⟨k + 1, A7, c7, by omega, by go_num, rfl, by rw [HE.out], D7.out.1, D7.out.2⟩
            case measure => simp [intOf]; omega
      · obtain rfl : k = n1 := by omega
        have HT : Hid (us.reverse.take k = us.reverse) := Lib.hid (List.take_of_length_le (by rw [List.length_reverse]; have := Q1.out.1; omega))
        have HE : Hid (allEq x0 (us.take k) = allEq x0 us) := Lib.hid (by rw [List.take_of_length_le (by have := Q1.out.1; omega)])
        rw [HE.out]
        have N4 := Lib.hid (nr_own HO.out)
        rw [HT.out] at N4
        have BW := Lib.hid (below_seq B3.out HBL.out)
        clear hbl ho HO HBL
        have HG : Hid (frV us.reverse = F) := Lib.hid (by rw [frV, sh_rev HK.out, if_pos rfl, fr_rev, HF.out])
        obtain ⟨f0, f1⟩ := fr_bd us
        rw [← HF.out] at f0 f1
        obtain ⟨E, hE⟩ : ∃ E, allEq x0 us = E := ⟨_, rfl⟩
        have hfe : (F == 1000) = E := by rw [HF.out, fr_flag HX0.out, hE]
        rw [hE]
        have HLOW : Hid (0 < k → (1000 : Int).tdiv (k : Int) ≤ F) := Lib.hid (fun h => by
          have := fr_low (l := us) (fun x hx => (HV.out x hx).1) (by rintro rfl; have := Q1.out.1; simp at this; omega)
          rw [Q1.out.1] at this
          rw [HF.out, Int.tdiv_eq_ediv_of_nonneg (by omega)]
          exact this)
        clear hE
        go_wp2_with fail
        refine (frI_any A2 k c2 _ F true _ N4.out (by omega) HG.out (sh_rev HK.out)).mono ?_
        rintro e w5 ⟨rfl, hb5⟩
        have B5 := Lib.hid (below_seq BW.out hb5)
        clear hb5
        by_cases hk0 : k = 0
        · subst hk0
          rcases E with _ | _
          · go_wp2
            all_goals
              go_ret
              refine ⟨rfl, ?_⟩
              repeat refine below_alloc ?_ _
              exact B5.out
          · go_wp2
            all_goals
              go_ret
              refine ⟨rfl, ?_⟩
              repeat refine below_alloc ?_ _
              exact B5.out
        · have t0 := HLOW.out (by omega)
          have t1 : 0 ≤ (1000 : Int).tdiv (k : Int) := by rw [Int.tdiv_eq_ediv_of_nonneg (by omega)]; exact Int.ediv_nonneg (by omega) (by omega)
          have k3 : ((k : Int) == 0) = false := by rw [beq_eq_false_iff_ne]; omega
          have k4 : ¬ (k : Int) = 0 := by omega
          have t2 : decide ((1000 : Int).tdiv (k : Int) ≤ F) = true := decide_eq_true t0
          rcases E with _ | _
          · go_wp2
            all_goals
              go_ret
              refine ⟨rfl, ?_⟩
              repeat refine below_alloc ?_ _
              exact B5.out
          · go_wp2
            all_goals
              go_ret
              refine ⟨rfl, ?_⟩
              repeat refine below_alloc ?_ _
              exact B5.out
theorem own : ownKnob Try.prog.godebug = none := by kernel_rfl
theorem laidOut : laidOutB Try.prog = true := by kernel_rfl
set_option maxRecDepth 100000 in
theorem lifted (os : Os) (started : os.Started) (H : Type) (enc : TypeId × Value → H) :
    ReturnsInHanded {} Try.checked os 5 .any (Rows.fnFairnessOfSpec.pre6 enc Try.prog Try.f5 Rows.fnFairnessOfRow.domain false) (Rows.fnFairnessOfSpec.post enc Try.prog Try.f5 false true false false) := by
  refine returnsInHanded_of_change (C := Try.checked) own started (by kernel_rfl) Try.func5
    (ChangeSpec.witness6 (enc := enc) (C := Try.checked) false ⟨#[], #[.slice none 0 0], []⟩ 8 (by kernel_rfl) (by kernel_rfl) (by kernel_rfl) (by kernel_rfl)) ?_
  intro W base args ds gs before hval0 hW _ _
  have hval : ∀ (j : Nat) t v, Try.f5.params[j]? = some t → args[j]? = some v → Value.okWide Try.prog W .any base t v := hval0
  have hW' := hW
  obtain ⟨p, q, hA0, hV, rfl, _, _⟩ := hW
  have hA : DataW.TrodAll enc Try.prog W 0 (fun _ => true) true Try.f5.params.toList args.toList ds p := hA0
  rw [Try.params5] at hA hval
  obtain ⟨v0, vs0, d0, ds0, p0, q0, hargs, rfl, rfl, h0, r0⟩ := trodAll_cons hA
  obtain ⟨rfl, rfl, rfl⟩ := trodAll_nil r0
  obtain rfl : args = #[v0] := by cases args; simp_all
  obtain ⟨rfl, rfl⟩ := trodVars_none hV
  have lt0 : ∀ x ∈ p0, x.block < W.heap.size := by obtain ⟨m, hm⟩ := h0; exact DataW.trod_lt m _ _ _ hm
  obtain ⟨a0, n0, c0, rfl⟩ := okWide_slice Try.underlying22 (hval 0 22 v0 rfl rfl)
  have w0 : Bytes W a0 n0 c0 := bytes_open h0
  clear hA0 hval0
  refine (walk a0 n0 c0 W w0).mono fun e W' ⟨he, bel⟩ => ?_
  subst he
  exact ⟨_, rfl, _, _, _, [], _, [], hW', trodAll_mk1 (shut_bool Try.underlying4 _), (trodAll_cons_mk (Below.trod laidOut (by kernel_rfl) (of_decide_eq_true (by kernel_rfl)) h0 bel lt0) trodAll_mk0), rfl, bel.frame _, fun h => by cases h⟩
theorem over : Rows.fnFairnessOfRow.holds Try.pinned (OpenSpec.ofChange Rows.fnFairnessOfSpec) :=
  OpenClaim.holds_of_wide 5 Try.f5 rfl rfl rfl rfl rfl rfl rfl ⟨rfl, rfl, rfl, rfl, rfl⟩ rfl rfl rfl rfl rfl (by kernel_rfl) Try.func5 (by unfold joinedFacts; rw [mayEnter, liftsFinal, makeIs]; kernel_rfl)
    (of_decide_eq_true (by kernel_rfl)) (by unfold Func.isWrapper; first | (rw [if_pos (by decide +kernel)]; kernel_rfl) | (rw [if_neg (by decide +kernel)]; exact ⟨rfl, rfl⟩))
    (fun os started H enc _ => lifted os started H enc)
/-- the given statement -/
theorem proved : Rows.FnFairnessOfSaid := over
end Go.Proofs.Ytaccbmgbkalknaa.fnFairnessOf
