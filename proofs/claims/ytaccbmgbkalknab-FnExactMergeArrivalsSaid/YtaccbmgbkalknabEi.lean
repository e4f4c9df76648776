/-
  Chapter 10: MergeArrivals: what the model returns. Conditions: the slices' lengths fit an int.
-/
import Derived.Test.YtaccbmgbkalknabEh
import Derived.BigQuiet
namespace Go.Proofs.Ytaccbmgbkalknab
open Go.RowKit

def MgRel (w : World) (ps qs : List Arr) (n m : Nat) (v iv kv : Value) (wr : World) : Prop :=
  ∃ (i k : Nat) (rs : List Arr), i ≤ n ∧ k ≤ m ∧ iv = .int .i64 (i : Int) ∧ kv = .int .i64 (k : Int) ∧ finA ps qs = rs ++ finA (ps.drop i) (qs.drop k) ∧ wr.ownsRow w.heap.size 33 2 v (i + k) (acells rs) ∧ Below w.heap.size w wr
theorem mg_a {ps qs rs R : List Arr} {i k : Nat} {a : Arr} (h : R = rs ++ finA (ps.drop i) (qs.drop k)) (ha : ps[i]? = some a) (hv : avL 0 qs = true) (hc : qs.length ≤ k ∨ ∃ b, qs[k]? = some b ∧ a.t ≤ b.t) : R = (rs ++ [a]) ++ finA (ps.drop (i + 1)) (qs.drop k) := by
  rw [h, drop_at ha]
  rcases hc with hc | ⟨b, hb, hle⟩
  · rw [drop_end hc]
    simp [finA]
  · have h1 := av_drop hv k
    rw [drop_at hb] at h1 ⊢
    rw [finA_le h1 hle]
    simp
theorem mg_b {ps qs rs R : List Arr} {i k : Nat} {b : Arr} (h : R = rs ++ finA (ps.drop i) (qs.drop k)) (hb : qs[k]? = some b) (hv : avL 0 qs = true) (hc : ps.length ≤ i ∨ ∃ a, ps[i]? = some a ∧ b.t < a.t) : R = (rs ++ [b]) ++ finA (ps.drop i) (qs.drop (k + 1)) := by
  have h1 := av_drop hv k
  rw [h]
  rcases hc with hc | ⟨a, ha, hlt⟩
  · rw [drop_end hc, finA_nil h1, finA_nil (av_drop hv (k + 1)), drop_at hb]
    simp
  · rw [drop_at hb] at h1 ⊢
    rw [drop_at ha, finA_gt h1 hlt]
    simp
theorem mg_end {ps qs rs R : List Arr} {i k : Nat} (h : R = rs ++ finA (ps.drop i) (qs.drop k)) (hi : ps.length ≤ i) (hk : qs.length ≤ k) : R = rs := by
  rw [h, drop_end hi, drop_end hk]
  simp [finA]
set_option maxRecDepth 4000 in
set_option maxHeartbeats 4000000 in
theorem mgS_any (A B : Option Addr) (n c m d : Nat) (ps qs : List Arr) (w : World) (hp : AR w A n ps) (hq : AR w B m qs) (hn : n ≤ 9223372036854775807) (hm : m ≤ 9223372036854775807) :
    Calls Try.prog 5 #[.slice A n c, .slice B m d] w (MgPost w ps qs) := by
  have HP0 := Lib.hid hp
  have HQ0 := Lib.hid hq
  have HP := Lib.hid (ar_alloc hp (.cells #[] 33))
  have HQ := Lib.hid (ar_alloc hq (.cells #[] 33))
  have E0 := Lib.hid (own_emptyA (W := w) rfl)
  have B0 := Lib.hid (below_alloc (Below.refl w.heap.size w) (.cells #[] 33))
  clear hp hq
  rcases h1 : avB ps with _ | _
  · have HK := Lib.hid (show mgB ps qs = false by rw [mgB, h1, Bool.false_and, Bool.false_and])
    go_enter Try.func5, Try.ntmps5
    go_wp2_with (go_at_call 11; refine (avS_any A n c ps _ HP.out hn).mono ?_; rintro e w1 ⟨rfl, hb1⟩; have B1 := Lib.hid (below_seq B0.out hb1); have O1 := Lib.hid (own_below E0.out hb1); clear hb1)
    go_ret2
    exact ⟨_, 0, _, ret_vb HK.out.symm, by rw [mgL_no HK.out]; exact O1.out, B1.out⟩
  · rcases h2 : avB qs with _ | _
    · have HK := Lib.hid (show mgB ps qs = false by rw [mgB, h2, Bool.and_false, Bool.false_and])
      go_enter Try.func5, Try.ntmps5
      go_wp2_with fail
      refine (avS_any A n c ps _ HP.out hn).mono ?_
      rintro e w1 ⟨rfl, hb1⟩
      rw [h1]
      have B1 := Lib.hid (below_seq B0.out hb1)
      have O1 := Lib.hid (own_below E0.out hb1)
      clear hb1
      go_wp2_with (go_at_call 11; refine (avS_any B m d qs _ (ar_below HQ0.out B1.out) hm).mono ?_; rintro e w2 ⟨rfl, hb2⟩; have B2 := Lib.hid (below_seq B1.out hb2); have O2 := Lib.hid (own_below O1.out hb2); clear hb2)
      go_ret2
      exact ⟨_, 0, _, ret_vb HK.out.symm, by rw [mgL_no HK.out]; exact O2.out, B2.out⟩
    · have la := (av_of h1).1
      have lb := (av_of h2).1
      have na : n ≤ 32 := by have := HP0.out.1; omega
      have nb : m ≤ 32 := by have := HQ0.out.1; omega
      by_cases h3 : n + m ≤ 32
      · have HK := Lib.hid (show mgB ps qs = true by rw [mgB, h1, h2, decide_eq_true (by have := HP0.out.1; have := HQ0.out.1; omega)]; rfl)
        have i3 : decide ((32 : Int) < (n : Int) + (m : Int)) = false := by rw [decide_eq_false_iff_not]; omega
        have HV := Lib.hid (And.intro (av_of h1).2 (av_of h2).2)
        go_enter Try.func5, Try.ntmps5
        go_wp2_with fail
        refine (avS_any A n c ps _ HP.out hn).mono ?_
        rintro e w1 ⟨rfl, hb1⟩
        rw [h1]
        have B1 := Lib.hid (below_seq B0.out hb1)
        have O1 := Lib.hid (own_below E0.out hb1)
        clear hb1
        go_wp2_with fail
        refine (avS_any B m d qs _ (ar_below HQ0.out B1.out) hm).mono ?_
        rintro e w2 ⟨rfl, hb2⟩
        rw [h2]
        have B2 := Lib.hid (below_seq B1.out hb2)
        have R0 : MgRel w ps qs n m (.slice (some ⟨w.heap.size, 0, none⟩) 0 0) (.int .i64 0) (.int .i64 0) w2 := ⟨0, 0, [], Nat.zero_le _, Nat.zero_le _, rfl, rfl, by simp, own_below O1.out hb2, B2.out⟩
        have HR0 := Lib.hid R0
        clear hb2 R0 O1
        go_wp2
        go_loopw [6, 7, 8] (fun v iv kv wr => MgRel w ps qs n m v iv kv wr) (fun _ iv kv _ => (n + m) - ((intOf iv).toNat + (intOf kv).toNat))
        case atStart => exact HR0.out
        case round =>
          obtain ⟨i, k, rs, hi, hk, rfl, rfl, he, ho, hbl⟩ := hrel
          obtain ⟨A9, c9, rfl, -, -, -⟩ := own_form ho
          have HE := Lib.hid he
          have HO := Lib.hid ho
          have HB := Lib.hid hbl
          have hsz := hbl.size
          clear he ho hbl HR0
          by_cases hin : i < n
          · obtain ⟨ba, oa, p, rfl, hba, hp, c0, c1⟩ := ar_at (ar_below HP0.out HB.out) hin
            have HPP := Lib.hid hp
            have i1 : (i : Int) < (n : Int) := by omega
            clear hp
            by_cases hkm : k < m
            · obtain ⟨bq, oq, q, rfl, hbq, hq, d0, d1⟩ := ar_at (ar_below HQ0.out HB.out) hkm
              have HQQ := Lib.hid hq
              have k1 : (k : Int) < (m : Int) := by omega
              have k2 : ((k : Int) == (m : Int)) = false := by simp; omega
              clear hq
              by_cases hle : p.t ≤ q.t
              · have g0 : decide (p.t ≤ q.t) = true := decide_eq_true hle
                go_wp2_with fail
                go_quiet (fail)
                have O4 := Lib.hid (own_drewN0 HO.out nq)
                have B4 := Lib.hid (below_drewN HB.out nq)
                go_wp2_with (at_builtin; refine wp_app_arr _ rfl (.tmp 60) (.tmp 65) rfl w.heap.size _ (i + k) rs p rfl O4.out _ rfl rfl (by omega) hsz ?_; intro v5 w5 ho5 hg5; have O5 := Lib.hid ho5; have B5 := Lib.hid (app_belowA (O4.out.alloc _) (below_alloc B4.out _) hg5 (by simp; exact Nat.le_trans hsz (Nat.le_succ _))); clear ho5 hg5)
                go_roundw
                case rel => exact ⟨i + 1, k, _, by omega, by omega, by go_num, by go_num, mg_a HE.out HPP.out HV.out.2 (.inr ⟨q, HQQ.out, by omega⟩), by rw [show i + 1 + k = i + k + 1 by omega]; exact O5.out, B5.out⟩
                case measure => simp [intOf]; omega
              · have g0 : decide (p.t ≤ q.t) = false := decide_eq_false hle
                go_wp2_with fail
                go_quiet (fail)
                have O4 := Lib.hid (own_drewN0 HO.out nq)
                have B4 := Lib.hid (below_drewN HB.out nq)
                go_wp2_with (at_builtin; refine wp_app_arr _ rfl (.tmp 69) (.tmp 74) rfl w.heap.size _ (i + k) rs q rfl O4.out _ rfl rfl (by omega) hsz ?_; intro v5 w5 ho5 hg5; have O5 := Lib.hid ho5; have B5 := Lib.hid (app_belowA (O4.out.alloc _) (below_alloc B4.out _) hg5 (by simp; exact Nat.le_trans hsz (Nat.le_succ _))); clear ho5 hg5)
                go_roundw
                case rel => exact ⟨i, k + 1, _, by omega, by omega, by go_num, by go_num, mg_b HE.out HQQ.out HV.out.2 (.inr ⟨p, HPP.out, by omega⟩), O5.out, B5.out⟩
                case measure => simp [intOf]; omega
            · have HKM := Lib.hid (show qs.length ≤ k by have := HQ0.out.1; omega)
              have k2 : ((k : Int) == (m : Int)) = true := by simp; omega
              have k3 : ¬((k : Int) < (m : Int)) := by omega
              go_wp2_with fail
              go_quiet (fail)
              have O4 := Lib.hid (own_drewN0 HO.out nq)
              have B4 := Lib.hid (below_drewN HB.out nq)
              go_wp2_with (at_builtin; refine wp_app_arr _ rfl (.tmp 60) (.tmp 65) rfl w.heap.size _ (i + k) rs p rfl O4.out _ rfl rfl (by omega) hsz ?_; intro v5 w5 ho5 hg5; have O5 := Lib.hid ho5; have B5 := Lib.hid (app_belowA (O4.out.alloc _) (below_alloc B4.out _) hg5 (by simp; exact Nat.le_trans hsz (Nat.le_succ _))); clear ho5 hg5)
              go_roundw
              case rel => exact ⟨i + 1, k, _, by omega, by omega, by go_num, by go_num, mg_a HE.out HPP.out HV.out.2 (.inl HKM.out), by rw [show i + 1 + k = i + k + 1 by omega]; exact O5.out, B5.out⟩
              case measure => simp [intOf]; omega
          · obtain rfl : i = n := by omega
            have HIN := Lib.hid (show ps.length ≤ i by have := HP0.out.1; omega)
            by_cases hkm : k < m
            · obtain ⟨bq, oq, q, rfl, hbq, hq, d0, d1⟩ := ar_at (ar_below HQ0.out HB.out) hkm
              have HQQ := Lib.hid hq
              have k1 : (k : Int) < (m : Int) := by omega
              have k2 : ((k : Int) == (m : Int)) = false := by simp; omega
              clear hq
              go_wp2_with fail
              go_quiet (fail)
              have O4 := Lib.hid (own_drewN0 HO.out nq)
              have B4 := Lib.hid (below_drewN HB.out nq)
              go_wp2_with (at_builtin; refine wp_app_arr _ rfl (.tmp 69) (.tmp 74) rfl w.heap.size _ (i + k) rs q rfl O4.out _ rfl rfl (by omega) hsz ?_; intro v5 w5 ho5 hg5; have O5 := Lib.hid ho5; have B5 := Lib.hid (app_belowA (O4.out.alloc _) (below_alloc B4.out _) hg5 (by simp; exact Nat.le_trans hsz (Nat.le_succ _))); clear ho5 hg5)
              go_roundw
              case rel => exact ⟨i, k + 1, _, by omega, by omega, by go_num, by go_num, mg_b HE.out HQQ.out HV.out.2 (.inl HIN.out), O5.out, B5.out⟩
              case measure => simp [intOf]; omega
            · obtain rfl : k = m := by omega
              have HFIN := Lib.hid (mg_end HE.out HIN.out (by have := HQ0.out.1; omega))
              go_wp2
              go_ret2
              exact ⟨A9, i + k, c9, ret_vb HK.out.symm, by rw [mgL_yes HK.out, HFIN.out]; exact HO.out, HB.out⟩
      · have HK := Lib.hid (show mgB ps qs = false by rw [mgB, decide_eq_false (by have := HP0.out.1; have := HQ0.out.1; omega), Bool.and_false])
        have i3 : decide ((32 : Int) < (n : Int) + (m : Int)) = true := by rw [decide_eq_true_eq]; omega
        go_enter Try.func5, Try.ntmps5
        go_wp2_with fail
        refine (avS_any A n c ps _ HP.out hn).mono ?_
        rintro e w1 ⟨rfl, hb1⟩
        rw [h1]
        have B1 := Lib.hid (below_seq B0.out hb1)
        have O1 := Lib.hid (own_below E0.out hb1)
        clear hb1
        go_wp2_with (go_at_call 11; refine (avS_any B m d qs _ (ar_below HQ0.out B1.out) hm).mono ?_; rintro e w2 ⟨rfl, hb2⟩; rw [h2]; have B2 := Lib.hid (below_seq B1.out hb2); have O2 := Lib.hid (own_below O1.out hb2); clear hb2)
        go_ret2
        exact ⟨_, 0, _, ret_vb HK.out.symm, by rw [mgL_no HK.out]; exact O2.out, B2.out⟩
end Go.Proofs.Ytaccbmgbkalknab
