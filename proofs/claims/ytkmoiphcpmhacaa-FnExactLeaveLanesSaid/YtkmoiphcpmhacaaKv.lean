/-
  Chapter 6: LeaveLanes of the program and of the model. Conditions: none beside the lanes' reading.
  Conditions: each lemma says them.
-/
import Derived.Test.YtkmoiphcpmhacaaKu
import Derived.Test.YtkmoiphcpmhacaaKk
import Derived.Test.YtkmoiphcpmhacaaKz
import Derived.Test.YtkmoiphcpmhacaaKl
import Derived.Test.YtkmoiphcpmhacaaKm
import Derived.Test.YtkmoiphcpmhacaaKb
import Derived.Test.YtkmoiphcpmhacaaKf
namespace Go.Proofs.Ytkmoiphcpmhacaa
open Go.RowKit

def lenV8 : Value → Nat
  | .slice _ n _ => n
  | _ => 0
theorem ll_not {l : Ln} {x : Int} (h : ¬ LlOk l x) : lvB l = false ∨ (lvB l = true ∧ inB x 0 7 = false ∧ (x < 0 ∨ 7 < x)) := by
  rcases hv : lvB l with _ | _
  · exact .inl rfl
  · have h2 : ¬ (0 ≤ x ∧ x ≤ 7) := fun h2 => h ⟨lv_iff.1 hv, h2⟩
    exact .inr ⟨rfl, by simp only [inB, decide_eq_false_iff_not]; exact h2, by omega⟩
set_option maxRecDepth 100000 in
set_option maxHeartbeats 4000000 in
theorem llI_no (A : Option Addr) (n c : Nat) (B : Option Addr) (m d : Nat) (C : Option Addr) (o f : Nat) (l : Ln) (x : Int) (w : World) (h : LR w A n B m C o l) (hk : ¬ LlOk l x) :
    Calls Try.prog 31 #[.agg #[.slice A n c, .slice B m d, .slice C o f], .int .i64 x] w (LlNo w) := by
  have H := Lib.hid h
  have F := Lib.hid (fm_two w 26 26 #[.slice A n c, .slice B m d, .slice C o f] #[.slice none 0 0, .slice none 0 0, .slice none 0 0])
  have HK := ll_not hk
  clear h hk
  rcases HK with hv | ⟨hv, hin, -⟩
  · have HR := Lib.hid hv
    clear hv
    go_enter Try.func31, Try.ntmps31
    go_wp2_with (go_at_call 22
                 refine (lanI_any A n c B m d C o f l _ (lr_below H.out F.out.below)).mono ?_
                 rintro e w1 ⟨rfl, hb1⟩
                 rw [HR.out]
                 have F1 := Lib.hid (fm_below F.out hb1)
                 obtain ⟨⟨o0, o1, o2⟩, of0, of1, of2⟩ := blk_three (fm_blk F1.out 1 rfl)
                 have zo := blk_lt (fm_blk F1.out 1 rfl)
                 clear hb1)
    refine bodyPost_ret (v := .tuple #[.agg #[.slice none 0 0, .slice none 0 0, .slice none 0 0], .slice none 0 0, .bool false]) (by simp [results, Try.results31, go_sem, o0, o1, o2]) rfl ⟨none, 0, rfl, ?_⟩
    iterate 3 (with_reducible refine Below.setCell ?_ (by simp <;> omega) _)
    exact F1.out.below
  · have HR := Lib.hid hv
    clear hv
    go_enter Try.func31, Try.ntmps31
    go_wp2_with (first
      | (go_at_call 22
         refine (lanI_any A n c B m d C o f l _ (lr_below H.out F.out.below)).mono ?_
         rintro e w1 ⟨rfl, hb1⟩
         rw [HR.out]
         have F1 := Lib.hid (fm_below F.out hb1)
         obtain ⟨⟨o0, o1, o2⟩, of0, of1, of2⟩ := blk_three (fm_blk F1.out 1 rfl)
         have zo := blk_lt (fm_blk F1.out 1 rfl)
         clear hb1)
      | (go_at_call 62; refine (within_any _ _ _ _).mono ?_; rintro e w' ⟨rfl, rfl⟩; rw [hin]))
    refine bodyPost_ret (v := .tuple #[.agg #[.slice none 0 0, .slice none 0 0, .slice none 0 0], .slice none 0 0, .bool false]) (by simp [results, Try.results31, go_sem, o0, o1, o2]) rfl ⟨none, 0, rfl, ?_⟩
    iterate 3 (with_reducible refine Below.setCell ?_ (by simp <;> omega) _)
    exact F1.out.below
set_option maxRecDepth 100000 in
set_option maxHeartbeats 8000000 in
theorem llI_yes (A0 : Option Addr) (n c0 : Nat) (B0 : Option Addr) (m d0 : Nat) (C0 : Option Addr) (o f0 : Nat) (l : Ln) (x : Int) (w : World) (h : LR w A0 n B0 m C0 o l) (hk : LlOk l x) :
    Calls Try.prog 31 #[.agg #[.slice A0 n c0, .slice B0 m d0, .slice C0 o f0], .int .i64 x] w (LlYes w l x) := by
  obtain ⟨rfl, rfl, rfl⟩ := lr_four h hk.1
  have H := Lib.hid h
  have F := Lib.hid (fm_two w 26 26 #[.slice A0 4 c0, .slice B0 4 d0, .slice C0 4 f0] #[.slice none 0 0, .slice none 0 0, .slice none 0 0])
  have HR := Lib.hid (lv_iff.2 hk.1)
  have HV := Lib.hid hk.1
  have HX := Lib.hid hk.2
  have hin : inB x 0 7 = true := by simp only [inB, decide_eq_true_eq]; exact hk.2
  clear h hk
  go_enter Try.func31, Try.ntmps31
  go_wp2_with (first
    | (go_at_call 22
       refine (lanI_any A0 4 c0 B0 4 d0 C0 4 f0 l _ (lr_below H.out F.out.below)).mono ?_
       rintro e w1 ⟨rfl, hb1⟩
       rw [HR.out]
       have F1 := Lib.hid (fm_below F.out hb1)
       obtain ⟨⟨g0, g1, g2⟩, -⟩ := blk_three (fm_blk F1.out 0 rfl)
       clear hb1)
    | (go_at_call 62; refine (within_any _ _ _ _).mono ?_; rintro e w' ⟨rfl, rfl⟩; rw [hin])
    | (go_at_call 65
       refine (copyLI_any A0 4 c0 B0 4 d0 C0 4 f0 l _ (lr_below H.out F1.out.below)).mono ?_
       rintro e w2 ⟨A2, n2, c2, B2, m2, d2, C2, o2, f2, hs2, iv2, rfl, e1, e2, e3, hL2, hI2, hb2⟩
       obtain ⟨e4, e5, e6⟩ : n2 = 4 ∧ m2 = 4 ∧ o2 = 4 := by have := HV.out.n0; have := HV.out.n1; have := HV.out.n2; omega
       subst e4 e5 e6
       obtain ⟨g, cap, hv, hgl, hgh⟩ := hL2.r.row.form (by omega)
       obtain ⟨rfl, rfl⟩ : A2 = some ⟨g, 0, none⟩ ∧ c2 = cap := by injection hv with a1 a2 a3; exact ⟨a1, a3⟩
       have F2 := Lib.hid (fm_below F1.out hb2)
       have z1 : w.heap.size + 2 ≤ w1.heap.size := by have := blk_lt (fm_blk F1.out 1 rfl); omega
       have z2 : w1.heap.size ≤ w2.heap.size := hb2.size
       have R0 : Hid (LvW w #[.slice A0 4 c0, .slice B0 4 d0, .slice C0 4 f0] w2.heap.size g c2 (.slice B2 4 d2) (.slice C2 4 f2) l x 0 (.slice none 0 0) hs2 iv2 (w2.alloc (.cells #[.slice (some ⟨g, 0, none⟩) 4 c2, .slice B2 4 d2, .slice C2 4 f2] 26))) := Lib.hid (lvw_start F2.out hL2 hI2 z1 z2)
       obtain ⟨⟨g0, g1, g2⟩, -⟩ := blk_three (fm_blk F2.out 0 rfl)
       have zg0 := blk_lt (fm_blk F2.out 0 rfl)
       clear hb2 hL2 hI2 hv hgl hgh e1 e2 e3))
  go_loopw [8, 28] (fun tk i wr => ∃ (k : Nat) (hs : List Rh) (iv : Nat → Nat × Nat), k ≤ 4 ∧ i = .int .i64 (k : Int) ∧ LvW w #[.slice A0 4 c0, .slice B0 4 d0, .slice C0 4 f0] w2.heap.size g c2 (.slice B2 4 d2) (.slice C2 4 f2) l x k tk hs iv wr) (fun _ i _ => 4 - (intOf i).toNat)
  case atStart => exact ⟨0, _, _, Nat.zero_le _, rfl, R0.out⟩
  case round =>
    obtain ⟨k, hs, iv, hk, rfl, T⟩ := hrel
    clear R0 g0 g1 g2
    have HT := Lib.hid T
    have hbl := T.fm.below
    obtain ⟨⟨l0, l1, l2⟩, lf0, lf1, lf2⟩ := blk_three T.out
    have zR := blk_lt T.out
    have zL2 := T.hL
    obtain ⟨At, ct, htk, -, -, -⟩ := own_form T.own
    have hN1 := gone_few HV.out x k
    have zg := (T.lo.r.row.lt g rfl).2
    obtain ⟨N, hN⟩ : ∃ N, N = (goneR l.rs x k).length := ⟨_, rfl⟩
    have OT := Lib.hid T.own
    rw [← hN] at htk hN1 OT
    subst htk
    have HN := Lib.hid hN
    have SG : (Value.slice At N ct).ownBlock ≠ some g := fun e => (T.st g e).1.1 rfl
    have SGH := Lib.hid SG
    clear T hN SG
    by_cases hlt : k < 4
    · obtain ⟨b, off, r, A1, n1, c1, rfl, hb, hr, e0, e1, hfr⟩ := rr_at H.out.r hlt
      have e0 := ((bcell hbl).1 b (off + k * 2) hb).trans e0
      have e1 := ((bcell hbl).1 b (off + k * 2 + 1) hb).trans e1
      have hbw : b < wr.heap.size := Nat.lt_of_lt_of_le hb hbl.size
      have HRr := Lib.hid hr
      have HFR := Lib.hid (fr_belowF hfr hbl)
      have RVr := Lib.hid (HV.out.rb k r hr).rv
      have hN2 := w_len64 RVr.out x
      have k0 : (0 : Int) ≤ (k : Int) := by omega
      have k1 : (k : Int) < (4 : Int) := by omega
      have zl := hbl.size
      clear hr hfr hbl hb
      go_wp2_with (first
        | (go_at_call 70
           refine (lvI_yes r.q A1 n1 c1 r.fs x _ (fr_allocF HFR.out _) ⟨RVr.out, HX.out⟩).mono ?_
           rintro e w5 ⟨A5, n5, c5, fh, Ag, ng, cg, rfl, hD, rfl, hog, -, -, hb5⟩
           have hb5' : Below wr.heap.size wr w5 := below_seq1 (Below.refl _ _) hb5
           have D5 := Lib.hid (do_mono hD (show wr.heap.size ≤ _ by simp))
           have T5 := Lib.hid (lvw_below HT.out hb5')
           have O5 := Lib.hid (own_below OT.out hb5')
           have G5 := Lib.hid (own_mono hog (show wr.heap.size ≤ _ by simp))
           have HB5 := Lib.hid hb5'
           have hn5 : n5 ≤ 4000000000 := by have := do_cap hD; have := rv_len (rv_leave RVr.out x); omega
           obtain ⟨b9, o9, h9, ea9, -, -, d0, d1⟩ := hq_at (hq_own T5.out.lo.r.row) hlt
           obtain ⟨rfl, rfl⟩ : g = b9 ∧ 0 = o9 := by injection ea9 with ea9; injection ea9 with a b; exact ⟨a, b⟩
           rw [Nat.zero_add] at d0 d1
           have df0 := World.ownsRow.frozenAt T5.out.lo.r.row (k * 2)
           have df1 := World.ownsRow.frozenAt T5.out.lo.r.row (k * 2 + 1)
           have zg5 := (T5.out.lo.r.row.lt g rfl).2
           have zR5 := blk_lt T5.out.out
           have z5 := HB5.out.size
           have SG2 := Lib.hid (show (Value.slice Ag (wOf r.fs x).length cg).ownBlock ≠ some g from fun e => by have := (G5.out.lt g e).1; omega)
           clear e0 e1 l0 l1 l2 lf0 lf1 lf2
           obtain ⟨⟨l0, l1, l2⟩, lf0, lf1, lf2⟩ := blk_three T5.out.out
           clear hb5 hb5' hD hog ea9)
        | (at_builtin
           refine wpl_app_pkts _ rfl (.tmp 45) (.tmp 46) rfl (w.heap.size + 2) (.slice At N ct) N (goneR l.rs x k) rfl ((own_set_ne (p := ⟨g, k * 2 + 1, none⟩) (own_set_ne (p := ⟨g, k * 2, none⟩) O5.out SGH.out (.int .i64 r.q)) SGH.out (.slice A5 n5 c5)).alloc _) Ag (wOf r.fs x).length cg (wOf r.fs x) rfl (pr_own ((own_set_ne (p := ⟨g, k * 2 + 1, none⟩) (own_set_ne (p := ⟨g, k * 2, none⟩) G5.out SG2.out (.int .i64 r.q)) SG2.out (.slice A5 n5 c5)).alloc _)) (by omega) (by simp <;> omega) ?_
           intro v6 w6 ho6 hg6 hat6
           rw [HN.out] at ho6
           have T6 := Lib.hid (lvw_next (c5 := c5) HT.out HRr.out hlt HB5.out D5.out hn5 ho6 hg6 (hat6.imp id fun h => by simpa using h))
           clear ho6 hg6 hat6))
      go_roundw
      case rel => exact ⟨k + 1, _, _, by omega, by go_num, T6.out⟩
      case measure => simp [intOf]; omega
    · obtain rfl : k = 4 := by omega
      obtain ⟨⟨o0, o1, o2⟩, of0, of1, of2⟩ := blk_three (fm_blk HT.out.fm 1 rfl)
      have zo := blk_lt (fm_blk HT.out.fm 1 rfl)
      have E1 := Lib.hid (left_all HV.out x)
      have E2 := Lib.hid (gone_all HV.out x)
      clear hlt
      go_wp2_with fail
      refine bodyPost_ret (v := .tuple #[.agg #[.slice (some ⟨g, 0, none⟩) 4 c2, .slice B2 4 d2, .slice C2 4 f2], .slice At N ct, .bool true]) (by simp [results, Try.results31, go_sem, o0, o1, o2]) rfl ⟨some ⟨g, 0, none⟩, c2, B2, d2, C2, f2, .slice At N ct, hs, iv, rfl, ?_, fun j hj => by have := HT.out.hi j hj; omega, ?_, HT.out.st, ?_⟩
      · have L := HT.out.lo
        rw [E1.out] at L
        refine lo_mono (lo := w.heap.size + 2) ?_ (by omega)
        iterate 3 (with_reducible refine lo_far ?_ (by simp <;> omega) HT.out.hi _)
        exact L
      · have O := HT.out.own
        rw [E2.out] at O
        refine own_mono (base := w.heap.size + 2) ?_ (by omega)
        iterate 3 (with_reducible refine own_set_far ?_ (by simp <;> omega) _)
        exact O
      · iterate 3 (with_reducible refine Below.setCell ?_ (by simp <;> omega) _)
        exact HT.out.fm.below
set_option maxRecDepth 100000 in
set_option maxHeartbeats 4000000 in
theorem llS_no (A : Option Addr) (n c : Nat) (B : Option Addr) (m d : Nat) (C : Option Addr) (o f : Nat) (l : Ln) (x : Int) (w : World) (h : LR w A n B m C o l) (hk : ¬ LlOk l x) :
    Calls Try.prog 32 #[.agg #[.slice A n c, .slice B m d, .slice C o f], .int .i64 x] w (LlNo w) := by
  have H := Lib.hid h
  have F := Lib.hid (fm_alloc (fm_two w 26 26 #[.slice A n c, .slice B m d, .slice C o f] #[.slice none 0 0, .slice none 0 0, .slice none 0 0]) (.cells #[] 29))
  have HK := ll_not hk
  clear h hk
  have key : ∀ ok : Bool, ok = lvB l → (ok = true → x < 0 ∨ 7 < x) → Calls Try.prog 32 #[.agg #[.slice A n c, .slice B m d, .slice C o f], .int .i64 x] w (LlNo w) := by
    intro ok hok hx
    have HR := Lib.hid hok.symm
    have d1 : ok = false ∨ (ok = true ∧ decide (x < 0) = true) ∨ (ok = true ∧ decide (x < 0) = false ∧ decide (x ≥ 8) = true) := by
      rcases ok with _ | _
      · exact .inl rfl
      · rcases hx rfl with h | h
        · exact .inr (.inl ⟨rfl, by simp; omega⟩)
        · exact .inr (.inr ⟨rfl, by simp; omega, by simp; omega⟩)
    clear hok hx HK
    rcases d1 with rfl | ⟨rfl, hd⟩ | ⟨rfl, hd, hd2⟩
    all_goals
      go_enter Try.func32, Try.ntmps32
      go_wp2_with (go_at_call 51
                   refine (lanS_any A n c B m d C o f l _ (lr_below H.out F.out.below)).mono ?_
                   rintro e w1 ⟨rfl, hb1⟩
                   rw [HR.out]
                   have F1 := Lib.hid (fm_below F.out hb1)
                   obtain ⟨⟨o0, o1, o2⟩, of0, of1, of2⟩ := blk_three (fm_blk F1.out 1 rfl)
                   have zo := blk_lt (fm_blk F1.out 1 rfl)
                   clear hb1)
      refine bodyPost_ret (v := .tuple #[.agg #[.slice none 0 0, .slice none 0 0, .slice none 0 0], .slice (some ⟨w.heap.size + 2, 0, none⟩) 0 0, .bool false]) (by simp [results, Try.results32, go_sem, o0, o1, o2]) rfl ⟨some ⟨w.heap.size + 2, 0, none⟩, 0, rfl, ?_⟩
      iterate 3 (with_reducible refine Below.setCell ?_ (by simp <;> omega) _)
      exact F1.out.below
  rcases HK with hv | ⟨hv, -, hx⟩
  · exact key false hv.symm (fun e => by cases e)
  · exact key true hv.symm (fun _ => hx)
set_option maxRecDepth 100000 in
set_option maxHeartbeats 8000000 in
theorem llS_yes (A0 : Option Addr) (n c0 : Nat) (B0 : Option Addr) (m d0 : Nat) (C0 : Option Addr) (o f0 : Nat) (l : Ln) (x : Int) (w : World) (h : LR w A0 n B0 m C0 o l) (hk : LlOk l x) :
    Calls Try.prog 32 #[.agg #[.slice A0 n c0, .slice B0 m d0, .slice C0 o f0], .int .i64 x] w (LlYesS w l x) := by
  obtain ⟨rfl, rfl, rfl⟩ := lr_four h hk.1
  have H := Lib.hid h
  have F := Lib.hid (fm_alloc (fm_two w 26 26 #[.slice A0 4 c0, .slice B0 4 d0, .slice C0 4 f0] #[.slice none 0 0, .slice none 0 0, .slice none 0 0]) (.cells #[] 29))
  have O := Lib.hid (own_mono (b2 := w.heap.size + 2) (own_emptyQ (W := (w.alloc (.cells #[.slice A0 4 c0, .slice B0 4 d0, .slice C0 4 f0] 26)).alloc (.cells #[.slice none 0 0, .slice none 0 0, .slice none 0 0] 26)) (b := w.heap.size + 2) (by simp)) (by simp))
  have HR := Lib.hid (lv_iff.2 hk.1)
  have HV := Lib.hid hk.1
  have HX := Lib.hid hk.2
  have hd : decide (x < 0) = false := by have := hk.2; simp; omega
  have hd2 : decide (x ≥ 8) = false := by have := hk.2; simp; omega
  clear h hk
  go_enter Try.func32, Try.ntmps32
  go_wp2_with (first
    | (go_at_call 51
       refine (lanS_any A0 4 c0 B0 4 d0 C0 4 f0 l _ (lr_below H.out F.out.below)).mono ?_
       rintro e w1 ⟨rfl, hb1⟩
       rw [HR.out]
       have F1 := Lib.hid (fm_below F.out hb1)
       have O1 := Lib.hid (own_below O.out hb1)
       have Z1 := Lib.hid hb1.size
       obtain ⟨⟨g0, g1, g2⟩, -⟩ := blk_three (fm_blk F1.out 0 rfl)
       clear hb1)
    | (go_at_call 68
       refine (copyLS_any A0 4 c0 B0 4 d0 C0 4 f0 l _ (lr_below H.out F1.out.below)).mono ?_
       rintro e w2 ⟨A2, n2, c2, B2, m2, d2, C2, o2, f2, hs2, iv2, rfl, e1, e2, e3, hL2, hI2, hb2⟩
       obtain ⟨e4, e5, e6⟩ : n2 = 4 ∧ m2 = 4 ∧ o2 = 4 := by have := HV.out.n0; have := HV.out.n1; have := HV.out.n2; omega
       subst e4 e5 e6
       obtain ⟨g, cap, hv, hgl, hgh⟩ := hL2.r.row.form (by omega)
       obtain ⟨rfl, rfl⟩ : A2 = some ⟨g, 0, none⟩ ∧ c2 = cap := by injection hv with a1 a2 a3; exact ⟨a1, a3⟩
       have F2 := Lib.hid (fm_below F1.out hb2)
       have z1 : w.heap.size + 3 ≤ w1.heap.size := by have := Z1.out; simpa using this
       have z2 : w1.heap.size ≤ w2.heap.size := hb2.size
       have R0 : Hid (LvS w #[.slice A0 4 c0, .slice B0 4 d0, .slice C0 4 f0] w2.heap.size g c2 (.slice B2 4 d2) (.slice C2 4 f2) l x 0 (.slice (some ⟨w.heap.size + 2, 0, none⟩) 0 0) hs2 (w2.alloc (.cells #[.slice (some ⟨g, 0, none⟩) 4 c2, .slice B2 4 d2, .slice C2 4 f2] 26))) := Lib.hid (lvs_start F2.out hL2 hI2 (own_below O1.out hb2) z1 z2)
       obtain ⟨⟨g0, g1, g2⟩, -⟩ := blk_three (fm_blk F2.out 0 rfl)
       have zg0 := blk_lt (fm_blk F2.out 0 rfl)
       clear hb2 hL2 hI2 hv hgl hgh e1 e2 e3))
  clear hd hd2
  go_loopw [7, 9] (fun tk i wr => ∃ (k : Nat) (hs : List Rh), k ≤ 4 ∧ i = .int .i64 (k : Int) ∧ LvS w #[.slice A0 4 c0, .slice B0 4 d0, .slice C0 4 f0] w2.heap.size g c2 (.slice B2 4 d2) (.slice C2 4 f2) l x k tk hs wr) (fun _ i _ => 4 - (intOf i).toNat)
  case atStart => exact ⟨0, _, Nat.zero_le _, rfl, R0.out⟩
  case round =>
    obtain ⟨k, hs, hk, rfl, T⟩ := hrel
    clear R0 g0 g1 g2
    have HT := Lib.hid T
    obtain ⟨⟨l0, l1, l2⟩, lf0, lf1, lf2⟩ := blk_three T.out
    have zR := blk_lt T.out
    have zL2 := T.hL
    obtain ⟨At, ct, htk, -, -, -⟩ := own_form T.own
    have hN1 := gone_few HV.out x k
    have zg := (T.row.lt g rfl).2
    obtain ⟨N, hN⟩ : ∃ N, N = (goneR l.rs x k).length := ⟨_, rfl⟩
    have OT := Lib.hid T.own
    rw [← hN] at htk hN1 OT
    subst htk
    have HN := Lib.hid hN
    have SGH := Lib.hid T.sep.2.1
    have hbl := T.fm.below.size
    clear T hN
    by_cases hlt : k < 4
    · obtain ⟨r, hr⟩ := get_of (xs := l.rs) (k := k) (by have := HV.out.n0; omega)
      obtain ⟨b, off, r', A1, n1, c1, ea, hb, hr', e0, e1, hfr⟩ := rr_at (lvs_lr HT.out HV.out.n0).r hlt
      obtain ⟨rfl, rfl⟩ : g = b ∧ 0 = off := by injection ea with ea; injection ea with a b; exact ⟨a, b⟩
      obtain rfl : r = r' := Option.some.inj ((left_get hr x).symm.trans hr')
      rw [Nat.zero_add] at e0 e1
      have HRr := Lib.hid hr
      have HFR := Lib.hid hfr
      have RVr := Lib.hid (HV.out.rb k r hr).rv
      have hN2 := w_len64 RVr.out x
      have k0 : (0 : Int) ≤ (k : Int) := by omega
      have k1 : (k : Int) < (4 : Int) := by omega
      clear hr hfr hr' ea hb
      go_wp2_with (first
        | (go_at_call 71
           refine (lvS_yesX r.q A1 n1 c1 r.fs x _ HFR.out ⟨RVr.out, HX.out⟩).mono ?_
           rintro e w5 ⟨A5, n5, c5, Ag, ng, cg, rfl, hD, rfl, hog, hb5⟩
           have D5 := Lib.hid hD
           have T5 := Lib.hid (lvs_below HT.out hb5)
           have O5 := Lib.hid (own_below OT.out hb5)
           have G5 := Lib.hid hog
           have HB5 := Lib.hid hb5
           obtain ⟨b9, o9, h9, ea9, -, -, d0, d1⟩ := hq_at (hq_own T5.out.row) hlt
           obtain ⟨rfl, rfl⟩ : g = b9 ∧ 0 = o9 := by injection ea9 with ea9; injection ea9 with a b; exact ⟨a, b⟩
           rw [Nat.zero_add] at d0 d1
           have df0 := World.ownsRow.frozenAt T5.out.row (k * 2)
           have df1 := World.ownsRow.frozenAt T5.out.row (k * 2 + 1)
           have zg5 := (T5.out.row.lt g rfl).2
           have zR5 := blk_lt T5.out.out
           have z5 := HB5.out.size
           have SG2 := Lib.hid (show (Value.slice Ag (wOf r.fs x).length cg).ownBlock ≠ some g from fun e => by have := (G5.out.lt g e).1; omega)
           clear e0 e1 l0 l1 l2 lf0 lf1 lf2
           obtain ⟨⟨l0, l1, l2⟩, lf0, lf1, lf2⟩ := blk_three T5.out.out
           clear hb5 hD hog ea9)
        | (at_builtin
           refine wpl_app_pkts _ rfl (.tmp 52) (.tmp 53) rfl (w.heap.size + 2) (.slice At N ct) N (goneR l.rs x k) rfl ((own_set_ne (p := ⟨g, k * 2 + 1, none⟩) (own_set_ne (p := ⟨g, k * 2, none⟩) O5.out SGH.out (.int .i64 r.q)) SGH.out (.slice A5 n5 c5)).alloc _) Ag (wOf r.fs x).length cg (wOf r.fs x) rfl (pr_own ((own_set_ne (p := ⟨g, k * 2 + 1, none⟩) (own_set_ne (p := ⟨g, k * 2, none⟩) G5.out SG2.out (.int .i64 r.q)) SG2.out (.slice A5 n5 c5)).alloc _)) (by omega) (by simp <;> omega) ?_
           intro v6 w6 ho6 hg6 hat6
           rw [HN.out] at ho6
           have T6 := Lib.hid (lvs_next (c5 := c5) HT.out HRr.out hlt HB5.out D5.out ho6 hg6 (hat6.imp id fun h => by simpa using h))
           clear ho6 hg6 hat6))
      go_roundw
      case rel => exact ⟨k + 1, _, by omega, by go_num, T6.out⟩
      case measure => simp [intOf]; omega
    · obtain rfl : k = 4 := by omega
      obtain ⟨⟨o0, o1, o2⟩, of0, of1, of2⟩ := blk_three (fm_blk HT.out.fm 1 rfl)
      have zo := blk_lt (fm_blk HT.out.fm 1 rfl)
      have E1 := Lib.hid (left_all HV.out x)
      have E2 := Lib.hid (gone_all HV.out x)
      have EN : N = (gone l x).length := by rw [HN.out, E2.out]
      clear hlt
      go_wp2_with fail
      refine bodyPost_ret (v := .tuple #[.agg #[.slice (some ⟨g, 0, none⟩) 4 c2, .slice B2 4 d2, .slice C2 4 f2], .slice At N ct, .bool true]) (by simp [results, Try.results32, go_sem, o0, o1, o2]) rfl ⟨some ⟨g, 0, none⟩, c2, B2, d2, C2, f2, At, ct, by rw [EN], ?_, ?_, ?_⟩
      · have L := lvs_end HT.out HV.out.n0 (.slice (some ⟨g, 0, none⟩) 4 c2) (.slice B2 4 d2) (.slice C2 4 f2)
        rw [E1.out] at L
        exact L
      · have OO := HT.out.own
        rw [E2.out] at OO
        rw [← EN]
        rw [← EN] at OO
        refine own_mono (base := w.heap.size + 2) ?_ (by omega)
        iterate 3 (with_reducible refine own_set_far ?_ (by simp <;> omega) _)
        exact OO
      · iterate 3 (with_reducible refine Below.setCell ?_ (by simp <;> omega) _)
        exact HT.out.fm.below
end Go.Proofs.Ytkmoiphcpmhacaa
