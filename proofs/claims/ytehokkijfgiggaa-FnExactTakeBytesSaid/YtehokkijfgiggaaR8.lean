/-
  Chapter 5: WaitingOf and LeaveRobin: what the program's functions and the model's return. Conditions: none.
-/
import Derived.Test.YtehokkijfgiggaaR7S
import Derived.Test.YtehokkijfgiggaaR8d
namespace Go.Proofs.Ytehokkijfgiggaa
open Go.RowKit

theorem del_oneF (base b n c i : Nat) (hs : List Fh) (w : World) (h : w.ownsRow base 40 3 (.slice (some ⟨b, 0, none⟩) n c) n (fcells hs)) (hi : i < n) (hn : n ≤ 4000000000) :
    Calls Try.prog 76 #[.slice (some ⟨b, 0, none⟩) n c, .int .i64 i, .int .i64 ((i : Int) + 1)] w (DelPostF w base b n c i hs) :=
  del_anyF base b n c i (i + 1) hs w h hi rfl hn
theorem erase_get {α : Type} {l : List α} {k j : Nat} {x : α} (h : (l.eraseIdx k)[j]? = some x) : l[if j < k then j else j + 1]? = some x := by
  rw [List.getElem?_eraseIdx] at h
  split
  · rename_i hlt; rw [if_pos hlt] at h; exact h
  · rename_i hlt; rw [if_neg hlt] at h; exact h
theorem do_erase {w w3 : World} {lo b n c m k : Nat} {hs : List Fh} {fs : List Flw} (D : DO w lo (.slice (some ⟨b, 0, none⟩) n c) n hs fs) (hg : w.grownBy w3 (some b)) (ho : w3.ownsRow lo 40 3 (.slice (some ⟨b, 0, none⟩) m c) m (fcells (hs.eraseIdx k))) :
    DO w3 lo (.slice (some ⟨b, 0, none⟩) m c) m (hs.eraseIdx k) (fs.eraseIdx k) := by
  refine ⟨ho, by rw [List.length_eraseIdx, List.length_eraseIdx, D.len], fun j h f h1 h2 => ?_, fun i j h g hij h1 h2 => ?_⟩
  · obtain ⟨e1, e2, e3, e4, e5⟩ := D.all _ h f (erase_get h1) (erase_get h2)
    refine ⟨e1, e2, e3, e4.kept hg ?_, e5⟩
    rcases hub : h.sl.ownBlock with _ | g
    · exact .inl rfl
    · exact .inr fun e => e5 g hub (by injection e with e; rw [← e]; rfl)
  · refine D.apart _ _ h g (fun e => hij ?_) (erase_get h1) (erase_get h2)
    split at e <;> split at e <;> omega
/-- one flow's packets, kept when the row turns -/
theorem do_waits {w w3 : World} {lo b n c k : Nat} {hs : List Fh} {fs : List Flw} {h : Fh} {f : Flw} (D : DO w lo (.slice (some ⟨b, 0, none⟩) n c) n hs fs) (hg : w.grownBy w3 (some b)) (h1 : hs[k]? = some h) (h2 : fs[k]? = some f) :
    w3.ownsRow lo 28 4 h.sl h.n (pcells f.ws) ∧ h.n = f.ws.length ∧ ∀ (j : Nat) (g : Fh), (hs.eraseIdx k)[j]? = some g → ∀ x, h.sl.ownBlock = some x → g.sl.ownBlock ≠ some x := by
  obtain ⟨e1, e2, e3, e4, e5⟩ := D.all _ h f h1 h2
  refine ⟨e4.kept hg ?_, by have := e4.1; rw [pcells_len] at this; omega, fun j g hj => D.apart _ _ h g ?_ h1 (erase_get hj)⟩
  · rcases hub : h.sl.ownBlock with _ | g
    · exact .inl rfl
    · exact .inr fun e => e5 g hub (by injection e with e; rw [← e]; rfl)
  · split <;> omega
def LvOk (q : Int) (fs : List Flw) (x : Int) : Prop := RV q fs ∧ 0 ≤ x ∧ x ≤ 7
def LvYes (w : World) (q : Int) (fs : List Flw) (x : Int) (e : Ending) (w' : World) : Prop :=
  ∃ A n c hs At nt ct, e = .returned (.tuple #[.agg #[.int .i64 q, (.slice A n c)], .slice At nt ct, .bool true]) ∧ DO w' w.heap.size (.slice A n c) n hs (leaveL fs x) ∧ nt = (wOf fs x).length ∧ w'.ownsRow w.heap.size 28 4 (.slice At nt ct) nt (pcells (wOf fs x)) ∧
    (∀ g, Value.ownBlock (.slice At nt ct) = some g → Value.ownBlock (.slice A n c) ≠ some g) ∧ (∀ (j : Nat) (h : Fh), hs[j]? = some h → ∀ g, Value.ownBlock (.slice At nt ct) = some g → h.sl.ownBlock ≠ some g) ∧ Below w.heap.size w w'
def LvYesS (w : World) (q : Int) (fs : List Flw) (x : Int) (e : Ending) (w' : World) : Prop :=
  ∃ A n c At nt ct, e = .returned (.tuple #[.agg #[.int .i64 q, (.slice A n c)], .slice At nt ct, .bool true]) ∧ FR w' A n (leaveL fs x) ∧ nt = (wOf fs x).length ∧ w'.ownsRow w.heap.size 28 4 (.slice At nt ct) nt (pcells (wOf fs x)) ∧ Below w.heap.size w w'
def WoYes (w : World) (fs : List Flw) (x : Int) (e : Ending) (w' : World) : Prop :=
  ∃ At nt ct, e = .returned (.tuple #[.slice At nt ct, .bool true]) ∧ nt = (wOf fs x).length ∧ w'.ownsRow w.heap.size 28 4 (.slice At nt ct) nt (pcells (wOf fs x)) ∧ Below w.heap.size w w'
theorem leave_none {fs : List Flw} {x : Int} (h : ¬ fix fs x < fs.length) : leaveL fs x = fs ∧ wOf fs x = [] ∧ plN fs x = -1 := by
  refine ⟨?_, w_far h, if_neg h⟩
  unfold leaveL
  have := fix_le fs x
  exact List.eraseIdx_of_length_le (by omega)
theorem leave_some {fs : List Flw} {x : Int} (h : fix fs x < fs.length) : ∃ f, fs[fix fs x]? = some f ∧ wOf fs x = f.ws ∧ plN fs x = (fix fs x : Int) := by
  obtain ⟨f, hf, -⟩ := fix_lt h
  exact ⟨f, hf, w_fix hf, if_pos h⟩
set_option maxHeartbeats 2000000 in
theorem lvI_no (q : Int) (A : Option Addr) (n c : Nat) (fs : List Flw) (x : Int) (w : World) (h : FR w A n fs) (hk : ¬ LvOk q fs x) :
    Calls Try.prog 48 #[.agg #[.int .i64 q, (.slice A n c)], .int .i64 x] w (TbNo w) := by
  have H := Lib.hid h
  have F := Lib.hid (show Fm w (bx2 w q A n c) _ from fm_two w 25 25 #[.int .i64 q, (.slice A n c)] #[.int .i64 0, (.slice none 0 0)])
  obtain ⟨v, hv⟩ : ∃ v, rvB q fs = v := ⟨_, rfl⟩
  have hb : v = false ∨ (v = true ∧ inB x 0 7 = false) := by
    rcases v with _ | _
    · exact .inl rfl
    · exact .inr ⟨rfl, by simp only [inB, decide_eq_false_iff_not]; exact fun h => hk ⟨rv_iff.1 hv, h.1, h.2⟩⟩
  have HR := Lib.hid hv
  clear h hk hv
  rcases hb with rfl | ⟨rfl, hb⟩
  · go_enter Try.func48, Try.ntmps48
    go_wp2_with (go_at_call 23
                 refine (rvI_any q A n c fs _ (fr_belowF H.out F.out.below)).mono ?_
                 rintro e w1 ⟨rfl, hb1⟩
                 rw [HR.out]
                 have F1 := Lib.hid (fm_below F.out hb1)
                 obtain ⟨o0, o1, of0, of1⟩ := blk_two (fm_blk F1.out 1 rfl)
                 clear hb1)
    refine bodyPost_ret (v := .tuple #[.agg #[.int .i64 0, (.slice none 0 0)], .slice none 0 0, .bool false]) (by simp [results, Try.results48, go_sem, o0, o1]) rfl ⟨none, 0, rfl, World.ownsRow_nil _ _ _ _, ?_⟩
    iterate 2 (with_reducible refine Below.setCell ?_ (by simp <;> omega) _)
    exact F1.out.below
  · go_enter Try.func48, Try.ntmps48
    go_wp2_with (first
      | (go_at_call 23
         refine (rvI_any q A n c fs _ (fr_belowF H.out F.out.below)).mono ?_
         rintro e w1 ⟨rfl, hb1⟩
         rw [HR.out]
         have F1 := Lib.hid (fm_below F.out hb1)
         obtain ⟨o0, o1, of0, of1⟩ := blk_two (fm_blk F1.out 1 rfl)
         clear hb1)
      | (go_at_call 56; refine (within_any _ _ _ _).mono ?_; rintro e w' ⟨rfl, rfl⟩))
    refine bodyPost_ret (v := .tuple #[.agg #[.int .i64 0, (.slice none 0 0)], .slice none 0 0, .bool false]) (by simp [results, Try.results48, go_sem, o0, o1]) rfl ⟨none, 0, rfl, World.ownsRow_nil _ _ _ _, ?_⟩
    iterate 2 (with_reducible refine Below.setCell ?_ (by simp <;> omega) _)
    exact F1.out.below
set_option maxHeartbeats 4000000 in
theorem lvI_yes (q : Int) (A : Option Addr) (n c : Nat) (fs : List Flw) (x : Int) (w : World) (h : FR w A n fs) (hk : LvOk q fs x) :
    Calls Try.prog 48 #[.agg #[.int .i64 q, (.slice A n c)], .int .i64 x] w (LvYes w q fs x) := by
  have H := Lib.hid h
  have F := Lib.hid (show Fm w (bx2 w q A n c) _ from fm_two w 25 25 #[.int .i64 q, (.slice A n c)] #[.int .i64 0, (.slice none 0 0)])
  have HR := Lib.hid (rv_yes hk.1)
  have h8 := rv_len hk.1
  have hin : inB x 0 7 = true := by simp only [inB, decide_eq_true_eq]; exact hk.2
  clear h hk
  by_cases hlt : fix fs x < fs.length
  · obtain ⟨f, hf, hw, hp⟩ := leave_some hlt
    obtain ⟨k, hk⟩ : ∃ k, k = fix fs x := ⟨_, rfl⟩
    rw [← hk] at hf hp hlt
    have HF := Lib.hid hf
    have HW := Lib.hid hw
    have HP := Lib.hid hp
    have HL : Hid (leaveL fs x = fs.eraseIdx k) := Lib.hid (by rw [hk]; rfl)
    have hd : decide ((k : Int) < 0) = false := decide_eq_false (by omega)
    clear hf hw hp hk
    go_enter Try.func48, Try.ntmps48
    go_wp2_with (first
      | (go_at_call 23
         refine (rvI_any q A n c fs _ (fr_belowF H.out F.out.below)).mono ?_
         rintro e w1 ⟨rfl, hb1⟩
         rw [HR.out]
         have F1 := Lib.hid (fm_below F.out hb1)
         obtain ⟨g0, g1, -⟩ := blk_two (fm_blk F1.out 0 rfl)
         clear hb1)
      | (go_at_call 56; refine (within_any _ _ _ _).mono ?_; rintro e w' ⟨rfl, rfl⟩; rw [hin])
      | (go_at_call 51
         refine (copyRI_any q A n c fs _ (fr_belowF H.out F1.out.below)).mono ?_
         rintro e w2 ⟨A2, n2, c2, hs2, rfl, rfl, -, -, hD, hb2⟩
         have F2 := Lib.hid (fm_below F1.out hb2)
         have D2 := Lib.hid hD
         have Z2 := Lib.hid hb2.size
         clear hb2 hD g0 g1
         obtain ⟨g0, g1, -⟩ := blk_two (fm_blk F2.out 0 rfl)
         have zg0 := blk_lt (fm_blk F2.out 0 rfl))
      | (go_at_call 66
         refine (placeI_any q A n c fs x _ (fr_belowF H.out (below_alloc F2.out.below _))).mono ?_
         rintro e w3 ⟨rfl, hb3⟩
         rw [HP.out]
         have F3 := Lib.hid (fm_below F2.out (below_seq1 (Below.refl _ _) hb3))
         have D3 := Lib.hid (do_below D2.out (below_seq1 (Below.refl _ _) hb3))
         have B3 := Lib.hid (blk_below (blk_new w2 25 #[.int .i64 q, (.slice A2 fs.length c2)]) hb3 (by simp))
         have z3 := blk_lt B3.out
         obtain ⟨g, cap, hv, hg1, hg2⟩ := D3.out.row.form (by omega)
         obtain ⟨rfl, rfl⟩ : A2 = some ⟨g, 0, none⟩ ∧ c2 = cap := (by injection hv with a1 a2 a3; exact ⟨a1, a3⟩)
         obtain ⟨l0, l1, lf0, lf1⟩ := blk_two B3.out
         obtain ⟨b', off', hk, e1, hb', hhk, c0, c1, c2'⟩ := hr_at (k := k) (hr_own D3.out.row) hlt
         obtain ⟨rfl, rfl⟩ : g = b' ∧ 0 = off' := (by injection e1 with e1; injection e1 with a1 a2; exact ⟨a1, a2⟩)
         simp only [Nat.zero_add] at c0 c1 c2'
         have HH := Lib.hid hhk
         clear hb3 g0 g1 hv e1 hhk))
    refine (del_oneF w1.heap.size g fs.length c2 k hs2 _ (own_mono D3.out.row (by simp)) hlt (by omega)).mono ?_
    rintro e w4 ⟨rfl, ho4, hg4⟩
    have hgR : g < w2.heap.size := (D2.out.row.lt g rfl).2
    have hgl : w1.heap.size ≤ g := (D2.out.row.lt g rfl).1
    have zw1 : w.heap.size + 2 ≤ w1.heap.size := by have := blk_lt (fm_blk F1.out 1 rfl); omega
    have zw2 : w1.heap.size ≤ w2.heap.size := by have := Z2.out; omega
    have D4 := Lib.hid (do_erase (do_mono D3.out (Nat.le_refl _)) hg4 ho4)
    have HW4 := Lib.hid (do_waits D3.out hg4 HH.out HF.out)
    have F4 := Lib.hid (fm_grownO F3.out hg4 fun b e => ⟨by injection e with e; omega, bx2_hi (by injection e with e; omega)⟩)
    have B4 := Lib.hid (blk_grownQ B3.out hg4 (fun e => by injection e with e; omega))
    have NE := Lib.hid (show ∀ (j : Nat) (h : Fh), (hs2.eraseIdx k)[j]? = some h → ∀ b, h.sl.ownBlock = some b → b ≠ w2.heap.size from fun j h hj b e => by
      have hj2 := erase_get hj
      obtain ⟨f', hf'⟩ : ∃ f', fs[if j < k then j else j + 1]? = some f' := ⟨_, List.getElem?_eq_getElem (by
        rw [← D2.out.len]
        rcases Nat.lt_or_ge (if j < k then j else j + 1) hs2.length with hlt | hge
        · exact hlt
        · rw [List.getElem?_eq_none hge] at hj2; cases hj2)⟩
      have := ((D2.out.all _ h f' hj2 hf').2.2.2.1.lt b e).2
      omega)
    have NH := Lib.hid (show ∀ b, hk.sl.ownBlock = some b → b < w2.heap.size from fun b e => ((D2.out.all k hk f HH.out HF.out).2.2.2.1.lt b e).2)
    have NG := Lib.hid (show ∀ b, hk.sl.ownBlock = some b → b ≠ g from fun b e h => (D2.out.all k hk f HH.out HF.out).2.2.2.2 b e (by rw [h]; rfl))
    obtain ⟨l0, l1, lf0, lf1⟩ := blk_two B4.out
    obtain ⟨o0, o1, of0, of1⟩ := blk_two (fm_blk F4.out 1 rfl)
    have zb4 := blk_lt (fm_blk F4.out 1 rfl)
    have z4 := blk_lt B4.out
    have zn : w.heap.size + 1 < w2.heap.size := by omega
    clear hg4 ho4 c0 c1 c2' z3 hg1 hg2 hb' zg0 F1 F2 F3 D2 D3 B3
    go_wp2_with fail
    refine bodyPost_ret (v := .tuple #[.agg #[.int .i64 q, (.slice (some ⟨g, 0, none⟩) (k + (fs.length - (k + 1))) c2)], .slice hk.A hk.n hk.c, .bool true]) (by simp [results, Try.results48, go_sem, o0, o1]) rfl ⟨_, _, _, hs2.eraseIdx k, _, _, _, rfl, ?_, by rw [HW4.out.2.1, HW.out], ?_, fun b e e2 => NG.out b e (by injection e2 with e2; exact e2.symm), fun j h hj b e => HW4.out.2.2 j h hj b e, ?_⟩
    · rw [HL.out]
      refine do_mono (lo := w1.heap.size) ?_ (by omega)
      iterate 2 (with_reducible refine do_far ?_ (by simp <;> omega) _)
      exact do_ne D4.out (fun b e => by obtain rfl : g = b := Option.some.inj e; simp; omega) (fun j h hj b e => NE.out j h hj b e) _
    · rw [HW.out]
      refine own_mono (base := w1.heap.size) ?_ (by omega)
      iterate 2 (with_reducible refine own_set_far ?_ (by simp <;> omega) _)
      exact own_set_ne HW4.out.1 (fun e => by have := NH.out _ e; simp at this) _
    · iterate 3 (with_reducible refine Below.setCell ?_ (by simp <;> omega) _)
      exact F4.out.below
  · obtain ⟨hL, hW, hP⟩ := leave_none hlt
    have HL := Lib.hid hL
    have HW := Lib.hid hW
    have HP := Lib.hid hP
    clear hL hW hP hlt
    go_enter Try.func48, Try.ntmps48
    go_wp2_with (first
      | (go_at_call 23
         refine (rvI_any q A n c fs _ (fr_belowF H.out F.out.below)).mono ?_
         rintro e w1 ⟨rfl, hb1⟩
         rw [HR.out]
         have F1 := Lib.hid (fm_below F.out hb1)
         obtain ⟨g0, g1, -⟩ := blk_two (fm_blk F1.out 0 rfl)
         clear hb1)
      | (go_at_call 56; refine (within_any _ _ _ _).mono ?_; rintro e w' ⟨rfl, rfl⟩; rw [hin])
      | (go_at_call 51
         refine (copyRI_any q A n c fs _ (fr_belowF H.out F1.out.below)).mono ?_
         rintro e w2 ⟨A2, n2, c2, hs2, rfl, -, -, -, hD, hb2⟩
         have F2 := Lib.hid (fm_below F1.out hb2)
         have D2 := Lib.hid hD
         have Z2 := Lib.hid hb2.size
         clear hb2 hD g0 g1
         obtain ⟨g0, g1, -⟩ := blk_two (fm_blk F2.out 0 rfl)
         have zg0 := blk_lt (fm_blk F2.out 0 rfl))
      | (go_at_call 66
         refine (placeI_any q A n c fs x _ (fr_belowF H.out (below_alloc F2.out.below _))).mono ?_
         rintro e w3 ⟨rfl, hb3⟩
         rw [HP.out]
         have F3 := Lib.hid (fm_below F2.out (below_seq1 (Below.refl _ _) hb3))
         have D3 := Lib.hid (do_below D2.out (below_seq1 (Below.refl _ _) hb3))
         have B3 := Lib.hid (blk_below (blk_new w2 25 #[.int .i64 q, (.slice A2 n2 c2)]) hb3 (by simp))
         have z3 := blk_lt B3.out
         obtain ⟨l0, l1, lf0, lf1⟩ := blk_two B3.out
         obtain ⟨o0, o1, of0, of1⟩ := blk_two (fm_blk F3.out 1 rfl)
         have zb4 := blk_lt (fm_blk F3.out 1 rfl)
         have zw1 : w.heap.size + 2 ≤ w1.heap.size := (by have := blk_lt (fm_blk F1.out 1 rfl); omega)
         clear hb3 g0 g1))
    refine bodyPost_ret (v := .tuple #[.agg #[.int .i64 q, (.slice A2 n2 c2)], .slice none 0 0, .bool true]) (by simp [results, Try.results48, go_sem, o0, o1]) rfl ⟨_, _, _, hs2, _, _, _, rfl, ?_, by rw [HW.out]; rfl, ?_, fun b e => (by simp [Value.ownBlock] at e), fun j h hj b e => (by simp [Value.ownBlock] at e), ?_⟩
    · rw [HL.out]
      refine do_mono (lo := w1.heap.size) ?_ (by omega)
      iterate 2 (with_reducible refine do_far ?_ (by simp <;> omega) _)
      exact D3.out
    · rw [HW.out]
      exact World.ownsRow_nil _ _ _ _
    · iterate 2 (with_reducible refine Below.setCell ?_ (by simp <;> omega) _)
      exact F3.out.below
set_option maxHeartbeats 1000000 in
theorem woI_no (q : Int) (A : Option Addr) (n c : Nat) (fs : List Flw) (x : Int) (w : World) (h : FR w A n fs) (hk : ¬ LvOk q fs x) :
    Calls Try.prog 21 #[.agg #[.int .i64 q, (.slice A n c)], .int .i64 x] w (TaNo w) := by
  have H := Lib.hid h
  have HK := Lib.hid hk
  clear h hk
  go_enter Try.func21, Try.ntmps21
  go_wp2_with (go_at_call 48
               refine (lvI_no q A n c fs x _ (fr_allocF H.out _) HK.out).mono ?_
               rintro e w1 ⟨At, ct, rfl, ho, hb1⟩
               have B1 := Lib.hid (below_seq1 (Below.refl _ _) hb1)
               have O1 := Lib.hid (own_mono (b2 := w.heap.size) ho (by simp))
               clear ho hb1)
  go_ret2
  exact ⟨At, ct, rfl, O1.out.alloc _, below_alloc B1.out _⟩
set_option maxHeartbeats 1000000 in
theorem woI_yes (q : Int) (A : Option Addr) (n c : Nat) (fs : List Flw) (x : Int) (w : World) (h : FR w A n fs) (hk : LvOk q fs x) :
    Calls Try.prog 21 #[.agg #[.int .i64 q, (.slice A n c)], .int .i64 x] w (WoYes w fs x) := by
  have H := Lib.hid h
  have HK := Lib.hid hk
  clear h hk
  go_enter Try.func21, Try.ntmps21
  go_wp2_with (go_at_call 48
               refine (lvI_yes q A n c fs x _ (fr_allocF H.out _) HK.out).mono ?_
               rintro e w1 ⟨A1, n1, c1, hs1, At, nt, ct, rfl, -, hnt, ho, -, -, hb1⟩
               have B1 := Lib.hid (below_seq1 (Below.refl _ _) hb1)
               have O1 := Lib.hid (own_mono (b2 := w.heap.size) ho (by simp))
               have HNT := Lib.hid hnt
               clear ho hb1 hnt)
  go_ret2
  exact ⟨At, nt, ct, rfl, HNT.out, O1.out.alloc _, below_alloc B1.out _⟩
end Go.Proofs.Ytehokkijfgiggaa
