/-
  Chapter 6: the program's TakeLanes where it refuses, NextOfLanes of the program and of the model. Conditions: none beside the lanes' reading.
  Conditions: each lemma says them.
-/
import Derived.Test.YtkmoiphcpmhacaaKs
import Derived.Test.YtkmoiphcpmhacaaKz
import Derived.Test.YtkmoiphcpmhacaaKr
namespace Go.Proofs.Ytkmoiphcpmhacaa
open Go.RowKit

/-- there is a packet whose turn it is -/
def NoOk (l : Ln) (i : Nat) : Prop := LV l ∧ Turn6 l i
def NoNo (w : World) (e : Ending) (w' : World) : Prop :=
  e = .returned (.tuple #[.agg #[.slice none 0 0, .slice none 0 0, .slice none 0 0], .agg #[.int .i64 0, .int .i64 0, .int .i64 0, .int .i64 0], .bool false]) ∧ Below w.heap.size w w'
def NoYes (w : World) (l : Ln) (i : Nat) (e : Ending) (w' : World) : Prop :=
  ∃ A c B d C f hs iv s, e = .returned (.tuple #[.agg #[.slice A 4 c, .slice B 4 d, .slice C 4 f], .agg #[.int .i64 (nxQ l i).peer, .int .i64 (nxQ l i).lane, .int .i64 (nxQ l i).size, .int .i64 (nxQ l i).id], .bool true]) ∧ w.heap.size ≤ s ∧ LO w' s (.slice A 4 c) 4 (.slice B 4 d) 4 (.slice C 4 f) 4 hs iv (nxN l i) ∧ (∀ k, (iv k).1 < (iv k).2 → s ≤ (iv k).1) ∧ Below w.heap.size w w'
def NoYesS (w : World) (l : Ln) (i : Nat) (e : Ending) (w' : World) : Prop :=
  ∃ A c B d C f, e = .returned (.tuple #[.agg #[.slice A 4 c, .slice B 4 d, .slice C 4 f], .agg #[.int .i64 (nxQ l i).peer, .int .i64 (nxQ l i).lane, .int .i64 (nxQ l i).size, .int .i64 (nxQ l i).id], .bool true]) ∧ LR w' A 4 B 4 C 4 (nxN l i) ∧ Below w.heap.size w w'
theorem no_or (l : Ln) (hk : ¬ ∃ i, NoOk l i) : ¬ LV l ∨ (LV l ∧ Empty6 l) := by
  by_cases hv : LV l
  · rcases turn_or l with ⟨i, hi⟩ | he
    · exact absurd ⟨i, hv, hi⟩ hk
    · exact .inr ⟨hv, he⟩
  · exact .inl hv
set_option maxRecDepth 100000 in
set_option maxHeartbeats 4000000 in
theorem tkI_no (A : Option Addr) (n c : Nat) (B : Option Addr) (m d : Nat) (C : Option Addr) (o f : Nat) (l : Ln) (b : Int) (w : World) (h : LR w A n B m C o l) (hk : ¬ (LV l ∧ 0 ≤ b)) :
    Calls Try.prog 26 #[.agg #[.slice A n c, .slice B m d, .slice C o f], .int .i64 b] w (TkINo w) := by
  have H := Lib.hid h
  have F := Lib.hid (fm_two w 26 26 #[.slice A n c, .slice B m d, .slice C o f] #[.slice none 0 0, .slice none 0 0, .slice none 0 0])
  obtain ⟨v, hv⟩ : ∃ v, lvB l = v := ⟨_, rfl⟩
  have hb : v = false ∨ (v = true ∧ b < 0) := by
    rcases v with _ | _
    · exact .inl rfl
    · exact .inr ⟨rfl, Int.not_le.1 fun h => hk ⟨lv_iff.1 hv, h⟩⟩
  have HR := Lib.hid hv
  clear h hk hv
  rcases hb with rfl | ⟨rfl, hb⟩
  · go_enter Try.func26, Try.ntmps26
    go_wp2_with (go_at_call 22
                 refine (lanI_any A n c B m d C o f l _ (lr_below H.out F.out.below)).mono ?_
                 rintro e w1 ⟨rfl, hb1⟩
                 rw [HR.out]
                 have F1 := Lib.hid (fm_below F.out hb1)
                 obtain ⟨⟨o0, o1, o2⟩, of0, of1, of2⟩ := blk_three (fm_blk F1.out 1 rfl)
                 have zo := blk_lt (fm_blk F1.out 1 rfl)
                 clear hb1)
    refine bodyPost_ret (v := .tuple #[.agg #[.slice none 0 0, .slice none 0 0, .slice none 0 0], .slice none 0 0, .bool false]) (by simp [results, Try.results26, go_sem, o0, o1, o2]) rfl ⟨rfl, ?_⟩
    iterate 3 (with_reducible refine Below.setCell ?_ (by simp <;> omega) _)
    exact F1.out.below
  · have hd : decide (b < 0) = true := by simp; omega
    go_enter Try.func26, Try.ntmps26
    go_wp2_with (go_at_call 22
                 refine (lanI_any A n c B m d C o f l _ (lr_below H.out F.out.below)).mono ?_
                 rintro e w1 ⟨rfl, hb1⟩
                 rw [HR.out]
                 have F1 := Lib.hid (fm_below F.out hb1)
                 obtain ⟨⟨o0, o1, o2⟩, of0, of1, of2⟩ := blk_three (fm_blk F1.out 1 rfl)
                 have zo := blk_lt (fm_blk F1.out 1 rfl)
                 clear hb1)
    refine bodyPost_ret (v := .tuple #[.agg #[.slice none 0 0, .slice none 0 0, .slice none 0 0], .slice none 0 0, .bool false]) (by simp [results, Try.results26, go_sem, o0, o1, o2]) rfl ⟨rfl, ?_⟩
    iterate 3 (with_reducible refine Below.setCell ?_ (by simp <;> omega) _)
    exact F1.out.below
theorem lo_drew {w : World} {lo n m o : Nat} {vA vB vC : Value} {hs : List Rh} {iv : Nat → Nat × Nat} {l : Ln} (h : LO w lo vA n vB m vC o hs iv l) : LO w.drew lo vA n vB m vC o hs iv l := lo_below h (Below.refl _ _).drew
theorem lo_drewN {w : World} {lo n m o : Nat} {vA vB vC : Value} {hs : List Rh} {iv : Nat → Nat × Nat} {l : Ln} (h : LO w lo vA n vB m vC o hs iv l) (k : Nat) : LO (w.drewN k) lo vA n vB m vC o hs iv l := lo_below h (below_drewN (Below.refl _ _) k)
set_option maxRecDepth 100000 in
set_option maxHeartbeats 4000000 in
theorem noI_no (A : Option Addr) (n c : Nat) (B : Option Addr) (m d : Nat) (C : Option Addr) (o f : Nat) (l : Ln) (w : World) (h : LR w A n B m C o l) (hk : ¬ ∃ i, NoOk l i) :
    Calls Try.prog 16 #[.agg #[.slice A n c, .slice B m d, .slice C o f]] w (NoNo w) := by
  have H := Lib.hid h
  have F := Lib.hid (fm_three w 26 26 29 #[.slice A n c, .slice B m d, .slice C o f] #[.slice none 0 0, .slice none 0 0, .slice none 0 0] #[.int .i64 0, .int .i64 0, .int .i64 0, .int .i64 0])
  have HK := no_or l hk
  clear h hk
  rcases HK with hv | ⟨hv, he⟩
  · have HV := Lib.hid (show ¬ (LV l ∧ (0 : Int) ≤ 1) from fun h => hv h.1)
    clear hv
    go_enter Try.func16, Try.ntmps16
    go_wp2_with fail
    refine (tkI_no A n c B m d C o f l 1 _ (lr_below H.out F.out.below) HV.out).mono ?_
    rintro e w1 ⟨rfl, hb⟩
    have F1 := Lib.hid (fm_below F.out hb)
    clear hb
    go_upto_region 2 with fail
    have F1 := Lib.hid (fm_alloc F1.out (.cells #[.slice none 0 0, .slice none 0 0, .slice none 0 0] 26))
    generalize (w1.alloc (.cells #[.slice none 0 0, .slice none 0 0, .slice none 0 0] 26)) = W2 at F1 ⊢
    obtain ⟨⟨o0, o1, o2⟩, of0, of1, of2⟩ := blk_three (fm_blk F1.out 1 rfl)
    obtain ⟨⟨k0, k1, k2, k3⟩, kf0, kf1, kf2, kf3⟩ := blk_fourR (fm_blk F1.out 2 rfl)
    have zo1 := blk_lt (fm_blk F1.out 1 rfl)
    have zo2 := blk_lt (fm_blk F1.out 2 rfl)
    go_wp2_with fail
    refine bodyPost_ret (v := .tuple #[.agg #[.slice none 0 0, .slice none 0 0, .slice none 0 0], .agg #[.int .i64 0, .int .i64 0, .int .i64 0, .int .i64 0], .bool false]) (by simp [results, Try.results16, go_sem, o0, o1, o2, k0, k1, k2, k3]) rfl ⟨rfl, ?_⟩
    iterate 7 (with_reducible refine Below.setCell ?_ (by simp <;> omega) _)
    exact F1.out.below
  · have HE := Lib.hid (show tkN 1 l = (l, []) from tkN_no he)
    have HV := Lib.hid hv
    clear hv he
    go_enter Try.func16, Try.ntmps16
    go_wp2_with fail
    refine (tkI_yes A n c B m d C o f l 1 _ (lr_below H.out F.out.below) HV.out).mono ?_
    rintro e w1 ⟨A1, c1, B1, d1, C1, f1, tk, hs, iv, s, rfl, -, -, -, ho, -, hb⟩
    rw [HE.out] at ho
    obtain ⟨At, ct, rfl, -, -, -⟩ := own_form ho
    have F1 := Lib.hid (fm_below F.out hb)
    clear hb ho
    simp only [List.length_nil]
    go_upto_region 2 with fail
    have F1 := Lib.hid (fm_alloc F1.out (.cells #[.slice A1 4 c1, .slice B1 4 d1, .slice C1 4 f1] 26))
    generalize (w1.alloc (.cells #[.slice A1 4 c1, .slice B1 4 d1, .slice C1 4 f1] 26)) = W2 at F1 ⊢
    obtain ⟨⟨o0, o1, o2⟩, of0, of1, of2⟩ := blk_three (fm_blk F1.out 1 rfl)
    obtain ⟨⟨k0, k1, k2, k3⟩, kf0, kf1, kf2, kf3⟩ := blk_fourR (fm_blk F1.out 2 rfl)
    have zo1 := blk_lt (fm_blk F1.out 1 rfl)
    have zo2 := blk_lt (fm_blk F1.out 2 rfl)
    go_wp2_with fail
    refine bodyPost_ret (v := .tuple #[.agg #[.slice none 0 0, .slice none 0 0, .slice none 0 0], .agg #[.int .i64 0, .int .i64 0, .int .i64 0, .int .i64 0], .bool false]) (by simp [results, Try.results16, go_sem, o0, o1, o2, k0, k1, k2, k3]) rfl ⟨rfl, ?_⟩
    iterate 7 (with_reducible refine Below.setCell ?_ (by simp <;> omega) _)
    exact F1.out.below
set_option maxRecDepth 100000 in
set_option maxHeartbeats 8000000 in
theorem noI_yes (A : Option Addr) (n c : Nat) (B : Option Addr) (m d : Nat) (C : Option Addr) (o f : Nat) (l : Ln) (i : Nat) (w : World) (h : LR w A n B m C o l) (hk : NoOk l i) :
    Calls Try.prog 16 #[.agg #[.slice A n c, .slice B m d, .slice C o f]] w (NoYes w l i) := by
  have H := Lib.hid h
  have F := Lib.hid (fm_three w 26 26 29 #[.slice A n c, .slice B m d, .slice C o f] #[.slice none 0 0, .slice none 0 0, .slice none 0 0] #[.int .i64 0, .int .i64 0, .int .i64 0, .int .i64 0])
  have HE := Lib.hid (show tkN 1 l = (nxN l i, [nxQ l i]) from tkN_yes hk.2)
  have HV := Lib.hid hk.1
  clear h hk
  go_enter Try.func16, Try.ntmps16
  go_wp2_with fail
  refine (tkI_yes A n c B m d C o f l 1 _ (lr_below H.out F.out.below) HV.out).mono ?_
  rintro e w1 ⟨A1, c1, B1, d1, C1, f1, tk, hs, iv, s, rfl, hs1, hL, hI, ho, -, hb⟩
  rw [HE.out] at hL ho
  obtain ⟨At, ct, rfl, -, -, -⟩ := own_form ho
  obtain ⟨P, hP⟩ : ∃ P, P = nxQ l i := ⟨_, rfl⟩
  have HP := Lib.hid hP
  rw [← hP] at ho
  have F1 := Lib.hid (fm_below F.out hb)
  have L1 := Lib.hid (And.intro (show w.heap.size + 3 ≤ s by simpa using hs1) (And.intro hL hI))
  obtain ⟨b, off, p, ea, hbt, hp, y0, y1, y2, y3⟩ := pr_at (k := 0) (pr_own ho) (by simp)
  subst ea
  obtain rfl : P = p := by simpa using hp
  simp only [Nat.zero_mul, Nat.add_zero] at y0 y1 y2 y3
  have zb : w.heap.size + 3 ≤ b := by have := (ho.lt b rfl).1; simpa using this
  have nb1 : ¬ b = w.heap.size + 1 := by omega
  have nb2 : ¬ b = w.heap.size + 1 + 1 := by omega
  have nb3 : ¬ w.heap.size + 1 = b := by omega
  have nb4 : ¬ w.heap.size + 1 + 1 = b := by omega
  clear hb ho hL hI hs1 hp hP
  simp only [List.length_cons, List.length_nil, Nat.zero_add]
  go_upto_region 4 with fail
  have F2 := Lib.hid (fm_alloc F1.out (.cells #[.slice A1 4 c1, .slice B1 4 d1, .slice C1 4 f1] 26))
  have L2 := Lib.hid (And.intro L1.out.1 (And.intro (lo_below L1.out.2.1 (below_alloc (Below.refl _ _) (.cells #[.slice A1 4 c1, .slice B1 4 d1, .slice C1 4 f1] 26))) L1.out.2.2))
  have X2 := Lib.hid (blk_new w1 26 #[.slice A1 4 c1, .slice B1 4 d1, .slice C1 4 f1])
  have hc := (bcell (below_alloc (Below.refl w1.heap.size w1) (.cells #[.slice A1 4 c1, .slice B1 4 d1, .slice C1 4 f1] 26))).1
  have y0 := (hc b _ hbt).trans y0
  have y1 := (hc b _ hbt).trans y1
  have y2 := (hc b _ hbt).trans y2
  have y3 := (hc b _ hbt).trans y3
  obtain ⟨LB, hLB⟩ : ∃ LB, w1.heap.size = LB := ⟨_, rfl⟩
  clear hc F1 L1 hbt
  rw [hLB] at X2 ⊢
  generalize (w1.alloc (.cells #[.slice A1 4 c1, .slice B1 4 d1, .slice C1 4 f1] 26)) = W2 at F2 L2 X2 y0 y1 y2 y3 ⊢
  clear hLB
  obtain ⟨⟨x0, x1, x2⟩, -⟩ := blk_three X2.out
  obtain ⟨⟨o0, o1, o2⟩, of0, of1, of2⟩ := blk_three (fm_blk F2.out 1 rfl)
  obtain ⟨⟨k0, k1, k2, k3⟩, kf0, kf1, kf2, kf3⟩ := blk_fourR (fm_blk F2.out 2 rfl)
  have zo1 := blk_lt (fm_blk F2.out 1 rfl)
  have zo2 := blk_lt (fm_blk F2.out 2 rfl)
  have zx := blk_lt X2.out
  have FB := Lib.hid F2.out.below
  have zs := L2.out.1
  go_wp2_with fail
  go_region
  all_goals
    go_wp2
    refine bodyPost_ret (v := .tuple #[.agg #[.slice A1 4 c1, .slice B1 4 d1, .slice C1 4 f1], .agg #[.int .i64 P.peer, .int .i64 P.lane, .int .i64 P.size, .int .i64 P.id], .bool true]) (by simp [results, Try.results16, go_sem, o0, o1, o2, k0, k1, k2, k3]) rfl ⟨A1, c1, B1, d1, C1, f1, hs, iv, s, by rw [HP.out], by omega, ?_, L2.out.2.2, ?_⟩
    · repeat (first | (with_reducible refine lo_drewN ?_ _) | (with_reducible refine lo_drew ?_))
      iterate 7 (with_reducible refine lo_far ?_ (by simp <;> omega) L2.out.2.2 _)
      exact L2.out.2.1
    · repeat (first | (with_reducible refine below_drewN ?_ _) | (with_reducible refine Below.drew ?_))
      iterate 7 (with_reducible refine Below.setCell ?_ (by simp <;> omega) _)
      exact FB.out
set_option maxRecDepth 100000 in
set_option maxHeartbeats 4000000 in
theorem noS_no (A : Option Addr) (n c : Nat) (B : Option Addr) (m d : Nat) (C : Option Addr) (o f : Nat) (l : Ln) (w : World) (h : LR w A n B m C o l) (hk : ¬ ∃ i, NoOk l i) :
    Calls Try.prog 17 #[.agg #[.slice A n c, .slice B m d, .slice C o f]] w (NoNo w) := by
  have H := Lib.hid h
  have F := Lib.hid (fm_three w 26 26 29 #[.slice A n c, .slice B m d, .slice C o f] #[.slice none 0 0, .slice none 0 0, .slice none 0 0] #[.int .i64 0, .int .i64 0, .int .i64 0, .int .i64 0])
  have HK := no_or l hk
  clear h hk
  rcases HK with hv | ⟨hv, he⟩
  · have HV := Lib.hid (lv_no hv)
    clear hv
    go_enter Try.func17, Try.ntmps17
    go_wp2_with (go_at_call 51
                 refine (lanS_any A n c B m d C o f l _ (lr_below H.out F.out.below)).mono ?_
                 rintro e w1 ⟨rfl, hb⟩
                 rw [HV.out]
                 have F1 := Lib.hid (fm_below F.out hb)
                 clear hb
                 obtain ⟨⟨o0, o1, o2⟩, of0, of1, of2⟩ := blk_three (fm_blk F1.out 1 rfl)
                 obtain ⟨⟨k0, k1, k2, k3⟩, kf0, kf1, kf2, kf3⟩ := blk_fourR (fm_blk F1.out 2 rfl)
                 have zo1 := blk_lt (fm_blk F1.out 1 rfl)
                 have zo2 := blk_lt (fm_blk F1.out 2 rfl))
    refine bodyPost_ret (v := .tuple #[.agg #[.slice none 0 0, .slice none 0 0, .slice none 0 0], .agg #[.int .i64 0, .int .i64 0, .int .i64 0, .int .i64 0], .bool false]) (by simp [results, Try.results17, go_sem, o0, o1, o2, k0, k1, k2, k3]) rfl ⟨rfl, ?_⟩
    iterate 7 (with_reducible refine Below.setCell ?_ (by simp <;> omega) _)
    exact F1.out.below
  · have HV := Lib.hid (lv_yes hv)
    have h4 := Lib.hid (lr_four H.out hv)
    have HE := Lib.hid he
    clear hv he
    have i0 : decide ((-1 : Int) < 0) = true := by decide
    go_enter Try.func17, Try.ntmps17
    go_wp2_with (first
      | (go_at_call 51
         refine (lanS_any A n c B m d C o f l _ (lr_below H.out F.out.below)).mono ?_
         rintro e w0 ⟨rfl, hb⟩
         rw [HV.out]
         have F0 := Lib.hid (fm_below F.out hb)
         obtain ⟨⟨g0, g1, g2⟩, -⟩ := blk_three (fm_blk F0.out 0 rfl)
         clear hb)
      | (go_at_call 52
         refine (fsS_any A n c B m d C o f l _ (lr_below H.out F0.out.below) (by have := h4.out; omega) false).mono ?_
         rintro e w1 ⟨he2, hb⟩
         obtain rfl : e = .returned (.int .i64 (-1)) := (by
           rcases he2 with ⟨i, hi, -⟩ | ⟨-, rfl⟩
           · exact absurd hi.1 (empty_no HE.out false i)
           · rfl)
         have F1 := Lib.hid (fm_below F0.out hb)
         clear hb he2 g0 g1 g2
         obtain ⟨⟨o0, o1, o2⟩, of0, of1, of2⟩ := blk_three (fm_blk F1.out 1 rfl)
         obtain ⟨⟨k0, k1, k2, k3⟩, kf0, kf1, kf2, kf3⟩ := blk_fourR (fm_blk F1.out 2 rfl)
         have zo1 := blk_lt (fm_blk F1.out 1 rfl)
         have zo2 := blk_lt (fm_blk F1.out 2 rfl)))
    refine bodyPost_ret (v := .tuple #[.agg #[.slice none 0 0, .slice none 0 0, .slice none 0 0], .agg #[.int .i64 0, .int .i64 0, .int .i64 0, .int .i64 0], .bool false]) (by simp [results, Try.results17, go_sem, o0, o1, o2, k0, k1, k2, k3]) rfl ⟨rfl, ?_⟩
    iterate 7 (with_reducible refine Below.setCell ?_ (by simp <;> omega) _)
    exact F1.out.below
set_option maxRecDepth 100000 in
set_option maxHeartbeats 8000000 in
theorem noS_yes (A : Option Addr) (n c : Nat) (B : Option Addr) (m d : Nat) (C : Option Addr) (o f : Nat) (l : Ln) (i : Nat) (w : World) (h : LR w A n B m C o l) (hk : NoOk l i) :
    Calls Try.prog 17 #[.agg #[.slice A n c, .slice B m d, .slice C o f]] w (NoYesS w l i) := by
  have H := Lib.hid h
  have F := Lib.hid (fm_three w 26 26 29 #[.slice A n c, .slice B m d, .slice C o f] #[.slice none 0 0, .slice none 0 0, .slice none 0 0] #[.int .i64 0, .int .i64 0, .int .i64 0, .int .i64 0])
  have HV := Lib.hid (lv_yes hk.1)
  have HK := Lib.hid hk
  have h4 := Lib.hid (lr_four h hk.1)
  clear h hk
  go_enter Try.func17, Try.ntmps17
  go_wp2_with (go_at_call 51
               refine (lanS_any A n c B m d C o f l _ (lr_below H.out F.out.below)).mono ?_
               rintro e w0 ⟨rfl, hb⟩
               rw [HV.out]
               have F0 := Lib.hid (fm_below F.out hb)
               obtain ⟨⟨g0, g1, g2⟩, -⟩ := blk_three (fm_blk F0.out 0 rfl)
               clear hb)
  refine (fsS_any A n c B m d C o f l _ (lr_below H.out F0.out.below) (by have := h4.out; omega) false).mono ?_
  rintro e w2 ⟨⟨j, hj, rfl⟩ | ⟨hj, rfl⟩, hb⟩
  · have i0 : decide ((j : Int) < 0) = false := by simp
    have F2 := Lib.hid (fm_below F0.out hb)
    clear hb hj g0 g1 g2
    obtain ⟨⟨g0, g1, g2⟩, -⟩ := blk_three (fm_blk F2.out 0 rfl)
    go_wp2_with fail
    refine (nxS_any A n c B m d C o f l i _ (lr_below H.out F2.out.below) HK.out.1 HK.out.2).mono ?_
    rintro e w1 ⟨A1, c1, B1, d1, C1, f1, rfl, hx, hb⟩
    obtain ⟨P, hP⟩ : ∃ P, P = nxQ l i := ⟨_, rfl⟩
    have HP := Lib.hid hP
    rw [← hP]
    have F1 := Lib.hid (fm_below F2.out hb)
    have zy := hb.size
    have zz : w.heap.size + 3 ≤ w2.heap.size := by have := blk_lt (fm_blk F2.out 2 rfl); omega
    have X1 := Lib.hid (lax_mono (Y := fun b => w.heap.size + 3 ≤ b) hx fun b hb _ => by have hb' : w2.heap.size ≤ b := hb; show w.heap.size + 3 ≤ b; omega)
    clear hb hx hP g0 g1 g2
    go_upto_region 4 with fail
    have BL : Below w1.heap.size w1 ((w1.alloc (.cells #[.slice A1 4 c1, .slice B1 4 d1, .slice C1 4 f1] 26)).alloc (.cells #[.int .i64 P.peer, .int .i64 P.lane, .int .i64 P.size, .int .i64 P.id] 29)) := below_alloc (below_alloc (Below.refl _ _) _) _
    have F3 := Lib.hid (fm_below F1.out BL)
    have X3 := Lib.hid (lax_below X1.out BL)
    have LBX := Lib.hid (show Blk ((w1.alloc (.cells #[.slice A1 4 c1, .slice B1 4 d1, .slice C1 4 f1] 26)).alloc (.cells #[.int .i64 P.peer, .int .i64 P.lane, .int .i64 P.size, .int .i64 P.id] 29)) w1.heap.size 26 #[.slice A1 4 c1, .slice B1 4 d1, .slice C1 4 f1] from blk_alloc (blk_new w1 _ _) _)
    have PBX := Lib.hid (show Blk ((w1.alloc (.cells #[.slice A1 4 c1, .slice B1 4 d1, .slice C1 4 f1] 26)).alloc (.cells #[.int .i64 P.peer, .int .i64 P.lane, .int .i64 P.size, .int .i64 P.id] 29)) (w1.heap.size + 1) 29 #[.int .i64 P.peer, .int .i64 P.lane, .int .i64 P.size, .int .i64 P.id] from blk_new2 w1 _ _ _)
    clear BL F1 X1
    generalize ((w1.alloc (.cells #[.slice A1 4 c1, .slice B1 4 d1, .slice C1 4 f1] 26)).alloc (.cells #[.int .i64 P.peer, .int .i64 P.lane, .int .i64 P.size, .int .i64 P.id] 29)) = W3 at F3 X3 LBX PBX ⊢
    obtain ⟨⟨x0, x1, x2⟩, -⟩ := blk_three LBX.out
    obtain ⟨⟨p0, p1, p2, p3⟩, -⟩ := blk_fourR PBX.out
    obtain ⟨⟨o0, o1, o2⟩, of0, of1, of2⟩ := blk_three (fm_blk F3.out 1 rfl)
    obtain ⟨⟨k0, k1, k2, k3⟩, kf0, kf1, kf2, kf3⟩ := blk_fourR (fm_blk F3.out 2 rfl)
    have zo1 := blk_lt (fm_blk F3.out 1 rfl)
    have zo2 := blk_lt (fm_blk F3.out 2 rfl)
    have zx := blk_lt LBX.out
    have zp := blk_lt PBX.out
    have FB := Lib.hid F3.out.below
    have n1 : ¬ w1.heap.size = w.heap.size := by have := FB.out.size; omega
    have n2 : ¬ w1.heap.size = w.heap.size + 1 := by omega
    have n3 : ¬ w1.heap.size = w.heap.size + 1 + 1 := by omega
    have n4 : ¬ w1.heap.size + 1 = w.heap.size + 1 := by omega
    have n5 : ¬ w1.heap.size + 1 = w.heap.size + 1 + 1 := by omega
    go_wp2_with fail
    go_region
    all_goals
      go_wp2
      refine bodyPost_ret (v := .tuple #[.agg #[.slice A1 4 c1, .slice B1 4 d1, .slice C1 4 f1], .agg #[.int .i64 P.peer, .int .i64 P.lane, .int .i64 P.size, .int .i64 P.id], .bool true]) (by simp [results, Try.results17, go_sem, o0, o1, o2, k0, k1, k2, k3]) rfl ⟨A1, c1, B1, d1, C1, f1, by rw [HP.out], ?_, ?_⟩
      · refine lax_lr (X := fun b => w.heap.size + 3 ≤ b) ?_
        repeat (first | (with_reducible refine lax_drewN ?_ _) | (with_reducible refine lax_drew ?_))
        iterate 7 (with_reducible refine lax_set ?_ (by simp <;> omega) _)
        exact X3.out
      · repeat (first | (with_reducible refine below_drewN ?_ _) | (with_reducible refine Below.drew ?_))
        iterate 7 (with_reducible refine Below.setCell ?_ (by simp <;> omega) _)
        exact FB.out
  · exact absurd (turn_has HK.out.2) (hj i)
end Go.Proofs.Ytkmoiphcpmhacaa
