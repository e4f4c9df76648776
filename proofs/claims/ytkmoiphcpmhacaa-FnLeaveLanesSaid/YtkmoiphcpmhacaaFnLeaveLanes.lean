/-
  The law FnLeaveLanes returns true at every argument: what leaves is what waits of the peer in each lane. Conditions: none.
-/
import Derived.Test.YtkmoiphcpmhacaaKb
import Derived.Test.YtkmoiphcpmhacaaKy
import Derived.Test.YtkmoiphcpmhacaaKw
import Derived.Test.YtkmoiphcpmhacaaMay
import Derived.Test.YtkmoiphcpmhacaaLifts
import Derived.Test.YtkmoiphcpmhacaaMake
namespace Go.Proofs.Ytkmoiphcpmhacaa.fnLeaveLanes
open Go.ChangeShapes Go.WideShapes Go.ChangeAt Go.RowKit

theorem app_below {w w1 w2 : World} {base : Nat} {v : Value} {n : Nat} {xs : List Value} {e : TypeId} (ho : w1.ownsRow base e 4 v n xs) (hb : Below base w w1) (hg : w1.grownBy w2 v.ownBlock) (hs : base ≤ w1.heap.size) : Below base w w2 :=
  hb.grown hg hs fun k hk => (ho.lt k hk).1
def LlRel (w : World) (l : Ln) (x : Int) (al i : Value) (wr : World) : Prop :=
  ∃ (k : Nat) (A : Option Addr) (N c : Nat), k ≤ 4 ∧ al = .slice A N c ∧ i = .int .i64 (k : Int) ∧ wr.ownsRow w.heap.size 29 4 (.slice A N c) N (pcells (goneR l.rs x k)) ∧ N = (goneR l.rs x k).length ∧ Below w.heap.size w wr
set_option maxRecDepth 100000 in
set_option maxHeartbeats 8000000 in
theorem walk (A : Option Addr) (n c : Nat) (w : World) (h : Bytes w A n c) :
    Calls Try.prog 7 #[.slice A n c] w fun e w' => e = .returned (.bool true) ∧ Below w.heap.size w w' := by
  have HB := Lib.hid h
  clear h
  by_cases hbig : ¬ n ≤ 1048576
  · go_enter Try.func7, Try.ntmps7
    go_wp2
    go_ret
    exact ⟨rfl, Below.refl _ _⟩
  have hbig' : n ≤ 1048576 := by omega
  clear hbig
  go_enter Try.func7, Try.ntmps7
  go_wp2_with fail
  refine (drawLeaveLanes_any A n c _ HB.out).mono ?_
  rintro e w1 ⟨A1, n1, c1, J1, d1, C1, f1, l, x, rfl, hx1, hl, hb⟩
  obtain ⟨hc1, hf1⟩ := bcell hb
  have B1 := Lib.hid (show Below w.heap.size w w1 from (by first | exact below_seq (Below.refl w.heap.size w) hb | exact below_seq1 (Below.refl w.heap.size w) hb | exact below_seq2 (Below.refl w.heap.size w) hb | exact below_seq3 (Below.refl w.heap.size w) hb | exact below_seq4 (Below.refl w.heap.size w) hb))
  have R1 := Lib.hid hb
  have hz1 := hb.size
  try simp at hz1
  clear hb
  have H := Lib.hid hl
  clear hl
  by_cases hk : LlOk l x
  · have HOK := Lib.hid hk
    clear hk
    obtain ⟨l2, hl2⟩ : ∃ l2, l2 = (lvN l x) := ⟨_, rfl⟩
    obtain ⟨ps, hps⟩ : ∃ ps, ps = (gone l x) := ⟨_, rfl⟩
    have HL2 := Lib.hid hl2
    have HPS := Lib.hid hps
    clear hl2 hps
    go_wp2_with fail
    refine (llI_rd A1 n1 c1 J1 4 d1 C1 4 f1 l _ (by first | with_reducible exact H.out | with_reducible exact lr_alloc H.out _ | with_reducible exact lr_alloc (lr_alloc H.out _) _ | with_reducible exact lr_alloc (lr_alloc (lr_alloc H.out _) _) _) x HOK.out).mono ?_
    rintro e w2 ⟨A2, n2, c2, J2, m2, d2, C2, o2, f2, D2, t2, e2, rfl, hx, hp, q2, hb⟩
    obtain ⟨hc2, hf2⟩ := bcell hb
    have B2 := Lib.hid (show Below w.heap.size w w2 from (by first | exact below_seq B1.out hb | exact below_seq1 B1.out hb | exact below_seq2 B1.out hb | exact below_seq3 B1.out hb | exact below_seq4 B1.out hb))
    have R2 := Lib.hid hb
    have hz2 := hb.size
    try simp at hz2
    clear hb
    try have y20 : w.heap.size < w2.heap.size := by omega
    try have y20a : w.heap.size + 1 < w2.heap.size := by omega
    try have y20b : w.heap.size < w2.heap.size + 1 + 1 := by omega
    try have y20c : w.heap.size + 1 < w2.heap.size + 1 + 1 := by omega
    try have y21 : w1.heap.size < w2.heap.size := by omega
    try have y21a : w1.heap.size + 1 < w2.heap.size := by omega
    try have y21b : w1.heap.size < w2.heap.size + 1 + 1 := by omega
    try have y21c : w1.heap.size + 1 < w2.heap.size + 1 + 1 := by omega
    rw [← HL2.out] at hx
    rw [← HPS.out] at hp
    have X := Lib.hid hx
    have G := Lib.hid hp
    clear hx hp
    replace H := Lib.hid (show LR w2 _ _ _ _ _ _ _ from (by first | with_reducible exact lr_below H.out R2.out | with_reducible exact lr_below (lr_alloc H.out _) R2.out | with_reducible exact lr_below (lr_alloc (lr_alloc H.out _) _) R2.out | with_reducible exact lr_below (lr_alloc (lr_alloc (lr_alloc H.out _) _) _) R2.out))
    go_wp2_with fail
    refine (llS_rd A1 n1 c1 J1 4 d1 C1 4 f1 l _ (by first | with_reducible exact H.out | with_reducible exact lr_alloc H.out _ | with_reducible exact lr_alloc (lr_alloc H.out _) _ | with_reducible exact lr_alloc (lr_alloc (lr_alloc H.out _) _) _) x HOK.out).mono ?_
    rintro e w3 ⟨A3, n3, c3, J3, m3, d3, C3, o3, f3, D3, t3, e3, rfl, hx, hp, q3, hb⟩
    obtain ⟨hc3, hf3⟩ := bcell hb
    have B3 := Lib.hid (show Below w.heap.size w w3 from (by first | exact below_seq B2.out hb | exact below_seq1 B2.out hb | exact below_seq2 B2.out hb | exact below_seq3 B2.out hb | exact below_seq4 B2.out hb))
    have R3 := Lib.hid hb
    have hz3 := hb.size
    try simp at hz3
    clear hb
    try have y30 : w.heap.size < w3.heap.size := by omega
    try have y30a : w.heap.size + 1 < w3.heap.size := by omega
    try have y30b : w.heap.size < w3.heap.size + 1 + 1 := by omega
    try have y30c : w.heap.size + 1 < w3.heap.size + 1 + 1 := by omega
    try have y31 : w1.heap.size < w3.heap.size := by omega
    try have y31a : w1.heap.size + 1 < w3.heap.size := by omega
    try have y31b : w1.heap.size < w3.heap.size + 1 + 1 := by omega
    try have y31c : w1.heap.size + 1 < w3.heap.size + 1 + 1 := by omega
    try have y32 : w2.heap.size < w3.heap.size := by omega
    try have y32a : w2.heap.size + 1 < w3.heap.size := by omega
    try have y32b : w2.heap.size < w3.heap.size + 1 + 1 := by omega
    try have y32c : w2.heap.size + 1 < w3.heap.size + 1 + 1 := by omega
    rw [← HL2.out] at hx
    rw [← HPS.out] at hp
    have Y := Lib.hid hx
    have K := Lib.hid hp
    clear hx hp
    replace H := Lib.hid (show LR w3 _ _ _ _ _ _ _ from (by first | with_reducible exact lr_below H.out R3.out | with_reducible exact lr_below (lr_alloc H.out _) R3.out | with_reducible exact lr_below (lr_alloc (lr_alloc H.out _) _) R3.out | with_reducible exact lr_below (lr_alloc (lr_alloc (lr_alloc H.out _) _) _) R3.out))
    replace X := Lib.hid (show LR w3 _ _ _ _ _ _ _ from (by first | with_reducible exact lr_below X.out R3.out | with_reducible exact lr_below (lr_alloc X.out _) R3.out | with_reducible exact lr_below (lr_alloc (lr_alloc X.out _) _) R3.out | with_reducible exact lr_below (lr_alloc (lr_alloc (lr_alloc X.out _) _) _) R3.out))
    replace G := Lib.hid (show PR w3 _ _ _ from (by first | with_reducible exact pr_below G.out R3.out | with_reducible exact pr_below (pr_alloc G.out _) R3.out | with_reducible exact pr_below (pr_alloc (pr_alloc G.out _) _) R3.out | with_reducible exact pr_below (pr_alloc (pr_alloc (pr_alloc G.out _) _) _) R3.out))
    go_wp2_with fail
    refine (sameLI_any A2 n2 c2 J2 m2 d2 C2 o2 f2 l2 A3 n3 c3 J3 m3 d3 C3 o3 f3 l2 _ (by first | with_reducible exact X.out | with_reducible exact lr_alloc X.out _ | with_reducible exact lr_alloc (lr_alloc X.out _) _ | with_reducible exact lr_alloc (lr_alloc (lr_alloc X.out _) _) _) (by first | with_reducible exact Y.out | with_reducible exact lr_alloc Y.out _ | with_reducible exact lr_alloc (lr_alloc Y.out _) _ | with_reducible exact lr_alloc (lr_alloc (lr_alloc Y.out _) _) _)).mono ?_
    rintro e w4 ⟨rfl, hb⟩
    obtain ⟨hc4, hf4⟩ := bcell hb
    have B4 := Lib.hid (show Below w.heap.size w w4 from (by first | exact below_seq B3.out hb | exact below_seq1 B3.out hb | exact below_seq2 B3.out hb | exact below_seq3 B3.out hb | exact below_seq4 B3.out hb))
    have R4 := Lib.hid hb
    have hz4 := hb.size
    try simp at hz4
    clear hb
    try have y40 : w.heap.size < w4.heap.size := by omega
    try have y40a : w.heap.size + 1 < w4.heap.size := by omega
    try have y40b : w.heap.size < w4.heap.size + 1 + 1 := by omega
    try have y40c : w.heap.size + 1 < w4.heap.size + 1 + 1 := by omega
    try have y41 : w1.heap.size < w4.heap.size := by omega
    try have y41a : w1.heap.size + 1 < w4.heap.size := by omega
    try have y41b : w1.heap.size < w4.heap.size + 1 + 1 := by omega
    try have y41c : w1.heap.size + 1 < w4.heap.size + 1 + 1 := by omega
    try have y42 : w2.heap.size < w4.heap.size := by omega
    try have y42a : w2.heap.size + 1 < w4.heap.size := by omega
    try have y42b : w2.heap.size < w4.heap.size + 1 + 1 := by omega
    try have y42c : w2.heap.size + 1 < w4.heap.size + 1 + 1 := by omega
    try have y43 : w3.heap.size < w4.heap.size := by omega
    try have y43a : w3.heap.size + 1 < w4.heap.size := by omega
    try have y43b : w3.heap.size < w4.heap.size + 1 + 1 := by omega
    try have y43c : w3.heap.size + 1 < w4.heap.size + 1 + 1 := by omega
    rw [ls_refl]
    replace H := Lib.hid (show LR w4 _ _ _ _ _ _ _ from (by first | with_reducible exact lr_below H.out R4.out | with_reducible exact lr_below (lr_alloc H.out _) R4.out | with_reducible exact lr_below (lr_alloc (lr_alloc H.out _) _) R4.out | with_reducible exact lr_below (lr_alloc (lr_alloc (lr_alloc H.out _) _) _) R4.out))
    replace X := Lib.hid (show LR w4 _ _ _ _ _ _ _ from (by first | with_reducible exact lr_below X.out R4.out | with_reducible exact lr_below (lr_alloc X.out _) R4.out | with_reducible exact lr_below (lr_alloc (lr_alloc X.out _) _) R4.out | with_reducible exact lr_below (lr_alloc (lr_alloc (lr_alloc X.out _) _) _) R4.out))
    replace G := Lib.hid (show PR w4 _ _ _ from (by first | with_reducible exact pr_below G.out R4.out | with_reducible exact pr_below (pr_alloc G.out _) R4.out | with_reducible exact pr_below (pr_alloc (pr_alloc G.out _) _) R4.out | with_reducible exact pr_below (pr_alloc (pr_alloc (pr_alloc G.out _) _) _) R4.out))
    replace K := Lib.hid (show PR w4 _ _ _ from (by first | with_reducible exact pr_below K.out R4.out | with_reducible exact pr_below (pr_alloc K.out _) R4.out | with_reducible exact pr_below (pr_alloc (pr_alloc K.out _) _) R4.out | with_reducible exact pr_below (pr_alloc (pr_alloc (pr_alloc K.out _) _) _) R4.out))
    clear Y
    go_wp2_with fail
    refine (sameI_any D2 D3 t2 e2 t3 e3 ps ps _ (by first | with_reducible exact G.out | with_reducible exact pr_alloc G.out _ | with_reducible exact pr_alloc (pr_alloc G.out _) _ | with_reducible exact pr_alloc (pr_alloc (pr_alloc G.out _) _) _) (by first | with_reducible exact K.out | with_reducible exact pr_alloc K.out _ | with_reducible exact pr_alloc (pr_alloc K.out _) _ | with_reducible exact pr_alloc (pr_alloc (pr_alloc K.out _) _) _) (by omega) (by omega)).mono ?_
    rintro e w5 ⟨rfl, hb⟩
    obtain ⟨hc5, hf5⟩ := bcell hb
    have B5 := Lib.hid (show Below w.heap.size w w5 from (by first | exact below_seq B4.out hb | exact below_seq1 B4.out hb | exact below_seq2 B4.out hb | exact below_seq3 B4.out hb | exact below_seq4 B4.out hb))
    have R5 := Lib.hid hb
    have hz5 := hb.size
    try simp at hz5
    clear hb
    try have y50 : w.heap.size < w5.heap.size := by omega
    try have y50a : w.heap.size + 1 < w5.heap.size := by omega
    try have y50b : w.heap.size < w5.heap.size + 1 + 1 := by omega
    try have y50c : w.heap.size + 1 < w5.heap.size + 1 + 1 := by omega
    try have y51 : w1.heap.size < w5.heap.size := by omega
    try have y51a : w1.heap.size + 1 < w5.heap.size := by omega
    try have y51b : w1.heap.size < w5.heap.size + 1 + 1 := by omega
    try have y51c : w1.heap.size + 1 < w5.heap.size + 1 + 1 := by omega
    try have y52 : w2.heap.size < w5.heap.size := by omega
    try have y52a : w2.heap.size + 1 < w5.heap.size := by omega
    try have y52b : w2.heap.size < w5.heap.size + 1 + 1 := by omega
    try have y52c : w2.heap.size + 1 < w5.heap.size + 1 + 1 := by omega
    try have y53 : w3.heap.size < w5.heap.size := by omega
    try have y53a : w3.heap.size + 1 < w5.heap.size := by omega
    try have y53b : w3.heap.size < w5.heap.size + 1 + 1 := by omega
    try have y53c : w3.heap.size + 1 < w5.heap.size + 1 + 1 := by omega
    try have y54 : w4.heap.size < w5.heap.size := by omega
    try have y54a : w4.heap.size + 1 < w5.heap.size := by omega
    try have y54b : w4.heap.size < w5.heap.size + 1 + 1 := by omega
    try have y54c : w4.heap.size + 1 < w5.heap.size + 1 + 1 := by omega
    rw [← same_yes rfl]
    replace H := Lib.hid (show LR w5 _ _ _ _ _ _ _ from (by first | with_reducible exact lr_below H.out R5.out | with_reducible exact lr_below (lr_alloc H.out _) R5.out | with_reducible exact lr_below (lr_alloc (lr_alloc H.out _) _) R5.out | with_reducible exact lr_below (lr_alloc (lr_alloc (lr_alloc H.out _) _) _) R5.out))
    replace X := Lib.hid (show LR w5 _ _ _ _ _ _ _ from (by first | with_reducible exact lr_below X.out R5.out | with_reducible exact lr_below (lr_alloc X.out _) R5.out | with_reducible exact lr_below (lr_alloc (lr_alloc X.out _) _) R5.out | with_reducible exact lr_below (lr_alloc (lr_alloc (lr_alloc X.out _) _) _) R5.out))
    replace G := Lib.hid (show PR w5 _ _ _ from (by first | with_reducible exact pr_below G.out R5.out | with_reducible exact pr_below (pr_alloc G.out _) R5.out | with_reducible exact pr_below (pr_alloc (pr_alloc G.out _) _) R5.out | with_reducible exact pr_below (pr_alloc (pr_alloc (pr_alloc G.out _) _) _) R5.out))
    clear K

    have HV2 := Lib.hid (show LV l2 by rw [HL2.out]; exact lv_leaveN HOK.out.1 x)
    have HO2 := Lib.hid (show LlOk l2 x from ⟨HV2.out, HOK.out.2⟩)
    obtain rfl : n1 = 4 := (lr_four H.out HOK.out.1).1
    have HTW := Lib.hid (show lvN l2 x = l2 by rw [HL2.out]; exact lvN_twice HOK.out.1 x)
    have HGN := Lib.hid (show gone l2 x = [] by rw [HL2.out]; exact gone_none HOK.out.1 x)
    have R0 : Hid (LlRel w5 l x (.slice (some ⟨w5.heap.size, 0, none⟩) 0 0) (.int .i64 0) (w5.alloc (.cells #[] 29))) := Lib.hid ⟨0, _, 0, 0, by omega, rfl, rfl, own_empty (Below.refl _ _), rfl, below_alloc (Below.refl _ _) _⟩
    go_wp2_with fail
    go_loopw [11, 12] (fun al i wr => LlRel w5 l x al i wr) (fun _ i _ => 4 - (intOf i).toNat)
    case atStart => exact R0.out
    case round =>
      obtain ⟨k, At, N, ct, hk4, rfl, rfl, ho, hN, hbl⟩ := hrel
      have HBl := Lib.hid hbl
      have O := Lib.hid ho
      have hN1 := gone_few HOK.out.1 x k
      rw [← hN] at hN1
      have HN := Lib.hid hN
      clear R0 ho hbl hN
      obtain ⟨hcx, hfx⟩ := bcell HBl.out
      have hzx := HBl.out.size
      have yx0 : w.heap.size < wr.heap.size := by omega
      have yx1 : w1.heap.size < wr.heap.size := by omega
      have yx2 : w2.heap.size < wr.heap.size := by omega
      have yx3 : w3.heap.size < wr.heap.size := by omega
      by_cases hlt : k < 4
      · obtain ⟨b, off, r, A8, n8, c8, rfl, hb, hr, e0, e1, hfr⟩ := rr_at (lr_below H.out HBl.out).r hlt
        have HRr := Lib.hid hr
        have HFR := Lib.hid hfr
        have RVr := Lib.hid (HOK.out.1.rb k r hr).rv
        have hN2 := w_len64 RVr.out x
        have k0 : (0 : Int) ≤ (k : Int) := by omega
        have k1 : (k : Int) < (4 : Int) := by omega
        clear hr hfr
        go_wp2_with (first
          | (go_at_call 33
             refine (woI_yes r.q A8 n8 c8 r.fs x _ HFR.out ⟨RVr.out, HOK.out.2⟩).mono ?_
             rintro e w8 ⟨D8, m8, d8, rfl, hm8, ho8, hb8⟩
             have B8 := Lib.hid (below_seq HBl.out hb8)
             have O8 := Lib.hid (own_below O.out hb8)
             have U8 := Lib.hid (pr_own ho8)
             have hz8 := hb8.size
             have HM8 := Lib.hid hm8
             have hm64 : m8 ≤ 64 := by omega
             clear hm8 ho8 hb8)
          | (at_builtin
             refine wpl_app_pkts _ rfl (.tmp 87) (.tmp 88) rfl w5.heap.size (.slice At N ct) N (goneR l.rs x k) rfl O8.out D8 m8 d8 (wOf r.fs x) rfl U8.out (by omega) (by omega) ?_
             intro v9 w9 ho9 hg9 hat9
             have B9 := Lib.hid (app_below O8.out B8.out hg9 (by omega))
             obtain ⟨A9, c9, rfl, -, -, -⟩ := own_form ho9
             have O9 := Lib.hid ho9
             clear ho9 hg9 hat9))
        go_roundw
        case rel => exact ⟨k + 1, A9, N + m8, c9, by omega, rfl, by go_num, by rw [gone_step HRr.out x]; exact O9.out, by rw [gone_step HRr.out x, List.length_append, ← HN.out, HM8.out], B9.out⟩
        case measure => simp [intOf]; omega
      · obtain rfl : k = 4 := by omega
        have PA := Lib.hid (show PR wr At N ps by rw [HPS.out, ← gone_all HOK.out.1 x]; exact pr_own O.out)
        have Bx := Lib.hid (below_seq B5.out HBl.out)
        replace X := Lib.hid (lr_below X.out HBl.out)
        replace G := Lib.hid (pr_below G.out HBl.out)
        clear O HN HBl H
        go_wp2_with fail
        refine (llI_rd A2 n2 c2 J2 m2 d2 C2 o2 f2 l2 _ (by first | with_reducible exact X.out | with_reducible exact lr_alloc X.out _ | with_reducible exact lr_alloc (lr_alloc X.out _) _ | with_reducible exact lr_alloc (lr_alloc (lr_alloc X.out _) _) _) x HO2.out).mono ?_
        rintro e w6 ⟨A6, n6, c6, J6, m6, d6, C6, o6, f6, D6, t6, e6, rfl, hx, hp, q6, hb⟩
        obtain ⟨hc6, hf6⟩ := bcell hb
        have B6 := Lib.hid (show Below w.heap.size w w6 from (by first | exact below_seq Bx.out hb | exact below_seq1 Bx.out hb | exact below_seq2 Bx.out hb | exact below_seq3 Bx.out hb | exact below_seq4 Bx.out hb))
        have R6 := Lib.hid hb
        have hz6 := hb.size
        try simp at hz6
        clear hb
        try have y60 : w.heap.size < w6.heap.size := by omega
        try have y60a : w.heap.size + 1 < w6.heap.size := by omega
        try have y60b : w.heap.size < w6.heap.size + 1 + 1 := by omega
        try have y60c : w.heap.size + 1 < w6.heap.size + 1 + 1 := by omega
        try have y61 : w1.heap.size < w6.heap.size := by omega
        try have y61a : w1.heap.size + 1 < w6.heap.size := by omega
        try have y61b : w1.heap.size < w6.heap.size + 1 + 1 := by omega
        try have y61c : w1.heap.size + 1 < w6.heap.size + 1 + 1 := by omega
        try have y62 : w2.heap.size < w6.heap.size := by omega
        try have y62a : w2.heap.size + 1 < w6.heap.size := by omega
        try have y62b : w2.heap.size < w6.heap.size + 1 + 1 := by omega
        try have y62c : w2.heap.size + 1 < w6.heap.size + 1 + 1 := by omega
        try have y63 : w3.heap.size < w6.heap.size := by omega
        try have y63a : w3.heap.size + 1 < w6.heap.size := by omega
        try have y63b : w3.heap.size < w6.heap.size + 1 + 1 := by omega
        try have y63c : w3.heap.size + 1 < w6.heap.size + 1 + 1 := by omega
        try have y64 : w4.heap.size < w6.heap.size := by omega
        try have y64a : w4.heap.size + 1 < w6.heap.size := by omega
        try have y64b : w4.heap.size < w6.heap.size + 1 + 1 := by omega
        try have y64c : w4.heap.size + 1 < w6.heap.size + 1 + 1 := by omega
        try have y65 : w5.heap.size < w6.heap.size := by omega
        try have y65a : w5.heap.size + 1 < w6.heap.size := by omega
        try have y65b : w5.heap.size < w6.heap.size + 1 + 1 := by omega
        try have y65c : w5.heap.size + 1 < w6.heap.size + 1 + 1 := by omega
        rw [HTW.out] at hx
        rw [HGN.out] at hp
        have V := Lib.hid hx
        have t60 : t6 = 0 := hp.1.symm
        subst t60
        clear hx hp
        have yz1 : w1.heap.size < w6.heap.size := by omega
        have yz2 : w2.heap.size < w6.heap.size := by omega
        have R6' := R6
        replace X := Lib.hid (lr_below X.out R6.out)
        replace G := Lib.hid (pr_below G.out R6.out)
        replace PA := Lib.hid (pr_below PA.out R6.out)
        clear R6'
        go_wp2_with fail
        refine (lanI_any A2 n2 c2 J2 m2 d2 C2 o2 f2 l2 _ (by first | with_reducible exact X.out | with_reducible exact lr_alloc X.out _ | with_reducible exact lr_alloc (lr_alloc X.out _) _ | with_reducible exact lr_alloc (lr_alloc (lr_alloc X.out _) _) _)).mono ?_
        rintro e w7 ⟨rfl, hb⟩
        obtain ⟨hc7, hf7⟩ := bcell hb
        have B7 := Lib.hid (show Below w.heap.size w w7 from (by first | exact below_seq B6.out hb | exact below_seq1 B6.out hb | exact below_seq2 B6.out hb | exact below_seq3 B6.out hb | exact below_seq4 B6.out hb))
        have R7 := Lib.hid hb
        have hz7 := hb.size
        try simp at hz7
        clear hb
        try have y70 : w.heap.size < w7.heap.size := by omega
        try have y70a : w.heap.size + 1 < w7.heap.size := by omega
        try have y70b : w.heap.size < w7.heap.size + 1 + 1 := by omega
        try have y70c : w.heap.size + 1 < w7.heap.size + 1 + 1 := by omega
        try have y71 : w1.heap.size < w7.heap.size := by omega
        try have y71a : w1.heap.size + 1 < w7.heap.size := by omega
        try have y71b : w1.heap.size < w7.heap.size + 1 + 1 := by omega
        try have y71c : w1.heap.size + 1 < w7.heap.size + 1 + 1 := by omega
        try have y72 : w2.heap.size < w7.heap.size := by omega
        try have y72a : w2.heap.size + 1 < w7.heap.size := by omega
        try have y72b : w2.heap.size < w7.heap.size + 1 + 1 := by omega
        try have y72c : w2.heap.size + 1 < w7.heap.size + 1 + 1 := by omega
        try have y73 : w3.heap.size < w7.heap.size := by omega
        try have y73a : w3.heap.size + 1 < w7.heap.size := by omega
        try have y73b : w3.heap.size < w7.heap.size + 1 + 1 := by omega
        try have y73c : w3.heap.size + 1 < w7.heap.size + 1 + 1 := by omega
        try have y74 : w4.heap.size < w7.heap.size := by omega
        try have y74a : w4.heap.size + 1 < w7.heap.size := by omega
        try have y74b : w4.heap.size < w7.heap.size + 1 + 1 := by omega
        try have y74c : w4.heap.size + 1 < w7.heap.size + 1 + 1 := by omega
        try have y75 : w5.heap.size < w7.heap.size := by omega
        try have y75a : w5.heap.size + 1 < w7.heap.size := by omega
        try have y75b : w5.heap.size < w7.heap.size + 1 + 1 := by omega
        try have y75c : w5.heap.size + 1 < w7.heap.size + 1 + 1 := by omega
        try have y76 : w6.heap.size < w7.heap.size := by omega
        try have y76a : w6.heap.size + 1 < w7.heap.size := by omega
        try have y76b : w6.heap.size < w7.heap.size + 1 + 1 := by omega
        try have y76c : w6.heap.size + 1 < w7.heap.size + 1 + 1 := by omega
        rw [lv_yes HV2.out]
        replace X := Lib.hid (show LR w7 _ _ _ _ _ _ _ from (by first | with_reducible exact lr_below X.out R7.out | with_reducible exact lr_below (lr_alloc X.out _) R7.out | with_reducible exact lr_below (lr_alloc (lr_alloc X.out _) _) R7.out | with_reducible exact lr_below (lr_alloc (lr_alloc (lr_alloc X.out _) _) _) R7.out))
        replace V := Lib.hid (show LR w7 _ _ _ _ _ _ _ from (by first | with_reducible exact lr_below V.out R7.out | with_reducible exact lr_below (lr_alloc V.out _) R7.out | with_reducible exact lr_below (lr_alloc (lr_alloc V.out _) _) R7.out | with_reducible exact lr_below (lr_alloc (lr_alloc (lr_alloc V.out _) _) _) R7.out))
        replace G := Lib.hid (show PR w7 _ _ _ from (by first | with_reducible exact pr_below G.out R7.out | with_reducible exact pr_below (pr_alloc G.out _) R7.out | with_reducible exact pr_below (pr_alloc (pr_alloc G.out _) _) R7.out | with_reducible exact pr_below (pr_alloc (pr_alloc (pr_alloc G.out _) _) _) R7.out))
        replace PA := Lib.hid (show PR w7 _ _ _ from (by first | with_reducible exact pr_below PA.out R7.out | with_reducible exact pr_below (pr_alloc PA.out _) R7.out | with_reducible exact pr_below (pr_alloc (pr_alloc PA.out _) _) R7.out | with_reducible exact pr_below (pr_alloc (pr_alloc (pr_alloc PA.out _) _) _) R7.out))
        go_wp2_with fail
        refine (sameI_any At D2 N ct t2 e2 ps ps _ (by first | with_reducible exact PA.out | with_reducible exact pr_alloc PA.out _ | with_reducible exact pr_alloc (pr_alloc PA.out _) _ | with_reducible exact pr_alloc (pr_alloc (pr_alloc PA.out _) _) _) (by first | with_reducible exact G.out | with_reducible exact pr_alloc G.out _ | with_reducible exact pr_alloc (pr_alloc G.out _) _ | with_reducible exact pr_alloc (pr_alloc (pr_alloc G.out _) _) _) (by omega) (by omega)).mono ?_
        rintro e w8 ⟨rfl, hb⟩
        obtain ⟨hc8, hf8⟩ := bcell hb
        have B8 := Lib.hid (show Below w.heap.size w w8 from (by first | exact below_seq B7.out hb | exact below_seq1 B7.out hb | exact below_seq2 B7.out hb | exact below_seq3 B7.out hb | exact below_seq4 B7.out hb))
        have R8 := Lib.hid hb
        have hz8 := hb.size
        try simp at hz8
        clear hb
        try have y80 : w.heap.size < w8.heap.size := by omega
        try have y80a : w.heap.size + 1 < w8.heap.size := by omega
        try have y80b : w.heap.size < w8.heap.size + 1 + 1 := by omega
        try have y80c : w.heap.size + 1 < w8.heap.size + 1 + 1 := by omega
        try have y81 : w1.heap.size < w8.heap.size := by omega
        try have y81a : w1.heap.size + 1 < w8.heap.size := by omega
        try have y81b : w1.heap.size < w8.heap.size + 1 + 1 := by omega
        try have y81c : w1.heap.size + 1 < w8.heap.size + 1 + 1 := by omega
        try have y82 : w2.heap.size < w8.heap.size := by omega
        try have y82a : w2.heap.size + 1 < w8.heap.size := by omega
        try have y82b : w2.heap.size < w8.heap.size + 1 + 1 := by omega
        try have y82c : w2.heap.size + 1 < w8.heap.size + 1 + 1 := by omega
        try have y83 : w3.heap.size < w8.heap.size := by omega
        try have y83a : w3.heap.size + 1 < w8.heap.size := by omega
        try have y83b : w3.heap.size < w8.heap.size + 1 + 1 := by omega
        try have y83c : w3.heap.size + 1 < w8.heap.size + 1 + 1 := by omega
        try have y84 : w4.heap.size < w8.heap.size := by omega
        try have y84a : w4.heap.size + 1 < w8.heap.size := by omega
        try have y84b : w4.heap.size < w8.heap.size + 1 + 1 := by omega
        try have y84c : w4.heap.size + 1 < w8.heap.size + 1 + 1 := by omega
        try have y85 : w5.heap.size < w8.heap.size := by omega
        try have y85a : w5.heap.size + 1 < w8.heap.size := by omega
        try have y85b : w5.heap.size < w8.heap.size + 1 + 1 := by omega
        try have y85c : w5.heap.size + 1 < w8.heap.size + 1 + 1 := by omega
        try have y86 : w6.heap.size < w8.heap.size := by omega
        try have y86a : w6.heap.size + 1 < w8.heap.size := by omega
        try have y86b : w6.heap.size < w8.heap.size + 1 + 1 := by omega
        try have y86c : w6.heap.size + 1 < w8.heap.size + 1 + 1 := by omega
        try have y87 : w7.heap.size < w8.heap.size := by omega
        try have y87a : w7.heap.size + 1 < w8.heap.size := by omega
        try have y87b : w7.heap.size < w8.heap.size + 1 + 1 := by omega
        try have y87c : w7.heap.size + 1 < w8.heap.size + 1 + 1 := by omega
        rw [← same_yes rfl]
        replace X := Lib.hid (show LR w8 _ _ _ _ _ _ _ from (by first | with_reducible exact lr_below X.out R8.out | with_reducible exact lr_below (lr_alloc X.out _) R8.out | with_reducible exact lr_below (lr_alloc (lr_alloc X.out _) _) R8.out | with_reducible exact lr_below (lr_alloc (lr_alloc (lr_alloc X.out _) _) _) R8.out))
        replace V := Lib.hid (show LR w8 _ _ _ _ _ _ _ from (by first | with_reducible exact lr_below V.out R8.out | with_reducible exact lr_below (lr_alloc V.out _) R8.out | with_reducible exact lr_below (lr_alloc (lr_alloc V.out _) _) R8.out | with_reducible exact lr_below (lr_alloc (lr_alloc (lr_alloc V.out _) _) _) R8.out))
        clear G PA
        go_wp2_with fail
        refine (sameLI_any A6 n6 c6 J6 m6 d6 C6 o6 f6 l2 A2 n2 c2 J2 m2 d2 C2 o2 f2 l2 _ (by first | with_reducible exact V.out | with_reducible exact lr_alloc V.out _ | with_reducible exact lr_alloc (lr_alloc V.out _) _ | with_reducible exact lr_alloc (lr_alloc (lr_alloc V.out _) _) _) (by first | with_reducible exact X.out | with_reducible exact lr_alloc X.out _ | with_reducible exact lr_alloc (lr_alloc X.out _) _ | with_reducible exact lr_alloc (lr_alloc (lr_alloc X.out _) _) _)).mono ?_
        rintro e w9 ⟨rfl, hb⟩
        obtain ⟨hc9, hf9⟩ := bcell hb
        have B9 := Lib.hid (show Below w.heap.size w w9 from (by first | exact below_seq B8.out hb | exact below_seq1 B8.out hb | exact below_seq2 B8.out hb | exact below_seq3 B8.out hb | exact below_seq4 B8.out hb))
        have R9 := Lib.hid hb
        have hz9 := hb.size
        try simp at hz9
        clear hb
        try have y90 : w.heap.size < w9.heap.size := by omega
        try have y90a : w.heap.size + 1 < w9.heap.size := by omega
        try have y90b : w.heap.size < w9.heap.size + 1 + 1 := by omega
        try have y90c : w.heap.size + 1 < w9.heap.size + 1 + 1 := by omega
        try have y91 : w1.heap.size < w9.heap.size := by omega
        try have y91a : w1.heap.size + 1 < w9.heap.size := by omega
        try have y91b : w1.heap.size < w9.heap.size + 1 + 1 := by omega
        try have y91c : w1.heap.size + 1 < w9.heap.size + 1 + 1 := by omega
        try have y92 : w2.heap.size < w9.heap.size := by omega
        try have y92a : w2.heap.size + 1 < w9.heap.size := by omega
        try have y92b : w2.heap.size < w9.heap.size + 1 + 1 := by omega
        try have y92c : w2.heap.size + 1 < w9.heap.size + 1 + 1 := by omega
        try have y93 : w3.heap.size < w9.heap.size := by omega
        try have y93a : w3.heap.size + 1 < w9.heap.size := by omega
        try have y93b : w3.heap.size < w9.heap.size + 1 + 1 := by omega
        try have y93c : w3.heap.size + 1 < w9.heap.size + 1 + 1 := by omega
        try have y94 : w4.heap.size < w9.heap.size := by omega
        try have y94a : w4.heap.size + 1 < w9.heap.size := by omega
        try have y94b : w4.heap.size < w9.heap.size + 1 + 1 := by omega
        try have y94c : w4.heap.size + 1 < w9.heap.size + 1 + 1 := by omega
        try have y95 : w5.heap.size < w9.heap.size := by omega
        try have y95a : w5.heap.size + 1 < w9.heap.size := by omega
        try have y95b : w5.heap.size < w9.heap.size + 1 + 1 := by omega
        try have y95c : w5.heap.size + 1 < w9.heap.size + 1 + 1 := by omega
        try have y96 : w6.heap.size < w9.heap.size := by omega
        try have y96a : w6.heap.size + 1 < w9.heap.size := by omega
        try have y96b : w6.heap.size < w9.heap.size + 1 + 1 := by omega
        try have y96c : w6.heap.size + 1 < w9.heap.size + 1 + 1 := by omega
        try have y97 : w7.heap.size < w9.heap.size := by omega
        try have y97a : w7.heap.size + 1 < w9.heap.size := by omega
        try have y97b : w7.heap.size < w9.heap.size + 1 + 1 := by omega
        try have y97c : w7.heap.size + 1 < w9.heap.size + 1 + 1 := by omega
        try have y98 : w8.heap.size < w9.heap.size := by omega
        try have y98a : w8.heap.size + 1 < w9.heap.size := by omega
        try have y98b : w8.heap.size < w9.heap.size + 1 + 1 := by omega
        try have y98c : w8.heap.size + 1 < w9.heap.size + 1 + 1 := by omega
        rw [ls_refl]
        go_wp2
        all_goals
          go_ret
          refine ⟨rfl, ?_⟩
          repeat (first | with_reducible refine below_alloc ?_ _ | with_reducible refine Below.drew ?_ | with_reducible refine below_drewN ?_ _)
          exact B9.out

  · have HK := Lib.hid hk
    clear hk
    go_wp2_with fail
    refine (llI_rdno A1 n1 c1 J1 4 d1 C1 4 f1 l _ (by first | with_reducible exact H.out | with_reducible exact lr_alloc H.out _ | with_reducible exact lr_alloc (lr_alloc H.out _) _ | with_reducible exact lr_alloc (lr_alloc (lr_alloc H.out _) _) _) x HK.out).mono ?_
    rintro e w2 ⟨A2, n2, c2, J2, m2, d2, C2, o2, f2, D2, t2, e2, rfl, hx, hp, q2, hb⟩
    obtain ⟨hc2, hf2⟩ := bcell hb
    have B2 := Lib.hid (show Below w.heap.size w w2 from (by first | exact below_seq B1.out hb | exact below_seq1 B1.out hb | exact below_seq2 B1.out hb | exact below_seq3 B1.out hb | exact below_seq4 B1.out hb))
    have R2 := Lib.hid hb
    have hz2 := hb.size
    try simp at hz2
    clear hb
    try have y20 : w.heap.size < w2.heap.size := by omega
    try have y20a : w.heap.size + 1 < w2.heap.size := by omega
    try have y20b : w.heap.size < w2.heap.size + 1 + 1 := by omega
    try have y20c : w.heap.size + 1 < w2.heap.size + 1 + 1 := by omega
    try have y21 : w1.heap.size < w2.heap.size := by omega
    try have y21a : w1.heap.size + 1 < w2.heap.size := by omega
    try have y21b : w1.heap.size < w2.heap.size + 1 + 1 := by omega
    try have y21c : w1.heap.size + 1 < w2.heap.size + 1 + 1 := by omega
    have X := Lib.hid hx
    have G := Lib.hid hp
    clear hx hp
    replace H := Lib.hid (show LR w2 _ _ _ _ _ _ _ from (by first | with_reducible exact lr_below H.out R2.out | with_reducible exact lr_below (lr_alloc H.out _) R2.out | with_reducible exact lr_below (lr_alloc (lr_alloc H.out _) _) R2.out | with_reducible exact lr_below (lr_alloc (lr_alloc (lr_alloc H.out _) _) _) R2.out))
    go_wp2_with fail
    refine (llS_rdno A1 n1 c1 J1 4 d1 C1 4 f1 l _ (by first | with_reducible exact H.out | with_reducible exact lr_alloc H.out _ | with_reducible exact lr_alloc (lr_alloc H.out _) _ | with_reducible exact lr_alloc (lr_alloc (lr_alloc H.out _) _) _) x HK.out).mono ?_
    rintro e w3 ⟨A3, n3, c3, J3, m3, d3, C3, o3, f3, D3, t3, e3, rfl, hx, hp, q3, hb⟩
    obtain ⟨hc3, hf3⟩ := bcell hb
    have B3 := Lib.hid (show Below w.heap.size w w3 from (by first | exact below_seq B2.out hb | exact below_seq1 B2.out hb | exact below_seq2 B2.out hb | exact below_seq3 B2.out hb | exact below_seq4 B2.out hb))
    have R3 := Lib.hid hb
    have hz3 := hb.size
    try simp at hz3
    clear hb
    try have y30 : w.heap.size < w3.heap.size := by omega
    try have y30a : w.heap.size + 1 < w3.heap.size := by omega
    try have y30b : w.heap.size < w3.heap.size + 1 + 1 := by omega
    try have y30c : w.heap.size + 1 < w3.heap.size + 1 + 1 := by omega
    try have y31 : w1.heap.size < w3.heap.size := by omega
    try have y31a : w1.heap.size + 1 < w3.heap.size := by omega
    try have y31b : w1.heap.size < w3.heap.size + 1 + 1 := by omega
    try have y31c : w1.heap.size + 1 < w3.heap.size + 1 + 1 := by omega
    try have y32 : w2.heap.size < w3.heap.size := by omega
    try have y32a : w2.heap.size + 1 < w3.heap.size := by omega
    try have y32b : w2.heap.size < w3.heap.size + 1 + 1 := by omega
    try have y32c : w2.heap.size + 1 < w3.heap.size + 1 + 1 := by omega
    have Y := Lib.hid hx
    have K := Lib.hid hp
    clear hx hp
    replace X := Lib.hid (show LR w3 _ _ _ _ _ _ _ from (by first | with_reducible exact lr_below X.out R3.out | with_reducible exact lr_below (lr_alloc X.out _) R3.out | with_reducible exact lr_below (lr_alloc (lr_alloc X.out _) _) R3.out | with_reducible exact lr_below (lr_alloc (lr_alloc (lr_alloc X.out _) _) _) R3.out))
    replace G := Lib.hid (show PR w3 _ _ _ from (by first | with_reducible exact pr_below G.out R3.out | with_reducible exact pr_below (pr_alloc G.out _) R3.out | with_reducible exact pr_below (pr_alloc (pr_alloc G.out _) _) R3.out | with_reducible exact pr_below (pr_alloc (pr_alloc (pr_alloc G.out _) _) _) R3.out))
    go_wp2_with fail
    refine (sameLI_any A2 n2 c2 J2 m2 d2 C2 o2 f2 lnZ A3 n3 c3 J3 m3 d3 C3 o3 f3 lnZ _ (by first | with_reducible exact X.out | with_reducible exact lr_alloc X.out _ | with_reducible exact lr_alloc (lr_alloc X.out _) _ | with_reducible exact lr_alloc (lr_alloc (lr_alloc X.out _) _) _) (by first | with_reducible exact Y.out | with_reducible exact lr_alloc Y.out _ | with_reducible exact lr_alloc (lr_alloc Y.out _) _ | with_reducible exact lr_alloc (lr_alloc (lr_alloc Y.out _) _) _)).mono ?_
    rintro e w4 ⟨rfl, hb⟩
    obtain ⟨hc4, hf4⟩ := bcell hb
    have B4 := Lib.hid (show Below w.heap.size w w4 from (by first | exact below_seq B3.out hb | exact below_seq1 B3.out hb | exact below_seq2 B3.out hb | exact below_seq3 B3.out hb | exact below_seq4 B3.out hb))
    have R4 := Lib.hid hb
    have hz4 := hb.size
    try simp at hz4
    clear hb
    try have y40 : w.heap.size < w4.heap.size := by omega
    try have y40a : w.heap.size + 1 < w4.heap.size := by omega
    try have y40b : w.heap.size < w4.heap.size + 1 + 1 := by omega
    try have y40c : w.heap.size + 1 < w4.heap.size + 1 + 1 := by omega
    try have y41 : w1.heap.size < w4.heap.size := by omega
    try have y41a : w1.heap.size + 1 < w4.heap.size := by omega
    try have y41b : w1.heap.size < w4.heap.size + 1 + 1 := by omega
    try have y41c : w1.heap.size + 1 < w4.heap.size + 1 + 1 := by omega
    try have y42 : w2.heap.size < w4.heap.size := by omega
    try have y42a : w2.heap.size + 1 < w4.heap.size := by omega
    try have y42b : w2.heap.size < w4.heap.size + 1 + 1 := by omega
    try have y42c : w2.heap.size + 1 < w4.heap.size + 1 + 1 := by omega
    try have y43 : w3.heap.size < w4.heap.size := by omega
    try have y43a : w3.heap.size + 1 < w4.heap.size := by omega
    try have y43b : w3.heap.size < w4.heap.size + 1 + 1 := by omega
    try have y43c : w3.heap.size + 1 < w4.heap.size + 1 + 1 := by omega
    rw [ls_refl]
    replace X := Lib.hid (show LR w4 _ _ _ _ _ _ _ from (by first | with_reducible exact lr_below X.out R4.out | with_reducible exact lr_below (lr_alloc X.out _) R4.out | with_reducible exact lr_below (lr_alloc (lr_alloc X.out _) _) R4.out | with_reducible exact lr_below (lr_alloc (lr_alloc (lr_alloc X.out _) _) _) R4.out))
    replace Y := Lib.hid (show LR w4 _ _ _ _ _ _ _ from (by first | with_reducible exact lr_below Y.out R4.out | with_reducible exact lr_below (lr_alloc Y.out _) R4.out | with_reducible exact lr_below (lr_alloc (lr_alloc Y.out _) _) R4.out | with_reducible exact lr_below (lr_alloc (lr_alloc (lr_alloc Y.out _) _) _) R4.out))
    replace G := Lib.hid (show PR w4 _ _ _ from (by first | with_reducible exact pr_below G.out R4.out | with_reducible exact pr_below (pr_alloc G.out _) R4.out | with_reducible exact pr_below (pr_alloc (pr_alloc G.out _) _) R4.out | with_reducible exact pr_below (pr_alloc (pr_alloc (pr_alloc G.out _) _) _) R4.out))
    replace K := Lib.hid (show PR w4 _ _ _ from (by first | with_reducible exact pr_below K.out R4.out | with_reducible exact pr_below (pr_alloc K.out _) R4.out | with_reducible exact pr_below (pr_alloc (pr_alloc K.out _) _) R4.out | with_reducible exact pr_below (pr_alloc (pr_alloc (pr_alloc K.out _) _) _) R4.out))
    go_wp2_with fail
    refine (sameI_any D2 D3 t2 e2 t3 e3 [] [] _ (by first | with_reducible exact G.out | with_reducible exact pr_alloc G.out _ | with_reducible exact pr_alloc (pr_alloc G.out _) _ | with_reducible exact pr_alloc (pr_alloc (pr_alloc G.out _) _) _) (by first | with_reducible exact K.out | with_reducible exact pr_alloc K.out _ | with_reducible exact pr_alloc (pr_alloc K.out _) _ | with_reducible exact pr_alloc (pr_alloc (pr_alloc K.out _) _) _) (by omega) (by omega)).mono ?_
    rintro e w5 ⟨rfl, hb⟩
    obtain ⟨hc5, hf5⟩ := bcell hb
    have B5 := Lib.hid (show Below w.heap.size w w5 from (by first | exact below_seq B4.out hb | exact below_seq1 B4.out hb | exact below_seq2 B4.out hb | exact below_seq3 B4.out hb | exact below_seq4 B4.out hb))
    have R5 := Lib.hid hb
    have hz5 := hb.size
    try simp at hz5
    clear hb
    try have y50 : w.heap.size < w5.heap.size := by omega
    try have y50a : w.heap.size + 1 < w5.heap.size := by omega
    try have y50b : w.heap.size < w5.heap.size + 1 + 1 := by omega
    try have y50c : w.heap.size + 1 < w5.heap.size + 1 + 1 := by omega
    try have y51 : w1.heap.size < w5.heap.size := by omega
    try have y51a : w1.heap.size + 1 < w5.heap.size := by omega
    try have y51b : w1.heap.size < w5.heap.size + 1 + 1 := by omega
    try have y51c : w1.heap.size + 1 < w5.heap.size + 1 + 1 := by omega
    try have y52 : w2.heap.size < w5.heap.size := by omega
    try have y52a : w2.heap.size + 1 < w5.heap.size := by omega
    try have y52b : w2.heap.size < w5.heap.size + 1 + 1 := by omega
    try have y52c : w2.heap.size + 1 < w5.heap.size + 1 + 1 := by omega
    try have y53 : w3.heap.size < w5.heap.size := by omega
    try have y53a : w3.heap.size + 1 < w5.heap.size := by omega
    try have y53b : w3.heap.size < w5.heap.size + 1 + 1 := by omega
    try have y53c : w3.heap.size + 1 < w5.heap.size + 1 + 1 := by omega
    try have y54 : w4.heap.size < w5.heap.size := by omega
    try have y54a : w4.heap.size + 1 < w5.heap.size := by omega
    try have y54b : w4.heap.size < w5.heap.size + 1 + 1 := by omega
    try have y54c : w4.heap.size + 1 < w5.heap.size + 1 + 1 := by omega
    rw [← same_yes rfl]
    replace X := Lib.hid (show LR w5 _ _ _ _ _ _ _ from (by first | with_reducible exact lr_below X.out R5.out | with_reducible exact lr_below (lr_alloc X.out _) R5.out | with_reducible exact lr_below (lr_alloc (lr_alloc X.out _) _) R5.out | with_reducible exact lr_below (lr_alloc (lr_alloc (lr_alloc X.out _) _) _) R5.out))
    replace Y := Lib.hid (show LR w5 _ _ _ _ _ _ _ from (by first | with_reducible exact lr_below Y.out R5.out | with_reducible exact lr_below (lr_alloc Y.out _) R5.out | with_reducible exact lr_below (lr_alloc (lr_alloc Y.out _) _) R5.out | with_reducible exact lr_below (lr_alloc (lr_alloc (lr_alloc Y.out _) _) _) R5.out))
    replace G := Lib.hid (show PR w5 _ _ _ from (by first | with_reducible exact pr_below G.out R5.out | with_reducible exact pr_below (pr_alloc G.out _) R5.out | with_reducible exact pr_below (pr_alloc (pr_alloc G.out _) _) R5.out | with_reducible exact pr_below (pr_alloc (pr_alloc (pr_alloc G.out _) _) _) R5.out))
    replace K := Lib.hid (show PR w5 _ _ _ from (by first | with_reducible exact pr_below K.out R5.out | with_reducible exact pr_below (pr_alloc K.out _) R5.out | with_reducible exact pr_below (pr_alloc (pr_alloc K.out _) _) R5.out | with_reducible exact pr_below (pr_alloc (pr_alloc (pr_alloc K.out _) _) _) R5.out))
    go_wp2_with fail
    refine (sameLI_any A2 n2 c2 J2 m2 d2 C2 o2 f2 lnZ A3 n3 c3 J3 m3 d3 C3 o3 f3 lnZ _ (by first | with_reducible exact X.out | with_reducible exact lr_alloc X.out _ | with_reducible exact lr_alloc (lr_alloc X.out _) _ | with_reducible exact lr_alloc (lr_alloc (lr_alloc X.out _) _) _) (by first | with_reducible exact Y.out | with_reducible exact lr_alloc Y.out _ | with_reducible exact lr_alloc (lr_alloc Y.out _) _ | with_reducible exact lr_alloc (lr_alloc (lr_alloc Y.out _) _) _)).mono ?_
    rintro e w6 ⟨rfl, hb⟩
    obtain ⟨hc6, hf6⟩ := bcell hb
    have B6 := Lib.hid (show Below w.heap.size w w6 from (by first | exact below_seq B5.out hb | exact below_seq1 B5.out hb | exact below_seq2 B5.out hb | exact below_seq3 B5.out hb | exact below_seq4 B5.out hb))
    have R6 := Lib.hid hb
    have hz6 := hb.size
    try simp at hz6
    clear hb
    try have y60 : w.heap.size < w6.heap.size := by omega
    try have y60a : w.heap.size + 1 < w6.heap.size := by omega
    try have y60b : w.heap.size < w6.heap.size + 1 + 1 := by omega
    try have y60c : w.heap.size + 1 < w6.heap.size + 1 + 1 := by omega
    try have y61 : w1.heap.size < w6.heap.size := by omega
    try have y61a : w1.heap.size + 1 < w6.heap.size := by omega
    try have y61b : w1.heap.size < w6.heap.size + 1 + 1 := by omega
    try have y61c : w1.heap.size + 1 < w6.heap.size + 1 + 1 := by omega
    try have y62 : w2.heap.size < w6.heap.size := by omega
    try have y62a : w2.heap.size + 1 < w6.heap.size := by omega
    try have y62b : w2.heap.size < w6.heap.size + 1 + 1 := by omega
    try have y62c : w2.heap.size + 1 < w6.heap.size + 1 + 1 := by omega
    try have y63 : w3.heap.size < w6.heap.size := by omega
    try have y63a : w3.heap.size + 1 < w6.heap.size := by omega
    try have y63b : w3.heap.size < w6.heap.size + 1 + 1 := by omega
    try have y63c : w3.heap.size + 1 < w6.heap.size + 1 + 1 := by omega
    try have y64 : w4.heap.size < w6.heap.size := by omega
    try have y64a : w4.heap.size + 1 < w6.heap.size := by omega
    try have y64b : w4.heap.size < w6.heap.size + 1 + 1 := by omega
    try have y64c : w4.heap.size + 1 < w6.heap.size + 1 + 1 := by omega
    try have y65 : w5.heap.size < w6.heap.size := by omega
    try have y65a : w5.heap.size + 1 < w6.heap.size := by omega
    try have y65b : w5.heap.size < w6.heap.size + 1 + 1 := by omega
    try have y65c : w5.heap.size + 1 < w6.heap.size + 1 + 1 := by omega
    rw [ls_refl]
    replace G := Lib.hid (show PR w6 _ _ _ from (by first | with_reducible exact pr_below G.out R6.out | with_reducible exact pr_below (pr_alloc G.out _) R6.out | with_reducible exact pr_below (pr_alloc (pr_alloc G.out _) _) R6.out | with_reducible exact pr_below (pr_alloc (pr_alloc (pr_alloc G.out _) _) _) R6.out))
    replace K := Lib.hid (show PR w6 _ _ _ from (by first | with_reducible exact pr_below K.out R6.out | with_reducible exact pr_below (pr_alloc K.out _) R6.out | with_reducible exact pr_below (pr_alloc (pr_alloc K.out _) _) R6.out | with_reducible exact pr_below (pr_alloc (pr_alloc (pr_alloc K.out _) _) _) R6.out))
    go_wp2_with fail
    refine (sameI_any D2 D3 t2 e2 t3 e3 [] [] _ (by first | with_reducible exact G.out | with_reducible exact pr_alloc G.out _ | with_reducible exact pr_alloc (pr_alloc G.out _) _ | with_reducible exact pr_alloc (pr_alloc (pr_alloc G.out _) _) _) (by first | with_reducible exact K.out | with_reducible exact pr_alloc K.out _ | with_reducible exact pr_alloc (pr_alloc K.out _) _ | with_reducible exact pr_alloc (pr_alloc (pr_alloc K.out _) _) _) (by omega) (by omega)).mono ?_
    rintro e w7 ⟨rfl, hb⟩
    obtain ⟨hc7, hf7⟩ := bcell hb
    have B7 := Lib.hid (show Below w.heap.size w w7 from (by first | exact below_seq B6.out hb | exact below_seq1 B6.out hb | exact below_seq2 B6.out hb | exact below_seq3 B6.out hb | exact below_seq4 B6.out hb))
    have R7 := Lib.hid hb
    have hz7 := hb.size
    try simp at hz7
    clear hb
    try have y70 : w.heap.size < w7.heap.size := by omega
    try have y70a : w.heap.size + 1 < w7.heap.size := by omega
    try have y70b : w.heap.size < w7.heap.size + 1 + 1 := by omega
    try have y70c : w.heap.size + 1 < w7.heap.size + 1 + 1 := by omega
    try have y71 : w1.heap.size < w7.heap.size := by omega
    try have y71a : w1.heap.size + 1 < w7.heap.size := by omega
    try have y71b : w1.heap.size < w7.heap.size + 1 + 1 := by omega
    try have y71c : w1.heap.size + 1 < w7.heap.size + 1 + 1 := by omega
    try have y72 : w2.heap.size < w7.heap.size := by omega
    try have y72a : w2.heap.size + 1 < w7.heap.size := by omega
    try have y72b : w2.heap.size < w7.heap.size + 1 + 1 := by omega
    try have y72c : w2.heap.size + 1 < w7.heap.size + 1 + 1 := by omega
    try have y73 : w3.heap.size < w7.heap.size := by omega
    try have y73a : w3.heap.size + 1 < w7.heap.size := by omega
    try have y73b : w3.heap.size < w7.heap.size + 1 + 1 := by omega
    try have y73c : w3.heap.size + 1 < w7.heap.size + 1 + 1 := by omega
    try have y74 : w4.heap.size < w7.heap.size := by omega
    try have y74a : w4.heap.size + 1 < w7.heap.size := by omega
    try have y74b : w4.heap.size < w7.heap.size + 1 + 1 := by omega
    try have y74c : w4.heap.size + 1 < w7.heap.size + 1 + 1 := by omega
    try have y75 : w5.heap.size < w7.heap.size := by omega
    try have y75a : w5.heap.size + 1 < w7.heap.size := by omega
    try have y75b : w5.heap.size < w7.heap.size + 1 + 1 := by omega
    try have y75c : w5.heap.size + 1 < w7.heap.size + 1 + 1 := by omega
    try have y76 : w6.heap.size < w7.heap.size := by omega
    try have y76a : w6.heap.size + 1 < w7.heap.size := by omega
    try have y76b : w6.heap.size < w7.heap.size + 1 + 1 := by omega
    try have y76c : w6.heap.size + 1 < w7.heap.size + 1 + 1 := by omega
    rw [← same_yes rfl]
    go_wp2
    all_goals
      go_ret
      refine ⟨rfl, ?_⟩
      repeat refine below_alloc ?_ _
      exact B7.out
theorem own : ownKnob Try.prog.godebug = none := by kernel_rfl
theorem laidOut : laidOutB Try.prog = true := by kernel_rfl
set_option maxRecDepth 100000 in
theorem lifted (os : Os) (started : os.Started) (H : Type) (enc : TypeId × Value → H) :
    ReturnsInHanded {} Try.checked os 7 .any (Rows.fnLeaveLanesSpec.pre6 enc Try.prog Try.f7 Rows.fnLeaveLanesRow.domain false) (Rows.fnLeaveLanesSpec.post enc Try.prog Try.f7 false true false false) := by
  refine returnsInHanded_of_change (C := Try.checked) own started (by kernel_rfl) Try.func7
    (ChangeSpec.witness6 (enc := enc) (C := Try.checked) false ⟨#[], #[.slice none 0 0], []⟩ 8 (by kernel_rfl) (by kernel_rfl) (by kernel_rfl) (by kernel_rfl)) ?_
  intro W base args ds gs before hval0 hW _ _
  have hval : ∀ (j : Nat) t v, Try.f7.params[j]? = some t → args[j]? = some v → Value.okWide Try.prog W .any base t v := hval0
  have hW' := hW
  obtain ⟨p, q, hA0, hV, rfl, _, _⟩ := hW
  have hA : DataW.TrodAll enc Try.prog W 0 (fun _ => true) true Try.f7.params.toList args.toList ds p := hA0
  rw [Try.params7] at hA hval
  obtain ⟨v0, vs0, d0, ds0, p0, q0, hargs, rfl, rfl, h0, r0⟩ := trodAll_cons hA
  obtain ⟨rfl, rfl, rfl⟩ := trodAll_nil r0
  obtain rfl : args = #[v0] := by cases args; simp_all
  obtain ⟨rfl, rfl⟩ := trodVars_none hV
  have lt0 : ∀ x ∈ p0, x.block < W.heap.size := by obtain ⟨m, hm⟩ := h0; exact DataW.trod_lt m _ _ _ hm
  obtain ⟨a0, n0, c0, rfl⟩ := okWide_slice Try.underlying22 (hval 0 22 v0 rfl rfl)
  have w0 : Bytes W a0 n0 c0 := bytes_open h0
  clear hA0 hval0
  refine (walk a0 n0 c0 W w0).mono fun e W' ⟨he, bel⟩ => ?_
  subst he
  exact ⟨_, rfl, _, _, _, [], _, [], hW', trodAll_mk1 (shut_bool Try.underlying4 _), (trodAll_cons_mk (Below.trod laidOut (by kernel_rfl) (of_decide_eq_true (by kernel_rfl)) h0 bel lt0) trodAll_mk0), rfl, bel.frame _, fun h => by cases h⟩
theorem over : Rows.fnLeaveLanesRow.holds Try.pinned (OpenSpec.ofChange Rows.fnLeaveLanesSpec) :=
  OpenClaim.holds_of_wide 7 Try.f7 rfl rfl rfl rfl rfl rfl rfl ⟨rfl, rfl, rfl, rfl, rfl⟩ rfl rfl rfl rfl rfl (by kernel_rfl) Try.func7 (by unfold joinedFacts; rw [mayEnter, liftsFinal, makeIs]; kernel_rfl)
    (of_decide_eq_true (by kernel_rfl)) (by unfold Func.isWrapper; first | (rw [if_pos (by decide +kernel)]; kernel_rfl) | (rw [if_neg (by decide +kernel)]; exact ⟨rfl, rfl⟩))
    (fun os started H enc _ => lifted os started H enc)
/-- the given statement -/
theorem proved : Rows.FnLeaveLanesSaid := over
end Go.Proofs.Ytkmoiphcpmhacaa.fnLeaveLanes
