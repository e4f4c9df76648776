/-
  The law FnTakePeers returns true at every argument: of each peer the oldest packets of a lane are taken. Conditions: none.
-/
import Derived.Test.YtkmoiphcpmhacaaKb
import Derived.Test.YtkmoiphcpmhacaaKy
import Derived.Test.YtkmoiphcpmhacaaKw
import Derived.Test.YtkmoiphcpmhacaaMay
import Derived.Test.YtkmoiphcpmhacaaLifts
import Derived.Test.YtkmoiphcpmhacaaMake
namespace Go.Proofs.Ytkmoiphcpmhacaa.fnTakePeers
open Go.ChangeShapes Go.WideShapes Go.ChangeAt Go.RowKit

theorem app_below {w w1 w2 : World} {base : Nat} {v : Value} {n : Nat} {xs : List Value} {e : TypeId} (ho : w1.ownsRow base e 4 v n xs) (hb : Below base w w1) (hg : w1.grownBy w2 v.ownBlock) (hs : base ≤ w1.heap.size) : Below base w w2 :=
  hb.grown hg hs fun k hk => (ho.lt k hk).1
theorem lpK_step {ps : List Pkt} {k : Nat} {p : Pkt} (h : ps[k]? = some p) (i x : Int) : lpK (ps.take (k + 1)) i x = lpK (ps.take k) i x ++ if p.lane = i ∧ p.peer = x then [p] else [] := by
  rw [List.take_add_one, h]
  show lpK (ps.take k ++ [p]) i x = _
  rw [show lpK (ps.take k ++ [p]) i x = lpK (ps.take k) i x ++ lpK [p] i x by simp [lpK], lpK_cons]
  split <;> simp [lpK]
theorem lpK_take_le (ps : List Pkt) (k : Nat) (i x : Int) : (lpK (ps.take k) i x).length ≤ k := Nat.le_trans (List.length_filter_le _ _) (List.length_take_le _ _)
def TpOut (w : World) (n : Nat) (i : Value) (wr : World) : Prop := ∃ k : Nat, k ≤ n ∧ i = .int .i64 (k : Int) ∧ Below w.heap.size w wr
def TpIn (w : World) (ps : List Pkt) (i x : Int) (n : Nat) (v j : Value) (wx : World) : Prop :=
  ∃ (k : Nat) (A : Option Addr) (N c : Nat), k ≤ n ∧ v = .slice A N c ∧ j = .int .i64 (k : Int) ∧ wx.ownsRow w.heap.size 29 4 (.slice A N c) N (pcells (lpK (ps.take k) i x)) ∧ N = (lpK (ps.take k) i x).length ∧ Below w.heap.size w wx
set_option maxRecDepth 100000 in
set_option maxHeartbeats 8000000 in
theorem walk (A : Option Addr) (n c : Nat) (w : World) (h : Bytes w A n c) :
    Calls Try.prog 10 #[.slice A n c] w fun e w' => e = .returned (.bool true) ∧ Below w.heap.size w w' := by
  have HB := Lib.hid h
  clear h
  by_cases hbig : ¬ n ≤ 1048576
  · go_enter Try.func10, Try.ntmps10
    go_wp2
    go_ret
    exact ⟨rfl, Below.refl _ _⟩
  have hbig' : n ≤ 1048576 := by omega
  clear hbig
  go_enter Try.func10, Try.ntmps10
  go_wp2_with fail
  refine (drawTakeLanes_any A n c _ HB.out).mono ?_
  rintro e w1 ⟨A1, n1, c1, J1, d1, C1, f1, l, x, rfl, hx1, hl, hb⟩
  obtain ⟨hc1, hf1⟩ := bcell hb
  have B1 := Lib.hid (show Below w.heap.size w w1 from (by first | exact below_seq (Below.refl w.heap.size w) hb | exact below_seq1 (Below.refl w.heap.size w) hb | exact below_seq2 (Below.refl w.heap.size w) hb | exact below_seq3 (Below.refl w.heap.size w) hb | exact below_seq4 (Below.refl w.heap.size w) hb))
  have R1 := Lib.hid hb
  have hz1 := hb.size
  try simp at hz1
  clear hb
  have H := Lib.hid hl
  clear hl
  by_cases hk : LV l ∧ 0 ≤ x
  · obtain ⟨b, rfl⟩ : ∃ b : Nat, x = (b : Int) := ⟨x.toNat, by omega⟩
    have hb100 : b ≤ 100 := by omega
    have HOK := Lib.hid hk.1
    clear hk
    obtain ⟨l2, hl2⟩ : ∃ l2, l2 = (tkN b l).1 := ⟨_, rfl⟩
    obtain ⟨ps, hps⟩ : ∃ ps, ps = (tkN b l).2 := ⟨_, rfl⟩
    have HL2 := Lib.hid hl2
    have HPS := Lib.hid hps
    clear hl2 hps
    go_wp2_with fail
    refine (tkI_rd A1 n1 c1 J1 4 d1 C1 4 f1 l _ (by first | with_reducible exact H.out | with_reducible exact lr_alloc H.out _ | with_reducible exact lr_alloc (lr_alloc H.out _) _ | with_reducible exact lr_alloc (lr_alloc (lr_alloc H.out _) _) _) b HOK.out).mono ?_
    rintro e w2 ⟨A2, n2, c2, J2, m2, d2, C2, o2, f2, D2, t2, e2, rfl, hx, hp, q2, hb⟩
    obtain ⟨hc2, hf2⟩ := bcell hb
    have B2 := Lib.hid (show Below w.heap.size w w2 from (by first | exact below_seq B1.out hb | exact below_seq1 B1.out hb | exact below_seq2 B1.out hb | exact below_seq3 B1.out hb | exact below_seq4 B1.out hb))
    have R2 := Lib.hid hb
    have hz2 := hb.size
    try simp at hz2
    clear hb
    try have y20 : w.heap.size < w2.heap.size := by omega
    try have y20a : w.heap.size + 1 < w2.heap.size := by omega
    try have y20b : w.heap.size < w2.heap.size + 1 + 1 := by omega
    try have y20c : w.heap.size + 1 < w2.heap.size + 1 + 1 := by omega
    try have y21 : w1.heap.size < w2.heap.size := by omega
    try have y21a : w1.heap.size + 1 < w2.heap.size := by omega
    try have y21b : w1.heap.size < w2.heap.size + 1 + 1 := by omega
    try have y21c : w1.heap.size + 1 < w2.heap.size + 1 + 1 := by omega
    rw [← HL2.out] at hx
    rw [← HPS.out] at hp
    have X := Lib.hid hx
    have G := Lib.hid hp
    clear hx hp
    replace H := Lib.hid (show LR w2 _ _ _ _ _ _ _ from (by first | with_reducible exact lr_below H.out R2.out | with_reducible exact lr_below (lr_alloc H.out _) R2.out | with_reducible exact lr_below (lr_alloc (lr_alloc H.out _) _) R2.out | with_reducible exact lr_below (lr_alloc (lr_alloc (lr_alloc H.out _) _) _) R2.out))
    go_wp2_with fail
    refine (tkS_rd A1 n1 c1 J1 4 d1 C1 4 f1 l _ (by first | with_reducible exact H.out | with_reducible exact lr_alloc H.out _ | with_reducible exact lr_alloc (lr_alloc H.out _) _ | with_reducible exact lr_alloc (lr_alloc (lr_alloc H.out _) _) _) b HOK.out).mono ?_
    rintro e w3 ⟨A3, n3, c3, J3, m3, d3, C3, o3, f3, D3, t3, e3, rfl, hx, hp, q3, hb⟩
    obtain ⟨hc3, hf3⟩ := bcell hb
    have B3 := Lib.hid (show Below w.heap.size w w3 from (by first | exact below_seq B2.out hb | exact below_seq1 B2.out hb | exact below_seq2 B2.out hb | exact below_seq3 B2.out hb | exact below_seq4 B2.out hb))
    have R3 := Lib.hid hb
    have hz3 := hb.size
    try simp at hz3
    clear hb
    try have y30 : w.heap.size < w3.heap.size := by omega
    try have y30a : w.heap.size + 1 < w3.heap.size := by omega
    try have y30b : w.heap.size < w3.heap.size + 1 + 1 := by omega
    try have y30c : w.heap.size + 1 < w3.heap.size + 1 + 1 := by omega
    try have y31 : w1.heap.size < w3.heap.size := by omega
    try have y31a : w1.heap.size + 1 < w3.heap.size := by omega
    try have y31b : w1.heap.size < w3.heap.size + 1 + 1 := by omega
    try have y31c : w1.heap.size + 1 < w3.heap.size + 1 + 1 := by omega
    try have y32 : w2.heap.size < w3.heap.size := by omega
    try have y32a : w2.heap.size + 1 < w3.heap.size := by omega
    try have y32b : w2.heap.size < w3.heap.size + 1 + 1 := by omega
    try have y32c : w2.heap.size + 1 < w3.heap.size + 1 + 1 := by omega
    rw [← HL2.out] at hx
    rw [← HPS.out] at hp
    have Y := Lib.hid hx
    have K := Lib.hid hp
    clear hx hp
    replace H := Lib.hid (show LR w3 _ _ _ _ _ _ _ from (by first | with_reducible exact lr_below H.out R3.out | with_reducible exact lr_below (lr_alloc H.out _) R3.out | with_reducible exact lr_below (lr_alloc (lr_alloc H.out _) _) R3.out | with_reducible exact lr_below (lr_alloc (lr_alloc (lr_alloc H.out _) _) _) R3.out))
    replace X := Lib.hid (show LR w3 _ _ _ _ _ _ _ from (by first | with_reducible exact lr_below X.out R3.out | with_reducible exact lr_below (lr_alloc X.out _) R3.out | with_reducible exact lr_below (lr_alloc (lr_alloc X.out _) _) R3.out | with_reducible exact lr_below (lr_alloc (lr_alloc (lr_alloc X.out _) _) _) R3.out))
    replace G := Lib.hid (show PR w3 _ _ _ from (by first | with_reducible exact pr_below G.out R3.out | with_reducible exact pr_below (pr_alloc G.out _) R3.out | with_reducible exact pr_below (pr_alloc (pr_alloc G.out _) _) R3.out | with_reducible exact pr_below (pr_alloc (pr_alloc (pr_alloc G.out _) _) _) R3.out))
    go_wp2_with fail
    refine (sameLI_any A2 n2 c2 J2 m2 d2 C2 o2 f2 l2 A3 n3 c3 J3 m3 d3 C3 o3 f3 l2 _ (by first | with_reducible exact X.out | with_reducible exact lr_alloc X.out _ | with_reducible exact lr_alloc (lr_alloc X.out _) _ | with_reducible exact lr_alloc (lr_alloc (lr_alloc X.out _) _) _) (by first | with_reducible exact Y.out | with_reducible exact lr_alloc Y.out _ | with_reducible exact lr_alloc (lr_alloc Y.out _) _ | with_reducible exact lr_alloc (lr_alloc (lr_alloc Y.out _) _) _)).mono ?_
    rintro e w4 ⟨rfl, hb⟩
    obtain ⟨hc4, hf4⟩ := bcell hb
    have B4 := Lib.hid (show Below w.heap.size w w4 from (by first | exact below_seq B3.out hb | exact below_seq1 B3.out hb | exact below_seq2 B3.out hb | exact below_seq3 B3.out hb | exact below_seq4 B3.out hb))
    have R4 := Lib.hid hb
    have hz4 := hb.size
    try simp at hz4
    clear hb
    try have y40 : w.heap.size < w4.heap.size := by omega
    try have y40a : w.heap.size + 1 < w4.heap.size := by omega
    try have y40b : w.heap.size < w4.heap.size + 1 + 1 := by omega
    try have y40c : w.heap.size + 1 < w4.heap.size + 1 + 1 := by omega
    try have y41 : w1.heap.size < w4.heap.size := by omega
    try have y41a : w1.heap.size + 1 < w4.heap.size := by omega
    try have y41b : w1.heap.size < w4.heap.size + 1 + 1 := by omega
    try have y41c : w1.heap.size + 1 < w4.heap.size + 1 + 1 := by omega
    try have y42 : w2.heap.size < w4.heap.size := by omega
    try have y42a : w2.heap.size + 1 < w4.heap.size := by omega
    try have y42b : w2.heap.size < w4.heap.size + 1 + 1 := by omega
    try have y42c : w2.heap.size + 1 < w4.heap.size + 1 + 1 := by omega
    try have y43 : w3.heap.size < w4.heap.size := by omega
    try have y43a : w3.heap.size + 1 < w4.heap.size := by omega
    try have y43b : w3.heap.size < w4.heap.size + 1 + 1 := by omega
    try have y43c : w3.heap.size + 1 < w4.heap.size + 1 + 1 := by omega
    rw [ls_refl]
    replace H := Lib.hid (show LR w4 _ _ _ _ _ _ _ from (by first | with_reducible exact lr_below H.out R4.out | with_reducible exact lr_below (lr_alloc H.out _) R4.out | with_reducible exact lr_below (lr_alloc (lr_alloc H.out _) _) R4.out | with_reducible exact lr_below (lr_alloc (lr_alloc (lr_alloc H.out _) _) _) R4.out))
    replace X := Lib.hid (show LR w4 _ _ _ _ _ _ _ from (by first | with_reducible exact lr_below X.out R4.out | with_reducible exact lr_below (lr_alloc X.out _) R4.out | with_reducible exact lr_below (lr_alloc (lr_alloc X.out _) _) R4.out | with_reducible exact lr_below (lr_alloc (lr_alloc (lr_alloc X.out _) _) _) R4.out))
    replace G := Lib.hid (show PR w4 _ _ _ from (by first | with_reducible exact pr_below G.out R4.out | with_reducible exact pr_below (pr_alloc G.out _) R4.out | with_reducible exact pr_below (pr_alloc (pr_alloc G.out _) _) R4.out | with_reducible exact pr_below (pr_alloc (pr_alloc (pr_alloc G.out _) _) _) R4.out))
    replace K := Lib.hid (show PR w4 _ _ _ from (by first | with_reducible exact pr_below K.out R4.out | with_reducible exact pr_below (pr_alloc K.out _) R4.out | with_reducible exact pr_below (pr_alloc (pr_alloc K.out _) _) R4.out | with_reducible exact pr_below (pr_alloc (pr_alloc (pr_alloc K.out _) _) _) R4.out))
    clear Y
    go_wp2_with fail
    refine (sameI_any D2 D3 t2 e2 t3 e3 ps ps _ (by first | with_reducible exact G.out | with_reducible exact pr_alloc G.out _ | with_reducible exact pr_alloc (pr_alloc G.out _) _ | with_reducible exact pr_alloc (pr_alloc (pr_alloc G.out _) _) _) (by first | with_reducible exact K.out | with_reducible exact pr_alloc K.out _ | with_reducible exact pr_alloc (pr_alloc K.out _) _ | with_reducible exact pr_alloc (pr_alloc (pr_alloc K.out _) _) _) (by omega) (by omega)).mono ?_
    rintro e w5 ⟨rfl, hb⟩
    obtain ⟨hc5, hf5⟩ := bcell hb
    have B5 := Lib.hid (show Below w.heap.size w w5 from (by first | exact below_seq B4.out hb | exact below_seq1 B4.out hb | exact below_seq2 B4.out hb | exact below_seq3 B4.out hb | exact below_seq4 B4.out hb))
    have R5 := Lib.hid hb
    have hz5 := hb.size
    try simp at hz5
    clear hb
    try have y50 : w.heap.size < w5.heap.size := by omega
    try have y50a : w.heap.size + 1 < w5.heap.size := by omega
    try have y50b : w.heap.size < w5.heap.size + 1 + 1 := by omega
    try have y50c : w.heap.size + 1 < w5.heap.size + 1 + 1 := by omega
    try have y51 : w1.heap.size < w5.heap.size := by omega
    try have y51a : w1.heap.size + 1 < w5.heap.size := by omega
    try have y51b : w1.heap.size < w5.heap.size + 1 + 1 := by omega
    try have y51c : w1.heap.size + 1 < w5.heap.size + 1 + 1 := by omega
    try have y52 : w2.heap.size < w5.heap.size := by omega
    try have y52a : w2.heap.size + 1 < w5.heap.size := by omega
    try have y52b : w2.heap.size < w5.heap.size + 1 + 1 := by omega
    try have y52c : w2.heap.size + 1 < w5.heap.size + 1 + 1 := by omega
    try have y53 : w3.heap.size < w5.heap.size := by omega
    try have y53a : w3.heap.size + 1 < w5.heap.size := by omega
    try have y53b : w3.heap.size < w5.heap.size + 1 + 1 := by omega
    try have y53c : w3.heap.size + 1 < w5.heap.size + 1 + 1 := by omega
    try have y54 : w4.heap.size < w5.heap.size := by omega
    try have y54a : w4.heap.size + 1 < w5.heap.size := by omega
    try have y54b : w4.heap.size < w5.heap.size + 1 + 1 := by omega
    try have y54c : w4.heap.size + 1 < w5.heap.size + 1 + 1 := by omega
    rw [← same_yes rfl]
    replace H := Lib.hid (show LR w5 _ _ _ _ _ _ _ from (by first | with_reducible exact lr_below H.out R5.out | with_reducible exact lr_below (lr_alloc H.out _) R5.out | with_reducible exact lr_below (lr_alloc (lr_alloc H.out _) _) R5.out | with_reducible exact lr_below (lr_alloc (lr_alloc (lr_alloc H.out _) _) _) R5.out))
    replace X := Lib.hid (show LR w5 _ _ _ _ _ _ _ from (by first | with_reducible exact lr_below X.out R5.out | with_reducible exact lr_below (lr_alloc X.out _) R5.out | with_reducible exact lr_below (lr_alloc (lr_alloc X.out _) _) R5.out | with_reducible exact lr_below (lr_alloc (lr_alloc (lr_alloc X.out _) _) _) R5.out))
    replace G := Lib.hid (show PR w5 _ _ _ from (by first | with_reducible exact pr_below G.out R5.out | with_reducible exact pr_below (pr_alloc G.out _) R5.out | with_reducible exact pr_below (pr_alloc (pr_alloc G.out _) _) R5.out | with_reducible exact pr_below (pr_alloc (pr_alloc (pr_alloc G.out _) _) _) R5.out))
    clear K

    have HV2 := Lib.hid (show LV l2 by rw [HL2.out]; exact (tkN_valid b l HOK.out).1)
    have G4 := Lib.hid G.out.1
    obtain rfl : n1 = 4 := (lr_four H.out HOK.out).1
    obtain rfl : n2 = 4 := (lr_four X.out HV2.out).1
    have HTP := Lib.hid (show ∀ (k : Nat) (r r' : Rb), l.rs[k]? = some r → l2.rs[k]? = some r' → ∀ x : Int, wOf r.fs x = lpK ps (k : Int) x ++ wOf r'.fs x by
      rw [HL2.out, HPS.out]
      exact tk_peers b l HOK.out)
    go_wp2_with fail
    go_loopw [11] (fun i wr => TpOut w5 4 i wr) (fun i _ => 4 - (intOf i).toNat)
    case atStart => exact ⟨0, by omega, rfl, Below.refl _ _⟩
    case round =>
      obtain ⟨k, hk4, rfl, hbl⟩ := hrel
      have HBl := Lib.hid hbl
      clear hbl
      by_cases hlt : k < 4
      · have k0 : (0 : Int) ≤ (k : Int) := by omega
        have k1 : (k : Int) < (4 : Int) := by omega
        go_wp2_with fail
        go_loopw [12] (fun i wx => TpOut w5 8 i wx) (fun i _ => 8 - (intOf i).toNat)
        case atStart => exact ⟨0, by omega, rfl, HBl.out⟩
        case round =>
          obtain ⟨y, hy8, rfl, hbl⟩ := hrel
          have HBy := Lib.hid hbl
          clear HBl
          obtain ⟨hcx, hfx⟩ := bcell HBy.out
          have hzx := HBy.out.size
          have yx0 : w.heap.size < wr.heap.size := by omega
          have yx1 : w1.heap.size < wr.heap.size := by omega
          have yx2 : w2.heap.size < wr.heap.size := by omega
          have yx3 : w3.heap.size < wr.heap.size := by omega
          clear hbl
          by_cases hyt : y < 8
          · have y0 : (0 : Int) ≤ (y : Int) ∧ (y : Int) ≤ 7 := by omega
            obtain ⟨bA, oA, r, A8, n8, c8, rfl, hbA, hr, e0, e1, hfr⟩ := rr_at (lr_below H.out HBy.out).r hlt
            obtain ⟨bB, oB, r', A9, n9, c9, rfl, hbB, hr', e0', e1', hfr'⟩ := rr_at (lr_below X.out HBy.out).r hlt
            have HTk := Lib.hid (HTP.out k r r' hr hr' (y : Int))
            have HFR := Lib.hid hfr
            have HFR' := Lib.hid hfr'
            have RVr := Lib.hid (HOK.out.rb k r hr).rv
            have RVr' := Lib.hid (HV2.out.rb k r' hr').rv
            have hN1 := w_len64 RVr.out (y : Int)
            have hN2 := w_len64 RVr'.out (y : Int)
            clear hr hr' hfr hfr'
            go_wp2_with fail
            refine (woI_yes r.q A8 n8 c8 r.fs (y : Int) _ HFR.out ⟨RVr.out, y0⟩).mono ?_
            rintro e w8 ⟨D8, m8, d8, rfl, hm8, ho8, hb8⟩
            have U8 := Lib.hid (pr_own ho8)
            have B8 := Lib.hid (below_seq HBy.out hb8)
            have HFR9 := Lib.hid (fr_belowF HFR'.out hb8)
            have e0'' := ((bcell hb8).1 bB (oB + k * 2) hbB).trans e0'
            have e1'' := ((bcell hb8).1 bB (oB + k * 2 + 1) hbB).trans e1'
            have hbB8 : bB < w8.heap.size := Nat.lt_of_lt_of_le hbB hb8.size
            have hm64 : m8 ≤ 64 := by omega
            obtain ⟨hc8, hf8⟩ := bcell hb8
            have hz8 := hb8.size
            have yw0 : w.heap.size < w8.heap.size := by omega
            have yw1 : w1.heap.size < w8.heap.size := by omega
            have yw2 : w2.heap.size < w8.heap.size := by omega
            clear hm8 ho8 hb8 HFR HFR' e0' e1'
            go_wp2_with fail
            refine (woI_yes r'.q A9 n9 c9 r'.fs (y : Int) _ HFR9.out ⟨RVr'.out, y0⟩).mono ?_
            rintro e w9 ⟨D9, m9, d9, rfl, hm9, ho9, hb9⟩
            have V9 := Lib.hid (pr_own ho9)
            have U9 := Lib.hid (pr_below U8.out hb9)
            have B9 := Lib.hid (below_seq B8.out hb9)
            have hm649 : m9 ≤ 64 := by omega
            have hz9 := hb9.size
            clear hm9 ho9 hb9 HFR9 U8 B8 hc8 hf8 hcx hfx e0 e1 e0'' e1'' HBy
            have R0 : Hid (TpIn w9 ps (k : Int) (y : Int) t2 (.slice (some ⟨w9.heap.size, 0, none⟩) 0 0) (.int .i64 0) (w9.alloc (.cells #[] 29))) := Lib.hid ⟨0, _, 0, 0, by omega, rfl, rfl, own_empty (Below.refl _ _), rfl, below_alloc (Below.refl _ _) _⟩
            go_wp2_with fail
            go_loopw [17, 18] (fun v j wx => TpIn w9 ps (k : Int) (y : Int) t2 v j wx) (fun _ j _ => t2 - (intOf j).toNat)
            case atStart => exact R0.out
            case round =>
              obtain ⟨j, At, N, ct, hj, rfl, rfl, ho, hN, hbl⟩ := hrel
              have HBz := Lib.hid hbl
              have O := Lib.hid ho
              have HN := Lib.hid hN
              have hNj : N ≤ j := by rw [hN]; exact lpK_take_le ps j _ _
              have hzz := hbl.size
              clear R0 hbl ho hN
              by_cases hjt : j < t2
              · obtain ⟨b, off, p, rfl, hb, hp, d0, d1, d2', d3⟩ := pr_at (pr_below (pr_below G.out B9.out) HBz.out) hjt
                have j0 : (0 : Int) ≤ (j : Int) := by omega
                have j1 : (j : Int) < (t2 : Int) := by omega
                have hst := lpK_step hp (k : Int) (y : Int)
                clear hp
                by_cases hpk : p.lane = (k : Int) ∧ p.peer = (y : Int)
                · rw [if_pos hpk] at hst
                  have HST := Lib.hid hst
                  have hpb : (p.lane == (k : Int)) = true := by simpa using hpk.1
                  have hpb2 : (p.peer == (y : Int)) = true := by simpa using hpk.2
                  clear hpk hst
                  go_wp2_with (first
                    | (at_builtin
                       refine wpl_app_pkts _ rfl (.tmp 124) (.tmp 129) rfl w9.heap.size (.slice At N ct) N (lpK (ps.take j) (k : Int) (y : Int)) rfl (O.out.alloc _) (some ⟨wr.heap.size, 0, none⟩) 1 1 [p] rfl (pr_single (blk_new _ _ _)) (by omega) (by simp; omega) ?_
                       intro v10 w10 ho10 hg10 hat10
                       have B10 := Lib.hid (app_below (O.out.alloc _) (below_alloc HBz.out _) hg10 (by simp; omega))
                       obtain ⟨A10, c10, rfl, -, -, -⟩ := own_form ho10
                       have O10 := Lib.hid ho10
                       clear ho10 hg10 hat10))
                  go_roundw
                  case rel => exact ⟨j + 1, A10, N + 1, c10, by omega, rfl, by go_num, by rw [HST.out]; exact O10.out, by rw [HST.out, List.length_append, ← HN.out]; rfl, B10.out⟩
                  case measure => simp [intOf]; omega
                · rw [if_neg hpk, List.append_nil] at hst
                  have HST := Lib.hid hst
                  have hcs : ((p.lane == (k : Int)) = false) ∨ ((p.lane == (k : Int)) = true ∧ (p.peer == (y : Int)) = false) := by
                    by_cases h1 : p.lane = (k : Int)
                    · exact .inr ⟨by simpa using h1, by simpa using fun h2 => hpk ⟨h1, h2⟩⟩
                    · exact .inl (by simpa using h1)
                  clear hpk hst
                  rcases hcs with h1 | ⟨h1, h2⟩
                  all_goals
                    go_wp2
                    go_roundw
                    case rel => exact ⟨j + 1, At, N, ct, by omega, rfl, by go_num, by rw [HST.out]; exact O.out, by rw [HST.out]; exact HN.out, HBz.out⟩
                    case measure => simp [intOf]; omega
              · obtain rfl : j = t2 := by omega
                have hall : ps.take j = ps := List.take_of_length_le (by have := G4.out; omega)
                rw [hall] at O HN
                have V10 := Lib.hid (pr_below V9.out HBz.out)
                have U9' := Lib.hid U9.out
                clear hall V9 U9
                go_wp2_with (first
                  | (at_builtin
                     refine wpl_app_pkts _ rfl (.tmp 131) (.tmp 132) rfl w9.heap.size (.slice At N ct) N (lpK ps (k : Int) (y : Int)) rfl O.out D9 m9 d9 (wOf r'.fs (y : Int)) rfl V10.out (by omega) (by omega) ?_
                     intro v10 w10 ho10 hg10 hat10
                     have B10 := Lib.hid (app_below O.out HBz.out hg10 (by omega))
                     obtain ⟨A10, c10, rfl, -, -, -⟩ := own_form ho10
                     have O10 := Lib.hid (pr_own ho10)
                     have U11 := Lib.hid (pr_below U9'.out B10.out)
                     clear ho10 hg10 hat10))
                refine (sameI_any A10 D8 (N + m9) c10 m8 d8 _ _ _ O10.out U11.out (by omega) (by omega)).mono ?_
                rintro e w11 ⟨rfl, hb11⟩
                rw [← same_yes HTk.out.symm]
                have B11 := Lib.hid (below_seq (below_seq B9.out B10.out) hb11)
                clear hb11
                go_wp2
                go_roundw
                case rel => exact ⟨y + 1, by omega, by go_num, B11.out⟩
                case measure => simp [intOf]; omega
          · obtain rfl : y = 8 := by omega
            go_wp2
            go_roundw
            case rel => exact ⟨k + 1, by omega, by go_num, HBy.out⟩
            case measure => simp [intOf]; omega
      · obtain rfl : k = 4 := by omega
        have Bx := Lib.hid (below_seq B5.out HBl.out)
        go_wp2
        all_goals
          go_ret
          refine ⟨rfl, ?_⟩
          repeat (first | with_reducible refine below_alloc ?_ _ | with_reducible refine Below.drew ?_ | with_reducible refine below_drewN ?_ _)
          exact Bx.out

  · have HK := Lib.hid hk
    clear hk
    go_wp2_with fail
    refine (tkI_rdno A1 n1 c1 J1 4 d1 C1 4 f1 l _ (by first | with_reducible exact H.out | with_reducible exact lr_alloc H.out _ | with_reducible exact lr_alloc (lr_alloc H.out _) _ | with_reducible exact lr_alloc (lr_alloc (lr_alloc H.out _) _) _) x HK.out).mono ?_
    rintro e w2 ⟨A2, n2, c2, J2, m2, d2, C2, o2, f2, D2, t2, e2, rfl, hx, hp, q2, hb⟩
    obtain ⟨hc2, hf2⟩ := bcell hb
    have B2 := Lib.hid (show Below w.heap.size w w2 from (by first | exact below_seq B1.out hb | exact below_seq1 B1.out hb | exact below_seq2 B1.out hb | exact below_seq3 B1.out hb | exact below_seq4 B1.out hb))
    have R2 := Lib.hid hb
    have hz2 := hb.size
    try simp at hz2
    clear hb
    try have y20 : w.heap.size < w2.heap.size := by omega
    try have y20a : w.heap.size + 1 < w2.heap.size := by omega
    try have y20b : w.heap.size < w2.heap.size + 1 + 1 := by omega
    try have y20c : w.heap.size + 1 < w2.heap.size + 1 + 1 := by omega
    try have y21 : w1.heap.size < w2.heap.size := by omega
    try have y21a : w1.heap.size + 1 < w2.heap.size := by omega
    try have y21b : w1.heap.size < w2.heap.size + 1 + 1 := by omega
    try have y21c : w1.heap.size + 1 < w2.heap.size + 1 + 1 := by omega
    have X := Lib.hid hx
    have G := Lib.hid hp
    clear hx hp
    replace H := Lib.hid (show LR w2 _ _ _ _ _ _ _ from (by first | with_reducible exact lr_below H.out R2.out | with_reducible exact lr_below (lr_alloc H.out _) R2.out | with_reducible exact lr_below (lr_alloc (lr_alloc H.out _) _) R2.out | with_reducible exact lr_below (lr_alloc (lr_alloc (lr_alloc H.out _) _) _) R2.out))
    go_wp2_with fail
    refine (tkS_rdno A1 n1 c1 J1 4 d1 C1 4 f1 l _ (by first | with_reducible exact H.out | with_reducible exact lr_alloc H.out _ | with_reducible exact lr_alloc (lr_alloc H.out _) _ | with_reducible exact lr_alloc (lr_alloc (lr_alloc H.out _) _) _) x HK.out).mono ?_
    rintro e w3 ⟨A3, n3, c3, J3, m3, d3, C3, o3, f3, D3, t3, e3, rfl, hx, hp, q3, hb⟩
    obtain ⟨hc3, hf3⟩ := bcell hb
    have B3 := Lib.hid (show Below w.heap.size w w3 from (by first | exact below_seq B2.out hb | exact below_seq1 B2.out hb | exact below_seq2 B2.out hb | exact below_seq3 B2.out hb | exact below_seq4 B2.out hb))
    have R3 := Lib.hid hb
    have hz3 := hb.size
    try simp at hz3
    clear hb
    try have y30 : w.heap.size < w3.heap.size := by omega
    try have y30a : w.heap.size + 1 < w3.heap.size := by omega
    try have y30b : w.heap.size < w3.heap.size + 1 + 1 := by omega
    try have y30c : w.heap.size + 1 < w3.heap.size + 1 + 1 := by omega
    try have y31 : w1.heap.size < w3.heap.size := by omega
    try have y31a : w1.heap.size + 1 < w3.heap.size := by omega
    try have y31b : w1.heap.size < w3.heap.size + 1 + 1 := by omega
    try have y31c : w1.heap.size + 1 < w3.heap.size + 1 + 1 := by omega
    try have y32 : w2.heap.size < w3.heap.size := by omega
    try have y32a : w2.heap.size + 1 < w3.heap.size := by omega
    try have y32b : w2.heap.size < w3.heap.size + 1 + 1 := by omega
    try have y32c : w2.heap.size + 1 < w3.heap.size + 1 + 1 := by omega
    have Y := Lib.hid hx
    have K := Lib.hid hp
    clear hx hp
    replace X := Lib.hid (show LR w3 _ _ _ _ _ _ _ from (by first | with_reducible exact lr_below X.out R3.out | with_reducible exact lr_below (lr_alloc X.out _) R3.out | with_reducible exact lr_below (lr_alloc (lr_alloc X.out _) _) R3.out | with_reducible exact lr_below (lr_alloc (lr_alloc (lr_alloc X.out _) _) _) R3.out))
    replace G := Lib.hid (show PR w3 _ _ _ from (by first | with_reducible exact pr_below G.out R3.out | with_reducible exact pr_below (pr_alloc G.out _) R3.out | with_reducible exact pr_below (pr_alloc (pr_alloc G.out _) _) R3.out | with_reducible exact pr_below (pr_alloc (pr_alloc (pr_alloc G.out _) _) _) R3.out))
    go_wp2_with fail
    refine (sameLI_any A2 n2 c2 J2 m2 d2 C2 o2 f2 lnZ A3 n3 c3 J3 m3 d3 C3 o3 f3 lnZ _ (by first | with_reducible exact X.out | with_reducible exact lr_alloc X.out _ | with_reducible exact lr_alloc (lr_alloc X.out _) _ | with_reducible exact lr_alloc (lr_alloc (lr_alloc X.out _) _) _) (by first | with_reducible exact Y.out | with_reducible exact lr_alloc Y.out _ | with_reducible exact lr_alloc (lr_alloc Y.out _) _ | with_reducible exact lr_alloc (lr_alloc (lr_alloc Y.out _) _) _)).mono ?_
    rintro e w4 ⟨rfl, hb⟩
    obtain ⟨hc4, hf4⟩ := bcell hb
    have B4 := Lib.hid (show Below w.heap.size w w4 from (by first | exact below_seq B3.out hb | exact below_seq1 B3.out hb | exact below_seq2 B3.out hb | exact below_seq3 B3.out hb | exact below_seq4 B3.out hb))
    have R4 := Lib.hid hb
    have hz4 := hb.size
    try simp at hz4
    clear hb
    try have y40 : w.heap.size < w4.heap.size := by omega
    try have y40a : w.heap.size + 1 < w4.heap.size := by omega
    try have y40b : w.heap.size < w4.heap.size + 1 + 1 := by omega
    try have y40c : w.heap.size + 1 < w4.heap.size + 1 + 1 := by omega
    try have y41 : w1.heap.size < w4.heap.size := by omega
    try have y41a : w1.heap.size + 1 < w4.heap.size := by omega
    try have y41b : w1.heap.size < w4.heap.size + 1 + 1 := by omega
    try have y41c : w1.heap.size + 1 < w4.heap.size + 1 + 1 := by omega
    try have y42 : w2.heap.size < w4.heap.size := by omega
    try have y42a : w2.heap.size + 1 < w4.heap.size := by omega
    try have y42b : w2.heap.size < w4.heap.size + 1 + 1 := by omega
    try have y42c : w2.heap.size + 1 < w4.heap.size + 1 + 1 := by omega
    try have y43 : w3.heap.size < w4.heap.size := by omega
    try have y43a : w3.heap.size + 1 < w4.heap.size := by omega
    try have y43b : w3.heap.size < w4.heap.size + 1 + 1 := by omega
    try have y43c : w3.heap.size + 1 < w4.heap.size + 1 + 1 := by omega
    rw [ls_refl]
    replace X := Lib.hid (show LR w4 _ _ _ _ _ _ _ from (by first | with_reducible exact lr_below X.out R4.out | with_reducible exact lr_below (lr_alloc X.out _) R4.out | with_reducible exact lr_below (lr_alloc (lr_alloc X.out _) _) R4.out | with_reducible exact lr_below (lr_alloc (lr_alloc (lr_alloc X.out _) _) _) R4.out))
    replace Y := Lib.hid (show LR w4 _ _ _ _ _ _ _ from (by first | with_reducible exact lr_below Y.out R4.out | with_reducible exact lr_below (lr_alloc Y.out _) R4.out | with_reducible exact lr_below (lr_alloc (lr_alloc Y.out _) _) R4.out | with_reducible exact lr_below (lr_alloc (lr_alloc (lr_alloc Y.out _) _) _) R4.out))
    replace G := Lib.hid (show PR w4 _ _ _ from (by first | with_reducible exact pr_below G.out R4.out | with_reducible exact pr_below (pr_alloc G.out _) R4.out | with_reducible exact pr_below (pr_alloc (pr_alloc G.out _) _) R4.out | with_reducible exact pr_below (pr_alloc (pr_alloc (pr_alloc G.out _) _) _) R4.out))
    replace K := Lib.hid (show PR w4 _ _ _ from (by first | with_reducible exact pr_below K.out R4.out | with_reducible exact pr_below (pr_alloc K.out _) R4.out | with_reducible exact pr_below (pr_alloc (pr_alloc K.out _) _) R4.out | with_reducible exact pr_below (pr_alloc (pr_alloc (pr_alloc K.out _) _) _) R4.out))
    go_wp2_with fail
    refine (sameI_any D2 D3 t2 e2 t3 e3 [] [] _ (by first | with_reducible exact G.out | with_reducible exact pr_alloc G.out _ | with_reducible exact pr_alloc (pr_alloc G.out _) _ | with_reducible exact pr_alloc (pr_alloc (pr_alloc G.out _) _) _) (by first | with_reducible exact K.out | with_reducible exact pr_alloc K.out _ | with_reducible exact pr_alloc (pr_alloc K.out _) _ | with_reducible exact pr_alloc (pr_alloc (pr_alloc K.out _) _) _) (by omega) (by omega)).mono ?_
    rintro e w5 ⟨rfl, hb⟩
    obtain ⟨hc5, hf5⟩ := bcell hb
    have B5 := Lib.hid (show Below w.heap.size w w5 from (by first | exact below_seq B4.out hb | exact below_seq1 B4.out hb | exact below_seq2 B4.out hb | exact below_seq3 B4.out hb | exact below_seq4 B4.out hb))
    have R5 := Lib.hid hb
    have hz5 := hb.size
    try simp at hz5
    clear hb
    try have y50 : w.heap.size < w5.heap.size := by omega
    try have y50a : w.heap.size + 1 < w5.heap.size := by omega
    try have y50b : w.heap.size < w5.heap.size + 1 + 1 := by omega
    try have y50c : w.heap.size + 1 < w5.heap.size + 1 + 1 := by omega
    try have y51 : w1.heap.size < w5.heap.size := by omega
    try have y51a : w1.heap.size + 1 < w5.heap.size := by omega
    try have y51b : w1.heap.size < w5.heap.size + 1 + 1 := by omega
    try have y51c : w1.heap.size + 1 < w5.heap.size + 1 + 1 := by omega
    try have y52 : w2.heap.size < w5.heap.size := by omega
    try have y52a : w2.heap.size + 1 < w5.heap.size := by omega
    try have y52b : w2.heap.size < w5.heap.size + 1 + 1 := by omega
    try have y52c : w2.heap.size + 1 < w5.heap.size + 1 + 1 := by omega
    try have y53 : w3.heap.size < w5.heap.size := by omega
    try have y53a : w3.heap.size + 1 < w5.heap.size := by omega
    try have y53b : w3.heap.size < w5.heap.size + 1 + 1 := by omega
    try have y53c : w3.heap.size + 1 < w5.heap.size + 1 + 1 := by omega
    try have y54 : w4.heap.size < w5.heap.size := by omega
    try have y54a : w4.heap.size + 1 < w5.heap.size := by omega
    try have y54b : w4.heap.size < w5.heap.size + 1 + 1 := by omega
    try have y54c : w4.heap.size + 1 < w5.heap.size + 1 + 1 := by omega
    rw [← same_yes rfl]
    replace X := Lib.hid (show LR w5 _ _ _ _ _ _ _ from (by first | with_reducible exact lr_below X.out R5.out | with_reducible exact lr_below (lr_alloc X.out _) R5.out | with_reducible exact lr_below (lr_alloc (lr_alloc X.out _) _) R5.out | with_reducible exact lr_below (lr_alloc (lr_alloc (lr_alloc X.out _) _) _) R5.out))
    replace Y := Lib.hid (show LR w5 _ _ _ _ _ _ _ from (by first | with_reducible exact lr_below Y.out R5.out | with_reducible exact lr_below (lr_alloc Y.out _) R5.out | with_reducible exact lr_below (lr_alloc (lr_alloc Y.out _) _) R5.out | with_reducible exact lr_below (lr_alloc (lr_alloc (lr_alloc Y.out _) _) _) R5.out))
    replace G := Lib.hid (show PR w5 _ _ _ from (by first | with_reducible exact pr_below G.out R5.out | with_reducible exact pr_below (pr_alloc G.out _) R5.out | with_reducible exact pr_below (pr_alloc (pr_alloc G.out _) _) R5.out | with_reducible exact pr_below (pr_alloc (pr_alloc (pr_alloc G.out _) _) _) R5.out))
    replace K := Lib.hid (show PR w5 _ _ _ from (by first | with_reducible exact pr_below K.out R5.out | with_reducible exact pr_below (pr_alloc K.out _) R5.out | with_reducible exact pr_below (pr_alloc (pr_alloc K.out _) _) R5.out | with_reducible exact pr_below (pr_alloc (pr_alloc (pr_alloc K.out _) _) _) R5.out))
    go_wp2_with fail
    refine (sameLI_any A2 n2 c2 J2 m2 d2 C2 o2 f2 lnZ A3 n3 c3 J3 m3 d3 C3 o3 f3 lnZ _ (by first | with_reducible exact X.out | with_reducible exact lr_alloc X.out _ | with_reducible exact lr_alloc (lr_alloc X.out _) _ | with_reducible exact lr_alloc (lr_alloc (lr_alloc X.out _) _) _) (by first | with_reducible exact Y.out | with_reducible exact lr_alloc Y.out _ | with_reducible exact lr_alloc (lr_alloc Y.out _) _ | with_reducible exact lr_alloc (lr_alloc (lr_alloc Y.out _) _) _)).mono ?_
    rintro e w6 ⟨rfl, hb⟩
    obtain ⟨hc6, hf6⟩ := bcell hb
    have B6 := Lib.hid (show Below w.heap.size w w6 from (by first | exact below_seq B5.out hb | exact below_seq1 B5.out hb | exact below_seq2 B5.out hb | exact below_seq3 B5.out hb | exact below_seq4 B5.out hb))
    have R6 := Lib.hid hb
    have hz6 := hb.size
    try simp at hz6
    clear hb
    try have y60 : w.heap.size < w6.heap.size := by omega
    try have y60a : w.heap.size + 1 < w6.heap.size := by omega
    try have y60b : w.heap.size < w6.heap.size + 1 + 1 := by omega
    try have y60c : w.heap.size + 1 < w6.heap.size + 1 + 1 := by omega
    try have y61 : w1.heap.size < w6.heap.size := by omega
    try have y61a : w1.heap.size + 1 < w6.heap.size := by omega
    try have y61b : w1.heap.size < w6.heap.size + 1 + 1 := by omega
    try have y61c : w1.heap.size + 1 < w6.heap.size + 1 + 1 := by omega
    try have y62 : w2.heap.size < w6.heap.size := by omega
    try have y62a : w2.heap.size + 1 < w6.heap.size := by omega
    try have y62b : w2.heap.size < w6.heap.size + 1 + 1 := by omega
    try have y62c : w2.heap.size + 1 < w6.heap.size + 1 + 1 := by omega
    try have y63 : w3.heap.size < w6.heap.size := by omega
    try have y63a : w3.heap.size + 1 < w6.heap.size := by omega
    try have y63b : w3.heap.size < w6.heap.size + 1 + 1 := by omega
    try have y63c : w3.heap.size + 1 < w6.heap.size + 1 + 1 := by omega
    try have y64 : w4.heap.size < w6.heap.size := by omega
    try have y64a : w4.heap.size + 1 < w6.heap.size := by omega
    try have y64b : w4.heap.size < w6.heap.size + 1 + 1 := by omega
    try have y64c : w4.heap.size + 1 < w6.heap.size + 1 + 1 := by omega
    try have y65 : w5.heap.size < w6.heap.size := by omega
    try have y65a : w5.heap.size + 1 < w6.heap.size := by omega
    try have y65b : w5.heap.size < w6.heap.size + 1 + 1 := by omega
    try have y65c : w5.heap.size + 1 < w6.heap.size + 1 + 1 := by omega
    rw [ls_refl]
    replace G := Lib.hid (show PR w6 _ _ _ from (by first | with_reducible exact pr_below G.out R6.out | with_reducible exact pr_below (pr_alloc G.out _) R6.out | with_reducible exact pr_below (pr_alloc (pr_alloc G.out _) _) R6.out | with_reducible exact pr_below (pr_alloc (pr_alloc (pr_alloc G.out _) _) _) R6.out))
    replace K := Lib.hid (show PR w6 _ _ _ from (by first | with_reducible exact pr_below K.out R6.out | with_reducible exact pr_below (pr_alloc K.out _) R6.out | with_reducible exact pr_below (pr_alloc (pr_alloc K.out _) _) R6.out | with_reducible exact pr_below (pr_alloc (pr_alloc (pr_alloc K.out _) _) _) R6.out))
    go_wp2_with fail
    refine (sameI_any D2 D3 t2 e2 t3 e3 [] [] _ (by first | with_reducible exact G.out | with_reducible exact pr_alloc G.out _ | with_reducible exact pr_alloc (pr_alloc G.out _) _ | with_reducible exact pr_alloc (pr_alloc (pr_alloc G.out _) _) _) (by first | with_reducible exact K.out | with_reducible exact pr_alloc K.out _ | with_reducible exact pr_alloc (pr_alloc K.out _) _ | with_reducible exact pr_alloc (pr_alloc (pr_alloc K.out _) _) _) (by omega) (by omega)).mono ?_
    rintro e w7 ⟨rfl, hb⟩
    obtain ⟨hc7, hf7⟩ := bcell hb
    have B7 := Lib.hid (show Below w.heap.size w w7 from (by first | exact below_seq B6.out hb | exact below_seq1 B6.out hb | exact below_seq2 B6.out hb | exact below_seq3 B6.out hb | exact below_seq4 B6.out hb))
    have R7 := Lib.hid hb
    have hz7 := hb.size
    try simp at hz7
    clear hb
    try have y70 : w.heap.size < w7.heap.size := by omega
    try have y70a : w.heap.size + 1 < w7.heap.size := by omega
    try have y70b : w.heap.size < w7.heap.size + 1 + 1 := by omega
    try have y70c : w.heap.size + 1 < w7.heap.size + 1 + 1 := by omega
    try have y71 : w1.heap.size < w7.heap.size := by omega
    try have y71a : w1.heap.size + 1 < w7.heap.size := by omega
    try have y71b : w1.heap.size < w7.heap.size + 1 + 1 := by omega
    try have y71c : w1.heap.size + 1 < w7.heap.size + 1 + 1 := by omega
    try have y72 : w2.heap.size < w7.heap.size := by omega
    try have y72a : w2.heap.size + 1 < w7.heap.size := by omega
    try have y72b : w2.heap.size < w7.heap.size + 1 + 1 := by omega
    try have y72c : w2.heap.size + 1 < w7.heap.size + 1 + 1 := by omega
    try have y73 : w3.heap.size < w7.heap.size := by omega
    try have y73a : w3.heap.size + 1 < w7.heap.size := by omega
    try have y73b : w3.heap.size < w7.heap.size + 1 + 1 := by omega
    try have y73c : w3.heap.size + 1 < w7.heap.size + 1 + 1 := by omega
    try have y74 : w4.heap.size < w7.heap.size := by omega
    try have y74a : w4.heap.size + 1 < w7.heap.size := by omega
    try have y74b : w4.heap.size < w7.heap.size + 1 + 1 := by omega
    try have y74c : w4.heap.size + 1 < w7.heap.size + 1 + 1 := by omega
    try have y75 : w5.heap.size < w7.heap.size := by omega
    try have y75a : w5.heap.size + 1 < w7.heap.size := by omega
    try have y75b : w5.heap.size < w7.heap.size + 1 + 1 := by omega
    try have y75c : w5.heap.size + 1 < w7.heap.size + 1 + 1 := by omega
    try have y76 : w6.heap.size < w7.heap.size := by omega
    try have y76a : w6.heap.size + 1 < w7.heap.size := by omega
    try have y76b : w6.heap.size < w7.heap.size + 1 + 1 := by omega
    try have y76c : w6.heap.size + 1 < w7.heap.size + 1 + 1 := by omega
    rw [← same_yes rfl]
    go_wp2
    all_goals
      go_ret
      refine ⟨rfl, ?_⟩
      repeat refine below_alloc ?_ _
      exact B7.out
theorem own : ownKnob Try.prog.godebug = none := by kernel_rfl
theorem laidOut : laidOutB Try.prog = true := by kernel_rfl
set_option maxRecDepth 100000 in
theorem lifted (os : Os) (started : os.Started) (H : Type) (enc : TypeId × Value → H) :
    ReturnsInHanded {} Try.checked os 10 .any (Rows.fnTakePeersSpec.pre6 enc Try.prog Try.f10 Rows.fnTakePeersRow.domain false) (Rows.fnTakePeersSpec.post enc Try.prog Try.f10 false true false false) := by
  refine returnsInHanded_of_change (C := Try.checked) own started (by kernel_rfl) Try.func10
    (ChangeSpec.witness6 (enc := enc) (C := Try.checked) false ⟨#[], #[.slice none 0 0], []⟩ 8 (by kernel_rfl) (by kernel_rfl) (by kernel_rfl) (by kernel_rfl)) ?_
  intro W base args ds gs before hval0 hW _ _
  have hval : ∀ (j : Nat) t v, Try.f10.params[j]? = some t → args[j]? = some v → Value.okWide Try.prog W .any base t v := hval0
  have hW' := hW
  obtain ⟨p, q, hA0, hV, rfl, _, _⟩ := hW
  have hA : DataW.TrodAll enc Try.prog W 0 (fun _ => true) true Try.f10.params.toList args.toList ds p := hA0
  rw [Try.params10] at hA hval
  obtain ⟨v0, vs0, d0, ds0, p0, q0, hargs, rfl, rfl, h0, r0⟩ := trodAll_cons hA
  obtain ⟨rfl, rfl, rfl⟩ := trodAll_nil r0
  obtain rfl : args = #[v0] := by cases args; simp_all
  obtain ⟨rfl, rfl⟩ := trodVars_none hV
  have lt0 : ∀ x ∈ p0, x.block < W.heap.size := by obtain ⟨m, hm⟩ := h0; exact DataW.trod_lt m _ _ _ hm
  obtain ⟨a0, n0, c0, rfl⟩ := okWide_slice Try.underlying22 (hval 0 22 v0 rfl rfl)
  have w0 : Bytes W a0 n0 c0 := bytes_open h0
  clear hA0 hval0
  refine (walk a0 n0 c0 W w0).mono fun e W' ⟨he, bel⟩ => ?_
  subst he
  exact ⟨_, rfl, _, _, _, [], _, [], hW', trodAll_mk1 (shut_bool Try.underlying4 _), (trodAll_cons_mk (Below.trod laidOut (by kernel_rfl) (of_decide_eq_true (by kernel_rfl)) h0 bel lt0) trodAll_mk0), rfl, bel.frame _, fun h => by cases h⟩
theorem over : Rows.fnTakePeersRow.holds Try.pinned (OpenSpec.ofChange Rows.fnTakePeersSpec) :=
  OpenClaim.holds_of_wide 10 Try.f10 rfl rfl rfl rfl rfl rfl rfl ⟨rfl, rfl, rfl, rfl, rfl⟩ rfl rfl rfl rfl rfl (by kernel_rfl) Try.func10 (by unfold joinedFacts; rw [mayEnter, liftsFinal, makeIs]; kernel_rfl)
    (of_decide_eq_true (by kernel_rfl)) (by unfold Func.isWrapper; first | (rw [if_pos (by decide +kernel)]; kernel_rfl) | (rw [if_neg (by decide +kernel)]; exact ⟨rfl, rfl⟩))
    (fun os started H enc _ => lifted os started H enc)
/-- the given statement -/
theorem proved : Rows.FnTakePeersSaid := over
end Go.Proofs.Ytkmoiphcpmhacaa.fnTakePeers
