/-
  The law FnTakeLanes returns true at every argument: what is taken is as much as asked, or all. Conditions: none.
-/
import Derived.Test.YtkmoiphcpmhacaaKb
import Derived.Test.YtkmoiphcpmhacaaKy
import Derived.Test.YtkmoiphcpmhacaaKw
import Derived.Test.YtkmoiphcpmhacaaMay
import Derived.Test.YtkmoiphcpmhacaaLifts
import Derived.Test.YtkmoiphcpmhacaaMake
namespace Go.Proofs.Ytkmoiphcpmhacaa.fnTakeLanes
open Go.ChangeShapes Go.WideShapes Go.ChangeAt Go.RowKit

theorem tot_none {l : Ln} (h : Empty6 l) : totN l = 0 := by
  unfold totN
  have : ∀ rs : List Rb, (∀ r ∈ rs, r.fs = []) → (rs.map fun r => total r.fs).sum = 0 := by
    intro rs
    induction rs with
    | nil => intro _; rfl
    | cons a t ih => intro hh; simp [hh a (by simp), total, ih fun r hr => hh r (by simp [hr])]
  exact this l.rs h
theorem sum_cnts (rs : List Rb) : sumL (rs.map fun r => (total r.fs : Int)) = ((rs.map fun r => total r.fs).sum : Nat) := by
  induction rs with
  | nil => rfl
  | cons a t ih => simp only [List.map_cons, sumL, List.sum_cons, ih]; omega
theorem sum_all {l : Ln} (hv : LV l) : sumL ((cnts l).take 4) = (totN l : Int) := by
  rw [List.take_of_length_le (by rw [cnts_len, hv.n0]; omega)]
  exact sum_cnts l.rs
theorem sum_part {l : Ln} (hv : LV l) (k : Nat) : 0 ≤ sumL ((cnts l).take k) ∧ sumL ((cnts l).take k) ≤ 2048 := by
  have h := sumL_take_bd (xs := cnts l) (B := 512) (fun x hx => by
    obtain ⟨r, hr, rfl⟩ := List.mem_map.1 hx
    obtain ⟨j, hj⟩ := List.getElem?_of_mem hr
    have h1 := (hv.rb j r hj).rv
    have := total_le h1
    have := rv_len h1
    omega) k (by omega)
  rw [cnts_len, hv.n0] at h
  omega
def TkSum (w : World) (us vs : List Int) (s v i : Value) (wr : World) : Prop :=
  ∃ k : Nat, k ≤ 4 ∧ s = .int .i64 (sumL (us.take k)) ∧ v = .int .i64 (sumL (vs.take k)) ∧ i = .int .i64 (k : Int) ∧ wr = w
set_option maxRecDepth 100000 in
set_option maxHeartbeats 8000000 in
theorem walk (A : Option Addr) (n c : Nat) (w : World) (h : Bytes w A n c) :
    Calls Try.prog 5 #[.slice A n c] w fun e w' => e = .returned (.bool true) ∧ Below w.heap.size w w' := by
  have HB := Lib.hid h
  clear h
  by_cases hbig : ¬ n ≤ 1048576
  · go_enter Try.func5, Try.ntmps5
    go_wp2
    go_ret
    exact ⟨rfl, Below.refl _ _⟩
  have hbig' : n ≤ 1048576 := by omega
  clear hbig
  go_enter Try.func5, Try.ntmps5
  go_wp2_with fail
  refine (drawTakeLanes_any A n c _ HB.out).mono ?_
  rintro e w1 ⟨A1, n1, c1, J1, d1, C1, f1, l, x, rfl, hx1, hl, hb⟩
  obtain ⟨hc1, hf1⟩ := bcell hb
  have B1 := Lib.hid (show Below w.heap.size w w1 from (by first | exact below_seq (Below.refl w.heap.size w) hb | exact below_seq1 (Below.refl w.heap.size w) hb | exact below_seq2 (Below.refl w.heap.size w) hb | exact below_seq3 (Below.refl w.heap.size w) hb | exact below_seq4 (Below.refl w.heap.size w) hb))
  have R1 := Lib.hid hb
  have hz1 := hb.size
  try simp at hz1
  clear hb
  have H := Lib.hid hl
  clear hl
  by_cases hk : LV l ∧ 0 ≤ x
  · obtain ⟨b, rfl⟩ : ∃ b : Nat, x = (b : Int) := ⟨x.toNat, by omega⟩
    have hb100 : b ≤ 100 := by omega
    have HOK := Lib.hid hk.1
    clear hk
    obtain ⟨l2, hl2⟩ : ∃ l2, l2 = (tkN b l).1 := ⟨_, rfl⟩
    obtain ⟨ps, hps⟩ : ∃ ps, ps = (tkN b l).2 := ⟨_, rfl⟩
    have HL2 := Lib.hid hl2
    have HPS := Lib.hid hps
    clear hl2 hps
    go_wp2_with fail
    refine (tkI_rd A1 n1 c1 J1 4 d1 C1 4 f1 l _ (by first | with_reducible exact H.out | with_reducible exact lr_alloc H.out _ | with_reducible exact lr_alloc (lr_alloc H.out _) _ | with_reducible exact lr_alloc (lr_alloc (lr_alloc H.out _) _) _) b HOK.out).mono ?_
    rintro e w2 ⟨A2, n2, c2, J2, m2, d2, C2, o2, f2, D2, t2, e2, rfl, hx, hp, q2, hb⟩
    obtain ⟨hc2, hf2⟩ := bcell hb
    have B2 := Lib.hid (show Below w.heap.size w w2 from (by first | exact below_seq B1.out hb | exact below_seq1 B1.out hb | exact below_seq2 B1.out hb | exact below_seq3 B1.out hb | exact below_seq4 B1.out hb))
    have R2 := Lib.hid hb
    have hz2 := hb.size
    try simp at hz2
    clear hb
    try have y20 : w.heap.size < w2.heap.size := by omega
    try have y20a : w.heap.size + 1 < w2.heap.size := by omega
    try have y20b : w.heap.size < w2.heap.size + 1 + 1 := by omega
    try have y20c : w.heap.size + 1 < w2.heap.size + 1 + 1 := by omega
    try have y21 : w1.heap.size < w2.heap.size := by omega
    try have y21a : w1.heap.size + 1 < w2.heap.size := by omega
    try have y21b : w1.heap.size < w2.heap.size + 1 + 1 := by omega
    try have y21c : w1.heap.size + 1 < w2.heap.size + 1 + 1 := by omega
    rw [← HL2.out] at hx
    rw [← HPS.out] at hp
    have X := Lib.hid hx
    have G := Lib.hid hp
    clear hx hp
    replace H := Lib.hid (show LR w2 _ _ _ _ _ _ _ from (by first | with_reducible exact lr_below H.out R2.out | with_reducible exact lr_below (lr_alloc H.out _) R2.out | with_reducible exact lr_below (lr_alloc (lr_alloc H.out _) _) R2.out | with_reducible exact lr_below (lr_alloc (lr_alloc (lr_alloc H.out _) _) _) R2.out))
    go_wp2_with fail
    refine (tkS_rd A1 n1 c1 J1 4 d1 C1 4 f1 l _ (by first | with_reducible exact H.out | with_reducible exact lr_alloc H.out _ | with_reducible exact lr_alloc (lr_alloc H.out _) _ | with_reducible exact lr_alloc (lr_alloc (lr_alloc H.out _) _) _) b HOK.out).mono ?_
    rintro e w3 ⟨A3, n3, c3, J3, m3, d3, C3, o3, f3, D3, t3, e3, rfl, hx, hp, q3, hb⟩
    obtain ⟨hc3, hf3⟩ := bcell hb
    have B3 := Lib.hid (show Below w.heap.size w w3 from (by first | exact below_seq B2.out hb | exact below_seq1 B2.out hb | exact below_seq2 B2.out hb | exact below_seq3 B2.out hb | exact below_seq4 B2.out hb))
    have R3 := Lib.hid hb
    have hz3 := hb.size
    try simp at hz3
    clear hb
    try have y30 : w.heap.size < w3.heap.size := by omega
    try have y30a : w.heap.size + 1 < w3.heap.size := by omega
    try have y30b : w.heap.size < w3.heap.size + 1 + 1 := by omega
    try have y30c : w.heap.size + 1 < w3.heap.size + 1 + 1 := by omega
    try have y31 : w1.heap.size < w3.heap.size := by omega
    try have y31a : w1.heap.size + 1 < w3.heap.size := by omega
    try have y31b : w1.heap.size < w3.heap.size + 1 + 1 := by omega
    try have y31c : w1.heap.size + 1 < w3.heap.size + 1 + 1 := by omega
    try have y32 : w2.heap.size < w3.heap.size := by omega
    try have y32a : w2.heap.size + 1 < w3.heap.size := by omega
    try have y32b : w2.heap.size < w3.heap.size + 1 + 1 := by omega
    try have y32c : w2.heap.size + 1 < w3.heap.size + 1 + 1 := by omega
    rw [← HL2.out] at hx
    rw [← HPS.out] at hp
    have Y := Lib.hid hx
    have K := Lib.hid hp
    clear hx hp
    replace H := Lib.hid (show LR w3 _ _ _ _ _ _ _ from (by first | with_reducible exact lr_below H.out R3.out | with_reducible exact lr_below (lr_alloc H.out _) R3.out | with_reducible exact lr_below (lr_alloc (lr_alloc H.out _) _) R3.out | with_reducible exact lr_below (lr_alloc (lr_alloc (lr_alloc H.out _) _) _) R3.out))
    replace X := Lib.hid (show LR w3 _ _ _ _ _ _ _ from (by first | with_reducible exact lr_below X.out R3.out | with_reducible exact lr_below (lr_alloc X.out _) R3.out | with_reducible exact lr_below (lr_alloc (lr_alloc X.out _) _) R3.out | with_reducible exact lr_below (lr_alloc (lr_alloc (lr_alloc X.out _) _) _) R3.out))
    replace G := Lib.hid (show PR w3 _ _ _ from (by first | with_reducible exact pr_below G.out R3.out | with_reducible exact pr_below (pr_alloc G.out _) R3.out | with_reducible exact pr_below (pr_alloc (pr_alloc G.out _) _) R3.out | with_reducible exact pr_below (pr_alloc (pr_alloc (pr_alloc G.out _) _) _) R3.out))
    go_wp2_with fail
    refine (sameLI_any A2 n2 c2 J2 m2 d2 C2 o2 f2 l2 A3 n3 c3 J3 m3 d3 C3 o3 f3 l2 _ (by first | with_reducible exact X.out | with_reducible exact lr_alloc X.out _ | with_reducible exact lr_alloc (lr_alloc X.out _) _ | with_reducible exact lr_alloc (lr_alloc (lr_alloc X.out _) _) _) (by first | with_reducible exact Y.out | with_reducible exact lr_alloc Y.out _ | with_reducible exact lr_alloc (lr_alloc Y.out _) _ | with_reducible exact lr_alloc (lr_alloc (lr_alloc Y.out _) _) _)).mono ?_
    rintro e w4 ⟨rfl, hb⟩
    obtain ⟨hc4, hf4⟩ := bcell hb
    have B4 := Lib.hid (show Below w.heap.size w w4 from (by first | exact below_seq B3.out hb | exact below_seq1 B3.out hb | exact below_seq2 B3.out hb | exact below_seq3 B3.out hb | exact below_seq4 B3.out hb))
    have R4 := Lib.hid hb
    have hz4 := hb.size
    try simp at hz4
    clear hb
    try have y40 : w.heap.size < w4.heap.size := by omega
    try have y40a : w.heap.size + 1 < w4.heap.size := by omega
    try have y40b : w.heap.size < w4.heap.size + 1 + 1 := by omega
    try have y40c : w.heap.size + 1 < w4.heap.size + 1 + 1 := by omega
    try have y41 : w1.heap.size < w4.heap.size := by omega
    try have y41a : w1.heap.size + 1 < w4.heap.size := by omega
    try have y41b : w1.heap.size < w4.heap.size + 1 + 1 := by omega
    try have y41c : w1.heap.size + 1 < w4.heap.size + 1 + 1 := by omega
    try have y42 : w2.heap.size < w4.heap.size := by omega
    try have y42a : w2.heap.size + 1 < w4.heap.size := by omega
    try have y42b : w2.heap.size < w4.heap.size + 1 + 1 := by omega
    try have y42c : w2.heap.size + 1 < w4.heap.size + 1 + 1 := by omega
    try have y43 : w3.heap.size < w4.heap.size := by omega
    try have y43a : w3.heap.size + 1 < w4.heap.size := by omega
    try have y43b : w3.heap.size < w4.heap.size + 1 + 1 := by omega
    try have y43c : w3.heap.size + 1 < w4.heap.size + 1 + 1 := by omega
    rw [ls_refl]
    replace H := Lib.hid (show LR w4 _ _ _ _ _ _ _ from (by first | with_reducible exact lr_below H.out R4.out | with_reducible exact lr_below (lr_alloc H.out _) R4.out | with_reducible exact lr_below (lr_alloc (lr_alloc H.out _) _) R4.out | with_reducible exact lr_below (lr_alloc (lr_alloc (lr_alloc H.out _) _) _) R4.out))
    replace X := Lib.hid (show LR w4 _ _ _ _ _ _ _ from (by first | with_reducible exact lr_below X.out R4.out | with_reducible exact lr_below (lr_alloc X.out _) R4.out | with_reducible exact lr_below (lr_alloc (lr_alloc X.out _) _) R4.out | with_reducible exact lr_below (lr_alloc (lr_alloc (lr_alloc X.out _) _) _) R4.out))
    replace G := Lib.hid (show PR w4 _ _ _ from (by first | with_reducible exact pr_below G.out R4.out | with_reducible exact pr_below (pr_alloc G.out _) R4.out | with_reducible exact pr_below (pr_alloc (pr_alloc G.out _) _) R4.out | with_reducible exact pr_below (pr_alloc (pr_alloc (pr_alloc G.out _) _) _) R4.out))
    replace K := Lib.hid (show PR w4 _ _ _ from (by first | with_reducible exact pr_below K.out R4.out | with_reducible exact pr_below (pr_alloc K.out _) R4.out | with_reducible exact pr_below (pr_alloc (pr_alloc K.out _) _) R4.out | with_reducible exact pr_below (pr_alloc (pr_alloc (pr_alloc K.out _) _) _) R4.out))
    clear Y
    go_wp2_with fail
    refine (sameI_any D2 D3 t2 e2 t3 e3 ps ps _ (by first | with_reducible exact G.out | with_reducible exact pr_alloc G.out _ | with_reducible exact pr_alloc (pr_alloc G.out _) _ | with_reducible exact pr_alloc (pr_alloc (pr_alloc G.out _) _) _) (by first | with_reducible exact K.out | with_reducible exact pr_alloc K.out _ | with_reducible exact pr_alloc (pr_alloc K.out _) _ | with_reducible exact pr_alloc (pr_alloc (pr_alloc K.out _) _) _) (by omega) (by omega)).mono ?_
    rintro e w5 ⟨rfl, hb⟩
    obtain ⟨hc5, hf5⟩ := bcell hb
    have B5 := Lib.hid (show Below w.heap.size w w5 from (by first | exact below_seq B4.out hb | exact below_seq1 B4.out hb | exact below_seq2 B4.out hb | exact below_seq3 B4.out hb | exact below_seq4 B4.out hb))
    have R5 := Lib.hid hb
    have hz5 := hb.size
    try simp at hz5
    clear hb
    try have y50 : w.heap.size < w5.heap.size := by omega
    try have y50a : w.heap.size + 1 < w5.heap.size := by omega
    try have y50b : w.heap.size < w5.heap.size + 1 + 1 := by omega
    try have y50c : w.heap.size + 1 < w5.heap.size + 1 + 1 := by omega
    try have y51 : w1.heap.size < w5.heap.size := by omega
    try have y51a : w1.heap.size + 1 < w5.heap.size := by omega
    try have y51b : w1.heap.size < w5.heap.size + 1 + 1 := by omega
    try have y51c : w1.heap.size + 1 < w5.heap.size + 1 + 1 := by omega
    try have y52 : w2.heap.size < w5.heap.size := by omega
    try have y52a : w2.heap.size + 1 < w5.heap.size := by omega
    try have y52b : w2.heap.size < w5.heap.size + 1 + 1 := by omega
    try have y52c : w2.heap.size + 1 < w5.heap.size + 1 + 1 := by omega
    try have y53 : w3.heap.size < w5.heap.size := by omega
    try have y53a : w3.heap.size + 1 < w5.heap.size := by omega
    try have y53b : w3.heap.size < w5.heap.size + 1 + 1 := by omega
    try have y53c : w3.heap.size + 1 < w5.heap.size + 1 + 1 := by omega
    try have y54 : w4.heap.size < w5.heap.size := by omega
    try have y54a : w4.heap.size + 1 < w5.heap.size := by omega
    try have y54b : w4.heap.size < w5.heap.size + 1 + 1 := by omega
    try have y54c : w4.heap.size + 1 < w5.heap.size + 1 + 1 := by omega
    rw [← same_yes rfl]
    replace H := Lib.hid (show LR w5 _ _ _ _ _ _ _ from (by first | with_reducible exact lr_below H.out R5.out | with_reducible exact lr_below (lr_alloc H.out _) R5.out | with_reducible exact lr_below (lr_alloc (lr_alloc H.out _) _) R5.out | with_reducible exact lr_below (lr_alloc (lr_alloc (lr_alloc H.out _) _) _) R5.out))
    replace X := Lib.hid (show LR w5 _ _ _ _ _ _ _ from (by first | with_reducible exact lr_below X.out R5.out | with_reducible exact lr_below (lr_alloc X.out _) R5.out | with_reducible exact lr_below (lr_alloc (lr_alloc X.out _) _) R5.out | with_reducible exact lr_below (lr_alloc (lr_alloc (lr_alloc X.out _) _) _) R5.out))
    replace G := Lib.hid (show PR w5 _ _ _ from (by first | with_reducible exact pr_below G.out R5.out | with_reducible exact pr_below (pr_alloc G.out _) R5.out | with_reducible exact pr_below (pr_alloc (pr_alloc G.out _) _) R5.out | with_reducible exact pr_below (pr_alloc (pr_alloc (pr_alloc G.out _) _) _) R5.out))
    clear K

    obtain ⟨hv2, htt, hle, hor⟩ := tkN_valid b l HOK.out
    rw [← HL2.out] at hv2 htt hor
    rw [← HPS.out] at htt hle hor
    have HV2 := Lib.hid hv2
    have g4 := G.out.1
    have htl := tot_le HOK.out
    rw [g4] at htt hle hor
    have hor2 : t2 = b ∨ totN l2 = 0 := hor.imp id tot_none
    clear hv2 hor
    have HTT := Lib.hid htt
    clear htt

    go_wp2_with fail
    refine (ctI_rd A1 n1 c1 J1 4 d1 C1 4 f1 l _ (by first | with_reducible exact H.out | with_reducible exact lr_alloc H.out _ | with_reducible exact lr_alloc (lr_alloc H.out _) _ | with_reducible exact lr_alloc (lr_alloc (lr_alloc H.out _) _) _) HOK.out).mono ?_
    rintro e w6 ⟨A6, n6, c6, rfl, hn6, hu, hb⟩
    obtain ⟨hc6, hf6⟩ := bcell hb
    have B6 := Lib.hid (show Below w.heap.size w w6 from (by first | exact below_seq B5.out hb | exact below_seq1 B5.out hb | exact below_seq2 B5.out hb | exact below_seq3 B5.out hb | exact below_seq4 B5.out hb))
    have R6 := Lib.hid hb
    have hz6 := hb.size
    try simp at hz6
    clear hb
    try have y60 : w.heap.size < w6.heap.size := by omega
    try have y60a : w.heap.size + 1 < w6.heap.size := by omega
    try have y60b : w.heap.size < w6.heap.size + 1 + 1 := by omega
    try have y60c : w.heap.size + 1 < w6.heap.size + 1 + 1 := by omega
    try have y61 : w1.heap.size < w6.heap.size := by omega
    try have y61a : w1.heap.size + 1 < w6.heap.size := by omega
    try have y61b : w1.heap.size < w6.heap.size + 1 + 1 := by omega
    try have y61c : w1.heap.size + 1 < w6.heap.size + 1 + 1 := by omega
    try have y62 : w2.heap.size < w6.heap.size := by omega
    try have y62a : w2.heap.size + 1 < w6.heap.size := by omega
    try have y62b : w2.heap.size < w6.heap.size + 1 + 1 := by omega
    try have y62c : w2.heap.size + 1 < w6.heap.size + 1 + 1 := by omega
    try have y63 : w3.heap.size < w6.heap.size := by omega
    try have y63a : w3.heap.size + 1 < w6.heap.size := by omega
    try have y63b : w3.heap.size < w6.heap.size + 1 + 1 := by omega
    try have y63c : w3.heap.size + 1 < w6.heap.size + 1 + 1 := by omega
    try have y64 : w4.heap.size < w6.heap.size := by omega
    try have y64a : w4.heap.size + 1 < w6.heap.size := by omega
    try have y64b : w4.heap.size < w6.heap.size + 1 + 1 := by omega
    try have y64c : w4.heap.size + 1 < w6.heap.size + 1 + 1 := by omega
    try have y65 : w5.heap.size < w6.heap.size := by omega
    try have y65a : w5.heap.size + 1 < w6.heap.size := by omega
    try have y65b : w5.heap.size < w6.heap.size + 1 + 1 := by omega
    try have y65c : w5.heap.size + 1 < w6.heap.size + 1 + 1 := by omega
    obtain rfl : n6 = 4 := by rw [hn6, cnts_len, (HOK.out : LV l).n0]
    have U := Lib.hid hu
    clear hu hn6
    replace H := Lib.hid (show LR w6 _ _ _ _ _ _ _ from (by first | with_reducible exact lr_below H.out R6.out | with_reducible exact lr_below (lr_alloc H.out _) R6.out | with_reducible exact lr_below (lr_alloc (lr_alloc H.out _) _) R6.out | with_reducible exact lr_below (lr_alloc (lr_alloc (lr_alloc H.out _) _) _) R6.out))
    replace X := Lib.hid (show LR w6 _ _ _ _ _ _ _ from (by first | with_reducible exact lr_below X.out R6.out | with_reducible exact lr_below (lr_alloc X.out _) R6.out | with_reducible exact lr_below (lr_alloc (lr_alloc X.out _) _) R6.out | with_reducible exact lr_below (lr_alloc (lr_alloc (lr_alloc X.out _) _) _) R6.out))
    replace G := Lib.hid (show PR w6 _ _ _ from (by first | with_reducible exact pr_below G.out R6.out | with_reducible exact pr_below (pr_alloc G.out _) R6.out | with_reducible exact pr_below (pr_alloc (pr_alloc G.out _) _) R6.out | with_reducible exact pr_below (pr_alloc (pr_alloc (pr_alloc G.out _) _) _) R6.out))
    go_wp2_with fail
    refine (ctI_rd A2 n2 c2 J2 m2 d2 C2 o2 f2 l2 _ (by first | with_reducible exact X.out | with_reducible exact lr_alloc X.out _ | with_reducible exact lr_alloc (lr_alloc X.out _) _ | with_reducible exact lr_alloc (lr_alloc (lr_alloc X.out _) _) _) HV2.out).mono ?_
    rintro e w7 ⟨A7, n7, c7, rfl, hn7, hu, hb⟩
    obtain ⟨hc7, hf7⟩ := bcell hb
    have B7 := Lib.hid (show Below w.heap.size w w7 from (by first | exact below_seq B6.out hb | exact below_seq1 B6.out hb | exact below_seq2 B6.out hb | exact below_seq3 B6.out hb | exact below_seq4 B6.out hb))
    have R7 := Lib.hid hb
    have hz7 := hb.size
    try simp at hz7
    clear hb
    try have y70 : w.heap.size < w7.heap.size := by omega
    try have y70a : w.heap.size + 1 < w7.heap.size := by omega
    try have y70b : w.heap.size < w7.heap.size + 1 + 1 := by omega
    try have y70c : w.heap.size + 1 < w7.heap.size + 1 + 1 := by omega
    try have y71 : w1.heap.size < w7.heap.size := by omega
    try have y71a : w1.heap.size + 1 < w7.heap.size := by omega
    try have y71b : w1.heap.size < w7.heap.size + 1 + 1 := by omega
    try have y71c : w1.heap.size + 1 < w7.heap.size + 1 + 1 := by omega
    try have y72 : w2.heap.size < w7.heap.size := by omega
    try have y72a : w2.heap.size + 1 < w7.heap.size := by omega
    try have y72b : w2.heap.size < w7.heap.size + 1 + 1 := by omega
    try have y72c : w2.heap.size + 1 < w7.heap.size + 1 + 1 := by omega
    try have y73 : w3.heap.size < w7.heap.size := by omega
    try have y73a : w3.heap.size + 1 < w7.heap.size := by omega
    try have y73b : w3.heap.size < w7.heap.size + 1 + 1 := by omega
    try have y73c : w3.heap.size + 1 < w7.heap.size + 1 + 1 := by omega
    try have y74 : w4.heap.size < w7.heap.size := by omega
    try have y74a : w4.heap.size + 1 < w7.heap.size := by omega
    try have y74b : w4.heap.size < w7.heap.size + 1 + 1 := by omega
    try have y74c : w4.heap.size + 1 < w7.heap.size + 1 + 1 := by omega
    try have y75 : w5.heap.size < w7.heap.size := by omega
    try have y75a : w5.heap.size + 1 < w7.heap.size := by omega
    try have y75b : w5.heap.size < w7.heap.size + 1 + 1 := by omega
    try have y75c : w5.heap.size + 1 < w7.heap.size + 1 + 1 := by omega
    try have y76 : w6.heap.size < w7.heap.size := by omega
    try have y76a : w6.heap.size + 1 < w7.heap.size := by omega
    try have y76b : w6.heap.size < w7.heap.size + 1 + 1 := by omega
    try have y76c : w6.heap.size + 1 < w7.heap.size + 1 + 1 := by omega
    obtain rfl : n7 = 4 := by rw [hn7, cnts_len, HV2.out.n0]
    have V := Lib.hid hu
    clear hu hn7
    replace H := Lib.hid (show LR w7 _ _ _ _ _ _ _ from (by first | with_reducible exact lr_below H.out R7.out | with_reducible exact lr_below (lr_alloc H.out _) R7.out | with_reducible exact lr_below (lr_alloc (lr_alloc H.out _) _) R7.out | with_reducible exact lr_below (lr_alloc (lr_alloc (lr_alloc H.out _) _) _) R7.out))
    replace X := Lib.hid (show LR w7 _ _ _ _ _ _ _ from (by first | with_reducible exact lr_below X.out R7.out | with_reducible exact lr_below (lr_alloc X.out _) R7.out | with_reducible exact lr_below (lr_alloc (lr_alloc X.out _) _) R7.out | with_reducible exact lr_below (lr_alloc (lr_alloc (lr_alloc X.out _) _) _) R7.out))
    replace G := Lib.hid (show PR w7 _ _ _ from (by first | with_reducible exact pr_below G.out R7.out | with_reducible exact pr_below (pr_alloc G.out _) R7.out | with_reducible exact pr_below (pr_alloc (pr_alloc G.out _) _) R7.out | with_reducible exact pr_below (pr_alloc (pr_alloc (pr_alloc G.out _) _) _) R7.out))
    replace U := Lib.hid (show NR w7 _ _ _ from (by first | with_reducible exact nr_below U.out R7.out | with_reducible exact nr_below (nr_alloc U.out _) R7.out | with_reducible exact nr_below (nr_alloc (nr_alloc U.out _) _) R7.out | with_reducible exact nr_below (nr_alloc (nr_alloc (nr_alloc U.out _) _) _) R7.out))

    go_wp2_with fail
    go_loopw [15, 16, 17] (fun s v i wr => TkSum w7 (cnts l) (cnts l2) s v i wr) (fun _ _ i _ => 4 - (intOf i).toNat)
    case atStart => exact ⟨0, by omega, by simp [sumL], by simp [sumL], rfl, rfl⟩
    case round =>
      obtain ⟨k, hk4, rfl, rfl, rfl, rfl⟩ := hrel
      have hs1 := sum_part HOK.out k
      have hs2 := sum_part HV2.out k
      have htl2 := tot_le HV2.out
      by_cases hlt : k < 4
      · obtain ⟨b1, o1, x1, rfl, hb1, hv1, c01⟩ := nr_at U.out hlt
        obtain ⟨b2, o2, x2, rfl, hb2, hv2, c02⟩ := nr_at V.out hlt
        have ht1 := sumL_take hv1
        have ht2 := sumL_take hv2
        have hs1' := sum_part HOK.out (k + 1)
        have hs2' := sum_part HV2.out (k + 1)
        have k0 : (0 : Int) ≤ (k : Int) := by omega
        have k1 : (k : Int) < (4 : Int) := by omega
        obtain ⟨S1, hS1⟩ : ∃ S, S = sumL ((cnts l).take k) := ⟨_, rfl⟩
        obtain ⟨S2, hS2⟩ : ∃ S, S = sumL ((cnts l2).take k) := ⟨_, rfl⟩
        rw [← hS1] at ht1 hs1 ⊢
        rw [← hS2] at ht2 hs2 ⊢
        clear hS1 hS2 hv1 hv2
        have hw1 : IntKind.i64.wrap (S1 + x1) = S1 + x1 := IntWalk.i64_in _ (by omega)
        have hw2 : IntKind.i64.wrap (S2 + x2) = S2 + x2 := IntWalk.i64_in _ (by omega)
        have R1' := Lib.hid ht1
        have R2' := Lib.hid ht2
        clear ht1 ht2 hs1 hs2 hs1' hs2'
        go_wp2
        go_roundw
        case rel => exact ⟨k + 1, by omega, by rw [R1'.out], by rw [R2'.out], by go_num, rfl⟩
        case measure => simp [intOf]; omega
      · obtain rfl : k = 4 := by omega
        rw [sum_all HOK.out, sum_all HV2.out]
        clear hs1 hs2
        have htt := HTT.out
        obtain ⟨T1, hT1⟩ : ∃ T : Int, T = (totN l : Int) := ⟨_, rfl⟩
        obtain ⟨T2, hT2⟩ : ∃ T : Int, T = (totN l2 : Int) := ⟨_, rfl⟩
        rw [← hT1, ← hT2]
        have htt2 : T1 = T2 + (t2 : Int) := by omega
        have hor3 : t2 = b ∨ T2 = 0 := by omega
        have htl3 : 0 ≤ T2 ∧ T2 ≤ 2048 := by omega
        clear hT1 hT2 htt htl htl2 hor2
        have hwd : IntKind.i64.wrap (T1 - T2) = (t2 : Int) := by rw [IntWalk.i64_in _ (by omega)]; omega
        clear htt2
        have hle' : (t2 : Int) ≤ (b : Int) := by omega
        have hled : decide ((t2 : Int) ≤ (b : Int)) = true := by simp; omega
        go_wp2_with fail
        refine (lanI_any A2 n2 c2 J2 m2 d2 C2 o2 f2 l2 _ (by first | with_reducible exact X.out | with_reducible exact lr_alloc X.out _ | with_reducible exact lr_alloc (lr_alloc X.out _) _ | with_reducible exact lr_alloc (lr_alloc (lr_alloc X.out _) _) _)).mono ?_
        rintro e w8 ⟨rfl, hb⟩
        obtain ⟨hc8, hf8⟩ := bcell hb
        have B8 := Lib.hid (show Below w.heap.size w w8 from (by first | exact below_seq B7.out hb | exact below_seq1 B7.out hb | exact below_seq2 B7.out hb | exact below_seq3 B7.out hb | exact below_seq4 B7.out hb))
        have R8 := Lib.hid hb
        have hz8 := hb.size
        try simp at hz8
        clear hb
        try have y80 : w.heap.size < w8.heap.size := by omega
        try have y80a : w.heap.size + 1 < w8.heap.size := by omega
        try have y80b : w.heap.size < w8.heap.size + 1 + 1 := by omega
        try have y80c : w.heap.size + 1 < w8.heap.size + 1 + 1 := by omega
        try have y81 : w1.heap.size < w8.heap.size := by omega
        try have y81a : w1.heap.size + 1 < w8.heap.size := by omega
        try have y81b : w1.heap.size < w8.heap.size + 1 + 1 := by omega
        try have y81c : w1.heap.size + 1 < w8.heap.size + 1 + 1 := by omega
        try have y82 : w2.heap.size < w8.heap.size := by omega
        try have y82a : w2.heap.size + 1 < w8.heap.size := by omega
        try have y82b : w2.heap.size < w8.heap.size + 1 + 1 := by omega
        try have y82c : w2.heap.size + 1 < w8.heap.size + 1 + 1 := by omega
        try have y83 : w3.heap.size < w8.heap.size := by omega
        try have y83a : w3.heap.size + 1 < w8.heap.size := by omega
        try have y83b : w3.heap.size < w8.heap.size + 1 + 1 := by omega
        try have y83c : w3.heap.size + 1 < w8.heap.size + 1 + 1 := by omega
        try have y84 : w4.heap.size < w8.heap.size := by omega
        try have y84a : w4.heap.size + 1 < w8.heap.size := by omega
        try have y84b : w4.heap.size < w8.heap.size + 1 + 1 := by omega
        try have y84c : w4.heap.size + 1 < w8.heap.size + 1 + 1 := by omega
        try have y85 : w5.heap.size < w8.heap.size := by omega
        try have y85a : w5.heap.size + 1 < w8.heap.size := by omega
        try have y85b : w5.heap.size < w8.heap.size + 1 + 1 := by omega
        try have y85c : w5.heap.size + 1 < w8.heap.size + 1 + 1 := by omega
        try have y86 : w6.heap.size < w8.heap.size := by omega
        try have y86a : w6.heap.size + 1 < w8.heap.size := by omega
        try have y86b : w6.heap.size < w8.heap.size + 1 + 1 := by omega
        try have y86c : w6.heap.size + 1 < w8.heap.size + 1 + 1 := by omega
        try have y87 : w7.heap.size < w8.heap.size := by omega
        try have y87a : w7.heap.size + 1 < w8.heap.size := by omega
        try have y87b : w7.heap.size < w8.heap.size + 1 + 1 := by omega
        try have y87c : w7.heap.size + 1 < w8.heap.size + 1 + 1 := by omega
        rw [lv_yes HV2.out]
        by_cases htb : t2 = b
        · have hbb : ((t2 : Int) == (b : Int)) = true := by simp; omega
          clear hor3
          go_wp2
          all_goals
            go_ret
            refine ⟨rfl, ?_⟩
            repeat (first | with_reducible refine below_alloc ?_ _ | with_reducible refine Below.drew ?_ | with_reducible refine below_drewN ?_ _)
            exact B8.out
        · have hbb : ((t2 : Int) == (b : Int)) = false := by simp; omega
          have h20 : T2 = 0 := hor3.resolve_left htb
          have h2b : (T2 == 0) = true := by simp [h20]
          clear h20 hor3 htb htl3
          go_wp2
          all_goals
            go_ret
            refine ⟨rfl, ?_⟩
            repeat (first | with_reducible refine below_alloc ?_ _ | with_reducible refine Below.drew ?_ | with_reducible refine below_drewN ?_ _)
            exact B8.out

  · have HK := Lib.hid hk
    clear hk
    go_wp2_with fail
    refine (tkI_rdno A1 n1 c1 J1 4 d1 C1 4 f1 l _ (by first | with_reducible exact H.out | with_reducible exact lr_alloc H.out _ | with_reducible exact lr_alloc (lr_alloc H.out _) _ | with_reducible exact lr_alloc (lr_alloc (lr_alloc H.out _) _) _) x HK.out).mono ?_
    rintro e w2 ⟨A2, n2, c2, J2, m2, d2, C2, o2, f2, D2, t2, e2, rfl, hx, hp, q2, hb⟩
    obtain ⟨hc2, hf2⟩ := bcell hb
    have B2 := Lib.hid (show Below w.heap.size w w2 from (by first | exact below_seq B1.out hb | exact below_seq1 B1.out hb | exact below_seq2 B1.out hb | exact below_seq3 B1.out hb | exact below_seq4 B1.out hb))
    have R2 := Lib.hid hb
    have hz2 := hb.size
    try simp at hz2
    clear hb
    try have y20 : w.heap.size < w2.heap.size := by omega
    try have y20a : w.heap.size + 1 < w2.heap.size := by omega
    try have y20b : w.heap.size < w2.heap.size + 1 + 1 := by omega
    try have y20c : w.heap.size + 1 < w2.heap.size + 1 + 1 := by omega
    try have y21 : w1.heap.size < w2.heap.size := by omega
    try have y21a : w1.heap.size + 1 < w2.heap.size := by omega
    try have y21b : w1.heap.size < w2.heap.size + 1 + 1 := by omega
    try have y21c : w1.heap.size + 1 < w2.heap.size + 1 + 1 := by omega
    have X := Lib.hid hx
    have G := Lib.hid hp
    clear hx hp
    replace H := Lib.hid (show LR w2 _ _ _ _ _ _ _ from (by first | with_reducible exact lr_below H.out R2.out | with_reducible exact lr_below (lr_alloc H.out _) R2.out | with_reducible exact lr_below (lr_alloc (lr_alloc H.out _) _) R2.out | with_reducible exact lr_below (lr_alloc (lr_alloc (lr_alloc H.out _) _) _) R2.out))
    go_wp2_with fail
    refine (tkS_rdno A1 n1 c1 J1 4 d1 C1 4 f1 l _ (by first | with_reducible exact H.out | with_reducible exact lr_alloc H.out _ | with_reducible exact lr_alloc (lr_alloc H.out _) _ | with_reducible exact lr_alloc (lr_alloc (lr_alloc H.out _) _) _) x HK.out).mono ?_
    rintro e w3 ⟨A3, n3, c3, J3, m3, d3, C3, o3, f3, D3, t3, e3, rfl, hx, hp, q3, hb⟩
    obtain ⟨hc3, hf3⟩ := bcell hb
    have B3 := Lib.hid (show Below w.heap.size w w3 from (by first | exact below_seq B2.out hb | exact below_seq1 B2.out hb | exact below_seq2 B2.out hb | exact below_seq3 B2.out hb | exact below_seq4 B2.out hb))
    have R3 := Lib.hid hb
    have hz3 := hb.size
    try simp at hz3
    clear hb
    try have y30 : w.heap.size < w3.heap.size := by omega
    try have y30a : w.heap.size + 1 < w3.heap.size := by omega
    try have y30b : w.heap.size < w3.heap.size + 1 + 1 := by omega
    try have y30c : w.heap.size + 1 < w3.heap.size + 1 + 1 := by omega
    try have y31 : w1.heap.size < w3.heap.size := by omega
    try have y31a : w1.heap.size + 1 < w3.heap.size := by omega
    try have y31b : w1.heap.size < w3.heap.size + 1 + 1 := by omega
    try have y31c : w1.heap.size + 1 < w3.heap.size + 1 + 1 := by omega
    try have y32 : w2.heap.size < w3.heap.size := by omega
    try have y32a : w2.heap.size + 1 < w3.heap.size := by omega
    try have y32b : w2.heap.size < w3.heap.size + 1 + 1 := by omega
    try have y32c : w2.heap.size + 1 < w3.heap.size + 1 + 1 := by omega
    have Y := Lib.hid hx
    have K := Lib.hid hp
    clear hx hp
    replace X := Lib.hid (show LR w3 _ _ _ _ _ _ _ from (by first | with_reducible exact lr_below X.out R3.out | with_reducible exact lr_below (lr_alloc X.out _) R3.out | with_reducible exact lr_below (lr_alloc (lr_alloc X.out _) _) R3.out | with_reducible exact lr_below (lr_alloc (lr_alloc (lr_alloc X.out _) _) _) R3.out))
    replace G := Lib.hid (show PR w3 _ _ _ from (by first | with_reducible exact pr_below G.out R3.out | with_reducible exact pr_below (pr_alloc G.out _) R3.out | with_reducible exact pr_below (pr_alloc (pr_alloc G.out _) _) R3.out | with_reducible exact pr_below (pr_alloc (pr_alloc (pr_alloc G.out _) _) _) R3.out))
    go_wp2_with fail
    refine (sameLI_any A2 n2 c2 J2 m2 d2 C2 o2 f2 lnZ A3 n3 c3 J3 m3 d3 C3 o3 f3 lnZ _ (by first | with_reducible exact X.out | with_reducible exact lr_alloc X.out _ | with_reducible exact lr_alloc (lr_alloc X.out _) _ | with_reducible exact lr_alloc (lr_alloc (lr_alloc X.out _) _) _) (by first | with_reducible exact Y.out | with_reducible exact lr_alloc Y.out _ | with_reducible exact lr_alloc (lr_alloc Y.out _) _ | with_reducible exact lr_alloc (lr_alloc (lr_alloc Y.out _) _) _)).mono ?_
    rintro e w4 ⟨rfl, hb⟩
    obtain ⟨hc4, hf4⟩ := bcell hb
    have B4 := Lib.hid (show Below w.heap.size w w4 from (by first | exact below_seq B3.out hb | exact below_seq1 B3.out hb | exact below_seq2 B3.out hb | exact below_seq3 B3.out hb | exact below_seq4 B3.out hb))
    have R4 := Lib.hid hb
    have hz4 := hb.size
    try simp at hz4
    clear hb
    try have y40 : w.heap.size < w4.heap.size := by omega
    try have y40a : w.heap.size + 1 < w4.heap.size := by omega
    try have y40b : w.heap.size < w4.heap.size + 1 + 1 := by omega
    try have y40c : w.heap.size + 1 < w4.heap.size + 1 + 1 := by omega
    try have y41 : w1.heap.size < w4.heap.size := by omega
    try have y41a : w1.heap.size + 1 < w4.heap.size := by omega
    try have y41b : w1.heap.size < w4.heap.size + 1 + 1 := by omega
    try have y41c : w1.heap.size + 1 < w4.heap.size + 1 + 1 := by omega
    try have y42 : w2.heap.size < w4.heap.size := by omega
    try have y42a : w2.heap.size + 1 < w4.heap.size := by omega
    try have y42b : w2.heap.size < w4.heap.size + 1 + 1 := by omega
    try have y42c : w2.heap.size + 1 < w4.heap.size + 1 + 1 := by omega
    try have y43 : w3.heap.size < w4.heap.size := by omega
    try have y43a : w3.heap.size + 1 < w4.heap.size := by omega
    try have y43b : w3.heap.size < w4.heap.size + 1 + 1 := by omega
    try have y43c : w3.heap.size + 1 < w4.heap.size + 1 + 1 := by omega
    rw [ls_refl]
    replace X := Lib.hid (show LR w4 _ _ _ _ _ _ _ from (by first | with_reducible exact lr_below X.out R4.out | with_reducible exact lr_below (lr_alloc X.out _) R4.out | with_reducible exact lr_below (lr_alloc (lr_alloc X.out _) _) R4.out | with_reducible exact lr_below (lr_alloc (lr_alloc (lr_alloc X.out _) _) _) R4.out))
    replace Y := Lib.hid (show LR w4 _ _ _ _ _ _ _ from (by first | with_reducible exact lr_below Y.out R4.out | with_reducible exact lr_below (lr_alloc Y.out _) R4.out | with_reducible exact lr_below (lr_alloc (lr_alloc Y.out _) _) R4.out | with_reducible exact lr_below (lr_alloc (lr_alloc (lr_alloc Y.out _) _) _) R4.out))
    replace G := Lib.hid (show PR w4 _ _ _ from (by first | with_reducible exact pr_below G.out R4.out | with_reducible exact pr_below (pr_alloc G.out _) R4.out | with_reducible exact pr_below (pr_alloc (pr_alloc G.out _) _) R4.out | with_reducible exact pr_below (pr_alloc (pr_alloc (pr_alloc G.out _) _) _) R4.out))
    replace K := Lib.hid (show PR w4 _ _ _ from (by first | with_reducible exact pr_below K.out R4.out | with_reducible exact pr_below (pr_alloc K.out _) R4.out | with_reducible exact pr_below (pr_alloc (pr_alloc K.out _) _) R4.out | with_reducible exact pr_below (pr_alloc (pr_alloc (pr_alloc K.out _) _) _) R4.out))
    go_wp2_with fail
    refine (sameI_any D2 D3 t2 e2 t3 e3 [] [] _ (by first | with_reducible exact G.out | with_reducible exact pr_alloc G.out _ | with_reducible exact pr_alloc (pr_alloc G.out _) _ | with_reducible exact pr_alloc (pr_alloc (pr_alloc G.out _) _) _) (by first | with_reducible exact K.out | with_reducible exact pr_alloc K.out _ | with_reducible exact pr_alloc (pr_alloc K.out _) _ | with_reducible exact pr_alloc (pr_alloc (pr_alloc K.out _) _) _) (by omega) (by omega)).mono ?_
    rintro e w5 ⟨rfl, hb⟩
    obtain ⟨hc5, hf5⟩ := bcell hb
    have B5 := Lib.hid (show Below w.heap.size w w5 from (by first | exact below_seq B4.out hb | exact below_seq1 B4.out hb | exact below_seq2 B4.out hb | exact below_seq3 B4.out hb | exact below_seq4 B4.out hb))
    have R5 := Lib.hid hb
    have hz5 := hb.size
    try simp at hz5
    clear hb
    try have y50 : w.heap.size < w5.heap.size := by omega
    try have y50a : w.heap.size + 1 < w5.heap.size := by omega
    try have y50b : w.heap.size < w5.heap.size + 1 + 1 := by omega
    try have y50c : w.heap.size + 1 < w5.heap.size + 1 + 1 := by omega
    try have y51 : w1.heap.size < w5.heap.size := by omega
    try have y51a : w1.heap.size + 1 < w5.heap.size := by omega
    try have y51b : w1.heap.size < w5.heap.size + 1 + 1 := by omega
    try have y51c : w1.heap.size + 1 < w5.heap.size + 1 + 1 := by omega
    try have y52 : w2.heap.size < w5.heap.size := by omega
    try have y52a : w2.heap.size + 1 < w5.heap.size := by omega
    try have y52b : w2.heap.size < w5.heap.size + 1 + 1 := by omega
    try have y52c : w2.heap.size + 1 < w5.heap.size + 1 + 1 := by omega
    try have y53 : w3.heap.size < w5.heap.size := by omega
    try have y53a : w3.heap.size + 1 < w5.heap.size := by omega
    try have y53b : w3.heap.size < w5.heap.size + 1 + 1 := by omega
    try have y53c : w3.heap.size + 1 < w5.heap.size + 1 + 1 := by omega
    try have y54 : w4.heap.size < w5.heap.size := by omega
    try have y54a : w4.heap.size + 1 < w5.heap.size := by omega
    try have y54b : w4.heap.size < w5.heap.size + 1 + 1 := by omega
    try have y54c : w4.heap.size + 1 < w5.heap.size + 1 + 1 := by omega
    rw [← same_yes rfl]
    replace X := Lib.hid (show LR w5 _ _ _ _ _ _ _ from (by first | with_reducible exact lr_below X.out R5.out | with_reducible exact lr_below (lr_alloc X.out _) R5.out | with_reducible exact lr_below (lr_alloc (lr_alloc X.out _) _) R5.out | with_reducible exact lr_below (lr_alloc (lr_alloc (lr_alloc X.out _) _) _) R5.out))
    replace Y := Lib.hid (show LR w5 _ _ _ _ _ _ _ from (by first | with_reducible exact lr_below Y.out R5.out | with_reducible exact lr_below (lr_alloc Y.out _) R5.out | with_reducible exact lr_below (lr_alloc (lr_alloc Y.out _) _) R5.out | with_reducible exact lr_below (lr_alloc (lr_alloc (lr_alloc Y.out _) _) _) R5.out))
    replace G := Lib.hid (show PR w5 _ _ _ from (by first | with_reducible exact pr_below G.out R5.out | with_reducible exact pr_below (pr_alloc G.out _) R5.out | with_reducible exact pr_below (pr_alloc (pr_alloc G.out _) _) R5.out | with_reducible exact pr_below (pr_alloc (pr_alloc (pr_alloc G.out _) _) _) R5.out))
    replace K := Lib.hid (show PR w5 _ _ _ from (by first | with_reducible exact pr_below K.out R5.out | with_reducible exact pr_below (pr_alloc K.out _) R5.out | with_reducible exact pr_below (pr_alloc (pr_alloc K.out _) _) R5.out | with_reducible exact pr_below (pr_alloc (pr_alloc (pr_alloc K.out _) _) _) R5.out))
    go_wp2_with fail
    refine (sameLI_any A2 n2 c2 J2 m2 d2 C2 o2 f2 lnZ A3 n3 c3 J3 m3 d3 C3 o3 f3 lnZ _ (by first | with_reducible exact X.out | with_reducible exact lr_alloc X.out _ | with_reducible exact lr_alloc (lr_alloc X.out _) _ | with_reducible exact lr_alloc (lr_alloc (lr_alloc X.out _) _) _) (by first | with_reducible exact Y.out | with_reducible exact lr_alloc Y.out _ | with_reducible exact lr_alloc (lr_alloc Y.out _) _ | with_reducible exact lr_alloc (lr_alloc (lr_alloc Y.out _) _) _)).mono ?_
    rintro e w6 ⟨rfl, hb⟩
    obtain ⟨hc6, hf6⟩ := bcell hb
    have B6 := Lib.hid (show Below w.heap.size w w6 from (by first | exact below_seq B5.out hb | exact below_seq1 B5.out hb | exact below_seq2 B5.out hb | exact below_seq3 B5.out hb | exact below_seq4 B5.out hb))
    have R6 := Lib.hid hb
    have hz6 := hb.size
    try simp at hz6
    clear hb
    try have y60 : w.heap.size < w6.heap.size := by omega
    try have y60a : w.heap.size + 1 < w6.heap.size := by omega
    try have y60b : w.heap.size < w6.heap.size + 1 + 1 := by omega
    try have y60c : w.heap.size + 1 < w6.heap.size + 1 + 1 := by omega
    try have y61 : w1.heap.size < w6.heap.size := by omega
    try have y61a : w1.heap.size + 1 < w6.heap.size := by omega
    try have y61b : w1.heap.size < w6.heap.size + 1 + 1 := by omega
    try have y61c : w1.heap.size + 1 < w6.heap.size + 1 + 1 := by omega
    try have y62 : w2.heap.size < w6.heap.size := by omega
    try have y62a : w2.heap.size + 1 < w6.heap.size := by omega
    try have y62b : w2.heap.size < w6.heap.size + 1 + 1 := by omega
    try have y62c : w2.heap.size + 1 < w6.heap.size + 1 + 1 := by omega
    try have y63 : w3.heap.size < w6.heap.size := by omega
    try have y63a : w3.heap.size + 1 < w6.heap.size := by omega
    try have y63b : w3.heap.size < w6.heap.size + 1 + 1 := by omega
    try have y63c : w3.heap.size + 1 < w6.heap.size + 1 + 1 := by omega
    try have y64 : w4.heap.size < w6.heap.size := by omega
    try have y64a : w4.heap.size + 1 < w6.heap.size := by omega
    try have y64b : w4.heap.size < w6.heap.size + 1 + 1 := by omega
    try have y64c : w4.heap.size + 1 < w6.heap.size + 1 + 1 := by omega
    try have y65 : w5.heap.size < w6.heap.size := by omega
    try have y65a : w5.heap.size + 1 < w6.heap.size := by omega
    try have y65b : w5.heap.size < w6.heap.size + 1 + 1 := by omega
    try have y65c : w5.heap.size + 1 < w6.heap.size + 1 + 1 := by omega
    rw [ls_refl]
    replace G := Lib.hid (show PR w6 _ _ _ from (by first | with_reducible exact pr_below G.out R6.out | with_reducible exact pr_below (pr_alloc G.out _) R6.out | with_reducible exact pr_below (pr_alloc (pr_alloc G.out _) _) R6.out | with_reducible exact pr_below (pr_alloc (pr_alloc (pr_alloc G.out _) _) _) R6.out))
    replace K := Lib.hid (show PR w6 _ _ _ from (by first | with_reducible exact pr_below K.out R6.out | with_reducible exact pr_below (pr_alloc K.out _) R6.out | with_reducible exact pr_below (pr_alloc (pr_alloc K.out _) _) R6.out | with_reducible exact pr_below (pr_alloc (pr_alloc (pr_alloc K.out _) _) _) R6.out))
    go_wp2_with fail
    refine (sameI_any D2 D3 t2 e2 t3 e3 [] [] _ (by first | with_reducible exact G.out | with_reducible exact pr_alloc G.out _ | with_reducible exact pr_alloc (pr_alloc G.out _) _ | with_reducible exact pr_alloc (pr_alloc (pr_alloc G.out _) _) _) (by first | with_reducible exact K.out | with_reducible exact pr_alloc K.out _ | with_reducible exact pr_alloc (pr_alloc K.out _) _ | with_reducible exact pr_alloc (pr_alloc (pr_alloc K.out _) _) _) (by omega) (by omega)).mono ?_
    rintro e w7 ⟨rfl, hb⟩
    obtain ⟨hc7, hf7⟩ := bcell hb
    have B7 := Lib.hid (show Below w.heap.size w w7 from (by first | exact below_seq B6.out hb | exact below_seq1 B6.out hb | exact below_seq2 B6.out hb | exact below_seq3 B6.out hb | exact below_seq4 B6.out hb))
    have R7 := Lib.hid hb
    have hz7 := hb.size
    try simp at hz7
    clear hb
    try have y70 : w.heap.size < w7.heap.size := by omega
    try have y70a : w.heap.size + 1 < w7.heap.size := by omega
    try have y70b : w.heap.size < w7.heap.size + 1 + 1 := by omega
    try have y70c : w.heap.size + 1 < w7.heap.size + 1 + 1 := by omega
    try have y71 : w1.heap.size < w7.heap.size := by omega
    try have y71a : w1.heap.size + 1 < w7.heap.size := by omega
    try have y71b : w1.heap.size < w7.heap.size + 1 + 1 := by omega
    try have y71c : w1.heap.size + 1 < w7.heap.size + 1 + 1 := by omega
    try have y72 : w2.heap.size < w7.heap.size := by omega
    try have y72a : w2.heap.size + 1 < w7.heap.size := by omega
    try have y72b : w2.heap.size < w7.heap.size + 1 + 1 := by omega
    try have y72c : w2.heap.size + 1 < w7.heap.size + 1 + 1 := by omega
    try have y73 : w3.heap.size < w7.heap.size := by omega
    try have y73a : w3.heap.size + 1 < w7.heap.size := by omega
    try have y73b : w3.heap.size < w7.heap.size + 1 + 1 := by omega
    try have y73c : w3.heap.size + 1 < w7.heap.size + 1 + 1 := by omega
    try have y74 : w4.heap.size < w7.heap.size := by omega
    try have y74a : w4.heap.size + 1 < w7.heap.size := by omega
    try have y74b : w4.heap.size < w7.heap.size + 1 + 1 := by omega
    try have y74c : w4.heap.size + 1 < w7.heap.size + 1 + 1 := by omega
    try have y75 : w5.heap.size < w7.heap.size := by omega
    try have y75a : w5.heap.size + 1 < w7.heap.size := by omega
    try have y75b : w5.heap.size < w7.heap.size + 1 + 1 := by omega
    try have y75c : w5.heap.size + 1 < w7.heap.size + 1 + 1 := by omega
    try have y76 : w6.heap.size < w7.heap.size := by omega
    try have y76a : w6.heap.size + 1 < w7.heap.size := by omega
    try have y76b : w6.heap.size < w7.heap.size + 1 + 1 := by omega
    try have y76c : w6.heap.size + 1 < w7.heap.size + 1 + 1 := by omega
    rw [← same_yes rfl]
    go_wp2
    all_goals
      go_ret
      refine ⟨rfl, ?_⟩
      repeat refine below_alloc ?_ _
      exact B7.out
theorem own : ownKnob Try.prog.godebug = none := by kernel_rfl
theorem laidOut : laidOutB Try.prog = true := by kernel_rfl
set_option maxRecDepth 100000 in
theorem lifted (os : Os) (started : os.Started) (H : Type) (enc : TypeId × Value → H) :
    ReturnsInHanded {} Try.checked os 5 .any (Rows.fnTakeLanesSpec.pre6 enc Try.prog Try.f5 Rows.fnTakeLanesRow.domain false) (Rows.fnTakeLanesSpec.post enc Try.prog Try.f5 false true false false) := by
  refine returnsInHanded_of_change (C := Try.checked) own started (by kernel_rfl) Try.func5
    (ChangeSpec.witness6 (enc := enc) (C := Try.checked) false ⟨#[], #[.slice none 0 0], []⟩ 8 (by kernel_rfl) (by kernel_rfl) (by kernel_rfl) (by kernel_rfl)) ?_
  intro W base args ds gs before hval0 hW _ _
  have hval : ∀ (j : Nat) t v, Try.f5.params[j]? = some t → args[j]? = some v → Value.okWide Try.prog W .any base t v := hval0
  have hW' := hW
  obtain ⟨p, q, hA0, hV, rfl, _, _⟩ := hW
  have hA : DataW.TrodAll enc Try.prog W 0 (fun _ => true) true Try.f5.params.toList args.toList ds p := hA0
  rw [Try.params5] at hA hval
  obtain ⟨v0, vs0, d0, ds0, p0, q0, hargs, rfl, rfl, h0, r0⟩ := trodAll_cons hA
  obtain ⟨rfl, rfl, rfl⟩ := trodAll_nil r0
  obtain rfl : args = #[v0] := by cases args; simp_all
  obtain ⟨rfl, rfl⟩ := trodVars_none hV
  have lt0 : ∀ x ∈ p0, x.block < W.heap.size := by obtain ⟨m, hm⟩ := h0; exact DataW.trod_lt m _ _ _ hm
  obtain ⟨a0, n0, c0, rfl⟩ := okWide_slice Try.underlying22 (hval 0 22 v0 rfl rfl)
  have w0 : Bytes W a0 n0 c0 := bytes_open h0
  clear hA0 hval0
  refine (walk a0 n0 c0 W w0).mono fun e W' ⟨he, bel⟩ => ?_
  subst he
  exact ⟨_, rfl, _, _, _, [], _, [], hW', trodAll_mk1 (shut_bool Try.underlying4 _), (trodAll_cons_mk (Below.trod laidOut (by kernel_rfl) (of_decide_eq_true (by kernel_rfl)) h0 bel lt0) trodAll_mk0), rfl, bel.frame _, fun h => by cases h⟩
theorem over : Rows.fnTakeLanesRow.holds Try.pinned (OpenSpec.ofChange Rows.fnTakeLanesSpec) :=
  OpenClaim.holds_of_wide 5 Try.f5 rfl rfl rfl rfl rfl rfl rfl ⟨rfl, rfl, rfl, rfl, rfl⟩ rfl rfl rfl rfl rfl (by kernel_rfl) Try.func5 (by unfold joinedFacts; rw [mayEnter, liftsFinal, makeIs]; kernel_rfl)
    (of_decide_eq_true (by kernel_rfl)) (by unfold Func.isWrapper; first | (rw [if_pos (by decide +kernel)]; kernel_rfl) | (rw [if_neg (by decide +kernel)]; exact ⟨rfl, rfl⟩))
    (fun os started H enc _ => lifted os started H enc)
/-- the given statement -/
theorem proved : Rows.FnTakeLanesSaid := over
end Go.Proofs.Ytkmoiphcpmhacaa.fnTakeLanes
