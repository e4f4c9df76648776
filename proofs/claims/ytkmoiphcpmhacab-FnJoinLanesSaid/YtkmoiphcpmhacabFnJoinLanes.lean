/-
  The law FnJoinLanes returns true at every argument: joining adds one to the lane of the packet. Conditions: none.
-/
import Derived.Test.YtkmoiphcpmhacabKb
import Derived.Test.YtkmoiphcpmhacabKy
import Derived.Test.YtkmoiphcpmhacabKw
import Derived.Test.YtkmoiphcpmhacabMay
import Derived.Test.YtkmoiphcpmhacabLifts
import Derived.Test.YtkmoiphcpmhacabMake
import Derived.Test.YtkmoiphcpmhacabKh
namespace Go.Proofs.Ytkmoiphcpmhacab.fnJoinLanes
open Go.ChangeShapes Go.WideShapes Go.ChangeAt Go.RowKit

theorem total_joinL (fs : List Flw) (p : Pkt) : total (joinL fs p) = total fs + 1 := by
  rcases hg : fs[fix fs p.peer]? with _ | g
  · have hn : ¬ fix fs p.peer < fs.length := fun hlt => by rw [List.getElem?_eq_getElem hlt] at hg; cases hg
    rw [join_new hn, total_append]
    simp [total]
  · rw [join_old hg]
    have h1 := total_erase hg
    have h2 := total_erase (fs := fs.set (fix fs p.peer) ⟨g.peer, g.dfc, g.ws ++ [p]⟩) (List.getElem?_set_self (get_lt hg))
    rw [List.eraseIdx_set_eq] at h2
    simp only [List.length_append, List.length_singleton] at h2
    omega
theorem jn_total {l : Ln} {p : Pkt} {k j : Nat} {r rj rj2 : Rb} (h : JnOk l p k r) (h1 : l.rs[j]? = some rj) (h2 : (jnN l k r p).rs[j]? = some rj2) : total rj2.fs = total rj.fs + if j = k then 1 else 0 := by
  simp only [jnN] at h2
  by_cases hj : j = k
  · subst hj
    rw [List.getElem?_set_self (get_lt h.get)] at h2
    obtain rfl := Option.some.inj h2
    obtain rfl := Option.some.inj (h.get.symm.trans h1)
    rw [if_pos rfl]
    exact total_joinL _ _
  · rw [List.getElem?_set_ne (fun e => hj e.symm), h1] at h2
    obtain rfl := Option.some.inj h2
    rw [if_neg hj]
    rfl
def JlOut (w : World) (i : Value) (wr : World) : Prop := ∃ k : Nat, k ≤ 4 ∧ i = .int .i64 (k : Int) ∧ Below w.heap.size w wr
set_option maxRecDepth 100000 in
set_option maxHeartbeats 8000000 in
theorem walk (A : Option Addr) (n c : Nat) (w : World) (h : Bytes w A n c) :
    Calls Try.prog 6 #[.slice A n c] w fun e w' => e = .returned (.bool true) ∧ Below w.heap.size w w' := by
  have HB := Lib.hid h
  clear h
  by_cases hbig : ¬ n ≤ 1048576
  · go_enter Try.func6, Try.ntmps6
    go_wp2
    go_ret
    exact ⟨rfl, Below.refl _ _⟩
  have hbig' : n ≤ 1048576 := by omega
  clear hbig
  go_enter Try.func6, Try.ntmps6
  go_wp2_with fail
  refine (drawJoinLanes_any A n c _ HB.out).mono ?_
  rintro e w1 ⟨A1, n1, c1, J1, d1, C1, f1, l, p, rfl, hl, hb⟩
  obtain ⟨hc1, hf1⟩ := bcell hb
  have B1 := Lib.hid (show Below w.heap.size w w1 from (by first | exact below_seq (Below.refl w.heap.size w) hb | exact below_seq1 (Below.refl w.heap.size w) hb | exact below_seq2 (Below.refl w.heap.size w) hb | exact below_seq3 (Below.refl w.heap.size w) hb | exact below_seq4 (Below.refl w.heap.size w) hb))
  have R1 := Lib.hid hb
  have hz1 := hb.size
  try simp at hz1
  clear hb
  have H := Lib.hid hl
  clear hl
  by_cases hk : ∃ k r, JnOk l p k r
  · obtain ⟨k, r, hk⟩ := hk
    have HK := Lib.hid hk
    obtain ⟨l2, hl2⟩ : ∃ l2, l2 = jnN l k r p := ⟨_, rfl⟩
    have HL2 := Lib.hid hl2
    have HV := Lib.hid hk.lv
    have HV2 := Lib.hid (show LV l2 by rw [hl2]; exact lv_join hk)
    have HLC := Lib.hid (show l2.cs = l.cs by rw [hl2]; rfl)
    have HLN := Lib.hid hk.lane
    clear hk hl2
    go_wp2_with fail
    refine (jlI_rd A1 n1 c1 J1 4 d1 C1 4 f1 l _ (by first | with_reducible exact H.out | with_reducible exact lr_alloc H.out _ | with_reducible exact lr_alloc (lr_alloc H.out _) _ | with_reducible exact lr_alloc (lr_alloc (lr_alloc H.out _) _) _) p k r HK.out).mono ?_
    rintro e w2 ⟨A2, n2, c2, J2, m2, d2, C2, o2, f2, rfl, hx, hb⟩
    obtain ⟨hc2, hf2⟩ := bcell hb
    have B2 := Lib.hid (show Below w.heap.size w w2 from (by first | exact below_seq B1.out hb | exact below_seq1 B1.out hb | exact below_seq2 B1.out hb | exact below_seq3 B1.out hb | exact below_seq4 B1.out hb))
    have R2 := Lib.hid hb
    have hz2 := hb.size
    try simp at hz2
    clear hb
    try have y20 : w.heap.size < w2.heap.size := by omega
    try have y20a : w.heap.size + 1 < w2.heap.size := by omega
    try have y20b : w.heap.size < w2.heap.size + 1 + 1 := by omega
    try have y20c : w.heap.size + 1 < w2.heap.size + 1 + 1 := by omega
    try have y21 : w1.heap.size < w2.heap.size := by omega
    try have y21a : w1.heap.size + 1 < w2.heap.size := by omega
    try have y21b : w1.heap.size < w2.heap.size + 1 + 1 := by omega
    try have y21c : w1.heap.size + 1 < w2.heap.size + 1 + 1 := by omega
    rw [← HL2.out] at hx
    have X := Lib.hid hx
    clear hx
    replace H := Lib.hid (show LR w2 _ _ _ _ _ _ _ from (by first | with_reducible exact lr_below H.out R2.out | with_reducible exact lr_below (lr_alloc H.out _) R2.out | with_reducible exact lr_below (lr_alloc (lr_alloc H.out _) _) R2.out | with_reducible exact lr_below (lr_alloc (lr_alloc (lr_alloc H.out _) _) _) R2.out))
    go_wp2_with fail
    refine (jlS_rd A1 n1 c1 J1 4 d1 C1 4 f1 l _ (by first | with_reducible exact H.out | with_reducible exact lr_alloc H.out _ | with_reducible exact lr_alloc (lr_alloc H.out _) _ | with_reducible exact lr_alloc (lr_alloc (lr_alloc H.out _) _) _) p k r HK.out).mono ?_
    rintro e w3 ⟨A3, n3, c3, J3, m3, d3, C3, o3, f3, rfl, hx, hb⟩
    obtain ⟨hc3, hf3⟩ := bcell hb
    have B3 := Lib.hid (show Below w.heap.size w w3 from (by first | exact below_seq B2.out hb | exact below_seq1 B2.out hb | exact below_seq2 B2.out hb | exact below_seq3 B2.out hb | exact below_seq4 B2.out hb))
    have R3 := Lib.hid hb
    have hz3 := hb.size
    try simp at hz3
    clear hb
    try have y30 : w.heap.size < w3.heap.size := by omega
    try have y30a : w.heap.size + 1 < w3.heap.size := by omega
    try have y30b : w.heap.size < w3.heap.size + 1 + 1 := by omega
    try have y30c : w.heap.size + 1 < w3.heap.size + 1 + 1 := by omega
    try have y31 : w1.heap.size < w3.heap.size := by omega
    try have y31a : w1.heap.size + 1 < w3.heap.size := by omega
    try have y31b : w1.heap.size < w3.heap.size + 1 + 1 := by omega
    try have y31c : w1.heap.size + 1 < w3.heap.size + 1 + 1 := by omega
    try have y32 : w2.heap.size < w3.heap.size := by omega
    try have y32a : w2.heap.size + 1 < w3.heap.size := by omega
    try have y32b : w2.heap.size < w3.heap.size + 1 + 1 := by omega
    try have y32c : w2.heap.size + 1 < w3.heap.size + 1 + 1 := by omega
    rw [← HL2.out] at hx
    have Y := Lib.hid hx
    clear hx
    replace H := Lib.hid (show LR w3 _ _ _ _ _ _ _ from (by first | with_reducible exact lr_below H.out R3.out | with_reducible exact lr_below (lr_alloc H.out _) R3.out | with_reducible exact lr_below (lr_alloc (lr_alloc H.out _) _) R3.out | with_reducible exact lr_below (lr_alloc (lr_alloc (lr_alloc H.out _) _) _) R3.out))
    replace X := Lib.hid (show LR w3 _ _ _ _ _ _ _ from (by first | with_reducible exact lr_below X.out R3.out | with_reducible exact lr_below (lr_alloc X.out _) R3.out | with_reducible exact lr_below (lr_alloc (lr_alloc X.out _) _) R3.out | with_reducible exact lr_below (lr_alloc (lr_alloc (lr_alloc X.out _) _) _) R3.out))
    go_wp2_with fail
    refine (sameLI_any A2 n2 c2 J2 m2 d2 C2 o2 f2 l2 A3 n3 c3 J3 m3 d3 C3 o3 f3 l2 _ (by first | with_reducible exact X.out | with_reducible exact lr_alloc X.out _ | with_reducible exact lr_alloc (lr_alloc X.out _) _ | with_reducible exact lr_alloc (lr_alloc (lr_alloc X.out _) _) _) (by first | with_reducible exact Y.out | with_reducible exact lr_alloc Y.out _ | with_reducible exact lr_alloc (lr_alloc Y.out _) _ | with_reducible exact lr_alloc (lr_alloc (lr_alloc Y.out _) _) _)).mono ?_
    rintro e w4 ⟨rfl, hb⟩
    obtain ⟨hc4, hf4⟩ := bcell hb
    have B4 := Lib.hid (show Below w.heap.size w w4 from (by first | exact below_seq B3.out hb | exact below_seq1 B3.out hb | exact below_seq2 B3.out hb | exact below_seq3 B3.out hb | exact below_seq4 B3.out hb))
    have R4 := Lib.hid hb
    have hz4 := hb.size
    try simp at hz4
    clear hb
    try have y40 : w.heap.size < w4.heap.size := by omega
    try have y40a : w.heap.size + 1 < w4.heap.size := by omega
    try have y40b : w.heap.size < w4.heap.size + 1 + 1 := by omega
    try have y40c : w.heap.size + 1 < w4.heap.size + 1 + 1 := by omega
    try have y41 : w1.heap.size < w4.heap.size := by omega
    try have y41a : w1.heap.size + 1 < w4.heap.size := by omega
    try have y41b : w1.heap.size < w4.heap.size + 1 + 1 := by omega
    try have y41c : w1.heap.size + 1 < w4.heap.size + 1 + 1 := by omega
    try have y42 : w2.heap.size < w4.heap.size := by omega
    try have y42a : w2.heap.size + 1 < w4.heap.size := by omega
    try have y42b : w2.heap.size < w4.heap.size + 1 + 1 := by omega
    try have y42c : w2.heap.size + 1 < w4.heap.size + 1 + 1 := by omega
    try have y43 : w3.heap.size < w4.heap.size := by omega
    try have y43a : w3.heap.size + 1 < w4.heap.size := by omega
    try have y43b : w3.heap.size < w4.heap.size + 1 + 1 := by omega
    try have y43c : w3.heap.size + 1 < w4.heap.size + 1 + 1 := by omega
    rw [ls_refl]
    replace H := Lib.hid (show LR w4 _ _ _ _ _ _ _ from (by first | with_reducible exact lr_below H.out R4.out | with_reducible exact lr_below (lr_alloc H.out _) R4.out | with_reducible exact lr_below (lr_alloc (lr_alloc H.out _) _) R4.out | with_reducible exact lr_below (lr_alloc (lr_alloc (lr_alloc H.out _) _) _) R4.out))
    replace X := Lib.hid (show LR w4 _ _ _ _ _ _ _ from (by first | with_reducible exact lr_below X.out R4.out | with_reducible exact lr_below (lr_alloc X.out _) R4.out | with_reducible exact lr_below (lr_alloc (lr_alloc X.out _) _) R4.out | with_reducible exact lr_below (lr_alloc (lr_alloc (lr_alloc X.out _) _) _) R4.out))
    clear Y

    go_wp2_with fail
    refine (ctI_rd A1 n1 c1 J1 4 d1 C1 4 f1 l _ (by first | with_reducible exact H.out | with_reducible exact lr_alloc H.out _ | with_reducible exact lr_alloc (lr_alloc H.out _) _ | with_reducible exact lr_alloc (lr_alloc (lr_alloc H.out _) _) _) HV.out).mono ?_
    rintro e w5 ⟨A5, n5, c5, rfl, hn5, hu, hb⟩
    obtain ⟨hc5, hf5⟩ := bcell hb
    have B5 := Lib.hid (show Below w.heap.size w w5 from (by first | exact below_seq B4.out hb | exact below_seq1 B4.out hb | exact below_seq2 B4.out hb | exact below_seq3 B4.out hb | exact below_seq4 B4.out hb))
    have R5 := Lib.hid hb
    have hz5 := hb.size
    try simp at hz5
    clear hb
    try have y50 : w.heap.size < w5.heap.size := by omega
    try have y50a : w.heap.size + 1 < w5.heap.size := by omega
    try have y50b : w.heap.size < w5.heap.size + 1 + 1 := by omega
    try have y50c : w.heap.size + 1 < w5.heap.size + 1 + 1 := by omega
    try have y51 : w1.heap.size < w5.heap.size := by omega
    try have y51a : w1.heap.size + 1 < w5.heap.size := by omega
    try have y51b : w1.heap.size < w5.heap.size + 1 + 1 := by omega
    try have y51c : w1.heap.size + 1 < w5.heap.size + 1 + 1 := by omega
    try have y52 : w2.heap.size < w5.heap.size := by omega
    try have y52a : w2.heap.size + 1 < w5.heap.size := by omega
    try have y52b : w2.heap.size < w5.heap.size + 1 + 1 := by omega
    try have y52c : w2.heap.size + 1 < w5.heap.size + 1 + 1 := by omega
    try have y53 : w3.heap.size < w5.heap.size := by omega
    try have y53a : w3.heap.size + 1 < w5.heap.size := by omega
    try have y53b : w3.heap.size < w5.heap.size + 1 + 1 := by omega
    try have y53c : w3.heap.size + 1 < w5.heap.size + 1 + 1 := by omega
    try have y54 : w4.heap.size < w5.heap.size := by omega
    try have y54a : w4.heap.size + 1 < w5.heap.size := by omega
    try have y54b : w4.heap.size < w5.heap.size + 1 + 1 := by omega
    try have y54c : w4.heap.size + 1 < w5.heap.size + 1 + 1 := by omega
    obtain rfl : n5 = 4 := by rw [hn5, cnts_len, (HV.out : LV l).n0]
    have U := Lib.hid hu
    clear hu hn5
    replace H := Lib.hid (show LR w5 _ _ _ _ _ _ _ from (by first | with_reducible exact lr_below H.out R5.out | with_reducible exact lr_below (lr_alloc H.out _) R5.out | with_reducible exact lr_below (lr_alloc (lr_alloc H.out _) _) R5.out | with_reducible exact lr_below (lr_alloc (lr_alloc (lr_alloc H.out _) _) _) R5.out))
    replace X := Lib.hid (show LR w5 _ _ _ _ _ _ _ from (by first | with_reducible exact lr_below X.out R5.out | with_reducible exact lr_below (lr_alloc X.out _) R5.out | with_reducible exact lr_below (lr_alloc (lr_alloc X.out _) _) R5.out | with_reducible exact lr_below (lr_alloc (lr_alloc (lr_alloc X.out _) _) _) R5.out))
    go_wp2_with fail
    refine (ctI_rd A2 n2 c2 J2 m2 d2 C2 o2 f2 l2 _ (by first | with_reducible exact X.out | with_reducible exact lr_alloc X.out _ | with_reducible exact lr_alloc (lr_alloc X.out _) _ | with_reducible exact lr_alloc (lr_alloc (lr_alloc X.out _) _) _) HV2.out).mono ?_
    rintro e w6 ⟨A6, n6, c6, rfl, hn6, hu, hb⟩
    obtain ⟨hc6, hf6⟩ := bcell hb
    have B6 := Lib.hid (show Below w.heap.size w w6 from (by first | exact below_seq B5.out hb | exact below_seq1 B5.out hb | exact below_seq2 B5.out hb | exact below_seq3 B5.out hb | exact below_seq4 B5.out hb))
    have R6 := Lib.hid hb
    have hz6 := hb.size
    try simp at hz6
    clear hb
    try have y60 : w.heap.size < w6.heap.size := by omega
    try have y60a : w.heap.size + 1 < w6.heap.size := by omega
    try have y60b : w.heap.size < w6.heap.size + 1 + 1 := by omega
    try have y60c : w.heap.size + 1 < w6.heap.size + 1 + 1 := by omega
    try have y61 : w1.heap.size < w6.heap.size := by omega
    try have y61a : w1.heap.size + 1 < w6.heap.size := by omega
    try have y61b : w1.heap.size < w6.heap.size + 1 + 1 := by omega
    try have y61c : w1.heap.size + 1 < w6.heap.size + 1 + 1 := by omega
    try have y62 : w2.heap.size < w6.heap.size := by omega
    try have y62a : w2.heap.size + 1 < w6.heap.size := by omega
    try have y62b : w2.heap.size < w6.heap.size + 1 + 1 := by omega
    try have y62c : w2.heap.size + 1 < w6.heap.size + 1 + 1 := by omega
    try have y63 : w3.heap.size < w6.heap.size := by omega
    try have y63a : w3.heap.size + 1 < w6.heap.size := by omega
    try have y63b : w3.heap.size < w6.heap.size + 1 + 1 := by omega
    try have y63c : w3.heap.size + 1 < w6.heap.size + 1 + 1 := by omega
    try have y64 : w4.heap.size < w6.heap.size := by omega
    try have y64a : w4.heap.size + 1 < w6.heap.size := by omega
    try have y64b : w4.heap.size < w6.heap.size + 1 + 1 := by omega
    try have y64c : w4.heap.size + 1 < w6.heap.size + 1 + 1 := by omega
    try have y65 : w5.heap.size < w6.heap.size := by omega
    try have y65a : w5.heap.size + 1 < w6.heap.size := by omega
    try have y65b : w5.heap.size < w6.heap.size + 1 + 1 := by omega
    try have y65c : w5.heap.size + 1 < w6.heap.size + 1 + 1 := by omega
    obtain rfl : n6 = 4 := by rw [hn6, cnts_len, HV2.out.n0]
    have V := Lib.hid hu
    clear hu hn6
    replace H := Lib.hid (show LR w6 _ _ _ _ _ _ _ from (by first | with_reducible exact lr_below H.out R6.out | with_reducible exact lr_below (lr_alloc H.out _) R6.out | with_reducible exact lr_below (lr_alloc (lr_alloc H.out _) _) R6.out | with_reducible exact lr_below (lr_alloc (lr_alloc (lr_alloc H.out _) _) _) R6.out))
    replace X := Lib.hid (show LR w6 _ _ _ _ _ _ _ from (by first | with_reducible exact lr_below X.out R6.out | with_reducible exact lr_below (lr_alloc X.out _) R6.out | with_reducible exact lr_below (lr_alloc (lr_alloc X.out _) _) R6.out | with_reducible exact lr_below (lr_alloc (lr_alloc (lr_alloc X.out _) _) _) R6.out))
    replace U := Lib.hid (show NR w6 _ _ _ from (by first | with_reducible exact nr_below U.out R6.out | with_reducible exact nr_below (nr_alloc U.out _) R6.out | with_reducible exact nr_below (nr_alloc (nr_alloc U.out _) _) R6.out | with_reducible exact nr_below (nr_alloc (nr_alloc (nr_alloc U.out _) _) _) R6.out))

    go_wp2_with fail
    go_loopw [13] (fun i wr => JlOut w6 i wr) (fun i _ => 4 - (intOf i).toNat)
    case atStart => exact ⟨0, by omega, rfl, Below.refl _ _⟩
    case round =>
      obtain ⟨j, hj4, rfl, hbl⟩ := hrel
      have HBl := Lib.hid hbl
      clear hbl
      obtain ⟨hcx, hfx⟩ := bcell HBl.out
      have hzx := HBl.out.size
      have yx0 : w.heap.size < wr.heap.size := by omega
      have yx1 : w1.heap.size < wr.heap.size := by omega
      try have yx1a : w1.heap.size + 1 < wr.heap.size := by omega
      have yx2 : w2.heap.size < wr.heap.size := by omega
      try have yx2a : w2.heap.size + 1 < wr.heap.size := by omega
      by_cases hlt : j < 4
      · obtain ⟨rj, hrj⟩ := get_of (xs := l.rs) (k := j) (by have := HV.out.n0; omega)
        obtain ⟨rj2, hrj2⟩ := get_of (xs := l2.rs) (k := j) (by have := HV2.out.n0; omega)
        have htot := jn_total HK.out hrj (by rw [← HL2.out]; exact hrj2)
        have hcu := cnts_get hrj
        have hcv := cnts_get hrj2
        have hb512 := total_bd (HV.out.rb j rj hrj).rv
        obtain ⟨b1, o1, x1, rfl, hb1, hv1, c01⟩ := nr_at (nr_below U.out HBl.out) hlt
        obtain ⟨b2, o2', x2, rfl, hb2, hv2, c02⟩ := nr_at (nr_below V.out HBl.out) hlt
        obtain rfl : (total rj.fs : Int) = x1 := Option.some.inj (hcu.symm.trans hv1)
        obtain rfl : (total rj2.fs : Int) = x2 := Option.some.inj (hcv.symm.trans hv2)
        obtain ⟨T1, hT1⟩ : ∃ T1 : Int, T1 = (total rj.fs : Int) := ⟨_, rfl⟩
        obtain ⟨T2, hT2⟩ : ∃ T2 : Int, T2 = (total rj2.fs : Int) := ⟨_, rfl⟩
        rw [← hT1] at c01
        rw [← hT2] at c02
        have hT : T2 = T1 + (if j = k then 1 else 0) := by split at htot <;> split <;> simp_all <;> omega
        have hb3 : 0 ≤ T1 ∧ T1 ≤ 512 := by omega
        have k0 : (0 : Int) ≤ (j : Int) := by omega
        have k1 : (j : Int) < (4 : Int) := by omega
        have hln := HLN.out
        clear hcu hcv hv1 hv2 hT1 hT2 hrj hrj2 htot hb512
        by_cases hjk : j = k
        · rw [if_pos hjk] at hT
          have hpb : ((j : Int) == p.lane) = true := by simp; omega
          have hpb2 : (p.lane == (j : Int)) = true := by simp; omega
          have hwr : IntKind.i64.wrap (T1 + 1) = T2 := by rw [IntWalk.i64_in _ (by omega)]; omega
          clear hT hjk hln
          go_wp2
          go_roundw
          case rel => exact ⟨j + 1, by omega, by go_num, HBl.out⟩
          case measure => simp [intOf]; omega
        · rw [if_neg hjk, Int.add_zero] at hT
          have hpb : ((j : Int) == p.lane) = false := by simp; omega
          have hpb2 : (p.lane == (j : Int)) = false := by simp; omega
          rw [hT] at c02
          clear hT hjk hln
          go_wp2
          go_roundw
          case rel => exact ⟨j + 1, by omega, by go_num, HBl.out⟩
          case measure => simp [intOf]; omega
      · obtain rfl : j = 4 := by omega
        have Bx := Lib.hid (below_seq B6.out HBl.out)
        replace H := Lib.hid (lr_below H.out HBl.out)
        replace X := Lib.hid (lr_below X.out HBl.out)
        clear HBl
        go_wp2_with fail
        refine (lanI_any A2 n2 c2 J2 m2 d2 C2 o2 f2 l2 _ (by first | with_reducible exact X.out | with_reducible exact lr_alloc X.out _ | with_reducible exact lr_alloc (lr_alloc X.out _) _ | with_reducible exact lr_alloc (lr_alloc (lr_alloc X.out _) _) _)).mono ?_
        rintro e w7 ⟨rfl, hb⟩
        obtain ⟨hc7, hf7⟩ := bcell hb
        have B7 := Lib.hid (show Below w.heap.size w w7 from (by first | exact below_seq Bx.out hb | exact below_seq1 Bx.out hb | exact below_seq2 Bx.out hb | exact below_seq3 Bx.out hb | exact below_seq4 Bx.out hb))
        have R7 := Lib.hid hb
        have hz7 := hb.size
        try simp at hz7
        clear hb
        try have y70 : w.heap.size < w7.heap.size := by omega
        try have y70a : w.heap.size + 1 < w7.heap.size := by omega
        try have y70b : w.heap.size < w7.heap.size + 1 + 1 := by omega
        try have y70c : w.heap.size + 1 < w7.heap.size + 1 + 1 := by omega
        try have y71 : w1.heap.size < w7.heap.size := by omega
        try have y71a : w1.heap.size + 1 < w7.heap.size := by omega
        try have y71b : w1.heap.size < w7.heap.size + 1 + 1 := by omega
        try have y71c : w1.heap.size + 1 < w7.heap.size + 1 + 1 := by omega
        try have y72 : w2.heap.size < w7.heap.size := by omega
        try have y72a : w2.heap.size + 1 < w7.heap.size := by omega
        try have y72b : w2.heap.size < w7.heap.size + 1 + 1 := by omega
        try have y72c : w2.heap.size + 1 < w7.heap.size + 1 + 1 := by omega
        try have y73 : w3.heap.size < w7.heap.size := by omega
        try have y73a : w3.heap.size + 1 < w7.heap.size := by omega
        try have y73b : w3.heap.size < w7.heap.size + 1 + 1 := by omega
        try have y73c : w3.heap.size + 1 < w7.heap.size + 1 + 1 := by omega
        try have y74 : w4.heap.size < w7.heap.size := by omega
        try have y74a : w4.heap.size + 1 < w7.heap.size := by omega
        try have y74b : w4.heap.size < w7.heap.size + 1 + 1 := by omega
        try have y74c : w4.heap.size + 1 < w7.heap.size + 1 + 1 := by omega
        try have y75 : w5.heap.size < w7.heap.size := by omega
        try have y75a : w5.heap.size + 1 < w7.heap.size := by omega
        try have y75b : w5.heap.size < w7.heap.size + 1 + 1 := by omega
        try have y75c : w5.heap.size + 1 < w7.heap.size + 1 + 1 := by omega
        try have y76 : w6.heap.size < w7.heap.size := by omega
        try have y76a : w6.heap.size + 1 < w7.heap.size := by omega
        try have y76b : w6.heap.size < w7.heap.size + 1 + 1 := by omega
        try have y76c : w6.heap.size + 1 < w7.heap.size + 1 + 1 := by omega
        rw [lv_yes HV2.out]
        replace H := Lib.hid (lr_below H.out R7.out)
        replace X := Lib.hid (lr_below X.out R7.out)
        go_wp2_with fail
        refine (tgInts_any C2 C1 o2 f2 4 f1 l2.cs l.cs _ X.out.cr H.out.cr (by have := X.out.kb; omega) (by omega)).mono ?_
        rintro e w8 ⟨rfl, hb⟩
        obtain ⟨hc8, hf8⟩ := bcell hb
        have B8 := Lib.hid (show Below w.heap.size w w8 from (by first | exact below_seq B7.out hb | exact below_seq1 B7.out hb | exact below_seq2 B7.out hb | exact below_seq3 B7.out hb | exact below_seq4 B7.out hb))
        have R8 := Lib.hid hb
        have hz8 := hb.size
        try simp at hz8
        clear hb
        try have y80 : w.heap.size < w8.heap.size := by omega
        try have y80a : w.heap.size + 1 < w8.heap.size := by omega
        try have y80b : w.heap.size < w8.heap.size + 1 + 1 := by omega
        try have y80c : w.heap.size + 1 < w8.heap.size + 1 + 1 := by omega
        try have y81 : w1.heap.size < w8.heap.size := by omega
        try have y81a : w1.heap.size + 1 < w8.heap.size := by omega
        try have y81b : w1.heap.size < w8.heap.size + 1 + 1 := by omega
        try have y81c : w1.heap.size + 1 < w8.heap.size + 1 + 1 := by omega
        try have y82 : w2.heap.size < w8.heap.size := by omega
        try have y82a : w2.heap.size + 1 < w8.heap.size := by omega
        try have y82b : w2.heap.size < w8.heap.size + 1 + 1 := by omega
        try have y82c : w2.heap.size + 1 < w8.heap.size + 1 + 1 := by omega
        try have y83 : w3.heap.size < w8.heap.size := by omega
        try have y83a : w3.heap.size + 1 < w8.heap.size := by omega
        try have y83b : w3.heap.size < w8.heap.size + 1 + 1 := by omega
        try have y83c : w3.heap.size + 1 < w8.heap.size + 1 + 1 := by omega
        try have y84 : w4.heap.size < w8.heap.size := by omega
        try have y84a : w4.heap.size + 1 < w8.heap.size := by omega
        try have y84b : w4.heap.size < w8.heap.size + 1 + 1 := by omega
        try have y84c : w4.heap.size + 1 < w8.heap.size + 1 + 1 := by omega
        try have y85 : w5.heap.size < w8.heap.size := by omega
        try have y85a : w5.heap.size + 1 < w8.heap.size := by omega
        try have y85b : w5.heap.size < w8.heap.size + 1 + 1 := by omega
        try have y85c : w5.heap.size + 1 < w8.heap.size + 1 + 1 := by omega
        try have y86 : w6.heap.size < w8.heap.size := by omega
        try have y86a : w6.heap.size + 1 < w8.heap.size := by omega
        try have y86b : w6.heap.size < w8.heap.size + 1 + 1 := by omega
        try have y86c : w6.heap.size + 1 < w8.heap.size + 1 + 1 := by omega
        try have y87 : w7.heap.size < w8.heap.size := by omega
        try have y87a : w7.heap.size + 1 < w8.heap.size := by omega
        try have y87b : w7.heap.size < w8.heap.size + 1 + 1 := by omega
        try have y87c : w7.heap.size + 1 < w8.heap.size + 1 + 1 := by omega
        rw [show intsB l2.cs l.cs = true from by rw [HLC.out]; exact ints_refl _]
        go_wp2
        all_goals
          go_ret
          refine ⟨rfl, ?_⟩
          repeat (first | with_reducible refine below_alloc ?_ _ | with_reducible refine Below.drew ?_ | with_reducible refine below_drewN ?_ _)
          exact B8.out
  · have HK := Lib.hid hk
    clear hk
    go_wp2_with fail
    refine (jlI_rdno A1 n1 c1 J1 4 d1 C1 4 f1 l _ (by first | with_reducible exact H.out | with_reducible exact lr_alloc H.out _ | with_reducible exact lr_alloc (lr_alloc H.out _) _ | with_reducible exact lr_alloc (lr_alloc (lr_alloc H.out _) _) _) p HK.out).mono ?_
    rintro e w2 ⟨A2, n2, c2, J2, m2, d2, C2, o2, f2, rfl, hx, hb⟩
    obtain ⟨hc2, hf2⟩ := bcell hb
    have B2 := Lib.hid (show Below w.heap.size w w2 from (by first | exact below_seq B1.out hb | exact below_seq1 B1.out hb | exact below_seq2 B1.out hb | exact below_seq3 B1.out hb | exact below_seq4 B1.out hb))
    have R2 := Lib.hid hb
    have hz2 := hb.size
    try simp at hz2
    clear hb
    try have y20 : w.heap.size < w2.heap.size := by omega
    try have y20a : w.heap.size + 1 < w2.heap.size := by omega
    try have y20b : w.heap.size < w2.heap.size + 1 + 1 := by omega
    try have y20c : w.heap.size + 1 < w2.heap.size + 1 + 1 := by omega
    try have y21 : w1.heap.size < w2.heap.size := by omega
    try have y21a : w1.heap.size + 1 < w2.heap.size := by omega
    try have y21b : w1.heap.size < w2.heap.size + 1 + 1 := by omega
    try have y21c : w1.heap.size + 1 < w2.heap.size + 1 + 1 := by omega
    have X := Lib.hid hx
    clear hx
    replace H := Lib.hid (show LR w2 _ _ _ _ _ _ _ from (by first | with_reducible exact lr_below H.out R2.out | with_reducible exact lr_below (lr_alloc H.out _) R2.out | with_reducible exact lr_below (lr_alloc (lr_alloc H.out _) _) R2.out | with_reducible exact lr_below (lr_alloc (lr_alloc (lr_alloc H.out _) _) _) R2.out))
    go_wp2_with fail
    refine (jlS_rdno A1 n1 c1 J1 4 d1 C1 4 f1 l _ (by first | with_reducible exact H.out | with_reducible exact lr_alloc H.out _ | with_reducible exact lr_alloc (lr_alloc H.out _) _ | with_reducible exact lr_alloc (lr_alloc (lr_alloc H.out _) _) _) p HK.out).mono ?_
    rintro e w3 ⟨A3, n3, c3, J3, m3, d3, C3, o3, f3, rfl, hx, hb⟩
    obtain ⟨hc3, hf3⟩ := bcell hb
    have B3 := Lib.hid (show Below w.heap.size w w3 from (by first | exact below_seq B2.out hb | exact below_seq1 B2.out hb | exact below_seq2 B2.out hb | exact below_seq3 B2.out hb | exact below_seq4 B2.out hb))
    have R3 := Lib.hid hb
    have hz3 := hb.size
    try simp at hz3
    clear hb
    try have y30 : w.heap.size < w3.heap.size := by omega
    try have y30a : w.heap.size + 1 < w3.heap.size := by omega
    try have y30b : w.heap.size < w3.heap.size + 1 + 1 := by omega
    try have y30c : w.heap.size + 1 < w3.heap.size + 1 + 1 := by omega
    try have y31 : w1.heap.size < w3.heap.size := by omega
    try have y31a : w1.heap.size + 1 < w3.heap.size := by omega
    try have y31b : w1.heap.size < w3.heap.size + 1 + 1 := by omega
    try have y31c : w1.heap.size + 1 < w3.heap.size + 1 + 1 := by omega
    try have y32 : w2.heap.size < w3.heap.size := by omega
    try have y32a : w2.heap.size + 1 < w3.heap.size := by omega
    try have y32b : w2.heap.size < w3.heap.size + 1 + 1 := by omega
    try have y32c : w2.heap.size + 1 < w3.heap.size + 1 + 1 := by omega
    have Y := Lib.hid hx
    clear hx
    replace X := Lib.hid (show LR w3 _ _ _ _ _ _ _ from (by first | with_reducible exact lr_below X.out R3.out | with_reducible exact lr_below (lr_alloc X.out _) R3.out | with_reducible exact lr_below (lr_alloc (lr_alloc X.out _) _) R3.out | with_reducible exact lr_below (lr_alloc (lr_alloc (lr_alloc X.out _) _) _) R3.out))
    go_wp2_with fail
    refine (sameLI_any A2 n2 c2 J2 m2 d2 C2 o2 f2 lnZ A3 n3 c3 J3 m3 d3 C3 o3 f3 lnZ _ (by first | with_reducible exact X.out | with_reducible exact lr_alloc X.out _ | with_reducible exact lr_alloc (lr_alloc X.out _) _ | with_reducible exact lr_alloc (lr_alloc (lr_alloc X.out _) _) _) (by first | with_reducible exact Y.out | with_reducible exact lr_alloc Y.out _ | with_reducible exact lr_alloc (lr_alloc Y.out _) _ | with_reducible exact lr_alloc (lr_alloc (lr_alloc Y.out _) _) _)).mono ?_
    rintro e w4 ⟨rfl, hb⟩
    obtain ⟨hc4, hf4⟩ := bcell hb
    have B4 := Lib.hid (show Below w.heap.size w w4 from (by first | exact below_seq B3.out hb | exact below_seq1 B3.out hb | exact below_seq2 B3.out hb | exact below_seq3 B3.out hb | exact below_seq4 B3.out hb))
    have R4 := Lib.hid hb
    have hz4 := hb.size
    try simp at hz4
    clear hb
    try have y40 : w.heap.size < w4.heap.size := by omega
    try have y40a : w.heap.size + 1 < w4.heap.size := by omega
    try have y40b : w.heap.size < w4.heap.size + 1 + 1 := by omega
    try have y40c : w.heap.size + 1 < w4.heap.size + 1 + 1 := by omega
    try have y41 : w1.heap.size < w4.heap.size := by omega
    try have y41a : w1.heap.size + 1 < w4.heap.size := by omega
    try have y41b : w1.heap.size < w4.heap.size + 1 + 1 := by omega
    try have y41c : w1.heap.size + 1 < w4.heap.size + 1 + 1 := by omega
    try have y42 : w2.heap.size < w4.heap.size := by omega
    try have y42a : w2.heap.size + 1 < w4.heap.size := by omega
    try have y42b : w2.heap.size < w4.heap.size + 1 + 1 := by omega
    try have y42c : w2.heap.size + 1 < w4.heap.size + 1 + 1 := by omega
    try have y43 : w3.heap.size < w4.heap.size := by omega
    try have y43a : w3.heap.size + 1 < w4.heap.size := by omega
    try have y43b : w3.heap.size < w4.heap.size + 1 + 1 := by omega
    try have y43c : w3.heap.size + 1 < w4.heap.size + 1 + 1 := by omega
    rw [ls_refl]
    replace X := Lib.hid (show LR w4 _ _ _ _ _ _ _ from (by first | with_reducible exact lr_below X.out R4.out | with_reducible exact lr_below (lr_alloc X.out _) R4.out | with_reducible exact lr_below (lr_alloc (lr_alloc X.out _) _) R4.out | with_reducible exact lr_below (lr_alloc (lr_alloc (lr_alloc X.out _) _) _) R4.out))
    replace Y := Lib.hid (show LR w4 _ _ _ _ _ _ _ from (by first | with_reducible exact lr_below Y.out R4.out | with_reducible exact lr_below (lr_alloc Y.out _) R4.out | with_reducible exact lr_below (lr_alloc (lr_alloc Y.out _) _) R4.out | with_reducible exact lr_below (lr_alloc (lr_alloc (lr_alloc Y.out _) _) _) R4.out))
    go_wp2_with fail
    refine (sameLI_any A2 n2 c2 J2 m2 d2 C2 o2 f2 lnZ A3 n3 c3 J3 m3 d3 C3 o3 f3 lnZ _ (by first | with_reducible exact X.out | with_reducible exact lr_alloc X.out _ | with_reducible exact lr_alloc (lr_alloc X.out _) _ | with_reducible exact lr_alloc (lr_alloc (lr_alloc X.out _) _) _) (by first | with_reducible exact Y.out | with_reducible exact lr_alloc Y.out _ | with_reducible exact lr_alloc (lr_alloc Y.out _) _ | with_reducible exact lr_alloc (lr_alloc (lr_alloc Y.out _) _) _)).mono ?_
    rintro e w5 ⟨rfl, hb⟩
    obtain ⟨hc5, hf5⟩ := bcell hb
    have B5 := Lib.hid (show Below w.heap.size w w5 from (by first | exact below_seq B4.out hb | exact below_seq1 B4.out hb | exact below_seq2 B4.out hb | exact below_seq3 B4.out hb | exact below_seq4 B4.out hb))
    have R5 := Lib.hid hb
    have hz5 := hb.size
    try simp at hz5
    clear hb
    try have y50 : w.heap.size < w5.heap.size := by omega
    try have y50a : w.heap.size + 1 < w5.heap.size := by omega
    try have y50b : w.heap.size < w5.heap.size + 1 + 1 := by omega
    try have y50c : w.heap.size + 1 < w5.heap.size + 1 + 1 := by omega
    try have y51 : w1.heap.size < w5.heap.size := by omega
    try have y51a : w1.heap.size + 1 < w5.heap.size := by omega
    try have y51b : w1.heap.size < w5.heap.size + 1 + 1 := by omega
    try have y51c : w1.heap.size + 1 < w5.heap.size + 1 + 1 := by omega
    try have y52 : w2.heap.size < w5.heap.size := by omega
    try have y52a : w2.heap.size + 1 < w5.heap.size := by omega
    try have y52b : w2.heap.size < w5.heap.size + 1 + 1 := by omega
    try have y52c : w2.heap.size + 1 < w5.heap.size + 1 + 1 := by omega
    try have y53 : w3.heap.size < w5.heap.size := by omega
    try have y53a : w3.heap.size + 1 < w5.heap.size := by omega
    try have y53b : w3.heap.size < w5.heap.size + 1 + 1 := by omega
    try have y53c : w3.heap.size + 1 < w5.heap.size + 1 + 1 := by omega
    try have y54 : w4.heap.size < w5.heap.size := by omega
    try have y54a : w4.heap.size + 1 < w5.heap.size := by omega
    try have y54b : w4.heap.size < w5.heap.size + 1 + 1 := by omega
    try have y54c : w4.heap.size + 1 < w5.heap.size + 1 + 1 := by omega
    rw [ls_refl]
    go_wp2
    all_goals
      go_ret
      refine ⟨rfl, ?_⟩
      repeat refine below_alloc ?_ _
      exact B5.out
theorem own : ownKnob Try.prog.godebug = none := by kernel_rfl
theorem laidOut : laidOutB Try.prog = true := by kernel_rfl
set_option maxRecDepth 100000 in
theorem lifted (os : Os) (started : os.Started) (H : Type) (enc : TypeId × Value → H) :
    ReturnsInHanded {} Try.checked os 6 .any (Rows.fnJoinLanesSpec.pre6 enc Try.prog Try.f6 Rows.fnJoinLanesRow.domain false) (Rows.fnJoinLanesSpec.post enc Try.prog Try.f6 false true false false) := by
  refine returnsInHanded_of_change (C := Try.checked) own started (by kernel_rfl) Try.func6
    (ChangeSpec.witness6 (enc := enc) (C := Try.checked) false ⟨#[], #[.slice none 0 0], []⟩ 8 (by kernel_rfl) (by kernel_rfl) (by kernel_rfl) (by kernel_rfl)) ?_
  intro W base args ds gs before hval0 hW _ _
  have hval : ∀ (j : Nat) t v, Try.f6.params[j]? = some t → args[j]? = some v → Value.okWide Try.prog W .any base t v := hval0
  have hW' := hW
  obtain ⟨p, q, hA0, hV, rfl, _, _⟩ := hW
  have hA : DataW.TrodAll enc Try.prog W 0 (fun _ => true) true Try.f6.params.toList args.toList ds p := hA0
  rw [Try.params6] at hA hval
  obtain ⟨v0, vs0, d0, ds0, p0, q0, hargs, rfl, rfl, h0, r0⟩ := trodAll_cons hA
  obtain ⟨rfl, rfl, rfl⟩ := trodAll_nil r0
  obtain rfl : args = #[v0] := by cases args; simp_all
  obtain ⟨rfl, rfl⟩ := trodVars_none hV
  have lt0 : ∀ x ∈ p0, x.block < W.heap.size := by obtain ⟨m, hm⟩ := h0; exact DataW.trod_lt m _ _ _ hm
  obtain ⟨a0, n0, c0, rfl⟩ := okWide_slice Try.underlying22 (hval 0 22 v0 rfl rfl)
  have w0 : Bytes W a0 n0 c0 := bytes_open h0
  clear hA0 hval0
  refine (walk a0 n0 c0 W w0).mono fun e W' ⟨he, bel⟩ => ?_
  subst he
  exact ⟨_, rfl, _, _, _, [], _, [], hW', trodAll_mk1 (shut_bool Try.underlying4 _), (trodAll_cons_mk (Below.trod laidOut (by kernel_rfl) (of_decide_eq_true (by kernel_rfl)) h0 bel lt0) trodAll_mk0), rfl, bel.frame _, fun h => by cases h⟩
theorem over : Rows.fnJoinLanesRow.holds Try.pinned (OpenSpec.ofChange Rows.fnJoinLanesSpec) :=
  OpenClaim.holds_of_wide 6 Try.f6 rfl rfl rfl rfl rfl rfl rfl ⟨rfl, rfl, rfl, rfl, rfl⟩ rfl rfl rfl rfl rfl (by kernel_rfl) Try.func6 (by unfold joinedFacts; rw [mayEnter, liftsFinal, makeIs]; kernel_rfl)
    (of_decide_eq_true (by kernel_rfl)) (by unfold Func.isWrapper; first | (rw [if_pos (by decide +kernel)]; kernel_rfl) | (rw [if_neg (by decide +kernel)]; exact ⟨rfl, rfl⟩))
    (fun os started H enc _ => lifted os started H enc)
/-- the given statement -/
theorem proved : Rows.FnJoinLanesSaid := over
end Go.Proofs.Ytkmoiphcpmhacab.fnJoinLanes
