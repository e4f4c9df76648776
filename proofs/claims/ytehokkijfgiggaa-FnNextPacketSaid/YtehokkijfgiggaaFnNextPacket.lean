/-
  The law FnNextPacket returns true at every argument: a packet that is taken is the first one of its peer, and all others still wait. Conditions: none.
-/
import Derived.Test.YtehokkijfgiggaaLift
import Derived.Test.YtehokkijfgiggaaRDr
import Derived.Test.YtehokkijfgiggaaC1
import Derived.Test.YtehokkijfgiggaaC1c
import Derived.Test.YtehokkijfgiggaaR3
namespace Go.Proofs.Ytehokkijfgiggaa.fnNextPacket
open Go.ChangeShapes Go.WideShapes Go.ChangeAt Go.RowKit

theorem app_below {w w1 w2 : World} {base : Nat} {v : Value} {n : Nat} {xs : List Value} {e : TypeId} (ho : w1.ownsRow base e 4 v n xs) (hb : Below base w w1) (hg : w1.grownBy w2 v.ownBlock) (hs : base ≤ w1.heap.size) : Below base w w2 :=
  hb.grown hg hs fun k hk => (ho.lt k hk).1
theorem own_one {W : World} {b : Nat} (hb : b = W.heap.size) (p : Pkt) : (W.alloc (.cells #[.int .i64 p.peer, .int .i64 p.lane, .int .i64 p.size, .int .i64 p.id] 28)).ownsRow W.heap.size 28 4 (.slice (some ⟨b, 0, none⟩) 1 1) 1 (pcells [p]) := by
  subst hb
  exact ⟨rfl, .inr ⟨W.heap.size, 1, _, rfl, Nat.le_refl _, blk_new W _ _, Nat.le_refl _, by unfold maxLen; omega, rfl, rfl⟩⟩
theorem wo_len {q : Int} {fs : List Flw} (h : RV q fs) (x : Int) : (wOf fs x).length ≤ 64 := by
  by_cases hlt : fix fs x < fs.length
  · obtain ⟨f, hf, hw, -⟩ := leave_some hlt
    rw [hw]
    exact (ok_of (h.all f (List.mem_of_getElem? hf)).ok).1
  · rw [w_far hlt]; simp
def NxRel (w : World) (A1 : Option Addr) (n1 : Nat) (fs : List Flw) (A2 : Option Addr) (n2 : Nat) (gs : List Flw) (i : Value) (wr : World) : Prop :=
  ∃ k : Nat, k ≤ 8 ∧ i = .int .i64 (k : Int) ∧ FR wr A1 n1 fs ∧ FR wr A2 n2 gs ∧ Below w.heap.size w wr
set_option maxHeartbeats 4000000 in
theorem walk (A : Option Addr) (n c : Nat) (w : World) (h : Bytes w A n c) :
    Calls Try.prog 3 #[.slice A n c] w fun e w' => e = .returned (.bool true) ∧ Below w.heap.size w w' := by
  have HB := Lib.hid h
  clear h
  by_cases hbig : ¬ n ≤ 1048576
  · go_enter Try.func3, Try.ntmps3
    go_wp2
    go_ret
    exact ⟨rfl, Below.refl _ _⟩
  have hbig' : n ≤ 1048576 := by omega
  clear hbig
  go_enter Try.func3, Try.ntmps3
  go_wp2_with fail
  refine (drawNextPacket_any A n c _ HB.out).mono ?_
  rintro e w1 ⟨x1, A1, n1, c1, fs, rfl, -, hf, hb⟩
  obtain ⟨hc1, hf1⟩ := bcell hb
  have B1 := Lib.hid (show Below w.heap.size w w1 from (by first | exact below_seq (Below.refl w.heap.size w) hb | exact below_seq1 (Below.refl w.heap.size w) hb | exact below_seq2 (Below.refl w.heap.size w) hb | exact below_seq3 (Below.refl w.heap.size w) hb | exact below_seq4 (Below.refl w.heap.size w) hb))
  have R1 := Lib.hid hb
  have hz1 := hb.size
  try simp at hz1
  clear hb
  have H := Lib.hid (frx_fr hf)
  clear hf
  by_cases hk : NxOk x1 fs
  · obtain ⟨f9, r9, p9, ws9, N9⟩ := nexted_is hk.1 hk.2
    have HK := Lib.hid hk
    obtain ⟨gs, hgs⟩ : ∃ gs, gs = nxL x1 fs := ⟨_, rfl⟩
    have HV : Hid (RV x1 gs) := Lib.hid (by rw [hgs]; exact N9.rv)
    have HG := Lib.hid hgs
    obtain ⟨p, hp⟩ : ∃ p, p = nxP x1 fs := ⟨_, rfl⟩
    have HP := Lib.hid hp
    have HW : Hid (∀ x, wOf fs x = if p.peer = x then p :: wOf gs x else wOf gs x) := Lib.hid (fun x => by rw [hp, hgs, N9.isP]; exact w_next N9 x)
    have LF : Hid (∀ x, (wOf fs x).length ≤ 64) := Lib.hid (wo_len hk.1)
    have LGl : Hid (∀ x, (wOf gs x).length ≤ 64) := Lib.hid (wo_len HV.out)
    clear hk hgs hp N9
    go_wp2_with fail
    refine (npI_yes x1 A1 n1 c1 fs _ (by first | with_reducible exact H.out | with_reducible exact fr_allocF H.out _ | with_reducible exact fr_allocF (fr_allocF H.out _) _ | with_reducible exact fr_allocF (fr_allocF (fr_allocF H.out _) _) _) HK.out).mono ?_
    rintro e w2 ⟨A2, n2, c2, hs2, rfl, hD2, hb⟩
    obtain ⟨hc2, hf2⟩ := bcell hb
    have B2 := Lib.hid (show Below w.heap.size w w2 from (by first | exact below_seq B1.out hb | exact below_seq1 B1.out hb | exact below_seq2 B1.out hb | exact below_seq3 B1.out hb | exact below_seq4 B1.out hb))
    have R2 := Lib.hid hb
    have hz2 := hb.size
    try simp at hz2
    clear hb
    try have y20 : w.heap.size < w2.heap.size := by omega
    try have y20a : w.heap.size + 1 < w2.heap.size := by omega
    try have y20b : w.heap.size < w2.heap.size + 1 + 1 := by omega
    try have y20c : w.heap.size + 1 < w2.heap.size + 1 + 1 := by omega
    try have y21 : w1.heap.size < w2.heap.size := by omega
    try have y21a : w1.heap.size + 1 < w2.heap.size := by omega
    try have y21b : w1.heap.size < w2.heap.size + 1 + 1 := by omega
    try have y21c : w1.heap.size + 1 < w2.heap.size + 1 + 1 := by omega
    rw [← HG.out] at hD2
    rw [← HP.out]
    have X := Lib.hid (do_fr hD2 (by have := do_cap hD2; have := rv_len HV.out; omega))
    clear hD2
    replace H := Lib.hid (show FR w2 _ _ _ from (by first | with_reducible exact fr_belowF H.out R2.out | with_reducible exact fr_belowF (fr_allocF H.out _) R2.out | with_reducible exact fr_belowF (fr_allocF (fr_allocF H.out _) _) R2.out | with_reducible exact fr_belowF (fr_allocF (fr_allocF (fr_allocF H.out _) _) _) R2.out))
    go_wp2_with fail
    refine (npS_yes x1 A1 n1 c1 fs _ (by first | with_reducible exact H.out | with_reducible exact fr_allocF H.out _ | with_reducible exact fr_allocF (fr_allocF H.out _) _ | with_reducible exact fr_allocF (fr_allocF (fr_allocF H.out _) _) _) HK.out).mono ?_
    rintro e w3 ⟨A3, n3, c3, rfl, hF3, hb⟩
    obtain ⟨hc3, hf3⟩ := bcell hb
    have B3 := Lib.hid (show Below w.heap.size w w3 from (by first | exact below_seq B2.out hb | exact below_seq1 B2.out hb | exact below_seq2 B2.out hb | exact below_seq3 B2.out hb | exact below_seq4 B2.out hb))
    have R3 := Lib.hid hb
    have hz3 := hb.size
    try simp at hz3
    clear hb
    try have y30 : w.heap.size < w3.heap.size := by omega
    try have y30a : w.heap.size + 1 < w3.heap.size := by omega
    try have y30b : w.heap.size < w3.heap.size + 1 + 1 := by omega
    try have y30c : w.heap.size + 1 < w3.heap.size + 1 + 1 := by omega
    try have y31 : w1.heap.size < w3.heap.size := by omega
    try have y31a : w1.heap.size + 1 < w3.heap.size := by omega
    try have y31b : w1.heap.size < w3.heap.size + 1 + 1 := by omega
    try have y31c : w1.heap.size + 1 < w3.heap.size + 1 + 1 := by omega
    try have y32 : w2.heap.size < w3.heap.size := by omega
    try have y32a : w2.heap.size + 1 < w3.heap.size := by omega
    try have y32b : w2.heap.size < w3.heap.size + 1 + 1 := by omega
    try have y32c : w2.heap.size + 1 < w3.heap.size + 1 + 1 := by omega
    rw [← HG.out] at hF3
    rw [← HP.out]
    have Y := Lib.hid hF3
    clear hF3
    replace H := Lib.hid (show FR w3 _ _ _ from (by first | with_reducible exact fr_belowF H.out R3.out | with_reducible exact fr_belowF (fr_allocF H.out _) R3.out | with_reducible exact fr_belowF (fr_allocF (fr_allocF H.out _) _) R3.out | with_reducible exact fr_belowF (fr_allocF (fr_allocF (fr_allocF H.out _) _) _) R3.out))
    replace X := Lib.hid (show FR w3 _ _ _ from (by first | with_reducible exact fr_belowF X.out R3.out | with_reducible exact fr_belowF (fr_allocF X.out _) R3.out | with_reducible exact fr_belowF (fr_allocF (fr_allocF X.out _) _) R3.out | with_reducible exact fr_belowF (fr_allocF (fr_allocF (fr_allocF X.out _) _) _) R3.out))
    go_wp2_with fail
    refine (sameRI_any x1 x1 A2 A3 n2 c2 n3 c3 gs gs _ (by first | with_reducible exact X.out | with_reducible exact fr_allocF X.out _ | with_reducible exact fr_allocF (fr_allocF X.out _) _ | with_reducible exact fr_allocF (fr_allocF (fr_allocF X.out _) _) _) (by first | with_reducible exact Y.out | with_reducible exact fr_allocF Y.out _ | with_reducible exact fr_allocF (fr_allocF Y.out _) _ | with_reducible exact fr_allocF (fr_allocF (fr_allocF Y.out _) _) _)).mono ?_
    rintro e w4 ⟨rfl, hb⟩
    obtain ⟨hc4, hf4⟩ := bcell hb
    have B4 := Lib.hid (show Below w.heap.size w w4 from (by first | exact below_seq B3.out hb | exact below_seq1 B3.out hb | exact below_seq2 B3.out hb | exact below_seq3 B3.out hb | exact below_seq4 B3.out hb))
    have R4 := Lib.hid hb
    have hz4 := hb.size
    try simp at hz4
    clear hb
    try have y40 : w.heap.size < w4.heap.size := by omega
    try have y40a : w.heap.size + 1 < w4.heap.size := by omega
    try have y40b : w.heap.size < w4.heap.size + 1 + 1 := by omega
    try have y40c : w.heap.size + 1 < w4.heap.size + 1 + 1 := by omega
    try have y41 : w1.heap.size < w4.heap.size := by omega
    try have y41a : w1.heap.size + 1 < w4.heap.size := by omega
    try have y41b : w1.heap.size < w4.heap.size + 1 + 1 := by omega
    try have y41c : w1.heap.size + 1 < w4.heap.size + 1 + 1 := by omega
    try have y42 : w2.heap.size < w4.heap.size := by omega
    try have y42a : w2.heap.size + 1 < w4.heap.size := by omega
    try have y42b : w2.heap.size < w4.heap.size + 1 + 1 := by omega
    try have y42c : w2.heap.size + 1 < w4.heap.size + 1 + 1 := by omega
    try have y43 : w3.heap.size < w4.heap.size := by omega
    try have y43a : w3.heap.size + 1 < w4.heap.size := by omega
    try have y43b : w3.heap.size < w4.heap.size + 1 + 1 := by omega
    try have y43c : w3.heap.size + 1 < w4.heap.size + 1 + 1 := by omega
    rw [rs_refl]
    replace H := Lib.hid (show FR w4 _ _ _ from (by first | with_reducible exact fr_belowF H.out R4.out | with_reducible exact fr_belowF (fr_allocF H.out _) R4.out | with_reducible exact fr_belowF (fr_allocF (fr_allocF H.out _) _) R4.out | with_reducible exact fr_belowF (fr_allocF (fr_allocF (fr_allocF H.out _) _) _) R4.out))
    replace X := Lib.hid (show FR w4 _ _ _ from (by first | with_reducible exact fr_belowF X.out R4.out | with_reducible exact fr_belowF (fr_allocF X.out _) R4.out | with_reducible exact fr_belowF (fr_allocF (fr_allocF X.out _) _) R4.out | with_reducible exact fr_belowF (fr_allocF (fr_allocF (fr_allocF X.out _) _) _) R4.out))
    clear Y
    go_wp2
    go_loopw [10] (fun i wr => NxRel w4 A1 n1 fs A2 n2 gs i wr) (fun i _ => 8 - (intOf i).toNat)
    case atStart => exact ⟨0, Nat.zero_le _, rfl, H.out, X.out, Below.refl _ _⟩
    case round =>
      obtain ⟨k, hk, rfl, hp, hq, hbl⟩ := hrel
      have QR := Lib.hid hp
      have XR := Lib.hid hq
      have BL := Lib.hid hbl
      have Br := Lib.hid (below_seq B4.out hbl)
      obtain ⟨hcr, hfr⟩ := bcell hbl
      have hzr := hbl.size
      have yr1 : w1.heap.size < wr.heap.size := by omega
      have yr2 : w2.heap.size < wr.heap.size := by omega
      have yr3 : w2.heap.size + 1 < wr.heap.size := by omega
      clear H X hp hq hbl
      by_cases hlt : k < 8
      · have LV : Hid (LvOk x1 fs (k : Int)) := Lib.hid ⟨HK.out.1, by omega, by omega⟩
        have LG : Hid (LvOk x1 gs (k : Int)) := Lib.hid ⟨HV.out, by omega, by omega⟩
        go_wp2_with fail
        refine (woI_yes x1 A1 n1 c1 fs k _ QR.out LV.out).mono ?_
        rintro e w6 ⟨A6, n6, c6, rfl, hn6, ho6, hb⟩
        obtain ⟨hc6, hf6⟩ := bcell hb
        have B6 := Lib.hid (show Below w.heap.size w w6 from (by first | exact below_seq Br.out hb | exact below_seq1 Br.out hb | exact below_seq2 Br.out hb | exact below_seq3 Br.out hb | exact below_seq4 Br.out hb))
        have R6 := Lib.hid hb
        have hz6 := hb.size
        try simp at hz6
        clear hb
        try have y60 : w.heap.size < w6.heap.size := by omega
        try have y60a : w.heap.size + 1 < w6.heap.size := by omega
        try have y60b : w.heap.size < w6.heap.size + 1 + 1 := by omega
        try have y60c : w.heap.size + 1 < w6.heap.size + 1 + 1 := by omega
        try have y61 : w1.heap.size < w6.heap.size := by omega
        try have y61a : w1.heap.size + 1 < w6.heap.size := by omega
        try have y61b : w1.heap.size < w6.heap.size + 1 + 1 := by omega
        try have y61c : w1.heap.size + 1 < w6.heap.size + 1 + 1 := by omega
        try have y62 : w2.heap.size < w6.heap.size := by omega
        try have y62a : w2.heap.size + 1 < w6.heap.size := by omega
        try have y62b : w2.heap.size < w6.heap.size + 1 + 1 := by omega
        try have y62c : w2.heap.size + 1 < w6.heap.size + 1 + 1 := by omega
        try have y63 : w3.heap.size < w6.heap.size := by omega
        try have y63a : w3.heap.size + 1 < w6.heap.size := by omega
        try have y63b : w3.heap.size < w6.heap.size + 1 + 1 := by omega
        try have y63c : w3.heap.size + 1 < w6.heap.size + 1 + 1 := by omega
        try have y64 : w4.heap.size < w6.heap.size := by omega
        try have y64a : w4.heap.size + 1 < w6.heap.size := by omega
        try have y64b : w4.heap.size < w6.heap.size + 1 + 1 := by omega
        try have y64c : w4.heap.size + 1 < w6.heap.size + 1 + 1 := by omega
        try have y65 : w5.heap.size < w6.heap.size := by omega
        try have y65a : w5.heap.size + 1 < w6.heap.size := by omega
        try have y65b : w5.heap.size < w6.heap.size + 1 + 1 := by omega
        try have y65c : w5.heap.size + 1 < w6.heap.size + 1 + 1 := by omega
        have U := Lib.hid (pr_own ho6)
        have BL6 := Lib.hid (below_seq BL.out R6.out)
        have l6 : n6 ≤ 64 := by have := LF.out (k : Int); omega
        clear hn6 ho6
        replace QR := Lib.hid (show FR w6 _ _ _ from (by first | with_reducible exact fr_belowF QR.out R6.out | with_reducible exact fr_belowF (fr_allocF QR.out _) R6.out | with_reducible exact fr_belowF (fr_allocF (fr_allocF QR.out _) _) R6.out | with_reducible exact fr_belowF (fr_allocF (fr_allocF (fr_allocF QR.out _) _) _) R6.out))
        replace XR := Lib.hid (show FR w6 _ _ _ from (by first | with_reducible exact fr_belowF XR.out R6.out | with_reducible exact fr_belowF (fr_allocF XR.out _) R6.out | with_reducible exact fr_belowF (fr_allocF (fr_allocF XR.out _) _) R6.out | with_reducible exact fr_belowF (fr_allocF (fr_allocF (fr_allocF XR.out _) _) _) R6.out))
        go_wp2_with fail
        refine (woI_yes x1 A2 n2 c2 gs k _ XR.out LG.out).mono ?_
        rintro e w7 ⟨A7, n7, c7, rfl, hn7, ho7, hb⟩
        obtain ⟨hc7, hf7⟩ := bcell hb
        have B7 := Lib.hid (show Below w.heap.size w w7 from (by first | exact below_seq B6.out hb | exact below_seq1 B6.out hb | exact below_seq2 B6.out hb | exact below_seq3 B6.out hb | exact below_seq4 B6.out hb))
        have R7 := Lib.hid hb
        have hz7 := hb.size
        try simp at hz7
        clear hb
        try have y70 : w.heap.size < w7.heap.size := by omega
        try have y70a : w.heap.size + 1 < w7.heap.size := by omega
        try have y70b : w.heap.size < w7.heap.size + 1 + 1 := by omega
        try have y70c : w.heap.size + 1 < w7.heap.size + 1 + 1 := by omega
        try have y71 : w1.heap.size < w7.heap.size := by omega
        try have y71a : w1.heap.size + 1 < w7.heap.size := by omega
        try have y71b : w1.heap.size < w7.heap.size + 1 + 1 := by omega
        try have y71c : w1.heap.size + 1 < w7.heap.size + 1 + 1 := by omega
        try have y72 : w2.heap.size < w7.heap.size := by omega
        try have y72a : w2.heap.size + 1 < w7.heap.size := by omega
        try have y72b : w2.heap.size < w7.heap.size + 1 + 1 := by omega
        try have y72c : w2.heap.size + 1 < w7.heap.size + 1 + 1 := by omega
        try have y73 : w3.heap.size < w7.heap.size := by omega
        try have y73a : w3.heap.size + 1 < w7.heap.size := by omega
        try have y73b : w3.heap.size < w7.heap.size + 1 + 1 := by omega
        try have y73c : w3.heap.size + 1 < w7.heap.size + 1 + 1 := by omega
        try have y74 : w4.heap.size < w7.heap.size := by omega
        try have y74a : w4.heap.size + 1 < w7.heap.size := by omega
        try have y74b : w4.heap.size < w7.heap.size + 1 + 1 := by omega
        try have y74c : w4.heap.size + 1 < w7.heap.size + 1 + 1 := by omega
        try have y75 : w5.heap.size < w7.heap.size := by omega
        try have y75a : w5.heap.size + 1 < w7.heap.size := by omega
        try have y75b : w5.heap.size < w7.heap.size + 1 + 1 := by omega
        try have y75c : w5.heap.size + 1 < w7.heap.size + 1 + 1 := by omega
        try have y76 : w6.heap.size < w7.heap.size := by omega
        try have y76a : w6.heap.size + 1 < w7.heap.size := by omega
        try have y76b : w6.heap.size < w7.heap.size + 1 + 1 := by omega
        try have y76c : w6.heap.size + 1 < w7.heap.size + 1 + 1 := by omega
        have V := Lib.hid (pr_own ho7)
        have BL7 := Lib.hid (below_seq BL6.out R7.out)
        have l7 : n7 ≤ 64 := by have := LGl.out (k : Int); omega
        clear hn7 ho7
        replace QR := Lib.hid (show FR w7 _ _ _ from (by first | with_reducible exact fr_belowF QR.out R7.out | with_reducible exact fr_belowF (fr_allocF QR.out _) R7.out | with_reducible exact fr_belowF (fr_allocF (fr_allocF QR.out _) _) R7.out | with_reducible exact fr_belowF (fr_allocF (fr_allocF (fr_allocF QR.out _) _) _) R7.out))
        replace XR := Lib.hid (show FR w7 _ _ _ from (by first | with_reducible exact fr_belowF XR.out R7.out | with_reducible exact fr_belowF (fr_allocF XR.out _) R7.out | with_reducible exact fr_belowF (fr_allocF (fr_allocF XR.out _) _) R7.out | with_reducible exact fr_belowF (fr_allocF (fr_allocF (fr_allocF XR.out _) _) _) R7.out))
        replace U := Lib.hid (show PR w7 _ _ _ from (by first | with_reducible exact pr_below U.out R7.out | with_reducible exact pr_below (pr_alloc U.out _) R7.out | with_reducible exact pr_below (pr_alloc (pr_alloc U.out _) _) R7.out | with_reducible exact pr_below (pr_alloc (pr_alloc (pr_alloc U.out _) _) _) R7.out))
        by_cases hpe : p.peer = (k : Int)
        · have e1 : ((k : Int) == p.peer) = true := by simp [hpe]
          have E8 : Hid (wOf fs (k : Int) = [p] ++ wOf gs (k : Int)) := Lib.hid (by rw [HW.out, if_pos hpe]; rfl)
          clear hpe
          have O7 := Lib.hid (own_one (W := w7) rfl p)
          go_wp2_with (at_builtin
                       refine wp_app_pkts _ rfl (.tmp 84) (.tmp 85) rfl w7.heap.size (.slice (some ⟨w7.heap.size, 0, none⟩) 1 1) 1 [p] rfl O7.out A7 n7 c7 (wOf gs (k : Int)) rfl (pr_alloc V.out _) (by omega) (by simp) ?_
                       intro v8 w8 ho8 hg8
                       have T8 := Lib.hid (app_below O7.out (below_alloc (Below.refl _ _) _) hg8 (by simp))
                       obtain ⟨A8, c8, rfl, -, -, -⟩ := own_form ho8
                       have V8 := Lib.hid (pr_own ho8)
                       have Q8 := Lib.hid (fr_belowF QR.out T8.out)
                       have X8 := Lib.hid (fr_belowF XR.out T8.out)
                       have U8 := Lib.hid (pr_below U.out T8.out)
                       have B8 := Lib.hid (below_seq BL7.out T8.out)
                       clear ho8 hg8 QR XR U V T8)
          refine (sameI_any A6 A8 n6 c6 (1 + n7) c8 _ _ _ U8.out V8.out (by omega) (by omega)).mono ?_
          rintro e w9 ⟨rfl, hb9⟩
          rw [← same_yes E8.out]
          have Q9 := Lib.hid (fr_belowF Q8.out hb9)
          have X9 := Lib.hid (fr_belowF X8.out hb9)
          have B9 := Lib.hid (below_seq B8.out hb9)
          clear hb9 Q8 X8 U8 V8 B8
          go_wp2
          go_roundw
          case rel => exact ⟨k + 1, by omega, by go_num, Q9.out, X9.out, B9.out⟩
          case measure => simp [intOf]; omega
        · have e1 : ((k : Int) == p.peer) = false := by simp; omega
          have E8 : Hid (wOf fs (k : Int) = wOf gs (k : Int)) := Lib.hid (by rw [HW.out, if_neg hpe])
          clear hpe
          go_wp2_with fail
          refine (sameI_any A6 A7 n6 c6 n7 c7 _ _ _ U.out V.out (by omega) (by omega)).mono ?_
          rintro e w9 ⟨rfl, hb9⟩
          rw [← same_yes E8.out]
          have Q9 := Lib.hid (fr_belowF QR.out hb9)
          have X9 := Lib.hid (fr_belowF XR.out hb9)
          have B9 := Lib.hid (below_seq BL7.out hb9)
          clear hb9 QR XR U V
          go_wp2
          go_roundw
          case rel => exact ⟨k + 1, by omega, by go_num, Q9.out, X9.out, B9.out⟩
          case measure => simp [intOf]; omega
      · obtain rfl : k = 8 := by omega
        go_wp2_with fail
        refine (rvI_any x1 A2 n2 c2 gs _ XR.out).mono ?_
        rintro e w9 ⟨rfl, hb9⟩
        rw [rv_yes HV.out]
        have B9 := Lib.hid (below_seq Br.out hb9)
        clear hb9
        go_wp2
        go_ret
        exact ⟨rfl, B9.out⟩
  · have HK := Lib.hid hk
    clear hk
    go_wp2_with fail
    refine (npI_no x1 A1 n1 c1 fs _ (by first | with_reducible exact H.out | with_reducible exact fr_allocF H.out _ | with_reducible exact fr_allocF (fr_allocF H.out _) _ | with_reducible exact fr_allocF (fr_allocF (fr_allocF H.out _) _) _) HK.out).mono ?_
    rintro e w2 ⟨rfl, hb⟩
    obtain ⟨hc2, hf2⟩ := bcell hb
    have B2 := Lib.hid (show Below w.heap.size w w2 from (by first | exact below_seq B1.out hb | exact below_seq1 B1.out hb | exact below_seq2 B1.out hb | exact below_seq3 B1.out hb | exact below_seq4 B1.out hb))
    have R2 := Lib.hid hb
    have hz2 := hb.size
    try simp at hz2
    clear hb
    try have y20 : w.heap.size < w2.heap.size := by omega
    try have y20a : w.heap.size + 1 < w2.heap.size := by omega
    try have y20b : w.heap.size < w2.heap.size + 1 + 1 := by omega
    try have y20c : w.heap.size + 1 < w2.heap.size + 1 + 1 := by omega
    try have y21 : w1.heap.size < w2.heap.size := by omega
    try have y21a : w1.heap.size + 1 < w2.heap.size := by omega
    try have y21b : w1.heap.size < w2.heap.size + 1 + 1 := by omega
    try have y21c : w1.heap.size + 1 < w2.heap.size + 1 + 1 := by omega
    replace H := Lib.hid (show FR w2 _ _ _ from (by first | with_reducible exact fr_belowF H.out R2.out | with_reducible exact fr_belowF (fr_allocF H.out _) R2.out | with_reducible exact fr_belowF (fr_allocF (fr_allocF H.out _) _) R2.out | with_reducible exact fr_belowF (fr_allocF (fr_allocF (fr_allocF H.out _) _) _) R2.out))
    go_wp2_with fail
    refine (npS_no x1 A1 n1 c1 fs _ (by first | with_reducible exact H.out | with_reducible exact fr_allocF H.out _ | with_reducible exact fr_allocF (fr_allocF H.out _) _ | with_reducible exact fr_allocF (fr_allocF (fr_allocF H.out _) _) _) HK.out).mono ?_
    rintro e w3 ⟨rfl, hb⟩
    obtain ⟨hc3, hf3⟩ := bcell hb
    have B3 := Lib.hid (show Below w.heap.size w w3 from (by first | exact below_seq B2.out hb | exact below_seq1 B2.out hb | exact below_seq2 B2.out hb | exact below_seq3 B2.out hb | exact below_seq4 B2.out hb))
    have R3 := Lib.hid hb
    have hz3 := hb.size
    try simp at hz3
    clear hb
    try have y30 : w.heap.size < w3.heap.size := by omega
    try have y30a : w.heap.size + 1 < w3.heap.size := by omega
    try have y30b : w.heap.size < w3.heap.size + 1 + 1 := by omega
    try have y30c : w.heap.size + 1 < w3.heap.size + 1 + 1 := by omega
    try have y31 : w1.heap.size < w3.heap.size := by omega
    try have y31a : w1.heap.size + 1 < w3.heap.size := by omega
    try have y31b : w1.heap.size < w3.heap.size + 1 + 1 := by omega
    try have y31c : w1.heap.size + 1 < w3.heap.size + 1 + 1 := by omega
    try have y32 : w2.heap.size < w3.heap.size := by omega
    try have y32a : w2.heap.size + 1 < w3.heap.size := by omega
    try have y32b : w2.heap.size < w3.heap.size + 1 + 1 := by omega
    try have y32c : w2.heap.size + 1 < w3.heap.size + 1 + 1 := by omega
    go_wp2_with fail
    refine (sameRI_any 0 0 none none 0 0 0 0 [] [] _ (fr_nilF _ _) (fr_nilF _ _)).mono ?_
    rintro e w4 ⟨rfl, hb⟩
    obtain ⟨hc4, hf4⟩ := bcell hb
    have B4 := Lib.hid (show Below w.heap.size w w4 from (by first | exact below_seq B3.out hb | exact below_seq1 B3.out hb | exact below_seq2 B3.out hb | exact below_seq3 B3.out hb | exact below_seq4 B3.out hb))
    have R4 := Lib.hid hb
    have hz4 := hb.size
    try simp at hz4
    clear hb
    try have y40 : w.heap.size < w4.heap.size := by omega
    try have y40a : w.heap.size + 1 < w4.heap.size := by omega
    try have y40b : w.heap.size < w4.heap.size + 1 + 1 := by omega
    try have y40c : w.heap.size + 1 < w4.heap.size + 1 + 1 := by omega
    try have y41 : w1.heap.size < w4.heap.size := by omega
    try have y41a : w1.heap.size + 1 < w4.heap.size := by omega
    try have y41b : w1.heap.size < w4.heap.size + 1 + 1 := by omega
    try have y41c : w1.heap.size + 1 < w4.heap.size + 1 + 1 := by omega
    try have y42 : w2.heap.size < w4.heap.size := by omega
    try have y42a : w2.heap.size + 1 < w4.heap.size := by omega
    try have y42b : w2.heap.size < w4.heap.size + 1 + 1 := by omega
    try have y42c : w2.heap.size + 1 < w4.heap.size + 1 + 1 := by omega
    try have y43 : w3.heap.size < w4.heap.size := by omega
    try have y43a : w3.heap.size + 1 < w4.heap.size := by omega
    try have y43b : w3.heap.size < w4.heap.size + 1 + 1 := by omega
    try have y43c : w3.heap.size + 1 < w4.heap.size + 1 + 1 := by omega
    rw [rs_refl]
    go_wp2_with fail
    refine (sameRI_any 0 0 none none 0 0 0 0 [] [] _ (fr_nilF _ _) (fr_nilF _ _)).mono ?_
    rintro e w5 ⟨rfl, hb⟩
    obtain ⟨hc5, hf5⟩ := bcell hb
    have B5 := Lib.hid (show Below w.heap.size w w5 from (by first | exact below_seq B4.out hb | exact below_seq1 B4.out hb | exact below_seq2 B4.out hb | exact below_seq3 B4.out hb | exact below_seq4 B4.out hb))
    have R5 := Lib.hid hb
    have hz5 := hb.size
    try simp at hz5
    clear hb
    try have y50 : w.heap.size < w5.heap.size := by omega
    try have y50a : w.heap.size + 1 < w5.heap.size := by omega
    try have y50b : w.heap.size < w5.heap.size + 1 + 1 := by omega
    try have y50c : w.heap.size + 1 < w5.heap.size + 1 + 1 := by omega
    try have y51 : w1.heap.size < w5.heap.size := by omega
    try have y51a : w1.heap.size + 1 < w5.heap.size := by omega
    try have y51b : w1.heap.size < w5.heap.size + 1 + 1 := by omega
    try have y51c : w1.heap.size + 1 < w5.heap.size + 1 + 1 := by omega
    try have y52 : w2.heap.size < w5.heap.size := by omega
    try have y52a : w2.heap.size + 1 < w5.heap.size := by omega
    try have y52b : w2.heap.size < w5.heap.size + 1 + 1 := by omega
    try have y52c : w2.heap.size + 1 < w5.heap.size + 1 + 1 := by omega
    try have y53 : w3.heap.size < w5.heap.size := by omega
    try have y53a : w3.heap.size + 1 < w5.heap.size := by omega
    try have y53b : w3.heap.size < w5.heap.size + 1 + 1 := by omega
    try have y53c : w3.heap.size + 1 < w5.heap.size + 1 + 1 := by omega
    try have y54 : w4.heap.size < w5.heap.size := by omega
    try have y54a : w4.heap.size + 1 < w5.heap.size := by omega
    try have y54b : w4.heap.size < w5.heap.size + 1 + 1 := by omega
    try have y54c : w4.heap.size + 1 < w5.heap.size + 1 + 1 := by omega
    rw [rs_refl]
    go_wp2
    all_goals
      go_ret
      refine ⟨rfl, ?_⟩
      repeat refine below_alloc ?_ _
      exact B5.out
theorem own : ownKnob Try.prog.godebug = none := by kernel_rfl
theorem laidOut : laidOutB Try.prog = true := by kernel_rfl
set_option maxRecDepth 100000 in
theorem lifted (os : Os) (started : os.Started) (H : Type) (enc : TypeId × Value → H) :
    ReturnsInHanded {} Try.checked os 3 .any (Rows.fnNextPacketSpec.pre6 enc Try.prog Try.f3 Rows.fnNextPacketRow.domain false) (Rows.fnNextPacketSpec.post enc Try.prog Try.f3 false true false false) := by
  refine returnsInHanded_of_change (C := Try.checked) own started (by kernel_rfl) Try.func3
    (ChangeSpec.witness6 (enc := enc) (C := Try.checked) false ⟨#[], #[.slice none 0 0], []⟩ 8 (by kernel_rfl) (by kernel_rfl) (by kernel_rfl) (by kernel_rfl)) ?_
  intro W base args ds gs before hval0 hW _ _
  have hval : ∀ (j : Nat) t v, Try.f3.params[j]? = some t → args[j]? = some v → Value.okWide Try.prog W .any base t v := hval0
  have hW' := hW
  obtain ⟨p, q, hA0, hV, rfl, _, _⟩ := hW
  have hA : DataW.TrodAll enc Try.prog W 0 (fun _ => true) true Try.f3.params.toList args.toList ds p := hA0
  rw [Try.params3] at hA hval
  obtain ⟨v0, vs0, d0, ds0, p0, q0, hargs, rfl, rfl, h0, r0⟩ := trodAll_cons hA
  obtain ⟨rfl, rfl, rfl⟩ := trodAll_nil r0
  obtain rfl : args = #[v0] := by cases args; simp_all
  obtain ⟨rfl, rfl⟩ := trodVars_none hV
  have lt0 : ∀ x ∈ p0, x.block < W.heap.size := by obtain ⟨m, hm⟩ := h0; exact DataW.trod_lt m _ _ _ hm
  obtain ⟨a0, n0, c0, rfl⟩ := okWide_slice Try.underlying22 (hval 0 22 v0 rfl rfl)
  have w0 : Bytes W a0 n0 c0 := bytes_open h0
  clear hA0 hval0
  refine (walk a0 n0 c0 W w0).mono fun e W' ⟨he, bel⟩ => ?_
  subst he
  exact ⟨_, rfl, _, _, _, [], _, [], hW', trodAll_mk1 (shut_bool Try.underlying4 _), (trodAll_cons_mk (Below.trod laidOut (by kernel_rfl) (of_decide_eq_true (by kernel_rfl)) h0 bel lt0) trodAll_mk0), rfl, bel.frame _, fun h => by cases h⟩
theorem over : Rows.fnNextPacketRow.holds Try.pinned (OpenSpec.ofChange Rows.fnNextPacketSpec) :=
  OpenClaim.holds_of_wide 3 Try.f3 rfl rfl rfl rfl rfl rfl rfl ⟨rfl, rfl, rfl, rfl, rfl⟩ rfl rfl rfl rfl rfl (by kernel_rfl) Try.func3 (by kernel_rfl)
    (of_decide_eq_true (by kernel_rfl)) (by unfold Func.isWrapper; first | (rw [if_pos (by decide +kernel)]; kernel_rfl) | (rw [if_neg (by decide +kernel)]; exact ⟨rfl, rfl⟩))
    (fun os started H enc _ => lifted os started H enc)
/-- the given statement -/
theorem proved : Rows.FnNextPacketSaid := over
end Go.Proofs.Ytehokkijfgiggaa.fnNextPacket
