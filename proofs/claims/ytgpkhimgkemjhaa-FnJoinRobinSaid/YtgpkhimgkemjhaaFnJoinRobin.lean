/-
  The law FnJoinRobin returns true at every argument: a packet that joins stands behind those of its peer. Conditions: none.
-/
import Derived.Test.YtgpkhimgkemjhaaLift
import Derived.Test.YtgpkhimgkemjhaaRDr
import Derived.Test.YtgpkhimgkemjhaaC1c
import Derived.Test.YtgpkhimgkemjhaaR3
namespace Go.Proofs.Ytgpkhimgkemjhaa.fnJoinRobin
open Go.ChangeShapes Go.WideShapes Go.ChangeAt Go.RowKit

structure JB (w : World) (x : Int) (b1 b2 : Nat) (p : Pkt) (A2 : Option Addr) (n2 c2 : Nat) (gs : List Flw) (A5 : Option Addr) (n5 : Nat) (ps : List Pkt) (A6 : Option Addr) (w' : World) : Prop where
  p1 : Blk w' (b1 + 1) 28 #[.int .i64 p.peer, .int .i64 p.lane, .int .i64 p.size, .int .i64 p.id]
  x2 : Blk w' b2 25 #[.int .i64 x, (.slice A2 n2 c2)]
  r : FR w' A2 n2 gs
  q : PR w' A5 n5 ps
  t : PR w' A6 (n5 + 1) (ps ++ [p])
  b : Below w.heap.size w w'
section
variable {w w1 w2 : World} {x : Int} {b1 b2 : Nat} {p : Pkt} {A2 : Option Addr} {n2 c2 : Nat} {gs : List Flw} {A5 : Option Addr} {n5 : Nat} {ps : List Pkt} {A6 : Option Addr}
theorem jb_below (h : JB w x b1 b2 p A2 n2 c2 gs A5 n5 ps A6 w1) (hb : Below w1.heap.size w1 w2) : JB w x b1 b2 p A2 n2 c2 gs A5 n5 ps A6 w2 :=
  ⟨blk_below h.p1 hb (blk_lt h.p1), blk_below h.x2 hb (blk_lt h.x2), fr_belowF h.r hb, pr_below h.q hb, pr_below h.t hb, below_seq h.b hb⟩
theorem jb_drew (h : JB w x b1 b2 p A2 n2 c2 gs A5 n5 ps A6 w1) : JB w x b1 b2 p A2 n2 c2 gs A5 n5 ps A6 w1.drew :=
  ⟨h.p1, h.x2, fr_drewF h.r, h.q, h.t, h.b.drew⟩
theorem jb_cells {b off : Nat} (h : JB w x b1 b2 p A2 n2 c2 gs A5 n5 ps (some ⟨b, off, none⟩) w1) : (w1.cell? ⟨b1 + 1, 0, none⟩ = some (.int .i64 p.peer) ∧ w1.cell? ⟨b1 + 1, 1, none⟩ = some (.int .i64 p.lane) ∧ w1.cell? ⟨b1 + 1, 2, none⟩ = some (.int .i64 p.size) ∧ w1.cell? ⟨b1 + 1, 3, none⟩ = some (.int .i64 p.id)) ∧
    (w1.cell? ⟨b2, 0, none⟩ = some (.int .i64 x) ∧ w1.cell? ⟨b2, 1, none⟩ = some (.slice A2 n2 c2)) ∧
    (w1.cell? ⟨b, off + n5 * 4, none⟩ = some (.int .i64 p.peer) ∧ w1.cell? ⟨b, off + n5 * 4 + 1, none⟩ = some (.int .i64 p.lane) ∧ w1.cell? ⟨b, off + n5 * 4 + 2, none⟩ = some (.int .i64 p.size) ∧ w1.cell? ⟨b, off + n5 * 4 + 3, none⟩ = some (.int .i64 p.id)) ∧
    JB w x b1 b2 p A2 n2 c2 gs A5 n5 ps (some ⟨b, off, none⟩) w1 := by
  obtain ⟨b', off', p', e, -, hp, hc⟩ := pr_at (k := n5) h.t (by omega)
  injection e with e
  injection e with e1 e2
  subst e1
  subst e2
  have hl := h.q.1
  obtain rfl : p = p' := by
    rw [← hl, List.getElem?_concat_length] at hp; injection hp
  exact ⟨⟨blk_cell h.p1 0, blk_cell h.p1 1, blk_cell h.p1 2, blk_cell h.p1 3⟩, ⟨blk_cell h.x2 0, blk_cell h.x2 1⟩, hc, h⟩
end
set_option maxHeartbeats 4000000 in
theorem walk (A : Option Addr) (n c : Nat) (w : World) (h : Bytes w A n c) :
    Calls Try.prog 7 #[.slice A n c] w fun e w' => e = .returned (.bool true) ∧ Below w.heap.size w w' := by
  have HB := Lib.hid h
  clear h
  by_cases hbig : ¬ n ≤ 1048576
  · go_enter Try.func7, Try.ntmps7
    go_wp2
    go_ret
    exact ⟨rfl, Below.refl _ _⟩
  have hbig' : n ≤ 1048576 := by omega
  clear hbig
  go_enter Try.func7, Try.ntmps7
  go_wp2_with fail
  refine (drawJoinRobin_any A n c _ HB.out).mono ?_
  rintro e w1 ⟨x1, A1, n1, c1, fs, p, rfl, -, hf, hb⟩
  obtain ⟨hc1, hf1⟩ := bcell hb
  have B1 := Lib.hid (show Below w.heap.size w w1 from (by first | exact below_seq (Below.refl w.heap.size w) hb | exact below_seq1 (Below.refl w.heap.size w) hb | exact below_seq2 (Below.refl w.heap.size w) hb | exact below_seq3 (Below.refl w.heap.size w) hb | exact below_seq4 (Below.refl w.heap.size w) hb))
  have R1 := Lib.hid hb
  have hz1 := hb.size
  try simp at hz1
  clear hb
  have H := Lib.hid (frx_fr hf)
  clear hf
  by_cases hk : joinOk x1 fs p
  · have HK := Lib.hid hk
    have HV := Lib.hid (rv_join hk)
    obtain ⟨gs, hgs⟩ : ∃ gs, gs = joinL fs p := ⟨_, rfl⟩
    rw [← hgs] at HV
    have HG := Lib.hid hgs
    obtain ⟨ps, hps⟩ : ∃ ps, ps = wOf fs p.peer := ⟨_, rfl⟩
    have HPs := Lib.hid hps
    have hl64 : ps.length < 64 := by rw [hps]; exact hk.2.2
    have HWj : Hid (wOf gs p.peer = ps ++ [p]) := Lib.hid (by rw [hgs, hps, w_join hk.1.apart]; simp)
    have hp' := hk.2.1
    simp only [vldB, decide_eq_true_eq] at hp'
    have LV : Hid (LvOk x1 fs p.peer) := Lib.hid ⟨hk.1, by omega, by omega⟩
    have LG : Hid (LvOk x1 gs p.peer) := Lib.hid ⟨HV.out, by omega, by omega⟩
    clear hk hgs hps hp'
    have P2 := Lib.hid (show Blk ((w1.alloc (.cells #[.int .i64 x1, (.slice A1 n1 c1)] 25)).alloc (.cells #[.int .i64 p.peer, .int .i64 p.lane, .int .i64 p.size, .int .i64 p.id] 28)) (w1.heap.size + 1) 28 #[.int .i64 p.peer, .int .i64 p.lane, .int .i64 p.size, .int .i64 p.id] from blk_new2 _ _ _ _)
    go_wp2_with fail
    refine (jnI_yes x1 A1 n1 c1 fs p _ (by first | with_reducible exact H.out | with_reducible exact fr_allocF H.out _ | with_reducible exact fr_allocF (fr_allocF H.out _) _ | with_reducible exact fr_allocF (fr_allocF (fr_allocF H.out _) _) _) HK.out).mono ?_
    rintro e w2 ⟨A2, n2, c2, hs2, rfl, hD2, hb⟩
    obtain ⟨hc2, hf2⟩ := bcell hb
    have B2 := Lib.hid (show Below w.heap.size w w2 from (by first | exact below_seq B1.out hb | exact below_seq1 B1.out hb | exact below_seq2 B1.out hb | exact below_seq3 B1.out hb | exact below_seq4 B1.out hb))
    have R2 := Lib.hid hb
    have hz2 := hb.size
    try simp at hz2
    clear hb
    try have y20 : w.heap.size < w2.heap.size := by omega
    try have y20a : w.heap.size + 1 < w2.heap.size := by omega
    try have y20b : w.heap.size < w2.heap.size + 1 + 1 := by omega
    try have y20c : w.heap.size + 1 < w2.heap.size + 1 + 1 := by omega
    try have y21 : w1.heap.size < w2.heap.size := by omega
    try have y21a : w1.heap.size + 1 < w2.heap.size := by omega
    try have y21b : w1.heap.size < w2.heap.size + 1 + 1 := by omega
    try have y21c : w1.heap.size + 1 < w2.heap.size + 1 + 1 := by omega
    replace P2 := Lib.hid (blk_below P2.out R2.out (blk_lt P2.out))
    have P3 := Lib.hid (blk_new w2 25 #[.int .i64 x1, (.slice A2 n2 c2)])
    rw [← HG.out] at hD2
    have X := Lib.hid (do_fr hD2 (by have := do_cap hD2; have := rv_len HV.out; omega))
    clear hD2
    replace H := Lib.hid (show FR w2 _ _ _ from (by first | with_reducible exact fr_belowF H.out R2.out | with_reducible exact fr_belowF (fr_allocF H.out _) R2.out | with_reducible exact fr_belowF (fr_allocF (fr_allocF H.out _) _) R2.out | with_reducible exact fr_belowF (fr_allocF (fr_allocF (fr_allocF H.out _) _) _) R2.out))
    go_wp2_with fail
    refine (jnS_yes x1 A1 n1 c1 fs p _ (by first | with_reducible exact H.out | with_reducible exact fr_allocF H.out _ | with_reducible exact fr_allocF (fr_allocF H.out _) _ | with_reducible exact fr_allocF (fr_allocF (fr_allocF H.out _) _) _) HK.out).mono ?_
    rintro e w3 ⟨A3, n3, c3, hs3, rfl, hD3, hb⟩
    obtain ⟨hc3, hf3⟩ := bcell hb
    have B3 := Lib.hid (show Below w.heap.size w w3 from (by first | exact below_seq B2.out hb | exact below_seq1 B2.out hb | exact below_seq2 B2.out hb | exact below_seq3 B2.out hb | exact below_seq4 B2.out hb))
    have R3 := Lib.hid hb
    have hz3 := hb.size
    try simp at hz3
    clear hb
    try have y30 : w.heap.size < w3.heap.size := by omega
    try have y30a : w.heap.size + 1 < w3.heap.size := by omega
    try have y30b : w.heap.size < w3.heap.size + 1 + 1 := by omega
    try have y30c : w.heap.size + 1 < w3.heap.size + 1 + 1 := by omega
    try have y31 : w1.heap.size < w3.heap.size := by omega
    try have y31a : w1.heap.size + 1 < w3.heap.size := by omega
    try have y31b : w1.heap.size < w3.heap.size + 1 + 1 := by omega
    try have y31c : w1.heap.size + 1 < w3.heap.size + 1 + 1 := by omega
    try have y32 : w2.heap.size < w3.heap.size := by omega
    try have y32a : w2.heap.size + 1 < w3.heap.size := by omega
    try have y32b : w2.heap.size < w3.heap.size + 1 + 1 := by omega
    try have y32c : w2.heap.size + 1 < w3.heap.size + 1 + 1 := by omega
    replace P2 := Lib.hid (blk_below (blk_alloc P2.out _) R3.out (blk_lt (blk_alloc P2.out _)))
    replace P3 := Lib.hid (blk_below P3.out R3.out (blk_lt P3.out))
    rw [← HG.out] at hD3
    have Y := Lib.hid (do_fr hD3 (by have := do_cap hD3; have := rv_len HV.out; omega))
    clear hD3
    replace H := Lib.hid (show FR w3 _ _ _ from (by first | with_reducible exact fr_belowF H.out R3.out | with_reducible exact fr_belowF (fr_allocF H.out _) R3.out | with_reducible exact fr_belowF (fr_allocF (fr_allocF H.out _) _) R3.out | with_reducible exact fr_belowF (fr_allocF (fr_allocF (fr_allocF H.out _) _) _) R3.out))
    replace X := Lib.hid (show FR w3 _ _ _ from (by first | with_reducible exact fr_belowF X.out R3.out | with_reducible exact fr_belowF (fr_allocF X.out _) R3.out | with_reducible exact fr_belowF (fr_allocF (fr_allocF X.out _) _) R3.out | with_reducible exact fr_belowF (fr_allocF (fr_allocF (fr_allocF X.out _) _) _) R3.out))
    go_wp2_with fail
    refine (sameRI_any x1 x1 A2 A3 n2 c2 n3 c3 gs gs _ (by first | with_reducible exact X.out | with_reducible exact fr_allocF X.out _ | with_reducible exact fr_allocF (fr_allocF X.out _) _ | with_reducible exact fr_allocF (fr_allocF (fr_allocF X.out _) _) _) (by first | with_reducible exact Y.out | with_reducible exact fr_allocF Y.out _ | with_reducible exact fr_allocF (fr_allocF Y.out _) _ | with_reducible exact fr_allocF (fr_allocF (fr_allocF Y.out _) _) _)).mono ?_
    rintro e w4 ⟨rfl, hb⟩
    obtain ⟨hc4, hf4⟩ := bcell hb
    have B4 := Lib.hid (show Below w.heap.size w w4 from (by first | exact below_seq B3.out hb | exact below_seq1 B3.out hb | exact below_seq2 B3.out hb | exact below_seq3 B3.out hb | exact below_seq4 B3.out hb))
    have R4 := Lib.hid hb
    have hz4 := hb.size
    try simp at hz4
    clear hb
    try have y40 : w.heap.size < w4.heap.size := by omega
    try have y40a : w.heap.size + 1 < w4.heap.size := by omega
    try have y40b : w.heap.size < w4.heap.size + 1 + 1 := by omega
    try have y40c : w.heap.size + 1 < w4.heap.size + 1 + 1 := by omega
    try have y41 : w1.heap.size < w4.heap.size := by omega
    try have y41a : w1.heap.size + 1 < w4.heap.size := by omega
    try have y41b : w1.heap.size < w4.heap.size + 1 + 1 := by omega
    try have y41c : w1.heap.size + 1 < w4.heap.size + 1 + 1 := by omega
    try have y42 : w2.heap.size < w4.heap.size := by omega
    try have y42a : w2.heap.size + 1 < w4.heap.size := by omega
    try have y42b : w2.heap.size < w4.heap.size + 1 + 1 := by omega
    try have y42c : w2.heap.size + 1 < w4.heap.size + 1 + 1 := by omega
    try have y43 : w3.heap.size < w4.heap.size := by omega
    try have y43a : w3.heap.size + 1 < w4.heap.size := by omega
    try have y43b : w3.heap.size < w4.heap.size + 1 + 1 := by omega
    try have y43c : w3.heap.size + 1 < w4.heap.size + 1 + 1 := by omega
    rw [rs_refl]
    replace P2 := Lib.hid (blk_below (blk_alloc P2.out _) R4.out (blk_lt (blk_alloc P2.out _)))
    replace P3 := Lib.hid (blk_below (blk_alloc P3.out _) R4.out (blk_lt (blk_alloc P3.out _)))
    replace H := Lib.hid (show FR w4 _ _ _ from (by first | with_reducible exact fr_belowF H.out R4.out | with_reducible exact fr_belowF (fr_allocF H.out _) R4.out | with_reducible exact fr_belowF (fr_allocF (fr_allocF H.out _) _) R4.out | with_reducible exact fr_belowF (fr_allocF (fr_allocF (fr_allocF H.out _) _) _) R4.out))
    replace X := Lib.hid (show FR w4 _ _ _ from (by first | with_reducible exact fr_belowF X.out R4.out | with_reducible exact fr_belowF (fr_allocF X.out _) R4.out | with_reducible exact fr_belowF (fr_allocF (fr_allocF X.out _) _) R4.out | with_reducible exact fr_belowF (fr_allocF (fr_allocF (fr_allocF X.out _) _) _) R4.out))
    clear Y
    go_wp2_with fail
    refine (woI_yes x1 A1 n1 c1 fs p.peer _ (by first | with_reducible exact H.out | with_reducible exact fr_allocF H.out _ | with_reducible exact fr_allocF (fr_allocF H.out _) _ | with_reducible exact fr_allocF (fr_allocF (fr_allocF H.out _) _) _) LV.out).mono ?_
    rintro e w5 ⟨A5, n5, c5, rfl, hn5, ho5, hb⟩
    obtain ⟨hc5, hf5⟩ := bcell hb
    have B5 := Lib.hid (show Below w.heap.size w w5 from (by first | exact below_seq B4.out hb | exact below_seq1 B4.out hb | exact below_seq2 B4.out hb | exact below_seq3 B4.out hb | exact below_seq4 B4.out hb))
    have R5 := Lib.hid hb
    have hz5 := hb.size
    try simp at hz5
    clear hb
    try have y50 : w.heap.size < w5.heap.size := by omega
    try have y50a : w.heap.size + 1 < w5.heap.size := by omega
    try have y50b : w.heap.size < w5.heap.size + 1 + 1 := by omega
    try have y50c : w.heap.size + 1 < w5.heap.size + 1 + 1 := by omega
    try have y51 : w1.heap.size < w5.heap.size := by omega
    try have y51a : w1.heap.size + 1 < w5.heap.size := by omega
    try have y51b : w1.heap.size < w5.heap.size + 1 + 1 := by omega
    try have y51c : w1.heap.size + 1 < w5.heap.size + 1 + 1 := by omega
    try have y52 : w2.heap.size < w5.heap.size := by omega
    try have y52a : w2.heap.size + 1 < w5.heap.size := by omega
    try have y52b : w2.heap.size < w5.heap.size + 1 + 1 := by omega
    try have y52c : w2.heap.size + 1 < w5.heap.size + 1 + 1 := by omega
    try have y53 : w3.heap.size < w5.heap.size := by omega
    try have y53a : w3.heap.size + 1 < w5.heap.size := by omega
    try have y53b : w3.heap.size < w5.heap.size + 1 + 1 := by omega
    try have y53c : w3.heap.size + 1 < w5.heap.size + 1 + 1 := by omega
    try have y54 : w4.heap.size < w5.heap.size := by omega
    try have y54a : w4.heap.size + 1 < w5.heap.size := by omega
    try have y54b : w4.heap.size < w5.heap.size + 1 + 1 := by omega
    try have y54c : w4.heap.size + 1 < w5.heap.size + 1 + 1 := by omega
    rw [← HPs.out] at hn5 ho5
    have Q := Lib.hid (pr_own ho5)
    have l5 : n5 < 64 := by omega
    replace P2 := Lib.hid (blk_below P2.out R5.out (blk_lt P2.out))
    replace P3 := Lib.hid (blk_below P3.out R5.out (blk_lt P3.out))
    have HN5 := Lib.hid hn5
    clear ho5 hn5
    replace X := Lib.hid (show FR w5 _ _ _ from (by first | with_reducible exact fr_belowF X.out R5.out | with_reducible exact fr_belowF (fr_allocF X.out _) R5.out | with_reducible exact fr_belowF (fr_allocF (fr_allocF X.out _) _) R5.out | with_reducible exact fr_belowF (fr_allocF (fr_allocF (fr_allocF X.out _) _) _) R5.out))
    go_wp2_with fail
    refine (woI_yes x1 A2 n2 c2 gs p.peer _ (by first | with_reducible exact X.out | with_reducible exact fr_allocF X.out _ | with_reducible exact fr_allocF (fr_allocF X.out _) _ | with_reducible exact fr_allocF (fr_allocF (fr_allocF X.out _) _) _) LG.out).mono ?_
    rintro e w6 ⟨A6, n6, c6, rfl, hn6, ho6, hb⟩
    obtain ⟨hc6, hf6⟩ := bcell hb
    have B6 := Lib.hid (show Below w.heap.size w w6 from (by first | exact below_seq B5.out hb | exact below_seq1 B5.out hb | exact below_seq2 B5.out hb | exact below_seq3 B5.out hb | exact below_seq4 B5.out hb))
    have R6 := Lib.hid hb
    have hz6 := hb.size
    try simp at hz6
    clear hb
    try have y60 : w.heap.size < w6.heap.size := by omega
    try have y60a : w.heap.size + 1 < w6.heap.size := by omega
    try have y60b : w.heap.size < w6.heap.size + 1 + 1 := by omega
    try have y60c : w.heap.size + 1 < w6.heap.size + 1 + 1 := by omega
    try have y61 : w1.heap.size < w6.heap.size := by omega
    try have y61a : w1.heap.size + 1 < w6.heap.size := by omega
    try have y61b : w1.heap.size < w6.heap.size + 1 + 1 := by omega
    try have y61c : w1.heap.size + 1 < w6.heap.size + 1 + 1 := by omega
    try have y62 : w2.heap.size < w6.heap.size := by omega
    try have y62a : w2.heap.size + 1 < w6.heap.size := by omega
    try have y62b : w2.heap.size < w6.heap.size + 1 + 1 := by omega
    try have y62c : w2.heap.size + 1 < w6.heap.size + 1 + 1 := by omega
    try have y63 : w3.heap.size < w6.heap.size := by omega
    try have y63a : w3.heap.size + 1 < w6.heap.size := by omega
    try have y63b : w3.heap.size < w6.heap.size + 1 + 1 := by omega
    try have y63c : w3.heap.size + 1 < w6.heap.size + 1 + 1 := by omega
    try have y64 : w4.heap.size < w6.heap.size := by omega
    try have y64a : w4.heap.size + 1 < w6.heap.size := by omega
    try have y64b : w4.heap.size < w6.heap.size + 1 + 1 := by omega
    try have y64c : w4.heap.size + 1 < w6.heap.size + 1 + 1 := by omega
    try have y65 : w5.heap.size < w6.heap.size := by omega
    try have y65a : w5.heap.size + 1 < w6.heap.size := by omega
    try have y65b : w5.heap.size < w6.heap.size + 1 + 1 := by omega
    try have y65c : w5.heap.size + 1 < w6.heap.size + 1 + 1 := by omega
    rw [HWj.out] at hn6 ho6
    obtain rfl : n6 = n5 + 1 := by have := HN5.out; simp at hn6; omega
    have T := Lib.hid (pr_own ho6)
    have hc6 : n5 + 1 ≤ c6 := by
      obtain ⟨A', c', hv, h1, -, -⟩ := own_form ho6
      injection hv with a1 a2 a3
      omega
    replace P2 := Lib.hid (blk_below P2.out R6.out (blk_lt P2.out))
    replace P3 := Lib.hid (blk_below P3.out R6.out (blk_lt P3.out))
    clear ho6 hn6
    replace X := Lib.hid (show FR w6 _ _ _ from (by first | with_reducible exact fr_belowF X.out R6.out | with_reducible exact fr_belowF (fr_allocF X.out _) R6.out | with_reducible exact fr_belowF (fr_allocF (fr_allocF X.out _) _) R6.out | with_reducible exact fr_belowF (fr_allocF (fr_allocF (fr_allocF X.out _) _) _) R6.out))
    replace Q := Lib.hid (show PR w6 _ _ _ from (by first | with_reducible exact pr_below Q.out R6.out | with_reducible exact pr_below (pr_alloc Q.out _) R6.out | with_reducible exact pr_below (pr_alloc (pr_alloc Q.out _) _) R6.out | with_reducible exact pr_below (pr_alloc (pr_alloc (pr_alloc Q.out _) _) _) R6.out))
    obtain ⟨bb, oo, p', rfl, hbb, -, -⟩ := pr_at (k := n5) T.out (by omega)
    have HS := Lib.hid (show JB w x1 w1.heap.size w2.heap.size p A2 n2 c2 gs A5 n5 ps (some ⟨bb, oo, none⟩) w6 from ⟨P2.out, P3.out, X.out, Q.out, T.out, B6.out⟩)
    have HT : Hid (∀ W, PR W (some ⟨bb, oo, none⟩) (n5 + 1) (ps ++ [p]) → PR W (some ⟨bb, oo, none⟩) n5 ps) := Lib.hid (fun W h => by
      have h3 := pr_take h (k := n5) (by omega)
      have h4 := HN5.out
      rwa [List.take_append_of_le_length (by omega), List.take_of_length_le (by omega)] at h3)
    have z1 : IntKind.i64.wrap ((n5 : Int) + 1) = (n5 : Int) + 1 := IntWalk.i64_in _ (by omega)
    have z2 : (n5 : Int) < ((n5 + 1 : Nat) : Int) := by omega
    have z3 : (n5 : Int) ≤ (c6 : Int) := by omega
    have z4 : (0 : Int) ≤ (n5 : Int) := by omega
    have z5 : (n5 : Int) < (n5 : Int) + 1 := by omega
    have z6 : (n5 : Int) ≤ (n5 : Int) + 1 := by omega
    clear P2 P3 Q X T hc6 hbb H
    have hS := jb_cells (jb_drew HS.out)
    go_wp2_with fail
    go_region_held3 (fun w' => (w'.cell? ⟨w1.heap.size + 1, 0, none⟩ = some (.int .i64 p.peer) ∧ w'.cell? ⟨w1.heap.size + 1, 1, none⟩ = some (.int .i64 p.lane) ∧ w'.cell? ⟨w1.heap.size + 1, 2, none⟩ = some (.int .i64 p.size) ∧ w'.cell? ⟨w1.heap.size + 1, 3, none⟩ = some (.int .i64 p.id)) ∧
    (w'.cell? ⟨w2.heap.size, 0, none⟩ = some (.int .i64 x1) ∧ w'.cell? ⟨w2.heap.size, 1, none⟩ = some (.slice A2 n2 c2)) ∧
    (w'.cell? ⟨bb, oo + n5 * 4, none⟩ = some (.int .i64 p.peer) ∧ w'.cell? ⟨bb, oo + n5 * 4 + 1, none⟩ = some (.int .i64 p.lane) ∧ w'.cell? ⟨bb, oo + n5 * 4 + 2, none⟩ = some (.int .i64 p.size) ∧ w'.cell? ⟨bb, oo + n5 * 4 + 3, none⟩ = some (.int .i64 p.id)) ∧
    JB w x1 w1.heap.size w2.heap.size p A2 n2 c2 gs A5 n5 ps (some ⟨bb, oo, none⟩) w')
      (first
        | (with_reducible assumption)
        | fail)
      (first
        | (go_at_call 21
           refine (rvI_any x1 A2 n2 c2 gs _ (jb_drew HS.out).r).mono ?_
           rintro e w7 ⟨rfl, hb7⟩
           rw [rv_yes HV.out]
           have HS7 := Lib.hid (jb_below (jb_drew HS.out) hb7)
           have hS7 := jb_cells HS7.out
           clear hb7)
        | (go_at_call 20
           refine (sameI_any (some ⟨bb, oo, none⟩) A5 n5 c6 n5 c5 ps ps _ (HT.out _ HS7.out.t) HS7.out.q (by omega) (by omega)).mono ?_
           rintro e w8 ⟨rfl, hb8⟩
           rw [← same_yes (by rfl)]
           have HS8 := Lib.hid (jb_below HS7.out hb8)
           have hS8 := jb_cells HS8.out
           clear hb8))
    all_goals
      go_wp2
      go_ret
      exact ⟨rfl, HS8.out.b⟩
  · have HK := Lib.hid hk
    clear hk
    go_wp2_with fail
    refine (jnI_no x1 A1 n1 c1 fs p _ (by first | with_reducible exact H.out | with_reducible exact fr_allocF H.out _ | with_reducible exact fr_allocF (fr_allocF H.out _) _ | with_reducible exact fr_allocF (fr_allocF (fr_allocF H.out _) _) _) HK.out).mono ?_
    rintro e w2 ⟨rfl, hb⟩
    obtain ⟨hc2, hf2⟩ := bcell hb
    have B2 := Lib.hid (show Below w.heap.size w w2 from (by first | exact below_seq B1.out hb | exact below_seq1 B1.out hb | exact below_seq2 B1.out hb | exact below_seq3 B1.out hb | exact below_seq4 B1.out hb))
    have R2 := Lib.hid hb
    have hz2 := hb.size
    try simp at hz2
    clear hb
    try have y20 : w.heap.size < w2.heap.size := by omega
    try have y20a : w.heap.size + 1 < w2.heap.size := by omega
    try have y20b : w.heap.size < w2.heap.size + 1 + 1 := by omega
    try have y20c : w.heap.size + 1 < w2.heap.size + 1 + 1 := by omega
    try have y21 : w1.heap.size < w2.heap.size := by omega
    try have y21a : w1.heap.size + 1 < w2.heap.size := by omega
    try have y21b : w1.heap.size < w2.heap.size + 1 + 1 := by omega
    try have y21c : w1.heap.size + 1 < w2.heap.size + 1 + 1 := by omega
    replace H := Lib.hid (show FR w2 _ _ _ from (by first | with_reducible exact fr_belowF H.out R2.out | with_reducible exact fr_belowF (fr_allocF H.out _) R2.out | with_reducible exact fr_belowF (fr_allocF (fr_allocF H.out _) _) R2.out | with_reducible exact fr_belowF (fr_allocF (fr_allocF (fr_allocF H.out _) _) _) R2.out))
    go_wp2_with fail
    refine (jnS_no x1 A1 n1 c1 fs p _ (by first | with_reducible exact H.out | with_reducible exact fr_allocF H.out _ | with_reducible exact fr_allocF (fr_allocF H.out _) _ | with_reducible exact fr_allocF (fr_allocF (fr_allocF H.out _) _) _) HK.out).mono ?_
    rintro e w3 ⟨rfl, hb⟩
    obtain ⟨hc3, hf3⟩ := bcell hb
    have B3 := Lib.hid (show Below w.heap.size w w3 from (by first | exact below_seq B2.out hb | exact below_seq1 B2.out hb | exact below_seq2 B2.out hb | exact below_seq3 B2.out hb | exact below_seq4 B2.out hb))
    have R3 := Lib.hid hb
    have hz3 := hb.size
    try simp at hz3
    clear hb
    try have y30 : w.heap.size < w3.heap.size := by omega
    try have y30a : w.heap.size + 1 < w3.heap.size := by omega
    try have y30b : w.heap.size < w3.heap.size + 1 + 1 := by omega
    try have y30c : w.heap.size + 1 < w3.heap.size + 1 + 1 := by omega
    try have y31 : w1.heap.size < w3.heap.size := by omega
    try have y31a : w1.heap.size + 1 < w3.heap.size := by omega
    try have y31b : w1.heap.size < w3.heap.size + 1 + 1 := by omega
    try have y31c : w1.heap.size + 1 < w3.heap.size + 1 + 1 := by omega
    try have y32 : w2.heap.size < w3.heap.size := by omega
    try have y32a : w2.heap.size + 1 < w3.heap.size := by omega
    try have y32b : w2.heap.size < w3.heap.size + 1 + 1 := by omega
    try have y32c : w2.heap.size + 1 < w3.heap.size + 1 + 1 := by omega
    go_wp2_with fail
    refine (sameRI_any 0 0 none none 0 0 0 0 [] [] _ (fr_nilF _ _) (fr_nilF _ _)).mono ?_
    rintro e w4 ⟨rfl, hb⟩
    obtain ⟨hc4, hf4⟩ := bcell hb
    have B4 := Lib.hid (show Below w.heap.size w w4 from (by first | exact below_seq B3.out hb | exact below_seq1 B3.out hb | exact below_seq2 B3.out hb | exact below_seq3 B3.out hb | exact below_seq4 B3.out hb))
    have R4 := Lib.hid hb
    have hz4 := hb.size
    try simp at hz4
    clear hb
    try have y40 : w.heap.size < w4.heap.size := by omega
    try have y40a : w.heap.size + 1 < w4.heap.size := by omega
    try have y40b : w.heap.size < w4.heap.size + 1 + 1 := by omega
    try have y40c : w.heap.size + 1 < w4.heap.size + 1 + 1 := by omega
    try have y41 : w1.heap.size < w4.heap.size := by omega
    try have y41a : w1.heap.size + 1 < w4.heap.size := by omega
    try have y41b : w1.heap.size < w4.heap.size + 1 + 1 := by omega
    try have y41c : w1.heap.size + 1 < w4.heap.size + 1 + 1 := by omega
    try have y42 : w2.heap.size < w4.heap.size := by omega
    try have y42a : w2.heap.size + 1 < w4.heap.size := by omega
    try have y42b : w2.heap.size < w4.heap.size + 1 + 1 := by omega
    try have y42c : w2.heap.size + 1 < w4.heap.size + 1 + 1 := by omega
    try have y43 : w3.heap.size < w4.heap.size := by omega
    try have y43a : w3.heap.size + 1 < w4.heap.size := by omega
    try have y43b : w3.heap.size < w4.heap.size + 1 + 1 := by omega
    try have y43c : w3.heap.size + 1 < w4.heap.size + 1 + 1 := by omega
    rw [rs_refl]
    go_wp2_with fail
    refine (sameRI_any 0 0 none none 0 0 0 0 [] [] _ (fr_nilF _ _) (fr_nilF _ _)).mono ?_
    rintro e w5 ⟨rfl, hb⟩
    obtain ⟨hc5, hf5⟩ := bcell hb
    have B5 := Lib.hid (show Below w.heap.size w w5 from (by first | exact below_seq B4.out hb | exact below_seq1 B4.out hb | exact below_seq2 B4.out hb | exact below_seq3 B4.out hb | exact below_seq4 B4.out hb))
    have R5 := Lib.hid hb
    have hz5 := hb.size
    try simp at hz5
    clear hb
    try have y50 : w.heap.size < w5.heap.size := by omega
    try have y50a : w.heap.size + 1 < w5.heap.size := by omega
    try have y50b : w.heap.size < w5.heap.size + 1 + 1 := by omega
    try have y50c : w.heap.size + 1 < w5.heap.size + 1 + 1 := by omega
    try have y51 : w1.heap.size < w5.heap.size := by omega
    try have y51a : w1.heap.size + 1 < w5.heap.size := by omega
    try have y51b : w1.heap.size < w5.heap.size + 1 + 1 := by omega
    try have y51c : w1.heap.size + 1 < w5.heap.size + 1 + 1 := by omega
    try have y52 : w2.heap.size < w5.heap.size := by omega
    try have y52a : w2.heap.size + 1 < w5.heap.size := by omega
    try have y52b : w2.heap.size < w5.heap.size + 1 + 1 := by omega
    try have y52c : w2.heap.size + 1 < w5.heap.size + 1 + 1 := by omega
    try have y53 : w3.heap.size < w5.heap.size := by omega
    try have y53a : w3.heap.size + 1 < w5.heap.size := by omega
    try have y53b : w3.heap.size < w5.heap.size + 1 + 1 := by omega
    try have y53c : w3.heap.size + 1 < w5.heap.size + 1 + 1 := by omega
    try have y54 : w4.heap.size < w5.heap.size := by omega
    try have y54a : w4.heap.size + 1 < w5.heap.size := by omega
    try have y54b : w4.heap.size < w5.heap.size + 1 + 1 := by omega
    try have y54c : w4.heap.size + 1 < w5.heap.size + 1 + 1 := by omega
    rw [rs_refl]
    go_wp2
    all_goals
      go_ret
      refine ⟨rfl, ?_⟩
      repeat refine below_alloc ?_ _
      exact B5.out
theorem own : ownKnob Try.prog.godebug = none := by kernel_rfl
theorem laidOut : laidOutB Try.prog = true := by kernel_rfl
set_option maxRecDepth 100000 in
theorem lifted (os : Os) (started : os.Started) (H : Type) (enc : TypeId × Value → H) :
    ReturnsInHanded {} Try.checked os 7 .any (Rows.fnJoinRobinSpec.pre6 enc Try.prog Try.f7 Rows.fnJoinRobinRow.domain false) (Rows.fnJoinRobinSpec.post enc Try.prog Try.f7 false true false false) := by
  refine returnsInHanded_of_change (C := Try.checked) own started (by kernel_rfl) Try.func7
    (ChangeSpec.witness6 (enc := enc) (C := Try.checked) false ⟨#[], #[.slice none 0 0], []⟩ 8 (by kernel_rfl) (by kernel_rfl) (by kernel_rfl) (by kernel_rfl)) ?_
  intro W base args ds gs before hval0 hW _ _
  have hval : ∀ (j : Nat) t v, Try.f7.params[j]? = some t → args[j]? = some v → Value.okWide Try.prog W .any base t v := hval0
  have hW' := hW
  obtain ⟨p, q, hA0, hV, rfl, _, _⟩ := hW
  have hA : DataW.TrodAll enc Try.prog W 0 (fun _ => true) true Try.f7.params.toList args.toList ds p := hA0
  rw [Try.params7] at hA hval
  obtain ⟨v0, vs0, d0, ds0, p0, q0, hargs, rfl, rfl, h0, r0⟩ := trodAll_cons hA
  obtain ⟨rfl, rfl, rfl⟩ := trodAll_nil r0
  obtain rfl : args = #[v0] := by cases args; simp_all
  obtain ⟨rfl, rfl⟩ := trodVars_none hV
  have lt0 : ∀ x ∈ p0, x.block < W.heap.size := by obtain ⟨m, hm⟩ := h0; exact DataW.trod_lt m _ _ _ hm
  obtain ⟨a0, n0, c0, rfl⟩ := okWide_slice Try.underlying22 (hval 0 22 v0 rfl rfl)
  have w0 : Bytes W a0 n0 c0 := bytes_open h0
  clear hA0 hval0
  refine (walk a0 n0 c0 W w0).mono fun e W' ⟨he, bel⟩ => ?_
  subst he
  exact ⟨_, rfl, _, _, _, [], _, [], hW', trodAll_mk1 (shut_bool Try.underlying4 _), (trodAll_cons_mk (Below.trod laidOut (by kernel_rfl) (of_decide_eq_true (by kernel_rfl)) h0 bel lt0) trodAll_mk0), rfl, bel.frame _, fun h => by cases h⟩
theorem over : Rows.fnJoinRobinRow.holds Try.pinned (OpenSpec.ofChange Rows.fnJoinRobinSpec) :=
  OpenClaim.holds_of_wide 7 Try.f7 rfl rfl rfl rfl rfl rfl rfl ⟨rfl, rfl, rfl, rfl, rfl⟩ rfl rfl rfl rfl rfl (by kernel_rfl) Try.func7 (by kernel_rfl)
    (of_decide_eq_true (by kernel_rfl)) (by unfold Func.isWrapper; first | (rw [if_pos (by decide +kernel)]; kernel_rfl) | (rw [if_neg (by decide +kernel)]; exact ⟨rfl, rfl⟩))
    (fun os started H enc _ => lifted os started H enc)
/-- the given statement -/
theorem proved : Rows.FnJoinRobinSaid := over
end Go.Proofs.Ytgpkhimgkemjhaa.fnJoinRobin
