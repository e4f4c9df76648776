/-
  What the exact laws do with guards: their size, copies, comparison, marks. Conditions: a guard has at most 1048576 elements.
  Conditions: each lemma says them.
-/
import Derived.Test.YtiodhdcgfdlknaaKb5Z4
import Derived.Test.YtiodhdcgfdlknaaKb2Z4
import Derived.Test.YtiodhdcgfdlknaaKhZ4
namespace Go.Proofs.Ytiodhdcgfdlknaa
open Go.RowKit
def gsz (g : Gd) : Nat := g.each.length + g.us.length + lsz g.ln + g.sc.length
set_option maxRecDepth 100000 in
set_option maxHeartbeats 2000000 in
theorem eqGuard_same (g : Gd) (h k : Gh) (w : World) (G : GR w h g) (K : GR w k g) :
    Calls Try.prog 19 #[.agg (gcs g h), .agg (gcs g k)] w fun e w' => e = .returned (.bool true) ∧ Below w.heap.size w w' := by
  have HG := Lib.hid G
  have HK := Lib.hid K
  have F := Lib.hid (fm_two w 41 41 (gcs g h) (gcs g k))
  clear G K
  obtain ⟨x0, x1, x2, x3, x4, x5, x6, x7, x8, x9, x10, x11, x12⟩ := gc_blk (fm_blk F.out 0 rfl)
  obtain ⟨y0, y1, y2, y3, y4, y5, y6, y7, y8, y9, y10, y11, y12⟩ := gc_blk (fm_blk F.out 1 rfl)
  go_enter Try.func19, Try.ntmps19
  go_wp2_with fail
  refine (eqPacket_anyB g.all g.all _).mono ?_
  rintro e w1 ⟨rfl, hb⟩
  rw [← pktB_yes rfl]
  have F1 := Lib.hid (fm_below F.out hb)
  clear hb F
  clear x0 x1 x2 x3 x4 x5 x6 x7 x8 x9 x10 x11 x12 y0 y1 y2 y3 y4 y5 y6 y7 y8 y9 y10 y11 y12
  obtain ⟨x0, x1, x2, x3, x4, x5, x6, x7, x8, x9, x10, x11, x12⟩ := gc_blk (fm_blk F1.out 0 rfl)
  obtain ⟨y0, y1, y2, y3, y4, y5, y6, y7, y8, y9, y10, y11, y12⟩ := gc_blk (fm_blk F1.out 1 rfl)
  go_wp2_with fail
  refine (eqPacketS_anyB h.E k.E h.ne h.ce k.ne k.ce g.each g.each _ (pr_below HG.out.e F1.out.below) (pr_below HK.out.e F1.out.below) (Nat.le_trans HG.out.ke (by omega)) (Nat.le_trans HK.out.ke (by omega))).mono ?_
  rintro e w2 ⟨rfl, hb⟩
  rw [← same_yes rfl]
  have F2 := Lib.hid (fm_below F1.out hb)
  clear hb F1
  clear x0 x1 x2 x3 x4 x5 x6 x7 x8 x9 x10 x11 x12 y0 y1 y2 y3 y4 y5 y6 y7 y8 y9 y10 y11 y12
  obtain ⟨x0, x1, x2, x3, x4, x5, x6, x7, x8, x9, x10, x11, x12⟩ := gc_blk (fm_blk F2.out 0 rfl)
  obtain ⟨y0, y1, y2, y3, y4, y5, y6, y7, y8, y9, y10, y11, y12⟩ := gc_blk (fm_blk F2.out 1 rfl)
  go_wp2_with fail
  refine (eqAccount_same g.lim g.ea h.U k.U h.nu h.cu k.nu k.cu g.us _ (nr_below HG.out.u F2.out.below) (nr_below HK.out.u F2.out.below) (Nat.le_trans HG.out.ku (by omega)) (Nat.le_trans HK.out.ku (by omega))).mono ?_
  rintro e w3 ⟨rfl, hb⟩
  have F3 := Lib.hid (fm_below F2.out hb)
  clear hb F2
  clear x0 x1 x2 x3 x4 x5 x6 x7 x8 x9 x10 x11 x12 y0 y1 y2 y3 y4 y5 y6 y7 y8 y9 y10 y11 y12
  obtain ⟨x0, x1, x2, x3, x4, x5, x6, x7, x8, x9, x10, x11, x12⟩ := gc_blk (fm_blk F3.out 0 rfl)
  obtain ⟨y0, y1, y2, y3, y4, y5, y6, y7, y8, y9, y10, y11, y12⟩ := gc_blk (fm_blk F3.out 1 rfl)
  go_wp2_with fail
  refine (eqLanes_same h.A k.A h.n h.c k.n k.c h.B k.B h.m h.d k.m k.d h.C k.C h.o h.f k.o k.f g.ln _ (lr_below HG.out.l F3.out.below) (lr_below HK.out.l F3.out.below)).mono ?_
  rintro e w4 ⟨rfl, hb⟩
  have F4 := Lib.hid (fm_below F3.out hb)
  clear hb F3
  clear x0 x1 x2 x3 x4 x5 x6 x7 x8 x9 x10 x11 x12 y0 y1 y2 y3 y4 y5 y6 y7 y8 y9 y10 y11 y12
  obtain ⟨x0, x1, x2, x3, x4, x5, x6, x7, x8, x9, x10, x11, x12⟩ := gc_blk (fm_blk F4.out 0 rfl)
  obtain ⟨y0, y1, y2, y3, y4, y5, y6, y7, y8, y9, y10, y11, y12⟩ := gc_blk (fm_blk F4.out 1 rfl)
  go_wp2_with fail
  refine (eqPacketS_anyS h.S k.S h.ns h.cs k.ns k.cs g.sc g.sc _ (pr_below HG.out.s F4.out.below) (pr_below HK.out.s F4.out.below) (Nat.le_trans HG.out.ks (by omega)) (Nat.le_trans HK.out.ks (by omega))).mono ?_
  rintro e w5 ⟨rfl, hb⟩
  rw [← same_yes rfl]
  have F5 := Lib.hid (fm_below F4.out hb)
  clear hb F4
  clear x0 x1 x2 x3 x4 x5 x6 x7 x8 x9 x10 x11 x12 y0 y1 y2 y3 y4 y5 y6 y7 y8 y9 y10 y11 y12
  go_wp2
  go_ret
  exact ⟨rfl, F5.out.below⟩
theorem at_cell {w : World} {lo hi : Nat} {P : World → Prop} (h : At lo hi P w) {p : Addr} (hp : p.block < lo) (u : Value) : At lo hi P (w.setCell p u) := at_chg h (chg_cell w p u) (.inr hp)
def cntG (g : Gd) : Int := 4 * (g.each.length : Int) + (g.us.length : Int) + cntL g.ln + 4 * (g.sc.length : Int)
def markG (g : Gd) (k : Int) : Gd := ⟨g.tm, g.all, markL g.each.length k, g.lim, g.ea, markI g.us.length (k + 4 * (g.each.length : Int)), markLn g.ln (k + 4 * (g.each.length : Int) + (g.us.length : Int)), markL g.sc.length (k + 4 * (g.each.length : Int) + (g.us.length : Int) + cntL g.ln)⟩
def MgPost (w : World) (lo hi : Nat) (h : Gh) (g : Gd) (i : Gi) (k0 : Int) (e : Ending) (w' : World) : Prop :=
  ∃ cur, e = .returned (.int .i64 (k0 + cntG g)) ∧ GO lo hi h (markG g k0) ⟨i.e0, i.e1, i.u0, i.u1, i.l0, i.l1, i.s0, i.s1, cur, i.iv⟩ w' ∧ Chg lo hi w w'
theorem gsz_bd {g : Gd} (h : gsz g ≤ 1048576) : g.each.length ≤ 1048576 ∧ g.us.length ≤ 1048576 ∧ lsz g.ln ≤ 1048576 ∧ g.sc.length ≤ 1048576 ∧ 0 ≤ cntL g.ln ∧ cntL g.ln ≤ 5000000 := by
  have h1 : lsz g.ln ≤ 1048576 := by unfold gsz at h; omega
  have h2 := cntL_bd h1
  unfold gsz at h
  omega
set_option maxRecDepth 100000 in
set_option maxHeartbeats 4000000 in
theorem markGuard_any (lo hi : Nat) (h : Gh) (g : Gd) (i : Gi) (k0 : Int) (w : World) (G : GO lo hi h g i w) (hhi : hi ≤ w.heap.size) (hT : gsz g ≤ 1048576) (hk : 0 ≤ k0 ∧ k0 ≤ 1000) :
    Calls Try.prog 21 #[.agg (gcs g h), .int .i64 k0] w (MgPost w lo hi h g i k0) := by
  obtain ⟨b1, b2, b3, b4, b5, b6⟩ := gsz_bd hT
  have n1 : g.each.length = h.ne := (go_gr G).e.1
  have n2 : g.us.length = h.nu := (go_gr G).u.1
  have n4 : g.sc.length = h.ns := (go_gr G).s.1
  rw [n1] at b1
  rw [n2] at b2
  rw [n4] at b4
  have NN := Lib.hid (And.intro n1 (And.intro n2 n4))
  have F := Lib.hid (fm_one w 41 (gcs g h))
  have HB := Lib.hid (below_alloc (Below.refl w.heap.size w) (.cells (gcs g h) 41))
  have G1 := Lib.hid (go_below G HB.out)
  clear G n1 n2 n4
  obtain ⟨x0, x1, x2, x3, x4, x5, x6, x7, x8, x9, x10, x11, x12⟩ := gc_blk (fm_blk F.out 0 rfl)
  go_enter Try.func21, Try.ntmps21
  go_wp2_with fail
  refine (markPacketS_anyB i.e0 h.E h.ne h.ce k0 g.each _ G1.out.e.it.1 (by omega) (by omega)).mono ?_
  rintro e w1 ⟨rfl, ho, hg⟩
  have G2 := Lib.hid (go_setE G1.out ho hg)
  have BX1 := Lib.hid (show Blk w1 w.heap.size 41 (gcs g h) from (G2.out.2.block _ (by simp) (.inr hhi)).trans (fm_blk F.out 0 rfl))
  clear ho hg
  clear x0 x1 x2 x3 x4 x5 x6 x7 x8 x9 x10 x11 x12
  obtain ⟨x0, x1, x2, x3, x4, x5, x6, x7, x8, x9, x10, x11, x12⟩ := gc_blk (BX1.out)
  go_wp2_with fail
  refine (markAccount_any g.lim g.ea i.u0 h.U h.nu h.cu (k0 + 4 * (h.ne : Int)) g.us _ G2.out.1.u.it.1 (by omega) (by omega)).mono ?_
  rintro e w2 ⟨rfl, ho, hg⟩
  have G3 := Lib.hid (go_setU G2.out.1 ho hg)
  have BX2 := Lib.hid (show Blk w2 w.heap.size 41 (gcs g h) from (G3.out.2.block _ (blk_lt BX1.out) (.inr hhi)).trans BX1.out)
  clear ho hg
  clear x0 x1 x2 x3 x4 x5 x6 x7 x8 x9 x10 x11 x12
  obtain ⟨x0, x1, x2, x3, x4, x5, x6, x7, x8, x9, x10, x11, x12⟩ := gc_blk (BX2.out)
  go_wp2_with fail
  refine (markLanes_any i.l0 i.l1 h.A h.n h.c h.B h.m h.d h.C h.o h.f i.hs i.iv g.ln (k0 + 4 * (h.ne : Int) + (h.nu : Int)) _ G3.out.1.l.it G3.out.1.l.fit b3 (by omega)).mono ?_
  rintro e w3 ⟨cur, rfl, ho, hc, -⟩
  have G4 := Lib.hid (go_setL G3.out.1 ho hc)
  have BX3 := Lib.hid (show Blk w3 w.heap.size 41 (gcs g h) from (G4.out.2.block _ (blk_lt BX2.out) (.inr hhi)).trans BX2.out)
  clear ho hc
  clear x0 x1 x2 x3 x4 x5 x6 x7 x8 x9 x10 x11 x12
  obtain ⟨x0, x1, x2, x3, x4, x5, x6, x7, x8, x9, x10, x11, x12⟩ := gc_blk (BX3.out)
  go_wp2_with fail
  refine (markPacketS_anyS i.s0 h.S h.ns h.cs (k0 + 4 * (h.ne : Int) + (h.nu : Int) + cntL g.ln) g.sc _ G4.out.1.s.it.1 (by omega) (by omega)).mono ?_
  rintro e w4 ⟨rfl, ho, hg⟩
  have G5 := Lib.hid (go_setS G4.out.1 ho hg)
  clear ho hg
  go_wp2
  go_ret
  refine ⟨cur, ret_int (by have := NN.out; unfold cntG; omega), ?_, chg_trans (chg_trans (chg_trans (chg_trans (chg_below HB.out) G2.out.2) G3.out.2) G4.out.2) G5.out.2⟩
  unfold markG
  rw [NN.out.1, NN.out.2.1, NN.out.2.2]
  exact G5.out.1
set_option maxRecDepth 100000 in
set_option maxHeartbeats 4000000 in
theorem heldGuard_any (h : Gh) (g : Gd) (k0 : Int) (w : World) (G : GR w h (markG g k0)) (hT : gsz g ≤ 1048576) (hk : 0 ≤ k0 ∧ k0 ≤ 1000) :
    Calls Try.prog 22 #[.agg (gcs g h), .int .i64 k0] w fun e w' => e = .returned (.int .i64 (k0 + cntG g)) ∧ Below w.heap.size w w' := by
  obtain ⟨b1, b2, b3, b4, b5, b6⟩ := gsz_bd hT
  have n1 : g.each.length = h.ne := by have := G.e.1; simpa [markG, markL_len] using this
  have n2 : g.us.length = h.nu := by have := G.u.1; simpa [markG, markI_len] using this
  have n4 : g.sc.length = h.ns := by have := G.s.1; simpa [markG, markL_len] using this
  unfold markG at G
  rw [n1, n2, n4] at G
  rw [n1] at b1
  rw [n2] at b2
  rw [n4] at b4
  have NN := Lib.hid (And.intro n1 (And.intro n2 n4))
  have F := Lib.hid (fm_one w 41 (gcs g h))
  have G1 := Lib.hid (gr_below G F.out.below)
  have k1 : decide (k0 + 4 * (h.ne : Int) < 0) = false := by simp; omega
  have k2 : decide (k0 + 4 * (h.ne : Int) + (h.nu : Int) < 0) = false := by simp; omega
  have k3 : decide (k0 + 4 * (h.ne : Int) + (h.nu : Int) + cntL g.ln < 0) = false := by simp; omega
  have k4 : decide (k0 + 4 * (h.ne : Int) + (h.nu : Int) + cntL g.ln + 4 * (h.ns : Int) < 0) = false := by simp; omega
  have j1 : 0 ≤ k0 + 4 * (h.ne : Int) := by omega
  have j2 : 0 ≤ k0 + 4 * (h.ne : Int) + (h.nu : Int) := by omega
  have j3 : 0 ≤ k0 + 4 * (h.ne : Int) + (h.nu : Int) + cntL g.ln := by omega
  have j4 : 0 ≤ k0 + 4 * (h.ne : Int) + (h.nu : Int) + cntL g.ln + 4 * (h.ns : Int) := by omega
  clear G n1 n2 n4
  obtain ⟨x0, x1, x2, x3, x4, x5, x6, x7, x8, x9, x10, x11, x12⟩ := gc_blk (fm_blk F.out 0 rfl)
  go_enter Try.func22, Try.ntmps22
  go_wp2_with fail
  refine (heldPacketS_anyB h.E h.ne h.ce k0 _ G1.out.e (by omega) (by omega)).mono ?_
  rintro e w1 ⟨rfl, rfl⟩
  go_wp2_with fail
  refine (heldAccount_any g.lim g.ea h.U h.nu h.cu (k0 + 4 * (h.ne : Int)) _ G1.out.u (by omega) (by omega)).mono ?_
  rintro e w2 ⟨rfl, hb⟩
  have F2 := Lib.hid (fm_below F.out hb)
  have G2 := Lib.hid (gr_below G1.out hb)
  clear hb F G1
  clear x0 x1 x2 x3 x4 x5 x6 x7 x8 x9 x10 x11 x12
  obtain ⟨x0, x1, x2, x3, x4, x5, x6, x7, x8, x9, x10, x11, x12⟩ := gc_blk (fm_blk F2.out 0 rfl)
  go_wp2_with fail
  refine (heldLanes_any h.A h.n h.c h.B h.m h.d h.C h.o h.f g.ln (k0 + 4 * (h.ne : Int) + (h.nu : Int)) _ G2.out.l b3 (by omega)).mono ?_
  rintro e w3 ⟨rfl, hb⟩
  have F3 := Lib.hid (fm_below F2.out hb)
  have G3 := Lib.hid (gr_below G2.out hb)
  clear hb F2 G2
  clear x0 x1 x2 x3 x4 x5 x6 x7 x8 x9 x10 x11 x12
  obtain ⟨x0, x1, x2, x3, x4, x5, x6, x7, x8, x9, x10, x11, x12⟩ := gc_blk (fm_blk F3.out 0 rfl)
  go_wp2_with fail
  refine (heldPacketS_anyS h.S h.ns h.cs (k0 + 4 * (h.ne : Int) + (h.nu : Int) + cntL g.ln) _ G3.out.s (by omega) (by omega)).mono ?_
  rintro e w4 ⟨rfl, rfl⟩
  go_wp2
  go_ret
  exact ⟨ret_int (by have := NN.out; unfold cntG; omega), F3.out.below⟩
end Go.Proofs.Ytiodhdcgfdlknaa
