/-
  What the exact laws do with guards: their size, copies, comparison, marks. Conditions: a guard has at most 1048576 elements.
  Conditions: each lemma says them.
-/
import Derived.Test.YtiodhdcgfdlknaaKb5Z2
import Derived.Test.YtiodhdcgfdlknaaKb2Z2
import Derived.Test.YtiodhdcgfdlknaaKhZ2
namespace Go.Proofs.Ytiodhdcgfdlknaa
open Go.RowKit
def gsz (g : Gd) : Nat := g.each.length + g.us.length + lsz g.ln + g.sc.length
theorem ga_sz {w : World} {h : Gh} {g : Gd} (G : GA w h g) : gsz g = h.ne + h.nu + lsz g.ln + h.ns := by
  have e1 := G.e.1
  have e2 := G.u.1
  have e3 := G.s.1
  unfold gsz
  omega
set_option maxRecDepth 100000 in
set_option maxHeartbeats 2000000 in
theorem szGuard_any (g : Gd) (h : Gh) (left : Int) (w : World) (G : GA w h g) (hl : 0 ≤ left ∧ left ≤ 1048576) :
    Calls Try.prog 23 #[.agg (gcs g h), .int .i64 left] w fun e w' => e = .returned (.int .i64 (if left < (gsz g : Int) then -1 else left - (gsz g : Int))) ∧ Below w.heap.size w w' := by
  have HG := Lib.hid G
  have HZ := Lib.hid (ga_sz G)
  have F := Lib.hid (fm_one w 56 (gcs g h))
  obtain ⟨R, hR⟩ : ∃ R : Int, (if left < (gsz g : Int) then -1 else left - (gsz g : Int)) = R := ⟨_, rfl⟩
  rw [hR]
  have HR := Lib.hid hR
  clear G hR
  obtain ⟨x0, x1, x2, x3, x4, x5, x6, x7, x8, x9, x10, x11, x12⟩ := gc_blk (fm_blk F.out 0 rfl)
  go_enter Try.func23, Try.ntmps23
  go_wp2_with fail
  refine (szPacketS_anyB h.E h.ne h.ce left _ HG.out.ke hl).mono ?_
  rintro e w1 ⟨rfl, rfl⟩
  by_cases h1 : left < (h.ne : Int)
  · rw [if_pos h1]
    go_wp2
    go_ret
    exact ⟨ret_int (by rw [← HR.out, if_pos (by have := HZ.out; omega)]), F.out.below⟩
  rw [if_neg h1]
  obtain ⟨l1, hl1⟩ : ∃ l1, left - (h.ne : Int) = l1 := ⟨_, rfl⟩
  rw [hl1]
  have b1 : 0 ≤ l1 ∧ l1 ≤ 1048576 := by omega
  have L1 := Lib.hid hl1
  have d1 : decide (l1 < 0) = false := decide_eq_false (by omega)
  clear h1 hl1
  go_wp2_with fail
  refine (szAccount_any g.lim g.ea h.U h.nu h.cu l1 _ HG.out.ku b1).mono ?_
  rintro e w2 ⟨rfl, hb⟩
  have F2 := Lib.hid (fm_below F.out hb)
  clear hb F d1
  clear x0 x1 x2 x3 x4 x5 x6 x7 x8 x9 x10 x11 x12
  obtain ⟨x0, x1, x2, x3, x4, x5, x6, x7, x8, x9, x10, x11, x12⟩ := gc_blk (fm_blk F2.out 0 rfl)
  by_cases h2 : l1 < (h.nu : Int)
  · rw [if_pos h2]
    go_wp2
    go_ret
    exact ⟨ret_int (by rw [← HR.out, if_pos (by have := HZ.out; have := L1.out; omega)]), F2.out.below⟩
  rw [if_neg h2]
  obtain ⟨l2, hl2⟩ : ∃ l2, l1 - (h.nu : Int) = l2 := ⟨_, rfl⟩
  rw [hl2]
  have b2 : 0 ≤ l2 ∧ l2 ≤ 1048576 := by omega
  have L2 := Lib.hid hl2
  have d2 : decide (l2 < 0) = false := decide_eq_false (by omega)
  clear h2 hl2 b1
  go_wp2_with fail
  refine (szLanes_any h.A h.n h.c h.B h.m h.d h.C h.o h.f g.ln l2 _ (la_below HG.out.l F2.out.below) b2).mono ?_
  rintro e w3 ⟨rfl, hb⟩
  have F3 := Lib.hid (fm_below F2.out hb)
  clear hb F2 d2
  clear x0 x1 x2 x3 x4 x5 x6 x7 x8 x9 x10 x11 x12
  obtain ⟨x0, x1, x2, x3, x4, x5, x6, x7, x8, x9, x10, x11, x12⟩ := gc_blk (fm_blk F3.out 0 rfl)
  by_cases h3 : l2 < (lsz g.ln : Int)
  · rw [if_pos h3]
    go_wp2
    go_ret
    exact ⟨ret_int (by rw [← HR.out, if_pos (by have := HZ.out; have := L1.out; have := L2.out; omega)]), F3.out.below⟩
  rw [if_neg h3]
  obtain ⟨l3, hl3⟩ : ∃ l3, l2 - (lsz g.ln : Int) = l3 := ⟨_, rfl⟩
  rw [hl3]
  have b3 : 0 ≤ l3 ∧ l3 ≤ 1048576 := by omega
  have L3 := Lib.hid hl3
  have d3 : decide (l3 < 0) = false := decide_eq_false (by omega)
  clear h3 hl3 b2
  go_wp2_with fail
  refine (szPacketS_anyS h.S h.ns h.cs l3 _ HG.out.ks b3).mono ?_
  rintro e w4 ⟨rfl, rfl⟩
  by_cases h4 : l3 < (h.ns : Int)
  · rw [if_pos h4]
    go_wp2
    go_ret
    exact ⟨ret_int (by rw [← HR.out, if_pos (by have := HZ.out; have := L1.out; have := L2.out; have := L3.out; omega)]), F3.out.below⟩
  rw [if_neg h4]
  obtain ⟨l4, hl4⟩ : ∃ l4, l3 - (h.ns : Int) = l4 := ⟨_, rfl⟩
  rw [hl4]
  have b4 : 0 ≤ l4 ∧ l4 ≤ 1048576 := by omega
  have L4 := Lib.hid hl4
  have d4 : decide (l4 < 0) = false := decide_eq_false (by omega)
  clear h4 hl4 b3
  go_wp2
  go_ret
  exact ⟨ret_int (by rw [← HR.out, if_neg (by have := HZ.out; have := L1.out; have := L2.out; have := L3.out; have := L4.out; omega)]; have := HZ.out; have := L1.out; have := L2.out; have := L3.out; have := L4.out; omega), F3.out.below⟩
set_option maxRecDepth 100000 in
set_option maxHeartbeats 2000000 in
theorem eqGuard_same (g : Gd) (h k : Gh) (w : World) (G : GR w h g) (K : GR w k g) :
    Calls Try.prog 19 #[.agg (gcs g h), .agg (gcs g k)] w fun e w' => e = .returned (.bool true) ∧ Below w.heap.size w w' := by
  have HG := Lib.hid G
  have HK := Lib.hid K
  have F := Lib.hid (fm_two w 41 41 (gcs g h) (gcs g k))
  clear G K
  obtain ⟨x0, x1, x2, x3, x4, x5, x6, x7, x8, x9, x10, x11, x12⟩ := gc_blk (fm_blk F.out 0 rfl)
  obtain ⟨y0, y1, y2, y3, y4, y5, y6, y7, y8, y9, y10, y11, y12⟩ := gc_blk (fm_blk F.out 1 rfl)
  go_enter Try.func19, Try.ntmps19
  go_wp2_with fail
  refine (eqPacket_anyB g.all g.all _).mono ?_
  rintro e w1 ⟨rfl, hb⟩
  rw [← pktB_yes rfl]
  have F1 := Lib.hid (fm_below F.out hb)
  clear hb F
  clear x0 x1 x2 x3 x4 x5 x6 x7 x8 x9 x10 x11 x12 y0 y1 y2 y3 y4 y5 y6 y7 y8 y9 y10 y11 y12
  obtain ⟨x0, x1, x2, x3, x4, x5, x6, x7, x8, x9, x10, x11, x12⟩ := gc_blk (fm_blk F1.out 0 rfl)
  obtain ⟨y0, y1, y2, y3, y4, y5, y6, y7, y8, y9, y10, y11, y12⟩ := gc_blk (fm_blk F1.out 1 rfl)
  go_wp2_with fail
  refine (eqPacketS_anyB h.E k.E h.ne h.ce k.ne k.ce g.each g.each _ (pr_below HG.out.e F1.out.below) (pr_below HK.out.e F1.out.below) (Nat.le_trans HG.out.ke (by omega)) (Nat.le_trans HK.out.ke (by omega))).mono ?_
  rintro e w2 ⟨rfl, hb⟩
  rw [← same_yes rfl]
  have F2 := Lib.hid (fm_below F1.out hb)
  clear hb F1
  clear x0 x1 x2 x3 x4 x5 x6 x7 x8 x9 x10 x11 x12 y0 y1 y2 y3 y4 y5 y6 y7 y8 y9 y10 y11 y12
  obtain ⟨x0, x1, x2, x3, x4, x5, x6, x7, x8, x9, x10, x11, x12⟩ := gc_blk (fm_blk F2.out 0 rfl)
  obtain ⟨y0, y1, y2, y3, y4, y5, y6, y7, y8, y9, y10, y11, y12⟩ := gc_blk (fm_blk F2.out 1 rfl)
  go_wp2_with fail
  refine (eqAccount_same g.lim g.ea h.U k.U h.nu h.cu k.nu k.cu g.us _ (nr_below HG.out.u F2.out.below) (nr_below HK.out.u F2.out.below) (Nat.le_trans HG.out.ku (by omega)) (Nat.le_trans HK.out.ku (by omega))).mono ?_
  rintro e w3 ⟨rfl, hb⟩
  have F3 := Lib.hid (fm_below F2.out hb)
  clear hb F2
  clear x0 x1 x2 x3 x4 x5 x6 x7 x8 x9 x10 x11 x12 y0 y1 y2 y3 y4 y5 y6 y7 y8 y9 y10 y11 y12
  obtain ⟨x0, x1, x2, x3, x4, x5, x6, x7, x8, x9, x10, x11, x12⟩ := gc_blk (fm_blk F3.out 0 rfl)
  obtain ⟨y0, y1, y2, y3, y4, y5, y6, y7, y8, y9, y10, y11, y12⟩ := gc_blk (fm_blk F3.out 1 rfl)
  go_wp2_with fail
  refine (eqLanes_same h.A k.A h.n h.c k.n k.c h.B k.B h.m h.d k.m k.d h.C k.C h.o h.f k.o k.f g.ln _ (lr_below HG.out.l F3.out.below) (lr_below HK.out.l F3.out.below)).mono ?_
  rintro e w4 ⟨rfl, hb⟩
  have F4 := Lib.hid (fm_below F3.out hb)
  clear hb F3
  clear x0 x1 x2 x3 x4 x5 x6 x7 x8 x9 x10 x11 x12 y0 y1 y2 y3 y4 y5 y6 y7 y8 y9 y10 y11 y12
  obtain ⟨x0, x1, x2, x3, x4, x5, x6, x7, x8, x9, x10, x11, x12⟩ := gc_blk (fm_blk F4.out 0 rfl)
  obtain ⟨y0, y1, y2, y3, y4, y5, y6, y7, y8, y9, y10, y11, y12⟩ := gc_blk (fm_blk F4.out 1 rfl)
  go_wp2_with fail
  refine (eqPacketS_anyS h.S k.S h.ns h.cs k.ns k.cs g.sc g.sc _ (pr_below HG.out.s F4.out.below) (pr_below HK.out.s F4.out.below) (Nat.le_trans HG.out.ks (by omega)) (Nat.le_trans HK.out.ks (by omega))).mono ?_
  rintro e w5 ⟨rfl, hb⟩
  rw [← same_yes rfl]
  have F5 := Lib.hid (fm_below F4.out hb)
  clear hb F4
  clear x0 x1 x2 x3 x4 x5 x6 x7 x8 x9 x10 x11 x12 y0 y1 y2 y3 y4 y5 y6 y7 y8 y9 y10 y11 y12
  go_wp2
  go_ret
  exact ⟨rfl, F5.out.below⟩
structure TG (w : World) (ga co : Array Value) (wr : World) : Prop where
  a : Blk wr w.heap.size 56 ga
  r : Blk wr (w.heap.size + 1) 41 (gcs gd0 gh0)
  o : Blk wr (w.heap.size + 2) 41 co
  b : Below w.heap.size w wr
theorem tg_below {w w1 w2 : World} {ga co : Array Value} (T : TG w ga co w1) (hb : Below w1.heap.size w1 w2) : TG w ga co w2 :=
  ⟨blk_below T.a hb (blk_lt T.a), blk_below T.r hb (blk_lt T.r), blk_below T.o hb (blk_lt T.o), below_seq T.b hb⟩
theorem tg_set {w w1 : World} {ga co : Array Value} (T : TG w ga co w1) (k : Nat) (v : Value) : TG w ga (co.setIfInBounds k v) (w1.setCell ⟨w.heap.size + 2, k, none⟩ v) :=
  ⟨blk_far T.a (by simp) _, blk_far T.r (by simp) _, blk_set T.o k v, T.b.setCell (by simp) _⟩
theorem tg_start (w : World) (ga co : Array Value) : TG w ga co (((w.alloc (.cells ga 56)).alloc (.cells (gcs gd0 gh0) 41)).alloc (.cells co 41)) := by
  have F := fm_three w 56 41 41 ga (gcs gd0 gh0) co
  exact ⟨fm_blk F 0 rfl, fm_blk F 1 rfl, fm_blk F 2 rfl, F.below⟩
def TgPost (w : World) (g : Gd) (e : Ending) (w' : World) : Prop := ∃ k i, e = .returned (.agg (gcs g k)) ∧ GO w.heap.size w'.heap.size k g i w' ∧ Below w.heap.size w w'
theorem toBkS_any (A : Option Addr) (n c : Nat) (ps : List Pkt) (w : World) (h : PR w A n ps) (hn : n ≤ 1048576) :
    Calls Try.prog 72 #[.slice A n c] w fun e w' => ∃ A2, e = .returned (.slice A2 n n) ∧ w'.ownsRow w.heap.size 32 4 (.slice A2 n n) n (pcells ps) ∧ Below w.heap.size w w' :=
  (toPacketS_anyB A n c ps w h hn).mono fun _ _ h => ⟨_, h⟩
theorem toScS_any (A : Option Addr) (n c : Nat) (ps : List Pkt) (w : World) (h : PR w A n ps) (hn : n ≤ 1048576) :
    Calls Try.prog 75 #[.slice A n c] w fun e w' => ∃ A2, e = .returned (.slice A2 n n) ∧ w'.ownsRow w.heap.size 84 4 (.slice A2 n n) n (pcells ps) ∧ Below w.heap.size w w' :=
  (toPacketS_anyS A n c ps w h hn).mono fun _ _ h => ⟨_, h⟩
theorem at_cell {w : World} {lo hi : Nat} {P : World → Prop} (h : At lo hi P w) {p : Addr} (hp : p.block < lo) (u : Value) : At lo hi P (w.setCell p u) := at_chg h (chg_cell w p u) (.inr hp)
set_option maxRecDepth 100000 in
set_option maxHeartbeats 8000000 in
theorem toGuard_any (g : Gd) (h : Gh) (w : World) (G : GA w h g) (hT : gsz g ≤ 1048576) :
    Calls Try.prog 25 #[.agg (gcs g h)] w (TgPost w g) := by
  have hz := ga_sz G
  have n1 : h.ne ≤ 1048576 := by omega
  have n2 : h.nu ≤ 1048576 := by omega
  have n3 : lsz g.ln ≤ 1048576 := by omega
  have n4 : h.ns ≤ 1048576 := by omega
  have hls := (la_lens G.l).2.2.2
  have n5 : h.n ≤ 1048576 ∧ h.m ≤ 1048576 ∧ h.o ≤ 1048576 := by omega
  have HG := Lib.hid G
  clear G hz hls
  unfold gcs
  go_enter Try.func25, Try.ntmps25
  go_wp2_with fail
  refine (toPacket_anyB g.all _).mono ?_
  rintro e w1 ⟨rfl, hb⟩
  have z1 := hb.size
  try simp at z1
  have T1 := Lib.hid (show TG w (gcs g h) (gcs ⟨g.tm, ⟨0, 0, 0, 0⟩, [], 0, 0, [], ⟨[], [], []⟩, []⟩ ⟨none, 0, 0, none, 0, 0, none, 0, 0, none, 0, 0, none, 0, 0, none, 0, 0⟩) w1 from tg_below (tg_start w _ _) hb)
  clear hb
  have y1 : w.heap.size + 2 < w1.heap.size := blk_lt T1.out.o
  have v1 : w.heap.size + 1 + 1 < w1.heap.size := y1
  obtain ⟨x0, x1, x2, x3, x4, x5, x6, x7, x8, x9, x10, x11, x12⟩ := gc_blk (T1.out.a)
  obtain ⟨l0, l1, l2, l3, l4, l5, l6, l7, l8, l9, l10, l11, l12⟩ := gc_blk (T1.out.o)
  have lf1 : World.frozen? (w1) ⟨w.heap.size + 2, 1, none⟩ = false := blk_free (T1.out.o) 1
  have lf2 : World.frozen? (w1) ⟨w.heap.size + 2, 2, none⟩ = false := blk_free (T1.out.o) 2
  have lf3 : World.frozen? (w1) ⟨w.heap.size + 2, 3, none⟩ = false := blk_free (T1.out.o) 3
  have lf4 : World.frozen? (w1) ⟨w.heap.size + 2, 4, none⟩ = false := blk_free (T1.out.o) 4
  have S1 := Lib.hid (show TG w (gcs g h) (gcs ⟨g.tm, g.all, [], 0, 0, [], ⟨[], [], []⟩, []⟩ ⟨none, 0, 0, none, 0, 0, none, 0, 0, none, 0, 0, none, 0, 0, none, 0, 0⟩) ((((w1.setCell ⟨w.heap.size + 2, 1, none⟩ (.int .i64 g.all.peer)).setCell ⟨w.heap.size + 2, 2, none⟩ (.int .i64 g.all.lane)).setCell ⟨w.heap.size + 2, 3, none⟩ (.int .i64 g.all.size)).setCell ⟨w.heap.size + 2, 4, none⟩ (.int .i64 g.all.id)) from (tg_set (tg_set (tg_set (tg_set T1.out 1 _) 2 _) 3 _) 4 _))
  obtain ⟨u0, u1, u2, u3, u4, u5, u6, u7, u8, u9, u10, u11, u12⟩ := gc_blk (S1.out.a)
  go_wp2_with fail
  refine (toBkS_any h.E h.ne h.ce g.each _ (ga_below HG.out S1.out.b).e n1).mono ?_
  rintro e w2 ⟨E2, rfl, ho, hb⟩
  have PE2 := Lib.hid (show At w1.heap.size w2.heap.size (OwnP w1.heap.size w2.heap.size 32 4 (.slice E2 h.ne h.ne) h.ne (pcells g.each)) w2 from at_own_all (own_mono ho (by simp)))
  clear ho
  clear l0 l1 l2 l3 l4 l5 l6 l7 l8 l9 l10 l11 l12
  clear lf1 lf2 lf3 lf4
  have z2 := hb.size
  try simp at z2
  have T2 := Lib.hid (show TG w (gcs g h) (gcs ⟨g.tm, g.all, [], 0, 0, [], ⟨[], [], []⟩, []⟩ ⟨none, 0, 0, none, 0, 0, none, 0, 0, none, 0, 0, none, 0, 0, none, 0, 0⟩) w2 from tg_below S1.out hb)
  clear hb
  clear x0 x1 x2 x3 x4 x5 x6 x7 x8 x9 x10 x11 x12 u0 u1 u2 u3 u4 u5 u6 u7 u8 u9 u10 u11 u12
  have y2 : w.heap.size + 2 < w2.heap.size := blk_lt T2.out.o
  have v2 : w.heap.size + 1 + 1 < w2.heap.size := y2
  obtain ⟨x0, x1, x2, x3, x4, x5, x6, x7, x8, x9, x10, x11, x12⟩ := gc_blk (T2.out.a)
  obtain ⟨l0, l1, l2, l3, l4, l5, l6, l7, l8, l9, l10, l11, l12⟩ := gc_blk (T2.out.o)
  have lf5 : World.frozen? (w2) ⟨w.heap.size + 2, 5, none⟩ = false := blk_free (T2.out.o) 5
  have S2 := Lib.hid (show TG w (gcs g h) (gcs ⟨g.tm, g.all, g.each, 0, 0, [], ⟨[], [], []⟩, []⟩ ⟨E2, h.ne, h.ne, none, 0, 0, none, 0, 0, none, 0, 0, none, 0, 0, none, 0, 0⟩) (w2.setCell ⟨w.heap.size + 2, 5, none⟩ (.slice E2 h.ne h.ne)) from (tg_set T2.out 5 _))
  obtain ⟨u0, u1, u2, u3, u4, u5, u6, u7, u8, u9, u10, u11, u12⟩ := gc_blk (S2.out.a)
  go_wp2_with fail
  have PE2s := Lib.hid (at_cell PE2.out (p := ⟨w.heap.size + 2, 5, none⟩) (by simp; omega) (.slice E2 h.ne h.ne))
  refine (toAccount_any g.lim g.ea h.U h.nu h.cu g.us _ (ga_below HG.out S2.out.b).u n2).mono ?_
  rintro e w3 ⟨U2, cu2, rfl, ho, hb⟩
  have PE3 := Lib.hid (at_below PE2s.out hb)
  have PU3 := Lib.hid (show At w2.heap.size w3.heap.size (OwnP w2.heap.size w3.heap.size 3 1 (.slice U2 h.nu cu2) h.nu (icells g.us)) w3 from at_own_all (own_mono ho (by simp)))
  clear ho PE2 PE2s
  clear l0 l1 l2 l3 l4 l5 l6 l7 l8 l9 l10 l11 l12
  clear lf5
  have z3 := hb.size
  try simp at z3
  have T3 := Lib.hid (show TG w (gcs g h) (gcs ⟨g.tm, g.all, g.each, 0, 0, [], ⟨[], [], []⟩, []⟩ ⟨E2, h.ne, h.ne, none, 0, 0, none, 0, 0, none, 0, 0, none, 0, 0, none, 0, 0⟩) w3 from tg_below S2.out hb)
  clear hb
  clear x0 x1 x2 x3 x4 x5 x6 x7 x8 x9 x10 x11 x12 u0 u1 u2 u3 u4 u5 u6 u7 u8 u9 u10 u11 u12
  have y3 : w.heap.size + 2 < w3.heap.size := blk_lt T3.out.o
  have v3 : w.heap.size + 1 + 1 < w3.heap.size := y3
  obtain ⟨x0, x1, x2, x3, x4, x5, x6, x7, x8, x9, x10, x11, x12⟩ := gc_blk (T3.out.a)
  obtain ⟨l0, l1, l2, l3, l4, l5, l6, l7, l8, l9, l10, l11, l12⟩ := gc_blk (T3.out.o)
  have lf6 : World.frozen? (w3) ⟨w.heap.size + 2, 6, none⟩ = false := blk_free (T3.out.o) 6
  have lf7 : World.frozen? (w3) ⟨w.heap.size + 2, 7, none⟩ = false := blk_free (T3.out.o) 7
  have lf8 : World.frozen? (w3) ⟨w.heap.size + 2, 8, none⟩ = false := blk_free (T3.out.o) 8
  have S3 := Lib.hid (show TG w (gcs g h) (gcs ⟨g.tm, g.all, g.each, g.lim, g.ea, g.us, ⟨[], [], []⟩, []⟩ ⟨E2, h.ne, h.ne, U2, h.nu, cu2, none, 0, 0, none, 0, 0, none, 0, 0, none, 0, 0⟩) (((w3.setCell ⟨w.heap.size + 2, 6, none⟩ (.int .i64 g.lim)).setCell ⟨w.heap.size + 2, 7, none⟩ (.int .i64 g.ea)).setCell ⟨w.heap.size + 2, 8, none⟩ (.slice U2 h.nu cu2)) from (tg_set (tg_set (tg_set T3.out 6 _) 7 _) 8 _))
  obtain ⟨u0, u1, u2, u3, u4, u5, u6, u7, u8, u9, u10, u11, u12⟩ := gc_blk (S3.out.a)
  go_wp2_with fail
  have PE3s := Lib.hid (at_cell (at_cell (at_cell PE3.out (p := ⟨w.heap.size + 2, 6, none⟩) (by simp; omega) (.int .i64 g.lim)) (p := ⟨w.heap.size + 2, 7, none⟩) (by simp; omega) (.int .i64 g.ea)) (p := ⟨w.heap.size + 2, 8, none⟩) (by simp; omega) (.slice U2 h.nu cu2))
  have PU3s := Lib.hid (at_cell (at_cell (at_cell PU3.out (p := ⟨w.heap.size + 2, 6, none⟩) (by simp; omega) (.int .i64 g.lim)) (p := ⟨w.heap.size + 2, 7, none⟩) (by simp; omega) (.int .i64 g.ea)) (p := ⟨w.heap.size + 2, 8, none⟩) (by simp; omega) (.slice U2 h.nu cu2))
  refine (toLanes_any h.A h.n h.c h.B h.m h.d h.C h.o h.f g.ln _ (ga_below HG.out S3.out.b).l n3).mono ?_
  rintro e w4 ⟨A2, B2, C2, hs4, iv4, rfl, ho, -, hb⟩
  have PE4 := Lib.hid (at_below PE3s.out hb)
  have PU4 := Lib.hid (at_below PU3s.out hb)
  have PL4 := Lib.hid (show At w3.heap.size w4.heap.size (LI w3.heap.size w4.heap.size (.slice A2 h.n h.n) h.n (.slice B2 h.m h.m) h.m (.slice C2 h.o h.o) h.o hs4 iv4 g.ln) w4 from at_li (li_all (lo_mono ho (by simp))) (Nat.le_refl _))
  clear ho PE3 PE3s PU3 PU3s
  clear l0 l1 l2 l3 l4 l5 l6 l7 l8 l9 l10 l11 l12
  clear lf6 lf7 lf8
  have z4 := hb.size
  try simp at z4
  have T4 := Lib.hid (show TG w (gcs g h) (gcs ⟨g.tm, g.all, g.each, g.lim, g.ea, g.us, ⟨[], [], []⟩, []⟩ ⟨E2, h.ne, h.ne, U2, h.nu, cu2, none, 0, 0, none, 0, 0, none, 0, 0, none, 0, 0⟩) w4 from tg_below S3.out hb)
  clear hb
  clear x0 x1 x2 x3 x4 x5 x6 x7 x8 x9 x10 x11 x12 u0 u1 u2 u3 u4 u5 u6 u7 u8 u9 u10 u11 u12
  have y4 : w.heap.size + 2 < w4.heap.size := blk_lt T4.out.o
  have v4 : w.heap.size + 1 + 1 < w4.heap.size := y4
  obtain ⟨x0, x1, x2, x3, x4, x5, x6, x7, x8, x9, x10, x11, x12⟩ := gc_blk (T4.out.a)
  obtain ⟨l0, l1, l2, l3, l4, l5, l6, l7, l8, l9, l10, l11, l12⟩ := gc_blk (T4.out.o)
  have lf9 : World.frozen? (w4) ⟨w.heap.size + 2, 9, none⟩ = false := blk_free (T4.out.o) 9
  have lf10 : World.frozen? (w4) ⟨w.heap.size + 2, 10, none⟩ = false := blk_free (T4.out.o) 10
  have lf11 : World.frozen? (w4) ⟨w.heap.size + 2, 11, none⟩ = false := blk_free (T4.out.o) 11
  have S4 := Lib.hid (show TG w (gcs g h) (gcs ⟨g.tm, g.all, g.each, g.lim, g.ea, g.us, g.ln, []⟩ ⟨E2, h.ne, h.ne, U2, h.nu, cu2, A2, h.n, h.n, B2, h.m, h.m, C2, h.o, h.o, none, 0, 0⟩) (((w4.setCell ⟨w.heap.size + 2, 9, none⟩ (.slice A2 h.n h.n)).setCell ⟨w.heap.size + 2, 10, none⟩ (.slice B2 h.m h.m)).setCell ⟨w.heap.size + 2, 11, none⟩ (.slice C2 h.o h.o)) from (tg_set (tg_set (tg_set T4.out 9 _) 10 _) 11 _))
  obtain ⟨u0, u1, u2, u3, u4, u5, u6, u7, u8, u9, u10, u11, u12⟩ := gc_blk (S4.out.a)
  go_wp2_with fail
  have PE4s := Lib.hid (at_cell (at_cell (at_cell PE4.out (p := ⟨w.heap.size + 2, 9, none⟩) (by simp; omega) (.slice A2 h.n h.n)) (p := ⟨w.heap.size + 2, 10, none⟩) (by simp; omega) (.slice B2 h.m h.m)) (p := ⟨w.heap.size + 2, 11, none⟩) (by simp; omega) (.slice C2 h.o h.o))
  have PU4s := Lib.hid (at_cell (at_cell (at_cell PU4.out (p := ⟨w.heap.size + 2, 9, none⟩) (by simp; omega) (.slice A2 h.n h.n)) (p := ⟨w.heap.size + 2, 10, none⟩) (by simp; omega) (.slice B2 h.m h.m)) (p := ⟨w.heap.size + 2, 11, none⟩) (by simp; omega) (.slice C2 h.o h.o))
  have PL4s := Lib.hid (at_cell (at_cell (at_cell PL4.out (p := ⟨w.heap.size + 2, 9, none⟩) (by simp; omega) (.slice A2 h.n h.n)) (p := ⟨w.heap.size + 2, 10, none⟩) (by simp; omega) (.slice B2 h.m h.m)) (p := ⟨w.heap.size + 2, 11, none⟩) (by simp; omega) (.slice C2 h.o h.o))
  refine (toScS_any h.S h.ns h.cs g.sc _ (ga_below HG.out S4.out.b).s n4).mono ?_
  rintro e w5 ⟨S2, rfl, ho, hb⟩
  have PE5 := Lib.hid (at_below PE4s.out hb)
  have PU5 := Lib.hid (at_below PU4s.out hb)
  have PL5 := Lib.hid (at_below PL4s.out hb)
  have PS5 := Lib.hid (show At w4.heap.size w5.heap.size (OwnP w4.heap.size w5.heap.size 84 4 (.slice S2 h.ns h.ns) h.ns (pcells g.sc)) w5 from at_own_all (own_mono ho (by simp)))
  clear ho PE4 PE4s PU4 PU4s PL4 PL4s
  clear l0 l1 l2 l3 l4 l5 l6 l7 l8 l9 l10 l11 l12
  clear lf9 lf10 lf11
  have z5 := hb.size
  try simp at z5
  have T5 := Lib.hid (show TG w (gcs g h) (gcs ⟨g.tm, g.all, g.each, g.lim, g.ea, g.us, g.ln, []⟩ ⟨E2, h.ne, h.ne, U2, h.nu, cu2, A2, h.n, h.n, B2, h.m, h.m, C2, h.o, h.o, none, 0, 0⟩) w5 from tg_below S4.out hb)
  clear hb
  clear x0 x1 x2 x3 x4 x5 x6 x7 x8 x9 x10 x11 x12 u0 u1 u2 u3 u4 u5 u6 u7 u8 u9 u10 u11 u12
  have y5 : w.heap.size + 2 < w5.heap.size := blk_lt T5.out.o
  have v5 : w.heap.size + 1 < w5.heap.size := by omega
  obtain ⟨l0, l1, l2, l3, l4, l5, l6, l7, l8, l9, l10, l11, l12⟩ := gc_blk (T5.out.o)
  have lf12 : World.frozen? (w5) ⟨w.heap.size + 2, 12, none⟩ = false := blk_free (T5.out.o) 12
  obtain ⟨r0, r1, r2, r3, r4, r5, r6, r7, r8, r9, r10, r11, r12⟩ := gc_blk (T5.out.r)
  have rf0 : World.frozen? (w5) ⟨w.heap.size + 1, 0, none⟩ = false := blk_free (T5.out.r) 0
  have rf1 : World.frozen? (w5) ⟨w.heap.size + 1, 1, none⟩ = false := blk_free (T5.out.r) 1
  have rf2 : World.frozen? (w5) ⟨w.heap.size + 1, 2, none⟩ = false := blk_free (T5.out.r) 2
  have rf3 : World.frozen? (w5) ⟨w.heap.size + 1, 3, none⟩ = false := blk_free (T5.out.r) 3
  have rf4 : World.frozen? (w5) ⟨w.heap.size + 1, 4, none⟩ = false := blk_free (T5.out.r) 4
  have rf5 : World.frozen? (w5) ⟨w.heap.size + 1, 5, none⟩ = false := blk_free (T5.out.r) 5
  have rf6 : World.frozen? (w5) ⟨w.heap.size + 1, 6, none⟩ = false := blk_free (T5.out.r) 6
  have rf7 : World.frozen? (w5) ⟨w.heap.size + 1, 7, none⟩ = false := blk_free (T5.out.r) 7
  have rf8 : World.frozen? (w5) ⟨w.heap.size + 1, 8, none⟩ = false := blk_free (T5.out.r) 8
  have rf9 : World.frozen? (w5) ⟨w.heap.size + 1, 9, none⟩ = false := blk_free (T5.out.r) 9
  have rf10 : World.frozen? (w5) ⟨w.heap.size + 1, 10, none⟩ = false := blk_free (T5.out.r) 10
  have rf11 : World.frozen? (w5) ⟨w.heap.size + 1, 11, none⟩ = false := blk_free (T5.out.r) 11
  have rf12 : World.frozen? (w5) ⟨w.heap.size + 1, 12, none⟩ = false := blk_free (T5.out.r) 12
  have GG := Lib.hid (go_new (w := w5) (lo := w.heap.size + 3) (hi := w5.heap.size) (t := g.tm) (al := g.all) (li := g.lim) (ea := g.ea) (x := g.each) (y := g.us) (l := g.ln) (z := g.sc) (h' := ⟨E2, h.ne, h.ne, U2, h.nu, cu2, A2, h.n, h.n, B2, h.m, h.m, C2, h.o, h.o, S2, h.ns, h.ns⟩) (e0 := w1.heap.size) (e1 := w2.heap.size) (u0 := w2.heap.size) (u1 := w3.heap.size) (l0 := w3.heap.size) (l1 := w4.heap.size) (s0 := w4.heap.size) (s1 := w5.heap.size) (hs := hs4) (iv := iv4)
    ⟨by dsimp only; omega, by dsimp only; omega, by dsimp only; omega, by dsimp only; omega, .inl (by dsimp only; omega), .inl (by dsimp only; omega), .inl (by dsimp only; omega), .inl (by dsimp only; omega), .inl (by dsimp only; omega), .inl (by dsimp only; omega), ⟨by show h.ne ≤ _; omega, by show h.nu ≤ _; omega, by show h.ns ≤ _; omega, by show h.n ≤ _; omega, by show h.m ≤ _; omega, by show h.o ≤ _; omega⟩⟩ PE5.out PU5.out PL5.out PS5.out)
  have HB := Lib.hid T5.out.b
  clear PE5 PU5 PL5 PS5 T5 S4 HG
  go_wp2
  refine bodyPost_ret (v := .agg (gcs g ⟨E2, h.ne, h.ne, U2, h.nu, cu2, A2, h.n, h.n, B2, h.m, h.m, C2, h.o, h.o, S2, h.ns, h.ns⟩)) (by simp [results, Try.results25, go_sem, gcs, r0, r1, r2, r3, r4, r5, r6, r7, r8, r9, r10, r11, r12]) rfl ⟨_, ⟨w1.heap.size, w2.heap.size, w2.heap.size, w3.heap.size, w3.heap.size, w4.heap.size, w4.heap.size, w5.heap.size, hs4, iv4⟩, rfl, ?_, ?_⟩
  · refine go_mono (lo := w.heap.size + 3) (hi := w5.heap.size) ?_ (by omega) (by simp)
    repeat with_reducible refine go_cell ?_ (by simp <;> omega) _
    exact GG.out
  · repeat refine Below.setCell ?_ (by simp <;> omega) _
    exact HB.out
def cntG (g : Gd) : Int := 4 * (g.each.length : Int) + (g.us.length : Int) + cntL g.ln + 4 * (g.sc.length : Int)
def markG (g : Gd) (k : Int) : Gd := ⟨g.tm, g.all, markL g.each.length k, g.lim, g.ea, markI g.us.length (k + 4 * (g.each.length : Int)), markLn g.ln (k + 4 * (g.each.length : Int) + (g.us.length : Int)), markL g.sc.length (k + 4 * (g.each.length : Int) + (g.us.length : Int) + cntL g.ln)⟩
def MgPost (w : World) (lo hi : Nat) (h : Gh) (g : Gd) (i : Gi) (k0 : Int) (e : Ending) (w' : World) : Prop :=
  ∃ cur, e = .returned (.int .i64 (k0 + cntG g)) ∧ GO lo hi h (markG g k0) ⟨i.e0, i.e1, i.u0, i.u1, i.l0, i.l1, i.s0, i.s1, cur, i.iv⟩ w' ∧ Chg lo hi w w'
theorem gsz_bd {g : Gd} (h : gsz g ≤ 1048576) : g.each.length ≤ 1048576 ∧ g.us.length ≤ 1048576 ∧ lsz g.ln ≤ 1048576 ∧ g.sc.length ≤ 1048576 ∧ 0 ≤ cntL g.ln ∧ cntL g.ln ≤ 5000000 := by
  have h1 : lsz g.ln ≤ 1048576 := by unfold gsz at h; omega
  have h2 := cntL_bd h1
  unfold gsz at h
  omega
set_option maxRecDepth 100000 in
set_option maxHeartbeats 4000000 in
theorem markGuard_any (lo hi : Nat) (h : Gh) (g : Gd) (i : Gi) (k0 : Int) (w : World) (G : GO lo hi h g i w) (hhi : hi ≤ w.heap.size) (hT : gsz g ≤ 1048576) (hk : 0 ≤ k0 ∧ k0 ≤ 1000) :
    Calls Try.prog 21 #[.agg (gcs g h), .int .i64 k0] w (MgPost w lo hi h g i k0) := by
  obtain ⟨b1, b2, b3, b4, b5, b6⟩ := gsz_bd hT
  have n1 : g.each.length = h.ne := (go_gr G).e.1
  have n2 : g.us.length = h.nu := (go_gr G).u.1
  have n4 : g.sc.length = h.ns := (go_gr G).s.1
  rw [n1] at b1
  rw [n2] at b2
  rw [n4] at b4
  have NN := Lib.hid (And.intro n1 (And.intro n2 n4))
  have F := Lib.hid (fm_one w 41 (gcs g h))
  have HB := Lib.hid (below_alloc (Below.refl w.heap.size w) (.cells (gcs g h) 41))
  have G1 := Lib.hid (go_below G HB.out)
  clear G n1 n2 n4
  obtain ⟨x0, x1, x2, x3, x4, x5, x6, x7, x8, x9, x10, x11, x12⟩ := gc_blk (fm_blk F.out 0 rfl)
  go_enter Try.func21, Try.ntmps21
  go_wp2_with fail
  refine (markPacketS_anyB i.e0 h.E h.ne h.ce k0 g.each _ G1.out.e.it.1 (by omega) (by omega)).mono ?_
  rintro e w1 ⟨rfl, ho, hg⟩
  have G2 := Lib.hid (go_setE G1.out ho hg)
  have BX1 := Lib.hid (show Blk w1 w.heap.size 41 (gcs g h) from (G2.out.2.block _ (by simp) (.inr hhi)).trans (fm_blk F.out 0 rfl))
  clear ho hg
  clear x0 x1 x2 x3 x4 x5 x6 x7 x8 x9 x10 x11 x12
  obtain ⟨x0, x1, x2, x3, x4, x5, x6, x7, x8, x9, x10, x11, x12⟩ := gc_blk (BX1.out)
  go_wp2_with fail
  refine (markAccount_any g.lim g.ea i.u0 h.U h.nu h.cu (k0 + 4 * (h.ne : Int)) g.us _ G2.out.1.u.it.1 (by omega) (by omega)).mono ?_
  rintro e w2 ⟨rfl, ho, hg⟩
  have G3 := Lib.hid (go_setU G2.out.1 ho hg)
  have BX2 := Lib.hid (show Blk w2 w.heap.size 41 (gcs g h) from (G3.out.2.block _ (blk_lt BX1.out) (.inr hhi)).trans BX1.out)
  clear ho hg
  clear x0 x1 x2 x3 x4 x5 x6 x7 x8 x9 x10 x11 x12
  obtain ⟨x0, x1, x2, x3, x4, x5, x6, x7, x8, x9, x10, x11, x12⟩ := gc_blk (BX2.out)
  go_wp2_with fail
  refine (markLanes_any i.l0 i.l1 h.A h.n h.c h.B h.m h.d h.C h.o h.f i.hs i.iv g.ln (k0 + 4 * (h.ne : Int) + (h.nu : Int)) _ G3.out.1.l.it G3.out.1.l.fit b3 (by omega)).mono ?_
  rintro e w3 ⟨cur, rfl, ho, hc, -⟩
  have G4 := Lib.hid (go_setL G3.out.1 ho hc)
  have BX3 := Lib.hid (show Blk w3 w.heap.size 41 (gcs g h) from (G4.out.2.block _ (blk_lt BX2.out) (.inr hhi)).trans BX2.out)
  clear ho hc
  clear x0 x1 x2 x3 x4 x5 x6 x7 x8 x9 x10 x11 x12
  obtain ⟨x0, x1, x2, x3, x4, x5, x6, x7, x8, x9, x10, x11, x12⟩ := gc_blk (BX3.out)
  go_wp2_with fail
  refine (markPacketS_anyS i.s0 h.S h.ns h.cs (k0 + 4 * (h.ne : Int) + (h.nu : Int) + cntL g.ln) g.sc _ G4.out.1.s.it.1 (by omega) (by omega)).mono ?_
  rintro e w4 ⟨rfl, ho, hg⟩
  have G5 := Lib.hid (go_setS G4.out.1 ho hg)
  clear ho hg
  go_wp2
  go_ret
  refine ⟨cur, ret_int (by have := NN.out; unfold cntG; omega), ?_, chg_trans (chg_trans (chg_trans (chg_trans (chg_below HB.out) G2.out.2) G3.out.2) G4.out.2) G5.out.2⟩
  unfold markG
  rw [NN.out.1, NN.out.2.1, NN.out.2.2]
  exact G5.out.1
end Go.Proofs.Ytiodhdcgfdlknaa
