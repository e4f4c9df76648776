/-
  Chapter 8: equality of guards, bytes that wait: what the program's functions and the model's return. Conditions: none.
  Conditions: each lemma says them.
-/
import Derived.Test.YtiodhdcgfdlknaaKgvZ1
import Derived.Test.YtiodhdcgfdlknaaKb1Z1
import Derived.Test.YtiodhdcgfdlknaaKlZ1
import Derived.Test.YtiodhdcgfdlknaaKhcZ1
namespace Go.Proofs.Ytiodhdcgfdlknaa
open Go.RowKit
theorem gs_tm {a b : Gd} (h : a.tm ≠ b.tm) : false = gsB a b := gs_no fun e => h (by rw [e])
theorem gs_all {a b : Gd} (h : a.all ≠ b.all) : false = gsB a b := gs_no fun e => h (by rw [e])
theorem gs_ea {a b : Gd} (h : a.each ≠ b.each) : false = gsB a b := gs_no fun e => h (by rw [e])
theorem gs_sc {a b : Gd} (h : a.sc ≠ b.sc) : false = gsB a b := gs_no fun e => h (by rw [e])
theorem gs_ln {a b : Gd} (h : a.ln ≠ b.ln) : false = gsB a b := gs_no fun e => h (by rw [e])
theorem gs_ac {a b : Gd} (h : asB a.lim a.ea a.us b.lim b.ea b.us = false) : false = gsB a b := gs_no fun e => by rw [e, as_refl] at h; cases h
theorem gs_end {a b : Gd} (h0 : a.tm = b.tm) (h1 : a.all = b.all) (h2 : a.each = b.each) (h3 : asB a.lim a.ea a.us b.lim b.ea b.us = true) (h4 : a.ln = b.ln) (h5 : a.sc = b.sc) : true = gsB a b := by
  obtain ⟨e1, e2, e3⟩ := as_true h3
  exact gs_yes (gd_ext h0 h1 h2 e1 e2 e3 h4 h5)
theorem same_of {a b : List Pkt} (h : sameB a b = true) : a = b := same_iff.1 h
theorem same_not {a b : List Pkt} (h : sameB a b = false) : a ≠ b := fun e => by rw [same_iff.2 e] at h; cases h
theorem ls_not {a b : Ln} (h : lsB a b = false) : a ≠ b := fun e => by rw [ls_iff.2 e] at h; cases h
structure B2 (w : World) (a b : Gd) (h k : Gh) (wr : World) : Prop where
  x : Blk wr w.heap.size 41 (gcs a h)
  y : Blk wr (w.heap.size + 1) 41 (gcs b k)
  b : Below w.heap.size w wr
theorem b2_start (w : World) (a b : Gd) (h k : Gh) : B2 w a b h k ((w.alloc (.cells (gcs a h) 41)).alloc (.cells (gcs b k) 41)) := by
  have F := fm_two w 41 41 (gcs a h) (gcs b k)
  exact ⟨fm_blk F 0 rfl, fm_blk F 1 rfl, F.below⟩
theorem b2_below {w w1 w2 : World} {a b : Gd} {h k : Gh} (B : B2 w a b h k w1) (hb : Below w1.heap.size w1 w2) : B2 w a b h k w2 :=
  ⟨blk_below B.x hb (blk_lt B.x), blk_below B.y hb (blk_lt B.y), below_seq B.b hb⟩
set_option maxRecDepth 100000 in
set_option maxHeartbeats 4000000 in
theorem gsI_any (a b : Gd) (h k : Gh) (w : World) (G : GR w h a) (K : GR w k b) :
    Calls Try.prog 28 #[.agg (gcs a h), .agg (gcs b k)] w fun e w' => e = .returned (.bool (gsB a b)) ∧ Below w.heap.size w w' := by
  have HG := Lib.hid G
  have HK := Lib.hid K
  have B0 := Lib.hid (b2_start w a b h k)
  clear G K
  obtain ⟨x0, x1, x2, x3, x4, x5, x6, x7, x8, x9, x10, x11, x12⟩ := gc_blk (B0.out.x)
  obtain ⟨y0, y1, y2, y3, y4, y5, y6, y7, y8, y9, y10, y11, y12⟩ := gc_blk (B0.out.y)
  by_cases h0 : a.tm = b.tm
  case neg =>
    have HE := Lib.hid (gs_tm h0)
    have hb : (a.tm == b.tm) = false := by simp [h0]
    have hb2 : (a.tm != b.tm) = true := by simp [h0]
    clear h0
    go_enter Try.func28, Try.ntmps28
    go_wp2
    go_ret
    exact ⟨ret_bool HE.out, B0.out.b⟩
  have H0 := Lib.hid h0
  have hb : (a.tm == b.tm) = true := by simp [h0]
  have hb2 : (a.tm != b.tm) = false := by simp [h0]
  clear h0
  by_cases h1 : a.all = b.all
  case neg =>
    have HE := Lib.hid (gs_all h1)
    rcases pkt_cases a.all b.all with e | e0 | ⟨e0, e1⟩ | ⟨e0, e1, e2⟩ | ⟨e0, e1, e2, e3⟩
    · exact absurd e h1
    all_goals
      clear h1
      go_enter Try.func28, Try.ntmps28
      go_wp2
      go_ret
      exact ⟨ret_bool HE.out, B0.out.b⟩
  have H1 := Lib.hid h1
  have e0 : (a.all.peer == b.all.peer) = true := by simp [h1]
  have e1 : (a.all.lane == b.all.lane) = true := by simp [h1]
  have e2 : (a.all.size == b.all.size) = true := by simp [h1]
  have e3 : (a.all.id == b.all.id) = true := by simp [h1]
  clear h1
  go_enter Try.func28, Try.ntmps28
  go_wp2_with fail
  refine (eqI_anyB h.E k.E h.ne h.ce k.ne k.ce a.each b.each _ (pr_below HG.out.e B0.out.b) (pr_below HK.out.e B0.out.b) (Nat.le_trans HG.out.ke (by omega)) (Nat.le_trans HK.out.ke (by omega))).mono ?_
  rintro e w1 ⟨rfl, hb⟩
  have B1 := Lib.hid (b2_below B0.out hb)
  clear hb
  clear x0 x1 x2 x3 x4 x5 x6 x7 x8 x9 x10 x11 x12 y0 y1 y2 y3 y4 y5 y6 y7 y8 y9 y10 y11 y12
  rcases h2 : sameB a.each b.each with _ | _
  · have HE := Lib.hid (gs_ea (same_not h2))
    clear h2
    go_wp2
    go_ret
    exact ⟨ret_bool HE.out, B1.out.b⟩
  have H2 := Lib.hid (same_of h2)
  clear h2
  obtain ⟨x0, x1, x2, x3, x4, x5, x6, x7, x8, x9, x10, x11, x12⟩ := gc_blk (B1.out.x)
  obtain ⟨y0, y1, y2, y3, y4, y5, y6, y7, y8, y9, y10, y11, y12⟩ := gc_blk (B1.out.y)
  go_wp2_with fail
  refine (asI_any a.lim a.ea b.lim b.ea h.U k.U h.nu h.cu k.nu k.cu a.us b.us _ (nr_below HG.out.u B1.out.b) (nr_below HK.out.u B1.out.b) (Nat.le_trans HG.out.ku (by omega)) (Nat.le_trans HK.out.ku (by omega))).mono ?_
  rintro e w2 ⟨rfl, hb⟩
  have B2' := Lib.hid (b2_below B1.out hb)
  clear hb
  clear x0 x1 x2 x3 x4 x5 x6 x7 x8 x9 x10 x11 x12 y0 y1 y2 y3 y4 y5 y6 y7 y8 y9 y10 y11 y12
  rcases h3 : asB a.lim a.ea a.us b.lim b.ea b.us with _ | _
  · have HE := Lib.hid (gs_ac h3)
    clear h3
    go_wp2
    go_ret
    exact ⟨ret_bool HE.out, B2'.out.b⟩
  have H3 := Lib.hid h3
  clear h3
  obtain ⟨x0, x1, x2, x3, x4, x5, x6, x7, x8, x9, x10, x11, x12⟩ := gc_blk (B2'.out.x)
  obtain ⟨y0, y1, y2, y3, y4, y5, y6, y7, y8, y9, y10, y11, y12⟩ := gc_blk (B2'.out.y)
  go_wp2_with fail
  refine (sameLI_any h.A h.n h.c h.B h.m h.d h.C h.o h.f a.ln k.A k.n k.c k.B k.m k.d k.C k.o k.f b.ln _ (lr_below HG.out.l B2'.out.b) (lr_below HK.out.l B2'.out.b)).mono ?_
  rintro e w3 ⟨rfl, hb⟩
  have B3 := Lib.hid (b2_below B2'.out hb)
  clear hb
  clear x0 x1 x2 x3 x4 x5 x6 x7 x8 x9 x10 x11 x12 y0 y1 y2 y3 y4 y5 y6 y7 y8 y9 y10 y11 y12
  rcases h4 : lsB a.ln b.ln with _ | _
  · have HE := Lib.hid (gs_ln (ls_not h4))
    clear h4
    go_wp2
    go_ret
    exact ⟨ret_bool HE.out, B3.out.b⟩
  have H4 := Lib.hid (ls_iff.1 h4)
  clear h4
  obtain ⟨x0, x1, x2, x3, x4, x5, x6, x7, x8, x9, x10, x11, x12⟩ := gc_blk (B3.out.x)
  obtain ⟨y0, y1, y2, y3, y4, y5, y6, y7, y8, y9, y10, y11, y12⟩ := gc_blk (B3.out.y)
  go_wp2_with fail
  refine (eqI_anyS h.S k.S h.ns h.cs k.ns k.cs a.sc b.sc _ (pr_below HG.out.s B3.out.b) (pr_below HK.out.s B3.out.b) (Nat.le_trans HG.out.ks (by omega)) (Nat.le_trans HK.out.ks (by omega))).mono ?_
  rintro e w4 ⟨rfl, hb⟩
  have B4 := Lib.hid (b2_below B3.out hb)
  clear hb
  clear x0 x1 x2 x3 x4 x5 x6 x7 x8 x9 x10 x11 x12 y0 y1 y2 y3 y4 y5 y6 y7 y8 y9 y10 y11 y12
  rcases h5 : sameB a.sc b.sc with _ | _
  · have HE := Lib.hid (gs_sc (same_not h5))
    clear h5
    go_wp2
    go_ret
    exact ⟨ret_bool HE.out, B4.out.b⟩
  have HE := Lib.hid (gs_end H0.out H1.out H2.out H3.out H4.out (same_of h5))
  clear h5
  go_wp2
  go_ret
  exact ⟨ret_bool HE.out, B4.out.b⟩
def SsRel (w : World) (a b : Gd) (h k : Gh) (xs ys : List Pkt) (n : Nat) (i : Value) (wr : World) : Prop := ∃ j : Nat, j ≤ n ∧ i = .int .i64 (j : Int) ∧ xs.take j = ys.take j ∧ B2 w a b h k wr
set_option maxRecDepth 100000 in
set_option maxHeartbeats 4000000 in
theorem gsS_any (a b : Gd) (h k : Gh) (w : World) (G : GR w h a) (K : GR w k b) :
    Calls Try.prog 27 #[.agg (gcs a h), .agg (gcs b k)] w fun e w' => e = .returned (.bool (gsB a b)) ∧ Below w.heap.size w w' := by
  have HG := Lib.hid G
  have HK := Lib.hid K
  have B0 := Lib.hid (b2_start w a b h k)
  clear G K
  obtain ⟨x0, x1, x2, x3, x4, x5, x6, x7, x8, x9, x10, x11, x12⟩ := gc_blk (B0.out.x)
  obtain ⟨y0, y1, y2, y3, y4, y5, y6, y7, y8, y9, y10, y11, y12⟩ := gc_blk (B0.out.y)
  by_cases h0 : a.tm = b.tm
  case neg =>
    have HE := Lib.hid (gs_tm h0)
    have hb : (a.tm == b.tm) = false := by simp [h0]
    have hb2 : (a.tm != b.tm) = true := by simp [h0]
    clear h0
    go_enter Try.func27, Try.ntmps27
    go_wp2
    go_ret
    exact ⟨ret_bool HE.out, B0.out.b⟩
  have H0 := Lib.hid h0
  have hb : (a.tm == b.tm) = true := by simp [h0]
  have hb2 : (a.tm != b.tm) = false := by simp [h0]
  clear h0
  by_cases h1 : a.all = b.all
  case neg =>
    have HE := Lib.hid (gs_all h1)
    rcases pkt_cases a.all b.all with e | e0 | ⟨e0, e1⟩ | ⟨e0, e1, e2⟩ | ⟨e0, e1, e2, e3⟩
    · exact absurd e h1
    all_goals
      clear h1
      go_enter Try.func27, Try.ntmps27
      go_wp2
      go_ret
      exact ⟨ret_bool HE.out, B0.out.b⟩
  have H1 := Lib.hid h1
  have e0 : (a.all.peer == b.all.peer) = true := by simp [h1]
  have e1 : (a.all.lane == b.all.lane) = true := by simp [h1]
  have e2 : (a.all.size == b.all.size) = true := by simp [h1]
  have e3 : (a.all.id == b.all.id) = true := by simp [h1]
  clear h1
  have nk1 := HG.out.ke
  have nk2 := HG.out.ks
  have LE : a.each.length = h.ne ∧ b.each.length = k.ne ∧ a.sc.length = h.ns ∧ b.sc.length = k.ns := ⟨HG.out.e.1, HK.out.e.1, HG.out.s.1, HK.out.s.1⟩
  by_cases hn : h.ne = k.ne
  case neg =>
    have HE := Lib.hid (gs_ea (a := a) (b := b) fun e => by rw [e] at LE; omega)
    have q1 : ((h.ne : Int) != (k.ne : Int)) = true := by simp; omega
    have q2 : ¬ (h.ne : Int) = (k.ne : Int) := by omega
    clear LE
    go_enter Try.func27, Try.ntmps27
    go_wp2
    go_ret
    exact ⟨ret_bool HE.out, B0.out.b⟩
  by_cases hs : h.ns = k.ns
  case neg =>
    have HE := Lib.hid (gs_sc (a := a) (b := b) fun e => by rw [e] at LE; omega)
    have q1 : ((h.ne : Int) != (k.ne : Int)) = false := by simp; omega
    have q2 : (h.ne : Int) = (k.ne : Int) := by omega
    have q3 : ((h.ns : Int) != (k.ns : Int)) = true := by simp; omega
    have q4 : ¬ (h.ns : Int) = (k.ns : Int) := by omega
    clear LE
    go_enter Try.func27, Try.ntmps27
    go_wp2
    go_ret
    exact ⟨ret_bool HE.out, B0.out.b⟩
  have HN := Lib.hid (And.intro hn hs)
  have HL := Lib.hid LE
  have q1 : ((h.ne : Int) != (k.ne : Int)) = false := by simp; omega
  have q2 : (h.ne : Int) = (k.ne : Int) := by omega
  have q3 : ((h.ns : Int) != (k.ns : Int)) = false := by simp; omega
  have q4 : (h.ns : Int) = (k.ns : Int) := by omega
  clear LE
  go_enter Try.func27, Try.ntmps27
  go_wp2_with fail
  refine (asS_any a.lim a.ea b.lim b.ea h.U k.U h.nu h.cu k.nu k.cu a.us b.us _ (nr_below HG.out.u B0.out.b) (nr_below HK.out.u B0.out.b) (Nat.le_trans HG.out.ku (by omega)) (Nat.le_trans HK.out.ku (by omega))).mono ?_
  rintro e w2 ⟨rfl, hb⟩
  have B2' := Lib.hid (b2_below B0.out hb)
  clear hb
  clear x0 x1 x2 x3 x4 x5 x6 x7 x8 x9 x10 x11 x12 y0 y1 y2 y3 y4 y5 y6 y7 y8 y9 y10 y11 y12
  rcases h3 : asB a.lim a.ea a.us b.lim b.ea b.us with _ | _
  · have HE := Lib.hid (gs_ac h3)
    clear h3
    go_wp2
    go_ret
    exact ⟨ret_bool HE.out, B2'.out.b⟩
  have H3 := Lib.hid h3
  clear h3
  obtain ⟨x0, x1, x2, x3, x4, x5, x6, x7, x8, x9, x10, x11, x12⟩ := gc_blk (B2'.out.x)
  obtain ⟨y0, y1, y2, y3, y4, y5, y6, y7, y8, y9, y10, y11, y12⟩ := gc_blk (B2'.out.y)
  go_wp2_with fail
  refine (sameLS_any h.A h.n h.c h.B h.m h.d h.C h.o h.f a.ln k.A k.n k.c k.B k.m k.d k.C k.o k.f b.ln _ (lr_below HG.out.l B2'.out.b) (lr_below HK.out.l B2'.out.b)).mono ?_
  rintro e w3 ⟨rfl, hb⟩
  have B3 := Lib.hid (b2_below B2'.out hb)
  clear hb
  clear x0 x1 x2 x3 x4 x5 x6 x7 x8 x9 x10 x11 x12 y0 y1 y2 y3 y4 y5 y6 y7 y8 y9 y10 y11 y12
  rcases h4 : lsB a.ln b.ln with _ | _
  · have HE := Lib.hid (gs_ln (ls_not h4))
    clear h4
    go_wp2
    go_ret
    exact ⟨ret_bool HE.out, B3.out.b⟩
  have H4 := Lib.hid (ls_iff.1 h4)
  clear h4
  have R0 : Hid (SsRel w a b h k a.each b.each h.ne (.int .i64 0) w3) := Lib.hid ⟨0, Nat.zero_le _, rfl, by simp, B3.out⟩
  clear e0 e1 e2 e3
  go_wp2
  go_loopw [5] (fun i wr => SsRel w a b h k a.each b.each h.ne i wr) (fun i _ => h.ne - (intOf i).toNat)
  case atStart => exact R0.out
  case round =>
    obtain ⟨j, hj, rfl, ht, hB⟩ := hrel
    have HT := Lib.hid ht
    have HB := Lib.hid hB
    have zx := blk_lt hB.x
    have zy := blk_lt hB.y
    obtain ⟨x0, x1, x2, x3, x4, x5, x6, x7, x8, x9, x10, x11, x12⟩ := gc_blk (hB.x)
    obtain ⟨y0, y1, y2, y3, y4, y5, y6, y7, y8, y9, y10, y11, y12⟩ := gc_blk (hB.y)
    clear R0 ht hB
    by_cases hlt : j < h.ne
    · have hlt2 : j < k.ne := by omega
      obtain ⟨b1, f1, p, e1, hb1, hp, c0, c1, c2, c3⟩ := pr_at (pr_below HG.out.e HB.out.b) hlt
      obtain ⟨b2, f2, q, e2, hb2, hq, d0, d1, d2, d3⟩ := pr_at (pr_below HK.out.e HB.out.b) hlt2
      rw [e1] at x5
      rw [e2] at y5
      have HP := Lib.hid hp
      have HQ := Lib.hid hq
      have j0 : (0 : Int) ≤ (j : Int) := by omega
      have j1 : (j : Int) < (h.ne : Int) := by omega
      have j2 : (j : Int) < (k.ne : Int) := by omega
      clear hp hq e1 e2
      rcases pkt_cases p q with e | e0 | ⟨e0, e1⟩ | ⟨e0, e1, e2⟩ | ⟨e0, e1, e2, e3⟩
      · have HE := Lib.hid e
        subst e
        go_wp2_with fail
        go_quiet (fail)
        go_wp2
        go_roundw
        case rel => exact ⟨j + 1, by omega, by go_num, take_step HT.out HP.out HQ.out rfl, b2_below HB.out (below_drewN (Below.refl _ _) _)⟩
        case measure => simp [intOf]; omega
      all_goals
        have HE := Lib.hid (gs_ea (take_ne HP.out HQ.out (by rintro rfl; simp at e0 <;> simp_all)))
        go_wp2_with fail
        go_quiet (fail)
        go_wp2
        go_ret
        exact ⟨ret_bool HE.out, below_drewN HB.out.b _⟩
    · obtain rfl : j = h.ne := by omega
      have H2 := Lib.hid (take_all HT.out (by have := HL.out; omega) (by have := HL.out; have := HN.out; omega))
      have R1 : Hid (SsRel w a b h k a.sc b.sc h.ns (.int .i64 0) wr) := Lib.hid ⟨0, Nat.zero_le _, rfl, by simp, HB.out⟩
      go_wp2
      clear x0 x1 x2 x3 x4 x5 x6 x7 x8 x9 x10 x11 x12 y0 y1 y2 y3 y4 y5 y6 y7 y8 y9 y10 y11 y12
      go_loopw [6] (fun i wr => SsRel w a b h k a.sc b.sc h.ns i wr) (fun i _ => h.ns - (intOf i).toNat)
      case atStart => exact R1.out
      case round =>
        obtain ⟨j, hj, rfl, ht, hB⟩ := hrel
        have HT := Lib.hid ht
        have HB := Lib.hid hB
        have zx := blk_lt hB.x
        have zy := blk_lt hB.y
        obtain ⟨x0, x1, x2, x3, x4, x5, x6, x7, x8, x9, x10, x11, x12⟩ := gc_blk (hB.x)
        obtain ⟨y0, y1, y2, y3, y4, y5, y6, y7, y8, y9, y10, y11, y12⟩ := gc_blk (hB.y)
        clear R1 ht hB
        by_cases hlt : j < h.ns
        · have hlt2 : j < k.ns := by omega
          obtain ⟨b1, f1, p, e1, hb1, hp, c0, c1, c2, c3⟩ := pr_at (pr_below HG.out.s HB.out.b) hlt
          obtain ⟨b2, f2, q, e2, hb2, hq, d0, d1, d2, d3⟩ := pr_at (pr_below HK.out.s HB.out.b) hlt2
          rw [e1] at x12
          rw [e2] at y12
          have HP := Lib.hid hp
          have HQ := Lib.hid hq
          have j0 : (0 : Int) ≤ (j : Int) := by omega
          have j1 : (j : Int) < (h.ns : Int) := by omega
          have j2 : (j : Int) < (k.ns : Int) := by omega
          clear hp hq e1 e2
          rcases pkt_cases p q with e | e0 | ⟨e0, e1⟩ | ⟨e0, e1, e2⟩ | ⟨e0, e1, e2, e3⟩
          · subst e
            go_wp2_with fail
            go_quiet (fail)
            go_wp2
            go_roundw
            case rel => exact ⟨j + 1, by omega, by go_num, take_step HT.out HP.out HQ.out rfl, b2_below HB.out (below_drewN (Below.refl _ _) _)⟩
            case measure => simp [intOf]; omega
          all_goals
            have HE := Lib.hid (gs_sc (take_ne HP.out HQ.out (by rintro rfl; simp at e0 <;> simp_all)))
            go_wp2_with fail
            go_quiet (fail)
            go_wp2
            go_ret
            exact ⟨ret_bool HE.out, below_drewN HB.out.b _⟩
        · obtain rfl : j = h.ns := by omega
          have H5 := Lib.hid (take_all HT.out (by have := HL.out; omega) (by have := HL.out; have := HN.out; omega))
          have HE := Lib.hid (gs_end H0.out H1.out H2.out H3.out H4.out H5.out)
          go_wp2
          go_ret
          exact ⟨ret_bool HE.out, HB.out.b⟩
end Go.Proofs.Ytiodhdcgfdlknaa
