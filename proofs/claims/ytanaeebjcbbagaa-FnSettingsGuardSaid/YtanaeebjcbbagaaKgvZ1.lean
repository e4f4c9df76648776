/-
  Chapter 8: validity of guards: what the program's function and the model's return. Conditions: none.
  Conditions: each lemma says them.
-/
import Derived.Test.YtanaeebjcbbagaaKb8Z1
import Derived.Test.YtanaeebjcbbagaaKb5Z1
import Derived.Test.YtanaeebjcbbagaaKkZ1
import Derived.Test.YtanaeebjcbbagaaKzZ1
import Derived.Test.YtanaeebjcbbagaaKhcZ1
import Derived.Deep.RegionHeld3
namespace Go.Proofs.Ytanaeebjcbbagaa
open Go.RowKit
theorem gv_tm {g : Gd} (h : inB g.tm 0 1000000 = false) : ¬ GV g := fun v => by
  have := v.t0
  have := v.t1
  rw [inB, decide_eq_false_iff_not] at h
  omega
theorem bk_split {n : Int} {b : Pkt} (hn : inB n 0 1000000 = true) : bkB n b = (bvB b.peer b.lane b.size b.id && decide (b.id ≤ n)) := by
  rw [bkB, rt_eq2, hn, Bool.and_true]
theorem sr_split {n : Int} {b : Pkt} (hn : inB n 0 1000000 = true) : srB n b = (scB b.peer b.lane b.size b.id && decide (b.lane ≤ n)) := by
  rw [srB, st_eq2, hn, Bool.and_true]
structure BG (w : World) (g : Gd) (h : Gh) (wr : World) : Prop where
  bx : Blk wr w.heap.size 38 (gcs g h)
  b : Below w.heap.size w wr
theorem bg_start (w : World) (g : Gd) (h : Gh) : BG w g h (w.alloc (.cells (gcs g h) 38)) := ⟨blk_new w _ _, below_alloc (Below.refl _ _) _⟩
theorem bg_below {w w1 w2 : World} {g : Gd} {h : Gh} (B : BG w g h w1) (hb : Below w1.heap.size w1 w2) : BG w g h w2 := ⟨blk_below B.bx hb (blk_lt B.bx), below_seq B.b hb⟩
theorem bg_lt {w w1 : World} {g : Gd} {h : Gh} (B : BG w g h w1) : w.heap.size < w1.heap.size := blk_lt B.bx
theorem gcj {w : World} {b : Nat} {t : TypeId} {g : Gd} {h : Gh} (B : Blk w b t (gcs g h)) : (w.cell? ⟨b, 0, none⟩ = some (.int .i64 g.tm) ∧ w.cell? ⟨b, 1, none⟩ = some (.int .i64 g.all.peer) ∧ w.cell? ⟨b, 2, none⟩ = some (.int .i64 g.all.lane) ∧ w.cell? ⟨b, 3, none⟩ = some (.int .i64 g.all.size) ∧ w.cell? ⟨b, 4, none⟩ = some (.int .i64 g.all.id) ∧ w.cell? ⟨b, 5, none⟩ = some (.slice h.E h.ne h.ce) ∧ w.cell? ⟨b, 6, none⟩ = some (.int .i64 g.lim) ∧ w.cell? ⟨b, 7, none⟩ = some (.int .i64 g.ea) ∧ w.cell? ⟨b, 8, none⟩ = some (.slice h.U h.nu h.cu) ∧ w.cell? ⟨b, 9, none⟩ = some (.slice h.A h.n h.c) ∧ w.cell? ⟨b, 10, none⟩ = some (.slice h.B h.m h.d) ∧ w.cell? ⟨b, 11, none⟩ = some (.slice h.C h.o h.f) ∧ w.cell? ⟨b, 12, none⟩ = some (.slice h.S h.ns h.cs)) :=
  ⟨blk_cell B 0, blk_cell B 1, blk_cell B 2, blk_cell B 3, blk_cell B 4, blk_cell B 5, blk_cell B 6, blk_cell B 7, blk_cell B 8, blk_cell B 9, blk_cell B 10, blk_cell B 11, blk_cell B 12⟩
theorem ints_of {a b : List Int} (h : intsB a b = true) : a = b := by simpa [intsB] using h
set_option maxRecDepth 100000 in
set_option maxHeartbeats 1000000 in
theorem bbI_any (b : Pkt) (n : Int) (w : World) :
    Calls Try.prog 44 #[.agg #[.int .i64 b.peer, .int .i64 b.lane, .int .i64 b.size, .int .i64 b.id], .int .i64 n] w fun e w' => e = .returned (.bool (bvB b.peer b.lane b.size b.id && decide (b.id ≤ n))) ∧ Below w.heap.size w w' := by
  have B0 := Lib.hid (blk_new w 29 #[.int .i64 b.peer, .int .i64 b.lane, .int .i64 b.size, .int .i64 b.id])
  have W0 := Lib.hid (below_alloc (Below.refl w.heap.size w) (.cells #[.int .i64 b.peer, .int .i64 b.lane, .int .i64 b.size, .int .i64 b.id] 29))
  rcases h1 : bvB b.peer b.lane b.size b.id with _ | _
  · go_enter Try.func44, Try.ntmps44
    go_wp2_with fail
    refine (bvI_any b.peer b.lane b.size b.id _).mono ?_
    rintro e w1 ⟨rfl, hb⟩
    rw [h1]
    have B1 := Lib.hid (below_seq W0.out hb)
    clear hb
    go_wp2
    go_ret
    exact ⟨rfl, B1.out⟩
  · have H1 := Lib.hid h1
    clear h1
    go_enter Try.func44, Try.ntmps44
    go_wp2_with fail
    refine (bvI_any b.peer b.lane b.size b.id _).mono ?_
    rintro e w1 ⟨rfl, hb⟩
    rw [H1.out]
    have B1 := Lib.hid (below_seq W0.out hb)
    have c3 : w1.cell? ⟨w.heap.size, 3, none⟩ = some (.int .i64 b.id) := blk_cell (blk_below B0.out hb (by simp)) 3
    clear hb
    go_wp2
    go_ret
    exact ⟨rfl, B1.out⟩
set_option maxRecDepth 100000 in
set_option maxHeartbeats 1000000 in
theorem sbI_any (b : Pkt) (n : Int) (w : World) :
    Calls Try.prog 45 #[.agg #[.int .i64 b.peer, .int .i64 b.lane, .int .i64 b.size, .int .i64 b.id], .int .i64 n] w fun e w' => e = .returned (.bool (scB b.peer b.lane b.size b.id && decide (b.lane ≤ n))) ∧ Below w.heap.size w w' := by
  have B0 := Lib.hid (blk_new w 70 #[.int .i64 b.peer, .int .i64 b.lane, .int .i64 b.size, .int .i64 b.id])
  have W0 := Lib.hid (below_alloc (Below.refl w.heap.size w) (.cells #[.int .i64 b.peer, .int .i64 b.lane, .int .i64 b.size, .int .i64 b.id] 70))
  rcases h1 : scB b.peer b.lane b.size b.id with _ | _
  · go_enter Try.func45, Try.ntmps45
    go_wp2_with fail
    refine (scI_any b.peer b.lane b.size b.id _).mono ?_
    rintro e w1 ⟨rfl, hb⟩
    rw [h1]
    have B1 := Lib.hid (below_seq W0.out hb)
    clear hb
    go_wp2
    go_ret
    exact ⟨rfl, B1.out⟩
  · have H1 := Lib.hid h1
    clear h1
    go_enter Try.func45, Try.ntmps45
    go_wp2_with fail
    refine (scI_any b.peer b.lane b.size b.id _).mono ?_
    rintro e w1 ⟨rfl, hb⟩
    rw [H1.out]
    have B1 := Lib.hid (below_seq W0.out hb)
    have c1 : w1.cell? ⟨w.heap.size, 1, none⟩ = some (.int .i64 b.lane) := blk_cell (blk_below B0.out hb (by simp)) 1
    clear hb
    go_wp2
    go_ret
    exact ⟨rfl, B1.out⟩
def GvRel (w : World) (g : Gd) (h : Gh) (i : Value) (wr : World) : Prop := ∃ k : Nat, k ≤ 8 ∧ i = .int .i64 (k : Int) ∧ GvK g k ∧ BG w g h wr
set_option maxRecDepth 100000 in
set_option maxHeartbeats 8000000 in
theorem gvI_any (g : Gd) (h : Gh) (w : World) (G : GR w h g) :
    Calls Try.prog 17 #[.agg (gcs g h)] w fun e w' => e = .returned (.bool (gvB g)) ∧ Below w.heap.size w w' := by
  obtain ⟨E, ne, ce, U, nu, cu, A, n, c, B, m, d, C, o, f, S, ns, cs⟩ := h
  have H := Lib.hid G
  have B0 := Lib.hid (bg_start w g ⟨E, ne, ce, U, nu, cu, A, n, c, B, m, d, C, o, f, S, ns, cs⟩)
  have LE : g.each.length = ne := G.e.1
  have LS : g.sc.length = ns := G.s.1
  clear G
  obtain ⟨x0, x1, x2, x3, x4, x5, x6, x7, x8, x9, x10, x11, x12⟩ := gc_blk (B0.out.bx)
  rcases hT : inB g.tm 0 1000000 with _ | _
  · have HE := Lib.hid (gv_no (gv_tm hT))
    go_enter Try.func17, Try.ntmps17
    go_wp2_with (go_at_call 43; refine (within_any _ _ _ _).mono ?_; rintro e w' ⟨rfl, rfl⟩; rw [hT])
    go_ret
    exact ⟨ret_bool HE.out, B0.out.b⟩
  have HT := Lib.hid hT
  go_enter Try.func17, Try.ntmps17
  go_wp2_with (go_at_call 43; refine (within_any _ _ _ _).mono ?_; rintro e w' ⟨rfl, rfl⟩; rw [hT])
  refine (bbI_any g.all g.tm _).mono ?_
  rintro e w1 ⟨rfl, hb⟩
  rw [← bk_split HT.out]
  have B1 := Lib.hid (bg_below B0.out hb)
  clear hb hT
  clear x0 x1 x2 x3 x4 x5 x6 x7 x8 x9 x10 x11 x12
  obtain ⟨x0, x1, x2, x3, x4, x5, x6, x7, x8, x9, x10, x11, x12⟩ := gc_blk (B1.out.bx)
  rcases hA : bkB g.tm g.all with _ | _
  · have HE := Lib.hid (gv_no (g := g) fun v => by have := v.al; rw [hA] at this; cases this)
    go_wp2
    go_ret
    exact ⟨ret_bool HE.out, B1.out.b⟩
  have HA := Lib.hid hA
  clear hA
  by_cases hne : ne = 8
  case neg =>
    have HE := Lib.hid (gv_no (g := g) fun v => by have := v.ne; omega)
    have q1 : ¬ ((ne : Nat) : Int) = 8 := by omega
    go_wp2
    go_ret
    exact ⟨ret_bool HE.out, B1.out.b⟩
  by_cases hns : ns = 8
  case neg =>
    have HE := Lib.hid (gv_no (g := g) fun v => by have := v.ns; omega)
    have q1 : ¬ ((ns : Nat) : Int) = 8 := by omega
    subst hne
    go_wp2
    go_ret
    exact ⟨ret_bool HE.out, B1.out.b⟩
  subst hne hns
  have LL := Lib.hid (And.intro LE LS)
  have R0 : Hid (GvRel w g ⟨E, 8, ce, U, nu, cu, A, n, c, B, m, d, C, o, f, S, 8, cs⟩ (.int .i64 0) w1) := Lib.hid ⟨0, Nat.zero_le _, rfl, gvk_zero g, B1.out⟩
  clear LE LS
  go_wp2
  clear x0 x1 x2 x3 x4 x5 x6 x7 x8 x9 x10 x11 x12
  go_loopw [26] (fun i wr => GvRel w g ⟨E, 8, ce, U, nu, cu, A, n, c, B, m, d, C, o, f, S, 8, cs⟩ i wr) (fun i _ => 8 - (intOf i).toNat)
  case atStart => exact R0.out
  case round =>
    obtain ⟨k, hk, rfl, hV, hB⟩ := hrel
    have HV := Lib.hid hV
    have HB := Lib.hid hB
    have zb := bg_lt hB
    clear R0 hV hB
    by_cases hlt : k < 8
    · have HG := Lib.hid (gr_below H.out HB.out.b)
      obtain ⟨b1, f1, y, e1, hb1, hy, c0, c1, c2, c3⟩ := pr_at HG.out.e hlt
      obtain ⟨b2, f2, z, e2, hb2, hz, d0, d1, d2, d3⟩ := pr_at HG.out.s hlt
      obtain rfl : E = some ⟨b1, f1, none⟩ := e1
      obtain rfl : S = some ⟨b2, f2, none⟩ := e2
      have HY := Lib.hid hy
      have HZ := Lib.hid hz
      have k0 : (0 : Int) ≤ (k : Int) := by omega
      have k1 : (k : Int) < 8 := by omega
      have CS := Lib.hid (show ∀ W, Below wr.heap.size wr W → ((W.cell? ⟨w.heap.size, 0, none⟩ = some (.int .i64 g.tm) ∧ W.cell? ⟨w.heap.size, 1, none⟩ = some (.int .i64 g.all.peer) ∧ W.cell? ⟨w.heap.size, 2, none⟩ = some (.int .i64 g.all.lane) ∧ W.cell? ⟨w.heap.size, 3, none⟩ = some (.int .i64 g.all.size) ∧ W.cell? ⟨w.heap.size, 4, none⟩ = some (.int .i64 g.all.id) ∧ W.cell? ⟨w.heap.size, 5, none⟩ = some (.slice (some ⟨b1, f1, none⟩) 8 ce) ∧ W.cell? ⟨w.heap.size, 6, none⟩ = some (.int .i64 g.lim) ∧ W.cell? ⟨w.heap.size, 7, none⟩ = some (.int .i64 g.ea) ∧ W.cell? ⟨w.heap.size, 8, none⟩ = some (.slice U nu cu) ∧ W.cell? ⟨w.heap.size, 9, none⟩ = some (.slice A n c) ∧ W.cell? ⟨w.heap.size, 10, none⟩ = some (.slice B m d) ∧ W.cell? ⟨w.heap.size, 11, none⟩ = some (.slice C o f) ∧ W.cell? ⟨w.heap.size, 12, none⟩ = some (.slice (some ⟨b2, f2, none⟩) 8 cs)) ∧ W.cell? ⟨b1, f1 + k * 4, none⟩ = some (.int .i64 y.peer) ∧ W.cell? ⟨b1, f1 + k * 4 + 1, none⟩ = some (.int .i64 y.lane) ∧ W.cell? ⟨b1, f1 + k * 4 + 2, none⟩ = some (.int .i64 y.size) ∧ W.cell? ⟨b1, f1 + k * 4 + 3, none⟩ = some (.int .i64 y.id) ∧ W.cell? ⟨b2, f2 + k * 4, none⟩ = some (.int .i64 z.peer) ∧ W.cell? ⟨b2, f2 + k * 4 + 1, none⟩ = some (.int .i64 z.lane) ∧ W.cell? ⟨b2, f2 + k * 4 + 2, none⟩ = some (.int .i64 z.size) ∧ W.cell? ⟨b2, f2 + k * 4 + 3, none⟩ = some (.int .i64 z.id) ∧ Below wr.heap.size wr W) from fun W hb => ⟨gcj (blk_below HB.out.bx hb zb), ((bcell hb).1 _ _ hb1).trans c0, ((bcell hb).1 _ _ hb1).trans c1, ((bcell hb).1 _ _ hb1).trans c2, ((bcell hb).1 _ _ hb1).trans c3, ((bcell hb).1 _ _ hb2).trans d0, ((bcell hb).1 _ _ hb2).trans d1, ((bcell hb).1 _ _ hb2).trans d2, ((bcell hb).1 _ _ hb2).trans d3, hb⟩)
      clear hy hz c0 c1 c2 c3 d0 d1 d2 d3
      rcases hy1 : bkB g.tm y with _ | _
      · skip
        have HE := Lib.hid (gv_no (g := g) fun v => by have := v.ea y (List.mem_of_getElem? HY.out); rw [hy1] at this; cases this)
        have HBY := Lib.hid hy1
        clear hy1
        have hS := CS.out _ (Below.drew (Below.refl wr.heap.size wr))
        go_wp2_with fail
        refine wp_region_held_drew (S := (fun w' : World => ((w'.cell? ⟨w.heap.size, 0, none⟩ = some (.int .i64 g.tm) ∧ w'.cell? ⟨w.heap.size, 1, none⟩ = some (.int .i64 g.all.peer) ∧ w'.cell? ⟨w.heap.size, 2, none⟩ = some (.int .i64 g.all.lane) ∧ w'.cell? ⟨w.heap.size, 3, none⟩ = some (.int .i64 g.all.size) ∧ w'.cell? ⟨w.heap.size, 4, none⟩ = some (.int .i64 g.all.id) ∧ w'.cell? ⟨w.heap.size, 5, none⟩ = some (.slice (some ⟨b1, f1, none⟩) 8 ce) ∧ w'.cell? ⟨w.heap.size, 6, none⟩ = some (.int .i64 g.lim) ∧ w'.cell? ⟨w.heap.size, 7, none⟩ = some (.int .i64 g.ea) ∧ w'.cell? ⟨w.heap.size, 8, none⟩ = some (.slice U nu cu) ∧ w'.cell? ⟨w.heap.size, 9, none⟩ = some (.slice A n c) ∧ w'.cell? ⟨w.heap.size, 10, none⟩ = some (.slice B m d) ∧ w'.cell? ⟨w.heap.size, 11, none⟩ = some (.slice C o f) ∧ w'.cell? ⟨w.heap.size, 12, none⟩ = some (.slice (some ⟨b2, f2, none⟩) 8 cs)) ∧ w'.cell? ⟨b1, f1 + k * 4, none⟩ = some (.int .i64 y.peer) ∧ w'.cell? ⟨b1, f1 + k * 4 + 1, none⟩ = some (.int .i64 y.lane) ∧ w'.cell? ⟨b1, f1 + k * 4 + 2, none⟩ = some (.int .i64 y.size) ∧ w'.cell? ⟨b1, f1 + k * 4 + 3, none⟩ = some (.int .i64 y.id) ∧ w'.cell? ⟨b2, f2 + k * 4, none⟩ = some (.int .i64 z.peer) ∧ w'.cell? ⟨b2, f2 + k * 4 + 1, none⟩ = some (.int .i64 z.lane) ∧ w'.cell? ⟨b2, f2 + k * 4 + 2, none⟩ = some (.int .i64 z.size) ∧ w'.cell? ⟨b2, f2 + k * 4 + 3, none⟩ = some (.int .i64 z.id) ∧ Below wr.heap.size wr w'))) (by kernel_rfl) hS (fun hH => ?_)
        refine wpAnyH_take (i := 0) (oi := { dst := some 29, op := Op.fieldAddr 38 (Operand.tmp 1) 2, type := 0, pos := "l8_guards.go:71", after := #[], guard := none }) (v := ?_) rfl (by kernel_rfl) (by kernel_rfl) (by kernel_rfl) (fun _ _ _ h => h) (Or.inl ⟨by rfl, ?_⟩) hS ?_
        rotate_left
        · (intro w9 hSw; (try dsimp only at hSw); go_simp; try with_reducible rfl)
        try simp only [Act.put, List.setIfInBounds_toArray, List.set_cons_zero, List.set_cons_succ]
        refine wpAnyH_take (i := 1) (oi := { dst := some 30, op := Op.load 30 (Operand.tmp 29), type := 30, pos := "l8_guards.go:71", after := #[{ on := 0, ground := Ground.data }], guard := none }) (v := ?_) rfl (by kernel_rfl) (by kernel_rfl) (by kernel_rfl) (fun _ _ _ h => h) (Or.inl ⟨by rfl, ?_⟩) hS ?_
        rotate_left
        · (intro w9 hSw; (try dsimp only at hSw); go_simp; try with_reducible rfl)
        try simp only [Act.put, List.setIfInBounds_toArray, List.set_cons_zero, List.set_cons_succ]
        refine wpAnyH_take (i := 2) (oi := { dst := some 31, op := Op.move (Operand.tmp 3), type := 3, pos := "l8_guards.go:71", after := #[], guard := none }) (v := ?_) rfl (by kernel_rfl) (by kernel_rfl) (by kernel_rfl) (fun _ _ _ h => h) (Or.inl ⟨by rfl, ?_⟩) hS ?_
        rotate_left
        · (intro w9 hSw; (try dsimp only at hSw); go_simp; try with_reducible rfl)
        try simp only [Act.put, List.setIfInBounds_toArray, List.set_cons_zero, List.set_cons_succ]
        refine wpAnyH_take (i := 3) (oi := { dst := some 32, op := Op.indexAddr 30 (Operand.tmp 30) (Operand.tmp 31), type := 0, pos := "l8_guards.go:71", after := #[{ on := 1, ground := Ground.data }, { on := 2, ground := Ground.data }], guard := none }) (v := ?_) rfl (by kernel_rfl) (by kernel_rfl) (by kernel_rfl) (fun _ _ _ h => h) (Or.inl ⟨by rfl, ?_⟩) hS ?_
        rotate_left
        · (intro w9 hSw; (try dsimp only at hSw); go_simp; try with_reducible rfl)
        try simp only [Act.put, List.setIfInBounds_toArray, List.set_cons_zero, List.set_cons_succ]
        refine wpAnyH_take (i := 4) (oi := { dst := some 33, op := Op.load 29 (Operand.tmp 32), type := 29, pos := "l8_guards.go:71", after := #[{ on := 3, ground := Ground.data }], guard := none }) (v := ?_) rfl (by kernel_rfl) (by kernel_rfl) (by kernel_rfl) (fun _ _ _ h => h) (Or.inl ⟨by rfl, ?_⟩) hS ?_
        rotate_left
        · (intro w9 hSw; (try dsimp only at hSw); go_simp; try with_reducible rfl)
        try simp only [Act.put, List.setIfInBounds_toArray, List.set_cons_zero, List.set_cons_succ]
        refine wpAnyH_take (i := 5) (oi := { dst := some 34, op := Op.fieldAddr 38 (Operand.tmp 1) 0, type := 0, pos := "l8_guards.go:71", after := #[], guard := none }) (v := ?_) rfl (by kernel_rfl) (by kernel_rfl) (by kernel_rfl) (fun _ _ _ h => h) (Or.inl ⟨by rfl, ?_⟩) hS ?_
        rotate_left
        · (intro w9 hSw; (try dsimp only at hSw); go_simp; try with_reducible rfl)
        try simp only [Act.put, List.setIfInBounds_toArray, List.set_cons_zero, List.set_cons_succ]
        refine wpAnyH_take (i := 6) (oi := { dst := some 35, op := Op.load 3 (Operand.tmp 34), type := 3, pos := "l8_guards.go:71", after := #[{ on := 5, ground := Ground.data }], guard := none }) (v := ?_) rfl (by kernel_rfl) (by kernel_rfl) (by kernel_rfl) (fun _ _ _ h => h) (Or.inl ⟨by rfl, ?_⟩) hS ?_
        rotate_left
        · (intro w9 hSw; (try dsimp only at hSw); go_simp; try with_reducible rfl)
        try simp only [Act.put, List.setIfInBounds_toArray, List.set_cons_zero, List.set_cons_succ]
        refine wpAnyH_ready (rs := [7]) (by kernel_rfl) (by simp) ?_
        refine AllReadyH.cons (o := { dst := some 36, op := Op.call { callee := Callee.value (Operand.func 44), args := #[Operand.tmp 33, Operand.tmp 35], argTypes := #[29, 3] }, type := 4, pos := "l8_guards.go:71", after := #[{ on := 4, ground := Ground.data }, { on := 6, ground := Ground.data }], guard := none }) rfl (fun K hK => ?_) AllReadyH.nil
        go_simp
        go_at_call 44
        refine (bbI_any y g.tm _).mono ?_
        rintro e w3 ⟨rfl, hb3⟩
        rw [← bk_split HT.out, HBY.out]
        have B3 := Lib.hid (show Below wr.heap.size wr w3 from below_seq (Below.drew (Below.refl _ _)) hb3)
        have hS3 := CS.out _ B3.out
        clear hb3
        refine hK.out _ _ hS3 (fun hH => ?_)
        clear hK K
        try simp only [Act.put, List.setIfInBounds_toArray, List.set_cons_zero, List.set_cons_succ]
        refine wpAnyH_take (i := 8) (oi := { dst := some 37, op := Op.unOp UnOp.not 4 (Operand.tmp 36), type := 4, pos := "l8_guards.go:71", after := #[{ on := 7, ground := Ground.data }], guard := none }) (v := ?_) rfl (by kernel_rfl) (by kernel_rfl) (by kernel_rfl) (fun _ _ _ h => h) (Or.inl ⟨by rfl, ?_⟩) hS3 ?_
        rotate_left
        · (intro w9 hSw; (try dsimp only at hSw); go_simp; try with_reducible rfl)
        try simp only [Act.put, List.setIfInBounds_toArray, List.set_cons_zero, List.set_cons_succ]
        refine wpAnyH_take (i := 9) (oi := { dst := some 38, op := Op.move (Operand.tmp 37), type := 4, pos := "l8_guards.go:71", after := #[{ on := 8, ground := Ground.data }, { on := 7, ground := Ground.chain }], guard := none }) (v := ?_) rfl (by kernel_rfl) (by kernel_rfl) (by kernel_rfl) (fun _ _ _ h => h) (Or.inl ⟨by rfl, ?_⟩) hS3 ?_
        rotate_left
        · (intro w9 hSw; (try dsimp only at hSw); go_simp; try with_reducible rfl)
        try simp only [Act.put, List.setIfInBounds_toArray, List.set_cons_zero, List.set_cons_succ]
        refine wpAnyH_take (i := 10) (oi := { dst := some 39, op := Op.fieldAddr 38 (Operand.tmp 1) 5, type := 0, pos := "l8_guards.go:71", after := #[{ on := 9, ground := Ground.guard }], guard := some (9, false) }) (v := undef) rfl (by kernel_rfl) (by kernel_rfl) (by kernel_rfl) (fun _ _ _ h => h) (Or.inr ⟨by rfl, rfl⟩) hS3 ?_
        try simp only [Act.put, List.setIfInBounds_toArray, List.set_cons_zero, List.set_cons_succ]
        refine wpAnyH_take (i := 11) (oi := { dst := some 40, op := Op.load 36 (Operand.tmp 39), type := 36, pos := "l8_guards.go:71", after := #[{ on := 10, ground := Ground.data }, { on := 9, ground := Ground.guard }], guard := some (9, false) }) (v := undef) rfl (by kernel_rfl) (by kernel_rfl) (by kernel_rfl) (fun _ _ _ h => h) (Or.inr ⟨by rfl, rfl⟩) hS3 ?_
        try simp only [Act.put, List.setIfInBounds_toArray, List.set_cons_zero, List.set_cons_succ]
        refine wpAnyH_take (i := 12) (oi := { dst := some 41, op := Op.move (Operand.tmp 3), type := 3, pos := "l8_guards.go:71", after := #[{ on := 9, ground := Ground.guard }], guard := some (9, false) }) (v := undef) rfl (by kernel_rfl) (by kernel_rfl) (by kernel_rfl) (fun _ _ _ h => h) (Or.inr ⟨by rfl, rfl⟩) hS3 ?_
        try simp only [Act.put, List.setIfInBounds_toArray, List.set_cons_zero, List.set_cons_succ]
        refine wpAnyH_take (i := 13) (oi := { dst := some 42, op := Op.indexAddr 36 (Operand.tmp 40) (Operand.tmp 41), type := 0, pos := "l8_guards.go:71", after := #[{ on := 11, ground := Ground.data }, { on := 12, ground := Ground.data }, { on := 9, ground := Ground.guard }], guard := some (9, false) }) (v := undef) rfl (by kernel_rfl) (by kernel_rfl) (by kernel_rfl) (fun _ _ _ h => h) (Or.inr ⟨by rfl, rfl⟩) hS3 ?_
        try simp only [Act.put, List.setIfInBounds_toArray, List.set_cons_zero, List.set_cons_succ]
        refine wpAnyH_take (i := 14) (oi := { dst := some 43, op := Op.load 70 (Operand.tmp 42), type := 70, pos := "l8_guards.go:71", after := #[{ on := 13, ground := Ground.data }, { on := 9, ground := Ground.guard }], guard := some (9, false) }) (v := undef) rfl (by kernel_rfl) (by kernel_rfl) (by kernel_rfl) (fun _ _ _ h => h) (Or.inr ⟨by rfl, rfl⟩) hS3 ?_
        try simp only [Act.put, List.setIfInBounds_toArray, List.set_cons_zero, List.set_cons_succ]
        refine wpAnyH_take (i := 15) (oi := { dst := some 44, op := Op.fieldAddr 38 (Operand.tmp 1) 0, type := 0, pos := "l8_guards.go:71", after := #[{ on := 9, ground := Ground.guard }], guard := some (9, false) }) (v := undef) rfl (by kernel_rfl) (by kernel_rfl) (by kernel_rfl) (fun _ _ _ h => h) (Or.inr ⟨by rfl, rfl⟩) hS3 ?_
        try simp only [Act.put, List.setIfInBounds_toArray, List.set_cons_zero, List.set_cons_succ]
        refine wpAnyH_take (i := 16) (oi := { dst := some 45, op := Op.load 3 (Operand.tmp 44), type := 3, pos := "l8_guards.go:71", after := #[{ on := 15, ground := Ground.data }, { on := 9, ground := Ground.guard }], guard := some (9, false) }) (v := undef) rfl (by kernel_rfl) (by kernel_rfl) (by kernel_rfl) (fun _ _ _ h => h) (Or.inr ⟨by rfl, rfl⟩) hS3 ?_
        try simp only [Act.put, List.setIfInBounds_toArray, List.set_cons_zero, List.set_cons_succ]
        refine wpAnyH_take (i := 17) (oi := { dst := some 46, op := Op.call { callee := Callee.value (Operand.func 45), args := #[Operand.tmp 43, Operand.tmp 45], argTypes := #[70, 3] }, type := 4, pos := "l8_guards.go:71", after := #[{ on := 14, ground := Ground.data }, { on := 16, ground := Ground.data }, { on := 9, ground := Ground.chain }, { on := 9, ground := Ground.guard }], guard := some (9, false) }) (v := undef) rfl (by kernel_rfl) (by kernel_rfl) (by kernel_rfl) (fun _ _ _ h => h) (Or.inr ⟨by rfl, rfl⟩) hS3 ?_
        try simp only [Act.put, List.setIfInBounds_toArray, List.set_cons_zero, List.set_cons_succ]
        refine wpAnyH_take (i := 18) (oi := { dst := some 47, op := Op.unOp UnOp.not 4 (Operand.tmp 46), type := 4, pos := "l8_guards.go:71", after := #[{ on := 17, ground := Ground.data }, { on := 9, ground := Ground.guard }], guard := some (9, false) }) (v := undef) rfl (by kernel_rfl) (by kernel_rfl) (by kernel_rfl) (fun _ _ _ h => h) (Or.inr ⟨by rfl, rfl⟩) hS3 ?_
        try simp only [Act.put, List.setIfInBounds_toArray, List.set_cons_zero, List.set_cons_succ]
        refine wpAnyH_take (i := 19) (oi := { dst := some 48, op := Op.pick (Operand.tmp 38) (Operand.const (Value.bool true)) (Operand.tmp 47), type := 4, pos := "l8_guards.go:71", after := #[{ on := 9, ground := Ground.data }, { on := 18, ground := Ground.data }], guard := none }) (v := ?_) rfl (by kernel_rfl) (by kernel_rfl) (by kernel_rfl) (fun _ _ _ h => h) (Or.inl ⟨by rfl, ?_⟩) hS3 ?_
        rotate_left
        · (intro w9 hSw; (try dsimp only at hSw); go_simp; try with_reducible rfl)
        try simp only [Act.put, List.setIfInBounds_toArray, List.set_cons_zero, List.set_cons_succ]
        refine wpAnyH_done (by kernel_rfl) ?_ _
        go_wp2
        go_ret
        exact ⟨ret_bool HE.out, below_seq HB.out.b B3.out⟩
      have HBY := Lib.hid hy1
      clear hy1
      rcases hz1 : srB g.tm z with _ | _
      · skip
        have HE := Lib.hid (gv_no (g := g) fun v => by have := v.sa z (List.mem_of_getElem? HZ.out); rw [hz1] at this; cases this)
        have HBZ := Lib.hid hz1
        clear hz1
        have hS := CS.out _ (Below.drew (Below.refl wr.heap.size wr))
        go_wp2_with fail
        refine wp_region_held_drew (S := (fun w' : World => ((w'.cell? ⟨w.heap.size, 0, none⟩ = some (.int .i64 g.tm) ∧ w'.cell? ⟨w.heap.size, 1, none⟩ = some (.int .i64 g.all.peer) ∧ w'.cell? ⟨w.heap.size, 2, none⟩ = some (.int .i64 g.all.lane) ∧ w'.cell? ⟨w.heap.size, 3, none⟩ = some (.int .i64 g.all.size) ∧ w'.cell? ⟨w.heap.size, 4, none⟩ = some (.int .i64 g.all.id) ∧ w'.cell? ⟨w.heap.size, 5, none⟩ = some (.slice (some ⟨b1, f1, none⟩) 8 ce) ∧ w'.cell? ⟨w.heap.size, 6, none⟩ = some (.int .i64 g.lim) ∧ w'.cell? ⟨w.heap.size, 7, none⟩ = some (.int .i64 g.ea) ∧ w'.cell? ⟨w.heap.size, 8, none⟩ = some (.slice U nu cu) ∧ w'.cell? ⟨w.heap.size, 9, none⟩ = some (.slice A n c) ∧ w'.cell? ⟨w.heap.size, 10, none⟩ = some (.slice B m d) ∧ w'.cell? ⟨w.heap.size, 11, none⟩ = some (.slice C o f) ∧ w'.cell? ⟨w.heap.size, 12, none⟩ = some (.slice (some ⟨b2, f2, none⟩) 8 cs)) ∧ w'.cell? ⟨b1, f1 + k * 4, none⟩ = some (.int .i64 y.peer) ∧ w'.cell? ⟨b1, f1 + k * 4 + 1, none⟩ = some (.int .i64 y.lane) ∧ w'.cell? ⟨b1, f1 + k * 4 + 2, none⟩ = some (.int .i64 y.size) ∧ w'.cell? ⟨b1, f1 + k * 4 + 3, none⟩ = some (.int .i64 y.id) ∧ w'.cell? ⟨b2, f2 + k * 4, none⟩ = some (.int .i64 z.peer) ∧ w'.cell? ⟨b2, f2 + k * 4 + 1, none⟩ = some (.int .i64 z.lane) ∧ w'.cell? ⟨b2, f2 + k * 4 + 2, none⟩ = some (.int .i64 z.size) ∧ w'.cell? ⟨b2, f2 + k * 4 + 3, none⟩ = some (.int .i64 z.id) ∧ Below wr.heap.size wr w'))) (by kernel_rfl) hS (fun hH => ?_)
        refine wpAnyH_take (i := 0) (oi := { dst := some 29, op := Op.fieldAddr 38 (Operand.tmp 1) 2, type := 0, pos := "l8_guards.go:71", after := #[], guard := none }) (v := ?_) rfl (by kernel_rfl) (by kernel_rfl) (by kernel_rfl) (fun _ _ _ h => h) (Or.inl ⟨by rfl, ?_⟩) hS ?_
        rotate_left
        · (intro w9 hSw; (try dsimp only at hSw); go_simp; try with_reducible rfl)
        try simp only [Act.put, List.setIfInBounds_toArray, List.set_cons_zero, List.set_cons_succ]
        refine wpAnyH_take (i := 1) (oi := { dst := some 30, op := Op.load 30 (Operand.tmp 29), type := 30, pos := "l8_guards.go:71", after := #[{ on := 0, ground := Ground.data }], guard := none }) (v := ?_) rfl (by kernel_rfl) (by kernel_rfl) (by kernel_rfl) (fun _ _ _ h => h) (Or.inl ⟨by rfl, ?_⟩) hS ?_
        rotate_left
        · (intro w9 hSw; (try dsimp only at hSw); go_simp; try with_reducible rfl)
        try simp only [Act.put, List.setIfInBounds_toArray, List.set_cons_zero, List.set_cons_succ]
        refine wpAnyH_take (i := 2) (oi := { dst := some 31, op := Op.move (Operand.tmp 3), type := 3, pos := "l8_guards.go:71", after := #[], guard := none }) (v := ?_) rfl (by kernel_rfl) (by kernel_rfl) (by kernel_rfl) (fun _ _ _ h => h) (Or.inl ⟨by rfl, ?_⟩) hS ?_
        rotate_left
        · (intro w9 hSw; (try dsimp only at hSw); go_simp; try with_reducible rfl)
        try simp only [Act.put, List.setIfInBounds_toArray, List.set_cons_zero, List.set_cons_succ]
        refine wpAnyH_take (i := 3) (oi := { dst := some 32, op := Op.indexAddr 30 (Operand.tmp 30) (Operand.tmp 31), type := 0, pos := "l8_guards.go:71", after := #[{ on := 1, ground := Ground.data }, { on := 2, ground := Ground.data }], guard := none }) (v := ?_) rfl (by kernel_rfl) (by kernel_rfl) (by kernel_rfl) (fun _ _ _ h => h) (Or.inl ⟨by rfl, ?_⟩) hS ?_
        rotate_left
        · (intro w9 hSw; (try dsimp only at hSw); go_simp; try with_reducible rfl)
        try simp only [Act.put, List.setIfInBounds_toArray, List.set_cons_zero, List.set_cons_succ]
        refine wpAnyH_take (i := 4) (oi := { dst := some 33, op := Op.load 29 (Operand.tmp 32), type := 29, pos := "l8_guards.go:71", after := #[{ on := 3, ground := Ground.data }], guard := none }) (v := ?_) rfl (by kernel_rfl) (by kernel_rfl) (by kernel_rfl) (fun _ _ _ h => h) (Or.inl ⟨by rfl, ?_⟩) hS ?_
        rotate_left
        · (intro w9 hSw; (try dsimp only at hSw); go_simp; try with_reducible rfl)
        try simp only [Act.put, List.setIfInBounds_toArray, List.set_cons_zero, List.set_cons_succ]
        refine wpAnyH_take (i := 5) (oi := { dst := some 34, op := Op.fieldAddr 38 (Operand.tmp 1) 0, type := 0, pos := "l8_guards.go:71", after := #[], guard := none }) (v := ?_) rfl (by kernel_rfl) (by kernel_rfl) (by kernel_rfl) (fun _ _ _ h => h) (Or.inl ⟨by rfl, ?_⟩) hS ?_
        rotate_left
        · (intro w9 hSw; (try dsimp only at hSw); go_simp; try with_reducible rfl)
        try simp only [Act.put, List.setIfInBounds_toArray, List.set_cons_zero, List.set_cons_succ]
        refine wpAnyH_take (i := 6) (oi := { dst := some 35, op := Op.load 3 (Operand.tmp 34), type := 3, pos := "l8_guards.go:71", after := #[{ on := 5, ground := Ground.data }], guard := none }) (v := ?_) rfl (by kernel_rfl) (by kernel_rfl) (by kernel_rfl) (fun _ _ _ h => h) (Or.inl ⟨by rfl, ?_⟩) hS ?_
        rotate_left
        · (intro w9 hSw; (try dsimp only at hSw); go_simp; try with_reducible rfl)
        try simp only [Act.put, List.setIfInBounds_toArray, List.set_cons_zero, List.set_cons_succ]
        refine wpAnyH_ready (rs := [7]) (by kernel_rfl) (by simp) ?_
        refine AllReadyH.cons (o := { dst := some 36, op := Op.call { callee := Callee.value (Operand.func 44), args := #[Operand.tmp 33, Operand.tmp 35], argTypes := #[29, 3] }, type := 4, pos := "l8_guards.go:71", after := #[{ on := 4, ground := Ground.data }, { on := 6, ground := Ground.data }], guard := none }) rfl (fun K hK => ?_) AllReadyH.nil
        go_simp
        go_at_call 44
        refine (bbI_any y g.tm _).mono ?_
        rintro e w3 ⟨rfl, hb3⟩
        rw [← bk_split HT.out, HBY.out]
        have B3 := Lib.hid (show Below wr.heap.size wr w3 from below_seq (Below.drew (Below.refl _ _)) hb3)
        have hS3 := CS.out _ B3.out
        clear hb3
        refine hK.out _ _ hS3 (fun hH => ?_)
        clear hK K
        try simp only [Act.put, List.setIfInBounds_toArray, List.set_cons_zero, List.set_cons_succ]
        refine wpAnyH_take (i := 8) (oi := { dst := some 37, op := Op.unOp UnOp.not 4 (Operand.tmp 36), type := 4, pos := "l8_guards.go:71", after := #[{ on := 7, ground := Ground.data }], guard := none }) (v := ?_) rfl (by kernel_rfl) (by kernel_rfl) (by kernel_rfl) (fun _ _ _ h => h) (Or.inl ⟨by rfl, ?_⟩) hS3 ?_
        rotate_left
        · (intro w9 hSw; (try dsimp only at hSw); go_simp; try with_reducible rfl)
        try simp only [Act.put, List.setIfInBounds_toArray, List.set_cons_zero, List.set_cons_succ]
        refine wpAnyH_take (i := 9) (oi := { dst := some 38, op := Op.move (Operand.tmp 37), type := 4, pos := "l8_guards.go:71", after := #[{ on := 8, ground := Ground.data }, { on := 7, ground := Ground.chain }], guard := none }) (v := ?_) rfl (by kernel_rfl) (by kernel_rfl) (by kernel_rfl) (fun _ _ _ h => h) (Or.inl ⟨by rfl, ?_⟩) hS3 ?_
        rotate_left
        · (intro w9 hSw; (try dsimp only at hSw); go_simp; try with_reducible rfl)
        try simp only [Act.put, List.setIfInBounds_toArray, List.set_cons_zero, List.set_cons_succ]
        refine wpAnyH_take (i := 10) (oi := { dst := some 39, op := Op.fieldAddr 38 (Operand.tmp 1) 5, type := 0, pos := "l8_guards.go:71", after := #[{ on := 9, ground := Ground.guard }], guard := some (9, false) }) (v := ?_) rfl (by kernel_rfl) (by kernel_rfl) (by kernel_rfl) (fun _ _ _ h => h) (Or.inl ⟨by rfl, ?_⟩) hS3 ?_
        rotate_left
        · (intro w9 hSw; (try dsimp only at hSw); go_simp; try with_reducible rfl)
        try simp only [Act.put, List.setIfInBounds_toArray, List.set_cons_zero, List.set_cons_succ]
        refine wpAnyH_take (i := 11) (oi := { dst := some 40, op := Op.load 36 (Operand.tmp 39), type := 36, pos := "l8_guards.go:71", after := #[{ on := 10, ground := Ground.data }, { on := 9, ground := Ground.guard }], guard := some (9, false) }) (v := ?_) rfl (by kernel_rfl) (by kernel_rfl) (by kernel_rfl) (fun _ _ _ h => h) (Or.inl ⟨by rfl, ?_⟩) hS3 ?_
        rotate_left
        · (intro w9 hSw; (try dsimp only at hSw); go_simp; try with_reducible rfl)
        try simp only [Act.put, List.setIfInBounds_toArray, List.set_cons_zero, List.set_cons_succ]
        refine wpAnyH_take (i := 12) (oi := { dst := some 41, op := Op.move (Operand.tmp 3), type := 3, pos := "l8_guards.go:71", after := #[{ on := 9, ground := Ground.guard }], guard := some (9, false) }) (v := ?_) rfl (by kernel_rfl) (by kernel_rfl) (by kernel_rfl) (fun _ _ _ h => h) (Or.inl ⟨by rfl, ?_⟩) hS3 ?_
        rotate_left
        · (intro w9 hSw; (try dsimp only at hSw); go_simp; try with_reducible rfl)
        try simp only [Act.put, List.setIfInBounds_toArray, List.set_cons_zero, List.set_cons_succ]
        refine wpAnyH_take (i := 13) (oi := { dst := some 42, op := Op.indexAddr 36 (Operand.tmp 40) (Operand.tmp 41), type := 0, pos := "l8_guards.go:71", after := #[{ on := 11, ground := Ground.data }, { on := 12, ground := Ground.data }, { on := 9, ground := Ground.guard }], guard := some (9, false) }) (v := ?_) rfl (by kernel_rfl) (by kernel_rfl) (by kernel_rfl) (fun _ _ _ h => h) (Or.inl ⟨by rfl, ?_⟩) hS3 ?_
        rotate_left
        · (intro w9 hSw; (try dsimp only at hSw); go_simp; try with_reducible rfl)
        try simp only [Act.put, List.setIfInBounds_toArray, List.set_cons_zero, List.set_cons_succ]
        refine wpAnyH_take (i := 14) (oi := { dst := some 43, op := Op.load 70 (Operand.tmp 42), type := 70, pos := "l8_guards.go:71", after := #[{ on := 13, ground := Ground.data }, { on := 9, ground := Ground.guard }], guard := some (9, false) }) (v := ?_) rfl (by kernel_rfl) (by kernel_rfl) (by kernel_rfl) (fun _ _ _ h => h) (Or.inl ⟨by rfl, ?_⟩) hS3 ?_
        rotate_left
        · (intro w9 hSw; (try dsimp only at hSw); go_simp; try with_reducible rfl)
        try simp only [Act.put, List.setIfInBounds_toArray, List.set_cons_zero, List.set_cons_succ]
        refine wpAnyH_take (i := 15) (oi := { dst := some 44, op := Op.fieldAddr 38 (Operand.tmp 1) 0, type := 0, pos := "l8_guards.go:71", after := #[{ on := 9, ground := Ground.guard }], guard := some (9, false) }) (v := ?_) rfl (by kernel_rfl) (by kernel_rfl) (by kernel_rfl) (fun _ _ _ h => h) (Or.inl ⟨by rfl, ?_⟩) hS3 ?_
        rotate_left
        · (intro w9 hSw; (try dsimp only at hSw); go_simp; try with_reducible rfl)
        try simp only [Act.put, List.setIfInBounds_toArray, List.set_cons_zero, List.set_cons_succ]
        refine wpAnyH_take (i := 16) (oi := { dst := some 45, op := Op.load 3 (Operand.tmp 44), type := 3, pos := "l8_guards.go:71", after := #[{ on := 15, ground := Ground.data }, { on := 9, ground := Ground.guard }], guard := some (9, false) }) (v := ?_) rfl (by kernel_rfl) (by kernel_rfl) (by kernel_rfl) (fun _ _ _ h => h) (Or.inl ⟨by rfl, ?_⟩) hS3 ?_
        rotate_left
        · (intro w9 hSw; (try dsimp only at hSw); go_simp; try with_reducible rfl)
        try simp only [Act.put, List.setIfInBounds_toArray, List.set_cons_zero, List.set_cons_succ]
        refine wpAnyH_ready (rs := [17]) (by kernel_rfl) (by simp) ?_
        refine AllReadyH.cons (o := { dst := some 46, op := Op.call { callee := Callee.value (Operand.func 45), args := #[Operand.tmp 43, Operand.tmp 45], argTypes := #[70, 3] }, type := 4, pos := "l8_guards.go:71", after := #[{ on := 14, ground := Ground.data }, { on := 16, ground := Ground.data }, { on := 9, ground := Ground.chain }, { on := 9, ground := Ground.guard }], guard := some (9, false) }) rfl (fun K hK => ?_) AllReadyH.nil
        go_simp
        go_at_call 45
        refine (sbI_any z g.tm _).mono ?_
        rintro e w4 ⟨rfl, hb4⟩
        rw [← sr_split HT.out, HBZ.out]
        have B4 := Lib.hid (below_seq B3.out hb4)
        have hS4 := CS.out _ B4.out
        clear hb4
        refine hK.out _ _ hS4 (fun hH => ?_)
        clear hK K
        try simp only [Act.put, List.setIfInBounds_toArray, List.set_cons_zero, List.set_cons_succ]
        refine wpAnyH_take (i := 18) (oi := { dst := some 47, op := Op.unOp UnOp.not 4 (Operand.tmp 46), type := 4, pos := "l8_guards.go:71", after := #[{ on := 17, ground := Ground.data }, { on := 9, ground := Ground.guard }], guard := some (9, false) }) (v := ?_) rfl (by kernel_rfl) (by kernel_rfl) (by kernel_rfl) (fun _ _ _ h => h) (Or.inl ⟨by rfl, ?_⟩) hS4 ?_
        rotate_left
        · (intro w9 hSw; (try dsimp only at hSw); go_simp; try with_reducible rfl)
        try simp only [Act.put, List.setIfInBounds_toArray, List.set_cons_zero, List.set_cons_succ]
        refine wpAnyH_take (i := 19) (oi := { dst := some 48, op := Op.pick (Operand.tmp 38) (Operand.const (Value.bool true)) (Operand.tmp 47), type := 4, pos := "l8_guards.go:71", after := #[{ on := 9, ground := Ground.data }, { on := 18, ground := Ground.data }], guard := none }) (v := ?_) rfl (by kernel_rfl) (by kernel_rfl) (by kernel_rfl) (fun _ _ _ h => h) (Or.inl ⟨by rfl, ?_⟩) hS4 ?_
        rotate_left
        · (intro w9 hSw; (try dsimp only at hSw); go_simp; try with_reducible rfl)
        try simp only [Act.put, List.setIfInBounds_toArray, List.set_cons_zero, List.set_cons_succ]
        refine wpAnyH_done (by kernel_rfl) ?_ _
        go_wp2
        go_ret
        exact ⟨ret_bool HE.out, below_seq HB.out.b B4.out⟩
      · skip
        have HBZ := Lib.hid hz1
        clear hz1
        have HK : Hid (GvK g (k + 1)) := Lib.hid (gvk_step HV.out HY.out HZ.out HBY.out HBZ.out)
        have hS := CS.out _ (Below.drew (Below.refl wr.heap.size wr))
        go_wp2_with fail
        refine wp_region_held_drew (S := (fun w' : World => ((w'.cell? ⟨w.heap.size, 0, none⟩ = some (.int .i64 g.tm) ∧ w'.cell? ⟨w.heap.size, 1, none⟩ = some (.int .i64 g.all.peer) ∧ w'.cell? ⟨w.heap.size, 2, none⟩ = some (.int .i64 g.all.lane) ∧ w'.cell? ⟨w.heap.size, 3, none⟩ = some (.int .i64 g.all.size) ∧ w'.cell? ⟨w.heap.size, 4, none⟩ = some (.int .i64 g.all.id) ∧ w'.cell? ⟨w.heap.size, 5, none⟩ = some (.slice (some ⟨b1, f1, none⟩) 8 ce) ∧ w'.cell? ⟨w.heap.size, 6, none⟩ = some (.int .i64 g.lim) ∧ w'.cell? ⟨w.heap.size, 7, none⟩ = some (.int .i64 g.ea) ∧ w'.cell? ⟨w.heap.size, 8, none⟩ = some (.slice U nu cu) ∧ w'.cell? ⟨w.heap.size, 9, none⟩ = some (.slice A n c) ∧ w'.cell? ⟨w.heap.size, 10, none⟩ = some (.slice B m d) ∧ w'.cell? ⟨w.heap.size, 11, none⟩ = some (.slice C o f) ∧ w'.cell? ⟨w.heap.size, 12, none⟩ = some (.slice (some ⟨b2, f2, none⟩) 8 cs)) ∧ w'.cell? ⟨b1, f1 + k * 4, none⟩ = some (.int .i64 y.peer) ∧ w'.cell? ⟨b1, f1 + k * 4 + 1, none⟩ = some (.int .i64 y.lane) ∧ w'.cell? ⟨b1, f1 + k * 4 + 2, none⟩ = some (.int .i64 y.size) ∧ w'.cell? ⟨b1, f1 + k * 4 + 3, none⟩ = some (.int .i64 y.id) ∧ w'.cell? ⟨b2, f2 + k * 4, none⟩ = some (.int .i64 z.peer) ∧ w'.cell? ⟨b2, f2 + k * 4 + 1, none⟩ = some (.int .i64 z.lane) ∧ w'.cell? ⟨b2, f2 + k * 4 + 2, none⟩ = some (.int .i64 z.size) ∧ w'.cell? ⟨b2, f2 + k * 4 + 3, none⟩ = some (.int .i64 z.id) ∧ Below wr.heap.size wr w'))) (by kernel_rfl) hS (fun hH => ?_)
        refine wpAnyH_take (i := 0) (oi := { dst := some 29, op := Op.fieldAddr 38 (Operand.tmp 1) 2, type := 0, pos := "l8_guards.go:71", after := #[], guard := none }) (v := ?_) rfl (by kernel_rfl) (by kernel_rfl) (by kernel_rfl) (fun _ _ _ h => h) (Or.inl ⟨by rfl, ?_⟩) hS ?_
        rotate_left
        · (intro w9 hSw; (try dsimp only at hSw); go_simp; try with_reducible rfl)
        try simp only [Act.put, List.setIfInBounds_toArray, List.set_cons_zero, List.set_cons_succ]
        refine wpAnyH_take (i := 1) (oi := { dst := some 30, op := Op.load 30 (Operand.tmp 29), type := 30, pos := "l8_guards.go:71", after := #[{ on := 0, ground := Ground.data }], guard := none }) (v := ?_) rfl (by kernel_rfl) (by kernel_rfl) (by kernel_rfl) (fun _ _ _ h => h) (Or.inl ⟨by rfl, ?_⟩) hS ?_
        rotate_left
        · (intro w9 hSw; (try dsimp only at hSw); go_simp; try with_reducible rfl)
        try simp only [Act.put, List.setIfInBounds_toArray, List.set_cons_zero, List.set_cons_succ]
        refine wpAnyH_take (i := 2) (oi := { dst := some 31, op := Op.move (Operand.tmp 3), type := 3, pos := "l8_guards.go:71", after := #[], guard := none }) (v := ?_) rfl (by kernel_rfl) (by kernel_rfl) (by kernel_rfl) (fun _ _ _ h => h) (Or.inl ⟨by rfl, ?_⟩) hS ?_
        rotate_left
        · (intro w9 hSw; (try dsimp only at hSw); go_simp; try with_reducible rfl)
        try simp only [Act.put, List.setIfInBounds_toArray, List.set_cons_zero, List.set_cons_succ]
        refine wpAnyH_take (i := 3) (oi := { dst := some 32, op := Op.indexAddr 30 (Operand.tmp 30) (Operand.tmp 31), type := 0, pos := "l8_guards.go:71", after := #[{ on := 1, ground := Ground.data }, { on := 2, ground := Ground.data }], guard := none }) (v := ?_) rfl (by kernel_rfl) (by kernel_rfl) (by kernel_rfl) (fun _ _ _ h => h) (Or.inl ⟨by rfl, ?_⟩) hS ?_
        rotate_left
        · (intro w9 hSw; (try dsimp only at hSw); go_simp; try with_reducible rfl)
        try simp only [Act.put, List.setIfInBounds_toArray, List.set_cons_zero, List.set_cons_succ]
        refine wpAnyH_take (i := 4) (oi := { dst := some 33, op := Op.load 29 (Operand.tmp 32), type := 29, pos := "l8_guards.go:71", after := #[{ on := 3, ground := Ground.data }], guard := none }) (v := ?_) rfl (by kernel_rfl) (by kernel_rfl) (by kernel_rfl) (fun _ _ _ h => h) (Or.inl ⟨by rfl, ?_⟩) hS ?_
        rotate_left
        · (intro w9 hSw; (try dsimp only at hSw); go_simp; try with_reducible rfl)
        try simp only [Act.put, List.setIfInBounds_toArray, List.set_cons_zero, List.set_cons_succ]
        refine wpAnyH_take (i := 5) (oi := { dst := some 34, op := Op.fieldAddr 38 (Operand.tmp 1) 0, type := 0, pos := "l8_guards.go:71", after := #[], guard := none }) (v := ?_) rfl (by kernel_rfl) (by kernel_rfl) (by kernel_rfl) (fun _ _ _ h => h) (Or.inl ⟨by rfl, ?_⟩) hS ?_
        rotate_left
        · (intro w9 hSw; (try dsimp only at hSw); go_simp; try with_reducible rfl)
        try simp only [Act.put, List.setIfInBounds_toArray, List.set_cons_zero, List.set_cons_succ]
        refine wpAnyH_take (i := 6) (oi := { dst := some 35, op := Op.load 3 (Operand.tmp 34), type := 3, pos := "l8_guards.go:71", after := #[{ on := 5, ground := Ground.data }], guard := none }) (v := ?_) rfl (by kernel_rfl) (by kernel_rfl) (by kernel_rfl) (fun _ _ _ h => h) (Or.inl ⟨by rfl, ?_⟩) hS ?_
        rotate_left
        · (intro w9 hSw; (try dsimp only at hSw); go_simp; try with_reducible rfl)
        try simp only [Act.put, List.setIfInBounds_toArray, List.set_cons_zero, List.set_cons_succ]
        refine wpAnyH_ready (rs := [7]) (by kernel_rfl) (by simp) ?_
        refine AllReadyH.cons (o := { dst := some 36, op := Op.call { callee := Callee.value (Operand.func 44), args := #[Operand.tmp 33, Operand.tmp 35], argTypes := #[29, 3] }, type := 4, pos := "l8_guards.go:71", after := #[{ on := 4, ground := Ground.data }, { on := 6, ground := Ground.data }], guard := none }) rfl (fun K hK => ?_) AllReadyH.nil
        go_simp
        go_at_call 44
        refine (bbI_any y g.tm _).mono ?_
        rintro e w3 ⟨rfl, hb3⟩
        rw [← bk_split HT.out, HBY.out]
        have B3 := Lib.hid (show Below wr.heap.size wr w3 from below_seq (Below.drew (Below.refl _ _)) hb3)
        have hS3 := CS.out _ B3.out
        clear hb3
        refine hK.out _ _ hS3 (fun hH => ?_)
        clear hK K
        try simp only [Act.put, List.setIfInBounds_toArray, List.set_cons_zero, List.set_cons_succ]
        refine wpAnyH_take (i := 8) (oi := { dst := some 37, op := Op.unOp UnOp.not 4 (Operand.tmp 36), type := 4, pos := "l8_guards.go:71", after := #[{ on := 7, ground := Ground.data }], guard := none }) (v := ?_) rfl (by kernel_rfl) (by kernel_rfl) (by kernel_rfl) (fun _ _ _ h => h) (Or.inl ⟨by rfl, ?_⟩) hS3 ?_
        rotate_left
        · (intro w9 hSw; (try dsimp only at hSw); go_simp; try with_reducible rfl)
        try simp only [Act.put, List.setIfInBounds_toArray, List.set_cons_zero, List.set_cons_succ]
        refine wpAnyH_take (i := 9) (oi := { dst := some 38, op := Op.move (Operand.tmp 37), type := 4, pos := "l8_guards.go:71", after := #[{ on := 8, ground := Ground.data }, { on := 7, ground := Ground.chain }], guard := none }) (v := ?_) rfl (by kernel_rfl) (by kernel_rfl) (by kernel_rfl) (fun _ _ _ h => h) (Or.inl ⟨by rfl, ?_⟩) hS3 ?_
        rotate_left
        · (intro w9 hSw; (try dsimp only at hSw); go_simp; try with_reducible rfl)
        try simp only [Act.put, List.setIfInBounds_toArray, List.set_cons_zero, List.set_cons_succ]
        refine wpAnyH_take (i := 10) (oi := { dst := some 39, op := Op.fieldAddr 38 (Operand.tmp 1) 5, type := 0, pos := "l8_guards.go:71", after := #[{ on := 9, ground := Ground.guard }], guard := some (9, false) }) (v := ?_) rfl (by kernel_rfl) (by kernel_rfl) (by kernel_rfl) (fun _ _ _ h => h) (Or.inl ⟨by rfl, ?_⟩) hS3 ?_
        rotate_left
        · (intro w9 hSw; (try dsimp only at hSw); go_simp; try with_reducible rfl)
        try simp only [Act.put, List.setIfInBounds_toArray, List.set_cons_zero, List.set_cons_succ]
        refine wpAnyH_take (i := 11) (oi := { dst := some 40, op := Op.load 36 (Operand.tmp 39), type := 36, pos := "l8_guards.go:71", after := #[{ on := 10, ground := Ground.data }, { on := 9, ground := Ground.guard }], guard := some (9, false) }) (v := ?_) rfl (by kernel_rfl) (by kernel_rfl) (by kernel_rfl) (fun _ _ _ h => h) (Or.inl ⟨by rfl, ?_⟩) hS3 ?_
        rotate_left
        · (intro w9 hSw; (try dsimp only at hSw); go_simp; try with_reducible rfl)
        try simp only [Act.put, List.setIfInBounds_toArray, List.set_cons_zero, List.set_cons_succ]
        refine wpAnyH_take (i := 12) (oi := { dst := some 41, op := Op.move (Operand.tmp 3), type := 3, pos := "l8_guards.go:71", after := #[{ on := 9, ground := Ground.guard }], guard := some (9, false) }) (v := ?_) rfl (by kernel_rfl) (by kernel_rfl) (by kernel_rfl) (fun _ _ _ h => h) (Or.inl ⟨by rfl, ?_⟩) hS3 ?_
        rotate_left
        · (intro w9 hSw; (try dsimp only at hSw); go_simp; try with_reducible rfl)
        try simp only [Act.put, List.setIfInBounds_toArray, List.set_cons_zero, List.set_cons_succ]
        refine wpAnyH_take (i := 13) (oi := { dst := some 42, op := Op.indexAddr 36 (Operand.tmp 40) (Operand.tmp 41), type := 0, pos := "l8_guards.go:71", after := #[{ on := 11, ground := Ground.data }, { on := 12, ground := Ground.data }, { on := 9, ground := Ground.guard }], guard := some (9, false) }) (v := ?_) rfl (by kernel_rfl) (by kernel_rfl) (by kernel_rfl) (fun _ _ _ h => h) (Or.inl ⟨by rfl, ?_⟩) hS3 ?_
        rotate_left
        · (intro w9 hSw; (try dsimp only at hSw); go_simp; try with_reducible rfl)
        try simp only [Act.put, List.setIfInBounds_toArray, List.set_cons_zero, List.set_cons_succ]
        refine wpAnyH_take (i := 14) (oi := { dst := some 43, op := Op.load 70 (Operand.tmp 42), type := 70, pos := "l8_guards.go:71", after := #[{ on := 13, ground := Ground.data }, { on := 9, ground := Ground.guard }], guard := some (9, false) }) (v := ?_) rfl (by kernel_rfl) (by kernel_rfl) (by kernel_rfl) (fun _ _ _ h => h) (Or.inl ⟨by rfl, ?_⟩) hS3 ?_
        rotate_left
        · (intro w9 hSw; (try dsimp only at hSw); go_simp; try with_reducible rfl)
        try simp only [Act.put, List.setIfInBounds_toArray, List.set_cons_zero, List.set_cons_succ]
        refine wpAnyH_take (i := 15) (oi := { dst := some 44, op := Op.fieldAddr 38 (Operand.tmp 1) 0, type := 0, pos := "l8_guards.go:71", after := #[{ on := 9, ground := Ground.guard }], guard := some (9, false) }) (v := ?_) rfl (by kernel_rfl) (by kernel_rfl) (by kernel_rfl) (fun _ _ _ h => h) (Or.inl ⟨by rfl, ?_⟩) hS3 ?_
        rotate_left
        · (intro w9 hSw; (try dsimp only at hSw); go_simp; try with_reducible rfl)
        try simp only [Act.put, List.setIfInBounds_toArray, List.set_cons_zero, List.set_cons_succ]
        refine wpAnyH_take (i := 16) (oi := { dst := some 45, op := Op.load 3 (Operand.tmp 44), type := 3, pos := "l8_guards.go:71", after := #[{ on := 15, ground := Ground.data }, { on := 9, ground := Ground.guard }], guard := some (9, false) }) (v := ?_) rfl (by kernel_rfl) (by kernel_rfl) (by kernel_rfl) (fun _ _ _ h => h) (Or.inl ⟨by rfl, ?_⟩) hS3 ?_
        rotate_left
        · (intro w9 hSw; (try dsimp only at hSw); go_simp; try with_reducible rfl)
        try simp only [Act.put, List.setIfInBounds_toArray, List.set_cons_zero, List.set_cons_succ]
        refine wpAnyH_ready (rs := [17]) (by kernel_rfl) (by simp) ?_
        refine AllReadyH.cons (o := { dst := some 46, op := Op.call { callee := Callee.value (Operand.func 45), args := #[Operand.tmp 43, Operand.tmp 45], argTypes := #[70, 3] }, type := 4, pos := "l8_guards.go:71", after := #[{ on := 14, ground := Ground.data }, { on := 16, ground := Ground.data }, { on := 9, ground := Ground.chain }, { on := 9, ground := Ground.guard }], guard := some (9, false) }) rfl (fun K hK => ?_) AllReadyH.nil
        go_simp
        go_at_call 45
        refine (sbI_any z g.tm _).mono ?_
        rintro e w4 ⟨rfl, hb4⟩
        rw [← sr_split HT.out, HBZ.out]
        have B4 := Lib.hid (below_seq B3.out hb4)
        have hS4 := CS.out _ B4.out
        clear hb4
        refine hK.out _ _ hS4 (fun hH => ?_)
        clear hK K
        try simp only [Act.put, List.setIfInBounds_toArray, List.set_cons_zero, List.set_cons_succ]
        refine wpAnyH_take (i := 18) (oi := { dst := some 47, op := Op.unOp UnOp.not 4 (Operand.tmp 46), type := 4, pos := "l8_guards.go:71", after := #[{ on := 17, ground := Ground.data }, { on := 9, ground := Ground.guard }], guard := some (9, false) }) (v := ?_) rfl (by kernel_rfl) (by kernel_rfl) (by kernel_rfl) (fun _ _ _ h => h) (Or.inl ⟨by rfl, ?_⟩) hS4 ?_
        rotate_left
        · (intro w9 hSw; (try dsimp only at hSw); go_simp; try with_reducible rfl)
        try simp only [Act.put, List.setIfInBounds_toArray, List.set_cons_zero, List.set_cons_succ]
        refine wpAnyH_take (i := 19) (oi := { dst := some 48, op := Op.pick (Operand.tmp 38) (Operand.const (Value.bool true)) (Operand.tmp 47), type := 4, pos := "l8_guards.go:71", after := #[{ on := 9, ground := Ground.data }, { on := 18, ground := Ground.data }], guard := none }) (v := ?_) rfl (by kernel_rfl) (by kernel_rfl) (by kernel_rfl) (fun _ _ _ h => h) (Or.inl ⟨by rfl, ?_⟩) hS4 ?_
        rotate_left
        · (intro w9 hSw; (try dsimp only at hSw); go_simp; try with_reducible rfl)
        try simp only [Act.put, List.setIfInBounds_toArray, List.set_cons_zero, List.set_cons_succ]
        refine wpAnyH_done (by kernel_rfl) ?_ _
        have HB4 := Lib.hid (bg_below HB.out B4.out)
        go_wp2
        go_roundw
        case rel => exact ⟨k + 1, by omega, by go_num, HK.out, HB4.out⟩
        case measure => simp [intOf]; omega
    · obtain rfl : k = 8 := by omega
      have HG := Lib.hid (gr_below H.out HB.out.b)
      have KK := Lib.hid (gvk_all HV.out LL.out.1 LL.out.2)
      have CS := Lib.hid (show ∀ W, Below wr.heap.size wr W → ((W.cell? ⟨w.heap.size, 0, none⟩ = some (.int .i64 g.tm) ∧ W.cell? ⟨w.heap.size, 1, none⟩ = some (.int .i64 g.all.peer) ∧ W.cell? ⟨w.heap.size, 2, none⟩ = some (.int .i64 g.all.lane) ∧ W.cell? ⟨w.heap.size, 3, none⟩ = some (.int .i64 g.all.size) ∧ W.cell? ⟨w.heap.size, 4, none⟩ = some (.int .i64 g.all.id) ∧ W.cell? ⟨w.heap.size, 5, none⟩ = some (.slice E 8 ce) ∧ W.cell? ⟨w.heap.size, 6, none⟩ = some (.int .i64 g.lim) ∧ W.cell? ⟨w.heap.size, 7, none⟩ = some (.int .i64 g.ea) ∧ W.cell? ⟨w.heap.size, 8, none⟩ = some (.slice U nu cu) ∧ W.cell? ⟨w.heap.size, 9, none⟩ = some (.slice A n c) ∧ W.cell? ⟨w.heap.size, 10, none⟩ = some (.slice B m d) ∧ W.cell? ⟨w.heap.size, 11, none⟩ = some (.slice C o f) ∧ W.cell? ⟨w.heap.size, 12, none⟩ = some (.slice S 8 cs)) ∧ Below wr.heap.size wr W) from fun W hb => ⟨gcj (blk_below HB.out.bx hb zb), hb⟩)
      rcases h1 : acB g.lim g.ea g.us with _ | _
      · skip
        have HE := Lib.hid (gv_no (g := g) fun v => by have := v.ac; rw [h1] at this; cases this)
        have HAC := Lib.hid h1
        clear h1
        have hS := CS.out _ (Below.drew (Below.refl wr.heap.size wr))
        go_wp2_with fail
        refine wp_region_held_drew (S := (fun w' : World => ((w'.cell? ⟨w.heap.size, 0, none⟩ = some (.int .i64 g.tm) ∧ w'.cell? ⟨w.heap.size, 1, none⟩ = some (.int .i64 g.all.peer) ∧ w'.cell? ⟨w.heap.size, 2, none⟩ = some (.int .i64 g.all.lane) ∧ w'.cell? ⟨w.heap.size, 3, none⟩ = some (.int .i64 g.all.size) ∧ w'.cell? ⟨w.heap.size, 4, none⟩ = some (.int .i64 g.all.id) ∧ w'.cell? ⟨w.heap.size, 5, none⟩ = some (.slice E 8 ce) ∧ w'.cell? ⟨w.heap.size, 6, none⟩ = some (.int .i64 g.lim) ∧ w'.cell? ⟨w.heap.size, 7, none⟩ = some (.int .i64 g.ea) ∧ w'.cell? ⟨w.heap.size, 8, none⟩ = some (.slice U nu cu) ∧ w'.cell? ⟨w.heap.size, 9, none⟩ = some (.slice A n c) ∧ w'.cell? ⟨w.heap.size, 10, none⟩ = some (.slice B m d) ∧ w'.cell? ⟨w.heap.size, 11, none⟩ = some (.slice C o f) ∧ w'.cell? ⟨w.heap.size, 12, none⟩ = some (.slice S 8 cs)) ∧ Below wr.heap.size wr w'))) (by kernel_rfl) hS (fun hH => ?_)
        refine wpAnyH_take (i := 0) (oi := { dst := some 50, op := Op.fieldAddr 38 (Operand.tmp 1) 3, type := 0, pos := "l8_guards.go:76", after := #[], guard := none }) (v := ?_) rfl (by kernel_rfl) (by kernel_rfl) (by kernel_rfl) (fun _ _ _ h => h) (Or.inl ⟨by rfl, ?_⟩) hS ?_
        rotate_left
        · (intro w9 hSw; (try dsimp only at hSw); go_simp; try with_reducible rfl)
        try simp only [Act.put, List.setIfInBounds_toArray, List.set_cons_zero, List.set_cons_succ]
        refine wpAnyH_take (i := 1) (oi := { dst := some 51, op := Op.load 32 (Operand.tmp 50), type := 32, pos := "l8_guards.go:76", after := #[{ on := 0, ground := Ground.data }], guard := none }) (v := ?_) rfl (by kernel_rfl) (by kernel_rfl) (by kernel_rfl) (fun _ _ _ h => h) (Or.inl ⟨by rfl, ?_⟩) hS ?_
        rotate_left
        · (intro w9 hSw; (try dsimp only at hSw); go_simp; try with_reducible rfl)
        try simp only [Act.put, List.setIfInBounds_toArray, List.set_cons_zero, List.set_cons_succ]
        refine wpAnyH_ready (rs := [2]) (by kernel_rfl) (by simp) ?_
        refine AllReadyH.cons (o := { dst := some 52, op := Op.call { callee := Callee.value (Operand.func 46), args := #[Operand.tmp 51], argTypes := #[32] }, type := 4, pos := "l8_guards.go:76", after := #[{ on := 1, ground := Ground.data }], guard := none }) rfl (fun K hK => ?_) AllReadyH.nil
        go_simp
        go_at_call 46
        refine (acI_any g.lim g.ea U nu cu g.us _ (nr_below HG.out.u (Below.drew (Below.refl _ _))) (Nat.le_trans HG.out.ku (by omega))).mono ?_
        rintro e w3 ⟨rfl, hb3⟩
        rw [HAC.out]
        have B3 := Lib.hid (show Below wr.heap.size wr w3 from below_seq (Below.drew (Below.refl _ _)) hb3)
        have hS3 := CS.out _ B3.out
        clear hb3
        refine hK.out _ _ hS3 (fun hH => ?_)
        clear hK K
        try simp only [Act.put, List.setIfInBounds_toArray, List.set_cons_zero, List.set_cons_succ]
        refine wpAnyH_take (i := 3) (oi := { dst := some 53, op := Op.move (Operand.tmp 52), type := 4, pos := "l8_guards.go:76", after := #[{ on := 2, ground := Ground.data }, { on := 2, ground := Ground.chain }], guard := none }) (v := ?_) rfl (by kernel_rfl) (by kernel_rfl) (by kernel_rfl) (fun _ _ _ h => h) (Or.inl ⟨by rfl, ?_⟩) hS3 ?_
        rotate_left
        · (intro w9 hSw; (try dsimp only at hSw); go_simp; try with_reducible rfl)
        try simp only [Act.put, List.setIfInBounds_toArray, List.set_cons_zero, List.set_cons_succ]
        refine wpAnyH_take (i := 4) (oi := { dst := some 54, op := Op.fieldAddr 38 (Operand.tmp 1) 4, type := 0, pos := "l8_guards.go:76", after := #[{ on := 3, ground := Ground.guard }], guard := some (3, true) }) (v := undef) rfl (by kernel_rfl) (by kernel_rfl) (by kernel_rfl) (fun _ _ _ h => h) (Or.inr ⟨by rfl, rfl⟩) hS3 ?_
        try simp only [Act.put, List.setIfInBounds_toArray, List.set_cons_zero, List.set_cons_succ]
        refine wpAnyH_take (i := 5) (oi := { dst := some 55, op := Op.load 35 (Operand.tmp 54), type := 35, pos := "l8_guards.go:76", after := #[{ on := 4, ground := Ground.data }, { on := 3, ground := Ground.guard }], guard := some (3, true) }) (v := undef) rfl (by kernel_rfl) (by kernel_rfl) (by kernel_rfl) (fun _ _ _ h => h) (Or.inr ⟨by rfl, rfl⟩) hS3 ?_
        try simp only [Act.put, List.setIfInBounds_toArray, List.set_cons_zero, List.set_cons_succ]
        refine wpAnyH_take (i := 6) (oi := { dst := some 56, op := Op.call { callee := Callee.value (Operand.func 47), args := #[Operand.tmp 55], argTypes := #[35] }, type := 4, pos := "l8_guards.go:76", after := #[{ on := 5, ground := Ground.data }, { on := 3, ground := Ground.chain }, { on := 3, ground := Ground.guard }], guard := some (3, true) }) (v := undef) rfl (by kernel_rfl) (by kernel_rfl) (by kernel_rfl) (fun _ _ _ h => h) (Or.inr ⟨by rfl, rfl⟩) hS3 ?_
        try simp only [Act.put, List.setIfInBounds_toArray, List.set_cons_zero, List.set_cons_succ]
        refine wpAnyH_take (i := 7) (oi := { dst := some 57, op := Op.pick (Operand.tmp 53) (Operand.tmp 56) (Operand.const (Value.bool false)), type := 4, pos := "l8_guards.go:76", after := #[{ on := 3, ground := Ground.data }, { on := 6, ground := Ground.data }], guard := none }) (v := ?_) rfl (by kernel_rfl) (by kernel_rfl) (by kernel_rfl) (fun _ _ _ h => h) (Or.inl ⟨by rfl, ?_⟩) hS3 ?_
        rotate_left
        · (intro w9 hSw; (try dsimp only at hSw); go_simp; try with_reducible rfl)
        try simp only [Act.put, List.setIfInBounds_toArray, List.set_cons_zero, List.set_cons_succ]
        refine wpAnyH_take (i := 8) (oi := { dst := some 58, op := Op.move (Operand.tmp 57), type := 4, pos := "l8_guards.go:76", after := #[{ on := 7, ground := Ground.data }, { on := 6, ground := Ground.chain }], guard := none }) (v := ?_) rfl (by kernel_rfl) (by kernel_rfl) (by kernel_rfl) (fun _ _ _ h => h) (Or.inl ⟨by rfl, ?_⟩) hS3 ?_
        rotate_left
        · (intro w9 hSw; (try dsimp only at hSw); go_simp; try with_reducible rfl)
        try simp only [Act.put, List.setIfInBounds_toArray, List.set_cons_zero, List.set_cons_succ]
        refine wpAnyH_take (i := 9) (oi := { dst := some 59, op := Op.fieldAddr 38 (Operand.tmp 1) 3, type := 0, pos := "l8_guards.go:76", after := #[{ on := 8, ground := Ground.guard }], guard := some (8, true) }) (v := undef) rfl (by kernel_rfl) (by kernel_rfl) (by kernel_rfl) (fun _ _ _ h => h) (Or.inr ⟨by rfl, rfl⟩) hS3 ?_
        try simp only [Act.put, List.setIfInBounds_toArray, List.set_cons_zero, List.set_cons_succ]
        refine wpAnyH_take (i := 10) (oi := { dst := some 60, op := Op.fieldAddr 32 (Operand.tmp 59) 2, type := 0, pos := "l8_guards.go:76", after := #[{ on := 9, ground := Ground.data }, { on := 8, ground := Ground.guard }], guard := some (8, true) }) (v := undef) rfl (by kernel_rfl) (by kernel_rfl) (by kernel_rfl) (fun _ _ _ h => h) (Or.inr ⟨by rfl, rfl⟩) hS3 ?_
        try simp only [Act.put, List.setIfInBounds_toArray, List.set_cons_zero, List.set_cons_succ]
        refine wpAnyH_take (i := 11) (oi := { dst := some 61, op := Op.load 23 (Operand.tmp 60), type := 23, pos := "l8_guards.go:76", after := #[{ on := 10, ground := Ground.data }, { on := 8, ground := Ground.guard }], guard := some (8, true) }) (v := undef) rfl (by kernel_rfl) (by kernel_rfl) (by kernel_rfl) (fun _ _ _ h => h) (Or.inr ⟨by rfl, rfl⟩) hS3 ?_
        try simp only [Act.put, List.setIfInBounds_toArray, List.set_cons_zero, List.set_cons_succ]
        refine wpAnyH_take (i := 12) (oi := { dst := some 62, op := Op.fieldAddr 38 (Operand.tmp 1) 4, type := 0, pos := "l8_guards.go:76", after := #[{ on := 8, ground := Ground.guard }], guard := some (8, true) }) (v := undef) rfl (by kernel_rfl) (by kernel_rfl) (by kernel_rfl) (fun _ _ _ h => h) (Or.inr ⟨by rfl, rfl⟩) hS3 ?_
        try simp only [Act.put, List.setIfInBounds_toArray, List.set_cons_zero, List.set_cons_succ]
        refine wpAnyH_take (i := 13) (oi := { dst := some 63, op := Op.load 35 (Operand.tmp 62), type := 35, pos := "l8_guards.go:76", after := #[{ on := 12, ground := Ground.data }, { on := 8, ground := Ground.guard }], guard := some (8, true) }) (v := undef) rfl (by kernel_rfl) (by kernel_rfl) (by kernel_rfl) (fun _ _ _ h => h) (Or.inr ⟨by rfl, rfl⟩) hS3 ?_
        try simp only [Act.put, List.setIfInBounds_toArray, List.set_cons_zero, List.set_cons_succ]
        refine wpAnyH_take (i := 14) (oi := { dst := some 64, op := Op.call { callee := Callee.value (Operand.func 35), args := #[Operand.tmp 63], argTypes := #[35] }, type := 23, pos := "l8_guards.go:76", after := #[{ on := 13, ground := Ground.data }, { on := 8, ground := Ground.chain }, { on := 8, ground := Ground.guard }], guard := some (8, true) }) (v := undef) rfl (by kernel_rfl) (by kernel_rfl) (by kernel_rfl) (fun _ _ _ h => h) (Or.inr ⟨by rfl, rfl⟩) hS3 ?_
        try simp only [Act.put, List.setIfInBounds_toArray, List.set_cons_zero, List.set_cons_succ]
        refine wpAnyH_take (i := 15) (oi := { dst := some 65, op := Op.call { callee := Callee.value (Operand.func 48), args := #[Operand.tmp 61, Operand.tmp 64], argTypes := #[23, 23] }, type := 4, pos := "l8_guards.go:76", after := #[{ on := 11, ground := Ground.data }, { on := 14, ground := Ground.data }, { on := 14, ground := Ground.chain }, { on := 8, ground := Ground.guard }], guard := some (8, true) }) (v := undef) rfl (by kernel_rfl) (by kernel_rfl) (by kernel_rfl) (fun _ _ _ h => h) (Or.inr ⟨by rfl, rfl⟩) hS3 ?_
        try simp only [Act.put, List.setIfInBounds_toArray, List.set_cons_zero, List.set_cons_succ]
        refine wpAnyH_take (i := 16) (oi := { dst := some 66, op := Op.pick (Operand.tmp 58) (Operand.tmp 65) (Operand.const (Value.bool false)), type := 4, pos := "l8_guards.go:76", after := #[{ on := 8, ground := Ground.data }, { on := 15, ground := Ground.data }], guard := none }) (v := ?_) rfl (by kernel_rfl) (by kernel_rfl) (by kernel_rfl) (fun _ _ _ h => h) (Or.inl ⟨by rfl, ?_⟩) hS3 ?_
        rotate_left
        · (intro w9 hSw; (try dsimp only at hSw); go_simp; try with_reducible rfl)
        try simp only [Act.put, List.setIfInBounds_toArray, List.set_cons_zero, List.set_cons_succ]
        refine wpAnyH_take (i := 17) (oi := { dst := some 2, op := Op.assign (Operand.tmp 66), type := 4, pos := "l8_guards.go:76", after := #[{ on := 16, ground := Ground.data }, { on := 15, ground := Ground.chain }, { on := 0, ground := Ground.phase }, { on := 1, ground := Ground.phase }, { on := 2, ground := Ground.phase }, { on := 3, ground := Ground.phase }, { on := 4, ground := Ground.phase }, { on := 5, ground := Ground.phase }, { on := 6, ground := Ground.phase }, { on := 7, ground := Ground.phase }, { on := 8, ground := Ground.phase }, { on := 9, ground := Ground.phase }, { on := 10, ground := Ground.phase }, { on := 11, ground := Ground.phase }, { on := 12, ground := Ground.phase }, { on := 13, ground := Ground.phase }, { on := 14, ground := Ground.phase }, { on := 15, ground := Ground.phase }, { on := 16, ground := Ground.phase }], guard := none }) (v := ?_) rfl (by kernel_rfl) (by kernel_rfl) (by kernel_rfl) (fun _ _ _ h => h) (Or.inl ⟨by rfl, ?_⟩) hS3 ?_
        rotate_left
        · (intro w9 hSw; (try dsimp only at hSw); go_simp; try with_reducible rfl)
        try simp only [Act.put, List.setIfInBounds_toArray, List.set_cons_zero, List.set_cons_succ]
        refine wpAnyH_done (by kernel_rfl) ?_ _
        go_wp2
        go_ret
        exact ⟨ret_bool HE.out, below_seq HB.out.b B3.out⟩
      have HAC := Lib.hid h1
      clear h1
      rcases h2 : lvB g.ln with _ | _
      · skip
        have HE := Lib.hid (gv_no (g := g) fun v => lv_not h2 v.ln)
        have HLV := Lib.hid h2
        clear h2
        have hS := CS.out _ (Below.drew (Below.refl wr.heap.size wr))
        go_wp2_with fail
        refine wp_region_held_drew (S := (fun w' : World => ((w'.cell? ⟨w.heap.size, 0, none⟩ = some (.int .i64 g.tm) ∧ w'.cell? ⟨w.heap.size, 1, none⟩ = some (.int .i64 g.all.peer) ∧ w'.cell? ⟨w.heap.size, 2, none⟩ = some (.int .i64 g.all.lane) ∧ w'.cell? ⟨w.heap.size, 3, none⟩ = some (.int .i64 g.all.size) ∧ w'.cell? ⟨w.heap.size, 4, none⟩ = some (.int .i64 g.all.id) ∧ w'.cell? ⟨w.heap.size, 5, none⟩ = some (.slice E 8 ce) ∧ w'.cell? ⟨w.heap.size, 6, none⟩ = some (.int .i64 g.lim) ∧ w'.cell? ⟨w.heap.size, 7, none⟩ = some (.int .i64 g.ea) ∧ w'.cell? ⟨w.heap.size, 8, none⟩ = some (.slice U nu cu) ∧ w'.cell? ⟨w.heap.size, 9, none⟩ = some (.slice A n c) ∧ w'.cell? ⟨w.heap.size, 10, none⟩ = some (.slice B m d) ∧ w'.cell? ⟨w.heap.size, 11, none⟩ = some (.slice C o f) ∧ w'.cell? ⟨w.heap.size, 12, none⟩ = some (.slice S 8 cs)) ∧ Below wr.heap.size wr w'))) (by kernel_rfl) hS (fun hH => ?_)
        refine wpAnyH_take (i := 0) (oi := { dst := some 50, op := Op.fieldAddr 38 (Operand.tmp 1) 3, type := 0, pos := "l8_guards.go:76", after := #[], guard := none }) (v := ?_) rfl (by kernel_rfl) (by kernel_rfl) (by kernel_rfl) (fun _ _ _ h => h) (Or.inl ⟨by rfl, ?_⟩) hS ?_
        rotate_left
        · (intro w9 hSw; (try dsimp only at hSw); go_simp; try with_reducible rfl)
        try simp only [Act.put, List.setIfInBounds_toArray, List.set_cons_zero, List.set_cons_succ]
        refine wpAnyH_take (i := 1) (oi := { dst := some 51, op := Op.load 32 (Operand.tmp 50), type := 32, pos := "l8_guards.go:76", after := #[{ on := 0, ground := Ground.data }], guard := none }) (v := ?_) rfl (by kernel_rfl) (by kernel_rfl) (by kernel_rfl) (fun _ _ _ h => h) (Or.inl ⟨by rfl, ?_⟩) hS ?_
        rotate_left
        · (intro w9 hSw; (try dsimp only at hSw); go_simp; try with_reducible rfl)
        try simp only [Act.put, List.setIfInBounds_toArray, List.set_cons_zero, List.set_cons_succ]
        refine wpAnyH_ready (rs := [2]) (by kernel_rfl) (by simp) ?_
        refine AllReadyH.cons (o := { dst := some 52, op := Op.call { callee := Callee.value (Operand.func 46), args := #[Operand.tmp 51], argTypes := #[32] }, type := 4, pos := "l8_guards.go:76", after := #[{ on := 1, ground := Ground.data }], guard := none }) rfl (fun K hK => ?_) AllReadyH.nil
        go_simp
        go_at_call 46
        refine (acI_any g.lim g.ea U nu cu g.us _ (nr_below HG.out.u (Below.drew (Below.refl _ _))) (Nat.le_trans HG.out.ku (by omega))).mono ?_
        rintro e w3 ⟨rfl, hb3⟩
        rw [HAC.out]
        have B3 := Lib.hid (show Below wr.heap.size wr w3 from below_seq (Below.drew (Below.refl _ _)) hb3)
        have hS3 := CS.out _ B3.out
        clear hb3
        refine hK.out _ _ hS3 (fun hH => ?_)
        clear hK K
        try simp only [Act.put, List.setIfInBounds_toArray, List.set_cons_zero, List.set_cons_succ]
        refine wpAnyH_take (i := 3) (oi := { dst := some 53, op := Op.move (Operand.tmp 52), type := 4, pos := "l8_guards.go:76", after := #[{ on := 2, ground := Ground.data }, { on := 2, ground := Ground.chain }], guard := none }) (v := ?_) rfl (by kernel_rfl) (by kernel_rfl) (by kernel_rfl) (fun _ _ _ h => h) (Or.inl ⟨by rfl, ?_⟩) hS3 ?_
        rotate_left
        · (intro w9 hSw; (try dsimp only at hSw); go_simp; try with_reducible rfl)
        try simp only [Act.put, List.setIfInBounds_toArray, List.set_cons_zero, List.set_cons_succ]
        refine wpAnyH_take (i := 4) (oi := { dst := some 54, op := Op.fieldAddr 38 (Operand.tmp 1) 4, type := 0, pos := "l8_guards.go:76", after := #[{ on := 3, ground := Ground.guard }], guard := some (3, true) }) (v := ?_) rfl (by kernel_rfl) (by kernel_rfl) (by kernel_rfl) (fun _ _ _ h => h) (Or.inl ⟨by rfl, ?_⟩) hS3 ?_
        rotate_left
        · (intro w9 hSw; (try dsimp only at hSw); go_simp; try with_reducible rfl)
        try simp only [Act.put, List.setIfInBounds_toArray, List.set_cons_zero, List.set_cons_succ]
        refine wpAnyH_take (i := 5) (oi := { dst := some 55, op := Op.load 35 (Operand.tmp 54), type := 35, pos := "l8_guards.go:76", after := #[{ on := 4, ground := Ground.data }, { on := 3, ground := Ground.guard }], guard := some (3, true) }) (v := ?_) rfl (by kernel_rfl) (by kernel_rfl) (by kernel_rfl) (fun _ _ _ h => h) (Or.inl ⟨by rfl, ?_⟩) hS3 ?_
        rotate_left
        · (intro w9 hSw; (try dsimp only at hSw); go_simp; try with_reducible rfl)
        try simp only [Act.put, List.setIfInBounds_toArray, List.set_cons_zero, List.set_cons_succ]
        refine wpAnyH_ready (rs := [6]) (by kernel_rfl) (by simp) ?_
        refine AllReadyH.cons (o := { dst := some 56, op := Op.call { callee := Callee.value (Operand.func 47), args := #[Operand.tmp 55], argTypes := #[35] }, type := 4, pos := "l8_guards.go:76", after := #[{ on := 5, ground := Ground.data }, { on := 3, ground := Ground.chain }, { on := 3, ground := Ground.guard }], guard := some (3, true) }) rfl (fun K hK => ?_) AllReadyH.nil
        go_simp
        go_at_call 47
        refine (lanI_any A n c B m d C o f g.ln _ (lr_below HG.out.l B3.out)).mono ?_
        rintro e w4 ⟨rfl, hb4⟩
        rw [HLV.out]
        have B4 := Lib.hid (below_seq B3.out hb4)
        have hS4 := CS.out _ B4.out
        clear hb4
        refine hK.out _ _ hS4 (fun hH => ?_)
        clear hK K
        try simp only [Act.put, List.setIfInBounds_toArray, List.set_cons_zero, List.set_cons_succ]
        refine wpAnyH_take (i := 7) (oi := { dst := some 57, op := Op.pick (Operand.tmp 53) (Operand.tmp 56) (Operand.const (Value.bool false)), type := 4, pos := "l8_guards.go:76", after := #[{ on := 3, ground := Ground.data }, { on := 6, ground := Ground.data }], guard := none }) (v := ?_) rfl (by kernel_rfl) (by kernel_rfl) (by kernel_rfl) (fun _ _ _ h => h) (Or.inl ⟨by rfl, ?_⟩) hS4 ?_
        rotate_left
        · (intro w9 hSw; (try dsimp only at hSw); go_simp; try with_reducible rfl)
        try simp only [Act.put, List.setIfInBounds_toArray, List.set_cons_zero, List.set_cons_succ]
        refine wpAnyH_take (i := 8) (oi := { dst := some 58, op := Op.move (Operand.tmp 57), type := 4, pos := "l8_guards.go:76", after := #[{ on := 7, ground := Ground.data }, { on := 6, ground := Ground.chain }], guard := none }) (v := ?_) rfl (by kernel_rfl) (by kernel_rfl) (by kernel_rfl) (fun _ _ _ h => h) (Or.inl ⟨by rfl, ?_⟩) hS4 ?_
        rotate_left
        · (intro w9 hSw; (try dsimp only at hSw); go_simp; try with_reducible rfl)
        try simp only [Act.put, List.setIfInBounds_toArray, List.set_cons_zero, List.set_cons_succ]
        refine wpAnyH_take (i := 9) (oi := { dst := some 59, op := Op.fieldAddr 38 (Operand.tmp 1) 3, type := 0, pos := "l8_guards.go:76", after := #[{ on := 8, ground := Ground.guard }], guard := some (8, true) }) (v := undef) rfl (by kernel_rfl) (by kernel_rfl) (by kernel_rfl) (fun _ _ _ h => h) (Or.inr ⟨by rfl, rfl⟩) hS4 ?_
        try simp only [Act.put, List.setIfInBounds_toArray, List.set_cons_zero, List.set_cons_succ]
        refine wpAnyH_take (i := 10) (oi := { dst := some 60, op := Op.fieldAddr 32 (Operand.tmp 59) 2, type := 0, pos := "l8_guards.go:76", after := #[{ on := 9, ground := Ground.data }, { on := 8, ground := Ground.guard }], guard := some (8, true) }) (v := undef) rfl (by kernel_rfl) (by kernel_rfl) (by kernel_rfl) (fun _ _ _ h => h) (Or.inr ⟨by rfl, rfl⟩) hS4 ?_
        try simp only [Act.put, List.setIfInBounds_toArray, List.set_cons_zero, List.set_cons_succ]
        refine wpAnyH_take (i := 11) (oi := { dst := some 61, op := Op.load 23 (Operand.tmp 60), type := 23, pos := "l8_guards.go:76", after := #[{ on := 10, ground := Ground.data }, { on := 8, ground := Ground.guard }], guard := some (8, true) }) (v := undef) rfl (by kernel_rfl) (by kernel_rfl) (by kernel_rfl) (fun _ _ _ h => h) (Or.inr ⟨by rfl, rfl⟩) hS4 ?_
        try simp only [Act.put, List.setIfInBounds_toArray, List.set_cons_zero, List.set_cons_succ]
        refine wpAnyH_take (i := 12) (oi := { dst := some 62, op := Op.fieldAddr 38 (Operand.tmp 1) 4, type := 0, pos := "l8_guards.go:76", after := #[{ on := 8, ground := Ground.guard }], guard := some (8, true) }) (v := undef) rfl (by kernel_rfl) (by kernel_rfl) (by kernel_rfl) (fun _ _ _ h => h) (Or.inr ⟨by rfl, rfl⟩) hS4 ?_
        try simp only [Act.put, List.setIfInBounds_toArray, List.set_cons_zero, List.set_cons_succ]
        refine wpAnyH_take (i := 13) (oi := { dst := some 63, op := Op.load 35 (Operand.tmp 62), type := 35, pos := "l8_guards.go:76", after := #[{ on := 12, ground := Ground.data }, { on := 8, ground := Ground.guard }], guard := some (8, true) }) (v := undef) rfl (by kernel_rfl) (by kernel_rfl) (by kernel_rfl) (fun _ _ _ h => h) (Or.inr ⟨by rfl, rfl⟩) hS4 ?_
        try simp only [Act.put, List.setIfInBounds_toArray, List.set_cons_zero, List.set_cons_succ]
        refine wpAnyH_take (i := 14) (oi := { dst := some 64, op := Op.call { callee := Callee.value (Operand.func 35), args := #[Operand.tmp 63], argTypes := #[35] }, type := 23, pos := "l8_guards.go:76", after := #[{ on := 13, ground := Ground.data }, { on := 8, ground := Ground.chain }, { on := 8, ground := Ground.guard }], guard := some (8, true) }) (v := undef) rfl (by kernel_rfl) (by kernel_rfl) (by kernel_rfl) (fun _ _ _ h => h) (Or.inr ⟨by rfl, rfl⟩) hS4 ?_
        try simp only [Act.put, List.setIfInBounds_toArray, List.set_cons_zero, List.set_cons_succ]
        refine wpAnyH_take (i := 15) (oi := { dst := some 65, op := Op.call { callee := Callee.value (Operand.func 48), args := #[Operand.tmp 61, Operand.tmp 64], argTypes := #[23, 23] }, type := 4, pos := "l8_guards.go:76", after := #[{ on := 11, ground := Ground.data }, { on := 14, ground := Ground.data }, { on := 14, ground := Ground.chain }, { on := 8, ground := Ground.guard }], guard := some (8, true) }) (v := undef) rfl (by kernel_rfl) (by kernel_rfl) (by kernel_rfl) (fun _ _ _ h => h) (Or.inr ⟨by rfl, rfl⟩) hS4 ?_
        try simp only [Act.put, List.setIfInBounds_toArray, List.set_cons_zero, List.set_cons_succ]
        refine wpAnyH_take (i := 16) (oi := { dst := some 66, op := Op.pick (Operand.tmp 58) (Operand.tmp 65) (Operand.const (Value.bool false)), type := 4, pos := "l8_guards.go:76", after := #[{ on := 8, ground := Ground.data }, { on := 15, ground := Ground.data }], guard := none }) (v := ?_) rfl (by kernel_rfl) (by kernel_rfl) (by kernel_rfl) (fun _ _ _ h => h) (Or.inl ⟨by rfl, ?_⟩) hS4 ?_
        rotate_left
        · (intro w9 hSw; (try dsimp only at hSw); go_simp; try with_reducible rfl)
        try simp only [Act.put, List.setIfInBounds_toArray, List.set_cons_zero, List.set_cons_succ]
        refine wpAnyH_take (i := 17) (oi := { dst := some 2, op := Op.assign (Operand.tmp 66), type := 4, pos := "l8_guards.go:76", after := #[{ on := 16, ground := Ground.data }, { on := 15, ground := Ground.chain }, { on := 0, ground := Ground.phase }, { on := 1, ground := Ground.phase }, { on := 2, ground := Ground.phase }, { on := 3, ground := Ground.phase }, { on := 4, ground := Ground.phase }, { on := 5, ground := Ground.phase }, { on := 6, ground := Ground.phase }, { on := 7, ground := Ground.phase }, { on := 8, ground := Ground.phase }, { on := 9, ground := Ground.phase }, { on := 10, ground := Ground.phase }, { on := 11, ground := Ground.phase }, { on := 12, ground := Ground.phase }, { on := 13, ground := Ground.phase }, { on := 14, ground := Ground.phase }, { on := 15, ground := Ground.phase }, { on := 16, ground := Ground.phase }], guard := none }) (v := ?_) rfl (by kernel_rfl) (by kernel_rfl) (by kernel_rfl) (fun _ _ _ h => h) (Or.inl ⟨by rfl, ?_⟩) hS4 ?_
        rotate_left
        · (intro w9 hSw; (try dsimp only at hSw); go_simp; try with_reducible rfl)
        try simp only [Act.put, List.setIfInBounds_toArray, List.set_cons_zero, List.set_cons_succ]
        refine wpAnyH_done (by kernel_rfl) ?_ _
        go_wp2
        go_ret
        exact ⟨ret_bool HE.out, below_seq HB.out.b B4.out⟩
      have HLV := Lib.hid h2
      clear h2
      rcases h3 : intsB g.us (bys g.ln) with _ | _
      · skip
        have HE := Lib.hid (gv_no (g := g) fun v => by have := v.iz; rw [this, ints_refl] at h3; cases h3)
        have HEQ := Lib.hid h3
        clear h3
        have hS := CS.out _ (Below.drew (Below.refl wr.heap.size wr))
        go_wp2_with fail
        refine wp_region_held_drew (S := (fun w' : World => ((w'.cell? ⟨w.heap.size, 0, none⟩ = some (.int .i64 g.tm) ∧ w'.cell? ⟨w.heap.size, 1, none⟩ = some (.int .i64 g.all.peer) ∧ w'.cell? ⟨w.heap.size, 2, none⟩ = some (.int .i64 g.all.lane) ∧ w'.cell? ⟨w.heap.size, 3, none⟩ = some (.int .i64 g.all.size) ∧ w'.cell? ⟨w.heap.size, 4, none⟩ = some (.int .i64 g.all.id) ∧ w'.cell? ⟨w.heap.size, 5, none⟩ = some (.slice E 8 ce) ∧ w'.cell? ⟨w.heap.size, 6, none⟩ = some (.int .i64 g.lim) ∧ w'.cell? ⟨w.heap.size, 7, none⟩ = some (.int .i64 g.ea) ∧ w'.cell? ⟨w.heap.size, 8, none⟩ = some (.slice U nu cu) ∧ w'.cell? ⟨w.heap.size, 9, none⟩ = some (.slice A n c) ∧ w'.cell? ⟨w.heap.size, 10, none⟩ = some (.slice B m d) ∧ w'.cell? ⟨w.heap.size, 11, none⟩ = some (.slice C o f) ∧ w'.cell? ⟨w.heap.size, 12, none⟩ = some (.slice S 8 cs)) ∧ Below wr.heap.size wr w'))) (by kernel_rfl) hS (fun hH => ?_)
        refine wpAnyH_take (i := 0) (oi := { dst := some 50, op := Op.fieldAddr 38 (Operand.tmp 1) 3, type := 0, pos := "l8_guards.go:76", after := #[], guard := none }) (v := ?_) rfl (by kernel_rfl) (by kernel_rfl) (by kernel_rfl) (fun _ _ _ h => h) (Or.inl ⟨by rfl, ?_⟩) hS ?_
        rotate_left
        · (intro w9 hSw; (try dsimp only at hSw); go_simp; try with_reducible rfl)
        try simp only [Act.put, List.setIfInBounds_toArray, List.set_cons_zero, List.set_cons_succ]
        refine wpAnyH_take (i := 1) (oi := { dst := some 51, op := Op.load 32 (Operand.tmp 50), type := 32, pos := "l8_guards.go:76", after := #[{ on := 0, ground := Ground.data }], guard := none }) (v := ?_) rfl (by kernel_rfl) (by kernel_rfl) (by kernel_rfl) (fun _ _ _ h => h) (Or.inl ⟨by rfl, ?_⟩) hS ?_
        rotate_left
        · (intro w9 hSw; (try dsimp only at hSw); go_simp; try with_reducible rfl)
        try simp only [Act.put, List.setIfInBounds_toArray, List.set_cons_zero, List.set_cons_succ]
        refine wpAnyH_ready (rs := [2]) (by kernel_rfl) (by simp) ?_
        refine AllReadyH.cons (o := { dst := some 52, op := Op.call { callee := Callee.value (Operand.func 46), args := #[Operand.tmp 51], argTypes := #[32] }, type := 4, pos := "l8_guards.go:76", after := #[{ on := 1, ground := Ground.data }], guard := none }) rfl (fun K hK => ?_) AllReadyH.nil
        go_simp
        go_at_call 46
        refine (acI_any g.lim g.ea U nu cu g.us _ (nr_below HG.out.u (Below.drew (Below.refl _ _))) (Nat.le_trans HG.out.ku (by omega))).mono ?_
        rintro e w3 ⟨rfl, hb3⟩
        rw [HAC.out]
        have B3 := Lib.hid (show Below wr.heap.size wr w3 from below_seq (Below.drew (Below.refl _ _)) hb3)
        have hS3 := CS.out _ B3.out
        clear hb3
        refine hK.out _ _ hS3 (fun hH => ?_)
        clear hK K
        try simp only [Act.put, List.setIfInBounds_toArray, List.set_cons_zero, List.set_cons_succ]
        refine wpAnyH_take (i := 3) (oi := { dst := some 53, op := Op.move (Operand.tmp 52), type := 4, pos := "l8_guards.go:76", after := #[{ on := 2, ground := Ground.data }, { on := 2, ground := Ground.chain }], guard := none }) (v := ?_) rfl (by kernel_rfl) (by kernel_rfl) (by kernel_rfl) (fun _ _ _ h => h) (Or.inl ⟨by rfl, ?_⟩) hS3 ?_
        rotate_left
        · (intro w9 hSw; (try dsimp only at hSw); go_simp; try with_reducible rfl)
        try simp only [Act.put, List.setIfInBounds_toArray, List.set_cons_zero, List.set_cons_succ]
        refine wpAnyH_take (i := 4) (oi := { dst := some 54, op := Op.fieldAddr 38 (Operand.tmp 1) 4, type := 0, pos := "l8_guards.go:76", after := #[{ on := 3, ground := Ground.guard }], guard := some (3, true) }) (v := ?_) rfl (by kernel_rfl) (by kernel_rfl) (by kernel_rfl) (fun _ _ _ h => h) (Or.inl ⟨by rfl, ?_⟩) hS3 ?_
        rotate_left
        · (intro w9 hSw; (try dsimp only at hSw); go_simp; try with_reducible rfl)
        try simp only [Act.put, List.setIfInBounds_toArray, List.set_cons_zero, List.set_cons_succ]
        refine wpAnyH_take (i := 5) (oi := { dst := some 55, op := Op.load 35 (Operand.tmp 54), type := 35, pos := "l8_guards.go:76", after := #[{ on := 4, ground := Ground.data }, { on := 3, ground := Ground.guard }], guard := some (3, true) }) (v := ?_) rfl (by kernel_rfl) (by kernel_rfl) (by kernel_rfl) (fun _ _ _ h => h) (Or.inl ⟨by rfl, ?_⟩) hS3 ?_
        rotate_left
        · (intro w9 hSw; (try dsimp only at hSw); go_simp; try with_reducible rfl)
        try simp only [Act.put, List.setIfInBounds_toArray, List.set_cons_zero, List.set_cons_succ]
        refine wpAnyH_ready (rs := [6]) (by kernel_rfl) (by simp) ?_
        refine AllReadyH.cons (o := { dst := some 56, op := Op.call { callee := Callee.value (Operand.func 47), args := #[Operand.tmp 55], argTypes := #[35] }, type := 4, pos := "l8_guards.go:76", after := #[{ on := 5, ground := Ground.data }, { on := 3, ground := Ground.chain }, { on := 3, ground := Ground.guard }], guard := some (3, true) }) rfl (fun K hK => ?_) AllReadyH.nil
        go_simp
        go_at_call 47
        refine (lanI_any A n c B m d C o f g.ln _ (lr_below HG.out.l B3.out)).mono ?_
        rintro e w4 ⟨rfl, hb4⟩
        rw [HLV.out]
        have B4 := Lib.hid (below_seq B3.out hb4)
        have hS4 := CS.out _ B4.out
        clear hb4
        refine hK.out _ _ hS4 (fun hH => ?_)
        clear hK K
        try simp only [Act.put, List.setIfInBounds_toArray, List.set_cons_zero, List.set_cons_succ]
        refine wpAnyH_take (i := 7) (oi := { dst := some 57, op := Op.pick (Operand.tmp 53) (Operand.tmp 56) (Operand.const (Value.bool false)), type := 4, pos := "l8_guards.go:76", after := #[{ on := 3, ground := Ground.data }, { on := 6, ground := Ground.data }], guard := none }) (v := ?_) rfl (by kernel_rfl) (by kernel_rfl) (by kernel_rfl) (fun _ _ _ h => h) (Or.inl ⟨by rfl, ?_⟩) hS4 ?_
        rotate_left
        · (intro w9 hSw; (try dsimp only at hSw); go_simp; try with_reducible rfl)
        try simp only [Act.put, List.setIfInBounds_toArray, List.set_cons_zero, List.set_cons_succ]
        refine wpAnyH_take (i := 8) (oi := { dst := some 58, op := Op.move (Operand.tmp 57), type := 4, pos := "l8_guards.go:76", after := #[{ on := 7, ground := Ground.data }, { on := 6, ground := Ground.chain }], guard := none }) (v := ?_) rfl (by kernel_rfl) (by kernel_rfl) (by kernel_rfl) (fun _ _ _ h => h) (Or.inl ⟨by rfl, ?_⟩) hS4 ?_
        rotate_left
        · (intro w9 hSw; (try dsimp only at hSw); go_simp; try with_reducible rfl)
        try simp only [Act.put, List.setIfInBounds_toArray, List.set_cons_zero, List.set_cons_succ]
        refine wpAnyH_take (i := 9) (oi := { dst := some 59, op := Op.fieldAddr 38 (Operand.tmp 1) 3, type := 0, pos := "l8_guards.go:76", after := #[{ on := 8, ground := Ground.guard }], guard := some (8, true) }) (v := ?_) rfl (by kernel_rfl) (by kernel_rfl) (by kernel_rfl) (fun _ _ _ h => h) (Or.inl ⟨by rfl, ?_⟩) hS4 ?_
        rotate_left
        · (intro w9 hSw; (try dsimp only at hSw); go_simp; try with_reducible rfl)
        try simp only [Act.put, List.setIfInBounds_toArray, List.set_cons_zero, List.set_cons_succ]
        refine wpAnyH_take (i := 10) (oi := { dst := some 60, op := Op.fieldAddr 32 (Operand.tmp 59) 2, type := 0, pos := "l8_guards.go:76", after := #[{ on := 9, ground := Ground.data }, { on := 8, ground := Ground.guard }], guard := some (8, true) }) (v := ?_) rfl (by kernel_rfl) (by kernel_rfl) (by kernel_rfl) (fun _ _ _ h => h) (Or.inl ⟨by rfl, ?_⟩) hS4 ?_
        rotate_left
        · (intro w9 hSw; (try dsimp only at hSw); go_simp; try with_reducible rfl)
        try simp only [Act.put, List.setIfInBounds_toArray, List.set_cons_zero, List.set_cons_succ]
        refine wpAnyH_take (i := 11) (oi := { dst := some 61, op := Op.load 23 (Operand.tmp 60), type := 23, pos := "l8_guards.go:76", after := #[{ on := 10, ground := Ground.data }, { on := 8, ground := Ground.guard }], guard := some (8, true) }) (v := ?_) rfl (by kernel_rfl) (by kernel_rfl) (by kernel_rfl) (fun _ _ _ h => h) (Or.inl ⟨by rfl, ?_⟩) hS4 ?_
        rotate_left
        · (intro w9 hSw; (try dsimp only at hSw); go_simp; try with_reducible rfl)
        try simp only [Act.put, List.setIfInBounds_toArray, List.set_cons_zero, List.set_cons_succ]
        refine wpAnyH_take (i := 12) (oi := { dst := some 62, op := Op.fieldAddr 38 (Operand.tmp 1) 4, type := 0, pos := "l8_guards.go:76", after := #[{ on := 8, ground := Ground.guard }], guard := some (8, true) }) (v := ?_) rfl (by kernel_rfl) (by kernel_rfl) (by kernel_rfl) (fun _ _ _ h => h) (Or.inl ⟨by rfl, ?_⟩) hS4 ?_
        rotate_left
        · (intro w9 hSw; (try dsimp only at hSw); go_simp; try with_reducible rfl)
        try simp only [Act.put, List.setIfInBounds_toArray, List.set_cons_zero, List.set_cons_succ]
        refine wpAnyH_take (i := 13) (oi := { dst := some 63, op := Op.load 35 (Operand.tmp 62), type := 35, pos := "l8_guards.go:76", after := #[{ on := 12, ground := Ground.data }, { on := 8, ground := Ground.guard }], guard := some (8, true) }) (v := ?_) rfl (by kernel_rfl) (by kernel_rfl) (by kernel_rfl) (fun _ _ _ h => h) (Or.inl ⟨by rfl, ?_⟩) hS4 ?_
        rotate_left
        · (intro w9 hSw; (try dsimp only at hSw); go_simp; try with_reducible rfl)
        try simp only [Act.put, List.setIfInBounds_toArray, List.set_cons_zero, List.set_cons_succ]
        refine wpAnyH_ready (rs := [14]) (by kernel_rfl) (by simp) ?_
        refine AllReadyH.cons (o := { dst := some 64, op := Op.call { callee := Callee.value (Operand.func 35), args := #[Operand.tmp 63], argTypes := #[35] }, type := 23, pos := "l8_guards.go:76", after := #[{ on := 13, ground := Ground.data }, { on := 8, ground := Ground.chain }, { on := 8, ground := Ground.guard }], guard := some (8, true) }) rfl (fun K hK => ?_) AllReadyH.nil
        go_simp
        go_at_call 35
        refine (wbI_any A n c B m d C o f g.ln _ (lr_below HG.out.l B4.out) (lv_iff.1 HLV.out)).mono ?_
        rintro e w5 ⟨A5, rfl, ho5, hb5⟩
        have N5 := Lib.hid (nr_own ho5)
        have B5 := Lib.hid (below_seq B4.out hb5)
        have hS5 := CS.out _ B5.out
        clear hb5 ho5
        refine hK.out _ _ hS5 (fun hH => ?_)
        clear hK K
        try simp only [Act.put, List.setIfInBounds_toArray, List.set_cons_zero, List.set_cons_succ]
        refine wpAnyH_ready (rs := [15]) (by kernel_rfl) (by simp) ?_
        refine AllReadyH.cons (o := { dst := some 65, op := Op.call { callee := Callee.value (Operand.func 48), args := #[Operand.tmp 61, Operand.tmp 64], argTypes := #[23, 23] }, type := 4, pos := "l8_guards.go:76", after := #[{ on := 11, ground := Ground.data }, { on := 14, ground := Ground.data }, { on := 14, ground := Ground.chain }, { on := 8, ground := Ground.guard }], guard := some (8, true) }) rfl (fun K hK => ?_) AllReadyH.nil
        go_simp
        go_at_call 48
        refine (eqII_any U A5 nu cu 8 8 g.us (bys g.ln) _ (nr_below HG.out.u B5.out) N5.out (Nat.le_trans HG.out.ku (by omega)) (by omega)).mono ?_
        rintro e w6 ⟨rfl, hb6⟩
        rw [HEQ.out]
        have B6 := Lib.hid (below_seq B5.out hb6)
        have hS6 := CS.out _ B6.out
        clear hb6
        refine hK.out _ _ hS6 (fun hH => ?_)
        clear hK K
        try simp only [Act.put, List.setIfInBounds_toArray, List.set_cons_zero, List.set_cons_succ]
        refine wpAnyH_take (i := 16) (oi := { dst := some 66, op := Op.pick (Operand.tmp 58) (Operand.tmp 65) (Operand.const (Value.bool false)), type := 4, pos := "l8_guards.go:76", after := #[{ on := 8, ground := Ground.data }, { on := 15, ground := Ground.data }], guard := none }) (v := ?_) rfl (by kernel_rfl) (by kernel_rfl) (by kernel_rfl) (fun _ _ _ h => h) (Or.inl ⟨by rfl, ?_⟩) hS6 ?_
        rotate_left
        · (intro w9 hSw; (try dsimp only at hSw); go_simp; try with_reducible rfl)
        try simp only [Act.put, List.setIfInBounds_toArray, List.set_cons_zero, List.set_cons_succ]
        refine wpAnyH_take (i := 17) (oi := { dst := some 2, op := Op.assign (Operand.tmp 66), type := 4, pos := "l8_guards.go:76", after := #[{ on := 16, ground := Ground.data }, { on := 15, ground := Ground.chain }, { on := 0, ground := Ground.phase }, { on := 1, ground := Ground.phase }, { on := 2, ground := Ground.phase }, { on := 3, ground := Ground.phase }, { on := 4, ground := Ground.phase }, { on := 5, ground := Ground.phase }, { on := 6, ground := Ground.phase }, { on := 7, ground := Ground.phase }, { on := 8, ground := Ground.phase }, { on := 9, ground := Ground.phase }, { on := 10, ground := Ground.phase }, { on := 11, ground := Ground.phase }, { on := 12, ground := Ground.phase }, { on := 13, ground := Ground.phase }, { on := 14, ground := Ground.phase }, { on := 15, ground := Ground.phase }, { on := 16, ground := Ground.phase }], guard := none }) (v := ?_) rfl (by kernel_rfl) (by kernel_rfl) (by kernel_rfl) (fun _ _ _ h => h) (Or.inl ⟨by rfl, ?_⟩) hS6 ?_
        rotate_left
        · (intro w9 hSw; (try dsimp only at hSw); go_simp; try with_reducible rfl)
        try simp only [Act.put, List.setIfInBounds_toArray, List.set_cons_zero, List.set_cons_succ]
        refine wpAnyH_done (by kernel_rfl) ?_ _
        go_wp2
        go_ret
        exact ⟨ret_bool HE.out, below_seq HB.out.b B6.out⟩
      · skip
        have HE := Lib.hid (gv_yes (g := g) ⟨by have := HT.out; rw [inB, decide_eq_true_eq] at this; exact this.1, by have := HT.out; rw [inB, decide_eq_true_eq] at this; exact this.2, HA.out, LL.out.1, LL.out.2, KK.out.1, KK.out.2, HAC.out, lv_iff.1 HLV.out, ints_of h3⟩)
        have HEQ := Lib.hid h3
        clear h3
        have hS := CS.out _ (Below.drew (Below.refl wr.heap.size wr))
        go_wp2_with fail
        refine wp_region_held_drew (S := (fun w' : World => ((w'.cell? ⟨w.heap.size, 0, none⟩ = some (.int .i64 g.tm) ∧ w'.cell? ⟨w.heap.size, 1, none⟩ = some (.int .i64 g.all.peer) ∧ w'.cell? ⟨w.heap.size, 2, none⟩ = some (.int .i64 g.all.lane) ∧ w'.cell? ⟨w.heap.size, 3, none⟩ = some (.int .i64 g.all.size) ∧ w'.cell? ⟨w.heap.size, 4, none⟩ = some (.int .i64 g.all.id) ∧ w'.cell? ⟨w.heap.size, 5, none⟩ = some (.slice E 8 ce) ∧ w'.cell? ⟨w.heap.size, 6, none⟩ = some (.int .i64 g.lim) ∧ w'.cell? ⟨w.heap.size, 7, none⟩ = some (.int .i64 g.ea) ∧ w'.cell? ⟨w.heap.size, 8, none⟩ = some (.slice U nu cu) ∧ w'.cell? ⟨w.heap.size, 9, none⟩ = some (.slice A n c) ∧ w'.cell? ⟨w.heap.size, 10, none⟩ = some (.slice B m d) ∧ w'.cell? ⟨w.heap.size, 11, none⟩ = some (.slice C o f) ∧ w'.cell? ⟨w.heap.size, 12, none⟩ = some (.slice S 8 cs)) ∧ Below wr.heap.size wr w'))) (by kernel_rfl) hS (fun hH => ?_)
        refine wpAnyH_take (i := 0) (oi := { dst := some 50, op := Op.fieldAddr 38 (Operand.tmp 1) 3, type := 0, pos := "l8_guards.go:76", after := #[], guard := none }) (v := ?_) rfl (by kernel_rfl) (by kernel_rfl) (by kernel_rfl) (fun _ _ _ h => h) (Or.inl ⟨by rfl, ?_⟩) hS ?_
        rotate_left
        · (intro w9 hSw; (try dsimp only at hSw); go_simp; try with_reducible rfl)
        try simp only [Act.put, List.setIfInBounds_toArray, List.set_cons_zero, List.set_cons_succ]
        refine wpAnyH_take (i := 1) (oi := { dst := some 51, op := Op.load 32 (Operand.tmp 50), type := 32, pos := "l8_guards.go:76", after := #[{ on := 0, ground := Ground.data }], guard := none }) (v := ?_) rfl (by kernel_rfl) (by kernel_rfl) (by kernel_rfl) (fun _ _ _ h => h) (Or.inl ⟨by rfl, ?_⟩) hS ?_
        rotate_left
        · (intro w9 hSw; (try dsimp only at hSw); go_simp; try with_reducible rfl)
        try simp only [Act.put, List.setIfInBounds_toArray, List.set_cons_zero, List.set_cons_succ]
        refine wpAnyH_ready (rs := [2]) (by kernel_rfl) (by simp) ?_
        refine AllReadyH.cons (o := { dst := some 52, op := Op.call { callee := Callee.value (Operand.func 46), args := #[Operand.tmp 51], argTypes := #[32] }, type := 4, pos := "l8_guards.go:76", after := #[{ on := 1, ground := Ground.data }], guard := none }) rfl (fun K hK => ?_) AllReadyH.nil
        go_simp
        go_at_call 46
        refine (acI_any g.lim g.ea U nu cu g.us _ (nr_below HG.out.u (Below.drew (Below.refl _ _))) (Nat.le_trans HG.out.ku (by omega))).mono ?_
        rintro e w3 ⟨rfl, hb3⟩
        rw [HAC.out]
        have B3 := Lib.hid (show Below wr.heap.size wr w3 from below_seq (Below.drew (Below.refl _ _)) hb3)
        have hS3 := CS.out _ B3.out
        clear hb3
        refine hK.out _ _ hS3 (fun hH => ?_)
        clear hK K
        try simp only [Act.put, List.setIfInBounds_toArray, List.set_cons_zero, List.set_cons_succ]
        refine wpAnyH_take (i := 3) (oi := { dst := some 53, op := Op.move (Operand.tmp 52), type := 4, pos := "l8_guards.go:76", after := #[{ on := 2, ground := Ground.data }, { on := 2, ground := Ground.chain }], guard := none }) (v := ?_) rfl (by kernel_rfl) (by kernel_rfl) (by kernel_rfl) (fun _ _ _ h => h) (Or.inl ⟨by rfl, ?_⟩) hS3 ?_
        rotate_left
        · (intro w9 hSw; (try dsimp only at hSw); go_simp; try with_reducible rfl)
        try simp only [Act.put, List.setIfInBounds_toArray, List.set_cons_zero, List.set_cons_succ]
        refine wpAnyH_take (i := 4) (oi := { dst := some 54, op := Op.fieldAddr 38 (Operand.tmp 1) 4, type := 0, pos := "l8_guards.go:76", after := #[{ on := 3, ground := Ground.guard }], guard := some (3, true) }) (v := ?_) rfl (by kernel_rfl) (by kernel_rfl) (by kernel_rfl) (fun _ _ _ h => h) (Or.inl ⟨by rfl, ?_⟩) hS3 ?_
        rotate_left
        · (intro w9 hSw; (try dsimp only at hSw); go_simp; try with_reducible rfl)
        try simp only [Act.put, List.setIfInBounds_toArray, List.set_cons_zero, List.set_cons_succ]
        refine wpAnyH_take (i := 5) (oi := { dst := some 55, op := Op.load 35 (Operand.tmp 54), type := 35, pos := "l8_guards.go:76", after := #[{ on := 4, ground := Ground.data }, { on := 3, ground := Ground.guard }], guard := some (3, true) }) (v := ?_) rfl (by kernel_rfl) (by kernel_rfl) (by kernel_rfl) (fun _ _ _ h => h) (Or.inl ⟨by rfl, ?_⟩) hS3 ?_
        rotate_left
        · (intro w9 hSw; (try dsimp only at hSw); go_simp; try with_reducible rfl)
        try simp only [Act.put, List.setIfInBounds_toArray, List.set_cons_zero, List.set_cons_succ]
        refine wpAnyH_ready (rs := [6]) (by kernel_rfl) (by simp) ?_
        refine AllReadyH.cons (o := { dst := some 56, op := Op.call { callee := Callee.value (Operand.func 47), args := #[Operand.tmp 55], argTypes := #[35] }, type := 4, pos := "l8_guards.go:76", after := #[{ on := 5, ground := Ground.data }, { on := 3, ground := Ground.chain }, { on := 3, ground := Ground.guard }], guard := some (3, true) }) rfl (fun K hK => ?_) AllReadyH.nil
        go_simp
        go_at_call 47
        refine (lanI_any A n c B m d C o f g.ln _ (lr_below HG.out.l B3.out)).mono ?_
        rintro e w4 ⟨rfl, hb4⟩
        rw [HLV.out]
        have B4 := Lib.hid (below_seq B3.out hb4)
        have hS4 := CS.out _ B4.out
        clear hb4
        refine hK.out _ _ hS4 (fun hH => ?_)
        clear hK K
        try simp only [Act.put, List.setIfInBounds_toArray, List.set_cons_zero, List.set_cons_succ]
        refine wpAnyH_take (i := 7) (oi := { dst := some 57, op := Op.pick (Operand.tmp 53) (Operand.tmp 56) (Operand.const (Value.bool false)), type := 4, pos := "l8_guards.go:76", after := #[{ on := 3, ground := Ground.data }, { on := 6, ground := Ground.data }], guard := none }) (v := ?_) rfl (by kernel_rfl) (by kernel_rfl) (by kernel_rfl) (fun _ _ _ h => h) (Or.inl ⟨by rfl, ?_⟩) hS4 ?_
        rotate_left
        · (intro w9 hSw; (try dsimp only at hSw); go_simp; try with_reducible rfl)
        try simp only [Act.put, List.setIfInBounds_toArray, List.set_cons_zero, List.set_cons_succ]
        refine wpAnyH_take (i := 8) (oi := { dst := some 58, op := Op.move (Operand.tmp 57), type := 4, pos := "l8_guards.go:76", after := #[{ on := 7, ground := Ground.data }, { on := 6, ground := Ground.chain }], guard := none }) (v := ?_) rfl (by kernel_rfl) (by kernel_rfl) (by kernel_rfl) (fun _ _ _ h => h) (Or.inl ⟨by rfl, ?_⟩) hS4 ?_
        rotate_left
        · (intro w9 hSw; (try dsimp only at hSw); go_simp; try with_reducible rfl)
        try simp only [Act.put, List.setIfInBounds_toArray, List.set_cons_zero, List.set_cons_succ]
        refine wpAnyH_take (i := 9) (oi := { dst := some 59, op := Op.fieldAddr 38 (Operand.tmp 1) 3, type := 0, pos := "l8_guards.go:76", after := #[{ on := 8, ground := Ground.guard }], guard := some (8, true) }) (v := ?_) rfl (by kernel_rfl) (by kernel_rfl) (by kernel_rfl) (fun _ _ _ h => h) (Or.inl ⟨by rfl, ?_⟩) hS4 ?_
        rotate_left
        · (intro w9 hSw; (try dsimp only at hSw); go_simp; try with_reducible rfl)
        try simp only [Act.put, List.setIfInBounds_toArray, List.set_cons_zero, List.set_cons_succ]
        refine wpAnyH_take (i := 10) (oi := { dst := some 60, op := Op.fieldAddr 32 (Operand.tmp 59) 2, type := 0, pos := "l8_guards.go:76", after := #[{ on := 9, ground := Ground.data }, { on := 8, ground := Ground.guard }], guard := some (8, true) }) (v := ?_) rfl (by kernel_rfl) (by kernel_rfl) (by kernel_rfl) (fun _ _ _ h => h) (Or.inl ⟨by rfl, ?_⟩) hS4 ?_
        rotate_left
        · (intro w9 hSw; (try dsimp only at hSw); go_simp; try with_reducible rfl)
        try simp only [Act.put, List.setIfInBounds_toArray, List.set_cons_zero, List.set_cons_succ]
        refine wpAnyH_take (i := 11) (oi := { dst := some 61, op := Op.load 23 (Operand.tmp 60), type := 23, pos := "l8_guards.go:76", after := #[{ on := 10, ground := Ground.data }, { on := 8, ground := Ground.guard }], guard := some (8, true) }) (v := ?_) rfl (by kernel_rfl) (by kernel_rfl) (by kernel_rfl) (fun _ _ _ h => h) (Or.inl ⟨by rfl, ?_⟩) hS4 ?_
        rotate_left
        · (intro w9 hSw; (try dsimp only at hSw); go_simp; try with_reducible rfl)
        try simp only [Act.put, List.setIfInBounds_toArray, List.set_cons_zero, List.set_cons_succ]
        refine wpAnyH_take (i := 12) (oi := { dst := some 62, op := Op.fieldAddr 38 (Operand.tmp 1) 4, type := 0, pos := "l8_guards.go:76", after := #[{ on := 8, ground := Ground.guard }], guard := some (8, true) }) (v := ?_) rfl (by kernel_rfl) (by kernel_rfl) (by kernel_rfl) (fun _ _ _ h => h) (Or.inl ⟨by rfl, ?_⟩) hS4 ?_
        rotate_left
        · (intro w9 hSw; (try dsimp only at hSw); go_simp; try with_reducible rfl)
        try simp only [Act.put, List.setIfInBounds_toArray, List.set_cons_zero, List.set_cons_succ]
        refine wpAnyH_take (i := 13) (oi := { dst := some 63, op := Op.load 35 (Operand.tmp 62), type := 35, pos := "l8_guards.go:76", after := #[{ on := 12, ground := Ground.data }, { on := 8, ground := Ground.guard }], guard := some (8, true) }) (v := ?_) rfl (by kernel_rfl) (by kernel_rfl) (by kernel_rfl) (fun _ _ _ h => h) (Or.inl ⟨by rfl, ?_⟩) hS4 ?_
        rotate_left
        · (intro w9 hSw; (try dsimp only at hSw); go_simp; try with_reducible rfl)
        try simp only [Act.put, List.setIfInBounds_toArray, List.set_cons_zero, List.set_cons_succ]
        refine wpAnyH_ready (rs := [14]) (by kernel_rfl) (by simp) ?_
        refine AllReadyH.cons (o := { dst := some 64, op := Op.call { callee := Callee.value (Operand.func 35), args := #[Operand.tmp 63], argTypes := #[35] }, type := 23, pos := "l8_guards.go:76", after := #[{ on := 13, ground := Ground.data }, { on := 8, ground := Ground.chain }, { on := 8, ground := Ground.guard }], guard := some (8, true) }) rfl (fun K hK => ?_) AllReadyH.nil
        go_simp
        go_at_call 35
        refine (wbI_any A n c B m d C o f g.ln _ (lr_below HG.out.l B4.out) (lv_iff.1 HLV.out)).mono ?_
        rintro e w5 ⟨A5, rfl, ho5, hb5⟩
        have N5 := Lib.hid (nr_own ho5)
        have B5 := Lib.hid (below_seq B4.out hb5)
        have hS5 := CS.out _ B5.out
        clear hb5 ho5
        refine hK.out _ _ hS5 (fun hH => ?_)
        clear hK K
        try simp only [Act.put, List.setIfInBounds_toArray, List.set_cons_zero, List.set_cons_succ]
        refine wpAnyH_ready (rs := [15]) (by kernel_rfl) (by simp) ?_
        refine AllReadyH.cons (o := { dst := some 65, op := Op.call { callee := Callee.value (Operand.func 48), args := #[Operand.tmp 61, Operand.tmp 64], argTypes := #[23, 23] }, type := 4, pos := "l8_guards.go:76", after := #[{ on := 11, ground := Ground.data }, { on := 14, ground := Ground.data }, { on := 14, ground := Ground.chain }, { on := 8, ground := Ground.guard }], guard := some (8, true) }) rfl (fun K hK => ?_) AllReadyH.nil
        go_simp
        go_at_call 48
        refine (eqII_any U A5 nu cu 8 8 g.us (bys g.ln) _ (nr_below HG.out.u B5.out) N5.out (Nat.le_trans HG.out.ku (by omega)) (by omega)).mono ?_
        rintro e w6 ⟨rfl, hb6⟩
        rw [HEQ.out]
        have B6 := Lib.hid (below_seq B5.out hb6)
        have hS6 := CS.out _ B6.out
        clear hb6
        refine hK.out _ _ hS6 (fun hH => ?_)
        clear hK K
        try simp only [Act.put, List.setIfInBounds_toArray, List.set_cons_zero, List.set_cons_succ]
        refine wpAnyH_take (i := 16) (oi := { dst := some 66, op := Op.pick (Operand.tmp 58) (Operand.tmp 65) (Operand.const (Value.bool false)), type := 4, pos := "l8_guards.go:76", after := #[{ on := 8, ground := Ground.data }, { on := 15, ground := Ground.data }], guard := none }) (v := ?_) rfl (by kernel_rfl) (by kernel_rfl) (by kernel_rfl) (fun _ _ _ h => h) (Or.inl ⟨by rfl, ?_⟩) hS6 ?_
        rotate_left
        · (intro w9 hSw; (try dsimp only at hSw); go_simp; try with_reducible rfl)
        try simp only [Act.put, List.setIfInBounds_toArray, List.set_cons_zero, List.set_cons_succ]
        refine wpAnyH_take (i := 17) (oi := { dst := some 2, op := Op.assign (Operand.tmp 66), type := 4, pos := "l8_guards.go:76", after := #[{ on := 16, ground := Ground.data }, { on := 15, ground := Ground.chain }, { on := 0, ground := Ground.phase }, { on := 1, ground := Ground.phase }, { on := 2, ground := Ground.phase }, { on := 3, ground := Ground.phase }, { on := 4, ground := Ground.phase }, { on := 5, ground := Ground.phase }, { on := 6, ground := Ground.phase }, { on := 7, ground := Ground.phase }, { on := 8, ground := Ground.phase }, { on := 9, ground := Ground.phase }, { on := 10, ground := Ground.phase }, { on := 11, ground := Ground.phase }, { on := 12, ground := Ground.phase }, { on := 13, ground := Ground.phase }, { on := 14, ground := Ground.phase }, { on := 15, ground := Ground.phase }, { on := 16, ground := Ground.phase }], guard := none }) (v := ?_) rfl (by kernel_rfl) (by kernel_rfl) (by kernel_rfl) (fun _ _ _ h => h) (Or.inl ⟨by rfl, ?_⟩) hS6 ?_
        rotate_left
        · (intro w9 hSw; (try dsimp only at hSw); go_simp; try with_reducible rfl)
        try simp only [Act.put, List.setIfInBounds_toArray, List.set_cons_zero, List.set_cons_succ]
        refine wpAnyH_done (by kernel_rfl) ?_ _
        go_wp2
        go_ret
        exact ⟨ret_bool HE.out, below_seq HB.out.b B6.out⟩
end Go.Proofs.Ytanaeebjcbbagaa
