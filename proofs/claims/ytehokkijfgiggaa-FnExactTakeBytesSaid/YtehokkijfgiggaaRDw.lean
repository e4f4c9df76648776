/-
  Chapter 5: a robin, sometimes one that is not valid: what the draw returns, whatever the bytes. Conditions: the source is as open leaves it, its counter is small.
-/
import Derived.Test.YtehokkijfgiggaaRD
namespace Go.Proofs.Ytehokkijfgiggaa
open Go.RowKit

theorem sml_mono {m k : Nat} {fs : List Flw} (h : Sml m fs) (hk : m ≤ k) : Sml k fs := ⟨Nat.le_trans h.1 hk, fun f hf => Nat.le_trans (h.2 f hf) hk⟩
theorem sml_set {m k : Nat} {fs : List Flw} {f : Flw} (h : Sml m fs) (hf : f.ws.length ≤ m + 1) : Sml (m + 1) (fs.set k f) :=
  ⟨by rw [List.length_set]; have := h.1; omega, fun x hx => by
    rcases List.mem_or_eq_of_mem_set hx with h1 | rfl
    · have := h.2 x h1; omega
    · exact hf⟩
theorem sml_snoc {m : Nat} {fs : List Flw} {f : Flw} (h : Sml m fs) (hf : f.ws.length ≤ m + 1) : Sml (m + 1) (fs ++ [f]) :=
  ⟨by have := h.1; simp; omega, fun x hx => by
    rcases List.mem_append.1 hx with h1 | h1
    · have := h.2 x h1; omega
    · simp at h1; subst h1; exact hf⟩
/-- one flow's deficit is written -/
theorem do_dfc {w : World} {lo g n c k : Nat} {hs : List Fh} {fs : List Flw} {h : Fh} {f : Flw} (x : Int) (D : DO w lo (.slice (some ⟨g, 0, none⟩) n c) n hs fs) (hk : hs[k]? = some h) (hf : fs[k]? = some f) :
    DO (w.setCell ⟨g, k * 3 + 1, none⟩ (.int .i64 x)) lo (.slice (some ⟨g, 0, none⟩) n c) n (hs.set k ⟨h.peer, x, h.A, h.n, h.c⟩) (fs.set k ⟨f.peer, x, f.ws⟩) := by
  have hlk : k < hs.length := by
    rcases Nat.lt_or_ge k hs.length with hlt | hge
    · exact hlt
    · rw [List.getElem?_eq_none hge] at hk; cases hk
  have hget : ∀ (j : Nat) (q : Fh), (hs.set k ⟨h.peer, x, h.A, h.n, h.c⟩)[j]? = some q → ∃ q0, hs[j]? = some q0 ∧ q.sl = q0.sl ∧ q.n = q0.n ∧ q.peer = q0.peer ∧ (j ≠ k → q.dfc = q0.dfc) ∧ (j = k → q.dfc = x) := by
    intro j q e
    by_cases hjk : k = j
    · subst hjk
      rw [List.getElem?_set_self hlk] at e
      obtain rfl := Option.some.inj e
      exact ⟨h, hk, rfl, rfl, rfl, fun e => absurd rfl e, fun _ => rfl⟩
    · rw [List.getElem?_set_ne hjk] at e
      exact ⟨q, e, rfl, rfl, rfl, fun _ => rfl, fun e => absurd e.symm hjk⟩
  refine ⟨?_, by rw [List.length_set, List.length_set]; exact D.len, fun j q f' h1 h2 => ?_, fun i j q q2 hij h1 h2 b hb1 hb2 => ?_⟩
  · have h1 := (D.row.stored (k * 3 + 1) (.int .i64 x)).1
    rw [fcells_set1 hs k h x hk] at h1
    exact h1
  · obtain ⟨q0, hq0, e1, e2, e3, e4, e5⟩ := hget j q h1
    have far : ∀ {u : Value} {m : Nat} {xs : List Value}, w.ownsRow lo 28 4 u m xs → (∀ b, u.ownBlock = some b → Value.ownBlock (.slice (some ⟨g, 0, none⟩) n c) ≠ some b) → (w.setCell ⟨g, k * 3 + 1, none⟩ (.int .i64 x)).ownsRow lo 28 4 u m xs := fun h1 h2 => own_set_ne (p := ⟨g, k * 3 + 1, none⟩) h1 (fun e => h2 g e rfl) _
    by_cases hjk : k = j
    · subst hjk
      rw [List.getElem?_set_self (by rw [← D.len]; exact hlk)] at h2
      obtain rfl := Option.some.inj h2
      obtain ⟨a1, a2, a3, a4, a5⟩ := D.all k q0 f hq0 hf
      rw [e1, e2, e3, e5 rfl]
      exact ⟨a1, rfl, a3, far a4 a5, a5⟩
    · rw [List.getElem?_set_ne hjk] at h2
      obtain ⟨a1, a2, a3, a4, a5⟩ := D.all j q0 f' hq0 h2
      rw [e1, e2, e3, e4 fun e => hjk e.symm]
      exact ⟨a1, a2, a3, far a4 a5, a5⟩
  · obtain ⟨q0, hq0, e1, -⟩ := hget i q h1
    obtain ⟨q1, hq1, e2, -⟩ := hget j q2 h2
    rw [e1] at hb1
    rw [e2] at hb2
    exact D.apart i j q0 q1 hij hq0 hq1 b hb1 hb2
structure LWR (w : World) (g L : Nat) (x : Int) (A : Option Addr) (m c : Nat) (hs : List Fh) (fs : List Flw) (wr : World) : Prop where
  out : Blk wr (w.heap.size + 1) 25 #[.int .i64 0, .slice none 0 0]
  l : Blk wr L 25 #[.int .i64 x, .slice A m c]
  fl : DO wr (w.heap.size + 2) (.slice A m c) m hs fs
  sep : ∀ b, Value.ownBlock (.slice A m c) = some b → b ≠ L
  seps : ∀ (j : Nat) (h : Fh), hs[j]? = some h → ∀ b, h.sl.ownBlock = some b → b ≠ L
  gr : w.grownBy wr (some g)
  hg : g < w.heap.size
  hL : w.heap.size + 1 < L
theorem do_lo {w : World} {lo : Nat} {v : Value} {n : Nat} {hs : List Fh} {fs : List Flw} (D : DO w lo v n hs fs) : (∀ b, v.ownBlock = some b → lo ≤ b ∧ b < w.heap.size) ∧ ∀ (k : Nat) (h : Fh), hs[k]? = some h → ∀ b, h.sl.ownBlock = some b → lo ≤ b ∧ b < w.heap.size :=
  ⟨fun b e => D.row.lt b e, fun k h hk b e => by
    have hlk : k < hs.length := by
      rcases Nat.lt_or_ge k hs.length with hlt | hge
      · exact hlt
      · rw [List.getElem?_eq_none hge] at hk; cases hk
    exact (D.all k h _ hk (List.getElem?_eq_getElem (by rw [← D.len]; exact hlk))).2.2.2.1.lt b e⟩
theorem lwr_grown {w w1 w2 : World} {g L : Nat} {x : Int} {A : Option Addr} {m c : Nat} {hs : List Fh} {fs : List Flw} (h : LWR w g L x A m c hs fs w1) (hg : w1.grownBy w2 (some g)) : LWR w g L x A m c hs fs w2 :=
  have h0 := h.hg
  have hL := h.hL
  ⟨blk_grown h.out hg (by omega), blk_grown h.l hg (by omega), do_grown h.fl hg (fun b e e2 => by injection e with e; have := (do_lo h.fl).1 b e2; omega) (fun k q hk b e e2 => by injection e with e; have := (do_lo h.fl).2 k q hk b e2; omega), h.sep, h.seps, h.gr.trans hg, h.hg, h.hL⟩
theorem lwr_drew {w w1 : World} {g L : Nat} {x : Int} {A : Option Addr} {m c : Nat} {hs : List Fh} {fs : List Flw} (h : LWR w g L x A m c hs fs w1) : LWR w g L x A m c hs fs w1.drew :=
  ⟨h.out, h.l, do_below h.fl (Below.refl _ _).drew, h.sep, h.seps, ⟨h.gr.os, h.gr.tape, h.gr.output, h.gr.size, h.gr.block⟩, h.hg, h.hL⟩
theorem lwr_alloc {w w1 : World} {g L : Nat} {x : Int} {A : Option Addr} {m c : Nat} {hs : List Fh} {fs : List Flw} (h : LWR w g L x A m c hs fs w1) (o : Obj) : LWR w g L x A m c hs fs (w1.alloc o) :=
  ⟨blk_alloc h.out o, blk_alloc h.l o, do_alloc h.fl o, h.sep, h.seps, g_alloc h.gr o, h.hg, h.hL⟩
theorem lwr_cells {w w1 : World} {g L : Nat} {x : Int} {A : Option Addr} {m c : Nat} {hs : List Fh} {fs : List Flw} (h : LWR w g L x A m c hs fs w1) : w1.cell? ⟨L, 0, none⟩ = some (.int .i64 x) ∧ w1.cell? ⟨L, 1, none⟩ = some (.slice A m c) := ⟨blk_cell h.l 0, blk_cell h.l 1⟩
/-- the boxes and the source, when a row that the robin owns has grown -/
theorem lwr_app {w w5 w6 : World} {g Q L : Nat} {x : Int} {A : Option Addr} {m c : Nat} {hs : List Fh} {fs : List Flw} {row : Option Nat} {o : Obj} (h : LWR w g L x A m c hs fs w5) (hr : RdAt w5 g Q) (h6 : (w5.alloc o).grownBy w6 row)
    (hrow : ∀ b, row = some b → w.heap.size + 2 ≤ b ∧ b ≠ L) :
    Blk w6 L 25 #[.int .i64 x, .slice A m c] ∧ Blk w6 (w.heap.size + 1) 25 #[.int .i64 0, .slice none 0 0] ∧ w.grownBy w6 (some g) ∧ RdAt w6 g Q := by
  have h0 := h.hg
  refine ⟨blk_grownQ (blk_alloc h.l o) h6 (fun e => (hrow _ e.symm).2 rfl), blk_grownQ (blk_alloc h.out o) h6 (fun e => by have := hrow _ e.symm; omega), ?_, ?_⟩
  · rcases row with _ | j
    · exact g_none (g_alloc h.gr o) h6
    · exact g_new (g_alloc h.gr o) h6 (by have := hrow j rfl; omega)
  · rcases row with _ | j
    · exact rd_below (rd_alloc hr o) ⟨h6.os, h6.tape, h6.output, h6.size, fun i hi => h6.block i hi (by simp)⟩
    · exact rd_new (rd_alloc hr o) h6 (by have := hrow j rfl; omega)
theorem lwr_end {w wr : World} {g Q n c : Nat} {A : Option Addr} {hs : List Fh} {fs : List Flw} (u v : Value) (D : DO wr (w.heap.size + 2) (.slice A n c) n hs fs) (hn : n ≤ 4000000000) (gr : w.grownBy wr (some g)) (rd : RdAt wr g Q) (hg : g < w.heap.size) :
    FRX ((wr.setCell ⟨w.heap.size + 1, 0, none⟩ u).setCell ⟨w.heap.size + 1, 1, none⟩ v) (fun b => w.heap.size ≤ b) A n fs ∧ w.grownBy ((wr.setCell ⟨w.heap.size + 1, 0, none⟩ u).setCell ⟨w.heap.size + 1, 1, none⟩ v) (some g) ∧ RdAt ((wr.setCell ⟨w.heap.size + 1, 0, none⟩ u).setCell ⟨w.heap.size + 1, 1, none⟩ v) g Q :=
  ⟨frx_mono (do_frx (do_far (do_far D (by simp) _) (by simp) _) hn) (fun b hb => by omega), g_set (g_set gr (.inr (by simp)) _) (.inr (by simp)) _, rd_set (rd_set rd (by simp; omega) _) (by simp; omega) _⟩
set_option maxHeartbeats 8000000 in
theorem l5Wrong_any (g q : Nat) (x : Int) (A : Option Addr) (N c m : Nat) (fs : List Flw) (w : World) (h : RdAt w g q) (hq : q ≤ 700000) (hp : FR w A N fs) (hs0 : Sml m fs) (hm : m ≤ 75) :
    Calls Try.prog 61 #[.pointer (some ⟨g, 0, none⟩), .agg #[.int .i64 x, (.slice A N c)]] w (RDraw w g (q + 20) (m + 1)) := by
  have hg := rd_lt h
  have HP := Lib.hid hp
  have HR := Lib.hid h
  have HSm := Lib.hid hs0
  have hnm : N ≤ m := by have := (fr_lenF hp).1; have := hs0.1; omega
  clear hp h hs0
  go_enter Try.func61, Try.ntmps61
  go_wp2_with fail
  refine (copyRS_any x A N c fs _ (fr_allocF (fr_allocF HP.out _) _)).mono ?_
  rintro e w1 ⟨A1, n1, c1, hs, rfl, hn1, -, -, hD1, hb1⟩
  have hlen := (fr_lenF HP.out).1
  obtain rfl : N = n1 := hlen.symm.trans hn1.symm
  have hz1 := hb1.size
  simp at hz1
  have D : LWR w g w1.heap.size x A1 N c1 hs fs (w1.alloc (.cells #[.int .i64 x, (.slice A1 N c1)] 25)) :=
    ⟨blk_alloc (blk_below (blk_new2 w _ _ _) hb1 (by simp)) _, blk_new w1 _ _, do_alloc (do_mono hD1 (by simp)) _, (fun b e => by have := (do_lo hD1).1 b e; omega), (fun j h hj b e => by have := (do_lo hD1).2 j h hj b e; omega), g_below (g_refl w _) (below_alloc (below_from (below_alloc (below_alloc (Below.refl _ _) _) _) hb1 (by simp <;> omega)) _), hg, by omega⟩
  have HD := Lib.hid D
  have hr1 := Lib.hid (rd_alloc (rd_below (rd_alloc (rd_alloc HR.out _) _) hb1) (.cells #[.int .i64 x, (.slice A1 N c1)] 25))
  clear D hb1 hD1 HR HP
  have hN0 := Lib.hid hlen
  have hN4 : N ≤ 80 := by omega
  clear hlen hn1
  go_wp2_with fail
  refine (pick_any g q _ _ hr1.out (by omega) (by omega)).mono ?_
  rintro e w2 ⟨k, rfl, hk, hg2, hr2⟩
  have HD2 := Lib.hid (lwr_grown HD.out hg2)
  have hr2' := Lib.hid hr2
  obtain ⟨l0, l1, g0, g1⟩ := blk_two HD2.out.l
  obtain ⟨o0, o1, f0, f1⟩ := blk_two HD2.out.out
  have hL := HD2.out.hL
  have hne' : ¬ w1.heap.size = w.heap.size + 1 := by omega
  have y2 := blk_lt HD2.out.l
  clear hg2 hr2 hr1 HD
  by_cases hk0 : k = 0
  · subst hk0
    go_wp2_with fail
    refine (num_lit g _ _ 3 _ _ [0, 501, 1] _ hr2'.out (by omega) (by simp) (by decide) rfl).mono ?_
    rintro e w3 ⟨x3, hx, rfl, hg3, hr3⟩
    have HD3 := Lib.hid (lwr_grown HD2.out hg3)
    clear l0 l1 g0 g1 o0 o1 f0 f1 hx
    obtain ⟨l0, l1, g0, g1⟩ := blk_two HD3.out.l
    obtain ⟨o0, o1, f0, f1⟩ := blk_two HD3.out.out
    have HR3 := Lib.hid hr3
    clear hg3 hr3
    go_wp2
    refine bodyPost_ret (v := .agg #[.int .i64 x3, (.slice A1 N c1)]) (by simp [results, Try.results61, go_sem, o0, o1]) rfl ⟨x3, A1, N, c1, fs, rfl, sml_mono HSm.out (by omega), ?_⟩
    have E := lwr_end (.int .i64 x3) (.slice A1 N c1) (do_ne (p := ⟨w1.heap.size, 0, none⟩) HD3.out.fl HD3.out.sep HD3.out.seps (.int .i64 x3)) (by omega) (g_set (p := ⟨w1.heap.size, 0, none⟩) HD3.out.gr (.inr (by simp; omega)) _) (rd_set (p := ⟨w1.heap.size, 0, none⟩) HR3.out (by simp; omega) _) hg
    exact ⟨E.1, E.2.1, rd_more E.2.2 (by omega)⟩
  have e0 : ((k : Int) == 0) = false := by simp; omega
  by_cases hk1 : k = 1
  · subst hk1
    clear o0 o1 f0 f1
    have HDd := Lib.hid (lwr_drew HD2.out)
    have hrd := Lib.hid (show RdAt w2.drew g (q + 1) from hr2'.out)
    have hS0 := lwr_cells HD2.out
    go_wp2_with fail
    refine held_start (S := (fun w' => w'.cell? ⟨w1.heap.size, 0, none⟩ = some (.int .i64 x) ∧ w'.cell? ⟨w1.heap.size, 1, none⟩ = some (.slice A1 N c1))) 8 (by kernel_rfl) ?_
    refine held_take (i := 0) (oi := { dst := some 19, op := Op.fieldAddr 25 (Operand.tmp 5) 1, type := 0, pos := "l5_robins.go:200", after := #[], guard := none }) (v := ?_) rfl (by kernel_rfl) (by kernel_rfl) (by kernel_rfl) (by kernel_rfl) (fun _ _ _ h => h) (Or.inl ⟨by rfl, ?_⟩) hS0 ?_
    rotate_left
    · (intro w9 hSw; (try dsimp only at hSw); go_simp; try with_reducible rfl)
    try simp only [Act.put, List.setIfInBounds_toArray, List.set_cons_zero, List.set_cons_succ]
    refine held_take (i := 1) (oi := { dst := some 20, op := Op.load 23 (Operand.tmp 19), type := 23, pos := "l5_robins.go:200", after := #[{ on := 0, ground := Ground.data }], guard := none }) (v := ?_) rfl (by kernel_rfl) (by kernel_rfl) (by kernel_rfl) (by kernel_rfl) (fun _ _ _ h => h) (Or.inl ⟨by rfl, ?_⟩) hS0 ?_
    rotate_left
    · (intro w9 hSw; (try dsimp only at hSw); go_simp; try with_reducible rfl)
    try simp only [Act.put, List.setIfInBounds_toArray, List.set_cons_zero, List.set_cons_succ]
    refine held_take (i := 2) (oi := { dst := some 21, op := Op.move (Operand.tmp 0), type := 70, pos := "l5_robins.go:200", after := #[], guard := none }) (v := ?_) rfl (by kernel_rfl) (by kernel_rfl) (by kernel_rfl) (by kernel_rfl) (fun _ _ _ h => h) (Or.inl ⟨by rfl, ?_⟩) hS0 ?_
    rotate_left
    · (intro w9 hSw; (try dsimp only at hSw); go_simp; try with_reducible rfl)
    try simp only [Act.put, List.setIfInBounds_toArray, List.set_cons_zero, List.set_cons_succ]
    refine held_one (i := 3) (o := { dst := some 22, op := Op.call { callee := Callee.value (Operand.func 83), args := #[Operand.tmp 21, Operand.const (Value.int IntKind.i64 8)], argTypes := #[70, 3] }, type := 3, pos := "l5_robins.go:200", after := #[{ on := 2, ground := Ground.data }], guard := none }) (by kernel_rfl) rfl (fun K hK => ?_)
    go_simp
    go_at_call 83
    refine (pick_any g _ 8 _ hrd.out (by omega) (by omega)).mono ?_
    rintro e w3 ⟨j, rfl, hj, hg3, hr3⟩
    have HD3 := Lib.hid (lwr_grown HDd.out hg3)
    have hr3' := Lib.hid hr3
    have hS3 := lwr_cells HD3.out
    clear hg3 hr3
    refine hK.out _ _ (.inr hS3) ?_
    clear hK K
    try simp only [Act.put, List.setIfInBounds_toArray, List.set_cons_zero, List.set_cons_succ]
    refine held_take (i := 4) (oi := { dst := some 23, op := Op.build 40 #[(0, Operand.tmp 22)], type := 40, pos := "l5_robins.go:200", after := #[{ on := 3, ground := Ground.data }], guard := none }) (v := ?_) rfl (by kernel_rfl) (by kernel_rfl) (by kernel_rfl) (by kernel_rfl) (fun _ _ _ h => h) (Or.inl ⟨by rfl, ?_⟩) hS3 ?_
    rotate_left
    · (intro w9 hSw; (try dsimp only at hSw); go_simp; try with_reducible rfl)
    try simp only [Act.put, List.setIfInBounds_toArray, List.set_cons_zero, List.set_cons_succ]
    refine held_one (i := 5) (o := { dst := some 24, op := Op.buildSlice 23 1 #[(0, Operand.tmp 23)], type := 23, pos := "l5_robins.go:200", after := #[{ on := 4, ground := Ground.data }], guard := none }) (by kernel_rfl) rfl (fun K hK => ?_)
    go_simp
    have hS4 := lwr_cells (lwr_alloc HD3.out (.cells #[(.int .i64 (j : Int)), .int .i64 0, (.slice none 0 0)] 40))
    refine hK.out _ _ (.inr hS4) ?_
    clear hK K
    try simp only [Act.put, List.setIfInBounds_toArray, List.set_cons_zero, List.set_cons_succ]
    refine held_one (i := 6) (o := { dst := some 25, op := Op.call { callee := Callee.builtin Builtin.append, args := #[Operand.tmp 20, Operand.tmp 24], argTypes := #[23, 23] }, type := 23, pos := "l5_robins.go:200", after := #[{ on := 1, ground := Ground.data }, { on := 5, ground := Ground.data }, { on := 3, ground := Ground.chain }], guard := none }) (by kernel_rfl) rfl (fun K hK => ?_)
    refine step_app_flws _ rfl (.tmp 20) (.tmp 24) rfl (w.heap.size + 2) (.slice A1 N c1) N hs rfl (HD3.out.fl.row.alloc _) (some ⟨w3.heap.size, 0, none⟩) 1 1 [⟨(j : Int), 0, none, 0, 0⟩] rfl (hr_single (blk_at rfl _ _)) (by omega) (by have := blk_lt HD3.out.l; simp; omega) ?_
    intro v5 w5 ho5 hg5 hat5
    obtain ⟨A5, c5, rfl, -, -, -⟩ := own_form ho5
    have D5 := Lib.hid (do_snoc (f := ⟨(j : Int), 0, []⟩) HD3.out.fl (below_alloc (Below.refl _ _) (.cells #[(.int .i64 (j : Int)), .int .i64 0, (.slice none 0 0)] 40)) (World.ownsRow_nil _ w3.heap.size _ _) (Nat.le_refl _) (by omega) (by have := blk_lt HD3.out.l; omega) ho5 hg5 hat5)
    have B5 := Lib.hid (lwr_app HD3.out hr3'.out hg5 fun b e => ⟨((do_lo HD3.out.fl).1 b e).1, HD3.out.sep b e⟩)
    have AT := Lib.hid (show ∀ b, Value.ownBlock (.slice A5 (N + 1) c5) = some b → b ≠ w1.heap.size from fun b e => (by
      rcases hat5 with h | h
      · exact HD3.out.sep b (h.symm.trans e)
      · rw [h] at e; injection e with e; have := blk_lt HD3.out.l; simp at e; omega))
    have hS5 := And.intro (blk_cell B5.out.1 0) (blk_cell B5.out.1 1)
    obtain ⟨-, -, m0, m1⟩ := blk_two B5.out.1
    have m5 := hS5.2
    have m4 := hS5.1
    clear ho5 hg5 hat5
    refine hK.out _ _ (.inr hS5) ?_
    clear hK K
    try simp only [Act.put, List.setIfInBounds_toArray, List.set_cons_zero, List.set_cons_succ]
    refine held_one (i := 7) (o := { dst := some 26, op := Op.fieldAddr 25 (Operand.tmp 5) 1, type := 0, pos := "l5_robins.go:200", after := #[{ on := 0, ground := Ground.phase }, { on := 1, ground := Ground.phase }, { on := 2, ground := Ground.phase }, { on := 3, ground := Ground.phase }, { on := 4, ground := Ground.phase }, { on := 5, ground := Ground.phase }, { on := 6, ground := Ground.phase }], guard := none }) (by kernel_rfl) rfl (fun K hK => ?_)
    go_simp
    refine hK.out _ _ (.inr hS5) ?_
    clear hK K
    try simp only [Act.put, List.setIfInBounds_toArray, List.set_cons_zero, List.set_cons_succ]
    refine held_one (i := 8) (o := { dst := none, op := Op.store 23 (Operand.tmp 26) (Operand.tmp 25), type := 0, pos := "l5_robins.go:200", after := #[{ on := 7, ground := Ground.data }, { on := 6, ground := Ground.data }, { on := 6, ground := Ground.chain }, { on := 0, ground := Ground.phase }, { on := 1, ground := Ground.phase }, { on := 2, ground := Ground.phase }, { on := 3, ground := Ground.phase }, { on := 4, ground := Ground.phase }, { on := 5, ground := Ground.phase }, { on := 6, ground := Ground.phase }], guard := none }) (by kernel_rfl) rfl (fun K hK => ?_)
    go_simp
    refine hK.out _ _ (.inl rfl) ?_
    clear hK K
    try simp only [Act.put, List.setIfInBounds_toArray, List.set_cons_zero, List.set_cons_succ]
    refine held_done (by kernel_rfl) ?_ _
    clear hS0 hS3 hS4 hS5 l0 l1 g0 g1
    obtain ⟨o0, o1, f0, f1⟩ := blk_two B5.out.2.1
    have zo := blk_lt B5.out.2.1
    have zl := blk_lt B5.out.1
    go_wp2
    refine bodyPost_ret (v := .agg #[.int .i64 x, (.slice A5 (N + 1) c5)]) (by simp [results, Try.results61, go_sem, o0, o1]) rfl ⟨x, A5, (N + 1), c5, (fs ++ [⟨(j : Int), 0, []⟩]), rfl, sml_snoc HSm.out (by simp), ?_⟩
    have E := lwr_end (.int .i64 x) (.slice A5 (N + 1) c5) (do_ne (p := ⟨w1.heap.size, 1, none⟩) D5.out AT.out (fun i h hi b e => by
        rcases Nat.lt_or_ge i hs.length with hlt | hge
        · rw [List.getElem?_append_left hlt] at hi
          exact HD3.out.seps i h hi b e
        · rw [List.getElem?_append_right hge] at hi
          have h0 : i - hs.length = 0 := by
            rcases Nat.eq_zero_or_pos (i - hs.length) with e0 | e0
            · exact e0
            · rw [List.getElem?_eq_none (by simp; omega)] at hi; cases hi
          rw [h0] at hi
          obtain rfl : (⟨(j : Int), 0, none, 0, 0⟩ : Fh) = h := Option.some.inj hi
          cases e) (.slice A5 (N + 1) c5)) (by omega) (g_set (p := ⟨w1.heap.size, 1, none⟩) B5.out.2.2.1 (.inr (by simp; omega)) _) (rd_set (p := ⟨w1.heap.size, 1, none⟩) B5.out.2.2.2 (by simp; omega) _) hg
    exact ⟨E.1, E.2.1, rd_more E.2.2 (by omega)⟩
  have e1 : ((k : Int) == 1) = false := by simp; omega
  by_cases hk2 : k = 2
  · subst hk2
    rcases Nat.eq_zero_or_pos N with rfl | hN1
    · go_wp2
      refine bodyPost_ret (v := .agg #[.int .i64 x, (.slice A1 0 c1)]) (by simp [results, Try.results61, go_sem, o0, o1]) rfl ⟨x, A1, 0, c1, fs, rfl, sml_mono HSm.out (by omega), ?_⟩
      have E := lwr_end (.int .i64 x) (.slice A1 0 c1) (HD2.out.fl) (by omega) (HD2.out.gr) (hr2'.out) hg
      exact ⟨E.1, E.2.1, rd_more E.2.2 (by omega)⟩
    · have nn : decide ((N : Int) > 0) = true := decide_eq_true (by omega)
      obtain ⟨g', cap, hv, hg1, hg2⟩ := HD2.out.fl.row.form (by omega)
      obtain ⟨rfl, rfl⟩ : A1 = some ⟨g', 0, none⟩ ∧ c1 = cap := (by injection hv with a1 a2 a3; exact ⟨a1, a3⟩)
      clear hv
      have HDd := Lib.hid (lwr_drew HD2.out)
      have hrd := Lib.hid (show RdAt w2.drew g (q + 1) from hr2'.out)
      have hS0 := lwr_cells HD2.out
      clear o0 o1 f0 f1
      go_wp2_with fail
      refine held_start (S := (fun w' => w'.cell? ⟨w1.heap.size, 0, none⟩ = some (.int .i64 x) ∧ w'.cell? ⟨w1.heap.size, 1, none⟩ = some (.slice (some ⟨g', 0, none⟩) N c1))) 12 (by kernel_rfl) ?_
      refine held_take (i := 0) (oi := { dst := some 33, op := Op.fieldAddr 25 (Operand.tmp 5) 1, type := 0, pos := "l5_robins.go:203", after := #[], guard := none }) (v := ?_) rfl (by kernel_rfl) (by kernel_rfl) (by kernel_rfl) (by kernel_rfl) (fun _ _ _ h => h) (Or.inl ⟨by rfl, ?_⟩) hS0 ?_
      rotate_left
      · (intro w9 hSw; (try dsimp only at hSw); go_simp; try with_reducible rfl)
      try simp only [Act.put, List.setIfInBounds_toArray, List.set_cons_zero, List.set_cons_succ]
      refine held_take (i := 1) (oi := { dst := some 34, op := Op.load 23 (Operand.tmp 33), type := 23, pos := "l5_robins.go:203", after := #[{ on := 0, ground := Ground.data }], guard := none }) (v := ?_) rfl (by kernel_rfl) (by kernel_rfl) (by kernel_rfl) (by kernel_rfl) (fun _ _ _ h => h) (Or.inl ⟨by rfl, ?_⟩) hS0 ?_
      rotate_left
      · (intro w9 hSw; (try dsimp only at hSw); go_simp; try with_reducible rfl)
      try simp only [Act.put, List.setIfInBounds_toArray, List.set_cons_zero, List.set_cons_succ]
      refine held_take (i := 2) (oi := { dst := some 35, op := Op.move (Operand.tmp 0), type := 70, pos := "l5_robins.go:203", after := #[], guard := none }) (v := ?_) rfl (by kernel_rfl) (by kernel_rfl) (by kernel_rfl) (by kernel_rfl) (fun _ _ _ h => h) (Or.inl ⟨by rfl, ?_⟩) hS0 ?_
      rotate_left
      · (intro w9 hSw; (try dsimp only at hSw); go_simp; try with_reducible rfl)
      try simp only [Act.put, List.setIfInBounds_toArray, List.set_cons_zero, List.set_cons_succ]
      refine held_take (i := 3) (oi := { dst := some 36, op := Op.fieldAddr 25 (Operand.tmp 5) 1, type := 0, pos := "l5_robins.go:203", after := #[], guard := none }) (v := ?_) rfl (by kernel_rfl) (by kernel_rfl) (by kernel_rfl) (by kernel_rfl) (fun _ _ _ h => h) (Or.inl ⟨by rfl, ?_⟩) hS0 ?_
      rotate_left
      · (intro w9 hSw; (try dsimp only at hSw); go_simp; try with_reducible rfl)
      try simp only [Act.put, List.setIfInBounds_toArray, List.set_cons_zero, List.set_cons_succ]
      refine held_take (i := 4) (oi := { dst := some 37, op := Op.load 23 (Operand.tmp 36), type := 23, pos := "l5_robins.go:203", after := #[{ on := 3, ground := Ground.data }], guard := none }) (v := ?_) rfl (by kernel_rfl) (by kernel_rfl) (by kernel_rfl) (by kernel_rfl) (fun _ _ _ h => h) (Or.inl ⟨by rfl, ?_⟩) hS0 ?_
      rotate_left
      · (intro w9 hSw; (try dsimp only at hSw); go_simp; try with_reducible rfl)
      try simp only [Act.put, List.setIfInBounds_toArray, List.set_cons_zero, List.set_cons_succ]
      refine held_take (i := 5) (oi := { dst := some 38, op := Op.call { callee := Callee.builtin Builtin.len, args := #[Operand.tmp 37], argTypes := #[23] }, type := 3, pos := "l5_robins.go:203", after := #[{ on := 4, ground := Ground.data }], guard := none }) (v := ?_) rfl (by kernel_rfl) (by kernel_rfl) (by kernel_rfl) (by kernel_rfl) (fun _ _ _ h => h) (Or.inl ⟨by rfl, ?_⟩) hS0 ?_
      rotate_left
      · (intro w9 hSw; (try dsimp only at hSw); go_simp; try with_reducible rfl)
      try simp only [Act.put, List.setIfInBounds_toArray, List.set_cons_zero, List.set_cons_succ]
      refine held_take (i := 7) (oi := { dst := some 40, op := Op.move (Operand.tmp 0), type := 70, pos := "l5_robins.go:203", after := #[], guard := none }) (v := ?_) rfl (by kernel_rfl) (by kernel_rfl) (by kernel_rfl) (by kernel_rfl) (fun _ _ _ h => h) (Or.inl ⟨by rfl, ?_⟩) hS0 ?_
      rotate_left
      · (intro w9 hSw; (try dsimp only at hSw); go_simp; try with_reducible rfl)
      try simp only [Act.put, List.setIfInBounds_toArray, List.set_cons_zero, List.set_cons_succ]
      refine held_two (i := 6) (j := 8) (oi := { dst := some 39, op := Op.call { callee := Callee.value (Operand.func 83), args := #[Operand.tmp 35, Operand.tmp 38], argTypes := #[70, 3] }, type := 3, pos := "l5_robins.go:203", after := #[{ on := 2, ground := Ground.data }, { on := 5, ground := Ground.data }], guard := none }) (oj := { dst := some 41, op := Op.buildSlice 73 3 #[(0, Operand.const (Value.int IntKind.i64 (-1))), (1, Operand.const (Value.int IntKind.i64 700)), (2, Operand.const (Value.int IntKind.i64 5))], type := 73, pos := "l5_robins.go:203", after := #[], guard := none }) (by kernel_rfl) rfl rfl (fun K hK => ?_) (fun K hK => ?_)
      · go_simp
        go_at_call 83
        refine (pick_any g _ (N : Int) _ hrd.out (by omega) (by omega)).mono ?_
        rintro e w3 ⟨j, rfl, hj, hg3, hr3⟩
        have HD3 := Lib.hid (lwr_grown HDd.out hg3)
        have hr3' := Lib.hid hr3
        have hS3 := lwr_cells HD3.out
        clear hg3 hr3
        refine hK.out _ _ (.inr hS3) ?_
        clear hK K
        try simp only [Act.put, List.setIfInBounds_toArray, List.set_cons_zero, List.set_cons_succ]
        refine held_one (i := 8) (o := { dst := some 41, op := Op.buildSlice 73 3 #[(0, Operand.const (Value.int IntKind.i64 (-1))), (1, Operand.const (Value.int IntKind.i64 700)), (2, Operand.const (Value.int IntKind.i64 5))], type := 73, pos := "l5_robins.go:203", after := #[], guard := none }) (by kernel_rfl) rfl (fun K hK => ?_)
        go_simp
        have hS4 := lwr_cells (lwr_alloc HD3.out (.cells #[.int .i64 (-1), .int .i64 700, .int .i64 5] 3))
        refine hK.out _ _ (.inr hS4) ?_
        clear hK K
        try simp only [Act.put, List.setIfInBounds_toArray, List.set_cons_zero, List.set_cons_succ]
        refine held_one (i := 9) (o := { dst := some 42, op := Op.call { callee := Callee.value (Operand.func 59), args := #[Operand.tmp 40, Operand.tmp 41], argTypes := #[70, 73] }, type := 3, pos := "l5_robins.go:203", after := #[{ on := 7, ground := Ground.data }, { on := 8, ground := Ground.data }, { on := 6, ground := Ground.chain }], guard := none }) (by kernel_rfl) rfl (fun K hK => ?_)
        go_simp
        go_at_call 59
        refine (num_lit g _ _ 3 _ _ [-1, 700, 5] _ hr3'.out (by omega) (by simp) (by decide) rfl).mono ?_
        rintro e w4 ⟨x4, -, rfl, hg4, hr4⟩
        have HD4 := Lib.hid (lwr_grown HD3.out hg4)
        have hr4' := Lib.hid hr4
        have hS5 := lwr_cells HD4.out
        clear hg4 hr4
        obtain ⟨b', off', hk', e1', hb', hhk, c0, c1', c2'⟩ := hr_at (k := j) (hr_own HD4.out.fl.row) (by omega)
        obtain ⟨rfl, rfl⟩ : g' = b' ∧ 0 = off' := by injection e1' with e1'; injection e1' with a1 a2; exact ⟨a1, a2⟩
        simp only [Nat.zero_add] at c0 c1' c2'
        have HH := Lib.hid hhk
        clear e1' hhk
        obtain ⟨f', hf'⟩ : ∃ f', fs[j]? = some f' := ⟨_, List.getElem?_eq_getElem (by have := hN0.out; omega)⟩
        have HF := Lib.hid hf'
        clear hf'
        have j0 : (0 : Int) ≤ (j : Int) := by omega
        have j1 : (j : Int) < (N : Int) := by omega
        have fz := World.ownsRow.frozenAt HD4.out.fl.row (j * 3 + 1)
        refine hK.out _ _ (.inr hS5) ?_
        clear hK K
        try simp only [Act.put, List.setIfInBounds_toArray, List.set_cons_zero, List.set_cons_succ]
        refine held_one (i := 10) (o := { dst := some 43, op := Op.indexAddr 23 (Operand.tmp 34) (Operand.tmp 39), type := 0, pos := "l5_robins.go:203", after := #[{ on := 1, ground := Ground.data }, { on := 6, ground := Ground.data }, { on := 0, ground := Ground.phase }, { on := 1, ground := Ground.phase }, { on := 2, ground := Ground.phase }, { on := 3, ground := Ground.phase }, { on := 4, ground := Ground.phase }, { on := 5, ground := Ground.phase }, { on := 6, ground := Ground.phase }, { on := 7, ground := Ground.phase }, { on := 8, ground := Ground.phase }, { on := 9, ground := Ground.phase }], guard := none }) (by kernel_rfl) rfl (fun K hK => ?_)
        go_simp
        refine hK.out _ _ (.inr hS5) ?_
        clear hK K
        try simp only [Act.put, List.setIfInBounds_toArray, List.set_cons_zero, List.set_cons_succ]
        refine held_one (i := 11) (o := { dst := some 44, op := Op.fieldAddr 40 (Operand.tmp 43) 1, type := 0, pos := "l5_robins.go:203", after := #[{ on := 10, ground := Ground.data }, { on := 0, ground := Ground.phase }, { on := 1, ground := Ground.phase }, { on := 2, ground := Ground.phase }, { on := 3, ground := Ground.phase }, { on := 4, ground := Ground.phase }, { on := 5, ground := Ground.phase }, { on := 6, ground := Ground.phase }, { on := 7, ground := Ground.phase }, { on := 8, ground := Ground.phase }, { on := 9, ground := Ground.phase }], guard := none }) (by kernel_rfl) rfl (fun K hK => ?_)
        go_simp
        refine hK.out _ _ (.inr hS5) ?_
        clear hK K
        try simp only [Act.put, List.setIfInBounds_toArray, List.set_cons_zero, List.set_cons_succ]
        refine held_one (i := 12) (o := { dst := none, op := Op.store 3 (Operand.tmp 44) (Operand.tmp 42), type := 0, pos := "l5_robins.go:203", after := #[{ on := 11, ground := Ground.data }, { on := 9, ground := Ground.data }, { on := 9, ground := Ground.chain }, { on := 0, ground := Ground.phase }, { on := 1, ground := Ground.phase }, { on := 2, ground := Ground.phase }, { on := 3, ground := Ground.phase }, { on := 4, ground := Ground.phase }, { on := 5, ground := Ground.phase }, { on := 6, ground := Ground.phase }, { on := 7, ground := Ground.phase }, { on := 8, ground := Ground.phase }, { on := 9, ground := Ground.phase }], guard := none }) (by kernel_rfl) rfl (fun K hK => ?_)
        go_simp
        refine hK.out _ _ (.inl rfl) ?_
        clear hK K
        try simp only [Act.put, List.setIfInBounds_toArray, List.set_cons_zero, List.set_cons_succ]
        refine held_done (by kernel_rfl) ?_ _
        clear hS0 hS3 hS4 hS5 l0 l1 g0 g1 c0 c1' c2' fz
        obtain ⟨l0, l1, g0, g1⟩ := blk_two HD4.out.l
        obtain ⟨o0, o1, f0, f1⟩ := blk_two HD4.out.out
        have zl := blk_lt HD4.out.l
        have zo := blk_lt HD4.out.out
        have hgL : ¬ g' = w1.heap.size := HD4.out.sep g' rfl
        have hgo := (do_lo HD4.out.fl).1 g' rfl
        have hgo1 : ¬ g' = w.heap.size + 1 := by omega
        go_wp2
        refine bodyPost_ret (v := .agg #[.int .i64 x, (.slice (some ⟨g', 0, none⟩) N c1)]) (by simp [results, Try.results61, go_sem, o0, o1]) rfl ⟨x, (some ⟨g', 0, none⟩), N, c1, (fs.set j ⟨f'.peer, x4, f'.ws⟩), rfl, sml_set HSm.out (by have := HSm.out.2 f' (List.mem_of_getElem? HF.out); simp only; omega), ?_⟩
        have E := lwr_end (.int .i64 x) (.slice (some ⟨g', 0, none⟩) N c1) (do_dfc x4 HD4.out.fl HH.out HF.out) (by omega) (g_set HD4.out.gr (.inr (by simp; omega)) _) (rd_set hr4'.out (by simp; omega) _) hg
        exact ⟨E.1, E.2.1, rd_more E.2.2 (by omega)⟩
      · go_simp
        have HD3a := Lib.hid (lwr_alloc HDd.out (.cells #[.int .i64 (-1), .int .i64 700, .int .i64 5] 3))
        have hS3 := lwr_cells HD3a.out
        refine hK.out _ _ (.inr hS3) ?_
        clear hK K
        try simp only [Act.put, List.setIfInBounds_toArray, List.set_cons_zero, List.set_cons_succ]
        refine held_one (i := 6) (o := { dst := some 39, op := Op.call { callee := Callee.value (Operand.func 83), args := #[Operand.tmp 35, Operand.tmp 38], argTypes := #[70, 3] }, type := 3, pos := "l5_robins.go:203", after := #[{ on := 2, ground := Ground.data }, { on := 5, ground := Ground.data }], guard := none }) (by kernel_rfl) rfl (fun K hK => ?_)
        go_simp
        go_at_call 83
        refine (pick_any g _ (N : Int) _ (rd_alloc hrd.out _) (by omega) (by omega)).mono ?_
        rintro e w3 ⟨j, rfl, hj, hg3, hr3⟩
        have HD3 := Lib.hid (lwr_grown HD3a.out hg3)
        have BL := Lib.hid (blk_grown (blk_new w2.drew 3 #[.int .i64 (-1), .int .i64 700, .int .i64 5]) hg3 (by have := HD2.out.hg; simp; omega))
        have hr3' := Lib.hid hr3
        have hS4 := lwr_cells HD3.out
        clear hg3 hr3
        refine hK.out _ _ (.inr hS4) ?_
        clear hK K
        try simp only [Act.put, List.setIfInBounds_toArray, List.set_cons_zero, List.set_cons_succ]
        refine held_one (i := 9) (o := { dst := some 42, op := Op.call { callee := Callee.value (Operand.func 59), args := #[Operand.tmp 40, Operand.tmp 41], argTypes := #[70, 73] }, type := 3, pos := "l5_robins.go:203", after := #[{ on := 7, ground := Ground.data }, { on := 8, ground := Ground.data }, { on := 6, ground := Ground.chain }], guard := none }) (by kernel_rfl) rfl (fun K hK => ?_)
        go_simp
        go_at_call 59
        refine (num_any g _ w2.heap.size 3 [-1, 700, 5] _ hr3'.out (by omega) (by simp) (by have := HD2.out.hg; omega) (fun i y hi => ?_) (blk_lt BL.out)).mono ?_
        · rw [show w3.cell? ⟨w2.heap.size, i, none⟩ = _ from blk_cell BL.out i, ← Array.getElem?_toList, show (#[Value.int .i64 (-1), .int .i64 700, .int .i64 5] : Array Value).toList = ([-1, 700, 5] : List Int).map (Value.int .i64) from rfl, List.getElem?_map, hi]; rfl
        rintro e w4 ⟨x4, -, rfl, hg4, hr4⟩
        have HD4 := Lib.hid (lwr_grown HD3.out hg4)
        have hr4' := Lib.hid hr4
        have hS5 := lwr_cells HD4.out
        clear hg4 hr4
        obtain ⟨b', off', hk', e1', hb', hhk, c0, c1', c2'⟩ := hr_at (k := j) (hr_own HD4.out.fl.row) (by omega)
        obtain ⟨rfl, rfl⟩ : g' = b' ∧ 0 = off' := by injection e1' with e1'; injection e1' with a1 a2; exact ⟨a1, a2⟩
        simp only [Nat.zero_add] at c0 c1' c2'
        have HH := Lib.hid hhk
        clear e1' hhk
        obtain ⟨f', hf'⟩ : ∃ f', fs[j]? = some f' := ⟨_, List.getElem?_eq_getElem (by have := hN0.out; omega)⟩
        have HF := Lib.hid hf'
        clear hf'
        have j0 : (0 : Int) ≤ (j : Int) := by omega
        have j1 : (j : Int) < (N : Int) := by omega
        have fz := World.ownsRow.frozenAt HD4.out.fl.row (j * 3 + 1)
        refine hK.out _ _ (.inr hS5) ?_
        clear hK K
        try simp only [Act.put, List.setIfInBounds_toArray, List.set_cons_zero, List.set_cons_succ]
        refine held_one (i := 10) (o := { dst := some 43, op := Op.indexAddr 23 (Operand.tmp 34) (Operand.tmp 39), type := 0, pos := "l5_robins.go:203", after := #[{ on := 1, ground := Ground.data }, { on := 6, ground := Ground.data }, { on := 0, ground := Ground.phase }, { on := 1, ground := Ground.phase }, { on := 2, ground := Ground.phase }, { on := 3, ground := Ground.phase }, { on := 4, ground := Ground.phase }, { on := 5, ground := Ground.phase }, { on := 6, ground := Ground.phase }, { on := 7, ground := Ground.phase }, { on := 8, ground := Ground.phase }, { on := 9, ground := Ground.phase }], guard := none }) (by kernel_rfl) rfl (fun K hK => ?_)
        go_simp
        refine hK.out _ _ (.inr hS5) ?_
        clear hK K
        try simp only [Act.put, List.setIfInBounds_toArray, List.set_cons_zero, List.set_cons_succ]
        refine held_one (i := 11) (o := { dst := some 44, op := Op.fieldAddr 40 (Operand.tmp 43) 1, type := 0, pos := "l5_robins.go:203", after := #[{ on := 10, ground := Ground.data }, { on := 0, ground := Ground.phase }, { on := 1, ground := Ground.phase }, { on := 2, ground := Ground.phase }, { on := 3, ground := Ground.phase }, { on := 4, ground := Ground.phase }, { on := 5, ground := Ground.phase }, { on := 6, ground := Ground.phase }, { on := 7, ground := Ground.phase }, { on := 8, ground := Ground.phase }, { on := 9, ground := Ground.phase }], guard := none }) (by kernel_rfl) rfl (fun K hK => ?_)
        go_simp
        refine hK.out _ _ (.inr hS5) ?_
        clear hK K
        try simp only [Act.put, List.setIfInBounds_toArray, List.set_cons_zero, List.set_cons_succ]
        refine held_one (i := 12) (o := { dst := none, op := Op.store 3 (Operand.tmp 44) (Operand.tmp 42), type := 0, pos := "l5_robins.go:203", after := #[{ on := 11, ground := Ground.data }, { on := 9, ground := Ground.data }, { on := 9, ground := Ground.chain }, { on := 0, ground := Ground.phase }, { on := 1, ground := Ground.phase }, { on := 2, ground := Ground.phase }, { on := 3, ground := Ground.phase }, { on := 4, ground := Ground.phase }, { on := 5, ground := Ground.phase }, { on := 6, ground := Ground.phase }, { on := 7, ground := Ground.phase }, { on := 8, ground := Ground.phase }, { on := 9, ground := Ground.phase }], guard := none }) (by kernel_rfl) rfl (fun K hK => ?_)
        go_simp
        refine hK.out _ _ (.inl rfl) ?_
        clear hK K
        try simp only [Act.put, List.setIfInBounds_toArray, List.set_cons_zero, List.set_cons_succ]
        refine held_done (by kernel_rfl) ?_ _
        clear hS0 hS3 hS4 hS5 l0 l1 g0 g1 c0 c1' c2' fz
        obtain ⟨l0, l1, g0, g1⟩ := blk_two HD4.out.l
        obtain ⟨o0, o1, f0, f1⟩ := blk_two HD4.out.out
        have zl := blk_lt HD4.out.l
        have zo := blk_lt HD4.out.out
        have hgL : ¬ g' = w1.heap.size := HD4.out.sep g' rfl
        have hgo := (do_lo HD4.out.fl).1 g' rfl
        have hgo1 : ¬ g' = w.heap.size + 1 := by omega
        go_wp2
        refine bodyPost_ret (v := .agg #[.int .i64 x, (.slice (some ⟨g', 0, none⟩) N c1)]) (by simp [results, Try.results61, go_sem, o0, o1]) rfl ⟨x, (some ⟨g', 0, none⟩), N, c1, (fs.set j ⟨f'.peer, x4, f'.ws⟩), rfl, sml_set HSm.out (by have := HSm.out.2 f' (List.mem_of_getElem? HF.out); simp only; omega), ?_⟩
        have E := lwr_end (.int .i64 x) (.slice (some ⟨g', 0, none⟩) N c1) (do_dfc x4 HD4.out.fl HH.out HF.out) (by omega) (g_set HD4.out.gr (.inr (by simp; omega)) _) (rd_set hr4'.out (by simp; omega) _) hg
        exact ⟨E.1, E.2.1, rd_more E.2.2 (by omega)⟩
  have e2 : ((k : Int) == 2) = false := by simp; omega
  by_cases hk3 : k = 3
  · subst hk3
    rcases Nat.eq_zero_or_pos N with rfl | hN1
    · go_wp2
      refine bodyPost_ret (v := .agg #[.int .i64 x, (.slice A1 0 c1)]) (by simp [results, Try.results61, go_sem, o0, o1]) rfl ⟨x, A1, 0, c1, fs, rfl, sml_mono HSm.out (by omega), ?_⟩
      have E := lwr_end (.int .i64 x) (.slice A1 0 c1) (HD2.out.fl) (by omega) (HD2.out.gr) (hr2'.out) hg
      exact ⟨E.1, E.2.1, rd_more E.2.2 (by omega)⟩
    · have nn : decide ((N : Int) > 0) = true := decide_eq_true (by omega)
      obtain ⟨g', cap, hv, hg1, hg2⟩ := HD2.out.fl.row.form (by omega)
      obtain ⟨rfl, rfl⟩ : A1 = some ⟨g', 0, none⟩ ∧ c1 = cap := (by injection hv with a1 a2 a3; exact ⟨a1, a3⟩)
      clear hv
      go_wp2_with fail
      refine (pick_any g _ (N : Int) _ hr2'.out (by omega) (by omega)).mono ?_
      rintro e w3 ⟨j, rfl, hj, hg3, hr3⟩
      have HD3 := Lib.hid (lwr_grown HD2.out hg3)
      have hr3' := Lib.hid hr3
      clear hg3 hr3 l0 l1 g0 g1 o0 o1 f0 f1
      obtain ⟨b', off', hk', e1', hb', hhk, c0, c1', c2'⟩ := hr_at (k := j) (hr_own HD3.out.fl.row) (by omega)
      obtain ⟨rfl, rfl⟩ : g' = b' ∧ 0 = off' := by injection e1' with e1'; injection e1' with a1 a2; exact ⟨a1, a2⟩
      simp only [Nat.zero_add] at c0 c1' c2'
      have HH := Lib.hid hhk
      clear e1' hhk
      obtain ⟨f', hf'⟩ : ∃ f', fs[j]? = some f' := ⟨_, List.getElem?_eq_getElem (by have := hN0.out; omega)⟩
      have HF := Lib.hid hf'
      clear hf'
      have j0 : (0 : Int) ≤ (j : Int) := by omega
      have j1 : (j : Int) < (N : Int) := by omega
      have HDd := Lib.hid (lwr_drew HD3.out)
      have hrd := Lib.hid (show RdAt w3.drew g (q + 1 + 1) from hr3'.out)
      have hS0 := And.intro (lwr_cells HD3.out) c2'
      obtain ⟨l0, l1, g0, g1⟩ := blk_two HD3.out.l
      go_wp2_with fail
      refine held_start (S := (fun w' => (w'.cell? ⟨w1.heap.size, 0, none⟩ = some (.int .i64 x) ∧ w'.cell? ⟨w1.heap.size, 1, none⟩ = some (.slice (some ⟨g', 0, none⟩) N c1)) ∧ w'.cell? ⟨g', j * 3 + 2, none⟩ = some (.slice hk'.A hk'.n hk'.c))) 15 (by kernel_rfl) ?_
      refine held_take (i := 0) (oi := { dst := some 56, op := Op.fieldAddr 25 (Operand.tmp 5) 1, type := 0, pos := "l5_robins.go:208", after := #[], guard := none }) (v := ?_) rfl (by kernel_rfl) (by kernel_rfl) (by kernel_rfl) (by kernel_rfl) (fun _ _ _ h => h) (Or.inl ⟨by rfl, ?_⟩) hS0 ?_
      rotate_left
      · (intro w9 hSw; (try dsimp only at hSw); go_simp; try with_reducible rfl)
      try simp only [Act.put, List.setIfInBounds_toArray, List.set_cons_zero, List.set_cons_succ]
      refine held_take (i := 1) (oi := { dst := some 57, op := Op.load 23 (Operand.tmp 56), type := 23, pos := "l5_robins.go:208", after := #[{ on := 0, ground := Ground.data }], guard := none }) (v := ?_) rfl (by kernel_rfl) (by kernel_rfl) (by kernel_rfl) (by kernel_rfl) (fun _ _ _ h => h) (Or.inl ⟨by rfl, ?_⟩) hS0 ?_
      rotate_left
      · (intro w9 hSw; (try dsimp only at hSw); go_simp; try with_reducible rfl)
      try simp only [Act.put, List.setIfInBounds_toArray, List.set_cons_zero, List.set_cons_succ]
      refine held_take (i := 2) (oi := { dst := some 58, op := Op.move (Operand.tmp 6), type := 3, pos := "l5_robins.go:208", after := #[], guard := none }) (v := ?_) rfl (by kernel_rfl) (by kernel_rfl) (by kernel_rfl) (by kernel_rfl) (fun _ _ _ h => h) (Or.inl ⟨by rfl, ?_⟩) hS0 ?_
      rotate_left
      · (intro w9 hSw; (try dsimp only at hSw); go_simp; try with_reducible rfl)
      try simp only [Act.put, List.setIfInBounds_toArray, List.set_cons_zero, List.set_cons_succ]
      refine held_take (i := 3) (oi := { dst := some 59, op := Op.fieldAddr 25 (Operand.tmp 5) 1, type := 0, pos := "l5_robins.go:208", after := #[], guard := none }) (v := ?_) rfl (by kernel_rfl) (by kernel_rfl) (by kernel_rfl) (by kernel_rfl) (fun _ _ _ h => h) (Or.inl ⟨by rfl, ?_⟩) hS0 ?_
      rotate_left
      · (intro w9 hSw; (try dsimp only at hSw); go_simp; try with_reducible rfl)
      try simp only [Act.put, List.setIfInBounds_toArray, List.set_cons_zero, List.set_cons_succ]
      refine held_take (i := 4) (oi := { dst := some 60, op := Op.load 23 (Operand.tmp 59), type := 23, pos := "l5_robins.go:208", after := #[{ on := 3, ground := Ground.data }], guard := none }) (v := ?_) rfl (by kernel_rfl) (by kernel_rfl) (by kernel_rfl) (by kernel_rfl) (fun _ _ _ h => h) (Or.inl ⟨by rfl, ?_⟩) hS0 ?_
      rotate_left
      · (intro w9 hSw; (try dsimp only at hSw); go_simp; try with_reducible rfl)
      try simp only [Act.put, List.setIfInBounds_toArray, List.set_cons_zero, List.set_cons_succ]
      refine held_take (i := 5) (oi := { dst := some 61, op := Op.move (Operand.tmp 6), type := 3, pos := "l5_robins.go:208", after := #[], guard := none }) (v := ?_) rfl (by kernel_rfl) (by kernel_rfl) (by kernel_rfl) (by kernel_rfl) (fun _ _ _ h => h) (Or.inl ⟨by rfl, ?_⟩) hS0 ?_
      rotate_left
      · (intro w9 hSw; (try dsimp only at hSw); go_simp; try with_reducible rfl)
      try simp only [Act.put, List.setIfInBounds_toArray, List.set_cons_zero, List.set_cons_succ]
      refine held_take (i := 6) (oi := { dst := some 62, op := Op.indexAddr 23 (Operand.tmp 60) (Operand.tmp 61), type := 0, pos := "l5_robins.go:208", after := #[{ on := 4, ground := Ground.data }, { on := 5, ground := Ground.data }], guard := none }) (v := ?_) rfl (by kernel_rfl) (by kernel_rfl) (by kernel_rfl) (by kernel_rfl) (fun _ _ _ h => h) (Or.inl ⟨by rfl, ?_⟩) hS0 ?_
      rotate_left
      · (intro w9 hSw; (try dsimp only at hSw); go_simp; try with_reducible rfl)
      try simp only [Act.put, List.setIfInBounds_toArray, List.set_cons_zero, List.set_cons_succ]
      refine held_take (i := 7) (oi := { dst := some 63, op := Op.fieldAddr 40 (Operand.tmp 62) 2, type := 0, pos := "l5_robins.go:208", after := #[{ on := 6, ground := Ground.data }], guard := none }) (v := ?_) rfl (by kernel_rfl) (by kernel_rfl) (by kernel_rfl) (by kernel_rfl) (fun _ _ _ h => h) (Or.inl ⟨by rfl, ?_⟩) hS0 ?_
      rotate_left
      · (intro w9 hSw; (try dsimp only at hSw); go_simp; try with_reducible rfl)
      try simp only [Act.put, List.setIfInBounds_toArray, List.set_cons_zero, List.set_cons_succ]
      refine held_take (i := 8) (oi := { dst := some 64, op := Op.load 32 (Operand.tmp 63), type := 32, pos := "l5_robins.go:208", after := #[{ on := 7, ground := Ground.data }], guard := none }) (v := ?_) rfl (by kernel_rfl) (by kernel_rfl) (by kernel_rfl) (by kernel_rfl) (fun _ _ _ h => h) (Or.inl ⟨by rfl, ?_⟩) hS0 ?_
      rotate_left
      · (intro w9 hSw; (try dsimp only at hSw); go_simp; try with_reducible rfl)
      try simp only [Act.put, List.setIfInBounds_toArray, List.set_cons_zero, List.set_cons_succ]
      refine held_take (i := 9) (oi := { dst := some 65, op := Op.move (Operand.tmp 0), type := 70, pos := "l5_robins.go:208", after := #[], guard := none }) (v := ?_) rfl (by kernel_rfl) (by kernel_rfl) (by kernel_rfl) (by kernel_rfl) (fun _ _ _ h => h) (Or.inl ⟨by rfl, ?_⟩) hS0 ?_
      rotate_left
      · (intro w9 hSw; (try dsimp only at hSw); go_simp; try with_reducible rfl)
      try simp only [Act.put, List.setIfInBounds_toArray, List.set_cons_zero, List.set_cons_succ]
      refine held_one (i := 10) (o := { dst := some 66, op := Op.call { callee := Callee.value (Operand.func 64), args := #[Operand.tmp 65], argTypes := #[70] }, type := 28, pos := "l5_robins.go:208", after := #[{ on := 9, ground := Ground.data }], guard := none }) (by kernel_rfl) rfl (fun K hK => ?_)
      go_simp
      go_at_call 64
      refine (l1Draw_any g _ _ hrd.out (by omega)).mono ?_
      rintro e w4 ⟨p, rfl, -, hg4, hr4⟩
      have HD4 := Lib.hid (lwr_grown HDd.out hg4)
      have hr4' := Lib.hid hr4
      obtain ⟨b4, off4, hh4, ee4, -, hx4, -, -, d4⟩ := hr_at (k := j) (hr_own HD4.out.fl.row) (by omega)
      obtain ⟨rfl, rfl⟩ : g' = b4 ∧ 0 = off4 := by injection ee4 with ee; injection ee with a1 a2; exact ⟨a1, a2⟩
      obtain rfl : hk' = hh4 := Option.some.inj (HH.out.symm.trans hx4)
      rw [Nat.zero_add] at d4
      have hS4 := And.intro (lwr_cells HD4.out) d4
      clear hg4 hr4
      refine hK.out _ _ (.inr hS4) ?_
      clear hK K
      try simp only [Act.put, List.setIfInBounds_toArray, List.set_cons_zero, List.set_cons_succ]
      refine held_one (i := 11) (o := { dst := some 67, op := Op.buildSlice 32 1 #[(0, Operand.tmp 66)], type := 32, pos := "l5_robins.go:208", after := #[{ on := 10, ground := Ground.data }], guard := none }) (by kernel_rfl) rfl (fun K hK => ?_)
      go_simp
      have HD4a := Lib.hid (lwr_alloc HD4.out (.cells #[.int .i64 p.peer, .int .i64 p.lane, .int .i64 p.size, .int .i64 p.id] 28))
      obtain ⟨b5, off5, hh5, ee5, -, hx5, -, -, d5⟩ := hr_at (k := j) (hr_own HD4a.out.fl.row) (by omega)
      obtain ⟨rfl, rfl⟩ : g' = b5 ∧ 0 = off5 := by injection ee5 with ee; injection ee with a1 a2; exact ⟨a1, a2⟩
      obtain rfl : hk' = hh5 := Option.some.inj (HH.out.symm.trans hx5)
      rw [Nat.zero_add] at d5
      have hS4a := And.intro (lwr_cells HD4a.out) d5
      have HA := Lib.hid (HD4.out.fl.all j hk' f' HH.out HF.out)
      have hn5 : hk'.n ≤ 75 := (by have h1 := HA.out.2.2.2.1.1; have := HSm.out.2 f' (List.mem_of_getElem? HF.out); rw [pcells_len] at h1; omega)
      refine hK.out _ _ (.inr hS4a) ?_
      clear hK K
      try simp only [Act.put, List.setIfInBounds_toArray, List.set_cons_zero, List.set_cons_succ]
      refine held_one (i := 12) (o := { dst := some 68, op := Op.call { callee := Callee.builtin Builtin.append, args := #[Operand.tmp 64, Operand.tmp 67], argTypes := #[32, 32] }, type := 32, pos := "l5_robins.go:208", after := #[{ on := 8, ground := Ground.data }, { on := 11, ground := Ground.data }, { on := 10, ground := Ground.chain }], guard := none }) (by kernel_rfl) rfl (fun K hK => ?_)
      refine step_app_pkts _ rfl (.tmp 64) (.tmp 67) rfl (w.heap.size + 2) (.slice hk'.A hk'.n hk'.c) hk'.n f'.ws rfl (World.ownsRow.alloc HA.out.2.2.2.1 _) (some ⟨w4.heap.size, 0, none⟩) 1 1 [p] rfl (pr_single (blk_at rfl _ _)) (by omega) (by have := blk_lt HD4.out.l; simp; omega) ?_
      intro v5 w5 ho5 hg5 hat5
      obtain ⟨A5, c5, rfl, -, -, -⟩ := own_form ho5
      have hg5' : w4.grownBy w5 hk'.sl.ownBlock := (World.grownBy_alloc w4 (.cells #[.int .i64 p.peer, .int .i64 p.lane, .int .i64 p.size, .int .i64 p.id] 28) _).trans hg5
      have D5 := Lib.hid (do_put HD4.out.fl HH.out HF.out (by omega) hg5' ho5 (hat5.imp id fun h => ⟨_, h, by simp⟩))
      have B5 := Lib.hid (lwr_app HD4.out hr4'.out hg5 fun b e => ⟨((do_lo HD4.out.fl).2 j hk' HH.out b e).1, HD4.out.seps j hk' HH.out b e⟩)
      have hgw := (do_lo HD4.out.fl).1 g' rfl
      have hne5 : some g' ≠ hk'.sl.ownBlock := fun e => HA.out.2.2.2.2 g' e.symm rfl
      have C5 : w5.cell? ⟨g', j * 3 + 2, none⟩ = some (.slice hk'.A hk'.n hk'.c) := (hg5'.cell_far ⟨g', j * 3 + 2, none⟩ hgw.2 hne5).trans d4
      have E5 : w5.frozen? ⟨g', j * 3 + 2, none⟩ = false := (froz_far hg5' hgw.2 hne5).trans (World.ownsRow.frozenAt HD4.out.fl.row (j * 3 + 2))
      have zg5 : g' < w5.heap.size := Nat.lt_of_lt_of_le hgw.2 hg5'.size
      have hS5 := And.intro (And.intro (blk_cell B5.out.1 0) (blk_cell B5.out.1 1)) C5
      clear ho5 hg5 hat5 hg5' hne5
      refine hK.out _ _ (.inr hS5) ?_
      clear hK K
      try simp only [Act.put, List.setIfInBounds_toArray, List.set_cons_zero, List.set_cons_succ]
      refine held_one (i := 13) (o := { dst := some 69, op := Op.indexAddr 23 (Operand.tmp 57) (Operand.tmp 58), type := 0, pos := "l5_robins.go:208", after := #[{ on := 1, ground := Ground.data }, { on := 2, ground := Ground.data }, { on := 0, ground := Ground.phase }, { on := 1, ground := Ground.phase }, { on := 2, ground := Ground.phase }, { on := 3, ground := Ground.phase }, { on := 4, ground := Ground.phase }, { on := 5, ground := Ground.phase }, { on := 6, ground := Ground.phase }, { on := 7, ground := Ground.phase }, { on := 8, ground := Ground.phase }, { on := 9, ground := Ground.phase }, { on := 10, ground := Ground.phase }, { on := 11, ground := Ground.phase }, { on := 12, ground := Ground.phase }], guard := none }) (by kernel_rfl) rfl (fun K hK => ?_)
      go_simp
      refine hK.out _ _ (.inr hS5) ?_
      clear hK K
      try simp only [Act.put, List.setIfInBounds_toArray, List.set_cons_zero, List.set_cons_succ]
      refine held_one (i := 14) (o := { dst := some 70, op := Op.fieldAddr 40 (Operand.tmp 69) 2, type := 0, pos := "l5_robins.go:208", after := #[{ on := 13, ground := Ground.data }, { on := 0, ground := Ground.phase }, { on := 1, ground := Ground.phase }, { on := 2, ground := Ground.phase }, { on := 3, ground := Ground.phase }, { on := 4, ground := Ground.phase }, { on := 5, ground := Ground.phase }, { on := 6, ground := Ground.phase }, { on := 7, ground := Ground.phase }, { on := 8, ground := Ground.phase }, { on := 9, ground := Ground.phase }, { on := 10, ground := Ground.phase }, { on := 11, ground := Ground.phase }, { on := 12, ground := Ground.phase }], guard := none }) (by kernel_rfl) rfl (fun K hK => ?_)
      go_simp
      refine hK.out _ _ (.inr hS5) ?_
      clear hK K
      try simp only [Act.put, List.setIfInBounds_toArray, List.set_cons_zero, List.set_cons_succ]
      refine held_one (i := 15) (o := { dst := none, op := Op.store 32 (Operand.tmp 70) (Operand.tmp 68), type := 0, pos := "l5_robins.go:208", after := #[{ on := 14, ground := Ground.data }, { on := 12, ground := Ground.data }, { on := 12, ground := Ground.chain }, { on := 0, ground := Ground.phase }, { on := 1, ground := Ground.phase }, { on := 2, ground := Ground.phase }, { on := 3, ground := Ground.phase }, { on := 4, ground := Ground.phase }, { on := 5, ground := Ground.phase }, { on := 6, ground := Ground.phase }, { on := 7, ground := Ground.phase }, { on := 8, ground := Ground.phase }, { on := 9, ground := Ground.phase }, { on := 10, ground := Ground.phase }, { on := 11, ground := Ground.phase }, { on := 12, ground := Ground.phase }], guard := none }) (by kernel_rfl) rfl (fun K hK => ?_)
      go_simp
      refine hK.out _ _ (.inl rfl) ?_
      clear hK K
      try simp only [Act.put, List.setIfInBounds_toArray, List.set_cons_zero, List.set_cons_succ]
      refine held_done (by kernel_rfl) ?_ _
      clear hS0 hS4 hS4a hS5 l0 l1 g0 g1 c0 c1' c2' d4 d5
      obtain ⟨l0, l1, g0, g1⟩ := blk_two B5.out.1
      obtain ⟨o0, o1, f0, f1⟩ := blk_two B5.out.2.1
      have zl := blk_lt B5.out.1
      have zo := blk_lt B5.out.2.1
      have hgL : ¬ g' = w1.heap.size := HD4.out.sep g' rfl
      have hgo1 : ¬ g' = w.heap.size + 1 := by omega
      go_wp2
      refine bodyPost_ret (v := .agg #[.int .i64 x, (.slice (some ⟨g', 0, none⟩) N c1)]) (by simp [results, Try.results61, go_sem, o0, o1]) rfl ⟨x, (some ⟨g', 0, none⟩), N, c1, (fs.set j ⟨f'.peer, f'.dfc, f'.ws ++ [p]⟩), rfl, sml_set HSm.out (by have := HSm.out.2 f' (List.mem_of_getElem? HF.out); simp; omega), ?_⟩
      have E := lwr_end (.int .i64 x) (.slice (some ⟨g', 0, none⟩) N c1) (D5.out) (by omega) (g_set B5.out.2.2.1 (.inr (by simp; omega)) _) (rd_set B5.out.2.2.2 (by simp; omega) _) hg
      exact ⟨E.1, E.2.1, rd_more E.2.2 (by omega)⟩
  have e3 : ((k : Int) == 3) = false := by simp; omega
  go_wp2
  refine bodyPost_ret (v := .agg #[.int .i64 x, (.slice A1 N c1)]) (by simp [results, Try.results61, go_sem, o0, o1]) rfl ⟨x, A1, N, c1, fs, rfl, sml_mono HSm.out (by omega), ?_⟩
  have E := lwr_end (.int .i64 x) (.slice A1 N c1) (HD2.out.fl) (by omega) (HD2.out.gr) (hr2'.out) hg
  exact ⟨E.1, E.2.1, rd_more E.2.2 (by omega)⟩
end Go.Proofs.Ytehokkijfgiggaa
