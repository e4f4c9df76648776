/-
  Chapter 6: lanes, sometimes ones that are not valid: what the draw returns, whatever the bytes. Conditions: the source is as open leaves it, its counter is small; at least three robins, four weights and credits. Chapter 6: the laws' own draws. Conditions: none.
  Conditions: each lemma says them.
-/
import Derived.Test.YtkmoiphcpmhacabKx
import Derived.Test.YtkmoiphcpmhacabKg
import Derived.Test.YtkmoiphcpmhacabKm
namespace Go.Proofs.Ytkmoiphcpmhacab
open Go.RowKit

/-- drawn lanes, valid or not -/
def LWrong (w : World) (g q : Nat) (e : Ending) (w' : World) : Prop :=
  ∃ A n c B d C f l, e = .returned (.agg #[.slice A n c, .slice B 4 d, .slice C 4 f]) ∧ 3 ≤ n ∧ n ≤ 4 ∧ LaX w' (fun b => w.heap.size ≤ b) A n B 4 C 4 l ∧ w.grownBy w' (some g) ∧ RdAt w' g q
structure LW6 (w : World) (g LB : Nat) (A : Option Addr) (n c : Nat) (B : Option Addr) (d : Nat) (C : Option Addr) (f : Nat) (hs : List Rh) (iv : Nat → Nat × Nat) (l : Ln) (wr : World) : Prop where
  out : Blk wr (w.heap.size + 1) 26 #[.slice none 0 0, .slice none 0 0, .slice none 0 0]
  lb : Blk wr LB 26 #[.slice A n c, .slice B 4 d, .slice C 4 f]
  lo : LO wr (w.heap.size + 2) (.slice A n c) n (.slice B 4 d) 4 (.slice C 4 f) 4 hs iv l
  hi : ∀ j, (iv j).1 < (iv j).2 → w.heap.size + 2 ≤ (iv j).1
  sL : Out6 (.slice A n c) iv LB ∧ (Value.slice B 4 d).ownBlock ≠ some LB ∧ (Value.slice C 4 f).ownBlock ≠ some LB
  gr : w.grownBy wr (some g)
  hg : g < w.heap.size
  hL : w.heap.size + 2 ≤ LB
section
variable {w w1 w2 : World} {g LB n c d f : Nat} {A B C : Option Addr} {hs : List Rh} {iv : Nat → Nat × Nat} {l : Ln}
theorem lw6_below (h : LW6 w g LB A n c B d C f hs iv l w1) (hb : Below w1.heap.size w1 w2) : LW6 w g LB A n c B d C f hs iv l w2 :=
  ⟨blk_below h.out hb (blk_lt h.out), blk_below h.lb hb (blk_lt h.lb), lo_below h.lo hb, h.hi, h.sL, g_below h.gr hb, h.hg, h.hL⟩
theorem lw6_grown (h : LW6 w g LB A n c B d C f hs iv l w1) (hg : w1.grownBy w2 (some g)) : LW6 w g LB A n c B d C f hs iv l w2 :=
  have h0 := h.hg
  have hL := h.hL
  ⟨blk_grown h.out hg (by omega), blk_grown h.lb hg (by omega), lo_grown h.lo hg fun b e => by
    obtain rfl : g = b := Option.some.inj e
    refine ⟨⟨fun e => ?_, fun k => ?_⟩, fun e => ?_, fun e => ?_⟩
    · have := (h.lo.r.row.lt _ e).1; omega
    · rcases Nat.lt_or_ge (iv k).1 (iv k).2 with hk | hk
      · have := h.hi k hk; omega
      · omega
    · have := (h.lo.b.lt _ e).1; omega
    · have := (h.lo.c.lt _ e).1; omega, h.hi, h.sL, h.gr.trans hg, h0, hL⟩
theorem lw6_cells (h : LW6 w g LB A n c B d C f hs iv l w1) : w1.cell? ⟨LB, 0, none⟩ = some (.slice A n c) ∧ w1.cell? ⟨LB, 1, none⟩ = some (.slice B 4 d) ∧ w1.cell? ⟨LB, 2, none⟩ = some (.slice C 4 f) := (blk_three h.lb).1
theorem lw6_lrx (h : LW6 w g LB A n c B d C f hs iv l w1) (hn : n ≤ 4) : LRX w1 (fun b => w.heap.size + 2 ≤ b) A n B 4 C 4 l := lrx_mono (lo_lrx h.lo (by omega) (by omega) (by omega)) fun b hb => hb.1
end
theorem lo_setC {w : World} {lo n m o gC f k : Nat} {vA vB : Value} {hs : List Rh} {iv : Nat → Nat × Nat} {l : Ln} (H : LO w lo vA n vB m (.slice (some ⟨gC, 0, none⟩) o f) o hs iv l) (x : Int) :
    LO (w.setCell ⟨gC, k, none⟩ (.int .i64 x)) lo vA n vB m (.slice (some ⟨gC, 0, none⟩) o f) o hs iv ⟨l.rs, l.ws, l.cs.set k x⟩ := by
  have gg : w.grownBy (w.setCell ⟨gC, k, none⟩ (.int .i64 x)) (some gC) := g_set (g_refl w (some gC)) (.inl rfl) _
  exact ⟨dr_grown H.r gg fun b e => by injection e with e; subst e; exact H.ac _ rfl, own_kept6 H.b gg fun b e e2 => by injection e with e; subst e; exact H.bc _ e2 rfl, own_set_int H.c k x, H.ab, H.ac, H.bc⟩
theorem lo_setB {w : World} {lo n m o gB f k : Nat} {vA vC : Value} {hs : List Rh} {iv : Nat → Nat × Nat} {l : Ln} (H : LO w lo vA n (.slice (some ⟨gB, 0, none⟩) m f) m vC o hs iv l) (x : Int) :
    LO (w.setCell ⟨gB, k, none⟩ (.int .i64 x)) lo vA n (.slice (some ⟨gB, 0, none⟩) m f) m vC o hs iv ⟨l.rs, l.ws.set k x, l.cs⟩ := by
  have gg : w.grownBy (w.setCell ⟨gB, k, none⟩ (.int .i64 x)) (some gB) := g_set (g_refl w (some gB)) (.inl rfl) _
  exact ⟨dr_grown H.r gg fun b e => by injection e with e; subst e; exact H.ab _ rfl, own_set_int H.b k x, own_kept6 H.c gg fun b e e2 => by injection e with e; subst e; exact H.bc _ rfl e2, H.ab, H.ac, H.bc⟩
theorem rcells_stored2 {w : World} {lo g n c k : Nat} {hs : List Rh} (h : w.ownsRow lo 38 2 (.slice (some ⟨g, 0, none⟩) n c) n (rcells hs)) (r : Rh) :
    ((w.setCell ⟨g, k * 2, none⟩ (.int .i64 r.q)).setCell ⟨g, k * 2 + 1, none⟩ (.slice r.A r.n r.c)).ownsRow lo 38 2 (.slice (some ⟨g, 0, none⟩) n c) n (rcells (hs.set k r)) := by
  have a := ((h.stored (k * 2) (.int .i64 r.q)).1.stored (k * 2 + 1) (.slice r.A r.n r.c)).1
  rw [rcells_set] at a
  exact a
/-- the lanes' own box is none of the blocks that they read -/
theorem lrx_no {w w1 : World} {g LB n c d f : Nat} {A B C : Option Addr} {hs : List Rh} {iv : Nat → Nat × Nat} {l : Ln} (h : LW6 w g LB A n c B d C f hs iv l w1) (hx : LRX w1 (fun b => w.heap.size + 2 ≤ b) A n B 4 C 4 l) : LRX w1 (fun b => w.heap.size + 2 ≤ b ∧ b ≠ LB) A n B 4 C 4 l := by
  have hl := dr_len h.lo.r
  have own_no : ∀ {e : TypeId} {size n : Nat} {A : Option Addr} {c : Nat} {xs : List Value}, w1.ownsRow (w.heap.size + 2) e size (.slice A n c) n xs → (Value.slice A n c).ownBlock ≠ some LB → (0 < n → ∀ b, A.map (·.block) = some b → w.heap.size + 2 ≤ b ∧ b ≠ LB) := fun ho hne h0 b e => by
    obtain ⟨g, cap, hv, h1, -⟩ := ho.form h0
    injection hv with hA
    subst hA
    obtain rfl : g = b := by simpa using e
    exact ⟨h1, fun e => hne (by rw [e]; rfl)⟩
  have hn : n ≤ 4000000000 := (rr_len (rrx_rr hx.r)).2
  refine ⟨⟨hs, hq_own h.lo.r.row, own_no h.lo.r.row h.sL.1.1, h.lo.r.len, fun k p r e1 e2 => ?_, hn⟩, ⟨nr_own h.lo.b, own_no h.lo.b h.sL.2.1⟩, ⟨nr_own h.lo.c, own_no h.lo.c h.sL.2.2⟩, by omega, by omega⟩
  obtain ⟨a1, a2, a3, fh, a4⟩ := h.lo.r.all k (by have := get_lt e1; omega) p r e1 e2
  exact ⟨a1, frx_mono (dv_frx a4 a2) fun b hb => ⟨by omega, fun e => by have := h.sL.1.2 k; omega⟩⟩
/-- one robin is stored that is read only -/
theorem lw6_robin {w w1 w2 : World} {g LB n c d f gA k n1 c1 : Nat} {B C A1 : Option Addr} {hs : List Rh} {iv : Nat → Nat × Nat} {l : Ln} {q : Int} {gs : List Flw} (h : LW6 w g LB (some ⟨gA, 0, none⟩) n c B d C f hs iv l w1) (hg : w1.grownBy w2 (some g)) (hf : FRX w2 (fun b => w1.heap.size ≤ b) A1 n1 gs) (hn : n ≤ 4) :
    LRX ((w2.setCell ⟨gA, k * 2, none⟩ (.int .i64 q)).setCell ⟨gA, k * 2 + 1, none⟩ (.slice A1 n1 c1)) (fun b => w.heap.size + 2 ≤ b) (some ⟨gA, 0, none⟩) n B 4 C 4 ⟨l.rs.set k ⟨q, gs⟩, l.ws, l.cs⟩ ∧ w.grownBy ((w2.setCell ⟨gA, k * 2, none⟩ (.int .i64 q)).setCell ⟨gA, k * 2 + 1, none⟩ (.slice A1 n1 c1)) (some g) := by
  have D := lw6_grown h hg
  have L := lo_lrx D.lo (by omega) (by omega) (by omega)
  have hA := h.lo.r.row.lt gA rfl
  have hz := h.gr.size
  have gg : w2.grownBy ((w2.setCell ⟨gA, k * 2, none⟩ (.int .i64 q)).setCell ⟨gA, k * 2 + 1, none⟩ (.slice A1 n1 c1)) (some gA) := g_set (g_set (g_refl w2 (some gA)) (.inl rfl) _) (.inl rfl) _
  have hl := dr_len D.lo.r
  refine ⟨⟨own_rrx (rcells_stored2 D.lo.r.row ⟨q, A1, n1, c1⟩) D.lo.r.len (by omega) (fun b hb => hb) (fun j p r hj e1 e2 => ?_) ?_, own_nrx (own_kept6 D.lo.b gg fun b e e2 => by injection e with e; subst e; exact (D.lo.ab _ e2).1 rfl) fun b hb => hb, own_nrx (own_kept6 D.lo.c gg fun b e e2 => by injection e with e; subst e; exact (D.lo.ac _ e2).1 rfl) fun b hb => hb, by omega, by omega⟩, g_set (g_set D.gr (.inr (by simp; omega)) _) (.inr (by simp; omega)) _⟩
  · obtain ⟨a1, a2, a3, fh, a4⟩ := D.lo.r.all j (by have := get_lt e1; omega) p r e1 e2
    exact ⟨a1, frx_mono (frx_grown (dv_frx a4 a2) gg fun b hb e => by have e2 := Option.some.inj e; have := D.lo.r.off gA rfl j; omega) fun b hb => by omega⟩
  · exact frx_mono (frx_grown hf gg fun b hb e => by have e2 := Option.some.inj e; have hb' : w1.heap.size ≤ b := hb; omega) fun b hb => by have hb' : w1.heap.size ≤ b := hb; omega
theorem rrx_take {w : World} {X : Nat → Prop} {A : Option Addr} {n k : Nat} {rs : List Rb} (h : RRX w X A n rs) (hk : k ≤ n) : RRX w X A k (rs.take k) := by
  obtain ⟨hs, h1, h2, h3, h4, h5⟩ := h
  refine ⟨hs.take k, hq_take h1 hk, fun h0 b e => h2 (by omega) b e, by rw [List.length_take, List.length_take, h3], fun j p r e1 e2 => ?_, by omega⟩
  rw [List.getElem?_take] at e1 e2
  split at e1
  · rw [if_pos (by assumption)] at e2; exact h4 j p r e1 e2
  · cases e1
/-- the end: the lanes are stored into the result's box -/
theorem lw6_end {w w1 : World} {g Q n : Nat} {A B C : Option Addr} {l : Ln} (h : LRX w1 (fun b => w.heap.size + 2 ≤ b) A n B 4 C 4 l) (gr : w.grownBy w1 (some g)) (rd : RdAt w1 g Q) (hg : g < w.heap.size) (u0 u1 u2 : Value) :
    LaX (((w1.setCell ⟨w.heap.size + 1, 0, none⟩ u0).setCell ⟨w.heap.size + 1, 1, none⟩ u1).setCell ⟨w.heap.size + 1, 2, none⟩ u2) (fun b => w.heap.size ≤ b) A n B 4 C 4 l ∧ w.grownBy (((w1.setCell ⟨w.heap.size + 1, 0, none⟩ u0).setCell ⟨w.heap.size + 1, 1, none⟩ u1).setCell ⟨w.heap.size + 1, 2, none⟩ u2) (some g) ∧ RdAt (((w1.setCell ⟨w.heap.size + 1, 0, none⟩ u0).setCell ⟨w.heap.size + 1, 1, none⟩ u1).setCell ⟨w.heap.size + 1, 2, none⟩ u2) g Q := by
  have hn : ¬ (w.heap.size + 2 ≤ w.heap.size + 1) := by omega
  exact ⟨lax_mono (lax_set (lax_set (lax_set (lrx_lax h) (p := ⟨w.heap.size + 1, 0, none⟩) hn _) (p := ⟨w.heap.size + 1, 1, none⟩) hn _) (p := ⟨w.heap.size + 1, 2, none⟩) hn _) fun b hb _ => by have hb' : w.heap.size + 2 ≤ b := hb; show w.heap.size ≤ b; omega, g_set (g_set (g_set gr (.inr (by simp)) _) (.inr (by simp)) _) (.inr (by simp)) _, rd_set (rd_set (rd_set rd (by simp; omega) _) (by simp; omega) _) (by simp; omega) _⟩
set_option maxRecDepth 100000 in
set_option maxHeartbeats 8000000 in
theorem l6Wrong_any (g q : Nat) (A0 : Option Addr) (n c0 : Nat) (B0 : Option Addr) (d0 : Nat) (C0 : Option Addr) (f0 : Nat) (l : Ln) (w : World) (h : RdAt w g q) (hq : q ≤ 500000) (hp : LR w A0 n B0 4 C0 4 l) (hn3 : 3 ≤ n) (hn4 : n ≤ 4) :
    Calls Try.prog 63 #[.pointer (some ⟨g, 0, none⟩), .agg #[.slice A0 n c0, .slice B0 4 d0, .slice C0 4 f0]] w (LWrong w g (q + 100)) := by
  have hg := rd_lt h
  have HP := Lib.hid hp
  have HR := Lib.hid h
  have HLN := Lib.hid (lr_len hp)
  clear hp h
  have F := Lib.hid (fm_two w 26 26 #[.slice A0 n c0, .slice B0 4 d0, .slice C0 4 f0] #[.slice none 0 0, .slice none 0 0, .slice none 0 0])
  go_enter Try.func63, Try.ntmps63
  go_wp2_with fail
  refine (copyLS_any A0 n c0 B0 4 d0 C0 4 f0 l _ (lr_below HP.out F.out.below)).mono ?_
  rintro e w1 ⟨A, n1, c, B, m1, d, C, o1, f, hs, iv, rfl, e1, e2, e3, hL, hI, hb1⟩
  obtain ⟨e4, e5, e6⟩ : n1 = n ∧ m1 = 4 ∧ o1 = 4 := by have := HLN.out; omega
  subst e4 e5 e6
  have hz1 := hb1.size
  simp at hz1
  have HD := Lib.hid (show LW6 w g w1.heap.size A n1 c B d C f hs iv l (w1.alloc (.cells #[.slice A n1 c, .slice B 4 d, .slice C 4 f] 26)) from
    ⟨blk_alloc (fm_blk (fm_below F.out hb1) 1 rfl) _, blk_new w1 _ _, lo_mono (lo_below hL (below_alloc (Below.refl _ _) _)) (by simp), fun j hj => by have := hI j hj; simpa using this,
      ⟨⟨fun e => by have := (hL.r.row.lt _ e).2; omega, fun j => .inr (hL.r.top j)⟩, fun e => by have := (hL.b.lt _ e).2; omega, fun e => by have := (hL.c.lt _ e).2; omega⟩,
      g_below (g_refl w _) (below_alloc (fm_below F.out hb1).below _), hg, by omega⟩)
  have hr1 := Lib.hid (rd_alloc (rd_below HR.out (fm_below F.out hb1).below) (.cells #[.slice A n1 c, .slice B 4 d, .slice C 4 f] 26))
  clear hb1 hL hI HR HP F e1 e2 e3 HLN
  go_wp2_with fail
  refine (pick_any g q _ _ hr1.out (by omega) (by omega)).mono ?_
  rintro e w2 ⟨k, rfl, hk, hg2, hr2⟩
  have HD2 := Lib.hid (lw6_grown HD.out hg2)
  have hr2' := Lib.hid hr2
  obtain ⟨⟨l0, l1, l2⟩, g0, g1, g2⟩ := blk_three HD2.out.lb
  obtain ⟨⟨o0, o1, o2⟩, f0', f1', f2'⟩ := blk_three HD2.out.out
  have hL := HD2.out.hL
  have hne' : ¬ w1.heap.size = w.heap.size + 1 := by omega
  have y2 := blk_lt HD2.out.lb
  have yo := blk_lt HD2.out.out
  clear hg2 hr2 hr1 HD
  by_cases hk0 : k = 0
  · subst hk0
    have HDd := Lib.hid (lw6_below HD2.out (Below.refl w2.heap.size w2).drew)
    have hrd := Lib.hid (show RdAt w2.drew g (q + 1) from hr2'.out)
    have hS0 := lw6_cells HDd.out
    obtain ⟨gC, fC, hvC, hC1, hC2⟩ := HD2.out.lo.c.form (by omega)
    obtain ⟨rfl, rfl⟩ : C = some ⟨gC, 0, none⟩ ∧ f = fC := by injection hvC with a1 a2 a3; exact ⟨a1, a3⟩
    clear hvC o0 o1 o2 f0' f1' f2' l0 l1 l2 g0 g1 g2
    go_wp2_with fail
    refine held_start (S := (fun w' => w'.cell? ⟨w1.heap.size, 0, none⟩ = some (.slice A n1 c) ∧ w'.cell? ⟨w1.heap.size, 1, none⟩ = some (.slice B 4 d) ∧ w'.cell? ⟨w1.heap.size, 2, none⟩ = some (.slice (some ⟨gC, 0, none⟩) 4 f))) 8 (by kernel_rfl) ?_
    refine held_take (i := 0) (oi := { dst := some 12, op := Op.fieldAddr 26 (Operand.tmp 5) 2, type := 0, pos := "l6_lanes.go:223", after := #[], guard := none }) (v := ?_) rfl (by kernel_rfl) (by kernel_rfl) (by kernel_rfl) (by kernel_rfl) (fun _ _ _ h => h) (Or.inl ⟨by rfl, ?_⟩) hS0 ?_
    rotate_left
    · (intro w9 hSw; (try dsimp only at hSw); go_simp; try with_reducible rfl)
    try simp only [Act.put, List.setIfInBounds_toArray, List.set_cons_zero, List.set_cons_succ]
    refine held_take (i := 1) (oi := { dst := some 13, op := Op.load 24 (Operand.tmp 12), type := 24, pos := "l6_lanes.go:223", after := #[{ on := 0, ground := Ground.data }], guard := none }) (v := ?_) rfl (by kernel_rfl) (by kernel_rfl) (by kernel_rfl) (by kernel_rfl) (fun _ _ _ h => h) (Or.inl ⟨by rfl, ?_⟩) hS0 ?_
    rotate_left
    · (intro w9 hSw; (try dsimp only at hSw); go_simp; try with_reducible rfl)
    try simp only [Act.put, List.setIfInBounds_toArray, List.set_cons_zero, List.set_cons_succ]
    refine held_take (i := 2) (oi := { dst := some 14, op := Op.move (Operand.tmp 0), type := 94, pos := "l6_lanes.go:223", after := #[], guard := none }) (v := ?_) rfl (by kernel_rfl) (by kernel_rfl) (by kernel_rfl) (by kernel_rfl) (fun _ _ _ h => h) (Or.inl ⟨by rfl, ?_⟩) hS0 ?_
    rotate_left
    · (intro w9 hSw; (try dsimp only at hSw); go_simp; try with_reducible rfl)
    try simp only [Act.put, List.setIfInBounds_toArray, List.set_cons_zero, List.set_cons_succ]
    refine held_take (i := 4) (oi := { dst := some 16, op := Op.move (Operand.tmp 0), type := 94, pos := "l6_lanes.go:223", after := #[], guard := none }) (v := ?_) rfl (by kernel_rfl) (by kernel_rfl) (by kernel_rfl) (by kernel_rfl) (fun _ _ _ h => h) (Or.inl ⟨by rfl, ?_⟩) hS0 ?_
    rotate_left
    · (intro w9 hSw; (try dsimp only at hSw); go_simp; try with_reducible rfl)
    try simp only [Act.put, List.setIfInBounds_toArray, List.set_cons_zero, List.set_cons_succ]
    refine held_two (i := 3) (j := 5) (oi := { dst := some 15, op := Op.call { callee := Callee.value (Operand.func 61), args := #[Operand.tmp 14, Operand.const (Value.int IntKind.i64 4)], argTypes := #[94, 3] }, type := 3, pos := "l6_lanes.go:223", after := #[{ on := 2, ground := Ground.data }], guard := none }) (oj := { dst := some 17, op := Op.buildSlice 24 3 #[(0, Operand.const (Value.int IntKind.i64 (-1))), (1, Operand.const (Value.int IntKind.i64 10)), (2, Operand.const (Value.int IntKind.i64 0))], type := 24, pos := "l6_lanes.go:223", after := #[], guard := none }) (by kernel_rfl) rfl rfl (fun K hK => ?_) (fun K hK => ?_)
    · go_simp
      go_at_call 61
      refine (pick_any g _ 4 _ hrd.out (by omega) (by omega)).mono ?_
      rintro e wp ⟨kp, rfl, hkp, hgp, hrp⟩
      have kp4 : kp < 4 := by omega
      have DP := Lib.hid (lw6_grown HDd.out hgp)
      have RP := Lib.hid hrp
      have hS3 := lw6_cells DP.out
      clear hgp hrp
      refine hK.out _ _ (.inr hS3) ?_
      clear hK K
      try simp only [Act.put, List.setIfInBounds_toArray, List.set_cons_zero, List.set_cons_succ]
      refine held_one (i := 5) (o := { dst := some 17, op := Op.buildSlice 24 3 #[(0, Operand.const (Value.int IntKind.i64 (-1))), (1, Operand.const (Value.int IntKind.i64 10)), (2, Operand.const (Value.int IntKind.i64 0))], type := 24, pos := "l6_lanes.go:223", after := #[], guard := none }) (by kernel_rfl) rfl (fun K hK => ?_)
      go_simp
      have hS4 := lw6_cells (lw6_below DP.out (below_alloc (Below.refl _ _) (.cells #[(.int .i64 (-1)), .int .i64 10, .int .i64 0] 3)))
      refine hK.out _ _ (.inr hS4) ?_
      clear hK K
      try simp only [Act.put, List.setIfInBounds_toArray, List.set_cons_zero, List.set_cons_succ]
      refine held_one (i := 6) (o := { dst := some 18, op := Op.call { callee := Callee.value (Operand.func 86), args := #[Operand.tmp 16, Operand.tmp 17], argTypes := #[94, 24] }, type := 3, pos := "l6_lanes.go:223", after := #[{ on := 4, ground := Ground.data }, { on := 5, ground := Ground.data }, { on := 3, ground := Ground.chain }], guard := none }) (by kernel_rfl) rfl (fun K hK => ?_)
      go_simp
      go_at_call 86
      refine (num_lit g _ _ 3 _ _ [-1, 10, 0] _ RP.out (by omega) (by simp) (by decide) rfl).mono ?_
      rintro e wn ⟨bn, hbn, rfl, hgn, hrn⟩
      have DN := Lib.hid (lw6_grown DP.out hgn)
      have RN := Lib.hid hrn
      have hS5 := lw6_cells DN.out
      obtain ⟨b', off', yv, e1', hb', hy, dn0⟩ := nr_at (nr_own DN.out.lo.c) kp4
      obtain ⟨rfl, rfl⟩ : gC = b' ∧ 0 = off' := by injection e1' with e1'; injection e1' with a b; exact ⟨a, b⟩
      rw [Nat.zero_add] at dn0
      have dnf := World.ownsRow.frozenAt DN.out.lo.c kp
      have kk0 : (0 : Int) ≤ (kp : Int) := by omega
      have kk1 : (kp : Int) < (4 : Int) := by omega
      clear hbn hgn hrn e1' hy hb'
      refine hK.out _ _ (.inr hS5) ?_
      clear hK K
      try simp only [Act.put, List.setIfInBounds_toArray, List.set_cons_zero, List.set_cons_succ]
      refine held_one (i := 7) (o := { dst := some 19, op := Op.indexAddr 24 (Operand.tmp 13) (Operand.tmp 15), type := 0, pos := "l6_lanes.go:223", after := #[{ on := 1, ground := Ground.data }, { on := 3, ground := Ground.data }, { on := 0, ground := Ground.phase }, { on := 1, ground := Ground.phase }, { on := 2, ground := Ground.phase }, { on := 3, ground := Ground.phase }, { on := 4, ground := Ground.phase }, { on := 5, ground := Ground.phase }, { on := 6, ground := Ground.phase }], guard := none }) (by kernel_rfl) rfl (fun K hK => ?_)
      go_simp
      refine hK.out _ _ (.inr hS5) ?_
      clear hK K
      try simp only [Act.put, List.setIfInBounds_toArray, List.set_cons_zero, List.set_cons_succ]
      refine held_one (i := 8) (o := { dst := none, op := Op.store 3 (Operand.tmp 19) (Operand.tmp 18), type := 0, pos := "l6_lanes.go:223", after := #[{ on := 7, ground := Ground.data }, { on := 6, ground := Ground.data }, { on := 6, ground := Ground.chain }, { on := 0, ground := Ground.phase }, { on := 1, ground := Ground.phase }, { on := 2, ground := Ground.phase }, { on := 3, ground := Ground.phase }, { on := 4, ground := Ground.phase }, { on := 5, ground := Ground.phase }, { on := 6, ground := Ground.phase }], guard := none }) (by kernel_rfl) rfl (fun K hK => ?_)
      go_simp
      refine hK.out _ _ (.inl rfl) ?_
      clear hK K
      try simp only [Act.put, List.setIfInBounds_toArray, List.set_cons_zero, List.set_cons_succ]
      refine held_done (by kernel_rfl) ?_ _
      have LBE := Lib.hid (blk_far (p := ⟨gC, kp, none⟩) DN.out.lb (fun e => DN.out.sL.2.2 (by show some gC = some w1.heap.size; rw [show gC = w1.heap.size from e.symm])) (.int .i64 bn))
      have zx := (DN.out.lo.c.lt gC rfl).1
      have OE := Lib.hid (blk_far (p := ⟨gC, kp, none⟩) DN.out.out (by show w.heap.size + 1 ≠ gC; omega) (.int .i64 bn))
      have LE := Lib.hid (lrx_mono (lo_lrx (lo_setC (k := kp) DN.out.lo bn) (by omega) (by omega) (by omega)) fun b hb => hb.1)
      obtain ⟨⟨l0, l1, l2⟩, -⟩ := blk_three LBE.out
      obtain ⟨⟨o0, o1, o2⟩, f0', f1', f2'⟩ := blk_three OE.out
      have yl := blk_lt LBE.out
      have yo := blk_lt OE.out
      clear hS0
      go_wp2
      refine bodyPost_ret (v := .agg #[.slice A n1 c, .slice B 4 d, .slice (some ⟨gC, 0, none⟩) 4 f]) (by simp [results, Try.results63, go_sem, o0, o1, o2]) rfl ⟨_, _, _, _, _, _, _, ⟨l.rs, l.ws, l.cs.set kp bn⟩, rfl, hn3, hn4, ?_⟩
      have E := lw6_end LE.out (g_set (p := ⟨gC, kp, none⟩) DN.out.gr (.inr (by show w.heap.size ≤ gC; omega)) _) (rd_set (p := ⟨gC, kp, none⟩) RN.out (by show g < gC; omega) _) hg (.slice A n1 c) (.slice B 4 d) (.slice (some ⟨gC, 0, none⟩) 4 f)
      exact ⟨E.1, E.2.1, rd_more E.2.2 (by omega)⟩
    · go_simp
      have hS1 := lw6_cells (lw6_below HDd.out (below_alloc (Below.refl _ _) (.cells #[(.int .i64 (-1)), .int .i64 10, .int .i64 0] 3)))
      refine hK.out _ _ (.inr hS1) ?_
      clear hK K
      try simp only [Act.put, List.setIfInBounds_toArray, List.set_cons_zero, List.set_cons_succ]
      refine held_one (i := 3) (o := { dst := some 15, op := Op.call { callee := Callee.value (Operand.func 61), args := #[Operand.tmp 14, Operand.const (Value.int IntKind.i64 4)], argTypes := #[94, 3] }, type := 3, pos := "l6_lanes.go:223", after := #[{ on := 2, ground := Ground.data }], guard := none }) (by kernel_rfl) rfl (fun K hK => ?_)
      go_simp
      go_at_call 61
      refine (pick_any g _ 4 _ (rd_alloc hrd.out _) (by omega) (by omega)).mono ?_
      rintro e wp ⟨kp, rfl, hkp, hgp, hrp⟩
      have kp4 : kp < 4 := by omega
      have DP := Lib.hid (lw6_grown (lw6_below HDd.out (below_alloc (Below.refl _ _) _)) hgp)
      have BP := Lib.hid (blk_grown (show Blk (w2.drew.alloc (.cells #[(.int .i64 (-1)), .int .i64 10, .int .i64 0] 3)) w2.heap.size 3 #[(.int .i64 (-1)), .int .i64 10, .int .i64 0] from blk_new w2.drew _ _) hgp (by omega))
      have RP := Lib.hid hrp
      have hS3 := lw6_cells DP.out
      clear hgp hrp
      refine hK.out _ _ (.inr hS3) ?_
      clear hK K
      try simp only [Act.put, List.setIfInBounds_toArray, List.set_cons_zero, List.set_cons_succ]
      refine held_one (i := 6) (o := { dst := some 18, op := Op.call { callee := Callee.value (Operand.func 86), args := #[Operand.tmp 16, Operand.tmp 17], argTypes := #[94, 24] }, type := 3, pos := "l6_lanes.go:223", after := #[{ on := 4, ground := Ground.data }, { on := 5, ground := Ground.data }, { on := 3, ground := Ground.chain }], guard := none }) (by kernel_rfl) rfl (fun K hK => ?_)
      go_simp
      go_at_call 86
      refine (num_any g _ w2.heap.size 3 [-1, 10, 0] _ RP.out (by omega) (by decide) (rd_lt hr2'.out) (fun j x hj => (blk_cell BP.out j).trans (by
          have : j = 0 ∨ j = 1 ∨ j = 2 ∨ 3 ≤ j := by omega
          rcases this with rfl | rfl | rfl | h5
          · simpa using hj
          · simpa using hj
          · simpa using hj
          · rw [List.getElem?_eq_none (by simpa using h5)] at hj; cases hj)) (blk_lt BP.out)).mono ?_
      rintro e wn ⟨bn, hbn, rfl, hgn, hrn⟩
      have DN := Lib.hid (lw6_grown DP.out hgn)
      have RN := Lib.hid hrn
      have hS5 := lw6_cells DN.out
      obtain ⟨b', off', yv, e1', hb', hy, dn0⟩ := nr_at (nr_own DN.out.lo.c) kp4
      obtain ⟨rfl, rfl⟩ : gC = b' ∧ 0 = off' := by injection e1' with e1'; injection e1' with a b; exact ⟨a, b⟩
      rw [Nat.zero_add] at dn0
      have dnf := World.ownsRow.frozenAt DN.out.lo.c kp
      have kk0 : (0 : Int) ≤ (kp : Int) := by omega
      have kk1 : (kp : Int) < (4 : Int) := by omega
      clear hbn hgn hrn e1' hy hb'
      refine hK.out _ _ (.inr hS5) ?_
      clear hK K
      try simp only [Act.put, List.setIfInBounds_toArray, List.set_cons_zero, List.set_cons_succ]
      refine held_one (i := 7) (o := { dst := some 19, op := Op.indexAddr 24 (Operand.tmp 13) (Operand.tmp 15), type := 0, pos := "l6_lanes.go:223", after := #[{ on := 1, ground := Ground.data }, { on := 3, ground := Ground.data }, { on := 0, ground := Ground.phase }, { on := 1, ground := Ground.phase }, { on := 2, ground := Ground.phase }, { on := 3, ground := Ground.phase }, { on := 4, ground := Ground.phase }, { on := 5, ground := Ground.phase }, { on := 6, ground := Ground.phase }], guard := none }) (by kernel_rfl) rfl (fun K hK => ?_)
      go_simp
      refine hK.out _ _ (.inr hS5) ?_
      clear hK K
      try simp only [Act.put, List.setIfInBounds_toArray, List.set_cons_zero, List.set_cons_succ]
      refine held_one (i := 8) (o := { dst := none, op := Op.store 3 (Operand.tmp 19) (Operand.tmp 18), type := 0, pos := "l6_lanes.go:223", after := #[{ on := 7, ground := Ground.data }, { on := 6, ground := Ground.data }, { on := 6, ground := Ground.chain }, { on := 0, ground := Ground.phase }, { on := 1, ground := Ground.phase }, { on := 2, ground := Ground.phase }, { on := 3, ground := Ground.phase }, { on := 4, ground := Ground.phase }, { on := 5, ground := Ground.phase }, { on := 6, ground := Ground.phase }], guard := none }) (by kernel_rfl) rfl (fun K hK => ?_)
      go_simp
      refine hK.out _ _ (.inl rfl) ?_
      clear hK K
      try simp only [Act.put, List.setIfInBounds_toArray, List.set_cons_zero, List.set_cons_succ]
      refine held_done (by kernel_rfl) ?_ _
      have LBE := Lib.hid (blk_far (p := ⟨gC, kp, none⟩) DN.out.lb (fun e => DN.out.sL.2.2 (by show some gC = some w1.heap.size; rw [show gC = w1.heap.size from e.symm])) (.int .i64 bn))
      have zx := (DN.out.lo.c.lt gC rfl).1
      have OE := Lib.hid (blk_far (p := ⟨gC, kp, none⟩) DN.out.out (by show w.heap.size + 1 ≠ gC; omega) (.int .i64 bn))
      have LE := Lib.hid (lrx_mono (lo_lrx (lo_setC (k := kp) DN.out.lo bn) (by omega) (by omega) (by omega)) fun b hb => hb.1)
      obtain ⟨⟨l0, l1, l2⟩, -⟩ := blk_three LBE.out
      obtain ⟨⟨o0, o1, o2⟩, f0', f1', f2'⟩ := blk_three OE.out
      have yl := blk_lt LBE.out
      have yo := blk_lt OE.out
      clear hS0
      go_wp2
      refine bodyPost_ret (v := .agg #[.slice A n1 c, .slice B 4 d, .slice (some ⟨gC, 0, none⟩) 4 f]) (by simp [results, Try.results63, go_sem, o0, o1, o2]) rfl ⟨_, _, _, _, _, _, _, ⟨l.rs, l.ws, l.cs.set kp bn⟩, rfl, hn3, hn4, ?_⟩
      have E := lw6_end LE.out (g_set (p := ⟨gC, kp, none⟩) DN.out.gr (.inr (by show w.heap.size ≤ gC; omega)) _) (rd_set (p := ⟨gC, kp, none⟩) RN.out (by show g < gC; omega) _) hg (.slice A n1 c) (.slice B 4 d) (.slice (some ⟨gC, 0, none⟩) 4 f)
      exact ⟨E.1, E.2.1, rd_more E.2.2 (by omega)⟩
  have e0 : ((k : Int) == 0) = false := by simp; omega
  by_cases hk1 : k = 1
  · subst hk1
    have HDd := Lib.hid (lw6_below HD2.out (Below.refl w2.heap.size w2).drew)
    have hrd := Lib.hid (show RdAt w2.drew g (q + 1) from hr2'.out)
    have hS0 := lw6_cells HDd.out
    obtain ⟨gB, fB, hvB, hB1, hB2⟩ := HD2.out.lo.b.form (by omega)
    obtain ⟨rfl, rfl⟩ : B = some ⟨gB, 0, none⟩ ∧ d = fB := by injection hvB with a1 a2 a3; exact ⟨a1, a3⟩
    clear hvB o0 o1 o2 f0' f1' f2' l0 l1 l2 g0 g1 g2
    go_wp2_with fail
    refine held_start (S := (fun w' => w'.cell? ⟨w1.heap.size, 0, none⟩ = some (.slice A n1 c) ∧ w'.cell? ⟨w1.heap.size, 1, none⟩ = some (.slice (some ⟨gB, 0, none⟩) 4 d) ∧ w'.cell? ⟨w1.heap.size, 2, none⟩ = some (.slice C 4 f))) 8 (by kernel_rfl) ?_
    refine held_take (i := 0) (oi := { dst := some 22, op := Op.fieldAddr 26 (Operand.tmp 5) 1, type := 0, pos := "l6_lanes.go:225", after := #[], guard := none }) (v := ?_) rfl (by kernel_rfl) (by kernel_rfl) (by kernel_rfl) (by kernel_rfl) (fun _ _ _ h => h) (Or.inl ⟨by rfl, ?_⟩) hS0 ?_
    rotate_left
    · (intro w9 hSw; (try dsimp only at hSw); go_simp; try with_reducible rfl)
    try simp only [Act.put, List.setIfInBounds_toArray, List.set_cons_zero, List.set_cons_succ]
    refine held_take (i := 1) (oi := { dst := some 23, op := Op.load 24 (Operand.tmp 22), type := 24, pos := "l6_lanes.go:225", after := #[{ on := 0, ground := Ground.data }], guard := none }) (v := ?_) rfl (by kernel_rfl) (by kernel_rfl) (by kernel_rfl) (by kernel_rfl) (fun _ _ _ h => h) (Or.inl ⟨by rfl, ?_⟩) hS0 ?_
    rotate_left
    · (intro w9 hSw; (try dsimp only at hSw); go_simp; try with_reducible rfl)
    try simp only [Act.put, List.setIfInBounds_toArray, List.set_cons_zero, List.set_cons_succ]
    refine held_take (i := 2) (oi := { dst := some 24, op := Op.move (Operand.tmp 0), type := 94, pos := "l6_lanes.go:225", after := #[], guard := none }) (v := ?_) rfl (by kernel_rfl) (by kernel_rfl) (by kernel_rfl) (by kernel_rfl) (fun _ _ _ h => h) (Or.inl ⟨by rfl, ?_⟩) hS0 ?_
    rotate_left
    · (intro w9 hSw; (try dsimp only at hSw); go_simp; try with_reducible rfl)
    try simp only [Act.put, List.setIfInBounds_toArray, List.set_cons_zero, List.set_cons_succ]
    refine held_take (i := 4) (oi := { dst := some 26, op := Op.move (Operand.tmp 0), type := 94, pos := "l6_lanes.go:225", after := #[], guard := none }) (v := ?_) rfl (by kernel_rfl) (by kernel_rfl) (by kernel_rfl) (by kernel_rfl) (fun _ _ _ h => h) (Or.inl ⟨by rfl, ?_⟩) hS0 ?_
    rotate_left
    · (intro w9 hSw; (try dsimp only at hSw); go_simp; try with_reducible rfl)
    try simp only [Act.put, List.setIfInBounds_toArray, List.set_cons_zero, List.set_cons_succ]
    refine held_two (i := 3) (j := 5) (oi := { dst := some 25, op := Op.call { callee := Callee.value (Operand.func 61), args := #[Operand.tmp 24, Operand.const (Value.int IntKind.i64 4)], argTypes := #[94, 3] }, type := 3, pos := "l6_lanes.go:225", after := #[{ on := 2, ground := Ground.data }], guard := none }) (oj := { dst := some 27, op := Op.buildSlice 24 3 #[(0, Operand.const (Value.int IntKind.i64 0)), (1, Operand.const (Value.int IntKind.i64 10)), (2, Operand.const (Value.int IntKind.i64 9))], type := 24, pos := "l6_lanes.go:225", after := #[], guard := none }) (by kernel_rfl) rfl rfl (fun K hK => ?_) (fun K hK => ?_)
    · go_simp
      go_at_call 61
      refine (pick_any g _ 4 _ hrd.out (by omega) (by omega)).mono ?_
      rintro e wp ⟨kp, rfl, hkp, hgp, hrp⟩
      have kp4 : kp < 4 := by omega
      have DP := Lib.hid (lw6_grown HDd.out hgp)
      have RP := Lib.hid hrp
      have hS3 := lw6_cells DP.out
      clear hgp hrp
      refine hK.out _ _ (.inr hS3) ?_
      clear hK K
      try simp only [Act.put, List.setIfInBounds_toArray, List.set_cons_zero, List.set_cons_succ]
      refine held_one (i := 5) (o := { dst := some 27, op := Op.buildSlice 24 3 #[(0, Operand.const (Value.int IntKind.i64 0)), (1, Operand.const (Value.int IntKind.i64 10)), (2, Operand.const (Value.int IntKind.i64 9))], type := 24, pos := "l6_lanes.go:225", after := #[], guard := none }) (by kernel_rfl) rfl (fun K hK => ?_)
      go_simp
      have hS4 := lw6_cells (lw6_below DP.out (below_alloc (Below.refl _ _) (.cells #[.int .i64 0, .int .i64 10, .int .i64 9] 3)))
      refine hK.out _ _ (.inr hS4) ?_
      clear hK K
      try simp only [Act.put, List.setIfInBounds_toArray, List.set_cons_zero, List.set_cons_succ]
      refine held_one (i := 6) (o := { dst := some 28, op := Op.call { callee := Callee.value (Operand.func 86), args := #[Operand.tmp 26, Operand.tmp 27], argTypes := #[94, 24] }, type := 3, pos := "l6_lanes.go:225", after := #[{ on := 4, ground := Ground.data }, { on := 5, ground := Ground.data }, { on := 3, ground := Ground.chain }], guard := none }) (by kernel_rfl) rfl (fun K hK => ?_)
      go_simp
      go_at_call 86
      refine (num_lit g _ _ 3 _ _ [0, 10, 9] _ RP.out (by omega) (by simp) (by decide) rfl).mono ?_
      rintro e wn ⟨bn, hbn, rfl, hgn, hrn⟩
      have DN := Lib.hid (lw6_grown DP.out hgn)
      have RN := Lib.hid hrn
      have hS5 := lw6_cells DN.out
      obtain ⟨b', off', yv, e1', hb', hy, dn0⟩ := nr_at (nr_own DN.out.lo.b) kp4
      obtain ⟨rfl, rfl⟩ : gB = b' ∧ 0 = off' := by injection e1' with e1'; injection e1' with a b; exact ⟨a, b⟩
      rw [Nat.zero_add] at dn0
      have dnf := World.ownsRow.frozenAt DN.out.lo.b kp
      have kk0 : (0 : Int) ≤ (kp : Int) := by omega
      have kk1 : (kp : Int) < (4 : Int) := by omega
      clear hbn hgn hrn e1' hy hb'
      refine hK.out _ _ (.inr hS5) ?_
      clear hK K
      try simp only [Act.put, List.setIfInBounds_toArray, List.set_cons_zero, List.set_cons_succ]
      refine held_one (i := 7) (o := { dst := some 29, op := Op.indexAddr 24 (Operand.tmp 23) (Operand.tmp 25), type := 0, pos := "l6_lanes.go:225", after := #[{ on := 1, ground := Ground.data }, { on := 3, ground := Ground.data }, { on := 0, ground := Ground.phase }, { on := 1, ground := Ground.phase }, { on := 2, ground := Ground.phase }, { on := 3, ground := Ground.phase }, { on := 4, ground := Ground.phase }, { on := 5, ground := Ground.phase }, { on := 6, ground := Ground.phase }], guard := none }) (by kernel_rfl) rfl (fun K hK => ?_)
      go_simp
      refine hK.out _ _ (.inr hS5) ?_
      clear hK K
      try simp only [Act.put, List.setIfInBounds_toArray, List.set_cons_zero, List.set_cons_succ]
      refine held_one (i := 8) (o := { dst := none, op := Op.store 3 (Operand.tmp 29) (Operand.tmp 28), type := 0, pos := "l6_lanes.go:225", after := #[{ on := 7, ground := Ground.data }, { on := 6, ground := Ground.data }, { on := 6, ground := Ground.chain }, { on := 0, ground := Ground.phase }, { on := 1, ground := Ground.phase }, { on := 2, ground := Ground.phase }, { on := 3, ground := Ground.phase }, { on := 4, ground := Ground.phase }, { on := 5, ground := Ground.phase }, { on := 6, ground := Ground.phase }], guard := none }) (by kernel_rfl) rfl (fun K hK => ?_)
      go_simp
      refine hK.out _ _ (.inl rfl) ?_
      clear hK K
      try simp only [Act.put, List.setIfInBounds_toArray, List.set_cons_zero, List.set_cons_succ]
      refine held_done (by kernel_rfl) ?_ _
      have LBE := Lib.hid (blk_far (p := ⟨gB, kp, none⟩) DN.out.lb (fun e => DN.out.sL.2.1 (by show some gB = some w1.heap.size; rw [show gB = w1.heap.size from e.symm])) (.int .i64 bn))
      have zx := (DN.out.lo.b.lt gB rfl).1
      have OE := Lib.hid (blk_far (p := ⟨gB, kp, none⟩) DN.out.out (by show w.heap.size + 1 ≠ gB; omega) (.int .i64 bn))
      have LE := Lib.hid (lrx_mono (lo_lrx (lo_setB (k := kp) DN.out.lo bn) (by omega) (by omega) (by omega)) fun b hb => hb.1)
      obtain ⟨⟨l0, l1, l2⟩, -⟩ := blk_three LBE.out
      obtain ⟨⟨o0, o1, o2⟩, f0', f1', f2'⟩ := blk_three OE.out
      have yl := blk_lt LBE.out
      have yo := blk_lt OE.out
      clear hS0
      go_wp2
      refine bodyPost_ret (v := .agg #[.slice A n1 c, .slice (some ⟨gB, 0, none⟩) 4 d, .slice C 4 f]) (by simp [results, Try.results63, go_sem, o0, o1, o2]) rfl ⟨_, _, _, _, _, _, _, ⟨l.rs, l.ws.set kp bn, l.cs⟩, rfl, hn3, hn4, ?_⟩
      have E := lw6_end LE.out (g_set (p := ⟨gB, kp, none⟩) DN.out.gr (.inr (by show w.heap.size ≤ gB; omega)) _) (rd_set (p := ⟨gB, kp, none⟩) RN.out (by show g < gB; omega) _) hg (.slice A n1 c) (.slice (some ⟨gB, 0, none⟩) 4 d) (.slice C 4 f)
      exact ⟨E.1, E.2.1, rd_more E.2.2 (by omega)⟩
    · go_simp
      have hS1 := lw6_cells (lw6_below HDd.out (below_alloc (Below.refl _ _) (.cells #[.int .i64 0, .int .i64 10, .int .i64 9] 3)))
      refine hK.out _ _ (.inr hS1) ?_
      clear hK K
      try simp only [Act.put, List.setIfInBounds_toArray, List.set_cons_zero, List.set_cons_succ]
      refine held_one (i := 3) (o := { dst := some 25, op := Op.call { callee := Callee.value (Operand.func 61), args := #[Operand.tmp 24, Operand.const (Value.int IntKind.i64 4)], argTypes := #[94, 3] }, type := 3, pos := "l6_lanes.go:225", after := #[{ on := 2, ground := Ground.data }], guard := none }) (by kernel_rfl) rfl (fun K hK => ?_)
      go_simp
      go_at_call 61
      refine (pick_any g _ 4 _ (rd_alloc hrd.out _) (by omega) (by omega)).mono ?_
      rintro e wp ⟨kp, rfl, hkp, hgp, hrp⟩
      have kp4 : kp < 4 := by omega
      have DP := Lib.hid (lw6_grown (lw6_below HDd.out (below_alloc (Below.refl _ _) _)) hgp)
      have BP := Lib.hid (blk_grown (show Blk (w2.drew.alloc (.cells #[.int .i64 0, .int .i64 10, .int .i64 9] 3)) w2.heap.size 3 #[.int .i64 0, .int .i64 10, .int .i64 9] from blk_new w2.drew _ _) hgp (by omega))
      have RP := Lib.hid hrp
      have hS3 := lw6_cells DP.out
      clear hgp hrp
      refine hK.out _ _ (.inr hS3) ?_
      clear hK K
      try simp only [Act.put, List.setIfInBounds_toArray, List.set_cons_zero, List.set_cons_succ]
      refine held_one (i := 6) (o := { dst := some 28, op := Op.call { callee := Callee.value (Operand.func 86), args := #[Operand.tmp 26, Operand.tmp 27], argTypes := #[94, 24] }, type := 3, pos := "l6_lanes.go:225", after := #[{ on := 4, ground := Ground.data }, { on := 5, ground := Ground.data }, { on := 3, ground := Ground.chain }], guard := none }) (by kernel_rfl) rfl (fun K hK => ?_)
      go_simp
      go_at_call 86
      refine (num_any g _ w2.heap.size 3 [0, 10, 9] _ RP.out (by omega) (by decide) (rd_lt hr2'.out) (fun j x hj => (blk_cell BP.out j).trans (by
          have : j = 0 ∨ j = 1 ∨ j = 2 ∨ 3 ≤ j := by omega
          rcases this with rfl | rfl | rfl | h5
          · simpa using hj
          · simpa using hj
          · simpa using hj
          · rw [List.getElem?_eq_none (by simpa using h5)] at hj; cases hj)) (blk_lt BP.out)).mono ?_
      rintro e wn ⟨bn, hbn, rfl, hgn, hrn⟩
      have DN := Lib.hid (lw6_grown DP.out hgn)
      have RN := Lib.hid hrn
      have hS5 := lw6_cells DN.out
      obtain ⟨b', off', yv, e1', hb', hy, dn0⟩ := nr_at (nr_own DN.out.lo.b) kp4
      obtain ⟨rfl, rfl⟩ : gB = b' ∧ 0 = off' := by injection e1' with e1'; injection e1' with a b; exact ⟨a, b⟩
      rw [Nat.zero_add] at dn0
      have dnf := World.ownsRow.frozenAt DN.out.lo.b kp
      have kk0 : (0 : Int) ≤ (kp : Int) := by omega
      have kk1 : (kp : Int) < (4 : Int) := by omega
      clear hbn hgn hrn e1' hy hb'
      refine hK.out _ _ (.inr hS5) ?_
      clear hK K
      try simp only [Act.put, List.setIfInBounds_toArray, List.set_cons_zero, List.set_cons_succ]
      refine held_one (i := 7) (o := { dst := some 29, op := Op.indexAddr 24 (Operand.tmp 23) (Operand.tmp 25), type := 0, pos := "l6_lanes.go:225", after := #[{ on := 1, ground := Ground.data }, { on := 3, ground := Ground.data }, { on := 0, ground := Ground.phase }, { on := 1, ground := Ground.phase }, { on := 2, ground := Ground.phase }, { on := 3, ground := Ground.phase }, { on := 4, ground := Ground.phase }, { on := 5, ground := Ground.phase }, { on := 6, ground := Ground.phase }], guard := none }) (by kernel_rfl) rfl (fun K hK => ?_)
      go_simp
      refine hK.out _ _ (.inr hS5) ?_
      clear hK K
      try simp only [Act.put, List.setIfInBounds_toArray, List.set_cons_zero, List.set_cons_succ]
      refine held_one (i := 8) (o := { dst := none, op := Op.store 3 (Operand.tmp 29) (Operand.tmp 28), type := 0, pos := "l6_lanes.go:225", after := #[{ on := 7, ground := Ground.data }, { on := 6, ground := Ground.data }, { on := 6, ground := Ground.chain }, { on := 0, ground := Ground.phase }, { on := 1, ground := Ground.phase }, { on := 2, ground := Ground.phase }, { on := 3, ground := Ground.phase }, { on := 4, ground := Ground.phase }, { on := 5, ground := Ground.phase }, { on := 6, ground := Ground.phase }], guard := none }) (by kernel_rfl) rfl (fun K hK => ?_)
      go_simp
      refine hK.out _ _ (.inl rfl) ?_
      clear hK K
      try simp only [Act.put, List.setIfInBounds_toArray, List.set_cons_zero, List.set_cons_succ]
      refine held_done (by kernel_rfl) ?_ _
      have LBE := Lib.hid (blk_far (p := ⟨gB, kp, none⟩) DN.out.lb (fun e => DN.out.sL.2.1 (by show some gB = some w1.heap.size; rw [show gB = w1.heap.size from e.symm])) (.int .i64 bn))
      have zx := (DN.out.lo.b.lt gB rfl).1
      have OE := Lib.hid (blk_far (p := ⟨gB, kp, none⟩) DN.out.out (by show w.heap.size + 1 ≠ gB; omega) (.int .i64 bn))
      have LE := Lib.hid (lrx_mono (lo_lrx (lo_setB (k := kp) DN.out.lo bn) (by omega) (by omega) (by omega)) fun b hb => hb.1)
      obtain ⟨⟨l0, l1, l2⟩, -⟩ := blk_three LBE.out
      obtain ⟨⟨o0, o1, o2⟩, f0', f1', f2'⟩ := blk_three OE.out
      have yl := blk_lt LBE.out
      have yo := blk_lt OE.out
      clear hS0
      go_wp2
      refine bodyPost_ret (v := .agg #[.slice A n1 c, .slice (some ⟨gB, 0, none⟩) 4 d, .slice C 4 f]) (by simp [results, Try.results63, go_sem, o0, o1, o2]) rfl ⟨_, _, _, _, _, _, _, ⟨l.rs, l.ws.set kp bn, l.cs⟩, rfl, hn3, hn4, ?_⟩
      have E := lw6_end LE.out (g_set (p := ⟨gB, kp, none⟩) DN.out.gr (.inr (by show w.heap.size ≤ gB; omega)) _) (rd_set (p := ⟨gB, kp, none⟩) RN.out (by show g < gB; omega) _) hg (.slice A n1 c) (.slice (some ⟨gB, 0, none⟩) 4 d) (.slice C 4 f)
      exact ⟨E.1, E.2.1, rd_more E.2.2 (by omega)⟩
  have e1 : ((k : Int) == 1) = false := by simp; omega
  by_cases hk2 : k = 2
  · subst hk2
    have HDd := Lib.hid (lw6_below HD2.out (Below.refl w2.heap.size w2).drew)
    have hrd := Lib.hid (show RdAt w2.drew g (q + 1) from hr2'.out)
    have hS0 := lw6_cells HDd.out
    obtain ⟨gA, cA, hvA, hA1, hA2⟩ := HD2.out.lo.r.row.form (by omega)
    obtain ⟨rfl, rfl⟩ : A = some ⟨gA, 0, none⟩ ∧ c = cA := by injection hvA with a1 a2 a3; exact ⟨a1, a3⟩
    clear hvA o0 o1 o2 f0' f1' f2' l0 l1 l2 g0 g1 g2
    go_wp2_with fail
    refine held_start (S := (fun w' => w'.cell? ⟨w1.heap.size, 0, none⟩ = some (.slice (some ⟨gA, 0, none⟩) n1 c) ∧ w'.cell? ⟨w1.heap.size, 1, none⟩ = some (.slice B 4 d) ∧ w'.cell? ⟨w1.heap.size, 2, none⟩ = some (.slice C 4 f))) 10 (by kernel_rfl) ?_
    refine held_take (i := 0) (oi := { dst := some 32, op := Op.fieldAddr 26 (Operand.tmp 5) 0, type := 0, pos := "l6_lanes.go:227", after := #[], guard := none }) (v := ?_) rfl (by kernel_rfl) (by kernel_rfl) (by kernel_rfl) (by kernel_rfl) (fun _ _ _ h => h) (Or.inl ⟨by rfl, ?_⟩) hS0 ?_
    rotate_left
    · (intro w9 hSw; (try dsimp only at hSw); go_simp; try with_reducible rfl)
    try simp only [Act.put, List.setIfInBounds_toArray, List.set_cons_zero, List.set_cons_succ]
    refine held_take (i := 1) (oi := { dst := some 33, op := Op.load 23 (Operand.tmp 32), type := 23, pos := "l6_lanes.go:227", after := #[{ on := 0, ground := Ground.data }], guard := none }) (v := ?_) rfl (by kernel_rfl) (by kernel_rfl) (by kernel_rfl) (by kernel_rfl) (fun _ _ _ h => h) (Or.inl ⟨by rfl, ?_⟩) hS0 ?_
    rotate_left
    · (intro w9 hSw; (try dsimp only at hSw); go_simp; try with_reducible rfl)
    try simp only [Act.put, List.setIfInBounds_toArray, List.set_cons_zero, List.set_cons_succ]
    refine held_take (i := 2) (oi := { dst := some 34, op := Op.move (Operand.tmp 0), type := 94, pos := "l6_lanes.go:227", after := #[], guard := none }) (v := ?_) rfl (by kernel_rfl) (by kernel_rfl) (by kernel_rfl) (by kernel_rfl) (fun _ _ _ h => h) (Or.inl ⟨by rfl, ?_⟩) hS0 ?_
    rotate_left
    · (intro w9 hSw; (try dsimp only at hSw); go_simp; try with_reducible rfl)
    try simp only [Act.put, List.setIfInBounds_toArray, List.set_cons_zero, List.set_cons_succ]
    refine held_take (i := 3) (oi := { dst := some 35, op := Op.fieldAddr 26 (Operand.tmp 5) 0, type := 0, pos := "l6_lanes.go:227", after := #[], guard := none }) (v := ?_) rfl (by kernel_rfl) (by kernel_rfl) (by kernel_rfl) (by kernel_rfl) (fun _ _ _ h => h) (Or.inl ⟨by rfl, ?_⟩) hS0 ?_
    rotate_left
    · (intro w9 hSw; (try dsimp only at hSw); go_simp; try with_reducible rfl)
    try simp only [Act.put, List.setIfInBounds_toArray, List.set_cons_zero, List.set_cons_succ]
    refine held_take (i := 4) (oi := { dst := some 36, op := Op.load 23 (Operand.tmp 35), type := 23, pos := "l6_lanes.go:227", after := #[{ on := 3, ground := Ground.data }], guard := none }) (v := ?_) rfl (by kernel_rfl) (by kernel_rfl) (by kernel_rfl) (by kernel_rfl) (fun _ _ _ h => h) (Or.inl ⟨by rfl, ?_⟩) hS0 ?_
    rotate_left
    · (intro w9 hSw; (try dsimp only at hSw); go_simp; try with_reducible rfl)
    try simp only [Act.put, List.setIfInBounds_toArray, List.set_cons_zero, List.set_cons_succ]
    refine held_take (i := 5) (oi := { dst := some 37, op := Op.call { callee := Callee.builtin Builtin.len, args := #[Operand.tmp 36], argTypes := #[23] }, type := 3, pos := "l6_lanes.go:227", after := #[{ on := 4, ground := Ground.data }], guard := none }) (v := ?_) rfl (by kernel_rfl) (by kernel_rfl) (by kernel_rfl) (by kernel_rfl) (fun _ _ _ h => h) (Or.inl ⟨by rfl, ?_⟩) hS0 ?_
    rotate_left
    · (intro w9 hSw; (try dsimp only at hSw); go_simp; try with_reducible rfl)
    try simp only [Act.put, List.setIfInBounds_toArray, List.set_cons_zero, List.set_cons_succ]
    refine held_take (i := 7) (oi := { dst := some 39, op := Op.move (Operand.tmp 0), type := 94, pos := "l6_lanes.go:227", after := #[], guard := none }) (v := ?_) rfl (by kernel_rfl) (by kernel_rfl) (by kernel_rfl) (by kernel_rfl) (fun _ _ _ h => h) (Or.inl ⟨by rfl, ?_⟩) hS0 ?_
    rotate_left
    · (intro w9 hSw; (try dsimp only at hSw); go_simp; try with_reducible rfl)
    try simp only [Act.put, List.setIfInBounds_toArray, List.set_cons_zero, List.set_cons_succ]
    refine held_one (i := 6) (o := { dst := some 38, op := Op.call { callee := Callee.value (Operand.func 61), args := #[Operand.tmp 34, Operand.tmp 37], argTypes := #[94, 3] }, type := 3, pos := "l6_lanes.go:227", after := #[{ on := 2, ground := Ground.data }, { on := 5, ground := Ground.data }], guard := none }) (by kernel_rfl) rfl (fun K hK => ?_)
    go_simp
    go_at_call 61
    refine (pick_any g _ (n1 : Int) _ hrd.out (by omega) (by omega)).mono ?_
    rintro e wp ⟨kp, rfl, hkp, hgp, hrp⟩
    have kpn : kp < n1 := by omega
    have DP := Lib.hid (lw6_grown HDd.out hgp)
    have RP := Lib.hid hrp
    have hS3 := lw6_cells DP.out
    clear hgp hrp
    refine hK.out _ _ (.inr hS3) ?_
    clear hK K
    try simp only [Act.put, List.setIfInBounds_toArray, List.set_cons_zero, List.set_cons_succ]
    refine held_one (i := 8) (o := { dst := some 40, op := Op.call { callee := Callee.value (Operand.func 137), args := #[Operand.tmp 39], argTypes := #[94] }, type := 38, pos := "l6_lanes.go:227", after := #[{ on := 7, ground := Ground.data }, { on := 6, ground := Ground.chain }], guard := none }) (by kernel_rfl) rfl (fun K hK => ?_)
    go_simp
    go_at_call 137
    refine (l5Draw_any g _ _ RP.out (by omega)).mono ?_
    rintro e wn ⟨x9, A9, n9, c9, fs9, rfl, -, hf9, hgn, hrn⟩
    have DN := Lib.hid (lw6_grown DP.out hgn)
    have R9 := Lib.hid (lw6_robin (k := kp) (q := x9) (c1 := c9) DP.out hgn hf9 hn4)
    have RN := Lib.hid hrn
    have hS5 := lw6_cells DN.out
    obtain ⟨b9, o9, h9, ea9, -, -, dn0, dn1⟩ := hq_at (hq_own DN.out.lo.r.row) kpn
    obtain ⟨rfl, rfl⟩ : gA = b9 ∧ 0 = o9 := by injection ea9 with ea9; injection ea9 with a b; exact ⟨a, b⟩
    rw [Nat.zero_add] at dn0 dn1
    have dnf0 := World.ownsRow.frozenAt DN.out.lo.r.row (kp * 2)
    have dnf1 := World.ownsRow.frozenAt DN.out.lo.r.row (kp * 2 + 1)
    have kk0 : (0 : Int) ≤ (kp : Int) := by omega
    have kk1 : (kp : Int) < (n1 : Int) := by omega
    clear hf9 hgn hrn ea9
    refine hK.out _ _ (.inr hS5) ?_
    clear hK K
    try simp only [Act.put, List.setIfInBounds_toArray, List.set_cons_zero, List.set_cons_succ]
    refine held_one (i := 9) (o := { dst := some 41, op := Op.indexAddr 23 (Operand.tmp 33) (Operand.tmp 38), type := 0, pos := "l6_lanes.go:227", after := #[{ on := 1, ground := Ground.data }, { on := 6, ground := Ground.data }, { on := 0, ground := Ground.phase }, { on := 1, ground := Ground.phase }, { on := 2, ground := Ground.phase }, { on := 3, ground := Ground.phase }, { on := 4, ground := Ground.phase }, { on := 5, ground := Ground.phase }, { on := 6, ground := Ground.phase }, { on := 7, ground := Ground.phase }, { on := 8, ground := Ground.phase }], guard := none }) (by kernel_rfl) rfl (fun K hK => ?_)
    go_simp
    refine hK.out _ _ (.inr hS5) ?_
    clear hK K
    try simp only [Act.put, List.setIfInBounds_toArray, List.set_cons_zero, List.set_cons_succ]
    refine held_one (i := 10) (o := { dst := none, op := Op.store 38 (Operand.tmp 41) (Operand.tmp 40), type := 0, pos := "l6_lanes.go:227", after := #[{ on := 9, ground := Ground.data }, { on := 8, ground := Ground.data }, { on := 8, ground := Ground.chain }, { on := 0, ground := Ground.phase }, { on := 1, ground := Ground.phase }, { on := 2, ground := Ground.phase }, { on := 3, ground := Ground.phase }, { on := 4, ground := Ground.phase }, { on := 5, ground := Ground.phase }, { on := 6, ground := Ground.phase }, { on := 7, ground := Ground.phase }, { on := 8, ground := Ground.phase }], guard := none }) (by kernel_rfl) rfl (fun K hK => ?_)
    go_simp
    refine hK.out _ _ (.inl rfl) ?_
    clear hK K
    try simp only [Act.put, List.setIfInBounds_toArray, List.set_cons_zero, List.set_cons_succ]
    refine held_done (by kernel_rfl) ?_ _
    have zx := (DN.out.lo.r.row.lt gA rfl).1
    have zn : gA ≠ w1.heap.size := fun e => DN.out.sL.1.1 (by rw [e]; rfl)
    have LBE := Lib.hid (blk_far (p := ⟨gA, kp * 2 + 1, none⟩) (blk_far (p := ⟨gA, kp * 2, none⟩) DN.out.lb (fun e => zn e.symm) (.int .i64 x9)) (fun e => zn e.symm) (.slice A9 n9 c9))
    have OE := Lib.hid (blk_far (p := ⟨gA, kp * 2 + 1, none⟩) (blk_far (p := ⟨gA, kp * 2, none⟩) DN.out.out (by show w.heap.size + 1 ≠ gA; omega) (.int .i64 x9)) (by show w.heap.size + 1 ≠ gA; omega) (.slice A9 n9 c9))
    obtain ⟨⟨l0, l1, l2⟩, -⟩ := blk_three LBE.out
    obtain ⟨⟨o0, o1, o2⟩, f0', f1', f2'⟩ := blk_three OE.out
    have yl := blk_lt LBE.out
    have yo := blk_lt OE.out
    clear hS0
    go_wp2
    refine bodyPost_ret (v := .agg #[.slice (some ⟨gA, 0, none⟩) n1 c, .slice B 4 d, .slice C 4 f]) (by simp [results, Try.results63, go_sem, o0, o1, o2]) rfl ⟨_, _, _, _, _, _, _, ⟨l.rs.set kp ⟨x9, fs9⟩, l.ws, l.cs⟩, rfl, hn3, hn4, ?_⟩
    have E := lw6_end R9.out.1 R9.out.2 (rd_set (p := ⟨gA, kp * 2 + 1, none⟩) (rd_set (p := ⟨gA, kp * 2, none⟩) RN.out (by show g < gA; omega) _) (by show g < gA; omega) _) hg (.slice (some ⟨gA, 0, none⟩) n1 c) (.slice B 4 d) (.slice C 4 f)
    exact ⟨E.1, E.2.1, rd_more E.2.2 (by omega)⟩
  have e2 : ((k : Int) == 2) = false := by simp; omega
  by_cases hk3 : k = 3
  · subst hk3
    obtain ⟨A', c', hv, hcn, -, -⟩ := own_form HD2.out.lo.r.row
    obtain rfl : c = c' := by injection hv
    have hc3 : (3 : Int) ≤ (c : Int) := by omega
    have hc3n : 3 ≤ c := by omega
    have L := Lib.hid (lw6_lrx HD2.out hn4)
    clear hv hcn
    go_wp2
    refine bodyPost_ret (v := .agg #[.slice A 3 c, .slice B 4 d, .slice C 4 f]) (by simp [results, Try.results63, go_sem, o0, o1, o2]) rfl ⟨A, 3, c, B, d, C, f, ⟨l.rs.take 3, l.ws, l.cs⟩, rfl, by omega, by omega, ?_⟩
    have X := lrx_set (p := ⟨w1.heap.size, 0, none⟩) (lrx_no HD2.out L.out) (fun hb => hb.2 rfl) (.slice A 3 c)
    have X2 : LRX (w2.setCell ⟨w1.heap.size, 0, none⟩ (.slice A 3 c)) (fun b => w.heap.size + 2 ≤ b) A 3 B 4 C 4 ⟨l.rs.take 3, l.ws, l.cs⟩ := ⟨rrx_mono (rrx_take X.r hn3) fun b hb => hb.1, nrx_mono X.wt fun b hb => hb.1, nrx_mono X.cr fun b hb => hb.1, X.mb, X.kb⟩
    have E := lw6_end X2 (g_set HD2.out.gr (.inr (by simp; omega)) _) (rd_set hr2'.out (by simp; omega) _) hg (.slice A 3 c) (.slice B 4 d) (.slice C 4 f)
    exact ⟨E.1, E.2.1, rd_more E.2.2 (by omega)⟩
  have e3 : ((k : Int) == 3) = false := by simp; omega
  have L := Lib.hid (lw6_lrx HD2.out hn4)
  clear hk3 hk2 hk1 hk0
  go_wp2
  refine bodyPost_ret (v := .agg #[.slice A n1 c, .slice B 4 d, .slice C 4 f]) (by simp [results, Try.results63, go_sem, o0, o1, o2]) rfl ⟨A, n1, c, B, d, C, f, l, rfl, hn3, hn4, ?_⟩
  have E := lw6_end L.out HD2.out.gr hr2'.out hg (.slice A n1 c) (.slice B 4 d) (.slice C 4 f)
  exact ⟨E.1, E.2.1, rd_more E.2.2 (by omega)⟩
end Go.Proofs.Ytkmoiphcpmhacab
namespace Go.Proofs.Ytkmoiphcpmhacab
open Go.RowKit

def DrawnL (w : World) (e : Ending) (w' : World) : Prop :=
  ∃ A n c B d C f l, e = .returned (.agg #[.slice A n c, .slice B 4 d, .slice C 4 f]) ∧ LR w' A n B 4 C 4 l ∧ Below w.heap.size w w'
def DrawnLi (w : World) (e : Ending) (w' : World) : Prop :=
  ∃ A n c B d C f l, ∃ k : Int, e = .returned (.tuple #[.agg #[.slice A n c, .slice B 4 d, .slice C 4 f], .int .i64 k]) ∧ (-1 ≤ k ∧ k ≤ 100) ∧ LR w' A n B 4 C 4 l ∧ Below w.heap.size w w'
def DrawnLp (w : World) (e : Ending) (w' : World) : Prop :=
  ∃ A n c B d C f l, ∃ p : Pkt, e = .returned (.tuple #[.agg #[.slice A n c, .slice B 4 d, .slice C 4 f], .agg #[.int .i64 p.peer, .int .i64 p.lane, .int .i64 p.size, .int .i64 p.id]]) ∧ LR w' A n B 4 C 4 l ∧ Below w.heap.size w w'
def DrawnLL (w : World) (e : Ending) (w' : World) : Prop :=
  ∃ A n c B d C f l, ∃ A2 n2 c2 B2 d2 C2 f2 l2, e = .returned (.tuple #[.agg #[.slice A n c, .slice B 4 d, .slice C 4 f], .agg #[.slice A2 n2 c2, .slice B2 4 d2, .slice C2 4 f2]]) ∧ LR w' A n B 4 C 4 l ∧ LR w' A2 n2 B2 4 C2 4 l2 ∧ Below w.heap.size w w'
def DrawnQ (w : World) (e : Ending) (w' : World) : Prop :=
  ∃ q : Int, ∃ A n c us, e = .returned (.tuple #[.int .i64 q, .slice A n c]) ∧ 3 ≤ n ∧ n ≤ 4 ∧ NR w' A n us ∧ Below w.heap.size w w'
/-- drawn lanes, with the blocks in which they lie -/
def DrawnX (w : World) (e : Ending) (w' : World) : Prop :=
  ∃ A n c B d C f l, e = .returned (.agg #[.slice A n c, .slice B 4 d, .slice C 4 f]) ∧ LaX w' (fun b => w.heap.size ≤ b ∧ b < w'.heap.size) A n B 4 C 4 l ∧ Below w.heap.size w w'
theorem lax_lt {w : World} {X : Nat → Prop} {A B C : Option Addr} {n m k : Nat} {l : Ln} (h : LaX w X A n B m C k l) : LaX w (fun b => X b ∧ b < w.heap.size) A n B m C k l := lax_mono h fun _ h1 h2 => ⟨h1, h2⟩
set_option maxRecDepth 100000 in
set_option maxHeartbeats 1000000 in
theorem l6Case_any (A : Option Addr) (n c : Nat) (w : World) (h : Bytes w A n c) :
    Calls Try.prog 74 #[.slice A n c] w (DrawnX w) := by
  go_enter Try.func74, Try.ntmps74
  go_wp2_with fail
  refine (open_any A n c _ (bytes_below h (below_alloc (Below.refl _ _) _))).mono ?_
  rintro e w1 ⟨g, rfl, hg, hb, hr⟩
  have O1 := Lib.hid (blk_below (blk_new w 26 #[.slice none 0 0, .slice none 0 0, .slice none 0 0]) hb (by simp))
  have W1 := Lib.hid (below_from (below_alloc (Below.refl w.heap.size w) (.cells #[.slice none 0 0, .slice none 0 0, .slice none 0 0] 26)) hb (by simp))
  have hz1 := hb.size
  simp at hz1 hg
  have HR1 := Lib.hid hr
  clear hb hr
  go_wp2_with fail
  refine (l6Draw_any g 0 _ HR1.out (by omega)).mono ?_
  rintro e w2 ⟨A2, c2, B2, d2, C2, f2, l2, rfl, hv2, hx2, hg2, hr2⟩
  have O2 := Lib.hid (blk_grown O1.out hg2 (by omega))
  have W2 := Lib.hid (below_grown W1.out (by omega) hg2 (by omega))
  have hz2 := hg2.size
  have HR2 := Lib.hid hr2
  have HX2 := Lib.hid hx2
  clear hv2 hx2 hg2 hr2 HR1 O1 W1
  go_wp2_with fail
  refine (l6Wrong_any g _ A2 4 c2 B2 d2 C2 f2 l2 _ HR2.out (by omega) (lax_lr HX2.out) (by omega) (by omega)).mono ?_
  rintro e w3 ⟨A3, n3, c3, B3, d3, C3, f3, l3, rfl, hn3, hm3, hx3, hg3, hr3⟩
  have O3 := Lib.hid (blk_grown O2.out hg3 (by omega))
  have W3 := Lib.hid (below_grown W2.out (by omega) hg3 (by omega))
  have hz3 := hg3.size
  have HR3 := Lib.hid hr3
  have HX3 := Lib.hid hx3
  clear hx3 hg3 hr3 HR2 O2 W2 HX2
  obtain ⟨⟨o0, o1, o2⟩, f0, f1', f2'⟩ := blk_three O3.out
  clear O3
  go_wp2
  refine bodyPost_ret (v := .agg #[.slice A3 n3 c3, .slice B3 4 d3, .slice C3 4 f3]) (by simp [results, Try.results74, go_sem, o0, o1, o2]) rfl ⟨A3, n3, c3, B3, d3, C3, f3, l3, rfl, ?_, ?_⟩
  · have X := lax_lt HX3.out
    have hn : ¬ (w2.heap.size ≤ w.heap.size ∧ w.heap.size < w3.heap.size) := by omega
    exact lax_mono (lax_set (lax_set (lax_set X (p := ⟨w.heap.size, 0, none⟩) hn _) (p := ⟨w.heap.size, 1, none⟩) hn _) (p := ⟨w.heap.size, 2, none⟩) hn _) fun b hb _ => ⟨by omega, by simp; omega⟩
  · exact Below.setCell (Below.setCell (Below.setCell W3.out (by simp) _) (by simp) _) (by simp) _
set_option maxRecDepth 100000 in
set_option maxHeartbeats 400000 in
theorem drawNextLane_any (A : Option Addr) (n c : Nat) (w : World) (h : Bytes w A n c) :
    Calls Try.prog 22 #[.slice A n c] w (DrawnL w) := by
  go_enter Try.func22, Try.ntmps22
  go_wp2_with fail
  refine (l6Case_any A n c _ (bytes_below h (below_alloc (Below.refl _ _) _))).mono ?_
  rintro e w1 ⟨A1, n1, c1, B1, d1, C1, f1, l1, rfl, hx1, hb⟩
  obtain ⟨⟨o0, o1, o2⟩, f0, f1', f2'⟩ := blk_three (blk_below (blk_new w 26 #[.slice none 0 0, .slice none 0 0, .slice none 0 0]) hb (by simp))
  have HX := Lib.hid hx1
  have BW := Lib.hid (below_from (below_alloc (Below.refl w.heap.size w) _) hb (by simp))
  clear hb hx1 h
  go_wp2
  refine bodyPost_ret (v := .agg #[.slice A1 n1 c1, .slice B1 4 d1, .slice C1 4 f1]) (by simp [results, Try.results22, go_sem, o0, o1, o2]) rfl ⟨A1, n1, c1, B1, d1, C1, f1, l1, rfl, ?_, ?_⟩
  · have hn : ¬ ((w.alloc (.cells #[.slice none 0 0, .slice none 0 0, .slice none 0 0] 26)).heap.size ≤ w.heap.size ∧ w.heap.size < w1.heap.size) := by simp; omega
    exact lax_lr (lax_set (lax_set (lax_set HX.out (p := ⟨w.heap.size, 0, none⟩) hn _) (p := ⟨w.heap.size, 1, none⟩) hn _) (p := ⟨w.heap.size, 2, none⟩) hn _)
  · exact Below.setCell (Below.setCell (Below.setCell BW.out (by simp) _) (by simp) _) (by simp) _
set_option maxRecDepth 100000 in
set_option maxHeartbeats 400000 in
theorem drawCountLanes_any (A : Option Addr) (n c : Nat) (w : World) (h : Bytes w A n c) :
    Calls Try.prog 33 #[.slice A n c] w (DrawnL w) := by
  go_enter Try.func33, Try.ntmps33
  go_wp2_with fail
  refine (l6Case_any A n c _ (bytes_below h (below_alloc (Below.refl _ _) _))).mono ?_
  rintro e w1 ⟨A1, n1, c1, B1, d1, C1, f1, l1, rfl, hx1, hb⟩
  obtain ⟨⟨o0, o1, o2⟩, f0, f1', f2'⟩ := blk_three (blk_below (blk_new w 26 #[.slice none 0 0, .slice none 0 0, .slice none 0 0]) hb (by simp))
  have HX := Lib.hid hx1
  have BW := Lib.hid (below_from (below_alloc (Below.refl w.heap.size w) _) hb (by simp))
  clear hb hx1 h
  go_wp2
  refine bodyPost_ret (v := .agg #[.slice A1 n1 c1, .slice B1 4 d1, .slice C1 4 f1]) (by simp [results, Try.results33, go_sem, o0, o1, o2]) rfl ⟨A1, n1, c1, B1, d1, C1, f1, l1, rfl, ?_, ?_⟩
  · have hn : ¬ ((w.alloc (.cells #[.slice none 0 0, .slice none 0 0, .slice none 0 0] 26)).heap.size ≤ w.heap.size ∧ w.heap.size < w1.heap.size) := by simp; omega
    exact lax_lr (lax_set (lax_set (lax_set HX.out (p := ⟨w.heap.size, 0, none⟩) hn _) (p := ⟨w.heap.size, 1, none⟩) hn _) (p := ⟨w.heap.size, 2, none⟩) hn _)
  · exact Below.setCell (Below.setCell (Below.setCell BW.out (by simp) _) (by simp) _) (by simp) _
set_option maxRecDepth 100000 in
set_option maxHeartbeats 400000 in
theorem drawLanesValid_any (A : Option Addr) (n c : Nat) (w : World) (h : Bytes w A n c) :
    Calls Try.prog 20 #[.slice A n c] w (DrawnL w) := by
  go_enter Try.func20, Try.ntmps20
  go_wp2_with fail
  refine (l6Case_any A n c _ (bytes_below h (below_alloc (Below.refl _ _) _))).mono ?_
  rintro e w1 ⟨A1, n1, c1, B1, d1, C1, f1, l1, rfl, hx1, hb⟩
  obtain ⟨⟨o0, o1, o2⟩, f0, f1', f2'⟩ := blk_three (blk_below (blk_new w 26 #[.slice none 0 0, .slice none 0 0, .slice none 0 0]) hb (by simp))
  have HX := Lib.hid hx1
  have BW := Lib.hid (below_from (below_alloc (Below.refl w.heap.size w) _) hb (by simp))
  clear hb hx1 h
  go_wp2
  refine bodyPost_ret (v := .agg #[.slice A1 n1 c1, .slice B1 4 d1, .slice C1 4 f1]) (by simp [results, Try.results20, go_sem, o0, o1, o2]) rfl ⟨A1, n1, c1, B1, d1, C1, f1, l1, rfl, ?_, ?_⟩
  · have hn : ¬ ((w.alloc (.cells #[.slice none 0 0, .slice none 0 0, .slice none 0 0] 26)).heap.size ≤ w.heap.size ∧ w.heap.size < w1.heap.size) := by simp; omega
    exact lax_lr (lax_set (lax_set (lax_set HX.out (p := ⟨w.heap.size, 0, none⟩) hn _) (p := ⟨w.heap.size, 1, none⟩) hn _) (p := ⟨w.heap.size, 2, none⟩) hn _)
  · exact Below.setCell (Below.setCell (Below.setCell BW.out (by simp) _) (by simp) _) (by simp) _
set_option maxRecDepth 100000 in
set_option maxHeartbeats 2000000 in
theorem drawJoinLanes_any (A : Option Addr) (n c : Nat) (w : World) (h : Bytes w A n c) :
    Calls Try.prog 26 #[.slice A n c] w (DrawnLp w) := by
  go_enter Try.func26, Try.ntmps26
  go_wp2_with fail
  refine (open_any A n c _ (bytes_below h (below_alloc (below_alloc (Below.refl _ _) _) _))).mono ?_
  rintro e w1 ⟨g, rfl, hg, hb, hr⟩
  have O1 := Lib.hid (blk_below (show Blk ((w.alloc (.cells #[.slice none 0 0, .slice none 0 0, .slice none 0 0] 26)).alloc (.cells #[.int .i64 0, .int .i64 0, .int .i64 0, .int .i64 0] 40)) w.heap.size 26 #[.slice none 0 0, .slice none 0 0, .slice none 0 0] from blk_alloc (blk_new w _ _) _) hb (by simp <;> omega))
  have P1 := Lib.hid (blk_below (blk_new2 w (.cells #[.slice none 0 0, .slice none 0 0, .slice none 0 0] 26) 40 #[.int .i64 0, .int .i64 0, .int .i64 0, .int .i64 0]) hb (by simp))
  have W1 := Lib.hid (below_from (below_alloc (below_alloc (Below.refl w.heap.size w) (.cells #[.slice none 0 0, .slice none 0 0, .slice none 0 0] 26)) (.cells #[.int .i64 0, .int .i64 0, .int .i64 0, .int .i64 0] 40)) hb (by simp <;> omega))
  have hz1 := hb.size
  simp at hz1 hg
  have HR1 := Lib.hid hr
  have gl := rd_lt hr
  clear hb hr
  go_wp2_with fail
  refine (l6Draw_any g 0 _ HR1.out (by omega)).mono ?_
  rintro e w2 ⟨A2, c2, B2, d2, C2, f2, l2, rfl, hv2, hx2, hg2, hr2⟩
  have O2 := Lib.hid (blk_grown O1.out hg2 (by omega))
  have P2 := Lib.hid (blk_grown P1.out hg2 (by omega))
  have W2 := Lib.hid (below_grown W1.out (by omega) hg2 (by omega))
  have hz2 := hg2.size
  have HR2 := Lib.hid hr2
  have HX2 := Lib.hid hx2
  clear hv2 hx2 hg2 hr2 HR1 O1 W1 P1
  go_wp2_with fail
  refine (l6Wrong_any g _ A2 4 c2 B2 d2 C2 f2 l2 _ HR2.out (by omega) (lax_lr HX2.out) (by omega) (by omega)).mono ?_
  rintro e w3 ⟨A3, n3, c3, B3, d3, C3, f3, l3, rfl, hn3, hm3, hx3, hg3, hr3⟩
  have O3 := Lib.hid (blk_grown O2.out hg3 (by omega))
  have P3 := Lib.hid (blk_grown P2.out hg3 (by omega))
  have W3 := Lib.hid (below_grown W2.out (by omega) hg3 (by omega))
  have hz3 := hg3.size
  have HR3 := Lib.hid hr3
  have HX3 := Lib.hid hx3
  clear hx3 hg3 hr3 HR2 O2 W2 P2 HX2
  go_wp2_with fail
  refine (l1Draw_any g _ _ HR3.out (by omega)).mono ?_
  rintro e w4 ⟨p4, rfl, -, hg4, hr4⟩
  have O4 := Lib.hid (blk_grown O3.out hg4 (by omega))
  have P4 := Lib.hid (blk_grown P3.out hg4 (by omega))
  have W4 := Lib.hid (below_grown W3.out (by omega) hg4 (by omega))
  have HX4 := Lib.hid (lax_grown (lax_lt HX3.out) hg4 fun b hb e => by injection e with e; have := hb.1; omega)
  have hz4 := hg4.size
  have HR4 := Lib.hid hr4
  clear hg4 hr4 HR3 O3 W3 P3 HX3
  go_wp2_with fail
  refine (l1Wrong_any g _ p4 _ HR4.out (by omega)).mono ?_
  rintro e w5 ⟨p5, rfl, -, hg5, hr5⟩
  have O5 := Lib.hid (blk_grown O4.out hg5 (by omega))
  have P5 := Lib.hid (blk_grown P4.out hg5 (by omega))
  have W5 := Lib.hid (below_grown W4.out (by omega) hg5 (by omega))
  have HX5 := Lib.hid (lax_grown HX4.out hg5 fun b hb e => by injection e with e; have := hb.1; omega)
  have hz5 := hg5.size
  clear hg5 hr5 HR4 O4 W4 P4 HX4
  obtain ⟨⟨o0, o1, o2⟩, f0, f1', f2'⟩ := blk_three O5.out
  obtain ⟨⟨k0, k1, k2, k3⟩, kf0, kf1, kf2, kf3⟩ := blk_fourR P5.out
  have zo := blk_lt O5.out
  have zp := blk_lt P5.out
  go_wp2
  refine bodyPost_ret (v := .tuple #[.agg #[.slice A3 n3 c3, .slice B3 4 d3, .slice C3 4 f3], .agg #[.int .i64 p5.peer, .int .i64 p5.lane, .int .i64 p5.size, .int .i64 p5.id]]) (by simp [results, Try.results26, go_sem, o0, o1, o2, k0, k1, k2, k3]) rfl ⟨A3, n3, c3, B3, d3, C3, f3, l3, p5, rfl, ?_, ?_⟩
  · refine lax_lr (X := fun b => w2.heap.size ≤ b ∧ b < w3.heap.size) ?_
    iterate 7 (with_reducible refine lax_set ?_ (by simp <;> omega) _)
    exact HX5.out
  · iterate 7 (with_reducible refine Below.setCell ?_ (by simp <;> omega) _)
    exact W5.out
set_option maxRecDepth 100000 in
set_option maxHeartbeats 4000000 in
theorem drawNewLanes_any (A : Option Addr) (n c : Nat) (w : World) (h : Bytes w A n c) :
    Calls Try.prog 30 #[.slice A n c] w (DrawnQ w) := by
  go_enter Try.func30, Try.ntmps30
  go_wp2_with fail
  refine (open_any A n c _ h).mono ?_
  rintro e w1 ⟨g, rfl, hg, hb, hr⟩
  have W1 := Lib.hid hb
  have HR1 := Lib.hid hr
  have hz1 := hb.size
  clear hb hr h
  go_wp2_with fail
  refine (l6Numbers_any g 0 _ HR1.out (by omega)).mono ?_
  rintro e w2 ⟨A2, c2, us, rfl, hu4, -, ho2, hg2, hr2⟩
  obtain ⟨b2, c2', hv, hb2, hb3⟩ := ho2.form (by omega)
  obtain ⟨rfl, rfl⟩ : A2 = some ⟨b2, 0, none⟩ ∧ c2 = c2' := by injection hv with a1 a2 a3; exact ⟨a1, a3⟩
  have hc4 : 4 ≤ c2 := by
    obtain ⟨A', c', hv', h1, -, -⟩ := own_form ho2
    have : c2 = c' := by injection hv'
    omega
  have hz2 := hg2.size
  have gl := rd_lt HR1.out
  have W2 := Lib.hid (below_grown W1.out (by omega) hg2 (by omega))
  have O2 := Lib.hid ho2
  have HR2 := Lib.hid hr2
  clear ho2 hg2 hr2 HR1 W1 hv hu4
  go_wp2_with fail
  refine (pick_any g _ 12 _ HR2.out (by omega) (by omega)).mono ?_
  rintro e w3 ⟨k, rfl, hk, hg3, hr3⟩
  have O3 := Lib.hid (O2.out.kept hg3 (own_block_none O2.out (by omega)))
  have W3 := Lib.hid (below_grown W2.out (by omega) hg3 (by omega))
  have hz3 := hg3.size
  have HR3 := Lib.hid hr3
  clear hg3 hr3 HR2 O2 W2
  by_cases hk0 : k = 0
  · subst hk0
    have hc3 : (3 : Int) ≤ (c2 : Int) := by omega
    have hc3n : 3 ≤ c2 := by omega
    have N3 := Lib.hid (nr_take (nr_own O3.out) (k := 3) (by omega))
    go_wp2_with fail
    refine (num_lit g _ _ 5 _ _ [50, 1, 500, 0, 501] _ HR3.out (by omega) (by simp) (by decide) rfl).mono ?_
    rintro e w4 ⟨x, hx, rfl, hg4, hr4⟩
    have N4 := Lib.hid (nr_grown N3.out hg4 fun _ b e e2 => by injection e2 with e2; simp at e; omega)
    have W4 := Lib.hid (below_grown W3.out (by omega) hg4 (by omega))
    clear hx hg4 hr4
    go_wp2
    go_ret2
    exact ⟨x, _, 3, c2, us.take 3, rfl, by omega, by omega, N4.out, W4.out⟩
  have e0 : ((k : Int) == 0) = false := by simp; omega
  by_cases hk1 : k = 1
  · subst hk1
    go_wp2_with fail
    refine (pick_any g _ 4 _ HR3.out (by omega) (by omega)).mono ?_
    rintro e w4 ⟨kp, rfl, hkp, hg4, hr4⟩
    have kp4 : kp < 4 := by omega
    have O4 := Lib.hid (O3.out.kept hg4 (own_block_none O3.out (by omega)))
    have W4 := Lib.hid (below_grown W3.out (by omega) hg4 (by omega))
    have HR4 := Lib.hid hr4
    have hz4 := hg4.size
    clear hg4 hr4 HR3 O3 W3
    go_wp2_with fail
    refine (num_lit g _ _ 2 _ _ [0, 10] _ HR4.out (by omega) (by simp) (by decide) rfl).mono ?_
    rintro e w5 ⟨bn, hbn, rfl, hg5, hr5⟩
    have O5 := Lib.hid (O4.out.kept hg5 (own_block_none O4.out (by omega)))
    have W5 := Lib.hid (below_grown W4.out (by omega) hg5 (by omega))
    have HR5 := Lib.hid hr5
    have hz5 := hg5.size
    obtain ⟨b', off', yv, e1', hb', hy, dn0⟩ := nr_at (nr_own O5.out) kp4
    obtain ⟨rfl, rfl⟩ : b2 = b' ∧ 0 = off' := by injection e1' with e1'; injection e1' with a b; exact ⟨a, b⟩
    rw [Nat.zero_add] at dn0
    have dnf := World.ownsRow.frozenAt O5.out kp
    have kk0 : (0 : Int) ≤ (kp : Int) := by omega
    have kk1 : (kp : Int) < (4 : Int) := by omega
    have O6 := Lib.hid (own_set_int O5.out kp bn)
    have W6 := Lib.hid (Below.setCell (p := ⟨b2, kp, none⟩) W5.out (by show w.heap.size ≤ b2; omega) (.int .i64 bn))
    have HR6 := Lib.hid (rd_set (p := ⟨b2, kp, none⟩) HR5.out (by show g < b2; omega) (.int .i64 bn))
    clear hbn hg5 hr5 e1' hy hb' HR4 O4 W4
    go_wp2_with fail
    refine (num_lit g _ _ 5 _ _ [50, 1, 500, 0, 501] _ HR6.out (by omega) (by simp) (by decide) rfl).mono ?_
    rintro e w7 ⟨x, hx, rfl, hg7, hr7⟩
    have O7 := Lib.hid (O6.out.kept hg7 (own_block_none O6.out (by omega)))
    have W7 := Lib.hid (below_grown W6.out (by simp; omega) hg7 (by omega))
    clear hx hg7 hr7
    go_wp2
    go_ret2
    exact ⟨x, _, 4, c2, _, rfl, by omega, by omega, nr_own O7.out, W7.out⟩
  have e1 : ((k : Int) == 1) = false := by simp; omega
  clear hk0 hk1
  go_wp2_with fail
  refine (num_lit g _ _ 5 _ _ [50, 1, 500, 0, 501] _ HR3.out (by omega) (by simp) (by decide) rfl).mono ?_
  rintro e w4 ⟨x, hx, rfl, hg4, hr4⟩
  have O4 := Lib.hid (O3.out.kept hg4 (own_block_none O3.out (by omega)))
  have W4 := Lib.hid (below_grown W3.out (by omega) hg4 (by omega))
  clear hx hg4 hr4
  go_wp2
  go_ret2
  exact ⟨x, _, 4, c2, us, rfl, by omega, by omega, nr_own O4.out, W4.out⟩
end Go.Proofs.Ytkmoiphcpmhacab
