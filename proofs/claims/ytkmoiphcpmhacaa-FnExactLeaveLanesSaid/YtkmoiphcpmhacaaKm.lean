/-
  Chapter 6: copies of lanes: what the model's function returns. Conditions: lanes have at most 4000000000 robins, weights and credits.
  Conditions: each lemma says them.
-/
import Derived.Test.YtkmoiphcpmhacaaKl
import Derived.Test.YtkmoiphcpmhacaaKd
import Derived.Deep.CutBlock
namespace Go.Proofs.Ytkmoiphcpmhacaa
open Go.RowKit

section
variable {P : Program} {ops : Array Oper} {Q : Exit → Act → World → Prop} {md : Region.Mode} {S : World → Prop} {L : Nat}
/-- one of three operations may come up -/
theorem held_three {i j k : Nat} {oi oj ok : Oper} {n : Nat} {ls : Array Bool} {a : Act} {w : World} (hr : Region.ready md ops ls = [i, j, k]) (hi : ops[i]? = some oi) (hj : ops[j]? = some oj) (hk : ops[k]? = some ok)
    (h1 : ∀ K : Act → World → Prop, Shut (∀ a2 w2, (i = L ∨ S w2) → HeldTo P md ops Q S L n (ls.setIfInBounds i true) a2 w2 → K a2 w2) → if Region.wanted oi (yielded ops a.tmps) = true then Oper.wp P oi a w K Q else K (a.put oi.dst undef) w)
    (h2 : ∀ K : Act → World → Prop, Shut (∀ a2 w2, (j = L ∨ S w2) → HeldTo P md ops Q S L n (ls.setIfInBounds j true) a2 w2 → K a2 w2) → if Region.wanted oj (yielded ops a.tmps) = true then Oper.wp P oj a w K Q else K (a.put oj.dst undef) w)
    (h3 : ∀ K : Act → World → Prop, Shut (∀ a2 w2, (k = L ∨ S w2) → HeldTo P md ops Q S L n (ls.setIfInBounds k true) a2 w2 → K a2 w2) → if Region.wanted ok (yielded ops a.tmps) = true then Oper.wp P ok a w K Q else K (a.put ok.dst undef) w) :
    HeldTo P md ops Q S L (n + 1) ls a w :=
  ⟨fun e => (by rw [hr] at e; cases e), fun x hx => by
    rw [hr] at hx
    rcases List.mem_cons.1 hx with rfl | hx
    · exact wpOp_step hi fun K hK => h1 K fun a2 w2 h3 h4 => hK a2 w2 ⟨h3, h4⟩
    · rcases List.mem_cons.1 hx with rfl | hx
      · exact wpOp_step hj fun K hK => h2 K fun a2 w2 h3 h4 => hK a2 w2 ⟨h3, h4⟩
      · obtain rfl : x = k := by simpa using hx
        exact wpOp_step hk fun K hK => h3 K fun a2 w2 h3 h4 => hK a2 w2 ⟨h3, h4⟩⟩
end
/-- two rows of numbers and a box, as far as they are made -/
structure C1 (w0 W : World) (v1 : Value) (n1 : Nat) (xs1 : List Int) (v2 : Value) (n2 : Nat) (xs2 : List Int) (L : Option Nat) : Prop where
  below : Below w0.heap.size w0 W
  o1 : W.ownsRow w0.heap.size 3 1 v1 n1 (icells xs1)
  o2 : W.ownsRow w0.heap.size 3 1 v2 n2 (icells xs2)
  l : ∀ b, L = some b → w0.heap.size ≤ b ∧ Blk W b 26 #[.slice none 0 0, .slice none 0 0, .slice none 0 0]
  d12 : ∀ b, v1.ownBlock = some b → v2.ownBlock ≠ some b
  d1 : ∀ b, L = some b → v1.ownBlock ≠ some b
  d2 : ∀ b, L = some b → v2.ownBlock ≠ some b
section
variable {w0 W W' : World} {v1 v2 : Value} {n1 n2 : Nat} {xs1 xs2 : List Int} {L : Option Nat}
theorem c1_start (w0 : World) : C1 w0 w0 (.slice none 0 0) 0 [] (.slice none 0 0) 0 [] none :=
  ⟨Below.refl _ _, World.ownsRow_nil _ _ _ _, World.ownsRow_nil _ _ _ _, fun b e => (by cases e), fun b e => (by cases e), fun b e => (by cases e), fun b e => (by cases e)⟩
theorem c1_swap (h : C1 w0 W v1 n1 xs1 v2 n2 xs2 L) : C1 w0 W v2 n2 xs2 v1 n1 xs1 L := ⟨h.below, h.o2, h.o1, h.l, fun b e e2 => h.d12 b e2 e, h.d2, h.d1⟩
theorem c1_bs1 (h : C1 w0 W (.slice none 0 0) 0 [] v2 n2 xs2 L) : C1 w0 (W.alloc (.cells #[] 3)) (.slice (some ⟨W.heap.size, 0, none⟩) 0 0) 0 [] v2 n2 xs2 L :=
  have hs := h.below.size
  ⟨below_alloc h.below _, own_mono (own_emptyI rfl) hs, h.o2.alloc _, fun b e => ⟨(h.l b e).1, blk_alloc (h.l b e).2 _⟩, fun b e e2 => (by
    obtain rfl : W.heap.size = b := Option.some.inj e
    have := (h.o2.lt _ e2).2; omega), fun b e e2 => (by
    obtain rfl : W.heap.size = b := Option.some.inj e2
    have := blk_lt (h.l _ e).2; omega), h.d2⟩
theorem c1_bs2 (h : C1 w0 W v1 n1 xs1 (.slice none 0 0) 0 [] L) : C1 w0 (W.alloc (.cells #[] 3)) v1 n1 xs1 (.slice (some ⟨W.heap.size, 0, none⟩) 0 0) 0 [] L := c1_swap (c1_bs1 (c1_swap h))
theorem c1_box (h : C1 w0 W v1 n1 xs1 v2 n2 xs2 none) : C1 w0 (W.alloc (.cells #[.slice none 0 0, .slice none 0 0, .slice none 0 0] 26)) v1 n1 xs1 v2 n2 xs2 (some W.heap.size) :=
  have hs := h.below.size
  ⟨below_alloc h.below _, h.o1.alloc _, h.o2.alloc _, fun b e => (by obtain rfl : W.heap.size = b := Option.some.inj e; exact ⟨hs, blk_new W _ _⟩), h.d12, fun b e e2 => (by
    obtain rfl : W.heap.size = b := Option.some.inj e
    have := (h.o1.lt _ e2).2; omega), fun b e e2 => (by
    obtain rfl : W.heap.size = b := Option.some.inj e
    have := (h.o2.lt _ e2).2; omega)⟩
theorem c1_app1 {v' : Value} {m : Nat} {ys : List Int} (h : C1 w0 W v1 n1 xs1 v2 n2 xs2 L) (ho : W'.ownsRow w0.heap.size 3 1 v' m (icells ys)) (hg : W.grownBy W' v1.ownBlock) (hat : v'.ownBlock = v1.ownBlock ∨ v'.ownBlock = some W.heap.size) : C1 w0 W' v' m ys v2 n2 xs2 L :=
  ⟨h.below.grown hg h.below.size fun k hk => (h.o1.lt k hk).1, ho, own_kept6 h.o2 hg fun b e => h.d12 b e, fun b e => ⟨(h.l b e).1, blk_grownQ (h.l b e).2 hg fun e2 => h.d1 b e e2.symm⟩, fun b e e2 => (by
    rcases hat with h1 | h1
    · exact h.d12 b (h1.symm.trans e) e2
    · obtain rfl : W.heap.size = b := Option.some.inj (h1.symm.trans e)
      have := (h.o2.lt _ e2).2; omega), fun b e e2 => (by
    rcases hat with h1 | h1
    · exact h.d1 b e (h1.symm.trans e2)
    · obtain rfl : W.heap.size = b := Option.some.inj (h1.symm.trans e2)
      have := blk_lt (h.l _ e).2; omega), h.d2⟩
theorem c1_app2 {v' : Value} {m : Nat} {ys : List Int} (h : C1 w0 W v1 n1 xs1 v2 n2 xs2 L) (ho : W'.ownsRow w0.heap.size 3 1 v' m (icells ys)) (hg : W.grownBy W' v2.ownBlock) (hat : v'.ownBlock = v2.ownBlock ∨ v'.ownBlock = some W.heap.size) : C1 w0 W' v1 n1 xs1 v' m ys L := c1_swap (c1_app1 (c1_swap h) ho hg hat)
end
/-- the copy as far as it goes -/
structure LS (w : World) (va : Array Value) (LB : Nat) (vA vB vC : Value) (k m o : Nat) (hs : List Rh) (iv : Nat → Nat × Nat) (l : Ln) (wr : World) : Prop where
  fm : Fm w [⟨w.heap.size, w.heap.size + 1, BoxP w.heap.size 26 va⟩, ⟨w.heap.size + 1, w.heap.size + 2, BoxP (w.heap.size + 1) 26 #[.slice none 0 0, .slice none 0 0, .slice none 0 0]⟩] wr
  out : Blk wr LB 26 #[vA, vB, vC]
  lo : LO wr (w.heap.size + 2) vA k vB m vC o hs iv l
  hi : ∀ j, (iv j).1 < (iv j).2 → w.heap.size + 2 ≤ (iv j).1
  hL : w.heap.size + 2 ≤ LB
  sa : Out6 vA iv LB
  sb : vB.ownBlock ≠ some LB
  sc : vC.ownBlock ≠ some LB
section
variable {w w1 w2 : World} {va : Array Value} {LB k m o : Nat} {vA vB vC : Value} {hs : List Rh} {iv : Nat → Nat × Nat} {l : Ln}
theorem ls_below (h : LS w va LB vA vB vC k m o hs iv l w1) (hb : Below w1.heap.size w1 w2) : LS w va LB vA vB vC k m o hs iv l w2 :=
  ⟨fm_below h.fm hb, blk_below h.out hb (blk_lt h.out), lo_below h.lo hb, h.hi, h.hL, h.sa, h.sb, h.sc⟩
theorem fm_outs {u : Nat} {g : Nat} {a b : Array Value} (h : Fm w [⟨w.heap.size, w.heap.size + 1, BoxP w.heap.size 26 a⟩, ⟨w.heap.size + 1, w.heap.size + 2, BoxP (w.heap.size + 1) 26 b⟩] w1) (hg : w.heap.size + 2 ≤ g) (x : Value) : Fm w [⟨w.heap.size, w.heap.size + 1, BoxP w.heap.size 26 a⟩, ⟨w.heap.size + 1, w.heap.size + 2, BoxP (w.heap.size + 1) 26 b⟩] (w1.setCell ⟨g, u, none⟩ x) :=
  fm_out h (fun y hy => by
    simp only [List.mem_cons, List.not_mem_nil, or_false] at hy
    rcases hy with rfl | rfl <;> (simp only; omega)) (by omega) _
theorem ls_snoc {w8 w7 : World} {vA' : Value} {s n6 c6 : Nat} {A6 : Option Addr} {fh : List Fh} {r : Rb} {rs : List Rb} {ws cs : List Int} (C : LS w va LB vA vB vC k m o hs iv ⟨rs.take k, ws, cs⟩ w1) (hb : Below w1.heap.size w1 w8) (D : DO w8 s (.slice A6 n6 c6) n6 fh r.fs) (hs' : w1.heap.size ≤ s) (hn : n6 ≤ 4000000000)
    (hr : w7.ownsRow (w.heap.size + 2) 37 2 vA' (k + 1) (rcells (hs ++ [⟨r.q, A6, n6, c6⟩]))) (hg : w8.grownBy w7 vA.ownBlock) (hat : vA'.ownBlock = vA.ownBlock ∨ vA'.ownBlock = some w8.heap.size) (hk : rs[k]? = some r) :
    LS w va LB vA' vB vC (k + 1) m o (hs ++ [⟨r.q, A6, n6, c6⟩]) (Up iv k (s, w8.heap.size)) ⟨rs.take (k + 1), ws, cs⟩ (w7.setCell ⟨LB, 0, none⟩ vA') := by
  have C8 := ls_below C hb
  have z8 := hb.size
  have zL := blk_lt C.out
  have zL2 := C.hL
  have zb : ∀ b, vB.ownBlock = some b → b < w1.heap.size := fun b e => (C.lo.b.lt b e).2
  have zc : ∀ b, vC.ownBlock = some b → b < w1.heap.size := fun b e => (C.lo.c.lt b e).2
  have za : ∀ b, vA.ownBlock = some b → w.heap.size + 2 ≤ b ∧ b < w1.heap.size := fun b e => C.lo.r.row.lt b e
  have hz := C.fm.below.size
  have hE : rs.take k ++ [r] = rs.take (k + 1) := by rw [List.take_add_one, hk]; rfl
  have key : ∀ b, b < w1.heap.size → Out6 vA iv b → Out6 vA' (Up iv k (s, w8.heap.size)) b := fun b hlt hO => by
    refine ⟨fun e => ?_, fun j => ?_⟩
    · rcases hat with h1 | h1
      · exact hO.1 (h1.symm.trans e)
      · have := Option.some.inj (h1.symm.trans e); omega
    · by_cases hj : j = k
      · subst hj; rw [up_self]; exact .inl (by simp only; omega)
      · rw [up_ne _ hj]; exact hO.2 j
  have DD := dr_snoc (r := r) C8.lo.r hr hg hat rfl hn (by have := C.hL; omega) (Nat.le_refl _) (dv_all D) (fun b e => .inl (by have := (za b e).2; omega)) (fun j _ => .inl (by have := C.lo.r.top j; omega))
  simp only [hE] at DD
  have LO7 : LO w7 (w.heap.size + 2) vA' (k + 1) vB m vC o (hs ++ [⟨r.q, A6, n6, c6⟩]) (Up iv k (s, w8.heap.size)) ⟨rs.take (k + 1), ws, cs⟩ :=
    ⟨dr_weak DD fun j hj => (by
      rcases Nat.lt_or_ge j k with h | h
      · exact .inr h
      · exact .inl (by omega)), own_kept6 C8.lo.b hg fun b e e2 => (C.lo.ab b e2).1 e, own_kept6 C8.lo.c hg fun b e e2 => (C.lo.ac b e2).1 e, fun b e => key b (zb b e) (C.lo.ab b e), fun b e => key b (zc b e) (C.lo.ac b e), C.lo.bc⟩
  have SA := key LB zL C.sa
  refine ⟨fm_outs (fm_grownO C8.fm hg fun b e => ⟨by have := (za b e).1; omega, fun x hx => ?_⟩) C.hL _, blk_set (blk_grownQ C8.out hg fun e => C.sa.1 e.symm) 0 _, lo_grown LO7 (g_set (g_refl w7 (some LB)) (.inl rfl) _) (fun b e => by obtain rfl := Option.some.inj e; exact ⟨SA, C.sb, C.sc⟩), up_lo C.hi (by omega), C.hL, SA, C.sb, C.sc⟩
  have := (za b e).1
  simp only [List.mem_cons, List.not_mem_nil, or_false] at hx
  rcases hx with rfl | rfl <;> (simp only; omega)
theorem ls_first {w0 W : World} {v1 v2 : Value} {ws cs : List Int} (h : C1 w0 W v1 m ws v2 o cs (some LB)) (hf : Fm w [⟨w.heap.size, w.heap.size + 1, BoxP w.heap.size 26 va⟩, ⟨w.heap.size + 1, w.heap.size + 2, BoxP (w.heap.size + 1) 26 #[.slice none 0 0, .slice none 0 0, .slice none 0 0]⟩] w0) (hz : w.heap.size + 2 ≤ w0.heap.size) :
    LS w va LB (.slice none 0 0) v1 v2 0 m o [] (fun _ => (0, 0)) ⟨[], ws, cs⟩ (((W.setCell ⟨LB, 0, none⟩ (.slice none 0 0)).setCell ⟨LB, 1, none⟩ v1).setCell ⟨LB, 2, none⟩ v2) := by
  obtain ⟨hL, hB⟩ := h.l LB rfl
  have hL2 : w.heap.size + 2 ≤ LB := by omega
  have hg : W.grownBy (((W.setCell ⟨LB, 0, none⟩ (.slice none 0 0)).setCell ⟨LB, 1, none⟩ v1).setCell ⟨LB, 2, none⟩ v2) (some LB) := g_set (g_set (g_set (g_refl W (some LB)) (.inl rfl) _) (.inl rfl) _) (.inl rfl) _
  have hO : ∀ b : Nat, Out6 (.slice none 0 0) (fun _ => (0, 0)) b := fun b => ⟨fun e => (by cases e), fun k => .inr (Nat.zero_le _)⟩
  exact ⟨fm_outs (fm_outs (fm_outs (fm_below hf h.below) hL2 _) hL2 _) hL2 _, blk_set (blk_set (blk_set hB 0 _) 1 _) 2 _, ⟨dr_nil _ _, own_mono (own_kept6 h.o1 hg fun b e => h.d1 b e) (by omega), own_mono (own_kept6 h.o2 hg fun b e => h.d2 b e) (by omega), fun b _ => hO b, fun b _ => hO b, h.d12⟩, fun j hj => absurd hj (by simp), hL2, hO LB, h.d1 LB rfl, h.d2 LB rfl⟩
end
def LcRel (w : World) (va : Array Value) (l : Ln) (LB : Nat) (B2 : Option Addr) (m d2 : Nat) (C2 : Option Addr) (o f2 n : Nat) (i : Value) (wr : World) : Prop :=
  ∃ k Ao co hs iv, k ≤ n ∧ i = .int .i64 (k : Int) ∧ LS w va LB (.slice Ao k co) (.slice B2 m d2) (.slice C2 o f2) k m o hs iv ⟨l.rs.take k, l.ws, l.cs⟩ wr
set_option maxRecDepth 100000 in
set_option maxHeartbeats 8000000 in
theorem copyLS_any (A : Option Addr) (n c : Nat) (B : Option Addr) (m d : Nat) (C : Option Addr) (o f : Nat) (l : Ln) (w : World) (h : LR w A n B m C o l) :
    Calls Try.prog 68 #[.agg #[.slice A n c, .slice B m d, .slice C o f]] w (LnPost w l) := by
  have H := Lib.hid h
  have HL := Lib.hid (lr_len h)
  have n4 : n ≤ 4000000000 := (rr_len h.r).2
  have m4 := h.mb
  have o4 := h.kb
  have F := Lib.hid (fm_two w 26 26 #[.slice A n c, .slice B m d, .slice C o f] #[.slice none 0 0, .slice none 0 0, .slice none 0 0])
  clear h
  go_enter Try.func68, Try.ntmps68
  go_upto_region 1 with fail
  obtain ⟨w1, hw1⟩ : ∃ w1, w1 = (w.alloc (.cells #[.slice A n c, .slice B m d, .slice C o f] 26)).alloc (.cells #[.slice none 0 0, .slice none 0 0, .slice none 0 0] 26) := ⟨_, rfl⟩
  rw [← hw1] at F ⊢
  have z1 : w1.heap.size = w.heap.size + 2 := by rw [hw1]; simp
  clear hw1
  go_cut [3] from 5 to 13 (fun s3 wx => ∃ LB B2 d2 C2 f2, s3 = .pointer (some ⟨LB, 0, none⟩) ∧ LS w #[.slice A n c, .slice B m d, .slice C o f] LB (.slice none 0 0) (.slice B2 m d2) (.slice C2 o f2) 0 m o [] (fun _ => (0, 0)) ⟨[], l.ws, l.cs⟩ wx)
  case first =>
    have FD := Lib.hid (fm_below F.out (Below.refl _ w1).drew)
    have zd : w.heap.size + 2 ≤ w1.drew.heap.size := by have : w1.drew.heap.size = w1.heap.size := rfl; omega
    have NB := Lib.hid (nr_below H.out.wt FD.out.below)
    have NC := Lib.hid (nr_below H.out.cr FD.out.below)
    have CS : Hid (∀ W, Below w1.drew.heap.size w1.drew W → W.cell? ⟨w.heap.size, 1, none⟩ = some (.slice B m d) ∧ W.cell? ⟨w.heap.size, 2, none⟩ = some (.slice C o f)) := Lib.hid fun W hb => by
      obtain ⟨⟨y0, y1, y2⟩, -⟩ := blk_three (fm_blk (fm_below FD.out hb) 0 rfl)
      exact ⟨y1, y2⟩
    have N0 := Lib.hid (c1_start w1.drew)
    have hS0 := CS.out _ (Below.refl _ _)
    refine held_start (S := (fun w' => w'.cell? ⟨w.heap.size, 1, none⟩ = some (.slice B m d) ∧ w'.cell? ⟨w.heap.size, 2, none⟩ = some (.slice C o f))) 10 (by kernel_rfl) ?_
    generalize w1.drew = w0 at FD zd NB NC CS N0 hS0 ⊢
    refine held_take (i := 1) (oi := { dst := some 6, op := Op.fieldAddr 26 (Operand.tmp 1) 1, type := 0, pos := "l6_lanes.go:80", after := #[], guard := none }) (v := ?_) rfl (by kernel_rfl) (by kernel_rfl) (by kernel_rfl) (by kernel_rfl) (fun _ _ _ h => h) (Or.inl ⟨by rfl, ?_⟩) hS0 ?_
    rotate_left
    · (intro w9 hSw; (try dsimp only at hSw); go_simp; try with_reducible rfl)
    try simp only [Act.put, List.setIfInBounds_toArray, List.set_cons_zero, List.set_cons_succ]
    refine held_take (i := 2) (oi := { dst := some 7, op := Op.load 24 (Operand.tmp 6), type := 24, pos := "l6_lanes.go:80", after := #[{ on := 1, ground := Ground.data }], guard := none }) (v := ?_) rfl (by kernel_rfl) (by kernel_rfl) (by kernel_rfl) (by kernel_rfl) (fun _ _ _ h => h) (Or.inl ⟨by rfl, ?_⟩) hS0 ?_
    rotate_left
    · (intro w9 hSw; (try dsimp only at hSw); go_simp; try with_reducible rfl)
    try simp only [Act.put, List.setIfInBounds_toArray, List.set_cons_zero, List.set_cons_succ]
    refine held_take (i := 5) (oi := { dst := some 10, op := Op.fieldAddr 26 (Operand.tmp 1) 2, type := 0, pos := "l6_lanes.go:80", after := #[], guard := none }) (v := ?_) rfl (by kernel_rfl) (by kernel_rfl) (by kernel_rfl) (by kernel_rfl) (fun _ _ _ h => h) (Or.inl ⟨by rfl, ?_⟩) hS0 ?_
    rotate_left
    · (intro w9 hSw; (try dsimp only at hSw); go_simp; try with_reducible rfl)
    try simp only [Act.put, List.setIfInBounds_toArray, List.set_cons_zero, List.set_cons_succ]
    refine held_take (i := 6) (oi := { dst := some 11, op := Op.load 24 (Operand.tmp 10), type := 24, pos := "l6_lanes.go:80", after := #[{ on := 5, ground := Ground.data }], guard := none }) (v := ?_) rfl (by kernel_rfl) (by kernel_rfl) (by kernel_rfl) (by kernel_rfl) (fun _ _ _ h => h) (Or.inl ⟨by rfl, ?_⟩) hS0 ?_
    rotate_left
    · (intro w9 hSw; (try dsimp only at hSw); go_simp; try with_reducible rfl)
    try simp only [Act.put, List.setIfInBounds_toArray, List.set_cons_zero, List.set_cons_succ]
    refine held_three (i := 0) (j := 4) (k := 9) (oi := { dst := some 5, op := Op.buildSlice 24 0 #[], type := 24, pos := "l6_lanes.go:80", after := #[], guard := none }) (oj := { dst := some 9, op := Op.buildSlice 24 0 #[], type := 24, pos := "l6_lanes.go:80", after := #[], guard := none }) (ok := { dst := some 3, op := Op.alloc 26, type := 0, pos := "l6_lanes.go:80", after := #[], guard := none }) (by kernel_rfl) rfl rfl rfl (fun K hK => ?_) (fun K hK => ?_) (fun K hK => ?_)
    · go_simp
      have N1 := Lib.hid (c1_bs1 N0.out)
      generalize w0.alloc (.cells #[] 3) = W1 at N1 ⊢
      have hS1 := CS.out W1 N1.out.below
      refine hK.out _ _ (.inr hS1) ?_
      clear hK K
      try simp only [Act.put, List.setIfInBounds_toArray, List.set_cons_zero, List.set_cons_succ]
      refine held_three (i := 3) (j := 4) (k := 9) (oi := { dst := some 8, op := Op.call { callee := Callee.builtin Builtin.append, args := #[Operand.tmp 5, Operand.tmp 7], argTypes := #[24, 24] }, type := 24, pos := "l6_lanes.go:80", after := #[{ on := 0, ground := Ground.data }, { on := 2, ground := Ground.data }], guard := none }) (oj := { dst := some 9, op := Op.buildSlice 24 0 #[], type := 24, pos := "l6_lanes.go:80", after := #[], guard := none }) (ok := { dst := some 3, op := Op.alloc 26, type := 0, pos := "l6_lanes.go:80", after := #[], guard := none }) (by kernel_rfl) rfl rfl rfl (fun K hK => ?_) (fun K hK => ?_) (fun K hK => ?_)
      · refine step_app_ints _ rfl (.tmp 5) (.tmp 7) rfl w0.heap.size _ 0 [] rfl N1.out.o1 B m d l.ws rfl (nr_below NB.out N1.out.below) (by omega) N1.out.below.size ?_
        intro v3 W2 ho hg hat
        simp only [List.nil_append, Nat.zero_add] at ho
        have N2 := Lib.hid (c1_app1 N1.out ho hg hat)
        obtain ⟨A3, c3, rfl, -, -, -⟩ := own_form ho
        clear ho hg hat
        have hS2 := CS.out W2 N2.out.below
        refine hK.out _ _ (.inr hS2) ?_
        clear hK K
        try simp only [Act.put, List.setIfInBounds_toArray, List.set_cons_zero, List.set_cons_succ]
        refine held_two (i := 4) (j := 9) (oi := { dst := some 9, op := Op.buildSlice 24 0 #[], type := 24, pos := "l6_lanes.go:80", after := #[], guard := none }) (oj := { dst := some 3, op := Op.alloc 26, type := 0, pos := "l6_lanes.go:80", after := #[], guard := none }) (by kernel_rfl) rfl rfl (fun K hK => ?_) (fun K hK => ?_)
        · go_simp
          have N3 := Lib.hid (c1_bs2 N2.out)
          generalize W2.alloc (.cells #[] 3) = W3 at N3 ⊢
          have hS3 := CS.out W3 N3.out.below
          refine hK.out _ _ (.inr hS3) ?_
          clear hK K
          try simp only [Act.put, List.setIfInBounds_toArray, List.set_cons_zero, List.set_cons_succ]
          refine held_two (i := 7) (j := 9) (oi := { dst := some 12, op := Op.call { callee := Callee.builtin Builtin.append, args := #[Operand.tmp 9, Operand.tmp 11], argTypes := #[24, 24] }, type := 24, pos := "l6_lanes.go:80", after := #[{ on := 4, ground := Ground.data }, { on := 6, ground := Ground.data }, { on := 3, ground := Ground.chain }], guard := none }) (oj := { dst := some 3, op := Op.alloc 26, type := 0, pos := "l6_lanes.go:80", after := #[], guard := none }) (by kernel_rfl) rfl rfl (fun K hK => ?_) (fun K hK => ?_)
          · refine step_app_ints _ rfl (.tmp 9) (.tmp 11) rfl w0.heap.size _ 0 [] rfl N3.out.o2 C o f l.cs rfl (nr_below NC.out N3.out.below) (by omega) N3.out.below.size ?_
            intro v7 W4 ho hg hat
            simp only [List.nil_append, Nat.zero_add] at ho
            have N4 := Lib.hid (c1_app2 N3.out ho hg hat)
            obtain ⟨A7, c7, rfl, -, -, -⟩ := own_form ho
            clear ho hg hat
            have hS4 := CS.out W4 N4.out.below
            refine hK.out _ _ (.inr hS4) ?_
            clear hK K
            try simp only [Act.put, List.setIfInBounds_toArray, List.set_cons_zero, List.set_cons_succ]
            refine held_take (i := 8) (oi := { dst := some 13, op := Op.build 26 #[(1, Operand.tmp 8), (2, Operand.tmp 12)], type := 26, pos := "l6_lanes.go:80", after := #[{ on := 3, ground := Ground.data }, { on := 7, ground := Ground.data }], guard := none }) (v := ?_) rfl (by kernel_rfl) (by kernel_rfl) (by kernel_rfl) (by kernel_rfl) (fun _ _ _ h => h) (Or.inl ⟨by rfl, ?_⟩) hS4 ?_
            rotate_left
            · (intro w9 hSw; (try dsimp only at hSw); go_simp; try with_reducible rfl)
            try simp only [Act.put, List.setIfInBounds_toArray, List.set_cons_zero, List.set_cons_succ]
            refine held_one (i := 9) (o := { dst := some 3, op := Op.alloc 26, type := 0, pos := "l6_lanes.go:80", after := #[], guard := none }) (by kernel_rfl) rfl (fun K hK => ?_)
            go_simp
            have N5 := Lib.hid (c1_box N4.out)
            generalize W4.alloc (.cells #[.slice none 0 0, .slice none 0 0, .slice none 0 0] 26) = W5 at N5 ⊢
            have hS5 := CS.out W5 N5.out.below
            refine hK.out _ _ (.inr hS5) ?_
            clear hK K
            try simp only [Act.put, List.setIfInBounds_toArray, List.set_cons_zero, List.set_cons_succ]
            refine held_one (i := 10) (o := { dst := none, op := Op.store 26 (Operand.tmp 3) (Operand.tmp 13), type := 0, pos := "l6_lanes.go:80", after := #[{ on := 9, ground := Ground.data }, { on := 8, ground := Ground.data }, { on := 7, ground := Ground.chain }, { on := 0, ground := Ground.phase }, { on := 1, ground := Ground.phase }, { on := 2, ground := Ground.phase }, { on := 3, ground := Ground.phase }, { on := 4, ground := Ground.phase }, { on := 5, ground := Ground.phase }, { on := 6, ground := Ground.phase }, { on := 7, ground := Ground.phase }, { on := 8, ground := Ground.phase }, { on := 9, ground := Ground.phase }], guard := none }) (by kernel_rfl) rfl (fun K hK => ?_)
            obtain ⟨⟨u0, u1, u2⟩, uf0, uf1, uf2⟩ := blk_three (N5.out.l _ rfl).2
            go_simp
            refine hK.out _ _ (.inl rfl) ?_
            clear hK K
            try simp only [Act.put, List.setIfInBounds_toArray, List.set_cons_zero, List.set_cons_succ]
            refine held_done (by kernel_rfl) ?_ _
            clear u0 u1 u2 uf0 uf1 uf2
            go_wp2_with fail
            go_meet
            exact ⟨_, _, _, _, _, rfl, ls_first N5.out FD.out zd⟩
          · go_simp
            have N4 := Lib.hid (c1_box N3.out)
            generalize W3.alloc (.cells #[.slice none 0 0, .slice none 0 0, .slice none 0 0] 26) = W4 at N4 ⊢
            have hS4 := CS.out W4 N4.out.below
            refine hK.out _ _ (.inr hS4) ?_
            clear hK K
            try simp only [Act.put, List.setIfInBounds_toArray, List.set_cons_zero, List.set_cons_succ]
            refine held_one (i := 7) (o := { dst := some 12, op := Op.call { callee := Callee.builtin Builtin.append, args := #[Operand.tmp 9, Operand.tmp 11], argTypes := #[24, 24] }, type := 24, pos := "l6_lanes.go:80", after := #[{ on := 4, ground := Ground.data }, { on := 6, ground := Ground.data }, { on := 3, ground := Ground.chain }], guard := none }) (by kernel_rfl) rfl (fun K hK => ?_)
            refine step_app_ints _ rfl (.tmp 9) (.tmp 11) rfl w0.heap.size _ 0 [] rfl N4.out.o2 C o f l.cs rfl (nr_below NC.out N4.out.below) (by omega) N4.out.below.size ?_
            intro v7 W5 ho hg hat
            simp only [List.nil_append, Nat.zero_add] at ho
            have N5 := Lib.hid (c1_app2 N4.out ho hg hat)
            obtain ⟨A7, c7, rfl, -, -, -⟩ := own_form ho
            clear ho hg hat
            have hS5 := CS.out W5 N5.out.below
            refine hK.out _ _ (.inr hS5) ?_
            clear hK K
            try simp only [Act.put, List.setIfInBounds_toArray, List.set_cons_zero, List.set_cons_succ]
            refine held_take (i := 8) (oi := { dst := some 13, op := Op.build 26 #[(1, Operand.tmp 8), (2, Operand.tmp 12)], type := 26, pos := "l6_lanes.go:80", after := #[{ on := 3, ground := Ground.data }, { on := 7, ground := Ground.data }], guard := none }) (v := ?_) rfl (by kernel_rfl) (by kernel_rfl) (by kernel_rfl) (by kernel_rfl) (fun _ _ _ h => h) (Or.inl ⟨by rfl, ?_⟩) hS5 ?_
            rotate_left
            · (intro w9 hSw; (try dsimp only at hSw); go_simp; try with_reducible rfl)
            try simp only [Act.put, List.setIfInBounds_toArray, List.set_cons_zero, List.set_cons_succ]
            refine held_one (i := 10) (o := { dst := none, op := Op.store 26 (Operand.tmp 3) (Operand.tmp 13), type := 0, pos := "l6_lanes.go:80", after := #[{ on := 9, ground := Ground.data }, { on := 8, ground := Ground.data }, { on := 7, ground := Ground.chain }, { on := 0, ground := Ground.phase }, { on := 1, ground := Ground.phase }, { on := 2, ground := Ground.phase }, { on := 3, ground := Ground.phase }, { on := 4, ground := Ground.phase }, { on := 5, ground := Ground.phase }, { on := 6, ground := Ground.phase }, { on := 7, ground := Ground.phase }, { on := 8, ground := Ground.phase }, { on := 9, ground := Ground.phase }], guard := none }) (by kernel_rfl) rfl (fun K hK => ?_)
            obtain ⟨⟨u0, u1, u2⟩, uf0, uf1, uf2⟩ := blk_three (N5.out.l _ rfl).2
            go_simp
            refine hK.out _ _ (.inl rfl) ?_
            clear hK K
            try simp only [Act.put, List.setIfInBounds_toArray, List.set_cons_zero, List.set_cons_succ]
            refine held_done (by kernel_rfl) ?_ _
            clear u0 u1 u2 uf0 uf1 uf2
            go_wp2_with fail
            go_meet
            exact ⟨_, _, _, _, _, rfl, ls_first N5.out FD.out zd⟩
        · go_simp
          have N3 := Lib.hid (c1_box N2.out)
          generalize W2.alloc (.cells #[.slice none 0 0, .slice none 0 0, .slice none 0 0] 26) = W3 at N3 ⊢
          have hS3 := CS.out W3 N3.out.below
          refine hK.out _ _ (.inr hS3) ?_
          clear hK K
          try simp only [Act.put, List.setIfInBounds_toArray, List.set_cons_zero, List.set_cons_succ]
          refine held_one (i := 4) (o := { dst := some 9, op := Op.buildSlice 24 0 #[], type := 24, pos := "l6_lanes.go:80", after := #[], guard := none }) (by kernel_rfl) rfl (fun K hK => ?_)
          go_simp
          have N4 := Lib.hid (c1_bs2 N3.out)
          generalize W3.alloc (.cells #[] 3) = W4 at N4 ⊢
          have hS4 := CS.out W4 N4.out.below
          refine hK.out _ _ (.inr hS4) ?_
          clear hK K
          try simp only [Act.put, List.setIfInBounds_toArray, List.set_cons_zero, List.set_cons_succ]
          refine held_one (i := 7) (o := { dst := some 12, op := Op.call { callee := Callee.builtin Builtin.append, args := #[Operand.tmp 9, Operand.tmp 11], argTypes := #[24, 24] }, type := 24, pos := "l6_lanes.go:80", after := #[{ on := 4, ground := Ground.data }, { on := 6, ground := Ground.data }, { on := 3, ground := Ground.chain }], guard := none }) (by kernel_rfl) rfl (fun K hK => ?_)
          refine step_app_ints _ rfl (.tmp 9) (.tmp 11) rfl w0.heap.size _ 0 [] rfl N4.out.o2 C o f l.cs rfl (nr_below NC.out N4.out.below) (by omega) N4.out.below.size ?_
          intro v7 W5 ho hg hat
          simp only [List.nil_append, Nat.zero_add] at ho
          have N5 := Lib.hid (c1_app2 N4.out ho hg hat)
          obtain ⟨A7, c7, rfl, -, -, -⟩ := own_form ho
          clear ho hg hat
          have hS5 := CS.out W5 N5.out.below
          refine hK.out _ _ (.inr hS5) ?_
          clear hK K
          try simp only [Act.put, List.setIfInBounds_toArray, List.set_cons_zero, List.set_cons_succ]
          refine held_take (i := 8) (oi := { dst := some 13, op := Op.build 26 #[(1, Operand.tmp 8), (2, Operand.tmp 12)], type := 26, pos := "l6_lanes.go:80", after := #[{ on := 3, ground := Ground.data }, { on := 7, ground := Ground.data }], guard := none }) (v := ?_) rfl (by kernel_rfl) (by kernel_rfl) (by kernel_rfl) (by kernel_rfl) (fun _ _ _ h => h) (Or.inl ⟨by rfl, ?_⟩) hS5 ?_
          rotate_left
          · (intro w9 hSw; (try dsimp only at hSw); go_simp; try with_reducible rfl)
          try simp only [Act.put, List.setIfInBounds_toArray, List.set_cons_zero, List.set_cons_succ]
          refine held_one (i := 10) (o := { dst := none, op := Op.store 26 (Operand.tmp 3) (Operand.tmp 13), type := 0, pos := "l6_lanes.go:80", after := #[{ on := 9, ground := Ground.data }, { on := 8, ground := Ground.data }, { on := 7, ground := Ground.chain }, { on := 0, ground := Ground.phase }, { on := 1, ground := Ground.phase }, { on := 2, ground := Ground.phase }, { on := 3, ground := Ground.phase }, { on := 4, ground := Ground.phase }, { on := 5, ground := Ground.phase }, { on := 6, ground := Ground.phase }, { on := 7, ground := Ground.phase }, { on := 8, ground := Ground.phase }, { on := 9, ground := Ground.phase }], guard := none }) (by kernel_rfl) rfl (fun K hK => ?_)
          obtain ⟨⟨u0, u1, u2⟩, uf0, uf1, uf2⟩ := blk_three (N5.out.l _ rfl).2
          go_simp
          refine hK.out _ _ (.inl rfl) ?_
          clear hK K
          try simp only [Act.put, List.setIfInBounds_toArray, List.set_cons_zero, List.set_cons_succ]
          refine held_done (by kernel_rfl) ?_ _
          clear u0 u1 u2 uf0 uf1 uf2
          go_wp2_with fail
          go_meet
          exact ⟨_, _, _, _, _, rfl, ls_first N5.out FD.out zd⟩
      · go_simp
        have N2 := Lib.hid (c1_bs2 N1.out)
        generalize W1.alloc (.cells #[] 3) = W2 at N2 ⊢
        have hS2 := CS.out W2 N2.out.below
        refine hK.out _ _ (.inr hS2) ?_
        clear hK K
        try simp only [Act.put, List.setIfInBounds_toArray, List.set_cons_zero, List.set_cons_succ]
        refine held_two (i := 3) (j := 9) (oi := { dst := some 8, op := Op.call { callee := Callee.builtin Builtin.append, args := #[Operand.tmp 5, Operand.tmp 7], argTypes := #[24, 24] }, type := 24, pos := "l6_lanes.go:80", after := #[{ on := 0, ground := Ground.data }, { on := 2, ground := Ground.data }], guard := none }) (oj := { dst := some 3, op := Op.alloc 26, type := 0, pos := "l6_lanes.go:80", after := #[], guard := none }) (by kernel_rfl) rfl rfl (fun K hK => ?_) (fun K hK => ?_)
        · refine step_app_ints _ rfl (.tmp 5) (.tmp 7) rfl w0.heap.size _ 0 [] rfl N2.out.o1 B m d l.ws rfl (nr_below NB.out N2.out.below) (by omega) N2.out.below.size ?_
          intro v3 W3 ho hg hat
          simp only [List.nil_append, Nat.zero_add] at ho
          have N3 := Lib.hid (c1_app1 N2.out ho hg hat)
          obtain ⟨A3, c3, rfl, -, -, -⟩ := own_form ho
          clear ho hg hat
          have hS3 := CS.out W3 N3.out.below
          refine hK.out _ _ (.inr hS3) ?_
          clear hK K
          try simp only [Act.put, List.setIfInBounds_toArray, List.set_cons_zero, List.set_cons_succ]
          refine held_two (i := 7) (j := 9) (oi := { dst := some 12, op := Op.call { callee := Callee.builtin Builtin.append, args := #[Operand.tmp 9, Operand.tmp 11], argTypes := #[24, 24] }, type := 24, pos := "l6_lanes.go:80", after := #[{ on := 4, ground := Ground.data }, { on := 6, ground := Ground.data }, { on := 3, ground := Ground.chain }], guard := none }) (oj := { dst := some 3, op := Op.alloc 26, type := 0, pos := "l6_lanes.go:80", after := #[], guard := none }) (by kernel_rfl) rfl rfl (fun K hK => ?_) (fun K hK => ?_)
          · refine step_app_ints _ rfl (.tmp 9) (.tmp 11) rfl w0.heap.size _ 0 [] rfl N3.out.o2 C o f l.cs rfl (nr_below NC.out N3.out.below) (by omega) N3.out.below.size ?_
            intro v7 W4 ho hg hat
            simp only [List.nil_append, Nat.zero_add] at ho
            have N4 := Lib.hid (c1_app2 N3.out ho hg hat)
            obtain ⟨A7, c7, rfl, -, -, -⟩ := own_form ho
            clear ho hg hat
            have hS4 := CS.out W4 N4.out.below
            refine hK.out _ _ (.inr hS4) ?_
            clear hK K
            try simp only [Act.put, List.setIfInBounds_toArray, List.set_cons_zero, List.set_cons_succ]
            refine held_take (i := 8) (oi := { dst := some 13, op := Op.build 26 #[(1, Operand.tmp 8), (2, Operand.tmp 12)], type := 26, pos := "l6_lanes.go:80", after := #[{ on := 3, ground := Ground.data }, { on := 7, ground := Ground.data }], guard := none }) (v := ?_) rfl (by kernel_rfl) (by kernel_rfl) (by kernel_rfl) (by kernel_rfl) (fun _ _ _ h => h) (Or.inl ⟨by rfl, ?_⟩) hS4 ?_
            rotate_left
            · (intro w9 hSw; (try dsimp only at hSw); go_simp; try with_reducible rfl)
            try simp only [Act.put, List.setIfInBounds_toArray, List.set_cons_zero, List.set_cons_succ]
            refine held_one (i := 9) (o := { dst := some 3, op := Op.alloc 26, type := 0, pos := "l6_lanes.go:80", after := #[], guard := none }) (by kernel_rfl) rfl (fun K hK => ?_)
            go_simp
            have N5 := Lib.hid (c1_box N4.out)
            generalize W4.alloc (.cells #[.slice none 0 0, .slice none 0 0, .slice none 0 0] 26) = W5 at N5 ⊢
            have hS5 := CS.out W5 N5.out.below
            refine hK.out _ _ (.inr hS5) ?_
            clear hK K
            try simp only [Act.put, List.setIfInBounds_toArray, List.set_cons_zero, List.set_cons_succ]
            refine held_one (i := 10) (o := { dst := none, op := Op.store 26 (Operand.tmp 3) (Operand.tmp 13), type := 0, pos := "l6_lanes.go:80", after := #[{ on := 9, ground := Ground.data }, { on := 8, ground := Ground.data }, { on := 7, ground := Ground.chain }, { on := 0, ground := Ground.phase }, { on := 1, ground := Ground.phase }, { on := 2, ground := Ground.phase }, { on := 3, ground := Ground.phase }, { on := 4, ground := Ground.phase }, { on := 5, ground := Ground.phase }, { on := 6, ground := Ground.phase }, { on := 7, ground := Ground.phase }, { on := 8, ground := Ground.phase }, { on := 9, ground := Ground.phase }], guard := none }) (by kernel_rfl) rfl (fun K hK => ?_)
            obtain ⟨⟨u0, u1, u2⟩, uf0, uf1, uf2⟩ := blk_three (N5.out.l _ rfl).2
            go_simp
            refine hK.out _ _ (.inl rfl) ?_
            clear hK K
            try simp only [Act.put, List.setIfInBounds_toArray, List.set_cons_zero, List.set_cons_succ]
            refine held_done (by kernel_rfl) ?_ _
            clear u0 u1 u2 uf0 uf1 uf2
            go_wp2_with fail
            go_meet
            exact ⟨_, _, _, _, _, rfl, ls_first N5.out FD.out zd⟩
          · go_simp
            have N4 := Lib.hid (c1_box N3.out)
            generalize W3.alloc (.cells #[.slice none 0 0, .slice none 0 0, .slice none 0 0] 26) = W4 at N4 ⊢
            have hS4 := CS.out W4 N4.out.below
            refine hK.out _ _ (.inr hS4) ?_
            clear hK K
            try simp only [Act.put, List.setIfInBounds_toArray, List.set_cons_zero, List.set_cons_succ]
            refine held_one (i := 7) (o := { dst := some 12, op := Op.call { callee := Callee.builtin Builtin.append, args := #[Operand.tmp 9, Operand.tmp 11], argTypes := #[24, 24] }, type := 24, pos := "l6_lanes.go:80", after := #[{ on := 4, ground := Ground.data }, { on := 6, ground := Ground.data }, { on := 3, ground := Ground.chain }], guard := none }) (by kernel_rfl) rfl (fun K hK => ?_)
            refine step_app_ints _ rfl (.tmp 9) (.tmp 11) rfl w0.heap.size _ 0 [] rfl N4.out.o2 C o f l.cs rfl (nr_below NC.out N4.out.below) (by omega) N4.out.below.size ?_
            intro v7 W5 ho hg hat
            simp only [List.nil_append, Nat.zero_add] at ho
            have N5 := Lib.hid (c1_app2 N4.out ho hg hat)
            obtain ⟨A7, c7, rfl, -, -, -⟩ := own_form ho
            clear ho hg hat
            have hS5 := CS.out W5 N5.out.below
            refine hK.out _ _ (.inr hS5) ?_
            clear hK K
            try simp only [Act.put, List.setIfInBounds_toArray, List.set_cons_zero, List.set_cons_succ]
            refine held_take (i := 8) (oi := { dst := some 13, op := Op.build 26 #[(1, Operand.tmp 8), (2, Operand.tmp 12)], type := 26, pos := "l6_lanes.go:80", after := #[{ on := 3, ground := Ground.data }, { on := 7, ground := Ground.data }], guard := none }) (v := ?_) rfl (by kernel_rfl) (by kernel_rfl) (by kernel_rfl) (by kernel_rfl) (fun _ _ _ h => h) (Or.inl ⟨by rfl, ?_⟩) hS5 ?_
            rotate_left
            · (intro w9 hSw; (try dsimp only at hSw); go_simp; try with_reducible rfl)
            try simp only [Act.put, List.setIfInBounds_toArray, List.set_cons_zero, List.set_cons_succ]
            refine held_one (i := 10) (o := { dst := none, op := Op.store 26 (Operand.tmp 3) (Operand.tmp 13), type := 0, pos := "l6_lanes.go:80", after := #[{ on := 9, ground := Ground.data }, { on := 8, ground := Ground.data }, { on := 7, ground := Ground.chain }, { on := 0, ground := Ground.phase }, { on := 1, ground := Ground.phase }, { on := 2, ground := Ground.phase }, { on := 3, ground := Ground.phase }, { on := 4, ground := Ground.phase }, { on := 5, ground := Ground.phase }, { on := 6, ground := Ground.phase }, { on := 7, ground := Ground.phase }, { on := 8, ground := Ground.phase }, { on := 9, ground := Ground.phase }], guard := none }) (by kernel_rfl) rfl (fun K hK => ?_)
            obtain ⟨⟨u0, u1, u2⟩, uf0, uf1, uf2⟩ := blk_three (N5.out.l _ rfl).2
            go_simp
            refine hK.out _ _ (.inl rfl) ?_
            clear hK K
            try simp only [Act.put, List.setIfInBounds_toArray, List.set_cons_zero, List.set_cons_succ]
            refine held_done (by kernel_rfl) ?_ _
            clear u0 u1 u2 uf0 uf1 uf2
            go_wp2_with fail
            go_meet
            exact ⟨_, _, _, _, _, rfl, ls_first N5.out FD.out zd⟩
        · go_simp
          have N3 := Lib.hid (c1_box N2.out)
          generalize W2.alloc (.cells #[.slice none 0 0, .slice none 0 0, .slice none 0 0] 26) = W3 at N3 ⊢
          have hS3 := CS.out W3 N3.out.below
          refine hK.out _ _ (.inr hS3) ?_
          clear hK K
          try simp only [Act.put, List.setIfInBounds_toArray, List.set_cons_zero, List.set_cons_succ]
          refine held_one (i := 3) (o := { dst := some 8, op := Op.call { callee := Callee.builtin Builtin.append, args := #[Operand.tmp 5, Operand.tmp 7], argTypes := #[24, 24] }, type := 24, pos := "l6_lanes.go:80", after := #[{ on := 0, ground := Ground.data }, { on := 2, ground := Ground.data }], guard := none }) (by kernel_rfl) rfl (fun K hK => ?_)
          refine step_app_ints _ rfl (.tmp 5) (.tmp 7) rfl w0.heap.size _ 0 [] rfl N3.out.o1 B m d l.ws rfl (nr_below NB.out N3.out.below) (by omega) N3.out.below.size ?_
          intro v3 W4 ho hg hat
          simp only [List.nil_append, Nat.zero_add] at ho
          have N4 := Lib.hid (c1_app1 N3.out ho hg hat)
          obtain ⟨A3, c3, rfl, -, -, -⟩ := own_form ho
          clear ho hg hat
          have hS4 := CS.out W4 N4.out.below
          refine hK.out _ _ (.inr hS4) ?_
          clear hK K
          try simp only [Act.put, List.setIfInBounds_toArray, List.set_cons_zero, List.set_cons_succ]
          refine held_one (i := 7) (o := { dst := some 12, op := Op.call { callee := Callee.builtin Builtin.append, args := #[Operand.tmp 9, Operand.tmp 11], argTypes := #[24, 24] }, type := 24, pos := "l6_lanes.go:80", after := #[{ on := 4, ground := Ground.data }, { on := 6, ground := Ground.data }, { on := 3, ground := Ground.chain }], guard := none }) (by kernel_rfl) rfl (fun K hK => ?_)
          refine step_app_ints _ rfl (.tmp 9) (.tmp 11) rfl w0.heap.size _ 0 [] rfl N4.out.o2 C o f l.cs rfl (nr_below NC.out N4.out.below) (by omega) N4.out.below.size ?_
          intro v7 W5 ho hg hat
          simp only [List.nil_append, Nat.zero_add] at ho
          have N5 := Lib.hid (c1_app2 N4.out ho hg hat)
          obtain ⟨A7, c7, rfl, -, -, -⟩ := own_form ho
          clear ho hg hat
          have hS5 := CS.out W5 N5.out.below
          refine hK.out _ _ (.inr hS5) ?_
          clear hK K
          try simp only [Act.put, List.setIfInBounds_toArray, List.set_cons_zero, List.set_cons_succ]
          refine held_take (i := 8) (oi := { dst := some 13, op := Op.build 26 #[(1, Operand.tmp 8), (2, Operand.tmp 12)], type := 26, pos := "l6_lanes.go:80", after := #[{ on := 3, ground := Ground.data }, { on := 7, ground := Ground.data }], guard := none }) (v := ?_) rfl (by kernel_rfl) (by kernel_rfl) (by kernel_rfl) (by kernel_rfl) (fun _ _ _ h => h) (Or.inl ⟨by rfl, ?_⟩) hS5 ?_
          rotate_left
          · (intro w9 hSw; (try dsimp only at hSw); go_simp; try with_reducible rfl)
          try simp only [Act.put, List.setIfInBounds_toArray, List.set_cons_zero, List.set_cons_succ]
          refine held_one (i := 10) (o := { dst := none, op := Op.store 26 (Operand.tmp 3) (Operand.tmp 13), type := 0, pos := "l6_lanes.go:80", after := #[{ on := 9, ground := Ground.data }, { on := 8, ground := Ground.data }, { on := 7, ground := Ground.chain }, { on := 0, ground := Ground.phase }, { on := 1, ground := Ground.phase }, { on := 2, ground := Ground.phase }, { on := 3, ground := Ground.phase }, { on := 4, ground := Ground.phase }, { on := 5, ground := Ground.phase }, { on := 6, ground := Ground.phase }, { on := 7, ground := Ground.phase }, { on := 8, ground := Ground.phase }, { on := 9, ground := Ground.phase }], guard := none }) (by kernel_rfl) rfl (fun K hK => ?_)
          obtain ⟨⟨u0, u1, u2⟩, uf0, uf1, uf2⟩ := blk_three (N5.out.l _ rfl).2
          go_simp
          refine hK.out _ _ (.inl rfl) ?_
          clear hK K
          try simp only [Act.put, List.setIfInBounds_toArray, List.set_cons_zero, List.set_cons_succ]
          refine held_done (by kernel_rfl) ?_ _
          clear u0 u1 u2 uf0 uf1 uf2
          go_wp2_with fail
          go_meet
          exact ⟨_, _, _, _, _, rfl, ls_first N5.out FD.out zd⟩
      · go_simp
        have N2 := Lib.hid (c1_box N1.out)
        generalize W1.alloc (.cells #[.slice none 0 0, .slice none 0 0, .slice none 0 0] 26) = W2 at N2 ⊢
        have hS2 := CS.out W2 N2.out.below
        refine hK.out _ _ (.inr hS2) ?_
        clear hK K
        try simp only [Act.put, List.setIfInBounds_toArray, List.set_cons_zero, List.set_cons_succ]
        refine held_two (i := 3) (j := 4) (oi := { dst := some 8, op := Op.call { callee := Callee.builtin Builtin.append, args := #[Operand.tmp 5, Operand.tmp 7], argTypes := #[24, 24] }, type := 24, pos := "l6_lanes.go:80", after := #[{ on := 0, ground := Ground.data }, { on := 2, ground := Ground.data }], guard := none }) (oj := { dst := some 9, op := Op.buildSlice 24 0 #[], type := 24, pos := "l6_lanes.go:80", after := #[], guard := none }) (by kernel_rfl) rfl rfl (fun K hK => ?_) (fun K hK => ?_)
        · refine step_app_ints _ rfl (.tmp 5) (.tmp 7) rfl w0.heap.size _ 0 [] rfl N2.out.o1 B m d l.ws rfl (nr_below NB.out N2.out.below) (by omega) N2.out.below.size ?_
          intro v3 W3 ho hg hat
          simp only [List.nil_append, Nat.zero_add] at ho
          have N3 := Lib.hid (c1_app1 N2.out ho hg hat)
          obtain ⟨A3, c3, rfl, -, -, -⟩ := own_form ho
          clear ho hg hat
          have hS3 := CS.out W3 N3.out.below
          refine hK.out _ _ (.inr hS3) ?_
          clear hK K
          try simp only [Act.put, List.setIfInBounds_toArray, List.set_cons_zero, List.set_cons_succ]
          refine held_one (i := 4) (o := { dst := some 9, op := Op.buildSlice 24 0 #[], type := 24, pos := "l6_lanes.go:80", after := #[], guard := none }) (by kernel_rfl) rfl (fun K hK => ?_)
          go_simp
          have N4 := Lib.hid (c1_bs2 N3.out)
          generalize W3.alloc (.cells #[] 3) = W4 at N4 ⊢
          have hS4 := CS.out W4 N4.out.below
          refine hK.out _ _ (.inr hS4) ?_
          clear hK K
          try simp only [Act.put, List.setIfInBounds_toArray, List.set_cons_zero, List.set_cons_succ]
          refine held_one (i := 7) (o := { dst := some 12, op := Op.call { callee := Callee.builtin Builtin.append, args := #[Operand.tmp 9, Operand.tmp 11], argTypes := #[24, 24] }, type := 24, pos := "l6_lanes.go:80", after := #[{ on := 4, ground := Ground.data }, { on := 6, ground := Ground.data }, { on := 3, ground := Ground.chain }], guard := none }) (by kernel_rfl) rfl (fun K hK => ?_)
          refine step_app_ints _ rfl (.tmp 9) (.tmp 11) rfl w0.heap.size _ 0 [] rfl N4.out.o2 C o f l.cs rfl (nr_below NC.out N4.out.below) (by omega) N4.out.below.size ?_
          intro v7 W5 ho hg hat
          simp only [List.nil_append, Nat.zero_add] at ho
          have N5 := Lib.hid (c1_app2 N4.out ho hg hat)
          obtain ⟨A7, c7, rfl, -, -, -⟩ := own_form ho
          clear ho hg hat
          have hS5 := CS.out W5 N5.out.below
          refine hK.out _ _ (.inr hS5) ?_
          clear hK K
          try simp only [Act.put, List.setIfInBounds_toArray, List.set_cons_zero, List.set_cons_succ]
          refine held_take (i := 8) (oi := { dst := some 13, op := Op.build 26 #[(1, Operand.tmp 8), (2, Operand.tmp 12)], type := 26, pos := "l6_lanes.go:80", after := #[{ on := 3, ground := Ground.data }, { on := 7, ground := Ground.data }], guard := none }) (v := ?_) rfl (by kernel_rfl) (by kernel_rfl) (by kernel_rfl) (by kernel_rfl) (fun _ _ _ h => h) (Or.inl ⟨by rfl, ?_⟩) hS5 ?_
          rotate_left
          · (intro w9 hSw; (try dsimp only at hSw); go_simp; try with_reducible rfl)
          try simp only [Act.put, List.setIfInBounds_toArray, List.set_cons_zero, List.set_cons_succ]
          refine held_one (i := 10) (o := { dst := none, op := Op.store 26 (Operand.tmp 3) (Operand.tmp 13), type := 0, pos := "l6_lanes.go:80", after := #[{ on := 9, ground := Ground.data }, { on := 8, ground := Ground.data }, { on := 7, ground := Ground.chain }, { on := 0, ground := Ground.phase }, { on := 1, ground := Ground.phase }, { on := 2, ground := Ground.phase }, { on := 3, ground := Ground.phase }, { on := 4, ground := Ground.phase }, { on := 5, ground := Ground.phase }, { on := 6, ground := Ground.phase }, { on := 7, ground := Ground.phase }, { on := 8, ground := Ground.phase }, { on := 9, ground := Ground.phase }], guard := none }) (by kernel_rfl) rfl (fun K hK => ?_)
          obtain ⟨⟨u0, u1, u2⟩, uf0, uf1, uf2⟩ := blk_three (N5.out.l _ rfl).2
          go_simp
          refine hK.out _ _ (.inl rfl) ?_
          clear hK K
          try simp only [Act.put, List.setIfInBounds_toArray, List.set_cons_zero, List.set_cons_succ]
          refine held_done (by kernel_rfl) ?_ _
          clear u0 u1 u2 uf0 uf1 uf2
          go_wp2_with fail
          go_meet
          exact ⟨_, _, _, _, _, rfl, ls_first N5.out FD.out zd⟩
        · go_simp
          have N3 := Lib.hid (c1_bs2 N2.out)
          generalize W2.alloc (.cells #[] 3) = W3 at N3 ⊢
          have hS3 := CS.out W3 N3.out.below
          refine hK.out _ _ (.inr hS3) ?_
          clear hK K
          try simp only [Act.put, List.setIfInBounds_toArray, List.set_cons_zero, List.set_cons_succ]
          refine held_one (i := 3) (o := { dst := some 8, op := Op.call { callee := Callee.builtin Builtin.append, args := #[Operand.tmp 5, Operand.tmp 7], argTypes := #[24, 24] }, type := 24, pos := "l6_lanes.go:80", after := #[{ on := 0, ground := Ground.data }, { on := 2, ground := Ground.data }], guard := none }) (by kernel_rfl) rfl (fun K hK => ?_)
          refine step_app_ints _ rfl (.tmp 5) (.tmp 7) rfl w0.heap.size _ 0 [] rfl N3.out.o1 B m d l.ws rfl (nr_below NB.out N3.out.below) (by omega) N3.out.below.size ?_
          intro v3 W4 ho hg hat
          simp only [List.nil_append, Nat.zero_add] at ho
          have N4 := Lib.hid (c1_app1 N3.out ho hg hat)
          obtain ⟨A3, c3, rfl, -, -, -⟩ := own_form ho
          clear ho hg hat
          have hS4 := CS.out W4 N4.out.below
          refine hK.out _ _ (.inr hS4) ?_
          clear hK K
          try simp only [Act.put, List.setIfInBounds_toArray, List.set_cons_zero, List.set_cons_succ]
          refine held_one (i := 7) (o := { dst := some 12, op := Op.call { callee := Callee.builtin Builtin.append, args := #[Operand.tmp 9, Operand.tmp 11], argTypes := #[24, 24] }, type := 24, pos := "l6_lanes.go:80", after := #[{ on := 4, ground := Ground.data }, { on := 6, ground := Ground.data }, { on := 3, ground := Ground.chain }], guard := none }) (by kernel_rfl) rfl (fun K hK => ?_)
          refine step_app_ints _ rfl (.tmp 9) (.tmp 11) rfl w0.heap.size _ 0 [] rfl N4.out.o2 C o f l.cs rfl (nr_below NC.out N4.out.below) (by omega) N4.out.below.size ?_
          intro v7 W5 ho hg hat
          simp only [List.nil_append, Nat.zero_add] at ho
          have N5 := Lib.hid (c1_app2 N4.out ho hg hat)
          obtain ⟨A7, c7, rfl, -, -, -⟩ := own_form ho
          clear ho hg hat
          have hS5 := CS.out W5 N5.out.below
          refine hK.out _ _ (.inr hS5) ?_
          clear hK K
          try simp only [Act.put, List.setIfInBounds_toArray, List.set_cons_zero, List.set_cons_succ]
          refine held_take (i := 8) (oi := { dst := some 13, op := Op.build 26 #[(1, Operand.tmp 8), (2, Operand.tmp 12)], type := 26, pos := "l6_lanes.go:80", after := #[{ on := 3, ground := Ground.data }, { on := 7, ground := Ground.data }], guard := none }) (v := ?_) rfl (by kernel_rfl) (by kernel_rfl) (by kernel_rfl) (by kernel_rfl) (fun _ _ _ h => h) (Or.inl ⟨by rfl, ?_⟩) hS5 ?_
          rotate_left
          · (intro w9 hSw; (try dsimp only at hSw); go_simp; try with_reducible rfl)
          try simp only [Act.put, List.setIfInBounds_toArray, List.set_cons_zero, List.set_cons_succ]
          refine held_one (i := 10) (o := { dst := none, op := Op.store 26 (Operand.tmp 3) (Operand.tmp 13), type := 0, pos := "l6_lanes.go:80", after := #[{ on := 9, ground := Ground.data }, { on := 8, ground := Ground.data }, { on := 7, ground := Ground.chain }, { on := 0, ground := Ground.phase }, { on := 1, ground := Ground.phase }, { on := 2, ground := Ground.phase }, { on := 3, ground := Ground.phase }, { on := 4, ground := Ground.phase }, { on := 5, ground := Ground.phase }, { on := 6, ground := Ground.phase }, { on := 7, ground := Ground.phase }, { on := 8, ground := Ground.phase }, { on := 9, ground := Ground.phase }], guard := none }) (by kernel_rfl) rfl (fun K hK => ?_)
          obtain ⟨⟨u0, u1, u2⟩, uf0, uf1, uf2⟩ := blk_three (N5.out.l _ rfl).2
          go_simp
          refine hK.out _ _ (.inl rfl) ?_
          clear hK K
          try simp only [Act.put, List.setIfInBounds_toArray, List.set_cons_zero, List.set_cons_succ]
          refine held_done (by kernel_rfl) ?_ _
          clear u0 u1 u2 uf0 uf1 uf2
          go_wp2_with fail
          go_meet
          exact ⟨_, _, _, _, _, rfl, ls_first N5.out FD.out zd⟩
    · go_simp
      have N1 := Lib.hid (c1_bs2 N0.out)
      generalize w0.alloc (.cells #[] 3) = W1 at N1 ⊢
      have hS1 := CS.out W1 N1.out.below
      refine hK.out _ _ (.inr hS1) ?_
      clear hK K
      try simp only [Act.put, List.setIfInBounds_toArray, List.set_cons_zero, List.set_cons_succ]
      refine held_two (i := 0) (j := 9) (oi := { dst := some 5, op := Op.buildSlice 24 0 #[], type := 24, pos := "l6_lanes.go:80", after := #[], guard := none }) (oj := { dst := some 3, op := Op.alloc 26, type := 0, pos := "l6_lanes.go:80", after := #[], guard := none }) (by kernel_rfl) rfl rfl (fun K hK => ?_) (fun K hK => ?_)
      · go_simp
        have N2 := Lib.hid (c1_bs1 N1.out)
        generalize W1.alloc (.cells #[] 3) = W2 at N2 ⊢
        have hS2 := CS.out W2 N2.out.below
        refine hK.out _ _ (.inr hS2) ?_
        clear hK K
        try simp only [Act.put, List.setIfInBounds_toArray, List.set_cons_zero, List.set_cons_succ]
        refine held_two (i := 3) (j := 9) (oi := { dst := some 8, op := Op.call { callee := Callee.builtin Builtin.append, args := #[Operand.tmp 5, Operand.tmp 7], argTypes := #[24, 24] }, type := 24, pos := "l6_lanes.go:80", after := #[{ on := 0, ground := Ground.data }, { on := 2, ground := Ground.data }], guard := none }) (oj := { dst := some 3, op := Op.alloc 26, type := 0, pos := "l6_lanes.go:80", after := #[], guard := none }) (by kernel_rfl) rfl rfl (fun K hK => ?_) (fun K hK => ?_)
        · refine step_app_ints _ rfl (.tmp 5) (.tmp 7) rfl w0.heap.size _ 0 [] rfl N2.out.o1 B m d l.ws rfl (nr_below NB.out N2.out.below) (by omega) N2.out.below.size ?_
          intro v3 W3 ho hg hat
          simp only [List.nil_append, Nat.zero_add] at ho
          have N3 := Lib.hid (c1_app1 N2.out ho hg hat)
          obtain ⟨A3, c3, rfl, -, -, -⟩ := own_form ho
          clear ho hg hat
          have hS3 := CS.out W3 N3.out.below
          refine hK.out _ _ (.inr hS3) ?_
          clear hK K
          try simp only [Act.put, List.setIfInBounds_toArray, List.set_cons_zero, List.set_cons_succ]
          refine held_two (i := 7) (j := 9) (oi := { dst := some 12, op := Op.call { callee := Callee.builtin Builtin.append, args := #[Operand.tmp 9, Operand.tmp 11], argTypes := #[24, 24] }, type := 24, pos := "l6_lanes.go:80", after := #[{ on := 4, ground := Ground.data }, { on := 6, ground := Ground.data }, { on := 3, ground := Ground.chain }], guard := none }) (oj := { dst := some 3, op := Op.alloc 26, type := 0, pos := "l6_lanes.go:80", after := #[], guard := none }) (by kernel_rfl) rfl rfl (fun K hK => ?_) (fun K hK => ?_)
          · refine step_app_ints _ rfl (.tmp 9) (.tmp 11) rfl w0.heap.size _ 0 [] rfl N3.out.o2 C o f l.cs rfl (nr_below NC.out N3.out.below) (by omega) N3.out.below.size ?_
            intro v7 W4 ho hg hat
            simp only [List.nil_append, Nat.zero_add] at ho
            have N4 := Lib.hid (c1_app2 N3.out ho hg hat)
            obtain ⟨A7, c7, rfl, -, -, -⟩ := own_form ho
            clear ho hg hat
            have hS4 := CS.out W4 N4.out.below
            refine hK.out _ _ (.inr hS4) ?_
            clear hK K
            try simp only [Act.put, List.setIfInBounds_toArray, List.set_cons_zero, List.set_cons_succ]
            refine held_take (i := 8) (oi := { dst := some 13, op := Op.build 26 #[(1, Operand.tmp 8), (2, Operand.tmp 12)], type := 26, pos := "l6_lanes.go:80", after := #[{ on := 3, ground := Ground.data }, { on := 7, ground := Ground.data }], guard := none }) (v := ?_) rfl (by kernel_rfl) (by kernel_rfl) (by kernel_rfl) (by kernel_rfl) (fun _ _ _ h => h) (Or.inl ⟨by rfl, ?_⟩) hS4 ?_
            rotate_left
            · (intro w9 hSw; (try dsimp only at hSw); go_simp; try with_reducible rfl)
            try simp only [Act.put, List.setIfInBounds_toArray, List.set_cons_zero, List.set_cons_succ]
            refine held_one (i := 9) (o := { dst := some 3, op := Op.alloc 26, type := 0, pos := "l6_lanes.go:80", after := #[], guard := none }) (by kernel_rfl) rfl (fun K hK => ?_)
            go_simp
            have N5 := Lib.hid (c1_box N4.out)
            generalize W4.alloc (.cells #[.slice none 0 0, .slice none 0 0, .slice none 0 0] 26) = W5 at N5 ⊢
            have hS5 := CS.out W5 N5.out.below
            refine hK.out _ _ (.inr hS5) ?_
            clear hK K
            try simp only [Act.put, List.setIfInBounds_toArray, List.set_cons_zero, List.set_cons_succ]
            refine held_one (i := 10) (o := { dst := none, op := Op.store 26 (Operand.tmp 3) (Operand.tmp 13), type := 0, pos := "l6_lanes.go:80", after := #[{ on := 9, ground := Ground.data }, { on := 8, ground := Ground.data }, { on := 7, ground := Ground.chain }, { on := 0, ground := Ground.phase }, { on := 1, ground := Ground.phase }, { on := 2, ground := Ground.phase }, { on := 3, ground := Ground.phase }, { on := 4, ground := Ground.phase }, { on := 5, ground := Ground.phase }, { on := 6, ground := Ground.phase }, { on := 7, ground := Ground.phase }, { on := 8, ground := Ground.phase }, { on := 9, ground := Ground.phase }], guard := none }) (by kernel_rfl) rfl (fun K hK => ?_)
            obtain ⟨⟨u0, u1, u2⟩, uf0, uf1, uf2⟩ := blk_three (N5.out.l _ rfl).2
            go_simp
            refine hK.out _ _ (.inl rfl) ?_
            clear hK K
            try simp only [Act.put, List.setIfInBounds_toArray, List.set_cons_zero, List.set_cons_succ]
            refine held_done (by kernel_rfl) ?_ _
            clear u0 u1 u2 uf0 uf1 uf2
            go_wp2_with fail
            go_meet
            exact ⟨_, _, _, _, _, rfl, ls_first N5.out FD.out zd⟩
          · go_simp
            have N4 := Lib.hid (c1_box N3.out)
            generalize W3.alloc (.cells #[.slice none 0 0, .slice none 0 0, .slice none 0 0] 26) = W4 at N4 ⊢
            have hS4 := CS.out W4 N4.out.below
            refine hK.out _ _ (.inr hS4) ?_
            clear hK K
            try simp only [Act.put, List.setIfInBounds_toArray, List.set_cons_zero, List.set_cons_succ]
            refine held_one (i := 7) (o := { dst := some 12, op := Op.call { callee := Callee.builtin Builtin.append, args := #[Operand.tmp 9, Operand.tmp 11], argTypes := #[24, 24] }, type := 24, pos := "l6_lanes.go:80", after := #[{ on := 4, ground := Ground.data }, { on := 6, ground := Ground.data }, { on := 3, ground := Ground.chain }], guard := none }) (by kernel_rfl) rfl (fun K hK => ?_)
            refine step_app_ints _ rfl (.tmp 9) (.tmp 11) rfl w0.heap.size _ 0 [] rfl N4.out.o2 C o f l.cs rfl (nr_below NC.out N4.out.below) (by omega) N4.out.below.size ?_
            intro v7 W5 ho hg hat
            simp only [List.nil_append, Nat.zero_add] at ho
            have N5 := Lib.hid (c1_app2 N4.out ho hg hat)
            obtain ⟨A7, c7, rfl, -, -, -⟩ := own_form ho
            clear ho hg hat
            have hS5 := CS.out W5 N5.out.below
            refine hK.out _ _ (.inr hS5) ?_
            clear hK K
            try simp only [Act.put, List.setIfInBounds_toArray, List.set_cons_zero, List.set_cons_succ]
            refine held_take (i := 8) (oi := { dst := some 13, op := Op.build 26 #[(1, Operand.tmp 8), (2, Operand.tmp 12)], type := 26, pos := "l6_lanes.go:80", after := #[{ on := 3, ground := Ground.data }, { on := 7, ground := Ground.data }], guard := none }) (v := ?_) rfl (by kernel_rfl) (by kernel_rfl) (by kernel_rfl) (by kernel_rfl) (fun _ _ _ h => h) (Or.inl ⟨by rfl, ?_⟩) hS5 ?_
            rotate_left
            · (intro w9 hSw; (try dsimp only at hSw); go_simp; try with_reducible rfl)
            try simp only [Act.put, List.setIfInBounds_toArray, List.set_cons_zero, List.set_cons_succ]
            refine held_one (i := 10) (o := { dst := none, op := Op.store 26 (Operand.tmp 3) (Operand.tmp 13), type := 0, pos := "l6_lanes.go:80", after := #[{ on := 9, ground := Ground.data }, { on := 8, ground := Ground.data }, { on := 7, ground := Ground.chain }, { on := 0, ground := Ground.phase }, { on := 1, ground := Ground.phase }, { on := 2, ground := Ground.phase }, { on := 3, ground := Ground.phase }, { on := 4, ground := Ground.phase }, { on := 5, ground := Ground.phase }, { on := 6, ground := Ground.phase }, { on := 7, ground := Ground.phase }, { on := 8, ground := Ground.phase }, { on := 9, ground := Ground.phase }], guard := none }) (by kernel_rfl) rfl (fun K hK => ?_)
            obtain ⟨⟨u0, u1, u2⟩, uf0, uf1, uf2⟩ := blk_three (N5.out.l _ rfl).2
            go_simp
            refine hK.out _ _ (.inl rfl) ?_
            clear hK K
            try simp only [Act.put, List.setIfInBounds_toArray, List.set_cons_zero, List.set_cons_succ]
            refine held_done (by kernel_rfl) ?_ _
            clear u0 u1 u2 uf0 uf1 uf2
            go_wp2_with fail
            go_meet
            exact ⟨_, _, _, _, _, rfl, ls_first N5.out FD.out zd⟩
        · go_simp
          have N3 := Lib.hid (c1_box N2.out)
          generalize W2.alloc (.cells #[.slice none 0 0, .slice none 0 0, .slice none 0 0] 26) = W3 at N3 ⊢
          have hS3 := CS.out W3 N3.out.below
          refine hK.out _ _ (.inr hS3) ?_
          clear hK K
          try simp only [Act.put, List.setIfInBounds_toArray, List.set_cons_zero, List.set_cons_succ]
          refine held_one (i := 3) (o := { dst := some 8, op := Op.call { callee := Callee.builtin Builtin.append, args := #[Operand.tmp 5, Operand.tmp 7], argTypes := #[24, 24] }, type := 24, pos := "l6_lanes.go:80", after := #[{ on := 0, ground := Ground.data }, { on := 2, ground := Ground.data }], guard := none }) (by kernel_rfl) rfl (fun K hK => ?_)
          refine step_app_ints _ rfl (.tmp 5) (.tmp 7) rfl w0.heap.size _ 0 [] rfl N3.out.o1 B m d l.ws rfl (nr_below NB.out N3.out.below) (by omega) N3.out.below.size ?_
          intro v3 W4 ho hg hat
          simp only [List.nil_append, Nat.zero_add] at ho
          have N4 := Lib.hid (c1_app1 N3.out ho hg hat)
          obtain ⟨A3, c3, rfl, -, -, -⟩ := own_form ho
          clear ho hg hat
          have hS4 := CS.out W4 N4.out.below
          refine hK.out _ _ (.inr hS4) ?_
          clear hK K
          try simp only [Act.put, List.setIfInBounds_toArray, List.set_cons_zero, List.set_cons_succ]
          refine held_one (i := 7) (o := { dst := some 12, op := Op.call { callee := Callee.builtin Builtin.append, args := #[Operand.tmp 9, Operand.tmp 11], argTypes := #[24, 24] }, type := 24, pos := "l6_lanes.go:80", after := #[{ on := 4, ground := Ground.data }, { on := 6, ground := Ground.data }, { on := 3, ground := Ground.chain }], guard := none }) (by kernel_rfl) rfl (fun K hK => ?_)
          refine step_app_ints _ rfl (.tmp 9) (.tmp 11) rfl w0.heap.size _ 0 [] rfl N4.out.o2 C o f l.cs rfl (nr_below NC.out N4.out.below) (by omega) N4.out.below.size ?_
          intro v7 W5 ho hg hat
          simp only [List.nil_append, Nat.zero_add] at ho
          have N5 := Lib.hid (c1_app2 N4.out ho hg hat)
          obtain ⟨A7, c7, rfl, -, -, -⟩ := own_form ho
          clear ho hg hat
          have hS5 := CS.out W5 N5.out.below
          refine hK.out _ _ (.inr hS5) ?_
          clear hK K
          try simp only [Act.put, List.setIfInBounds_toArray, List.set_cons_zero, List.set_cons_succ]
          refine held_take (i := 8) (oi := { dst := some 13, op := Op.build 26 #[(1, Operand.tmp 8), (2, Operand.tmp 12)], type := 26, pos := "l6_lanes.go:80", after := #[{ on := 3, ground := Ground.data }, { on := 7, ground := Ground.data }], guard := none }) (v := ?_) rfl (by kernel_rfl) (by kernel_rfl) (by kernel_rfl) (by kernel_rfl) (fun _ _ _ h => h) (Or.inl ⟨by rfl, ?_⟩) hS5 ?_
          rotate_left
          · (intro w9 hSw; (try dsimp only at hSw); go_simp; try with_reducible rfl)
          try simp only [Act.put, List.setIfInBounds_toArray, List.set_cons_zero, List.set_cons_succ]
          refine held_one (i := 10) (o := { dst := none, op := Op.store 26 (Operand.tmp 3) (Operand.tmp 13), type := 0, pos := "l6_lanes.go:80", after := #[{ on := 9, ground := Ground.data }, { on := 8, ground := Ground.data }, { on := 7, ground := Ground.chain }, { on := 0, ground := Ground.phase }, { on := 1, ground := Ground.phase }, { on := 2, ground := Ground.phase }, { on := 3, ground := Ground.phase }, { on := 4, ground := Ground.phase }, { on := 5, ground := Ground.phase }, { on := 6, ground := Ground.phase }, { on := 7, ground := Ground.phase }, { on := 8, ground := Ground.phase }, { on := 9, ground := Ground.phase }], guard := none }) (by kernel_rfl) rfl (fun K hK => ?_)
          obtain ⟨⟨u0, u1, u2⟩, uf0, uf1, uf2⟩ := blk_three (N5.out.l _ rfl).2
          go_simp
          refine hK.out _ _ (.inl rfl) ?_
          clear hK K
          try simp only [Act.put, List.setIfInBounds_toArray, List.set_cons_zero, List.set_cons_succ]
          refine held_done (by kernel_rfl) ?_ _
          clear u0 u1 u2 uf0 uf1 uf2
          go_wp2_with fail
          go_meet
          exact ⟨_, _, _, _, _, rfl, ls_first N5.out FD.out zd⟩
      · go_simp
        have N2 := Lib.hid (c1_box N1.out)
        generalize W1.alloc (.cells #[.slice none 0 0, .slice none 0 0, .slice none 0 0] 26) = W2 at N2 ⊢
        have hS2 := CS.out W2 N2.out.below
        refine hK.out _ _ (.inr hS2) ?_
        clear hK K
        try simp only [Act.put, List.setIfInBounds_toArray, List.set_cons_zero, List.set_cons_succ]
        refine held_one (i := 0) (o := { dst := some 5, op := Op.buildSlice 24 0 #[], type := 24, pos := "l6_lanes.go:80", after := #[], guard := none }) (by kernel_rfl) rfl (fun K hK => ?_)
        go_simp
        have N3 := Lib.hid (c1_bs1 N2.out)
        generalize W2.alloc (.cells #[] 3) = W3 at N3 ⊢
        have hS3 := CS.out W3 N3.out.below
        refine hK.out _ _ (.inr hS3) ?_
        clear hK K
        try simp only [Act.put, List.setIfInBounds_toArray, List.set_cons_zero, List.set_cons_succ]
        refine held_one (i := 3) (o := { dst := some 8, op := Op.call { callee := Callee.builtin Builtin.append, args := #[Operand.tmp 5, Operand.tmp 7], argTypes := #[24, 24] }, type := 24, pos := "l6_lanes.go:80", after := #[{ on := 0, ground := Ground.data }, { on := 2, ground := Ground.data }], guard := none }) (by kernel_rfl) rfl (fun K hK => ?_)
        refine step_app_ints _ rfl (.tmp 5) (.tmp 7) rfl w0.heap.size _ 0 [] rfl N3.out.o1 B m d l.ws rfl (nr_below NB.out N3.out.below) (by omega) N3.out.below.size ?_
        intro v3 W4 ho hg hat
        simp only [List.nil_append, Nat.zero_add] at ho
        have N4 := Lib.hid (c1_app1 N3.out ho hg hat)
        obtain ⟨A3, c3, rfl, -, -, -⟩ := own_form ho
        clear ho hg hat
        have hS4 := CS.out W4 N4.out.below
        refine hK.out _ _ (.inr hS4) ?_
        clear hK K
        try simp only [Act.put, List.setIfInBounds_toArray, List.set_cons_zero, List.set_cons_succ]
        refine held_one (i := 7) (o := { dst := some 12, op := Op.call { callee := Callee.builtin Builtin.append, args := #[Operand.tmp 9, Operand.tmp 11], argTypes := #[24, 24] }, type := 24, pos := "l6_lanes.go:80", after := #[{ on := 4, ground := Ground.data }, { on := 6, ground := Ground.data }, { on := 3, ground := Ground.chain }], guard := none }) (by kernel_rfl) rfl (fun K hK => ?_)
        refine step_app_ints _ rfl (.tmp 9) (.tmp 11) rfl w0.heap.size _ 0 [] rfl N4.out.o2 C o f l.cs rfl (nr_below NC.out N4.out.below) (by omega) N4.out.below.size ?_
        intro v7 W5 ho hg hat
        simp only [List.nil_append, Nat.zero_add] at ho
        have N5 := Lib.hid (c1_app2 N4.out ho hg hat)
        obtain ⟨A7, c7, rfl, -, -, -⟩ := own_form ho
        clear ho hg hat
        have hS5 := CS.out W5 N5.out.below
        refine hK.out _ _ (.inr hS5) ?_
        clear hK K
        try simp only [Act.put, List.setIfInBounds_toArray, List.set_cons_zero, List.set_cons_succ]
        refine held_take (i := 8) (oi := { dst := some 13, op := Op.build 26 #[(1, Operand.tmp 8), (2, Operand.tmp 12)], type := 26, pos := "l6_lanes.go:80", after := #[{ on := 3, ground := Ground.data }, { on := 7, ground := Ground.data }], guard := none }) (v := ?_) rfl (by kernel_rfl) (by kernel_rfl) (by kernel_rfl) (by kernel_rfl) (fun _ _ _ h => h) (Or.inl ⟨by rfl, ?_⟩) hS5 ?_
        rotate_left
        · (intro w9 hSw; (try dsimp only at hSw); go_simp; try with_reducible rfl)
        try simp only [Act.put, List.setIfInBounds_toArray, List.set_cons_zero, List.set_cons_succ]
        refine held_one (i := 10) (o := { dst := none, op := Op.store 26 (Operand.tmp 3) (Operand.tmp 13), type := 0, pos := "l6_lanes.go:80", after := #[{ on := 9, ground := Ground.data }, { on := 8, ground := Ground.data }, { on := 7, ground := Ground.chain }, { on := 0, ground := Ground.phase }, { on := 1, ground := Ground.phase }, { on := 2, ground := Ground.phase }, { on := 3, ground := Ground.phase }, { on := 4, ground := Ground.phase }, { on := 5, ground := Ground.phase }, { on := 6, ground := Ground.phase }, { on := 7, ground := Ground.phase }, { on := 8, ground := Ground.phase }, { on := 9, ground := Ground.phase }], guard := none }) (by kernel_rfl) rfl (fun K hK => ?_)
        obtain ⟨⟨u0, u1, u2⟩, uf0, uf1, uf2⟩ := blk_three (N5.out.l _ rfl).2
        go_simp
        refine hK.out _ _ (.inl rfl) ?_
        clear hK K
        try simp only [Act.put, List.setIfInBounds_toArray, List.set_cons_zero, List.set_cons_succ]
        refine held_done (by kernel_rfl) ?_ _
        clear u0 u1 u2 uf0 uf1 uf2
        go_wp2_with fail
        go_meet
        exact ⟨_, _, _, _, _, rfl, ls_first N5.out FD.out zd⟩
    · go_simp
      have N1 := Lib.hid (c1_box N0.out)
      generalize w0.alloc (.cells #[.slice none 0 0, .slice none 0 0, .slice none 0 0] 26) = W1 at N1 ⊢
      have hS1 := CS.out W1 N1.out.below
      refine hK.out _ _ (.inr hS1) ?_
      clear hK K
      try simp only [Act.put, List.setIfInBounds_toArray, List.set_cons_zero, List.set_cons_succ]
      refine held_two (i := 0) (j := 4) (oi := { dst := some 5, op := Op.buildSlice 24 0 #[], type := 24, pos := "l6_lanes.go:80", after := #[], guard := none }) (oj := { dst := some 9, op := Op.buildSlice 24 0 #[], type := 24, pos := "l6_lanes.go:80", after := #[], guard := none }) (by kernel_rfl) rfl rfl (fun K hK => ?_) (fun K hK => ?_)
      · go_simp
        have N2 := Lib.hid (c1_bs1 N1.out)
        generalize W1.alloc (.cells #[] 3) = W2 at N2 ⊢
        have hS2 := CS.out W2 N2.out.below
        refine hK.out _ _ (.inr hS2) ?_
        clear hK K
        try simp only [Act.put, List.setIfInBounds_toArray, List.set_cons_zero, List.set_cons_succ]
        refine held_two (i := 3) (j := 4) (oi := { dst := some 8, op := Op.call { callee := Callee.builtin Builtin.append, args := #[Operand.tmp 5, Operand.tmp 7], argTypes := #[24, 24] }, type := 24, pos := "l6_lanes.go:80", after := #[{ on := 0, ground := Ground.data }, { on := 2, ground := Ground.data }], guard := none }) (oj := { dst := some 9, op := Op.buildSlice 24 0 #[], type := 24, pos := "l6_lanes.go:80", after := #[], guard := none }) (by kernel_rfl) rfl rfl (fun K hK => ?_) (fun K hK => ?_)
        · refine step_app_ints _ rfl (.tmp 5) (.tmp 7) rfl w0.heap.size _ 0 [] rfl N2.out.o1 B m d l.ws rfl (nr_below NB.out N2.out.below) (by omega) N2.out.below.size ?_
          intro v3 W3 ho hg hat
          simp only [List.nil_append, Nat.zero_add] at ho
          have N3 := Lib.hid (c1_app1 N2.out ho hg hat)
          obtain ⟨A3, c3, rfl, -, -, -⟩ := own_form ho
          clear ho hg hat
          have hS3 := CS.out W3 N3.out.below
          refine hK.out _ _ (.inr hS3) ?_
          clear hK K
          try simp only [Act.put, List.setIfInBounds_toArray, List.set_cons_zero, List.set_cons_succ]
          refine held_one (i := 4) (o := { dst := some 9, op := Op.buildSlice 24 0 #[], type := 24, pos := "l6_lanes.go:80", after := #[], guard := none }) (by kernel_rfl) rfl (fun K hK => ?_)
          go_simp
          have N4 := Lib.hid (c1_bs2 N3.out)
          generalize W3.alloc (.cells #[] 3) = W4 at N4 ⊢
          have hS4 := CS.out W4 N4.out.below
          refine hK.out _ _ (.inr hS4) ?_
          clear hK K
          try simp only [Act.put, List.setIfInBounds_toArray, List.set_cons_zero, List.set_cons_succ]
          refine held_one (i := 7) (o := { dst := some 12, op := Op.call { callee := Callee.builtin Builtin.append, args := #[Operand.tmp 9, Operand.tmp 11], argTypes := #[24, 24] }, type := 24, pos := "l6_lanes.go:80", after := #[{ on := 4, ground := Ground.data }, { on := 6, ground := Ground.data }, { on := 3, ground := Ground.chain }], guard := none }) (by kernel_rfl) rfl (fun K hK => ?_)
          refine step_app_ints _ rfl (.tmp 9) (.tmp 11) rfl w0.heap.size _ 0 [] rfl N4.out.o2 C o f l.cs rfl (nr_below NC.out N4.out.below) (by omega) N4.out.below.size ?_
          intro v7 W5 ho hg hat
          simp only [List.nil_append, Nat.zero_add] at ho
          have N5 := Lib.hid (c1_app2 N4.out ho hg hat)
          obtain ⟨A7, c7, rfl, -, -, -⟩ := own_form ho
          clear ho hg hat
          have hS5 := CS.out W5 N5.out.below
          refine hK.out _ _ (.inr hS5) ?_
          clear hK K
          try simp only [Act.put, List.setIfInBounds_toArray, List.set_cons_zero, List.set_cons_succ]
          refine held_take (i := 8) (oi := { dst := some 13, op := Op.build 26 #[(1, Operand.tmp 8), (2, Operand.tmp 12)], type := 26, pos := "l6_lanes.go:80", after := #[{ on := 3, ground := Ground.data }, { on := 7, ground := Ground.data }], guard := none }) (v := ?_) rfl (by kernel_rfl) (by kernel_rfl) (by kernel_rfl) (by kernel_rfl) (fun _ _ _ h => h) (Or.inl ⟨by rfl, ?_⟩) hS5 ?_
          rotate_left
          · (intro w9 hSw; (try dsimp only at hSw); go_simp; try with_reducible rfl)
          try simp only [Act.put, List.setIfInBounds_toArray, List.set_cons_zero, List.set_cons_succ]
          refine held_one (i := 10) (o := { dst := none, op := Op.store 26 (Operand.tmp 3) (Operand.tmp 13), type := 0, pos := "l6_lanes.go:80", after := #[{ on := 9, ground := Ground.data }, { on := 8, ground := Ground.data }, { on := 7, ground := Ground.chain }, { on := 0, ground := Ground.phase }, { on := 1, ground := Ground.phase }, { on := 2, ground := Ground.phase }, { on := 3, ground := Ground.phase }, { on := 4, ground := Ground.phase }, { on := 5, ground := Ground.phase }, { on := 6, ground := Ground.phase }, { on := 7, ground := Ground.phase }, { on := 8, ground := Ground.phase }, { on := 9, ground := Ground.phase }], guard := none }) (by kernel_rfl) rfl (fun K hK => ?_)
          obtain ⟨⟨u0, u1, u2⟩, uf0, uf1, uf2⟩ := blk_three (N5.out.l _ rfl).2
          go_simp
          refine hK.out _ _ (.inl rfl) ?_
          clear hK K
          try simp only [Act.put, List.setIfInBounds_toArray, List.set_cons_zero, List.set_cons_succ]
          refine held_done (by kernel_rfl) ?_ _
          clear u0 u1 u2 uf0 uf1 uf2
          go_wp2_with fail
          go_meet
          exact ⟨_, _, _, _, _, rfl, ls_first N5.out FD.out zd⟩
        · go_simp
          have N3 := Lib.hid (c1_bs2 N2.out)
          generalize W2.alloc (.cells #[] 3) = W3 at N3 ⊢
          have hS3 := CS.out W3 N3.out.below
          refine hK.out _ _ (.inr hS3) ?_
          clear hK K
          try simp only [Act.put, List.setIfInBounds_toArray, List.set_cons_zero, List.set_cons_succ]
          refine held_one (i := 3) (o := { dst := some 8, op := Op.call { callee := Callee.builtin Builtin.append, args := #[Operand.tmp 5, Operand.tmp 7], argTypes := #[24, 24] }, type := 24, pos := "l6_lanes.go:80", after := #[{ on := 0, ground := Ground.data }, { on := 2, ground := Ground.data }], guard := none }) (by kernel_rfl) rfl (fun K hK => ?_)
          refine step_app_ints _ rfl (.tmp 5) (.tmp 7) rfl w0.heap.size _ 0 [] rfl N3.out.o1 B m d l.ws rfl (nr_below NB.out N3.out.below) (by omega) N3.out.below.size ?_
          intro v3 W4 ho hg hat
          simp only [List.nil_append, Nat.zero_add] at ho
          have N4 := Lib.hid (c1_app1 N3.out ho hg hat)
          obtain ⟨A3, c3, rfl, -, -, -⟩ := own_form ho
          clear ho hg hat
          have hS4 := CS.out W4 N4.out.below
          refine hK.out _ _ (.inr hS4) ?_
          clear hK K
          try simp only [Act.put, List.setIfInBounds_toArray, List.set_cons_zero, List.set_cons_succ]
          refine held_one (i := 7) (o := { dst := some 12, op := Op.call { callee := Callee.builtin Builtin.append, args := #[Operand.tmp 9, Operand.tmp 11], argTypes := #[24, 24] }, type := 24, pos := "l6_lanes.go:80", after := #[{ on := 4, ground := Ground.data }, { on := 6, ground := Ground.data }, { on := 3, ground := Ground.chain }], guard := none }) (by kernel_rfl) rfl (fun K hK => ?_)
          refine step_app_ints _ rfl (.tmp 9) (.tmp 11) rfl w0.heap.size _ 0 [] rfl N4.out.o2 C o f l.cs rfl (nr_below NC.out N4.out.below) (by omega) N4.out.below.size ?_
          intro v7 W5 ho hg hat
          simp only [List.nil_append, Nat.zero_add] at ho
          have N5 := Lib.hid (c1_app2 N4.out ho hg hat)
          obtain ⟨A7, c7, rfl, -, -, -⟩ := own_form ho
          clear ho hg hat
          have hS5 := CS.out W5 N5.out.below
          refine hK.out _ _ (.inr hS5) ?_
          clear hK K
          try simp only [Act.put, List.setIfInBounds_toArray, List.set_cons_zero, List.set_cons_succ]
          refine held_take (i := 8) (oi := { dst := some 13, op := Op.build 26 #[(1, Operand.tmp 8), (2, Operand.tmp 12)], type := 26, pos := "l6_lanes.go:80", after := #[{ on := 3, ground := Ground.data }, { on := 7, ground := Ground.data }], guard := none }) (v := ?_) rfl (by kernel_rfl) (by kernel_rfl) (by kernel_rfl) (by kernel_rfl) (fun _ _ _ h => h) (Or.inl ⟨by rfl, ?_⟩) hS5 ?_
          rotate_left
          · (intro w9 hSw; (try dsimp only at hSw); go_simp; try with_reducible rfl)
          try simp only [Act.put, List.setIfInBounds_toArray, List.set_cons_zero, List.set_cons_succ]
          refine held_one (i := 10) (o := { dst := none, op := Op.store 26 (Operand.tmp 3) (Operand.tmp 13), type := 0, pos := "l6_lanes.go:80", after := #[{ on := 9, ground := Ground.data }, { on := 8, ground := Ground.data }, { on := 7, ground := Ground.chain }, { on := 0, ground := Ground.phase }, { on := 1, ground := Ground.phase }, { on := 2, ground := Ground.phase }, { on := 3, ground := Ground.phase }, { on := 4, ground := Ground.phase }, { on := 5, ground := Ground.phase }, { on := 6, ground := Ground.phase }, { on := 7, ground := Ground.phase }, { on := 8, ground := Ground.phase }, { on := 9, ground := Ground.phase }], guard := none }) (by kernel_rfl) rfl (fun K hK => ?_)
          obtain ⟨⟨u0, u1, u2⟩, uf0, uf1, uf2⟩ := blk_three (N5.out.l _ rfl).2
          go_simp
          refine hK.out _ _ (.inl rfl) ?_
          clear hK K
          try simp only [Act.put, List.setIfInBounds_toArray, List.set_cons_zero, List.set_cons_succ]
          refine held_done (by kernel_rfl) ?_ _
          clear u0 u1 u2 uf0 uf1 uf2
          go_wp2_with fail
          go_meet
          exact ⟨_, _, _, _, _, rfl, ls_first N5.out FD.out zd⟩
      · go_simp
        have N2 := Lib.hid (c1_bs2 N1.out)
        generalize W1.alloc (.cells #[] 3) = W2 at N2 ⊢
        have hS2 := CS.out W2 N2.out.below
        refine hK.out _ _ (.inr hS2) ?_
        clear hK K
        try simp only [Act.put, List.setIfInBounds_toArray, List.set_cons_zero, List.set_cons_succ]
        refine held_one (i := 0) (o := { dst := some 5, op := Op.buildSlice 24 0 #[], type := 24, pos := "l6_lanes.go:80", after := #[], guard := none }) (by kernel_rfl) rfl (fun K hK => ?_)
        go_simp
        have N3 := Lib.hid (c1_bs1 N2.out)
        generalize W2.alloc (.cells #[] 3) = W3 at N3 ⊢
        have hS3 := CS.out W3 N3.out.below
        refine hK.out _ _ (.inr hS3) ?_
        clear hK K
        try simp only [Act.put, List.setIfInBounds_toArray, List.set_cons_zero, List.set_cons_succ]
        refine held_one (i := 3) (o := { dst := some 8, op := Op.call { callee := Callee.builtin Builtin.append, args := #[Operand.tmp 5, Operand.tmp 7], argTypes := #[24, 24] }, type := 24, pos := "l6_lanes.go:80", after := #[{ on := 0, ground := Ground.data }, { on := 2, ground := Ground.data }], guard := none }) (by kernel_rfl) rfl (fun K hK => ?_)
        refine step_app_ints _ rfl (.tmp 5) (.tmp 7) rfl w0.heap.size _ 0 [] rfl N3.out.o1 B m d l.ws rfl (nr_below NB.out N3.out.below) (by omega) N3.out.below.size ?_
        intro v3 W4 ho hg hat
        simp only [List.nil_append, Nat.zero_add] at ho
        have N4 := Lib.hid (c1_app1 N3.out ho hg hat)
        obtain ⟨A3, c3, rfl, -, -, -⟩ := own_form ho
        clear ho hg hat
        have hS4 := CS.out W4 N4.out.below
        refine hK.out _ _ (.inr hS4) ?_
        clear hK K
        try simp only [Act.put, List.setIfInBounds_toArray, List.set_cons_zero, List.set_cons_succ]
        refine held_one (i := 7) (o := { dst := some 12, op := Op.call { callee := Callee.builtin Builtin.append, args := #[Operand.tmp 9, Operand.tmp 11], argTypes := #[24, 24] }, type := 24, pos := "l6_lanes.go:80", after := #[{ on := 4, ground := Ground.data }, { on := 6, ground := Ground.data }, { on := 3, ground := Ground.chain }], guard := none }) (by kernel_rfl) rfl (fun K hK => ?_)
        refine step_app_ints _ rfl (.tmp 9) (.tmp 11) rfl w0.heap.size _ 0 [] rfl N4.out.o2 C o f l.cs rfl (nr_below NC.out N4.out.below) (by omega) N4.out.below.size ?_
        intro v7 W5 ho hg hat
        simp only [List.nil_append, Nat.zero_add] at ho
        have N5 := Lib.hid (c1_app2 N4.out ho hg hat)
        obtain ⟨A7, c7, rfl, -, -, -⟩ := own_form ho
        clear ho hg hat
        have hS5 := CS.out W5 N5.out.below
        refine hK.out _ _ (.inr hS5) ?_
        clear hK K
        try simp only [Act.put, List.setIfInBounds_toArray, List.set_cons_zero, List.set_cons_succ]
        refine held_take (i := 8) (oi := { dst := some 13, op := Op.build 26 #[(1, Operand.tmp 8), (2, Operand.tmp 12)], type := 26, pos := "l6_lanes.go:80", after := #[{ on := 3, ground := Ground.data }, { on := 7, ground := Ground.data }], guard := none }) (v := ?_) rfl (by kernel_rfl) (by kernel_rfl) (by kernel_rfl) (by kernel_rfl) (fun _ _ _ h => h) (Or.inl ⟨by rfl, ?_⟩) hS5 ?_
        rotate_left
        · (intro w9 hSw; (try dsimp only at hSw); go_simp; try with_reducible rfl)
        try simp only [Act.put, List.setIfInBounds_toArray, List.set_cons_zero, List.set_cons_succ]
        refine held_one (i := 10) (o := { dst := none, op := Op.store 26 (Operand.tmp 3) (Operand.tmp 13), type := 0, pos := "l6_lanes.go:80", after := #[{ on := 9, ground := Ground.data }, { on := 8, ground := Ground.data }, { on := 7, ground := Ground.chain }, { on := 0, ground := Ground.phase }, { on := 1, ground := Ground.phase }, { on := 2, ground := Ground.phase }, { on := 3, ground := Ground.phase }, { on := 4, ground := Ground.phase }, { on := 5, ground := Ground.phase }, { on := 6, ground := Ground.phase }, { on := 7, ground := Ground.phase }, { on := 8, ground := Ground.phase }, { on := 9, ground := Ground.phase }], guard := none }) (by kernel_rfl) rfl (fun K hK => ?_)
        obtain ⟨⟨u0, u1, u2⟩, uf0, uf1, uf2⟩ := blk_three (N5.out.l _ rfl).2
        go_simp
        refine hK.out _ _ (.inl rfl) ?_
        clear hK K
        try simp only [Act.put, List.setIfInBounds_toArray, List.set_cons_zero, List.set_cons_succ]
        refine held_done (by kernel_rfl) ?_ _
        clear u0 u1 u2 uf0 uf1 uf2
        go_wp2_with fail
        go_meet
        exact ⟨_, _, _, _, _, rfl, ls_first N5.out FD.out zd⟩
  case rest =>
    obtain ⟨LB, B2, d2, C2, f2, rfl, hX⟩ := hcut
    have R0 : Hid (LcRel w #[.slice A n c, .slice B m d, .slice C o f] l LB B2 m d2 C2 o f2 n (.int .i64 0) wc) := Lib.hid ⟨0, none, 0, [], _, Nat.zero_le _, rfl, by simpa using hX⟩
    clear hX F
    go_wp2
    go_loopw [4] (fun i wr => LcRel w #[.slice A n c, .slice B m d, .slice C o f] l LB B2 m d2 C2 o f2 n i wr) (fun i _ => n - (intOf i).toNat)
    case atStart => exact R0.out
    case round =>
      obtain ⟨k, Ao, co, hs, iv, hk, rfl, hC⟩ := hrel
      clear R0
      have HC := Lib.hid hC
      have hbl := hC.fm.below
      obtain ⟨⟨x0, x1, x2⟩, -⟩ := blk_three (fm_blk hC.fm 0 rfl)
      have zb0 := blk_lt (fm_blk hC.fm 0 rfl)
      have zb1 := blk_lt (fm_blk hC.fm 1 rfl)
      have zL := blk_lt hC.out
      have zL2 := hC.hL
      by_cases hlt : k < n
      · obtain ⟨b, off, r, A1, n1, c1, rfl, hb, hr, c0, c1', hfr⟩ := rr_at H.out.r hlt
        have HR := Lib.hid hr
        have n14 : n1 ≤ 4000000000 := (fr_lenF hfr).2
        have NL := Lib.hid (fr_lenF hfr).1
        have C0 := Lib.hid (ls_below HC.out (Below.refl _ wr).drew)
        have BW := Lib.hid (show Below wr.heap.size wr wr.drew from (Below.refl _ wr).drew)
        have HP := Lib.hid (fr_belowF hfr C0.out.fm.below)
        have k0 : (0 : Int) ≤ (k : Int) := by omega
        have k1 : (k : Int) < (n : Int) := by omega
        have CS : Hid (∀ W, Below w.heap.size w W → W.cell? ⟨b, off + k * 2, none⟩ = some (.int .i64 r.q) ∧ W.cell? ⟨b, off + k * 2 + 1, none⟩ = some (.slice A1 n1 c1)) := Lib.hid fun W hB => ⟨((bcell hB).1 b _ hb).trans c0, ((bcell hB).1 b _ hb).trans c1'⟩
        have CL : Hid (∀ W, LS w #[.slice (some ⟨b, off, none⟩) n c, .slice B m d, .slice C o f] LB (.slice Ao k co) (.slice B2 m d2) (.slice C2 o f2) k m o hs iv ⟨l.rs.take k, l.ws, l.cs⟩ W → W.cell? ⟨LB, 0, none⟩ = some (.slice Ao k co) ∧ W.cell? ⟨w.heap.size, 0, none⟩ = some (.slice (some ⟨b, off, none⟩) n c)) := Lib.hid fun W h => by
          obtain ⟨⟨y0, -, -⟩, -⟩ := blk_three h.out
          obtain ⟨⟨z0, -, -⟩, -⟩ := blk_three (fm_blk h.fm 0 rfl)
          exact ⟨y0, z0⟩
        have hS0 := And.intro (CL.out _ C0.out) (CS.out _ C0.out.fm.below)
        clear hC hbl hr hfr c0 c1'
        go_wp2_with fail
        clear x0 x1 x2
        refine held_start (S := (fun w' => (w'.cell? ⟨LB, 0, none⟩ = some (.slice Ao k co) ∧ w'.cell? ⟨w.heap.size, 0, none⟩ = some (.slice (some ⟨b, off, none⟩) n c)) ∧ (w'.cell? ⟨b, off + k * 2, none⟩ = some (.int .i64 r.q) ∧ w'.cell? ⟨b, off + k * 2 + 1, none⟩ = some (.slice A1 n1 c1)))) 11 (by kernel_rfl) ?_
        refine held_take (i := 0) (oi := { dst := some 21, op := Op.fieldAddr 26 (Operand.tmp 3) 0, type := 0, pos := "l6_lanes.go:82", after := #[], guard := none }) (v := ?_) rfl (by kernel_rfl) (by kernel_rfl) (by kernel_rfl) (by kernel_rfl) (fun _ _ _ h => h) (Or.inl ⟨by rfl, ?_⟩) hS0 ?_
        rotate_left
        · (intro w9 hSw; (try dsimp only at hSw); go_simp; try with_reducible rfl)
        try simp only [Act.put, List.setIfInBounds_toArray, List.set_cons_zero, List.set_cons_succ]
        refine held_take (i := 1) (oi := { dst := some 22, op := Op.load 23 (Operand.tmp 21), type := 23, pos := "l6_lanes.go:82", after := #[{ on := 0, ground := Ground.data }], guard := none }) (v := ?_) rfl (by kernel_rfl) (by kernel_rfl) (by kernel_rfl) (by kernel_rfl) (fun _ _ _ h => h) (Or.inl ⟨by rfl, ?_⟩) hS0 ?_
        rotate_left
        · (intro w9 hSw; (try dsimp only at hSw); go_simp; try with_reducible rfl)
        try simp only [Act.put, List.setIfInBounds_toArray, List.set_cons_zero, List.set_cons_succ]
        refine held_take (i := 2) (oi := { dst := some 23, op := Op.fieldAddr 26 (Operand.tmp 1) 0, type := 0, pos := "l6_lanes.go:82", after := #[], guard := none }) (v := ?_) rfl (by kernel_rfl) (by kernel_rfl) (by kernel_rfl) (by kernel_rfl) (fun _ _ _ h => h) (Or.inl ⟨by rfl, ?_⟩) hS0 ?_
        rotate_left
        · (intro w9 hSw; (try dsimp only at hSw); go_simp; try with_reducible rfl)
        try simp only [Act.put, List.setIfInBounds_toArray, List.set_cons_zero, List.set_cons_succ]
        refine held_take (i := 3) (oi := { dst := some 24, op := Op.load 23 (Operand.tmp 23), type := 23, pos := "l6_lanes.go:82", after := #[{ on := 2, ground := Ground.data }], guard := none }) (v := ?_) rfl (by kernel_rfl) (by kernel_rfl) (by kernel_rfl) (by kernel_rfl) (fun _ _ _ h => h) (Or.inl ⟨by rfl, ?_⟩) hS0 ?_
        rotate_left
        · (intro w9 hSw; (try dsimp only at hSw); go_simp; try with_reducible rfl)
        try simp only [Act.put, List.setIfInBounds_toArray, List.set_cons_zero, List.set_cons_succ]
        refine held_take (i := 4) (oi := { dst := some 25, op := Op.move (Operand.tmp 4), type := 3, pos := "l6_lanes.go:82", after := #[], guard := none }) (v := ?_) rfl (by kernel_rfl) (by kernel_rfl) (by kernel_rfl) (by kernel_rfl) (fun _ _ _ h => h) (Or.inl ⟨by rfl, ?_⟩) hS0 ?_
        rotate_left
        · (intro w9 hSw; (try dsimp only at hSw); go_simp; try with_reducible rfl)
        try simp only [Act.put, List.setIfInBounds_toArray, List.set_cons_zero, List.set_cons_succ]
        refine held_take (i := 5) (oi := { dst := some 26, op := Op.indexAddr 23 (Operand.tmp 24) (Operand.tmp 25), type := 0, pos := "l6_lanes.go:82", after := #[{ on := 3, ground := Ground.data }, { on := 4, ground := Ground.data }], guard := none }) (v := ?_) rfl (by kernel_rfl) (by kernel_rfl) (by kernel_rfl) (by kernel_rfl) (fun _ _ _ h => h) (Or.inl ⟨by rfl, ?_⟩) hS0 ?_
        rotate_left
        · (intro w9 hSw; (try dsimp only at hSw); go_simp; try with_reducible rfl)
        try simp only [Act.put, List.setIfInBounds_toArray, List.set_cons_zero, List.set_cons_succ]
        refine held_take (i := 6) (oi := { dst := some 27, op := Op.load 37 (Operand.tmp 26), type := 37, pos := "l6_lanes.go:82", after := #[{ on := 5, ground := Ground.data }], guard := none }) (v := ?_) rfl (by kernel_rfl) (by kernel_rfl) (by kernel_rfl) (by kernel_rfl) (fun _ _ _ h => h) (Or.inl ⟨by rfl, ?_⟩) hS0 ?_
        rotate_left
        · (intro w9 hSw; (try dsimp only at hSw); go_simp; try with_reducible rfl)
        try simp only [Act.put, List.setIfInBounds_toArray, List.set_cons_zero, List.set_cons_succ]
        refine held_one (i := 7) (o := { dst := some 28, op := Op.call { callee := Callee.value (Operand.func 102), args := #[Operand.tmp 27], argTypes := #[37] }, type := 37, pos := "l6_lanes.go:82", after := #[{ on := 6, ground := Ground.data }], guard := none }) (by kernel_rfl) rfl (fun K hK => ?_)
        go_simp
        go_at_call 102
        refine (copyRS_any r.q A1 n1 c1 r.fs _ HP.out).mono ?_
        rintro e w6 ⟨A6, n6, c6, fh, rfl, en, -, -, hd, hb6⟩
        have B6 := Lib.hid (show Below wr.heap.size wr w6 from below_seq BW.out hb6)
        have D6 := Lib.hid (show DO w6 wr.heap.size _ _ _ _ from hd)
        have n64 : n6 ≤ 4000000000 := by have := NL.out; omega
        have hS6 := And.intro (CL.out _ (ls_below HC.out B6.out)) (CS.out _ (ls_below HC.out B6.out).fm.below)
        have z6 := B6.out.size
        clear hb6 hd en
        refine hK.out _ _ (.inr hS6) ?_
        clear hK K
        try simp only [Act.put, List.setIfInBounds_toArray, List.set_cons_zero, List.set_cons_succ]
        refine held_one (i := 8) (o := { dst := some 29, op := Op.buildSlice 23 1 #[(0, Operand.tmp 28)], type := 23, pos := "l6_lanes.go:82", after := #[{ on := 7, ground := Ground.data }], guard := none }) (by kernel_rfl) rfl (fun K hK => ?_)
        go_simp
        have B8 := Lib.hid (below_alloc B6.out (.cells #[.int .i64 r.q, .slice A6 n6 c6] 37))
        have hS8 := And.intro (CL.out _ (ls_below HC.out B8.out)) (CS.out _ (ls_below HC.out B8.out).fm.below)
        refine hK.out _ _ (.inr hS8) ?_
        clear hK K
        try simp only [Act.put, List.setIfInBounds_toArray, List.set_cons_zero, List.set_cons_succ]
        refine held_one (i := 9) (o := { dst := some 30, op := Op.call { callee := Callee.builtin Builtin.append, args := #[Operand.tmp 22, Operand.tmp 29], argTypes := #[23, 23] }, type := 23, pos := "l6_lanes.go:82", after := #[{ on := 1, ground := Ground.data }, { on := 8, ground := Ground.data }, { on := 7, ground := Ground.chain }], guard := none }) (by kernel_rfl) rfl (fun K hK => ?_)
        refine step_app_robs _ rfl (.tmp 22) (.tmp 29) rfl (w.heap.size + 2) (.slice Ao k co) k hs rfl (ls_below HC.out B8.out).lo.r.row (some ⟨w6.heap.size, 0, none⟩) 1 1 [⟨r.q, A6, n6, c6⟩] rfl (hq_single (blk_at rfl _ _)) (by omega) (by simp; omega) ?_
        intro v7 w7 ho7 hg7 hat7
        obtain ⟨A7, c7, rfl, -, -, -⟩ := own_form ho7
        have C7 := Lib.hid (ls_snoc HC.out B8.out (do_below D6.out (below_alloc (Below.refl _ _) _)) (Nat.le_refl _) n64 ho7 hg7 hat7 HR.out)
        have L8 := Lib.hid (ls_below HC.out B8.out)
        have X7 := Lib.hid (blk_grownQ L8.out.out hg7 fun e => HC.out.sa.1 e.symm)
        have F7 := Lib.hid (fm_grownO L8.out.fm hg7 fun x e => ⟨by have := (HC.out.lo.r.row.lt x e).1; omega, fun y hy => by have := (HC.out.lo.r.row.lt x e).1; simp only [List.mem_cons, List.not_mem_nil, or_false] at hy; rcases hy with rfl | rfl <;> (simp only; omega)⟩)
        have hS7 : (w7.cell? ⟨LB, 0, none⟩ = some (.slice Ao k co) ∧ w7.cell? ⟨w.heap.size, 0, none⟩ = some (.slice (some ⟨b, off, none⟩) n c)) ∧ (w7.cell? ⟨b, off + k * 2, none⟩ = some (.int .i64 r.q) ∧ w7.cell? ⟨b, off + k * 2 + 1, none⟩ = some (.slice A1 n1 c1)) := by
          obtain ⟨⟨y0, -, -⟩, -⟩ := blk_three X7.out
          obtain ⟨⟨z0, -, -⟩, -⟩ := blk_three (fm_blk F7.out 0 rfl)
          exact ⟨⟨y0, z0⟩, CS.out _ F7.out.below⟩
        clear hg7 hat7 ho7
        refine hK.out _ _ (.inr hS7) ?_
        clear hK K
        try simp only [Act.put, List.setIfInBounds_toArray, List.set_cons_zero, List.set_cons_succ]
        refine held_take (i := 10) (oi := { dst := some 31, op := Op.fieldAddr 26 (Operand.tmp 3) 0, type := 0, pos := "l6_lanes.go:82", after := #[{ on := 0, ground := Ground.phase }, { on := 1, ground := Ground.phase }, { on := 2, ground := Ground.phase }, { on := 3, ground := Ground.phase }, { on := 4, ground := Ground.phase }, { on := 5, ground := Ground.phase }, { on := 6, ground := Ground.phase }, { on := 7, ground := Ground.phase }, { on := 8, ground := Ground.phase }, { on := 9, ground := Ground.phase }], guard := none }) (v := ?_) rfl (by kernel_rfl) (by kernel_rfl) (by kernel_rfl) (by kernel_rfl) (fun _ _ _ h => h) (Or.inl ⟨by rfl, ?_⟩) hS7 ?_
        rotate_left
        · (intro w9 hSw; (try dsimp only at hSw); go_simp; try with_reducible rfl)
        try simp only [Act.put, List.setIfInBounds_toArray, List.set_cons_zero, List.set_cons_succ]
        refine held_one (i := 11) (o := { dst := none, op := Op.store 23 (Operand.tmp 31) (Operand.tmp 30), type := 0, pos := "l6_lanes.go:82", after := #[{ on := 10, ground := Ground.data }, { on := 9, ground := Ground.data }, { on := 9, ground := Ground.chain }, { on := 0, ground := Ground.phase }, { on := 1, ground := Ground.phase }, { on := 2, ground := Ground.phase }, { on := 3, ground := Ground.phase }, { on := 4, ground := Ground.phase }, { on := 5, ground := Ground.phase }, { on := 6, ground := Ground.phase }, { on := 7, ground := Ground.phase }, { on := 8, ground := Ground.phase }, { on := 9, ground := Ground.phase }], guard := none }) (by kernel_rfl) rfl (fun K hK => ?_)
        obtain ⟨⟨y0, -, -⟩, yf0, -, -⟩ := blk_three X7.out
        go_simp
        refine hK.out _ _ (.inl rfl) ?_
        clear hK K
        try simp only [Act.put, List.setIfInBounds_toArray, List.set_cons_zero, List.set_cons_succ]
        refine held_done (by kernel_rfl) ?_ _
        clear hS0 hS6 hS8 hS7 y0 yf0
        go_wp2
        go_roundw
        case rel => exact ⟨k + 1, A7, c7, _, _, by omega, by go_num, C7.out⟩
        case measure => simp [intOf]; omega
      · obtain rfl : k = n := by omega
        obtain ⟨⟨y0, y1, y2⟩, -⟩ := blk_three hC.out
        obtain ⟨⟨r0, r1, r2⟩, rf0, rf1, rf2⟩ := blk_three (fm_blk hC.fm 1 rfl)
        have HE := Lib.hid (show l.rs.take k = l.rs from List.take_of_length_le (by have := HL.out.1; omega))
        have LL := Lib.hid (show LO wr (w.heap.size + 2) (.slice Ao k co) k (.slice B2 m d2) m (.slice C2 o f2) o hs iv l by have := HC.out.lo; rw [HE.out] at this; exact this)
        clear hC hbl
        go_wp2
        refine bodyPost_ret (v := .agg #[.slice Ao k co, .slice B2 m d2, .slice C2 o f2]) (by simp [results, Try.results68, go_sem, r0, r1, r2]) rfl ⟨Ao, k, co, B2, m, d2, C2, o, f2, hs, iv, rfl, HL.out.1.symm, HL.out.2.1.symm, HL.out.2.2.symm, ln_done LL.out HC.out.hi _ _ _, fun j hj => Nat.le_trans (by omega) (HC.out.hi j hj), ?_⟩
        exact Below.setCell (Below.setCell (Below.setCell HC.out.fm.below (by simp) _) (by simp) _) (by simp) _
end Go.Proofs.Ytkmoiphcpmhacaa
