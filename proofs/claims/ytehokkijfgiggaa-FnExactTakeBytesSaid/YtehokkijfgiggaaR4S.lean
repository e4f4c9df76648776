/-
  Chapter 5: copies of robins: what the model's function returns. Conditions: a robin has at most 4000000000 flows, a flow at most 4000000000 packets.
-/
import Derived.Test.YtehokkijfgiggaaR4
import Derived.Test.YtehokkijfgiggaaHL
namespace Go.Proofs.Ytehokkijfgiggaa
open Go.RowKit

theorem do_snoc {w w4 w5 : World} {lo s n m c4 : Nat} {v v' : Value} {A4 : Option Addr} {hs : List Fh} {fs : List Flw} {f : Flw} (D : DO w lo v n hs fs) (hb : Below w.heap.size w w4) (ho : w4.ownsRow s 28 4 (.slice A4 m c4) m (pcells f.ws)) (hs' : w.heap.size ≤ s) (hm : m ≤ 4000000000) (hlo : lo ≤ w.heap.size)
    (hr : w5.ownsRow lo 40 3 v' (n + 1) (fcells (hs ++ [⟨f.peer, f.dfc, A4, m, c4⟩]))) (hg : w4.grownBy w5 v.ownBlock) (hat : v'.ownBlock = v.ownBlock ∨ v'.ownBlock = some w4.heap.size) :
    DO w5 lo v' (n + 1) (hs ++ [⟨f.peer, f.dfc, A4, m, c4⟩]) (fs ++ [f]) := by
  have hz := hb.size
  have hv : ∀ b, v.ownBlock = some b → b < w.heap.size := fun b e => (D.row.lt b e).2
  have hnew : ∀ b, Value.ownBlock (.slice A4 m c4) = some b → w.heap.size ≤ b ∧ b < w4.heap.size := fun b e => by have := ho.lt b e; omega
  have hold : ∀ (j : Nat) (q : Fh), hs[j]? = some q → ∀ b, q.sl.ownBlock = some b → b < w.heap.size ∧ v.ownBlock ≠ some b := fun j q hq b e => by
    have hjl : j < fs.length := by
      rw [← D.len]
      rcases Nat.lt_or_ge j hs.length with hlt | hge
      · exact hlt
      · rw [List.getElem?_eq_none hge] at hq; cases hq
    have hA := D.all j q _ hq (List.getElem?_eq_getElem hjl)
    exact ⟨(hA.2.2.2.1.lt b e).2, hA.2.2.2.2 b e⟩
  have kept : ∀ {u : Value} {e : TypeId} {k c s2 : Nat} {xs : List Value}, w4.ownsRow s2 e k u c xs → (∀ b, u.ownBlock = some b → v.ownBlock ≠ some b) → w5.ownsRow s2 e k u c xs := by
    intro u e k c s2 xs h hu
    refine h.kept hg ?_
    rcases hub : u.ownBlock with _ | b
    · exact .inl rfl
    · exact .inr fun e => hu b hub e.symm
  have hv' : ∀ b, b < w4.heap.size → v.ownBlock ≠ some b → v'.ownBlock ≠ some b := fun b hlt hne e => by
    rcases hat with h | h
    · exact hne (h.symm.trans e)
    · rw [h] at e; injection e with e; omega
  have hget : ∀ (j : Nat) (q : Fh), (hs ++ [(⟨f.peer, f.dfc, A4, m, c4⟩ : Fh)])[j]? = some q → hs[j]? = some q ∨ (j = hs.length ∧ q = ⟨f.peer, f.dfc, A4, m, c4⟩) := by
    intro j q e
    rcases Nat.lt_or_ge j hs.length with hlt | hge
    · rw [List.getElem?_append_left hlt] at e; exact .inl e
    · rw [List.getElem?_append_right hge] at e
      have h0 : j - hs.length = 0 := by
        rcases Nat.eq_zero_or_pos (j - hs.length) with e0 | e0
        · exact e0
        · rw [List.getElem?_eq_none (by simp; omega)] at e; cases e
      rw [h0] at e
      exact .inr ⟨by omega, (Option.some.inj e).symm⟩
  refine ⟨hr, by simp [D.len], fun j q f' h1 h2 => ?_, fun i j q q2 hij h1 h2 b hb1 hb2 => ?_⟩
  · rcases hget j q h1 with hq | ⟨rfl, rfl⟩
    · have hjl : j < fs.length := by
        rw [← D.len]
        rcases Nat.lt_or_ge j hs.length with hlt | hge
        · exact hlt
        · rw [List.getElem?_eq_none hge] at hq; cases hq
      rw [List.getElem?_append_left hjl] at h2
      obtain ⟨e1, e2, e3, e4, e5⟩ := D.all j q f' hq h2
      exact ⟨e1, e2, e3, kept (own_below e4 hb) e5, fun b e => hv' b (by have := (hold j q hq b e).1; omega) (e5 b e)⟩
    · rw [D.len, List.getElem?_append_right (Nat.le_refl _), Nat.sub_self] at h2
      obtain rfl : f = f' := Option.some.inj h2
      exact ⟨rfl, rfl, hm, own_mono (kept ho fun b e e2 => by have := hnew b e; have := hv b e2; omega) (by omega), fun b e => hv' b (hnew b e).2 fun e2 => by have := hnew b e; have := hv b e2; omega⟩
  · rcases hget i q h1 with hq | ⟨rfl, rfl⟩
    · rcases hget j q2 h2 with hq2 | ⟨rfl, rfl⟩
      · exact D.apart i j q q2 hij hq hq2 b hb1 hb2
      · have := (hold i q hq b hb1).1
        have := (hnew b hb2).1
        omega
    · rcases hget j q2 h2 with hq2 | ⟨rfl, rfl⟩
      · have := (hold j q2 hq2 b hb2).1
        have := (hnew b hb1).1
        omega
      · exact hij rfl
/-- the copy as far as it goes: the boxes, the copy's own box, the flows -/
structure CS (w : World) (q : Int) (A : Option Addr) (n c : Nat) (Ao : Option Addr) (k co : Nat) (hs : List Fh) (fs : List Flw) (wr : World) : Prop where
  fm : Fm w [⟨w.heap.size, w.heap.size + 1, BoxP w.heap.size 25 #[.int .i64 q, (.slice A n c)]⟩, ⟨w.heap.size + 1, w.heap.size + 2, BoxP (w.heap.size + 1) 25 #[.int .i64 0, (.slice none 0 0)]⟩] wr
  out : Blk wr (w.heap.size + 3) 25 #[.int .i64 q, (.slice Ao k co)]
  fl : DO wr (w.heap.size + 2) (.slice Ao k co) k hs fs
  sep : ∀ b, Value.ownBlock (.slice Ao k co) = some b → b ≠ w.heap.size + 3
  seps : ∀ (j : Nat) (h : Fh), hs[j]? = some h → ∀ b, h.sl.ownBlock = some b → b ≠ w.heap.size + 3
theorem do_ne {w : World} {lo : Nat} {v : Value} {n : Nat} {hs : List Fh} {fs : List Flw} (h : DO w lo v n hs fs) {p : Addr} (h0 : ∀ b, v.ownBlock = some b → b ≠ p.block) (h1 : ∀ (j : Nat) (g : Fh), hs[j]? = some g → ∀ b, g.sl.ownBlock = some b → b ≠ p.block) (u : Value) : DO (w.setCell p u) lo v n hs fs :=
  do_grown h (g_set (g_refl w (some p.block)) (.inl rfl) u) (fun b e e2 => h0 b e2 (by injection e with e; exact e.symm)) fun k g hk b e e2 => h1 k g hk b e2 (by injection e with e; exact e.symm)
theorem cs_below {w w1 w2 : World} {q : Int} {A Ao : Option Addr} {n c k co : Nat} {hs : List Fh} {fs : List Flw} (h : CS w q A n c Ao k co hs fs w1) (hb : Below w1.heap.size w1 w2) : CS w q A n c Ao k co hs fs w2 :=
  ⟨fm_below h.fm hb, blk_below h.out hb (blk_lt h.out), do_below h.fl hb, h.sep, h.seps⟩
theorem cs_snoc {w w1 w8 w7 : World} {q : Int} {A Ao A6 A7 : Option Addr} {n c k co m c6 c7 s : Nat} {hs : List Fh} {fs : List Flw} {f : Flw} (C : CS w q A n c Ao k co hs fs w1) (hb : Below w1.heap.size w1 w8)
    (ho : w8.ownsRow s 28 4 (.slice A6 m c6) m (pcells f.ws)) (hs' : w1.heap.size ≤ s) (hm : m ≤ 4000000000)
    (hr : w7.ownsRow (w.heap.size + 2) 40 3 (.slice A7 (k + 1) c7) (k + 1) (fcells (hs ++ [⟨f.peer, f.dfc, A6, m, c6⟩]))) (hg : w8.grownBy w7 (Value.ownBlock (.slice Ao k co)))
    (hat : Value.ownBlock (.slice A7 (k + 1) c7) = Value.ownBlock (.slice Ao k co) ∨ Value.ownBlock (.slice A7 (k + 1) c7) = some w8.heap.size) :
    CS w q A n c A7 (k + 1) c7 (hs ++ [⟨f.peer, f.dfc, A6, m, c6⟩]) (fs ++ [f]) (w7.setCell ⟨w.heap.size + 3, 1, none⟩ (.slice A7 (k + 1) c7)) := by
  have z1 := blk_lt C.out
  have z8 := hb.size
  have D := do_snoc (lo := w.heap.size + 2) C.fl hb ho hs' hm (by omega) hr hg hat
  have sep : ∀ b, Value.ownBlock (.slice A7 (k + 1) c7) = some b → b ≠ w.heap.size + 3 := fun b e => by
    rcases hat with h | h
    · exact C.sep b (h.symm.trans e)
    · rw [h] at e; injection e with e; omega
  have seps : ∀ (j : Nat) (h : Fh), (hs ++ [(⟨f.peer, f.dfc, A6, m, c6⟩ : Fh)])[j]? = some h → ∀ b, h.sl.ownBlock = some b → b ≠ w.heap.size + 3 := fun j h hj b e => by
    rcases Nat.lt_or_ge j hs.length with hlt | hge
    · rw [List.getElem?_append_left hlt] at hj; exact C.seps j h hj b e
    · rw [List.getElem?_append_right hge] at hj
      have h0 : j - hs.length = 0 := by
        rcases Nat.eq_zero_or_pos (j - hs.length) with e0 | e0
        · exact e0
        · rw [List.getElem?_eq_none (by simp; omega)] at hj; cases hj
      rw [h0] at hj
      obtain rfl : (⟨f.peer, f.dfc, A6, m, c6⟩ : Fh) = h := Option.some.inj hj
      have := (ho.lt b e).1
      omega
  have F7 := fm_grownO (fm_below C.fm hb) hg fun b e => ⟨by have := (C.fl.row.lt b e).1; omega, fun x hx => by
    have := (C.fl.row.lt b e).1
    simp only [List.mem_cons, List.not_mem_nil, or_false] at hx
    rcases hx with rfl | rfl <;> (simp only; omega)⟩
  refine ⟨fm_out F7 (fun x hx => ?_) (by omega) _, ?_, do_ne D (fun b e => sep b e) (fun j h hj b e => seps j h hj b e) _, sep, seps⟩
  · simp only [List.mem_cons, List.not_mem_nil, or_false] at hx
    rcases hx with rfl | rfl <;> (simp only; omega)
  · exact blk_set (blk_grownQ (blk_below C.out hb z1) hg (fun e => C.sep _ e.symm rfl)) 1 _
theorem cs_hold {w w1 : World} {q : Int} {A Ao : Option Addr} {n c k co b5 : Nat} {hs : List Fh} {fs : List Flw} {x d : Int} {A1 : Option Addr} {n1 c1 : Nat} (C : CS w q A n c Ao k co hs fs w1) (B : Blk w1 b5 40 #[.int .i64 x, .int .i64 d, (.slice A1 n1 c1)]) :
    (w1.cell? ⟨w.heap.size + 3, 0, none⟩ = some (.int .i64 q) ∧ w1.cell? ⟨w.heap.size + 3, 1, none⟩ = some (.slice Ao k co)) ∧ (w1.cell? ⟨b5, 0, none⟩ = some (.int .i64 x) ∧ w1.cell? ⟨b5, 1, none⟩ = some (.int .i64 d) ∧ w1.cell? ⟨b5, 2, none⟩ = some (.slice A1 n1 c1)) ∧
      Fm w [⟨w.heap.size, w.heap.size + 1, BoxP w.heap.size 25 #[.int .i64 q, (.slice A n c)]⟩, ⟨w.heap.size + 1, w.heap.size + 2, BoxP (w.heap.size + 1) 25 #[.int .i64 0, (.slice none 0 0)]⟩] w1 :=
  ⟨⟨blk_cell C.out 0, blk_cell C.out 1⟩, (blk_three B).1, C.fm⟩
/-- the same behind the append of a flow -/
theorem cs_held {w w1 w8 w7 : World} {q : Int} {A Ao : Option Addr} {n c k co b5 : Nat} {hs : List Fh} {fs : List Flw} {x d : Int} {A1 : Option Addr} {n1 c1 : Nat} (C : CS w q A n c Ao k co hs fs w1) (hb : Below w1.heap.size w1 w8) (B : Blk w8 b5 40 #[.int .i64 x, .int .i64 d, (.slice A1 n1 c1)]) (h5 : w1.heap.size ≤ b5)
    (hg : w8.grownBy w7 (Value.ownBlock (.slice Ao k co))) :
    Blk w7 (w.heap.size + 3) 25 #[.int .i64 q, (.slice Ao k co)] ∧ (w7.cell? ⟨b5, 0, none⟩ = some (.int .i64 x) ∧ w7.cell? ⟨b5, 1, none⟩ = some (.int .i64 d) ∧ w7.cell? ⟨b5, 2, none⟩ = some (.slice A1 n1 c1)) ∧
      Fm w [⟨w.heap.size, w.heap.size + 1, BoxP w.heap.size 25 #[.int .i64 q, (.slice A n c)]⟩, ⟨w.heap.size + 1, w.heap.size + 2, BoxP (w.heap.size + 1) 25 #[.int .i64 0, (.slice none 0 0)]⟩] w7 :=
  ⟨blk_grownQ (blk_below C.out hb (blk_lt C.out)) hg (fun e => C.sep _ e.symm rfl), (blk_three (blk_grownQ B hg (fun e => by have := (C.fl.row.lt _ e.symm).2; omega))).1, fm_grownO (fm_below C.fm hb) hg fun b e => ⟨by have := (C.fl.row.lt b e).1; omega, fun x hx => by
    have := (C.fl.row.lt b e).1
    simp only [List.mem_cons, List.not_mem_nil, or_false] at hx
    rcases hx with rfl | rfl <;> (simp only; omega)⟩⟩
def CsRel (w : World) (q : Int) (A : Option Addr) (n c : Nat) (fs : List Flw) (i : Value) (wr : World) : Prop :=
  ∃ k Ao co hs, k ≤ n ∧ i = .int .i64 (k : Int) ∧ CS w q A n c Ao k co hs (fs.take k) wr
set_option maxHeartbeats 4000000 in
theorem copyRS_any (q : Int) (A : Option Addr) (n c : Nat) (fs : List Flw) (w : World) (h : FR w A n fs) :
    Calls Try.prog 60 #[.agg #[.int .i64 q, (.slice A n c)]] w (RPost w q fs) := by
  have H := Lib.hid h
  have HL := Lib.hid (fr_lenF h)
  have n4 : n ≤ 4000000000 := HL.out.2
  have F := Lib.hid (fm_two w 25 25 #[.int .i64 q, (.slice A n c)] #[.int .i64 0, (.slice none 0 0)])
  clear h
  have R0 : Hid (CsRel w q A n c fs (.int .i64 0) ((((w.alloc (.cells #[.int .i64 q, (.slice A n c)] 25)).alloc (.cells #[.int .i64 0, (.slice none 0 0)] 25)).alloc (.cells #[] 40)).alloc (.cells #[.int .i64 q, (.slice (some ⟨w.heap.size + 2, 0, none⟩) 0 0)] 25))) := Lib.hid
    ⟨0, some ⟨w.heap.size + 2, 0, none⟩, 0, [], Nat.zero_le _, rfl, fm_alloc (fm_alloc F.out _) _, blk_at (by simp) _ _, ⟨own_mono (World.ownsRow.alloc (own_emptyF (by simp)) _) (by simp), rfl, fun k h f e => by simp at e, fun i j h g _ e => by simp at e⟩, fun b e => by simp [Value.ownBlock] at e; omega, fun j h e => by simp at e⟩
  clear F
  go_enter Try.func60, Try.ntmps60
  go_wp2
  go_loopw [4] (fun i wr => CsRel w q A n c fs i wr) (fun i _ => n - (intOf i).toNat)
  case atStart => exact R0.out
  case round =>
    obtain ⟨k, Ao, co, hs, hk, rfl, hC⟩ := hrel
    clear R0
    have HC := Lib.hid hC
    have hbl := hC.fm.below
    obtain ⟨g0, g1, -⟩ := blk_two (fm_blk hC.fm 0 rfl)
    obtain ⟨l0, l1, lf0, lf1⟩ := blk_two hC.out
    have zb0 := blk_lt (fm_blk hC.fm 0 rfl)
    have zb1 := blk_lt (fm_blk hC.fm 1 rfl)
    have zb3 := blk_lt hC.out
    by_cases hlt : k < n
    · obtain ⟨b, off, f, A1, n1, c1, rfl, hb, hf, c0, c1', c2', hpr, hc1, hn1⟩ := fr_cells (fr_belowF H.out hbl) hlt
      have HF := Lib.hid hf
      have HP := Lib.hid hpr
      obtain ⟨x, d, ws⟩ := f
      simp only at c0 c1' c2'
      clear hf hpr hC
      have C0 := Lib.hid (cs_below HC.out (below_alloc (Below.refl _ _) (.cells #[.int .i64 x, .int .i64 d, (.slice A1 n1 c1)] 40)))
      have HT0 := Lib.hid (World.ownsRow.drew (own_emptyQ (W := wr.alloc (.cells #[.int .i64 x, .int .i64 d, (.slice A1 n1 c1)] 40)) (b := wr.heap.size + 1) (by simp)))
      have P0 := Lib.hid (pr_drewN (pr_alloc (pr_alloc HP.out (.cells #[.int .i64 x, .int .i64 d, (.slice A1 n1 c1)] 40)) (.cells #[] 28)) 1)
      have BF := Lib.hid (blk_new wr 40 #[.int .i64 x, .int .i64 d, (.slice A1 n1 c1)])
      have hS0 := cs_hold (cs_below C0.out (Below.drew (Below.refl _ _))) (blk_drewN BF.out 1)
      have HE := Lib.hid (show fs.take k ++ [⟨x, d, ws⟩] = fs.take (k + 1) by rw [List.take_add_one, HF.out]; rfl)
      clear l0 l1 lf0 lf1
      go_wp2_with fail
      refine held_start (S := (fun w' => (w'.cell? ⟨w.heap.size + 3, 0, none⟩ = some (.int .i64 q) ∧ w'.cell? ⟨w.heap.size + 3, 1, none⟩ = some (.slice Ao k co)) ∧ (w'.cell? ⟨wr.heap.size, 0, none⟩ = some (.int .i64 x) ∧ w'.cell? ⟨wr.heap.size, 1, none⟩ = some (.int .i64 d) ∧ w'.cell? ⟨wr.heap.size, 2, none⟩ = some (.slice A1 n1 c1)) ∧ Fm w [⟨w.heap.size, w.heap.size + 1, BoxP w.heap.size 25 #[.int .i64 q, (.slice (some ⟨b, off, none⟩) n c)]⟩, ⟨w.heap.size + 1, w.heap.size + 2, BoxP (w.heap.size + 1) 25 #[.int .i64 0, (.slice none 0 0)]⟩] w')) 14 (by kernel_rfl) ?_
      refine held_take (i := 0) (oi := { dst := some 22, op := Op.fieldAddr 25 (Operand.tmp 3) 1, type := 0, pos := "l5_robins.go:51", after := #[], guard := none }) (v := ?_) rfl (by kernel_rfl) (by kernel_rfl) (by kernel_rfl) (by kernel_rfl) (fun _ _ _ h => h) (Or.inl ⟨by rfl, ?_⟩) hS0 ?_
      rotate_left
      · (intro w9 hSw; (try dsimp only at hSw); go_simp; try with_reducible rfl)
      try simp only [Act.put, List.setIfInBounds_toArray, List.set_cons_zero, List.set_cons_succ]
      refine held_take (i := 1) (oi := { dst := some 23, op := Op.load 23 (Operand.tmp 22), type := 23, pos := "l5_robins.go:51", after := #[{ on := 0, ground := Ground.data }], guard := none }) (v := ?_) rfl (by kernel_rfl) (by kernel_rfl) (by kernel_rfl) (by kernel_rfl) (fun _ _ _ h => h) (Or.inl ⟨by rfl, ?_⟩) hS0 ?_
      rotate_left
      · (intro w9 hSw; (try dsimp only at hSw); go_simp; try with_reducible rfl)
      try simp only [Act.put, List.setIfInBounds_toArray, List.set_cons_zero, List.set_cons_succ]
      refine held_take (i := 2) (oi := { dst := some 24, op := Op.fieldAddr 40 (Operand.tmp 5) 0, type := 0, pos := "l5_robins.go:51", after := #[], guard := none }) (v := ?_) rfl (by kernel_rfl) (by kernel_rfl) (by kernel_rfl) (by kernel_rfl) (fun _ _ _ h => h) (Or.inl ⟨by rfl, ?_⟩) hS0 ?_
      rotate_left
      · (intro w9 hSw; (try dsimp only at hSw); go_simp; try with_reducible rfl)
      try simp only [Act.put, List.setIfInBounds_toArray, List.set_cons_zero, List.set_cons_succ]
      refine held_take (i := 3) (oi := { dst := some 25, op := Op.load 3 (Operand.tmp 24), type := 3, pos := "l5_robins.go:51", after := #[{ on := 2, ground := Ground.data }], guard := none }) (v := ?_) rfl (by kernel_rfl) (by kernel_rfl) (by kernel_rfl) (by kernel_rfl) (fun _ _ _ h => h) (Or.inl ⟨by rfl, ?_⟩) hS0 ?_
      rotate_left
      · (intro w9 hSw; (try dsimp only at hSw); go_simp; try with_reducible rfl)
      try simp only [Act.put, List.setIfInBounds_toArray, List.set_cons_zero, List.set_cons_succ]
      refine held_take (i := 4) (oi := { dst := some 26, op := Op.fieldAddr 40 (Operand.tmp 5) 1, type := 0, pos := "l5_robins.go:51", after := #[], guard := none }) (v := ?_) rfl (by kernel_rfl) (by kernel_rfl) (by kernel_rfl) (by kernel_rfl) (fun _ _ _ h => h) (Or.inl ⟨by rfl, ?_⟩) hS0 ?_
      rotate_left
      · (intro w9 hSw; (try dsimp only at hSw); go_simp; try with_reducible rfl)
      try simp only [Act.put, List.setIfInBounds_toArray, List.set_cons_zero, List.set_cons_succ]
      refine held_take (i := 5) (oi := { dst := some 27, op := Op.load 3 (Operand.tmp 26), type := 3, pos := "l5_robins.go:51", after := #[{ on := 4, ground := Ground.data }], guard := none }) (v := ?_) rfl (by kernel_rfl) (by kernel_rfl) (by kernel_rfl) (by kernel_rfl) (fun _ _ _ h => h) (Or.inl ⟨by rfl, ?_⟩) hS0 ?_
      rotate_left
      · (intro w9 hSw; (try dsimp only at hSw); go_simp; try with_reducible rfl)
      try simp only [Act.put, List.setIfInBounds_toArray, List.set_cons_zero, List.set_cons_succ]
      refine held_take (i := 7) (oi := { dst := some 29, op := Op.fieldAddr 40 (Operand.tmp 5) 2, type := 0, pos := "l5_robins.go:51", after := #[], guard := none }) (v := ?_) rfl (by kernel_rfl) (by kernel_rfl) (by kernel_rfl) (by kernel_rfl) (fun _ _ _ h => h) (Or.inl ⟨by rfl, ?_⟩) hS0 ?_
      rotate_left
      · (intro w9 hSw; (try dsimp only at hSw); go_simp; try with_reducible rfl)
      try simp only [Act.put, List.setIfInBounds_toArray, List.set_cons_zero, List.set_cons_succ]
      refine held_take (i := 8) (oi := { dst := some 30, op := Op.load 32 (Operand.tmp 29), type := 32, pos := "l5_robins.go:51", after := #[{ on := 7, ground := Ground.data }], guard := none }) (v := ?_) rfl (by kernel_rfl) (by kernel_rfl) (by kernel_rfl) (by kernel_rfl) (fun _ _ _ h => h) (Or.inl ⟨by rfl, ?_⟩) hS0 ?_
      rotate_left
      · (intro w9 hSw; (try dsimp only at hSw); go_simp; try with_reducible rfl)
      try simp only [Act.put, List.setIfInBounds_toArray, List.set_cons_zero, List.set_cons_succ]
      refine held_one (i := 6) (o := { dst := some 28, op := Op.buildSlice 32 0 #[], type := 32, pos := "l5_robins.go:51", after := #[], guard := none }) (by kernel_rfl) rfl (fun K hK => ?_)
      go_simp
      have hS1 := cs_hold (cs_below C0.out (below_alloc (Below.refl _ _) (.cells #[] 28)).drew) (blk_alloc (blk_drewN BF.out 1) (.cells #[] 28))
      refine hK.out _ _ (.inr hS1) ?_
      clear hK K
      try simp only [Act.put, List.setIfInBounds_toArray, List.set_cons_zero, List.set_cons_succ]
      refine held_one (i := 9) (o := { dst := some 31, op := Op.call { callee := Callee.builtin Builtin.append, args := #[Operand.tmp 28, Operand.tmp 30], argTypes := #[32, 32] }, type := 32, pos := "l5_robins.go:51", after := #[{ on := 6, ground := Ground.data }, { on := 8, ground := Ground.data }], guard := none }) (by kernel_rfl) rfl (fun K hK => ?_)
      refine step_app_pkts _ rfl (.tmp 28) (.tmp 30) rfl (wr.alloc (.cells #[.int .i64 x, .int .i64 d, (.slice A1 n1 c1)] 40)).heap.size (.slice (some ⟨wr.heap.size + 1, 0, none⟩) 0 0) 0 [] rfl HT0.out A1 n1 c1 ws rfl P0.out (by omega) (by simp) ?_
      intro v6 w6 ho6 hg6 hat6
      simp only [List.nil_append, Nat.zero_add] at ho6
      have T6 := Lib.hid (app_belowQ HT0.out (Below.drew (below_alloc (Below.refl _ _) _)) hg6 (by simp))
      obtain ⟨A6, c6, rfl, -, -, -⟩ := own_form ho6
      have O6 := Lib.hid ho6
      have hS6 := cs_hold (cs_below C0.out T6.out) (blk_below BF.out T6.out (by simp))
      clear hg6 hat6 ho6
      refine hK.out _ _ (.inr hS6) ?_
      clear hK K
      try simp only [Act.put, List.setIfInBounds_toArray, List.set_cons_zero, List.set_cons_succ]
      refine held_take (i := 10) (oi := { dst := some 32, op := Op.build 40 #[(0, Operand.tmp 25), (1, Operand.tmp 27), (2, Operand.tmp 31)], type := 40, pos := "l5_robins.go:51", after := #[{ on := 3, ground := Ground.data }, { on := 5, ground := Ground.data }, { on := 9, ground := Ground.data }], guard := none }) (v := ?_) rfl (by kernel_rfl) (by kernel_rfl) (by kernel_rfl) (by kernel_rfl) (fun _ _ _ h => h) (Or.inl ⟨by rfl, ?_⟩) hS6 ?_
      rotate_left
      · (intro w9 hSw; (try dsimp only at hSw); go_simp; try with_reducible rfl)
      try simp only [Act.put, List.setIfInBounds_toArray, List.set_cons_zero, List.set_cons_succ]
      refine held_one (i := 11) (o := { dst := some 33, op := Op.buildSlice 23 1 #[(0, Operand.tmp 32)], type := 23, pos := "l5_robins.go:51", after := #[{ on := 10, ground := Ground.data }], guard := none }) (by kernel_rfl) rfl (fun K hK => ?_)
      go_simp
      have T8 := Lib.hid (below_seq T6.out (below_alloc (Below.refl _ _) (.cells #[.int .i64 x, .int .i64 d, (.slice A6 n1 c6)] 40)))
      have hS8 := cs_hold (cs_below C0.out T8.out) (blk_below BF.out T8.out (by simp))
      refine hK.out _ _ (.inr hS8) ?_
      clear hK K
      try simp only [Act.put, List.setIfInBounds_toArray, List.set_cons_zero, List.set_cons_succ]
      refine held_one (i := 12) (o := { dst := some 34, op := Op.call { callee := Callee.builtin Builtin.append, args := #[Operand.tmp 23, Operand.tmp 33], argTypes := #[23, 23] }, type := 23, pos := "l5_robins.go:51", after := #[{ on := 1, ground := Ground.data }, { on := 11, ground := Ground.data }, { on := 9, ground := Ground.chain }], guard := none }) (by kernel_rfl) rfl (fun K hK => ?_)
      refine step_app_flws _ rfl (.tmp 23) (.tmp 33) rfl (w.heap.size + 2) (.slice Ao k co) k hs rfl (cs_below C0.out T8.out).fl.row (some ⟨w6.heap.size, 0, none⟩) 1 1 [⟨x, d, A6, n1, c6⟩] rfl (hr_single (blk_at rfl _ _)) (by omega) (by have := T8.out.size; simp at this ⊢; omega) ?_
      intro v7 w7 ho7 hg7 hat7
      obtain ⟨A7, c7, rfl, -, -, -⟩ := own_form ho7
      have C7 := Lib.hid (cs_snoc (f := ⟨x, d, ws⟩) C0.out T8.out (O6.out.alloc _) (by simp) hn1 ho7 hg7 hat7)
      obtain ⟨B7, hS7a, hS7b⟩ := cs_held HC.out (below_seq1 (Below.refl _ _) T8.out) (blk_below BF.out T8.out (by simp)) (Nat.le_refl _) hg7
      obtain ⟨l0', l1', lf0', lf1'⟩ := blk_two B7
      have hS7 := And.intro (And.intro l0' l1') (And.intro hS7a hS7b)
      clear hg7 hat7 ho7
      refine hK.out _ _ (.inr hS7) ?_
      clear hK K
      try simp only [Act.put, List.setIfInBounds_toArray, List.set_cons_zero, List.set_cons_succ]
      refine held_take (i := 13) (oi := { dst := some 35, op := Op.fieldAddr 25 (Operand.tmp 3) 1, type := 0, pos := "l5_robins.go:51", after := #[{ on := 0, ground := Ground.phase }, { on := 1, ground := Ground.phase }, { on := 2, ground := Ground.phase }, { on := 3, ground := Ground.phase }, { on := 4, ground := Ground.phase }, { on := 5, ground := Ground.phase }, { on := 6, ground := Ground.phase }, { on := 7, ground := Ground.phase }, { on := 8, ground := Ground.phase }, { on := 9, ground := Ground.phase }, { on := 10, ground := Ground.phase }, { on := 11, ground := Ground.phase }, { on := 12, ground := Ground.phase }], guard := none }) (v := ?_) rfl (by kernel_rfl) (by kernel_rfl) (by kernel_rfl) (by kernel_rfl) (fun _ _ _ h => h) (Or.inl ⟨by rfl, ?_⟩) hS7 ?_
      rotate_left
      · (intro w9 hSw; (try dsimp only at hSw); go_simp; try with_reducible rfl)
      try simp only [Act.put, List.setIfInBounds_toArray, List.set_cons_zero, List.set_cons_succ]
      refine held_one (i := 14) (o := { dst := none, op := Op.store 23 (Operand.tmp 35) (Operand.tmp 34), type := 0, pos := "l5_robins.go:51", after := #[{ on := 13, ground := Ground.data }, { on := 12, ground := Ground.data }, { on := 12, ground := Ground.chain }, { on := 0, ground := Ground.phase }, { on := 1, ground := Ground.phase }, { on := 2, ground := Ground.phase }, { on := 3, ground := Ground.phase }, { on := 4, ground := Ground.phase }, { on := 5, ground := Ground.phase }, { on := 6, ground := Ground.phase }, { on := 7, ground := Ground.phase }, { on := 8, ground := Ground.phase }, { on := 9, ground := Ground.phase }, { on := 10, ground := Ground.phase }, { on := 11, ground := Ground.phase }, { on := 12, ground := Ground.phase }], guard := none }) (by kernel_rfl) rfl (fun K hK => ?_)
      go_simp
      refine hK.out _ _ (.inl rfl) ?_
      clear hK K
      try simp only [Act.put, List.setIfInBounds_toArray, List.set_cons_zero, List.set_cons_succ]
      refine held_done (by kernel_rfl) ?_ _
      clear hS0 hS1 hS6 hS8 hS7 hS7a hS7b l0' l1' lf0' lf1'
      go_wp2
      go_roundw
      case rel => exact ⟨k + 1, A7, c7, _, by omega, by go_num, by rw [← HE.out]; exact C7.out⟩
      case measure => simp [intOf]; omega
    · obtain rfl : k = n := by omega
      obtain ⟨o0, o1, of0, of1⟩ := blk_two (fm_blk hC.fm 1 rfl)
      have HE := Lib.hid (show fs.take k = fs from List.take_of_length_le (by have := HL.out.1; omega))
      clear hC hbl
      go_wp2
      refine bodyPost_ret (v := .agg #[.int .i64 q, (.slice Ao k co)]) (by simp [results, Try.results60, go_sem, o0, o1]) rfl (rpost_mk (hs := hs) (by rw [← HE.out]; exact do_mono (do_far (do_far HC.out.fl (by simp) _) (by simp) _) (by omega)) ?_)
      exact Below.setCell (Below.setCell HC.out.fm.below (by simp) _) (by simp) _
end Go.Proofs.Ytehokkijfgiggaa
