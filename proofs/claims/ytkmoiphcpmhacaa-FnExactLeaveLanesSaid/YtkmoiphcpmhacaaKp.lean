/-
  Chapter 6: packets that join lanes: what the program's function and the model's return. Conditions: lanes have at most 4000000000 robins, weights and credits.
  Conditions: each lemma says them.
-/
import Derived.Test.YtkmoiphcpmhacaaKk
import Derived.Test.YtkmoiphcpmhacaaKz
import Derived.Test.YtkmoiphcpmhacaaKl
import Derived.Test.YtkmoiphcpmhacaaKm
import Derived.Test.YtkmoiphcpmhacaaKg
import Derived.Test.YtkmoiphcpmhacaaKd
import Derived.Deep.DeepCutAuto
namespace Go.Proofs.Ytkmoiphcpmhacaa
open Go.RowKit

/-- intervals of robins that are there -/
def Tr (n : Nat) (iv : Nat → Nat × Nat) : Nat → Nat × Nat := fun j => if j < n then iv j else (0, 0)
theorem tr_yes {n j : Nat} (iv : Nat → Nat × Nat) (h : j < n) : Tr n iv j = iv j := by simp [Tr, h]
theorem tr_no {n j : Nat} (iv : Nat → Nat × Nat) (h : ¬ j < n) : Tr n iv j = (0, 0) := by simp [Tr, h]
theorem dr_trim {w : World} {lo n : Nat} {v : Value} {hs : List Rh} {rs : List Rb} {iv : Nat → Nat × Nat} (H : DR w lo v n hs rs iv (fun j => j < n)) : DR w lo v n hs rs (Tr n iv) (fun j => j < n) := by
  refine ⟨H.row, H.len, fun k hk h r e1 e2 => ?_, fun b e k => ?_, fun i j hij => ?_, fun k => ?_⟩
  · rw [tr_yes iv hk]; exact H.all k hk h r e1 e2
  · by_cases hk : k < n
    · rw [tr_yes iv hk]; exact H.off b e k
    · rw [tr_no iv hk]; exact .inr (Nat.zero_le _)
  · by_cases hi : i < n
    · by_cases hj : j < n
      · rw [tr_yes iv hi, tr_yes iv hj]; exact H.apart i j hij
      · rw [tr_no iv hj]; exact .inr (Nat.zero_le _)
    · rw [tr_no iv hi]; exact .inl (Nat.zero_le _)
  · by_cases hk : k < n
    · rw [tr_yes iv hk]; exact H.top k
    · rw [tr_no iv hk]; exact Nat.zero_le _
/-- a robin of one's own takes a place in lanes of one's own -/
theorem lo_put {w : World} {lo lo2 g c n m o k s e : Nat} {vB vC : Value} {hs : List Rh} {iv : Nat → Nat × Nat} {l : Ln} {h : Rh} {r : Rb} {fh : List Fh} (H : LO w lo (.slice (some ⟨g, 0, none⟩) n c) n vB m vC o hs iv l) (hk : k < n) (hq : h.q = r.q) (hn : h.n ≤ 4000000000) (hl : lo2 ≤ s) (hl2 : lo2 ≤ lo) (he : e ≤ lo) (hd : DV w s e h.sl h.n fh r.fs) :
    LO ((w.setCell ⟨g, k * 2, none⟩ (.int .i64 h.q)).setCell ⟨g, k * 2 + 1, none⟩ (.slice h.A h.n h.c)) lo2 (.slice (some ⟨g, 0, none⟩) n c) n vB m vC o (hs.set k h) (Up (Tr n iv) k (s, e)) ⟨l.rs.set k r, l.ws, l.cs⟩ := by
  have hg := H.r.row.lt g rfl
  have hgb : w.grownBy ((w.setCell ⟨g, k * 2, none⟩ (.int .i64 h.q)).setCell ⟨g, k * 2 + 1, none⟩ (.slice h.A h.n h.c)) (some g) := g_set (g_set (g_refl w (some g)) (.inl rfl) _) (.inl rfl) _
  have hlen := dr_len H.r
  have hall : ∀ j, j < n → lo ≤ (iv j).1 := fun j hj => by
    obtain ⟨q, hq⟩ := get_of (xs := hs) (k := j) (by omega)
    obtain ⟨r', hr'⟩ := get_of (xs := l.rs) (k := j) (by omega)
    exact (H.r.all j hj q r' hq hr').2.2.1
  have hap : ∀ j, j ≠ k → (Tr n iv j).2 ≤ s ∨ e ≤ (Tr n iv j).1 := fun j _ => by
    by_cases hj : j < n
    · rw [tr_yes iv hj]; have := hall j hj; exact .inr (by omega)
    · rw [tr_no iv hj]; exact .inl (Nat.zero_le _)
  have R := dr_put (k := k) (dr_mono (dr_trim H.r) hl2) hk hq hn hl (by omega) hd (.inr (by omega)) hap
  have ho : ∀ b, Out6 (.slice (some ⟨g, 0, none⟩) n c) iv b → lo ≤ b → Out6 (.slice (some ⟨g, 0, none⟩) n c) (Up (Tr n iv) k (s, e)) b := fun b h1 h2 => ⟨h1.1, fun j => by
    by_cases hj : j = k
    · subst hj; rw [up_self]; exact .inr (by show e ≤ b; omega)
    · rw [up_ne _ hj]
      by_cases hj2 : j < n
      · rw [tr_yes iv hj2]; exact h1.2 j
      · rw [tr_no iv hj2]; exact .inr (Nat.zero_le _)⟩
  exact ⟨dr_weak R fun j hj => .inr hj, own_mono (own_kept6 H.b hgb fun b e1 e2 => by injection e1 with e1; subst e1; exact (H.ab _ e2).1 rfl) hl2, own_mono (own_kept6 H.c hgb fun b e1 e2 => by injection e1 with e1; subst e1; exact (H.ac _ e2).1 rfl) hl2,
    fun b e => ho b (H.ab b e) (H.b.lt b e).1, fun b e => ho b (H.ac b e) (H.c.lt b e).1, H.bc⟩
theorem up_tr_lo {L k x e n : Nat} {iv : Nat → Nat × Nat} (h : ∀ j, (iv j).1 < (iv j).2 → L ≤ (iv j).1) (hx : L ≤ x) : ∀ j, (Up (Tr n iv) k (x, e) j).1 < (Up (Tr n iv) k (x, e) j).2 → L ≤ (Up (Tr n iv) k (x, e) j).1 := fun j hj => by
  by_cases hjk : j = k
  · subst hjk; rw [up_self]; exact hx
  · rw [up_ne _ hjk] at hj ⊢
    by_cases hj2 : j < n
    · rw [tr_yes iv hj2] at hj ⊢; exact h j hj
    · rw [tr_no iv hj2] at hj; exact absurd hj (by simp)
def JlNo (w : World) (e : Ending) (w' : World) : Prop := e = .returned (.tuple #[.agg #[.slice none 0 0, .slice none 0 0, .slice none 0 0], .bool false]) ∧ Below w.heap.size w w'
def JlYes (w : World) (l : Ln) (e : Ending) (w' : World) : Prop :=
  ∃ A n c B m d C o f hs iv, e = .returned (.tuple #[.agg #[.slice A n c, .slice B m d, .slice C o f], .bool true]) ∧ n = l.rs.length ∧ m = l.ws.length ∧ o = l.cs.length ∧ LO w' w.heap.size (.slice A n c) n (.slice B m d) m (.slice C o f) o hs iv l ∧ (∀ k, (iv k).1 < (iv k).2 → w.heap.size ≤ (iv k).1) ∧ Below w.heap.size w w'
/-- the joined robin in its box -/
def JB (w2 : World) (q : Int) (gs : List Flw) (s1 s2 : Value) (wx : World) : Prop :=
  ∃ RB A2 n2 c2 hs s e, s1 = .pointer (some ⟨RB, 0, none⟩) ∧ s2 = .bool true ∧ Blk wx RB 37 #[.int .i64 q, (.slice A2 n2 c2)] ∧ DV wx s e (.slice A2 n2 c2) n2 hs gs ∧ w2.heap.size ≤ s ∧ e ≤ wx.heap.size ∧ Below w2.heap.size w2 wx
theorem jb_new {w2 w3 : World} {q : Int} {gs : List Flw} {A2 : Option Addr} {n2 c2 : Nat} {hs : List Fh} (D : DO w3 w2.heap.size (.slice A2 n2 c2) n2 hs gs) (hb : Below w2.heap.size w2 w3) : JB w2 q gs (.pointer (some ⟨w3.heap.size, 0, none⟩)) (.bool true) (w3.alloc (.cells #[.int .i64 q, (.slice A2 n2 c2)] 37)) :=
  ⟨w3.heap.size, A2, n2, c2, hs, w2.heap.size, w3.heap.size, rfl, rfl, blk_new w3 _ _, dv_below (dv_all D) (below_alloc (Below.refl _ _) _), Nat.le_refl _, by simp, below_alloc hb _⟩
theorem jb_set {w2 w3 : World} {q : Int} {gs : List Flw} {A2 : Option Addr} {n2 c2 : Nat} {hs : List Fh} {u v : Value} (D : DO w3 (w2.heap.size + 1) (.slice A2 n2 c2) n2 hs gs) (hb : Below w2.heap.size w2 w3) (Y : Blk w3 w2.heap.size 37 #[u, v]) : JB w2 q gs (.pointer (some ⟨w2.heap.size, 0, none⟩)) (.bool true) ((w3.setCell ⟨w2.heap.size, 0, none⟩ (.int .i64 q)).setCell ⟨w2.heap.size, 1, none⟩ (.slice A2 n2 c2)) :=
  ⟨w2.heap.size, A2, n2, c2, hs, w2.heap.size + 1, w3.heap.size, rfl, rfl, blk_set (blk_set Y 0 _) 1 _, dv_grown (dv_all D) (g_set (g_set (g_refl w3 (some w2.heap.size)) (.inl rfl) _) (.inl rfl) _) (fun b e => by injection e with e; subst e; exact .inl (by omega)), by omega, by simp, (hb.setCell (Nat.le_refl _) _).setCell (Nat.le_refl _) _⟩
/-- the joined robin's box is read -/
theorem jb_below {w2 w3 w4 : World} {q : Int} {gs : List Flw} {s1 s2 : Value} (h : JB w2 q gs s1 s2 w3) (hb : Below w3.heap.size w3 w4) : JB w2 q gs s1 s2 w4 := by
  obtain ⟨RB, A2, n2, c2, hs, s, e, h1, h2, h3, h4, h5, h6, h7⟩ := h
  exact ⟨RB, A2, n2, c2, hs, s, e, h1, h2, blk_below h3 hb (blk_lt h3), dv_below h4 hb, h5, Nat.le_trans h6 hb.size, below_seq h7 hb⟩
/-- what stands below: the lanes' box, the packet's, the result's -/
abbrev J3 (w : World) (va : Array Value) (p : Pkt) : List Iv := [⟨w.heap.size, w.heap.size + 1, BoxP w.heap.size 26 va⟩, ⟨w.heap.size + 1, w.heap.size + 2, BoxP (w.heap.size + 1) 29 #[.int .i64 p.peer, .int .i64 p.lane, .int .i64 p.size, .int .i64 p.id]⟩, ⟨w.heap.size + 2, w.heap.size + 3, BoxP (w.heap.size + 2) 26 #[.slice none 0 0, .slice none 0 0, .slice none 0 0]⟩]
theorem j3_start (w : World) (va : Array Value) (p : Pkt) : Fm w (J3 w va p) (((w.alloc (.cells va 26)).alloc (.cells #[.int .i64 p.peer, .int .i64 p.lane, .int .i64 p.size, .int .i64 p.id] 29)).alloc (.cells #[.slice none 0 0, .slice none 0 0, .slice none 0 0] 26)) := fm_three w _ _ _ _ _ _
theorem snd_of6 {p q : Prop} (h : p ∧ q) : q := h.2
set_option maxRecDepth 100000 in
set_option maxHeartbeats 4000000 in
theorem jlI_no (A : Option Addr) (n c : Nat) (B : Option Addr) (m d : Nat) (C : Option Addr) (o f : Nat) (l : Ln) (p : Pkt) (w : World) (h : LR w A n B m C o l) (hk : ¬ ∃ k r, JnOk l p k r) :
    Calls Try.prog 38 #[.agg #[.slice A n c, .slice B m d, .slice C o f], .agg #[.int .i64 p.peer, .int .i64 p.lane, .int .i64 p.size, .int .i64 p.id]] w (JlNo w) := by
  have H := Lib.hid h
  have F := Lib.hid (j3_start w #[.slice A n c, .slice B m d, .slice C o f] p)
  have HK := Lib.hid hk
  have hlen := lr_len h
  clear h hk
  rcases hv : lvB l with _ | _
  · have HV := Lib.hid hv
    clear hv
    go_enter Try.func38, Try.ntmps38
    go_wp2_with fail
    refine (lanI_any A n c B m d C o f l _ (lr_below H.out F.out.below)).mono ?_
    rintro e w1 ⟨rfl, hb⟩
    have F1 := Lib.hid (fm_below F.out hb)
    clear hb
    obtain ⟨⟨k0, k1, k2, k3⟩, -⟩ := blk_fourR (fm_blk F1.out 1 rfl)
    rw [HV.out]
    obtain ⟨⟨o0, o1, o2⟩, f0, f1, f2⟩ := blk_three (fm_blk F1.out 2 rfl)
    have zo := blk_lt (fm_blk F1.out 2 rfl)
    clear k0 k1 k2 k3
    go_wp2
    refine bodyPost_ret (v := .tuple #[.agg #[.slice none 0 0, .slice none 0 0, .slice none 0 0], .bool false]) (by simp [results, Try.results38, go_sem, o0, o1, o2]) rfl ⟨rfl, ?_⟩
    repeat refine Below.setCell ?_ (by simp <;> omega) _
    exact F1.out.below
  rcases hp : vldB p with _ | _
  · have HV := Lib.hid hv
    have HP := Lib.hid hp
    clear hv hp
    go_enter Try.func38, Try.ntmps38
    go_wp2_with fail
    refine (lanI_any A n c B m d C o f l _ (lr_below H.out F.out.below)).mono ?_
    rintro e w1 ⟨rfl, hb⟩
    have F1 := Lib.hid (fm_below F.out hb)
    clear hb
    obtain ⟨⟨k0, k1, k2, k3⟩, -⟩ := blk_fourR (fm_blk F1.out 1 rfl)
    rw [HV.out]
    go_wp2_with fail
    refine (vldI_any p _).mono ?_
    rintro e w2 ⟨rfl, hb⟩
    rw [HP.out]
    have F2 := Lib.hid (fm_below F1.out hb)
    clear hb k0 k1 k2 k3
    obtain ⟨⟨o0, o1, o2⟩, f0, f1, f2⟩ := blk_three (fm_blk F2.out 2 rfl)
    have zo := blk_lt (fm_blk F2.out 2 rfl)
    go_wp2
    refine bodyPost_ret (v := .tuple #[.agg #[.slice none 0 0, .slice none 0 0, .slice none 0 0], .bool false]) (by simp [results, Try.results38, go_sem, o0, o1, o2]) rfl ⟨rfl, ?_⟩
    repeat refine Below.setCell ?_ (by simp <;> omega) _
    exact F2.out.below
  · have HV := Lib.hid hv
    have HP := Lib.hid hp
    have LVl := lv_iff.1 hv
    have hl2 : 0 ≤ p.lane ∧ p.lane ≤ 3 := by have := of_decide_eq_true hp; omega
    obtain ⟨k, hkl⟩ : ∃ k : Nat, p.lane = (k : Int) := ⟨p.lane.toNat, by omega⟩
    have n4 := Lib.hid (show n = 4 by have := LVl.n0; omega)
    have HLK := Lib.hid hkl
    have hkn : k < n := by have := n4.out; omega
    obtain ⟨r, hr⟩ := get_of (xs := l.rs) (k := k) (by have := n4.out; omega)
    have HG := Lib.hid hr
    have HJ := Lib.hid (show ¬ joinOk r.q r.fs p from fun hj => HK.out ⟨k, r, LVl, hp, hkl, hr, hj⟩)
    clear hv hp LVl hr hlen hl2 hkl
    go_enter Try.func38, Try.ntmps38
    go_wp2_with fail
    refine (lanI_any A n c B m d C o f l _ (lr_below H.out F.out.below)).mono ?_
    rintro e w1 ⟨rfl, hb⟩
    have F1 := Lib.hid (fm_below F.out hb)
    clear hb
    obtain ⟨⟨k0, k1, k2, k3⟩, -⟩ := blk_fourR (fm_blk F1.out 1 rfl)
    rw [HV.out]
    go_wp2_with fail
    refine (vldI_any p _).mono ?_
    rintro e w2 ⟨rfl, hb⟩
    rw [HP.out]
    have F2 := Lib.hid (fm_below F1.out hb)
    clear hb k0 k1 k2 k3
    obtain ⟨g, off, r', A1, n1, c1, hA, hgl, hr', c0, c1', hfr⟩ := rr_at (lr_below H.out F2.out.below).r (k := k) (by assumption)
    obtain rfl : r = r' := Option.some.inj (HG.out.symm.trans hr')
    subst hA
    have HF := Lib.hid hfr
    have z2 := blk_lt (fm_blk F2.out 2 rfl)
    have OS : Hid (∀ w' : World, Below w2.heap.size w2 w' → ((w'.cell? ⟨w.heap.size, 0, none⟩ = some (.slice (some ⟨g, off, none⟩) n c) ∧ w'.cell? ⟨w.heap.size, 1, none⟩ = some (.slice B m d) ∧ w'.cell? ⟨w.heap.size, 2, none⟩ = some (.slice C o f)) ∧ (w'.cell? ⟨w.heap.size + 1, 0, none⟩ = some (.int .i64 p.peer) ∧ w'.cell? ⟨w.heap.size + 1, 1, none⟩ = some (.int .i64 (k : Int)) ∧ w'.cell? ⟨w.heap.size + 1, 2, none⟩ = some (.int .i64 p.size) ∧ w'.cell? ⟨w.heap.size + 1, 3, none⟩ = some (.int .i64 p.id)) ∧ (w'.cell? ⟨g, off + k * 2, none⟩ = some (.int .i64 r.q) ∧ w'.cell? ⟨g, off + k * 2 + 1, none⟩ = some (.slice A1 n1 c1))) ∧ Below w2.heap.size w2 w') := Lib.hid (fun w' hb => by
      have F3 := fm_below F2.out hb
      refine ⟨⟨(blk_three (fm_blk F3 0 rfl)).1, ?_, ((bcell hb).1 _ _ hgl).trans c0, ((bcell hb).1 _ _ hgl).trans c1'⟩, hb⟩
      rw [← HLK.out]
      exact (blk_fourR (fm_blk F3 1 rfl)).1)
    have hS0 := OS.out _ (Below.refl w2.heap.size w2).drew
    have k0' : (0 : Int) ≤ (k : Int) := by omega
    have k1' : (k : Int) < (n : Int) := by omega
    have B0 := Lib.hid (Below.refl w2.heap.size w2).drew
    have HF0 := Lib.hid (fr_belowF HF.out (Below.refl w2.heap.size w2).drew)
    have z0 := Lib.hid (show w2.drew.heap.size = w2.heap.size from rfl)
    clear hr' hfr c0 c1'
    go_upto_region 3 with fail
    go_cut [6, 7] from 18 to 28 (fun s1 s2 wx => (∃ RB, s1 = .pointer (some ⟨RB, 0, none⟩)) ∧ s2 = .bool false ∧ Below w2.heap.size w2 wx)
    case first =>
      refine held_start (S := (fun w' => ((w'.cell? ⟨w.heap.size, 0, none⟩ = some (.slice (some ⟨g, off, none⟩) n c) ∧ w'.cell? ⟨w.heap.size, 1, none⟩ = some (.slice B m d) ∧ w'.cell? ⟨w.heap.size, 2, none⟩ = some (.slice C o f)) ∧ (w'.cell? ⟨w.heap.size + 1, 0, none⟩ = some (.int .i64 p.peer) ∧ w'.cell? ⟨w.heap.size + 1, 1, none⟩ = some (.int .i64 (k : Int)) ∧ w'.cell? ⟨w.heap.size + 1, 2, none⟩ = some (.int .i64 p.size) ∧ w'.cell? ⟨w.heap.size + 1, 3, none⟩ = some (.int .i64 p.id)) ∧ (w'.cell? ⟨g, off + k * 2, none⟩ = some (.int .i64 r.q) ∧ w'.cell? ⟨g, off + k * 2 + 1, none⟩ = some (.slice A1 n1 c1))) ∧ Below w2.heap.size w2 w')) 13 (by kernel_rfl) ?_
      generalize w2.drew = w0 at B0 HF0 z0 hS0 ⊢
      refine held_take (i := 0) (oi := { dst := some 19, op := Op.fieldAddr 26 (Operand.tmp 2) 0, type := 0, pos := "l6_lanes.go:52", after := #[], guard := none }) (v := ?_) rfl (by kernel_rfl) (by kernel_rfl) (by kernel_rfl) (by kernel_rfl) (fun _ _ _ h => h) (Or.inl ⟨by rfl, ?_⟩) hS0 ?_
      rotate_left
      · (intro w9 hSw; (try dsimp only at hSw); go_simp; try with_reducible rfl)
      try simp only [Act.put, List.setIfInBounds_toArray, List.set_cons_zero, List.set_cons_succ]
      refine held_take (i := 1) (oi := { dst := some 20, op := Op.load 23 (Operand.tmp 19), type := 23, pos := "l6_lanes.go:52", after := #[{ on := 0, ground := Ground.data }], guard := none }) (v := ?_) rfl (by kernel_rfl) (by kernel_rfl) (by kernel_rfl) (by kernel_rfl) (fun _ _ _ h => h) (Or.inl ⟨by rfl, ?_⟩) hS0 ?_
      rotate_left
      · (intro w9 hSw; (try dsimp only at hSw); go_simp; try with_reducible rfl)
      try simp only [Act.put, List.setIfInBounds_toArray, List.set_cons_zero, List.set_cons_succ]
      refine held_take (i := 2) (oi := { dst := some 21, op := Op.fieldAddr 29 (Operand.tmp 3) 1, type := 0, pos := "l6_lanes.go:52", after := #[], guard := none }) (v := ?_) rfl (by kernel_rfl) (by kernel_rfl) (by kernel_rfl) (by kernel_rfl) (fun _ _ _ h => h) (Or.inl ⟨by rfl, ?_⟩) hS0 ?_
      rotate_left
      · (intro w9 hSw; (try dsimp only at hSw); go_simp; try with_reducible rfl)
      try simp only [Act.put, List.setIfInBounds_toArray, List.set_cons_zero, List.set_cons_succ]
      refine held_take (i := 3) (oi := { dst := some 22, op := Op.load 3 (Operand.tmp 21), type := 3, pos := "l6_lanes.go:52", after := #[{ on := 2, ground := Ground.data }], guard := none }) (v := ?_) rfl (by kernel_rfl) (by kernel_rfl) (by kernel_rfl) (by kernel_rfl) (fun _ _ _ h => h) (Or.inl ⟨by rfl, ?_⟩) hS0 ?_
      rotate_left
      · (intro w9 hSw; (try dsimp only at hSw); go_simp; try with_reducible rfl)
      try simp only [Act.put, List.setIfInBounds_toArray, List.set_cons_zero, List.set_cons_succ]
      refine held_take (i := 4) (oi := { dst := some 23, op := Op.indexAddr 23 (Operand.tmp 20) (Operand.tmp 22), type := 0, pos := "l6_lanes.go:52", after := #[{ on := 1, ground := Ground.data }, { on := 3, ground := Ground.data }], guard := none }) (v := ?_) rfl (by kernel_rfl) (by kernel_rfl) (by kernel_rfl) (by kernel_rfl) (fun _ _ _ h => h) (Or.inl ⟨by rfl, ?_⟩) hS0 ?_
      rotate_left
      · (intro w9 hSw; (try dsimp only at hSw); go_simp; try with_reducible rfl)
      try simp only [Act.put, List.setIfInBounds_toArray, List.set_cons_zero, List.set_cons_succ]
      refine held_take (i := 5) (oi := { dst := some 24, op := Op.load 37 (Operand.tmp 23), type := 37, pos := "l6_lanes.go:52", after := #[{ on := 4, ground := Ground.data }], guard := none }) (v := ?_) rfl (by kernel_rfl) (by kernel_rfl) (by kernel_rfl) (by kernel_rfl) (fun _ _ _ h => h) (Or.inl ⟨by rfl, ?_⟩) hS0 ?_
      rotate_left
      · (intro w9 hSw; (try dsimp only at hSw); go_simp; try with_reducible rfl)
      try simp only [Act.put, List.setIfInBounds_toArray, List.set_cons_zero, List.set_cons_succ]
      refine held_take (i := 6) (oi := { dst := some 25, op := Op.load 29 (Operand.tmp 3), type := 29, pos := "l6_lanes.go:52", after := #[], guard := none }) (v := ?_) rfl (by kernel_rfl) (by kernel_rfl) (by kernel_rfl) (by kernel_rfl) (fun _ _ _ h => h) (Or.inl ⟨by rfl, ?_⟩) hS0 ?_
      rotate_left
      · (intro w9 hSw; (try dsimp only at hSw); go_simp; try with_reducible rfl)
      try simp only [Act.put, List.setIfInBounds_toArray, List.set_cons_zero, List.set_cons_succ]
      refine held_two (i := 7) (j := 11) (oi := { dst := some 26, op := Op.call { callee := Callee.value (Operand.func 81), args := #[Operand.tmp 24, Operand.tmp 25], argTypes := #[37, 29] }, type := 102, pos := "l6_lanes.go:52", after := #[{ on := 5, ground := Ground.data }, { on := 6, ground := Ground.data }], guard := none }) (oj := { dst := some 6, op := Op.alloc 37, type := 0, pos := "l6_lanes.go:52", after := #[], guard := none }) (by kernel_rfl) rfl rfl (fun K hK => ?_) (fun K hK => ?_)
      · go_simp
        rw [← HLK.out]
        go_at_call 81
        refine (jnI_no r.q A1 n1 c1 r.fs p _ HF0.out HJ.out).mono ?_
        rintro e w3 ⟨rfl, hb3⟩
        have B3 := Lib.hid (below_seq B0.out hb3)
        have hS3 := OS.out _ B3.out
        clear hb3
        refine hK.out _ _ (.inr hS3) ?_
        clear hK K
        try simp only [Act.put, List.setIfInBounds_toArray, List.set_cons_zero, List.set_cons_succ]
        refine held_take (i := 8) (oi := { dst := some 18, op := Op.move (Operand.tmp 26), type := 102, pos := "l6_lanes.go:52", after := #[{ on := 7, ground := Ground.data }], guard := none }) (v := ?_) rfl (by kernel_rfl) (by kernel_rfl) (by kernel_rfl) (by kernel_rfl) (fun _ _ _ h => h) (Or.inl ⟨by rfl, ?_⟩) hS3 ?_
        rotate_left
        · (intro w9 hSw; (try dsimp only at hSw); go_simp; try with_reducible rfl)
        try simp only [Act.put, List.setIfInBounds_toArray, List.set_cons_zero, List.set_cons_succ]
        refine held_take (i := 9) (oi := { dst := some 27, op := Op.extract (Operand.tmp 18) 0, type := 37, pos := "l6_lanes.go:52", after := #[{ on := 8, ground := Ground.data }], guard := none }) (v := ?_) rfl (by kernel_rfl) (by kernel_rfl) (by kernel_rfl) (by kernel_rfl) (fun _ _ _ h => h) (Or.inl ⟨by rfl, ?_⟩) hS3 ?_
        rotate_left
        · (intro w9 hSw; (try dsimp only at hSw); go_simp; try with_reducible rfl)
        try simp only [Act.put, List.setIfInBounds_toArray, List.set_cons_zero, List.set_cons_succ]
        refine held_take (i := 10) (oi := { dst := some 28, op := Op.extract (Operand.tmp 18) 1, type := 4, pos := "l6_lanes.go:52", after := #[{ on := 8, ground := Ground.data }, { on := 12, ground := Ground.gcOnly Departure.lateStores }], guard := none }) (v := ?_) rfl (by kernel_rfl) (by kernel_rfl) (by kernel_rfl) (by kernel_rfl) (fun _ _ _ h => h) (Or.inl ⟨by rfl, ?_⟩) hS3 ?_
        rotate_left
        · (intro w9 hSw; (try dsimp only at hSw); go_simp; try with_reducible rfl)
        try simp only [Act.put, List.setIfInBounds_toArray, List.set_cons_zero, List.set_cons_succ]
        refine held_one (i := 11) (o := { dst := some 6, op := Op.alloc 37, type := 0, pos := "l6_lanes.go:52", after := #[], guard := none }) (by kernel_rfl) rfl (fun K hK => ?_)
        go_simp
        have hS4 := OS.out _ (below_alloc B3.out (.cells #[.int .i64 0, .slice none 0 0] 37))
        refine hK.out _ _ (.inr hS4) ?_
        clear hK K
        try simp only [Act.put, List.setIfInBounds_toArray, List.set_cons_zero, List.set_cons_succ]
        refine held_one (i := 12) (o := { dst := none, op := Op.store 37 (Operand.tmp 6) (Operand.tmp 27), type := 0, pos := "l6_lanes.go:52", after := #[{ on := 11, ground := Ground.data }, { on := 9, ground := Ground.data }, { on := 7, ground := Ground.chain }, { on := 0, ground := Ground.phase }, { on := 1, ground := Ground.phase }, { on := 2, ground := Ground.phase }, { on := 3, ground := Ground.phase }, { on := 4, ground := Ground.phase }, { on := 5, ground := Ground.phase }, { on := 6, ground := Ground.phase }, { on := 7, ground := Ground.phase }, { on := 8, ground := Ground.phase }, { on := 9, ground := Ground.phase }, { on := 10, ground := Ground.textOnly Departure.lateStores }, { on := 11, ground := Ground.phase }], guard := none }) (by kernel_rfl) rfl (fun K hK => ?_)
        go_simp
        refine hK.out _ _ (.inr (by first | exact OS.out _ (below_alloc B3.out _) | (refine OS.out _ ?_; with_reducible refine Below.setCell ?_ ?_ _; with_reducible refine Below.setCell ?_ ?_ _; (first | with_reducible exact B3.out | with_reducible exact below_alloc B3.out _); all_goals (have := z0.out; simp <;> omega)))) ?_
        clear hK K
        try simp only [Act.put, List.setIfInBounds_toArray, List.set_cons_zero, List.set_cons_succ]
        refine held_one (i := 13) (o := { dst := some 7, op := Op.assign (Operand.tmp 28), type := 4, pos := "l6_lanes.go:52", after := #[{ on := 10, ground := Ground.data }, { on := 12, ground := Ground.chain }, { on := 0, ground := Ground.phase }, { on := 1, ground := Ground.phase }, { on := 2, ground := Ground.phase }, { on := 3, ground := Ground.phase }, { on := 4, ground := Ground.phase }, { on := 5, ground := Ground.phase }, { on := 6, ground := Ground.phase }, { on := 7, ground := Ground.phase }, { on := 8, ground := Ground.phase }, { on := 9, ground := Ground.phase }, { on := 10, ground := Ground.phase }, { on := 11, ground := Ground.phase }, { on := 12, ground := Ground.phase }], guard := none }) (by kernel_rfl) rfl (fun K hK => ?_)
        go_simp
        refine hK.out _ _ (.inl rfl) ?_
        clear hK K
        try simp only [Act.put, List.setIfInBounds_toArray, List.set_cons_zero, List.set_cons_succ]
        refine held_done (by kernel_rfl) ?_ _
        go_wp2_with fail
        go_meet
        refine ⟨⟨_, rfl⟩, rfl, ?_⟩
        first | exact below_alloc B3.out _ | exact (B3.out.setCell (by have := z0.out; simp; omega) _).setCell (by have := z0.out; simp; omega) _
      · go_simp
        have hS1 := OS.out _ (below_alloc B0.out (.cells #[.int .i64 0, .slice none 0 0] 37))
        refine hK.out _ _ (.inr hS1) ?_
        clear hK K
        try simp only [Act.put, List.setIfInBounds_toArray, List.set_cons_zero, List.set_cons_succ]
        refine held_one (i := 7) (o := { dst := some 26, op := Op.call { callee := Callee.value (Operand.func 81), args := #[Operand.tmp 24, Operand.tmp 25], argTypes := #[37, 29] }, type := 102, pos := "l6_lanes.go:52", after := #[{ on := 5, ground := Ground.data }, { on := 6, ground := Ground.data }], guard := none }) (by kernel_rfl) rfl (fun K hK => ?_)
        go_simp
        rw [← HLK.out]
        go_at_call 81
        refine (jnI_no r.q A1 n1 c1 r.fs p _ (fr_allocF HF0.out _) HJ.out).mono ?_
        rintro e w3 ⟨rfl, hb3⟩
        have B3 := Lib.hid (below_seq (below_alloc B0.out _) hb3)
        have hS3 := OS.out _ B3.out
        have HY := Lib.hid (blk_below (blk_new w0 37 #[.int .i64 0, .slice none 0 0]) hb3 (by simp))
        obtain ⟨y0, y1, yf0, yf1⟩ := blk_two HY.out
        clear hb3
        refine hK.out _ _ (.inr hS3) ?_
        clear hK K
        try simp only [Act.put, List.setIfInBounds_toArray, List.set_cons_zero, List.set_cons_succ]
        refine held_take (i := 8) (oi := { dst := some 18, op := Op.move (Operand.tmp 26), type := 102, pos := "l6_lanes.go:52", after := #[{ on := 7, ground := Ground.data }], guard := none }) (v := ?_) rfl (by kernel_rfl) (by kernel_rfl) (by kernel_rfl) (by kernel_rfl) (fun _ _ _ h => h) (Or.inl ⟨by rfl, ?_⟩) hS3 ?_
        rotate_left
        · (intro w9 hSw; (try dsimp only at hSw); go_simp; try with_reducible rfl)
        try simp only [Act.put, List.setIfInBounds_toArray, List.set_cons_zero, List.set_cons_succ]
        refine held_take (i := 9) (oi := { dst := some 27, op := Op.extract (Operand.tmp 18) 0, type := 37, pos := "l6_lanes.go:52", after := #[{ on := 8, ground := Ground.data }], guard := none }) (v := ?_) rfl (by kernel_rfl) (by kernel_rfl) (by kernel_rfl) (by kernel_rfl) (fun _ _ _ h => h) (Or.inl ⟨by rfl, ?_⟩) hS3 ?_
        rotate_left
        · (intro w9 hSw; (try dsimp only at hSw); go_simp; try with_reducible rfl)
        try simp only [Act.put, List.setIfInBounds_toArray, List.set_cons_zero, List.set_cons_succ]
        refine held_take (i := 10) (oi := { dst := some 28, op := Op.extract (Operand.tmp 18) 1, type := 4, pos := "l6_lanes.go:52", after := #[{ on := 8, ground := Ground.data }, { on := 12, ground := Ground.gcOnly Departure.lateStores }], guard := none }) (v := ?_) rfl (by kernel_rfl) (by kernel_rfl) (by kernel_rfl) (by kernel_rfl) (fun _ _ _ h => h) (Or.inl ⟨by rfl, ?_⟩) hS3 ?_
        rotate_left
        · (intro w9 hSw; (try dsimp only at hSw); go_simp; try with_reducible rfl)
        try simp only [Act.put, List.setIfInBounds_toArray, List.set_cons_zero, List.set_cons_succ]
        refine held_one (i := 12) (o := { dst := none, op := Op.store 37 (Operand.tmp 6) (Operand.tmp 27), type := 0, pos := "l6_lanes.go:52", after := #[{ on := 11, ground := Ground.data }, { on := 9, ground := Ground.data }, { on := 7, ground := Ground.chain }, { on := 0, ground := Ground.phase }, { on := 1, ground := Ground.phase }, { on := 2, ground := Ground.phase }, { on := 3, ground := Ground.phase }, { on := 4, ground := Ground.phase }, { on := 5, ground := Ground.phase }, { on := 6, ground := Ground.phase }, { on := 7, ground := Ground.phase }, { on := 8, ground := Ground.phase }, { on := 9, ground := Ground.phase }, { on := 10, ground := Ground.textOnly Departure.lateStores }, { on := 11, ground := Ground.phase }], guard := none }) (by kernel_rfl) rfl (fun K hK => ?_)
        go_simp
        refine hK.out _ _ (.inr (by first | exact OS.out _ (below_alloc B3.out _) | (refine OS.out _ ?_; with_reducible refine Below.setCell ?_ ?_ _; with_reducible refine Below.setCell ?_ ?_ _; (first | with_reducible exact B3.out | with_reducible exact below_alloc B3.out _); all_goals (have := z0.out; simp <;> omega)))) ?_
        clear hK K
        try simp only [Act.put, List.setIfInBounds_toArray, List.set_cons_zero, List.set_cons_succ]
        refine held_one (i := 13) (o := { dst := some 7, op := Op.assign (Operand.tmp 28), type := 4, pos := "l6_lanes.go:52", after := #[{ on := 10, ground := Ground.data }, { on := 12, ground := Ground.chain }, { on := 0, ground := Ground.phase }, { on := 1, ground := Ground.phase }, { on := 2, ground := Ground.phase }, { on := 3, ground := Ground.phase }, { on := 4, ground := Ground.phase }, { on := 5, ground := Ground.phase }, { on := 6, ground := Ground.phase }, { on := 7, ground := Ground.phase }, { on := 8, ground := Ground.phase }, { on := 9, ground := Ground.phase }, { on := 10, ground := Ground.phase }, { on := 11, ground := Ground.phase }, { on := 12, ground := Ground.phase }], guard := none }) (by kernel_rfl) rfl (fun K hK => ?_)
        go_simp
        refine hK.out _ _ (.inl rfl) ?_
        clear hK K
        try simp only [Act.put, List.setIfInBounds_toArray, List.set_cons_zero, List.set_cons_succ]
        refine held_done (by kernel_rfl) ?_ _
        go_wp2_with fail
        go_meet
        refine ⟨⟨_, rfl⟩, rfl, ?_⟩
        first | exact below_alloc B3.out _ | exact (B3.out.setCell (by have := z0.out; simp; omega) _).setCell (by have := z0.out; simp; omega) _
    case rest =>
    obtain ⟨⟨RB, rfl⟩, rfl, hB⟩ := hcut
    have F3 := Lib.hid (fm_below F2.out hB)
    obtain ⟨⟨o0, o1, o2⟩, f0, f1, f2⟩ := blk_three (fm_blk F3.out 2 rfl)
    have zo := blk_lt (fm_blk F3.out 2 rfl)
    clear hB hS0
    go_wp2
    refine bodyPost_ret (v := .tuple #[.agg #[.slice none 0 0, .slice none 0 0, .slice none 0 0], .bool false]) (by simp [results, Try.results38, go_sem, o0, o1, o2]) rfl ⟨rfl, ?_⟩
    repeat refine Below.setCell ?_ (by simp <;> omega) _
    exact F3.out.below
set_option maxRecDepth 100000 in
set_option maxHeartbeats 4000000 in
theorem jlI_yes (A : Option Addr) (n c : Nat) (B : Option Addr) (m d : Nat) (C : Option Addr) (o f : Nat) (l : Ln) (p : Pkt) (k : Nat) (r : Rb) (w : World) (h : LR w A n B m C o l) (hk : JnOk l p k r) :
    Calls Try.prog 38 #[.agg #[.slice A n c, .slice B m d, .slice C o f], .agg #[.int .i64 p.peer, .int .i64 p.lane, .int .i64 p.size, .int .i64 p.id]] w (JlYes w (jnN l k r p)) := by
  have H := Lib.hid h
  have F := Lib.hid (j3_start w #[.slice A n c, .slice B m d, .slice C o f] p)
  have hlen := lr_len h
  have hkl4 : k < n := by have := get_lt hk.get; omega
  have HV := Lib.hid (lv_yes hk.lv)
  have HP := Lib.hid hk.pv
  have HLK := Lib.hid hk.lane
  have HG := Lib.hid hk.get
  have HJ := Lib.hid hk.jn
  have HE := Lib.hid (show (jnN l k r p).rs.length = n ∧ (jnN l k r p).ws.length = m ∧ (jnN l k r p).cs.length = o from ⟨by simp [jnN]; exact hlen.1, hlen.2.1, hlen.2.2⟩)
  clear h hk hlen
  go_enter Try.func38, Try.ntmps38
  go_wp2_with fail
  refine (lanI_any A n c B m d C o f l _ (lr_below H.out F.out.below)).mono ?_
  rintro e w1 ⟨rfl, hb⟩
  have F1 := Lib.hid (fm_below F.out hb)
  clear hb
  obtain ⟨⟨k0, k1, k2, k3⟩, -⟩ := blk_fourR (fm_blk F1.out 1 rfl)
  rw [HV.out]
  go_wp2_with fail
  refine (vldI_any p _).mono ?_
  rintro e w2 ⟨rfl, hb⟩
  rw [HP.out]
  have F2 := Lib.hid (fm_below F1.out hb)
  clear hb k0 k1 k2 k3
  obtain ⟨g, off, r', A1, n1, c1, hA, hgl, hr', c0, c1', hfr⟩ := rr_at (lr_below H.out F2.out.below).r (k := k) (by assumption)
  obtain rfl : r = r' := Option.some.inj (HG.out.symm.trans hr')
  subst hA
  have HF := Lib.hid hfr
  have z2 := blk_lt (fm_blk F2.out 2 rfl)
  have OS : Hid (∀ w' : World, Below w2.heap.size w2 w' → ((w'.cell? ⟨w.heap.size, 0, none⟩ = some (.slice (some ⟨g, off, none⟩) n c) ∧ w'.cell? ⟨w.heap.size, 1, none⟩ = some (.slice B m d) ∧ w'.cell? ⟨w.heap.size, 2, none⟩ = some (.slice C o f)) ∧ (w'.cell? ⟨w.heap.size + 1, 0, none⟩ = some (.int .i64 p.peer) ∧ w'.cell? ⟨w.heap.size + 1, 1, none⟩ = some (.int .i64 (k : Int)) ∧ w'.cell? ⟨w.heap.size + 1, 2, none⟩ = some (.int .i64 p.size) ∧ w'.cell? ⟨w.heap.size + 1, 3, none⟩ = some (.int .i64 p.id)) ∧ (w'.cell? ⟨g, off + k * 2, none⟩ = some (.int .i64 r.q) ∧ w'.cell? ⟨g, off + k * 2 + 1, none⟩ = some (.slice A1 n1 c1))) ∧ Below w2.heap.size w2 w') := Lib.hid (fun w' hb => by
    have F3 := fm_below F2.out hb
    refine ⟨⟨(blk_three (fm_blk F3 0 rfl)).1, ?_, ((bcell hb).1 _ _ hgl).trans c0, ((bcell hb).1 _ _ hgl).trans c1'⟩, hb⟩
    rw [← HLK.out]
    exact (blk_fourR (fm_blk F3 1 rfl)).1)
  have hS0 := OS.out _ (Below.refl w2.heap.size w2).drew
  have k0' : (0 : Int) ≤ (k : Int) := by omega
  have k1' : (k : Int) < (n : Int) := by omega
  have B0 := Lib.hid (Below.refl w2.heap.size w2).drew
  have HF0 := Lib.hid (fr_belowF HF.out (Below.refl w2.heap.size w2).drew)
  have z0 := Lib.hid (show w2.drew.heap.size = w2.heap.size from rfl)
  clear hr' hfr c0 c1'
  go_upto_region 3 with fail
  go_cut [6, 7] from 18 to 28 (fun s1 s2 wx => JB w2 r.q (joinL r.fs p) s1 s2 wx)
  case first =>
    refine held_start (S := (fun w' => ((w'.cell? ⟨w.heap.size, 0, none⟩ = some (.slice (some ⟨g, off, none⟩) n c) ∧ w'.cell? ⟨w.heap.size, 1, none⟩ = some (.slice B m d) ∧ w'.cell? ⟨w.heap.size, 2, none⟩ = some (.slice C o f)) ∧ (w'.cell? ⟨w.heap.size + 1, 0, none⟩ = some (.int .i64 p.peer) ∧ w'.cell? ⟨w.heap.size + 1, 1, none⟩ = some (.int .i64 (k : Int)) ∧ w'.cell? ⟨w.heap.size + 1, 2, none⟩ = some (.int .i64 p.size) ∧ w'.cell? ⟨w.heap.size + 1, 3, none⟩ = some (.int .i64 p.id)) ∧ (w'.cell? ⟨g, off + k * 2, none⟩ = some (.int .i64 r.q) ∧ w'.cell? ⟨g, off + k * 2 + 1, none⟩ = some (.slice A1 n1 c1))) ∧ Below w2.heap.size w2 w')) 13 (by kernel_rfl) ?_
    generalize w2.drew = w0 at B0 HF0 z0 hS0 ⊢
    refine held_take (i := 0) (oi := { dst := some 19, op := Op.fieldAddr 26 (Operand.tmp 2) 0, type := 0, pos := "l6_lanes.go:52", after := #[], guard := none }) (v := ?_) rfl (by kernel_rfl) (by kernel_rfl) (by kernel_rfl) (by kernel_rfl) (fun _ _ _ h => h) (Or.inl ⟨by rfl, ?_⟩) hS0 ?_
    rotate_left
    · (intro w9 hSw; (try dsimp only at hSw); go_simp; try with_reducible rfl)
    try simp only [Act.put, List.setIfInBounds_toArray, List.set_cons_zero, List.set_cons_succ]
    refine held_take (i := 1) (oi := { dst := some 20, op := Op.load 23 (Operand.tmp 19), type := 23, pos := "l6_lanes.go:52", after := #[{ on := 0, ground := Ground.data }], guard := none }) (v := ?_) rfl (by kernel_rfl) (by kernel_rfl) (by kernel_rfl) (by kernel_rfl) (fun _ _ _ h => h) (Or.inl ⟨by rfl, ?_⟩) hS0 ?_
    rotate_left
    · (intro w9 hSw; (try dsimp only at hSw); go_simp; try with_reducible rfl)
    try simp only [Act.put, List.setIfInBounds_toArray, List.set_cons_zero, List.set_cons_succ]
    refine held_take (i := 2) (oi := { dst := some 21, op := Op.fieldAddr 29 (Operand.tmp 3) 1, type := 0, pos := "l6_lanes.go:52", after := #[], guard := none }) (v := ?_) rfl (by kernel_rfl) (by kernel_rfl) (by kernel_rfl) (by kernel_rfl) (fun _ _ _ h => h) (Or.inl ⟨by rfl, ?_⟩) hS0 ?_
    rotate_left
    · (intro w9 hSw; (try dsimp only at hSw); go_simp; try with_reducible rfl)
    try simp only [Act.put, List.setIfInBounds_toArray, List.set_cons_zero, List.set_cons_succ]
    refine held_take (i := 3) (oi := { dst := some 22, op := Op.load 3 (Operand.tmp 21), type := 3, pos := "l6_lanes.go:52", after := #[{ on := 2, ground := Ground.data }], guard := none }) (v := ?_) rfl (by kernel_rfl) (by kernel_rfl) (by kernel_rfl) (by kernel_rfl) (fun _ _ _ h => h) (Or.inl ⟨by rfl, ?_⟩) hS0 ?_
    rotate_left
    · (intro w9 hSw; (try dsimp only at hSw); go_simp; try with_reducible rfl)
    try simp only [Act.put, List.setIfInBounds_toArray, List.set_cons_zero, List.set_cons_succ]
    refine held_take (i := 4) (oi := { dst := some 23, op := Op.indexAddr 23 (Operand.tmp 20) (Operand.tmp 22), type := 0, pos := "l6_lanes.go:52", after := #[{ on := 1, ground := Ground.data }, { on := 3, ground := Ground.data }], guard := none }) (v := ?_) rfl (by kernel_rfl) (by kernel_rfl) (by kernel_rfl) (by kernel_rfl) (fun _ _ _ h => h) (Or.inl ⟨by rfl, ?_⟩) hS0 ?_
    rotate_left
    · (intro w9 hSw; (try dsimp only at hSw); go_simp; try with_reducible rfl)
    try simp only [Act.put, List.setIfInBounds_toArray, List.set_cons_zero, List.set_cons_succ]
    refine held_take (i := 5) (oi := { dst := some 24, op := Op.load 37 (Operand.tmp 23), type := 37, pos := "l6_lanes.go:52", after := #[{ on := 4, ground := Ground.data }], guard := none }) (v := ?_) rfl (by kernel_rfl) (by kernel_rfl) (by kernel_rfl) (by kernel_rfl) (fun _ _ _ h => h) (Or.inl ⟨by rfl, ?_⟩) hS0 ?_
    rotate_left
    · (intro w9 hSw; (try dsimp only at hSw); go_simp; try with_reducible rfl)
    try simp only [Act.put, List.setIfInBounds_toArray, List.set_cons_zero, List.set_cons_succ]
    refine held_take (i := 6) (oi := { dst := some 25, op := Op.load 29 (Operand.tmp 3), type := 29, pos := "l6_lanes.go:52", after := #[], guard := none }) (v := ?_) rfl (by kernel_rfl) (by kernel_rfl) (by kernel_rfl) (by kernel_rfl) (fun _ _ _ h => h) (Or.inl ⟨by rfl, ?_⟩) hS0 ?_
    rotate_left
    · (intro w9 hSw; (try dsimp only at hSw); go_simp; try with_reducible rfl)
    try simp only [Act.put, List.setIfInBounds_toArray, List.set_cons_zero, List.set_cons_succ]
    refine held_two (i := 7) (j := 11) (oi := { dst := some 26, op := Op.call { callee := Callee.value (Operand.func 81), args := #[Operand.tmp 24, Operand.tmp 25], argTypes := #[37, 29] }, type := 102, pos := "l6_lanes.go:52", after := #[{ on := 5, ground := Ground.data }, { on := 6, ground := Ground.data }], guard := none }) (oj := { dst := some 6, op := Op.alloc 37, type := 0, pos := "l6_lanes.go:52", after := #[], guard := none }) (by kernel_rfl) rfl rfl (fun K hK => ?_) (fun K hK => ?_)
    · go_simp
      rw [← HLK.out]
      go_at_call 81
      refine (jnI_yes r.q A1 n1 c1 r.fs p _ HF0.out HJ.out).mono ?_
      rintro e w3 ⟨A2, n2, c2, fh, rfl, hD, hb3⟩
      have D3 := Lib.hid hD
      have B3 := Lib.hid (below_seq B0.out hb3)
      have hS3 := OS.out _ B3.out
      clear hb3 hD
      refine hK.out _ _ (.inr hS3) ?_
      clear hK K
      try simp only [Act.put, List.setIfInBounds_toArray, List.set_cons_zero, List.set_cons_succ]
      refine held_take (i := 8) (oi := { dst := some 18, op := Op.move (Operand.tmp 26), type := 102, pos := "l6_lanes.go:52", after := #[{ on := 7, ground := Ground.data }], guard := none }) (v := ?_) rfl (by kernel_rfl) (by kernel_rfl) (by kernel_rfl) (by kernel_rfl) (fun _ _ _ h => h) (Or.inl ⟨by rfl, ?_⟩) hS3 ?_
      rotate_left
      · (intro w9 hSw; (try dsimp only at hSw); go_simp; try with_reducible rfl)
      try simp only [Act.put, List.setIfInBounds_toArray, List.set_cons_zero, List.set_cons_succ]
      refine held_take (i := 9) (oi := { dst := some 27, op := Op.extract (Operand.tmp 18) 0, type := 37, pos := "l6_lanes.go:52", after := #[{ on := 8, ground := Ground.data }], guard := none }) (v := ?_) rfl (by kernel_rfl) (by kernel_rfl) (by kernel_rfl) (by kernel_rfl) (fun _ _ _ h => h) (Or.inl ⟨by rfl, ?_⟩) hS3 ?_
      rotate_left
      · (intro w9 hSw; (try dsimp only at hSw); go_simp; try with_reducible rfl)
      try simp only [Act.put, List.setIfInBounds_toArray, List.set_cons_zero, List.set_cons_succ]
      refine held_take (i := 10) (oi := { dst := some 28, op := Op.extract (Operand.tmp 18) 1, type := 4, pos := "l6_lanes.go:52", after := #[{ on := 8, ground := Ground.data }, { on := 12, ground := Ground.gcOnly Departure.lateStores }], guard := none }) (v := ?_) rfl (by kernel_rfl) (by kernel_rfl) (by kernel_rfl) (by kernel_rfl) (fun _ _ _ h => h) (Or.inl ⟨by rfl, ?_⟩) hS3 ?_
      rotate_left
      · (intro w9 hSw; (try dsimp only at hSw); go_simp; try with_reducible rfl)
      try simp only [Act.put, List.setIfInBounds_toArray, List.set_cons_zero, List.set_cons_succ]
      refine held_one (i := 11) (o := { dst := some 6, op := Op.alloc 37, type := 0, pos := "l6_lanes.go:52", after := #[], guard := none }) (by kernel_rfl) rfl (fun K hK => ?_)
      go_simp
      have hS4 := OS.out _ (below_alloc B3.out (.cells #[.int .i64 0, .slice none 0 0] 37))
      refine hK.out _ _ (.inr hS4) ?_
      clear hK K
      try simp only [Act.put, List.setIfInBounds_toArray, List.set_cons_zero, List.set_cons_succ]
      refine held_one (i := 12) (o := { dst := none, op := Op.store 37 (Operand.tmp 6) (Operand.tmp 27), type := 0, pos := "l6_lanes.go:52", after := #[{ on := 11, ground := Ground.data }, { on := 9, ground := Ground.data }, { on := 7, ground := Ground.chain }, { on := 0, ground := Ground.phase }, { on := 1, ground := Ground.phase }, { on := 2, ground := Ground.phase }, { on := 3, ground := Ground.phase }, { on := 4, ground := Ground.phase }, { on := 5, ground := Ground.phase }, { on := 6, ground := Ground.phase }, { on := 7, ground := Ground.phase }, { on := 8, ground := Ground.phase }, { on := 9, ground := Ground.phase }, { on := 10, ground := Ground.textOnly Departure.lateStores }, { on := 11, ground := Ground.phase }], guard := none }) (by kernel_rfl) rfl (fun K hK => ?_)
      go_simp
      refine hK.out _ _ (.inr (by first | exact OS.out _ (below_alloc B3.out _) | (refine OS.out _ ?_; with_reducible refine Below.setCell ?_ ?_ _; with_reducible refine Below.setCell ?_ ?_ _; (first | with_reducible exact B3.out | with_reducible exact below_alloc B3.out _); all_goals (have := z0.out; simp <;> omega)))) ?_
      clear hK K
      try simp only [Act.put, List.setIfInBounds_toArray, List.set_cons_zero, List.set_cons_succ]
      refine held_one (i := 13) (o := { dst := some 7, op := Op.assign (Operand.tmp 28), type := 4, pos := "l6_lanes.go:52", after := #[{ on := 10, ground := Ground.data }, { on := 12, ground := Ground.chain }, { on := 0, ground := Ground.phase }, { on := 1, ground := Ground.phase }, { on := 2, ground := Ground.phase }, { on := 3, ground := Ground.phase }, { on := 4, ground := Ground.phase }, { on := 5, ground := Ground.phase }, { on := 6, ground := Ground.phase }, { on := 7, ground := Ground.phase }, { on := 8, ground := Ground.phase }, { on := 9, ground := Ground.phase }, { on := 10, ground := Ground.phase }, { on := 11, ground := Ground.phase }, { on := 12, ground := Ground.phase }], guard := none }) (by kernel_rfl) rfl (fun K hK => ?_)
      go_simp
      refine hK.out _ _ (.inl rfl) ?_
      clear hK K
      try simp only [Act.put, List.setIfInBounds_toArray, List.set_cons_zero, List.set_cons_succ]
      refine held_done (by kernel_rfl) ?_ _
      go_wp2_with fail
      go_meet
      first | exact jb_new (by have := D3.out; rw [z0.out] at this; exact this) B3.out | (rw [z0.out]; exact jb_set (by have := D3.out; simp at this; rw [z0.out] at this; exact this) B3.out (by have := HY.out; rw [z0.out] at this; exact this))
    · go_simp
      have hS1 := OS.out _ (below_alloc B0.out (.cells #[.int .i64 0, .slice none 0 0] 37))
      refine hK.out _ _ (.inr hS1) ?_
      clear hK K
      try simp only [Act.put, List.setIfInBounds_toArray, List.set_cons_zero, List.set_cons_succ]
      refine held_one (i := 7) (o := { dst := some 26, op := Op.call { callee := Callee.value (Operand.func 81), args := #[Operand.tmp 24, Operand.tmp 25], argTypes := #[37, 29] }, type := 102, pos := "l6_lanes.go:52", after := #[{ on := 5, ground := Ground.data }, { on := 6, ground := Ground.data }], guard := none }) (by kernel_rfl) rfl (fun K hK => ?_)
      go_simp
      rw [← HLK.out]
      go_at_call 81
      refine (jnI_yes r.q A1 n1 c1 r.fs p _ (fr_allocF HF0.out _) HJ.out).mono ?_
      rintro e w3 ⟨A2, n2, c2, fh, rfl, hD, hb3⟩
      have D3 := Lib.hid hD
      have B3 := Lib.hid (below_seq (below_alloc B0.out _) hb3)
      have hS3 := OS.out _ B3.out
      have HY := Lib.hid (blk_below (blk_new w0 37 #[.int .i64 0, .slice none 0 0]) hb3 (by simp))
      obtain ⟨y0, y1, yf0, yf1⟩ := blk_two HY.out
      clear hb3 hD
      refine hK.out _ _ (.inr hS3) ?_
      clear hK K
      try simp only [Act.put, List.setIfInBounds_toArray, List.set_cons_zero, List.set_cons_succ]
      refine held_take (i := 8) (oi := { dst := some 18, op := Op.move (Operand.tmp 26), type := 102, pos := "l6_lanes.go:52", after := #[{ on := 7, ground := Ground.data }], guard := none }) (v := ?_) rfl (by kernel_rfl) (by kernel_rfl) (by kernel_rfl) (by kernel_rfl) (fun _ _ _ h => h) (Or.inl ⟨by rfl, ?_⟩) hS3 ?_
      rotate_left
      · (intro w9 hSw; (try dsimp only at hSw); go_simp; try with_reducible rfl)
      try simp only [Act.put, List.setIfInBounds_toArray, List.set_cons_zero, List.set_cons_succ]
      refine held_take (i := 9) (oi := { dst := some 27, op := Op.extract (Operand.tmp 18) 0, type := 37, pos := "l6_lanes.go:52", after := #[{ on := 8, ground := Ground.data }], guard := none }) (v := ?_) rfl (by kernel_rfl) (by kernel_rfl) (by kernel_rfl) (by kernel_rfl) (fun _ _ _ h => h) (Or.inl ⟨by rfl, ?_⟩) hS3 ?_
      rotate_left
      · (intro w9 hSw; (try dsimp only at hSw); go_simp; try with_reducible rfl)
      try simp only [Act.put, List.setIfInBounds_toArray, List.set_cons_zero, List.set_cons_succ]
      refine held_take (i := 10) (oi := { dst := some 28, op := Op.extract (Operand.tmp 18) 1, type := 4, pos := "l6_lanes.go:52", after := #[{ on := 8, ground := Ground.data }, { on := 12, ground := Ground.gcOnly Departure.lateStores }], guard := none }) (v := ?_) rfl (by kernel_rfl) (by kernel_rfl) (by kernel_rfl) (by kernel_rfl) (fun _ _ _ h => h) (Or.inl ⟨by rfl, ?_⟩) hS3 ?_
      rotate_left
      · (intro w9 hSw; (try dsimp only at hSw); go_simp; try with_reducible rfl)
      try simp only [Act.put, List.setIfInBounds_toArray, List.set_cons_zero, List.set_cons_succ]
      refine held_one (i := 12) (o := { dst := none, op := Op.store 37 (Operand.tmp 6) (Operand.tmp 27), type := 0, pos := "l6_lanes.go:52", after := #[{ on := 11, ground := Ground.data }, { on := 9, ground := Ground.data }, { on := 7, ground := Ground.chain }, { on := 0, ground := Ground.phase }, { on := 1, ground := Ground.phase }, { on := 2, ground := Ground.phase }, { on := 3, ground := Ground.phase }, { on := 4, ground := Ground.phase }, { on := 5, ground := Ground.phase }, { on := 6, ground := Ground.phase }, { on := 7, ground := Ground.phase }, { on := 8, ground := Ground.phase }, { on := 9, ground := Ground.phase }, { on := 10, ground := Ground.textOnly Departure.lateStores }, { on := 11, ground := Ground.phase }], guard := none }) (by kernel_rfl) rfl (fun K hK => ?_)
      go_simp
      refine hK.out _ _ (.inr (by first | exact OS.out _ (below_alloc B3.out _) | (refine OS.out _ ?_; with_reducible refine Below.setCell ?_ ?_ _; with_reducible refine Below.setCell ?_ ?_ _; (first | with_reducible exact B3.out | with_reducible exact below_alloc B3.out _); all_goals (have := z0.out; simp <;> omega)))) ?_
      clear hK K
      try simp only [Act.put, List.setIfInBounds_toArray, List.set_cons_zero, List.set_cons_succ]
      refine held_one (i := 13) (o := { dst := some 7, op := Op.assign (Operand.tmp 28), type := 4, pos := "l6_lanes.go:52", after := #[{ on := 10, ground := Ground.data }, { on := 12, ground := Ground.chain }, { on := 0, ground := Ground.phase }, { on := 1, ground := Ground.phase }, { on := 2, ground := Ground.phase }, { on := 3, ground := Ground.phase }, { on := 4, ground := Ground.phase }, { on := 5, ground := Ground.phase }, { on := 6, ground := Ground.phase }, { on := 7, ground := Ground.phase }, { on := 8, ground := Ground.phase }, { on := 9, ground := Ground.phase }, { on := 10, ground := Ground.phase }, { on := 11, ground := Ground.phase }, { on := 12, ground := Ground.phase }], guard := none }) (by kernel_rfl) rfl (fun K hK => ?_)
      go_simp
      refine hK.out _ _ (.inl rfl) ?_
      clear hK K
      try simp only [Act.put, List.setIfInBounds_toArray, List.set_cons_zero, List.set_cons_succ]
      refine held_done (by kernel_rfl) ?_ _
      go_wp2_with fail
      go_meet
      first | exact jb_new (by have := D3.out; rw [z0.out] at this; exact this) B3.out | (rw [z0.out]; exact jb_set (by have := D3.out; simp at this; rw [z0.out] at this; exact this) B3.out (by have := HY.out; rw [z0.out] at this; exact this))
  case rest =>
  have HB := Lib.hid hcut
  have F3 := Lib.hid (fm_below F2.out (by obtain ⟨RB, A2, n2, c2, fh, s, e, -, -, -, -, -, -, h7⟩ := HB.out; exact h7))
  obtain ⟨RB, A2, n2, c2, fh, s, e, rfl, rfl, hBx, hD, hs2, hew, hB⟩ := hcut
  have BX := Lib.hid hBx
  have DX := Lib.hid hD
  have zx := hB.size
  obtain ⟨⟨x0, x1, x2⟩, -⟩ := blk_three (fm_blk F3.out 0 rfl)
  clear hBx hD hB hS0 HB
  go_wp2_with fail
  refine (copyLI_any (some ⟨g, off, none⟩) n c B m d C o f l _ (lr_below H.out F3.out.below)).mono ?_
  rintro e' w4 ⟨A4, n4', c4, B4, m4, d4, C4, o4, f4, hs4, iv, rfl, e1, e2, e3, hL, hI, hb⟩
  obtain rfl : n4' = n := by have := HE.out.1; simp [jnN] at this; omega
  have F4 := Lib.hid (fm_below F3.out hb)
  have BX4 := Lib.hid (blk_below BX.out hb (blk_lt BX.out))
  have DX4 := Lib.hid (dv_below DX.out hb)
  have HI := Lib.hid hI
  have z4 := hb.size
  obtain ⟨g4, cap, hv4, hg4, hgl4⟩ := hL.r.row.form (by omega)
  obtain ⟨rfl, rfl⟩ : A4 = some ⟨g4, 0, none⟩ ∧ c4 = cap := by injection hv4 with a1 a2 a3; exact ⟨a1, a3⟩
  have LL := Lib.hid hL
  have EL := Lib.hid (And.intro e2 e3)
  have hn2 : n2 ≤ 4000000000 := by
    have := do_cap DX.out.1
    have := HJ.out
    have := rv_len (rv_join this)
    omega
  clear hb hL hI e1 e2 e3 hv4 x0 x1 x2
  -- the copy's box
  have XB := Lib.hid (show Blk (w4.alloc (.cells #[.slice (some ⟨g4, 0, none⟩) n4' c4, .slice B4 m4 d4, .slice C4 o4 f4] 26)) w4.heap.size 26 #[.slice (some ⟨g4, 0, none⟩) n4' c4, .slice B4 m4 d4, .slice C4 o4 f4] from blk_new w4 _ _)
  have F5 := Lib.hid (fm_alloc F4.out (.cells #[.slice (some ⟨g4, 0, none⟩) n4' c4, .slice B4 m4 d4, .slice C4 o4 f4] 26))
  have LL5 := Lib.hid (lo_below LL.out (below_alloc (Below.refl _ _) (.cells #[.slice (some ⟨g4, 0, none⟩) n4' c4, .slice B4 m4 d4, .slice C4 o4 f4] 26)))
  have BX5 := Lib.hid (blk_alloc BX4.out (.cells #[.slice (some ⟨g4, 0, none⟩) n4' c4, .slice B4 m4 d4, .slice C4 o4 f4] 26))
  have DX5 := Lib.hid (dv_below DX4.out (below_alloc (Below.refl _ _) (.cells #[.slice (some ⟨g4, 0, none⟩) n4' c4, .slice B4 m4 d4, .slice C4 o4 f4] 26)))
  have zW : (w4.alloc (.cells #[.slice (some ⟨g4, 0, none⟩) n4' c4, .slice B4 m4 d4, .slice C4 o4 f4] 26)).heap.size = w4.heap.size + 1 := by simp
  have zB : RB < w4.heap.size := blk_lt BX4.out
  go_upto_region 7 with fail
  generalize (w4.alloc (.cells #[.slice (some ⟨g4, 0, none⟩) n4' c4, .slice B4 m4 d4, .slice C4 o4 f4] 26)) = W at XB F5 LL5 BX5 DX5 zW ⊢
  obtain ⟨⟨b0, b1, b2⟩, -⟩ := blk_three XB.out
  obtain ⟨⟨k0, k1, k2, k3⟩, -⟩ := blk_fourR (fm_blk F5.out 1 rfl)
  rw [HLK.out] at k1
  obtain ⟨v0, v1, -, -⟩ := blk_two BX5.out
  obtain ⟨gg, oo, hh, e1, -, hhk, c0, c1'⟩ := hq_at (hq_own LL5.out.r.row) hkl4
  obtain ⟨rfl, rfl⟩ : g4 = gg ∧ 0 = oo := by injection e1 with e1; injection e1 with a b; exact ⟨a, b⟩
  rw [Nat.zero_add] at c0 c1'
  have f0 := World.ownsRow.frozenAt LL5.out.r.row (k * 2)
  have f1 := World.ownsRow.frozenAt LL5.out.r.row (k * 2 + 1)
  have PUT := Lib.hid (lo_put (k := k) (lo2 := w.heap.size + 3) (s := s) (e := e) (h := ⟨r.q, A2, n2, c2⟩) (r := ⟨r.q, joinL r.fs p⟩) (lo_mono LL5.out (Nat.le_refl _)) hkl4 rfl hn2 (by omega) (by omega) hew DX5.out)
  have zg : g4 ≠ w4.heap.size := by omega
  have zg2 : g4 ≠ w.heap.size + 2 := by omega
  have zr : w4.heap.size ≠ w.heap.size + 2 := by omega
  obtain ⟨⟨o0, o1, o2⟩, of0, of1, of2⟩ := blk_three (fm_blk F5.out 2 rfl)
  have zo := blk_lt (fm_blk F5.out 2 rfl)
  have zo1 := blk_lt (fm_blk F5.out 1 rfl)
  have BW := Lib.hid F5.out.below
  clear e1 hhk
  go_wp2
  refine bodyPost_ret (v := .tuple #[.agg #[.slice (some ⟨g4, 0, none⟩) n4' c4, .slice B4 m4 d4, .slice C4 o4 f4], .bool true]) (by simp [results, Try.results38, go_sem, o0, o1, o2]) rfl ⟨some ⟨g4, 0, none⟩, n4', c4, B4, m4, d4, C4, o4, f4, _, _, rfl, HE.out.1.symm, EL.out.1, EL.out.2, lo_mono (lo_far (lo_far (lo_far PUT.out (by simp) ?_ _) (by simp) ?_ _) (by simp) ?_ _) (by omega), fun j hj => Nat.le_trans ?_ (up_tr_lo (L := w.heap.size + 3) (fun j hj => Nat.le_trans (by omega) (HI.out j hj)) (by omega) j hj), ?_⟩
  · exact up_tr_lo (fun j hj => Nat.le_trans (by omega) (HI.out j hj)) (by omega)
  · exact up_tr_lo (fun j hj => Nat.le_trans (by omega) (HI.out j hj)) (by omega)
  · exact up_tr_lo (fun j hj => Nat.le_trans (by omega) (HI.out j hj)) (by omega)
  · omega
  · repeat refine Below.setCell ?_ (by simp <;> omega) _
    exact BW.out
set_option maxRecDepth 100000 in
set_option maxHeartbeats 4000000 in
theorem jlS_no (A : Option Addr) (n c : Nat) (B : Option Addr) (m d : Nat) (C : Option Addr) (o f : Nat) (l : Ln) (p : Pkt) (w : World) (h : LR w A n B m C o l) (hk : ¬ ∃ k r, JnOk l p k r) :
    Calls Try.prog 110 #[.agg #[.slice A n c, .slice B m d, .slice C o f], .agg #[.int .i64 p.peer, .int .i64 p.lane, .int .i64 p.size, .int .i64 p.id]] w (JlNo w) := by
  have H := Lib.hid h
  have F := Lib.hid (j3_start w #[.slice A n c, .slice B m d, .slice C o f] p)
  have HK := Lib.hid hk
  have hlen := lr_len h
  clear h hk
  rcases hv : lvB l with _ | _
  · have HV := Lib.hid hv
    clear hv
    go_enter Try.func110, Try.ntmps110
    go_wp2_with fail
    refine (lanS_any A n c B m d C o f l _ (lr_below H.out F.out.below)).mono ?_
    rintro e w1 ⟨rfl, hb⟩
    have F1 := Lib.hid (fm_below F.out hb)
    clear hb
    obtain ⟨⟨k0, k1, k2, k3⟩, -⟩ := blk_fourR (fm_blk F1.out 1 rfl)
    rw [HV.out]
    obtain ⟨⟨o0, o1, o2⟩, f0, f1, f2⟩ := blk_three (fm_blk F1.out 2 rfl)
    have zo := blk_lt (fm_blk F1.out 2 rfl)
    clear k0 k1 k2 k3
    go_wp2
    refine bodyPost_ret (v := .tuple #[.agg #[.slice none 0 0, .slice none 0 0, .slice none 0 0], .bool false]) (by simp [results, Try.results110, go_sem, o0, o1, o2]) rfl ⟨rfl, ?_⟩
    repeat refine Below.setCell ?_ (by simp <;> omega) _
    exact F1.out.below
  rcases hp : vldB p with _ | _
  · have HV := Lib.hid hv
    have HP := Lib.hid hp
    clear hv hp
    go_enter Try.func110, Try.ntmps110
    go_wp2_with fail
    refine (lanS_any A n c B m d C o f l _ (lr_below H.out F.out.below)).mono ?_
    rintro e w1 ⟨rfl, hb⟩
    have F1 := Lib.hid (fm_below F.out hb)
    clear hb
    obtain ⟨⟨k0, k1, k2, k3⟩, -⟩ := blk_fourR (fm_blk F1.out 1 rfl)
    rw [HV.out]
    go_wp2_with fail
    refine (vldS_any p _).mono ?_
    rintro e w2 ⟨rfl, hb⟩
    rw [HP.out]
    have F2 := Lib.hid (fm_below F1.out hb)
    clear hb k0 k1 k2 k3
    obtain ⟨⟨o0, o1, o2⟩, f0, f1, f2⟩ := blk_three (fm_blk F2.out 2 rfl)
    have zo := blk_lt (fm_blk F2.out 2 rfl)
    go_wp2
    refine bodyPost_ret (v := .tuple #[.agg #[.slice none 0 0, .slice none 0 0, .slice none 0 0], .bool false]) (by simp [results, Try.results110, go_sem, o0, o1, o2]) rfl ⟨rfl, ?_⟩
    repeat refine Below.setCell ?_ (by simp <;> omega) _
    exact F2.out.below
  · have HV := Lib.hid hv
    have HP := Lib.hid hp
    have LVl := lv_iff.1 hv
    have hl2 : 0 ≤ p.lane ∧ p.lane ≤ 3 := by have := of_decide_eq_true hp; omega
    obtain ⟨k, hkl⟩ : ∃ k : Nat, p.lane = (k : Int) := ⟨p.lane.toNat, by omega⟩
    have n4 := Lib.hid (show n = 4 by have := LVl.n0; omega)
    have HLK := Lib.hid hkl
    have hkn : k < n := by have := n4.out; omega
    obtain ⟨r, hr⟩ := get_of (xs := l.rs) (k := k) (by have := n4.out; omega)
    have HG := Lib.hid hr
    have HJ := Lib.hid (show ¬ joinOk r.q r.fs p from fun hj => HK.out ⟨k, r, LVl, hp, hkl, hr, hj⟩)
    clear hv hp LVl hr hlen hl2 hkl
    go_enter Try.func110, Try.ntmps110
    go_wp2_with fail
    refine (lanS_any A n c B m d C o f l _ (lr_below H.out F.out.below)).mono ?_
    rintro e w1 ⟨rfl, hb⟩
    have F1 := Lib.hid (fm_below F.out hb)
    clear hb
    obtain ⟨⟨k0, k1, k2, k3⟩, -⟩ := blk_fourR (fm_blk F1.out 1 rfl)
    rw [HV.out]
    go_wp2_with fail
    refine (vldS_any p _).mono ?_
    rintro e w2 ⟨rfl, hb⟩
    rw [HP.out]
    have F2 := Lib.hid (fm_below F1.out hb)
    clear hb k0 k1 k2 k3
    obtain ⟨g, off, r', A1, n1, c1, hA, hgl, hr', c0, c1', hfr⟩ := rr_at (lr_below H.out F2.out.below).r (k := k) (by assumption)
    obtain rfl : r = r' := Option.some.inj (HG.out.symm.trans hr')
    subst hA
    have HF := Lib.hid hfr
    have z2 := blk_lt (fm_blk F2.out 2 rfl)
    have OS : Hid (∀ w' : World, Below w2.heap.size w2 w' → ((w'.cell? ⟨w.heap.size, 0, none⟩ = some (.slice (some ⟨g, off, none⟩) n c) ∧ w'.cell? ⟨w.heap.size, 1, none⟩ = some (.slice B m d) ∧ w'.cell? ⟨w.heap.size, 2, none⟩ = some (.slice C o f)) ∧ (w'.cell? ⟨w.heap.size + 1, 0, none⟩ = some (.int .i64 p.peer) ∧ w'.cell? ⟨w.heap.size + 1, 1, none⟩ = some (.int .i64 (k : Int)) ∧ w'.cell? ⟨w.heap.size + 1, 2, none⟩ = some (.int .i64 p.size) ∧ w'.cell? ⟨w.heap.size + 1, 3, none⟩ = some (.int .i64 p.id)) ∧ (w'.cell? ⟨g, off + k * 2, none⟩ = some (.int .i64 r.q) ∧ w'.cell? ⟨g, off + k * 2 + 1, none⟩ = some (.slice A1 n1 c1))) ∧ Below w2.heap.size w2 w') := Lib.hid (fun w' hb => by
      have F3 := fm_below F2.out hb
      refine ⟨⟨(blk_three (fm_blk F3 0 rfl)).1, ?_, ((bcell hb).1 _ _ hgl).trans c0, ((bcell hb).1 _ _ hgl).trans c1'⟩, hb⟩
      rw [← HLK.out]
      exact (blk_fourR (fm_blk F3 1 rfl)).1)
    have hS0 := OS.out _ (Below.refl w2.heap.size w2).drew
    have k0' : (0 : Int) ≤ (k : Int) := by omega
    have k1' : (k : Int) < (n : Int) := by omega
    have B0 := Lib.hid (Below.refl w2.heap.size w2).drew
    have HF0 := Lib.hid (fr_belowF HF.out (Below.refl w2.heap.size w2).drew)
    have z0 := Lib.hid (show w2.drew.heap.size = w2.heap.size from rfl)
    clear hr' hfr c0 c1'
    go_upto_region 3 with fail
    go_cut [6, 7] from 18 to 28 (fun s1 s2 wx => (∃ RB, s1 = .pointer (some ⟨RB, 0, none⟩)) ∧ s2 = .bool false ∧ Below w2.heap.size w2 wx)
    case first =>
      refine held_start (S := (fun w' => ((w'.cell? ⟨w.heap.size, 0, none⟩ = some (.slice (some ⟨g, off, none⟩) n c) ∧ w'.cell? ⟨w.heap.size, 1, none⟩ = some (.slice B m d) ∧ w'.cell? ⟨w.heap.size, 2, none⟩ = some (.slice C o f)) ∧ (w'.cell? ⟨w.heap.size + 1, 0, none⟩ = some (.int .i64 p.peer) ∧ w'.cell? ⟨w.heap.size + 1, 1, none⟩ = some (.int .i64 (k : Int)) ∧ w'.cell? ⟨w.heap.size + 1, 2, none⟩ = some (.int .i64 p.size) ∧ w'.cell? ⟨w.heap.size + 1, 3, none⟩ = some (.int .i64 p.id)) ∧ (w'.cell? ⟨g, off + k * 2, none⟩ = some (.int .i64 r.q) ∧ w'.cell? ⟨g, off + k * 2 + 1, none⟩ = some (.slice A1 n1 c1))) ∧ Below w2.heap.size w2 w')) 13 (by kernel_rfl) ?_
      generalize w2.drew = w0 at B0 HF0 z0 hS0 ⊢
      refine held_take (i := 0) (oi := { dst := some 19, op := Op.fieldAddr 26 (Operand.tmp 2) 0, type := 0, pos := "l6_lanes.go:92", after := #[], guard := none }) (v := ?_) rfl (by kernel_rfl) (by kernel_rfl) (by kernel_rfl) (by kernel_rfl) (fun _ _ _ h => h) (Or.inl ⟨by rfl, ?_⟩) hS0 ?_
      rotate_left
      · (intro w9 hSw; (try dsimp only at hSw); go_simp; try with_reducible rfl)
      try simp only [Act.put, List.setIfInBounds_toArray, List.set_cons_zero, List.set_cons_succ]
      refine held_take (i := 1) (oi := { dst := some 20, op := Op.load 23 (Operand.tmp 19), type := 23, pos := "l6_lanes.go:92", after := #[{ on := 0, ground := Ground.data }], guard := none }) (v := ?_) rfl (by kernel_rfl) (by kernel_rfl) (by kernel_rfl) (by kernel_rfl) (fun _ _ _ h => h) (Or.inl ⟨by rfl, ?_⟩) hS0 ?_
      rotate_left
      · (intro w9 hSw; (try dsimp only at hSw); go_simp; try with_reducible rfl)
      try simp only [Act.put, List.setIfInBounds_toArray, List.set_cons_zero, List.set_cons_succ]
      refine held_take (i := 2) (oi := { dst := some 21, op := Op.fieldAddr 29 (Operand.tmp 3) 1, type := 0, pos := "l6_lanes.go:92", after := #[], guard := none }) (v := ?_) rfl (by kernel_rfl) (by kernel_rfl) (by kernel_rfl) (by kernel_rfl) (fun _ _ _ h => h) (Or.inl ⟨by rfl, ?_⟩) hS0 ?_
      rotate_left
      · (intro w9 hSw; (try dsimp only at hSw); go_simp; try with_reducible rfl)
      try simp only [Act.put, List.setIfInBounds_toArray, List.set_cons_zero, List.set_cons_succ]
      refine held_take (i := 3) (oi := { dst := some 22, op := Op.load 3 (Operand.tmp 21), type := 3, pos := "l6_lanes.go:92", after := #[{ on := 2, ground := Ground.data }], guard := none }) (v := ?_) rfl (by kernel_rfl) (by kernel_rfl) (by kernel_rfl) (by kernel_rfl) (fun _ _ _ h => h) (Or.inl ⟨by rfl, ?_⟩) hS0 ?_
      rotate_left
      · (intro w9 hSw; (try dsimp only at hSw); go_simp; try with_reducible rfl)
      try simp only [Act.put, List.setIfInBounds_toArray, List.set_cons_zero, List.set_cons_succ]
      refine held_take (i := 4) (oi := { dst := some 23, op := Op.indexAddr 23 (Operand.tmp 20) (Operand.tmp 22), type := 0, pos := "l6_lanes.go:92", after := #[{ on := 1, ground := Ground.data }, { on := 3, ground := Ground.data }], guard := none }) (v := ?_) rfl (by kernel_rfl) (by kernel_rfl) (by kernel_rfl) (by kernel_rfl) (fun _ _ _ h => h) (Or.inl ⟨by rfl, ?_⟩) hS0 ?_
      rotate_left
      · (intro w9 hSw; (try dsimp only at hSw); go_simp; try with_reducible rfl)
      try simp only [Act.put, List.setIfInBounds_toArray, List.set_cons_zero, List.set_cons_succ]
      refine held_take (i := 5) (oi := { dst := some 24, op := Op.load 37 (Operand.tmp 23), type := 37, pos := "l6_lanes.go:92", after := #[{ on := 4, ground := Ground.data }], guard := none }) (v := ?_) rfl (by kernel_rfl) (by kernel_rfl) (by kernel_rfl) (by kernel_rfl) (fun _ _ _ h => h) (Or.inl ⟨by rfl, ?_⟩) hS0 ?_
      rotate_left
      · (intro w9 hSw; (try dsimp only at hSw); go_simp; try with_reducible rfl)
      try simp only [Act.put, List.setIfInBounds_toArray, List.set_cons_zero, List.set_cons_succ]
      refine held_take (i := 6) (oi := { dst := some 25, op := Op.load 29 (Operand.tmp 3), type := 29, pos := "l6_lanes.go:92", after := #[], guard := none }) (v := ?_) rfl (by kernel_rfl) (by kernel_rfl) (by kernel_rfl) (by kernel_rfl) (fun _ _ _ h => h) (Or.inl ⟨by rfl, ?_⟩) hS0 ?_
      rotate_left
      · (intro w9 hSw; (try dsimp only at hSw); go_simp; try with_reducible rfl)
      try simp only [Act.put, List.setIfInBounds_toArray, List.set_cons_zero, List.set_cons_succ]
      refine held_two (i := 7) (j := 11) (oi := { dst := some 26, op := Op.call { callee := Callee.value (Operand.func 120), args := #[Operand.tmp 24, Operand.tmp 25], argTypes := #[37, 29] }, type := 102, pos := "l6_lanes.go:92", after := #[{ on := 5, ground := Ground.data }, { on := 6, ground := Ground.data }], guard := none }) (oj := { dst := some 6, op := Op.alloc 37, type := 0, pos := "l6_lanes.go:92", after := #[], guard := none }) (by kernel_rfl) rfl rfl (fun K hK => ?_) (fun K hK => ?_)
      · go_simp
        rw [← HLK.out]
        go_at_call 120
        refine (jnS_no r.q A1 n1 c1 r.fs p _ HF0.out HJ.out).mono ?_
        rintro e w3 ⟨rfl, hb3⟩
        have B3 := Lib.hid (below_seq B0.out hb3)
        have hS3 := OS.out _ B3.out
        clear hb3
        refine hK.out _ _ (.inr hS3) ?_
        clear hK K
        try simp only [Act.put, List.setIfInBounds_toArray, List.set_cons_zero, List.set_cons_succ]
        refine held_take (i := 8) (oi := { dst := some 18, op := Op.move (Operand.tmp 26), type := 102, pos := "l6_lanes.go:92", after := #[{ on := 7, ground := Ground.data }], guard := none }) (v := ?_) rfl (by kernel_rfl) (by kernel_rfl) (by kernel_rfl) (by kernel_rfl) (fun _ _ _ h => h) (Or.inl ⟨by rfl, ?_⟩) hS3 ?_
        rotate_left
        · (intro w9 hSw; (try dsimp only at hSw); go_simp; try with_reducible rfl)
        try simp only [Act.put, List.setIfInBounds_toArray, List.set_cons_zero, List.set_cons_succ]
        refine held_take (i := 9) (oi := { dst := some 27, op := Op.extract (Operand.tmp 18) 0, type := 37, pos := "l6_lanes.go:92", after := #[{ on := 8, ground := Ground.data }], guard := none }) (v := ?_) rfl (by kernel_rfl) (by kernel_rfl) (by kernel_rfl) (by kernel_rfl) (fun _ _ _ h => h) (Or.inl ⟨by rfl, ?_⟩) hS3 ?_
        rotate_left
        · (intro w9 hSw; (try dsimp only at hSw); go_simp; try with_reducible rfl)
        try simp only [Act.put, List.setIfInBounds_toArray, List.set_cons_zero, List.set_cons_succ]
        refine held_take (i := 10) (oi := { dst := some 28, op := Op.extract (Operand.tmp 18) 1, type := 4, pos := "l6_lanes.go:92", after := #[{ on := 8, ground := Ground.data }, { on := 12, ground := Ground.gcOnly Departure.lateStores }], guard := none }) (v := ?_) rfl (by kernel_rfl) (by kernel_rfl) (by kernel_rfl) (by kernel_rfl) (fun _ _ _ h => h) (Or.inl ⟨by rfl, ?_⟩) hS3 ?_
        rotate_left
        · (intro w9 hSw; (try dsimp only at hSw); go_simp; try with_reducible rfl)
        try simp only [Act.put, List.setIfInBounds_toArray, List.set_cons_zero, List.set_cons_succ]
        refine held_one (i := 11) (o := { dst := some 6, op := Op.alloc 37, type := 0, pos := "l6_lanes.go:92", after := #[], guard := none }) (by kernel_rfl) rfl (fun K hK => ?_)
        go_simp
        have hS4 := OS.out _ (below_alloc B3.out (.cells #[.int .i64 0, .slice none 0 0] 37))
        refine hK.out _ _ (.inr hS4) ?_
        clear hK K
        try simp only [Act.put, List.setIfInBounds_toArray, List.set_cons_zero, List.set_cons_succ]
        refine held_one (i := 12) (o := { dst := none, op := Op.store 37 (Operand.tmp 6) (Operand.tmp 27), type := 0, pos := "l6_lanes.go:92", after := #[{ on := 11, ground := Ground.data }, { on := 9, ground := Ground.data }, { on := 7, ground := Ground.chain }, { on := 0, ground := Ground.phase }, { on := 1, ground := Ground.phase }, { on := 2, ground := Ground.phase }, { on := 3, ground := Ground.phase }, { on := 4, ground := Ground.phase }, { on := 5, ground := Ground.phase }, { on := 6, ground := Ground.phase }, { on := 7, ground := Ground.phase }, { on := 8, ground := Ground.phase }, { on := 9, ground := Ground.phase }, { on := 10, ground := Ground.textOnly Departure.lateStores }, { on := 11, ground := Ground.phase }], guard := none }) (by kernel_rfl) rfl (fun K hK => ?_)
        go_simp
        refine hK.out _ _ (.inr (by first | exact OS.out _ (below_alloc B3.out _) | (refine OS.out _ ?_; with_reducible refine Below.setCell ?_ ?_ _; with_reducible refine Below.setCell ?_ ?_ _; (first | with_reducible exact B3.out | with_reducible exact below_alloc B3.out _); all_goals (have := z0.out; simp <;> omega)))) ?_
        clear hK K
        try simp only [Act.put, List.setIfInBounds_toArray, List.set_cons_zero, List.set_cons_succ]
        refine held_one (i := 13) (o := { dst := some 7, op := Op.assign (Operand.tmp 28), type := 4, pos := "l6_lanes.go:92", after := #[{ on := 10, ground := Ground.data }, { on := 12, ground := Ground.chain }, { on := 0, ground := Ground.phase }, { on := 1, ground := Ground.phase }, { on := 2, ground := Ground.phase }, { on := 3, ground := Ground.phase }, { on := 4, ground := Ground.phase }, { on := 5, ground := Ground.phase }, { on := 6, ground := Ground.phase }, { on := 7, ground := Ground.phase }, { on := 8, ground := Ground.phase }, { on := 9, ground := Ground.phase }, { on := 10, ground := Ground.phase }, { on := 11, ground := Ground.phase }, { on := 12, ground := Ground.phase }], guard := none }) (by kernel_rfl) rfl (fun K hK => ?_)
        go_simp
        refine hK.out _ _ (.inl rfl) ?_
        clear hK K
        try simp only [Act.put, List.setIfInBounds_toArray, List.set_cons_zero, List.set_cons_succ]
        refine held_done (by kernel_rfl) ?_ _
        go_wp2_with fail
        go_meet
        refine ⟨⟨_, rfl⟩, rfl, ?_⟩
        first | exact below_alloc B3.out _ | exact (B3.out.setCell (by have := z0.out; simp; omega) _).setCell (by have := z0.out; simp; omega) _
      · go_simp
        have hS1 := OS.out _ (below_alloc B0.out (.cells #[.int .i64 0, .slice none 0 0] 37))
        refine hK.out _ _ (.inr hS1) ?_
        clear hK K
        try simp only [Act.put, List.setIfInBounds_toArray, List.set_cons_zero, List.set_cons_succ]
        refine held_one (i := 7) (o := { dst := some 26, op := Op.call { callee := Callee.value (Operand.func 120), args := #[Operand.tmp 24, Operand.tmp 25], argTypes := #[37, 29] }, type := 102, pos := "l6_lanes.go:92", after := #[{ on := 5, ground := Ground.data }, { on := 6, ground := Ground.data }], guard := none }) (by kernel_rfl) rfl (fun K hK => ?_)
        go_simp
        rw [← HLK.out]
        go_at_call 120
        refine (jnS_no r.q A1 n1 c1 r.fs p _ (fr_allocF HF0.out _) HJ.out).mono ?_
        rintro e w3 ⟨rfl, hb3⟩
        have B3 := Lib.hid (below_seq (below_alloc B0.out _) hb3)
        have hS3 := OS.out _ B3.out
        have HY := Lib.hid (blk_below (blk_new w0 37 #[.int .i64 0, .slice none 0 0]) hb3 (by simp))
        obtain ⟨y0, y1, yf0, yf1⟩ := blk_two HY.out
        clear hb3
        refine hK.out _ _ (.inr hS3) ?_
        clear hK K
        try simp only [Act.put, List.setIfInBounds_toArray, List.set_cons_zero, List.set_cons_succ]
        refine held_take (i := 8) (oi := { dst := some 18, op := Op.move (Operand.tmp 26), type := 102, pos := "l6_lanes.go:92", after := #[{ on := 7, ground := Ground.data }], guard := none }) (v := ?_) rfl (by kernel_rfl) (by kernel_rfl) (by kernel_rfl) (by kernel_rfl) (fun _ _ _ h => h) (Or.inl ⟨by rfl, ?_⟩) hS3 ?_
        rotate_left
        · (intro w9 hSw; (try dsimp only at hSw); go_simp; try with_reducible rfl)
        try simp only [Act.put, List.setIfInBounds_toArray, List.set_cons_zero, List.set_cons_succ]
        refine held_take (i := 9) (oi := { dst := some 27, op := Op.extract (Operand.tmp 18) 0, type := 37, pos := "l6_lanes.go:92", after := #[{ on := 8, ground := Ground.data }], guard := none }) (v := ?_) rfl (by kernel_rfl) (by kernel_rfl) (by kernel_rfl) (by kernel_rfl) (fun _ _ _ h => h) (Or.inl ⟨by rfl, ?_⟩) hS3 ?_
        rotate_left
        · (intro w9 hSw; (try dsimp only at hSw); go_simp; try with_reducible rfl)
        try simp only [Act.put, List.setIfInBounds_toArray, List.set_cons_zero, List.set_cons_succ]
        refine held_take (i := 10) (oi := { dst := some 28, op := Op.extract (Operand.tmp 18) 1, type := 4, pos := "l6_lanes.go:92", after := #[{ on := 8, ground := Ground.data }, { on := 12, ground := Ground.gcOnly Departure.lateStores }], guard := none }) (v := ?_) rfl (by kernel_rfl) (by kernel_rfl) (by kernel_rfl) (by kernel_rfl) (fun _ _ _ h => h) (Or.inl ⟨by rfl, ?_⟩) hS3 ?_
        rotate_left
        · (intro w9 hSw; (try dsimp only at hSw); go_simp; try with_reducible rfl)
        try simp only [Act.put, List.setIfInBounds_toArray, List.set_cons_zero, List.set_cons_succ]
        refine held_one (i := 12) (o := { dst := none, op := Op.store 37 (Operand.tmp 6) (Operand.tmp 27), type := 0, pos := "l6_lanes.go:92", after := #[{ on := 11, ground := Ground.data }, { on := 9, ground := Ground.data }, { on := 7, ground := Ground.chain }, { on := 0, ground := Ground.phase }, { on := 1, ground := Ground.phase }, { on := 2, ground := Ground.phase }, { on := 3, ground := Ground.phase }, { on := 4, ground := Ground.phase }, { on := 5, ground := Ground.phase }, { on := 6, ground := Ground.phase }, { on := 7, ground := Ground.phase }, { on := 8, ground := Ground.phase }, { on := 9, ground := Ground.phase }, { on := 10, ground := Ground.textOnly Departure.lateStores }, { on := 11, ground := Ground.phase }], guard := none }) (by kernel_rfl) rfl (fun K hK => ?_)
        go_simp
        refine hK.out _ _ (.inr (by first | exact OS.out _ (below_alloc B3.out _) | (refine OS.out _ ?_; with_reducible refine Below.setCell ?_ ?_ _; with_reducible refine Below.setCell ?_ ?_ _; (first | with_reducible exact B3.out | with_reducible exact below_alloc B3.out _); all_goals (have := z0.out; simp <;> omega)))) ?_
        clear hK K
        try simp only [Act.put, List.setIfInBounds_toArray, List.set_cons_zero, List.set_cons_succ]
        refine held_one (i := 13) (o := { dst := some 7, op := Op.assign (Operand.tmp 28), type := 4, pos := "l6_lanes.go:92", after := #[{ on := 10, ground := Ground.data }, { on := 12, ground := Ground.chain }, { on := 0, ground := Ground.phase }, { on := 1, ground := Ground.phase }, { on := 2, ground := Ground.phase }, { on := 3, ground := Ground.phase }, { on := 4, ground := Ground.phase }, { on := 5, ground := Ground.phase }, { on := 6, ground := Ground.phase }, { on := 7, ground := Ground.phase }, { on := 8, ground := Ground.phase }, { on := 9, ground := Ground.phase }, { on := 10, ground := Ground.phase }, { on := 11, ground := Ground.phase }, { on := 12, ground := Ground.phase }], guard := none }) (by kernel_rfl) rfl (fun K hK => ?_)
        go_simp
        refine hK.out _ _ (.inl rfl) ?_
        clear hK K
        try simp only [Act.put, List.setIfInBounds_toArray, List.set_cons_zero, List.set_cons_succ]
        refine held_done (by kernel_rfl) ?_ _
        go_wp2_with fail
        go_meet
        refine ⟨⟨_, rfl⟩, rfl, ?_⟩
        first | exact below_alloc B3.out _ | exact (B3.out.setCell (by have := z0.out; simp; omega) _).setCell (by have := z0.out; simp; omega) _
    case rest =>
    obtain ⟨⟨RB, rfl⟩, rfl, hB⟩ := hcut
    have F3 := Lib.hid (fm_below F2.out hB)
    obtain ⟨⟨o0, o1, o2⟩, f0, f1, f2⟩ := blk_three (fm_blk F3.out 2 rfl)
    have zo := blk_lt (fm_blk F3.out 2 rfl)
    clear hB hS0
    go_wp2
    refine bodyPost_ret (v := .tuple #[.agg #[.slice none 0 0, .slice none 0 0, .slice none 0 0], .bool false]) (by simp [results, Try.results110, go_sem, o0, o1, o2]) rfl ⟨rfl, ?_⟩
    repeat refine Below.setCell ?_ (by simp <;> omega) _
    exact F3.out.below
set_option maxRecDepth 100000 in
set_option maxHeartbeats 4000000 in
theorem jlS_yes (A : Option Addr) (n c : Nat) (B : Option Addr) (m d : Nat) (C : Option Addr) (o f : Nat) (l : Ln) (p : Pkt) (k : Nat) (r : Rb) (w : World) (h : LR w A n B m C o l) (hk : JnOk l p k r) :
    Calls Try.prog 110 #[.agg #[.slice A n c, .slice B m d, .slice C o f], .agg #[.int .i64 p.peer, .int .i64 p.lane, .int .i64 p.size, .int .i64 p.id]] w (JlYes w (jnN l k r p)) := by
  have H := Lib.hid h
  have F := Lib.hid (j3_start w #[.slice A n c, .slice B m d, .slice C o f] p)
  have hlen := lr_len h
  have hkl4 : k < n := by have := get_lt hk.get; omega
  have HV := Lib.hid (lv_yes hk.lv)
  have HP := Lib.hid hk.pv
  have HLK := Lib.hid hk.lane
  have HG := Lib.hid hk.get
  have HJ := Lib.hid hk.jn
  have HE := Lib.hid (show (jnN l k r p).rs.length = n ∧ (jnN l k r p).ws.length = m ∧ (jnN l k r p).cs.length = o from ⟨by simp [jnN]; exact hlen.1, hlen.2.1, hlen.2.2⟩)
  clear h hk hlen
  go_enter Try.func110, Try.ntmps110
  go_wp2_with fail
  refine (lanS_any A n c B m d C o f l _ (lr_below H.out F.out.below)).mono ?_
  rintro e w1 ⟨rfl, hb⟩
  have F1 := Lib.hid (fm_below F.out hb)
  clear hb
  obtain ⟨⟨k0, k1, k2, k3⟩, -⟩ := blk_fourR (fm_blk F1.out 1 rfl)
  rw [HV.out]
  go_wp2_with fail
  refine (vldS_any p _).mono ?_
  rintro e w2 ⟨rfl, hb⟩
  rw [HP.out]
  have F2 := Lib.hid (fm_below F1.out hb)
  clear hb k0 k1 k2 k3
  obtain ⟨g, off, r', A1, n1, c1, hA, hgl, hr', c0, c1', hfr⟩ := rr_at (lr_below H.out F2.out.below).r (k := k) (by assumption)
  obtain rfl : r = r' := Option.some.inj (HG.out.symm.trans hr')
  subst hA
  have HF := Lib.hid hfr
  have z2 := blk_lt (fm_blk F2.out 2 rfl)
  have OS : Hid (∀ w' : World, Below w2.heap.size w2 w' → ((w'.cell? ⟨w.heap.size, 0, none⟩ = some (.slice (some ⟨g, off, none⟩) n c) ∧ w'.cell? ⟨w.heap.size, 1, none⟩ = some (.slice B m d) ∧ w'.cell? ⟨w.heap.size, 2, none⟩ = some (.slice C o f)) ∧ (w'.cell? ⟨w.heap.size + 1, 0, none⟩ = some (.int .i64 p.peer) ∧ w'.cell? ⟨w.heap.size + 1, 1, none⟩ = some (.int .i64 (k : Int)) ∧ w'.cell? ⟨w.heap.size + 1, 2, none⟩ = some (.int .i64 p.size) ∧ w'.cell? ⟨w.heap.size + 1, 3, none⟩ = some (.int .i64 p.id)) ∧ (w'.cell? ⟨g, off + k * 2, none⟩ = some (.int .i64 r.q) ∧ w'.cell? ⟨g, off + k * 2 + 1, none⟩ = some (.slice A1 n1 c1))) ∧ Below w2.heap.size w2 w') := Lib.hid (fun w' hb => by
    have F3 := fm_below F2.out hb
    refine ⟨⟨(blk_three (fm_blk F3 0 rfl)).1, ?_, ((bcell hb).1 _ _ hgl).trans c0, ((bcell hb).1 _ _ hgl).trans c1'⟩, hb⟩
    rw [← HLK.out]
    exact (blk_fourR (fm_blk F3 1 rfl)).1)
  have hS0 := OS.out _ (Below.refl w2.heap.size w2).drew
  have k0' : (0 : Int) ≤ (k : Int) := by omega
  have k1' : (k : Int) < (n : Int) := by omega
  have B0 := Lib.hid (Below.refl w2.heap.size w2).drew
  have HF0 := Lib.hid (fr_belowF HF.out (Below.refl w2.heap.size w2).drew)
  have z0 := Lib.hid (show w2.drew.heap.size = w2.heap.size from rfl)
  clear hr' hfr c0 c1'
  go_upto_region 3 with fail
  go_cut [6, 7] from 18 to 28 (fun s1 s2 wx => JB w2 r.q (joinL r.fs p) s1 s2 wx)
  case first =>
    refine held_start (S := (fun w' => ((w'.cell? ⟨w.heap.size, 0, none⟩ = some (.slice (some ⟨g, off, none⟩) n c) ∧ w'.cell? ⟨w.heap.size, 1, none⟩ = some (.slice B m d) ∧ w'.cell? ⟨w.heap.size, 2, none⟩ = some (.slice C o f)) ∧ (w'.cell? ⟨w.heap.size + 1, 0, none⟩ = some (.int .i64 p.peer) ∧ w'.cell? ⟨w.heap.size + 1, 1, none⟩ = some (.int .i64 (k : Int)) ∧ w'.cell? ⟨w.heap.size + 1, 2, none⟩ = some (.int .i64 p.size) ∧ w'.cell? ⟨w.heap.size + 1, 3, none⟩ = some (.int .i64 p.id)) ∧ (w'.cell? ⟨g, off + k * 2, none⟩ = some (.int .i64 r.q) ∧ w'.cell? ⟨g, off + k * 2 + 1, none⟩ = some (.slice A1 n1 c1))) ∧ Below w2.heap.size w2 w')) 13 (by kernel_rfl) ?_
    generalize w2.drew = w0 at B0 HF0 z0 hS0 ⊢
    refine held_take (i := 0) (oi := { dst := some 19, op := Op.fieldAddr 26 (Operand.tmp 2) 0, type := 0, pos := "l6_lanes.go:92", after := #[], guard := none }) (v := ?_) rfl (by kernel_rfl) (by kernel_rfl) (by kernel_rfl) (by kernel_rfl) (fun _ _ _ h => h) (Or.inl ⟨by rfl, ?_⟩) hS0 ?_
    rotate_left
    · (intro w9 hSw; (try dsimp only at hSw); go_simp; try with_reducible rfl)
    try simp only [Act.put, List.setIfInBounds_toArray, List.set_cons_zero, List.set_cons_succ]
    refine held_take (i := 1) (oi := { dst := some 20, op := Op.load 23 (Operand.tmp 19), type := 23, pos := "l6_lanes.go:92", after := #[{ on := 0, ground := Ground.data }], guard := none }) (v := ?_) rfl (by kernel_rfl) (by kernel_rfl) (by kernel_rfl) (by kernel_rfl) (fun _ _ _ h => h) (Or.inl ⟨by rfl, ?_⟩) hS0 ?_
    rotate_left
    · (intro w9 hSw; (try dsimp only at hSw); go_simp; try with_reducible rfl)
    try simp only [Act.put, List.setIfInBounds_toArray, List.set_cons_zero, List.set_cons_succ]
    refine held_take (i := 2) (oi := { dst := some 21, op := Op.fieldAddr 29 (Operand.tmp 3) 1, type := 0, pos := "l6_lanes.go:92", after := #[], guard := none }) (v := ?_) rfl (by kernel_rfl) (by kernel_rfl) (by kernel_rfl) (by kernel_rfl) (fun _ _ _ h => h) (Or.inl ⟨by rfl, ?_⟩) hS0 ?_
    rotate_left
    · (intro w9 hSw; (try dsimp only at hSw); go_simp; try with_reducible rfl)
    try simp only [Act.put, List.setIfInBounds_toArray, List.set_cons_zero, List.set_cons_succ]
    refine held_take (i := 3) (oi := { dst := some 22, op := Op.load 3 (Operand.tmp 21), type := 3, pos := "l6_lanes.go:92", after := #[{ on := 2, ground := Ground.data }], guard := none }) (v := ?_) rfl (by kernel_rfl) (by kernel_rfl) (by kernel_rfl) (by kernel_rfl) (fun _ _ _ h => h) (Or.inl ⟨by rfl, ?_⟩) hS0 ?_
    rotate_left
    · (intro w9 hSw; (try dsimp only at hSw); go_simp; try with_reducible rfl)
    try simp only [Act.put, List.setIfInBounds_toArray, List.set_cons_zero, List.set_cons_succ]
    refine held_take (i := 4) (oi := { dst := some 23, op := Op.indexAddr 23 (Operand.tmp 20) (Operand.tmp 22), type := 0, pos := "l6_lanes.go:92", after := #[{ on := 1, ground := Ground.data }, { on := 3, ground := Ground.data }], guard := none }) (v := ?_) rfl (by kernel_rfl) (by kernel_rfl) (by kernel_rfl) (by kernel_rfl) (fun _ _ _ h => h) (Or.inl ⟨by rfl, ?_⟩) hS0 ?_
    rotate_left
    · (intro w9 hSw; (try dsimp only at hSw); go_simp; try with_reducible rfl)
    try simp only [Act.put, List.setIfInBounds_toArray, List.set_cons_zero, List.set_cons_succ]
    refine held_take (i := 5) (oi := { dst := some 24, op := Op.load 37 (Operand.tmp 23), type := 37, pos := "l6_lanes.go:92", after := #[{ on := 4, ground := Ground.data }], guard := none }) (v := ?_) rfl (by kernel_rfl) (by kernel_rfl) (by kernel_rfl) (by kernel_rfl) (fun _ _ _ h => h) (Or.inl ⟨by rfl, ?_⟩) hS0 ?_
    rotate_left
    · (intro w9 hSw; (try dsimp only at hSw); go_simp; try with_reducible rfl)
    try simp only [Act.put, List.setIfInBounds_toArray, List.set_cons_zero, List.set_cons_succ]
    refine held_take (i := 6) (oi := { dst := some 25, op := Op.load 29 (Operand.tmp 3), type := 29, pos := "l6_lanes.go:92", after := #[], guard := none }) (v := ?_) rfl (by kernel_rfl) (by kernel_rfl) (by kernel_rfl) (by kernel_rfl) (fun _ _ _ h => h) (Or.inl ⟨by rfl, ?_⟩) hS0 ?_
    rotate_left
    · (intro w9 hSw; (try dsimp only at hSw); go_simp; try with_reducible rfl)
    try simp only [Act.put, List.setIfInBounds_toArray, List.set_cons_zero, List.set_cons_succ]
    refine held_two (i := 7) (j := 11) (oi := { dst := some 26, op := Op.call { callee := Callee.value (Operand.func 120), args := #[Operand.tmp 24, Operand.tmp 25], argTypes := #[37, 29] }, type := 102, pos := "l6_lanes.go:92", after := #[{ on := 5, ground := Ground.data }, { on := 6, ground := Ground.data }], guard := none }) (oj := { dst := some 6, op := Op.alloc 37, type := 0, pos := "l6_lanes.go:92", after := #[], guard := none }) (by kernel_rfl) rfl rfl (fun K hK => ?_) (fun K hK => ?_)
    · go_simp
      rw [← HLK.out]
      go_at_call 120
      refine (jnS_yes r.q A1 n1 c1 r.fs p _ HF0.out HJ.out).mono ?_
      rintro e w3 ⟨A2, n2, c2, fh, rfl, hD, hb3⟩
      have D3 := Lib.hid hD
      have B3 := Lib.hid (below_seq B0.out hb3)
      have hS3 := OS.out _ B3.out
      clear hb3 hD
      refine hK.out _ _ (.inr hS3) ?_
      clear hK K
      try simp only [Act.put, List.setIfInBounds_toArray, List.set_cons_zero, List.set_cons_succ]
      refine held_take (i := 8) (oi := { dst := some 18, op := Op.move (Operand.tmp 26), type := 102, pos := "l6_lanes.go:92", after := #[{ on := 7, ground := Ground.data }], guard := none }) (v := ?_) rfl (by kernel_rfl) (by kernel_rfl) (by kernel_rfl) (by kernel_rfl) (fun _ _ _ h => h) (Or.inl ⟨by rfl, ?_⟩) hS3 ?_
      rotate_left
      · (intro w9 hSw; (try dsimp only at hSw); go_simp; try with_reducible rfl)
      try simp only [Act.put, List.setIfInBounds_toArray, List.set_cons_zero, List.set_cons_succ]
      refine held_take (i := 9) (oi := { dst := some 27, op := Op.extract (Operand.tmp 18) 0, type := 37, pos := "l6_lanes.go:92", after := #[{ on := 8, ground := Ground.data }], guard := none }) (v := ?_) rfl (by kernel_rfl) (by kernel_rfl) (by kernel_rfl) (by kernel_rfl) (fun _ _ _ h => h) (Or.inl ⟨by rfl, ?_⟩) hS3 ?_
      rotate_left
      · (intro w9 hSw; (try dsimp only at hSw); go_simp; try with_reducible rfl)
      try simp only [Act.put, List.setIfInBounds_toArray, List.set_cons_zero, List.set_cons_succ]
      refine held_take (i := 10) (oi := { dst := some 28, op := Op.extract (Operand.tmp 18) 1, type := 4, pos := "l6_lanes.go:92", after := #[{ on := 8, ground := Ground.data }, { on := 12, ground := Ground.gcOnly Departure.lateStores }], guard := none }) (v := ?_) rfl (by kernel_rfl) (by kernel_rfl) (by kernel_rfl) (by kernel_rfl) (fun _ _ _ h => h) (Or.inl ⟨by rfl, ?_⟩) hS3 ?_
      rotate_left
      · (intro w9 hSw; (try dsimp only at hSw); go_simp; try with_reducible rfl)
      try simp only [Act.put, List.setIfInBounds_toArray, List.set_cons_zero, List.set_cons_succ]
      refine held_one (i := 11) (o := { dst := some 6, op := Op.alloc 37, type := 0, pos := "l6_lanes.go:92", after := #[], guard := none }) (by kernel_rfl) rfl (fun K hK => ?_)
      go_simp
      have hS4 := OS.out _ (below_alloc B3.out (.cells #[.int .i64 0, .slice none 0 0] 37))
      refine hK.out _ _ (.inr hS4) ?_
      clear hK K
      try simp only [Act.put, List.setIfInBounds_toArray, List.set_cons_zero, List.set_cons_succ]
      refine held_one (i := 12) (o := { dst := none, op := Op.store 37 (Operand.tmp 6) (Operand.tmp 27), type := 0, pos := "l6_lanes.go:92", after := #[{ on := 11, ground := Ground.data }, { on := 9, ground := Ground.data }, { on := 7, ground := Ground.chain }, { on := 0, ground := Ground.phase }, { on := 1, ground := Ground.phase }, { on := 2, ground := Ground.phase }, { on := 3, ground := Ground.phase }, { on := 4, ground := Ground.phase }, { on := 5, ground := Ground.phase }, { on := 6, ground := Ground.phase }, { on := 7, ground := Ground.phase }, { on := 8, ground := Ground.phase }, { on := 9, ground := Ground.phase }, { on := 10, ground := Ground.textOnly Departure.lateStores }, { on := 11, ground := Ground.phase }], guard := none }) (by kernel_rfl) rfl (fun K hK => ?_)
      go_simp
      refine hK.out _ _ (.inr (by first | exact OS.out _ (below_alloc B3.out _) | (refine OS.out _ ?_; with_reducible refine Below.setCell ?_ ?_ _; with_reducible refine Below.setCell ?_ ?_ _; (first | with_reducible exact B3.out | with_reducible exact below_alloc B3.out _); all_goals (have := z0.out; simp <;> omega)))) ?_
      clear hK K
      try simp only [Act.put, List.setIfInBounds_toArray, List.set_cons_zero, List.set_cons_succ]
      refine held_one (i := 13) (o := { dst := some 7, op := Op.assign (Operand.tmp 28), type := 4, pos := "l6_lanes.go:92", after := #[{ on := 10, ground := Ground.data }, { on := 12, ground := Ground.chain }, { on := 0, ground := Ground.phase }, { on := 1, ground := Ground.phase }, { on := 2, ground := Ground.phase }, { on := 3, ground := Ground.phase }, { on := 4, ground := Ground.phase }, { on := 5, ground := Ground.phase }, { on := 6, ground := Ground.phase }, { on := 7, ground := Ground.phase }, { on := 8, ground := Ground.phase }, { on := 9, ground := Ground.phase }, { on := 10, ground := Ground.phase }, { on := 11, ground := Ground.phase }, { on := 12, ground := Ground.phase }], guard := none }) (by kernel_rfl) rfl (fun K hK => ?_)
      go_simp
      refine hK.out _ _ (.inl rfl) ?_
      clear hK K
      try simp only [Act.put, List.setIfInBounds_toArray, List.set_cons_zero, List.set_cons_succ]
      refine held_done (by kernel_rfl) ?_ _
      go_wp2_with fail
      go_meet
      first | exact jb_new (by have := D3.out; rw [z0.out] at this; exact this) B3.out | (rw [z0.out]; exact jb_set (by have := D3.out; simp at this; rw [z0.out] at this; exact this) B3.out (by have := HY.out; rw [z0.out] at this; exact this))
    · go_simp
      have hS1 := OS.out _ (below_alloc B0.out (.cells #[.int .i64 0, .slice none 0 0] 37))
      refine hK.out _ _ (.inr hS1) ?_
      clear hK K
      try simp only [Act.put, List.setIfInBounds_toArray, List.set_cons_zero, List.set_cons_succ]
      refine held_one (i := 7) (o := { dst := some 26, op := Op.call { callee := Callee.value (Operand.func 120), args := #[Operand.tmp 24, Operand.tmp 25], argTypes := #[37, 29] }, type := 102, pos := "l6_lanes.go:92", after := #[{ on := 5, ground := Ground.data }, { on := 6, ground := Ground.data }], guard := none }) (by kernel_rfl) rfl (fun K hK => ?_)
      go_simp
      rw [← HLK.out]
      go_at_call 120
      refine (jnS_yes r.q A1 n1 c1 r.fs p _ (fr_allocF HF0.out _) HJ.out).mono ?_
      rintro e w3 ⟨A2, n2, c2, fh, rfl, hD, hb3⟩
      have D3 := Lib.hid hD
      have B3 := Lib.hid (below_seq (below_alloc B0.out _) hb3)
      have hS3 := OS.out _ B3.out
      have HY := Lib.hid (blk_below (blk_new w0 37 #[.int .i64 0, .slice none 0 0]) hb3 (by simp))
      obtain ⟨y0, y1, yf0, yf1⟩ := blk_two HY.out
      clear hb3 hD
      refine hK.out _ _ (.inr hS3) ?_
      clear hK K
      try simp only [Act.put, List.setIfInBounds_toArray, List.set_cons_zero, List.set_cons_succ]
      refine held_take (i := 8) (oi := { dst := some 18, op := Op.move (Operand.tmp 26), type := 102, pos := "l6_lanes.go:92", after := #[{ on := 7, ground := Ground.data }], guard := none }) (v := ?_) rfl (by kernel_rfl) (by kernel_rfl) (by kernel_rfl) (by kernel_rfl) (fun _ _ _ h => h) (Or.inl ⟨by rfl, ?_⟩) hS3 ?_
      rotate_left
      · (intro w9 hSw; (try dsimp only at hSw); go_simp; try with_reducible rfl)
      try simp only [Act.put, List.setIfInBounds_toArray, List.set_cons_zero, List.set_cons_succ]
      refine held_take (i := 9) (oi := { dst := some 27, op := Op.extract (Operand.tmp 18) 0, type := 37, pos := "l6_lanes.go:92", after := #[{ on := 8, ground := Ground.data }], guard := none }) (v := ?_) rfl (by kernel_rfl) (by kernel_rfl) (by kernel_rfl) (by kernel_rfl) (fun _ _ _ h => h) (Or.inl ⟨by rfl, ?_⟩) hS3 ?_
      rotate_left
      · (intro w9 hSw; (try dsimp only at hSw); go_simp; try with_reducible rfl)
      try simp only [Act.put, List.setIfInBounds_toArray, List.set_cons_zero, List.set_cons_succ]
      refine held_take (i := 10) (oi := { dst := some 28, op := Op.extract (Operand.tmp 18) 1, type := 4, pos := "l6_lanes.go:92", after := #[{ on := 8, ground := Ground.data }, { on := 12, ground := Ground.gcOnly Departure.lateStores }], guard := none }) (v := ?_) rfl (by kernel_rfl) (by kernel_rfl) (by kernel_rfl) (by kernel_rfl) (fun _ _ _ h => h) (Or.inl ⟨by rfl, ?_⟩) hS3 ?_
      rotate_left
      · (intro w9 hSw; (try dsimp only at hSw); go_simp; try with_reducible rfl)
      try simp only [Act.put, List.setIfInBounds_toArray, List.set_cons_zero, List.set_cons_succ]
      refine held_one (i := 12) (o := { dst := none, op := Op.store 37 (Operand.tmp 6) (Operand.tmp 27), type := 0, pos := "l6_lanes.go:92", after := #[{ on := 11, ground := Ground.data }, { on := 9, ground := Ground.data }, { on := 7, ground := Ground.chain }, { on := 0, ground := Ground.phase }, { on := 1, ground := Ground.phase }, { on := 2, ground := Ground.phase }, { on := 3, ground := Ground.phase }, { on := 4, ground := Ground.phase }, { on := 5, ground := Ground.phase }, { on := 6, ground := Ground.phase }, { on := 7, ground := Ground.phase }, { on := 8, ground := Ground.phase }, { on := 9, ground := Ground.phase }, { on := 10, ground := Ground.textOnly Departure.lateStores }, { on := 11, ground := Ground.phase }], guard := none }) (by kernel_rfl) rfl (fun K hK => ?_)
      go_simp
      refine hK.out _ _ (.inr (by first | exact OS.out _ (below_alloc B3.out _) | (refine OS.out _ ?_; with_reducible refine Below.setCell ?_ ?_ _; with_reducible refine Below.setCell ?_ ?_ _; (first | with_reducible exact B3.out | with_reducible exact below_alloc B3.out _); all_goals (have := z0.out; simp <;> omega)))) ?_
      clear hK K
      try simp only [Act.put, List.setIfInBounds_toArray, List.set_cons_zero, List.set_cons_succ]
      refine held_one (i := 13) (o := { dst := some 7, op := Op.assign (Operand.tmp 28), type := 4, pos := "l6_lanes.go:92", after := #[{ on := 10, ground := Ground.data }, { on := 12, ground := Ground.chain }, { on := 0, ground := Ground.phase }, { on := 1, ground := Ground.phase }, { on := 2, ground := Ground.phase }, { on := 3, ground := Ground.phase }, { on := 4, ground := Ground.phase }, { on := 5, ground := Ground.phase }, { on := 6, ground := Ground.phase }, { on := 7, ground := Ground.phase }, { on := 8, ground := Ground.phase }, { on := 9, ground := Ground.phase }, { on := 10, ground := Ground.phase }, { on := 11, ground := Ground.phase }, { on := 12, ground := Ground.phase }], guard := none }) (by kernel_rfl) rfl (fun K hK => ?_)
      go_simp
      refine hK.out _ _ (.inl rfl) ?_
      clear hK K
      try simp only [Act.put, List.setIfInBounds_toArray, List.set_cons_zero, List.set_cons_succ]
      refine held_done (by kernel_rfl) ?_ _
      go_wp2_with fail
      go_meet
      first | exact jb_new (by have := D3.out; rw [z0.out] at this; exact this) B3.out | (rw [z0.out]; exact jb_set (by have := D3.out; simp at this; rw [z0.out] at this; exact this) B3.out (by have := HY.out; rw [z0.out] at this; exact this))
  case rest =>
  have HB := Lib.hid hcut
  have F3 := Lib.hid (fm_below F2.out (by obtain ⟨RB, A2, n2, c2, fh, s, e, -, -, -, -, -, -, h7⟩ := HB.out; exact h7))
  obtain ⟨RB, A2, n2, c2, fh, s, e, rfl, rfl, hBx, hD, hs2, hew, hB⟩ := hcut
  have BX := Lib.hid hBx
  have DX := Lib.hid hD
  have zx := hB.size
  obtain ⟨⟨x0, x1, x2⟩, -⟩ := blk_three (fm_blk F3.out 0 rfl)
  clear hBx hD hB hS0 HB
  go_wp2_with fail
  refine (copyLS_any (some ⟨g, off, none⟩) n c B m d C o f l _ (lr_below H.out F3.out.below)).mono ?_
  rintro e' w4 ⟨A4, n4', c4, B4, m4, d4, C4, o4, f4, hs4, iv, rfl, e1, e2, e3, hL, hI, hb⟩
  obtain rfl : n4' = n := by have := HE.out.1; simp [jnN] at this; omega
  have F4 := Lib.hid (fm_below F3.out hb)
  have BX4 := Lib.hid (blk_below BX.out hb (blk_lt BX.out))
  have DX4 := Lib.hid (dv_below DX.out hb)
  have HI := Lib.hid hI
  have z4 := hb.size
  obtain ⟨g4, cap, hv4, hg4, hgl4⟩ := hL.r.row.form (by omega)
  obtain ⟨rfl, rfl⟩ : A4 = some ⟨g4, 0, none⟩ ∧ c4 = cap := by injection hv4 with a1 a2 a3; exact ⟨a1, a3⟩
  have LL := Lib.hid hL
  have EL := Lib.hid (And.intro e2 e3)
  have hn2 : n2 ≤ 4000000000 := by
    have := do_cap DX.out.1
    have := HJ.out
    have := rv_len (rv_join this)
    omega
  clear hb hL hI e1 e2 e3 hv4 x0 x1 x2
  -- the copy's box
  have XB := Lib.hid (show Blk (w4.alloc (.cells #[.slice (some ⟨g4, 0, none⟩) n4' c4, .slice B4 m4 d4, .slice C4 o4 f4] 26)) w4.heap.size 26 #[.slice (some ⟨g4, 0, none⟩) n4' c4, .slice B4 m4 d4, .slice C4 o4 f4] from blk_new w4 _ _)
  have F5 := Lib.hid (fm_alloc F4.out (.cells #[.slice (some ⟨g4, 0, none⟩) n4' c4, .slice B4 m4 d4, .slice C4 o4 f4] 26))
  have LL5 := Lib.hid (lo_below LL.out (below_alloc (Below.refl _ _) (.cells #[.slice (some ⟨g4, 0, none⟩) n4' c4, .slice B4 m4 d4, .slice C4 o4 f4] 26)))
  have BX5 := Lib.hid (blk_alloc BX4.out (.cells #[.slice (some ⟨g4, 0, none⟩) n4' c4, .slice B4 m4 d4, .slice C4 o4 f4] 26))
  have DX5 := Lib.hid (dv_below DX4.out (below_alloc (Below.refl _ _) (.cells #[.slice (some ⟨g4, 0, none⟩) n4' c4, .slice B4 m4 d4, .slice C4 o4 f4] 26)))
  have zW : (w4.alloc (.cells #[.slice (some ⟨g4, 0, none⟩) n4' c4, .slice B4 m4 d4, .slice C4 o4 f4] 26)).heap.size = w4.heap.size + 1 := by simp
  have zB : RB < w4.heap.size := blk_lt BX4.out
  go_upto_region 7 with fail
  generalize (w4.alloc (.cells #[.slice (some ⟨g4, 0, none⟩) n4' c4, .slice B4 m4 d4, .slice C4 o4 f4] 26)) = W at XB F5 LL5 BX5 DX5 zW ⊢
  obtain ⟨⟨b0, b1, b2⟩, -⟩ := blk_three XB.out
  obtain ⟨⟨k0, k1, k2, k3⟩, -⟩ := blk_fourR (fm_blk F5.out 1 rfl)
  rw [HLK.out] at k1
  obtain ⟨v0, v1, -, -⟩ := blk_two BX5.out
  obtain ⟨gg, oo, hh, e1, -, hhk, c0, c1'⟩ := hq_at (hq_own LL5.out.r.row) hkl4
  obtain ⟨rfl, rfl⟩ : g4 = gg ∧ 0 = oo := by injection e1 with e1; injection e1 with a b; exact ⟨a, b⟩
  rw [Nat.zero_add] at c0 c1'
  have f0 := World.ownsRow.frozenAt LL5.out.r.row (k * 2)
  have f1 := World.ownsRow.frozenAt LL5.out.r.row (k * 2 + 1)
  have PUT := Lib.hid (lo_put (k := k) (lo2 := w.heap.size + 3) (s := s) (e := e) (h := ⟨r.q, A2, n2, c2⟩) (r := ⟨r.q, joinL r.fs p⟩) (lo_mono LL5.out (Nat.le_refl _)) hkl4 rfl hn2 (by omega) (by omega) hew DX5.out)
  have zg : g4 ≠ w4.heap.size := by omega
  have zg2 : g4 ≠ w.heap.size + 2 := by omega
  have zr : w4.heap.size ≠ w.heap.size + 2 := by omega
  obtain ⟨⟨o0, o1, o2⟩, of0, of1, of2⟩ := blk_three (fm_blk F5.out 2 rfl)
  have zo := blk_lt (fm_blk F5.out 2 rfl)
  have zo1 := blk_lt (fm_blk F5.out 1 rfl)
  have BW := Lib.hid F5.out.below
  clear e1 hhk
  go_wp2
  refine bodyPost_ret (v := .tuple #[.agg #[.slice (some ⟨g4, 0, none⟩) n4' c4, .slice B4 m4 d4, .slice C4 o4 f4], .bool true]) (by simp [results, Try.results110, go_sem, o0, o1, o2]) rfl ⟨some ⟨g4, 0, none⟩, n4', c4, B4, m4, d4, C4, o4, f4, _, _, rfl, HE.out.1.symm, EL.out.1, EL.out.2, lo_mono (lo_far (lo_far (lo_far PUT.out (by simp) ?_ _) (by simp) ?_ _) (by simp) ?_ _) (by omega), fun j hj => Nat.le_trans ?_ (up_tr_lo (L := w.heap.size + 3) (fun j hj => Nat.le_trans (by omega) (HI.out j hj)) (by omega) j hj), ?_⟩
  · exact up_tr_lo (fun j hj => Nat.le_trans (by omega) (HI.out j hj)) (by omega)
  · exact up_tr_lo (fun j hj => Nat.le_trans (by omega) (HI.out j hj)) (by omega)
  · exact up_tr_lo (fun j hj => Nat.le_trans (by omega) (HI.out j hj)) (by omega)
  · omega
  · repeat refine Below.setCell ?_ (by simp <;> omega) _
    exact BW.out
end Go.Proofs.Ytkmoiphcpmhacaa
