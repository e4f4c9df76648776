/-
  Chapter 6: the draws of weights. Conditions: the source is as open leaves it, its counter is small. Chapter 6: the draw of lanes: what it returns, whatever the bytes. Conditions: the source is as open leaves it, its counter is small.
  Conditions: each lemma says them.
-/
import Derived.Test.YtkmoiphcpmhacabKq
import Derived.Test.YtkmoiphcpmhacabKa
import Derived.Test.YtkmoiphcpmhacabKg
import Derived.Test.YtkmoiphcpmhacabKr
import Derived.Test.YtkmoiphcpmhacabKu
import Derived.Test.YtkmoiphcpmhacabKd
import Derived.Deep.CutBlock
import Derived.Deep.RegionWith
namespace Go.Proofs.Ytkmoiphcpmhacab
open Go.RowKit

/-- drawn weights -/
def WtAll (us : List Int) : Prop := ∀ x ∈ us, 1 ≤ x ∧ x ≤ 9
def NumsPost (w : World) (g q : Nat) (e : Ending) (w' : World) : Prop :=
  ∃ A c us, e = .returned (.slice A 4 c) ∧ us.length = 4 ∧ WtAll us ∧ w'.ownsRow w.heap.size 3 1 (.slice A 4 c) 4 (icells us) ∧ w.grownBy w' (some g) ∧ RdAt w' g q
theorem wts_ok {us : List Int} (h : us.length = 4) (ha : WtAll us) : WtOk us := ⟨h, fun _ y hy => ha y (List.mem_of_getElem? hy)⟩
def NumsRel (w : World) (g q : Nat) (v i : Value) (wr : World) : Prop :=
  ∃ (k : Nat) (us : List Int), i = .int .i64 (k : Int) ∧ k ≤ 4 ∧ WtAll us ∧ wr.ownsRow w.heap.size 3 1 v k (icells us) ∧ w.grownBy wr (some g) ∧ RdAt wr g (q + k)
theorem nums_step {w wr w1 w2 : World} {g q n : Nat} {us : List Int} {x : Int} {v : Value} {cs : Array Value} {t : TypeId} (hg : g < w.heap.size)
    (hs : WtAll us) (ho : wr.ownsRow w.heap.size 3 1 v n (icells us)) (hgr : w.grownBy wr (some g)) (hp : 1 ≤ x ∧ x ≤ 9) (h1 : wr.grownBy w1 (some g)) (hr : RdAt w1 g q)
    (h2 : (w1.alloc (.cells cs t)).grownBy w2 v.ownBlock) : WtAll (us ++ [x]) ∧ w.grownBy w2 (some g) ∧ RdAt w2 g q := by
  have hl : ∀ j, v.ownBlock = some j → w.heap.size ≤ j := fun j hj => (ho.lt j hj).1
  refine ⟨fun y hy => ?_, ?_, ?_⟩
  · rcases List.mem_append.1 hy with hy | hy
    · exact hs y hy
    · simp at hy; subst hy; exact hp
  · rcases hv : v.ownBlock with _ | j
    · rw [hv] at h2
      exact g_none (g_alloc (hgr.trans h1) _) h2
    · rw [hv] at h2
      exact g_new (g_alloc (hgr.trans h1) _) h2 (hl j hv)
  · rcases hv : v.ownBlock with _ | j
    · rw [hv] at h2
      exact rd_below (rd_alloc hr _) ⟨h2.os, h2.tape, h2.output, h2.size, fun i hi => h2.block i hi (by simp)⟩
    · rw [hv] at h2
      exact rd_new (rd_alloc hr _) h2 (by have := hl j hv; omega)
theorem wt_in {x : Int} (h : x ∈ [2, 1, 3, 4, 9]) : 1 ≤ x ∧ x ≤ 9 := by
  simp only [List.mem_cons, List.not_mem_nil, or_false] at h; omega
theorem wtall_len {w : World} {base : Nat} {e : TypeId} {v : Value} {n : Nat} {us : List Int} (h : w.ownsRow base e 1 v n (icells us)) : us.length = n := by
  have := h.1; rw [icells_len] at this; omega
set_option maxRecDepth 100000 in
set_option maxHeartbeats 1000000 in
theorem l6Numbers_any (g q : Nat) (w : World) (h : RdAt w g q) (hq : q ≤ 800000) :
    Calls Try.prog 85 #[.pointer (some ⟨g, 0, none⟩)] w (NumsPost w g (q + 4)) := by
  have hg := rd_lt h
  have R0 : Hid (NumsRel w g q (.slice (some ⟨w.heap.size, 0, none⟩) 0 0) (.int .i64 0) (w.alloc (.cells #[] 3))) := Lib.hid
    ⟨0, [], rfl, Nat.zero_le _, fun x hx => (by cases hx), own_emptyI rfl, g_alloc (g_refl _ _) _, rd_alloc h _⟩
  clear h
  go_enter Try.func85, Try.ntmps85
  go_wp2_with fail
  go_loopw [3, 4] (fun v i wr => NumsRel w g q v i wr) (fun _ i _ => 4 - (intOf i).toNat)
  case atStart => exact R0.out
  case round =>
    obtain ⟨k, us, rfl, hk, hs, ho, hgr, hr⟩ := hrel
    clear R0
    have HO := Lib.hid ho
    have HS := Lib.hid hs
    have HG := Lib.hid hgr
    have HR := Lib.hid hr
    clear hs ho hgr hr
    by_cases hlt : k < 4
    · go_wp2_with fail
      refine (num_lit g _ _ 5 _ _ [2, 1, 3, 4, 9] _ HR.out (by omega) (by simp) (by decide) rfl).mono ?_
      rintro e w1 ⟨x, hx, rfl, hg1, hr1⟩
      have HX := Lib.hid (wt_in hx)
      have hg1' := hg1
      have ho1 := HO.out.kept hg1' (own_block_none HO.out hg)
      have HG1 := Lib.hid hg1'
      have HR1 := Lib.hid hr1
      have HO1 := Lib.hid ho1
      have hz := HG.out.size
      have hz1 := HG1.out.size
      clear hx hg1 hr1 ho1 hg1'
      go_wp2_with (at_builtin
                   refine wpl_app_ints _ rfl (.tmp 10) (.tmp 14) rfl w.heap.size _ k us rfl (HO1.out.alloc _) _ 1 1 [x] rfl (int_single (blk_new w1 _ _)) (by omega) (by simp <;> omega) ?_
                   intro v6 w6 ho6 hg6 hat6
                   have L6 := Lib.hid (nums_step hg HS.out HO.out HG.out HX.out HG1.out HR1.out hg6)
                   have O6 := Lib.hid ho6
                   clear ho6 hg6 hat6)
      go_roundw
      case rel => exact ⟨k + 1, us ++ [x], by go_num, by omega, L6.out.1, O6.out, L6.out.2.1, rd_more L6.out.2.2 (by omega)⟩
      case measure => simp [intOf]; omega
    · obtain rfl : k = 4 := by omega
      obtain ⟨A, c, rfl, -, -, -⟩ := own_form HO.out
      go_wp2
      go_ret
      exact ⟨A, c, us, rfl, wtall_len HO.out, HS.out, HO.out, HG.out, HR.out⟩
end Go.Proofs.Ytkmoiphcpmhacab
namespace Go.Proofs.Ytkmoiphcpmhacab
open Go.RowKit

/-- lanes of one's own read blocks of their own alone -/
theorem lo_lrx {w : World} {lo n m o c d f : Nat} {A B C : Option Addr} {hs : List Rh} {iv : Nat → Nat × Nat} {l : Ln} (h : LO w lo (.slice A n c) n (.slice B m d) m (.slice C o f) o hs iv l) (hn : n ≤ 4000000000) (hm : m ≤ 4000000000) (ho : o ≤ 4000000000) : LRX w (fun b => lo ≤ b ∧ b < w.heap.size) A n B m C o l := by
  refine ⟨⟨hs, hq_own h.r.row, fun hn0 b hb => ?_, h.r.len, fun k g r e1 e2 => ?_, hn⟩, ⟨nr_own h.b, fun h0 b hb => ?_⟩, ⟨nr_own h.c, fun h0 b hb => ?_⟩, hm, ho⟩
  · obtain ⟨g, cap, hv, -, -⟩ := h.r.row.form hn0
    obtain rfl : A = some ⟨g, 0, none⟩ := by injection hv
    obtain rfl : g = b := by simpa using hb
    exact h.r.row.lt g rfl
  · obtain ⟨a1, a2, a3, fh, a4⟩ := h.r.all k (by have := get_lt e1; have := (dr_len h.r).1; omega) g r e1 e2
    exact ⟨a1, frx_mono (dv_frx a4 a2) fun b hb => ⟨Nat.le_trans a3 hb.1, Nat.lt_of_lt_of_le hb.2 (h.r.top k)⟩⟩
  · obtain ⟨g, cap, hv, -, -⟩ := h.b.form h0
    obtain rfl : B = some ⟨g, 0, none⟩ := by injection hv
    obtain rfl : g = b := by simpa using hb
    exact h.b.lt g rfl
  · obtain ⟨g, cap, hv, -, -⟩ := h.c.form h0
    obtain rfl : C = some ⟨g, 0, none⟩ := by injection hv
    obtain rfl : g = b := by simpa using hb
    exact h.c.lt g rfl
/-- joining in both cases -/
def JlAny (w : World) (e : Ending) (w' : World) : Prop :=
  ∃ A n c B m d C o f l ok, e = .returned (.tuple #[.agg #[.slice A n c, .slice B m d, .slice C o f], .bool ok]) ∧ (ok = true → LV l) ∧ LaX w' (fun b => w.heap.size ≤ b ∧ b < w'.heap.size) A n B m C o l ∧ Below w.heap.size w w'
theorem lax_nil (w : World) (X : Nat → Prop) (A B C : Option Addr) : LaX w X A 0 B 0 C 0 ⟨[], [], []⟩ := fun w' _ => lr_nil w' A B C
theorem jlS_draw (A : Option Addr) (n c : Nat) (B : Option Addr) (m d : Nat) (C : Option Addr) (o f : Nat) (l : Ln) (p : Pkt) (w : World) (h : LR w A n B m C o l) :
    Calls Try.prog 28 #[.agg #[.slice A n c, .slice B m d, .slice C o f], .agg #[.int .i64 p.peer, .int .i64 p.lane, .int .i64 p.size, .int .i64 p.id]] w (JlAny w) := by
  by_cases hk : ∃ k r, JnOk l p k r
  · obtain ⟨k, r, hk⟩ := hk
    refine (jlS_yes A n c B m d C o f l p k r w h hk).mono ?_
    rintro e w' ⟨A2, n2, c2, B2, m2, d2, C2, o2, f2, hs, iv, rfl, e1, e2, e3, hL, -, hb⟩
    have hv := lv_join hk
    have := hv.n0; have := hv.n1; have := hv.n2
    exact ⟨A2, n2, c2, B2, m2, d2, C2, o2, f2, _, true, rfl, fun _ => hv, lrx_lax (lo_lrx hL (by omega) (by omega) (by omega)), hb⟩
  · refine (jlS_no A n c B m d C o f l p w h hk).mono ?_
    rintro e w' ⟨rfl, hb⟩
    exact ⟨none, 0, 0, none, 0, 0, none, 0, 0, _, false, rfl, fun e => (by cases e), lax_nil _ _ _ _ _, hb⟩
/-- what is known while lanes are drawn -/
structure LDR (w : World) (g Q LB : Nat) (A : Option Addr) (n c : Nat) (B : Option Addr) (m d : Nat) (C : Option Addr) (o f : Nat) (l : Ln) (wr : World) : Prop where
  out : Blk wr w.heap.size 26 #[.slice none 0 0, .slice none 0 0, .slice none 0 0]
  lb : Blk wr LB 26 #[.slice A n c, .slice B m d, .slice C o f]
  lx : LaX wr (fun b => w.heap.size < b ∧ b ≠ LB) A n B m C o l
  lv : LV l
  gr : w.grownBy wr (some g)
  rd : RdAt wr g Q
  hg : g < w.heap.size
  hL : w.heap.size < LB
section
variable {w w1 w2 : World} {g Q Q2 LB n c m d o f n2 c2 m2 d2 o2 f2 : Nat} {A B C A2 B2 C2 : Option Addr} {l l2 : Ln}
theorem ldr_below (h : LDR w g Q LB A n c B m d C o f l w1) (hb : Below w1.heap.size w1 w2) : LDR w g Q LB A n c B m d C o f l w2 :=
  ⟨blk_below h.out hb (blk_lt h.out), blk_below h.lb hb (blk_lt h.lb), lax_below h.lx hb, h.lv, g_below h.gr hb, rd_below h.rd hb, h.hg, h.hL⟩
theorem ldr_grown (h : LDR w g Q LB A n c B m d C o f l w1) (hg : w1.grownBy w2 (some g)) (hr : RdAt w2 g Q2) : LDR w g Q2 LB A n c B m d C o f l w2 :=
  have h0 := h.hg
  have hL := h.hL
  ⟨blk_grown h.out hg (by omega), blk_grown h.lb hg (by omega), lax_grown h.lx hg fun b hb e => by injection e with e; have := hb.1; omega, h.lv, h.gr.trans hg, hr, h0, hL⟩
/-- other lanes are stored -/
theorem ldr_next (h : LDR w g Q LB A n c B m d C o f l w1) (hl : LV l2) {s : Nat} (hx : LaX w1 (fun b => s ≤ b) A2 n2 B2 m2 C2 o2 l2) (hs : LB < s) :
    LDR w g Q LB A2 n2 c2 B2 m2 d2 C2 o2 f2 l2 (((w1.setCell ⟨LB, 0, none⟩ (.slice A2 n2 c2)).setCell ⟨LB, 1, none⟩ (.slice B2 m2 d2)).setCell ⟨LB, 2, none⟩ (.slice C2 o2 f2)) :=
  have h0 := h.hg
  have hL := h.hL
  have hn : ¬ (s ≤ LB) := by omega
  ⟨blk_far (blk_far (blk_far h.out (by simp; omega) _) (by simp; omega) _) (by simp; omega) _, blk_set (blk_set (blk_set h.lb 0 _) 1 _) 2 _,
    lax_mono (lax_set (lax_set (lax_set hx (p := ⟨LB, 0, none⟩) hn _) (p := ⟨LB, 1, none⟩) hn _) (p := ⟨LB, 2, none⟩) hn _) fun b hb _ => by have hb' : s ≤ b := hb; exact ⟨by omega, by omega⟩, hl,
    g_set (g_set (g_set h.gr (.inr (by simp; omega)) _) (.inr (by simp; omega)) _) (.inr (by simp; omega)) _, rd_set (rd_set (rd_set h.rd (by simp; omega) _) (by simp; omega) _) (by simp; omega) _, h0, hL⟩
end
/-- drawn lanes: valid ones -/
def LDraw (w : World) (g q : Nat) (e : Ending) (w' : World) : Prop :=
  ∃ A c B d C f l, e = .returned (.agg #[.slice A 4 c, .slice B 4 d, .slice C 4 f]) ∧ LV l ∧ LaX w' (fun b => w.heap.size ≤ b) A 4 B 4 C 4 l ∧ w.grownBy w' (some g) ∧ RdAt w' g q
/-- the end: the lanes are stored into the result's box -/
theorem ldr_end {w w1 : World} {g Q LB c d f : Nat} {A B C : Option Addr} {l : Ln} (h : LDR w g Q LB A 4 c B 4 d C 4 f l w1) (u0 u1 u2 : Value) :
    LaX (((w1.setCell ⟨w.heap.size, 0, none⟩ u0).setCell ⟨w.heap.size, 1, none⟩ u1).setCell ⟨w.heap.size, 2, none⟩ u2) (fun b => w.heap.size ≤ b) A 4 B 4 C 4 l ∧ w.grownBy (((w1.setCell ⟨w.heap.size, 0, none⟩ u0).setCell ⟨w.heap.size, 1, none⟩ u1).setCell ⟨w.heap.size, 2, none⟩ u2) (some g) ∧ RdAt (((w1.setCell ⟨w.heap.size, 0, none⟩ u0).setCell ⟨w.heap.size, 1, none⟩ u1).setCell ⟨w.heap.size, 2, none⟩ u2) g Q := by
  have h0 := h.hg
  have hn : ¬ (w.heap.size < w.heap.size ∧ w.heap.size ≠ LB) := fun hx => by omega
  exact ⟨lax_mono (lax_set (lax_set (lax_set h.lx (p := ⟨w.heap.size, 0, none⟩) hn _) (p := ⟨w.heap.size, 1, none⟩) hn _) (p := ⟨w.heap.size, 2, none⟩) hn _) fun b hb _ => Nat.le_of_lt hb.1, g_set (g_set (g_set h.gr (.inr (by simp)) _) (.inr (by simp)) _) (.inr (by simp)) _, rd_set (rd_set (rd_set h.rd (by simp; omega) _) (by simp; omega) _) (by simp; omega) _⟩
theorem q_in6 {x : Int} (h : x ∈ [50, 100, 20, 500]) : 1 ≤ x ∧ x ≤ 500 := by
  simp only [List.mem_cons, List.not_mem_nil, or_false] at h; omega
def LDRel (w : World) (g Q LB : Nat) (Al : Option Addr) (nl cl : Nat) (ps : List Pkt) (i : Value) (wr : World) : Prop :=
  ∃ (k : Nat) (A : Option Addr) (n c : Nat) (B : Option Addr) (m d : Nat) (C : Option Addr) (o f : Nat) (l : Ln), k ≤ nl ∧ i = .int .i64 (k : Int) ∧ wr.ownsRow (LB + 1) 40 4 (.slice Al nl cl) nl (pcells ps) ∧ LDR w g Q LB A n c B m d C o f l wr
def LDRest (LB : Nat) (wr : World) (s7 s8 : Value) (wx : World) : Prop :=
  ∃ NB A n c B m d C o f l ok, s7 = .pointer (some ⟨NB, 0, none⟩) ∧ s8 = .bool ok ∧ (ok = true → LV l) ∧ Blk wx NB 26 #[.slice A n c, .slice B m d, .slice C o f] ∧ LaX wx (fun b => wr.heap.size ≤ b) A n B m C o l ∧ LB < NB ∧ Below wr.heap.size wr wx
theorem ldrest_new {w wr w0 w3 : World} {g Q LB : Nat} {A0 B0 C0 : Option Addr} {n0 c0 m0 d0 o0 f0 : Nat} {l0 : Ln} {A n c B m d C o f} {l : Ln} {ok : Bool} (hv : ok = true → LV l) (hx : LaX w3 (fun b => w0.heap.size ≤ b ∧ b < w3.heap.size) A n B m C o l) (hb : Below wr.heap.size wr w3) (h0 : Below wr.heap.size wr w0) (_ : w0.heap.size = wr.heap.size) (hD : LDR w g Q LB A0 n0 c0 B0 m0 d0 C0 o0 f0 l0 wr) :
    LDRest LB wr (.pointer (some ⟨w3.heap.size, 0, none⟩)) (.bool ok) (w3.alloc (.cells #[.slice A n c, .slice B m d, .slice C o f] 26)) :=
  ⟨w3.heap.size, A, n, c, B, m, d, C, o, f, l, ok, rfl, rfl, hv, blk_new w3 _ _, lax_mono (lax_below hx (below_alloc (Below.refl _ _) _)) fun b hb' _ => Nat.le_trans h0.size hb'.1, by have := blk_lt hD.lb; have := hb.size; omega, below_alloc hb _⟩
theorem ldrest_set {w wr w0 w3 : World} {g Q LB : Nat} {A0 B0 C0 : Option Addr} {n0 c0 m0 d0 o0 f0 : Nat} {l0 : Ln} {A n c B m d C o f} {l : Ln} {ok : Bool} (hv : ok = true → LV l) (hx : LaX w3 (fun b => (w0.alloc (.cells #[.slice none 0 0, .slice none 0 0, .slice none 0 0] 26)).heap.size ≤ b ∧ b < w3.heap.size) A n B m C o l) (hb : Below wr.heap.size wr w3) (hY : Blk w3 w0.heap.size 26 #[.slice none 0 0, .slice none 0 0, .slice none 0 0]) (_ : Below wr.heap.size wr w0) (hz : w0.heap.size = wr.heap.size) (hD : LDR w g Q LB A0 n0 c0 B0 m0 d0 C0 o0 f0 l0 wr) :
    LDRest LB wr (.pointer (some ⟨w0.heap.size, 0, none⟩)) (.bool ok) (((w3.setCell ⟨w0.heap.size, 0, none⟩ (.slice A n c)).setCell ⟨w0.heap.size, 1, none⟩ (.slice B m d)).setCell ⟨w0.heap.size, 2, none⟩ (.slice C o f)) := by
  have hn : ∀ k, ¬ (fun b => (w0.alloc (.cells #[.slice none 0 0, .slice none 0 0, .slice none 0 0] 26)).heap.size ≤ b ∧ b < w3.heap.size) (Addr.block ⟨w0.heap.size, k, none⟩) := fun k h => by have := h.1; simp at this; omega
  refine ⟨w0.heap.size, A, n, c, B, m, d, C, o, f, l, ok, rfl, rfl, hv, blk_set (blk_set (blk_set hY 0 _) 1 _) 2 _, lax_mono (lax_set (lax_set (lax_set hx (hn 0) _) (hn 1) _) (hn 2) _) fun b hb' _ => by have := hb'.1; simp at this; show wr.heap.size ≤ b; omega, by have := blk_lt hD.lb; omega, ((hb.setCell (by simp; omega) _).setCell (by simp; omega) _).setCell (by simp; omega) _⟩
set_option maxRecDepth 100000 in
set_option maxHeartbeats 8000000 in
theorem l6Draw_any (g q : Nat) (w : World) (h : RdAt w g q) (hq : q ≤ 400000) :
    Calls Try.prog 60 #[.pointer (some ⟨g, 0, none⟩)] w (LDraw w g (q + 130)) := by
  have hg := rd_lt h
  go_enter Try.func60, Try.ntmps60
  go_wp2_with fail
  refine (num_lit g q _ 4 _ _ [50, 100, 20, 500] _ (rd_alloc h _) (by omega) (by simp) (by decide) rfl).mono ?_
  rintro e w1 ⟨x0, hx, rfl, hg1, hr1⟩
  have HQ := Lib.hid (q_in6 hx)
  have hz1 := hg1.size
  have G1 := Lib.hid ((g_alloc (g_refl w (some g)) (.cells #[.slice none 0 0, .slice none 0 0, .slice none 0 0] 26)).trans hg1)
  have O1 := Lib.hid (blk_grown (blk_new w 26 #[.slice none 0 0, .slice none 0 0, .slice none 0 0]) hg1 (by omega))
  have HR1 := Lib.hid hr1
  clear hx hg1 h hr1
  simp at hz1
  go_wp2_with fail
  refine (l6Numbers_any g _ _ HR1.out (by omega)).mono ?_
  rintro e w2 ⟨A2, c2, us, rfl, hu4, hua, ho2, hg2, hr2⟩
  have HN := Lib.hid (show NwOk x0 us from ⟨HQ.out.1, HQ.out.2, wts_ok hu4 hua⟩)
  have G2 := Lib.hid (G1.out.trans hg2)
  have O2 := Lib.hid (blk_grown O1.out hg2 (by omega))
  have HR2 := Lib.hid hr2
  have NU := Lib.hid (nr_own ho2)
  have hz2 := hg2.size
  clear hu4 hua ho2 hg2 hr2 HR1 G1 O1 HQ
  go_wp2_with fail
  refine (nwS_yes x0 A2 4 c2 us _ NU.out (by omega) HN.out).mono ?_
  rintro e w3 ⟨A3, n3, c3, B3, m3, d3, C3, o3, f3, hs3, iv3, rfl, e1, e2, e3, hL3, -, hb3⟩
  have HV := Lib.hid (lv_new HN.out)
  obtain ⟨e4, e5, e6⟩ : n3 = 4 ∧ m3 = 4 ∧ o3 = 4 := by have := HV.out.n0; have := HV.out.n1; have := HV.out.n2; omega
  subst e4 e5 e6
  have zo := blk_lt O2.out
  have hz3 := hb3.size
  have L0 : Hid (LDR w g (q + 1 + 4) w3.heap.size A3 4 c3 B3 4 d3 C3 4 f3 (newN x0 us) (w3.alloc (.cells #[.slice A3 4 c3, .slice B3 4 d3, .slice C3 4 f3] 26))) := Lib.hid
    ⟨blk_alloc (blk_below O2.out hb3 zo) _, blk_new w3 _ _, lax_below (lax_mono (lrx_lax (lo_lrx hL3 (by omega) (by omega) (by omega))) fun b hb _ => ⟨by omega, by omega⟩) (below_alloc (Below.refl _ _) _), HV.out, g_alloc (g_below G2.out hb3) _, rd_alloc (rd_below HR2.out hb3) _, hg, by omega⟩
  clear hL3 hb3 e1 e2 e3 NU HR2 G2 O2 HN HV
  go_wp2_with fail
  refine (l1List_any g _ _ L0.out.rd (by omega)).mono ?_
  rintro e w5 ⟨v5, n5, ps5, rfl, hn5, -, ho5, hg5, hr5⟩
  obtain ⟨A5, c5, rfl, -, -, -⟩ := own_form ho5
  have O5 := Lib.hid ho5
  have G5 := Lib.hid hg5
  have R5 := Lib.hid hr5
  have hz5 := hg5.size
  simp at hz5
  clear ho5 hg5 hr5
  go_wp2_with fail
  refine (l1List_any g _ _ R5.out (by omega)).mono ?_
  rintro e w6 ⟨v6, n6, ps6, rfl, hn6, -, ho6, hg6, hr6⟩
  obtain ⟨A6, c6, rfl, -, -, -⟩ := own_form ho6
  have hz6 := hg6.size
  have hk5 := O5.out.kept hg6 (own_block_none O5.out (by simp; omega))
  go_wp2_with (at_builtin
               refine wpl_app_pkts _ rfl (.tmp 19) (.tmp 21) rfl (w3.alloc (.cells #[.slice A3 4 c3, .slice B3 4 d3, .slice C3 4 f3] 26)).heap.size (.slice A5 n5 c5) n5 ps5 rfl hk5 A6 n6 c6 ps6 rfl (pr_own ho6) (by omega) (by simp; omega) ?_
               intro v7 w7 ho7 hg7 hat7
               obtain ⟨A7, c7, rfl, -, -, -⟩ := own_form ho7
               have S7 := Lib.hid (lists_step (by simp; omega) G5.out O5.out hg6 hr6 hg7)
               have O7 := Lib.hid ho7
               have hz7 := hg7.size
               clear ho7 hg7 hat7)
  have hn56 : n5 + n6 ≤ 18 := by omega
  generalize n5 + n6 = n7 at O7 hn56 ⊢
  clear O5 G5 R5 hk5 hg6 hr6 ho6
  refine (l1List_any g _ _ S7.out.2 (by omega)).mono ?_
  rintro e w8 ⟨v8, n8, ps8, rfl, hn8, -, ho8, hg8, hr8⟩
  obtain ⟨A8, c8, rfl, -, -, -⟩ := own_form ho8
  have hz8 := hg8.size
  have hk7 := O7.out.kept hg8 (own_block_none O7.out (by simp; omega))
  go_wp2_with (at_builtin
               refine wpl_app_pkts _ rfl (.tmp 22) (.tmp 24) rfl (w3.alloc (.cells #[.slice A3 4 c3, .slice B3 4 d3, .slice C3 4 f3] 26)).heap.size (.slice A7 n7 c7) n7 (ps5 ++ ps6) rfl hk7 A8 n8 c8 ps8 rfl (pr_own ho8) (by omega) (by simp; omega) ?_
               intro v9 w9 ho9 hg9 hat9
               obtain ⟨Al, cl, rfl, -, -, -⟩ := own_form ho9
               have S9 := Lib.hid (lists_step (by simp; omega) S7.out.1 O7.out hg8 hr8 hg9)
               have O9 := Lib.hid ho9
               clear ho9 hg9 hat9)
  have hnl : n7 + n8 ≤ 27 := by omega
  generalize n7 + n8 = nl at O9 hnl ⊢
  have R0 : Hid (LDRel w g (q + 1 + 4 + 40 + 40 + 40) w3.heap.size Al nl cl (ps5 ++ ps6 ++ ps8) (.int .i64 0) w9) := Lib.hid
    ⟨0, _, _, _, _, _, _, _, _, _, _, Nat.zero_le _, rfl, by simpa using O9.out, ldr_grown L0.out S9.out.1 S9.out.2⟩
  clear L0 S9 O9 O7 S7 hk7 hg8 hr8 ho8
  obtain ⟨LB, hLB⟩ : ∃ LB, w3.heap.size = LB := ⟨_, rfl⟩
  rw [hLB] at R0 ⊢
  clear hLB
  generalize ps5 ++ ps6 ++ ps8 = ps at R0
  go_wp2_with fail
  go_loopw [6] (fun i wr => LDRel w g (q + 1 + 4 + 40 + 40 + 40) LB Al nl cl ps i wr) (fun i _ => nl - (intOf i).toNat)
  case atStart => exact R0.out
  case round =>
    obtain ⟨k, A, n, c, B, m, d, C, o, f, l, hk, rfl, hlst, hD⟩ := hrel
    clear R0
    have HD := Lib.hid hD
    have HLs := Lib.hid hlst
    clear hD
    by_cases hlt : k < nl
    · obtain ⟨b, off, p, rfl, hb, hp, y0, y1, y2, y3⟩ := pr_at (pr_own hlst) hlt
      have k0 : (0 : Int) ≤ (k : Int) := by omega
      have k1 : (k : Int) < (nl : Int) := by omega
      have zl := blk_lt HD.out.lb
      have OS : Hid (∀ w' : World, Below wr.heap.size wr w' → ((w'.cell? ⟨LB, 0, none⟩ = some (.slice A n c) ∧ w'.cell? ⟨LB, 1, none⟩ = some (.slice B m d) ∧ w'.cell? ⟨LB, 2, none⟩ = some (.slice C o f)) ∧ w'.cell? ⟨b, off + k * 4, none⟩ = some (.int .i64 p.peer) ∧ w'.cell? ⟨b, off + k * 4 + 1, none⟩ = some (.int .i64 p.lane) ∧ w'.cell? ⟨b, off + k * 4 + 2, none⟩ = some (.int .i64 p.size) ∧ w'.cell? ⟨b, off + k * 4 + 3, none⟩ = some (.int .i64 p.id)) ∧ Below wr.heap.size wr w') := Lib.hid fun w' hb' => by
        have q := (bcell hb').1
        exact ⟨⟨(blk_three (blk_below HD.out.lb hb' zl)).1, (q _ _ hb).trans y0, (q _ _ hb).trans y1, (q _ _ hb).trans y2, (q _ _ hb).trans y3⟩, hb'⟩
      have hS0 := OS.out _ (Below.refl wr.heap.size wr).drew
      have B0 := Lib.hid (Below.refl wr.heap.size wr).drew
      have z0 := Lib.hid (show wr.drew.heap.size = wr.heap.size from rfl)
      have HF0 := Lib.hid (lax_lr (lax_drew HD.out.lx))
      clear hlst hp y0 y1 y2 y3 hb zl
      go_wp2_with fail
      go_cut [6, 7, 8] from 6 to 7 (fun s6 s7 s8 wx => s6 = .int .i64 (k : Int) ∧ LDRest LB wr s7 s8 wx)
      case first =>
        refine held_start (S := (fun w' => ((w'.cell? ⟨LB, 0, none⟩ = some (.slice A n c) ∧ w'.cell? ⟨LB, 1, none⟩ = some (.slice B m d) ∧ w'.cell? ⟨LB, 2, none⟩ = some (.slice C o f)) ∧ w'.cell? ⟨b, off + k * 4, none⟩ = some (.int .i64 p.peer) ∧ w'.cell? ⟨b, off + k * 4 + 1, none⟩ = some (.int .i64 p.lane) ∧ w'.cell? ⟨b, off + k * 4 + 2, none⟩ = some (.int .i64 p.size) ∧ w'.cell? ⟨b, off + k * 4 + 3, none⟩ = some (.int .i64 p.id)) ∧ Below wr.heap.size wr w')) 11 (by kernel_rfl) ?_
        generalize wr.drew = w0 at B0 HF0 z0 hS0 ⊢
        refine held_take (i := 0) (oi := { dst := some 33, op := Op.load 26 (Operand.tmp 3), type := 26, pos := "l6_lanes.go:209", after := #[], guard := none }) (v := ?_) rfl (by kernel_rfl) (by kernel_rfl) (by kernel_rfl) (by kernel_rfl) (fun _ _ _ h => h) (Or.inl ⟨by rfl, ?_⟩) hS0 ?_
        rotate_left
        · (intro w9 hSw; (try dsimp only at hSw); go_simp; try with_reducible rfl)
        try simp only [Act.put, List.setIfInBounds_toArray, List.set_cons_zero, List.set_cons_succ]
        refine held_take (i := 1) (oi := { dst := some 34, op := Op.move (Operand.tmp 5), type := 33, pos := "l6_lanes.go:209", after := #[], guard := none }) (v := ?_) rfl (by kernel_rfl) (by kernel_rfl) (by kernel_rfl) (by kernel_rfl) (fun _ _ _ h => h) (Or.inl ⟨by rfl, ?_⟩) hS0 ?_
        rotate_left
        · (intro w9 hSw; (try dsimp only at hSw); go_simp; try with_reducible rfl)
        try simp only [Act.put, List.setIfInBounds_toArray, List.set_cons_zero, List.set_cons_succ]
        refine held_take (i := 2) (oi := { dst := some 35, op := Op.move (Operand.tmp 6), type := 3, pos := "l6_lanes.go:209", after := #[], guard := none }) (v := ?_) rfl (by kernel_rfl) (by kernel_rfl) (by kernel_rfl) (by kernel_rfl) (fun _ _ _ h => h) (Or.inl ⟨by rfl, ?_⟩) hS0 ?_
        rotate_left
        · (intro w9 hSw; (try dsimp only at hSw); go_simp; try with_reducible rfl)
        try simp only [Act.put, List.setIfInBounds_toArray, List.set_cons_zero, List.set_cons_succ]
        refine held_take (i := 3) (oi := { dst := some 36, op := Op.indexAddr 33 (Operand.tmp 34) (Operand.tmp 35), type := 0, pos := "l6_lanes.go:209", after := #[{ on := 1, ground := Ground.data }, { on := 2, ground := Ground.data }], guard := none }) (v := ?_) rfl (by kernel_rfl) (by kernel_rfl) (by kernel_rfl) (by kernel_rfl) (fun _ _ _ h => h) (Or.inl ⟨by rfl, ?_⟩) hS0 ?_
        rotate_left
        · (intro w9 hSw; (try dsimp only at hSw); go_simp; try with_reducible rfl)
        try simp only [Act.put, List.setIfInBounds_toArray, List.set_cons_zero, List.set_cons_succ]
        refine held_take (i := 4) (oi := { dst := some 37, op := Op.load 40 (Operand.tmp 36), type := 40, pos := "l6_lanes.go:209", after := #[{ on := 3, ground := Ground.data }], guard := none }) (v := ?_) rfl (by kernel_rfl) (by kernel_rfl) (by kernel_rfl) (by kernel_rfl) (fun _ _ _ h => h) (Or.inl ⟨by rfl, ?_⟩) hS0 ?_
        rotate_left
        · (intro w9 hSw; (try dsimp only at hSw); go_simp; try with_reducible rfl)
        try simp only [Act.put, List.setIfInBounds_toArray, List.set_cons_zero, List.set_cons_succ]
        refine held_two (i := 5) (j := 9) (oi := { dst := some 38, op := Op.call { callee := Callee.value (Operand.func 28), args := #[Operand.tmp 33, Operand.tmp 37], argTypes := #[26, 40] }, type := 47, pos := "l6_lanes.go:209", after := #[{ on := 0, ground := Ground.data }, { on := 4, ground := Ground.data }], guard := none }) (oj := { dst := some 7, op := Op.alloc 26, type := 0, pos := "l6_lanes.go:209", after := #[], guard := none }) (by kernel_rfl) rfl rfl (fun K hK => ?_) (fun K hK => ?_)
        · go_simp
          go_at_call 28
          refine (jlS_draw A n c B m d C o f l p _ HF0.out).mono ?_
          rintro e wj ⟨A9, n9, c9, B9, m9, d9, C9, o9, f9, l9, ok9, rfl, hv9, hx9, hb9⟩
          have V9 := Lib.hid hv9
          have X9 := Lib.hid hx9
          have B3 := Lib.hid (below_seq B0.out hb9)
          have hS3 := OS.out _ B3.out
          have Z9 := Lib.hid hb9.size
          clear hv9 hx9 hb9
          refine hK.out _ _ (.inr hS3) ?_
          clear hK K
          try simp only [Act.put, List.setIfInBounds_toArray, List.set_cons_zero, List.set_cons_succ]
          refine held_take (i := 6) (oi := { dst := some 32, op := Op.move (Operand.tmp 38), type := 47, pos := "l6_lanes.go:209", after := #[{ on := 5, ground := Ground.data }], guard := none }) (v := ?_) rfl (by kernel_rfl) (by kernel_rfl) (by kernel_rfl) (by kernel_rfl) (fun _ _ _ h => h) (Or.inl ⟨by rfl, ?_⟩) hS3 ?_
          rotate_left
          · (intro w9 hSw; (try dsimp only at hSw); go_simp; try with_reducible rfl)
          try simp only [Act.put, List.setIfInBounds_toArray, List.set_cons_zero, List.set_cons_succ]
          refine held_take (i := 7) (oi := { dst := some 39, op := Op.extract (Operand.tmp 32) 0, type := 26, pos := "l6_lanes.go:209", after := #[{ on := 6, ground := Ground.data }], guard := none }) (v := ?_) rfl (by kernel_rfl) (by kernel_rfl) (by kernel_rfl) (by kernel_rfl) (fun _ _ _ h => h) (Or.inl ⟨by rfl, ?_⟩) hS3 ?_
          rotate_left
          · (intro w9 hSw; (try dsimp only at hSw); go_simp; try with_reducible rfl)
          try simp only [Act.put, List.setIfInBounds_toArray, List.set_cons_zero, List.set_cons_succ]
          refine held_take (i := 8) (oi := { dst := some 40, op := Op.extract (Operand.tmp 32) 1, type := 4, pos := "l6_lanes.go:209", after := #[{ on := 6, ground := Ground.data }, { on := 10, ground := Ground.gcOnly Departure.lateStores }], guard := none }) (v := ?_) rfl (by kernel_rfl) (by kernel_rfl) (by kernel_rfl) (by kernel_rfl) (fun _ _ _ h => h) (Or.inl ⟨by rfl, ?_⟩) hS3 ?_
          rotate_left
          · (intro w9 hSw; (try dsimp only at hSw); go_simp; try with_reducible rfl)
          try simp only [Act.put, List.setIfInBounds_toArray, List.set_cons_zero, List.set_cons_succ]
          refine held_one (i := 9) (o := { dst := some 7, op := Op.alloc 26, type := 0, pos := "l6_lanes.go:209", after := #[], guard := none }) (by kernel_rfl) rfl (fun K hK => ?_)
          go_simp
          have hS4 := OS.out _ (below_alloc B3.out (.cells #[.slice none 0 0, .slice none 0 0, .slice none 0 0] 26))
          refine hK.out _ _ (.inr hS4) ?_
          clear hK K
          try simp only [Act.put, List.setIfInBounds_toArray, List.set_cons_zero, List.set_cons_succ]
          refine held_one (i := 10) (o := { dst := none, op := Op.store 26 (Operand.tmp 7) (Operand.tmp 39), type := 0, pos := "l6_lanes.go:209", after := #[{ on := 9, ground := Ground.data }, { on := 7, ground := Ground.data }, { on := 5, ground := Ground.chain }, { on := 0, ground := Ground.phase }, { on := 1, ground := Ground.phase }, { on := 2, ground := Ground.phase }, { on := 3, ground := Ground.phase }, { on := 4, ground := Ground.phase }, { on := 5, ground := Ground.phase }, { on := 6, ground := Ground.phase }, { on := 7, ground := Ground.phase }, { on := 8, ground := Ground.textOnly Departure.lateStores }, { on := 9, ground := Ground.phase }], guard := none }) (by kernel_rfl) rfl (fun K hK => ?_)
          go_simp
          refine hK.out _ _ (.inr (by first | exact OS.out _ (below_alloc B3.out _) | (refine OS.out _ ?_; with_reducible refine Below.setCell ?_ ?_ _; with_reducible refine Below.setCell ?_ ?_ _; with_reducible refine Below.setCell ?_ ?_ _; (first | with_reducible exact B3.out | with_reducible exact below_alloc B3.out _); all_goals (have := z0.out; simp <;> omega)))) ?_
          clear hK K
          try simp only [Act.put, List.setIfInBounds_toArray, List.set_cons_zero, List.set_cons_succ]
          refine held_one (i := 11) (o := { dst := some 8, op := Op.assign (Operand.tmp 40), type := 4, pos := "l6_lanes.go:209", after := #[{ on := 8, ground := Ground.data }, { on := 10, ground := Ground.chain }, { on := 0, ground := Ground.phase }, { on := 1, ground := Ground.phase }, { on := 2, ground := Ground.phase }, { on := 3, ground := Ground.phase }, { on := 4, ground := Ground.phase }, { on := 5, ground := Ground.phase }, { on := 6, ground := Ground.phase }, { on := 7, ground := Ground.phase }, { on := 8, ground := Ground.phase }, { on := 9, ground := Ground.phase }, { on := 10, ground := Ground.phase }], guard := none }) (by kernel_rfl) rfl (fun K hK => ?_)
          go_simp
          refine hK.out _ _ (.inl rfl) ?_
          clear hK K
          try simp only [Act.put, List.setIfInBounds_toArray, List.set_cons_zero, List.set_cons_succ]
          refine held_done (by kernel_rfl) ?_ _
          go_wp2_with fail
          go_meet
          refine ⟨rfl, ?_⟩
          first | exact ldrest_new V9.out X9.out B3.out B0.out z0.out HD.out | exact ldrest_set V9.out X9.out B3.out HY.out B0.out z0.out HD.out
        · go_simp
          have hS1 := OS.out _ (below_alloc B0.out (.cells #[.slice none 0 0, .slice none 0 0, .slice none 0 0] 26))
          refine hK.out _ _ (.inr hS1) ?_
          clear hK K
          try simp only [Act.put, List.setIfInBounds_toArray, List.set_cons_zero, List.set_cons_succ]
          refine held_one (i := 5) (o := { dst := some 38, op := Op.call { callee := Callee.value (Operand.func 28), args := #[Operand.tmp 33, Operand.tmp 37], argTypes := #[26, 40] }, type := 47, pos := "l6_lanes.go:209", after := #[{ on := 0, ground := Ground.data }, { on := 4, ground := Ground.data }], guard := none }) (by kernel_rfl) rfl (fun K hK => ?_)
          go_simp
          go_at_call 28
          refine (jlS_draw A n c B m d C o f l p _ (lr_alloc HF0.out _)).mono ?_
          rintro e wj ⟨A9, n9, c9, B9, m9, d9, C9, o9, f9, l9, ok9, rfl, hv9, hx9, hb9⟩
          have V9 := Lib.hid hv9
          have X9 := Lib.hid hx9
          have B3 := Lib.hid (below_seq (below_alloc B0.out _) hb9)
          have hS3 := OS.out _ B3.out
          have Z9 := Lib.hid hb9.size
          have HY := Lib.hid (blk_below (blk_new w0 26 #[.slice none 0 0, .slice none 0 0, .slice none 0 0]) hb9 (by simp))
          obtain ⟨⟨t0, t1, t2⟩, tf0, tf1, tf2⟩ := blk_three HY.out
          clear hv9 hx9 hb9
          refine hK.out _ _ (.inr hS3) ?_
          clear hK K
          try simp only [Act.put, List.setIfInBounds_toArray, List.set_cons_zero, List.set_cons_succ]
          refine held_take (i := 6) (oi := { dst := some 32, op := Op.move (Operand.tmp 38), type := 47, pos := "l6_lanes.go:209", after := #[{ on := 5, ground := Ground.data }], guard := none }) (v := ?_) rfl (by kernel_rfl) (by kernel_rfl) (by kernel_rfl) (by kernel_rfl) (fun _ _ _ h => h) (Or.inl ⟨by rfl, ?_⟩) hS3 ?_
          rotate_left
          · (intro w9 hSw; (try dsimp only at hSw); go_simp; try with_reducible rfl)
          try simp only [Act.put, List.setIfInBounds_toArray, List.set_cons_zero, List.set_cons_succ]
          refine held_take (i := 7) (oi := { dst := some 39, op := Op.extract (Operand.tmp 32) 0, type := 26, pos := "l6_lanes.go:209", after := #[{ on := 6, ground := Ground.data }], guard := none }) (v := ?_) rfl (by kernel_rfl) (by kernel_rfl) (by kernel_rfl) (by kernel_rfl) (fun _ _ _ h => h) (Or.inl ⟨by rfl, ?_⟩) hS3 ?_
          rotate_left
          · (intro w9 hSw; (try dsimp only at hSw); go_simp; try with_reducible rfl)
          try simp only [Act.put, List.setIfInBounds_toArray, List.set_cons_zero, List.set_cons_succ]
          refine held_take (i := 8) (oi := { dst := some 40, op := Op.extract (Operand.tmp 32) 1, type := 4, pos := "l6_lanes.go:209", after := #[{ on := 6, ground := Ground.data }, { on := 10, ground := Ground.gcOnly Departure.lateStores }], guard := none }) (v := ?_) rfl (by kernel_rfl) (by kernel_rfl) (by kernel_rfl) (by kernel_rfl) (fun _ _ _ h => h) (Or.inl ⟨by rfl, ?_⟩) hS3 ?_
          rotate_left
          · (intro w9 hSw; (try dsimp only at hSw); go_simp; try with_reducible rfl)
          try simp only [Act.put, List.setIfInBounds_toArray, List.set_cons_zero, List.set_cons_succ]
          refine held_one (i := 10) (o := { dst := none, op := Op.store 26 (Operand.tmp 7) (Operand.tmp 39), type := 0, pos := "l6_lanes.go:209", after := #[{ on := 9, ground := Ground.data }, { on := 7, ground := Ground.data }, { on := 5, ground := Ground.chain }, { on := 0, ground := Ground.phase }, { on := 1, ground := Ground.phase }, { on := 2, ground := Ground.phase }, { on := 3, ground := Ground.phase }, { on := 4, ground := Ground.phase }, { on := 5, ground := Ground.phase }, { on := 6, ground := Ground.phase }, { on := 7, ground := Ground.phase }, { on := 8, ground := Ground.textOnly Departure.lateStores }, { on := 9, ground := Ground.phase }], guard := none }) (by kernel_rfl) rfl (fun K hK => ?_)
          go_simp
          refine hK.out _ _ (.inr (by first | exact OS.out _ (below_alloc B3.out _) | (refine OS.out _ ?_; with_reducible refine Below.setCell ?_ ?_ _; with_reducible refine Below.setCell ?_ ?_ _; with_reducible refine Below.setCell ?_ ?_ _; (first | with_reducible exact B3.out | with_reducible exact below_alloc B3.out _); all_goals (have := z0.out; simp <;> omega)))) ?_
          clear hK K
          try simp only [Act.put, List.setIfInBounds_toArray, List.set_cons_zero, List.set_cons_succ]
          refine held_one (i := 11) (o := { dst := some 8, op := Op.assign (Operand.tmp 40), type := 4, pos := "l6_lanes.go:209", after := #[{ on := 8, ground := Ground.data }, { on := 10, ground := Ground.chain }, { on := 0, ground := Ground.phase }, { on := 1, ground := Ground.phase }, { on := 2, ground := Ground.phase }, { on := 3, ground := Ground.phase }, { on := 4, ground := Ground.phase }, { on := 5, ground := Ground.phase }, { on := 6, ground := Ground.phase }, { on := 7, ground := Ground.phase }, { on := 8, ground := Ground.phase }, { on := 9, ground := Ground.phase }, { on := 10, ground := Ground.phase }], guard := none }) (by kernel_rfl) rfl (fun K hK => ?_)
          go_simp
          refine hK.out _ _ (.inl rfl) ?_
          clear hK K
          try simp only [Act.put, List.setIfInBounds_toArray, List.set_cons_zero, List.set_cons_succ]
          refine held_done (by kernel_rfl) ?_ _
          go_wp2_with fail
          go_meet
          refine ⟨rfl, ?_⟩
          first | exact ldrest_new V9.out X9.out B3.out B0.out z0.out HD.out | exact ldrest_set V9.out X9.out B3.out HY.out B0.out z0.out HD.out
      case rest =>
        obtain ⟨rfl, NB, A', n', c', B', m', d', C', o', f', l', ok, rfl, rfl, hv', hN, hx', hNB, hb'⟩ := hcut
        have D' := Lib.hid (ldr_below HD.out hb')
        have L' := Lib.hid (own_below HLs.out hb')
        have HN := Lib.hid hN
        have HX := Lib.hid hx'
        have zl := blk_lt HD.out.lb
        obtain ⟨⟨x0, x1, x2⟩, -⟩ := blk_three hN
        obtain ⟨⟨l0, l1, l2⟩, lf0, lf1, lf2⟩ := blk_three D'.out.lb
        have zN := blk_lt hN
        have zL := blk_lt D'.out.lb
        clear hN hx' hb' OS hS0 B0 z0 HF0
        rcases ok with _ | _
        · clear hv'
          go_wp2
          go_roundw
          case rel => exact ⟨k + 1, _, _, _, _, _, _, _, _, _, _, by omega, by go_num, L'.out, D'.out⟩
          case measure => simp [intOf]; omega
        · have HV := Lib.hid (hv' rfl)
          have E' := Lib.hid (ldr_next (c2 := c') (d2 := d') (f2 := f') D'.out HV.out HX.out zl)
          have M' := Lib.hid (own_set_far (p := ⟨LB, 2, none⟩) (own_set_far (p := ⟨LB, 1, none⟩) (own_set_far (p := ⟨LB, 0, none⟩) L'.out (by simp) (.slice A' n' c')) (by simp) (.slice B' m' d')) (by simp) (.slice C' o' f'))
          clear hv'
          go_wp2
          go_roundw
          case rel => exact ⟨k + 1, _, _, _, _, _, _, _, _, _, _, by omega, by go_num, M'.out, E'.out⟩
          case measure => simp [intOf]; omega
    · obtain rfl : k = nl := by omega
      have HDd := Lib.hid (ldr_below HD.out (Below.refl wr.heap.size wr).drew)
      obtain ⟨e4, e5, e6⟩ := lr_four (lax_lr HD.out.lx) HD.out.lv
      subst e4 e5 e6
      obtain ⟨⟨l0, l1, l2⟩, -⟩ := blk_three HD.out.lb
      clear hlst hlt HLs hk
      go_wp2_with fail
      go_region_with (first
        | (go_at_call 135
           refine (tkS_yesX A 4 c B 4 d C 4 f l j _ (lax_lr DP.out.lx) DP.out.lv).mono ?_
           rintro e wt ⟨A9, c9, B9, d9, C9, f9, At, ct, rfl, hx9, -, hb9⟩
           have DT := Lib.hid (ldr_below DP.out hb9)
           have D9 := Lib.hid (ldr_next (c2 := c9) (d2 := d9) (f2 := f9) DT.out (tkN_valid j l DP.out.lv).1 hx9 zp)
           obtain ⟨⟨x0, x1, x2⟩, xf0, xf1, xf2⟩ := blk_three DT.out.lb
           have zT := blk_lt DT.out.lb
           clear hx9 hb9)
        | (go_at_call 61
           refine (pick_any g _ 5 _ HDd.out.rd (by omega) (by omega)).mono ?_
           rintro e wp ⟨j, rfl, hj, hgp, hrp⟩
           have DP := Lib.hid (ldr_grown HDd.out hgp hrp)
           obtain ⟨⟨p0, p1, p2⟩, -⟩ := blk_three DP.out.lb
           have zp := blk_lt DP.out.lb
           clear hgp hrp))
      all_goals
        obtain ⟨⟨l0', l1', l2'⟩, -⟩ := blk_three D9.out.lb
        obtain ⟨⟨o0, o1, o2⟩, of0, of1, of2⟩ := blk_three D9.out.out
        have zo9 := blk_lt D9.out.out
        have zl9 := blk_lt D9.out.lb
        have hL9 := D9.out.hL
        go_wp2
        refine bodyPost_ret (v := .agg #[.slice A9 4 c9, .slice B9 4 d9, .slice C9 4 f9]) (by simp [results, Try.results60, go_sem, o0, o1, o2]) rfl ⟨A9, c9, B9, d9, C9, f9, _, rfl, D9.out.lv, ?_⟩
        have E := ldr_end D9.out (.slice A9 4 c9) (.slice B9 4 d9) (.slice C9 4 f9)
        exact ⟨E.1, E.2.1, rd_more E.2.2 (by omega)⟩
end Go.Proofs.Ytkmoiphcpmhacab
