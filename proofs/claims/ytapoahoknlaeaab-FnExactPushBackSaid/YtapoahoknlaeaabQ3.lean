/-
  Chapter 3: PushBack: what the program's function and the model's return. Conditions: the slice has at most 4000000000 packets.
-/
import Derived.Test.YtapoahoknlaeaabQ2
import Derived.Deep.DeepCutAuto
namespace Go.Proofs.Ytapoahoknlaeaab
open Go.RowKit

def pushOk (lim : Int) (ps : List Pkt) (p : Pkt) : Bool := qvB lim ps && vldB p
def pushIn (lim : Int) (ps : List Pkt) (p : Pkt) : Bool := pushOk lim ps p && inQ lim ps p
def pushL (lim : Int) (ps : List Pkt) (p : Pkt) : Int := if pushOk lim ps p = true then lim else 0
def pushP (lim : Int) (ps : List Pkt) (p : Pkt) : List Pkt := if pushIn lim ps p = true then ps ++ [p] else if pushOk lim ps p = true then ps else []
theorem push_no {lim : Int} {ps : List Pkt} {p : Pkt} (h : pushOk lim ps p = false) : pushIn lim ps p = false ∧ pushL lim ps p = 0 ∧ pushP lim ps p = [] := by
  simp [pushIn, pushL, pushP, h]
theorem push_full {lim : Int} {ps : List Pkt} {p : Pkt} (h : pushOk lim ps p = true) (hi : inQ lim ps p = false) : pushIn lim ps p = false ∧ pushL lim ps p = lim ∧ pushP lim ps p = ps := by
  simp [pushIn, pushL, pushP, h, hi]
theorem push_in {lim : Int} {ps : List Pkt} {p : Pkt} (h : pushOk lim ps p = true) (hi : inQ lim ps p = true) : pushIn lim ps p = true ∧ pushL lim ps p = lim ∧ pushP lim ps p = ps ++ [p] := by
  simp [pushIn, pushL, pushP, h, hi]
/-- a queue and two values more are handed back; the queue's packets are the call's own -/
def QPost2 (w : World) (lim : Int) (ps : List Pkt) (x y : Value) (e : Ending) (w' : World) : Prop :=
  ∃ A n c, e = .returned (.tuple #[.agg #[.int .i64 lim, (.slice A n c)], x, y]) ∧ n = ps.length ∧ w'.ownsRow w.heap.size 51 4 (.slice A n c) n (pcells ps) ∧ Below w.heap.size w w'
theorem qpost2_mk {w w' : World} {lim : Int} {ps : List Pkt} {x y : Value} {e : Ending} {A : Option Addr} {n c : Nat} (he : e = .returned (.tuple #[.agg #[.int .i64 lim, (.slice A n c)], x, y])) (ho : w'.ownsRow w.heap.size 51 4 (.slice A n c) n (pcells ps)) (hb : Below w.heap.size w w') : QPost2 w lim ps x y e w' :=
  ⟨A, n, c, he, ((pr_own ho).1).symm, ho, hb⟩
/-- the three blocks of a call of PushBack: the queue, the packet, the result -/
structure F3 (w : World) (lim : Int) (A : Option Addr) (n c : Nat) (ps : List Pkt) (p : Pkt) (w' : World) : Prop where
  q : Blk w' w.heap.size 25 #[.int .i64 lim, .slice A n c]
  k : Blk w' (w.heap.size + 1) 51 #[.int .i64 p.peer, .int .i64 p.lane, .int .i64 p.size, .int .i64 p.id]
  o : Blk w' (w.heap.size + 2) 25 #[.int .i64 0, .slice none 0 0]
  pr : PR w' A n ps
  below : Below w.heap.size w w'
  old : 0 < n → ∀ x, A.map (·.block) = some x → x < w.heap.size
section
variable {w w1 w2 : World} {lim : Int} {A : Option Addr} {n c : Nat} {ps : List Pkt} {p : Pkt}
theorem f3_first (w : World) (h : PR w A n ps) : F3 w lim A n c ps p (((w.alloc (.cells #[.int .i64 lim, (.slice A n c)] 25)).alloc (.cells #[.int .i64 p.peer, .int .i64 p.lane, .int .i64 p.size, .int .i64 p.id] 51)).alloc (.cells #[.int .i64 0, (.slice none 0 0)] 25)) :=
  ⟨blk_alloc (blk_alloc (blk_new w _ _) _) _, blk_alloc (blk_new2 _ _ _ _) _, blk_new3 _ _ _ _ _, pr_alloc (pr_alloc (pr_alloc h _) _) _, below_alloc (below_alloc (below_alloc (Below.refl _ _) _) _) _, pr_old h⟩
theorem f3_below (h : F3 w lim A n c ps p w1) (hb : Below w1.heap.size w1 w2) : F3 w lim A n c ps p w2 :=
  ⟨blk_below h.q hb (blk_lt h.q), blk_below h.k hb (blk_lt h.k), blk_below h.o hb (blk_lt h.o), pr_below h.pr hb, below_seq h.below hb, h.old⟩
theorem f3_grown {row : Option Nat} (h : F3 w lim A n c ps p w1) (hg : w1.grownBy w2 row) (hr : ∀ g, row = some g → w.heap.size + 2 < g) : F3 w lim A n c ps p w2 :=
  ⟨blk_grownQ h.q hg (fun e => by have := hr _ e.symm; omega), blk_grownQ h.k hg (fun e => by have := hr _ e.symm; omega), blk_grownQ h.o hg (fun e => by have := hr _ e.symm; omega),
    pr_grown h.pr hg (fun hn x hx e => by have := h.old hn x hx; have := hr x e.symm; omega), h.below.grown hg h.below.size (fun j e => by have := hr j e; omega), h.old⟩
theorem f3_set (h : F3 w lim A n c ps p w1) {a : Addr} (ha : w.heap.size + 2 < a.block) (u : Value) : F3 w lim A n c ps p (w1.setCell a u) :=
  f3_grown h (g_set (g_refl w1 (some a.block)) (.inl rfl) u) (fun g hg => by injection hg with hg; omega)
theorem f3_lt (h : F3 w lim A n c ps p w1) : w.heap.size + 2 < w1.heap.size := blk_lt h.o
theorem f3_lts (h : F3 w lim A n c ps p w1) : w.heap.size < w1.heap.size ∧ w.heap.size + 1 < w1.heap.size ∧ w.heap.size + 2 < w1.heap.size := by have := blk_lt h.o; omega
theorem f3_alloc (h : F3 w lim A n c ps p w1) (o : Obj) : F3 w lim A n c ps p (w1.alloc o) := f3_below h (below_alloc (Below.refl _ _) o)
theorem f3_drewN (h : F3 w lim A n c ps p w1) (k : Nat) : F3 w lim A n c ps p (w1.drewN k) := ⟨h.q, h.k, h.o, h.pr, below_drewN h.below k, h.old⟩
theorem f3_cells (h : F3 w lim A n c ps p w1) : (w1.cell? ⟨w.heap.size, 0, none⟩ = some (.int .i64 lim) ∧ w1.cell? ⟨w.heap.size, 1, none⟩ = some (.slice A n c)) ∧
    (w1.cell? ⟨w.heap.size + 1, 0, none⟩ = some (.int .i64 p.peer) ∧ w1.cell? ⟨w.heap.size + 1, 1, none⟩ = some (.int .i64 p.lane) ∧ w1.cell? ⟨w.heap.size + 1, 2, none⟩ = some (.int .i64 p.size) ∧ w1.cell? ⟨w.heap.size + 1, 3, none⟩ = some (.int .i64 p.id)) ∧
    (w1.cell? ⟨w.heap.size + 2, 0, none⟩ = some (.int .i64 0) ∧ w1.cell? ⟨w.heap.size + 2, 1, none⟩ = some (.slice none 0 0) ∧ w1.frozen? ⟨w.heap.size + 2, 0, none⟩ = false ∧ w1.frozen? ⟨w.heap.size + 2, 1, none⟩ = false) :=
  ⟨⟨blk_cell h.q 0, blk_cell h.q 1⟩, ⟨blk_cell h.k 0, blk_cell h.k 1, blk_cell h.k 2, blk_cell h.k 3⟩, blk_cell h.o 0, blk_cell h.o 1, blk_free h.o 0, blk_free h.o 1⟩
end
theorem pushOk_of {lim : Int} {ps : List Pkt} {p : Pkt} (h : pushOk lim ps p = true) : qvB lim ps = true ∧ vldB p = true := by simpa [pushOk] using h
set_option maxHeartbeats 4000000 in
theorem pushI_no (lim : Int) (A : Option Addr) (n c : Nat) (ps : List Pkt) (p : Pkt) (w : World) (h : PR w A n ps) (hn : n ≤ 4000000000) (hk : pushOk lim ps p = false) :
    Calls Try.prog 34 #[.agg #[.int .i64 lim, (.slice A n c)], .agg #[.int .i64 p.peer, .int .i64 p.lane, .int .i64 p.size, .int .i64 p.id]] w (QPost2 w 0 [] (.bool false) (.bool false)) := by
  have F0 := Lib.hid (f3_first (lim := lim) (c := c) (p := p) w h)
  clear h
  rcases hq : qvB lim ps with _ | _
  · have HQ := Lib.hid hq
    clear hq hk
    go_enter Try.func34, Try.ntmps34
    go_wp2_with fail
    refine (qvI_any lim A n c ps _ F0.out.pr (by omega)).mono ?_
    rintro e w1 ⟨rfl, hb⟩
    rw [HQ.out]
    have F1 := Lib.hid (f3_below F0.out hb)
    obtain ⟨⟨c0, c1⟩, ⟨k0, k1, k2, k3⟩, o0, o1, f0, f1⟩ := f3_cells F1.out
    clear hb
    go_wp2
    refine bodyPost_ret (v := .tuple #[.agg #[.int .i64 0, (.slice none 0 0)], .bool false, .bool false]) (by simp [results, Try.results34, go_sem, o0, o1]) rfl (qpost2_mk rfl (World.ownsRow_nil _ _ _ _) ?_)
    repeat refine Below.setCell ?_ (by simp <;> omega) _
    exact F1.out.below
  · have HV : Hid (vldB p = false) := Lib.hid (by simpa [pushOk, hq] using hk)
    have HQ := Lib.hid hq
    clear hq hk
    go_enter Try.func34, Try.ntmps34
    go_wp2_with fail
    refine (qvI_any lim A n c ps _ F0.out.pr (by omega)).mono ?_
    rintro e w1 ⟨rfl, hb⟩
    rw [HQ.out]
    have F1 := Lib.hid (f3_below F0.out hb)
    obtain ⟨⟨c0, c1⟩, ⟨k0, k1, k2, k3⟩, o0, o1, f0, f1⟩ := f3_cells F1.out
    clear hb
    go_wp2_with fail
    refine (vldI_any p _).mono ?_
    rintro e w2 ⟨rfl, hb⟩
    rw [HV.out]
    have F2 := Lib.hid (f3_below F1.out hb)
    clear c0 c1 k0 k1 k2 k3 o0 o1 f0 f1 hb
    obtain ⟨⟨c0, c1⟩, ⟨k0, k1, k2, k3⟩, o0, o1, f0, f1⟩ := f3_cells F2.out
    go_wp2
    refine bodyPost_ret (v := .tuple #[.agg #[.int .i64 0, (.slice none 0 0)], .bool false, .bool false]) (by simp [results, Try.results34, go_sem, o0, o1]) rfl (qpost2_mk rfl (World.ownsRow_nil _ _ _ _) ?_)
    repeat refine Below.setCell ?_ (by simp <;> omega) _
    exact F2.out.below
set_option maxHeartbeats 4000000 in
theorem pushI_yes (lim : Int) (A : Option Addr) (n c : Nat) (ps : List Pkt) (p : Pkt) (w : World) (h : PR w A n ps) (hn : n ≤ 4000000000) (hk : pushOk lim ps p = true) :
    Calls Try.prog 34 #[.agg #[.int .i64 lim, (.slice A n c)], .agg #[.int .i64 p.peer, .int .i64 p.lane, .int .i64 p.size, .int .i64 p.id]] w (QPost2 w lim (pushP lim ps p) (.bool (pushIn lim ps p)) (.bool true)) := by
  have F0 := Lib.hid (f3_first (lim := lim) (c := c) (p := p) w h)
  obtain ⟨hq, hv⟩ := pushOk_of hk
  have HP := Lib.hid (qv_push hq hv)
  have HK := Lib.hid hk
  have HQ := Lib.hid hq
  have HV := Lib.hid hv
  have n64 : n ≤ 64 := by have := (qv_of hq).2.2.2.2.2; have := h.1; omega
  clear h hk hq hv
  go_enter Try.func34, Try.ntmps34
  go_wp2_with fail
  refine (qvI_any lim A n c ps _ F0.out.pr (by omega)).mono ?_
  rintro e w1 ⟨rfl, hb⟩
  rw [HQ.out]
  have F1 := Lib.hid (f3_below F0.out hb)
  obtain ⟨⟨c0, c1⟩, ⟨k0, k1, k2, k3⟩, o0, o1, f0, f1⟩ := f3_cells F1.out
  clear hb
  go_wp2_with fail
  refine (vldI_any p _).mono ?_
  rintro e w2 ⟨rfl, hb⟩
  rw [HV.out]
  have F2 := Lib.hid (f3_below F1.out hb)
  clear c0 c1 k0 k1 k2 k3 o0 o1 f0 f1 hb F1
  obtain ⟨⟨c0, c1⟩, ⟨k0, k1, k2, k3⟩, o0, o1, f0, f1⟩ := f3_cells F2.out
  go_wp2_with fail
  refine (copyI_any lim A n c ps _ F2.out.pr hn).mono ?_
  rintro e w3 ⟨A3, c3, rfl, ho3, hb⟩
  have F3' := Lib.hid (f3_below F2.out hb)
  have z2 := f3_lt F2.out
  have z3 := hb.size
  have HO3 := Lib.hid ho3
  clear c0 c1 k0 k1 k2 k3 o0 o1 f0 f1 hb ho3
  obtain ⟨⟨c0, c1⟩, ⟨k0, k1, k2, k3⟩, o0, o1, f0, f1⟩ := f3_cells F3'.out
  obtain ⟨y0, y1, y2⟩ := f3_lts F3'.out
  have PK := Lib.hid (pr_single (p := p) (blk_at (w := w3.alloc (.cells #[.int .i64 lim, (.slice A3 n c3)] 25)) (b := w3.heap.size + 1) (by simp) 51 #[.int .i64 p.peer, .int .i64 p.lane, .int .i64 p.size, .int .i64 p.id]))
  have hlt3 := Lib.hid (show ∀ g, Value.ownBlock (.slice A3 n c3) = some g → w2.heap.size ≤ g ∧ g < w3.heap.size from fun g hg => HO3.out.lt g hg)
  go_wp2_with (at_builtin
               refine wpl_app_pkts _ rfl (.tmp 20) (.tmp 22) rfl w2.heap.size (.slice A3 n c3) n ps rfl ((HO3.out.alloc _).alloc _) (some ⟨w3.heap.size + 1, 0, none⟩) 1 1 [p] rfl PK.out (by omega) (by simp <;> omega) ?_
               intro v4 w4 ho4 hg4 hat4
               have F4 := Lib.hid (f3_grown (f3_alloc (f3_alloc F3'.out _) _) hg4 (fun g hg => by have := hlt3.out g hg; omega))
               have L4 := Lib.hid (blk_grownQ (blk_alloc (blk_new w3 25 #[.int .i64 lim, (.slice A3 n c3)]) _) hg4 (fun e => by have := hlt3.out _ e.symm; omega))
               have z4 : w3.heap.size < w4.heap.size := (by have := hg4.size; simp at this; omega)
               obtain ⟨A4, c4, rfl, -, -, -⟩ := own_form ho4
               have O4 : Hid ((w4.setCell ⟨w3.heap.size, 1, none⟩ (.slice A4 (n + 1) c4)).ownsRow w2.heap.size 51 4 (.slice A4 (n + 1) c4) (n + 1) (pcells (ps ++ [p]))) := Lib.hid (own_set_ne ho4 (by
                 rcases hat4 with e | e
                 · rw [e]; intro e2; have := hlt3.out _ e2; simp at this
                 · rw [e]; simp <;> omega) _)
               have F5 := Lib.hid (f3_set (a := ⟨w3.heap.size, 1, none⟩) F4.out (by simp; omega) (.slice A4 (n + 1) c4))
               have L5 : Hid (Blk (w4.setCell ⟨w3.heap.size, 1, none⟩ (.slice A4 (n + 1) c4)) w3.heap.size 25 #[.int .i64 lim, (.slice A4 (n + 1) c4)]) := Lib.hid (blk_set L4.out 1 _)
               obtain ⟨l0, l1, g0, g1⟩ := blk_two L4.out
               clear hg4 hat4 hlt3 ho4 c0 c1 k0 k1 k2 k3 o0 o1 f0 f1 y0 y1 y2 L4 F4 F3' PK HO3)
  go_wp2_with fail
  refine (qvI_any lim A4 (n + 1) c4 (ps ++ [p]) _ (pr_own O4.out) (by omega)).mono ?_
  rintro e w5 ⟨rfl, hb⟩
  have O6 := Lib.hid (own_below O4.out hb)
  have F6 := Lib.hid (f3_below F5.out hb)
  obtain ⟨l0, l1, g0, g1⟩ := blk_two (blk_below L5.out hb (by simpa using z4))
  obtain ⟨⟨c0, c1⟩, ⟨k0, k1, k2, k3⟩, o0, o1, f0, f1⟩ := f3_cells F6.out
  clear hb L5 F5 O4
  rw [HP.out]
  rcases hi : inQ lim ps p with _ | _
  · have HI := Lib.hid (push_full HK.out hi)
    clear hi
    go_wp2_with fail
    refine (copyI_any lim A n c ps _ F6.out.pr hn).mono ?_
    rintro e w6 ⟨A6, c6, rfl, ho6, hb⟩
    have z6 := f3_lt F6.out
    have F7 := Lib.hid (f3_below F6.out hb)
    have O7 := Lib.hid ho6
    clear c0 c1 k0 k1 k2 k3 o0 o1 f0 f1 hb ho6 l0 l1 g0 g1
    obtain ⟨⟨c0, c1⟩, ⟨k0, k1, k2, k3⟩, o0, o1, f0, f1⟩ := f3_cells F7.out
    go_wp2
    rw [HI.out.1, HI.out.2.2]
    refine bodyPost_ret (v := .tuple #[.agg #[.int .i64 lim, (.slice A6 n c6)], .bool false, .bool true]) (by simp [results, Try.results34, go_sem, o0, o1]) rfl (qpost2_mk rfl (own_mono (own_set_far (own_set_far O7.out (by first | omega | (simp <;> omega)) _) (by first | omega | (simp <;> omega)) _) (by first | omega | (simp <;> omega))) ?_)
    repeat refine Below.setCell ?_ (by simp <;> omega) _
    exact F7.out.below
  · have HI := Lib.hid (push_in HK.out hi)
    clear hi
    go_wp2
    rw [HI.out.1, HI.out.2.2]
    refine bodyPost_ret (v := .tuple #[.agg #[.int .i64 lim, (.slice A4 (n + 1) c4)], .bool true, .bool true]) (by simp [results, Try.results34, go_sem, o0, o1]) rfl (qpost2_mk rfl (own_mono (own_set_far (own_set_far O6.out (by first | omega | (simp <;> omega)) _) (by first | omega | (simp <;> omega)) _) (by first | omega | (simp <;> omega))) ?_)
    repeat refine Below.setCell ?_ (by simp <;> omega) _
    exact F6.out.below
end Go.Proofs.Ytapoahoknlaeaab
