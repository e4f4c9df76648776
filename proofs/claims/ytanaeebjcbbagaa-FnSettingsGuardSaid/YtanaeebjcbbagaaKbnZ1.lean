/-
  Chapter 8: new guards, valid settings: what the program's functions and the model's return. Conditions: at most 4000000000 weights.
  Conditions: each lemma says them.
-/
import Derived.Test.YtanaeebjcbbagaaKb5Z1
import Derived.Test.YtanaeebjcbbagaaKbtZ1
import Derived.Test.YtanaeebjcbbagaaKb4Z1
import Derived.Test.YtanaeebjcbbagaaK2Z1
import Derived.Test.YtanaeebjcbbagaaKhcZ1
import Derived.Test.YtanaeebjcbbagaaKqZ1
import Derived.Test.YtanaeebjcbbagaaKdZ1
import Derived.Deep.RegionHeld3
import Derived.Great.BuildSlice
namespace Go.Proofs.Ytanaeebjcbbagaa
open Go.RowKit
def GPost (w : World) (g : Gd) (ok : Bool) (e : Ending) (w' : World) : Prop := ∃ h i, e = .returned (.tuple #[.agg (gcs g h), .bool ok]) ∧ GO w.heap.size w'.heap.size h g i w' ∧ Below w.heap.size w w'
noncomputable def ngB (s : St) (t : Int) : Bool := svB s && inB t 0 1000000
noncomputable def ngR (s : St) (t : Int) : Gd := if ngB s t = true then newG s t else gd0
theorem ng_split {s : St} {t : Int} : ngB s t = true ↔ bvB s.r s.b s.b t = true ∧ bvB s.pr s.pb s.pb t = true ∧ acB s.me s.ea (List.replicate 8 0) = true ∧ NwOk s.q s.ws := by
  rw [ngB, Bool.and_eq_true, sv_iff, bv_new, bv_new, Bool.and_eq_true, Bool.and_eq_true]
  exact ⟨fun ⟨h, k⟩ => ⟨⟨h.a, k⟩, ⟨h.p, k⟩, h.m, h.l⟩, fun ⟨⟨a, k⟩, ⟨b, _⟩, c, d⟩ => ⟨⟨a, b, c, d⟩, k⟩⟩
theorem ng_no {s : St} {t : Int} {G : Gd} {b : Bool} (K : ngR s t = G ∧ ngB s t = b) (h : ¬ (bvB s.r s.b s.b t = true ∧ bvB s.pr s.pb s.pb t = true ∧ acB s.me s.ea (List.replicate 8 0) = true ∧ NwOk s.q s.ws)) : G = gd0 ∧ b = false := by
  have h1 : ¬ ngB s t = true := fun k => h (ng_split.1 k)
  obtain ⟨rfl, rfl⟩ := K
  exact ⟨if_neg h1, by simpa using h1⟩
theorem ng_yes {s : St} {t : Int} {G : Gd} {b : Bool} (K : ngR s t = G ∧ ngB s t = b) (h : bvB s.r s.b s.b t = true ∧ bvB s.pr s.pb s.pb t = true ∧ acB s.me s.ea (List.replicate 8 0) = true ∧ NwOk s.q s.ws) : G = newG s t ∧ b = true := by
  have h1 : ngB s t = true := ng_split.2 h
  obtain ⟨rfl, rfl⟩ := K
  exact ⟨if_pos h1, h1⟩
theorem al_mono {w : World} {lo lo2 : Nat} {L : List Iv} (h : Al lo L w) (hl : lo2 ≤ lo) : Al lo2 L w := by
  cases L with
  | nil => exact Nat.le_trans hl h
  | cons x r => exact ⟨Nat.le_trans hl h.1, h.2⟩
theorem al_drop1 {w : World} {lo : Nat} {x y : Iv} {L : List Iv} (h : Al lo (x :: y :: L) w) : Al lo (x :: L) w :=
  ⟨h.1, h.2.1, h.2.2.1, al_mono h.2.2.2.2.2.2 (Nat.le_trans h.2.2.2.1 h.2.2.2.2.1)⟩
theorem al_gap {w w' : World} {g : Nat} (hc : Chg g (g + 1) w w') : ∀ {L : List Iv} {lo : Nat}, (∀ x ∈ L, x.hi ≤ g ∨ g + 1 ≤ x.lo) → Al lo L w → Al lo L w'
  | [], _, _, h => Nat.le_trans h hc.size
  | x :: _, _, hx, ⟨h1, h3, h4, h5⟩ => ⟨h1, h3, at_chg h4 hc (hx x List.mem_cons_self), al_gap hc (fun y hy => hx y (List.mem_cons_of_mem _ hy)) h5⟩
theorem fm_gap {w w1 : World} {L : List Iv} {g : Nat} (h : Fm w L w1) (hx : ∀ x ∈ L, x.hi ≤ g ∨ g + 1 ≤ x.lo) (hg : w.heap.size ≤ g) (k : Nat) (v : Value) : Fm w L (w1.setCell ⟨g, k, none⟩ v) :=
  ⟨h.below.setCell hg v, al_gap (chg_cell w1 ⟨g, k, none⟩ v) hx h.al⟩
theorem step_quad (w : World) {ops : Array Oper} {o : Oper} {a : Act} {K : Act → World → Prop} {Q : Exit → Act → World → Prop} {E : Prop} (hgd : o.guard = none) (t e : TypeId) (x : Operand) (ho : o.op = .buildSlice t 1 #[(0, x)])
    (p : Pkt) (hx : a.eval x = .agg #[.int .i64 p.peer, .int .i64 p.lane, .int .i64 p.size, .int .i64 p.id]) (hu : Try.prog.underlying t = some (.slice e))
    (hi : (Try.prog.info? e).map (fun i => (i.zero, i.size, i.bytes)) = some (some (.agg #[.int .i64 0, .int .i64 0, .int .i64 0, .int .i64 0]), 4, 32))
    (h : K (a.put o.dst (.slice (some ⟨w.heap.size, 0, none⟩) 1 1)) (w.alloc (.cells #[.int .i64 p.peer, .int .i64 p.lane, .int .i64 p.size, .int .i64 p.id] e))) :
    if Region.wanted o (yielded ops a.tmps) = true then Oper.wp Try.prog o a w K Q else E := by
  have hw : Region.wanted o (yielded ops a.tmps) = true := by simp [Region.wanted, hgd]
  rw [if_pos hw]
  obtain ⟨i0, h0, h1, h2, h3⟩ := info_parts hi
  refine wp_buildSlice t e 1 #[(0, x)] ho #[.int .i64 p.peer, .int .i64 p.lane, .int .i64 p.size, .int .i64 p.id] i0 _ hu h0 h1 (by rw [h2]; omega) (by rw [h2]; omega) ?_ h
  rw [h2]
  simp only [List.map_toArray, List.map_cons, List.map_nil, hx]
  first | kernel_rfl | decide | simp [Instr.fill, Value.cells, Array.range]
def nbk (r s n : Int) : Pkt := if bvB r s s n = true then ⟨r, s, s, n⟩ else ⟨0, 0, 0, 0⟩
theorem nbk_yes {r s n : Int} (h : bvB r s s n = true) : nbk r s n = ⟨r, s, s, n⟩ := if_pos h
theorem bnI_any (r s n : Int) (w : World) :
    Calls Try.prog 27 #[.int .i64 r, .int .i64 s, .int .i64 n] w fun e w' => e = .returned (.tuple #[.agg #[.int .i64 (nbk r s n).peer, .int .i64 (nbk r s n).lane, .int .i64 (nbk r s n).size, .int .i64 (nbk r s n).id], .bool (bvB r s s n)]) ∧ Below w.heap.size w w' := by
  rcases h : bvB r s s n with _ | _
  · have e : nbk r s n = ⟨0, 0, 0, 0⟩ := if_neg (by rw [h]; exact Bool.false_ne_true)
    rw [e]
    exact bnI_no r s n w h
  · rw [nbk_yes h]
    exact bnI_yes r s n w h
theorem naI_ex (lim each : Int) : ∃ (L E : Int) (R : List Int), R.length ≤ 8 ∧ (acB lim each (List.replicate 8 0) = true → L = lim ∧ E = each ∧ R = List.replicate 8 0) ∧ ∀ w : World, Calls Try.prog 28 #[.int .i64 lim, .int .i64 each] w (APost1 w L E R (acB lim each (List.replicate 8 0))) := by
  rcases hk : acB lim each (List.replicate 8 0) with _ | _
  · exact ⟨0, 0, [], by simp, fun h => (by cases h), fun w => newI_no lim each w hk⟩
  · exact ⟨lim, each, List.replicate 8 0, by simp, fun _ => ⟨rfl, rfl, rfl⟩, fun w => newI_yes lim each w hk⟩
def JlP (w : World) (l : Ln) (ok : Bool) (e : Ending) (w' : World) : Prop :=
  ∃ A n c B m d C o f hs iv, e = .returned (.tuple #[.agg #[.slice A n c, .slice B m d, .slice C o f], .bool ok]) ∧ LO w' w.heap.size (.slice A n c) n (.slice B m d) m (.slice C o f) o hs iv l ∧ (∀ k, (iv k).1 < (iv k).2 → w.heap.size ≤ (iv k).1) ∧ Below w.heap.size w w'
theorem jlp_yes {w : World} {l : Ln} {e : Ending} {w' : World} (h : JlYes w l e w') : JlP w l true e w' := by
  obtain ⟨A, n, c, B, m, d, C, o, f, hs, iv, h1, -, -, -, h2, h3, h4⟩ := h
  exact ⟨A, n, c, B, m, d, C, o, f, hs, iv, h1, h2, h3, h4⟩
theorem jlp_no {w : World} {e : Ending} {w' : World} (h : JlNo w e w') : JlP w ⟨[], [], []⟩ false e w' :=
  ⟨none, 0, 0, none, 0, 0, none, 0, 0, [], fun _ => (0, 0), h.1, ⟨dr_nil _ _, World.ownsRow_nil _ _ _ _, World.ownsRow_nil _ _ _ _, fun b e => (by cases e), fun b e => (by cases e), fun b e => (by cases e)⟩, fun k hk => absurd hk (by simp), h.2⟩
theorem newN_len {q : Int} {us : List Int} (h : NwOk q us) : (newN q us).rs.length ≤ 4 ∧ (newN q us).ws.length ≤ 4 ∧ (newN q us).cs.length ≤ 4 := by
  have := h.2.2.1
  simp only [newN, List.length_replicate]
  omega
theorem nlI_ex (q : Int) (us : List Int) : ∃ (l2 : Ln) (ok : Bool), (l2.rs.length ≤ 4 ∧ l2.ws.length ≤ 4 ∧ l2.cs.length ≤ 4) ∧ (ok = true ↔ NwOk q us) ∧ (ok = true → l2 = newN q us) ∧ ∀ (B : Option Addr) (m d : Nat) (w : World), NR w B m us → m ≤ 4000000000 → Calls Try.prog 29 #[.int .i64 q, .slice B m d] w (JlP w l2 ok) := by
  by_cases hk : NwOk q us
  · exact ⟨newN q us, true, newN_len hk, ⟨fun _ => hk, fun _ => rfl⟩, fun _ => rfl, fun B m d w h hm => (nwI_both q B m d us w h hm).mono fun _ _ h => jlp_yes (h.1 hk)⟩
  · exact ⟨⟨[], [], []⟩, false, by simp, ⟨fun h => (by cases h), fun h => absurd h hk⟩, fun h => (by cases h), fun B m d w h hm => (nwI_both q B m d us w h hm).mono fun _ _ h => jlp_no (h.2 hk)⟩
set_option maxRecDepth 100000 in
set_option maxHeartbeats 8000000 in
theorem ngI_any (s : St) (t : Int) (A : Option Addr) (n c : Nat) (w : World) (h : NR w A n s.ws) (hn : n ≤ 4000000000) :
    Calls Try.prog 10 #[.agg (stc s A n c), .int .i64 t] w (GPost w (ngR s t) (ngB s t)) := by
  obtain ⟨L, E2, R, hR8, hacc, hNA⟩ := naI_ex s.me s.ea
  obtain ⟨l2, okl, hl3, hl1, hl2, hNL⟩ := nlI_ex s.q s.ws
  have H := Lib.hid h
  obtain ⟨oa, hoa⟩ : ∃ o, bvB s.r s.b s.b t = o := ⟨_, rfl⟩
  obtain ⟨oe, hoe⟩ : ∃ o, bvB s.pr s.pb s.pb t = o := ⟨_, rfl⟩
  obtain ⟨om, hom⟩ : ∃ o, acB s.me s.ea (List.replicate 8 0) = o := ⟨_, rfl⟩
  rw [hom] at hNA
  obtain ⟨p1, hp1⟩ : ∃ p, nbk s.r s.b t = p := ⟨_, rfl⟩
  obtain ⟨p2, hp2⟩ : ∃ p, nbk s.pr s.pb t = p := ⟨_, rfl⟩
  obtain ⟨G0, hG0⟩ : ∃ G, ngR s t = G := ⟨_, rfl⟩
  obtain ⟨b0, hb0⟩ : ∃ b, ngB s t = b := ⟨_, rfl⟩
  rw [hG0, hb0]
  have KA := Lib.hid (show bvB s.r s.b s.b t = oa ∧ bvB s.pr s.pb s.pb t = oe ∧ acB s.me s.ea (List.replicate 8 0) = om from ⟨hoa, hoe, hom⟩)
  have KP := Lib.hid (show nbk s.r s.b t = p1 ∧ nbk s.pr s.pb t = p2 from ⟨hp1, hp2⟩)
  have KG := Lib.hid (show ngR s t = G0 ∧ ngB s t = b0 from ⟨hG0, hb0⟩)
  have KL := Lib.hid (And.intro hl1 hl2)
  have KM := Lib.hid hacc
  have HNA := Lib.hid hNA
  have HNL := Lib.hid hNL
  have F0 : Hid (Fm w [⟨w.heap.size, w.heap.size + 1, BoxP w.heap.size 25 (stc s A n c)⟩, ⟨w.heap.size + 1, w.heap.size + 2, BoxP (w.heap.size + 1) 38 (gcs gd0 gh0)⟩] ((w.alloc (.cells (stc s A n c) 25)).alloc (.cells (gcs gd0 gh0) 38))) := Lib.hid (fm_two w _ _ _ _)
  clear h hoa hoe hom hp1 hp2 hG0 hb0 hl1 hl2 hacc hNA hNL
  unfold stc
  go_enter Try.func10, Try.ntmps10
  go_wp2_with fail
  refine (bnI_any s.r s.b t _).mono ?_
  rintro e w1 ⟨rfl, hb⟩
  rw [KA.out.1, KP.out.1]
  have F1 : Hid (Fm w [⟨w.heap.size, w.heap.size + 1, BoxP w.heap.size 25 (stc s A n c)⟩, ⟨w.heap.size + 1, w.heap.size + 2, BoxP (w.heap.size + 1) 38 (gcs gd0 gh0)⟩] w1) := Lib.hid (fm_below F0.out hb)
  have F1b : Hid (Fm w [⟨w.heap.size, w.heap.size + 1, BoxP w.heap.size 25 (stc s A n c)⟩, ⟨w.heap.size + 1, w.heap.size + 2, BoxP (w.heap.size + 1) 38 (gcs gd0 gh0)⟩, ⟨w1.heap.size, w1.heap.size + 1, BoxP w1.heap.size 29 #[.int .i64 p1.peer, .int .i64 p1.lane, .int .i64 p1.size, .int .i64 p1.id]⟩] (w1.alloc (.cells #[.int .i64 p1.peer, .int .i64 p1.lane, .int .i64 p1.size, .int .i64 p1.id] 29))) := Lib.hid (fm_push F1.out rfl _ _)
  clear hb F0 F1
  obtain ⟨q0, q1, q2, q3, q4, q5, q6, q7⟩ := sc_blk (fm_blk F1b.out 0 rfl)
  go_wp2_with fail
  refine (bnI_any s.pr s.pb t _).mono ?_
  rintro e w2 ⟨rfl, hb⟩
  rw [KA.out.2.1, KP.out.2]
  have F2 : Hid (Fm w [⟨w.heap.size, w.heap.size + 1, BoxP w.heap.size 25 (stc s A n c)⟩, ⟨w.heap.size + 1, w.heap.size + 2, BoxP (w.heap.size + 1) 38 (gcs gd0 gh0)⟩, ⟨w1.heap.size, w1.heap.size + 1, BoxP w1.heap.size 29 #[.int .i64 p1.peer, .int .i64 p1.lane, .int .i64 p1.size, .int .i64 p1.id]⟩] w2) := Lib.hid (fm_below F1b.out hb)
  have F2b : Hid (Fm w [⟨w.heap.size, w.heap.size + 1, BoxP w.heap.size 25 (stc s A n c)⟩, ⟨w.heap.size + 1, w.heap.size + 2, BoxP (w.heap.size + 1) 38 (gcs gd0 gh0)⟩, ⟨w1.heap.size, w1.heap.size + 1, BoxP w1.heap.size 29 #[.int .i64 p1.peer, .int .i64 p1.lane, .int .i64 p1.size, .int .i64 p1.id]⟩, ⟨w2.heap.size, w2.heap.size + 1, BoxP w2.heap.size 29 #[.int .i64 p2.peer, .int .i64 p2.lane, .int .i64 p2.size, .int .i64 p2.id]⟩] (w2.alloc (.cells #[.int .i64 p2.peer, .int .i64 p2.lane, .int .i64 p2.size, .int .i64 p2.id] 29))) := Lib.hid (fm_push F2.out rfl _ _)
  clear hb F1b F2
  clear q0 q1 q2 q3 q4 q5 q6 q7
  obtain ⟨q0, q1, q2, q3, q4, q5, q6, q7⟩ := sc_blk (fm_blk F2b.out 0 rfl)
  go_wp2_with fail
  refine (HNA.out _).mono ?_
  rintro e w3 ⟨Am, nm, cm, rfl, hnm, ho, hb⟩
  have lnm := Lib.hid (show nm ≤ 4000000000 by omega)
  have F3 : Hid (Fm w [⟨w.heap.size, w.heap.size + 1, BoxP w.heap.size 25 (stc s A n c)⟩, ⟨w.heap.size + 1, w.heap.size + 2, BoxP (w.heap.size + 1) 38 (gcs gd0 gh0)⟩, ⟨w1.heap.size, w1.heap.size + 1, BoxP w1.heap.size 29 #[.int .i64 p1.peer, .int .i64 p1.lane, .int .i64 p1.size, .int .i64 p1.id]⟩, ⟨w2.heap.size, w2.heap.size + 1, BoxP w2.heap.size 29 #[.int .i64 p2.peer, .int .i64 p2.lane, .int .i64 p2.size, .int .i64 p2.id]⟩, ⟨w2.heap.size + 1, w3.heap.size, OwnP (w2.heap.size + 1) w3.heap.size 3 1 (.slice Am nm cm) nm (icells R)⟩] w3) := Lib.hid (fm_own F2b.out hb ho (by simp))
  have F3b : Hid (Fm w [⟨w.heap.size, w.heap.size + 1, BoxP w.heap.size 25 (stc s A n c)⟩, ⟨w.heap.size + 1, w.heap.size + 2, BoxP (w.heap.size + 1) 38 (gcs gd0 gh0)⟩, ⟨w1.heap.size, w1.heap.size + 1, BoxP w1.heap.size 29 #[.int .i64 p1.peer, .int .i64 p1.lane, .int .i64 p1.size, .int .i64 p1.id]⟩, ⟨w2.heap.size, w2.heap.size + 1, BoxP w2.heap.size 29 #[.int .i64 p2.peer, .int .i64 p2.lane, .int .i64 p2.size, .int .i64 p2.id]⟩, ⟨w2.heap.size + 1, w3.heap.size, OwnP (w2.heap.size + 1) w3.heap.size 3 1 (.slice Am nm cm) nm (icells R)⟩, ⟨w3.heap.size, w3.heap.size + 1, BoxP w3.heap.size 32 #[.int .i64 L, .int .i64 E2, (.slice Am nm cm)]⟩] (w3.alloc (.cells #[.int .i64 L, .int .i64 E2, (.slice Am nm cm)] 32))) := Lib.hid (fm_push F3.out rfl _ _)
  clear hb ho hnm F2b F3
  clear q0 q1 q2 q3 q4 q5 q6 q7
  obtain ⟨q0, q1, q2, q3, q4, q5, q6, q7⟩ := sc_blk (fm_blk F3b.out 0 rfl)
  go_wp2_with fail
  refine (HNL.out A n c _ (nr_below H.out F3b.out.below) hn).mono ?_
  rintro e w4 ⟨Al, nl, cl, Bl, ml, dl, Cl, ol, fl, hsl, ivl, rfl, hL, -, hb⟩
  have LNL := Lib.hid (show nl ≤ 4000000000 ∧ ml ≤ 4000000000 ∧ ol ≤ 4000000000 from by
    have h1 := (dr_len hL.r).2
    have h2 : l2.ws.length = ml := (nr_own hL.b).1
    have h3 : l2.cs.length = ol := (nr_own hL.c).1
    omega)
  have F4 : Hid (Fm w [⟨w.heap.size, w.heap.size + 1, BoxP w.heap.size 25 (stc s A n c)⟩, ⟨w.heap.size + 1, w.heap.size + 2, BoxP (w.heap.size + 1) 38 (gcs gd0 gh0)⟩, ⟨w1.heap.size, w1.heap.size + 1, BoxP w1.heap.size 29 #[.int .i64 p1.peer, .int .i64 p1.lane, .int .i64 p1.size, .int .i64 p1.id]⟩, ⟨w2.heap.size, w2.heap.size + 1, BoxP w2.heap.size 29 #[.int .i64 p2.peer, .int .i64 p2.lane, .int .i64 p2.size, .int .i64 p2.id]⟩, ⟨w2.heap.size + 1, w3.heap.size, OwnP (w2.heap.size + 1) w3.heap.size 3 1 (.slice Am nm cm) nm (icells R)⟩, ⟨w3.heap.size, w3.heap.size + 1, BoxP w3.heap.size 32 #[.int .i64 L, .int .i64 E2, (.slice Am nm cm)]⟩, ⟨w3.heap.size + 1, w4.heap.size, LI (w3.heap.size + 1) w4.heap.size (.slice Al nl cl) nl (.slice Bl ml dl) ml (.slice Cl ol fl) ol hsl ivl l2⟩] w4) := Lib.hid (fm_li F3b.out hb hL (by simp))
  have F4b : Hid (Fm w [⟨w.heap.size, w.heap.size + 1, BoxP w.heap.size 25 (stc s A n c)⟩, ⟨w.heap.size + 1, w.heap.size + 2, BoxP (w.heap.size + 1) 38 (gcs gd0 gh0)⟩, ⟨w1.heap.size, w1.heap.size + 1, BoxP w1.heap.size 29 #[.int .i64 p1.peer, .int .i64 p1.lane, .int .i64 p1.size, .int .i64 p1.id]⟩, ⟨w2.heap.size, w2.heap.size + 1, BoxP w2.heap.size 29 #[.int .i64 p2.peer, .int .i64 p2.lane, .int .i64 p2.size, .int .i64 p2.id]⟩, ⟨w2.heap.size + 1, w3.heap.size, OwnP (w2.heap.size + 1) w3.heap.size 3 1 (.slice Am nm cm) nm (icells R)⟩, ⟨w3.heap.size, w3.heap.size + 1, BoxP w3.heap.size 32 #[.int .i64 L, .int .i64 E2, (.slice Am nm cm)]⟩, ⟨w3.heap.size + 1, w4.heap.size, LI (w3.heap.size + 1) w4.heap.size (.slice Al nl cl) nl (.slice Bl ml dl) ml (.slice Cl ol fl) ol hsl ivl l2⟩, ⟨w4.heap.size, w4.heap.size + 1, BoxP w4.heap.size 35 #[.slice Al nl cl, .slice Bl ml dl, .slice Cl ol fl]⟩] (w4.alloc (.cells #[.slice Al nl cl, .slice Bl ml dl, .slice Cl ol fl] 35))) := Lib.hid (fm_push F4.out rfl _ _)
  clear hb hL F3b F4
  clear q0 q1 q2 q3 q4 q5 q6 q7
  obtain ⟨r0, r1, r2, r3, r4, r5, r6, r7, r8, r9, r10, r11, r12⟩ := gc_blk (fm_blk F4b.out 1 rfl)
  have rf0 : World.frozen? ((w4.alloc (.cells #[.slice Al nl cl, .slice Bl ml dl, .slice Cl ol fl] 35))) ⟨w.heap.size + 1, 0, none⟩ = false := blk_free (fm_blk F4b.out 1 rfl) 0
  have rf1 : World.frozen? ((w4.alloc (.cells #[.slice Al nl cl, .slice Bl ml dl, .slice Cl ol fl] 35))) ⟨w.heap.size + 1, 1, none⟩ = false := blk_free (fm_blk F4b.out 1 rfl) 1
  have rf2 : World.frozen? ((w4.alloc (.cells #[.slice Al nl cl, .slice Bl ml dl, .slice Cl ol fl] 35))) ⟨w.heap.size + 1, 2, none⟩ = false := blk_free (fm_blk F4b.out 1 rfl) 2
  have rf3 : World.frozen? ((w4.alloc (.cells #[.slice Al nl cl, .slice Bl ml dl, .slice Cl ol fl] 35))) ⟨w.heap.size + 1, 3, none⟩ = false := blk_free (fm_blk F4b.out 1 rfl) 3
  have rf4 : World.frozen? ((w4.alloc (.cells #[.slice Al nl cl, .slice Bl ml dl, .slice Cl ol fl] 35))) ⟨w.heap.size + 1, 4, none⟩ = false := blk_free (fm_blk F4b.out 1 rfl) 4
  have rf5 : World.frozen? ((w4.alloc (.cells #[.slice Al nl cl, .slice Bl ml dl, .slice Cl ol fl] 35))) ⟨w.heap.size + 1, 5, none⟩ = false := blk_free (fm_blk F4b.out 1 rfl) 5
  have rf6 : World.frozen? ((w4.alloc (.cells #[.slice Al nl cl, .slice Bl ml dl, .slice Cl ol fl] 35))) ⟨w.heap.size + 1, 6, none⟩ = false := blk_free (fm_blk F4b.out 1 rfl) 6
  have rf7 : World.frozen? ((w4.alloc (.cells #[.slice Al nl cl, .slice Bl ml dl, .slice Cl ol fl] 35))) ⟨w.heap.size + 1, 7, none⟩ = false := blk_free (fm_blk F4b.out 1 rfl) 7
  have rf8 : World.frozen? ((w4.alloc (.cells #[.slice Al nl cl, .slice Bl ml dl, .slice Cl ol fl] 35))) ⟨w.heap.size + 1, 8, none⟩ = false := blk_free (fm_blk F4b.out 1 rfl) 8
  have rf9 : World.frozen? ((w4.alloc (.cells #[.slice Al nl cl, .slice Bl ml dl, .slice Cl ol fl] 35))) ⟨w.heap.size + 1, 9, none⟩ = false := blk_free (fm_blk F4b.out 1 rfl) 9
  have rf10 : World.frozen? ((w4.alloc (.cells #[.slice Al nl cl, .slice Bl ml dl, .slice Cl ol fl] 35))) ⟨w.heap.size + 1, 10, none⟩ = false := blk_free (fm_blk F4b.out 1 rfl) 10
  have rf11 : World.frozen? ((w4.alloc (.cells #[.slice Al nl cl, .slice Bl ml dl, .slice Cl ol fl] 35))) ⟨w.heap.size + 1, 11, none⟩ = false := blk_free (fm_blk F4b.out 1 rfl) 11
  have rf12 : World.frozen? ((w4.alloc (.cells #[.slice Al nl cl, .slice Bl ml dl, .slice Cl ol fl] 35))) ⟨w.heap.size + 1, 12, none⟩ = false := blk_free (fm_blk F4b.out 1 rfl) 12
  rcases oa with _ | _
  · have EB := Lib.hid (show G0 = gd0 ∧ b0 = false from ng_no KG.out (fun k => by have := k.1; rw [KA.out.1] at this; cases this))
    have zw := (fm_lt F4b.out 1 rfl).2.2
    simp at zw
    go_wp2
    refine bodyPost_ret (v := .tuple #[.agg (gcs gd0 gh0), .bool false]) (by simp [results, Try.results10, go_sem, gcs, gd0, gh0, r0, r1, r2, r3, r4, r5, r6, r7, r8, r9, r10, r11, r12]) rfl ⟨gh0, gi0 w.heap.size, by rw [EB.out.2, EB.out.1], ?_, ?_⟩
    · rw [EB.out.1]
      refine go_mono (go_zero _ ?_) (Nat.le_refl _) ?_ <;> (simp; omega)
    · repeat refine Below.setCell ?_ (by simp <;> omega) _
      exact F4b.out.below
  rcases oe with _ | _
  · have EB := Lib.hid (show G0 = gd0 ∧ b0 = false from ng_no KG.out (fun k => by have := k.2.1; rw [KA.out.2.1] at this; cases this))
    have zw := (fm_lt F4b.out 1 rfl).2.2
    simp at zw
    go_wp2
    refine bodyPost_ret (v := .tuple #[.agg (gcs gd0 gh0), .bool false]) (by simp [results, Try.results10, go_sem, gcs, gd0, gh0, r0, r1, r2, r3, r4, r5, r6, r7, r8, r9, r10, r11, r12]) rfl ⟨gh0, gi0 w.heap.size, by rw [EB.out.2, EB.out.1], ?_, ?_⟩
    · rw [EB.out.1]
      refine go_mono (go_zero _ ?_) (Nat.le_refl _) ?_ <;> (simp; omega)
    · repeat refine Below.setCell ?_ (by simp <;> omega) _
      exact F4b.out.below
  rcases om with _ | _
  · have EB := Lib.hid (show G0 = gd0 ∧ b0 = false from ng_no KG.out (fun k => by have := k.2.2.1; rw [KA.out.2.2] at this; cases this))
    have zw := (fm_lt F4b.out 1 rfl).2.2
    simp at zw
    go_wp2
    refine bodyPost_ret (v := .tuple #[.agg (gcs gd0 gh0), .bool false]) (by simp [results, Try.results10, go_sem, gcs, gd0, gh0, r0, r1, r2, r3, r4, r5, r6, r7, r8, r9, r10, r11, r12]) rfl ⟨gh0, gi0 w.heap.size, by rw [EB.out.2, EB.out.1], ?_, ?_⟩
    · rw [EB.out.1]
      refine go_mono (go_zero _ ?_) (Nat.le_refl _) ?_ <;> (simp; omega)
    · repeat refine Below.setCell ?_ (by simp <;> omega) _
      exact F4b.out.below
  rcases okl with _ | _
  · have EB := Lib.hid (show G0 = gd0 ∧ b0 = false from ng_no KG.out (fun k => by have := KL.out.1.2 k.2.2.2; cases this))
    have zw := (fm_lt F4b.out 1 rfl).2.2
    simp at zw
    go_wp2
    refine bodyPost_ret (v := .tuple #[.agg (gcs gd0 gh0), .bool false]) (by simp [results, Try.results10, go_sem, gcs, gd0, gh0, r0, r1, r2, r3, r4, r5, r6, r7, r8, r9, r10, r11, r12]) rfl ⟨gh0, gi0 w.heap.size, by rw [EB.out.2, EB.out.1], ?_, ?_⟩
    · rw [EB.out.1]
      refine go_mono (go_zero _ ?_) (Nat.le_refl _) ?_ <;> (simp; omega)
    · repeat refine Below.setCell ?_ (by simp <;> omega) _
      exact F4b.out.below
  have EB := Lib.hid (show G0 = newG s t ∧ b0 = true from ng_yes KG.out ⟨KA.out.1, KA.out.2.1, KA.out.2.2, KL.out.1.1 rfl⟩)
  have EP := Lib.hid (show p1 = ⟨s.r, s.b, s.b, t⟩ ∧ p2 = ⟨s.pr, s.pb, s.pb, t⟩ from ⟨KP.out.1.symm.trans (nbk_yes KA.out.1), KP.out.2.symm.trans (nbk_yes KA.out.2.1)⟩)
  obtain ⟨rfl, rfl, rfl⟩ := KM.out KA.out.2.2
  obtain rfl := KL.out.2 rfl
  have F4c : Hid (Fm w [⟨w.heap.size, w.heap.size + 1, BoxP w.heap.size 25 (stc s A n c)⟩, ⟨w1.heap.size, w1.heap.size + 1, BoxP w1.heap.size 29 #[.int .i64 p1.peer, .int .i64 p1.lane, .int .i64 p1.size, .int .i64 p1.id]⟩, ⟨w2.heap.size, w2.heap.size + 1, BoxP w2.heap.size 29 #[.int .i64 p2.peer, .int .i64 p2.lane, .int .i64 p2.size, .int .i64 p2.id]⟩, ⟨w2.heap.size + 1, w3.heap.size, OwnP (w2.heap.size + 1) w3.heap.size 3 1 (.slice Am nm cm) nm (icells (List.replicate 8 0))⟩, ⟨w3.heap.size, w3.heap.size + 1, BoxP w3.heap.size 32 #[.int .i64 s.me, .int .i64 s.ea, (.slice Am nm cm)]⟩, ⟨w3.heap.size + 1, w4.heap.size, LI (w3.heap.size + 1) w4.heap.size (.slice Al nl cl) nl (.slice Bl ml dl) ml (.slice Cl ol fl) ol hsl ivl (newN s.q s.ws)⟩, ⟨w4.heap.size, w4.heap.size + 1, BoxP w4.heap.size 35 #[.slice Al nl cl, .slice Bl ml dl, .slice Cl ol fl]⟩] (w4.alloc (.cells #[.slice Al nl cl, .slice Bl ml dl, .slice Cl ol fl] 35))) := Lib.hid ⟨F4b.out.below, al_drop1 F4b.out.al⟩
  have RB := Lib.hid (fm_blk F4b.out 1 rfl)
  have OS : Hid (∀ w' : World, Fm w [⟨w.heap.size, w.heap.size + 1, BoxP w.heap.size 25 (stc s A n c)⟩, ⟨w1.heap.size, w1.heap.size + 1, BoxP w1.heap.size 29 #[.int .i64 p1.peer, .int .i64 p1.lane, .int .i64 p1.size, .int .i64 p1.id]⟩, ⟨w2.heap.size, w2.heap.size + 1, BoxP w2.heap.size 29 #[.int .i64 p2.peer, .int .i64 p2.lane, .int .i64 p2.size, .int .i64 p2.id]⟩, ⟨w2.heap.size + 1, w3.heap.size, OwnP (w2.heap.size + 1) w3.heap.size 3 1 (.slice Am nm cm) nm (icells (List.replicate 8 0))⟩, ⟨w3.heap.size, w3.heap.size + 1, BoxP w3.heap.size 32 #[.int .i64 s.me, .int .i64 s.ea, (.slice Am nm cm)]⟩, ⟨w3.heap.size + 1, w4.heap.size, LI (w3.heap.size + 1) w4.heap.size (.slice Al nl cl) nl (.slice Bl ml dl) ml (.slice Cl ol fl) ol hsl ivl (newN s.q s.ws)⟩, ⟨w4.heap.size, w4.heap.size + 1, BoxP w4.heap.size 35 #[.slice Al nl cl, .slice Bl ml dl, .slice Cl ol fl]⟩] w' → (w'.cell? ⟨w1.heap.size, 0, none⟩ = some (.int .i64 p1.peer) ∧ w'.cell? ⟨w1.heap.size, 1, none⟩ = some (.int .i64 p1.lane) ∧ w'.cell? ⟨w1.heap.size, 2, none⟩ = some (.int .i64 p1.size) ∧ w'.cell? ⟨w1.heap.size, 3, none⟩ = some (.int .i64 p1.id) ∧ w'.cell? ⟨w2.heap.size, 0, none⟩ = some (.int .i64 p2.peer) ∧ w'.cell? ⟨w2.heap.size, 1, none⟩ = some (.int .i64 p2.lane) ∧ w'.cell? ⟨w2.heap.size, 2, none⟩ = some (.int .i64 p2.size) ∧ w'.cell? ⟨w2.heap.size, 3, none⟩ = some (.int .i64 p2.id) ∧ w'.cell? ⟨w3.heap.size, 0, none⟩ = some (.int .i64 s.me) ∧ w'.cell? ⟨w3.heap.size, 1, none⟩ = some (.int .i64 s.ea) ∧ w'.cell? ⟨w3.heap.size, 2, none⟩ = some (.slice Am nm cm) ∧ w'.cell? ⟨w4.heap.size, 0, none⟩ = some (.slice Al nl cl) ∧ w'.cell? ⟨w4.heap.size, 1, none⟩ = some (.slice Bl ml dl) ∧ w'.cell? ⟨w4.heap.size, 2, none⟩ = some (.slice Cl ol fl))) := Lib.hid (fun w' F => by
    have b1 := blk_fourR (fm_blk F 1 rfl)
    have b2 := blk_fourR (fm_blk F 2 rfl)
    have b3 := blk_three (fm_blk F 4 rfl)
    have b4 := blk_three (fm_blk F 6 rfl)
    exact ⟨b1.1.1, b1.1.2.1, b1.1.2.2.1, b1.1.2.2.2, b2.1.1, b2.1.2.1, b2.1.2.2.1, b2.1.2.2.2, b3.1.1, b3.1.2.1, b3.1.2.2, b4.1.1, b4.1.2.1, b4.1.2.2⟩)
  have ZZ := Lib.hid (show w.heap.size + 2 ≤ w1.heap.size ∧ w1.heap.size + 1 ≤ w2.heap.size ∧ w2.heap.size + 1 ≤ w3.heap.size ∧ w3.heap.size + 1 ≤ w4.heap.size from ⟨F4b.out.al.2.2.2.2.2.2.1, F4b.out.al.2.2.2.2.2.2.2.2.2.1, (fm_lt F4b.out 4 rfl).2.1, (fm_lt F4b.out 6 rfl).2.1⟩)
  have RES : Hid (∀ (wx : World) (k : Nat) (v : Value), Fm w [⟨w.heap.size, w.heap.size + 1, BoxP w.heap.size 25 (stc s A n c)⟩, ⟨w1.heap.size, w1.heap.size + 1, BoxP w1.heap.size 29 #[.int .i64 p1.peer, .int .i64 p1.lane, .int .i64 p1.size, .int .i64 p1.id]⟩, ⟨w2.heap.size, w2.heap.size + 1, BoxP w2.heap.size 29 #[.int .i64 p2.peer, .int .i64 p2.lane, .int .i64 p2.size, .int .i64 p2.id]⟩, ⟨w2.heap.size + 1, w3.heap.size, OwnP (w2.heap.size + 1) w3.heap.size 3 1 (.slice Am nm cm) nm (icells (List.replicate 8 0))⟩, ⟨w3.heap.size, w3.heap.size + 1, BoxP w3.heap.size 32 #[.int .i64 s.me, .int .i64 s.ea, (.slice Am nm cm)]⟩, ⟨w3.heap.size + 1, w4.heap.size, LI (w3.heap.size + 1) w4.heap.size (.slice Al nl cl) nl (.slice Bl ml dl) ml (.slice Cl ol fl) ol hsl ivl (newN s.q s.ws)⟩, ⟨w4.heap.size, w4.heap.size + 1, BoxP w4.heap.size 35 #[.slice Al nl cl, .slice Bl ml dl, .slice Cl ol fl]⟩] wx → Fm w [⟨w.heap.size, w.heap.size + 1, BoxP w.heap.size 25 (stc s A n c)⟩, ⟨w1.heap.size, w1.heap.size + 1, BoxP w1.heap.size 29 #[.int .i64 p1.peer, .int .i64 p1.lane, .int .i64 p1.size, .int .i64 p1.id]⟩, ⟨w2.heap.size, w2.heap.size + 1, BoxP w2.heap.size 29 #[.int .i64 p2.peer, .int .i64 p2.lane, .int .i64 p2.size, .int .i64 p2.id]⟩, ⟨w2.heap.size + 1, w3.heap.size, OwnP (w2.heap.size + 1) w3.heap.size 3 1 (.slice Am nm cm) nm (icells (List.replicate 8 0))⟩, ⟨w3.heap.size, w3.heap.size + 1, BoxP w3.heap.size 32 #[.int .i64 s.me, .int .i64 s.ea, (.slice Am nm cm)]⟩, ⟨w3.heap.size + 1, w4.heap.size, LI (w3.heap.size + 1) w4.heap.size (.slice Al nl cl) nl (.slice Bl ml dl) ml (.slice Cl ol fl) ol hsl ivl (newN s.q s.ws)⟩, ⟨w4.heap.size, w4.heap.size + 1, BoxP w4.heap.size 35 #[.slice Al nl cl, .slice Bl ml dl, .slice Cl ol fl]⟩] (wx.setCell ⟨w.heap.size + 1, k, none⟩ v)) := Lib.hid (fun wx k v F => fm_gap F (fun y hy => by
    have z := ZZ.out
    simp only [List.mem_cons, List.not_mem_nil, or_false] at hy
    rcases hy with rfl | rfl | rfl | rfl | rfl | rfl | rfl <;> (simp only; omega)) (by omega) k v)
  have F5 := Lib.hid (fm_drew F4c.out)
  have RB5 := Lib.hid (blk_below RB.out (Below.refl _ _).drew (blk_lt RB.out))
  have hS0 := OS.out _ F5.out
  have z0 := Lib.hid (show w4.heap.size + 1 ≤ (w4.alloc (.cells #[.slice Al nl cl, .slice Bl ml dl, .slice Cl ol fl] 35)).drew.heap.size by simp)
  clear F4b F4c RB KM KL KA KP HNA HNL hR8 hl3 H hn
  clear r0 r1 r2 r3 r4 r5 r6 r7 r8 r9 r10 r11 r12 rf0 rf1 rf2 rf3 rf4 rf5 rf6 rf7 rf8 rf9 rf10 rf11 rf12
  go_wp2_with fail
  refine held_start (S := (fun w' : World => (w'.cell? ⟨w1.heap.size, 0, none⟩ = some (.int .i64 p1.peer) ∧ w'.cell? ⟨w1.heap.size, 1, none⟩ = some (.int .i64 p1.lane) ∧ w'.cell? ⟨w1.heap.size, 2, none⟩ = some (.int .i64 p1.size) ∧ w'.cell? ⟨w1.heap.size, 3, none⟩ = some (.int .i64 p1.id) ∧ w'.cell? ⟨w2.heap.size, 0, none⟩ = some (.int .i64 p2.peer) ∧ w'.cell? ⟨w2.heap.size, 1, none⟩ = some (.int .i64 p2.lane) ∧ w'.cell? ⟨w2.heap.size, 2, none⟩ = some (.int .i64 p2.size) ∧ w'.cell? ⟨w2.heap.size, 3, none⟩ = some (.int .i64 p2.id) ∧ w'.cell? ⟨w3.heap.size, 0, none⟩ = some (.int .i64 s.me) ∧ w'.cell? ⟨w3.heap.size, 1, none⟩ = some (.int .i64 s.ea) ∧ w'.cell? ⟨w3.heap.size, 2, none⟩ = some (.slice Am nm cm) ∧ w'.cell? ⟨w4.heap.size, 0, none⟩ = some (.slice Al nl cl) ∧ w'.cell? ⟨w4.heap.size, 1, none⟩ = some (.slice Bl ml dl) ∧ w'.cell? ⟨w4.heap.size, 2, none⟩ = some (.slice Cl ol fl)))) 13 (by kernel_rfl) ?_
  generalize (w4.alloc (.cells #[.slice Al nl cl, .slice Bl ml dl, .slice Cl ol fl] 35)).drew = w0 at F5 RB5 z0 hS0 ⊢
  refine held_take (i := 0) (oi := { dst := some 63, op := Op.move (Operand.tmp 1), type := 3, pos := "l8_guards.go:52", after := #[], guard := none }) (v := ?_) rfl (by kernel_rfl) (by kernel_rfl) (by kernel_rfl) (by kernel_rfl) (fun _ _ _ h => h) (Or.inl ⟨by rfl, ?_⟩) hS0 ?_
  rotate_left
  · (intro w9 hSw; (try dsimp only at hSw); go_simp; try with_reducible rfl)
  try simp only [Act.put, List.setIfInBounds_toArray, List.set_cons_zero, List.set_cons_succ]
  refine held_take (i := 1) (oi := { dst := some 64, op := Op.load 29 (Operand.tmp 6), type := 29, pos := "l8_guards.go:52", after := #[], guard := none }) (v := ?_) rfl (by kernel_rfl) (by kernel_rfl) (by kernel_rfl) (by kernel_rfl) (fun _ _ _ h => h) (Or.inl ⟨by rfl, ?_⟩) hS0 ?_
  rotate_left
  · (intro w9 hSw; (try dsimp only at hSw); go_simp; try with_reducible rfl)
  try simp only [Act.put, List.setIfInBounds_toArray, List.set_cons_zero, List.set_cons_succ]
  refine held_take (i := 2) (oi := { dst := some 65, op := Op.load 29 (Operand.tmp 8), type := 29, pos := "l8_guards.go:52", after := #[], guard := none }) (v := ?_) rfl (by kernel_rfl) (by kernel_rfl) (by kernel_rfl) (by kernel_rfl) (fun _ _ _ h => h) (Or.inl ⟨by rfl, ?_⟩) hS0 ?_
  rotate_left
  · (intro w9 hSw; (try dsimp only at hSw); go_simp; try with_reducible rfl)
  try simp only [Act.put, List.setIfInBounds_toArray, List.set_cons_zero, List.set_cons_succ]
  refine held_take (i := 5) (oi := { dst := some 68, op := Op.load 32 (Operand.tmp 10), type := 32, pos := "l8_guards.go:52", after := #[], guard := none }) (v := ?_) rfl (by kernel_rfl) (by kernel_rfl) (by kernel_rfl) (by kernel_rfl) (fun _ _ _ h => h) (Or.inl ⟨by rfl, ?_⟩) hS0 ?_
  rotate_left
  · (intro w9 hSw; (try dsimp only at hSw); go_simp; try with_reducible rfl)
  try simp only [Act.put, List.setIfInBounds_toArray, List.set_cons_zero, List.set_cons_succ]
  refine held_take (i := 6) (oi := { dst := some 69, op := Op.load 35 (Operand.tmp 12), type := 35, pos := "l8_guards.go:52", after := #[], guard := none }) (v := ?_) rfl (by kernel_rfl) (by kernel_rfl) (by kernel_rfl) (by kernel_rfl) (fun _ _ _ h => h) (Or.inl ⟨by rfl, ?_⟩) hS0 ?_
  rotate_left
  · (intro w9 hSw; (try dsimp only at hSw); go_simp; try with_reducible rfl)
  try simp only [Act.put, List.setIfInBounds_toArray, List.set_cons_zero, List.set_cons_succ]
  refine held_take (i := 7) (oi := { dst := some 70, op := Op.move (Operand.tmp 1), type := 3, pos := "l8_guards.go:52", after := #[], guard := none }) (v := ?_) rfl (by kernel_rfl) (by kernel_rfl) (by kernel_rfl) (by kernel_rfl) (fun _ _ _ h => h) (Or.inl ⟨by rfl, ?_⟩) hS0 ?_
  rotate_left
  · (intro w9 hSw; (try dsimp only at hSw); go_simp; try with_reducible rfl)
  try simp only [Act.put, List.setIfInBounds_toArray, List.set_cons_zero, List.set_cons_succ]
  refine held_take (i := 8) (oi := { dst := some 71, op := Op.build 70 #[(1, Operand.tmp 70)], type := 70, pos := "l8_guards.go:52", after := #[{ on := 7, ground := Ground.data }], guard := none }) (v := ?_) rfl (by kernel_rfl) (by kernel_rfl) (by kernel_rfl) (by kernel_rfl) (fun _ _ _ h => h) (Or.inl ⟨by rfl, ?_⟩) hS0 ?_
  rotate_left
  · (intro w9 hSw; (try dsimp only at hSw); go_simp; try with_reducible rfl)
  try simp only [Act.put, List.setIfInBounds_toArray, List.set_cons_zero, List.set_cons_succ]
  refine held_two (i := 3) (j := 9) (oi := { dst := some 66, op := Op.buildSlice 30 1 #[(0, Operand.tmp 65)], type := 30, pos := "l8_guards.go:52", after := #[{ on := 2, ground := Ground.data }], guard := none }) (oj := { dst := some 72, op := Op.buildSlice 36 1 #[(0, Operand.tmp 71)], type := 36, pos := "l8_guards.go:52", after := #[{ on := 8, ground := Ground.data }], guard := none }) (by kernel_rfl) rfl rfl (fun K hK => ?_) (fun K hK => ?_)
  · refine step_quad _ rfl 30 29 (.tmp 65) rfl p2 rfl Try.underlying30 infoPktB ?_
    have Fb0 := Lib.hid (fm_alloc F5.out (.cells #[.int .i64 p2.peer, .int .i64 p2.lane, .int .i64 p2.size, .int .i64 p2.id] 29))
    have RFb0 := Lib.hid (blk_alloc RB5.out (.cells #[.int .i64 p2.peer, .int .i64 p2.lane, .int .i64 p2.size, .int .i64 p2.id] 29))
    have hSFb0 := OS.out _ Fb0.out
    refine hK.out _ _ (.inr hSFb0) ?_
    clear hK K
    try simp only [Act.put, List.setIfInBounds_toArray, List.set_cons_zero, List.set_cons_succ]
    refine held_two (i := 4) (j := 9) (oi := { dst := some 67, op := Op.call { callee := Callee.value (Operand.func 30), args := #[Operand.tmp 66, Operand.const (Value.int IntKind.i64 8)], argTypes := #[30, 3] }, type := 30, pos := "l8_guards.go:55", after := #[{ on := 3, ground := Ground.data }], guard := none }) (oj := { dst := some 72, op := Op.buildSlice 36 1 #[(0, Operand.tmp 71)], type := 36, pos := "l8_guards.go:52", after := #[{ on := 8, ground := Ground.data }], guard := none }) (by kernel_rfl) rfl rfl (fun K hK => ?_) (fun K hK => ?_)
    · go_simp
      go_at_call 30
      refine (rep_anyB p2 w0.heap.size _ (blk_new w0 _ _)).mono ?_
      rintro e w5 ⟨E5, rfl, hE, hb5⟩
      have F7 := Lib.hid (fm_below Fb0.out hb5)
      have R7 := Lib.hid (blk_below RFb0.out hb5 (blk_lt RFb0.out))
      obtain ⟨se, ee, PE7, ze1, ze2, ze3⟩ : ∃ se ee, Hid (At se ee (OwnP se ee 29 4 (.slice E5 8 8) 8 (pcells (List.replicate 8 p2))) w5) ∧ w0.heap.size ≤ se ∧ se ≤ ee ∧ ee ≤ w5.heap.size := ⟨_, _, Lib.hid (at_own_all hE), by simp <;> omega, hb5.size, Nat.le_refl _⟩
      have hS7 := OS.out _ F7.out
      clear hb5 hE
      refine hK.out _ _ (.inr hS7) ?_
      clear hK K
      try simp only [Act.put, List.setIfInBounds_toArray, List.set_cons_zero, List.set_cons_succ]
      refine held_one (i := 9) (o := { dst := some 72, op := Op.buildSlice 36 1 #[(0, Operand.tmp 71)], type := 36, pos := "l8_guards.go:52", after := #[{ on := 8, ground := Ground.data }], guard := none }) (by kernel_rfl) rfl (fun K hK => ?_)
      refine step_quad _ rfl 36 70 (.tmp 71) rfl ⟨0, t, 0, 0⟩ rfl Try.underlying36 infoPktS ?_
      have Fs1 := Lib.hid (fm_alloc F7.out (.cells #[.int .i64 0, .int .i64 t, .int .i64 0, .int .i64 0] 70))
      have RFs1 := Lib.hid (blk_alloc R7.out (.cells #[.int .i64 0, .int .i64 t, .int .i64 0, .int .i64 0] 70))
      have hSFs1 := OS.out _ Fs1.out
      refine hK.out _ _ (.inr hSFs1) ?_
      clear hK K
      try simp only [Act.put, List.setIfInBounds_toArray, List.set_cons_zero, List.set_cons_succ]
      refine held_one (i := 10) (o := { dst := some 73, op := Op.call { callee := Callee.value (Operand.func 31), args := #[Operand.tmp 72, Operand.const (Value.int IntKind.i64 8)], argTypes := #[36, 3] }, type := 36, pos := "l8_guards.go:58", after := #[{ on := 9, ground := Ground.data }, { on := 4, ground := Ground.chain }], guard := none }) (by kernel_rfl) rfl (fun K hK => ?_)
      go_simp
      go_at_call 31
      refine (rep_anyS ⟨0, t, 0, 0⟩ w5.heap.size _ (blk_new w5 _ _)).mono ?_
      rintro e w6 ⟨S6, rfl, hE, hb6⟩
      have F8 := Lib.hid (fm_below Fs1.out hb6)
      have R8 := Lib.hid (blk_below RFs1.out hb6 (blk_lt RFs1.out))
      have PE8 := Lib.hid (at_below (at_below PE7.out (below_alloc (Below.refl _ _) _)) hb6)
      obtain ⟨ss, es, PS8, zs1, zs2, zs3⟩ : ∃ ss es, Hid (At ss es (OwnP ss es 70 4 (.slice S6 8 8) 8 (pcells (List.replicate 8 ⟨0, t, 0, 0⟩))) w6) ∧ w5.heap.size ≤ ss ∧ ss ≤ es ∧ es ≤ w6.heap.size := ⟨_, _, Lib.hid (at_own_all hE), by simp <;> omega, hb6.size, Nat.le_refl _⟩
      have hS8 := OS.out _ F8.out
      obtain ⟨r0, r1, r2, r3, r4, r5, r6, r7, r8, r9, r10, r11, r12⟩ := gc_blk (R8.out)
      have rf0 : World.frozen? (w6) ⟨w.heap.size + 1, 0, none⟩ = false := blk_free (R8.out) 0
      have rf1 : World.frozen? (w6) ⟨w.heap.size + 1, 1, none⟩ = false := blk_free (R8.out) 1
      have rf2 : World.frozen? (w6) ⟨w.heap.size + 1, 2, none⟩ = false := blk_free (R8.out) 2
      have rf3 : World.frozen? (w6) ⟨w.heap.size + 1, 3, none⟩ = false := blk_free (R8.out) 3
      have rf4 : World.frozen? (w6) ⟨w.heap.size + 1, 4, none⟩ = false := blk_free (R8.out) 4
      have rf5 : World.frozen? (w6) ⟨w.heap.size + 1, 5, none⟩ = false := blk_free (R8.out) 5
      have rf6 : World.frozen? (w6) ⟨w.heap.size + 1, 6, none⟩ = false := blk_free (R8.out) 6
      have rf7 : World.frozen? (w6) ⟨w.heap.size + 1, 7, none⟩ = false := blk_free (R8.out) 7
      have rf8 : World.frozen? (w6) ⟨w.heap.size + 1, 8, none⟩ = false := blk_free (R8.out) 8
      have rf9 : World.frozen? (w6) ⟨w.heap.size + 1, 9, none⟩ = false := blk_free (R8.out) 9
      have rf10 : World.frozen? (w6) ⟨w.heap.size + 1, 10, none⟩ = false := blk_free (R8.out) 10
      have rf11 : World.frozen? (w6) ⟨w.heap.size + 1, 11, none⟩ = false := blk_free (R8.out) 11
      have rf12 : World.frozen? (w6) ⟨w.heap.size + 1, 12, none⟩ = false := blk_free (R8.out) 12
      clear hb6 hE
      refine hK.out _ _ (.inr hS8) ?_
      clear hK K
      try simp only [Act.put, List.setIfInBounds_toArray, List.set_cons_zero, List.set_cons_succ]
      refine held_take (i := 11) (oi := { dst := some 74, op := Op.build 38 #[(0, Operand.tmp 63), (1, Operand.tmp 64), (2, Operand.tmp 67), (3, Operand.tmp 68), (4, Operand.tmp 69), (5, Operand.tmp 73)], type := 38, pos := "l8_guards.go:52", after := #[{ on := 0, ground := Ground.data }, { on := 1, ground := Ground.data }, { on := 4, ground := Ground.data }, { on := 5, ground := Ground.data }, { on := 6, ground := Ground.data }, { on := 10, ground := Ground.data }], guard := none }) (v := ?_) rfl (by kernel_rfl) (by kernel_rfl) (by kernel_rfl) (by kernel_rfl) (fun _ _ _ h => h) (Or.inl ⟨by rfl, ?_⟩) hS8 ?_
      rotate_left
      · (intro w9 hSw; (try dsimp only at hSw); go_simp; try with_reducible rfl)
      try simp only [Act.put, List.setIfInBounds_toArray, List.set_cons_zero, List.set_cons_succ]
      refine held_one (i := 12) (o := { dst := none, op := Op.store 38 (Operand.tmp 4) (Operand.tmp 74), type := 0, pos := "l8_guards.go:52", after := #[{ on := 11, ground := Ground.data }, { on := 10, ground := Ground.chain }, { on := 0, ground := Ground.phase }, { on := 1, ground := Ground.phase }, { on := 2, ground := Ground.phase }, { on := 3, ground := Ground.phase }, { on := 4, ground := Ground.phase }, { on := 5, ground := Ground.phase }, { on := 6, ground := Ground.phase }, { on := 7, ground := Ground.phase }, { on := 8, ground := Ground.phase }, { on := 9, ground := Ground.phase }, { on := 10, ground := Ground.phase }, { on := 11, ground := Ground.phase }], guard := none }) (by kernel_rfl) rfl (fun K hK => ?_)
      go_simp
      refine hK.out _ _ (.inr ?_) ?_
      · refine OS.out _ ?_
        repeat (with_reducible refine RES.out _ _ _ ?_)
        exact F8.out
      clear hK K
      try simp only [Act.put, List.setIfInBounds_toArray, List.set_cons_zero, List.set_cons_succ]
      refine held_one (i := 13) (o := { dst := some 5, op := Op.assign (Operand.const (Value.bool true)), type := 4, pos := "l8_guards.go:52", after := #[{ on := 12, ground := Ground.chain }, { on := 0, ground := Ground.phase }, { on := 1, ground := Ground.phase }, { on := 2, ground := Ground.phase }, { on := 3, ground := Ground.phase }, { on := 4, ground := Ground.phase }, { on := 5, ground := Ground.phase }, { on := 6, ground := Ground.phase }, { on := 7, ground := Ground.phase }, { on := 8, ground := Ground.phase }, { on := 9, ground := Ground.phase }, { on := 10, ground := Ground.phase }, { on := 11, ground := Ground.phase }, { on := 12, ground := Ground.phase }], guard := none }) (by kernel_rfl) rfl (fun K hK => ?_)
      go_simp
      refine hK.out _ _ (.inl rfl) ?_
      clear hK K
      try simp only [Act.put, List.setIfInBounds_toArray, List.set_cons_zero, List.set_cons_succ]
      refine held_done (by kernel_rfl) ?_ _
      go_wp2
      refine bodyPost_ret (v := .tuple #[.agg (gcs ⟨t, p1, List.replicate 8 p2, s.me, s.ea, List.replicate 8 0, newN s.q s.ws, List.replicate 8 ⟨0, t, 0, 0⟩⟩ ⟨E5, 8, 8, Am, nm, cm, Al, nl, cl, Bl, ml, dl, Cl, ol, fl, S6, 8, 8⟩), .bool true]) (by simp [results, Try.results10, go_sem, gcs, r0, r1, r2, r3, r4, r5, r6, r7, r8, r9, r10, r11, r12]) rfl ⟨⟨E5, 8, 8, Am, nm, cm, Al, nl, cl, Bl, ml, dl, Cl, ol, fl, S6, 8, 8⟩, ⟨se, ee, w2.heap.size + 1, w3.heap.size, w3.heap.size + 1, w4.heap.size, ss, es, hsl, ivl⟩, ?_, ?_, ?_⟩
      · rw [EB.out.1, EB.out.2, EP.out.1, EP.out.2]; rfl
      · have hsz := ZZ.out
        have hz0 := z0.out
        rw [EB.out.1]
        refine go_mono (lo := w.heap.size + 2) (hi := w6.heap.size) ?_ (by omega) (by simp)
        repeat with_reducible refine go_cell ?_ (by simp) _
        have e := EP.out.2
        rw [e] at PE8
        exact go_new ⟨by dsimp only; omega, by dsimp only; omega, by dsimp only; omega, by dsimp only; omega, .inr (by dsimp only; omega), .inr (by dsimp only; omega), .inl (by dsimp only; omega), .inl (by dsimp only; omega), .inl (by dsimp only; omega), .inl (by dsimp only; omega), ⟨by show 8 ≤ _; omega, lnm.out, by show 8 ≤ _; omega, LNL.out.1, LNL.out.2.1, LNL.out.2.2⟩⟩ PE8.out (al_get 3 F8.out.al rfl).1 (al_get 5 F8.out.al rfl).1 PS8.out
      · repeat refine Below.setCell ?_ (by simp) _
        exact F8.out.below
    · refine step_quad _ rfl 36 70 (.tmp 71) rfl ⟨0, t, 0, 0⟩ rfl Try.underlying36 infoPktS ?_
      have Fs1 := Lib.hid (fm_alloc Fb0.out (.cells #[.int .i64 0, .int .i64 t, .int .i64 0, .int .i64 0] 70))
      have RFs1 := Lib.hid (blk_alloc RFb0.out (.cells #[.int .i64 0, .int .i64 t, .int .i64 0, .int .i64 0] 70))
      have hSFs1 := OS.out _ Fs1.out
      refine hK.out _ _ (.inr hSFs1) ?_
      clear hK K
      try simp only [Act.put, List.setIfInBounds_toArray, List.set_cons_zero, List.set_cons_succ]
      refine held_one (i := 4) (o := { dst := some 67, op := Op.call { callee := Callee.value (Operand.func 30), args := #[Operand.tmp 66, Operand.const (Value.int IntKind.i64 8)], argTypes := #[30, 3] }, type := 30, pos := "l8_guards.go:55", after := #[{ on := 3, ground := Ground.data }], guard := none }) (by kernel_rfl) rfl (fun K hK => ?_)
      go_simp
      go_at_call 30
      refine (rep_anyB p2 w0.heap.size _ (blk_alloc (blk_new w0 _ _) _)).mono ?_
      rintro e w5 ⟨E5, rfl, hE, hb5⟩
      have F7 := Lib.hid (fm_below Fs1.out hb5)
      have R7 := Lib.hid (blk_below RFs1.out hb5 (blk_lt RFs1.out))
      obtain ⟨se, ee, PE7, ze1, ze2, ze3⟩ : ∃ se ee, Hid (At se ee (OwnP se ee 29 4 (.slice E5 8 8) 8 (pcells (List.replicate 8 p2))) w5) ∧ w0.heap.size ≤ se ∧ se ≤ ee ∧ ee ≤ w5.heap.size := ⟨_, _, Lib.hid (at_own_all hE), by simp <;> omega, hb5.size, Nat.le_refl _⟩
      have SB5 := Lib.hid (show Blk w5 (w0.heap.size + 1) 70 #[.int .i64 0, .int .i64 t, .int .i64 0, .int .i64 0] from blk_below (blk_new2 w0 _ _ _) hb5 (by simp <;> omega))
      have hS7 := OS.out _ F7.out
      clear hb5 hE
      refine hK.out _ _ (.inr hS7) ?_
      clear hK K
      try simp only [Act.put, List.setIfInBounds_toArray, List.set_cons_zero, List.set_cons_succ]
      refine held_one (i := 10) (o := { dst := some 73, op := Op.call { callee := Callee.value (Operand.func 31), args := #[Operand.tmp 72, Operand.const (Value.int IntKind.i64 8)], argTypes := #[36, 3] }, type := 36, pos := "l8_guards.go:58", after := #[{ on := 9, ground := Ground.data }, { on := 4, ground := Ground.chain }], guard := none }) (by kernel_rfl) rfl (fun K hK => ?_)
      go_simp
      go_at_call 31
      refine (rep_anyS ⟨0, t, 0, 0⟩ (w0.heap.size + 1) _ SB5.out).mono ?_
      rintro e w6 ⟨S6, rfl, hE, hb6⟩
      have F8 := Lib.hid (fm_below F7.out hb6)
      have R8 := Lib.hid (blk_below R7.out hb6 (blk_lt R7.out))
      have PE8 := Lib.hid (at_below PE7.out hb6)
      obtain ⟨ss, es, PS8, zs1, zs2, zs3⟩ : ∃ ss es, Hid (At ss es (OwnP ss es 70 4 (.slice S6 8 8) 8 (pcells (List.replicate 8 ⟨0, t, 0, 0⟩))) w6) ∧ w5.heap.size ≤ ss ∧ ss ≤ es ∧ es ≤ w6.heap.size := ⟨_, _, Lib.hid (at_own_all hE), by simp <;> omega, hb6.size, Nat.le_refl _⟩
      have hS8 := OS.out _ F8.out
      obtain ⟨r0, r1, r2, r3, r4, r5, r6, r7, r8, r9, r10, r11, r12⟩ := gc_blk (R8.out)
      have rf0 : World.frozen? (w6) ⟨w.heap.size + 1, 0, none⟩ = false := blk_free (R8.out) 0
      have rf1 : World.frozen? (w6) ⟨w.heap.size + 1, 1, none⟩ = false := blk_free (R8.out) 1
      have rf2 : World.frozen? (w6) ⟨w.heap.size + 1, 2, none⟩ = false := blk_free (R8.out) 2
      have rf3 : World.frozen? (w6) ⟨w.heap.size + 1, 3, none⟩ = false := blk_free (R8.out) 3
      have rf4 : World.frozen? (w6) ⟨w.heap.size + 1, 4, none⟩ = false := blk_free (R8.out) 4
      have rf5 : World.frozen? (w6) ⟨w.heap.size + 1, 5, none⟩ = false := blk_free (R8.out) 5
      have rf6 : World.frozen? (w6) ⟨w.heap.size + 1, 6, none⟩ = false := blk_free (R8.out) 6
      have rf7 : World.frozen? (w6) ⟨w.heap.size + 1, 7, none⟩ = false := blk_free (R8.out) 7
      have rf8 : World.frozen? (w6) ⟨w.heap.size + 1, 8, none⟩ = false := blk_free (R8.out) 8
      have rf9 : World.frozen? (w6) ⟨w.heap.size + 1, 9, none⟩ = false := blk_free (R8.out) 9
      have rf10 : World.frozen? (w6) ⟨w.heap.size + 1, 10, none⟩ = false := blk_free (R8.out) 10
      have rf11 : World.frozen? (w6) ⟨w.heap.size + 1, 11, none⟩ = false := blk_free (R8.out) 11
      have rf12 : World.frozen? (w6) ⟨w.heap.size + 1, 12, none⟩ = false := blk_free (R8.out) 12
      clear hb6 hE
      refine hK.out _ _ (.inr hS8) ?_
      clear hK K
      try simp only [Act.put, List.setIfInBounds_toArray, List.set_cons_zero, List.set_cons_succ]
      refine held_take (i := 11) (oi := { dst := some 74, op := Op.build 38 #[(0, Operand.tmp 63), (1, Operand.tmp 64), (2, Operand.tmp 67), (3, Operand.tmp 68), (4, Operand.tmp 69), (5, Operand.tmp 73)], type := 38, pos := "l8_guards.go:52", after := #[{ on := 0, ground := Ground.data }, { on := 1, ground := Ground.data }, { on := 4, ground := Ground.data }, { on := 5, ground := Ground.data }, { on := 6, ground := Ground.data }, { on := 10, ground := Ground.data }], guard := none }) (v := ?_) rfl (by kernel_rfl) (by kernel_rfl) (by kernel_rfl) (by kernel_rfl) (fun _ _ _ h => h) (Or.inl ⟨by rfl, ?_⟩) hS8 ?_
      rotate_left
      · (intro w9 hSw; (try dsimp only at hSw); go_simp; try with_reducible rfl)
      try simp only [Act.put, List.setIfInBounds_toArray, List.set_cons_zero, List.set_cons_succ]
      refine held_one (i := 12) (o := { dst := none, op := Op.store 38 (Operand.tmp 4) (Operand.tmp 74), type := 0, pos := "l8_guards.go:52", after := #[{ on := 11, ground := Ground.data }, { on := 10, ground := Ground.chain }, { on := 0, ground := Ground.phase }, { on := 1, ground := Ground.phase }, { on := 2, ground := Ground.phase }, { on := 3, ground := Ground.phase }, { on := 4, ground := Ground.phase }, { on := 5, ground := Ground.phase }, { on := 6, ground := Ground.phase }, { on := 7, ground := Ground.phase }, { on := 8, ground := Ground.phase }, { on := 9, ground := Ground.phase }, { on := 10, ground := Ground.phase }, { on := 11, ground := Ground.phase }], guard := none }) (by kernel_rfl) rfl (fun K hK => ?_)
      go_simp
      refine hK.out _ _ (.inr ?_) ?_
      · refine OS.out _ ?_
        repeat (with_reducible refine RES.out _ _ _ ?_)
        exact F8.out
      clear hK K
      try simp only [Act.put, List.setIfInBounds_toArray, List.set_cons_zero, List.set_cons_succ]
      refine held_one (i := 13) (o := { dst := some 5, op := Op.assign (Operand.const (Value.bool true)), type := 4, pos := "l8_guards.go:52", after := #[{ on := 12, ground := Ground.chain }, { on := 0, ground := Ground.phase }, { on := 1, ground := Ground.phase }, { on := 2, ground := Ground.phase }, { on := 3, ground := Ground.phase }, { on := 4, ground := Ground.phase }, { on := 5, ground := Ground.phase }, { on := 6, ground := Ground.phase }, { on := 7, ground := Ground.phase }, { on := 8, ground := Ground.phase }, { on := 9, ground := Ground.phase }, { on := 10, ground := Ground.phase }, { on := 11, ground := Ground.phase }, { on := 12, ground := Ground.phase }], guard := none }) (by kernel_rfl) rfl (fun K hK => ?_)
      go_simp
      refine hK.out _ _ (.inl rfl) ?_
      clear hK K
      try simp only [Act.put, List.setIfInBounds_toArray, List.set_cons_zero, List.set_cons_succ]
      refine held_done (by kernel_rfl) ?_ _
      go_wp2
      refine bodyPost_ret (v := .tuple #[.agg (gcs ⟨t, p1, List.replicate 8 p2, s.me, s.ea, List.replicate 8 0, newN s.q s.ws, List.replicate 8 ⟨0, t, 0, 0⟩⟩ ⟨E5, 8, 8, Am, nm, cm, Al, nl, cl, Bl, ml, dl, Cl, ol, fl, S6, 8, 8⟩), .bool true]) (by simp [results, Try.results10, go_sem, gcs, r0, r1, r2, r3, r4, r5, r6, r7, r8, r9, r10, r11, r12]) rfl ⟨⟨E5, 8, 8, Am, nm, cm, Al, nl, cl, Bl, ml, dl, Cl, ol, fl, S6, 8, 8⟩, ⟨se, ee, w2.heap.size + 1, w3.heap.size, w3.heap.size + 1, w4.heap.size, ss, es, hsl, ivl⟩, ?_, ?_, ?_⟩
      · rw [EB.out.1, EB.out.2, EP.out.1, EP.out.2]; rfl
      · have hsz := ZZ.out
        have hz0 := z0.out
        rw [EB.out.1]
        refine go_mono (lo := w.heap.size + 2) (hi := w6.heap.size) ?_ (by omega) (by simp)
        repeat with_reducible refine go_cell ?_ (by simp) _
        have e := EP.out.2
        rw [e] at PE8
        exact go_new ⟨by dsimp only; omega, by dsimp only; omega, by dsimp only; omega, by dsimp only; omega, .inr (by dsimp only; omega), .inr (by dsimp only; omega), .inl (by dsimp only; omega), .inl (by dsimp only; omega), .inl (by dsimp only; omega), .inl (by dsimp only; omega), ⟨by show 8 ≤ _; omega, lnm.out, by show 8 ≤ _; omega, LNL.out.1, LNL.out.2.1, LNL.out.2.2⟩⟩ PE8.out (al_get 3 F8.out.al rfl).1 (al_get 5 F8.out.al rfl).1 PS8.out
      · repeat refine Below.setCell ?_ (by simp) _
        exact F8.out.below
  · refine step_quad _ rfl 36 70 (.tmp 71) rfl ⟨0, t, 0, 0⟩ rfl Try.underlying36 infoPktS ?_
    have Fs0 := Lib.hid (fm_alloc F5.out (.cells #[.int .i64 0, .int .i64 t, .int .i64 0, .int .i64 0] 70))
    have RFs0 := Lib.hid (blk_alloc RB5.out (.cells #[.int .i64 0, .int .i64 t, .int .i64 0, .int .i64 0] 70))
    have hSFs0 := OS.out _ Fs0.out
    refine hK.out _ _ (.inr hSFs0) ?_
    clear hK K
    try simp only [Act.put, List.setIfInBounds_toArray, List.set_cons_zero, List.set_cons_succ]
    refine held_one (i := 3) (o := { dst := some 66, op := Op.buildSlice 30 1 #[(0, Operand.tmp 65)], type := 30, pos := "l8_guards.go:52", after := #[{ on := 2, ground := Ground.data }], guard := none }) (by kernel_rfl) rfl (fun K hK => ?_)
    refine step_quad _ rfl 30 29 (.tmp 65) rfl p2 rfl Try.underlying30 infoPktB ?_
    have Fb1 := Lib.hid (fm_alloc Fs0.out (.cells #[.int .i64 p2.peer, .int .i64 p2.lane, .int .i64 p2.size, .int .i64 p2.id] 29))
    have RFb1 := Lib.hid (blk_alloc RFs0.out (.cells #[.int .i64 p2.peer, .int .i64 p2.lane, .int .i64 p2.size, .int .i64 p2.id] 29))
    have hSFb1 := OS.out _ Fb1.out
    refine hK.out _ _ (.inr hSFb1) ?_
    clear hK K
    try simp only [Act.put, List.setIfInBounds_toArray, List.set_cons_zero, List.set_cons_succ]
    refine held_one (i := 4) (o := { dst := some 67, op := Op.call { callee := Callee.value (Operand.func 30), args := #[Operand.tmp 66, Operand.const (Value.int IntKind.i64 8)], argTypes := #[30, 3] }, type := 30, pos := "l8_guards.go:55", after := #[{ on := 3, ground := Ground.data }], guard := none }) (by kernel_rfl) rfl (fun K hK => ?_)
    go_simp
    go_at_call 30
    refine (rep_anyB p2 (w0.heap.size + 1) _ (blk_new2 w0 _ _ _)).mono ?_
    rintro e w5 ⟨E5, rfl, hE, hb5⟩
    have F7 := Lib.hid (fm_below Fb1.out hb5)
    have R7 := Lib.hid (blk_below RFb1.out hb5 (blk_lt RFb1.out))
    obtain ⟨se, ee, PE7, ze1, ze2, ze3⟩ : ∃ se ee, Hid (At se ee (OwnP se ee 29 4 (.slice E5 8 8) 8 (pcells (List.replicate 8 p2))) w5) ∧ w0.heap.size ≤ se ∧ se ≤ ee ∧ ee ≤ w5.heap.size := ⟨_, _, Lib.hid (at_own_all hE), by simp <;> omega, hb5.size, Nat.le_refl _⟩
    have SB5 := Lib.hid (show Blk w5 w0.heap.size 70 #[.int .i64 0, .int .i64 t, .int .i64 0, .int .i64 0] from blk_below (blk_alloc (blk_new w0 _ _) _) hb5 (by simp <;> omega))
    have hS7 := OS.out _ F7.out
    clear hb5 hE
    refine hK.out _ _ (.inr hS7) ?_
    clear hK K
    try simp only [Act.put, List.setIfInBounds_toArray, List.set_cons_zero, List.set_cons_succ]
    refine held_one (i := 10) (o := { dst := some 73, op := Op.call { callee := Callee.value (Operand.func 31), args := #[Operand.tmp 72, Operand.const (Value.int IntKind.i64 8)], argTypes := #[36, 3] }, type := 36, pos := "l8_guards.go:58", after := #[{ on := 9, ground := Ground.data }, { on := 4, ground := Ground.chain }], guard := none }) (by kernel_rfl) rfl (fun K hK => ?_)
    go_simp
    go_at_call 31
    refine (rep_anyS ⟨0, t, 0, 0⟩ w0.heap.size _ SB5.out).mono ?_
    rintro e w6 ⟨S6, rfl, hE, hb6⟩
    have F8 := Lib.hid (fm_below F7.out hb6)
    have R8 := Lib.hid (blk_below R7.out hb6 (blk_lt R7.out))
    have PE8 := Lib.hid (at_below PE7.out hb6)
    obtain ⟨ss, es, PS8, zs1, zs2, zs3⟩ : ∃ ss es, Hid (At ss es (OwnP ss es 70 4 (.slice S6 8 8) 8 (pcells (List.replicate 8 ⟨0, t, 0, 0⟩))) w6) ∧ w5.heap.size ≤ ss ∧ ss ≤ es ∧ es ≤ w6.heap.size := ⟨_, _, Lib.hid (at_own_all hE), by simp <;> omega, hb6.size, Nat.le_refl _⟩
    have hS8 := OS.out _ F8.out
    obtain ⟨r0, r1, r2, r3, r4, r5, r6, r7, r8, r9, r10, r11, r12⟩ := gc_blk (R8.out)
    have rf0 : World.frozen? (w6) ⟨w.heap.size + 1, 0, none⟩ = false := blk_free (R8.out) 0
    have rf1 : World.frozen? (w6) ⟨w.heap.size + 1, 1, none⟩ = false := blk_free (R8.out) 1
    have rf2 : World.frozen? (w6) ⟨w.heap.size + 1, 2, none⟩ = false := blk_free (R8.out) 2
    have rf3 : World.frozen? (w6) ⟨w.heap.size + 1, 3, none⟩ = false := blk_free (R8.out) 3
    have rf4 : World.frozen? (w6) ⟨w.heap.size + 1, 4, none⟩ = false := blk_free (R8.out) 4
    have rf5 : World.frozen? (w6) ⟨w.heap.size + 1, 5, none⟩ = false := blk_free (R8.out) 5
    have rf6 : World.frozen? (w6) ⟨w.heap.size + 1, 6, none⟩ = false := blk_free (R8.out) 6
    have rf7 : World.frozen? (w6) ⟨w.heap.size + 1, 7, none⟩ = false := blk_free (R8.out) 7
    have rf8 : World.frozen? (w6) ⟨w.heap.size + 1, 8, none⟩ = false := blk_free (R8.out) 8
    have rf9 : World.frozen? (w6) ⟨w.heap.size + 1, 9, none⟩ = false := blk_free (R8.out) 9
    have rf10 : World.frozen? (w6) ⟨w.heap.size + 1, 10, none⟩ = false := blk_free (R8.out) 10
    have rf11 : World.frozen? (w6) ⟨w.heap.size + 1, 11, none⟩ = false := blk_free (R8.out) 11
    have rf12 : World.frozen? (w6) ⟨w.heap.size + 1, 12, none⟩ = false := blk_free (R8.out) 12
    clear hb6 hE
    refine hK.out _ _ (.inr hS8) ?_
    clear hK K
    try simp only [Act.put, List.setIfInBounds_toArray, List.set_cons_zero, List.set_cons_succ]
    refine held_take (i := 11) (oi := { dst := some 74, op := Op.build 38 #[(0, Operand.tmp 63), (1, Operand.tmp 64), (2, Operand.tmp 67), (3, Operand.tmp 68), (4, Operand.tmp 69), (5, Operand.tmp 73)], type := 38, pos := "l8_guards.go:52", after := #[{ on := 0, ground := Ground.data }, { on := 1, ground := Ground.data }, { on := 4, ground := Ground.data }, { on := 5, ground := Ground.data }, { on := 6, ground := Ground.data }, { on := 10, ground := Ground.data }], guard := none }) (v := ?_) rfl (by kernel_rfl) (by kernel_rfl) (by kernel_rfl) (by kernel_rfl) (fun _ _ _ h => h) (Or.inl ⟨by rfl, ?_⟩) hS8 ?_
    rotate_left
    · (intro w9 hSw; (try dsimp only at hSw); go_simp; try with_reducible rfl)
    try simp only [Act.put, List.setIfInBounds_toArray, List.set_cons_zero, List.set_cons_succ]
    refine held_one (i := 12) (o := { dst := none, op := Op.store 38 (Operand.tmp 4) (Operand.tmp 74), type := 0, pos := "l8_guards.go:52", after := #[{ on := 11, ground := Ground.data }, { on := 10, ground := Ground.chain }, { on := 0, ground := Ground.phase }, { on := 1, ground := Ground.phase }, { on := 2, ground := Ground.phase }, { on := 3, ground := Ground.phase }, { on := 4, ground := Ground.phase }, { on := 5, ground := Ground.phase }, { on := 6, ground := Ground.phase }, { on := 7, ground := Ground.phase }, { on := 8, ground := Ground.phase }, { on := 9, ground := Ground.phase }, { on := 10, ground := Ground.phase }, { on := 11, ground := Ground.phase }], guard := none }) (by kernel_rfl) rfl (fun K hK => ?_)
    go_simp
    refine hK.out _ _ (.inr ?_) ?_
    · refine OS.out _ ?_
      repeat (with_reducible refine RES.out _ _ _ ?_)
      exact F8.out
    clear hK K
    try simp only [Act.put, List.setIfInBounds_toArray, List.set_cons_zero, List.set_cons_succ]
    refine held_one (i := 13) (o := { dst := some 5, op := Op.assign (Operand.const (Value.bool true)), type := 4, pos := "l8_guards.go:52", after := #[{ on := 12, ground := Ground.chain }, { on := 0, ground := Ground.phase }, { on := 1, ground := Ground.phase }, { on := 2, ground := Ground.phase }, { on := 3, ground := Ground.phase }, { on := 4, ground := Ground.phase }, { on := 5, ground := Ground.phase }, { on := 6, ground := Ground.phase }, { on := 7, ground := Ground.phase }, { on := 8, ground := Ground.phase }, { on := 9, ground := Ground.phase }, { on := 10, ground := Ground.phase }, { on := 11, ground := Ground.phase }, { on := 12, ground := Ground.phase }], guard := none }) (by kernel_rfl) rfl (fun K hK => ?_)
    go_simp
    refine hK.out _ _ (.inl rfl) ?_
    clear hK K
    try simp only [Act.put, List.setIfInBounds_toArray, List.set_cons_zero, List.set_cons_succ]
    refine held_done (by kernel_rfl) ?_ _
    go_wp2
    refine bodyPost_ret (v := .tuple #[.agg (gcs ⟨t, p1, List.replicate 8 p2, s.me, s.ea, List.replicate 8 0, newN s.q s.ws, List.replicate 8 ⟨0, t, 0, 0⟩⟩ ⟨E5, 8, 8, Am, nm, cm, Al, nl, cl, Bl, ml, dl, Cl, ol, fl, S6, 8, 8⟩), .bool true]) (by simp [results, Try.results10, go_sem, gcs, r0, r1, r2, r3, r4, r5, r6, r7, r8, r9, r10, r11, r12]) rfl ⟨⟨E5, 8, 8, Am, nm, cm, Al, nl, cl, Bl, ml, dl, Cl, ol, fl, S6, 8, 8⟩, ⟨se, ee, w2.heap.size + 1, w3.heap.size, w3.heap.size + 1, w4.heap.size, ss, es, hsl, ivl⟩, ?_, ?_, ?_⟩
    · rw [EB.out.1, EB.out.2, EP.out.1, EP.out.2]; rfl
    · have hsz := ZZ.out
      have hz0 := z0.out
      rw [EB.out.1]
      refine go_mono (lo := w.heap.size + 2) (hi := w6.heap.size) ?_ (by omega) (by simp)
      repeat with_reducible refine go_cell ?_ (by simp) _
      have e := EP.out.2
      rw [e] at PE8
      exact go_new ⟨by dsimp only; omega, by dsimp only; omega, by dsimp only; omega, by dsimp only; omega, .inr (by dsimp only; omega), .inr (by dsimp only; omega), .inl (by dsimp only; omega), .inl (by dsimp only; omega), .inl (by dsimp only; omega), .inl (by dsimp only; omega), ⟨by show 8 ≤ _; omega, lnm.out, by show 8 ≤ _; omega, LNL.out.1, LNL.out.2.1, LNL.out.2.2⟩⟩ PE8.out (al_get 3 F8.out.al rfl).1 (al_get 5 F8.out.al rfl).1 PS8.out
    · repeat refine Below.setCell ?_ (by simp) _
      exact F8.out.below
theorem sv_ng0 (s : St) : ngB s 0 = svB s := by
  have h : inB 0 0 1000000 = true := by simp [inB]
  rw [ngB, h, Bool.and_true]
set_option maxRecDepth 100000 in
set_option maxHeartbeats 1000000 in
theorem svI_any (s : St) (A : Option Addr) (n c : Nat) (w : World) (h : NR w A n s.ws) (hn : n ≤ 4000000000) :
    Calls Try.prog 9 #[.agg (stc s A n c)] w fun e w' => e = .returned (.bool (svB s)) ∧ Below w.heap.size w w' := by
  have H := Lib.hid h
  have W0 := Lib.hid (below_alloc (Below.refl w.heap.size w) (.cells (stc s A n c) 25))
  clear h
  unfold stc
  go_enter Try.func9, Try.ntmps9
  go_wp2_with fail
  refine (ngI_any s 0 A n c _ (nr_below H.out W0.out) hn).mono ?_
  rintro e w1 ⟨k, i, rfl, -, hb⟩
  rw [sv_ng0]
  unfold gcs
  have B1 := Lib.hid (below_seq W0.out hb)
  clear hb
  go_wp2
  go_ret
  exact ⟨rfl, by repeat refine below_alloc ?_ _; exact B1.out⟩
end Go.Proofs.Ytanaeebjcbbagaa
