/-
  The law FnExactNextOfLanes returns true at every argument: the program's NextOfLanes answers as the model's, writes into no argument, and its answer owns its memory. Conditions: none.
-/
import Derived.Test.YtkmoiphcpmhacaaKo
import Derived.Test.YtkmoiphcpmhacaaKt
import Derived.Test.YtkmoiphcpmhacaaKb
namespace Go.Proofs.Ytkmoiphcpmhacaa.fnExactNextOfLanes
open Go.ChangeShapes Go.WideShapes Go.ChangeAt Go.RowKit

theorem lo_nil (w : World) (lo : Nat) : LO w lo (.slice none 0 0) 0 (.slice none 0 0) 0 (.slice none 0 0) 0 [] (fun _ => (0, 0)) ⟨[], [], []⟩ :=
  ⟨dr_nil w lo, World.ownsRow_nil _ _ _ _, World.ownsRow_nil _ _ _ _, fun b e => (by cases e), fun b e => (by cases e), fun b e => (by cases e)⟩
theorem rsz_few {rs : List Rb} (h : ∀ r ∈ rs, r.fs.length + total r.fs ≤ 600) : rsz rs ≤ rs.length * 600 := by
  induction rs with
  | nil => simp [rsz]
  | cons r t ih =>
    have h1 := h r (by simp)
    have h2 := ih fun x hx => h x (by simp [hx])
    simp only [rsz, List.length_cons]
    omega
theorem lsz_lv {l : Ln} (h : LV l) : lsz l ≤ 1048576 := by
  have h1 : rsz l.rs ≤ l.rs.length * 600 := rsz_few fun r hr => by
    obtain ⟨k, hk⟩ := List.getElem?_of_mem hr
    have hv := (h.rb k r hk).rv
    have h2 := total_le hv
    have h3 := rv_len hv
    omega
  have h4 := h.n0
  have h5 := h.n1
  have h6 := h.n2
  unfold lsz
  omega
theorem fm_rd3c {w3 w1 : World} {L : List Iv} (h : Fm w3 L w1) {g0 : Nat} {t0 : TypeId} {x0 y0 z0 : Value} (B : Blk w3 g0 t0 #[x0, y0, z0]) (j : Nat) {a2 b2 g2 : Nat} {t2 : TypeId} {x2 y2 z2 : Value} (hj : L[j]? = some ⟨a2, b2, BoxP g2 t2 #[x2, y2, z2]⟩) :
    (w1.cell? ⟨g0, 0, none⟩ = some x0 ∧ w1.cell? ⟨g0, 1, none⟩ = some y0 ∧ w1.cell? ⟨g0, 2, none⟩ = some z0) ∧ (w1.cell? ⟨g2, 0, none⟩ = some x2 ∧ w1.cell? ⟨g2, 1, none⟩ = some y2 ∧ w1.cell? ⟨g2, 2, none⟩ = some z2) ∧ Fm w3 L w1 := by
  have B1 := blk_below B h.below (blk_lt B)
  have B2 : Blk w1 g2 t2 #[x2, y2, z2] := fm_blk h j hj
  exact ⟨(blk_three B1).1, (blk_three B2).1, h⟩
theorem lo_few {w : World} {lo n m o c d f : Nat} {A B C : Option Addr} {hs : List Rh} {iv : Nat → Nat × Nat} {l : Ln} (G : LO w lo (.slice A n c) n (.slice B m d) m (.slice C o f) o hs iv l) (h : lsz l ≤ 1048576) : n ≤ 1048576 ∧ m ≤ 1048576 ∧ o ≤ 1048576 := by
  have h1 := (dr_len G.r).2
  have h2 : l.ws.length = m := (nr_own G.b).1
  have h3 : l.cs.length = o := (nr_own G.c).1
  unfold lsz at h
  omega
theorem lo_lrf {w : World} {lo n m o c d f : Nat} {A B C : Option Addr} {hs : List Rh} {iv : Nat → Nat × Nat} {l : Ln} (G : LO w lo (.slice A n c) n (.slice B m d) m (.slice C o f) o hs iv l) (h : lsz l ≤ 1048576) : LR w A n B m C o l := by
  have := lo_few G h
  exact lo_lr G (by omega) (by omega) (by omega)
def NoP (w : World) (l : Ln) (p : Pkt) (ok : Bool) (e : Ending) (w' : World) : Prop :=
  ∃ A n c B m d C o f hs iv, e = .returned (.tuple #[.agg #[.slice A n c, .slice B m d, .slice C o f], .agg #[.int .i64 p.peer, .int .i64 p.lane, .int .i64 p.size, .int .i64 p.id], .bool ok]) ∧ LO w' w.heap.size (.slice A n c) n (.slice B m d) m (.slice C o f) o hs iv l ∧ Below w.heap.size w w'
def NoSP (w : World) (l : Ln) (p : Pkt) (ok : Bool) (e : Ending) (w' : World) : Prop :=
  ∃ A n c B m d C o f, e = .returned (.tuple #[.agg #[.slice A n c, .slice B m d, .slice C o f], .agg #[.int .i64 p.peer, .int .i64 p.lane, .int .i64 p.size, .int .i64 p.id], .bool ok]) ∧ LR w' A n B m C o l ∧ Below w.heap.size w w'
theorem both (l : Ln) : ∃ (l2 : Ln) (p : Pkt) (ok : Bool), lsz l2 ≤ 1048576 ∧
    Hid (∀ (A : Option Addr) (n c : Nat) (B : Option Addr) (m d : Nat) (C : Option Addr) (o f : Nat) (w : World), LR w A n B m C o l → Calls Try.prog 17 #[.agg #[.slice A n c, .slice B m d, .slice C o f]] w (NoSP w l2 p ok)) ∧
    Hid (∀ (A : Option Addr) (n c : Nat) (B : Option Addr) (m d : Nat) (C : Option Addr) (o f : Nat) (w : World), LR w A n B m C o l → Calls Try.prog 16 #[.agg #[.slice A n c, .slice B m d, .slice C o f]] w (NoP w l2 p ok)) := by
  by_cases hk : ∃ i, NoOk l i
  · obtain ⟨i, hk⟩ := hk
    refine ⟨nxN l i, nxQ l i, true, lsz_lv (lv_next hk.1 hk.2).1, Lib.hid fun A n c B m d C o f w h => (noS_yes A n c B m d C o f l i w h hk).mono fun _ _ hp => ?_, Lib.hid fun A n c B m d C o f w h => (noI_yes A n c B m d C o f l i w h hk).mono fun _ _ hp => ?_⟩
    · obtain ⟨A, c, B, d, C, f, h1, h2, h3⟩ := hp
      exact ⟨A, 4, c, B, 4, d, C, 4, f, h1, h2, h3⟩
    · obtain ⟨A, c, B, d, C, f, hs, iv, s, h1, h0, h2, -, h3⟩ := hp
      exact ⟨A, 4, c, B, 4, d, C, 4, f, hs, iv, h1, lo_mono h2 h0, h3⟩
  · refine ⟨⟨[], [], []⟩, ⟨0, 0, 0, 0⟩, false, by simp [lsz, rsz], Lib.hid fun A n c B m d C o f w h => (noS_no A n c B m d C o f l w h hk).mono fun _ _ hp => ⟨none, 0, 0, none, 0, 0, none, 0, 0, hp.1, lr_nil _ _ _ _, hp.2⟩, Lib.hid fun A n c B m d C o f w h => (noI_no A n c B m d C o f l w h hk).mono fun _ _ hp => ⟨none, 0, 0, none, 0, 0, none, 0, 0, [], _, hp.1, lo_nil _ _, hp.2⟩⟩
set_option maxRecDepth 100000 in
set_option maxHeartbeats 8000000 in
theorem walk (A : Option Addr) (n c : Nat) (B : Option Addr) (m d : Nat) (C : Option Addr) (o f : Nat) (l : Ln) (w : World) (h : LA w A n B m C o l) :
    Calls Try.prog 12 #[.agg #[.slice A n c, .slice B m d, .slice C o f]] w fun e w' => e = .returned (.bool true) ∧ Below w.heap.size w w' := by
  have H := Lib.hid h
  have HL := Lib.hid (la_lens h)
  have B0 := Lib.hid (below_alloc (Below.refl w.heap.size w) (.cells #[.slice A n c, .slice B m d, .slice C o f] 65))
  have A0 := Lib.hid (blk_new w 65 #[.slice A n c, .slice B m d, .slice C o f])
  clear h
  by_cases hbig : lsz l ≤ 1048576
  · obtain ⟨l2, p, ok, hl2, HS0, HI0⟩ := both l
    have n0 : n ≤ 1048576 := by have := HL.out.2.2.2; omega
    have m0 : m ≤ 1048576 := by have := HL.out.2.2.2; omega
    have o0 : o ≤ 1048576 := by have := HL.out.2.2.2; omega
    have hcl := cntL_bd hbig
    have kx : decide (1 + cntL l < 0) = false := by simp; omega
    have kx0 : 0 ≤ 1 + cntL l := by omega
    have hle : ¬ (1048576 : Int) < (lsz l : Int) := by omega
    have hd : decide ((1048576 : Int) - (lsz l : Int) < 0) = false := by simp; omega
    have hcg := cntL_bd hl2
    have kg : 0 ≤ 1 + cntL l2 ∧ 1 + cntL l2 ≤ 6000000 := by omega
    have kg0 : decide (1 + cntL l2 < 0) = false := by simp; omega
    clear hcl hcg
    go_enter Try.func12, Try.ntmps12
    go_wp2_with fail
    refine (szLanes_any A n c B m d C o f l 1048576 _ (la_below H.out B0.out) (by omega)).mono ?_
    rintro e w1 ⟨rfl, hb⟩
    rw [if_neg (by omega)]
    have B1 := Lib.hid (below_seq B0.out hb)
    have A1 := Lib.hid (blk_below A0.out hb (by simp))
    clear hb hle
    obtain ⟨⟨q0, q1, q2⟩, -⟩ := blk_three (A1.out)
    go_wp2_with fail
    refine (toLanes_any A n c B m d C o f l _ (la_below H.out B1.out) hbig).mono ?_
    rintro e w2 ⟨A2, B2', C2, hs2, iv2, rfl, hD, -, hb⟩
    have X2 := Lib.hid (lo_lr hD (by omega) (by omega) (by omega))
    have B2 := Lib.hid (below_seq B1.out hb)
    have A2b := Lib.hid (blk_below A1.out hb (blk_lt A1.out))
    clear hb hD q0 q1 q2
    go_wp2_with fail
    refine (HS0.out A2 n n B2' m m C2 o o _ X2.out).mono ?_
    rintro e w3 ⟨Aw, nw, cw, Bw, mw, dw, Cw, ow, fw, rfl, hF, hb⟩
    have B3 := Lib.hid (below_seq B2.out hb)
    have A3 := Lib.hid (blk_below A2b.out hb (blk_lt A2b.out))
    have FW := Lib.hid hF
    have za : w.heap.size < w3.heap.size := blk_lt A3.out
    clear hb X2 A2b hF
    have F3 : Hid (Fm w3 [] w3) := Lib.hid (fm_zero w3)
    have F3a : Hid (Fm w3 [⟨w3.heap.size, w3.heap.size + 1, BoxP (w3.heap.size) 26 #[.slice Aw nw cw, .slice Bw mw dw, .slice Cw ow fw]⟩] (w3.alloc (.cells #[.slice Aw nw cw, .slice Bw mw dw, .slice Cw ow fw] 26))) := Lib.hid (fm_push F3.out (by simp) _ _)
    clear F3
    have F3b : Hid (Fm w3 [⟨w3.heap.size, w3.heap.size + 1, BoxP (w3.heap.size) 26 #[.slice Aw nw cw, .slice Bw mw dw, .slice Cw ow fw]⟩, ⟨w3.heap.size + 1, w3.heap.size + 2, BoxP (w3.heap.size + 1) 29 #[.int .i64 p.peer, .int .i64 p.lane, .int .i64 p.size, .int .i64 p.id]⟩] ((w3.alloc (.cells #[.slice Aw nw cw, .slice Bw mw dw, .slice Cw ow fw] 26)).alloc (.cells #[.int .i64 p.peer, .int .i64 p.lane, .int .i64 p.size, .int .i64 p.id] 29))) := Lib.hid (fm_push F3a.out (by simp) _ _)
    clear F3a
    obtain ⟨⟨q0, q1, q2⟩, -⟩ := blk_three (blk_below A3.out F3b.out.below za)
    go_wp2_with fail
    refine (toLanes_any A n c B m d C o f l _ (la_below H.out (below_seq B3.out F3b.out.below)) hbig).mono ?_
    rintro e w4 ⟨A4, B4', C4, hs4, iv4, rfl, hD, -, hb⟩
    have F4 : Hid (Fm w3 [⟨w3.heap.size, w3.heap.size + 1, BoxP (w3.heap.size) 26 #[.slice Aw nw cw, .slice Bw mw dw, .slice Cw ow fw]⟩, ⟨w3.heap.size + 1, w3.heap.size + 2, BoxP (w3.heap.size + 1) 29 #[.int .i64 p.peer, .int .i64 p.lane, .int .i64 p.size, .int .i64 p.id]⟩, ⟨w3.heap.size + 2, w4.heap.size, LI (w3.heap.size + 2) w4.heap.size (.slice A4 n n) n (.slice B4' m m) m (.slice C4 o o) o hs4 iv4 l⟩] w4) := Lib.hid (fm_li F3b.out hb hD (by simp))
    clear F3b
    clear hb hD q0 q1 q2
    have F4b : Hid (Fm w3 [⟨w3.heap.size, w3.heap.size + 1, BoxP (w3.heap.size) 26 #[.slice Aw nw cw, .slice Bw mw dw, .slice Cw ow fw]⟩, ⟨w3.heap.size + 1, w3.heap.size + 2, BoxP (w3.heap.size + 1) 29 #[.int .i64 p.peer, .int .i64 p.lane, .int .i64 p.size, .int .i64 p.id]⟩, ⟨w3.heap.size + 2, w4.heap.size, LI (w3.heap.size + 2) w4.heap.size (.slice A4 n n) n (.slice B4' m m) m (.slice C4 o o) o hs4 iv4 l⟩, ⟨w4.heap.size, w4.heap.size + 1, BoxP (w4.heap.size) 26 #[.slice A4 n n, .slice B4' m m, .slice C4 o o]⟩] (w4.alloc (.cells #[.slice A4 n n, .slice B4' m m, .slice C4 o o] 26))) := Lib.hid (fm_push F4.out (by simp) _ _)
    clear F4
    obtain ⟨⟨x0, x1, x2⟩, -⟩ := blk_three (fm_blk F4b.out 3 rfl)
    go_wp2_with fail
    refine (HI0.out A4 n n B4' m m C4 o o _ (li_lr (fm_get F4b.out 2 rfl) (by omega) (by omega) (by omega))).mono ?_
    rintro e w5 ⟨Ag, ng, cg, Bg, mg, dg, Cg, og, fg, hsg, ivg, rfl, hD, hb⟩
    obtain ⟨lng, lmg, log⟩ := lo_few hD hl2
    have F5 : Hid (Fm w3 [⟨w3.heap.size, w3.heap.size + 1, BoxP (w3.heap.size) 26 #[.slice Aw nw cw, .slice Bw mw dw, .slice Cw ow fw]⟩, ⟨w3.heap.size + 1, w3.heap.size + 2, BoxP (w3.heap.size + 1) 29 #[.int .i64 p.peer, .int .i64 p.lane, .int .i64 p.size, .int .i64 p.id]⟩, ⟨w3.heap.size + 2, w4.heap.size, LI (w3.heap.size + 2) w4.heap.size (.slice A4 n n) n (.slice B4' m m) m (.slice C4 o o) o hs4 iv4 l⟩, ⟨w4.heap.size, w4.heap.size + 1, BoxP (w4.heap.size) 26 #[.slice A4 n n, .slice B4' m m, .slice C4 o o]⟩, ⟨w4.heap.size + 1, w5.heap.size, LI (w4.heap.size + 1) w5.heap.size (.slice Ag ng cg) ng (.slice Bg mg dg) mg (.slice Cg og fg) og hsg ivg l2⟩] w5) := Lib.hid (fm_li F4b.out hb hD (by simp))
    clear F4b
    clear hb hD
    clear x0 x1 x2
    have F5a : Hid (Fm w3 [⟨w3.heap.size, w3.heap.size + 1, BoxP (w3.heap.size) 26 #[.slice Aw nw cw, .slice Bw mw dw, .slice Cw ow fw]⟩, ⟨w3.heap.size + 1, w3.heap.size + 2, BoxP (w3.heap.size + 1) 29 #[.int .i64 p.peer, .int .i64 p.lane, .int .i64 p.size, .int .i64 p.id]⟩, ⟨w3.heap.size + 2, w4.heap.size, LI (w3.heap.size + 2) w4.heap.size (.slice A4 n n) n (.slice B4' m m) m (.slice C4 o o) o hs4 iv4 l⟩, ⟨w4.heap.size, w4.heap.size + 1, BoxP (w4.heap.size) 26 #[.slice A4 n n, .slice B4' m m, .slice C4 o o]⟩, ⟨w4.heap.size + 1, w5.heap.size, LI (w4.heap.size + 1) w5.heap.size (.slice Ag ng cg) ng (.slice Bg mg dg) mg (.slice Cg og fg) og hsg ivg l2⟩, ⟨w5.heap.size, w5.heap.size + 1, BoxP (w5.heap.size) 26 #[.slice Ag ng cg, .slice Bg mg dg, .slice Cg og fg]⟩] (w5.alloc (.cells #[.slice Ag ng cg, .slice Bg mg dg, .slice Cg og fg] 26))) := Lib.hid (fm_push F5.out (by simp) _ _)
    clear F5
    have F5b : Hid (Fm w3 [⟨w3.heap.size, w3.heap.size + 1, BoxP (w3.heap.size) 26 #[.slice Aw nw cw, .slice Bw mw dw, .slice Cw ow fw]⟩, ⟨w3.heap.size + 1, w3.heap.size + 2, BoxP (w3.heap.size + 1) 29 #[.int .i64 p.peer, .int .i64 p.lane, .int .i64 p.size, .int .i64 p.id]⟩, ⟨w3.heap.size + 2, w4.heap.size, LI (w3.heap.size + 2) w4.heap.size (.slice A4 n n) n (.slice B4' m m) m (.slice C4 o o) o hs4 iv4 l⟩, ⟨w4.heap.size, w4.heap.size + 1, BoxP (w4.heap.size) 26 #[.slice A4 n n, .slice B4' m m, .slice C4 o o]⟩, ⟨w4.heap.size + 1, w5.heap.size, LI (w4.heap.size + 1) w5.heap.size (.slice Ag ng cg) ng (.slice Bg mg dg) mg (.slice Cg og fg) og hsg ivg l2⟩, ⟨w5.heap.size, w5.heap.size + 1, BoxP (w5.heap.size) 26 #[.slice Ag ng cg, .slice Bg mg dg, .slice Cg og fg]⟩, ⟨w5.heap.size + 1, w5.heap.size + 2, BoxP (w5.heap.size + 1) 29 #[.int .i64 p.peer, .int .i64 p.lane, .int .i64 p.size, .int .i64 p.id]⟩] ((w5.alloc (.cells #[.slice Ag ng cg, .slice Bg mg dg, .slice Cg og fg] 26)).alloc (.cells #[.int .i64 p.peer, .int .i64 p.lane, .int .i64 p.size, .int .i64 p.id] 29))) := Lib.hid (fm_push F5a.out (by simp) _ _)
    clear F5a
    obtain ⟨⟨g0, g1, g2⟩, -⟩ := blk_three (fm_blk F5b.out 5 rfl)
    obtain ⟨⟨u0, u1, u2⟩, -⟩ := blk_three (fm_blk F5b.out 0 rfl)
    go_wp2_with fail
    refine (eqLanes_same Ag Aw ng cg nw cw Bg Bw mg dg mw dw Cg Cw og fg ow fw l2 _ (li_lr (fm_get F5b.out 4 rfl) (by omega) (by omega) (by omega)) (lr_below FW.out F5b.out.below)).mono ?_
    rintro e w8a ⟨rfl, hb⟩
    have Fw8a : Hid (Fm w3 [⟨w3.heap.size, w3.heap.size + 1, BoxP (w3.heap.size) 26 #[.slice Aw nw cw, .slice Bw mw dw, .slice Cw ow fw]⟩, ⟨w3.heap.size + 1, w3.heap.size + 2, BoxP (w3.heap.size + 1) 29 #[.int .i64 p.peer, .int .i64 p.lane, .int .i64 p.size, .int .i64 p.id]⟩, ⟨w3.heap.size + 2, w4.heap.size, LI (w3.heap.size + 2) w4.heap.size (.slice A4 n n) n (.slice B4' m m) m (.slice C4 o o) o hs4 iv4 l⟩, ⟨w4.heap.size, w4.heap.size + 1, BoxP (w4.heap.size) 26 #[.slice A4 n n, .slice B4' m m, .slice C4 o o]⟩, ⟨w4.heap.size + 1, w5.heap.size, LI (w4.heap.size + 1) w5.heap.size (.slice Ag ng cg) ng (.slice Bg mg dg) mg (.slice Cg og fg) og hsg ivg l2⟩, ⟨w5.heap.size, w5.heap.size + 1, BoxP (w5.heap.size) 26 #[.slice Ag ng cg, .slice Bg mg dg, .slice Cg og fg]⟩, ⟨w5.heap.size + 1, w5.heap.size + 2, BoxP (w5.heap.size + 1) 29 #[.int .i64 p.peer, .int .i64 p.lane, .int .i64 p.size, .int .i64 p.id]⟩] w8a) := Lib.hid (fm_below F5b.out hb)
    clear F5b
    clear hb g0 g1 g2 u0 u1 u2
    obtain ⟨⟨g0, g1, g2, g3⟩, -⟩ := blk_fourR (fm_blk Fw8a.out 6 rfl)
    obtain ⟨⟨u0, u1, u2, u3⟩, -⟩ := blk_fourR (fm_blk Fw8a.out 1 rfl)
    go_wp2_with fail
    refine (eqPacket_any p p _).mono ?_
    rintro e w8b ⟨rfl, hb⟩
    rw [← pktB_yes rfl]
    have Fw8b : Hid (Fm w3 [⟨w3.heap.size, w3.heap.size + 1, BoxP (w3.heap.size) 26 #[.slice Aw nw cw, .slice Bw mw dw, .slice Cw ow fw]⟩, ⟨w3.heap.size + 1, w3.heap.size + 2, BoxP (w3.heap.size + 1) 29 #[.int .i64 p.peer, .int .i64 p.lane, .int .i64 p.size, .int .i64 p.id]⟩, ⟨w3.heap.size + 2, w4.heap.size, LI (w3.heap.size + 2) w4.heap.size (.slice A4 n n) n (.slice B4' m m) m (.slice C4 o o) o hs4 iv4 l⟩, ⟨w4.heap.size, w4.heap.size + 1, BoxP (w4.heap.size) 26 #[.slice A4 n n, .slice B4' m m, .slice C4 o o]⟩, ⟨w4.heap.size + 1, w5.heap.size, LI (w4.heap.size + 1) w5.heap.size (.slice Ag ng cg) ng (.slice Bg mg dg) mg (.slice Cg og fg) og hsg ivg l2⟩, ⟨w5.heap.size, w5.heap.size + 1, BoxP (w5.heap.size) 26 #[.slice Ag ng cg, .slice Bg mg dg, .slice Cg og fg]⟩, ⟨w5.heap.size + 1, w5.heap.size + 2, BoxP (w5.heap.size + 1) 29 #[.int .i64 p.peer, .int .i64 p.lane, .int .i64 p.size, .int .i64 p.id]⟩] w8b) := Lib.hid (fm_below Fw8a.out hb)
    clear Fw8a
    clear hb g0 g1 g2 g3 u0 u1 u2 u3
    have hS := fm_rd3c (fm_drew Fw8b.out) A3.out 3 rfl
    go_wp2_with fail
    go_region_held3 (fun w' => (w'.cell? ⟨w.heap.size, 0, none⟩ = some (.slice A n c) ∧ w'.cell? ⟨w.heap.size, 1, none⟩ = some (.slice B m d) ∧ w'.cell? ⟨w.heap.size, 2, none⟩ = some (.slice C o f)) ∧ (w'.cell? ⟨w4.heap.size, 0, none⟩ = some (.slice A4 n n) ∧ w'.cell? ⟨w4.heap.size, 1, none⟩ = some (.slice B4' m m) ∧ w'.cell? ⟨w4.heap.size, 2, none⟩ = some (.slice C4 o o)) ∧ Fm w3 [⟨w3.heap.size, w3.heap.size + 1, BoxP (w3.heap.size) 26 #[.slice Aw nw cw, .slice Bw mw dw, .slice Cw ow fw]⟩, ⟨w3.heap.size + 1, w3.heap.size + 2, BoxP (w3.heap.size + 1) 29 #[.int .i64 p.peer, .int .i64 p.lane, .int .i64 p.size, .int .i64 p.id]⟩, ⟨w3.heap.size + 2, w4.heap.size, LI (w3.heap.size + 2) w4.heap.size (.slice A4 n n) n (.slice B4' m m) m (.slice C4 o o) o hs4 iv4 l⟩, ⟨w4.heap.size, w4.heap.size + 1, BoxP (w4.heap.size) 26 #[.slice A4 n n, .slice B4' m m, .slice C4 o o]⟩, ⟨w4.heap.size + 1, w5.heap.size, LI (w4.heap.size + 1) w5.heap.size (.slice Ag ng cg) ng (.slice Bg mg dg) mg (.slice Cg og fg) og hsg ivg l2⟩, ⟨w5.heap.size, w5.heap.size + 1, BoxP (w5.heap.size) 26 #[.slice Ag ng cg, .slice Bg mg dg, .slice Cg og fg]⟩, ⟨w5.heap.size + 1, w5.heap.size + 2, BoxP (w5.heap.size + 1) 29 #[.int .i64 p.peer, .int .i64 p.lane, .int .i64 p.size, .int .i64 p.id]⟩] w')
      (first | (with_reducible assumption) | fail)
      (first
        | (go_at_call 43
           refine (eqLanes_same A4 A6 n n n n B4' B6 m m m m C4 C6 o o o o l _ (li_lr (fm_get FX6.out 2 rfl) (by omega) (by omega) (by omega)) PX6.out).mono ?_
           rintro e w7 ⟨rfl, hb7⟩
           have FX7 : Hid (Fm w3 [⟨w3.heap.size, w3.heap.size + 1, BoxP (w3.heap.size) 26 #[.slice Aw nw cw, .slice Bw mw dw, .slice Cw ow fw]⟩, ⟨w3.heap.size + 1, w3.heap.size + 2, BoxP (w3.heap.size + 1) 29 #[.int .i64 p.peer, .int .i64 p.lane, .int .i64 p.size, .int .i64 p.id]⟩, ⟨w3.heap.size + 2, w4.heap.size, LI (w3.heap.size + 2) w4.heap.size (.slice A4 n n) n (.slice B4' m m) m (.slice C4 o o) o hs4 iv4 l⟩, ⟨w4.heap.size, w4.heap.size + 1, BoxP (w4.heap.size) 26 #[.slice A4 n n, .slice B4' m m, .slice C4 o o]⟩, ⟨w4.heap.size + 1, w5.heap.size, LI (w4.heap.size + 1) w5.heap.size (.slice Ag ng cg) ng (.slice Bg mg dg) mg (.slice Cg og fg) og hsg ivg l2⟩, ⟨w5.heap.size, w5.heap.size + 1, BoxP (w5.heap.size) 26 #[.slice Ag ng cg, .slice Bg mg dg, .slice Cg og fg]⟩, ⟨w5.heap.size + 1, w5.heap.size + 2, BoxP (w5.heap.size + 1) 29 #[.int .i64 p.peer, .int .i64 p.lane, .int .i64 p.size, .int .i64 p.id]⟩] w7) := Lib.hid (fm_below FX6.out hb7)
           have hS7 := fm_rd3c FX7.out A3.out 3 rfl
           clear hb7)
        | (go_at_call 42
           refine (toLanes_any A n c B m d C o f l _ (la_below H.out (below_seq B3.out (fm_drew Fw8b.out).below)) hbig).mono ?_
           rintro e w6 ⟨A6, B6, C6, hs6, iv6, rfl, ho6, -, hb6⟩
           have PX6 := Lib.hid (lo_lr ho6 (by omega) (by omega) (by omega))
           have FX6 : Hid (Fm w3 [⟨w3.heap.size, w3.heap.size + 1, BoxP (w3.heap.size) 26 #[.slice Aw nw cw, .slice Bw mw dw, .slice Cw ow fw]⟩, ⟨w3.heap.size + 1, w3.heap.size + 2, BoxP (w3.heap.size + 1) 29 #[.int .i64 p.peer, .int .i64 p.lane, .int .i64 p.size, .int .i64 p.id]⟩, ⟨w3.heap.size + 2, w4.heap.size, LI (w3.heap.size + 2) w4.heap.size (.slice A4 n n) n (.slice B4' m m) m (.slice C4 o o) o hs4 iv4 l⟩, ⟨w4.heap.size, w4.heap.size + 1, BoxP (w4.heap.size) 26 #[.slice A4 n n, .slice B4' m m, .slice C4 o o]⟩, ⟨w4.heap.size + 1, w5.heap.size, LI (w4.heap.size + 1) w5.heap.size (.slice Ag ng cg) ng (.slice Bg mg dg) mg (.slice Cg og fg) og hsg ivg l2⟩, ⟨w5.heap.size, w5.heap.size + 1, BoxP (w5.heap.size) 26 #[.slice Ag ng cg, .slice Bg mg dg, .slice Cg og fg]⟩, ⟨w5.heap.size + 1, w5.heap.size + 2, BoxP (w5.heap.size + 1) 29 #[.int .i64 p.peer, .int .i64 p.lane, .int .i64 p.size, .int .i64 p.id]⟩] w6) := Lib.hid (fm_below (fm_drew Fw8b.out) hb6)
           have hS6 := fm_rd3c FX6.out A3.out 3 rfl
           clear hb6 ho6))
    all_goals
      clear PX6 FX6 Fw8b hS hS6 hS7
      obtain ⟨⟨x0, x1, x2⟩, -⟩ := blk_three (fm_blk FX7.out 3 rfl)
      go_wp2_with fail
      refine (markLanes_any (w3.heap.size + 2) w4.heap.size A4 n n B4' m m C4 o o hs4 iv4 l 1 _ (fm_get FX7.out 2 rfl) (fm_lt FX7.out 2 rfl).2.2 hbig (by omega)).mono ?_
      rintro e w10 ⟨cur, rfl, hD, hc, -⟩
      have F10 : Hid (Fm w3 [⟨w3.heap.size, w3.heap.size + 1, BoxP (w3.heap.size) 26 #[.slice Aw nw cw, .slice Bw mw dw, .slice Cw ow fw]⟩, ⟨w3.heap.size + 1, w3.heap.size + 2, BoxP (w3.heap.size + 1) 29 #[.int .i64 p.peer, .int .i64 p.lane, .int .i64 p.size, .int .i64 p.id]⟩, ⟨w3.heap.size + 2, w4.heap.size, LI (w3.heap.size + 2) w4.heap.size (.slice A4 n n) n (.slice B4' m m) m (.slice C4 o o) o cur iv4 (markLn l 1)⟩, ⟨w4.heap.size, w4.heap.size + 1, BoxP (w4.heap.size) 26 #[.slice A4 n n, .slice B4' m m, .slice C4 o o]⟩, ⟨w4.heap.size + 1, w5.heap.size, LI (w4.heap.size + 1) w5.heap.size (.slice Ag ng cg) ng (.slice Bg mg dg) mg (.slice Cg og fg) og hsg ivg l2⟩, ⟨w5.heap.size, w5.heap.size + 1, BoxP (w5.heap.size) 26 #[.slice Ag ng cg, .slice Bg mg dg, .slice Cg og fg]⟩, ⟨w5.heap.size + 1, w5.heap.size + 2, BoxP (w5.heap.size + 1) 29 #[.int .i64 p.peer, .int .i64 p.lane, .int .i64 p.size, .int .i64 p.id]⟩] w10) := Lib.hid (fm_put FX7.out 2 rfl hc (at_li hD (Nat.le_trans (fm_lt FX7.out 2 rfl).2.2 hc.size)))
      clear FX7
      clear hD hc x0 x1 x2
      obtain ⟨⟨g0, g1, g2⟩, -⟩ := blk_three (fm_blk F10.out 5 rfl)
      obtain ⟨⟨u0, u1, u2⟩, -⟩ := blk_three (fm_blk F10.out 0 rfl)
      go_wp2_with fail
      refine (eqLanes_same Ag Aw ng cg nw cw Bg Bw mg dg mw dw Cg Cw og fg ow fw l2 _ (li_lr (fm_get F10.out 4 rfl) (by omega) (by omega) (by omega)) (lr_below FW.out F10.out.below)).mono ?_
      rintro e w11a ⟨rfl, hb⟩
      have Fw11a : Hid (Fm w3 [⟨w3.heap.size, w3.heap.size + 1, BoxP (w3.heap.size) 26 #[.slice Aw nw cw, .slice Bw mw dw, .slice Cw ow fw]⟩, ⟨w3.heap.size + 1, w3.heap.size + 2, BoxP (w3.heap.size + 1) 29 #[.int .i64 p.peer, .int .i64 p.lane, .int .i64 p.size, .int .i64 p.id]⟩, ⟨w3.heap.size + 2, w4.heap.size, LI (w3.heap.size + 2) w4.heap.size (.slice A4 n n) n (.slice B4' m m) m (.slice C4 o o) o cur iv4 (markLn l 1)⟩, ⟨w4.heap.size, w4.heap.size + 1, BoxP (w4.heap.size) 26 #[.slice A4 n n, .slice B4' m m, .slice C4 o o]⟩, ⟨w4.heap.size + 1, w5.heap.size, LI (w4.heap.size + 1) w5.heap.size (.slice Ag ng cg) ng (.slice Bg mg dg) mg (.slice Cg og fg) og hsg ivg l2⟩, ⟨w5.heap.size, w5.heap.size + 1, BoxP (w5.heap.size) 26 #[.slice Ag ng cg, .slice Bg mg dg, .slice Cg og fg]⟩, ⟨w5.heap.size + 1, w5.heap.size + 2, BoxP (w5.heap.size + 1) 29 #[.int .i64 p.peer, .int .i64 p.lane, .int .i64 p.size, .int .i64 p.id]⟩] w11a) := Lib.hid (fm_below F10.out hb)
      clear F10
      clear hb g0 g1 g2 u0 u1 u2
      obtain ⟨⟨g0, g1, g2, g3⟩, -⟩ := blk_fourR (fm_blk Fw11a.out 6 rfl)
      obtain ⟨⟨u0, u1, u2, u3⟩, -⟩ := blk_fourR (fm_blk Fw11a.out 1 rfl)
      go_wp2_with fail
      refine (eqPacket_any p p _).mono ?_
      rintro e w11b ⟨rfl, hb⟩
      rw [← pktB_yes rfl]
      have Fw11b : Hid (Fm w3 [⟨w3.heap.size, w3.heap.size + 1, BoxP (w3.heap.size) 26 #[.slice Aw nw cw, .slice Bw mw dw, .slice Cw ow fw]⟩, ⟨w3.heap.size + 1, w3.heap.size + 2, BoxP (w3.heap.size + 1) 29 #[.int .i64 p.peer, .int .i64 p.lane, .int .i64 p.size, .int .i64 p.id]⟩, ⟨w3.heap.size + 2, w4.heap.size, LI (w3.heap.size + 2) w4.heap.size (.slice A4 n n) n (.slice B4' m m) m (.slice C4 o o) o cur iv4 (markLn l 1)⟩, ⟨w4.heap.size, w4.heap.size + 1, BoxP (w4.heap.size) 26 #[.slice A4 n n, .slice B4' m m, .slice C4 o o]⟩, ⟨w4.heap.size + 1, w5.heap.size, LI (w4.heap.size + 1) w5.heap.size (.slice Ag ng cg) ng (.slice Bg mg dg) mg (.slice Cg og fg) og hsg ivg l2⟩, ⟨w5.heap.size, w5.heap.size + 1, BoxP (w5.heap.size) 26 #[.slice Ag ng cg, .slice Bg mg dg, .slice Cg og fg]⟩, ⟨w5.heap.size + 1, w5.heap.size + 2, BoxP (w5.heap.size + 1) 29 #[.int .i64 p.peer, .int .i64 p.lane, .int .i64 p.size, .int .i64 p.id]⟩] w11b) := Lib.hid (fm_below Fw11a.out hb)
      clear Fw11a
      clear hb g0 g1 g2 g3 u0 u1 u2 u3
      obtain ⟨⟨g0, g1, g2⟩, -⟩ := blk_three (fm_blk Fw11b.out 5 rfl)
      go_wp2_with fail
      refine (markLanes_any (w4.heap.size + 1) w5.heap.size Ag ng cg Bg mg dg Cg og fg hsg ivg l2 1 _ (fm_get Fw11b.out 4 rfl) (fm_lt Fw11b.out 4 rfl).2.2 hl2 (by omega)).mono ?_
      rintro e w12 ⟨curg, rfl, hD, hc, -⟩
      have F12 : Hid (Fm w3 [⟨w3.heap.size, w3.heap.size + 1, BoxP (w3.heap.size) 26 #[.slice Aw nw cw, .slice Bw mw dw, .slice Cw ow fw]⟩, ⟨w3.heap.size + 1, w3.heap.size + 2, BoxP (w3.heap.size + 1) 29 #[.int .i64 p.peer, .int .i64 p.lane, .int .i64 p.size, .int .i64 p.id]⟩, ⟨w3.heap.size + 2, w4.heap.size, LI (w3.heap.size + 2) w4.heap.size (.slice A4 n n) n (.slice B4' m m) m (.slice C4 o o) o cur iv4 (markLn l 1)⟩, ⟨w4.heap.size, w4.heap.size + 1, BoxP (w4.heap.size) 26 #[.slice A4 n n, .slice B4' m m, .slice C4 o o]⟩, ⟨w4.heap.size + 1, w5.heap.size, LI (w4.heap.size + 1) w5.heap.size (.slice Ag ng cg) ng (.slice Bg mg dg) mg (.slice Cg og fg) og curg ivg (markLn l2 1)⟩, ⟨w5.heap.size, w5.heap.size + 1, BoxP (w5.heap.size) 26 #[.slice Ag ng cg, .slice Bg mg dg, .slice Cg og fg]⟩, ⟨w5.heap.size + 1, w5.heap.size + 2, BoxP (w5.heap.size + 1) 29 #[.int .i64 p.peer, .int .i64 p.lane, .int .i64 p.size, .int .i64 p.id]⟩] w12) := Lib.hid (fm_put Fw11b.out 4 rfl hc (at_li hD (Nat.le_trans (fm_lt Fw11b.out 4 rfl).2.2 hc.size)))
      clear Fw11b
      clear hD hc g0 g1 g2
      obtain ⟨⟨g0, g1, g2⟩, -⟩ := blk_three (fm_blk F12.out 5 rfl)
      go_wp2_with fail
      refine (heldLanes_any Ag ng cg Bg mg dg Cg og fg l2 1 _ (li_lr (fm_get F12.out 4 rfl) (by omega) (by omega) (by omega)) hl2 (by omega)).mono ?_
      rintro e w13a ⟨rfl, hb⟩
      have Fw13a : Hid (Fm w3 [⟨w3.heap.size, w3.heap.size + 1, BoxP (w3.heap.size) 26 #[.slice Aw nw cw, .slice Bw mw dw, .slice Cw ow fw]⟩, ⟨w3.heap.size + 1, w3.heap.size + 2, BoxP (w3.heap.size + 1) 29 #[.int .i64 p.peer, .int .i64 p.lane, .int .i64 p.size, .int .i64 p.id]⟩, ⟨w3.heap.size + 2, w4.heap.size, LI (w3.heap.size + 2) w4.heap.size (.slice A4 n n) n (.slice B4' m m) m (.slice C4 o o) o cur iv4 (markLn l 1)⟩, ⟨w4.heap.size, w4.heap.size + 1, BoxP (w4.heap.size) 26 #[.slice A4 n n, .slice B4' m m, .slice C4 o o]⟩, ⟨w4.heap.size + 1, w5.heap.size, LI (w4.heap.size + 1) w5.heap.size (.slice Ag ng cg) ng (.slice Bg mg dg) mg (.slice Cg og fg) og curg ivg (markLn l2 1)⟩, ⟨w5.heap.size, w5.heap.size + 1, BoxP (w5.heap.size) 26 #[.slice Ag ng cg, .slice Bg mg dg, .slice Cg og fg]⟩, ⟨w5.heap.size + 1, w5.heap.size + 2, BoxP (w5.heap.size + 1) 29 #[.int .i64 p.peer, .int .i64 p.lane, .int .i64 p.size, .int .i64 p.id]⟩] w13a) := Lib.hid (fm_below F12.out hb)
      clear F12
      clear hb g0 g1 g2
      obtain ⟨⟨q0, q1, q2⟩, -⟩ := blk_three (blk_below A3.out Fw13a.out.below za)
      go_wp2_with fail
      refine (toLanes_any A n c B m d C o f l _ (la_below H.out (below_seq B3.out Fw13a.out.below)) hbig).mono ?_
      rintro e w14 ⟨A14, B14, C14, hs14, iv14, rfl, hD, -, hb⟩
      have X14 := Lib.hid (lo_lr hD (by omega) (by omega) (by omega))
      have F14 : Hid (Fm w3 [⟨w3.heap.size, w3.heap.size + 1, BoxP (w3.heap.size) 26 #[.slice Aw nw cw, .slice Bw mw dw, .slice Cw ow fw]⟩, ⟨w3.heap.size + 1, w3.heap.size + 2, BoxP (w3.heap.size + 1) 29 #[.int .i64 p.peer, .int .i64 p.lane, .int .i64 p.size, .int .i64 p.id]⟩, ⟨w3.heap.size + 2, w4.heap.size, LI (w3.heap.size + 2) w4.heap.size (.slice A4 n n) n (.slice B4' m m) m (.slice C4 o o) o cur iv4 (markLn l 1)⟩, ⟨w4.heap.size, w4.heap.size + 1, BoxP (w4.heap.size) 26 #[.slice A4 n n, .slice B4' m m, .slice C4 o o]⟩, ⟨w4.heap.size + 1, w5.heap.size, LI (w4.heap.size + 1) w5.heap.size (.slice Ag ng cg) ng (.slice Bg mg dg) mg (.slice Cg og fg) og curg ivg (markLn l2 1)⟩, ⟨w5.heap.size, w5.heap.size + 1, BoxP (w5.heap.size) 26 #[.slice Ag ng cg, .slice Bg mg dg, .slice Cg og fg]⟩, ⟨w5.heap.size + 1, w5.heap.size + 2, BoxP (w5.heap.size + 1) 29 #[.int .i64 p.peer, .int .i64 p.lane, .int .i64 p.size, .int .i64 p.id]⟩] w14) := Lib.hid (fm_below Fw13a.out hb)
      clear Fw13a
      clear hb hD q0 q1 q2
      go_wp2_with fail
      refine (HI0.out A14 n n B14 m m C14 o o _ X14.out).mono ?_
      rintro e w15 ⟨Ah, nh, ch, Bh, mh, dh, Ch, oh, fh, hsh, ivh, rfl, hD, hb⟩
      have FH := Lib.hid (lo_lrf hD hl2)
      have F15 : Hid (Fm w3 [⟨w3.heap.size, w3.heap.size + 1, BoxP (w3.heap.size) 26 #[.slice Aw nw cw, .slice Bw mw dw, .slice Cw ow fw]⟩, ⟨w3.heap.size + 1, w3.heap.size + 2, BoxP (w3.heap.size + 1) 29 #[.int .i64 p.peer, .int .i64 p.lane, .int .i64 p.size, .int .i64 p.id]⟩, ⟨w3.heap.size + 2, w4.heap.size, LI (w3.heap.size + 2) w4.heap.size (.slice A4 n n) n (.slice B4' m m) m (.slice C4 o o) o cur iv4 (markLn l 1)⟩, ⟨w4.heap.size, w4.heap.size + 1, BoxP (w4.heap.size) 26 #[.slice A4 n n, .slice B4' m m, .slice C4 o o]⟩, ⟨w4.heap.size + 1, w5.heap.size, LI (w4.heap.size + 1) w5.heap.size (.slice Ag ng cg) ng (.slice Bg mg dg) mg (.slice Cg og fg) og curg ivg (markLn l2 1)⟩, ⟨w5.heap.size, w5.heap.size + 1, BoxP (w5.heap.size) 26 #[.slice Ag ng cg, .slice Bg mg dg, .slice Cg og fg]⟩, ⟨w5.heap.size + 1, w5.heap.size + 2, BoxP (w5.heap.size + 1) 29 #[.int .i64 p.peer, .int .i64 p.lane, .int .i64 p.size, .int .i64 p.id]⟩] w15) := Lib.hid (fm_below F14.out hb)
      clear F14
      have F0 : Hid (Fm w15 [] w15) := Lib.hid (fm_zero w15)
      clear hb X14 hD
      have F15a : Hid (Fm w3 [⟨w3.heap.size, w3.heap.size + 1, BoxP (w3.heap.size) 26 #[.slice Aw nw cw, .slice Bw mw dw, .slice Cw ow fw]⟩, ⟨w3.heap.size + 1, w3.heap.size + 2, BoxP (w3.heap.size + 1) 29 #[.int .i64 p.peer, .int .i64 p.lane, .int .i64 p.size, .int .i64 p.id]⟩, ⟨w3.heap.size + 2, w4.heap.size, LI (w3.heap.size + 2) w4.heap.size (.slice A4 n n) n (.slice B4' m m) m (.slice C4 o o) o cur iv4 (markLn l 1)⟩, ⟨w4.heap.size, w4.heap.size + 1, BoxP (w4.heap.size) 26 #[.slice A4 n n, .slice B4' m m, .slice C4 o o]⟩, ⟨w4.heap.size + 1, w5.heap.size, LI (w4.heap.size + 1) w5.heap.size (.slice Ag ng cg) ng (.slice Bg mg dg) mg (.slice Cg og fg) og curg ivg (markLn l2 1)⟩, ⟨w5.heap.size, w5.heap.size + 1, BoxP (w5.heap.size) 26 #[.slice Ag ng cg, .slice Bg mg dg, .slice Cg og fg]⟩, ⟨w5.heap.size + 1, w5.heap.size + 2, BoxP (w5.heap.size + 1) 29 #[.int .i64 p.peer, .int .i64 p.lane, .int .i64 p.size, .int .i64 p.id]⟩, ⟨w15.heap.size, w15.heap.size + 1, BoxP (w15.heap.size) 26 #[.slice Ah nh ch, .slice Bh mh dh, .slice Ch oh fh]⟩] (w15.alloc (.cells #[.slice Ah nh ch, .slice Bh mh dh, .slice Ch oh fh] 26))) := Lib.hid (fm_push F15.out (by simp) _ _)
      clear F15
      have F15b : Hid (Fm w3 [⟨w3.heap.size, w3.heap.size + 1, BoxP (w3.heap.size) 26 #[.slice Aw nw cw, .slice Bw mw dw, .slice Cw ow fw]⟩, ⟨w3.heap.size + 1, w3.heap.size + 2, BoxP (w3.heap.size + 1) 29 #[.int .i64 p.peer, .int .i64 p.lane, .int .i64 p.size, .int .i64 p.id]⟩, ⟨w3.heap.size + 2, w4.heap.size, LI (w3.heap.size + 2) w4.heap.size (.slice A4 n n) n (.slice B4' m m) m (.slice C4 o o) o cur iv4 (markLn l 1)⟩, ⟨w4.heap.size, w4.heap.size + 1, BoxP (w4.heap.size) 26 #[.slice A4 n n, .slice B4' m m, .slice C4 o o]⟩, ⟨w4.heap.size + 1, w5.heap.size, LI (w4.heap.size + 1) w5.heap.size (.slice Ag ng cg) ng (.slice Bg mg dg) mg (.slice Cg og fg) og curg ivg (markLn l2 1)⟩, ⟨w5.heap.size, w5.heap.size + 1, BoxP (w5.heap.size) 26 #[.slice Ag ng cg, .slice Bg mg dg, .slice Cg og fg]⟩, ⟨w5.heap.size + 1, w5.heap.size + 2, BoxP (w5.heap.size + 1) 29 #[.int .i64 p.peer, .int .i64 p.lane, .int .i64 p.size, .int .i64 p.id]⟩, ⟨w15.heap.size, w15.heap.size + 1, BoxP (w15.heap.size) 26 #[.slice Ah nh ch, .slice Bh mh dh, .slice Ch oh fh]⟩, ⟨w15.heap.size + 1, w15.heap.size + 2, BoxP (w15.heap.size + 1) 29 #[.int .i64 p.peer, .int .i64 p.lane, .int .i64 p.size, .int .i64 p.id]⟩] ((w15.alloc (.cells #[.slice Ah nh ch, .slice Bh mh dh, .slice Ch oh fh] 26)).alloc (.cells #[.int .i64 p.peer, .int .i64 p.lane, .int .i64 p.size, .int .i64 p.id] 29))) := Lib.hid (fm_push F15a.out (by simp) _ _)
      clear F15a
      replace FH := Lib.hid (lr_below FH.out (below_alloc (below_alloc (Below.refl w15.heap.size w15) (.cells #[.slice Ah nh ch, .slice Bh mh dh, .slice Ch oh fh] 26)) (.cells #[.int .i64 p.peer, .int .i64 p.lane, .int .i64 p.size, .int .i64 p.id] 29)))
      obtain ⟨⟨g0, g1, g2⟩, -⟩ := blk_three (fm_blk F15b.out 7 rfl)
      obtain ⟨⟨u0, u1, u2⟩, -⟩ := blk_three (fm_blk F15b.out 0 rfl)
      go_wp2_with fail
      refine (eqLanes_same Ah Aw nh ch nw cw Bh Bw mh dh mw dw Ch Cw oh fh ow fw l2 _ FH.out (lr_below FW.out F15b.out.below)).mono ?_
      rintro e w16a ⟨rfl, hb⟩
      have Fw16a : Hid (Fm w3 [⟨w3.heap.size, w3.heap.size + 1, BoxP (w3.heap.size) 26 #[.slice Aw nw cw, .slice Bw mw dw, .slice Cw ow fw]⟩, ⟨w3.heap.size + 1, w3.heap.size + 2, BoxP (w3.heap.size + 1) 29 #[.int .i64 p.peer, .int .i64 p.lane, .int .i64 p.size, .int .i64 p.id]⟩, ⟨w3.heap.size + 2, w4.heap.size, LI (w3.heap.size + 2) w4.heap.size (.slice A4 n n) n (.slice B4' m m) m (.slice C4 o o) o cur iv4 (markLn l 1)⟩, ⟨w4.heap.size, w4.heap.size + 1, BoxP (w4.heap.size) 26 #[.slice A4 n n, .slice B4' m m, .slice C4 o o]⟩, ⟨w4.heap.size + 1, w5.heap.size, LI (w4.heap.size + 1) w5.heap.size (.slice Ag ng cg) ng (.slice Bg mg dg) mg (.slice Cg og fg) og curg ivg (markLn l2 1)⟩, ⟨w5.heap.size, w5.heap.size + 1, BoxP (w5.heap.size) 26 #[.slice Ag ng cg, .slice Bg mg dg, .slice Cg og fg]⟩, ⟨w5.heap.size + 1, w5.heap.size + 2, BoxP (w5.heap.size + 1) 29 #[.int .i64 p.peer, .int .i64 p.lane, .int .i64 p.size, .int .i64 p.id]⟩, ⟨w15.heap.size, w15.heap.size + 1, BoxP (w15.heap.size) 26 #[.slice Ah nh ch, .slice Bh mh dh, .slice Ch oh fh]⟩, ⟨w15.heap.size + 1, w15.heap.size + 2, BoxP (w15.heap.size + 1) 29 #[.int .i64 p.peer, .int .i64 p.lane, .int .i64 p.size, .int .i64 p.id]⟩] w16a) := Lib.hid (fm_below F15b.out hb)
      clear F15b
      clear hb g0 g1 g2 u0 u1 u2 FH
      obtain ⟨⟨g0, g1, g2, g3⟩, -⟩ := blk_fourR (fm_blk Fw16a.out 8 rfl)
      obtain ⟨⟨u0, u1, u2, u3⟩, -⟩ := blk_fourR (fm_blk Fw16a.out 1 rfl)
      go_wp2_with fail
      refine (eqPacket_any p p _).mono ?_
      rintro e w16b ⟨rfl, hb⟩
      rw [← pktB_yes rfl]
      have Fw16b : Hid (Fm w3 [⟨w3.heap.size, w3.heap.size + 1, BoxP (w3.heap.size) 26 #[.slice Aw nw cw, .slice Bw mw dw, .slice Cw ow fw]⟩, ⟨w3.heap.size + 1, w3.heap.size + 2, BoxP (w3.heap.size + 1) 29 #[.int .i64 p.peer, .int .i64 p.lane, .int .i64 p.size, .int .i64 p.id]⟩, ⟨w3.heap.size + 2, w4.heap.size, LI (w3.heap.size + 2) w4.heap.size (.slice A4 n n) n (.slice B4' m m) m (.slice C4 o o) o cur iv4 (markLn l 1)⟩, ⟨w4.heap.size, w4.heap.size + 1, BoxP (w4.heap.size) 26 #[.slice A4 n n, .slice B4' m m, .slice C4 o o]⟩, ⟨w4.heap.size + 1, w5.heap.size, LI (w4.heap.size + 1) w5.heap.size (.slice Ag ng cg) ng (.slice Bg mg dg) mg (.slice Cg og fg) og curg ivg (markLn l2 1)⟩, ⟨w5.heap.size, w5.heap.size + 1, BoxP (w5.heap.size) 26 #[.slice Ag ng cg, .slice Bg mg dg, .slice Cg og fg]⟩, ⟨w5.heap.size + 1, w5.heap.size + 2, BoxP (w5.heap.size + 1) 29 #[.int .i64 p.peer, .int .i64 p.lane, .int .i64 p.size, .int .i64 p.id]⟩, ⟨w15.heap.size, w15.heap.size + 1, BoxP (w15.heap.size) 26 #[.slice Ah nh ch, .slice Bh mh dh, .slice Ch oh fh]⟩, ⟨w15.heap.size + 1, w15.heap.size + 2, BoxP (w15.heap.size + 1) 29 #[.int .i64 p.peer, .int .i64 p.lane, .int .i64 p.size, .int .i64 p.id]⟩] w16b) := Lib.hid (fm_below Fw16a.out hb)
      clear Fw16a
      clear hb g0 g1 g2 g3 u0 u1 u2 u3
      obtain ⟨⟨g0, g1, g2⟩, -⟩ := blk_three (fm_blk Fw16b.out 5 rfl)
      go_wp2_with fail
      refine (heldLanes_any Ag ng cg Bg mg dg Cg og fg l2 1 _ (li_lr (fm_get Fw16b.out 4 rfl) (by omega) (by omega) (by omega)) hl2 (by omega)).mono ?_
      rintro e w17a ⟨rfl, hb⟩
      have Fw17a : Hid (Fm w3 [⟨w3.heap.size, w3.heap.size + 1, BoxP (w3.heap.size) 26 #[.slice Aw nw cw, .slice Bw mw dw, .slice Cw ow fw]⟩, ⟨w3.heap.size + 1, w3.heap.size + 2, BoxP (w3.heap.size + 1) 29 #[.int .i64 p.peer, .int .i64 p.lane, .int .i64 p.size, .int .i64 p.id]⟩, ⟨w3.heap.size + 2, w4.heap.size, LI (w3.heap.size + 2) w4.heap.size (.slice A4 n n) n (.slice B4' m m) m (.slice C4 o o) o cur iv4 (markLn l 1)⟩, ⟨w4.heap.size, w4.heap.size + 1, BoxP (w4.heap.size) 26 #[.slice A4 n n, .slice B4' m m, .slice C4 o o]⟩, ⟨w4.heap.size + 1, w5.heap.size, LI (w4.heap.size + 1) w5.heap.size (.slice Ag ng cg) ng (.slice Bg mg dg) mg (.slice Cg og fg) og curg ivg (markLn l2 1)⟩, ⟨w5.heap.size, w5.heap.size + 1, BoxP (w5.heap.size) 26 #[.slice Ag ng cg, .slice Bg mg dg, .slice Cg og fg]⟩, ⟨w5.heap.size + 1, w5.heap.size + 2, BoxP (w5.heap.size + 1) 29 #[.int .i64 p.peer, .int .i64 p.lane, .int .i64 p.size, .int .i64 p.id]⟩, ⟨w15.heap.size, w15.heap.size + 1, BoxP (w15.heap.size) 26 #[.slice Ah nh ch, .slice Bh mh dh, .slice Ch oh fh]⟩, ⟨w15.heap.size + 1, w15.heap.size + 2, BoxP (w15.heap.size + 1) 29 #[.int .i64 p.peer, .int .i64 p.lane, .int .i64 p.size, .int .i64 p.id]⟩] w17a) := Lib.hid (fm_below Fw16b.out hb)
      clear Fw16b
      clear hb g0 g1 g2
      go_wp2
      go_ret
      exact ⟨rfl, below_seq B3.out Fw17a.out.below⟩
  · have hle : (1048576 : Int) < (lsz l : Int) := by omega
    go_enter Try.func12, Try.ntmps12
    go_wp2_with fail
    refine (szLanes_any A n c B m d C o f l 1048576 _ (la_below H.out B0.out) (by omega)).mono ?_
    rintro e w1 ⟨rfl, hb⟩
    rw [if_pos (by omega)]
    have B1 := Lib.hid (below_seq B0.out hb)
    clear hb hle hbig
    go_wp2
    go_ret
    exact ⟨rfl, B1.out⟩
end Go.Proofs.Ytkmoiphcpmhacaa.fnExactNextOfLanes
