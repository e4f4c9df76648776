/-
  The law FnExactLeaveLanes returns true at every argument: the program's LeaveLanes answers as the model's, writes into no argument, and its answer owns its memory. Conditions: none.
-/
import Derived.Test.YtkmoiphcpmhacaaKo
import Derived.Test.YtkmoiphcpmhacaaKt
import Derived.Test.YtkmoiphcpmhacaaKv
import Derived.Test.YtkmoiphcpmhacaaKb
namespace Go.Proofs.Ytkmoiphcpmhacaa.fnExactLeaveLanes
open Go.ChangeShapes Go.WideShapes Go.ChangeAt Go.RowKit

theorem lo_nil (w : World) (lo : Nat) : LO w lo (.slice none 0 0) 0 (.slice none 0 0) 0 (.slice none 0 0) 0 [] (fun _ => (0, 0)) ⟨[], [], []⟩ :=
  ⟨dr_nil w lo, World.ownsRow_nil _ _ _ _, World.ownsRow_nil _ _ _ _, fun b e => (by cases e), fun b e => (by cases e), fun b e => (by cases e)⟩
theorem rsz_few {rs : List Rb} (h : ∀ r ∈ rs, r.fs.length + total r.fs ≤ 600) : rsz rs ≤ rs.length * 600 := by
  induction rs with
  | nil => simp [rsz]
  | cons r t ih =>
    have h1 := h r (by simp)
    have h2 := ih fun x hx => h x (by simp [hx])
    simp only [rsz, List.length_cons]
    omega
theorem lsz_lv {l : Ln} (h : LV l) : lsz l ≤ 1048576 := by
  have h1 : rsz l.rs ≤ l.rs.length * 600 := rsz_few fun r hr => by
    obtain ⟨k, hk⟩ := List.getElem?_of_mem hr
    have hv := (h.rb k r hk).rv
    have h2 := total_le hv
    have h3 := rv_len hv
    omega
  have h4 := h.n0
  have h5 := h.n1
  have h6 := h.n2
  unfold lsz
  omega
theorem fm_rd3c {w3 w1 : World} {L : List Iv} (h : Fm w3 L w1) {g0 : Nat} {t0 : TypeId} {x0 y0 z0 : Value} (B : Blk w3 g0 t0 #[x0, y0, z0]) (j : Nat) {a2 b2 g2 : Nat} {t2 : TypeId} {x2 y2 z2 : Value} (hj : L[j]? = some ⟨a2, b2, BoxP g2 t2 #[x2, y2, z2]⟩) :
    (w1.cell? ⟨g0, 0, none⟩ = some x0 ∧ w1.cell? ⟨g0, 1, none⟩ = some y0 ∧ w1.cell? ⟨g0, 2, none⟩ = some z0) ∧ (w1.cell? ⟨g2, 0, none⟩ = some x2 ∧ w1.cell? ⟨g2, 1, none⟩ = some y2 ∧ w1.cell? ⟨g2, 2, none⟩ = some z2) ∧ Fm w3 L w1 := by
  have B1 := blk_below B h.below (blk_lt B)
  have B2 : Blk w1 g2 t2 #[x2, y2, z2] := fm_blk h j hj
  exact ⟨(blk_three B1).1, (blk_three B2).1, h⟩
theorem lo_few {w : World} {lo n m o c d f : Nat} {A B C : Option Addr} {hs : List Rh} {iv : Nat → Nat × Nat} {l : Ln} (G : LO w lo (.slice A n c) n (.slice B m d) m (.slice C o f) o hs iv l) (h : lsz l ≤ 1048576) : n ≤ 1048576 ∧ m ≤ 1048576 ∧ o ≤ 1048576 := by
  have h1 := (dr_len G.r).2
  have h2 : l.ws.length = m := (nr_own G.b).1
  have h3 : l.cs.length = o := (nr_own G.c).1
  unfold lsz at h
  omega
theorem lo_lrf {w : World} {lo n m o c d f : Nat} {A B C : Option Addr} {hs : List Rh} {iv : Nat → Nat × Nat} {l : Ln} (G : LO w lo (.slice A n c) n (.slice B m d) m (.slice C o f) o hs iv l) (h : lsz l ≤ 1048576) : LR w A n B m C o l := by
  have := lo_few G h
  exact lo_lr G (by omega) (by omega) (by omega)
/-- lanes and a list, in one interval of blocks, apart from each other -/
structure GL (lo hi : Nat) (vA : Value) (n : Nat) (vB : Value) (m : Nat) (vC : Value) (o : Nat) (hs : List Rh) (iv : Nat → Nat × Nat) (l : Ln) (t : Value) (k : Nat) (ps : List Pkt) (w : World) : Prop where
  d : LI lo hi vA n vB m vC o hs iv l w
  o : w.ownsRow lo 29 4 t k (pcells ps)
  oh : ∀ b, t.ownBlock = some b → b < hi
  sep : ∀ b, t.ownBlock = some b → OutL vA vB vC iv b
section
variable {lo hi n m o k : Nat} {vA vB vC t : Value} {hs : List Rh} {iv : Nat → Nat × Nat} {l : Ln} {ps : List Pkt} {w w' : World}
theorem li_keep (h : LI lo hi vA n vB m vC o hs iv l w) (hs' : w.heap.size ≤ w'.heap.size) (hb : ∀ b, b < w.heap.size → ¬ OutL vA vB vC iv b → w'.heap[b]? = w.heap[b]?) : LI lo hi vA n vB m vC o hs iv l w' :=
  ⟨⟨⟨own_at6 h.1.r.row fun b e => hb b (h.1.r.row.lt b e).2 (fun k => k.1.1 e), h.1.r.len, fun k hk q r e1 e2 => by
    obtain ⟨a1, a2, a3, fh, a4⟩ := h.1.r.all k hk q r e1 e2
    exact ⟨a1, a2, a3, fh, doi_loc (lo := (iv k).1) (hi := (iv k).2) a4 fun b h1 h2 => hb b (by have := h.1.r.top k; omega) (fun K => by have := K.1.2 k; omega)⟩, h.1.r.off, h.1.r.apart, fun k => Nat.le_trans (h.1.r.top k) hs'⟩,
    own_at6 h.1.b fun b e => hb b (h.1.b.lt b e).2 (fun k => k.2.1 e), own_at6 h.1.c fun b e => hb b (h.1.c.lt b e).2 (fun k => k.2.2 e), h.1.ab, h.1.ac, h.1.bc⟩, h.2⟩
theorem at_gl (G : GL lo hi vA n vB m vC o hs iv l t k ps w) (hf : hi ≤ w.heap.size) : At lo hi (GL lo hi vA n vB m vC o hs iv l t k ps) w :=
  ⟨G, hf, fun _ h1 hb => ⟨li_loc G.d h1 hb, own_loc G.o G.oh hb, G.oh, G.sep⟩⟩
theorem gl_mark_r {cur : List Rh} {l' : Ln} (G : GL lo hi vA n vB m vC o hs iv l t k ps w) (hD : LI lo hi vA n vB m vC o cur iv l' w') (hk : ∀ b, b < w.heap.size → OutL vA vB vC iv b → w'.heap[b]? = w.heap[b]?) : GL lo hi vA n vB m vC o cur iv l' t k ps w' :=
  ⟨hD, own_at6 G.o fun b e => hk b (G.o.lt b e).2 (G.sep b e), G.oh, G.sep⟩
theorem gl_mark_p {qs : List Pkt} (G : GL lo hi vA n vB m vC o hs iv l t k ps w) (hg : w.grownBy w' t.ownBlock) (ho : w'.ownsRow lo 29 4 t k (pcells qs)) : GL lo hi vA n vB m vC o hs iv l t k qs w' :=
  ⟨li_keep G.d hg.size fun b h1 h2 => hg.block b h1 (fun e => h2 (G.sep b e.symm)), ho, G.oh, G.sep⟩
end
theorem fm_gl {w3 w1 w2 : World} {L : List Iv} {s n m o k : Nat} {vA vB vC t : Value} {hs : List Rh} {iv : Nat → Nat × Nat} {l : Ln} {ps : List Pkt} (h : Fm w3 L w1) (hb : Below w1.heap.size w1 w2) (hG : GL w1.heap.size w2.heap.size vA n vB m vC o hs iv l t k ps w2) (e : w1.heap.size = s) : Fm w3 (L ++ [⟨s, w2.heap.size, GL s w2.heap.size vA n vB m vC o hs iv l t k ps⟩]) w2 := by
  subst e
  exact fm_at h hb (at_gl hG (Nat.le_refl _)) rfl
theorem tk_gl {w : World} {lo s n m o k c d f : Nat} {A B C : Option Addr} {t : Value} {hs : List Rh} {iv : Nat → Nat × Nat} {l : Ln} {ps : List Pkt} (h0 : lo ≤ s) (D : LO w s (.slice A n c) n (.slice B m d) m (.slice C o f) o hs iv l) (hI : ∀ k, (iv k).1 < (iv k).2 → s ≤ (iv k).1) (ho : w.ownsRow lo 29 4 t k (pcells ps)) (hs' : ∀ b, t.ownBlock = some b → b < s) : GL lo w.heap.size (.slice A n c) n (.slice B m d) m (.slice C o f) o hs iv l t k ps w :=
  ⟨li_all (lo_mono D h0), ho, fun b e => (ho.lt b e).2, fun b e => by
    have hb := hs' b e
    refine ⟨⟨fun e2 => ?_, fun j => ?_⟩, fun e2 => ?_, fun e2 => ?_⟩
    · have := (D.r.row.lt b e2).1; omega
    · rcases Nat.lt_or_ge (iv j).1 (iv j).2 with h | h
      · have := hI j h; omega
      · omega
    · have := (D.b.lt b e2).1; omega
    · have := (D.c.lt b e2).1; omega⟩
def TlS (w : World) (l : Ln) (ps : List Pkt) (ok : Bool) (e : Ending) (w' : World) : Prop :=
  ∃ A n c B m d C o f At nt ct, e = .returned (.tuple #[.agg #[.slice A n c, .slice B m d, .slice C o f], .slice At nt ct, .bool ok]) ∧ LR w' A n B m C o l ∧ nt = ps.length ∧ PR w' At nt ps ∧ Below w.heap.size w w'
def TlI (w : World) (l : Ln) (ps : List Pkt) (ok : Bool) (e : Ending) (w' : World) : Prop :=
  ∃ A n c B m d C o f hs iv At nt ct, e = .returned (.tuple #[.agg #[.slice A n c, .slice B m d, .slice C o f], .slice At nt ct, .bool ok]) ∧ nt = ps.length ∧ GL w.heap.size w'.heap.size (.slice A n c) n (.slice B m d) m (.slice C o f) o hs iv l (.slice At nt ct) nt ps w' ∧ Below w.heap.size w w'
set_option maxRecDepth 100000 in
set_option maxHeartbeats 8000000 in
theorem llI_noX (A : Option Addr) (n c : Nat) (B : Option Addr) (m d : Nat) (C : Option Addr) (o f : Nat) (l : Ln) (x : Int) (w : World) (h : LR w A n B m C o l) (hk : ¬ LlOk l x) :
    Calls Try.prog 31 #[.agg #[.slice A n c, .slice B m d, .slice C o f], .int .i64 x] w (fun e w' => e = .returned (.tuple #[.agg #[.slice none 0 0, .slice none 0 0, .slice none 0 0], .slice none 0 0, .bool false]) ∧ Below w.heap.size w w') := by
  have H := Lib.hid h
  have F := Lib.hid (fm_two w 26 26 #[.slice A n c, .slice B m d, .slice C o f] #[.slice none 0 0, .slice none 0 0, .slice none 0 0])
  have HK := ll_not hk
  clear h hk
  rcases HK with hv | ⟨hv, hin, -⟩
  · have HR := Lib.hid hv
    clear hv
    go_enter Try.func31, Try.ntmps31
    go_wp2_with (go_at_call 22
                 refine (lanI_any A n c B m d C o f l _ (lr_below H.out F.out.below)).mono ?_
                 rintro e w1 ⟨rfl, hb1⟩
                 rw [HR.out]
                 have F1 := Lib.hid (fm_below F.out hb1)
                 obtain ⟨⟨o0, o1, o2⟩, of0, of1, of2⟩ := blk_three (fm_blk F1.out 1 rfl)
                 have zo := blk_lt (fm_blk F1.out 1 rfl)
                 clear hb1)
    refine bodyPost_ret (v := .tuple #[.agg #[.slice none 0 0, .slice none 0 0, .slice none 0 0], .slice none 0 0, .bool false]) (by simp [results, Try.results31, go_sem, o0, o1, o2]) rfl ⟨rfl, ?_⟩
    iterate 3 (with_reducible refine Below.setCell ?_ (by simp <;> omega) _)
    exact F1.out.below
  · have HR := Lib.hid hv
    clear hv
    go_enter Try.func31, Try.ntmps31
    go_wp2_with (first
      | (go_at_call 22
         refine (lanI_any A n c B m d C o f l _ (lr_below H.out F.out.below)).mono ?_
         rintro e w1 ⟨rfl, hb1⟩
         rw [HR.out]
         have F1 := Lib.hid (fm_below F.out hb1)
         obtain ⟨⟨o0, o1, o2⟩, of0, of1, of2⟩ := blk_three (fm_blk F1.out 1 rfl)
         have zo := blk_lt (fm_blk F1.out 1 rfl)
         clear hb1)
      | (go_at_call 62; refine (within_any _ _ _ _).mono ?_; rintro e w' ⟨rfl, rfl⟩; rw [hin]))
    refine bodyPost_ret (v := .tuple #[.agg #[.slice none 0 0, .slice none 0 0, .slice none 0 0], .slice none 0 0, .bool false]) (by simp [results, Try.results31, go_sem, o0, o1, o2]) rfl ⟨rfl, ?_⟩
    iterate 3 (with_reducible refine Below.setCell ?_ (by simp <;> omega) _)
    exact F1.out.below
theorem both (l : Ln) (x : Int) : ∃ (l2 : Ln) (ps : List Pkt) (ok : Bool), lsz l2 ≤ 1048576 ∧ ps.length ≤ 4096 ∧
    Hid (∀ (A : Option Addr) (n c : Nat) (B : Option Addr) (m d : Nat) (C : Option Addr) (o f : Nat) (w : World), LR w A n B m C o l → Calls Try.prog 32 #[.agg #[.slice A n c, .slice B m d, .slice C o f], .int .i64 x] w (TlS w l2 ps ok)) ∧
    Hid (∀ (A : Option Addr) (n c : Nat) (B : Option Addr) (m d : Nat) (C : Option Addr) (o f : Nat) (w : World), LR w A n B m C o l → Calls Try.prog 31 #[.agg #[.slice A n c, .slice B m d, .slice C o f], .int .i64 x] w (TlI w l2 ps ok)) := by
  by_cases hk : LlOk l x
  · refine ⟨lvN l x, gone l x, true, lsz_lv (lv_leaveN hk.1 x), by have := gone_len hk.1 x; omega, Lib.hid fun A n c B m d C o f w h => (llS_yes A n c B m d C o f l x w h hk).mono fun _ _ hp => ?_, Lib.hid fun A n c B m d C o f w h => (llI_yes A n c B m d C o f l x w h hk).mono fun _ _ hp => ?_⟩
    · obtain ⟨A2, c2, B2, d2, C2, f2, At, ct, h1, h2, h3, h4⟩ := hp
      exact ⟨A2, 4, c2, B2, 4, d2, C2, 4, f2, At, _, ct, h1, h2, rfl, pr_own h3, h4⟩
    · obtain ⟨A2, c2, B2, d2, C2, f2, tk, hs, iv, h1, h3, h4, h5, h6, h7⟩ := hp
      obtain ⟨At, ct, rfl, -, -, -⟩ := own_form h5
      exact ⟨A2, 4, c2, B2, 4, d2, C2, 4, f2, hs, iv, At, _, ct, h1, rfl, ⟨li_all h3, h5, fun b e => (h5.lt b e).2, fun b e => h6 b e⟩, h7⟩
  · refine ⟨⟨[], [], []⟩, [], false, by simp [lsz, rsz], by simp, Lib.hid fun A n c B m d C o f w h => (llS_no A n c B m d C o f l x w h hk).mono fun _ _ hp => ?_, Lib.hid fun A n c B m d C o f w h => (llI_noX A n c B m d C o f l x w h hk).mono fun _ _ hp => ?_⟩
    · obtain ⟨At, ct, h1, h3⟩ := hp
      exact ⟨none, 0, 0, none, 0, 0, none, 0, 0, At, 0, ct, h1, lr_nil _ _ _ _, rfl, pr_nil _ _, h3⟩
    · obtain ⟨h1, h2⟩ := hp
      exact ⟨none, 0, 0, none, 0, 0, none, 0, 0, [], _, none, 0, 0, h1, rfl, tk_gl (Nat.le_refl _) (lo_nil _ _) (fun k hk => absurd hk (by simp)) (World.ownsRow_nil _ _ _ _) (fun b e => by cases e), h2⟩

set_option maxRecDepth 100000 in
set_option maxHeartbeats 8000000 in
theorem walk (A : Option Addr) (n c : Nat) (B : Option Addr) (m d : Nat) (C : Option Addr) (o f : Nat) (l : Ln) (x : Int) (w : World) (h : LA w A n B m C o l) (_hwx : (Lit.int .i64 x).wf = true) :
    Calls Try.prog 14 #[.agg #[.slice A n c, .slice B m d, .slice C o f], .int .i64 x] w fun e w' => e = .returned (.bool true) ∧ Below w.heap.size w w' := by
  have H := Lib.hid h
  have HL := Lib.hid (la_lens h)
  have B0 := Lib.hid (below_alloc (Below.refl w.heap.size w) (.cells #[.slice A n c, .slice B m d, .slice C o f] 65))
  have A0 := Lib.hid (blk_new w 65 #[.slice A n c, .slice B m d, .slice C o f])
  clear h
  by_cases hbig : lsz l ≤ 1048576
  · obtain ⟨l2, ps, ok, hl2, hpl, HS0, HI0⟩ := both l x
    have n0 : n ≤ 1048576 := by have := HL.out.2.2.2; omega
    have m0 : m ≤ 1048576 := by have := HL.out.2.2.2; omega
    have o0 : o ≤ 1048576 := by have := HL.out.2.2.2; omega
    have hcl := cntL_bd hbig
    have kx : decide (1 + cntL l < 0) = false := by simp; omega
    have kx0 : 0 ≤ 1 + cntL l := by omega
    have hle : ¬ (1048576 : Int) < (lsz l : Int) := by omega
    have hd : decide ((1048576 : Int) - (lsz l : Int) < 0) = false := by simp; omega
    have hcg := cntL_bd hl2
    have kg : 0 ≤ 1 + cntL l2 ∧ 1 + cntL l2 ≤ 6000000 := by omega
    have kg0 : decide (1 + cntL l2 < 0) = false := by simp; omega
    clear hcl hcg
    go_enter Try.func14, Try.ntmps14
    go_wp2_with fail
    refine (szLanes_any A n c B m d C o f l 1048576 _ (la_below H.out B0.out) (by omega)).mono ?_
    rintro e w1 ⟨rfl, hb⟩
    rw [if_neg (by omega)]
    have B1 := Lib.hid (below_seq B0.out hb)
    have A1 := Lib.hid (blk_below A0.out hb (by simp))
    clear hb hle
    obtain ⟨⟨q0, q1, q2⟩, -⟩ := blk_three (A1.out)
    go_wp2_with fail
    refine (toLanes_any A n c B m d C o f l _ (la_below H.out B1.out) hbig).mono ?_
    rintro e w2 ⟨A2, B2', C2, hs2, iv2, rfl, hD, -, hb⟩
    have X2 := Lib.hid (lo_lr hD (by omega) (by omega) (by omega))
    have B2 := Lib.hid (below_seq B1.out hb)
    have A2b := Lib.hid (blk_below A1.out hb (blk_lt A1.out))
    clear hb hD q0 q1 q2
    go_wp2_with fail
    refine (HS0.out A2 n n B2' m m C2 o o _ X2.out).mono ?_
    rintro e w3 ⟨Aw, nw, cw, Bw, mw, dw, Cw, ow, fw, Zw, zw, yw, rfl, hF, hm, hp, hb⟩
    have B3 := Lib.hid (below_seq B2.out hb)
    have A3 := Lib.hid (blk_below A2b.out hb (blk_lt A2b.out))
    have FW := Lib.hid hF
    have PW := Lib.hid hp
    have lzw : zw ≤ 1048576 := by omega
    have za : w.heap.size < w3.heap.size := blk_lt A3.out
    clear hb X2 A2b hF hm hp
    have F3 : Hid (Fm w3 [] w3) := Lib.hid (fm_zero w3)
    have F3a : Hid (Fm w3 [⟨w3.heap.size, w3.heap.size + 1, BoxP (w3.heap.size) 26 #[.slice Aw nw cw, .slice Bw mw dw, .slice Cw ow fw]⟩] (w3.alloc (.cells #[.slice Aw nw cw, .slice Bw mw dw, .slice Cw ow fw] 26))) := Lib.hid (fm_push F3.out (by simp) _ _)
    clear F3
    obtain ⟨⟨q0, q1, q2⟩, -⟩ := blk_three (blk_below A3.out F3a.out.below za)
    go_wp2_with fail
    refine (toLanes_any A n c B m d C o f l _ (la_below H.out (below_seq B3.out F3a.out.below)) hbig).mono ?_
    rintro e w4 ⟨A4, B4', C4, hs4, iv4, rfl, hD, -, hb⟩
    have F4 : Hid (Fm w3 [⟨w3.heap.size, w3.heap.size + 1, BoxP (w3.heap.size) 26 #[.slice Aw nw cw, .slice Bw mw dw, .slice Cw ow fw]⟩, ⟨w3.heap.size + 1, w4.heap.size, LI (w3.heap.size + 1) w4.heap.size (.slice A4 n n) n (.slice B4' m m) m (.slice C4 o o) o hs4 iv4 l⟩] w4) := Lib.hid (fm_li F3a.out hb hD (by simp))
    clear F3a
    clear hb hD q0 q1 q2
    have F4b : Hid (Fm w3 [⟨w3.heap.size, w3.heap.size + 1, BoxP (w3.heap.size) 26 #[.slice Aw nw cw, .slice Bw mw dw, .slice Cw ow fw]⟩, ⟨w3.heap.size + 1, w4.heap.size, LI (w3.heap.size + 1) w4.heap.size (.slice A4 n n) n (.slice B4' m m) m (.slice C4 o o) o hs4 iv4 l⟩, ⟨w4.heap.size, w4.heap.size + 1, BoxP (w4.heap.size) 26 #[.slice A4 n n, .slice B4' m m, .slice C4 o o]⟩] (w4.alloc (.cells #[.slice A4 n n, .slice B4' m m, .slice C4 o o] 26))) := Lib.hid (fm_push F4.out (by simp) _ _)
    clear F4
    obtain ⟨⟨x0, x1, x2⟩, -⟩ := blk_three (fm_blk F4b.out 2 rfl)
    go_wp2_with fail
    refine (HI0.out A4 n n B4' m m C4 o o _ (li_lr (fm_get F4b.out 1 rfl) (by omega) (by omega) (by omega))).mono ?_
    rintro e w5 ⟨Ag, ng, cg, Bg, mg, dg, Cg, og, fg, hsg, ivg, Zg, zg, yg, rfl, hm, hG, hb⟩
    obtain ⟨lng, lmg, log⟩ := lo_few hG.d.1 hl2
    have lzg : zg ≤ 1048576 := by omega
    have F5 : Hid (Fm w3 [⟨w3.heap.size, w3.heap.size + 1, BoxP (w3.heap.size) 26 #[.slice Aw nw cw, .slice Bw mw dw, .slice Cw ow fw]⟩, ⟨w3.heap.size + 1, w4.heap.size, LI (w3.heap.size + 1) w4.heap.size (.slice A4 n n) n (.slice B4' m m) m (.slice C4 o o) o hs4 iv4 l⟩, ⟨w4.heap.size, w4.heap.size + 1, BoxP (w4.heap.size) 26 #[.slice A4 n n, .slice B4' m m, .slice C4 o o]⟩, ⟨w4.heap.size + 1, w5.heap.size, GL (w4.heap.size + 1) w5.heap.size (.slice Ag ng cg) ng (.slice Bg mg dg) mg (.slice Cg og fg) og hsg ivg l2 (.slice Zg zg yg) zg ps⟩] w5) := Lib.hid (fm_gl F4b.out hb hG (by simp))
    clear F4b
    clear hb hG hm
    clear x0 x1 x2
    have F5a : Hid (Fm w3 [⟨w3.heap.size, w3.heap.size + 1, BoxP (w3.heap.size) 26 #[.slice Aw nw cw, .slice Bw mw dw, .slice Cw ow fw]⟩, ⟨w3.heap.size + 1, w4.heap.size, LI (w3.heap.size + 1) w4.heap.size (.slice A4 n n) n (.slice B4' m m) m (.slice C4 o o) o hs4 iv4 l⟩, ⟨w4.heap.size, w4.heap.size + 1, BoxP (w4.heap.size) 26 #[.slice A4 n n, .slice B4' m m, .slice C4 o o]⟩, ⟨w4.heap.size + 1, w5.heap.size, GL (w4.heap.size + 1) w5.heap.size (.slice Ag ng cg) ng (.slice Bg mg dg) mg (.slice Cg og fg) og hsg ivg l2 (.slice Zg zg yg) zg ps⟩, ⟨w5.heap.size, w5.heap.size + 1, BoxP (w5.heap.size) 26 #[.slice Ag ng cg, .slice Bg mg dg, .slice Cg og fg]⟩] (w5.alloc (.cells #[.slice Ag ng cg, .slice Bg mg dg, .slice Cg og fg] 26))) := Lib.hid (fm_push F5.out (by simp) _ _)
    clear F5
    obtain ⟨⟨g0, g1, g2⟩, -⟩ := blk_three (fm_blk F5a.out 4 rfl)
    obtain ⟨⟨u0, u1, u2⟩, -⟩ := blk_three (fm_blk F5a.out 0 rfl)
    go_wp2_with fail
    refine (eqLanes_same Ag Aw ng cg nw cw Bg Bw mg dg mw dw Cg Cw og fg ow fw l2 _ (li_lr (fm_get F5a.out 3 rfl).d (by omega) (by omega) (by omega)) (lr_below FW.out F5a.out.below)).mono ?_
    rintro e w8a ⟨rfl, hb⟩
    have Fw8a : Hid (Fm w3 [⟨w3.heap.size, w3.heap.size + 1, BoxP (w3.heap.size) 26 #[.slice Aw nw cw, .slice Bw mw dw, .slice Cw ow fw]⟩, ⟨w3.heap.size + 1, w4.heap.size, LI (w3.heap.size + 1) w4.heap.size (.slice A4 n n) n (.slice B4' m m) m (.slice C4 o o) o hs4 iv4 l⟩, ⟨w4.heap.size, w4.heap.size + 1, BoxP (w4.heap.size) 26 #[.slice A4 n n, .slice B4' m m, .slice C4 o o]⟩, ⟨w4.heap.size + 1, w5.heap.size, GL (w4.heap.size + 1) w5.heap.size (.slice Ag ng cg) ng (.slice Bg mg dg) mg (.slice Cg og fg) og hsg ivg l2 (.slice Zg zg yg) zg ps⟩, ⟨w5.heap.size, w5.heap.size + 1, BoxP (w5.heap.size) 26 #[.slice Ag ng cg, .slice Bg mg dg, .slice Cg og fg]⟩] w8a) := Lib.hid (fm_below F5a.out hb)
    clear F5a
    clear hb g0 g1 g2 u0 u1 u2
    go_wp2_with fail
    refine (eqPacketS_any Zg Zw zg yg zw yw ps ps _ (pr_own (fm_get Fw8a.out 3 rfl).o) (pr_below PW.out Fw8a.out.below) (by omega) (by omega)).mono ?_
    rintro e w8c ⟨rfl, hb⟩
    rw [← same_yes rfl]
    have Fw8c : Hid (Fm w3 [⟨w3.heap.size, w3.heap.size + 1, BoxP (w3.heap.size) 26 #[.slice Aw nw cw, .slice Bw mw dw, .slice Cw ow fw]⟩, ⟨w3.heap.size + 1, w4.heap.size, LI (w3.heap.size + 1) w4.heap.size (.slice A4 n n) n (.slice B4' m m) m (.slice C4 o o) o hs4 iv4 l⟩, ⟨w4.heap.size, w4.heap.size + 1, BoxP (w4.heap.size) 26 #[.slice A4 n n, .slice B4' m m, .slice C4 o o]⟩, ⟨w4.heap.size + 1, w5.heap.size, GL (w4.heap.size + 1) w5.heap.size (.slice Ag ng cg) ng (.slice Bg mg dg) mg (.slice Cg og fg) og hsg ivg l2 (.slice Zg zg yg) zg ps⟩, ⟨w5.heap.size, w5.heap.size + 1, BoxP (w5.heap.size) 26 #[.slice Ag ng cg, .slice Bg mg dg, .slice Cg og fg]⟩] w8c) := Lib.hid (fm_below Fw8a.out hb)
    clear Fw8a
    clear hb
    have hS := fm_rd3c (fm_drew Fw8c.out) A3.out 2 rfl
    go_wp2_with fail
    go_region_held3 (fun w' => (w'.cell? ⟨w.heap.size, 0, none⟩ = some (.slice A n c) ∧ w'.cell? ⟨w.heap.size, 1, none⟩ = some (.slice B m d) ∧ w'.cell? ⟨w.heap.size, 2, none⟩ = some (.slice C o f)) ∧ (w'.cell? ⟨w4.heap.size, 0, none⟩ = some (.slice A4 n n) ∧ w'.cell? ⟨w4.heap.size, 1, none⟩ = some (.slice B4' m m) ∧ w'.cell? ⟨w4.heap.size, 2, none⟩ = some (.slice C4 o o)) ∧ Fm w3 [⟨w3.heap.size, w3.heap.size + 1, BoxP (w3.heap.size) 26 #[.slice Aw nw cw, .slice Bw mw dw, .slice Cw ow fw]⟩, ⟨w3.heap.size + 1, w4.heap.size, LI (w3.heap.size + 1) w4.heap.size (.slice A4 n n) n (.slice B4' m m) m (.slice C4 o o) o hs4 iv4 l⟩, ⟨w4.heap.size, w4.heap.size + 1, BoxP (w4.heap.size) 26 #[.slice A4 n n, .slice B4' m m, .slice C4 o o]⟩, ⟨w4.heap.size + 1, w5.heap.size, GL (w4.heap.size + 1) w5.heap.size (.slice Ag ng cg) ng (.slice Bg mg dg) mg (.slice Cg og fg) og hsg ivg l2 (.slice Zg zg yg) zg ps⟩, ⟨w5.heap.size, w5.heap.size + 1, BoxP (w5.heap.size) 26 #[.slice Ag ng cg, .slice Bg mg dg, .slice Cg og fg]⟩] w')
      (first | (with_reducible assumption) | fail)
      (first
        | (go_at_call 43
           refine (eqLanes_same A4 A6 n n n n B4' B6 m m m m C4 C6 o o o o l _ (li_lr (fm_get FX6.out 1 rfl) (by omega) (by omega) (by omega)) PX6.out).mono ?_
           rintro e w7 ⟨rfl, hb7⟩
           have FX7 : Hid (Fm w3 [⟨w3.heap.size, w3.heap.size + 1, BoxP (w3.heap.size) 26 #[.slice Aw nw cw, .slice Bw mw dw, .slice Cw ow fw]⟩, ⟨w3.heap.size + 1, w4.heap.size, LI (w3.heap.size + 1) w4.heap.size (.slice A4 n n) n (.slice B4' m m) m (.slice C4 o o) o hs4 iv4 l⟩, ⟨w4.heap.size, w4.heap.size + 1, BoxP (w4.heap.size) 26 #[.slice A4 n n, .slice B4' m m, .slice C4 o o]⟩, ⟨w4.heap.size + 1, w5.heap.size, GL (w4.heap.size + 1) w5.heap.size (.slice Ag ng cg) ng (.slice Bg mg dg) mg (.slice Cg og fg) og hsg ivg l2 (.slice Zg zg yg) zg ps⟩, ⟨w5.heap.size, w5.heap.size + 1, BoxP (w5.heap.size) 26 #[.slice Ag ng cg, .slice Bg mg dg, .slice Cg og fg]⟩] w7) := Lib.hid (fm_below FX6.out hb7)
           have hS7 := fm_rd3c FX7.out A3.out 2 rfl
           clear hb7)
        | (go_at_call 42
           refine (toLanes_any A n c B m d C o f l _ (la_below H.out (below_seq B3.out (fm_drew Fw8c.out).below)) hbig).mono ?_
           rintro e w6 ⟨A6, B6, C6, hs6, iv6, rfl, ho6, -, hb6⟩
           have PX6 := Lib.hid (lo_lr ho6 (by omega) (by omega) (by omega))
           have FX6 : Hid (Fm w3 [⟨w3.heap.size, w3.heap.size + 1, BoxP (w3.heap.size) 26 #[.slice Aw nw cw, .slice Bw mw dw, .slice Cw ow fw]⟩, ⟨w3.heap.size + 1, w4.heap.size, LI (w3.heap.size + 1) w4.heap.size (.slice A4 n n) n (.slice B4' m m) m (.slice C4 o o) o hs4 iv4 l⟩, ⟨w4.heap.size, w4.heap.size + 1, BoxP (w4.heap.size) 26 #[.slice A4 n n, .slice B4' m m, .slice C4 o o]⟩, ⟨w4.heap.size + 1, w5.heap.size, GL (w4.heap.size + 1) w5.heap.size (.slice Ag ng cg) ng (.slice Bg mg dg) mg (.slice Cg og fg) og hsg ivg l2 (.slice Zg zg yg) zg ps⟩, ⟨w5.heap.size, w5.heap.size + 1, BoxP (w5.heap.size) 26 #[.slice Ag ng cg, .slice Bg mg dg, .slice Cg og fg]⟩] w6) := Lib.hid (fm_below (fm_drew Fw8c.out) hb6)
           have hS6 := fm_rd3c FX6.out A3.out 2 rfl
           clear hb6 ho6))
    all_goals
      clear PX6 FX6 Fw8c hS hS6 hS7
      obtain ⟨⟨x0, x1, x2⟩, -⟩ := blk_three (fm_blk FX7.out 2 rfl)
      go_wp2_with fail
      refine (markLanes_any (w3.heap.size + 1) w4.heap.size A4 n n B4' m m C4 o o hs4 iv4 l 1 _ (fm_get FX7.out 1 rfl) (fm_lt FX7.out 1 rfl).2.2 hbig (by omega)).mono ?_
      rintro e w10 ⟨cur, rfl, hD, hc, hk⟩
      have F10 : Hid (Fm w3 [⟨w3.heap.size, w3.heap.size + 1, BoxP (w3.heap.size) 26 #[.slice Aw nw cw, .slice Bw mw dw, .slice Cw ow fw]⟩, ⟨w3.heap.size + 1, w4.heap.size, LI (w3.heap.size + 1) w4.heap.size (.slice A4 n n) n (.slice B4' m m) m (.slice C4 o o) o cur iv4 (markLn l 1)⟩, ⟨w4.heap.size, w4.heap.size + 1, BoxP (w4.heap.size) 26 #[.slice A4 n n, .slice B4' m m, .slice C4 o o]⟩, ⟨w4.heap.size + 1, w5.heap.size, GL (w4.heap.size + 1) w5.heap.size (.slice Ag ng cg) ng (.slice Bg mg dg) mg (.slice Cg og fg) og hsg ivg l2 (.slice Zg zg yg) zg ps⟩, ⟨w5.heap.size, w5.heap.size + 1, BoxP (w5.heap.size) 26 #[.slice Ag ng cg, .slice Bg mg dg, .slice Cg og fg]⟩] w10) := Lib.hid (fm_put FX7.out 1 rfl hc (at_li hD (Nat.le_trans (fm_lt FX7.out 1 rfl).2.2 hc.size)))
      clear FX7
      clear hD hc hk x0 x1 x2
      obtain ⟨⟨g0, g1, g2⟩, -⟩ := blk_three (fm_blk F10.out 4 rfl)
      obtain ⟨⟨u0, u1, u2⟩, -⟩ := blk_three (fm_blk F10.out 0 rfl)
      go_wp2_with fail
      refine (eqLanes_same Ag Aw ng cg nw cw Bg Bw mg dg mw dw Cg Cw og fg ow fw l2 _ (li_lr (fm_get F10.out 3 rfl).d (by omega) (by omega) (by omega)) (lr_below FW.out F10.out.below)).mono ?_
      rintro e w11a ⟨rfl, hb⟩
      have Fw11a : Hid (Fm w3 [⟨w3.heap.size, w3.heap.size + 1, BoxP (w3.heap.size) 26 #[.slice Aw nw cw, .slice Bw mw dw, .slice Cw ow fw]⟩, ⟨w3.heap.size + 1, w4.heap.size, LI (w3.heap.size + 1) w4.heap.size (.slice A4 n n) n (.slice B4' m m) m (.slice C4 o o) o cur iv4 (markLn l 1)⟩, ⟨w4.heap.size, w4.heap.size + 1, BoxP (w4.heap.size) 26 #[.slice A4 n n, .slice B4' m m, .slice C4 o o]⟩, ⟨w4.heap.size + 1, w5.heap.size, GL (w4.heap.size + 1) w5.heap.size (.slice Ag ng cg) ng (.slice Bg mg dg) mg (.slice Cg og fg) og hsg ivg l2 (.slice Zg zg yg) zg ps⟩, ⟨w5.heap.size, w5.heap.size + 1, BoxP (w5.heap.size) 26 #[.slice Ag ng cg, .slice Bg mg dg, .slice Cg og fg]⟩] w11a) := Lib.hid (fm_below F10.out hb)
      clear F10
      clear hb g0 g1 g2 u0 u1 u2
      go_wp2_with fail
      refine (eqPacketS_any Zg Zw zg yg zw yw ps ps _ (pr_own (fm_get Fw11a.out 3 rfl).o) (pr_below PW.out Fw11a.out.below) (by omega) (by omega)).mono ?_
      rintro e w11c ⟨rfl, hb⟩
      rw [← same_yes rfl]
      have Fw11c : Hid (Fm w3 [⟨w3.heap.size, w3.heap.size + 1, BoxP (w3.heap.size) 26 #[.slice Aw nw cw, .slice Bw mw dw, .slice Cw ow fw]⟩, ⟨w3.heap.size + 1, w4.heap.size, LI (w3.heap.size + 1) w4.heap.size (.slice A4 n n) n (.slice B4' m m) m (.slice C4 o o) o cur iv4 (markLn l 1)⟩, ⟨w4.heap.size, w4.heap.size + 1, BoxP (w4.heap.size) 26 #[.slice A4 n n, .slice B4' m m, .slice C4 o o]⟩, ⟨w4.heap.size + 1, w5.heap.size, GL (w4.heap.size + 1) w5.heap.size (.slice Ag ng cg) ng (.slice Bg mg dg) mg (.slice Cg og fg) og hsg ivg l2 (.slice Zg zg yg) zg ps⟩, ⟨w5.heap.size, w5.heap.size + 1, BoxP (w5.heap.size) 26 #[.slice Ag ng cg, .slice Bg mg dg, .slice Cg og fg]⟩] w11c) := Lib.hid (fm_below Fw11a.out hb)
      clear Fw11a
      clear hb
      obtain ⟨⟨g0, g1, g2⟩, -⟩ := blk_three (fm_blk Fw11c.out 4 rfl)
      go_wp2_with fail
      refine (markLanes_any (w4.heap.size + 1) w5.heap.size Ag ng cg Bg mg dg Cg og fg hsg ivg l2 1 _ (fm_get Fw11c.out 3 rfl).d (fm_lt Fw11c.out 3 rfl).2.2 hl2 (by omega)).mono ?_
      rintro e w12 ⟨curg, rfl, hD, hc, hk⟩
      have F12 : Hid (Fm w3 [⟨w3.heap.size, w3.heap.size + 1, BoxP (w3.heap.size) 26 #[.slice Aw nw cw, .slice Bw mw dw, .slice Cw ow fw]⟩, ⟨w3.heap.size + 1, w4.heap.size, LI (w3.heap.size + 1) w4.heap.size (.slice A4 n n) n (.slice B4' m m) m (.slice C4 o o) o cur iv4 (markLn l 1)⟩, ⟨w4.heap.size, w4.heap.size + 1, BoxP (w4.heap.size) 26 #[.slice A4 n n, .slice B4' m m, .slice C4 o o]⟩, ⟨w4.heap.size + 1, w5.heap.size, GL (w4.heap.size + 1) w5.heap.size (.slice Ag ng cg) ng (.slice Bg mg dg) mg (.slice Cg og fg) og curg ivg (markLn l2 1) (.slice Zg zg yg) zg ps⟩, ⟨w5.heap.size, w5.heap.size + 1, BoxP (w5.heap.size) 26 #[.slice Ag ng cg, .slice Bg mg dg, .slice Cg og fg]⟩] w12) := Lib.hid (fm_put Fw11c.out 3 rfl hc (at_gl (gl_mark_r (fm_get Fw11c.out 3 rfl) hD hk) (Nat.le_trans (fm_lt Fw11c.out 3 rfl).2.2 hc.size)))
      clear Fw11c
      clear hD hc hk g0 g1 g2
      go_wp2_with fail
      refine (markPacketS_any (w4.heap.size + 1) Zg zg yg (1 + cntL l2) ps _ (fm_get F12.out 3 rfl).o (by omega) (by omega)).mono ?_
      rintro e w12b ⟨rfl, ho, hg⟩
      have F12b : Hid (Fm w3 [⟨w3.heap.size, w3.heap.size + 1, BoxP (w3.heap.size) 26 #[.slice Aw nw cw, .slice Bw mw dw, .slice Cw ow fw]⟩, ⟨w3.heap.size + 1, w4.heap.size, LI (w3.heap.size + 1) w4.heap.size (.slice A4 n n) n (.slice B4' m m) m (.slice C4 o o) o cur iv4 (markLn l 1)⟩, ⟨w4.heap.size, w4.heap.size + 1, BoxP (w4.heap.size) 26 #[.slice A4 n n, .slice B4' m m, .slice C4 o o]⟩, ⟨w4.heap.size + 1, w5.heap.size, GL (w4.heap.size + 1) w5.heap.size (.slice Ag ng cg) ng (.slice Bg mg dg) mg (.slice Cg og fg) og curg ivg (markLn l2 1) (.slice Zg zg yg) zg (markL zg (1 + cntL l2))⟩, ⟨w5.heap.size, w5.heap.size + 1, BoxP (w5.heap.size) 26 #[.slice Ag ng cg, .slice Bg mg dg, .slice Cg og fg]⟩] w12b) := Lib.hid (fm_put F12.out 3 rfl (chg_grown hg fun b e => ⟨((fm_get F12.out 3 rfl).o.lt b e).1, (fm_get F12.out 3 rfl).oh b e⟩) (at_gl (gl_mark_p (fm_get F12.out 3 rfl) hg ho) (Nat.le_trans (fm_lt F12.out 3 rfl).2.2 hg.size)))
      clear F12
      clear ho hg
      have km : decide ((1 + cntL l2) + 4 * (zg : Int) < 0) = false := by simp; omega
      obtain ⟨⟨g0, g1, g2⟩, -⟩ := blk_three (fm_blk F12b.out 4 rfl)
      go_wp2_with fail
      refine (heldLanes_any Ag ng cg Bg mg dg Cg og fg l2 1 _ (li_lr (fm_get F12b.out 3 rfl).d (by omega) (by omega) (by omega)) hl2 (by omega)).mono ?_
      rintro e w13a ⟨rfl, hb⟩
      have Fw13a : Hid (Fm w3 [⟨w3.heap.size, w3.heap.size + 1, BoxP (w3.heap.size) 26 #[.slice Aw nw cw, .slice Bw mw dw, .slice Cw ow fw]⟩, ⟨w3.heap.size + 1, w4.heap.size, LI (w3.heap.size + 1) w4.heap.size (.slice A4 n n) n (.slice B4' m m) m (.slice C4 o o) o cur iv4 (markLn l 1)⟩, ⟨w4.heap.size, w4.heap.size + 1, BoxP (w4.heap.size) 26 #[.slice A4 n n, .slice B4' m m, .slice C4 o o]⟩, ⟨w4.heap.size + 1, w5.heap.size, GL (w4.heap.size + 1) w5.heap.size (.slice Ag ng cg) ng (.slice Bg mg dg) mg (.slice Cg og fg) og curg ivg (markLn l2 1) (.slice Zg zg yg) zg (markL zg (1 + cntL l2))⟩, ⟨w5.heap.size, w5.heap.size + 1, BoxP (w5.heap.size) 26 #[.slice Ag ng cg, .slice Bg mg dg, .slice Cg og fg]⟩] w13a) := Lib.hid (fm_below F12b.out hb)
      clear F12b
      clear hb g0 g1 g2
      go_wp2_with fail
      refine (heldPacketS_any Zg zg yg (1 + cntL l2) _ (pr_own (fm_get Fw13a.out 3 rfl).o) (by omega) (by omega)).mono ?_
      rintro e w13_ ⟨rfl, rfl⟩
      obtain ⟨⟨q0, q1, q2⟩, -⟩ := blk_three (blk_below A3.out Fw13a.out.below za)
      go_wp2_with fail
      refine (toLanes_any A n c B m d C o f l _ (la_below H.out (below_seq B3.out Fw13a.out.below)) hbig).mono ?_
      rintro e w14 ⟨A14, B14, C14, hs14, iv14, rfl, hD, -, hb⟩
      have X14 := Lib.hid (lo_lr hD (by omega) (by omega) (by omega))
      have F14 : Hid (Fm w3 [⟨w3.heap.size, w3.heap.size + 1, BoxP (w3.heap.size) 26 #[.slice Aw nw cw, .slice Bw mw dw, .slice Cw ow fw]⟩, ⟨w3.heap.size + 1, w4.heap.size, LI (w3.heap.size + 1) w4.heap.size (.slice A4 n n) n (.slice B4' m m) m (.slice C4 o o) o cur iv4 (markLn l 1)⟩, ⟨w4.heap.size, w4.heap.size + 1, BoxP (w4.heap.size) 26 #[.slice A4 n n, .slice B4' m m, .slice C4 o o]⟩, ⟨w4.heap.size + 1, w5.heap.size, GL (w4.heap.size + 1) w5.heap.size (.slice Ag ng cg) ng (.slice Bg mg dg) mg (.slice Cg og fg) og curg ivg (markLn l2 1) (.slice Zg zg yg) zg (markL zg (1 + cntL l2))⟩, ⟨w5.heap.size, w5.heap.size + 1, BoxP (w5.heap.size) 26 #[.slice Ag ng cg, .slice Bg mg dg, .slice Cg og fg]⟩] w14) := Lib.hid (fm_below Fw13a.out hb)
      clear Fw13a
      clear hb hD q0 q1 q2
      go_wp2_with fail
      refine (HI0.out A14 n n B14 m m C14 o o _ X14.out).mono ?_
      rintro e w15 ⟨Ah, nh, ch, Bh, mh, dh, Ch, oh, fh, hsh, ivh, Zh, zh, yh, rfl, hm, hG, hb⟩
      have FH := Lib.hid (lo_lrf hG.d.1 hl2)
      have PH := Lib.hid (pr_own hG.o)
      have lzh : zh ≤ 1048576 := by omega
      have F15 : Hid (Fm w3 [⟨w3.heap.size, w3.heap.size + 1, BoxP (w3.heap.size) 26 #[.slice Aw nw cw, .slice Bw mw dw, .slice Cw ow fw]⟩, ⟨w3.heap.size + 1, w4.heap.size, LI (w3.heap.size + 1) w4.heap.size (.slice A4 n n) n (.slice B4' m m) m (.slice C4 o o) o cur iv4 (markLn l 1)⟩, ⟨w4.heap.size, w4.heap.size + 1, BoxP (w4.heap.size) 26 #[.slice A4 n n, .slice B4' m m, .slice C4 o o]⟩, ⟨w4.heap.size + 1, w5.heap.size, GL (w4.heap.size + 1) w5.heap.size (.slice Ag ng cg) ng (.slice Bg mg dg) mg (.slice Cg og fg) og curg ivg (markLn l2 1) (.slice Zg zg yg) zg (markL zg (1 + cntL l2))⟩, ⟨w5.heap.size, w5.heap.size + 1, BoxP (w5.heap.size) 26 #[.slice Ag ng cg, .slice Bg mg dg, .slice Cg og fg]⟩] w15) := Lib.hid (fm_below F14.out hb)
      clear F14
      have F0 : Hid (Fm w15 [] w15) := Lib.hid (fm_zero w15)
      clear hb X14 hG hm
      have F15a : Hid (Fm w3 [⟨w3.heap.size, w3.heap.size + 1, BoxP (w3.heap.size) 26 #[.slice Aw nw cw, .slice Bw mw dw, .slice Cw ow fw]⟩, ⟨w3.heap.size + 1, w4.heap.size, LI (w3.heap.size + 1) w4.heap.size (.slice A4 n n) n (.slice B4' m m) m (.slice C4 o o) o cur iv4 (markLn l 1)⟩, ⟨w4.heap.size, w4.heap.size + 1, BoxP (w4.heap.size) 26 #[.slice A4 n n, .slice B4' m m, .slice C4 o o]⟩, ⟨w4.heap.size + 1, w5.heap.size, GL (w4.heap.size + 1) w5.heap.size (.slice Ag ng cg) ng (.slice Bg mg dg) mg (.slice Cg og fg) og curg ivg (markLn l2 1) (.slice Zg zg yg) zg (markL zg (1 + cntL l2))⟩, ⟨w5.heap.size, w5.heap.size + 1, BoxP (w5.heap.size) 26 #[.slice Ag ng cg, .slice Bg mg dg, .slice Cg og fg]⟩, ⟨w15.heap.size, w15.heap.size + 1, BoxP (w15.heap.size) 26 #[.slice Ah nh ch, .slice Bh mh dh, .slice Ch oh fh]⟩] (w15.alloc (.cells #[.slice Ah nh ch, .slice Bh mh dh, .slice Ch oh fh] 26))) := Lib.hid (fm_push F15.out (by simp) _ _)
      clear F15
      replace FH := Lib.hid (lr_below FH.out (below_alloc (Below.refl w15.heap.size w15) (.cells #[.slice Ah nh ch, .slice Bh mh dh, .slice Ch oh fh] 26)))
      obtain ⟨⟨g0, g1, g2⟩, -⟩ := blk_three (fm_blk F15a.out 5 rfl)
      obtain ⟨⟨u0, u1, u2⟩, -⟩ := blk_three (fm_blk F15a.out 0 rfl)
      go_wp2_with fail
      refine (eqLanes_same Ah Aw nh ch nw cw Bh Bw mh dh mw dw Ch Cw oh fh ow fw l2 _ FH.out (lr_below FW.out F15a.out.below)).mono ?_
      rintro e w16a ⟨rfl, hb⟩
      have Fw16a : Hid (Fm w3 [⟨w3.heap.size, w3.heap.size + 1, BoxP (w3.heap.size) 26 #[.slice Aw nw cw, .slice Bw mw dw, .slice Cw ow fw]⟩, ⟨w3.heap.size + 1, w4.heap.size, LI (w3.heap.size + 1) w4.heap.size (.slice A4 n n) n (.slice B4' m m) m (.slice C4 o o) o cur iv4 (markLn l 1)⟩, ⟨w4.heap.size, w4.heap.size + 1, BoxP (w4.heap.size) 26 #[.slice A4 n n, .slice B4' m m, .slice C4 o o]⟩, ⟨w4.heap.size + 1, w5.heap.size, GL (w4.heap.size + 1) w5.heap.size (.slice Ag ng cg) ng (.slice Bg mg dg) mg (.slice Cg og fg) og curg ivg (markLn l2 1) (.slice Zg zg yg) zg (markL zg (1 + cntL l2))⟩, ⟨w5.heap.size, w5.heap.size + 1, BoxP (w5.heap.size) 26 #[.slice Ag ng cg, .slice Bg mg dg, .slice Cg og fg]⟩, ⟨w15.heap.size, w15.heap.size + 1, BoxP (w15.heap.size) 26 #[.slice Ah nh ch, .slice Bh mh dh, .slice Ch oh fh]⟩] w16a) := Lib.hid (fm_below F15a.out hb)
      clear F15a
      replace PH := Lib.hid (pr_below (pr_alloc PH.out _) hb)
      clear hb g0 g1 g2 u0 u1 u2 FH
      go_wp2_with fail
      refine (eqPacketS_any Zh Zw zh yh zw yw ps ps _ PH.out (pr_below PW.out Fw16a.out.below) (by omega) (by omega)).mono ?_
      rintro e w16c ⟨rfl, hb⟩
      rw [← same_yes rfl]
      have Fw16c : Hid (Fm w3 [⟨w3.heap.size, w3.heap.size + 1, BoxP (w3.heap.size) 26 #[.slice Aw nw cw, .slice Bw mw dw, .slice Cw ow fw]⟩, ⟨w3.heap.size + 1, w4.heap.size, LI (w3.heap.size + 1) w4.heap.size (.slice A4 n n) n (.slice B4' m m) m (.slice C4 o o) o cur iv4 (markLn l 1)⟩, ⟨w4.heap.size, w4.heap.size + 1, BoxP (w4.heap.size) 26 #[.slice A4 n n, .slice B4' m m, .slice C4 o o]⟩, ⟨w4.heap.size + 1, w5.heap.size, GL (w4.heap.size + 1) w5.heap.size (.slice Ag ng cg) ng (.slice Bg mg dg) mg (.slice Cg og fg) og curg ivg (markLn l2 1) (.slice Zg zg yg) zg (markL zg (1 + cntL l2))⟩, ⟨w5.heap.size, w5.heap.size + 1, BoxP (w5.heap.size) 26 #[.slice Ag ng cg, .slice Bg mg dg, .slice Cg og fg]⟩, ⟨w15.heap.size, w15.heap.size + 1, BoxP (w15.heap.size) 26 #[.slice Ah nh ch, .slice Bh mh dh, .slice Ch oh fh]⟩] w16c) := Lib.hid (fm_below Fw16a.out hb)
      clear Fw16a
      clear hb
      obtain ⟨⟨g0, g1, g2⟩, -⟩ := blk_three (fm_blk Fw16c.out 4 rfl)
      go_wp2_with fail
      refine (heldLanes_any Ag ng cg Bg mg dg Cg og fg l2 1 _ (li_lr (fm_get Fw16c.out 3 rfl).d (by omega) (by omega) (by omega)) hl2 (by omega)).mono ?_
      rintro e w17a ⟨rfl, hb⟩
      have Fw17a : Hid (Fm w3 [⟨w3.heap.size, w3.heap.size + 1, BoxP (w3.heap.size) 26 #[.slice Aw nw cw, .slice Bw mw dw, .slice Cw ow fw]⟩, ⟨w3.heap.size + 1, w4.heap.size, LI (w3.heap.size + 1) w4.heap.size (.slice A4 n n) n (.slice B4' m m) m (.slice C4 o o) o cur iv4 (markLn l 1)⟩, ⟨w4.heap.size, w4.heap.size + 1, BoxP (w4.heap.size) 26 #[.slice A4 n n, .slice B4' m m, .slice C4 o o]⟩, ⟨w4.heap.size + 1, w5.heap.size, GL (w4.heap.size + 1) w5.heap.size (.slice Ag ng cg) ng (.slice Bg mg dg) mg (.slice Cg og fg) og curg ivg (markLn l2 1) (.slice Zg zg yg) zg (markL zg (1 + cntL l2))⟩, ⟨w5.heap.size, w5.heap.size + 1, BoxP (w5.heap.size) 26 #[.slice Ag ng cg, .slice Bg mg dg, .slice Cg og fg]⟩, ⟨w15.heap.size, w15.heap.size + 1, BoxP (w15.heap.size) 26 #[.slice Ah nh ch, .slice Bh mh dh, .slice Ch oh fh]⟩] w17a) := Lib.hid (fm_below Fw16c.out hb)
      clear Fw16c
      clear hb g0 g1 g2
      go_wp2_with fail
      refine (heldPacketS_any Zg zg yg (1 + cntL l2) _ (pr_own (fm_get Fw17a.out 3 rfl).o) (by omega) (by omega)).mono ?_
      rintro e w17_ ⟨rfl, rfl⟩
      go_wp2
      go_ret
      exact ⟨rfl, below_seq B3.out Fw17a.out.below⟩
  · have hle : (1048576 : Int) < (lsz l : Int) := by omega
    go_enter Try.func14, Try.ntmps14
    go_wp2_with fail
    refine (szLanes_any A n c B m d C o f l 1048576 _ (la_below H.out B0.out) (by omega)).mono ?_
    rintro e w1 ⟨rfl, hb⟩
    rw [if_pos (by omega)]
    have B1 := Lib.hid (below_seq B0.out hb)
    clear hb hle hbig
    go_wp2
    go_ret
    exact ⟨rfl, B1.out⟩
end Go.Proofs.Ytkmoiphcpmhacaa.fnExactLeaveLanes
