/-
  The law FnExactJoinLanes returns true at every argument: the program's JoinLanes answers as the model's, writes into no argument, and its answer owns its memory. Conditions: none.
-/
import Derived.Test.YtffgblphimjipacKo
import Derived.Test.YtffgblphimjipacKp
namespace Go.Proofs.Ytffgblphimjipac.fnExactJoinLanes
open Go.ChangeShapes Go.WideShapes Go.ChangeAt Go.RowKit

/-- lanes that a region has laid into a box of its own, with their blocks, in one interval of blocks -/
structure GB (lo hi L : Nat) (vA : Value) (n : Nat) (vB : Value) (m : Nat) (vC : Value) (o : Nat) (hs : List Rh) (iv : Nat → Nat × Nat) (l : Ln) (w : World) : Prop where
  b : Blk w L 26 #[vA, vB, vC]
  d : LI lo hi vA n vB m vC o hs iv l w
  l : lo ≤ L ∧ L < hi
  sep : OutL vA vB vC iv L
theorem at_gb {lo hi L n m o : Nat} {vA vB vC : Value} {hs : List Rh} {iv : Nat → Nat × Nat} {l : Ln} {w : World} (G : GB lo hi L vA n vB m vC o hs iv l w) (hf : hi ≤ w.heap.size) : At lo hi (GB lo hi L vA n vB m vC o hs iv l) w :=
  ⟨G, hf, fun _ h1 hb => ⟨(hb L G.l.1 G.l.2).trans G.b, li_loc G.d h1 hb, G.l, G.sep⟩⟩
theorem gb_mark {lo hi L n m o : Nat} {vA vB vC : Value} {hs cur : List Rh} {iv : Nat → Nat × Nat} {l l' : Ln} {w w' : World} (G : GB lo hi L vA n vB m vC o hs iv l w) (hD : LI lo hi vA n vB m vC o cur iv l' w') (hk : ∀ b, b < w.heap.size → OutL vA vB vC iv b → w'.heap[b]? = w.heap[b]?) : GB lo hi L vA n vB m vC o cur iv l' w' :=
  ⟨(hk L (blk_lt G.b) G.sep).trans G.b, hD, G.l, G.sep⟩
theorem gb_few {lo hi L n m o c d f : Nat} {A B C : Option Addr} {hs : List Rh} {iv : Nat → Nat × Nat} {l : Ln} {w : World} (G : GB lo hi L (.slice A n c) n (.slice B m d) m (.slice C o f) o hs iv l w) (h : lsz l ≤ 1048576) : n ≤ 1048576 ∧ m ≤ 1048576 ∧ o ≤ 1048576 := by
  have h1 := (dr_len G.d.1.r).2
  have h2 : l.ws.length = m := (nr_own G.d.1.b).1
  have h3 : l.cs.length = o := (nr_own G.d.1.c).1
  unfold lsz at h
  omega
theorem gb_lr {lo hi L n m o c d f : Nat} {A B C : Option Addr} {hs : List Rh} {iv : Nat → Nat × Nat} {l : Ln} {w : World} (G : GB lo hi L (.slice A n c) n (.slice B m d) m (.slice C o f) o hs iv l w) (h : lsz l ≤ 1048576) : LR w A n B m C o l := by
  have := gb_few G h
  exact li_lr G.d (by omega) (by omega) (by omega)
def GR (w : World) (l : Ln) (s : Value) (wx : World) : Prop :=
  ∃ L A n c B m d C o f hs iv, s = .pointer (some ⟨L, 0, none⟩) ∧ GB w.heap.size wx.heap.size L (.slice A n c) n (.slice B m d) m (.slice C o f) o hs iv l wx ∧ Below w.heap.size w wx
theorem gr_new {W w8 : World} {lo n m o c d f : Nat} {A B C : Option Addr} {hs : List Rh} {iv : Nat → Nat × Nat} {l : Ln} (D : LO w8 lo (.slice A n c) n (.slice B m d) m (.slice C o f) o hs iv l) (_ : ∀ k, (iv k).1 < (iv k).2 → lo ≤ (iv k).1) (hlo : W.heap.size ≤ lo) (Bl : Below W.heap.size W w8) :
    GR W l (.pointer (some ⟨w8.heap.size, 0, none⟩)) (w8.alloc (.cells #[.slice A n c, .slice B m d, .slice C o f] 26)) := by
  have z := Bl.size
  refine ⟨w8.heap.size, A, n, c, B, m, d, C, o, f, hs, iv, rfl, ⟨blk_new w8 _ _, li_all (lo_below (lo_mono D hlo) (below_alloc (Below.refl _ _) _)), ⟨z, by simp⟩, ⟨⟨fun e => ?_, fun k => .inr (D.r.top k)⟩, fun e => ?_, fun e => ?_⟩⟩, below_alloc Bl _⟩
  · have := (D.r.row.lt _ e).2; omega
  · have := (D.b.lt _ e).2; omega
  · have := (D.c.lt _ e).2; omega
theorem gr_set {W w8 : World} {lo L n m o c d f : Nat} {A B C : Option Addr} {hs : List Rh} {iv : Nat → Nat × Nat} {l : Ln} (D : LO w8 lo (.slice A n c) n (.slice B m d) m (.slice C o f) o hs iv l) (hI : ∀ k, (iv k).1 < (iv k).2 → lo ≤ (iv k).1) (hL : W.heap.size ≤ L) (hlo : L < lo) (N : Blk w8 L 26 #[.slice none 0 0, .slice none 0 0, .slice none 0 0]) (Bl : Below W.heap.size W w8) :
    GR W l (.pointer (some ⟨L, 0, none⟩)) (((w8.setCell ⟨L, 0, none⟩ (.slice A n c)).setCell ⟨L, 1, none⟩ (.slice B m d)).setCell ⟨L, 2, none⟩ (.slice C o f)) := by
  have z := blk_lt N
  refine ⟨L, A, n, c, B, m, d, C, o, f, hs, iv, rfl, ⟨blk_set (blk_set (blk_set N 0 _) 1 _) 2 _, li_all (lo_mono (lo_far (lo_far (lo_far D hlo hI _) hlo hI _) hlo hI _) (by omega)), ⟨hL, by simp; exact z⟩, ⟨⟨fun e => ?_, fun k => ?_⟩, fun e => ?_, fun e => ?_⟩⟩, ((Bl.setCell hL _).setCell hL _).setCell hL _⟩
  · have := (D.r.row.lt _ e).1; omega
  · rcases Nat.lt_or_ge (iv k).1 (iv k).2 with hk | hk
    · have := hI k hk; omega
    · omega
  · have := (D.b.lt _ e).1; omega
  · have := (D.c.lt _ e).1; omega
theorem snd_of {a b : Prop} (h : a ∧ b) : b := h.2
def JlP (w : World) (l : Ln) (ok : Bool) (e : Ending) (w' : World) : Prop :=
  ∃ A n c B m d C o f hs iv, e = .returned (.tuple #[.agg #[.slice A n c, .slice B m d, .slice C o f], .bool ok]) ∧ LO w' w.heap.size (.slice A n c) n (.slice B m d) m (.slice C o f) o hs iv l ∧ (∀ k, (iv k).1 < (iv k).2 → w.heap.size ≤ (iv k).1) ∧ Below w.heap.size w w'
theorem lo_nil (w : World) (lo : Nat) : LO w lo (.slice none 0 0) 0 (.slice none 0 0) 0 (.slice none 0 0) 0 [] (fun _ => (0, 0)) ⟨[], [], []⟩ :=
  ⟨dr_nil w lo, World.ownsRow_nil _ _ _ _, World.ownsRow_nil _ _ _ _, fun b e => (by cases e), fun b e => (by cases e), fun b e => (by cases e)⟩
theorem rsz_few {rs : List Rb} (h : ∀ r ∈ rs, r.fs.length + total r.fs ≤ 600) : rsz rs ≤ rs.length * 600 := by
  induction rs with
  | nil => simp [rsz]
  | cons r t ih =>
    have h1 := h r (by simp)
    have h2 := ih fun x hx => h x (by simp [hx])
    simp only [rsz, List.length_cons]
    omega
theorem lsz_lv {l : Ln} (h : LV l) : lsz l ≤ 1048576 := by
  have h1 : rsz l.rs ≤ l.rs.length * 600 := rsz_few fun r hr => by
    obtain ⟨k, hk⟩ := List.getElem?_of_mem hr
    have hv := (h.rb k r hk).rv
    have h2 := total_le hv
    have h3 := rv_len hv
    omega
  have h4 := h.n0
  have h5 := h.n1
  have h6 := h.n2
  unfold lsz
  omega
theorem both (l : Ln) (p : Pkt) : ∃ (l2 : Ln) (ok : Bool), lsz l2 ≤ 1048576 ∧
    Hid (∀ (A : Option Addr) (n c : Nat) (B : Option Addr) (m d : Nat) (C : Option Addr) (o f : Nat) (w : World), LR w A n B m C o l → Calls Try.prog 30 #[.agg #[.slice A n c, .slice B m d, .slice C o f], .agg #[.int .i64 p.peer, .int .i64 p.lane, .int .i64 p.size, .int .i64 p.id]] w (JlP w l2 ok)) ∧
    Hid (∀ (A : Option Addr) (n c : Nat) (B : Option Addr) (m d : Nat) (C : Option Addr) (o f : Nat) (w : World), LR w A n B m C o l → Calls Try.prog 29 #[.agg #[.slice A n c, .slice B m d, .slice C o f], .agg #[.int .i64 p.peer, .int .i64 p.lane, .int .i64 p.size, .int .i64 p.id]] w (JlP w l2 ok)) := by
  by_cases hk : ∃ k r, JnOk l p k r
  · obtain ⟨k, r, hk⟩ := hk
    have key : ∀ {w : World} {e : Ending} {w' : World}, JlYes w (jnN l k r p) e w' → JlP w (jnN l k r p) true e w' := fun h => by
      obtain ⟨A, n, c, B, m, d, C, o, f, hs, iv, h1, -, -, -, h2, h3, h4⟩ := h
      exact ⟨A, n, c, B, m, d, C, o, f, hs, iv, h1, h2, h3, h4⟩
    exact ⟨jnN l k r p, true, lsz_lv (lv_join hk), Lib.hid fun A n c B m d C o f w h => (jlS_yes A n c B m d C o f l p k r w h hk).mono fun _ _ h => key h, Lib.hid fun A n c B m d C o f w h => (jlI_yes A n c B m d C o f l p k r w h hk).mono fun _ _ h => key h⟩
  · have key : ∀ {w : World} {e : Ending} {w' : World}, JlNo w e w' → JlP w ⟨[], [], []⟩ false e w' := fun h =>
      ⟨none, 0, 0, none, 0, 0, none, 0, 0, [], _, h.1, lo_nil _ _, fun k hk => absurd hk (by simp), h.2⟩
    exact ⟨⟨[], [], []⟩, false, by simp [lsz, rsz], Lib.hid fun A n c B m d C o f w h => (jlS_no A n c B m d C o f l p w h hk).mono fun _ _ h => key h, Lib.hid fun A n c B m d C o f w h => (jlI_no A n c B m d C o f l p w h hk).mono fun _ _ h => key h⟩
/-- two boxes of three cells are read, one of them behind the frame's beginning -/
theorem fm_rd3c {w3 w1 : World} {L : List Iv} (h : Fm w3 L w1) {g0 : Nat} {t0 : TypeId} {x0 y0 z0 : Value} (B : Blk w3 g0 t0 #[x0, y0, z0]) (j : Nat) {a2 b2 g2 : Nat} {t2 : TypeId} {x2 y2 z2 : Value} (hj : L[j]? = some ⟨a2, b2, BoxP g2 t2 #[x2, y2, z2]⟩) :
    (w1.cell? ⟨g0, 0, none⟩ = some x0 ∧ w1.cell? ⟨g0, 1, none⟩ = some y0 ∧ w1.cell? ⟨g0, 2, none⟩ = some z0) ∧ (w1.cell? ⟨g2, 0, none⟩ = some x2 ∧ w1.cell? ⟨g2, 1, none⟩ = some y2 ∧ w1.cell? ⟨g2, 2, none⟩ = some z2) ∧ Fm w3 L w1 := by
  have B1 := blk_below B h.below (blk_lt B)
  have B2 : Blk w1 g2 t2 #[x2, y2, z2] := fm_blk h j hj
  exact ⟨(blk_three B1).1, (blk_three B2).1, h⟩
set_option maxRecDepth 100000 in
set_option maxHeartbeats 8000000 in
theorem walk (A : Option Addr) (n c : Nat) (B : Option Addr) (m d : Nat) (C : Option Addr) (o f : Nat) (l : Ln) (p : Pkt) (w : World) (h : LA w A n B m C o l) :
    Calls Try.prog 13 #[.agg #[.slice A n c, .slice B m d, .slice C o f], .agg #[.int .i64 p.peer, .int .i64 p.lane, .int .i64 p.size, .int .i64 p.id]] w fun e w' => e = .returned (.bool true) ∧ Below w.heap.size w w' := by
  have H := Lib.hid h
  have HL := Lib.hid (la_lens h)
  have B0 := Lib.hid (below_alloc (below_alloc (Below.refl w.heap.size w) (.cells #[.slice A n c, .slice B m d, .slice C o f] 57)) (.cells #[.int .i64 p.peer, .int .i64 p.lane, .int .i64 p.size, .int .i64 p.id] 66))
  have A0 := Lib.hid (blk_alloc (blk_new w 57 #[.slice A n c, .slice B m d, .slice C o f]) (.cells #[.int .i64 p.peer, .int .i64 p.lane, .int .i64 p.size, .int .i64 p.id] 66))
  have P0 := Lib.hid (blk_new2 w (.cells #[.slice A n c, .slice B m d, .slice C o f] 57) 66 #[.int .i64 p.peer, .int .i64 p.lane, .int .i64 p.size, .int .i64 p.id])
  clear h
  by_cases hbig : lsz l ≤ 1048576
  · obtain ⟨l2, ok, hl2, HS0, HI0⟩ := both l p
    have n0 : n ≤ 1048576 := by have := HL.out.2.2.2; omega
    have m0 : m ≤ 1048576 := by have := HL.out.2.2.2; omega
    have o0 : o ≤ 1048576 := by have := HL.out.2.2.2; omega
    have hcl := cntL_bd hbig
    have kx : decide (1 + cntL l < 0) = false := by simp; omega
    have kx0 : 0 ≤ 1 + cntL l := by omega
    have hle : ¬ (1048576 : Int) < (lsz l : Int) := by omega
    have hd : decide ((1048576 : Int) - (lsz l : Int) < 0) = false := by simp; omega
    have hcg := cntL_bd hl2
    have kg : 0 ≤ 1 + cntL l2 ∧ 1 + cntL l2 ≤ 6000000 := by omega
    have kg0 : decide (1 + cntL l2 < 0) = false := by simp; omega
    clear hcl hcg
    go_enter Try.func13, Try.ntmps13
    go_wp2_with fail
    refine (szLanes_any A n c B m d C o f l 1048576 _ (la_below H.out B0.out) (by omega)).mono ?_
    rintro e w1 ⟨rfl, hb⟩
    rw [if_neg (by omega)]
    have B1 := Lib.hid (below_seq B0.out hb)
    have A1 := Lib.hid (blk_below A0.out hb (by simp <;> omega))
    have P1 := Lib.hid (blk_below P0.out hb (by simp))
    clear hb hle A0 P0 B0
    have OS : Hid (∀ w' : World, Below w1.heap.size w1 w' → ((w'.cell? ⟨w.heap.size, 0, none⟩ = some (.slice A n c) ∧ w'.cell? ⟨w.heap.size, 1, none⟩ = some (.slice B m d) ∧ w'.cell? ⟨w.heap.size, 2, none⟩ = some (.slice C o f)) ∧ (w'.cell? ⟨w.heap.size + 1, 0, none⟩ = some (.int .i64 p.peer) ∧ w'.cell? ⟨w.heap.size + 1, 1, none⟩ = some (.int .i64 p.lane) ∧ w'.cell? ⟨w.heap.size + 1, 2, none⟩ = some (.int .i64 p.size) ∧ w'.cell? ⟨w.heap.size + 1, 3, none⟩ = some (.int .i64 p.id))) ∧ Below w1.heap.size w1 w') := Lib.hid (fun w' h => by
      have b1 := blk_below A1.out h (blk_lt A1.out)
      have b2 := blk_below P1.out h (blk_lt P1.out)
      exact ⟨⟨(blk_three b1).1, ⟨blk_cell b2 0, blk_cell b2 1, blk_cell b2 2, blk_cell b2 3⟩⟩, h⟩)
    have hS : ((w1.drew.cell? ⟨w.heap.size, 0, none⟩ = some (.slice A n c) ∧ w1.drew.cell? ⟨w.heap.size, 1, none⟩ = some (.slice B m d) ∧ w1.drew.cell? ⟨w.heap.size, 2, none⟩ = some (.slice C o f)) ∧ (w1.drew.cell? ⟨w.heap.size + 1, 0, none⟩ = some (.int .i64 p.peer) ∧ w1.drew.cell? ⟨w.heap.size + 1, 1, none⟩ = some (.int .i64 p.lane) ∧ w1.drew.cell? ⟨w.heap.size + 1, 2, none⟩ = some (.int .i64 p.size) ∧ w1.drew.cell? ⟨w.heap.size + 1, 3, none⟩ = some (.int .i64 p.id))) ∧ Below w1.heap.size w1 w1.drew := OS.out _ (Below.drew (Below.refl _ _))
    go_upto_region 5 with fail
    go_cut [6, 7] from 22 to 28 (fun s1 s2 wx => GR w1 l2 s1 wx ∧ s2 = .bool ok)
    case first =>
      go_region_held3 (fun w' => ((w'.cell? ⟨w.heap.size, 0, none⟩ = some (.slice A n c) ∧ w'.cell? ⟨w.heap.size, 1, none⟩ = some (.slice B m d) ∧ w'.cell? ⟨w.heap.size, 2, none⟩ = some (.slice C o f)) ∧ (w'.cell? ⟨w.heap.size + 1, 0, none⟩ = some (.int .i64 p.peer) ∧ w'.cell? ⟨w.heap.size + 1, 1, none⟩ = some (.int .i64 p.lane) ∧ w'.cell? ⟨w.heap.size + 1, 2, none⟩ = some (.int .i64 p.size) ∧ w'.cell? ⟨w.heap.size + 1, 3, none⟩ = some (.int .i64 p.id))) ∧ Below w1.heap.size w1 w')
        (first
          | (with_reducible assumption)
          | (with_reducible exact OS.out _ (Below.drew (below_alloc (Below.refl _ _) _)))
          | (with_reducible exact OS.out _ (below_alloc B6.out _))
          | (with_reducible exact OS.out _ (below_alloc B7.out _))
          | (with_reducible exact OS.out _ (below_alloc B8.out _))
          | (refine OS.out _ ?_; with_reducible refine Below.setCell ?_ ?_ _; with_reducible refine Below.setCell ?_ ?_ _; with_reducible refine Below.setCell ?_ ?_ _; (first | with_reducible exact B8.out | with_reducible exact below_alloc B8.out _); all_goals (simp <;> omega))
          | fail)
        (first
          | (go_at_call 30
             refine (HS0.out X6 n n Y6 m m Z6 o o _ (by first | exact PX7.out | exact lr_alloc PX7.out _)).mono ?_
             rintro e w8 ⟨Ao, no, co, Bo, mo, dp, Co, oq, fo, hso, ivo, rfl, hD8, hI8, hb8⟩
             have D8 := Lib.hid (And.intro hD8 hI8)
             have B8 := Lib.hid (below_seq (snd_of (by with_reducible assumption)) hb8)
             have hS8 := OS.out _ B8.out
             have z8 := hb8.size
             try simp at z8
             first | (have o0 := (show Blk (w1.alloc (.cells #[.slice none 0 0, .slice none 0 0, .slice none 0 0] 26)).drew w1.heap.size 26 #[.slice none 0 0, .slice none 0 0, .slice none 0 0] from blk_new w1 _ _); have o1 := blk_below o0 R6.out (blk_lt o0); have o2 := blk_below o1 R7.out (blk_lt o1); have o3 := blk_below o2 hb8 (blk_lt o2); obtain ⟨⟨nn0, nn1, nn2⟩, nf0, nf1, nf2⟩ := blk_three o3; have nB := Lib.hid o3) | (have o0 := (show Blk (w6.alloc (.cells #[.slice none 0 0, .slice none 0 0, .slice none 0 0] 26)) w6.heap.size 26 #[.slice none 0 0, .slice none 0 0, .slice none 0 0] from blk_new w6 _ _); have o1 := blk_below o0 R7.out (blk_lt o0); have o2 := blk_below o1 hb8 (blk_lt o1); obtain ⟨⟨nn0, nn1, nn2⟩, nf0, nf1, nf2⟩ := blk_three o2; have nB := Lib.hid o2) | (have o0 := (show Blk (w7.alloc (.cells #[.slice none 0 0, .slice none 0 0, .slice none 0 0] 26)) w7.heap.size 26 #[.slice none 0 0, .slice none 0 0, .slice none 0 0] from blk_new w7 _ _); have o1 := blk_below o0 hb8 (blk_lt o0); obtain ⟨⟨nn0, nn1, nn2⟩, nf0, nf1, nf2⟩ := blk_three o1; have nB := Lib.hid o1) | skip
             clear hb8 hD8 hI8)
          | (go_at_call 44
             refine (toPacket_any p _).mono ?_
             rintro e w7 ⟨rfl, hb7⟩
             have R7 := Lib.hid hb7
             have B7 := Lib.hid (below_seq (snd_of (by with_reducible assumption)) hb7)
             have PX7 := Lib.hid (show LR w7 X6 n Y6 m Z6 o l from (by first | exact lr_below PX6.out hb7 | exact lr_below (lr_alloc PX6.out _) hb7))
             have hS7 := OS.out _ B7.out
             have z7 := hb7.size
             try simp at z7
             clear hb7)
          | (go_at_call 35
             refine (toLanes_any A n c B m d C o f l _ (la_below H.out (below_seq B1.out (snd_of (by with_reducible assumption)))) hbig).mono ?_
             rintro e w6 ⟨X6, Y6, Z6, h6, i6, rfl, ho6, -, hb6⟩
             have R6 := Lib.hid hb6
             have PX6 := Lib.hid (lo_lr ho6 (by omega) (by omega) (by omega))
             have B6 := Lib.hid (below_seq (snd_of (by with_reducible assumption)) hb6)
             have hS6 := OS.out _ B6.out
             have z6 := hb6.size
             try simp at z6
             clear hb6 ho6))
      all_goals
        go_wp2_with fail
        go_meet
        refine ⟨?_, rfl⟩
        first
          | exact gr_new D8.out.1 D8.out.2 (by first | omega | (simp; omega) | simp) B8.out
          | exact gr_set D8.out.1 D8.out.2 (by first | omega | (simp; omega) | simp) (by first | omega | (simp; omega) | simp) nB.out B8.out
    case rest =>
    clear hS OS
    obtain ⟨⟨Lw, Aw, nw, cw, Bw, mw, dw, Cw, ow, fw, hsw, ivw, rfl, hG, hB⟩, rfl⟩ := hcut
    obtain ⟨w3, rfl⟩ : ∃ w3, w3 = wc := ⟨_, rfl⟩
    have FW := Lib.hid (gb_lr hG hl2)
    have UB := Lib.hid hG.b
    have B3 := Lib.hid (below_seq B1.out hB)
    have A3 := Lib.hid (blk_below A1.out hB (blk_lt A1.out))
    have P3 := Lib.hid (blk_below P1.out hB (blk_lt P1.out))
    have za : w.heap.size < w3.heap.size := blk_lt A3.out
    have zb : w.heap.size + 1 < w3.heap.size := blk_lt P3.out
    have zu : Lw < w3.heap.size := blk_lt UB.out
    clear hG hB A1 P1
    have F3 : Hid (Fm w3 [] w3) := Lib.hid (fm_zero w3)
    obtain ⟨⟨q0, q1, q2⟩, -⟩ := blk_three (blk_below A3.out F3.out.below za)
    go_wp2_with fail
    refine (toLanes_any A n c B m d C o f l _ (la_below H.out (below_seq B3.out F3.out.below)) hbig).mono ?_
    rintro e w4 ⟨A4, B4', C4, hs4, iv4, rfl, hD, -, hb⟩
    have F4 : Hid (Fm w3 [⟨w3.heap.size, w4.heap.size, LI w3.heap.size w4.heap.size (.slice A4 n n) n (.slice B4' m m) m (.slice C4 o o) o hs4 iv4 l⟩] w4) := Lib.hid (fm_li F3.out hb hD rfl)
    clear F3
    clear hb hD q0 q1 q2
    have F4b : Hid (Fm w3 [⟨w3.heap.size, w4.heap.size, LI w3.heap.size w4.heap.size (.slice A4 n n) n (.slice B4' m m) m (.slice C4 o o) o hs4 iv4 l⟩, ⟨w4.heap.size, w4.heap.size + 1, BoxP w4.heap.size 26 #[.slice A4 n n, .slice B4' m m, .slice C4 o o]⟩] (w4.alloc (.cells #[.slice A4 n n, .slice B4' m m, .slice C4 o o] 26))) := Lib.hid (fm_push F4.out rfl _ _)
    clear F4
    have XB := Lib.hid (show Blk (w4.alloc (.cells #[.slice A4 n n, .slice B4' m m, .slice C4 o o] 26)) w4.heap.size 26 #[.slice A4 n n, .slice B4' m m, .slice C4 o o] from fm_blk F4b.out 1 rfl)
    have PB4 := Lib.hid (blk_below P3.out F4b.out.below zb)
    have PX4 := Lib.hid (li_lr (fm_get F4b.out 0 rfl) (by omega) (by omega) (by omega))
    have zW : (World.heap (w4.alloc (.cells #[.slice A4 n n, .slice B4' m m, .slice C4 o o] 26))).size = w4.heap.size + 1 := by simp
    go_upto_region 7 with fail
    generalize (w4.alloc (.cells #[.slice A4 n n, .slice B4' m m, .slice C4 o o] 26)) = W at F4b XB PB4 PX4 zW ⊢
    have zW2 : w4.heap.size < W.heap.size := by omega
    have zW3 : w.heap.size + 1 < W.heap.size := by have := blk_lt PB4.out; omega
    clear zW
    have OS : Hid (∀ w' : World, Below W.heap.size W w' → ((w'.cell? ⟨w4.heap.size, 0, none⟩ = some (.slice A4 n n) ∧ w'.cell? ⟨w4.heap.size, 1, none⟩ = some (.slice B4' m m) ∧ w'.cell? ⟨w4.heap.size, 2, none⟩ = some (.slice C4 o o)) ∧ (w'.cell? ⟨w.heap.size + 1, 0, none⟩ = some (.int .i64 p.peer) ∧ w'.cell? ⟨w.heap.size + 1, 1, none⟩ = some (.int .i64 p.lane) ∧ w'.cell? ⟨w.heap.size + 1, 2, none⟩ = some (.int .i64 p.size) ∧ w'.cell? ⟨w.heap.size + 1, 3, none⟩ = some (.int .i64 p.id))) ∧ Below W.heap.size W w') := Lib.hid (fun w' h => by
      have b1 := blk_below XB.out h (blk_lt XB.out)
      have b2 := blk_below PB4.out h (blk_lt PB4.out)
      exact ⟨⟨(blk_three b1).1, ⟨blk_cell b2 0, blk_cell b2 1, blk_cell b2 2, blk_cell b2 3⟩⟩, h⟩)
    have hS : ((W.drew.cell? ⟨w4.heap.size, 0, none⟩ = some (.slice A4 n n) ∧ W.drew.cell? ⟨w4.heap.size, 1, none⟩ = some (.slice B4' m m) ∧ W.drew.cell? ⟨w4.heap.size, 2, none⟩ = some (.slice C4 o o)) ∧ (W.drew.cell? ⟨w.heap.size + 1, 0, none⟩ = some (.int .i64 p.peer) ∧ W.drew.cell? ⟨w.heap.size + 1, 1, none⟩ = some (.int .i64 p.lane) ∧ W.drew.cell? ⟨w.heap.size + 1, 2, none⟩ = some (.int .i64 p.size) ∧ W.drew.cell? ⟨w.heap.size + 1, 3, none⟩ = some (.int .i64 p.id))) ∧ Below W.heap.size W W.drew := OS.out _ (Below.drew (Below.refl _ _))
    go_cut [9, 10] from 32 to 37 (fun s1 s2 wx => GR W l2 s1 wx ∧ s2 = .bool ok)
    case first =>
      go_region_held3 (fun w' => ((w'.cell? ⟨w4.heap.size, 0, none⟩ = some (.slice A4 n n) ∧ w'.cell? ⟨w4.heap.size, 1, none⟩ = some (.slice B4' m m) ∧ w'.cell? ⟨w4.heap.size, 2, none⟩ = some (.slice C4 o o)) ∧ (w'.cell? ⟨w.heap.size + 1, 0, none⟩ = some (.int .i64 p.peer) ∧ w'.cell? ⟨w.heap.size + 1, 1, none⟩ = some (.int .i64 p.lane) ∧ w'.cell? ⟨w.heap.size + 1, 2, none⟩ = some (.int .i64 p.size) ∧ w'.cell? ⟨w.heap.size + 1, 3, none⟩ = some (.int .i64 p.id))) ∧ Below W.heap.size W w')
        (first
          | (with_reducible assumption)
          | (with_reducible exact OS.out _ (Below.drew (below_alloc (Below.refl _ _) _)))
          | (with_reducible exact OS.out _ (below_alloc B7.out _))
          | (with_reducible exact OS.out _ (below_alloc B8.out _))
          | (refine OS.out _ ?_; with_reducible refine Below.setCell ?_ ?_ _; with_reducible refine Below.setCell ?_ ?_ _; with_reducible refine Below.setCell ?_ ?_ _; (first | with_reducible exact B8.out | with_reducible exact below_alloc B8.out _); all_goals (simp <;> omega))
          | fail)
        (first
          | (go_at_call 29
             refine (HI0.out A4 n n B4' m m C4 o o _ (by first | exact PX7.out | exact lr_alloc PX7.out _)).mono ?_
             rintro e w8 ⟨Ao, no, co, Bo, mo, dp, Co, oq, fo, hso, ivo, rfl, hD8, hI8, hb8⟩
             have D8 := Lib.hid (And.intro hD8 hI8)
             have B8 := Lib.hid (below_seq (snd_of (by with_reducible assumption)) hb8)
             have hS8 := OS.out _ B8.out
             have z8 := hb8.size
             try simp at z8
             first | (have o0 := (show Blk (W.alloc (.cells #[.slice none 0 0, .slice none 0 0, .slice none 0 0] 26)).drew W.heap.size 26 #[.slice none 0 0, .slice none 0 0, .slice none 0 0] from blk_new W _ _); have o1 := blk_below o0 R7.out (blk_lt o0); have o2 := blk_below o1 hb8 (blk_lt o1); obtain ⟨⟨nn0, nn1, nn2⟩, nf0, nf1, nf2⟩ := blk_three o2; have nB := Lib.hid o2) | (have o0 := (show Blk (w7.alloc (.cells #[.slice none 0 0, .slice none 0 0, .slice none 0 0] 26)) w7.heap.size 26 #[.slice none 0 0, .slice none 0 0, .slice none 0 0] from blk_new w7 _ _); have o1 := blk_below o0 hb8 (blk_lt o0); obtain ⟨⟨nn0, nn1, nn2⟩, nf0, nf1, nf2⟩ := blk_three o1; have nB := Lib.hid o1) | skip
             clear hb8 hD8 hI8)
          | (go_at_call 44
             refine (toPacket_any p _).mono ?_
             rintro e w7 ⟨rfl, hb7⟩
             have R7 := Lib.hid hb7
             have B7 := Lib.hid (below_seq (snd_of (by with_reducible assumption)) hb7)
             have PX7 := Lib.hid (show LR w7 A4 n B4' m C4 o l from lr_below PX4.out B7.out)
             have hS7 := OS.out _ B7.out
             have z7 := hb7.size
             try simp at z7
             clear hb7))
      all_goals
        go_wp2_with fail
        go_meet
        refine ⟨?_, rfl⟩
        first
          | exact gr_new D8.out.1 D8.out.2 (by first | omega | (simp; omega) | simp) B8.out
          | exact gr_set D8.out.1 D8.out.2 (by first | omega | (simp; omega) | simp) (by first | omega | (simp; omega) | simp) nB.out B8.out
    case rest =>
    clear hS OS
    obtain ⟨⟨Lg, Ag, ng, cg, Bg, mg, dg, Cg, og, fg, hsg, ivg, rfl, hG, hB⟩, rfl⟩ := hcut
    obtain ⟨w5, rfl⟩ : ∃ w5, w5 = wc := ⟨_, rfl⟩
    obtain ⟨lng, lmg, log⟩ := gb_few hG hl2
    have F5 : Hid (Fm w3 [⟨w3.heap.size, w4.heap.size, LI w3.heap.size w4.heap.size (.slice A4 n n) n (.slice B4' m m) m (.slice C4 o o) o hs4 iv4 l⟩, ⟨w4.heap.size, w4.heap.size + 1, BoxP w4.heap.size 26 #[.slice A4 n n, .slice B4' m m, .slice C4 o o]⟩, ⟨W.heap.size, w5.heap.size, GB W.heap.size w5.heap.size Lg (.slice Ag ng cg) ng (.slice Bg mg dg) mg (.slice Cg og fg) og hsg ivg l2⟩] w5) := Lib.hid (fm_at F4b.out hB (at_gb hG (Nat.le_refl _)) rfl)
    clear F4b
    clear hG hB XB PB4 PX4 zW2 zW3
    obtain ⟨⟨g0, g1, g2⟩, -⟩ := blk_three (fm_get F5.out 2 rfl).b
    obtain ⟨⟨u0, u1, u2⟩, -⟩ := blk_three (blk_below UB.out F5.out.below zu)
    go_wp2_with fail
    refine (eqLanes_same Ag Aw ng cg nw cw Bg Bw mg dg mw dw Cg Cw og fg ow fw l2 _ (li_lr (fm_get F5.out 2 rfl).d (by omega) (by omega) (by omega)) (lr_below FW.out F5.out.below)).mono ?_
    rintro e w8 ⟨rfl, hb⟩
    have Fw8 : Hid (Fm w3 [⟨w3.heap.size, w4.heap.size, LI w3.heap.size w4.heap.size (.slice A4 n n) n (.slice B4' m m) m (.slice C4 o o) o hs4 iv4 l⟩, ⟨w4.heap.size, w4.heap.size + 1, BoxP w4.heap.size 26 #[.slice A4 n n, .slice B4' m m, .slice C4 o o]⟩, ⟨W.heap.size, w5.heap.size, GB W.heap.size w5.heap.size Lg (.slice Ag ng cg) ng (.slice Bg mg dg) mg (.slice Cg og fg) og hsg ivg l2⟩] w8) := Lib.hid (fm_below F5.out hb)
    clear F5
    clear hb g0 g1 g2 u0 u1 u2
    have hS := fm_rd3c (fm_drew Fw8.out) A3.out 1 rfl
    go_wp2_with fail
    go_region_held3 (fun w' => (w'.cell? ⟨w.heap.size, 0, none⟩ = some (.slice A n c) ∧ w'.cell? ⟨w.heap.size, 1, none⟩ = some (.slice B m d) ∧ w'.cell? ⟨w.heap.size, 2, none⟩ = some (.slice C o f)) ∧ (w'.cell? ⟨w4.heap.size, 0, none⟩ = some (.slice A4 n n) ∧ w'.cell? ⟨w4.heap.size, 1, none⟩ = some (.slice B4' m m) ∧ w'.cell? ⟨w4.heap.size, 2, none⟩ = some (.slice C4 o o)) ∧ Fm w3 [⟨w3.heap.size, w4.heap.size, LI w3.heap.size w4.heap.size (.slice A4 n n) n (.slice B4' m m) m (.slice C4 o o) o hs4 iv4 l⟩, ⟨w4.heap.size, w4.heap.size + 1, BoxP w4.heap.size 26 #[.slice A4 n n, .slice B4' m m, .slice C4 o o]⟩, ⟨W.heap.size, w5.heap.size, GB W.heap.size w5.heap.size Lg (.slice Ag ng cg) ng (.slice Bg mg dg) mg (.slice Cg og fg) og hsg ivg l2⟩] w')
      (first | (with_reducible assumption) | fail)
      (first
        | (go_at_call 36
           refine (eqLanes_same A4 A6 n n n n B4' B6 m m m m C4 C6 o o o o l _ (li_lr (fm_get FX6.out 0 rfl) (by omega) (by omega) (by omega)) PX6.out).mono ?_
           rintro e w7 ⟨rfl, hb7⟩
           have FX7 : Hid (Fm w3 [⟨w3.heap.size, w4.heap.size, LI w3.heap.size w4.heap.size (.slice A4 n n) n (.slice B4' m m) m (.slice C4 o o) o hs4 iv4 l⟩, ⟨w4.heap.size, w4.heap.size + 1, BoxP w4.heap.size 26 #[.slice A4 n n, .slice B4' m m, .slice C4 o o]⟩, ⟨W.heap.size, w5.heap.size, GB W.heap.size w5.heap.size Lg (.slice Ag ng cg) ng (.slice Bg mg dg) mg (.slice Cg og fg) og hsg ivg l2⟩] w7) := Lib.hid (fm_below FX6.out hb7)
           have hS7 := fm_rd3c FX7.out A3.out 1 rfl
           clear hb7)
        | (go_at_call 35
           refine (toLanes_any A n c B m d C o f l _ (la_below H.out (below_seq B3.out (fm_drew Fw8.out).below)) hbig).mono ?_
           rintro e w6 ⟨A6, B6, C6, hs6, iv6, rfl, ho6, -, hb6⟩
           have PX6 := Lib.hid (lo_lr ho6 (by omega) (by omega) (by omega))
           have FX6 : Hid (Fm w3 [⟨w3.heap.size, w4.heap.size, LI w3.heap.size w4.heap.size (.slice A4 n n) n (.slice B4' m m) m (.slice C4 o o) o hs4 iv4 l⟩, ⟨w4.heap.size, w4.heap.size + 1, BoxP w4.heap.size 26 #[.slice A4 n n, .slice B4' m m, .slice C4 o o]⟩, ⟨W.heap.size, w5.heap.size, GB W.heap.size w5.heap.size Lg (.slice Ag ng cg) ng (.slice Bg mg dg) mg (.slice Cg og fg) og hsg ivg l2⟩] w6) := Lib.hid (fm_below (fm_drew Fw8.out) hb6)
           have hS6 := fm_rd3c FX6.out A3.out 1 rfl
           clear hb6 ho6))
    all_goals
      clear PX6 FX6 Fw8 hS hS6 hS7
      obtain ⟨⟨x0, x1, x2⟩, -⟩ := blk_three (fm_blk FX7.out 1 rfl)
      go_wp2_with fail
      refine (markLanes_any w3.heap.size w4.heap.size A4 n n B4' m m C4 o o hs4 iv4 l 1 _ (fm_get FX7.out 0 rfl) (fm_lt FX7.out 0 rfl).2.2 hbig (by omega)).mono ?_
      rintro e w10 ⟨cur, rfl, hD, hc, hk⟩
      have F10 : Hid (Fm w3 [⟨w3.heap.size, w4.heap.size, LI w3.heap.size w4.heap.size (.slice A4 n n) n (.slice B4' m m) m (.slice C4 o o) o cur iv4 (markLn l 1)⟩, ⟨w4.heap.size, w4.heap.size + 1, BoxP w4.heap.size 26 #[.slice A4 n n, .slice B4' m m, .slice C4 o o]⟩, ⟨W.heap.size, w5.heap.size, GB W.heap.size w5.heap.size Lg (.slice Ag ng cg) ng (.slice Bg mg dg) mg (.slice Cg og fg) og hsg ivg l2⟩] w10) := Lib.hid (fm_put FX7.out 0 rfl hc (at_li hD (Nat.le_trans (fm_lt FX7.out 0 rfl).2.2 hc.size)))
      clear FX7
      clear hD hc hk x0 x1 x2
      obtain ⟨⟨g0, g1, g2⟩, -⟩ := blk_three (fm_get F10.out 2 rfl).b
      obtain ⟨⟨u0, u1, u2⟩, -⟩ := blk_three (blk_below UB.out F10.out.below zu)
      go_wp2_with fail
      refine (eqLanes_same Ag Aw ng cg nw cw Bg Bw mg dg mw dw Cg Cw og fg ow fw l2 _ (li_lr (fm_get F10.out 2 rfl).d (by omega) (by omega) (by omega)) (lr_below FW.out F10.out.below)).mono ?_
      rintro e w11 ⟨rfl, hb⟩
      have Fw11 : Hid (Fm w3 [⟨w3.heap.size, w4.heap.size, LI w3.heap.size w4.heap.size (.slice A4 n n) n (.slice B4' m m) m (.slice C4 o o) o cur iv4 (markLn l 1)⟩, ⟨w4.heap.size, w4.heap.size + 1, BoxP w4.heap.size 26 #[.slice A4 n n, .slice B4' m m, .slice C4 o o]⟩, ⟨W.heap.size, w5.heap.size, GB W.heap.size w5.heap.size Lg (.slice Ag ng cg) ng (.slice Bg mg dg) mg (.slice Cg og fg) og hsg ivg l2⟩] w11) := Lib.hid (fm_below F10.out hb)
      clear F10
      clear hb g0 g1 g2 u0 u1 u2
      obtain ⟨⟨g0, g1, g2⟩, -⟩ := blk_three (fm_get Fw11.out 2 rfl).b
      go_wp2_with fail
      refine (markLanes_any W.heap.size w5.heap.size Ag ng cg Bg mg dg Cg og fg hsg ivg l2 1 _ (fm_get Fw11.out 2 rfl).d (fm_lt Fw11.out 2 rfl).2.2 hl2 (by omega)).mono ?_
      rintro e w12 ⟨curg, rfl, hD, hc, hk⟩
      have F12 : Hid (Fm w3 [⟨w3.heap.size, w4.heap.size, LI w3.heap.size w4.heap.size (.slice A4 n n) n (.slice B4' m m) m (.slice C4 o o) o cur iv4 (markLn l 1)⟩, ⟨w4.heap.size, w4.heap.size + 1, BoxP w4.heap.size 26 #[.slice A4 n n, .slice B4' m m, .slice C4 o o]⟩, ⟨W.heap.size, w5.heap.size, GB W.heap.size w5.heap.size Lg (.slice Ag ng cg) ng (.slice Bg mg dg) mg (.slice Cg og fg) og curg ivg (markLn l2 1)⟩] w12) := Lib.hid (fm_put Fw11.out 2 rfl hc (at_gb (gb_mark (fm_get Fw11.out 2 rfl) hD hk) (Nat.le_trans (fm_lt Fw11.out 2 rfl).2.2 hc.size)))
      clear Fw11
      clear hD hc hk g0 g1 g2
      obtain ⟨⟨g0, g1, g2⟩, -⟩ := blk_three (fm_get F12.out 2 rfl).b
      go_wp2_with fail
      refine (heldLanes_any Ag ng cg Bg mg dg Cg og fg l2 1 _ (li_lr (fm_get F12.out 2 rfl).d (by omega) (by omega) (by omega)) hl2 (by omega)).mono ?_
      rintro e w13 ⟨rfl, hb⟩
      have Fw13 : Hid (Fm w3 [⟨w3.heap.size, w4.heap.size, LI w3.heap.size w4.heap.size (.slice A4 n n) n (.slice B4' m m) m (.slice C4 o o) o cur iv4 (markLn l 1)⟩, ⟨w4.heap.size, w4.heap.size + 1, BoxP w4.heap.size 26 #[.slice A4 n n, .slice B4' m m, .slice C4 o o]⟩, ⟨W.heap.size, w5.heap.size, GB W.heap.size w5.heap.size Lg (.slice Ag ng cg) ng (.slice Bg mg dg) mg (.slice Cg og fg) og curg ivg (markLn l2 1)⟩] w13) := Lib.hid (fm_below F12.out hb)
      clear F12
      clear hb g0 g1 g2
      have A13 := Lib.hid (blk_below A3.out Fw13.out.below za)
      have P13 := Lib.hid (blk_below P3.out Fw13.out.below zb)
      have B13 := Lib.hid (below_seq B3.out Fw13.out.below)
      have OS : Hid (∀ w' : World, Below w13.heap.size w13 w' → ((w'.cell? ⟨w.heap.size, 0, none⟩ = some (.slice A n c) ∧ w'.cell? ⟨w.heap.size, 1, none⟩ = some (.slice B m d) ∧ w'.cell? ⟨w.heap.size, 2, none⟩ = some (.slice C o f)) ∧ (w'.cell? ⟨w.heap.size + 1, 0, none⟩ = some (.int .i64 p.peer) ∧ w'.cell? ⟨w.heap.size + 1, 1, none⟩ = some (.int .i64 p.lane) ∧ w'.cell? ⟨w.heap.size + 1, 2, none⟩ = some (.int .i64 p.size) ∧ w'.cell? ⟨w.heap.size + 1, 3, none⟩ = some (.int .i64 p.id))) ∧ Below w13.heap.size w13 w') := Lib.hid (fun w' h => by
        have b1 := blk_below A13.out h (blk_lt A13.out)
        have b2 := blk_below P13.out h (blk_lt P13.out)
        exact ⟨⟨(blk_three b1).1, ⟨blk_cell b2 0, blk_cell b2 1, blk_cell b2 2, blk_cell b2 3⟩⟩, h⟩)
      have hS : ((w13.drew.cell? ⟨w.heap.size, 0, none⟩ = some (.slice A n c) ∧ w13.drew.cell? ⟨w.heap.size, 1, none⟩ = some (.slice B m d) ∧ w13.drew.cell? ⟨w.heap.size, 2, none⟩ = some (.slice C o f)) ∧ (w13.drew.cell? ⟨w.heap.size + 1, 0, none⟩ = some (.int .i64 p.peer) ∧ w13.drew.cell? ⟨w.heap.size + 1, 1, none⟩ = some (.int .i64 p.lane) ∧ w13.drew.cell? ⟨w.heap.size + 1, 2, none⟩ = some (.int .i64 p.size) ∧ w13.drew.cell? ⟨w.heap.size + 1, 3, none⟩ = some (.int .i64 p.id))) ∧ Below w13.heap.size w13 w13.drew := OS.out _ (Below.drew (Below.refl _ _))
      go_upto_region 24 with fail
      go_cut [14, 15] from 80 to 86 (fun s1 s2 wx => GR w13 l2 s1 wx ∧ s2 = .bool ok)
      case first =>
        go_region_held3 (fun w' => ((w'.cell? ⟨w.heap.size, 0, none⟩ = some (.slice A n c) ∧ w'.cell? ⟨w.heap.size, 1, none⟩ = some (.slice B m d) ∧ w'.cell? ⟨w.heap.size, 2, none⟩ = some (.slice C o f)) ∧ (w'.cell? ⟨w.heap.size + 1, 0, none⟩ = some (.int .i64 p.peer) ∧ w'.cell? ⟨w.heap.size + 1, 1, none⟩ = some (.int .i64 p.lane) ∧ w'.cell? ⟨w.heap.size + 1, 2, none⟩ = some (.int .i64 p.size) ∧ w'.cell? ⟨w.heap.size + 1, 3, none⟩ = some (.int .i64 p.id))) ∧ Below w13.heap.size w13 w')
          (first
            | (with_reducible assumption)
            | (with_reducible exact OS.out _ (Below.drew (below_alloc (Below.refl _ _) _)))
            | (with_reducible exact OS.out _ (below_alloc B6.out _))
            | (with_reducible exact OS.out _ (below_alloc B7.out _))
            | (with_reducible exact OS.out _ (below_alloc B8.out _))
            | (refine OS.out _ ?_; with_reducible refine Below.setCell ?_ ?_ _; with_reducible refine Below.setCell ?_ ?_ _; with_reducible refine Below.setCell ?_ ?_ _; (first | with_reducible exact B8.out | with_reducible exact below_alloc B8.out _); all_goals (simp <;> omega))
            | fail)
          (first
            | (go_at_call 29
               refine (HI0.out X6 n n Y6 m m Z6 o o _ (by first | exact PX7.out | exact lr_alloc PX7.out _)).mono ?_
               rintro e w8 ⟨Ao, no, co, Bo, mo, dp, Co, oq, fo, hso, ivo, rfl, hD8, hI8, hb8⟩
               have D8 := Lib.hid (And.intro hD8 hI8)
               have B8 := Lib.hid (below_seq (snd_of (by with_reducible assumption)) hb8)
               have hS8 := OS.out _ B8.out
               have z8 := hb8.size
               try simp at z8
               first | (have o0 := (show Blk (w13.alloc (.cells #[.slice none 0 0, .slice none 0 0, .slice none 0 0] 26)).drew w13.heap.size 26 #[.slice none 0 0, .slice none 0 0, .slice none 0 0] from blk_new w13 _ _); have o1 := blk_below o0 R6.out (blk_lt o0); have o2 := blk_below o1 R7.out (blk_lt o1); have o3 := blk_below o2 hb8 (blk_lt o2); obtain ⟨⟨nn0, nn1, nn2⟩, nf0, nf1, nf2⟩ := blk_three o3; have nB := Lib.hid o3) | (have o0 := (show Blk (w6.alloc (.cells #[.slice none 0 0, .slice none 0 0, .slice none 0 0] 26)) w6.heap.size 26 #[.slice none 0 0, .slice none 0 0, .slice none 0 0] from blk_new w6 _ _); have o1 := blk_below o0 R7.out (blk_lt o0); have o2 := blk_below o1 hb8 (blk_lt o1); obtain ⟨⟨nn0, nn1, nn2⟩, nf0, nf1, nf2⟩ := blk_three o2; have nB := Lib.hid o2) | (have o0 := (show Blk (w7.alloc (.cells #[.slice none 0 0, .slice none 0 0, .slice none 0 0] 26)) w7.heap.size 26 #[.slice none 0 0, .slice none 0 0, .slice none 0 0] from blk_new w7 _ _); have o1 := blk_below o0 hb8 (blk_lt o0); obtain ⟨⟨nn0, nn1, nn2⟩, nf0, nf1, nf2⟩ := blk_three o1; have nB := Lib.hid o1) | skip
               clear hb8 hD8 hI8)
            | (go_at_call 44
               refine (toPacket_any p _).mono ?_
               rintro e w7 ⟨rfl, hb7⟩
               have R7 := Lib.hid hb7
               have B7 := Lib.hid (below_seq (snd_of (by with_reducible assumption)) hb7)
               have PX7 := Lib.hid (show LR w7 X6 n Y6 m Z6 o l from (by first | exact lr_below PX6.out hb7 | exact lr_below (lr_alloc PX6.out _) hb7))
               have hS7 := OS.out _ B7.out
               have z7 := hb7.size
               try simp at z7
               clear hb7)
            | (go_at_call 35
               refine (toLanes_any A n c B m d C o f l _ (la_below H.out (below_seq B13.out (snd_of (by with_reducible assumption)))) hbig).mono ?_
               rintro e w6 ⟨X6, Y6, Z6, h6, i6, rfl, ho6, -, hb6⟩
               have R6 := Lib.hid hb6
               have PX6 := Lib.hid (lo_lr ho6 (by omega) (by omega) (by omega))
               have B6 := Lib.hid (below_seq (snd_of (by with_reducible assumption)) hb6)
               have hS6 := OS.out _ B6.out
               have z6 := hb6.size
               try simp at z6
               clear hb6 ho6))
        all_goals
          go_wp2_with fail
          go_meet
          refine ⟨?_, rfl⟩
          first
            | exact gr_new D8.out.1 D8.out.2 (by first | omega | (simp; omega) | simp) B8.out
            | exact gr_set D8.out.1 D8.out.2 (by first | omega | (simp; omega) | simp) (by first | omega | (simp; omega) | simp) nB.out B8.out
      case rest =>
      clear hS OS
      obtain ⟨⟨Lh, Ah, nh, ch, Bh, mh, dh, Ch, oh, fh, hsh, ivh, rfl, hG, hB⟩, rfl⟩ := hcut
      obtain ⟨w15, rfl⟩ : ∃ w15, w15 = wc := ⟨_, rfl⟩
      have FH := Lib.hid (gb_lr hG hl2)
      obtain ⟨⟨h0, h1, h2⟩, -⟩ := blk_three hG.b
      have F15 : Hid (Fm w3 [⟨w3.heap.size, w4.heap.size, LI w3.heap.size w4.heap.size (.slice A4 n n) n (.slice B4' m m) m (.slice C4 o o) o cur iv4 (markLn l 1)⟩, ⟨w4.heap.size, w4.heap.size + 1, BoxP w4.heap.size 26 #[.slice A4 n n, .slice B4' m m, .slice C4 o o]⟩, ⟨W.heap.size, w5.heap.size, GB W.heap.size w5.heap.size Lg (.slice Ag ng cg) ng (.slice Bg mg dg) mg (.slice Cg og fg) og curg ivg (markLn l2 1)⟩] w15) := Lib.hid (fm_below Fw13.out hB)
      clear Fw13
      clear hG hB A13 P13 B13
      obtain ⟨⟨u0, u1, u2⟩, -⟩ := blk_three (blk_below UB.out F15.out.below zu)
      go_wp2_with fail
      refine (eqLanes_same Ah Aw nh ch nw cw Bh Bw mh dh mw dw Ch Cw oh fh ow fw l2 _ FH.out (lr_below FW.out F15.out.below)).mono ?_
      rintro e w16 ⟨rfl, hb⟩
      have F16 : Hid (Fm w3 [⟨w3.heap.size, w4.heap.size, LI w3.heap.size w4.heap.size (.slice A4 n n) n (.slice B4' m m) m (.slice C4 o o) o cur iv4 (markLn l 1)⟩, ⟨w4.heap.size, w4.heap.size + 1, BoxP w4.heap.size 26 #[.slice A4 n n, .slice B4' m m, .slice C4 o o]⟩, ⟨W.heap.size, w5.heap.size, GB W.heap.size w5.heap.size Lg (.slice Ag ng cg) ng (.slice Bg mg dg) mg (.slice Cg og fg) og curg ivg (markLn l2 1)⟩] w16) := Lib.hid (fm_below F15.out hb)
      clear F15
      clear hb h0 h1 h2 u0 u1 u2 FH
      obtain ⟨⟨g0, g1, g2⟩, -⟩ := blk_three (fm_get F16.out 2 rfl).b
      go_wp2_with fail
      refine (heldLanes_any Ag ng cg Bg mg dg Cg og fg l2 1 _ (li_lr (fm_get F16.out 2 rfl).d (by omega) (by omega) (by omega)) hl2 (by omega)).mono ?_
      rintro e w17 ⟨rfl, hb⟩
      have Fw17 : Hid (Fm w3 [⟨w3.heap.size, w4.heap.size, LI w3.heap.size w4.heap.size (.slice A4 n n) n (.slice B4' m m) m (.slice C4 o o) o cur iv4 (markLn l 1)⟩, ⟨w4.heap.size, w4.heap.size + 1, BoxP w4.heap.size 26 #[.slice A4 n n, .slice B4' m m, .slice C4 o o]⟩, ⟨W.heap.size, w5.heap.size, GB W.heap.size w5.heap.size Lg (.slice Ag ng cg) ng (.slice Bg mg dg) mg (.slice Cg og fg) og curg ivg (markLn l2 1)⟩] w17) := Lib.hid (fm_below F16.out hb)
      clear F16
      clear hb g0 g1 g2
      go_wp2
      go_ret
      exact ⟨rfl, below_seq B3.out Fw17.out.below⟩
  · have hle : (1048576 : Int) < (lsz l : Int) := by omega
    go_enter Try.func13, Try.ntmps13
    go_wp2_with fail
    refine (szLanes_any A n c B m d C o f l 1048576 _ (la_below H.out B0.out) (by omega)).mono ?_
    rintro e w1 ⟨rfl, hb⟩
    rw [if_pos (by omega)]
    have B1 := Lib.hid (below_seq B0.out hb)
    clear hb hle hbig
    go_wp2
    go_ret
    exact ⟨rfl, B1.out⟩
end Go.Proofs.Ytffgblphimjipac.fnExactJoinLanes
