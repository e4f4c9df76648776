/-
  Chapter 6: LanesSame, of the program and of the model. Conditions: none. Chapter 6: copies of lanes: what the program's function returns. Conditions: lanes have at most 4000000000 robins, weights and credits.
  Conditions: each lemma says them.
-/
import Derived.Test.YtiodhdcgfdlknaaKjZ1
import Derived.Test.YtiodhdcgfdlknaaKdZ1
import Derived.StillTailTactics
namespace Go.Proofs.Ytiodhdcgfdlknaa
open Go.RowKit
open Classical in
noncomputable def rbsB (a b : List Rb) : Bool := decide (a = b)
theorem rbs_yes {a b : List Rb} (h : a = b) : true = rbsB a b := by simp [rbsB, h]
theorem rbs_no {a b : List Rb} (h : a ≠ b) : false = rbsB a b := by simp [rbsB, h]
theorem rbs_iff {a b : List Rb} : rbsB a b = true ↔ a = b := by simp [rbsB]
def ReRel (w : World) (xs ys : List Rb) (n : Nat) (i : Value) (wr : World) : Prop := ∃ k : Nat, k ≤ n ∧ i = .int .i64 (k : Int) ∧ xs.take k = ys.take k ∧ Below w.heap.size w wr
theorem takeR_step {xs ys : List Rb} {k : Nat} {a b : Rb} (h : xs.take k = ys.take k) (ha : xs[k]? = some a) (hb : ys[k]? = some b) (he : a = b) : xs.take (k + 1) = ys.take (k + 1) := by
  rw [List.take_add_one, List.take_add_one, ha, hb, h, he]
theorem takeR_ne {xs ys : List Rb} {k : Nat} {a b : Rb} (ha : xs[k]? = some a) (hb : ys[k]? = some b) (he : a ≠ b) : xs ≠ ys := by
  rintro rfl
  rw [ha] at hb
  exact he (by injection hb)
theorem takeR_all {xs ys : List Rb} {n : Nat} (h : xs.take n = ys.take n) (ha : xs.length ≤ n) (hb : ys.length ≤ n) : xs = ys := by
  rw [List.take_of_length_le ha, List.take_of_length_le hb] at h
  exact h
theorem rs_rb {a b : Rb} (h : rsB a.q a.fs b.q b.fs = true) : a = b := by
  have := rs_iff.1 h
  exact rb_ext this.1 this.2
theorem rs_ne {a b : Rb} (h : rsB a.q a.fs b.q b.fs = false) : a ≠ b := by
  rintro rfl
  rw [rs_refl] at h
  cases h
set_option maxRecDepth 100000 in
set_option maxHeartbeats 2000000 in
theorem eqR_any (A A2 : Option Addr) (n c n2 c2 : Nat) (xs ys : List Rb) (w : World) (h : RR w A n xs) (h2 : RR w A2 n2 ys) :
    Calls Try.prog 123 #[.slice A n c, .slice A2 n2 c2, .func (.func 124) #[] #[]] w fun e w' => e = .returned (.bool (rbsB xs ys)) ∧ Below w.heap.size w w' := by
  have H := Lib.hid h
  have H2 := Lib.hid h2
  have HL := Lib.hid (rr_len h)
  have HL2 := Lib.hid (rr_len h2)
  have n4 : n ≤ 4000000000 := HL.out.2
  have n42 : n2 ≤ 4000000000 := HL2.out.2
  clear h h2
  by_cases hl : n = n2
  · subst hl
    go_enter Try.func123, Try.ntmps123
    go_wp2
    go_loopw [17] (fun i wr => ReRel w xs ys n i wr) (fun i _ => n - (intOf i).toNat)
    case atStart => exact ⟨0, Nat.zero_le _, rfl, by simp, Below.refl _ _⟩
    case round =>
      obtain ⟨k, hk, rfl, ht, hbl⟩ := hrel
      have HT := Lib.hid ht
      clear ht
      by_cases hlt : k < n
      · obtain ⟨b, off, f, A1, n1, c1, rfl, hb, hf, c0, c1', hpr⟩ := rr_at (rr_below H.out hbl) hlt
        obtain ⟨b2, off2, g, A3, n3, c3, rfl, hb2, hg, d0, d1', hpr2⟩ := rr_at (rr_below H2.out hbl) hlt
        have HF := Lib.hid hf
        have HG := Lib.hid hg
        have HP := Lib.hid hpr
        have HP2 := Lib.hid hpr2
        have HB := Lib.hid hbl
        have k0 : (0 : Int) ≤ (k : Int) := by omega
        have k1 : (k : Int) < (n : Int) := by omega
        clear hf hg hbl hpr hpr2
        rcases hs : rsB f.q f.fs g.q g.fs with _ | _
        · have HE := Lib.hid (rbs_no (takeR_ne HF.out HG.out (rs_ne hs)))
          have HS := Lib.hid hs
          clear hs
          go_wp2_with (go_at_call 124; refine (sameRI_any f.q g.q A1 A3 n1 c1 n3 c3 f.fs g.fs _ (fr_allocF (fr_allocF HP.out _) _) (fr_allocF (fr_allocF HP2.out _) _)).mono ?_; rintro e w3 ⟨rfl, hb3⟩; rw [HS.out]; have B3 := Lib.hid (below_seq2 HB.out hb3); clear hb3)
          go_ret
          exact ⟨ret_bool HE.out, B3.out⟩
        · have HX := Lib.hid (rs_rb hs)
          have HS := Lib.hid hs
          clear hs
          go_wp2_with (go_at_call 124; refine (sameRI_any f.q g.q A1 A3 n1 c1 n3 c3 f.fs g.fs _ (fr_allocF (fr_allocF HP.out _) _) (fr_allocF (fr_allocF HP2.out _) _)).mono ?_; rintro e w3 ⟨rfl, hb3⟩; rw [HS.out]; have B3 := Lib.hid (below_seq2 HB.out hb3); clear hb3)
          go_roundw
          case rel => exact ⟨k + 1, by omega, by go_num, takeR_step HT.out HF.out HG.out HX.out, B3.out⟩
          case measure => simp [intOf]; omega
      · obtain rfl : k = n := by omega
        have HB := Lib.hid hbl
        clear hbl
        go_wp2
        go_ret
        exact ⟨ret_bool (rbs_yes (takeR_all HT.out (by have := HL.out.1; omega) (by have := HL2.out.1; omega))), HB.out⟩
  · have hlb : ((n : Int) != (n2 : Int)) = true := by simp; omega
    have HN := Lib.hid hl
    clear hl
    go_enter Try.func123, Try.ntmps123
    go_wp2
    go_ret
    exact ⟨ret_bool (rbs_no (by rintro rfl; exact HN.out (HL.out.1.symm.trans HL2.out.1))), Below.refl _ _⟩
theorem ls_rs {a b : Ln} (h : a.rs ≠ b.rs) : false = lsB a b := (ls_no fun e => h (by rw [e])).symm
theorem ls_ws {a b : Ln} (h : a.ws ≠ b.ws) : false = lsB a b := (ls_no fun e => h (by rw [e])).symm
theorem ls_cs {a b : Ln} (h : a.cs ≠ b.cs) : false = lsB a b := (ls_no fun e => h (by rw [e])).symm
theorem ls_all {a b : Ln} (h0 : a.rs = b.rs) (h1 : a.ws = b.ws) (h2 : a.cs = b.cs) : true = lsB a b := (ls_iff.2 (ln_ext h0 h1 h2)).symm
theorem is_iff {us vs : List Int} : isB us vs = true ↔ us = vs := by simp [isB]
set_option maxRecDepth 100000 in
set_option maxHeartbeats 2000000 in
theorem sameLI_any (A : Option Addr) (n c : Nat) (B : Option Addr) (m d : Nat) (C : Option Addr) (o e : Nat) (a : Ln) (A2 : Option Addr) (n2 c2 : Nat) (B2 : Option Addr) (m2 d2 : Nat) (C2 : Option Addr) (o2 e2 : Nat) (b : Ln) (w : World) (h : LR w A n B m C o a) (h2 : LR w A2 n2 B2 m2 C2 o2 b) :
    Calls Try.prog 87 #[.agg #[.slice A n c, .slice B m d, .slice C o e], .agg #[.slice A2 n2 c2, .slice B2 m2 d2, .slice C2 o2 e2]] w fun e w' => e = .returned (.bool (lsB a b)) ∧ Below w.heap.size w w' := by
  have H := Lib.hid h
  have H2 := Lib.hid h2
  have F := Lib.hid (fm_two w 38 38 #[.slice A n c, .slice B m d, .slice C o e] #[.slice A2 n2 c2, .slice B2 m2 d2, .slice C2 o2 e2])
  have om := h.mb
  have ok := h.kb
  have om2 := h2.mb
  have ok2 := h2.kb
  clear h h2
  rcases h1 : rbsB a.rs b.rs with _ | _
  · have HE := Lib.hid (ls_rs (fun e => by rw [← rbs_yes e] at h1; cases h1))
    have HS := Lib.hid h1
    clear h1
    go_enter Try.func87, Try.ntmps87
    go_wp2_with (go_at_call 123; refine (eqR_any A A2 n c n2 c2 a.rs b.rs _ (rr_below H.out.r F.out.below) (rr_below H2.out.r F.out.below)).mono ?_; rintro e w3 ⟨rfl, hb3⟩; rw [HS.out]; have F3 := Lib.hid (fm_below F.out hb3); clear hb3)
    go_ret
    exact ⟨ret_bool HE.out, F3.out.below⟩
  have H1 := Lib.hid (rbs_iff.1 h1)
  have HS := Lib.hid h1
  clear h1
  go_enter Try.func87, Try.ntmps87
  go_wp2_with fail
  refine (eqR_any A A2 n c n2 c2 a.rs b.rs _ (rr_below H.out.r F.out.below) (rr_below H2.out.r F.out.below)).mono ?_
  rintro e w3 ⟨rfl, hb3⟩
  rw [HS.out]
  have F3 := Lib.hid (fm_below F.out hb3)
  obtain ⟨⟨x0, x1, x2⟩, -⟩ := blk_three (fm_blk F3.out 0 rfl)
  obtain ⟨⟨y0, y1, y2⟩, -⟩ := blk_three (fm_blk F3.out 1 rfl)
  clear hb3 F HS
  rcases h2 : isB a.ws b.ws with _ | _
  · have HE := Lib.hid (ls_ws (a := a) (b := b) (fun e => by rw [← is_yes e] at h2; cases h2))
    have HS := Lib.hid h2
    clear h2
    go_wp2_with (go_at_call 81; refine (eqN_any B B2 m d m2 d2 a.ws b.ws _ (nr_below H.out.wt F3.out.below) (nr_below H2.out.wt F3.out.below) (by omega) (by omega)).mono ?_; rintro e w4 ⟨rfl, hb4⟩; rw [HS.out]; have F4 := Lib.hid (fm_below F3.out hb4); clear hb4)
    go_ret
    exact ⟨ret_bool HE.out, F4.out.below⟩
  have H3 := Lib.hid (is_iff.1 h2)
  have HS := Lib.hid h2
  clear h2
  go_wp2_with fail
  refine (eqN_any B B2 m d m2 d2 a.ws b.ws _ (nr_below H.out.wt F3.out.below) (nr_below H2.out.wt F3.out.below) (by omega) (by omega)).mono ?_
  rintro e w4 ⟨rfl, hb4⟩
  rw [HS.out]
  have F4 := Lib.hid (fm_below F3.out hb4)
  clear hb4 x0 x1 x2 y0 y1 y2 F3 HS
  obtain ⟨⟨x0, x1, x2⟩, -⟩ := blk_three (fm_blk F4.out 0 rfl)
  obtain ⟨⟨y0, y1, y2⟩, -⟩ := blk_three (fm_blk F4.out 1 rfl)
  have HE : Hid (isB a.cs b.cs = lsB a b) := Lib.hid (by
    rcases h3 : isB a.cs b.cs with _ | _
    · exact ls_cs (fun e => by rw [← is_yes e] at h3; cases h3)
    · exact ls_all H1.out H3.out (is_iff.1 h3))
  go_wp2_with (go_at_call 81; refine (eqN_any C C2 o e o2 e2 a.cs b.cs _ (nr_below H.out.cr F4.out.below) (nr_below H2.out.cr F4.out.below) (by omega) (by omega)).mono ?_; rintro e5 w5 ⟨rfl, hb5⟩; have F5 := Lib.hid (fm_below F4.out hb5); clear hb5)
  go_ret
  exact ⟨ret_bool HE.out, F5.out.below⟩
def Ls2Rel (w : World) (va vb : Array Value) (xs ys : List Rb) (n : Nat) (i : Value) (wr : World) : Prop :=
  ∃ k : Nat, k ≤ n ∧ i = .int .i64 (k : Int) ∧ xs.take k = ys.take k ∧ Fm w [⟨w.heap.size, w.heap.size + 1, BoxP w.heap.size 38 va⟩, ⟨w.heap.size + 1, w.heap.size + 2, BoxP (w.heap.size + 1) 38 vb⟩] wr
set_option maxRecDepth 100000 in
set_option maxHeartbeats 4000000 in
theorem sameLS_any (A : Option Addr) (n c : Nat) (B : Option Addr) (m d : Nat) (C : Option Addr) (o e : Nat) (a : Ln) (A2 : Option Addr) (n2 c2 : Nat) (B2 : Option Addr) (m2 d2 : Nat) (C2 : Option Addr) (o2 e2 : Nat) (b : Ln) (w : World) (h : LR w A n B m C o a) (h2 : LR w A2 n2 B2 m2 C2 o2 b) :
    Calls Try.prog 84 #[.agg #[.slice A n c, .slice B m d, .slice C o e], .agg #[.slice A2 n2 c2, .slice B2 m2 d2, .slice C2 o2 e2]] w fun e w' => e = .returned (.bool (lsB a b)) ∧ Below w.heap.size w w' := by
  have H := Lib.hid h
  have H2 := Lib.hid h2
  have HL := Lib.hid (rr_len h.r)
  have HL2 := Lib.hid (rr_len h2.r)
  have n4 : n ≤ 4000000000 := HL.out.2
  have n42 : n2 ≤ 4000000000 := HL2.out.2
  have F := Lib.hid (fm_two w 38 38 #[.slice A n c, .slice B m d, .slice C o e] #[.slice A2 n2 c2, .slice B2 m2 d2, .slice C2 o2 e2])
  have om := h.mb
  have ok := h.kb
  have om2 := h2.mb
  have ok2 := h2.kb
  clear h h2
  by_cases hl : n = n2
  · subst hl
    have hll : ((n : Int) != (n : Int)) = false := by simp
    go_enter Try.func84, Try.ntmps84
    go_wp2_with fail
    refine (l6Ints_any B B2 m d m2 d2 a.ws b.ws _ (nr_below H.out.wt F.out.below) (nr_below H2.out.wt F.out.below) (by omega) (by omega)).mono ?_
    rintro r w3 ⟨rfl, hb3⟩
    have F3 := Lib.hid (fm_below F.out hb3)
    obtain ⟨⟨x0, x1, x2⟩, -⟩ := blk_three (fm_blk F3.out 0 rfl)
    obtain ⟨⟨y0, y1, y2⟩, -⟩ := blk_three (fm_blk F3.out 1 rfl)
    clear hb3 F
    rcases h2 : isB a.ws b.ws with _ | _
    · have HE := Lib.hid (ls_ws (a := a) (b := b) (fun e => by rw [← is_yes e] at h2; cases h2))
      clear h2
      go_wp2
      go_ret
      exact ⟨ret_bool HE.out, F3.out.below⟩
    have H3 := Lib.hid (is_iff.1 h2)
    clear h2
    go_wp2_with fail
    refine (l6Ints_any C C2 o e o2 e2 a.cs b.cs _ (nr_below H.out.cr F3.out.below) (nr_below H2.out.cr F3.out.below) (by omega) (by omega)).mono ?_
    rintro r w4 ⟨rfl, hb4⟩
    have F4 := Lib.hid (fm_below F3.out hb4)
    clear hb4 x0 x1 x2 y0 y1 y2 F3
    obtain ⟨⟨x0, x1, x2⟩, -⟩ := blk_three (fm_blk F4.out 0 rfl)
    obtain ⟨⟨y0, y1, y2⟩, -⟩ := blk_three (fm_blk F4.out 1 rfl)
    rcases h3 : isB a.cs b.cs with _ | _
    · have HE := Lib.hid (ls_cs (a := a) (b := b) (fun e => by rw [← is_yes e] at h3; cases h3))
      clear h3
      go_wp2
      go_ret
      exact ⟨ret_bool HE.out, F4.out.below⟩
    have H4 := Lib.hid (is_iff.1 h3)
    clear h3
    have R0 : Hid (Ls2Rel w #[.slice A n c, .slice B m d, .slice C o e] #[.slice A2 n c2, .slice B2 m2 d2, .slice C2 o2 e2] a.rs b.rs n (.int .i64 0) w4) := Lib.hid ⟨0, Nat.zero_le _, rfl, by simp, F4.out⟩
    clear F4
    go_wp2
    clear hll x0 x1 x2 y0 y1 y2
    go_loopw [5] (fun i wr => Ls2Rel w #[.slice A n c, .slice B m d, .slice C o e] #[.slice A2 n c2, .slice B2 m2 d2, .slice C2 o2 e2] a.rs b.rs n i wr) (fun i _ => n - (intOf i).toNat)
    case atStart => exact R0.out
    case round =>
      obtain ⟨k, hk, rfl, ht, hF⟩ := hrel
      have HT := Lib.hid ht
      have HF0 := Lib.hid hF
      obtain ⟨⟨x0, x1, x2⟩, -⟩ := blk_three (fm_blk hF 0 rfl)
      obtain ⟨⟨y0, y1, y2⟩, -⟩ := blk_three (fm_blk hF 1 rfl)
      have zb1 := blk_lt (fm_blk hF 0 rfl)
      have zb2 := blk_lt (fm_blk hF 1 rfl)
      have hbl := hF.below
      clear R0 ht hF
      by_cases hlt : k < n
      · obtain ⟨g0, off, f, A1, n1, c1, rfl, hb, hf, c0, c1', hpr⟩ := rr_at (rr_below H.out.r hbl) hlt
        obtain ⟨g2, off2, g, A3, n3, c3, rfl, hb2, hg, d0, d1', hpr2⟩ := rr_at (rr_below H2.out.r hbl) hlt
        have HF := Lib.hid hf
        have HG := Lib.hid hg
        have HP := Lib.hid (fr_belowF hpr (Below.refl _ wr).drew)
        have HP2 := Lib.hid (fr_belowF hpr2 (Below.refl _ wr).drew)
        have FB := Lib.hid (fm_below HF0.out (Below.refl _ wr).drew)
        have k0 : (0 : Int) ≤ (k : Int) := by omega
        have k1 : (k : Int) < (n : Int) := by omega
        clear hf hg hbl hpr hpr2
        go_wp2_with fail
        go_still_tail 10, (by kernel_rfl)
        change wpList _ _ _ _ _ wr.drew
        go_wp2_with fail
        refine (sameRS_any f.q g.q A1 A3 n1 c1 n3 c3 f.fs g.fs _ HP.out HP2.out).mono ?_
        rintro r w3 ⟨rfl, hb3⟩
        have F3 := Lib.hid (fm_below FB.out hb3)
        clear hb3 x0 x1 x2 y0 y1 y2 c0 c1' d0 d1'
        rcases hs : rsB f.q f.fs g.q g.fs with _ | _
        · have HE := Lib.hid (ls_rs (a := a) (b := b) (fun e => takeR_ne HF.out HG.out (rs_ne hs) e))
          clear hs
          go_wp2
          go_ret
          exact ⟨ret_bool HE.out, F3.out.below⟩
        · have HX := Lib.hid (rs_rb hs)
          clear hs
          go_wp2
          go_roundw
          case rel => exact ⟨k + 1, by omega, by go_num, takeR_step HT.out HF.out HG.out HX.out, F3.out⟩
          case measure => simp [intOf]; omega
      · obtain rfl : k = n := by omega
        clear hbl
        go_wp2
        go_ret
        exact ⟨ret_bool (ls_all (takeR_all HT.out (by have := HL.out.1; omega) (by have := HL2.out.1; omega)) H3.out H4.out), HF0.out.below⟩
  · have hlb : ((n : Int) != (n2 : Int)) = true := by simp; omega
    have HE := Lib.hid (ls_rs (a := a) (b := b) (fun e => hl (by have := HL.out.1; have := HL2.out.1; rw [e] at *; omega)))
    clear hl
    go_enter Try.func84, Try.ntmps84
    go_wp2
    go_ret
    exact ⟨ret_bool HE.out, F.out.below⟩
end Go.Proofs.Ytiodhdcgfdlknaa
namespace Go.Proofs.Ytiodhdcgfdlknaa
open Go.RowKit
theorem dr_start {w : World} {lo n : Nat} {v : Value} {hs : List Rh} {rs : List Rb} (h : w.ownsRow lo 127 2 v n (rcells hs)) (hl : hs.length = rs.length) : DR w lo v n hs rs (fun _ => (0, 0)) (fun j => j < 0) :=
  ⟨h, hl, fun k hk => absurd hk (by omega), fun b _ k => .inr (Nat.zero_le _), fun i j _ => .inl (Nat.le_refl _), fun k => Nat.zero_le _⟩
theorem up_lo {L k x e : Nat} {iv : Nat → Nat × Nat} (h : ∀ j, (iv j).1 < (iv j).2 → L ≤ (iv j).1) (hx : L ≤ x) : ∀ j, (Up iv k (x, e) j).1 < (Up iv k (x, e) j).2 → L ≤ (Up iv k (x, e) j).1 := fun j hj => by
  by_cases hjk : j = k
  · subst hjk; rw [up_self]; exact hx
  · rw [up_ne _ hjk] at hj ⊢; exact h j hj
theorem lo_mk {w : World} {lo n m o sB sC : Nat} {vA vB vC : Value} {hs : List Rh} {iv : Nat → Nat × Nat} {l : Ln} (r : DR w lo vA n hs l.rs iv (fun k => k < n)) (b : w.ownsRow sB 3 1 vB m (icells l.ws)) (c : w.ownsRow sC 3 1 vC o (icells l.cs)) (hb : lo ≤ sB) (hc : lo ≤ sC)
    (tb : ∀ k, (iv k).2 ≤ sB) (tc : ∀ k, (iv k).2 ≤ sC) (va : ∀ b, vA.ownBlock = some b → b < sB ∧ b < sC) (bc : ∀ b, vB.ownBlock = some b → vC.ownBlock ≠ some b) : LO w lo vA n vB m vC o hs iv l :=
  ⟨r, own_mono b hb, own_mono c hc, fun x e => ⟨fun e2 => by have := (b.lt x e).1; have := (va x e2).1; omega, fun k => .inr (Nat.le_trans (tb k) (b.lt x e).1)⟩, fun x e => ⟨fun e2 => by have := (c.lt x e).1; have := (va x e2).2; omega, fun k => .inr (Nat.le_trans (tc k) (c.lt x e).1)⟩, bc⟩
end Go.Proofs.Ytiodhdcgfdlknaa
