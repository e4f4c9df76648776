/-
  Chapter 6: LanesSame, of the program and of the model. Conditions: none. Chapter 6: copies of lanes: what the program's function returns. Conditions: lanes have at most 4000000000 robins, weights and credits.
  Conditions: each lemma says them.
-/
import Derived.Test.YtkmoiphcpmhacaaKj
import Derived.Test.YtkmoiphcpmhacaaKd
import Derived.StillTailTactics
namespace Go.Proofs.Ytkmoiphcpmhacaa
open Go.RowKit

open Classical in
noncomputable def rbsB (a b : List Rb) : Bool := decide (a = b)
theorem rbs_yes {a b : List Rb} (h : a = b) : true = rbsB a b := by simp [rbsB, h]
theorem rbs_no {a b : List Rb} (h : a ≠ b) : false = rbsB a b := by simp [rbsB, h]
theorem rbs_iff {a b : List Rb} : rbsB a b = true ↔ a = b := by simp [rbsB]
def ReRel (w : World) (xs ys : List Rb) (n : Nat) (i : Value) (wr : World) : Prop := ∃ k : Nat, k ≤ n ∧ i = .int .i64 (k : Int) ∧ xs.take k = ys.take k ∧ Below w.heap.size w wr
theorem takeR_step {xs ys : List Rb} {k : Nat} {a b : Rb} (h : xs.take k = ys.take k) (ha : xs[k]? = some a) (hb : ys[k]? = some b) (he : a = b) : xs.take (k + 1) = ys.take (k + 1) := by
  rw [List.take_add_one, List.take_add_one, ha, hb, h, he]
theorem takeR_ne {xs ys : List Rb} {k : Nat} {a b : Rb} (ha : xs[k]? = some a) (hb : ys[k]? = some b) (he : a ≠ b) : xs ≠ ys := by
  rintro rfl
  rw [ha] at hb
  exact he (by injection hb)
theorem takeR_all {xs ys : List Rb} {n : Nat} (h : xs.take n = ys.take n) (ha : xs.length ≤ n) (hb : ys.length ≤ n) : xs = ys := by
  rw [List.take_of_length_le ha, List.take_of_length_le hb] at h
  exact h
theorem rs_rb {a b : Rb} (h : rsB a.q a.fs b.q b.fs = true) : a = b := by
  have := rs_iff.1 h
  exact rb_ext this.1 this.2
theorem rs_ne {a b : Rb} (h : rsB a.q a.fs b.q b.fs = false) : a ≠ b := by
  rintro rfl
  rw [rs_refl] at h
  cases h
set_option maxRecDepth 100000 in
set_option maxHeartbeats 2000000 in
theorem eqR_any (A A2 : Option Addr) (n c n2 c2 : Nat) (xs ys : List Rb) (w : World) (h : RR w A n xs) (h2 : RR w A2 n2 ys) :
    Calls Try.prog 54 #[.slice A n c, .slice A2 n2 c2, .func (.func 21) #[] #[]] w fun e w' => e = .returned (.bool (rbsB xs ys)) ∧ Below w.heap.size w w' := by
  have H := Lib.hid h
  have H2 := Lib.hid h2
  have HL := Lib.hid (rr_len h)
  have HL2 := Lib.hid (rr_len h2)
  have n4 : n ≤ 4000000000 := HL.out.2
  have n42 : n2 ≤ 4000000000 := HL2.out.2
  clear h h2
  by_cases hl : n = n2
  · subst hl
    go_enter Try.func54, Try.ntmps54
    go_wp2
    go_loopw [17] (fun i wr => ReRel w xs ys n i wr) (fun i _ => n - (intOf i).toNat)
    case atStart => exact ⟨0, Nat.zero_le _, rfl, by simp, Below.refl _ _⟩
    case round =>
      obtain ⟨k, hk, rfl, ht, hbl⟩ := hrel
      have HT := Lib.hid ht
      clear ht
      by_cases hlt : k < n
      · obtain ⟨b, off, f, A1, n1, c1, rfl, hb, hf, c0, c1', hpr⟩ := rr_at (rr_below H.out hbl) hlt
        obtain ⟨b2, off2, g, A3, n3, c3, rfl, hb2, hg, d0, d1', hpr2⟩ := rr_at (rr_below H2.out hbl) hlt
        have HF := Lib.hid hf
        have HG := Lib.hid hg
        have HP := Lib.hid hpr
        have HP2 := Lib.hid hpr2
        have HB := Lib.hid hbl
        have k0 : (0 : Int) ≤ (k : Int) := by omega
        have k1 : (k : Int) < (n : Int) := by omega
        clear hf hg hbl hpr hpr2
        rcases hs : rsB f.q f.fs g.q g.fs with _ | _
        · have HE := Lib.hid (rbs_no (takeR_ne HF.out HG.out (rs_ne hs)))
          have HS := Lib.hid hs
          clear hs
          go_wp2_with (go_at_call 21; refine (sameRI_any f.q g.q A1 A3 n1 c1 n3 c3 f.fs g.fs _ (fr_allocF (fr_allocF HP.out _) _) (fr_allocF (fr_allocF HP2.out _) _)).mono ?_; rintro e w3 ⟨rfl, hb3⟩; rw [HS.out]; have B3 := Lib.hid (below_seq2 HB.out hb3); clear hb3)
          go_ret
          exact ⟨ret_bool HE.out, B3.out⟩
        · have HX := Lib.hid (rs_rb hs)
          have HS := Lib.hid hs
          clear hs
          go_wp2_with (go_at_call 21; refine (sameRI_any f.q g.q A1 A3 n1 c1 n3 c3 f.fs g.fs _ (fr_allocF (fr_allocF HP.out _) _) (fr_allocF (fr_allocF HP2.out _) _)).mono ?_; rintro e w3 ⟨rfl, hb3⟩; rw [HS.out]; have B3 := Lib.hid (below_seq2 HB.out hb3); clear hb3)
          go_roundw
          case rel => exact ⟨k + 1, by omega, by go_num, takeR_step HT.out HF.out HG.out HX.out, B3.out⟩
          case measure => simp [intOf]; omega
      · obtain rfl : k = n := by omega
        have HB := Lib.hid hbl
        clear hbl
        go_wp2
        go_ret
        exact ⟨ret_bool (rbs_yes (takeR_all HT.out (by have := HL.out.1; omega) (by have := HL2.out.1; omega))), HB.out⟩
  · have hlb : ((n : Int) != (n2 : Int)) = true := by simp; omega
    have HN := Lib.hid hl
    clear hl
    go_enter Try.func54, Try.ntmps54
    go_wp2
    go_ret
    exact ⟨ret_bool (rbs_no (by rintro rfl; exact HN.out (HL.out.1.symm.trans HL2.out.1))), Below.refl _ _⟩
theorem ls_rs {a b : Ln} (h : a.rs ≠ b.rs) : false = lsB a b := (ls_no fun e => h (by rw [e])).symm
theorem ls_ws {a b : Ln} (h : a.ws ≠ b.ws) : false = lsB a b := (ls_no fun e => h (by rw [e])).symm
theorem ls_cs {a b : Ln} (h : a.cs ≠ b.cs) : false = lsB a b := (ls_no fun e => h (by rw [e])).symm
theorem ls_all {a b : Ln} (h0 : a.rs = b.rs) (h1 : a.ws = b.ws) (h2 : a.cs = b.cs) : true = lsB a b := (ls_iff.2 (ln_ext h0 h1 h2)).symm
theorem is_iff {us vs : List Int} : isB us vs = true ↔ us = vs := by simp [isB]
set_option maxRecDepth 100000 in
set_option maxHeartbeats 2000000 in
theorem sameLI_any (A : Option Addr) (n c : Nat) (B : Option Addr) (m d : Nat) (C : Option Addr) (o e : Nat) (a : Ln) (A2 : Option Addr) (n2 c2 : Nat) (B2 : Option Addr) (m2 d2 : Nat) (C2 : Option Addr) (o2 e2 : Nat) (b : Ln) (w : World) (h : LR w A n B m C o a) (h2 : LR w A2 n2 B2 m2 C2 o2 b) :
    Calls Try.prog 18 #[.agg #[.slice A n c, .slice B m d, .slice C o e], .agg #[.slice A2 n2 c2, .slice B2 m2 d2, .slice C2 o2 e2]] w fun e w' => e = .returned (.bool (lsB a b)) ∧ Below w.heap.size w w' := by
  have H := Lib.hid h
  have H2 := Lib.hid h2
  have F := Lib.hid (fm_two w 26 26 #[.slice A n c, .slice B m d, .slice C o e] #[.slice A2 n2 c2, .slice B2 m2 d2, .slice C2 o2 e2])
  have om := h.mb
  have ok := h.kb
  have om2 := h2.mb
  have ok2 := h2.kb
  clear h h2
  rcases h1 : rbsB a.rs b.rs with _ | _
  · have HE := Lib.hid (ls_rs (fun e => by rw [← rbs_yes e] at h1; cases h1))
    have HS := Lib.hid h1
    clear h1
    go_enter Try.func18, Try.ntmps18
    go_wp2_with (go_at_call 54; refine (eqR_any A A2 n c n2 c2 a.rs b.rs _ (rr_below H.out.r F.out.below) (rr_below H2.out.r F.out.below)).mono ?_; rintro e w3 ⟨rfl, hb3⟩; rw [HS.out]; have F3 := Lib.hid (fm_below F.out hb3); clear hb3)
    go_ret
    exact ⟨ret_bool HE.out, F3.out.below⟩
  have H1 := Lib.hid (rbs_iff.1 h1)
  have HS := Lib.hid h1
  clear h1
  go_enter Try.func18, Try.ntmps18
  go_wp2_with fail
  refine (eqR_any A A2 n c n2 c2 a.rs b.rs _ (rr_below H.out.r F.out.below) (rr_below H2.out.r F.out.below)).mono ?_
  rintro e w3 ⟨rfl, hb3⟩
  rw [HS.out]
  have F3 := Lib.hid (fm_below F.out hb3)
  obtain ⟨⟨x0, x1, x2⟩, -⟩ := blk_three (fm_blk F3.out 0 rfl)
  obtain ⟨⟨y0, y1, y2⟩, -⟩ := blk_three (fm_blk F3.out 1 rfl)
  clear hb3 F HS
  rcases h2 : isB a.ws b.ws with _ | _
  · have HE := Lib.hid (ls_ws (a := a) (b := b) (fun e => by rw [← is_yes e] at h2; cases h2))
    have HS := Lib.hid h2
    clear h2
    go_wp2_with (go_at_call 55; refine (eqN_any B B2 m d m2 d2 a.ws b.ws _ (nr_below H.out.wt F3.out.below) (nr_below H2.out.wt F3.out.below) (by omega) (by omega)).mono ?_; rintro e w4 ⟨rfl, hb4⟩; rw [HS.out]; have F4 := Lib.hid (fm_below F3.out hb4); clear hb4)
    go_ret
    exact ⟨ret_bool HE.out, F4.out.below⟩
  have H3 := Lib.hid (is_iff.1 h2)
  have HS := Lib.hid h2
  clear h2
  go_wp2_with fail
  refine (eqN_any B B2 m d m2 d2 a.ws b.ws _ (nr_below H.out.wt F3.out.below) (nr_below H2.out.wt F3.out.below) (by omega) (by omega)).mono ?_
  rintro e w4 ⟨rfl, hb4⟩
  rw [HS.out]
  have F4 := Lib.hid (fm_below F3.out hb4)
  clear hb4 x0 x1 x2 y0 y1 y2 F3 HS
  obtain ⟨⟨x0, x1, x2⟩, -⟩ := blk_three (fm_blk F4.out 0 rfl)
  obtain ⟨⟨y0, y1, y2⟩, -⟩ := blk_three (fm_blk F4.out 1 rfl)
  have HE : Hid (isB a.cs b.cs = lsB a b) := Lib.hid (by
    rcases h3 : isB a.cs b.cs with _ | _
    · exact ls_cs (fun e => by rw [← is_yes e] at h3; cases h3)
    · exact ls_all H1.out H3.out (is_iff.1 h3))
  go_wp2_with (go_at_call 55; refine (eqN_any C C2 o e o2 e2 a.cs b.cs _ (nr_below H.out.cr F4.out.below) (nr_below H2.out.cr F4.out.below) (by omega) (by omega)).mono ?_; rintro e5 w5 ⟨rfl, hb5⟩; have F5 := Lib.hid (fm_below F4.out hb5); clear hb5)
  go_ret
  exact ⟨ret_bool HE.out, F5.out.below⟩
end Go.Proofs.Ytkmoiphcpmhacaa
namespace Go.Proofs.Ytkmoiphcpmhacaa
open Go.RowKit

theorem dr_start {w : World} {lo n : Nat} {v : Value} {hs : List Rh} {rs : List Rb} (h : w.ownsRow lo 37 2 v n (rcells hs)) (hl : hs.length = rs.length) : DR w lo v n hs rs (fun _ => (0, 0)) (fun j => j < 0) :=
  ⟨h, hl, fun k hk => absurd hk (by omega), fun b _ k => .inr (Nat.zero_le _), fun i j _ => .inl (Nat.le_refl _), fun k => Nat.zero_le _⟩
theorem set_self {α : Type} {xs : List α} {k : Nat} {x : α} (h : xs[k]? = some x) : xs.set k x = xs := by
  refine List.ext_getElem? fun j => ?_
  by_cases e : k = j
  · subst e; rw [List.getElem?_set_self (get_lt h), h]
  · rw [List.getElem?_set_ne e]
theorem dr_copy {w w4 : World} {lo g n c k x n4 c4 : Nat} {A4 : Option Addr} {hs : List Rh} {rs : List Rb} {iv : Nat → Nat × Nat} {r : Rb} {fh : List Fh} (H : DR w lo (.slice (some ⟨g, 0, none⟩) n c) n hs rs iv (fun j => j < k)) (hk : k < n) (hr : rs[k]? = some r) (hb : Below w.heap.size w w4) (hx : w.heap.size ≤ x)
    (hd : DO w4 x (.slice A4 n4 c4) n4 fh r.fs) (hn : n4 ≤ 4000000000) (hl : lo ≤ w.heap.size) :
    DR ((w4.setCell ⟨g, k * 2, none⟩ (.int .i64 r.q)).setCell ⟨g, k * 2 + 1, none⟩ (.slice A4 n4 c4)) lo (.slice (some ⟨g, 0, none⟩) n c) n (hs.set k ⟨r.q, A4, n4, c4⟩) rs (Up iv k (x, w4.heap.size)) (fun j => j < k + 1) := by
  have h1 := (H.row.lt g rfl).2
  have := dr_put (k := k) (h := ⟨r.q, A4, n4, c4⟩) (r := r) (dr_below H hb) hk rfl hn (Nat.le_trans hl hx) (Nat.le_refl _) (dv_all hd) (.inl (by omega)) (fun j _ => .inl (Nat.le_trans (H.top j) hx))
  rw [set_self hr] at this
  exact dr_weak this fun j hj => by
    rcases Nat.lt_or_ge j k with h | h
    · exact .inr h
    · exact .inl (by omega)
theorem up_lo {L k x e : Nat} {iv : Nat → Nat × Nat} (h : ∀ j, (iv j).1 < (iv j).2 → L ≤ (iv j).1) (hx : L ≤ x) : ∀ j, (Up iv k (x, e) j).1 < (Up iv k (x, e) j).2 → L ≤ (Up iv k (x, e) j).1 := fun j hj => by
  by_cases hjk : j = k
  · subst hjk; rw [up_self]; exact hx
  · rw [up_ne _ hjk] at hj ⊢; exact h j hj
theorem lo_mk {w : World} {lo n m o sB sC : Nat} {vA vB vC : Value} {hs : List Rh} {iv : Nat → Nat × Nat} {l : Ln} (r : DR w lo vA n hs l.rs iv (fun k => k < n)) (b : w.ownsRow sB 3 1 vB m (icells l.ws)) (c : w.ownsRow sC 3 1 vC o (icells l.cs)) (hb : lo ≤ sB) (hc : lo ≤ sC)
    (tb : ∀ k, (iv k).2 ≤ sB) (tc : ∀ k, (iv k).2 ≤ sC) (va : ∀ b, vA.ownBlock = some b → b < sB ∧ b < sC) (bc : ∀ b, vB.ownBlock = some b → vC.ownBlock ≠ some b) : LO w lo vA n vB m vC o hs iv l :=
  ⟨r, own_mono b hb, own_mono c hc, fun x e => ⟨fun e2 => by have := (b.lt x e).1; have := (va x e2).1; omega, fun k => .inr (Nat.le_trans (tb k) (b.lt x e).1)⟩, fun x e => ⟨fun e2 => by have := (c.lt x e).1; have := (va x e2).2; omega, fun k => .inr (Nat.le_trans (tc k) (c.lt x e).1)⟩, bc⟩
theorem ln_done {w w5 : World} {n m o : Nat} {vA vB vC : Value} {hs : List Rh} {iv : Nat → Nat × Nat} {l : Ln} (h : LO w5 (w.heap.size + 2) vA n vB m vC o hs iv l) (hi : ∀ k, (iv k).1 < (iv k).2 → w.heap.size + 2 ≤ (iv k).1) (u0 u1 u2 : Value) :
    LO (((w5.setCell ⟨w.heap.size + 1, 0, none⟩ u0).setCell ⟨w.heap.size + 1, 1, none⟩ u1).setCell ⟨w.heap.size + 1, 2, none⟩ u2) w.heap.size vA n vB m vC o hs iv l :=
  lo_mono (lo_far (lo_far (lo_far h (by simp) hi _) (by simp) hi _) (by simp) hi _) (by omega)
def CplRel (w : World) (va : Array Value) (A1 : Option Addr) (c1 n : Nat) (hs0 : List Rh) (rs : List Rb) (i : Value) (wr : World) : Prop :=
  ∃ k hs iv, k ≤ n ∧ i = .int .i64 (k : Int) ∧ DR wr (w.heap.size + 2) (.slice A1 n c1) n hs rs iv (fun j => j < k) ∧ (∀ j, k ≤ j → hs[j]? = hs0[j]?) ∧ (∀ j, (iv j).1 < (iv j).2 → w.heap.size + 2 ≤ (iv j).1) ∧
    Fm w [⟨w.heap.size, w.heap.size + 1, BoxP w.heap.size 26 va⟩, ⟨w.heap.size + 1, w.heap.size + 2, BoxP (w.heap.size + 1) 26 #[.slice none 0 0, .slice none 0 0, .slice none 0 0]⟩] wr
set_option maxRecDepth 100000 in
set_option maxHeartbeats 4000000 in
theorem copyLI_any (A : Option Addr) (n c : Nat) (B : Option Addr) (m d : Nat) (C : Option Addr) (o f : Nat) (l : Ln) (w : World) (h : LR w A n B m C o l) :
    Calls Try.prog 65 #[.agg #[.slice A n c, .slice B m d, .slice C o f]] w (LnPost w l) := by
  obtain ⟨hs0, hq0, hl0, ha0, n4⟩ := h.r
  have H := Lib.hid h
  have HQ0 := Lib.hid hq0
  have HA := Lib.hid ha0
  have HL := Lib.hid (lr_len h)
  have m4 := h.mb
  have o4 := h.kb
  have F := Lib.hid (fm_two w 26 26 #[.slice A n c, .slice B m d, .slice C o f] #[.slice none 0 0, .slice none 0 0, .slice none 0 0])
  clear h hq0 ha0
  obtain ⟨⟨x0, x1, x2⟩, -⟩ := blk_three (fm_blk F.out 0 rfl)
  go_enter Try.func65, Try.ntmps65
  go_wp2_with fail
  refine (cloneR_any A n c hs0 _ (hq_below HQ0.out F.out.below) n4).mono ?_
  rintro e w2 ⟨A1, c1, rfl, ho, hb⟩
  have z2 := hb.size
  simp at z2
  have R0 : Hid (CplRel w #[.slice A n c, .slice B m d, .slice C o f] A1 c1 n hs0 l.rs (.int .i64 0) w2) := Lib.hid ⟨0, hs0, fun _ => (0, 0), Nat.zero_le _, rfl, dr_start (own_mono ho (by simp)) hl0, fun _ _ => rfl, fun j hj => absurd hj (by simp), fm_below F.out hb⟩
  clear ho hb F x0 x1 x2
  go_wp2
  go_loopw [11] (fun i wr => CplRel w #[.slice A n c, .slice B m d, .slice C o f] A1 c1 n hs0 l.rs i wr) (fun i _ => n - (intOf i).toNat)
  case atStart => exact R0.out
  case round =>
    obtain ⟨k, hs, iv, hk, rfl, hD, hrest, hiv, hF⟩ := hrel
    have HD := Lib.hid hD
    have HF := Lib.hid hF
    have HR := Lib.hid hrest
    have HI := Lib.hid hiv
    obtain ⟨⟨x0, x1, x2⟩, -⟩ := blk_three (fm_blk hF 0 rfl)
    have zb0 := blk_lt (fm_blk hF 0 rfl)
    have zb := blk_lt (fm_blk hF 1 rfl)
    have hbl := hF.below
    clear R0 hrest hiv
    by_cases hlt : k < n
    · obtain ⟨b, off, h, e1, hb, hk', c0, c1'⟩ := hq_at (hq_own hD.row) hlt
      obtain ⟨g, cap, hv, hg1, hg2⟩ := hD.row.form (by omega)
      obtain ⟨rfl, rfl⟩ : A1 = some ⟨g, 0, none⟩ ∧ c1 = cap := by injection hv with a1 a2 a3; exact ⟨a1, a3⟩
      obtain ⟨rfl, rfl⟩ : g = b ∧ 0 = off := by injection e1 with e1; injection e1 with a1 a2; exact ⟨a1, a2⟩
      simp only [Nat.zero_add] at c0 c1'
      obtain ⟨r, hr⟩ := get_of (xs := l.rs) (k := k) (by have := HL.out.1; omega)
      obtain ⟨hq, hfr⟩ := HA.out k h r (by rw [← HR.out k (Nat.le_refl _)]; exact hk') hr
      have HFR := Lib.hid (fr_belowF hfr hbl)
      have HRr := Lib.hid hr
      obtain ⟨q, A0, n0, c0'⟩ := h
      simp only at hq c0 c1'
      subst hq
      have f0 : wr.frozen? ⟨g, k * 2, none⟩ = false := World.ownsRow.frozenAt hD.row _
      have f1 : wr.frozen? ⟨g, k * 2 + 1, none⟩ = false := World.ownsRow.frozenAt hD.row _
      have zg : g < wr.heap.size := hg2
      have k0 : (0 : Int) ≤ (k : Int) := by omega
      have k1 : (k : Int) < (n : Int) := by omega
      clear hD hF hbl hv e1 hk' hr hfr x0 x1 x2
      go_wp2_with (go_at_call 59
                   refine (copyRI_any r.q A0 n0 c0' r.fs _ (fr_allocF HFR.out _)).mono ?_
                   rintro e w4 ⟨A4, n4', c4, fh, rfl, en, -, -, hd, hb4⟩
                   have B4 := Lib.hid (show Below wr.heap.size wr w4 from below_seq1 (Below.refl _ _) hb4)
                   have D4 := Lib.hid hd
                   have EN := Lib.hid en
                   have D0 : w4.cell? ⟨g, k * 2, none⟩ = some (.int .i64 r.q) := ((bcell B4.out).1 g _ zg).trans c0
                   have D1 : w4.cell? ⟨g, k * 2 + 1, none⟩ = some (.slice A0 n0 c0') := ((bcell B4.out).1 g _ zg).trans c1'
                   have D2 : w4.frozen? ⟨g, k * 2, none⟩ = false := ((bcell B4.out).2 g _ zg).trans f0
                   have D3 : w4.frozen? ⟨g, k * 2 + 1, none⟩ = false := ((bcell B4.out).2 g _ zg).trans f1
                   have z4 := hb4.size
                   clear hb4 hd en c0 c1' f0 f1)
      go_roundw
      case rel =>
        refine ⟨k + 1, hs.set k ⟨r.q, A4, n4', c4⟩, Up iv k ((wr.alloc (.cells #[.int .i64 r.q, (.slice A0 n0 c0')] 37)).heap.size, w4.heap.size), by omega, by go_num, dr_copy HD.out hlt HRr.out B4.out (by simp) D4.out (by have := (fr_lenF HFR.out); have := EN.out; omega) (by omega), fun j hj => ?_, up_lo HI.out (by simp; omega), fm_out (fm_out (fm_below HF.out B4.out) (fun y hy => ?_) (by omega) _) (fun y hy => ?_) (by omega) _⟩
        · rw [List.getElem?_set_ne (by omega)]; exact HR.out j (by omega)
        · simp only [List.mem_cons, List.not_mem_nil, or_false] at hy
          rcases hy with rfl | rfl <;> (simp only; omega)
        · simp only [List.mem_cons, List.not_mem_nil, or_false] at hy
          rcases hy with rfl | rfl <;> (simp only; omega)
      case measure => simp [intOf]; omega
    · obtain rfl : k = n := by omega
      have FB := Lib.hid (fm_below HF.out (Below.refl _ wr).drew)
      have BB := Lib.hid (show Below wr.heap.size wr wr.drew from (Below.refl _ wr).drew)
      have hS0 : wr.drew.cell? ⟨w.heap.size, 1, none⟩ = some (.slice B m d) ∧ wr.drew.cell? ⟨w.heap.size, 2, none⟩ = some (.slice C o f) := by
        obtain ⟨⟨y0, y1, y2⟩, -⟩ := blk_three (fm_blk FB.out 0 rfl)
        exact ⟨y1, y2⟩
      clear hD hF hbl x0 x1 x2
      go_wp2_with fail
      refine held_start (S := (fun w' => w'.cell? ⟨w.heap.size, 1, none⟩ = some (.slice B m d) ∧ w'.cell? ⟨w.heap.size, 2, none⟩ = some (.slice C o f))) 8 (by kernel_rfl) ?_
      refine held_take (i := 0) (oi := { dst := some 22, op := Op.move (Operand.tmp 3), type := 23, pos := "l6_lanes.go:178", after := #[], guard := none }) (v := ?_) rfl (by kernel_rfl) (by kernel_rfl) (by kernel_rfl) (by kernel_rfl) (fun _ _ _ h => h) (Or.inl ⟨by rfl, ?_⟩) hS0 ?_
      rotate_left
      · (intro w9 hSw; (try dsimp only at hSw); go_simp; try with_reducible rfl)
      try simp only [Act.put, List.setIfInBounds_toArray, List.set_cons_zero, List.set_cons_succ]
      refine held_take (i := 1) (oi := { dst := some 23, op := Op.fieldAddr 26 (Operand.tmp 1) 1, type := 0, pos := "l6_lanes.go:178", after := #[], guard := none }) (v := ?_) rfl (by kernel_rfl) (by kernel_rfl) (by kernel_rfl) (by kernel_rfl) (fun _ _ _ h => h) (Or.inl ⟨by rfl, ?_⟩) hS0 ?_
      rotate_left
      · (intro w9 hSw; (try dsimp only at hSw); go_simp; try with_reducible rfl)
      try simp only [Act.put, List.setIfInBounds_toArray, List.set_cons_zero, List.set_cons_succ]
      refine held_take (i := 2) (oi := { dst := some 24, op := Op.load 24 (Operand.tmp 23), type := 24, pos := "l6_lanes.go:178", after := #[{ on := 1, ground := Ground.data }], guard := none }) (v := ?_) rfl (by kernel_rfl) (by kernel_rfl) (by kernel_rfl) (by kernel_rfl) (fun _ _ _ h => h) (Or.inl ⟨by rfl, ?_⟩) hS0 ?_
      rotate_left
      · (intro w9 hSw; (try dsimp only at hSw); go_simp; try with_reducible rfl)
      try simp only [Act.put, List.setIfInBounds_toArray, List.set_cons_zero, List.set_cons_succ]
      refine held_take (i := 4) (oi := { dst := some 26, op := Op.fieldAddr 26 (Operand.tmp 1) 2, type := 0, pos := "l6_lanes.go:178", after := #[], guard := none }) (v := ?_) rfl (by kernel_rfl) (by kernel_rfl) (by kernel_rfl) (by kernel_rfl) (fun _ _ _ h => h) (Or.inl ⟨by rfl, ?_⟩) hS0 ?_
      rotate_left
      · (intro w9 hSw; (try dsimp only at hSw); go_simp; try with_reducible rfl)
      try simp only [Act.put, List.setIfInBounds_toArray, List.set_cons_zero, List.set_cons_succ]
      refine held_take (i := 5) (oi := { dst := some 27, op := Op.load 24 (Operand.tmp 26), type := 24, pos := "l6_lanes.go:178", after := #[{ on := 4, ground := Ground.data }], guard := none }) (v := ?_) rfl (by kernel_rfl) (by kernel_rfl) (by kernel_rfl) (by kernel_rfl) (fun _ _ _ h => h) (Or.inl ⟨by rfl, ?_⟩) hS0 ?_
      rotate_left
      · (intro w9 hSw; (try dsimp only at hSw); go_simp; try with_reducible rfl)
      try simp only [Act.put, List.setIfInBounds_toArray, List.set_cons_zero, List.set_cons_succ]
      refine held_one (i := 3) (o := { dst := some 25, op := Op.call { callee := Callee.value (Operand.func 75), args := #[Operand.tmp 24], argTypes := #[24] }, type := 24, pos := "l6_lanes.go:178", after := #[{ on := 2, ground := Ground.data }], guard := none }) (by kernel_rfl) rfl (fun K hK => ?_)
      go_simp
      go_at_call 75
      refine (cloneN_any B m d l.ws _ (nr_below H.out.wt FB.out.below) m4).mono ?_
      rintro e w3 ⟨B2, d2, rfl, ho, hb⟩
      have OB := Lib.hid ho
      have F3 := Lib.hid (fm_below FB.out hb)
      have B3 := Lib.hid hb
      have hSF3 : w3.cell? ⟨w.heap.size, 1, none⟩ = some (.slice B m d) ∧ w3.cell? ⟨w.heap.size, 2, none⟩ = some (.slice C o f) := by obtain ⟨⟨y0, y1, y2⟩, -⟩ := blk_three (fm_blk F3.out 0 rfl); exact ⟨y1, y2⟩
      clear ho hb
      refine hK.out _ _ (.inr hSF3) ?_
      clear hK K
      try simp only [Act.put, List.setIfInBounds_toArray, List.set_cons_zero, List.set_cons_succ]
      refine held_one (i := 6) (o := { dst := some 28, op := Op.call { callee := Callee.value (Operand.func 75), args := #[Operand.tmp 27], argTypes := #[24] }, type := 24, pos := "l6_lanes.go:178", after := #[{ on := 5, ground := Ground.data }, { on := 3, ground := Ground.chain }], guard := none }) (by kernel_rfl) rfl (fun K hK => ?_)
      go_simp
      go_at_call 75
      refine (cloneN_any C o f l.cs _ (nr_below H.out.cr F3.out.below) o4).mono ?_
      rintro e w5 ⟨C2, f2, rfl, ho, hb⟩
      have OC := Lib.hid ho
      have F5 := Lib.hid (fm_below F3.out hb)
      have B5 := Lib.hid hb
      have hSF5 : w5.cell? ⟨w.heap.size, 1, none⟩ = some (.slice B m d) ∧ w5.cell? ⟨w.heap.size, 2, none⟩ = some (.slice C o f) := by obtain ⟨⟨y0, y1, y2⟩, -⟩ := blk_three (fm_blk F5.out 0 rfl); exact ⟨y1, y2⟩
      clear ho hb
      obtain ⟨⟨r0, r1, r2⟩, rf0, rf1, rf2⟩ := blk_three (fm_blk F5.out 1 rfl)
      refine hK.out _ _ (.inr hSF5) ?_
      clear hK K
      try simp only [Act.put, List.setIfInBounds_toArray, List.set_cons_zero, List.set_cons_succ]
      refine held_take (i := 7) (oi := { dst := some 29, op := Op.build 26 #[(0, Operand.tmp 22), (1, Operand.tmp 25), (2, Operand.tmp 28)], type := 26, pos := "l6_lanes.go:178", after := #[{ on := 0, ground := Ground.data }, { on := 3, ground := Ground.data }, { on := 6, ground := Ground.data }], guard := none }) (v := ?_) rfl (by kernel_rfl) (by kernel_rfl) (by kernel_rfl) (by kernel_rfl) (fun _ _ _ h => h) (Or.inl ⟨by rfl, ?_⟩) hSF5 ?_
      rotate_left
      · (intro w9 hSw; (try dsimp only at hSw); go_simp; try with_reducible rfl)
      try simp only [Act.put, List.setIfInBounds_toArray, List.set_cons_zero, List.set_cons_succ]
      refine held_one (i := 8) (o := { dst := none, op := Op.store 26 (Operand.tmp 2) (Operand.tmp 29), type := 0, pos := "l6_lanes.go:178", after := #[{ on := 7, ground := Ground.data }, { on := 6, ground := Ground.chain }, { on := 0, ground := Ground.phase }, { on := 1, ground := Ground.phase }, { on := 2, ground := Ground.phase }, { on := 3, ground := Ground.phase }, { on := 4, ground := Ground.phase }, { on := 5, ground := Ground.phase }, { on := 6, ground := Ground.phase }, { on := 7, ground := Ground.phase }], guard := none }) (by kernel_rfl) rfl (fun K hK => ?_)
      go_simp
      refine hK.out _ _ (.inl rfl) ?_
      clear hK K
      try simp only [Act.put, List.setIfInBounds_toArray, List.set_cons_zero, List.set_cons_succ]
      refine held_done (by kernel_rfl) ?_ _
      have B5a := Lib.hid (show Below wr.heap.size wr w5 from below_seq (below_seq BB.out B3.out) B5.out)
      have LL := Lib.hid (show LO w5 (w.heap.size + 2) (.slice A1 k c1) k (.slice B2 m d2) m (.slice C2 o f2) o hs iv l from lo_mk (sB := wr.heap.size) (sC := w3.heap.size) (dr_below HD.out B5a.out) (own_below OB.out B5.out) OC.out (by omega) (by have := B3.out.size; simp at this; omega) (fun k => HD.out.top k) (fun k => by have := HD.out.top k; have := B3.out.size; simp at this; omega) (fun b e => by have := (HD.out.row.lt b e).2; have := B3.out.size; simp at this; omega) (fun b e e2 => by have := (OB.out.lt b e).2; have := (OC.out.lt b e2).1; omega))
      clear hS0 hSF3 hSF5
      go_wp2
      refine bodyPost_ret (v := .agg #[.slice A1 k c1, .slice B2 m d2, .slice C2 o f2]) (by simp [results, Try.results65, go_sem, r0, r1, r2]) rfl ⟨A1, k, c1, B2, m, d2, C2, o, f2, hs, iv, rfl, HL.out.1.symm, HL.out.2.1.symm, HL.out.2.2.symm, ln_done LL.out HI.out _ _ _, fun j hj => Nat.le_trans (by omega) (HI.out j hj), ?_⟩
      exact Below.setCell (Below.setCell (Below.setCell F5.out.below (by simp) _) (by simp) _) (by simp) _
end Go.Proofs.Ytkmoiphcpmhacaa
