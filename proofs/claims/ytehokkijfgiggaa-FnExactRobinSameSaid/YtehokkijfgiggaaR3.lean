/-
  Chapter 5: equality of flows and robins: what the program's functions and the model's return. Conditions: a flow has at most 4000000000 packets.
-/
import Derived.Test.YtehokkijfgiggaaR2b
import Derived.Test.YtehokkijfgiggaaC1c
namespace Go.Proofs.Ytehokkijfgiggaa
open Go.RowKit

open Classical in
noncomputable def sfB (f g : Flw) : Bool := decide (f = g)
theorem sf_no {f g : Flw} (h : f ≠ g) : sfB f g = false := by simp [sfB, h]
theorem sf_ws {x d : Int} {ws vs : List Pkt} : sfB ⟨x, d, ws⟩ ⟨x, d, vs⟩ = sameB ws vs := by simp [sfB, sameB]
set_option maxHeartbeats 1000000 in
theorem sameFlow_any (x d : Int) (ws : List Pkt) (A : Option Addr) (n c : Nat) (x2 d2 : Int) (vs : List Pkt) (A2 : Option Addr) (n2 c2 : Nat) (w : World) (h : PR w A n ws) (h2 : PR w A2 n2 vs) (hn : n ≤ 4000000000) (hn2 : n2 ≤ 4000000000) :
    Calls Try.prog 54 #[.agg #[.int .i64 x, .int .i64 d, (.slice A n c)], .agg #[.int .i64 x2, .int .i64 d2, (.slice A2 n2 c2)]] w fun e w' => e = .returned (.bool (sfB ⟨x, d, ws⟩ ⟨x2, d2, vs⟩)) ∧ Below w.heap.size w w' := by
  have H := Lib.hid h
  have H2 := Lib.hid h2
  have F := Lib.hid (fm_two w 40 40 #[.int .i64 x, .int .i64 d, (.slice A n c)] #[.int .i64 x2, .int .i64 d2, (.slice A2 n2 c2)])
  clear h h2
  by_cases hx : x = x2
  · by_cases hd : d = d2
    · subst hx hd
      rw [sf_ws]
      have hxx : (x == x) = true := by simp
      have hdd : (d == d) = true := by simp
      go_enter Try.func54, Try.ntmps54
      go_wp2_with (go_at_call 22; refine (sameI_any A A2 n c n2 c2 ws vs _ (pr_below H.out F.out.below) (pr_below H2.out F.out.below) (by omega) (by omega)).mono ?_; rintro e w3 ⟨rfl, hb3⟩; have F3 := Lib.hid (fm_below F.out hb3); clear hb3)
      go_ret
      exact ⟨rfl, F3.out.below⟩
    · have hxb : (x == x2) = true := by simp [hx]
      have hdb : (d == d2) = false := by simp [hd]
      have HE := Lib.hid (sf_no (f := ⟨x, d, ws⟩) (g := ⟨x2, d2, vs⟩) fun e => hd (congrArg Flw.dfc e))
      clear hx hd
      go_enter Try.func54, Try.ntmps54
      go_wp2
      go_ret
      exact ⟨ret_bool HE.out.symm, F.out.below⟩
  · have hxb : (x == x2) = false := by simp [hx]
    have HE := Lib.hid (sf_no (f := ⟨x, d, ws⟩) (g := ⟨x2, d2, vs⟩) fun e => hx (congrArg Flw.peer e))
    clear hx
    go_enter Try.func54, Try.ntmps54
    go_wp2
    go_ret
    exact ⟨ret_bool HE.out.symm, F.out.below⟩
open Classical in
noncomputable def flsB (fs gs : List Flw) : Bool := decide (fs = gs)
theorem fls_no {fs gs : List Flw} (h : fs ≠ gs) : false = flsB fs gs := by simp [flsB, h]
theorem fls_yes {fs gs : List Flw} (h : fs = gs) : true = flsB fs gs := by simp [flsB, h]
theorem sf_yes {f g : Flw} (h : sfB f g = true) : f = g := by simpa [sfB] using h
theorem sf_ne {f g : Flw} (h : sfB f g = false) : f ≠ g := by simpa [sfB] using h
def FeRel (w : World) (fs gs : List Flw) (n : Nat) (i : Value) (wr : World) : Prop :=
  ∃ k : Nat, k ≤ n ∧ i = .int .i64 (k : Int) ∧ fs.take k = gs.take k ∧ Below w.heap.size w wr
theorem takeF_step {fs gs : List Flw} {k : Nat} {f g : Flw} (h : fs.take k = gs.take k) (hf : fs[k]? = some f) (hg : gs[k]? = some g) (he : f = g) : fs.take (k + 1) = gs.take (k + 1) := by
  rw [List.take_add_one, List.take_add_one, hf, hg, h, he]
theorem takeF_ne {fs gs : List Flw} {k : Nat} {f g : Flw} (hf : fs[k]? = some f) (hg : gs[k]? = some g) (he : f ≠ g) : fs ≠ gs := by
  rintro rfl
  rw [hf] at hg
  exact he (by injection hg)
theorem takeF_all {fs gs : List Flw} {n : Nat} (h : fs.take n = gs.take n) (hf : fs.length ≤ n) (hg : gs.length ≤ n) : fs = gs := by
  rw [List.take_of_length_le hf, List.take_of_length_le hg] at h
  exact h
set_option maxHeartbeats 2000000 in
theorem eqF_any (A A2 : Option Addr) (n c n2 c2 : Nat) (fs gs : List Flw) (w : World) (h : FR w A n fs) (h2 : FR w A2 n2 gs) :
    Calls Try.prog 53 #[.slice A n c, .slice A2 n2 c2, .func (.func 54) #[] #[]] w fun e w' => e = .returned (.bool (flsB fs gs)) ∧ Below w.heap.size w w' := by
  have H := Lib.hid h
  have H2 := Lib.hid h2
  have HL := Lib.hid (fr_lenF h)
  have HL2 := Lib.hid (fr_lenF h2)
  have n4 : n ≤ 4000000000 := HL.out.2
  have n42 : n2 ≤ 4000000000 := HL2.out.2
  clear h h2
  by_cases hl : n = n2
  · subst hl
    go_enter Try.func53, Try.ntmps53
    go_wp2
    go_loopw [17] (fun i wr => FeRel w fs gs n i wr) (fun i _ => n - (intOf i).toNat)
    case atStart => exact ⟨0, Nat.zero_le _, rfl, by simp, Below.refl _ _⟩
    case round =>
      obtain ⟨k, hk, rfl, ht, hbl⟩ := hrel
      have HT := Lib.hid ht
      clear ht
      by_cases hlt : k < n
      · obtain ⟨b, off, f, A1, n1, c1, rfl, hb, hf, c0, c1', c2', hpr, hc1, hn1⟩ := fr_cells (fr_belowF H.out hbl) hlt
        obtain ⟨b2, off2, g, A3, n3, c3, rfl, hb2, hg, d0, d1', d2', hpr2, hc3, hn3⟩ := fr_cells (fr_belowF H2.out hbl) hlt
        have HF := Lib.hid hf
        have HG := Lib.hid hg
        have HP := Lib.hid hpr
        have HP2 := Lib.hid hpr2
        have HB := Lib.hid hbl
        obtain ⟨x, d, ws⟩ := f
        obtain ⟨x2, d2, vs⟩ := g
        simp only at c0 c1' c2' d0 d1' d2'
        clear hf hg hbl hpr hpr2
        rcases hs : sfB ⟨x, d, ws⟩ ⟨x2, d2, vs⟩ with _ | _
        · have HE := Lib.hid (fls_no (takeF_ne HF.out HG.out (sf_ne hs)))
          have HS := Lib.hid hs
          clear hs
          go_wp2_with (go_at_call 54; refine (sameFlow_any x d ws A1 n1 c1 x2 d2 vs A3 n3 c3 _ (pr_alloc (pr_alloc HP.out _) _) (pr_alloc (pr_alloc HP2.out _) _) hn1 hn3).mono ?_; rintro e w3 ⟨rfl, hb3⟩; rw [HS.out]; have B3 := Lib.hid (below_seq2 HB.out hb3); clear hb3)
          go_ret
          exact ⟨ret_bool HE.out, B3.out⟩
        · have HX := Lib.hid (sf_yes hs)
          have HS := Lib.hid hs
          clear hs
          go_wp2_with (go_at_call 54; refine (sameFlow_any x d ws A1 n1 c1 x2 d2 vs A3 n3 c3 _ (pr_alloc (pr_alloc HP.out _) _) (pr_alloc (pr_alloc HP2.out _) _) hn1 hn3).mono ?_; rintro e w3 ⟨rfl, hb3⟩; rw [HS.out]; have B3 := Lib.hid (below_seq2 HB.out hb3); clear hb3)
          go_roundw
          case rel => exact ⟨k + 1, by omega, by go_num, takeF_step HT.out HF.out HG.out HX.out, B3.out⟩
          case measure => simp [intOf]; omega
      · obtain rfl : k = n := by omega
        have HB := Lib.hid hbl
        clear hbl
        go_wp2
        go_ret
        exact ⟨ret_bool (fls_yes (takeF_all HT.out (by have := HL.out.1; omega) (by have := HL2.out.1; omega))), HB.out⟩
  · have hlb : ((n : Int) != (n2 : Int)) = true := by simp; omega
    have HN := Lib.hid hl
    clear hl
    go_enter Try.func53, Try.ntmps53
    go_wp2
    go_ret
    exact ⟨ret_bool (fls_no (by rintro rfl; exact HN.out (HL.out.1.symm.trans HL2.out.1))), Below.refl _ _⟩
theorem rs_fls (q : Int) (fs gs : List Flw) : rsB q fs q gs = flsB fs gs := by simp [rsB, flsB]
theorem rs_quantum {q q2 : Int} {fs gs : List Flw} (h : q ≠ q2) : rsB q fs q2 gs = false := rs_no fun e => h e.1
set_option maxHeartbeats 1000000 in
theorem sameRI_any (q q2 : Int) (A A2 : Option Addr) (n c n2 c2 : Nat) (fs gs : List Flw) (w : World) (h : FR w A n fs) (h2 : FR w A2 n2 gs) :
    Calls Try.prog 20 #[.agg #[.int .i64 q, (.slice A n c)], .agg #[.int .i64 q2, (.slice A2 n2 c2)]] w fun e w' => e = .returned (.bool (rsB q fs q2 gs)) ∧ Below w.heap.size w w' := by
  have H := Lib.hid h
  have H2 := Lib.hid h2
  have F := Lib.hid (fm_two w 25 25 #[.int .i64 q, (.slice A n c)] #[.int .i64 q2, (.slice A2 n2 c2)])
  clear h h2
  by_cases hq : q = q2
  · subst hq
    rw [rs_fls]
    have hqq : (q == q) = true := by simp
    go_enter Try.func20, Try.ntmps20
    go_wp2_with (go_at_call 53; refine (eqF_any A A2 n c n2 c2 fs gs _ (fr_belowF H.out F.out.below) (fr_belowF H2.out F.out.below)).mono ?_; rintro e w3 ⟨rfl, hb3⟩; have F3 := Lib.hid (fm_below F.out hb3); clear hb3)
    go_ret
    exact ⟨rfl, F3.out.below⟩
  · have hqb : (q == q2) = false := by simp [hq]
    have HE := Lib.hid (rs_quantum (fs := fs) (gs := gs) hq)
    clear hq
    go_enter Try.func20, Try.ntmps20
    go_wp2
    go_ret
    exact ⟨ret_bool HE.out.symm, F.out.below⟩
end Go.Proofs.Ytehokkijfgiggaa
