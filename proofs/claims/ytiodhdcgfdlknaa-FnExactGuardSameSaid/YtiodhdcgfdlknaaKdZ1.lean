/-
  Chapter 5: equality of flows and robins: what the program's functions and the model's return. Conditions: a flow has at most 4000000000 packets. Chapter 5: equality of robins: what the model's function returns. Conditions: a flow has at most 4000000000 packets. Appending rows of flows; slices.Clone of flows and of packets. Conditions: the rows have at most 4000000000 elements. Chapter 5: copies of robins: what the program's function returns. Conditions: a robin has at most 4000000000 flows, a flow at most 4000000000 packets. A region that draws its order, whose last operation waits for all oth
  Conditions: each lemma says them.
-/
import Derived.Test.YtiodhdcgfdlknaaKcZ1
import Derived.Test.YtiodhdcgfdlknaaKbZ1
import Derived.Test.YtiodhdcgfdlknaaKaZ1
import Derived.Lib.SliceRun
import Derived.Deep.RegionHeld3
namespace Go.Proofs.Ytiodhdcgfdlknaa
open Go.RowKit
open Classical in
noncomputable def sfB (f g : Flw) : Bool := decide (f = g)
theorem sf_no {f g : Flw} (h : f ≠ g) : sfB f g = false := by simp [sfB, h]
theorem sf_ws {x d : Int} {ws vs : List Pkt} : sfB ⟨x, d, ws⟩ ⟨x, d, vs⟩ = sameB ws vs := by simp [sfB, sameB]
set_option maxHeartbeats 1000000 in
theorem sameFlow_any (x d : Int) (ws : List Pkt) (A : Option Addr) (n c : Nat) (x2 d2 : Int) (vs : List Pkt) (A2 : Option Addr) (n2 c2 : Nat) (w : World) (h : PR w A n ws) (h2 : PR w A2 n2 vs) (hn : n ≤ 4000000000) (hn2 : n2 ≤ 4000000000) :
    Calls Try.prog 143 #[.agg #[.int .i64 x, .int .i64 d, (.slice A n c)], .agg #[.int .i64 x2, .int .i64 d2, (.slice A2 n2 c2)]] w fun e w' => e = .returned (.bool (sfB ⟨x, d, ws⟩ ⟨x2, d2, vs⟩)) ∧ Below w.heap.size w w' := by
  have H := Lib.hid h
  have H2 := Lib.hid h2
  have F := Lib.hid (fm_two w 144 144 #[.int .i64 x, .int .i64 d, (.slice A n c)] #[.int .i64 x2, .int .i64 d2, (.slice A2 n2 c2)])
  clear h h2
  by_cases hx : x = x2
  · by_cases hd : d = d2
    · subst hx hd
      rw [sf_ws]
      have hxx : (x == x) = true := by simp
      have hdd : (d == d) = true := by simp
      go_enter Try.func143, Try.ntmps143
      go_wp2_with (go_at_call 167; refine (sameI_any A A2 n c n2 c2 ws vs _ (pr_below H.out F.out.below) (pr_below H2.out F.out.below) (by omega) (by omega)).mono ?_; rintro e w3 ⟨rfl, hb3⟩; have F3 := Lib.hid (fm_below F.out hb3); clear hb3)
      go_ret
      exact ⟨rfl, F3.out.below⟩
    · have hxb : (x == x2) = true := by simp [hx]
      have hdb : (d == d2) = false := by simp [hd]
      have HE := Lib.hid (sf_no (f := ⟨x, d, ws⟩) (g := ⟨x2, d2, vs⟩) fun e => hd (congrArg Flw.dfc e))
      clear hx hd
      go_enter Try.func143, Try.ntmps143
      go_wp2
      go_ret
      exact ⟨ret_bool HE.out.symm, F.out.below⟩
  · have hxb : (x == x2) = false := by simp [hx]
    have HE := Lib.hid (sf_no (f := ⟨x, d, ws⟩) (g := ⟨x2, d2, vs⟩) fun e => hx (congrArg Flw.peer e))
    clear hx
    go_enter Try.func143, Try.ntmps143
    go_wp2
    go_ret
    exact ⟨ret_bool HE.out.symm, F.out.below⟩
open Classical in
noncomputable def flsB (fs gs : List Flw) : Bool := decide (fs = gs)
theorem fls_no {fs gs : List Flw} (h : fs ≠ gs) : false = flsB fs gs := by simp [flsB, h]
theorem fls_yes {fs gs : List Flw} (h : fs = gs) : true = flsB fs gs := by simp [flsB, h]
theorem sf_yes {f g : Flw} (h : sfB f g = true) : f = g := by simpa [sfB] using h
theorem sf_ne {f g : Flw} (h : sfB f g = false) : f ≠ g := by simpa [sfB] using h
def FeRel (w : World) (fs gs : List Flw) (n : Nat) (i : Value) (wr : World) : Prop :=
  ∃ k : Nat, k ≤ n ∧ i = .int .i64 (k : Int) ∧ fs.take k = gs.take k ∧ Below w.heap.size w wr
theorem takeF_step {fs gs : List Flw} {k : Nat} {f g : Flw} (h : fs.take k = gs.take k) (hf : fs[k]? = some f) (hg : gs[k]? = some g) (he : f = g) : fs.take (k + 1) = gs.take (k + 1) := by
  rw [List.take_add_one, List.take_add_one, hf, hg, h, he]
theorem takeF_ne {fs gs : List Flw} {k : Nat} {f g : Flw} (hf : fs[k]? = some f) (hg : gs[k]? = some g) (he : f ≠ g) : fs ≠ gs := by
  rintro rfl
  rw [hf] at hg
  exact he (by injection hg)
theorem takeF_all {fs gs : List Flw} {n : Nat} (h : fs.take n = gs.take n) (hf : fs.length ≤ n) (hg : gs.length ≤ n) : fs = gs := by
  rw [List.take_of_length_le hf, List.take_of_length_le hg] at h
  exact h
set_option maxHeartbeats 2000000 in
theorem eqF_any (A A2 : Option Addr) (n c n2 c2 : Nat) (fs gs : List Flw) (w : World) (h : FR w A n fs) (h2 : FR w A2 n2 gs) :
    Calls Try.prog 142 #[.slice A n c, .slice A2 n2 c2, .func (.func 143) #[] #[]] w fun e w' => e = .returned (.bool (flsB fs gs)) ∧ Below w.heap.size w w' := by
  have H := Lib.hid h
  have H2 := Lib.hid h2
  have HL := Lib.hid (fr_lenF h)
  have HL2 := Lib.hid (fr_lenF h2)
  have n4 : n ≤ 4000000000 := HL.out.2
  have n42 : n2 ≤ 4000000000 := HL2.out.2
  clear h h2
  by_cases hl : n = n2
  · subst hl
    go_enter Try.func142, Try.ntmps142
    go_wp2
    go_loopw [17] (fun i wr => FeRel w fs gs n i wr) (fun i _ => n - (intOf i).toNat)
    case atStart => exact ⟨0, Nat.zero_le _, rfl, by simp, Below.refl _ _⟩
    case round =>
      obtain ⟨k, hk, rfl, ht, hbl⟩ := hrel
      have HT := Lib.hid ht
      clear ht
      by_cases hlt : k < n
      · obtain ⟨b, off, f, A1, n1, c1, rfl, hb, hf, c0, c1', c2', hpr, hc1, hn1⟩ := fr_cells (fr_belowF H.out hbl) hlt
        obtain ⟨b2, off2, g, A3, n3, c3, rfl, hb2, hg, d0, d1', d2', hpr2, hc3, hn3⟩ := fr_cells (fr_belowF H2.out hbl) hlt
        have HF := Lib.hid hf
        have HG := Lib.hid hg
        have HP := Lib.hid hpr
        have HP2 := Lib.hid hpr2
        have HB := Lib.hid hbl
        obtain ⟨x, d, ws⟩ := f
        obtain ⟨x2, d2, vs⟩ := g
        simp only at c0 c1' c2' d0 d1' d2'
        clear hf hg hbl hpr hpr2
        rcases hs : sfB ⟨x, d, ws⟩ ⟨x2, d2, vs⟩ with _ | _
        · have HE := Lib.hid (fls_no (takeF_ne HF.out HG.out (sf_ne hs)))
          have HS := Lib.hid hs
          clear hs
          go_wp2_with (go_at_call 143; refine (sameFlow_any x d ws A1 n1 c1 x2 d2 vs A3 n3 c3 _ (pr_alloc (pr_alloc HP.out _) _) (pr_alloc (pr_alloc HP2.out _) _) hn1 hn3).mono ?_; rintro e w3 ⟨rfl, hb3⟩; rw [HS.out]; have B3 := Lib.hid (below_seq2 HB.out hb3); clear hb3)
          go_ret
          exact ⟨ret_bool HE.out, B3.out⟩
        · have HX := Lib.hid (sf_yes hs)
          have HS := Lib.hid hs
          clear hs
          go_wp2_with (go_at_call 143; refine (sameFlow_any x d ws A1 n1 c1 x2 d2 vs A3 n3 c3 _ (pr_alloc (pr_alloc HP.out _) _) (pr_alloc (pr_alloc HP2.out _) _) hn1 hn3).mono ?_; rintro e w3 ⟨rfl, hb3⟩; rw [HS.out]; have B3 := Lib.hid (below_seq2 HB.out hb3); clear hb3)
          go_roundw
          case rel => exact ⟨k + 1, by omega, by go_num, takeF_step HT.out HF.out HG.out HX.out, B3.out⟩
          case measure => simp [intOf]; omega
      · obtain rfl : k = n := by omega
        have HB := Lib.hid hbl
        clear hbl
        go_wp2
        go_ret
        exact ⟨ret_bool (fls_yes (takeF_all HT.out (by have := HL.out.1; omega) (by have := HL2.out.1; omega))), HB.out⟩
  · have hlb : ((n : Int) != (n2 : Int)) = true := by simp; omega
    have HN := Lib.hid hl
    clear hl
    go_enter Try.func142, Try.ntmps142
    go_wp2
    go_ret
    exact ⟨ret_bool (fls_no (by rintro rfl; exact HN.out (HL.out.1.symm.trans HL2.out.1))), Below.refl _ _⟩
theorem rs_fls (q : Int) (fs gs : List Flw) : rsB q fs q gs = flsB fs gs := by simp [rsB, flsB]
theorem rs_quantum {q q2 : Int} {fs gs : List Flw} (h : q ≠ q2) : rsB q fs q2 gs = false := rs_no fun e => h e.1
set_option maxHeartbeats 1000000 in
theorem sameRI_any (q q2 : Int) (A A2 : Option Addr) (n c n2 c2 : Nat) (fs gs : List Flw) (w : World) (h : FR w A n fs) (h2 : FR w A2 n2 gs) :
    Calls Try.prog 124 #[.agg #[.int .i64 q, (.slice A n c)], .agg #[.int .i64 q2, (.slice A2 n2 c2)]] w fun e w' => e = .returned (.bool (rsB q fs q2 gs)) ∧ Below w.heap.size w w' := by
  have H := Lib.hid h
  have H2 := Lib.hid h2
  have F := Lib.hid (fm_two w 127 127 #[.int .i64 q, (.slice A n c)] #[.int .i64 q2, (.slice A2 n2 c2)])
  clear h h2
  by_cases hq : q = q2
  · subst hq
    rw [rs_fls]
    have hqq : (q == q) = true := by simp
    go_enter Try.func124, Try.ntmps124
    go_wp2_with (go_at_call 142; refine (eqF_any A A2 n c n2 c2 fs gs _ (fr_belowF H.out F.out.below) (fr_belowF H2.out F.out.below)).mono ?_; rintro e w3 ⟨rfl, hb3⟩; have F3 := Lib.hid (fm_below F.out hb3); clear hb3)
    go_ret
    exact ⟨rfl, F3.out.below⟩
  · have hqb : (q == q2) = false := by simp [hq]
    have HE := Lib.hid (rs_quantum (fs := fs) (gs := gs) hq)
    clear hq
    go_enter Try.func124, Try.ntmps124
    go_wp2
    go_ret
    exact ⟨ret_bool HE.out.symm, F.out.below⟩
end Go.Proofs.Ytiodhdcgfdlknaa
namespace Go.Proofs.Ytiodhdcgfdlknaa
open Go.RowKit
def RsRel (w : World) (q : Int) (A A2 : Option Addr) (c c2 : Nat) (fs gs : List Flw) (n : Nat) (i : Value) (wr : World) : Prop :=
  ∃ k : Nat, k ≤ n ∧ i = .int .i64 (k : Int) ∧ fs.take k = gs.take k ∧ Fm w [⟨w.heap.size, w.heap.size + 1, BoxP w.heap.size 127 #[.int .i64 q, (.slice A n c)]⟩, ⟨w.heap.size + 1, w.heap.size + 2, BoxP (w.heap.size + 1) 127 #[.int .i64 q, (.slice A2 n c2)]⟩] wr
set_option maxHeartbeats 4000000 in
theorem sameRS_any (q q2 : Int) (A A2 : Option Addr) (n c n2 c2 : Nat) (fs gs : List Flw) (w : World) (h : FR w A n fs) (h2 : FR w A2 n2 gs) :
    Calls Try.prog 122 #[.agg #[.int .i64 q, (.slice A n c)], .agg #[.int .i64 q2, (.slice A2 n2 c2)]] w fun e w' => e = .returned (.bool (rsB q fs q2 gs)) ∧ Below w.heap.size w w' := by
  have H := Lib.hid h
  have H2 := Lib.hid h2
  have HL := Lib.hid (fr_lenF h)
  have HL2 := Lib.hid (fr_lenF h2)
  have n4 : n ≤ 4000000000 := HL.out.2
  have n42 : n2 ≤ 4000000000 := HL2.out.2
  have F := Lib.hid (fm_two w 127 127 #[.int .i64 q, (.slice A n c)] #[.int .i64 q2, (.slice A2 n2 c2)])
  clear h h2
  by_cases hq : q = q2
  · by_cases hl : n = n2
    · subst hq hl
      rw [rs_fls]
      have hqq : (q != q) = false := by simp
      have hll : ((n : Int) != (n : Int)) = false := by simp
      have R0 : Hid (RsRel w q A A2 c c2 fs gs n (.int .i64 0) ((w.alloc (.cells #[.int .i64 q, (.slice A n c)] 127)).alloc (.cells #[.int .i64 q, (.slice A2 n c2)] 127))) := Lib.hid ⟨0, Nat.zero_le _, rfl, by simp, F.out⟩
      clear F
      go_enter Try.func122, Try.ntmps122
      go_wp2
      clear hqq hll
      go_loopw [5] (fun i wr => RsRel w q A A2 c c2 fs gs n i wr) (fun i _ => n - (intOf i).toNat)
      case atStart => exact R0.out
      case round =>
        obtain ⟨k, hk, rfl, ht, hF⟩ := hrel
        have HT := Lib.hid ht
        have HF0 := Lib.hid hF
        obtain ⟨g0, g1, -⟩ := blk_two (fm_blk hF 0 rfl)
        obtain ⟨k0, k1, -⟩ := blk_two (fm_blk hF 1 rfl)
        have zb1 := blk_lt (fm_blk hF 0 rfl)
        have zb2 := blk_lt (fm_blk hF 1 rfl)
        have hbl := hF.below
        clear R0 ht hF
        by_cases hlt : k < n
        · obtain ⟨b, off, f, A1, n1, c1, rfl, hb, hf, e0, e1', e2', hpr, hc1, hn1⟩ := fr_cells (fr_belowF H.out hbl) hlt
          obtain ⟨b2, off2, g, A3, n3, c3, rfl, hb2, hg, d0, d1', d2', hpr2, hc3, hn3⟩ := fr_cells (fr_belowF H2.out hbl) hlt
          have HF := Lib.hid hf
          have HG := Lib.hid hg
          have HP := Lib.hid hpr
          have HP2 := Lib.hid hpr2
          obtain ⟨x, d, ws⟩ := f
          obtain ⟨x2, d2, vs⟩ := g
          simp only at e0 e1' e2' d0 d1' d2'
          have FB : Hid (Fm w [⟨w.heap.size, w.heap.size + 1, BoxP w.heap.size 127 #[.int .i64 q, (.slice (some ⟨b, off, none⟩) n c)]⟩, ⟨w.heap.size + 1, w.heap.size + 2, BoxP (w.heap.size + 1) 127 #[.int .i64 q, (.slice (some ⟨b2, off2, none⟩) n c2)]⟩] ((wr.alloc (.cells #[.int .i64 x, .int .i64 d, (.slice A1 n1 c1)] 144)).alloc (.cells #[.int .i64 x2, .int .i64 d2, (.slice A3 n3 c3)] 144))) := Lib.hid (fm_alloc (fm_alloc HF0.out _) _)
          clear hf hg hbl hpr hpr2
          by_cases hx : x = x2
          · have hxb : (x != x2) = false := by simp [hx]
            by_cases hd : d = d2
            · have hdb : (d != d2) = false := by simp [hd]
              rcases hs : sameB ws vs with _ | _
              · have HE := Lib.hid (fls_no (takeF_ne HF.out HG.out fun e => by
                  have : ws = vs := congrArg Flw.ws e
                  rw [same_iff.2 this] at hs; cases hs))
                have HS := Lib.hid hs
                clear hs hx hd
                go_wp2_with (go_at_call 141; refine (sameS_any A1 A3 n1 c1 n3 c3 ws vs _ (pr_alloc (pr_alloc HP.out _) _) (pr_alloc (pr_alloc HP2.out _) _) (by omega) (by omega)).mono ?_; rintro e w3 ⟨rfl, hb3⟩; rw [HS.out]; have F3 := Lib.hid (fm_below FB.out hb3); clear hb3)
                go_ret
                exact ⟨ret_bool HE.out, F3.out.below⟩
              · have HX : Hid ((⟨x, d, ws⟩ : Flw) = ⟨x2, d2, vs⟩) := Lib.hid (by rw [hx, hd, same_iff.1 hs])
                have HS := Lib.hid hs
                clear hs hx hd
                go_wp2_with (go_at_call 141; refine (sameS_any A1 A3 n1 c1 n3 c3 ws vs _ (pr_alloc (pr_alloc HP.out _) _) (pr_alloc (pr_alloc HP2.out _) _) (by omega) (by omega)).mono ?_; rintro e w3 ⟨rfl, hb3⟩; rw [HS.out]; have F3 := Lib.hid (fm_below FB.out hb3); clear hb3)
                go_roundw
                case rel => exact ⟨k + 1, by omega, by go_num, takeF_step HT.out HF.out HG.out HX.out, F3.out⟩
                case measure => simp [intOf]; omega
            · have hdb : (d != d2) = true := by simp [hd]
              have HE := Lib.hid (fls_no (takeF_ne HF.out HG.out fun e => hd (congrArg Flw.dfc e)))
              clear hx hd
              go_wp2
              go_ret
              exact ⟨ret_bool HE.out, FB.out.below⟩
          · have hxb : (x != x2) = true := by simp [hx]
            have HE := Lib.hid (fls_no (takeF_ne HF.out HG.out fun e => hx (congrArg Flw.peer e)))
            clear hx
            go_wp2
            go_ret
            exact ⟨ret_bool HE.out, FB.out.below⟩
        · obtain rfl : k = n := by omega
          clear hbl
          go_wp2
          go_ret
          exact ⟨ret_bool (fls_yes (takeF_all HT.out (by have := HL.out.1; omega) (by have := HL2.out.1; omega))), HF0.out.below⟩
    · have hqb : (q != q2) = false := by simp [hq]
      have hlb : ((n : Int) != (n2 : Int)) = true := by simp; omega
      have HE : Hid (rsB q fs q2 gs = false) := Lib.hid (rs_no fun e => hl (by have := HL.out.1; have := HL2.out.1; rw [e.2] at *; omega))
      clear hq hl
      go_enter Try.func122, Try.ntmps122
      go_wp2
      go_ret
      exact ⟨ret_bool HE.out.symm, F.out.below⟩
  · have hqb : (q != q2) = true := by simp [hq]
    have HE := Lib.hid (rs_quantum (fs := fs) (gs := gs) hq)
    clear hq
    go_enter Try.func122, Try.ntmps122
    go_wp2
    go_ret
    exact ⟨ret_bool HE.out.symm, F.out.below⟩
end Go.Proofs.Ytiodhdcgfdlknaa
namespace Go.Proofs.Ytiodhdcgfdlknaa
open Go.RowKit
theorem infoFlw : (Try.prog.info? 144).map (fun i => (i.zero, i.size, i.bytes)) = some (some (.agg #[.int .i64 0, .int .i64 0, .slice none 0 0]), 3, 40) := by kernel_rfl
end Go.Proofs.Ytiodhdcgfdlknaa
namespace Go.Proofs.Ytiodhdcgfdlknaa
open Go.RowKit
end Go.Proofs.Ytiodhdcgfdlknaa
namespace Go.Proofs.Ytiodhdcgfdlknaa
open Go.RowKit
end Go.Proofs.Ytiodhdcgfdlknaa
namespace Go.Proofs.Ytiodhdcgfdlknaa
open Go.RowKit
end Go.Proofs.Ytiodhdcgfdlknaa
