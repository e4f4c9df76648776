/-
  Chapter 5: equality of robins: what the model's function returns. Conditions: a flow has at most 4000000000 packets.
-/
import Derived.Test.YtehokkijfgiggaaR3
namespace Go.Proofs.Ytehokkijfgiggaa
open Go.RowKit

def RsRel (w : World) (q : Int) (A A2 : Option Addr) (c c2 : Nat) (fs gs : List Flw) (n : Nat) (i : Value) (wr : World) : Prop :=
  ∃ k : Nat, k ≤ n ∧ i = .int .i64 (k : Int) ∧ fs.take k = gs.take k ∧ Fm w [⟨w.heap.size, w.heap.size + 1, BoxP w.heap.size 25 #[.int .i64 q, (.slice A n c)]⟩, ⟨w.heap.size + 1, w.heap.size + 2, BoxP (w.heap.size + 1) 25 #[.int .i64 q, (.slice A2 n c2)]⟩] wr
set_option maxHeartbeats 4000000 in
theorem sameRS_any (q q2 : Int) (A A2 : Option Addr) (n c n2 c2 : Nat) (fs gs : List Flw) (w : World) (h : FR w A n fs) (h2 : FR w A2 n2 gs) :
    Calls Try.prog 39 #[.agg #[.int .i64 q, (.slice A n c)], .agg #[.int .i64 q2, (.slice A2 n2 c2)]] w fun e w' => e = .returned (.bool (rsB q fs q2 gs)) ∧ Below w.heap.size w w' := by
  have H := Lib.hid h
  have H2 := Lib.hid h2
  have HL := Lib.hid (fr_lenF h)
  have HL2 := Lib.hid (fr_lenF h2)
  have n4 : n ≤ 4000000000 := HL.out.2
  have n42 : n2 ≤ 4000000000 := HL2.out.2
  have F := Lib.hid (fm_two w 25 25 #[.int .i64 q, (.slice A n c)] #[.int .i64 q2, (.slice A2 n2 c2)])
  clear h h2
  by_cases hq : q = q2
  · by_cases hl : n = n2
    · subst hq hl
      rw [rs_fls]
      have hqq : (q != q) = false := by simp
      have hll : ((n : Int) != (n : Int)) = false := by simp
      have R0 : Hid (RsRel w q A A2 c c2 fs gs n (.int .i64 0) ((w.alloc (.cells #[.int .i64 q, (.slice A n c)] 25)).alloc (.cells #[.int .i64 q, (.slice A2 n c2)] 25))) := Lib.hid ⟨0, Nat.zero_le _, rfl, by simp, F.out⟩
      clear F
      go_enter Try.func39, Try.ntmps39
      go_wp2
      clear hqq hll
      go_loopw [5] (fun i wr => RsRel w q A A2 c c2 fs gs n i wr) (fun i _ => n - (intOf i).toNat)
      case atStart => exact R0.out
      case round =>
        obtain ⟨k, hk, rfl, ht, hF⟩ := hrel
        have HT := Lib.hid ht
        have HF0 := Lib.hid hF
        obtain ⟨g0, g1, -⟩ := blk_two (fm_blk hF 0 rfl)
        obtain ⟨k0, k1, -⟩ := blk_two (fm_blk hF 1 rfl)
        have zb1 := blk_lt (fm_blk hF 0 rfl)
        have zb2 := blk_lt (fm_blk hF 1 rfl)
        have hbl := hF.below
        clear R0 ht hF
        by_cases hlt : k < n
        · obtain ⟨b, off, f, A1, n1, c1, rfl, hb, hf, e0, e1', e2', hpr, hc1, hn1⟩ := fr_cells (fr_belowF H.out hbl) hlt
          obtain ⟨b2, off2, g, A3, n3, c3, rfl, hb2, hg, d0, d1', d2', hpr2, hc3, hn3⟩ := fr_cells (fr_belowF H2.out hbl) hlt
          have HF := Lib.hid hf
          have HG := Lib.hid hg
          have HP := Lib.hid hpr
          have HP2 := Lib.hid hpr2
          obtain ⟨x, d, ws⟩ := f
          obtain ⟨x2, d2, vs⟩ := g
          simp only at e0 e1' e2' d0 d1' d2'
          have FB : Hid (Fm w [⟨w.heap.size, w.heap.size + 1, BoxP w.heap.size 25 #[.int .i64 q, (.slice (some ⟨b, off, none⟩) n c)]⟩, ⟨w.heap.size + 1, w.heap.size + 2, BoxP (w.heap.size + 1) 25 #[.int .i64 q, (.slice (some ⟨b2, off2, none⟩) n c2)]⟩] ((wr.alloc (.cells #[.int .i64 x, .int .i64 d, (.slice A1 n1 c1)] 40)).alloc (.cells #[.int .i64 x2, .int .i64 d2, (.slice A3 n3 c3)] 40))) := Lib.hid (fm_alloc (fm_alloc HF0.out _) _)
          clear hf hg hbl hpr hpr2
          by_cases hx : x = x2
          · have hxb : (x != x2) = false := by simp [hx]
            by_cases hd : d = d2
            · have hdb : (d != d2) = false := by simp [hd]
              rcases hs : sameB ws vs with _ | _
              · have HE := Lib.hid (fls_no (takeF_ne HF.out HG.out fun e => by
                  have : ws = vs := congrArg Flw.ws e
                  rw [same_iff.2 this] at hs; cases hs))
                have HS := Lib.hid hs
                clear hs hx hd
                go_wp2_with (go_at_call 73; refine (sameS_any A1 A3 n1 c1 n3 c3 ws vs _ (pr_alloc (pr_alloc HP.out _) _) (pr_alloc (pr_alloc HP2.out _) _) (by omega) (by omega)).mono ?_; rintro e w3 ⟨rfl, hb3⟩; rw [HS.out]; have F3 := Lib.hid (fm_below FB.out hb3); clear hb3)
                go_ret
                exact ⟨ret_bool HE.out, F3.out.below⟩
              · have HX : Hid ((⟨x, d, ws⟩ : Flw) = ⟨x2, d2, vs⟩) := Lib.hid (by rw [hx, hd, same_iff.1 hs])
                have HS := Lib.hid hs
                clear hs hx hd
                go_wp2_with (go_at_call 73; refine (sameS_any A1 A3 n1 c1 n3 c3 ws vs _ (pr_alloc (pr_alloc HP.out _) _) (pr_alloc (pr_alloc HP2.out _) _) (by omega) (by omega)).mono ?_; rintro e w3 ⟨rfl, hb3⟩; rw [HS.out]; have F3 := Lib.hid (fm_below FB.out hb3); clear hb3)
                go_roundw
                case rel => exact ⟨k + 1, by omega, by go_num, takeF_step HT.out HF.out HG.out HX.out, F3.out⟩
                case measure => simp [intOf]; omega
            · have hdb : (d != d2) = true := by simp [hd]
              have HE := Lib.hid (fls_no (takeF_ne HF.out HG.out fun e => hd (congrArg Flw.dfc e)))
              clear hx hd
              go_wp2
              go_ret
              exact ⟨ret_bool HE.out, FB.out.below⟩
          · have hxb : (x != x2) = true := by simp [hx]
            have HE := Lib.hid (fls_no (takeF_ne HF.out HG.out fun e => hx (congrArg Flw.peer e)))
            clear hx
            go_wp2
            go_ret
            exact ⟨ret_bool HE.out, FB.out.below⟩
        · obtain rfl : k = n := by omega
          clear hbl
          go_wp2
          go_ret
          exact ⟨ret_bool (fls_yes (takeF_all HT.out (by have := HL.out.1; omega) (by have := HL2.out.1; omega))), HF0.out.below⟩
    · have hqb : (q != q2) = false := by simp [hq]
      have hlb : ((n : Int) != (n2 : Int)) = true := by simp; omega
      have HE : Hid (rsB q fs q2 gs = false) := Lib.hid (rs_no fun e => hl (by have := HL.out.1; have := HL2.out.1; rw [e.2] at *; omega))
      clear hq hl
      go_enter Try.func39, Try.ntmps39
      go_wp2
      go_ret
      exact ⟨ret_bool HE.out.symm, F.out.below⟩
  · have hqb : (q != q2) = true := by simp [hq]
    have HE := Lib.hid (rs_quantum (fs := fs) (gs := gs) hq)
    clear hq
    go_enter Try.func39, Try.ntmps39
    go_wp2
    go_ret
    exact ⟨ret_bool HE.out.symm, F.out.below⟩
end Go.Proofs.Ytehokkijfgiggaa
