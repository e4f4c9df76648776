/-
  Chapter 5: the draw of a robin: what it returns, whatever the bytes. Conditions: the source is as open leaves it, its counter is small.
-/
import Derived.Test.YtehokkijfgiggaaR9S
import Derived.Test.YtehokkijfgiggaaDrawList
import Derived.StillTailTactics
import Derived.Deep.RegionWith
namespace Go.Proofs.Ytehokkijfgiggaa
open Go.RowKit

def Sml (m : Nat) (fs : List Flw) : Prop := fs.length ≤ m ∧ ∀ f ∈ fs, f.ws.length ≤ m
/-- a drawn robin with at most m flows, each of at most m packets -/
def RDraw (w : World) (g q m : Nat) (e : Ending) (w' : World) : Prop :=
  ∃ x A n c fs, e = .returned (.agg #[.int .i64 x, (.slice A n c)]) ∧ Sml m fs ∧ FRX w' (fun b => w.heap.size ≤ b) A n fs ∧ w.grownBy w' (some g) ∧ RdAt w' g q
def RVN (q : Int) (fs : List Flw) : Prop := RV q fs ∨ fs = []
theorem rvn_sml {q : Int} {fs : List Flw} (h : RVN q fs) : Sml 64 fs := by
  rcases h with h | rfl
  · exact ⟨by have := rv_len h; omega, fun f hf => (ok_of (h.all f hf).ok).1⟩
  · exact ⟨by simp, fun f hf => by cases hf⟩
theorem frx_nil (w : World) (X : Nat → Prop) (A : Option Addr) : FRX w X A 0 [] := ⟨[], hr_nil _ _, fun h => absurd h (by omega), wl_nil, by omega⟩
structure RLD (w : World) (g Q L : Nat) (x : Int) (A : Option Addr) (m c : Nat) (fs : List Flw) (wr : World) : Prop where
  out : Blk wr w.heap.size 25 #[.int .i64 0, .slice none 0 0]
  l : Blk wr L 25 #[.int .i64 x, .slice A m c]
  fx : FRX wr (fun b => L < b) A m fs
  gr : w.grownBy wr (some g)
  rd : RdAt wr g Q
  hg : g < w.heap.size
  hL : w.heap.size < L
theorem rld_drew {w wr : World} {g Q L : Nat} {x : Int} {A : Option Addr} {m c : Nat} {fs : List Flw} (h : RLD w g Q L x A m c fs wr) : RLD w g Q L x A m c fs wr.drew :=
  ⟨h.out, h.l, frx_drew h.fx, ⟨h.gr.os, h.gr.tape, h.gr.output, h.gr.size, h.gr.block⟩, h.rd, h.hg, h.hL⟩
theorem rld_grown {w w1 w2 : World} {g Q Q2 L : Nat} {x : Int} {A : Option Addr} {m c : Nat} {fs : List Flw} (h : RLD w g Q L x A m c fs w1) (hg : w1.grownBy w2 (some g)) (hr : RdAt w2 g Q2) : RLD w g Q2 L x A m c fs w2 :=
  ⟨blk_grown h.out hg (by have := h.hg; omega), blk_grown h.l hg (by have := h.hg; have := h.hL; omega), frx_grown h.fx hg (fun b hb e => by injection e with e; have := h.hg; have := h.hL; omega), h.gr.trans hg, hr, h.hg, h.hL⟩
/-- a call that makes a robin of its own, then the store of it -/
theorem rld_next {w wr w2 : World} {g Q L : Nat} {x x2 : Int} {A A2 : Option Addr} {m c m2 c2 : Nat} {fs fs2 : List Flw}
    (h : RLD w g Q L x A m c fs wr) (hb : Below wr.heap.size wr w2) (hf : FRX w2 (fun b => wr.heap.size ≤ b) A2 m2 fs2) :
    RLD w g Q L x2 A2 m2 c2 fs2 ((w2.setCell ⟨L, 0, none⟩ (.int .i64 x2)).setCell ⟨L, 1, none⟩ (.slice A2 m2 c2)) := by
  have hlt := blk_lt h.l
  have hL := h.hL
  have hg := h.hg
  refine ⟨blk_far (blk_far (blk_below h.out hb (blk_lt h.out)) (by simp; omega) _) (by simp; omega) _, blk_set (blk_set (blk_below h.l hb hlt) 0 _) 1 _,
    frx_set (frx_set (frx_mono hf fun b hb => by omega) (by simp) _) (by simp) _, g_set (g_set (g_below h.gr hb) (.inr (by simp; omega)) _) (.inr (by simp; omega)) _,
    rd_set (rd_set (rd_below h.rd hb) (by simp; omega) _) (by simp; omega) _, hg, hL⟩
theorem rld_cells {w wr : World} {g Q L : Nat} {x : Int} {A : Option Addr} {m c : Nat} {fs : List Flw} (h : RLD w g Q L x A m c fs wr) : (wr.cell? ⟨L, 0, none⟩ = some (.int .i64 x) ∧ wr.cell? ⟨L, 1, none⟩ = some (.slice A m c)) ∧ wr.frozen? ⟨L, 0, none⟩ = false ∧ wr.frozen? ⟨L, 1, none⟩ = false := by
  obtain ⟨l0, l1, g0, g1⟩ := blk_two h.l
  exact ⟨⟨l0, l1⟩, g0, g1⟩
theorem lists_step {w1 w2 w3 w4 : World} {g q n : Nat} {v : Value} {ps : List Pkt} (hg : g < w1.heap.size) (h1 : w1.grownBy w2 (some g)) (ho : w2.ownsRow w1.heap.size 28 4 v n (pcells ps)) (h2 : w2.grownBy w3 (some g)) (hr : RdAt w3 g q) (h3 : w3.grownBy w4 v.ownBlock) :
    w1.grownBy w4 (some g) ∧ RdAt w4 g q := by
  rcases hv : v.ownBlock with _ | j
  · rw [hv] at h3
    exact ⟨g_none (h1.trans h2) h3, rd_below hr ⟨h3.os, h3.tape, h3.output, h3.size, fun i hi => h3.block i hi (by simp)⟩⟩
  · rw [hv] at h3
    have := (ho.lt j hv).1
    exact ⟨g_new (h1.trans h2) h3 this, rd_new hr h3 (by omega)⟩
/-- one call in both cases -/
def JnAny (w : World) (q : Int) (fs : List Flw) (e : Ending) (w' : World) : Prop :=
  ∃ x A n c fs' ok, e = .returned (.tuple #[.agg #[.int .i64 x, (.slice A n c)], .bool ok]) ∧ (RVN q fs → RVN x fs') ∧ FRX w' (fun b => w.heap.size ≤ b) A n fs' ∧ Below w.heap.size w w'
theorem jnS_any (q : Int) (A : Option Addr) (n c : Nat) (fs : List Flw) (p : Pkt) (w : World) (h : FR w A n fs) :
    Calls Try.prog 32 #[.agg #[.int .i64 q, (.slice A n c)], .agg #[.int .i64 p.peer, .int .i64 p.lane, .int .i64 p.size, .int .i64 p.id]] w (JnAny w q fs) := by
  by_cases hk : joinOk q fs p
  · refine (jnS_yes q A n c fs p w h hk).mono ?_
    rintro e w' ⟨A2, n2, c2, hs, rfl, hD, hb⟩
    have hc := do_cap hD
    have h9 := rv_len (rv_join hk)
    exact ⟨q, A2, n2, c2, _, true, rfl, fun _ => .inl (rv_join hk), frx_mono (do_frx hD (by omega)) (fun b hb => hb.1), hb⟩
  · refine (jnS_no q A n c fs p w h hk).mono ?_
    rintro e w' ⟨rfl, hb⟩
    exact ⟨0, none, 0, 0, [], false, rfl, fun _ => .inr rfl, frx_nil _ _ _, hb⟩
def RDRel (w : World) (g Q L : Nat) (Al : Option Addr) (nl cl : Nat) (ps : List Pkt) (i : Value) (wr : World) : Prop :=
  ∃ (k : Nat) (x : Int) (A : Option Addr) (m c : Nat) (fs : List Flw), k ≤ nl ∧ i = .int .i64 (k : Int) ∧ RVN x fs ∧ wr.ownsRow (L + 1) 28 4 (.slice Al nl cl) nl (pcells ps) ∧ RLD w g Q L x A m c fs wr
def RDRel2 (w : World) (g Q L : Nat) (i : Value) (wr : World) : Prop :=
  ∃ (k : Nat) (x : Int) (A : Option Addr) (m c : Nat) (fs : List Flw), k ≤ 9 ∧ i = .int .i64 (k : Int) ∧ RVN x fs ∧ RLD w g Q L x A m c fs wr
theorem q_in {x : Int} (h : x ∈ [50, 10, 100, 30, 500, 1]) : RV x [] := by
  simp only [List.mem_cons, List.not_mem_nil, or_false] at h
  exact ⟨by omega, by omega, fun f hf => by (cases hf), List.Pairwise.nil⟩
set_option maxHeartbeats 4000000 in
theorem l5Draw_any (g q : Nat) (w : World) (h : RdAt w g q) (hq : q ≤ 600000) :
    Calls Try.prog 62 #[.pointer (some ⟨g, 0, none⟩)] w (RDraw w g (q + 90) 64) := by
  have hg := rd_lt h
  go_enter Try.func62, Try.ntmps62
  go_wp2_with fail
  refine (num_lit g q _ 6 _ _ [50, 10, 100, 30, 500, 1] _ (rd_alloc h _) (by omega) (by simp) (by decide) rfl).mono ?_
  rintro e w1 ⟨x0, hx, rfl, hg1, hr1⟩
  have HL := Lib.hid (q_in hx)
  have hz1 := hg1.size
  have G1 := Lib.hid ((g_alloc (g_refl w (some g)) (.cells #[.int .i64 0, (.slice none 0 0)] 25)).trans hg1)
  have O1 := Lib.hid (blk_grown (blk_new w 25 #[.int .i64 0, (.slice none 0 0)]) hg1 (by omega))
  have HR1 := Lib.hid hr1
  clear hx hg1 h hr1
  simp at hz1
  have L1 : Hid (RLD w g (q + 1) (w1.heap.size + 1) x0 (some ⟨w1.heap.size, 0, none⟩) 0 0 [] ((w1.alloc (.cells #[] 40)).alloc (.cells #[.int .i64 x0, (.slice (some ⟨w1.heap.size, 0, none⟩) 0 0)] 25))) := Lib.hid
    ⟨blk_alloc (blk_alloc O1.out _) _, blk_new2 w1 _ _ _, frx_nil _ _ _, g_alloc (g_alloc G1.out _) _, rd_alloc (rd_alloc HR1.out _) _, hg, by omega⟩
  clear G1 O1 HR1
  go_wp2_with fail
  refine (l1List_any g _ _ L1.out.rd (by omega)).mono ?_
  rintro e w2 ⟨v, nl1, ps1, rfl, hn1, -, ho1, hgr1, hr2⟩
  obtain ⟨A1, c1, rfl, -, -, -⟩ := own_form ho1
  have HO1 := Lib.hid ho1
  have HG1 := Lib.hid hgr1
  have HR2 := Lib.hid hr2
  have hz2 := hgr1.size
  simp at hz2
  clear ho1 hgr1 hr2
  go_wp2_with fail
  refine (l1List_any g _ _ HR2.out (by omega)).mono ?_
  rintro e w3 ⟨v, nl2, ps2, rfl, hn2, -, ho2, hgr2, hr3⟩
  obtain ⟨A2, c2, rfl, -, -, -⟩ := own_form ho2
  have hz3 := hgr2.size
  have hk1 := HO1.out.kept hgr2 (own_block_none HO1.out (by simp; omega))
  go_wp2_with (at_builtin; refine wpl_app_pkts _ rfl (.tmp 13) (.tmp 15) rfl _ (.slice A1 nl1 c1) nl1 ps1 rfl hk1 A2 nl2 c2 ps2 rfl (pr_own ho2) (by omega) (by simp; omega) ?_; intro v4 w4 ho4 hg4 hat4; obtain ⟨Al, cl, rfl, -, -, -⟩ := own_form ho4; have HS := Lib.hid (lists_step (by simp; omega) HG1.out HO1.out hgr2 hr3 hg4); have HO4 := Lib.hid ho4; clear hg4 hat4 ho4)
  have hnl : nl1 + nl2 ≤ 18 := by omega
  generalize nl1 + nl2 = nl at HO4 hnl ⊢
  have R0 : Hid (RDRel w g (q + 1 + 40 + 40) (w1.heap.size + 1) Al nl cl (ps1 ++ ps2) (.int .i64 0) w4) := Lib.hid
    ⟨0, _, _, _, _, _, Nat.zero_le _, rfl, .inl HL.out, by simpa using HO4.out, rld_grown L1.out HS.out.1 HS.out.2⟩
  clear L1 HS HO4 HO1 HG1 HR2 hk1 hgr2 hr3 ho2 HL
  go_wp2_with fail
  go_loopw [5] (fun i wr => RDRel w g (q + 1 + 40 + 40) (w1.heap.size + 1) Al nl cl (ps1 ++ ps2) i wr) (fun i _ => nl - (intOf i).toNat)
  case atStart => exact R0.out
  case round =>
    obtain ⟨k, x, A, m, c, cur, hk, rfl, hcur, hlst, hD⟩ := hrel
    clear R0
    have HD := Lib.hid hD
    have HC := Lib.hid hcur
    have HLs := Lib.hid hlst
    by_cases hlt : k < nl
    · obtain ⟨b, off, p, rfl, hb, hp, d0, d1, d2, d3⟩ := pr_at (pr_own hlst) hlt
      obtain ⟨⟨l0, l1⟩, g0, g1⟩ := rld_cells hD
      have k0 : (0 : Int) ≤ (k : Int) := by omega
      have k1 : (k : Int) < (nl : Int) := by omega
      clear hD hcur hp hlst
      go_wp2_with fail
      have HDd := Lib.hid (rld_drew HD.out)
      have HLd := Lib.hid (World.ownsRow.drew HLs.out)
      go_region_with (go_at_call 32; refine (jnS_any x A m c cur p _ (frx_fr HDd.out.fx)).mono ?_; rintro e w5 ⟨x5, A5, m5, c5, fs5, ok5, rfl, hv5, hf5, hb5⟩; have HN := Lib.hid (rld_next (c2 := c5) (x2 := x5) HDd.out hb5 hf5); have HV := Lib.hid hv5; have HB := Lib.hid (own_below HLd.out hb5); obtain ⟨n0, n1, h0, h1⟩ := blk_two (blk_below HDd.out.l hb5 (blk_lt HDd.out.l)); clear hb5 hf5 hv5)
      all_goals
        clear d0 d1 d2 d3
        go_wp2
        go_roundw
        case rel => exact ⟨k + 1, _, _, _, _, _, by omega, by go_num, HV.out HC.out, own_set_far (own_set_far HB.out (by simp) _) (by simp) _, HN.out⟩
        case measure => simp [intOf]; omega
    · obtain rfl : k = nl := by omega
      clear hcur hlst hD hk hlt
      go_wp2_with fail
      refine (pick_any g _ _ _ HD.out.rd (by omega) (by omega)).mono ?_
      rintro e w6 ⟨j, rfl, hj, hg6, hr6⟩
      have R2 : Hid (RDRel2 w g (q + 1 + 40 + 40 + 1) (w1.heap.size + 1) (.int .i64 (j : Int)) w6) := Lib.hid ⟨j, _, _, _, _, _, by omega, rfl, HC.out, rld_grown HD.out hg6 hr6⟩
      clear HC HD HLs hg6 hr6 hj
      go_wp2_with fail
      go_loopw [6] (fun i wr => RDRel2 w g (q + 1 + 40 + 40 + 1) (w1.heap.size + 1) i wr) (fun i _ => (intOf i).toNat)
      case atStart => exact R2.out
      case round =>
        obtain ⟨k, x, A, m, c, cur, hk9, rfl, hcur, hD⟩ := hrel
        clear R2
        have HD := Lib.hid hD
        have HC := Lib.hid hcur
        obtain ⟨⟨l0, l1⟩, g0, g1⟩ := rld_cells hD
        obtain ⟨o0, o1, f0, f1⟩ := blk_two hD.out
        have hlen := (fr_lenF (frx_fr hD.fx)).1
        clear hD
        by_cases hgo : 0 < k ∧ 0 < m
        · obtain ⟨hk0, hm0⟩ := hgo
          have hne : cur ≠ [] := fun e => by rw [e] at hlen; simp at hlen; omega
          have hrv := Lib.hid (hcur.resolve_right hne)
          clear hcur
          have kk : decide ((k : Int) > 0) = true := decide_eq_true (by omega)
          have mm : decide ((m : Int) > 0) = true := decide_eq_true (by omega)
          go_wp2_with (go_at_call 52; refine (nextS_any x A m c cur _ (frx_fr HD.out.fx) hrv.out hne).mono ?_; rintro e w7 ⟨A7, m7, c7, rfl, hf7, hb7⟩; have HN := Lib.hid (rld_next (c2 := c7) (x2 := x) HD.out hb7 (frx_mono hf7 fun b hb => hb.resolve_left id)); obtain ⟨n0, n1, h0, h1⟩ := blk_two (blk_below HD.out.l hb7 (blk_lt HD.out.l)); clear hb7 hf7 l0 l1 g0 g1 o0 o1 f0 f1)
          go_roundw
          case rel =>
            obtain ⟨f9, r9, p9, ws9, N9⟩ := nexted_is hrv.out hne
            exact ⟨k - 1, _, _, _, _, _, by omega, by rw [Int.ofNat_sub (by omega)]; rfl, .inl N9.rv, HN.out⟩
          case measure => simp [intOf]; omega
        · have kk : (decide ((k : Int) > 0) && decide ((m : Int) > 0)) = false := by simp; omega
          clear hcur
          rcases Nat.eq_zero_or_pos k with rfl | hk0
          · go_wp2
            refine bodyPost_ret (v := .agg #[.int .i64 x, (.slice A m c)]) (by simp [results, Try.results62, go_sem, o0, o1]) rfl ⟨x, A, m, c, cur, rfl, rvn_sml HC.out, ?_, ?_, ?_⟩
            · exact frx_mono (frx_set (frx_set HD.out.fx (by simp; omega) _) (by simp; omega) _) fun b hb => by omega
            · exact g_set (g_set HD.out.gr (.inr (by simp)) _) (.inr (by simp)) _
            · exact rd_more (rd_set (rd_set HD.out.rd (by simp; omega) _) (by simp; omega) _) (by omega)
          · obtain rfl : m = 0 := by omega
            have k2 : decide ((k : Int) > 0) = true := decide_eq_true (by omega)
            go_wp2
            refine bodyPost_ret (v := .agg #[.int .i64 x, (.slice A 0 c)]) (by simp [results, Try.results62, go_sem, o0, o1]) rfl ⟨x, A, 0, c, cur, rfl, rvn_sml HC.out, ?_, ?_, ?_⟩
            · exact frx_mono (frx_set (frx_set HD.out.fx (by simp; omega) _) (by simp; omega) _) fun b hb => by omega
            · exact g_set (g_set HD.out.gr (.inr (by simp)) _) (.inr (by simp)) _
            · exact rd_more (rd_set (rd_set HD.out.rd (by simp; omega) _) (by simp; omega) _) (by omega)
end Go.Proofs.Ytehokkijfgiggaa
