/-
  Chapter 8: new guards: what the model's function returns. Conditions: at most 4000000000 weights.
  Conditions: each lemma says them.
-/
import Derived.Test.YtiodhdcgfdlknaaKbpZ4
import Derived.Test.YtiodhdcgfdlknaaKb6Z4
namespace Go.Proofs.Ytiodhdcgfdlknaa
open Go.RowKit
theorem rp_snoc (k : Nat) (p : Pkt) : rp k p ++ [p] = rp (k + 1) p := (rp_add k 1 p).symm
theorem own_at1 {w : World} {base size n c : Nat} {e : TypeId} {A : Option Addr} {xs : List Value} (h : w.ownsRow base e size (.slice A n c) n xs) (hn : 0 < n) : ∃ b, base ≤ b ∧ b < w.heap.size ∧ Value.ownBlock (.slice A n c) = some b ∧ At b (b + 1) (OwnP b (b + 1) e size (.slice A n c) n xs) w := by
  rcases h.2 with ⟨_, h0⟩ | ⟨g, cap, cur, hv, hb, hg, rest⟩
  · omega
  · have hlt := blk_lt hg
    have hk : Value.ownBlock (.slice A n c) = some g := by rw [hv]; rfl
    exact ⟨g, hb, hlt, hk, at_own ⟨h.1, .inr ⟨g, cap, cur, hv, Nat.le_refl _, hg, rest⟩⟩ hlt fun k e => by rw [hk] at e; have := Option.some.inj e; omega⟩
structure NGS (w w1 : World) (s : St) (t : Int) (A : Option Addr) (n c : Nat) (E S : Option Addr) (k ce cs : Nat) (wr : World) : Prop where
  f : Fm w [⟨w.heap.size, w.heap.size + 1, BoxP w.heap.size 27 (stc s A n c)⟩, ⟨w.heap.size + 1, w.heap.size + 2, BoxP (w.heap.size + 1) 41 (gcs gd0 gh0)⟩, ⟨w1.heap.size, w1.heap.size + 1, BoxP w1.heap.size 41 (gcs ⟨t, ⟨s.r, s.b, s.b, t⟩, [], 0, 0, [], ⟨[], [], []⟩, []⟩ ⟨E, k, ce, none, 0, 0, none, 0, 0, none, 0, 0, none, 0, 0, S, k, cs⟩)⟩] wr
  e : wr.ownsRow (w1.heap.size + 1) 32 4 (.slice E k ce) k (pcells (rp k ⟨s.pr, s.pb, s.pb, t⟩))
  s' : wr.ownsRow (w1.heap.size + 1) 84 4 (.slice S k cs) k (pcells (rp k ⟨0, t, 0, 0⟩))
  ap : ∀ b, Value.ownBlock (.slice E k ce) = some b → Value.ownBlock (.slice S k cs) ≠ some b
def NgRel (w w1 : World) (s : St) (t : Int) (A : Option Addr) (n c : Nat) (i : Value) (wr : World) : Prop := ∃ (k : Nat) (E S : Option Addr) (ce cs : Nat), k ≤ 8 ∧ i = .int .i64 (k : Int) ∧ NGS w w1 s t A n c E S k ce cs wr
set_option maxRecDepth 100000 in
set_option maxHeartbeats 8000000 in
theorem ngS_any (s : St) (t : Int) (A : Option Addr) (n c : Nat) (w : World) (h : NR w A n s.ws) (hn : n ≤ 4000000000) :
    Calls Try.prog 17 #[.agg (stc s A n c), .int .i64 t] w (GPost w (ngR s t) (ngB s t)) := by
  have H := Lib.hid h
  have F0 : Hid (Fm w [⟨w.heap.size, w.heap.size + 1, BoxP w.heap.size 27 (stc s A n c)⟩, ⟨w.heap.size + 1, w.heap.size + 2, BoxP (w.heap.size + 1) 41 (gcs gd0 gh0)⟩] ((w.alloc (.cells (stc s A n c) 27)).alloc (.cells (gcs gd0 gh0) 41))) := Lib.hid (fm_two w _ _ _ _)
  obtain ⟨G0, hG0⟩ : ∃ G, ngR s t = G := ⟨_, rfl⟩
  obtain ⟨b0, hb0⟩ : ∃ b, ngB s t = b := ⟨_, rfl⟩
  rw [hG0, hb0]
  have KG := Lib.hid (show ngR s t = G0 ∧ ngB s t = b0 from ⟨hG0, hb0⟩)
  clear h hG0 hb0
  unfold stc
  go_enter Try.func17, Try.ntmps17
  go_wp2_with fail
  refine (svS_any s A n c _ (nr_below H.out F0.out.below) hn).mono ?_
  rintro e w1 ⟨rfl, hb⟩
  have F1 := Lib.hid (fm_below F0.out hb)
  clear hb F0
  have zw := (fm_lt F1.out 1 rfl).2.2
  have zw0 : w.heap.size + 2 ≤ w1.heap.size := zw
  have zw1 : w.heap.size < w1.heap.size := by omega
  have zw2 : w.heap.size + 1 < w1.heap.size := by omega
  clear zw
  rcases hv : svB s with _ | _
  · have EB := Lib.hid (show G0 = gd0 ∧ b0 = false from ng_no KG.out (fun k => by rw [← ng_split, ngB, hv] at k; cases k))
    obtain ⟨r0, r1, r2, r3, r4, r5, r6, r7, r8, r9, r10, r11, r12⟩ := gc_blk (fm_blk F1.out 1 rfl)
    have rf0 : World.frozen? (w1) ⟨w.heap.size + 1, 0, none⟩ = false := blk_free (fm_blk F1.out 1 rfl) 0
    have rf1 : World.frozen? (w1) ⟨w.heap.size + 1, 1, none⟩ = false := blk_free (fm_blk F1.out 1 rfl) 1
    have rf2 : World.frozen? (w1) ⟨w.heap.size + 1, 2, none⟩ = false := blk_free (fm_blk F1.out 1 rfl) 2
    have rf3 : World.frozen? (w1) ⟨w.heap.size + 1, 3, none⟩ = false := blk_free (fm_blk F1.out 1 rfl) 3
    have rf4 : World.frozen? (w1) ⟨w.heap.size + 1, 4, none⟩ = false := blk_free (fm_blk F1.out 1 rfl) 4
    have rf5 : World.frozen? (w1) ⟨w.heap.size + 1, 5, none⟩ = false := blk_free (fm_blk F1.out 1 rfl) 5
    have rf6 : World.frozen? (w1) ⟨w.heap.size + 1, 6, none⟩ = false := blk_free (fm_blk F1.out 1 rfl) 6
    have rf7 : World.frozen? (w1) ⟨w.heap.size + 1, 7, none⟩ = false := blk_free (fm_blk F1.out 1 rfl) 7
    have rf8 : World.frozen? (w1) ⟨w.heap.size + 1, 8, none⟩ = false := blk_free (fm_blk F1.out 1 rfl) 8
    have rf9 : World.frozen? (w1) ⟨w.heap.size + 1, 9, none⟩ = false := blk_free (fm_blk F1.out 1 rfl) 9
    have rf10 : World.frozen? (w1) ⟨w.heap.size + 1, 10, none⟩ = false := blk_free (fm_blk F1.out 1 rfl) 10
    have rf11 : World.frozen? (w1) ⟨w.heap.size + 1, 11, none⟩ = false := blk_free (fm_blk F1.out 1 rfl) 11
    have rf12 : World.frozen? (w1) ⟨w.heap.size + 1, 12, none⟩ = false := blk_free (fm_blk F1.out 1 rfl) 12
    clear hv
    go_wp2
    refine bodyPost_ret (v := .tuple #[.agg (gcs gd0 gh0), .bool false]) (by simp [results, Try.results17, go_sem, gcs, gd0, gh0, r0, r1, r2, r3, r4, r5, r6, r7, r8, r9, r10, r11, r12]) rfl ⟨gh0, gi0 w.heap.size, by rw [EB.out.2, EB.out.1], ?_, ?_⟩
    · rw [EB.out.1]
      refine go_mono (go_zero _ ?_) (Nat.le_refl _) ?_ <;> (simp; omega)
    · repeat refine Below.setCell ?_ (by simp <;> omega) _
      exact F1.out.below
  rcases hT : inB t 0 1000000 with _ | _
  · have EB := Lib.hid (show G0 = gd0 ∧ b0 = false from ng_no KG.out (fun k => by rw [← ng_split, ngB, hT, Bool.and_false] at k; cases k))
    obtain ⟨r0, r1, r2, r3, r4, r5, r6, r7, r8, r9, r10, r11, r12⟩ := gc_blk (fm_blk F1.out 1 rfl)
    have rf0 : World.frozen? (w1) ⟨w.heap.size + 1, 0, none⟩ = false := blk_free (fm_blk F1.out 1 rfl) 0
    have rf1 : World.frozen? (w1) ⟨w.heap.size + 1, 1, none⟩ = false := blk_free (fm_blk F1.out 1 rfl) 1
    have rf2 : World.frozen? (w1) ⟨w.heap.size + 1, 2, none⟩ = false := blk_free (fm_blk F1.out 1 rfl) 2
    have rf3 : World.frozen? (w1) ⟨w.heap.size + 1, 3, none⟩ = false := blk_free (fm_blk F1.out 1 rfl) 3
    have rf4 : World.frozen? (w1) ⟨w.heap.size + 1, 4, none⟩ = false := blk_free (fm_blk F1.out 1 rfl) 4
    have rf5 : World.frozen? (w1) ⟨w.heap.size + 1, 5, none⟩ = false := blk_free (fm_blk F1.out 1 rfl) 5
    have rf6 : World.frozen? (w1) ⟨w.heap.size + 1, 6, none⟩ = false := blk_free (fm_blk F1.out 1 rfl) 6
    have rf7 : World.frozen? (w1) ⟨w.heap.size + 1, 7, none⟩ = false := blk_free (fm_blk F1.out 1 rfl) 7
    have rf8 : World.frozen? (w1) ⟨w.heap.size + 1, 8, none⟩ = false := blk_free (fm_blk F1.out 1 rfl) 8
    have rf9 : World.frozen? (w1) ⟨w.heap.size + 1, 9, none⟩ = false := blk_free (fm_blk F1.out 1 rfl) 9
    have rf10 : World.frozen? (w1) ⟨w.heap.size + 1, 10, none⟩ = false := blk_free (fm_blk F1.out 1 rfl) 10
    have rf11 : World.frozen? (w1) ⟨w.heap.size + 1, 11, none⟩ = false := blk_free (fm_blk F1.out 1 rfl) 11
    have rf12 : World.frozen? (w1) ⟨w.heap.size + 1, 12, none⟩ = false := blk_free (fm_blk F1.out 1 rfl) 12
    clear hv
    go_wp2_with (go_at_call 44; refine (scTimeS_any _ _).mono ?_; rintro e w' ⟨rfl, rfl⟩; rw [hT])
    refine bodyPost_ret (v := .tuple #[.agg (gcs gd0 gh0), .bool false]) (by simp [results, Try.results17, go_sem, gcs, gd0, gh0, r0, r1, r2, r3, r4, r5, r6, r7, r8, r9, r10, r11, r12]) rfl ⟨gh0, gi0 w.heap.size, by rw [EB.out.2, EB.out.1], ?_, ?_⟩
    · rw [EB.out.1]
      refine go_mono (go_zero _ ?_) (Nat.le_refl _) ?_ <;> (simp; omega)
    · repeat refine Below.setCell ?_ (by simp <;> omega) _
      exact F1.out.below
  have KS := Lib.hid (ng_split.1 (show ngB s t = true by rw [ngB, hv, hT]; rfl))
  have EB := Lib.hid (show G0 = newG s t ∧ b0 = true from ng_yes KG.out KS.out)
  clear hv KG
  obtain ⟨q0, q1, q2, q3, q4, q5, q6, q7⟩ := sc_blk (fm_blk F1.out 0 rfl)
  have R0 : Hid (NgRel w w1 s t A n c (.int .i64 0) (w1.alloc (.cells #[.int .i64 t, .int .i64 s.r, .int .i64 s.b, .int .i64 s.b, .int .i64 t, .slice none 0 0, .int .i64 0, .int .i64 0, .slice none 0 0, .slice none 0 0, .slice none 0 0, .slice none 0 0, .slice none 0 0] 41))) := Lib.hid ⟨0, none, none, 0, 0, Nat.zero_le _, rfl, fm_push F1.out rfl _ _, World.ownsRow_nil _ _ _ _, World.ownsRow_nil _ _ _ _, fun b e => by cases e⟩
  go_wp2_with (go_at_call 44; refine (scTimeS_any _ _).mono ?_; rintro e w' ⟨rfl, rfl⟩; rw [hT])
  clear q0 q1 q2 q3 q4 q5 q6 q7 hT
  go_loopw [7] (fun i wr => NgRel w w1 s t A n c i wr) (fun i _ => 8 - (intOf i).toNat)
  case atStart => exact R0.out
  case round =>
    obtain ⟨k, E, S, ce, cs, hk, rfl, hN⟩ := hrel
    have HN := Lib.hid hN
    clear R0 hN
    obtain ⟨q0, q1, q2, q3, q4, q5, q6, q7⟩ := sc_blk (fm_blk HN.out.f 0 rfl)
    have zs := (fm_lt HN.out.f 2 rfl).2.2
    have zg : w1.heap.size < wr.heap.size := zs
    have zw : w.heap.size < wr.heap.size := by omega
    clear zs
    obtain ⟨x0, x1, x2, x3, x4, x5, x6, x7, x8, x9, x10, x11, x12⟩ := gc_blk (fm_blk HN.out.f 2 rfl)
    have xf5 : World.frozen? (wr) ⟨w1.heap.size, 5, none⟩ = false := blk_free (fm_blk HN.out.f 2 rfl) 5
    have xf12 : World.frozen? (wr) ⟨w1.heap.size, 12, none⟩ = false := blk_free (fm_blk HN.out.f 2 rfl) 12
    by_cases hlt : k < 8
    · have k0 : (0 : Int) ≤ (k : Int) := by omega
      have k1 : (k : Int) < 8 := by omega
      go_wp2_with (first
        | (at_builtin
           refine wpl_app_pktsB _ rfl (.tmp 35) (.tmp 44) rfl (w1.heap.size + 1) (.slice E k ce) k (rp k ⟨s.pr, s.pb, s.pb, t⟩) rfl (HN.out.e.alloc _) (some ⟨wr.heap.size, 0, none⟩) 1 1 [⟨s.pr, s.pb, s.pb, t⟩] rfl (pr_single (blk_new _ _ _)) (by omega) (by simp; omega) ?_
           intro v5 w5 ho5 hg5 hat5
           rw [rp_snoc] at ho5
           obtain ⟨E5, ce5, rfl, -, -, -⟩ := own_form ho5
           have HF5 := Lib.hid (fm_grownO (fm_alloc HN.out.f (.cells #[.int .i64 s.pr, .int .i64 s.pb, .int .i64 s.pb, .int .i64 t] 32)) hg5 (fun b e => by have := (HN.out.e.lt b e).1; refine ⟨by omega, fun y hy => ?_⟩; simp only [List.mem_cons, List.not_mem_nil, or_false] at hy; rcases hy with rfl | rfl | rfl <;> (simp only; omega)))
           have HE5 := Lib.hid ho5
           have HS5 := Lib.hid (own_kept6 (HN.out.s'.alloc (.cells #[.int .i64 s.pr, .int .i64 s.pb, .int .i64 s.pb, .int .i64 t] 32)) hg5 (fun b e e2 => HN.out.ap b e e2))
           have HA5 := Lib.hid (show ∀ b, Value.ownBlock (.slice E5 (k + 1) ce5) = some b → Value.ownBlock (.slice S k cs) ≠ some b from fun b e e2 => by
             rcases hat5 with h1 | h1
             · exact HN.out.ap b (h1.symm.trans e) e2
             · have h2 := Option.some.inj (h1.symm.trans e)
               have := (HN.out.s'.lt b e2).2
               simp at h2
               omega)
           have zg5 : w1.heap.size < w5.heap.size := by have := hg5.size; simp at this; omega
           have zw5 : w.heap.size < w5.heap.size := by omega
           clear ho5 hg5 hat5 q0 q1 q2 q3 q4 q5 q6 q7
           clear x0 x1 x2 x3 x4 x5 x6 x7 x8 x9 x10 x11 x12
           clear xf5 xf12
           obtain ⟨q0, q1, q2, q3, q4, q5, q6, q7⟩ := sc_blk (fm_blk HF5.out 0 rfl)
           obtain ⟨x0, x1, x2, x3, x4, x5, x6, x7, x8, x9, x10, x11, x12⟩ := gc_blk (fm_blk HF5.out 2 rfl)
           have xf5 : World.frozen? (w5) ⟨w1.heap.size, 5, none⟩ = false := blk_free (fm_blk HF5.out 2 rfl) 5
           have xf12 : World.frozen? (w5) ⟨w1.heap.size, 12, none⟩ = false := blk_free (fm_blk HF5.out 2 rfl) 12
           have HF5b : Hid (Fm w [⟨w.heap.size, w.heap.size + 1, BoxP w.heap.size 27 (stc s A n c)⟩, ⟨w.heap.size + 1, w.heap.size + 2, BoxP (w.heap.size + 1) 41 (gcs gd0 gh0)⟩, ⟨w1.heap.size, w1.heap.size + 1, BoxP w1.heap.size 41 (gcs ⟨t, ⟨s.r, s.b, s.b, t⟩, [], 0, 0, [], ⟨[], [], []⟩, []⟩ ⟨E5, (k + 1), ce5, none, 0, 0, none, 0, 0, none, 0, 0, none, 0, 0, S, k, cs⟩)⟩] (w5.setCell ⟨w1.heap.size, 5, none⟩ (.slice E5 (k + 1) ce5))) := Lib.hid (fm_cell HF5.out 2 rfl (by omega) 5 (.slice E5 (k + 1) ce5)))
        | (at_builtin
           refine wpl_app_pktsS _ rfl (.tmp 48) (.tmp 51) rfl (w1.heap.size + 1) (.slice S k cs) k (rp k ⟨0, t, 0, 0⟩) rfl ((own_set_far HS5.out (p := ⟨w1.heap.size, 5, none⟩) (by simp) (.slice E5 (k + 1) ce5)).alloc _) (some ⟨w5.heap.size, 0, none⟩) 1 1 [⟨0, t, 0, 0⟩] rfl (pr_single (blk_at (by simp) _ _)) (by omega) (by simp; omega) ?_
           intro v6 w6 ho6 hg6 hat6
           rw [rp_snoc] at ho6
           obtain ⟨S6, cs6, rfl, -, -, -⟩ := own_form ho6
           have HF6 := Lib.hid (fm_grownO (fm_alloc HF5b.out (.cells #[.int .i64 0, .int .i64 t, .int .i64 0, .int .i64 0] 84)) hg6 (fun b e => by have := (HS5.out.lt b e).1; refine ⟨by omega, fun y hy => ?_⟩; simp only [List.mem_cons, List.not_mem_nil, or_false] at hy; rcases hy with rfl | rfl | rfl <;> (simp only; omega)))
           have HS6 := Lib.hid ho6
           have HE6 := Lib.hid (own_kept6 ((own_set_far HE5.out (p := ⟨w1.heap.size, 5, none⟩) (by simp) (.slice E5 (k + 1) ce5)).alloc (.cells #[.int .i64 0, .int .i64 t, .int .i64 0, .int .i64 0] 84)) hg6 (fun b e e2 => HA5.out b e2 e))
           have HA6 := Lib.hid (show ∀ b, Value.ownBlock (.slice E5 (k + 1) ce5) = some b → Value.ownBlock (.slice S6 (k + 1) cs6) ≠ some b from fun b e e2 => by
             rcases hat6 with h1 | h1
             · exact HA5.out b e (h1.symm.trans e2)
             · have h2 := Option.some.inj (h1.symm.trans e2)
               have := (HE5.out.lt b e).2
               simp at h2
               omega)
           have zg6 : w1.heap.size < w6.heap.size := by have := hg6.size; simp at this; omega
           clear ho6 hg6 hat6 q0 q1 q2 q3 q4 q5 q6 q7
           clear x0 x1 x2 x3 x4 x5 x6 x7 x8 x9 x10 x11 x12
           clear xf5 xf12
           obtain ⟨x0, x1, x2, x3, x4, x5, x6, x7, x8, x9, x10, x11, x12⟩ := gc_blk (fm_blk HF6.out 2 rfl)
           have xf5 : World.frozen? (w6) ⟨w1.heap.size, 5, none⟩ = false := blk_free (fm_blk HF6.out 2 rfl) 5
           have xf12 : World.frozen? (w6) ⟨w1.heap.size, 12, none⟩ = false := blk_free (fm_blk HF6.out 2 rfl) 12
           skip))
      go_roundw
      case rel => exact ⟨k + 1, E5, S6, ce5, cs6, by omega, by go_num, fm_cell HF6.out 2 rfl (by omega) 12 (.slice S6 (k + 1) cs6), own_set_far HE6.out (p := ⟨w1.heap.size, 12, none⟩) (by simp) _, own_set_far HS6.out (p := ⟨w1.heap.size, 12, none⟩) (by simp) _, HA6.out⟩
      case measure => simp [intOf]; omega
    · obtain rfl : k = 8 := by omega
      obtain ⟨l2, okl, hl3, hl1, hl2, hNL⟩ := nlS_ex s.q s.ws
      obtain rfl : okl = true := hl1.2 KS.out.2.2.2
      obtain rfl := hl2 rfl
      have HNL := Lib.hid hNL
      obtain ⟨bE, zE1, zE2, oE, pE⟩ := own_at1 HN.out.e (by omega)
      obtain ⟨bS, zS1, zS2, oS, pS⟩ := own_at1 HN.out.s' (by omega)
      have hbe : bE ≠ bS := fun e => HN.out.ap bE oE (by rw [oS, e])
      have PE0 := Lib.hid (at_below pE (Below.refl _ _).drew)
      have PS0 := Lib.hid (at_below pS (Below.refl _ _).drew)
      have OS : Hid (∀ w' : World, Fm w [⟨w.heap.size, w.heap.size + 1, BoxP w.heap.size 27 (stc s A n c)⟩, ⟨w.heap.size + 1, w.heap.size + 2, BoxP (w.heap.size + 1) 41 (gcs gd0 gh0)⟩, ⟨w1.heap.size, w1.heap.size + 1, BoxP w1.heap.size 41 (gcs ⟨t, ⟨s.r, s.b, s.b, t⟩, [], 0, 0, [], ⟨[], [], []⟩, []⟩ ⟨E, 8, ce, none, 0, 0, none, 0, 0, none, 0, 0, none, 0, 0, S, 8, cs⟩)⟩] w' → (w'.cell? ⟨w.heap.size, 0, none⟩ = some (.int .i64 s.r) ∧ w'.cell? ⟨w.heap.size, 1, none⟩ = some (.int .i64 s.b) ∧ w'.cell? ⟨w.heap.size, 2, none⟩ = some (.int .i64 s.pr) ∧ w'.cell? ⟨w.heap.size, 3, none⟩ = some (.int .i64 s.pb) ∧ w'.cell? ⟨w.heap.size, 4, none⟩ = some (.int .i64 s.me) ∧ w'.cell? ⟨w.heap.size, 5, none⟩ = some (.int .i64 s.ea) ∧ w'.cell? ⟨w.heap.size, 6, none⟩ = some (.int .i64 s.q) ∧ w'.cell? ⟨w.heap.size, 7, none⟩ = some (.slice A n c))) := Lib.hid (fun w' F => rec_sc (fm_blk F 0 rfl))
      have F5 := Lib.hid (fm_drew HN.out.f)
      have hS0 := OS.out _ F5.out
      have z0 := Lib.hid (show wr.drew.heap.size = wr.heap.size from rfl)
      clear oE oS pE pS hl1 hl2 hNL q0 q1 q2 q3 q4 q5 q6 q7 xf5 xf12
      clear x0 x1 x2 x3 x4 x5 x6 x7 x8 x9 x10 x11 x12
      go_wp2_with fail
      refine held_start (S := (fun w' : World => (w'.cell? ⟨w.heap.size, 0, none⟩ = some (.int .i64 s.r) ∧ w'.cell? ⟨w.heap.size, 1, none⟩ = some (.int .i64 s.b) ∧ w'.cell? ⟨w.heap.size, 2, none⟩ = some (.int .i64 s.pr) ∧ w'.cell? ⟨w.heap.size, 3, none⟩ = some (.int .i64 s.pb) ∧ w'.cell? ⟨w.heap.size, 4, none⟩ = some (.int .i64 s.me) ∧ w'.cell? ⟨w.heap.size, 5, none⟩ = some (.int .i64 s.ea) ∧ w'.cell? ⟨w.heap.size, 6, none⟩ = some (.int .i64 s.q) ∧ w'.cell? ⟨w.heap.size, 7, none⟩ = some (.slice A n c)))) 7 (by kernel_rfl) ?_
      refine held_take (i := 0) (oi := { dst := some 54, op := Op.fieldAddr 27 (Operand.tmp 2) 4, type := 0, pos := "l8_guards.go:23", after := #[], guard := none }) (v := ?_) rfl (by kernel_rfl) (by kernel_rfl) (by kernel_rfl) (by kernel_rfl) (fun _ _ _ h => h) (Or.inl ⟨by rfl, ?_⟩) hS0 ?_
      rotate_left
      · (intro w9 hSw; (try dsimp only at hSw); go_simp; try with_reducible rfl)
      try simp only [Act.put, List.setIfInBounds_toArray, List.set_cons_zero, List.set_cons_succ]
      refine held_take (i := 1) (oi := { dst := some 55, op := Op.load 3 (Operand.tmp 54), type := 3, pos := "l8_guards.go:23", after := #[{ on := 0, ground := Ground.data }], guard := none }) (v := ?_) rfl (by kernel_rfl) (by kernel_rfl) (by kernel_rfl) (by kernel_rfl) (fun _ _ _ h => h) (Or.inl ⟨by rfl, ?_⟩) hS0 ?_
      rotate_left
      · (intro w9 hSw; (try dsimp only at hSw); go_simp; try with_reducible rfl)
      try simp only [Act.put, List.setIfInBounds_toArray, List.set_cons_zero, List.set_cons_succ]
      refine held_take (i := 2) (oi := { dst := some 56, op := Op.fieldAddr 27 (Operand.tmp 2) 5, type := 0, pos := "l8_guards.go:23", after := #[], guard := none }) (v := ?_) rfl (by kernel_rfl) (by kernel_rfl) (by kernel_rfl) (by kernel_rfl) (fun _ _ _ h => h) (Or.inl ⟨by rfl, ?_⟩) hS0 ?_
      rotate_left
      · (intro w9 hSw; (try dsimp only at hSw); go_simp; try with_reducible rfl)
      try simp only [Act.put, List.setIfInBounds_toArray, List.set_cons_zero, List.set_cons_succ]
      refine held_take (i := 3) (oi := { dst := some 57, op := Op.load 3 (Operand.tmp 56), type := 3, pos := "l8_guards.go:23", after := #[{ on := 2, ground := Ground.data }], guard := none }) (v := ?_) rfl (by kernel_rfl) (by kernel_rfl) (by kernel_rfl) (by kernel_rfl) (fun _ _ _ h => h) (Or.inl ⟨by rfl, ?_⟩) hS0 ?_
      rotate_left
      · (intro w9 hSw; (try dsimp only at hSw); go_simp; try with_reducible rfl)
      try simp only [Act.put, List.setIfInBounds_toArray, List.set_cons_zero, List.set_cons_succ]
      refine held_one (i := 4) (o := { dst := some 58, op := Op.makeSlice 22 (Operand.const (Value.int IntKind.i64 8)) (Operand.const (Value.int IntKind.i64 8)), type := 22, pos := "l8_guards.go:23", after := #[], guard := none }) (by kernel_rfl) rfl (fun K hK => ?_)
      refine step_makeI _ rfl (.const (.int .i64 8)) (.const (.int .i64 8)) rfl 8 rfl rfl (by omega) ?_
      intro w7 ho7 hb7
      rw [z0.out] at ho7
      have F7 := Lib.hid (fm_below F5.out hb7)
      have PE7 := Lib.hid (at_below PE0.out hb7)
      have PS7 := Lib.hid (at_below PS0.out hb7)
      have PU7 := Lib.hid (show At wr.heap.size w7.heap.size (OwnP wr.heap.size w7.heap.size 3 1 (.slice (some ⟨wr.heap.size, 0, none⟩) 8 8) 8 (icells (List.replicate 8 0))) w7 from at_own_all ho7)
      have zz7 : wr.heap.size ≤ w7.heap.size := by have := hb7.size; rw [z0.out] at this; exact this
      have zg7 : w1.heap.size < w7.heap.size := by omega
      have zw7 : w.heap.size < w7.heap.size := by omega
      have hS7 := OS.out _ F7.out
      obtain ⟨x0, x1, x2, x3, x4, x5, x6, x7, x8, x9, x10, x11, x12⟩ := gc_blk (fm_blk F7.out 2 rfl)
      have xf6 : World.frozen? (w7) ⟨w1.heap.size, 6, none⟩ = false := blk_free (fm_blk F7.out 2 rfl) 6
      have xf7 : World.frozen? (w7) ⟨w1.heap.size, 7, none⟩ = false := blk_free (fm_blk F7.out 2 rfl) 7
      have xf8 : World.frozen? (w7) ⟨w1.heap.size, 8, none⟩ = false := blk_free (fm_blk F7.out 2 rfl) 8
      obtain ⟨q0, q1, q2, q3, q4, q5, q6, q7⟩ := hS7
      clear ho7 hb7
      refine hK.out _ _ (.inr (And.intro q0 (And.intro q1 (And.intro q2 (And.intro q3 (And.intro q4 (And.intro q5 (And.intro q6 q7)))))))) ?_
      clear hK K
      try simp only [Act.put, List.setIfInBounds_toArray, List.set_cons_zero, List.set_cons_succ]
      refine held_take (i := 5) (oi := { dst := some 59, op := Op.build 35 #[(0, Operand.tmp 55), (1, Operand.tmp 57), (2, Operand.tmp 58)], type := 35, pos := "l8_guards.go:23", after := #[{ on := 1, ground := Ground.data }, { on := 3, ground := Ground.data }, { on := 4, ground := Ground.data }], guard := none }) (v := ?_) rfl (by kernel_rfl) (by kernel_rfl) (by kernel_rfl) (by kernel_rfl) (fun _ _ _ h => h) (Or.inl ⟨by rfl, ?_⟩) (And.intro q0 (And.intro q1 (And.intro q2 (And.intro q3 (And.intro q4 (And.intro q5 (And.intro q6 q7))))))) ?_
      rotate_left
      · (intro w9 hSw; (try dsimp only at hSw); go_simp; try with_reducible rfl)
      try simp only [Act.put, List.setIfInBounds_toArray, List.set_cons_zero, List.set_cons_succ]
      refine held_take (i := 6) (oi := { dst := some 60, op := Op.fieldAddr 41 (Operand.tmp 6) 3, type := 0, pos := "l8_guards.go:23", after := #[{ on := 0, ground := Ground.phase }, { on := 1, ground := Ground.phase }, { on := 2, ground := Ground.phase }, { on := 3, ground := Ground.phase }, { on := 4, ground := Ground.phase }, { on := 5, ground := Ground.phase }], guard := none }) (v := ?_) rfl (by kernel_rfl) (by kernel_rfl) (by kernel_rfl) (by kernel_rfl) (fun _ _ _ h => h) (Or.inl ⟨by rfl, ?_⟩) (And.intro q0 (And.intro q1 (And.intro q2 (And.intro q3 (And.intro q4 (And.intro q5 (And.intro q6 q7))))))) ?_
      rotate_left
      · (intro w9 hSw; (try dsimp only at hSw); go_simp; try with_reducible rfl)
      try simp only [Act.put, List.setIfInBounds_toArray, List.set_cons_zero, List.set_cons_succ]
      refine held_one (i := 7) (o := { dst := none, op := Op.store 35 (Operand.tmp 60) (Operand.tmp 59), type := 0, pos := "l8_guards.go:23", after := #[{ on := 6, ground := Ground.data }, { on := 5, ground := Ground.data }, { on := 0, ground := Ground.phase }, { on := 1, ground := Ground.phase }, { on := 2, ground := Ground.phase }, { on := 3, ground := Ground.phase }, { on := 4, ground := Ground.phase }, { on := 5, ground := Ground.phase }], guard := none }) (by kernel_rfl) rfl (fun K hK => ?_)
      go_simp
      refine hK.out _ _ (.inl rfl) ?_
      clear hK K
      try simp only [Act.put, List.setIfInBounds_toArray, List.set_cons_zero, List.set_cons_succ]
      refine held_done (by kernel_rfl) ?_ _
      have F8 : Hid (Fm w [⟨w.heap.size, w.heap.size + 1, BoxP w.heap.size 27 (stc s A n c)⟩, ⟨w.heap.size + 1, w.heap.size + 2, BoxP (w.heap.size + 1) 41 (gcs gd0 gh0)⟩, ⟨w1.heap.size, w1.heap.size + 1, BoxP w1.heap.size 41 (gcs ⟨t, ⟨s.r, s.b, s.b, t⟩, [], s.me, s.ea, [], ⟨[], [], []⟩, []⟩ ⟨E, 8, ce, (some ⟨wr.heap.size, 0, none⟩), 8, 8, none, 0, 0, none, 0, 0, none, 0, 0, S, 8, cs⟩)⟩] (((w7.setCell ⟨w1.heap.size, 6, none⟩ (.int .i64 s.me)).setCell ⟨w1.heap.size, 7, none⟩ (.int .i64 s.ea)).setCell ⟨w1.heap.size, 8, none⟩ (.slice (some ⟨wr.heap.size, 0, none⟩) 8 8))) := Lib.hid (fm_cell (fm_cell (fm_cell F7.out 2 rfl (by omega) 6 _) 2 rfl (by omega) 7 _) 2 rfl (by omega) 8 _)
      have PE8 := Lib.hid (at_cell (at_cell (at_cell PE7.out (p := ⟨w1.heap.size, 6, none⟩) (by simp; omega) (.int .i64 s.me)) (p := ⟨w1.heap.size, 7, none⟩) (by simp; omega) (.int .i64 s.ea)) (p := ⟨w1.heap.size, 8, none⟩) (by simp; omega) (.slice (some ⟨wr.heap.size, 0, none⟩) 8 8))
      have PS8 := Lib.hid (at_cell (at_cell (at_cell PS7.out (p := ⟨w1.heap.size, 6, none⟩) (by simp; omega) (.int .i64 s.me)) (p := ⟨w1.heap.size, 7, none⟩) (by simp; omega) (.int .i64 s.ea)) (p := ⟨w1.heap.size, 8, none⟩) (by simp; omega) (.slice (some ⟨wr.heap.size, 0, none⟩) 8 8))
      have PU8 := Lib.hid (at_cell (at_cell (at_cell PU7.out (p := ⟨w1.heap.size, 6, none⟩) (by simp; omega) (.int .i64 s.me)) (p := ⟨w1.heap.size, 7, none⟩) (by simp; omega) (.int .i64 s.ea)) (p := ⟨w1.heap.size, 8, none⟩) (by simp; omega) (.slice (some ⟨wr.heap.size, 0, none⟩) 8 8))
      clear PE7 PS7 PU7 F7 PE0 PS0 F5
      go_wp2_with fail
      refine (HNL.out A n c _ (nr_below H.out F8.out.below) hn).mono ?_
      rintro e w9 ⟨Al, nl, cl, Bl, ml, dl, Cl, ol, fl, hsl, ivl, rfl, hL, -, hb⟩
      have z9 : w7.heap.size ≤ w9.heap.size := by have := hb.size; simpa using this
      have LNL := Lib.hid (show nl ≤ 4000000000 ∧ ml ≤ 4000000000 ∧ ol ≤ 4000000000 from by
        have h1 := (dr_len hL.r).2
        have h2 : (newN s.q s.ws).ws.length = ml := (nr_own hL.b).1
        have h3 : (newN s.q s.ws).cs.length = ol := (nr_own hL.c).1
        omega)
      have F9a := Lib.hid (fm_below F8.out hb)
      have PE9 := Lib.hid (at_below PE8.out hb)
      have PS9 := Lib.hid (at_below PS8.out hb)
      have PU9 := Lib.hid (at_below PU8.out hb)
      have PL9 := Lib.hid (show At w7.heap.size w9.heap.size (LI w7.heap.size w9.heap.size (.slice Al nl cl) nl (.slice Bl ml dl) ml (.slice Cl ol fl) ol hsl ivl (newN s.q s.ws)) w9 from at_li (li_all (lo_mono hL (by simp))) (Nat.le_refl _))
      clear hb hL F8 PE8 PS8 PU8 q0 q1 q2 q3 q4 q5 q6 q7
      clear x0 x1 x2 x3 x4 x5 x6 x7 x8 x9 x10 x11 x12
      clear xf6 xf7 xf8
      obtain ⟨x0, x1, x2, x3, x4, x5, x6, x7, x8, x9, x10, x11, x12⟩ := gc_blk (fm_blk F9a.out 2 rfl)
      have xf9 : World.frozen? (w9) ⟨w1.heap.size, 9, none⟩ = false := blk_free (fm_blk F9a.out 2 rfl) 9
      have xf10 : World.frozen? (w9) ⟨w1.heap.size, 10, none⟩ = false := blk_free (fm_blk F9a.out 2 rfl) 10
      have xf11 : World.frozen? (w9) ⟨w1.heap.size, 11, none⟩ = false := blk_free (fm_blk F9a.out 2 rfl) 11
      obtain ⟨r0, r1, r2, r3, r4, r5, r6, r7, r8, r9, r10, r11, r12⟩ := gc_blk (fm_blk F9a.out 1 rfl)
      have rf0 : World.frozen? (w9) ⟨w.heap.size + 1, 0, none⟩ = false := blk_free (fm_blk F9a.out 1 rfl) 0
      have rf1 : World.frozen? (w9) ⟨w.heap.size + 1, 1, none⟩ = false := blk_free (fm_blk F9a.out 1 rfl) 1
      have rf2 : World.frozen? (w9) ⟨w.heap.size + 1, 2, none⟩ = false := blk_free (fm_blk F9a.out 1 rfl) 2
      have rf3 : World.frozen? (w9) ⟨w.heap.size + 1, 3, none⟩ = false := blk_free (fm_blk F9a.out 1 rfl) 3
      have rf4 : World.frozen? (w9) ⟨w.heap.size + 1, 4, none⟩ = false := blk_free (fm_blk F9a.out 1 rfl) 4
      have rf5 : World.frozen? (w9) ⟨w.heap.size + 1, 5, none⟩ = false := blk_free (fm_blk F9a.out 1 rfl) 5
      have rf6 : World.frozen? (w9) ⟨w.heap.size + 1, 6, none⟩ = false := blk_free (fm_blk F9a.out 1 rfl) 6
      have rf7 : World.frozen? (w9) ⟨w.heap.size + 1, 7, none⟩ = false := blk_free (fm_blk F9a.out 1 rfl) 7
      have rf8 : World.frozen? (w9) ⟨w.heap.size + 1, 8, none⟩ = false := blk_free (fm_blk F9a.out 1 rfl) 8
      have rf9 : World.frozen? (w9) ⟨w.heap.size + 1, 9, none⟩ = false := blk_free (fm_blk F9a.out 1 rfl) 9
      have rf10 : World.frozen? (w9) ⟨w.heap.size + 1, 10, none⟩ = false := blk_free (fm_blk F9a.out 1 rfl) 10
      have rf11 : World.frozen? (w9) ⟨w.heap.size + 1, 11, none⟩ = false := blk_free (fm_blk F9a.out 1 rfl) 11
      have rf12 : World.frozen? (w9) ⟨w.heap.size + 1, 12, none⟩ = false := blk_free (fm_blk F9a.out 1 rfl) 12
      have GG := Lib.hid (go_new (lo := w1.heap.size + 1) (hi := w9.heap.size) (t := t) (al := ⟨s.r, s.b, s.b, t⟩) (li := s.me) (ea := s.ea) (x := rp 8 ⟨s.pr, s.pb, s.pb, t⟩) (y := List.replicate 8 0) (l := newN s.q s.ws) (z := rp 8 ⟨0, t, 0, 0⟩) (h' := ⟨E, 8, ce, some ⟨wr.heap.size, 0, none⟩, 8, 8, Al, nl, cl, Bl, ml, dl, Cl, ol, fl, S, 8, cs⟩) (e0 := bE) (e1 := bE + 1) (u0 := wr.heap.size) (u1 := w7.heap.size) (l0 := w7.heap.size) (l1 := w9.heap.size) (s0 := bS) (s1 := bS + 1) (hs := hsl) (iv := ivl)
        ⟨by dsimp only; omega, by dsimp only; omega, by dsimp only; omega, by dsimp only; omega, .inl (by dsimp only; omega), .inl (by dsimp only; omega), (by unfold Dj; dsimp only; omega), .inl (by dsimp only; omega), .inr (by dsimp only; omega), .inr (by dsimp only; omega), ⟨by show 8 ≤ _; omega, by show 8 ≤ _; omega, by show 8 ≤ _; omega, LNL.out.1, LNL.out.2.1, LNL.out.2.2⟩⟩ PE9.out PU9.out PL9.out PS9.out)
      have z99 : w1.heap.size < w9.heap.size := by omega
      have z98 : w.heap.size < w9.heap.size := by omega
      have z97 : w.heap.size + 1 < w9.heap.size := by omega
      clear PE9 PU9 PL9 PS9
      go_wp2
      refine bodyPost_ret (v := .tuple #[.agg (gcs ⟨t, ⟨s.r, s.b, s.b, t⟩, rp 8 ⟨s.pr, s.pb, s.pb, t⟩, s.me, s.ea, List.replicate 8 0, newN s.q s.ws, rp 8 ⟨0, t, 0, 0⟩⟩ ⟨E, 8, ce, some ⟨wr.heap.size, 0, none⟩, 8, 8, Al, nl, cl, Bl, ml, dl, Cl, ol, fl, S, 8, cs⟩), .bool true]) (by simp [results, Try.results17, go_sem, gcs, r0, r1, r2, r3, r4, r5, r6, r7, r8, r9, r10, r11, r12, z97]) rfl ⟨⟨E, 8, ce, some ⟨wr.heap.size, 0, none⟩, 8, 8, Al, nl, cl, Bl, ml, dl, Cl, ol, fl, S, 8, cs⟩, ⟨bE, bE + 1, wr.heap.size, w7.heap.size, w7.heap.size, w9.heap.size, bS, bS + 1, hsl, ivl⟩, ?_, ?_, ?_⟩
      · rw [EB.out.1, EB.out.2]; rfl
      · rw [EB.out.1]
        refine go_mono (lo := w1.heap.size + 1) (hi := w9.heap.size) ?_ (by omega) (by simp <;> omega)
        refine go_below ?_ (below_alloc (Below.refl _ _) (.cells #[.slice Al nl cl, .slice Bl ml dl, .slice Cl ol fl] 38))
        repeat with_reducible refine go_cell ?_ (by simp <;> omega) _
        exact GG.out
      · refine below_alloc (a := w) ?_ (.cells #[.slice Al nl cl, .slice Bl ml dl, .slice Cl ol fl] 38)
        repeat with_reducible refine Below.setCell ?_ (by simp <;> omega) _
        exact F9a.out.below
end Go.Proofs.Ytiodhdcgfdlknaa
