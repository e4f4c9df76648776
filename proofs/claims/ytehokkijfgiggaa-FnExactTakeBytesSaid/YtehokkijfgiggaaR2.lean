/-
  Chapter 5: validity of flows and robins: what the program's functions and the model's return. Conditions: a flow has at most 4000000000 packets.
-/
import Derived.Test.YtehokkijfgiggaaR1
namespace Go.Proofs.Ytehokkijfgiggaa
open Go.RowKit

theorem vf_bad {q : Int} {f : Flw} (h : ¬ (0 ≤ f.peer ∧ f.peer ≤ 7 ∧ 0 ≤ f.dfc ∧ f.dfc < q + 100 ∧ 0 < f.ws.length ∧ okB f.ws = true)) : false = vfB q f :=
  (vf_no fun v => h ⟨v.p0, v.p7, v.d0, v.d1, v.n0, v.ok⟩).symm
theorem vf_alien {q : Int} {f : Flw} {k : Nat} {p : Pkt} (hp : f.ws[k]? = some p) (hx : ¬ p.peer = f.peer) : false = vfB q f :=
  (vf_no fun v => hx (v.own p (List.mem_of_getElem? hp))).symm
theorem vf_good {q : Int} {f : Flw} {n : Nat} (h : 0 ≤ f.peer ∧ f.peer ≤ 7 ∧ 0 ≤ f.dfc ∧ f.dfc < q + 100 ∧ 0 < f.ws.length ∧ okB f.ws = true) (hn : f.ws.length ≤ n) (ho : ∀ j p, j < n → f.ws[j]? = some p → p.peer = f.peer) : true = vfB q f :=
  (vf_iff.2 ⟨h.1, h.2.1, h.2.2.1, h.2.2.2.1, h.2.2.2.2.1, h.2.2.2.2.2, fun p hp => by
    obtain ⟨j, hj, e⟩ := List.getElem_of_mem hp
    exact ho j p (by omega) (by rw [List.getElem?_eq_getElem hj, e])⟩).symm
theorem own_step {ws : List Pkt} {x : Int} {k : Nat} {p : Pkt} (h : ∀ j p, j < k → ws[j]? = some p → p.peer = x) (hp : ws[k]? = some p) (hx : p.peer = x) : ∀ j p, j < k + 1 → ws[j]? = some p → p.peer = x := by
  intro j g hj hg
  by_cases e : j = k
  · subst e
    rw [hp] at hg
    rw [← Option.some.inj hg]; exact hx
  · exact h j g (by omega) hg
def FlRel (w : World) (x d : Int) (A : Option Addr) (c : Nat) (ws : List Pkt) (n : Nat) (i : Value) (wr : World) : Prop :=
  ∃ k : Nat, k ≤ n ∧ i = .int .i64 (k : Int) ∧ (∀ j p, j < k → ws[j]? = some p → p.peer = x) ∧ Fm w [⟨w.heap.size, w.heap.size + 1, BoxP w.heap.size 40 #[.int .i64 x, .int .i64 d, (.slice A n c)]⟩] wr
set_option maxHeartbeats 2000000 in
theorem flI_any (q x d : Int) (ws : List Pkt) (A : Option Addr) (n c : Nat) (w : World) (h : PR w A n ws) (hn : n ≤ 4000000000) (q0 : 1 ≤ q) (q1 : q ≤ 500) :
    Calls Try.prog 57 #[.agg #[.int .i64 x, .int .i64 d, (.slice A n c)], .int .i64 q] w fun e w' => e = .returned (.bool (vfB q ⟨x, d, ws⟩)) ∧ Below w.heap.size w w' := by
  have H := Lib.hid h
  have HL := Lib.hid h.1
  have F := Lib.hid (fm_one w 40 #[.int .i64 x, .int .i64 d, (.slice A n c)])
  have e1 : IntKind.i64.wrap (q + 100) = q + 100 := IntWalk.i64_in _ (by omega)
  have e2 : IntKind.i64.wrap (q + 100 - 1) = q + 100 - 1 := IntWalk.i64_in _ (by omega)
  clear h
  rcases h1 : inB x 0 7 with _ | _
  · have HE := Lib.hid (vf_bad (q := q) (f := ⟨x, d, ws⟩) fun h => by simp only [inB, decide_eq_false_iff_not] at h1; exact h1 ⟨h.1, h.2.1⟩)
    go_enter Try.func57, Try.ntmps57
    go_wp2_with (go_at_call 56; refine (within_any _ _ _ _).mono ?_; rintro e w' ⟨rfl, rfl⟩)
    go_ret
    exact ⟨ret_bool HE.out, F.out.below⟩
  rcases h2 : inB d 0 (q + 100 - 1) with _ | _
  · have HE := Lib.hid (vf_bad (q := q) (f := ⟨x, d, ws⟩) fun h => by simp only [inB, decide_eq_false_iff_not] at h2; exact h2 ⟨h.2.2.1, by have := h.2.2.2.1; simp only at this; omega⟩)
    go_enter Try.func57, Try.ntmps57
    go_wp2_with (go_at_call 56; refine (within_any _ _ _ _).mono ?_; rintro e w' ⟨rfl, rfl⟩)
    go_ret
    exact ⟨ret_bool HE.out, F.out.below⟩
  by_cases h3 : n = 0
  · subst h3
    have HE := Lib.hid (vf_bad (q := q) (f := ⟨x, d, ws⟩) fun h => by have := h.2.2.2.2.1; have := HL.out; simp only at *; omega)
    go_enter Try.func57, Try.ntmps57
    go_wp2_with (go_at_call 56; refine (within_any _ _ _ _).mono ?_; rintro e w' ⟨rfl, rfl⟩)
    go_ret
    exact ⟨ret_bool HE.out, F.out.below⟩
  have hnz : ((n : Int) == 0) = false := by simp; omega
  rcases h4 : okB ws with _ | _
  · have HE := Lib.hid (vf_bad (q := q) (f := ⟨x, d, ws⟩) fun h => by have := h.2.2.2.2.2; simp only at this; rw [h4] at this; cases this)
    have HK := Lib.hid h4
    clear h3 h4
    go_enter Try.func57, Try.ntmps57
    go_wp2_with (first
      | (go_at_call 56; refine (within_any _ _ _ _).mono ?_; rintro e w' ⟨rfl, rfl⟩)
      | (go_at_call 82; refine (okI_any A n c ws _ (pr_alloc H.out _) (by omega)).mono ?_; rintro e w2 ⟨rfl, hb2⟩; rw [HK.out]; have F2 := Lib.hid (fm_below F.out hb2); obtain ⟨⟨q0, q1, q2⟩, -⟩ := blk_three (fm_blk F2.out 0 rfl); clear hb2))
    go_ret
    exact ⟨ret_bool HE.out, F2.out.below⟩
  have HK := Lib.hid h4
  have HG := Lib.hid (show 0 ≤ x ∧ x ≤ 7 ∧ 0 ≤ d ∧ d < q + 100 ∧ 0 < ws.length ∧ okB ws = true by
    simp only [inB, decide_eq_true_eq] at h1 h2
    have := HL.out
    exact ⟨h1.1, h1.2, h2.1, by omega, by omega, h4⟩)
  have hn0 : 0 < n := by omega
  clear h3 h4
  go_enter Try.func57, Try.ntmps57
  go_wp2_with (first
    | (go_at_call 56; refine (within_any _ _ _ _).mono ?_; rintro e w' ⟨rfl, rfl⟩)
    | (go_at_call 82; refine (okI_any A n c ws _ (pr_alloc H.out _) (by omega)).mono ?_; rintro e w2 ⟨rfl, hb2⟩; rw [HK.out]; have F2 := Lib.hid (fm_below F.out hb2); obtain ⟨⟨q0, q1, q2⟩, -⟩ := blk_three (fm_blk F2.out 0 rfl); clear hb2))
  clear h1 h2 e1 e2 q0 q1 q2
  go_loopw [33] (fun i wr => FlRel w x d A c ws n i wr) (fun i _ => n - (intOf i).toNat)
  case atStart => exact ⟨0, Nat.zero_le _, rfl, fun j p hj => absurd hj (by omega), F2.out⟩
  case round =>
    obtain ⟨k, hk, rfl, hall, hF⟩ := hrel
    have HA := Lib.hid hall
    have HF := Lib.hid hF
    obtain ⟨⟨q0, q1, q2⟩, -⟩ := blk_three (fm_blk hF 0 rfl)
    have zb := blk_lt (fm_blk hF 0 rfl)
    have hbl := hF.below
    clear hall hF F2 F
    by_cases hlt : k < n
    · obtain ⟨b, off, p, rfl, hb, hp, c0, c1, c2, c3⟩ := pr_at (pr_below H.out hbl) hlt
      have HP := Lib.hid hp
      clear hp hbl
      by_cases hx : p.peer = x
      · have hxb : (p.peer != x) = false := by simp [hx]
        have HX := Lib.hid hx
        clear hx
        go_wp2
        go_roundw
        case rel => exact ⟨k + 1, by omega, by go_num, own_step HA.out HP.out HX.out, fm_alloc HF.out _⟩
        case measure => simp [intOf]; omega
      · have hxb : (p.peer != x) = true := by simp [hx]
        have HE := Lib.hid (vf_alien (q := q) (f := ⟨x, d, ws⟩) HP.out hx)
        clear hx
        go_wp2
        go_ret
        exact ⟨ret_bool HE.out, (fm_alloc HF.out _).below⟩
    · obtain rfl : k = n := by omega
      have HE := Lib.hid (vf_good (q := q) (f := ⟨x, d, ws⟩) HG.out (Nat.le_of_eq HL.out) HA.out)
      clear hbl
      go_wp2
      go_ret
      exact ⟨ret_bool HE.out, HF.out.below⟩
theorem all_peer_len {ws : List Pkt} {x : Int} : (ofPeer ws x).length = ws.length ↔ ∀ p ∈ ws, p.peer = x := by
  unfold ofPeer
  constructor
  · intro h p hp
    have := List.length_filter_eq_length_iff.1 h p hp
    simpa using this
  · intro h
    exact List.length_filter_eq_length_iff.2 fun p hp => by simpa using h p hp
theorem vf_last {q : Int} {f : Flw} {n m : Nat} (h : 0 ≤ f.peer ∧ f.peer ≤ 7 ∧ 0 ≤ f.dfc ∧ f.dfc < q + 100 ∧ 0 < f.ws.length ∧ okB f.ws = true) (hn : f.ws.length = n) (hm : (ofPeer f.ws f.peer).length = m) : ((m : Int) == (n : Int)) = vfB q f := by
  subst hn hm
  rw [Bool.eq_iff_iff, vf_iff, beq_iff_eq]
  constructor
  · intro e
    exact ⟨h.1, h.2.1, h.2.2.1, h.2.2.2.1, h.2.2.2.2.1, h.2.2.2.2.2, all_peer_len.1 (by omega)⟩
  · intro v
    have := all_peer_len.2 v.own
    omega
set_option maxHeartbeats 4000000 in
theorem flS_any (q x d : Int) (ws : List Pkt) (A : Option Addr) (n c : Nat) (w : World) (h : PR w A n ws) (hn : n ≤ 4000000000) (q0 : 1 ≤ q) (q1 : q ≤ 500) :
    Calls Try.prog 70 #[.agg #[.int .i64 x, .int .i64 d, (.slice A n c)], .int .i64 q] w fun e w' => e = .returned (.bool (vfB q ⟨x, d, ws⟩)) ∧ Below w.heap.size w w' := by
  have H := Lib.hid h
  have HL := Lib.hid h.1
  have F := Lib.hid (fm_one w 40 #[.int .i64 x, .int .i64 d, (.slice A n c)])
  have e1 : IntKind.i64.wrap (q + 100) = q + 100 := IntWalk.i64_in _ (by omega)
  clear h
  by_cases hd : 0 ≤ x ∧ x ≤ 7 ∧ 0 ≤ d ∧ d < q + 100 ∧ 0 < n
  · obtain ⟨d1, d2, d3, d4, d5⟩ := hd
    have y1 : decide (x < 0) = false := by simp; omega
    have y2 : decide (8 ≤ x) = false := by simp; omega
    have y3 : decide (d < 0) = false := by simp; omega
    have y4 : decide (q + 100 ≤ d) = false := by simp; omega
    have y5 : ((n : Int) == 0) = false := by simp; omega
    rcases h4 : okB ws with _ | _
    · have HE := Lib.hid (vf_bad (q := q) (f := ⟨x, d, ws⟩) fun h => by have := h.2.2.2.2.2; simp only at this; rw [h4] at this; cases this)
      have HK := Lib.hid h4
      clear h4
      go_enter Try.func70, Try.ntmps70
      go_wp2_with (go_at_call 86; refine (okS_any A n c ws _ (pr_alloc H.out _) (by omega)).mono ?_; rintro e w2 ⟨rfl, hb2⟩; rw [HK.out]; have F2 := Lib.hid (fm_below F.out hb2); clear hb2)
      go_ret
      exact ⟨ret_bool HE.out, F2.out.below⟩
    · have HG := Lib.hid (show 0 ≤ x ∧ x ≤ 7 ∧ 0 ≤ d ∧ d < q + 100 ∧ 0 < ws.length ∧ okB ws = true from ⟨d1, d2, d3, d4, by have := HL.out; omega, h4⟩)
      have HK := Lib.hid h4
      clear h4
      go_enter Try.func70, Try.ntmps70
      go_wp2_with (go_at_call 86; refine (okS_any A n c ws _ (pr_alloc H.out _) (by omega)).mono ?_; rintro e w2 ⟨rfl, hb2⟩; rw [HK.out]; have F2 := Lib.hid (fm_below F.out hb2); clear hb2)
      clear e1 d1 d2 d3 d4 y1 y2 y3 y4 y5
      have K0 : (w2.drew.cell? ⟨w.heap.size, 0, none⟩ = some (.int .i64 x) ∧ w2.drew.cell? ⟨w.heap.size, 1, none⟩ = some (.int .i64 d) ∧ w2.drew.cell? ⟨w.heap.size, 2, none⟩ = some (.slice A n c)) ∧ Fm w [⟨w.heap.size, w.heap.size + 1, BoxP w.heap.size 40 #[.int .i64 x, .int .i64 d, (.slice A n c)]⟩] w2.drew := ⟨(blk_three (fm_blk (fm_drew F2.out) 0 rfl)).1, fm_drew F2.out⟩
      go_region_held3 (fun w' => (w'.cell? ⟨w.heap.size, 0, none⟩ = some (.int .i64 x) ∧ w'.cell? ⟨w.heap.size, 1, none⟩ = some (.int .i64 d) ∧ w'.cell? ⟨w.heap.size, 2, none⟩ = some (.slice A n c)) ∧ Fm w [⟨w.heap.size, w.heap.size + 1, BoxP w.heap.size 40 #[.int .i64 x, .int .i64 d, (.slice A n c)]⟩] w')
        (first | (with_reducible assumption) | fail)
        (first
          | (go_at_call 87
             refine (ofS_any A n c ws x _ (pr_below H.out (fm_drew F2.out).below) (by omega)).mono ?_
             rintro e w3 ⟨A3, n3, c3, rfl, hn3, hc3, hm3, ho3, hb3⟩
             have L3 := Lib.hid ((pr_own ho3).1)
             have hl3 : n3 ≤ 4000000000 := (by have := HL.out; omega)
             have F3 := Lib.hid (fm_below (fm_drew F2.out) hb3)
             have K3 := (And.intro (blk_three (fm_blk F3.out 0 rfl)).1 F3.out)
             clear ho3 hb3 hn3 hc3 hm3))
      all_goals
        have HE := Lib.hid (vf_last (q := q) (f := ⟨x, d, ws⟩) HG.out HL.out L3.out)
        go_wp2
        go_ret
        exact ⟨ret_bool HE.out, F3.out.below⟩
  · have HE := Lib.hid (vf_bad (q := q) (f := ⟨x, d, ws⟩) fun h => hd ⟨h.1, h.2.1, h.2.2.1, h.2.2.2.1, by have := h.2.2.2.2.1; have := HL.out; simp only at *; omega⟩)
    have hor : x < 0 ∨ (0 ≤ x ∧ 8 ≤ x) ∨ (0 ≤ x ∧ x ≤ 7 ∧ d < 0) ∨ (0 ≤ x ∧ x ≤ 7 ∧ 0 ≤ d ∧ q + 100 ≤ d) ∨ (0 ≤ x ∧ x ≤ 7 ∧ 0 ≤ d ∧ d < q + 100 ∧ n = 0) := by omega
    clear hd
    rcases hor with d1 | ⟨d1, d2⟩ | ⟨d1, d2, d3⟩ | ⟨d1, d2, d3, d4⟩ | ⟨d1, d2, d3, d4, d5⟩
    · go_enter Try.func70, Try.ntmps70
      go_wp2
      all_goals
        go_ret
        exact ⟨ret_bool HE.out, F.out.below⟩
    · go_enter Try.func70, Try.ntmps70
      go_wp2
      all_goals
        go_ret
        exact ⟨ret_bool HE.out, F.out.below⟩
    · go_enter Try.func70, Try.ntmps70
      go_wp2
      all_goals
        go_ret
        exact ⟨ret_bool HE.out, F.out.below⟩
    · go_enter Try.func70, Try.ntmps70
      go_wp2
      all_goals
        go_ret
        exact ⟨ret_bool HE.out, F.out.below⟩
    · subst d5
      go_enter Try.func70, Try.ntmps70
      go_wp2
      all_goals
        go_ret
        exact ⟨ret_bool HE.out, F.out.below⟩
end Go.Proofs.Ytehokkijfgiggaa
