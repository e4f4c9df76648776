/-
  Chapter 5: validity of robins: what the program's function and the model's return. Conditions: a flow has at most 4000000000 packets.
-/
import Derived.Test.YtehokkijfgiggaaR2
namespace Go.Proofs.Ytehokkijfgiggaa
open Go.RowKit

theorem al_init {w : World} : ∀ {L M : List Iv} {lo : Nat}, Al lo (L ++ M) w → Al lo L w
  | [], _, _, h => al_lo h
  | _ :: _, _, _, ⟨h1, h3, h4, h5⟩ => ⟨h1, h3, h4, al_init h5⟩
theorem fm_init {w w1 : World} {L M : List Iv} (h : Fm w (L ++ M) w1) : Fm w L w1 := ⟨h.below, al_init h.al⟩
def hasP (fs : List Flw) (x : Int) : Bool := fs.any (fun f => f.peer == x)
def seen8 (fs : List Flw) : Array Value := #[.bool (hasP fs 0), .bool (hasP fs 1), .bool (hasP fs 2), .bool (hasP fs 3), .bool (hasP fs 4), .bool (hasP fs 5), .bool (hasP fs 6), .bool (hasP fs 7)]
theorem seen8_nil : seen8 [] = #[.bool false, .bool false, .bool false, .bool false, .bool false, .bool false, .bool false, .bool false] := rfl
theorem seen8_get (fs : List Flw) (j : Nat) (h : j < 8) : (seen8 fs)[j]? = some (.bool (hasP fs (j : Int))) := by
  have : j = 0 ∨ j = 1 ∨ j = 2 ∨ j = 3 ∨ j = 4 ∨ j = 5 ∨ j = 6 ∨ j = 7 := by omega
  rcases this with rfl | rfl | rfl | rfl | rfl | rfl | rfl | rfl <;> rfl
theorem hasP_hit {fs : List Flw} {k : Nat} {f : Flw} {x : Int} (h : fs[k]? = some f) (hx : f.peer = x) : hasP (fs.take (k + 1)) x = true := by
  rw [hasP, List.take_add_one, h]; simp [List.any_append, hx]
theorem hasP_miss {fs : List Flw} {k : Nat} {f : Flw} {x : Int} (h : fs[k]? = some f) (hx : f.peer ≠ x) : hasP (fs.take (k + 1)) x = hasP (fs.take k) x := by
  rw [hasP, List.take_add_one, h]; simp [List.any_append, hx, hasP]
theorem seen8_set {fs : List Flw} {k : Nat} {f : Flw} {j : Nat} (h : fs[k]? = some f) (hj : f.peer = (j : Int)) (h8 : j < 8) :
    (seen8 (fs.take k)).setIfInBounds j (.bool true) = seen8 (fs.take (k + 1)) := by
  have hx : ∀ x : Int, (j : Int) ≠ x → hasP (fs.take (k + 1)) x = hasP (fs.take k) x := fun x hx => hasP_miss h (by rw [hj]; exact hx)
  have hy := hasP_hit h hj
  have : j = 0 ∨ j = 1 ∨ j = 2 ∨ j = 3 ∨ j = 4 ∨ j = 5 ∨ j = 6 ∨ j = 7 := by omega
  rcases this with rfl | rfl | rfl | rfl | rfl | rfl | rfl | rfl
  · simp only [seen8]; rw [show hasP (fs.take (k + 1)) 0 = true from hy, hx 1 (by decide), hx 2 (by decide), hx 3 (by decide), hx 4 (by decide), hx 5 (by decide), hx 6 (by decide), hx 7 (by decide)]; rfl
  · simp only [seen8]; rw [show hasP (fs.take (k + 1)) 1 = true from hy, hx 0 (by decide), hx 2 (by decide), hx 3 (by decide), hx 4 (by decide), hx 5 (by decide), hx 6 (by decide), hx 7 (by decide)]; rfl
  · simp only [seen8]; rw [show hasP (fs.take (k + 1)) 2 = true from hy, hx 1 (by decide), hx 0 (by decide), hx 3 (by decide), hx 4 (by decide), hx 5 (by decide), hx 6 (by decide), hx 7 (by decide)]; rfl
  · simp only [seen8]; rw [show hasP (fs.take (k + 1)) 3 = true from hy, hx 1 (by decide), hx 2 (by decide), hx 0 (by decide), hx 4 (by decide), hx 5 (by decide), hx 6 (by decide), hx 7 (by decide)]; rfl
  · simp only [seen8]; rw [show hasP (fs.take (k + 1)) 4 = true from hy, hx 1 (by decide), hx 2 (by decide), hx 3 (by decide), hx 0 (by decide), hx 5 (by decide), hx 6 (by decide), hx 7 (by decide)]; rfl
  · simp only [seen8]; rw [show hasP (fs.take (k + 1)) 5 = true from hy, hx 1 (by decide), hx 2 (by decide), hx 3 (by decide), hx 4 (by decide), hx 0 (by decide), hx 6 (by decide), hx 7 (by decide)]; rfl
  · simp only [seen8]; rw [show hasP (fs.take (k + 1)) 6 = true from hy, hx 1 (by decide), hx 2 (by decide), hx 3 (by decide), hx 4 (by decide), hx 5 (by decide), hx 0 (by decide), hx 7 (by decide)]; rfl
  · simp only [seen8]; rw [show hasP (fs.take (k + 1)) 7 = true from hy, hx 1 (by decide), hx 2 (by decide), hx 3 (by decide), hx 4 (by decide), hx 5 (by decide), hx 6 (by decide), hx 0 (by decide)]; rfl
/-- the first k flows are valid, and of different peers -/
structure RvK (q : Int) (fs : List Flw) (k : Nat) : Prop where
  all : ∀ j f, j < k → fs[j]? = some f → VF q f
  apart : Apart (fs.take k)
theorem rvk_zero (q : Int) (fs : List Flw) : RvK q fs 0 := ⟨fun j f hj => absurd hj (by omega), by rw [List.take_zero]; exact List.Pairwise.nil⟩
theorem rvk_step {q : Int} {fs : List Flw} {k : Nat} {f : Flw} (h : RvK q fs k) (hf : fs[k]? = some f) (hv : VF q f) (hp : ∀ g ∈ fs.take k, g.peer ≠ f.peer) : RvK q fs (k + 1) :=
  ⟨fun j g hj hg => by
    by_cases e : j = k
    · subst e
      rw [hf] at hg
      rw [← Option.some.inj hg]; exact hv
    · exact h.all j g (by omega) hg, by
    rw [List.take_add_one, hf]
    exact List.pairwise_append.2 ⟨h.apart, List.pairwise_singleton _ _, fun a ha b hb => by
      obtain rfl : b = f := by simpa using hb
      exact hp a ha⟩⟩
theorem rvk_all {q : Int} {fs : List Flw} {n : Nat} (h : RvK q fs n) (hn : fs.length = n) (h0 : 1 ≤ q) (h1 : q ≤ 500) : true = rvB q fs := by
  refine (rv_yes ⟨h0, h1, fun f hf => ?_, ?_⟩).symm
  · obtain ⟨j, hj, e⟩ := List.getElem_of_mem hf
    exact h.all j f (by omega) (by rw [List.getElem?_eq_getElem hj, e])
  · have := h.apart
    rwa [List.take_of_length_le (by omega)] at this
theorem rv_bad {q : Int} {fs : List Flw} {k : Nat} {f : Flw} (hf : fs[k]? = some f) (hv : vfB q f = false) : false = rvB q fs :=
  (rv_no fun h => by rw [vf_iff.2 (h.all f (List.mem_of_getElem? hf))] at hv; cases hv).symm
theorem rv_twice {q : Int} {fs : List Flw} {k : Nat} {f g : Flw} (hf : fs[k]? = some f) (hg : g ∈ fs.take k) (hp : g.peer = f.peer) : false = rvB q fs :=
  (rv_no fun h => by
    obtain ⟨j, hj, e⟩ := List.getElem_of_mem hg
    have hjk : j < k := by rw [List.length_take] at hj; omega
    have hgj : fs[j]? = some g := by
      have : (fs.take k)[j]? = some g := by rw [List.getElem?_eq_getElem hj, e]
      rwa [List.getElem?_take_of_lt hjk] at this
    have := apart_at h.apart hgj hf hp
    omega).symm
theorem rv_quantum {q : Int} {fs : List Flw} (h : ¬ (1 ≤ q ∧ q ≤ 500)) : false = rvB q fs := (rv_no fun v => h ⟨v.q0, v.q1⟩).symm
theorem rv_many {q : Int} {fs : List Flw} (h : 8 < fs.length) : false = rvB q fs := (rv_no fun v => by have := rv_len v; omega).symm
def RvI (w : World) (q : Int) (A : Option Addr) (c : Nat) (fs : List Flw) (n : Nat) (i : Value) (wr : World) : Prop :=
  ∃ k : Nat, k ≤ n ∧ i = .int .i64 (k : Int) ∧ RvK q fs k ∧ Fm w [⟨w.heap.size, w.heap.size + 1, BoxP w.heap.size 25 #[.int .i64 q, (.slice A n c)]⟩, ⟨w.heap.size + 1, w.heap.size + 2, BoxP (w.heap.size + 1) 68 (seen8 (fs.take k))⟩] wr
set_option maxHeartbeats 2000000 in
theorem rvI_any (q : Int) (A : Option Addr) (n c : Nat) (fs : List Flw) (w : World) (h : FR w A n fs) :
    Calls Try.prog 23 #[.agg #[.int .i64 q, (.slice A n c)]] w fun e w' => e = .returned (.bool (rvB q fs)) ∧ Below w.heap.size w w' := by
  have H := Lib.hid h
  have HL := Lib.hid (fr_lenF h)
  have n4 : n ≤ 4000000000 := HL.out.2
  clear h
  by_cases hq : 1 ≤ q ∧ q ≤ 500
  · obtain ⟨q0, q1⟩ := hq
    have hin : inB q 1 500 = true := by simp [inB, q0, q1]
    have R0 : Hid (RvI w q A c fs n (.int .i64 0) ((w.alloc (.cells #[.int .i64 q, (.slice A n c)] 25)).alloc (.cells #[(.bool false), (.bool false), (.bool false), (.bool false), (.bool false), (.bool false), (.bool false), (.bool false)] 68))) := Lib.hid ⟨0, Nat.zero_le _, rfl, rvk_zero _ _, fm_two w _ _ _ _⟩
    go_enter Try.func23, Try.ntmps23
    go_wp2_with (go_at_call 56; refine (within_any _ _ _ _).mono ?_; rintro e w' ⟨rfl, rfl⟩; rw [hin])
    clear hin
    go_loopw [13] (fun i wr => RvI w q A c fs n i wr) (fun i _ => n - (intOf i).toNat)
    case atStart => exact R0.out
    case round =>
      obtain ⟨k, hk, rfl, hall, hF⟩ := hrel
      have HA := Lib.hid hall
      have HF0 := Lib.hid hF
      have hbl := hF.below
      have zb1 := blk_lt (fm_blk hF 0 rfl)
      have zb2 := blk_lt (fm_blk hF 1 rfl)
      obtain ⟨g0, g1, -⟩ := blk_two (fm_blk hF 0 rfl)
      clear R0 hall hF
      by_cases hlt : k < n
      · obtain ⟨b, off, f, A1, n1, c1', rfl, hb, hf, c0, c1, c2, hpr, hc1, hn1⟩ := fr_cells (fr_belowF H.out hbl) hlt
        have HF := Lib.hid hf
        have HP := Lib.hid hpr
        obtain ⟨x, d, ws⟩ := f
        simp only at c0 c1 c2
        have FB : Hid (Fm w [⟨w.heap.size, w.heap.size + 1, BoxP w.heap.size 25 #[.int .i64 q, (.slice (some ⟨b, off, none⟩) n c)]⟩, ⟨w.heap.size + 1, w.heap.size + 2, BoxP (w.heap.size + 1) 68 (seen8 (fs.take k))⟩, ⟨wr.heap.size, wr.heap.size + 1, BoxP wr.heap.size 40 #[.int .i64 x, .int .i64 d, (.slice A1 n1 c1')]⟩] (wr.alloc (.cells #[.int .i64 x, .int .i64 d, (.slice A1 n1 c1')] 40))) := Lib.hid (fm_push HF0.out rfl _ _)
        clear hf hpr hbl
        rcases hv : vfB q ⟨x, d, ws⟩ with _ | _
        · have HE := Lib.hid (rv_bad HF.out hv)
          have HV := Lib.hid hv
          clear hv
          go_wp2_with (go_at_call 57; refine (flI_any q x d ws A1 n1 c1' _ (pr_alloc HP.out _) hn1 q0 q1).mono ?_; rintro e w3 ⟨rfl, hb3⟩; rw [HV.out]; have F3 := Lib.hid (fm_below FB.out hb3); clear hb3)
          go_ret
          exact ⟨ret_bool HE.out, F3.out.below⟩
        · have HV := Lib.hid hv
          have hvf := vf_iff.1 hv
          have hp0 := hvf.p0
          have hp7 := hvf.p7
          simp only at hp0 hp7
          clear hv hvf
          obtain ⟨j, rfl⟩ := Int.eq_ofNat_of_zero_le hp0
          have hj8 : j < 8 := by omega
          have hj8i : (j : Int) < 8 := by omega
          clear hp0 hp7
          rcases hs : hasP (fs.take k) (j : Int) with _ | _
          · have HS : Hid (∀ g ∈ fs.take k, g.peer ≠ (j : Int)) := Lib.hid fun g hg e => by
              have : hasP (fs.take k) (j : Int) = true := List.any_eq_true.2 ⟨g, hg, by simp [e]⟩
              rw [hs] at this; cases this
            have HT := Lib.hid hs
            have HST := Lib.hid (seen8_set HF.out rfl hj8)
            clear hs
            go_wp2_with (go_at_call 57
                         refine (flI_any q (j : Int) d ws A1 n1 c1' _ (pr_alloc HP.out _) hn1 q0 q1).mono ?_
                         rintro e w3 ⟨rfl, hb3⟩
                         rw [HV.out]
                         have F3 := Lib.hid (fm_below FB.out hb3)
                         obtain ⟨⟨d0, d1, d2⟩, -⟩ := blk_three (fm_blk F3.out 2 rfl)
                         have e0 : w3.cell? ⟨w.heap.size + 1, j, none⟩ = some (.bool false) := (by rw [blk_cell (fm_blk F3.out 1 rfl), seen8_get _ j hj8, HT.out])
                         have e1 : w3.frozen? ⟨w.heap.size + 1, j, none⟩ = false := blk_free (fm_blk F3.out 1 rfl) j
                         clear hb3)
            go_roundw
            case rel =>
              refine ⟨k + 1, by omega, by go_num, rvk_step HA.out HF.out (vf_iff.1 HV.out) HS.out, ?_⟩
              have := fm_init (L := [_, _]) (M := [_]) (fm_cell F3.out 1 rfl ⟨Nat.le_refl _, Nat.lt_succ_self _⟩ j (.bool true))
              rw [HST.out] at this
              exact this
            case measure => simp [intOf]; omega
          · have HE : Hid (false = rvB q fs) := Lib.hid (by
              obtain ⟨g, hg, e⟩ := List.any_eq_true.1 hs
              exact rv_twice HF.out hg (by simpa using e))
            have HT := Lib.hid hs
            clear hs
            go_wp2_with (go_at_call 57
                         refine (flI_any q (j : Int) d ws A1 n1 c1' _ (pr_alloc HP.out _) hn1 q0 q1).mono ?_
                         rintro e w3 ⟨rfl, hb3⟩
                         rw [HV.out]
                         have F3 := Lib.hid (fm_below FB.out hb3)
                         obtain ⟨⟨d0, d1, d2⟩, -⟩ := blk_three (fm_blk F3.out 2 rfl)
                         have e0 : w3.cell? ⟨w.heap.size + 1, j, none⟩ = some (.bool true) := (by rw [blk_cell (fm_blk F3.out 1 rfl), seen8_get _ j hj8, HT.out])
                         clear hb3)
            go_ret
            exact ⟨ret_bool HE.out, F3.out.below⟩
      · obtain rfl : k = n := by omega
        have HE := Lib.hid (rvk_all HA.out HL.out.1 q0 q1)
        clear hbl
        go_wp2
        go_ret
        exact ⟨ret_bool HE.out, HF0.out.below⟩
  · have HE := Lib.hid (rv_quantum (fs := fs) hq)
    have hin : inB q 1 500 = false := by simp only [inB, decide_eq_false_iff_not]; exact hq
    have B0 := Lib.hid (below_alloc (Below.refl w.heap.size w) (.cells #[.int .i64 q, (.slice A n c)] 25))
    clear hq
    go_enter Try.func23, Try.ntmps23
    go_wp2_with (go_at_call 56; refine (within_any _ _ _ _).mono ?_; rintro e w' ⟨rfl, rfl⟩; rw [hin])
    go_ret
    exact ⟨ret_bool HE.out, B0.out⟩
def RvS (w : World) (q : Int) (A : Option Addr) (c : Nat) (fs : List Flw) (n : Nat) (i : Value) (wr : World) : Prop :=
  ∃ k : Nat, k ≤ n ∧ i = .int .i64 (k : Int) ∧ RvK q fs k ∧ Fm w [⟨w.heap.size, w.heap.size + 1, BoxP w.heap.size 25 #[.int .i64 q, (.slice A n c)]⟩] wr
def RvSi (w : World) (q : Int) (A : Option Addr) (c : Nat) (fs : List Flw) (n : Nat) (k : Nat) (x : Int) (i : Value) (wr : World) : Prop :=
  ∃ m : Nat, m ≤ k ∧ i = .int .i64 (m : Int) ∧ (∀ j g, j < m → fs[j]? = some g → ¬ g.peer = x) ∧ Fm w [⟨w.heap.size, w.heap.size + 1, BoxP w.heap.size 25 #[.int .i64 q, (.slice A n c)]⟩] wr
theorem apart_take {fs : List Flw} {k : Nat} {x : Int} (h : ∀ j g, j < k → fs[j]? = some g → ¬ g.peer = x) : ∀ g ∈ fs.take k, g.peer ≠ x := fun g hg => by
  obtain ⟨j, hj, e⟩ := List.getElem_of_mem hg
  have hjk : j < k := by rw [List.length_take] at hj; omega
  have : (fs.take k)[j]? = some g := by rw [List.getElem?_eq_getElem hj, e]
  rw [List.getElem?_take_of_lt hjk] at this
  exact h j g hjk this
set_option maxHeartbeats 4000000 in
theorem rvS_any (q : Int) (A : Option Addr) (n c : Nat) (fs : List Flw) (w : World) (h : FR w A n fs) :
    Calls Try.prog 36 #[.agg #[.int .i64 q, (.slice A n c)]] w fun e w' => e = .returned (.bool (rvB q fs)) ∧ Below w.heap.size w w' := by
  have H := Lib.hid h
  have HL := Lib.hid (fr_lenF h)
  have n4 : n ≤ 4000000000 := HL.out.2
  have F := Lib.hid (fm_one w 25 #[.int .i64 q, (.slice A n c)])
  clear h
  by_cases hq : 1 ≤ q ∧ q ≤ 500 ∧ n ≤ 8
  · obtain ⟨q0, q1, q2⟩ := hq
    have R0 : Hid (RvS w q A c fs n (.int .i64 0) (w.alloc (.cells #[.int .i64 q, (.slice A n c)] 25))) := Lib.hid ⟨0, Nat.zero_le _, rfl, rvk_zero _ _, F.out⟩
    have y1 : decide (q < 1) = false := by simp; omega
    have y2 : decide (500 < q) = false := by simp; omega
    have y3 : decide (8 < (n : Int)) = false := by simp; omega
    clear F
    go_enter Try.func36, Try.ntmps36
    go_wp2
    clear y1 y2 y3
    go_loopw [3] (fun i wr => RvS w q A c fs n i wr) (fun i _ => n - (intOf i).toNat)
    case atStart => exact R0.out
    case round =>
      obtain ⟨k, hk, rfl, hall, hF⟩ := hrel
      have HA := Lib.hid hall
      have HF0 := Lib.hid hF
      have hbl := hF.below
      have zb1 := blk_lt (fm_blk hF 0 rfl)
      obtain ⟨g0, g1, -⟩ := blk_two (fm_blk hF 0 rfl)
      clear R0 hall hF
      by_cases hlt : k < n
      · obtain ⟨b, off, f, A1, n1, c1', rfl, hb, hf, c0, c1, c2, hpr, hc1, hn1⟩ := fr_cells (fr_belowF H.out hbl) hlt
        have HF := Lib.hid hf
        have HP := Lib.hid hpr
        obtain ⟨x, d, ws⟩ := f
        simp only at c0 c1 c2
        have k0 : (0 : Int) ≤ (k : Int) := by omega
        have k1 : (k : Int) < (n : Int) := by omega
        have K0 : (wr.drew.cell? ⟨w.heap.size, 0, none⟩ = some (.int .i64 q) ∧ wr.drew.cell? ⟨w.heap.size, 1, none⟩ = some (.slice (some ⟨b, off, none⟩) n c)) ∧ (wr.drew.cell? ⟨b, off + k * 3, none⟩ = some (.int .i64 x) ∧ wr.drew.cell? ⟨b, off + k * 3 + 1, none⟩ = some (.int .i64 d) ∧ wr.drew.cell? ⟨b, off + k * 3 + 2, none⟩ = some (.slice A1 n1 c1')) ∧ Fm w [⟨w.heap.size, w.heap.size + 1, BoxP w.heap.size 25 #[.int .i64 q, (.slice (some ⟨b, off, none⟩) n c)]⟩] wr.drew := ⟨⟨g0, g1⟩, ⟨c0, c1, c2⟩, fm_drew HF0.out⟩
        clear hf hpr hbl
        rcases hv : vfB q ⟨x, d, ws⟩ with _ | _
        · have HE := Lib.hid (rv_bad HF.out hv)
          have HV := Lib.hid hv
          clear hv
          go_wp2_with fail
          go_region_held3 (fun w' => (w'.cell? ⟨w.heap.size, 0, none⟩ = some (.int .i64 q) ∧ w'.cell? ⟨w.heap.size, 1, none⟩ = some (.slice (some ⟨b, off, none⟩) n c)) ∧ (w'.cell? ⟨b, off + k * 3, none⟩ = some (.int .i64 x) ∧ w'.cell? ⟨b, off + k * 3 + 1, none⟩ = some (.int .i64 d) ∧ w'.cell? ⟨b, off + k * 3 + 2, none⟩ = some (.slice A1 n1 c1')) ∧ Fm w [⟨w.heap.size, w.heap.size + 1, BoxP w.heap.size 25 #[.int .i64 q, (.slice (some ⟨b, off, none⟩) n c)]⟩] w')
            (first | (with_reducible assumption) | fail)
            (first
              | (go_at_call 70
                 refine (flS_any q x d ws A1 n1 c1' _ (pr_drewN HP.out 1) hn1 q0 q1).mono ?_
                 rintro e w3 ⟨rfl, hb3⟩
                 rw [HV.out]
                 have F3 := Lib.hid (fm_below (fm_drew HF0.out) hb3)
                 obtain ⟨t0, t1, -⟩ := blk_two (fm_blk F3.out 0 rfl)
                 have K3 := (And.intro (And.intro t0 t1) (And.intro (And.intro (((bcell hb3).1 b _ hb).trans c0) (And.intro (((bcell hb3).1 b _ hb).trans c1) (((bcell hb3).1 b _ hb).trans c2))) F3.out))
                 clear hb3))
          all_goals
            go_wp2
            go_ret
            exact ⟨ret_bool HE.out, F3.out.below⟩
        · have HV := Lib.hid hv
          clear hv
          go_wp2_with fail
          go_region_held3 (fun w' => (w'.cell? ⟨w.heap.size, 0, none⟩ = some (.int .i64 q) ∧ w'.cell? ⟨w.heap.size, 1, none⟩ = some (.slice (some ⟨b, off, none⟩) n c)) ∧ (w'.cell? ⟨b, off + k * 3, none⟩ = some (.int .i64 x) ∧ w'.cell? ⟨b, off + k * 3 + 1, none⟩ = some (.int .i64 d) ∧ w'.cell? ⟨b, off + k * 3 + 2, none⟩ = some (.slice A1 n1 c1')) ∧ Fm w [⟨w.heap.size, w.heap.size + 1, BoxP w.heap.size 25 #[.int .i64 q, (.slice (some ⟨b, off, none⟩) n c)]⟩] w')
            (first | (with_reducible assumption) | fail)
            (first
              | (go_at_call 70
                 refine (flS_any q x d ws A1 n1 c1' _ (pr_drewN HP.out 1) hn1 q0 q1).mono ?_
                 rintro e w3 ⟨rfl, hb3⟩
                 rw [HV.out]
                 have F3 := Lib.hid (fm_below (fm_drew HF0.out) hb3)
                 obtain ⟨t0, t1, -⟩ := blk_two (fm_blk F3.out 0 rfl)
                 have K3 := (And.intro (And.intro t0 t1) (And.intro (And.intro (((bcell hb3).1 b _ hb).trans c0) (And.intro (((bcell hb3).1 b _ hb).trans c1) (((bcell hb3).1 b _ hb).trans c2))) F3.out))
                 clear hb3))
          all_goals
            clear K0 K3 t0 t1 c0 c1 c2 HP g0 g1
            have R1 : Hid (RvSi w q (some ⟨b, off, none⟩) c fs n k x (.int .i64 0) w3) := Lib.hid ⟨0, Nat.zero_le _, rfl, fun j g hj => absurd hj (by omega), F3.out⟩
            go_wp2
            go_loopw [4] (fun i wr => RvSi w q (some ⟨b, off, none⟩) c fs n k x i wr) (fun i _ => k - (intOf i).toNat)
            case atStart => exact R1.out
            case round =>
              obtain ⟨m, hm, rfl, hno, hG⟩ := hrel
              have HN := Lib.hid hno
              have HG := Lib.hid hG
              have hbl := hG.below
              have zb3 := blk_lt (fm_blk hG 0 rfl)
              obtain ⟨g0, g1, -⟩ := blk_two (fm_blk hG 0 rfl)
              clear R1 hno hG F3 HF0
              by_cases hlm : m < k
              · obtain ⟨b', off', f', A2, n2, c2', e1, hb', hf', d0, -⟩ := fr_cells (fr_belowF H.out hbl) (show m < n by omega)
                obtain ⟨b2, off2, f2, A3, n3, c3', e2, hb2, hf2, d1, -⟩ := fr_cells (fr_belowF H.out hbl) hlt
                obtain ⟨rfl, rfl⟩ : b = b' ∧ off = off' := by injection e1 with e1; injection e1 with a1 a2; exact ⟨a1, a2⟩
                obtain ⟨rfl, rfl⟩ : b = b2 ∧ off = off2 := by injection e2 with e2; injection e2 with a1 a2; exact ⟨a1, a2⟩
                obtain rfl : (⟨x, d, ws⟩ : Flw) = f2 := by have := HF.out; rw [hf2] at this; exact (Option.some.inj this).symm
                obtain ⟨x', d', ws'⟩ := f'
                simp only at d0 d1
                have HF' := Lib.hid hf'
                have m0 : (0 : Int) ≤ (m : Int) := by omega
                have m1 : (m : Int) < (n : Int) := by omega
                clear e1 e2 hf' hf2 hbl
                by_cases hx : x' = x
                · have hxb : (x' == x) = true := by simp [hx]
                  have HE : Hid (false = rvB q fs) := Lib.hid (rv_twice (g := ⟨x', d', ws'⟩) HF.out (by
                    refine List.mem_of_getElem? (i := m) ?_
                    rw [List.getElem?_take_of_lt hlm]; exact HF'.out) hx)
                  clear hx
                  go_wp2_with fail
                  go_quiet (fail)
                  go_wp2
                  go_ret
                  exact ⟨ret_bool HE.out, (fm_drewN HG.out _).below⟩
                · have hxb : (x' == x) = false := by simp [hx]
                  have HX := Lib.hid hx
                  clear hx
                  go_wp2_with fail
                  go_quiet (fail)
                  go_wp2
                  go_roundw
                  case rel => exact ⟨m + 1, by omega, by go_num, pl_step (f := ⟨x', d', ws'⟩) HN.out HF'.out HX.out, fm_drewN HG.out _⟩
                  case measure => simp [intOf]; omega
              · obtain rfl : m = k := by omega
                clear hbl
                go_wp2
                go_roundw
                case rel => exact ⟨m + 1, by omega, by go_num, rvk_step HA.out HF.out (vf_iff.1 HV.out) (apart_take HN.out), HG.out⟩
                case measure => simp [intOf]; omega
      · obtain rfl : k = n := by omega
        have HE := Lib.hid (rvk_all HA.out HL.out.1 q0 q1)
        clear hbl
        go_wp2
        go_ret
        exact ⟨ret_bool HE.out, HF0.out.below⟩
  · have HE : Hid (false = rvB q fs) := Lib.hid (by
      by_cases h8 : n ≤ 8
      · exact rv_quantum fun h => hq ⟨h.1, h.2, h8⟩
      · exact rv_many (by have := HL.out.1; omega))
    have hor : q < 1 ∨ (1 ≤ q ∧ 500 < q) ∨ (1 ≤ q ∧ q ≤ 500 ∧ 8 < n) := by omega
    clear hq
    rcases hor with d1 | ⟨d1, d2⟩ | ⟨d1, d2, d3⟩
    · have y1 : decide (q < 1) = true := by simp; omega
      go_enter Try.func36, Try.ntmps36
      go_wp2
      all_goals
        go_ret
        exact ⟨ret_bool HE.out, F.out.below⟩
    · have y1 : decide (q < 1) = false := by simp; omega
      have y2 : decide (500 < q) = true := by simp; omega
      go_enter Try.func36, Try.ntmps36
      go_wp2
      all_goals
        go_ret
        exact ⟨ret_bool HE.out, F.out.below⟩
    · have y1 : decide (q < 1) = false := by simp; omega
      have y2 : decide (500 < q) = false := by simp; omega
      have y3 : decide (8 < (n : Int)) = true := by simp; omega
      go_enter Try.func36, Try.ntmps36
      go_wp2
      all_goals
        go_ret
        exact ⟨ret_bool HE.out, F.out.below⟩
end Go.Proofs.Ytehokkijfgiggaa
