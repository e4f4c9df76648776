/-
  Chapter 6: LanesValid, of the program and of the model. Conditions: none.
  Conditions: each lemma says them.
-/
import Derived.Test.YtanaeebjcbbagaaKjZ1
import Derived.Test.YtanaeebjcbbagaaKcZ1
import Derived.Deep.CutBlock
namespace Go.Proofs.Ytanaeebjcbbagaa
open Go.RowKit
theorem ro_no {q k : Int} {fs : List Flw} (h : ¬ RV q fs) : false = rlB k ⟨q, fs⟩ := (rl_no fun r => h r.rv).symm
theorem ro_bad {q k : Int} {fs : List Flw} {i j : Nat} {f : Flw} {p : Pkt} (hf : fs[i]? = some f) (hp : f.ws[j]? = some p) (h : p.lane ≠ k) : false = rlB k ⟨q, fs⟩ :=
  (rl_no fun r => h (r.ln f (List.mem_of_getElem? hf) p (List.mem_of_getElem? hp))).symm
def FlK (fs : List Flw) (K : Int) (k : Nat) : Prop := ∀ (j : Nat) (f : Flw), j < k → fs[j]? = some f → ∀ p ∈ f.ws, p.lane = K
theorem flk_all {q K : Int} {fs : List Flw} (hv : RV q fs) (h : FlK fs K fs.length) : true = rlB K ⟨q, fs⟩ := (rl_yes ⟨hv, fun f hf p hp => by
  obtain ⟨j, hj⟩ := List.getElem?_of_mem hf
  exact h j f (get_lt hj) hj p hp⟩).symm
theorem flk_step {fs : List Flw} {K : Int} {k : Nat} {f : Flw} (h : FlK fs K k) (hf : fs[k]? = some f) (hl : ∀ p ∈ f.ws, p.lane = K) : FlK fs K (k + 1) := fun j g hj hg => by
  by_cases e : j = k
  · subst e
    obtain rfl := Option.some.inj (hf.symm.trans hg)
    exact hl
  · exact h j g (by omega) hg
def PkK (ws : List Pkt) (K : Int) (k : Nat) : Prop := ∀ (j : Nat) (p : Pkt), j < k → ws[j]? = some p → p.lane = K
theorem pkk_step {ws : List Pkt} {K : Int} {k : Nat} {p : Pkt} (h : PkK ws K k) (hp : ws[k]? = some p) (hl : p.lane = K) : PkK ws K (k + 1) := fun j g hj hg => by
  by_cases e : j = k
  · subst e
    obtain rfl := Option.some.inj (hp.symm.trans hg)
    exact hl
  · exact h j g (by omega) hg
theorem pkk_all {ws : List Pkt} {K : Int} (h : PkK ws K ws.length) : ∀ p ∈ ws, p.lane = K := fun p hp => by
  obtain ⟨j, hj⟩ := List.getElem?_of_mem hp
  exact h j p (get_lt hj) hj
def RoRel (w : World) (fs : List Flw) (n : Nat) (K : Int) (i : Value) (wr : World) : Prop := ∃ k : Nat, k ≤ n ∧ i = .int .i64 (k : Int) ∧ FlK fs K k ∧ Below w.heap.size w wr
def RoIn (w : World) (ws : List Pkt) (n : Nat) (K : Int) (i : Value) (wr : World) : Prop := ∃ k : Nat, k ≤ n ∧ i = .int .i64 (k : Int) ∧ PkK ws K k ∧ Below w.heap.size w wr
set_option maxRecDepth 100000 in
set_option maxHeartbeats 2000000 in
theorem roI_any (q K : Int) (A : Option Addr) (n c : Nat) (fs : List Flw) (w : World) (h : FR w A n fs) :
    Calls Try.prog 76 #[.agg #[.int .i64 q, (.slice A n c)], .int .i64 K] w fun e w' => e = .returned (.bool (rlB K ⟨q, fs⟩)) ∧ Below w.heap.size w w' := by
  have H := Lib.hid h
  have HL := Lib.hid (fr_lenF h)
  have n4 := (fr_lenF h).2
  clear h
  rcases hv : rvB q fs with _ | _
  · have HV := Lib.hid (rv_not hv)
    have HE := Lib.hid hv
    clear hv
    go_enter Try.func76, Try.ntmps76
    go_wp2_with fail
    refine (rvI_any q A n c fs _ (fr_allocF H.out _)).mono ?_
    rintro e w1 ⟨rfl, hb⟩
    rw [HE.out]
    have B1 := Lib.hid (below_seq1 (Below.refl w.heap.size w) hb)
    clear hb
    go_wp2
    go_ret
    exact ⟨ret_bool (ro_no HV.out), B1.out⟩
  · have HV := Lib.hid (rv_iff.1 hv)
    have HE := Lib.hid hv
    clear hv
    go_enter Try.func76, Try.ntmps76
    go_wp2_with fail
    refine (rvI_any q A n c fs _ (fr_allocF H.out _)).mono ?_
    rintro e w1 ⟨rfl, hb⟩
    rw [HE.out]
    obtain ⟨o0, o1, -, -⟩ := blk_two (blk_below (blk_new w 100 #[.int .i64 q, (.slice A n c)]) hb (by simp))
    have B1 := Lib.hid (below_seq1 (Below.refl w.heap.size w) hb)
    clear hb HE
    go_wp2
    go_loopw [15] (fun i wr => RoRel w1 fs n K i wr) (fun i _ => n - (intOf i).toNat)
    case atStart => exact ⟨0, Nat.zero_le _, rfl, fun j f hj => absurd hj (by omega), Below.refl _ _⟩
    case round =>
      obtain ⟨k, hk, rfl, hF, hbl⟩ := hrel
      have HF := Lib.hid hF
      have BL := Lib.hid hbl
      by_cases hlt : k < n
      · obtain ⟨b, off, f, A1, n1, c1, rfl, hb0, hf, d0, d1, d2, hpr, hc1, hn1⟩ := fr_cells (fr_belowF H.out (below_seq B1.out hbl)) hlt
        have HFk := Lib.hid hf
        have HP := Lib.hid hpr
        have k0 : (0 : Int) ≤ (k : Int) := by omega
        have k1 : (k : Int) < (n : Int) := by omega
        clear hF hbl hf hpr
        go_wp2
        go_loopw [22] (fun i wr2 => RoIn wr f.ws n1 K i wr2) (fun i _ => n1 - (intOf i).toNat)
        case atStart => exact ⟨0, Nat.zero_le _, rfl, fun j p hj => absurd hj (by omega), below_alloc (Below.refl _ _) _⟩
        case round =>
          obtain ⟨j, hj, rfl, hPk, hb2⟩ := hrel
          have HPK := Lib.hid hPk
          have BL2 := Lib.hid hb2
          by_cases hlt2 : j < n1
          · obtain ⟨b2, off2, p, rfl, hb3, hp, q0, q1, q2, q3⟩ := pr_at (pr_below HP.out hb2) hlt2
            have HPj := Lib.hid hp
            have j0 : (0 : Int) ≤ (j : Int) := by omega
            have j1 : (j : Int) < (n1 : Int) := by omega
            clear hPk hb2 hp
            by_cases hl : p.lane = K
            · have e1 : (p.lane == K) = true := by simp [hl]
              have HL1 := Lib.hid hl
              clear hl
              go_wp2
              go_roundw
              case rel => exact ⟨j + 1, by omega, by go_num, pkk_step HPK.out HPj.out HL1.out, below_alloc BL2.out _⟩
              case measure => simp [intOf]; omega
            · have e1 : (p.lane == K) = false := by simp [hl]
              have HL1 := Lib.hid hl
              clear hl
              go_wp2
              go_ret
              exact ⟨ret_bool (ro_bad HFk.out HPj.out HL1.out), below_alloc (below_seq (below_seq B1.out BL.out) BL2.out) _⟩
          · obtain rfl : j = n1 := by omega
            have HX : Hid (∀ p ∈ f.ws, p.lane = K) := Lib.hid (pkk_all (by rw [HP.out.1]; exact hPk))
            clear hPk hb2
            go_wp2
            go_roundw
            case rel => exact ⟨k + 1, by omega, by go_num, flk_step HF.out HFk.out HX.out, below_seq BL.out BL2.out⟩
            case measure => simp [intOf]; omega
      · obtain rfl : k = n := by omega
        have HX : Hid (true = rlB K ⟨q, fs⟩) := Lib.hid (flk_all HV.out (by rw [HL.out.1]; exact hF))
        clear hF hbl
        go_wp2
        go_ret
        exact ⟨ret_bool HX.out, below_seq B1.out BL.out⟩
structure LvK (l : Ln) (k : Nat) : Prop where
  rb : ∀ (j : Nat) (r : Rb), j < k → l.rs[j]? = some r → RL (j : Int) r
  wt : ∀ (j : Nat) (y : Int), j < k → l.ws[j]? = some y → 1 ≤ y ∧ y ≤ 9
  cr : ∀ (j : Nat) (x y : Int), j < k → l.cs[j]? = some x → l.ws[j]? = some y → 0 ≤ x ∧ x ≤ y
theorem lvk_zero (l : Ln) : LvK l 0 := ⟨fun j _ h => absurd h (by omega), fun j _ h => absurd h (by omega), fun j _ _ h => absurd h (by omega)⟩
theorem lvk_step {l : Ln} {k : Nat} {r : Rb} {x y : Int} (h : LvK l k) (hr : l.rs[k]? = some r) (hx : l.cs[k]? = some x) (hy : l.ws[k]? = some y) (h1 : RL (k : Int) r) (h2 : 1 ≤ y ∧ y ≤ 9) (h3 : 0 ≤ x ∧ x ≤ y) : LvK l (k + 1) := by
  refine ⟨fun j r' hj e => ?_, fun j y' hj e => ?_, fun j x' y' hj e1 e2 => ?_⟩
  · by_cases ej : j = k
    · subst ej
      obtain rfl := Option.some.inj (hr.symm.trans e)
      exact h1
    · exact h.rb j r' (by omega) e
  · by_cases ej : j = k
    · subst ej
      obtain rfl := Option.some.inj (hy.symm.trans e)
      exact h2
    · exact h.wt j y' (by omega) e
  · by_cases ej : j = k
    · subst ej
      obtain rfl := Option.some.inj (hx.symm.trans e1)
      obtain rfl := Option.some.inj (hy.symm.trans e2)
      exact h3
    · exact h.cr j x' y' (by omega) e1 e2
theorem lvk_all {l : Ln} (h : LvK l 4) (h0 : l.rs.length = 4) (h1 : l.ws.length = 4) (h2 : l.cs.length = 4) : true = lvB l :=
  (lv_yes ⟨h0, h1, h2, fun k r e => h.rb k r (by have := get_lt e; omega) e, fun k y e => h.wt k y (by have := get_lt e; omega) e, fun k x y e1 e2 => h.cr k x y (by have := get_lt e1; omega) e1 e2⟩).symm
theorem lv_len {l : Ln} (h : ¬ (l.rs.length = 4 ∧ l.ws.length = 4 ∧ l.cs.length = 4)) : false = lvB l := (lv_no fun v => h ⟨v.n0, v.n1, v.n2⟩).symm
theorem lv_wt {l : Ln} {k : Nat} {y : Int} (hy : l.ws[k]? = some y) (h : ¬ (1 ≤ y ∧ y ≤ 9)) : false = lvB l := (lv_no fun v => h (v.wt k y hy)).symm
theorem lv_cr {l : Ln} {k : Nat} {x y : Int} (hx : l.cs[k]? = some x) (hy : l.ws[k]? = some y) (h : ¬ (0 ≤ x ∧ x ≤ y)) : false = lvB l := (lv_no fun v => h (v.cr k x y hx hy)).symm
theorem lv_rb {l : Ln} {k : Nat} {r : Rb} (hr : l.rs[k]? = some r) (h : ¬ RL (k : Int) r) : false = lvB l := (lv_no fun v => h (v.rb k r hr)).symm
def LnRel (w : World) (l : Ln) (cs : Array Value) (i : Value) (wr : World) : Prop := ∃ k : Nat, k ≤ 4 ∧ i = .int .i64 (k : Int) ∧ LvK l k ∧ Blk wr w.heap.size 35 cs ∧ Below w.heap.size w wr
set_option maxRecDepth 100000 in
set_option maxHeartbeats 2000000 in
theorem lanI_any (A : Option Addr) (n c : Nat) (B : Option Addr) (m d : Nat) (C : Option Addr) (o e : Nat) (l : Ln) (w : World) (h : LR w A n B m C o l) :
    Calls Try.prog 47 #[.agg #[.slice A n c, .slice B m d, .slice C o e]] w fun e w' => e = .returned (.bool (lvB l)) ∧ Below w.heap.size w w' := by
  have H := Lib.hid h
  have HL := Lib.hid (lr_len h)
  have B0 := Lib.hid (below_alloc (Below.refl w.heap.size w) (.cells #[.slice A n c, .slice B m d, .slice C o e] 35))
  have O0 := Lib.hid (blk_new w 35 #[.slice A n c, .slice B m d, .slice C o e])
  clear h
  by_cases hn : ¬ n = 4
  · have q1 : ¬ ((n : Nat) : Int) = 4 := by omega
    have HE := Lib.hid (show false = lvB l from lv_len (by have := HL.out; omega))
    clear hn
    go_enter Try.func47, Try.ntmps47
    go_wp2
    go_ret
    exact ⟨ret_bool HE.out, B0.out⟩
  by_cases hm : ¬ m = 4
  · have q1 : ¬ ((m : Nat) : Int) = 4 := by omega
    have q2 : n ≤ 4 := by omega
    have q3 : 4 ≤ n := by omega
    have HE := Lib.hid (show false = lvB l from lv_len (by have := HL.out; omega))
    clear hm hn
    go_enter Try.func47, Try.ntmps47
    go_wp2
    go_ret
    exact ⟨ret_bool HE.out, B0.out⟩
  by_cases ho : ¬ o = 4
  · have q1 : ¬ ((o : Nat) : Int) = 4 := by omega
    have q2 : n ≤ 4 := by omega
    have q3 : 4 ≤ n := by omega
    have q4 : m ≤ 4 := by omega
    have q5 : 4 ≤ m := by omega
    have HE := Lib.hid (show false = lvB l from lv_len (by have := HL.out; omega))
    clear ho hn hm
    go_enter Try.func47, Try.ntmps47
    go_wp2
    go_ret
    exact ⟨ret_bool HE.out, B0.out⟩
  replace hn : n = 4 := by omega
  replace hm : m = 4 := by omega
  replace ho : o = 4 := by omega
  subst hn hm ho
  go_enter Try.func47, Try.ntmps47
  go_wp2
  go_loopw [24] (fun i wr => LnRel w l #[.slice A 4 c, .slice B 4 d, .slice C 4 e] i wr) (fun i _ => 4 - (intOf i).toNat)
  case atStart => exact ⟨0, Nat.zero_le _, rfl, lvk_zero l, O0.out, B0.out⟩
  case round =>
    obtain ⟨k, hk, rfl, hV, hO, hbl⟩ := hrel
    have HV := Lib.hid hV
    have BL := Lib.hid hbl
    have O1 := Lib.hid hO
    have zO := blk_lt hO
    obtain ⟨⟨o0, o1, o2⟩, -⟩ := blk_three hO
    by_cases hlt : k < 4
    · have LW := lr_below H.out hbl
      obtain ⟨b1, f1, y, rfl, hb1, hy, c1'⟩ := nr_at LW.wt hlt
      obtain ⟨b2, f2, x, rfl, hb2, hx, c2'⟩ := nr_at LW.cr hlt
      obtain ⟨b3, f3, r, A5, n5, c5, rfl, hb3, hr, d0, d1, hF⟩ := rr_at LW.r hlt
      have HY := Lib.hid hy
      have HX := Lib.hid hx
      have HR := Lib.hid hr
      have FR5 := Lib.hid hF
      have k0 : (0 : Int) ≤ (k : Int) := by omega
      have k1 : (k : Int) < 4 := by omega
      clear hV hO hbl LW hy hx hr hF
      rcases hw1 : inB y 1 9 with _ | _
      · have HE := Lib.hid (show false = lvB l from lv_wt HY.out (by simpa [inB] using hw1))
        go_wp2_with (go_at_call 43; refine (within_any _ _ _ _).mono ?_; rintro e w' ⟨rfl, rfl⟩; rw [hw1])
        go_ret
        exact ⟨ret_bool HE.out, BL.out⟩
      rcases hw2 : inB x 0 y with _ | _
      · have HE := Lib.hid (show false = lvB l from lv_cr HX.out HY.out (by simpa [inB] using hw2))
        go_wp2_with (go_at_call 43; refine (within_any _ _ _ _).mono ?_; rintro e w' ⟨rfl, rfl⟩; first | rw [hw1] | rw [hw2])
        go_ret
        exact ⟨ret_bool HE.out, BL.out⟩
      rcases hr3 : rlB (k : Int) ⟨r.q, r.fs⟩ with _ | _
      · have HE := Lib.hid (show false = lvB l from lv_rb HR.out (fun h => by rw [rl_yes h] at hr3; cases hr3))
        have HR3 := Lib.hid hr3
        clear hr3
        go_wp2_with (first
          | (go_at_call 43; refine (within_any _ _ _ _).mono ?_; rintro e w' ⟨rfl, rfl⟩; first | rw [hw1] | rw [hw2])
          | (go_at_call 76; refine (roI_any r.q (k : Int) A5 n5 c5 r.fs _ FR5.out).mono ?_; rintro e w3 ⟨rfl, hb4⟩; rw [HR3.out]; have B3 := Lib.hid (below_seq BL.out hb4); clear hb4))
        go_ret
        exact ⟨ret_bool HE.out, B3.out⟩
      · have HR3 := Lib.hid hr3
        have HK : Hid (LvK l (k + 1)) := Lib.hid (lvk_step HV.out HR.out HX.out HY.out (rl_iff.1 hr3) (by simpa [inB] using hw1) (by simpa [inB] using hw2))
        clear hr3
        go_wp2_with (first
          | (go_at_call 43; refine (within_any _ _ _ _).mono ?_; rintro e w' ⟨rfl, rfl⟩; first | rw [hw1] | rw [hw2])
          | (go_at_call 76; refine (roI_any r.q (k : Int) A5 n5 c5 r.fs _ FR5.out).mono ?_; rintro e w3 ⟨rfl, hb4⟩; rw [HR3.out]; have B3 := Lib.hid (below_seq BL.out hb4); have O3 := Lib.hid (blk_below O1.out hb4 zO); clear hb4))
        go_roundw
        case rel => exact ⟨k + 1, by omega, by go_num, HK.out, O3.out, B3.out⟩
        case measure => simp [intOf]; omega
    · obtain rfl : k = 4 := by omega
      have HE := Lib.hid (show true = lvB l from lvk_all HV.out HL.out.1 HL.out.2.1 HL.out.2.2)
      clear hV hO hbl
      go_wp2
      go_ret
      exact ⟨ret_bool HE.out, BL.out⟩
end Go.Proofs.Ytanaeebjcbbagaa
