/-
  Chapter 8: how many bytes wait for each peer: what the program's waitingBytes and the model's l8Bytes return. Conditions: the lanes are valid.
  Conditions: each lemma says them.
-/
import Derived.Test.YtanaeebjcbbagaaKb3Z1
import Derived.Test.YtanaeebjcbbagaaKnZ1
namespace Go.Proofs.Ytanaeebjcbbagaa
open Go.RowKit
def byK (rs : List Rb) (fs : List Flw) : List Int := (List.range 8).map fun (i : Nat) => byR rs (i : Int) + sizeSum (wOf fs (i : Int))
theorem byK_get (rs : List Rb) (fs : List Flw) {k : Nat} (h : k < 8) : (byK rs fs)[k]? = some (byR rs (k : Int) + sizeSum (wOf fs (k : Int))) := by
  rw [byK, List.getElem?_map, List.getElem?_range h]; rfl
theorem byK_len (rs : List Rb) (fs : List Flw) : (byK rs fs).length = 8 := by simp [byK]
theorem byK_zero : byK [] [] = List.replicate 8 0 := by
  refine List.ext_getElem? fun j => ?_
  by_cases h : j < 8
  · rw [byK_get _ _ h, List.getElem?_replicate, if_pos h]; rfl
  · rw [List.getElem?_eq_none (by rw [byK_len]; omega), List.getElem?_eq_none (by simp; omega)]
theorem byK_all {l : Ln} (h : l.rs.length = 4) : byK (l.rs.take 4) [] = bys l := by
  rw [List.take_of_length_le (by omega)]
  refine List.ext_getElem? fun j => ?_
  by_cases hj : j < 8
  · rw [byK_get _ _ hj, bys_get _ hj]; simp [wOf, sizeSum]
  · rw [List.getElem?_eq_none (by rw [byK_len]; omega), List.getElem?_eq_none (by rw [bys_len]; omega)]
theorem byK_row {rs : List Rb} {k : Nat} {r : Rb} (h : rs[k]? = some r) : byK (rs.take k) r.fs = byK (rs.take (k + 1)) [] := by
  refine List.ext_getElem? fun j => ?_
  by_cases hj : j < 8
  · rw [byK_get _ _ hj, byK_get _ _ hj, byR_take h]; simp [wOf, sizeSum]
  · rw [List.getElem?_eq_none (by rw [byK_len]; omega), List.getElem?_eq_none (by rw [byK_len]; omega)]
theorem wOf_one (f : Flw) (x : Int) : wOf [f] x = if f.peer = x then f.ws else [] := by
  simp only [wOf]
theorem w_take {q : Int} {fs : List Flw} {t : Nat} {f : Flw} (hv : RV q fs) (h : fs[t]? = some f) (x : Int) : wOf (fs.take (t + 1)) x = if f.peer = x then f.ws else wOf (fs.take t) x := by
  rw [take_snoc _ _ _ h]
  by_cases hx : f.peer = x
  · rw [if_pos hx, w_append _ _ _ (fun g hg hgx => ?_), wOf_one, if_pos hx]
    obtain ⟨j, hj⟩ := List.getElem?_of_mem hg
    have hjt : j < t := by have := get_lt hj; rw [List.length_take] at this; omega
    rw [List.getElem?_take, if_pos hjt] at hj
    have := apart_at hv.apart hj h (hgx.trans hx.symm)
    omega
  · rw [if_neg hx, w_append2 _ _ _ (fun g hg hgx => ?_)]
    simp only [List.mem_cons, List.not_mem_nil, or_false] at hg
    subst hg
    exact hx hgx
theorem w_fresh {q : Int} {fs : List Flw} {t : Nat} {f : Flw} (hv : RV q fs) (h : fs[t]? = some f) : wOf (fs.take t) f.peer = [] := by
  refine w_none fun g hg hgx => ?_
  obtain ⟨j, hj⟩ := List.getElem?_of_mem hg
  have hjt : j < t := by have := get_lt hj; rw [List.length_take] at this; omega
  rw [List.getElem?_take, if_pos hjt] at hj
  have := apart_at hv.apart hj h hgx
  omega
theorem byK_step {q : Int} {rs : List Rb} {fs : List Flw} {t p : Nat} {f : Flw} (hv : RV q fs) (h : fs[t]? = some f) (hp : f.peer = (p : Int)) :
    (byK rs (fs.take t)).set p (byR rs (p : Int) + sizeSum f.ws) = byK rs (fs.take (t + 1)) := by
  have hp8 : p < 8 := by have := (hv.all f (List.mem_of_getElem? h)).p7; omega
  refine List.ext_getElem? fun j => ?_
  by_cases hj : j < 8
  · rw [byK_get _ _ hj, w_take hv h]
    by_cases hjp : p = j
    · subst hjp
      rw [List.getElem?_set_self (by rw [byK_len]; omega), if_pos hp]
    · rw [List.getElem?_set_ne hjp, byK_get _ _ hj, if_neg (by omega)]
  · rw [List.getElem?_eq_none (by rw [List.length_set, byK_len]; omega), List.getElem?_eq_none (by rw [byK_len]; omega)]
theorem w_bd {q : Int} {fs : List Flw} (hv : RV q fs) (x : Int) : 0 ≤ sizeSum (wOf fs x) ∧ sizeSum (wOf fs x) ≤ 6400 := by
  rcases w_mem_of (fs := fs) (x := x) with e | ⟨f, hf, -, e⟩
  · rw [e]; simp [sizeSum]
  · rw [e]
    have hk := ok_of (hv.all f hf).ok
    have := sum_bound f.ws hk.2
    omega
theorem byR_bd {rs : List Rb} (h : ∀ r ∈ rs, RV r.q r.fs) (x : Int) : 0 ≤ byR rs x ∧ byR rs x ≤ 6400 * (rs.length : Int) := by
  induction rs with
  | nil => simp [byR]
  | cons r t ih =>
    have h1 := ih fun a ha => h a (List.mem_cons_of_mem _ ha)
    have h2 := w_bd (h r List.mem_cons_self) x
    simp only [byR, List.length_cons]
    omega
theorem lv_rvs {l : Ln} (h : LV l) : ∀ r ∈ l.rs, RV r.q r.fs := fun r hr => by
  obtain ⟨k, hk⟩ := List.getElem?_of_mem hr
  exact (h.rb k r hk).rv
theorem byR_lv {l : Ln} (h : LV l) (k : Nat) (x : Int) : 0 ≤ byR (l.rs.take k) x ∧ byR (l.rs.take k) x ≤ 25600 := by
  have h1 := byR_bd (rs := l.rs.take k) (fun r hr => lv_rvs h r (List.mem_of_mem_take hr)) x
  have h2 : (l.rs.take k).length ≤ 4 := by rw [List.length_take, h.n0]; omega
  omega
structure CB (w : World) (va : Array Value) (g : Nat) (us : List Int) (wr : World) : Prop where
  own : wr.ownsRow (w.heap.size + 1) 3 1 (.slice (some ⟨g, 0, none⟩) 8 8) 8 (icells us)
  bx : BxL w va wr
section
variable {w wr w2 : World} {va : Array Value} {g : Nat} {us : List Int}
theorem cb_below (h : CB w va g us wr) (hb : Below wr.heap.size wr w2) : CB w va g us w2 := ⟨own_below h.own hb, bl_below h.bx hb⟩
theorem cb_set (h : CB w va g us wr) (k : Nat) (x : Int) : CB w va g (us.set k x) (wr.setCell ⟨g, k, none⟩ (.int .i64 x)) :=
  ⟨own_set_int h.own k x, fm_out h.bx (fun y hy => by
    have := (h.own.lt g rfl).1
    simp only [List.mem_cons, List.not_mem_nil, or_false] at hy
    rcases hy with rfl; simp only; omega) (by have := (h.own.lt g rfl).1; omega) _⟩
theorem cb_lt (h : CB w va g us wr) : w.heap.size < wr.heap.size ∧ w.heap.size < g ∧ g < wr.heap.size := ⟨bl_lt h.bx, (h.own.lt g rfl).1, (h.own.lt g rfl).2⟩
end
def ByPost (w : World) (l : Ln) (e : Ending) (w' : World) : Prop := ∃ A, e = .returned (.slice A 8 8) ∧ w'.ownsRow w.heap.size 3 1 (.slice A 8 8) 8 (icells (bys l)) ∧ Below w.heap.size w w'
def WoRel (w : World) (va : Array Value) (l : Ln) (g : Nat) (i : Value) (wr : World) : Prop := ∃ k : Nat, k ≤ 4 ∧ i = .int .i64 (k : Int) ∧ CB w va g (byK (l.rs.take k) []) wr
def WiRel (w : World) (va : Array Value) (l : Ln) (g k n1 : Nat) (r : Rb) (i : Value) (wr : World) : Prop := ∃ t : Nat, t ≤ n1 ∧ i = .int .i64 (t : Int) ∧ CB w va g (byK (l.rs.take k) (r.fs.take t)) wr
set_option maxRecDepth 100000 in
set_option maxHeartbeats 8000000 in
theorem wbI_any (A : Option Addr) (n c : Nat) (B : Option Addr) (m d : Nat) (C : Option Addr) (o e : Nat) (l : Ln) (w : World) (h : LR w A n B m C o l) (hv : LV l) :
    Calls Try.prog 35 #[.agg #[.slice A n c, .slice B m d, .slice C o e]] w (ByPost w l) := by
  have H := Lib.hid h
  have F := Lib.hid (show BxL w #[.slice A n c, .slice B m d, .slice C o e] _ from fm_one w 35 #[.slice A n c, .slice B m d, .slice C o e])
  have z3 := bl_lt F.out
  obtain ⟨x0, x1, x2⟩ := bl_cells F.out
  have HL := Lib.hid (lr_len h)
  have LVV := Lib.hid hv
  have h4 := Lib.hid (lr_four h hv)
  clear h hv
  obtain ⟨m8, hm⟩ : ∃ m : Nat, m = 8 := ⟨_, rfl⟩
  have HM := Lib.hid hm
  have HL8 := Lib.hid (show (8 : Int) = (m8 : Int) by omega)
  have hm8 : m8 ≤ 8 := by omega
  clear hm
  obtain ⟨i0, hi, hz0, hz1, hz2⟩ := info_parts infoInt
  go_enter Try.func35, Try.ntmps35
  generalize hw3 : w.alloc (.cells #[.slice A n c, .slice B m d, .slice C o e] 35) = w3 at F x0 x1 x2 z3 ⊢
  have hs3 : w3.heap.size = w.heap.size + 1 := by rw [← hw3]; simp
  go_wp2_with (refine wpList_make_full _ rfl (.const (.int .i64 8)) (.const (.int .i64 8)) 23 rfl w3.heap.size 3 i0 _ 1 Try.underlying23 hi hz0 hz1 .i64 .i64 8 8 m8 rfl rfl HL8.out HL8.out (by rw [hz2]; omega) (by unfold maxLen; omega) (by simp) ?_
               intro w1 ho1 hg1
               rw [zeros6] at ho1
               have hm' := HM.out
               subst hm'
               have C0 : Hid (CB w #[.slice A n c, .slice B m d, .slice C o e] w3.heap.size (byK (l.rs.take 0) []) w1) := Lib.hid ⟨by rw [List.take_zero, byK_zero]; exact own_mono ho1 (by omega), bl_below F.out ⟨hg1.os, hg1.tape, hg1.output, hg1.size, fun i hi => hg1.block i hi (by simp)⟩⟩
               have zg : w3.heap.size < w1.heap.size := (ho1.lt _ rfl).2
               clear x0 x1 x2
               obtain ⟨x0, x1, x2⟩ := bl_cells C0.out.bx
               clear hw3 hs3 F
               generalize w3.heap.size = g at C0 zg z3 ⊢
               clear hg1 ho1)
  have R0 : Hid (WoRel w #[.slice A n c, .slice B m d, .slice C o e] l g (.int .i64 0) w1) := Lib.hid ⟨0, Nat.zero_le _, rfl, C0.out⟩
  clear C0 x0 x1 x2 zg
  go_loopw [14] (fun i wr => WoRel w #[.slice A n c, .slice B m d, .slice C o e] l g i wr) (fun i _ => 4 - (intOf i).toNat)
  case atStart => exact R0.out
  case round =>
    obtain ⟨k, hk, rfl, hC⟩ := hrel
    have HC := Lib.hid hC
    obtain ⟨zb, zg1, zg2⟩ := cb_lt hC
    have hbl := hC.bx.below
    clear R0 hC
    by_cases hlt : k < n
    · obtain ⟨b, off, r, A1, n1, c1, rfl, hb, hr, c0, c1', hfr⟩ := rr_at H.out.r hlt
      have c0 := ((bcell hbl).1 b (off + k * 2) hb).trans c0
      have c1' := ((bcell hbl).1 b (off + k * 2 + 1) hb).trans c1'
      have hb : b < wr.heap.size := Nat.lt_of_lt_of_le hb hbl.size
      have HRr := Lib.hid hr
      have HFR := Lib.hid hfr
      have HN := Lib.hid (fr_lenF hfr)
      have h14 : n1 ≤ 4000000000 := (fr_lenF hfr).2
      have RVr := Lib.hid (LVV.out.rb k r hr).rv
      have k4 : k < 4 := by have := h4.out; omega
      have k0 : (0 : Int) ≤ (k : Int) := by omega
      have k1 : (k : Int) < (n : Int) := by omega
      have C1 : Hid (WiRel w #[.slice (some ⟨b, off, none⟩) n c, .slice B m d, .slice C o e] l g k n1 r (.int .i64 0) (wr.alloc (.cells #[.int .i64 r.q, (.slice A1 n1 c1)] 100))) := Lib.hid ⟨0, Nat.zero_le _, rfl, by
        rw [List.take_zero]
        exact cb_below HC.out (below_alloc (Below.refl _ _) _)⟩
      clear hr hfr hbl
      go_wp2
      clear c0 c1'
      go_loopw [21] (fun i wr2 => WiRel w #[.slice (some ⟨b, off, none⟩) n c, .slice B m d, .slice C o e] l g k n1 r i wr2) (fun i _ => n1 - (intOf i).toNat)
      case atStart => exact C1.out
      case round =>
        obtain ⟨t, ht, rfl, hT⟩ := hrel
        have HT := Lib.hid hT
        obtain ⟨yb, yg1, yg2⟩ := cb_lt hT
        have hbl2 := hT.bx.below
        clear C1 hT
        by_cases hlt2 : t < n1
        · obtain ⟨b1, off1, f, A2, n2, c2, rfl, hb1, hf, e0, e1, e2, hpr, hc2, hn2⟩ := fr_cells (fr_belowF HFR.out hbl2) hlt2
          have HF := Lib.hid hf
          have HV := RVr.out.all f (List.mem_of_getElem? hf)
          obtain ⟨p, hp⟩ : ∃ p : Nat, f.peer = (p : Int) := ⟨f.peer.toNat, by have := HV.p0; omega⟩
          have hp8 : p < 8 := by have := HV.p7; omega
          have HOK := Lib.hid HV.ok
          have HPp := Lib.hid hp
          rw [hp] at e0
          have C2 := Lib.hid (cb_below HT.out (below_alloc (Below.refl _ _) (.cells #[(.int .i64 (p : Int)), .int .i64 f.dfc, (.slice A2 n2 c2)] 107)))
          have BF := Lib.hid (blk_new wr 107 #[(.int .i64 (p : Int)), .int .i64 f.dfc, (.slice A2 n2 c2)])
          have HPR := Lib.hid (pr_alloc hpr (.cells #[(.int .i64 (p : Int)), .int .i64 f.dfc, (.slice A2 n2 c2)] 107))
          have hS1 := byR_lv LVV.out k (p : Int)
          have hS2 := sum_bound f.ws (ok_of HV.ok).2
          have hS3 := (ok_of HV.ok).1
          have t0 : (0 : Int) ≤ (t : Int) := by omega
          have t1 : (t : Int) < (n1 : Int) := by omega
          clear hbl2 hf hpr HV hp
          go_wp2_with fail
          refine (sizeI_any A2 n2 c2 f.ws _ HPR.out (by omega)).mono ?_
          rintro ee w5 ⟨rfl, hb5⟩
          rw [sz_yes HOK.out]
          have C5 := Lib.hid (cb_below C2.out hb5)
          have z5 := hb5.size
          simp at z5
          obtain ⟨⟨q0, q1, q2⟩, -⟩ := blk_three (blk_below BF.out hb5 (by simp))
          clear hb5 e0 e1 e2 C2 BF HPR
          have hget : (byK (l.rs.take k) (r.fs.take t))[p]? = some (byR (l.rs.take k) (p : Int)) := by
            rw [byK_get _ _ hp8]
            have e := w_fresh RVr.out HF.out
            rw [HPp.out] at e
            rw [e]; simp [sizeSum]
          have d0 := own_int_at C5.out.own hget
          have d1 : w5.frozen? ⟨g, p, none⟩ = false := World.ownsRow.frozenAt C5.out.own p
          have HE := Lib.hid (byK_step (rs := l.rs.take k) RVr.out HF.out HPp.out)
          obtain ⟨S, hS⟩ : ∃ S : Int, S = byR (l.rs.take k) (p : Int) := ⟨_, rfl⟩
          obtain ⟨Z, hZ⟩ : ∃ Z : Int, Z = sizeSum f.ws := ⟨_, rfl⟩
          rw [← hS, ← hZ] at HE
          rw [← hS] at d0 hS1
          rw [← hZ] at hS2 ⊢
          have yq : IntKind.i64.wrap (S + Z) = S + Z := IntWalk.i64_in _ (by omega)
          have C3 := Lib.hid (cb_set C5.out p (S + Z))
          have p0 : (0 : Int) ≤ (p : Int) := by omega
          have p1 : (p : Int) < 8 := by omega
          clear hget hS hZ hS1 hS2 hS3
          go_wp2
          go_roundw
          case rel => exact ⟨t + 1, by omega, by go_num, by rw [← HE.out]; exact C3.out⟩
          case measure => simp [intOf]; omega
        · obtain rfl : t = n1 := by omega
          have C4 : Hid (CB w #[.slice (some ⟨b, off, none⟩) n c, .slice B m d, .slice C o e] g (byK (l.rs.take (k + 1)) []) wr) := Lib.hid (by have := HT.out; rw [show r.fs.take t = r.fs from List.take_of_length_le (by rw [HN.out.1]; exact Nat.le_refl _), byK_row HRr.out] at this; exact this)
          clear hbl2
          go_wp2
          go_roundw
          case rel => exact ⟨k + 1, by omega, by go_num, C4.out⟩
          case measure => simp [intOf]; omega
    · have hk4 : k = 4 := by have := h4.out; omega
      have OC := Lib.hid (show wr.ownsRow w.heap.size 3 1 (.slice (some ⟨g, 0, none⟩) 8 8) 8 (icells (bys l)) by rw [← byK_all LVV.out.n0, ← hk4]; exact own_mono HC.out.own (show w.heap.size ≤ w.heap.size + 1 by omega))
      clear hk4
      go_wp2
      go_ret
      exact ⟨some ⟨g, 0, none⟩, rfl, OC.out, hbl⟩
end Go.Proofs.Ytanaeebjcbbagaa
