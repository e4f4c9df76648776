/-
  Chapter 6: whose turn it is: what NextLane and its helpers return. Conditions: there is a credit for each robin. Chapter 6: how many packets wait in each lane: what CountLanes returns. Conditions: none.
  Conditions: each lemma says them.
-/
import Derived.Test.YtkmoiphcpmhacaaKk
import Derived.Test.YtkmoiphcpmhacaaKz
import Derived.Test.YtkmoiphcpmhacaaKj
namespace Go.Proofs.Ytkmoiphcpmhacaa
open Go.RowKit

theorem retTwo {x y : Int} {a b : Bool} (h : x = y) (h2 : a = b) : Ending.returned (.tuple #[.int .i64 x, .bool a]) = .returned (.tuple #[.int .i64 y, .bool b]) := by rw [h, h2]
theorem has_nil {l : Ln} {i : Nat} {r : Rb} (hr : l.rs[i]? = some r) (e : r.fs = []) (c : Bool) : ¬ Has l c i := fun h => by
  obtain ⟨⟨r', hr', hn⟩, -⟩ := h
  rw [hr] at hr'
  obtain rfl := Option.some.inj hr'
  exact hn e
theorem has_f {l : Ln} {i : Nat} {r : Rb} (hr : l.rs[i]? = some r) (e : r.fs ≠ []) : Has l false i := ⟨⟨r, hr, e⟩, fun h => by cases h⟩
theorem has_t {l : Ln} {i : Nat} {r : Rb} {x : Int} (hr : l.rs[i]? = some r) (e : r.fs ≠ []) (hx : l.cs[i]? = some x) (h0 : 0 < x) (c : Bool) : Has l c i := ⟨⟨r, hr, e⟩, fun _ => ⟨x, hx, h0⟩⟩
theorem has_nt {l : Ln} {i : Nat} {x : Int} (hx : l.cs[i]? = some x) (h0 : ¬ 0 < x) : ¬ Has l true i := fun h => by
  obtain ⟨y, hy, h1⟩ := h.2 rfl
  rw [hx] at hy
  obtain rfl := Option.some.inj hy
  exact h0 h1
theorem no_step {l : Ln} {c : Bool} {k : Nat} (h : ∀ j, j < k → ¬ Has l c j) (hk : ¬ Has l c k) : ∀ j, j < k + 1 → ¬ Has l c j := fun j hj => by
  rcases Nat.lt_or_ge j k with h1 | h1
  · exact h j h1
  · obtain rfl : j = k := by omega
    exact hk
theorem no_all {l : Ln} {c : Bool} {n : Nat} (h : ∀ j, j < n → ¬ Has l c j) (hn : l.rs.length = n) : ∀ j, ¬ Has l c j := fun j hj => by
  obtain ⟨r, hr, -⟩ := hj.1
  exact h j (by rw [← hn]; exact get_lt hr) hj
theorem no_empty6 {l : Ln} (h : ∀ j, ¬ Has l false j) : Empty6 l := fun r hr => by
  obtain ⟨i, hi⟩ := List.getElem?_of_mem hr
  by_cases e : r.fs = []
  · exact e
  · exact absurd (has_f hi e) (h i)
/-- the first lane with packets, as far as it is known -/
def St6 (l : Ln) (k : Nat) (a b : Value) : Prop := (a = .int .i64 0 ∧ b = .bool false ∧ ∀ j, j < k → ¬ Has l false j) ∨ ∃ f : Nat, f < k ∧ a = .int .i64 (f : Int) ∧ b = .bool true ∧ Fst l false f
theorem st_skip {l : Ln} {k : Nat} {a b : Value} (h : St6 l k a b) (hk : ¬ Has l false k) : St6 l (k + 1) a b := by
  rcases h with ⟨h1, h2, h3⟩ | ⟨f, h1, h2, h3, h4⟩
  · exact .inl ⟨h1, h2, no_step h3 hk⟩
  · exact .inr ⟨f, by omega, h2, h3, h4⟩
def TnPost (w : World) (l : Ln) (e : Ending) (w' : World) : Prop :=
  ((∃ i : Nat, Turn6 l i ∧ e = .returned (.tuple #[.int .i64 (i : Int), .bool true])) ∨ (Empty6 l ∧ e = .returned (.tuple #[.int .i64 0, .bool false]))) ∧ Below w.heap.size w w'
def NlPost (w : World) (l : Ln) (e : Ending) (w' : World) : Prop :=
  ((∃ i : Nat, LV l ∧ Turn6 l i ∧ e = .returned (.tuple #[.int .i64 (i : Int), .bool true])) ∨ (¬ (LV l ∧ ∃ i, Turn6 l i) ∧ e = .returned (.tuple #[.int .i64 0, .bool false]))) ∧ Below w.heap.size w w'
theorem empty_turn {l : Ln} (h : Empty6 l) : ¬ ∃ i, Turn6 l i := fun ⟨i, hi⟩ => empty_no h false i (turn_has hi)
def FsPost (w : World) (l : Ln) (c : Bool) (e : Ending) (w' : World) : Prop :=
  ((∃ i : Nat, Fst l c i ∧ e = .returned (.int .i64 (i : Int))) ∨ ((∀ j, ¬ Has l c j) ∧ e = .returned (.int .i64 (-1)))) ∧ Below w.heap.size w w'
def BxL (w : World) (va : Array Value) (wr : World) : Prop := Fm w [⟨w.heap.size, w.heap.size + 1, BoxP w.heap.size 26 va⟩] wr
theorem bl_cells {w wr : World} {x y z : Value} (h : BxL w #[x, y, z] wr) : wr.cell? ⟨w.heap.size, 0, none⟩ = some x ∧ wr.cell? ⟨w.heap.size, 1, none⟩ = some y ∧ wr.cell? ⟨w.heap.size, 2, none⟩ = some z := (blk_three (fm_blk h 0 rfl)).1
theorem bl_below {w wr w2 : World} {va : Array Value} (h : BxL w va wr) (hb : Below wr.heap.size wr w2) : BxL w va w2 := fm_below h hb
theorem bl_lt {w wr : World} {va : Array Value} (h : BxL w va wr) : w.heap.size < wr.heap.size := blk_lt (fm_blk h 0 rfl)
def LtRel (w : World) (va : Array Value) (l : Ln) (n : Nat) (a b i : Value) (wr : World) : Prop :=
  ∃ k : Nat, k ≤ n ∧ i = .int .i64 (k : Int) ∧ (∀ j, j < k → ¬ Has l true j) ∧ St6 l k a b ∧ BxL w va wr
set_option maxRecDepth 100000 in
set_option maxHeartbeats 4000000 in
theorem laI_any (A : Option Addr) (n c : Nat) (B : Option Addr) (m d : Nat) (C : Option Addr) (o e : Nat) (l : Ln) (w : World) (h : LR w A n B m C o l) (hno : n ≤ o) :
    Calls Try.prog 56 #[.agg #[.slice A n c, .slice B m d, .slice C o e]] w (TnPost w l) := by
  have H := Lib.hid h
  have HL := Lib.hid (lr_len h)
  have n4 := (rr_len h.r).2
  have o4 := h.kb
  have F := Lib.hid (show BxL w #[.slice A n c, .slice B m d, .slice C o e] _ from fm_one w 26 #[.slice A n c, .slice B m d, .slice C o e])
  clear h
  have R0 : Hid (LtRel w #[.slice A n c, .slice B m d, .slice C o e] l n (.int .i64 0) (.bool false) (.int .i64 0) (w.alloc (.cells #[.slice A n c, .slice B m d, .slice C o e] 26))) := Lib.hid ⟨0, Nat.zero_le _, rfl, fun j hj => absurd hj (by omega), .inl ⟨rfl, rfl, fun j hj => absurd hj (by omega)⟩, F.out⟩
  clear F
  go_enter Try.func56, Try.ntmps56
  go_wp2
  go_loopw [4, 5, 11] (fun a b i wr => LtRel w #[.slice A n c, .slice B m d, .slice C o e] l n a b i wr) (fun _ _ i _ => n - (intOf i).toNat)
  case atStart => exact R0.out
  case round =>
    obtain ⟨k, hk, rfl, ht, hst, hF⟩ := hrel
    have HT := Lib.hid ht
    have HF := Lib.hid hF
    have HS := Lib.hid hst
    obtain ⟨x0, x1, x2⟩ := bl_cells hF
    have zb0 := bl_lt hF
    have hbl := hF.below
    clear R0 ht
    by_cases hlt : k < n
    · clear hst
      obtain ⟨b, off, r, A1, n1, c1, rfl, hb, hr, c0, c1', hfr⟩ := rr_at (rr_below H.out.r hbl) hlt
      obtain ⟨b2, off2, x, rfl, hb2, hx, d0⟩ := nr_at (nr_below H.out.cr hbl) (show k < o by omega)
      have HR := Lib.hid hr
      have HX := Lib.hid hx
      have HN := Lib.hid (fr_lenF hfr).1
      have k0 : (0 : Int) ≤ (k : Int) := by omega
      have k1 : (k : Int) < (n : Int) := by omega
      have k2 : (k : Int) < (o : Int) := by omega
      clear hF hbl hr hx hfr
      by_cases hz : n1 = 0
      · have hzb : ((n1 : Int) == 0) = true := by simp [hz]
        have HE := Lib.hid (show r.fs = [] from List.eq_nil_of_length_eq_zero (by rw [HN.out]; exact hz))
        clear hz
        go_wp2
        go_roundw
        case rel => exact ⟨k + 1, by omega, by go_num, no_step HT.out (has_nil HR.out HE.out true), st_skip HS.out (has_nil HR.out HE.out false), fm_alloc HF.out _⟩
        case measure => simp [intOf]; omega
      · have hzb : ((n1 : Int) == 0) = false := by simp [hz]
        have HE := Lib.hid (show r.fs ≠ [] from fun e => hz (by rw [← HN.out, e]; rfl))
        clear hz
        by_cases hx0 : 0 < x
        · have hxb : decide ((0 : Int) < x) = true := by simp [hx0]
          have HX0 := Lib.hid hx0
          clear hx0
          go_wp2
          refine bodyPost_ret (v := .tuple #[.int .i64 (k : Int), .bool true]) (by simp [results, Try.results56, go_sem]) rfl ⟨.inl ⟨k, .inl ⟨has_t HR.out HE.out HX.out HX0.out true, HT.out⟩, rfl⟩, (fm_alloc HF.out _).below⟩
        · have hxb : decide ((0 : Int) < x) = false := by simp [hx0]
          have HX0 := Lib.hid (has_nt HX.out hx0)
          clear hx0
          rcases HS.out with ⟨rfl, rfl, h3⟩ | ⟨f, hf, rfl, rfl, h4⟩
          · have H3 := Lib.hid h3
            clear h3
            go_wp2
            go_roundw
            case rel => exact ⟨k + 1, by omega, by go_num, no_step HT.out HX0.out, .inr ⟨k, by omega, rfl, rfl, has_f HR.out HE.out, H3.out⟩, fm_alloc HF.out _⟩
            case measure => simp [intOf]; omega
          · have H4 := Lib.hid h4
            clear h4
            go_wp2
            go_roundw
            case rel => exact ⟨k + 1, by omega, by go_num, no_step HT.out HX0.out, .inr ⟨f, by omega, rfl, rfl, H4.out⟩, fm_alloc HF.out _⟩
            case measure => simp [intOf]; omega
    · obtain rfl : k = n := by omega
      rcases hst with ⟨rfl, rfl, h3⟩ | ⟨f, hf, rfl, rfl, h4⟩
      · have H3 := Lib.hid h3
        clear h3 hF hbl
        go_wp2
        refine bodyPost_ret (v := .tuple #[.int .i64 0, .bool false]) (by simp [results, Try.results56, go_sem]) rfl ⟨.inr ⟨no_empty6 (no_all H3.out HL.out.1), rfl⟩, HF.out.below⟩
      · have H4 := Lib.hid h4
        clear h4 hF hbl
        go_wp2
        refine bodyPost_ret (v := .tuple #[.int .i64 (f : Int), .bool true]) (by simp [results, Try.results56, go_sem]) rfl ⟨.inl ⟨f, .inr ⟨no_all HT.out HL.out.1, H4.out⟩, rfl⟩, HF.out.below⟩
set_option maxRecDepth 100000 in
set_option maxHeartbeats 2000000 in
theorem nlI_any (A : Option Addr) (n c : Nat) (B : Option Addr) (m d : Nat) (C : Option Addr) (o e : Nat) (l : Ln) (w : World) (h : LR w A n B m C o l) :
    Calls Try.prog 19 #[.agg #[.slice A n c, .slice B m d, .slice C o e]] w (NlPost w l) := by
  have H := Lib.hid h
  have F := Lib.hid (show BxL w #[.slice A n c, .slice B m d, .slice C o e] _ from fm_one w 26 #[.slice A n c, .slice B m d, .slice C o e])
  clear h
  go_enter Try.func19, Try.ntmps19
  go_wp2_with fail
  refine (lanI_any A n c B m d C o e l _ (lr_below H.out F.out.below)).mono ?_
  rintro r w3 ⟨rfl, hb3⟩
  have F3 := Lib.hid (bl_below F.out hb3)
  obtain ⟨x0, x1, x2⟩ := bl_cells F3.out
  clear hb3 F
  rcases hv : lvB l with _ | _
  · have HV := Lib.hid (lv_not hv)
    clear hv
    go_wp2
    refine bodyPost_ret (v := .tuple #[.int .i64 0, .bool false]) (by simp [results, Try.results19, go_sem]) rfl ⟨.inr ⟨fun h => HV.out h.1, rfl⟩, F3.out.below⟩
  · have HV := Lib.hid (lv_iff.1 hv)
    have h4 := Lib.hid (lr_four H.out HV.out)
    clear hv
    go_wp2_with fail
    refine (laI_any A n c B m d C o e l _ (lr_below H.out F3.out.below) (by have := h4.out; omega)).mono ?_
    rintro r w4 ⟨⟨i, hi, rfl⟩ | ⟨hi, rfl⟩, hb4⟩
    · have HI := Lib.hid hi
      have F4 := Lib.hid (bl_below F3.out hb4)
      clear hi hb4
      go_wp2
      refine bodyPost_ret (v := .tuple #[.int .i64 (i : Int), .bool true]) (by simp [results, Try.results19, go_sem]) rfl ⟨.inl ⟨i, HV.out, HI.out, rfl⟩, F4.out.below⟩
    · have HI := Lib.hid hi
      have F4 := Lib.hid (bl_below F3.out hb4)
      clear hi hb4
      go_wp2
      refine bodyPost_ret (v := .tuple #[.int .i64 0, .bool false]) (by simp [results, Try.results19, go_sem]) rfl ⟨.inr ⟨fun h => empty_turn HI.out h.2, rfl⟩, F4.out.below⟩
def FsRel (w : World) (va : Array Value) (l : Ln) (cr : Bool) (n : Nat) (i : Value) (wr : World) : Prop :=
  ∃ k : Nat, k ≤ n ∧ i = .int .i64 (k : Int) ∧ (∀ j, j < k → ¬ Has l cr j) ∧ BxL w va wr
set_option maxRecDepth 100000 in
set_option maxHeartbeats 4000000 in
theorem fsS_any (A : Option Addr) (n c : Nat) (B : Option Addr) (m d : Nat) (C : Option Addr) (o e : Nat) (l : Ln) (w : World) (h : LR w A n B m C o l) (hno : n ≤ o) (cr : Bool) :
    Calls Try.prog 52 #[.agg #[.slice A n c, .slice B m d, .slice C o e], .bool cr] w (FsPost w l cr) := by
  have H := Lib.hid h
  have HL := Lib.hid (lr_len h)
  have n4 := (rr_len h.r).2
  have o4 := h.kb
  have F := Lib.hid (show BxL w #[.slice A n c, .slice B m d, .slice C o e] _ from fm_one w 26 #[.slice A n c, .slice B m d, .slice C o e])
  clear h
  have R0 : Hid (FsRel w #[.slice A n c, .slice B m d, .slice C o e] l cr n (.int .i64 0) (w.alloc (.cells #[.slice A n c, .slice B m d, .slice C o e] 26))) := Lib.hid ⟨0, Nat.zero_le _, rfl, fun j hj => absurd hj (by omega), F.out⟩
  clear F
  go_enter Try.func52, Try.ntmps52
  go_wp2
  go_loopw [5] (fun i wr => FsRel w #[.slice A n c, .slice B m d, .slice C o e] l cr n i wr) (fun i _ => n - (intOf i).toNat)
  case atStart => exact R0.out
  case round =>
    obtain ⟨k, hk, rfl, ht, hF⟩ := hrel
    have HT := Lib.hid ht
    have HF := Lib.hid hF
    obtain ⟨x0, x1, x2⟩ := bl_cells hF
    have zb0 := bl_lt hF
    have hbl := hF.below
    clear R0 ht
    by_cases hlt : k < n
    · obtain ⟨b, off, r, A1, n1, c1, rfl, hb, hr, c0, c1', hfr⟩ := rr_at (rr_below H.out.r hbl) hlt
      obtain ⟨b2, off2, x, rfl, hb2, hx, d0⟩ := nr_at (nr_below H.out.cr hbl) (show k < o by omega)
      have HR := Lib.hid hr
      have HX := Lib.hid hx
      have HN := Lib.hid (fr_lenF hfr).1
      have k0 : (0 : Int) ≤ (k : Int) := by omega
      have k1 : (k : Int) < (n : Int) := by omega
      have k2 : (k : Int) < (o : Int) := by omega
      clear hF hbl hr hx hfr
      by_cases hz : n1 = 0
      · have hzb : decide (0 < n1) = false := by simp [hz]
        have HE := Lib.hid (show r.fs = [] from List.eq_nil_of_length_eq_zero (by rw [HN.out]; exact hz))
        clear hz
        go_wp2
        go_roundw
        case rel => exact ⟨k + 1, by omega, by go_num, no_step HT.out (has_nil HR.out HE.out cr), HF.out⟩
        case measure => simp [intOf]; omega
      · have hzb : decide (0 < n1) = true := by simp; omega
        have HE := Lib.hid (show r.fs ≠ [] from fun e => hz (by rw [← HN.out, e]; rfl))
        clear hz
        rcases cr with _ | _
        · go_wp2
          go_ret
          exact ⟨.inl ⟨k, ⟨has_f HR.out HE.out, HT.out⟩, ret_int rfl⟩, HF.out.below⟩
        · by_cases hx0 : 0 < x
          · have hxb : decide ((0 : Int) < x) = true := by simp [hx0]
            have HX0 := Lib.hid hx0
            clear hx0
            go_wp2
            go_ret
            exact ⟨.inl ⟨k, ⟨has_t HR.out HE.out HX.out HX0.out true, HT.out⟩, ret_int rfl⟩, HF.out.below⟩
          · have hxb : decide ((0 : Int) < x) = false := by simp [hx0]
            have HX0 := Lib.hid (has_nt HX.out hx0)
            clear hx0
            go_wp2
            go_roundw
            case rel => exact ⟨k + 1, by omega, by go_num, no_step HT.out HX0.out, HF.out⟩
            case measure => simp [intOf]; omega
    · obtain rfl : k = n := by omega
      clear hF hbl
      go_wp2
      go_ret
      exact ⟨.inr ⟨no_all HT.out HL.out.1, ret_int rfl⟩, HF.out.below⟩
set_option maxRecDepth 100000 in
set_option maxHeartbeats 2000000 in
theorem nlS_any (A : Option Addr) (n c : Nat) (B : Option Addr) (m d : Nat) (C : Option Addr) (o e : Nat) (l : Ln) (w : World) (h : LR w A n B m C o l) :
    Calls Try.prog 24 #[.agg #[.slice A n c, .slice B m d, .slice C o e]] w (NlPost w l) := by
  have H := Lib.hid h
  have F := Lib.hid (show BxL w #[.slice A n c, .slice B m d, .slice C o e] _ from fm_one w 26 #[.slice A n c, .slice B m d, .slice C o e])
  clear h
  go_enter Try.func24, Try.ntmps24
  go_wp2_with fail
  refine (lanS_any A n c B m d C o e l _ (lr_below H.out F.out.below)).mono ?_
  rintro r w3 ⟨rfl, hb3⟩
  have F3 := Lib.hid (bl_below F.out hb3)
  obtain ⟨x0, x1, x2⟩ := bl_cells F3.out
  clear hb3 F
  rcases hv : lvB l with _ | _
  · have HV := Lib.hid (lv_not hv)
    clear hv
    go_wp2
    refine bodyPost_ret (v := .tuple #[.int .i64 0, .bool false]) (by simp [results, Try.results24, go_sem]) rfl ⟨.inr ⟨fun h => HV.out h.1, rfl⟩, F3.out.below⟩
  · have HV := Lib.hid (lv_iff.1 hv)
    have h4 := Lib.hid (lr_four H.out HV.out)
    clear hv
    go_wp2_with fail
    refine (fsS_any A n c B m d C o e l _ (lr_below H.out F3.out.below) (by have := h4.out; omega) true).mono ?_
    rintro r w4 ⟨⟨i, hi, rfl⟩ | ⟨hi, rfl⟩, hb4⟩
    · have HI := Lib.hid hi
      have F4 := Lib.hid (bl_below F3.out hb4)
      have i0 : decide ((i : Int) < 0) = false := by simp
      clear hi hb4 x0 x1 x2
      go_wp2
      refine bodyPost_ret (v := .tuple #[.int .i64 (i : Int), .bool true]) (by simp [results, Try.results24, go_sem]) rfl ⟨.inl ⟨i, HV.out, .inl HI.out, rfl⟩, F4.out.below⟩
    · have HI := Lib.hid hi
      have F4 := Lib.hid (bl_below F3.out hb4)
      clear hi hb4 x0 x1 x2
      obtain ⟨x0, x1, x2⟩ := bl_cells F4.out
      go_wp2_with fail
      refine (fsS_any A n c B m d C o e l _ (lr_below H.out F4.out.below) (by have := h4.out; omega) false).mono ?_
      rintro r w5 ⟨⟨i, hi, rfl⟩ | ⟨hj, rfl⟩, hb5⟩
      · have HJ := Lib.hid hi
        have F5 := Lib.hid (bl_below F4.out hb5)
        have i0 : decide ((i : Int) < 0) = false := by simp
        clear hi hb5 x0 x1 x2
        go_wp2
        refine bodyPost_ret (v := .tuple #[.int .i64 (i : Int), .bool true]) (by simp [results, Try.results24, go_sem]) rfl ⟨.inl ⟨i, HV.out, .inr ⟨HI.out, HJ.out⟩, rfl⟩, F5.out.below⟩
      · have HJ := Lib.hid hj
        have F5 := Lib.hid (bl_below F4.out hb5)
        clear hj hb5 x0 x1 x2
        go_wp2
        refine bodyPost_ret (v := .tuple #[.int .i64 0, .bool false]) (by simp [results, Try.results24, go_sem]) rfl ⟨.inr ⟨fun h => empty_turn (no_empty6 HJ.out) h.2, rfl⟩, F5.out.below⟩
end Go.Proofs.Ytkmoiphcpmhacaa
namespace Go.Proofs.Ytkmoiphcpmhacaa
open Go.RowKit

theorem zeros6 (n : Nat) : (madeCells (Value.cells (.int .i64 0)) (n * 1)).toList = icells (List.replicate n 0) := by
  apply List.ext_getElem
  · simp [madeCells, icells]
  · intro i h1 h2
    simp [madeCells, icells, Value.cells, Nat.mod_one]
def cntK (l : Ln) (k : Nat) : List Int := (cnts l).take k ++ List.replicate (4 - k) 0
noncomputable def cntR (l : Ln) : List Int := if lvB l = true then cnts l else []
theorem cnts_len (l : Ln) : (cnts l).length = l.rs.length := by simp [cnts]
theorem cnts_get {l : Ln} {k : Nat} {r : Rb} (hr : l.rs[k]? = some r) : (cnts l)[k]? = some (total r.fs : Int) := by simp [cnts, hr]
theorem cntK_zero (l : Ln) : cntK l 0 = List.replicate 4 0 := by simp [cntK]
theorem cntK_all {l : Ln} (h : l.rs.length = 4) : cntK l 4 = cnts l := by
  simp [cntK]
  rw [List.take_of_length_le (by rw [cnts_len]; omega)]
theorem cntK_set {l : Ln} {k : Nat} {r : Rb} (hl : l.rs.length = 4) (hr : l.rs[k]? = some r) : (cntK l k).set k (total r.fs : Int) = cntK l (k + 1) := by
  have hk : k < 4 := by rw [← hl]; exact get_lt hr
  have e : ((cnts l).take k).length = k := by rw [List.length_take, cnts_len]; omega
  obtain ⟨j, hj⟩ : ∃ j, 4 - k = j + 1 := ⟨3 - k, by omega⟩
  have hj2 : 4 - (k + 1) = j := by omega
  unfold cntK
  rw [hj, hj2, List.take_add_one, cnts_get hr, List.set_append_right _ _ (by omega), e, Nat.sub_self]
  simp [List.replicate_succ]
theorem cntK_get {l : Ln} {k : Nat} {r : Rb} (hl : l.rs.length = 4) (hr : l.rs[k]? = some r) : (cntK l k)[k]? = some 0 := by
  have hk : k < 4 := by rw [← hl]; exact get_lt hr
  have e : ((cnts l).take k).length = k := by rw [List.length_take, cnts_len]; omega
  obtain ⟨j, hj⟩ : ∃ j, 4 - k = j + 1 := ⟨3 - k, by omega⟩
  unfold cntK
  rw [hj, List.getElem?_append_right (by omega), e, Nat.sub_self]
  simp [List.replicate_succ]
theorem set_self6 {α : Type} {xs : List α} {k : Nat} {x : α} (h : xs[k]? = some x) : xs.set k x = xs := by
  refine List.ext_getElem? fun j => ?_
  by_cases e : k = j
  · subst e; rw [List.getElem?_set_self (get_lt h), h]
  · rw [List.getElem?_set_ne e]
theorem total_step {fs : List Flw} {t : Nat} {f : Flw} (h : fs[t]? = some f) : total (fs.take (t + 1)) = total (fs.take t) + f.ws.length := by
  rw [List.take_add_one, h, total_append]; simp [total]
theorem total_take6 {fs : List Flw} (t : Nat) : total (fs.take t) ≤ total fs := by
  have := total_append (fs.take t) (fs.drop t)
  rw [List.take_append_drop] at this
  omega
theorem total_bd {q : Int} {fs : List Flw} (h : RV q fs) : total fs ≤ 512 := by
  have := total_le h
  have := rv_len h
  omega
theorem own_int_at {w : World} {base g n c k : Nat} {us : List Int} {x : Int} (h : w.ownsRow base 3 1 (.slice (some ⟨g, 0, none⟩) n c) n (icells us)) (hk : us[k]? = some x) : w.cell? ⟨g, k, none⟩ = some (.int .i64 x) := by
  have hl : us.length = n := (nr_own h).1
  obtain ⟨b, off, y, e, hb, hy, hc⟩ := nr_at (nr_own h) (k := k) (by have := get_lt hk; omega)
  obtain ⟨rfl, rfl⟩ : g = b ∧ 0 = off := by injection e with e; injection e with e1 e2; exact ⟨e1, e2⟩
  rw [hk] at hy
  obtain rfl := Option.some.inj hy
  simpa using hc
def CtPost (w : World) (l : Ln) (e : Ending) (w' : World) : Prop :=
  ∃ A n c, e = .returned (.tuple #[.slice A n c, .bool (lvB l)]) ∧ w'.ownsRow w.heap.size 3 1 (.slice A n c) n (icells (cntR l)) ∧ Below w.heap.size w w'
/-- the row of counts and the box -/
structure CT (w : World) (va : Array Value) (g cp : Nat) (us : List Int) (wr : World) : Prop where
  own : wr.ownsRow (w.heap.size + 1) 3 1 (.slice (some ⟨g, 0, none⟩) 4 cp) 4 (icells us)
  bx : BxL w va wr
section
variable {w wr w2 : World} {va : Array Value} {g cp : Nat} {us : List Int}
theorem ct_below (h : CT w va g cp us wr) (hb : Below wr.heap.size wr w2) : CT w va g cp us w2 := ⟨own_below h.own hb, bl_below h.bx hb⟩
theorem ct_set (h : CT w va g cp us wr) (k : Nat) (x : Int) : CT w va g cp (us.set k x) (wr.setCell ⟨g, k, none⟩ (.int .i64 x)) :=
  ⟨own_set_int h.own k x, fm_out h.bx (fun y hy => by
    have := (h.own.lt g rfl).1
    simp only [List.mem_cons, List.not_mem_nil, or_false] at hy
    rcases hy with rfl; simp only; omega) (by have := (h.own.lt g rfl).1; omega) _⟩
theorem ct_lt (h : CT w va g cp us wr) : w.heap.size < wr.heap.size ∧ w.heap.size < g ∧ g < wr.heap.size := ⟨bl_lt h.bx, (h.own.lt g rfl).1, (h.own.lt g rfl).2⟩
end
def CoRel (w : World) (va : Array Value) (l : Ln) (g cp : Nat) (i : Value) (wr : World) : Prop := ∃ k : Nat, k ≤ 4 ∧ i = .int .i64 (k : Int) ∧ CT w va g cp (cntK l k) wr
def CiRel (w : World) (va : Array Value) (l : Ln) (g cp k n1 : Nat) (r : Rb) (i : Value) (wr : World) : Prop := ∃ t : Nat, t ≤ n1 ∧ i = .int .i64 (t : Int) ∧ CT w va g cp ((cntK l k).set k (total (r.fs.take t) : Int)) wr
set_option maxRecDepth 100000 in
set_option maxHeartbeats 8000000 in
theorem ctI_any (A : Option Addr) (n c : Nat) (B : Option Addr) (m d : Nat) (C : Option Addr) (o e : Nat) (l : Ln) (w : World) (h : LR w A n B m C o l) :
    Calls Try.prog 25 #[.agg #[.slice A n c, .slice B m d, .slice C o e]] w (CtPost w l) := by
  have H := Lib.hid h
  have F := Lib.hid (show BxL w #[.slice A n c, .slice B m d, .slice C o e] _ from fm_one w 26 #[.slice A n c, .slice B m d, .slice C o e])
  have HL := Lib.hid (lr_len h)
  clear h
  obtain ⟨m8, hm⟩ : ∃ m : Nat, m = 4 := ⟨_, rfl⟩
  have HM := Lib.hid hm
  have HL8 := Lib.hid (show (4 : Int) = (m8 : Int) by omega)
  have hm8 : m8 ≤ 4 := by omega
  clear hm
  obtain ⟨i0, hi, hz0, hz1, hz2⟩ := info_parts infoInt
  go_enter Try.func25, Try.ntmps25
  go_wp2_with fail
  refine (lanI_any A n c B m d C o e l _ (lr_below H.out F.out.below)).mono ?_
  rintro r w3 ⟨rfl, hb3⟩
  have F3 := Lib.hid (bl_below F.out hb3)
  have z3 := bl_lt F3.out
  obtain ⟨x0, x1, x2⟩ := bl_cells F3.out
  clear hb3 F
  rcases hv : lvB l with _ | _
  · have HR := Lib.hid (show cntR l = [] by simp [cntR, hv])
    have HV := Lib.hid hv
    clear hv
    go_wp2
    refine bodyPost_ret (v := .tuple #[.slice none 0 0, .bool false]) (by simp [results, Try.results25, go_sem]) rfl ⟨none, 0, 0, by rw [HV.out], by rw [HR.out]; exact World.ownsRow_nil _ _ _ _, F3.out.below⟩
  · have HR := Lib.hid (show cntR l = cnts l by simp [cntR, hv])
    have HV := Lib.hid hv
    have LVV := Lib.hid (lv_iff.1 hv)
    have h4 := Lib.hid (lr_four H.out LVV.out)
    clear hv
    go_wp2_with (refine wpList_make_full _ rfl (.const (.int .i64 4)) (.const (.int .i64 4)) 24 rfl w3.heap.size 3 i0 _ 1 Try.underlying24 hi hz0 hz1 .i64 .i64 4 4 m8 rfl rfl HL8.out HL8.out (by rw [hz2]; omega) (by unfold maxLen; omega) (by simp) ?_
                 intro w1 ho1 hg1
                 rw [zeros6] at ho1
                 have hm' := HM.out
                 subst hm'
                 have C0 : Hid (CT w #[.slice A n c, .slice B m d, .slice C o e] w3.heap.size 4 (cntK l 0) w1) := Lib.hid ⟨by rw [cntK_zero]; exact own_mono ho1 (by omega), bl_below F3.out ⟨hg1.os, hg1.tape, hg1.output, hg1.size, fun i hi => hg1.block i hi (by simp)⟩⟩
                 have zg : w3.heap.size < w1.heap.size := (ho1.lt _ rfl).2
                 clear x0 x1 x2
                 obtain ⟨x0, x1, x2⟩ := bl_cells C0.out.bx
                 generalize w3.heap.size = g at C0 zg z3 ⊢
                 clear hg1 ho1)
    have R0 : Hid (CoRel w #[.slice A n c, .slice B m d, .slice C o e] l g 4 (.int .i64 0) w1) := Lib.hid ⟨0, Nat.zero_le _, rfl, C0.out⟩
    clear C0 x0 x1 x2 zg
    go_loopw [16] (fun i wr => CoRel w #[.slice A n c, .slice B m d, .slice C o e] l g 4 i wr) (fun i _ => 4 - (intOf i).toNat)
    case atStart => exact R0.out
    case round =>
      obtain ⟨k, hk, rfl, hC⟩ := hrel
      have HC := Lib.hid hC
      obtain ⟨zb, zg1, zg2⟩ := ct_lt hC
      have hbl := hC.bx.below
      clear R0 hC
      by_cases hlt : k < n
      · obtain ⟨b, off, r, A1, n1, c1, rfl, hb, hr, c0, c1', hfr⟩ := rr_at H.out.r hlt
        have c0 := ((bcell hbl).1 b (off + k * 2) hb).trans c0
        have c1' := ((bcell hbl).1 b (off + k * 2 + 1) hb).trans c1'
        have hb : b < wr.heap.size := Nat.lt_of_lt_of_le hb hbl.size
        have HRr := Lib.hid hr
        have HFR := Lib.hid hfr
        have HN := Lib.hid (fr_lenF hfr)
        have h14 : n1 ≤ 4000000000 := (fr_lenF hfr).2
        have RVr := Lib.hid (LVV.out.rb k r hr).rv
        have k4 : k < 4 := by have := h4.out; omega
        have k0 : (0 : Int) ≤ (k : Int) := by omega
        have k1 : (k : Int) < (n : Int) := by omega
        have k41 : (k : Int) < (4 : Int) := by omega
        have C1 : Hid (CiRel w #[.slice (some ⟨b, off, none⟩) n c, .slice B m d, .slice C o e] l g 4 k n1 r (.int .i64 0) (wr.alloc (.cells #[.int .i64 r.q, (.slice A1 n1 c1)] 37))) := Lib.hid ⟨0, Nat.zero_le _, rfl, by
          have e : (cntK l k).set k ((total (r.fs.take 0) : Nat) : Int) = cntK l k := by
            simp only [List.take_zero, total]
            exact set_self6 (cntK_get LVV.out.n0 HRr.out)
          rw [e]
          exact ct_below HC.out (below_alloc (Below.refl _ _) _)⟩
        clear hr hfr hbl
        go_wp2
        clear c0 c1'
        go_loopw [24] (fun i wr2 => CiRel w #[.slice (some ⟨b, off, none⟩) n c, .slice B m d, .slice C o e] l g 4 k n1 r i wr2) (fun i _ => n1 - (intOf i).toNat)
        case atStart => exact C1.out
        case round =>
          obtain ⟨t, ht, rfl, hT⟩ := hrel
          have HT := Lib.hid hT
          obtain ⟨yb, yg1, yg2⟩ := ct_lt hT
          have hbl2 := hT.bx.below
          clear C1 hT
          by_cases hlt2 : t < n1
          · obtain ⟨b1, off1, f, A2, n2, c2, rfl, hb1, hf, e0, e1, e2, hpr, hc2, hn2⟩ := fr_cells (fr_belowF HFR.out hbl2) hlt2
            have HF := Lib.hid hf
            have hws : f.ws.length = n2 := hpr.1
            have C2 := Lib.hid (ct_below HT.out (below_alloc (Below.refl _ _) (.cells #[.int .i64 f.peer, .int .i64 f.dfc, (.slice A2 n2 c2)] 82)))
            have hst := total_step hf
            have hbd1 := total_take6 (fs := r.fs) (t + 1)
            have hbd2 := total_bd RVr.out
            have hget : ((cntK l k).set k (total (r.fs.take t) : Int))[k]? = some (total (r.fs.take t) : Int) := List.getElem?_set_self (get_lt (cntK_get LVV.out.n0 HRr.out))
            have d0 := own_int_at C2.out.own hget
            have d1 : (wr.alloc (.cells #[.int .i64 f.peer, .int .i64 f.dfc, (.slice A2 n2 c2)] 82)).frozen? ⟨g, k, none⟩ = false := World.ownsRow.frozenAt C2.out.own k
            obtain ⟨T, hT⟩ : ∃ T : Nat, T = total (r.fs.take t) := ⟨_, rfl⟩
            rw [← hT] at d0 hst
            have yq : IntKind.i64.wrap ((T : Int) + (n2 : Int)) = (T : Int) + (n2 : Int) := IntWalk.i64_in _ (by omega)
            have HE := Lib.hid (show ((T : Int) + (n2 : Int)) = (total (r.fs.take (t + 1)) : Int) by omega)
            have C3 := Lib.hid (ct_below (ct_set HT.out k ((T : Int) + (n2 : Int))) (Below.drew (below_alloc (Below.refl _ _) (.cells #[.int .i64 f.peer, .int .i64 f.dfc, (.slice A2 n2 c2)] 82))))
            have t0 : (0 : Int) ≤ (t : Int) := by omega
            have t1 : (t : Int) < (n1 : Int) := by omega
            have zg3 : g < wr.heap.size := yg2
            clear hbl2 hf hpr hget hT hst hbd1 hbd2 hws
            go_wp2_with fail
            go_region
            all_goals
              go_wp2
              go_roundw
              case rel => exact ⟨t + 1, by omega, by go_num, by rw [← HE.out]; have := C3.out; rw [List.set_set] at this; exact this⟩
              case measure => simp [intOf]; omega
          · obtain rfl : t = n1 := by omega
            have C4 : Hid (CT w #[.slice (some ⟨b, off, none⟩) n c, .slice B m d, .slice C o e] g 4 (cntK l (k + 1)) wr) := Lib.hid (by have := HT.out; rw [List.take_of_length_le (by rw [HN.out.1]; exact Nat.le_refl _), cntK_set LVV.out.n0 HRr.out] at this; exact this)
            clear hbl2
            go_wp2
            go_roundw
            case rel => exact ⟨k + 1, by omega, by go_num, C4.out⟩
            case measure => simp [intOf]; omega
      · have hk4 : k = 4 := by have := h4.out; omega
        have OC := Lib.hid (show wr.ownsRow w.heap.size 3 1 (.slice (some ⟨g, 0, none⟩) 4 4) 4 (icells (cntR l)) by have e : cntK l k = cntR l := (by rw [hk4, cntK_all LVV.out.n0, HR.out]); rw [← e]; exact own_mono HC.out.own (show w.heap.size ≤ w.heap.size + 1 by omega))
        clear hk4
        go_wp2
        refine bodyPost_ret (v := .tuple #[.slice (some ⟨g, 0, none⟩) 4 4, .bool true]) (by simp [results, Try.results25, go_sem]) rfl ⟨some ⟨g, 0, none⟩, 4, 4, by rw [HV.out], OC.out, hbl⟩
end Go.Proofs.Ytkmoiphcpmhacaa
