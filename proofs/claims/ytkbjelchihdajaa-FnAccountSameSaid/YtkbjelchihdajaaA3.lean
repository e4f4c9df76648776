/-
  Chapter 4: FairShares; the model's. Conditions: at most 64 wants, each between 0 and 5000.
-/
import Derived.Test.YtkbjelchihdajaaA1
namespace Go.Proofs.Ytkbjelchihdajaa
open Go.RowKit

theorem zerosI (n : Nat) : (madeCells (Value.cells (.int .i64 0)) (n * 1)).toList = icells (List.replicate n 0) := by
  apply List.ext_getElem
  · simp [madeCells, icells]
  · intro i h1 h2
    simp [madeCells, icells, Value.cells, Nat.mod_one]
theorem lev_same {ws : List Int} {r k : Nat} {w : Int} (h : ws[k]? = some w) (hw : w ≤ r) : lev ws r (k + 1) = lev ws r k := by
  rw [lev_step h]
  apply List.ext_getElem?
  intro i
  rw [List.getElem?_set]
  split
  · rename_i e
    subst e
    have hk : k < (lev ws r k).length := by
      rw [lev_len]
      rcases Nat.lt_or_ge k ws.length with hl | hl
      · exact hl
      · rw [List.getElem?_eq_none hl] at h; cases h
    rw [if_pos hk, lev_get h]
    simp [cof]; omega
  · rfl
theorem lev_more {ws : List Int} {r k : Nat} {w : Int} (h : ws[k]? = some w) (hw : (r : Int) < w) : (lev ws r k)[k]? = some (r : Int) ∧ lev ws r (k + 1) = (lev ws r k).set k ((r : Int) + 1) ∧ sumL (lev ws r (k + 1)) = sumL (lev ws r k) + 1 := by
  have h0 : (lev ws r k)[k]? = some (r : Int) := by
    rw [lev_get h]
    simp [cof]; omega
  have h1 : lev ws r (k + 1) = (lev ws r k).set k ((r : Int) + 1) := by
    rw [lev_step h]
    congr 1
    omega
  exact ⟨h0, h1, by rw [h1, sumL_set h0]; omega⟩
theorem lev_done {ws : List Int} {r : Nat} (h : ∀ (j : Nat) w, ws[j]? = some w → w ≤ (r : Int)) : lev ws r ws.length = ws := by
  apply List.ext_getElem?
  intro i
  rcases Nat.lt_or_ge i ws.length with hl | hl
  · have hw := List.getElem?_eq_getElem hl
    rw [lev_get hw, hw]
    have := h i _ hw
    simp [cof, hl]; omega
  · rw [List.getElem?_eq_none (by rw [lev_len]; exact hl), List.getElem?_eq_none hl]
theorem lev_bd {ws : List Int} {r k : Nat} (h : ∀ x ∈ ws, 0 ≤ x ∧ x ≤ 5000) : 0 ≤ sumL (lev ws r k) := by
  refine (sumL_bd (B := 5000) fun x hx => ?_).1
  obtain ⟨i, hi⟩ := List.getElem?_of_mem hx
  obtain ⟨w, hw, rfl⟩ := lev_at hi
  have := h w (List.mem_of_getElem? hw)
  have : 0 ≤ cof r k i := by unfold cof; split <;> omega
  omega
/-- the wants, and the row that is filled -/
structure SH (w : World) (A : Option Addr) (n : Nat) (ws : List Int) (b : Nat) (out : List Int) (wr : World) : Prop where
  pr : NR wr A n ws
  own : wr.ownsRow w.heap.size 3 1 (.slice (some ⟨b, 0, none⟩) n n) n (icells out)
  below : Below w.heap.size w wr
  old : 0 < n → ∀ x, A.map (·.block) = some x → x < w.heap.size
  hb : w.heap.size ≤ b
theorem sh_drewN {w : World} {A : Option Addr} {n : Nat} {ws : List Int} {b : Nat} {out : List Int} {wr : World} (h : SH w A n ws b out wr) (k : Nat) : SH w A n ws b out (wr.drewN k) := ⟨h.pr, World.ownsRow.kept h.own (g_drewN (g_refl wr none) k) (.inr (by simp [Value.ownBlock])), below_drewN h.below k, h.old, h.hb⟩
theorem sh_set {w : World} {A : Option Addr} {n : Nat} {ws : List Int} {b : Nat} {out : List Int} {wr : World} (h : SH w A n ws b out wr) (k : Nat) (x : Int) : SH w A n ws b (out.set k x) (wr.setCell ⟨b, k, none⟩ (.int .i64 x)) :=
  ⟨nr_set h.pr (fun hn y hy => by have := h.old hn y hy; have := h.hb; simp; omega) _, own_set_int h.own k x, h.below.setCell h.hb _, h.old, h.hb⟩
def ShOut (w : World) (A : Option Addr) (n : Nat) (ws : List Int) (b : Nat) (bytes : Int) (bt : Value) (wr : World) : Prop :=
  ∃ (r k : Nat) (z : Int), k ≤ n ∧ (z = 0 ∨ k = 0) ∧ 0 ≤ z ∧ bt = .int .i64 z ∧ z + sumL (lev ws r k) = bytes ∧ SH w A n ws b (lev ws r k) wr
def ShIn (w : World) (A : Option Addr) (n : Nat) (ws : List Int) (b r : Nat) (bytes z0 : Int) (bt sm i : Value) (wr : World) : Prop :=
  ∃ (k : Nat) (z : Int) (sb : Bool), k ≤ n ∧ i = .int .i64 (k : Int) ∧ bt = .int .i64 z ∧ sm = .bool sb ∧ 0 ≤ z ∧ z ≤ z0 ∧ z + sumL (lev ws r k) = bytes ∧ (sb = true → z < z0) ∧ (sb = false → z = z0 ∧ ∀ (j : Nat) v, j < k → ws[j]? = some v → v ≤ (r : Int)) ∧ SH w A n ws b (lev ws r k) wr
def SharePost (w : World) (n : Nat) (ws : List Int) (bytes : Int) (e : Ending) (w' : World) : Prop :=
  ∃ A2 s, e = .returned (.slice A2 n n) ∧ IsShare ws bytes s ∧ w'.ownsRow w.heap.size 3 1 (.slice A2 n n) n (icells s) ∧ Below w.heap.size w w'
set_option maxHeartbeats 4000000 in
theorem l4Shares_any (A : Option Addr) (n c : Nat) (ws : List Int) (bytes : Int) (w : World) (h : NR w A n ws) (hv : ∀ x ∈ ws, 0 ≤ x ∧ x ≤ 5000) (hn : n ≤ 64) (hb : 0 ≤ bytes ∧ bytes ≤ 5000) :
    Calls Try.prog 53 #[.slice A n c, .int .i64 bytes] w (SharePost w n ws bytes) := by
  have H := Lib.hid h
  have HV := Lib.hid hv
  have HL := Lib.hid h.1
  have OLD := Lib.hid (nr_old h)
  obtain ⟨b0, b1⟩ := hb
  clear h hv
  obtain ⟨i0, hi, hz0, hz1, hz2⟩ := info_parts infoInt
  go_enter Try.func53, Try.ntmps53
  go_wp2_with (refine wpList_make_full _ rfl (.tmp 9) (.tmp 9) 23 rfl w.heap.size 3 i0 _ 1 Try.underlying23 hi hz0 hz1 .i64 .i64 n n n rfl rfl rfl rfl (by rw [hz2]; omega) (by unfold maxLen; omega) (Nat.le_refl _) ?_; intro w1 ho1 hg1)
  have R0 : Hid (ShOut w A n ws w.heap.size bytes (.int .i64 bytes) w1) := Lib.hid (by
    rw [zerosI] at ho1
    have hz : lev ws 0 0 = List.replicate n 0 := by rw [lev_zero fun x hx => (HV.out x hx).1, HL.out]
    have hs : sumL (List.replicate n (0 : Int)) = 0 := by
      have := sumL_bd (xs := List.replicate n (0 : Int)) (B := 0) fun x hx => by have := List.eq_of_mem_replicate hx; omega
      omega
    refine ⟨0, 0, bytes, Nat.zero_le _, .inr rfl, b0, rfl, by rw [hz, hs]; omega, ?_⟩
    rw [hz]
    exact ⟨nr_below H.out ⟨hg1.os, hg1.tape, hg1.output, hg1.size, fun i hi => hg1.block i hi (by simp)⟩, ho1, ⟨hg1.os, hg1.tape, hg1.output, hg1.size, fun i hi => hg1.block i hi (by simp)⟩, OLD.out, Nat.le_refl _⟩)
  clear ho1 hg1 hi hz0 hz1 hz2
  go_loopw [1] (fun bt wr => ShOut w A n ws w.heap.size bytes bt wr) (fun bt _ => (intOf bt).toNat)
  case atStart => exact R0.out
  case round =>
    obtain ⟨r, k0, z, hk0, hor, z0, rfl, hsum, hS⟩ := hrel
    clear R0
    have HS := Lib.hid hS
    have HSUM := Lib.hid hsum
    clear hS hsum
    by_cases hz : 0 < z
    · obtain rfl : k0 = 0 := by omega
      clear hor hk0
      have zb : z ≤ 5000 := by have := HSUM.out; have := lev_bd (r := r) (k := 0) HV.out; omega
      have R1 : Hid (ShIn w A n ws w.heap.size r bytes z (.int .i64 z) (.bool false) (.int .i64 0) wr) := Lib.hid ⟨0, z, false, Nat.zero_le _, rfl, rfl, rfl, z0, Int.le_refl _, HSUM.out, (fun h => by cases h), (fun _ => ⟨rfl, fun j v hj => by omega⟩), HS.out⟩
      go_wp2
      go_loopw [1, 6, 7] (fun bt sm i wr => ShIn w A n ws w.heap.size r bytes z bt sm i wr) (fun _ _ i _ => n - (intOf i).toNat)
      case atStart => exact R1.out
      case round =>
        obtain ⟨k, y, sb, hk, rfl, rfl, rfl, y0, y1, hsum, ht, hf, hS⟩ := hrel
        clear R1 HS HSUM
        have HS := Lib.hid hS
        have HSUM := Lib.hid hsum
        have HT := Lib.hid ht
        have HF := Lib.hid hf
        clear hsum ht hf
        by_cases hlt : k < n
        · by_cases hy : 0 < y
          · obtain ⟨b, off, v, rfl, hb, hv, c0⟩ := nr_at hS.pr hlt
            obtain ⟨b', off', x, e1, hb', hx, d0⟩ := nr_at (nr_own hS.own) hlt
            obtain ⟨rfl, rfl⟩ : w.heap.size = b' ∧ 0 = off' := by injection e1 with e1; injection e1 with a b; exact ⟨a, b⟩
            rw [Nat.zero_add] at d0
            have hx' : x = min v (r : Int) := by rw [lev_get hv] at hx; injection hx with hx; rw [← hx]; simp [cof]
            have HW := Lib.hid hv
            obtain ⟨v0, v1⟩ := HV.out v (List.mem_of_getElem? hv)
            have k0 : (0 : Int) ≤ (k : Int) := by omega
            have k1 : (k : Int) < (n : Int) := by omega
            have f0 := World.ownsRow.frozenAt hS.own k
            clear hS hx e1 hv
            by_cases hr : (r : Int) < v
            · obtain rfl : x = (r : Int) := by omega
              have HM := Lib.hid (lev_more HW.out hr)
              clear hx'
              have SN := Lib.hid (sh_set (sh_drewN HS.out 1) k ((r : Int) + 1))
              go_wp2_with fail
              go_quiet (fail)
              go_wp2
              go_roundw
              case rel => exact ⟨k + 1, y - 1, true, by omega, by go_num, rfl, rfl, by omega, by omega, by have := HSUM.out; have := HM.out.2.2; omega, (fun _ => by omega), (fun h => by cases h), by rw [HM.out.2.1]; exact sh_set (sh_drewN HS.out _) k _⟩
              case measure => simp [intOf]; omega
            · have hxv : x = v := by omega
              subst hxv
              have HM := Lib.hid (lev_same HW.out (by omega : x ≤ (r : Int)))
              have hd : decide (x < x) = false := by simp
              have HRV := Lib.hid (show x ≤ (r : Int) by omega)
              clear hx' hr
              go_wp2_with fail
              go_quiet (fail)
              go_wp2
              go_roundw
              case rel => exact ⟨k + 1, y, sb, by omega, by go_num, rfl, rfl, y0, y1, by rw [HM.out]; exact HSUM.out, HT.out, fun h => ⟨(HF.out h).1, fun j u hj hu => by
                rcases Nat.lt_or_ge j k with hl | hl
                · exact (HF.out h).2 j u hl hu
                · obtain rfl : j = k := by omega
                  rw [HW.out] at hu
                  injection hu with hu
                  rw [← hu]; exact HRV.out⟩, by rw [HM.out]; exact sh_drewN HS.out _⟩
              case measure => simp [intOf]; omega
          · obtain rfl : y = 0 := by omega
            have hsb : sb = true := by
              rcases sb with _ | _
              · have := (HF.out rfl).1; omega
              · rfl
            subst hsb
            clear hS hy
            go_wp2
            go_roundw
            case rel => exact ⟨r, k, 0, hk, .inl rfl, by omega, rfl, HSUM.out, HS.out⟩
            case measure => simp [intOf]; omega
        · obtain rfl : k = n := by omega
          clear hS
          rcases sb with _ | _
          · have HD := Lib.hid (lev_done (r := r) fun j v hv => (HF.out rfl).2 j v (by
              have := HL.out
              rcases Nat.lt_or_ge j ws.length with hl | hl
              · omega
              · rw [List.getElem?_eq_none hl] at hv; cases hv) hv)
            go_wp2
            go_ret
            refine ⟨_, lev ws r k, rfl, ⟨⟨r, k, rfl⟩, by have := HSUM.out; omega, .inr (by have := HD.out; rw [HL.out] at this; exact this)⟩, HS.out.own, HS.out.below⟩
          · have hyz := HT.out rfl
            have HFU : Hid (lev ws r k = lev ws (r + 1) 0) := Lib.hid (by have := lev_full ws r; rw [HL.out] at this; exact this)
            go_wp2
            go_roundw
            case rel => exact ⟨r + 1, 0, y, Nat.zero_le _, .inr rfl, y0, rfl, by rw [← HFU.out]; exact HSUM.out, by rw [← HFU.out]; exact HS.out⟩
            case measure => simp [intOf]; omega
    · obtain rfl : z = 0 := by omega
      clear hz hor
      go_wp2
      go_ret
      exact ⟨_, lev ws r k0, rfl, ⟨⟨r, k0, rfl⟩, by have := HSUM.out; omega, .inl (by have := HSUM.out; omega)⟩, HS.out.own, HS.out.below⟩
end Go.Proofs.Ytkbjelchihdajaa
