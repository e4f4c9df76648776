/-
  Chapter 11: CountDecisions: what the program's function and the model's return. Conditions: a slice's length fits an int.
-/
import Derived.Test.YtaccbmgbkalknabDoorAEx
import Derived.Test.YtaccbmgbkalknabDoorYm
namespace Go.Proofs.YtaccbmgbkalknabDoor
open Go.RowKit

/-- numbers, and whether there are any -/
def LPq (w : World) (xs : List Int) (ok : Bool) (e : Ending) (w' : World) : Prop :=
  ∃ A n c, e = .returned (.tuple #[.slice A n c, .bool ok]) ∧ n = xs.length ∧ w'.ownsRow w.heap.size 3 1 (.slice A n c) n (icells xs) ∧ Below w.heap.size w w'
theorem lpq_mk {w w' : World} {xs : List Int} {ok : Bool} {e : Ending} {A : Option Addr} {n c : Nat} (he : e = .returned (.tuple #[.slice A n c, .bool ok])) (ho : w'.ownsRow w.heap.size 3 1 (.slice A n c) n (icells xs)) (hb : Below w.heap.size w w') : LPq w xs ok e w' :=
  ⟨A, n, c, he, ((nr_own ho).1).symm, ho, hb⟩
theorem lpq_nil {w w' : World} {e : Ending} (he : e = .returned (.tuple #[.slice none 0 0, .bool false])) (hb : Below w.heap.size w w') : LPq w [] false e w' :=
  ⟨none, 0, 0, he, rfl, World.ownsRow_nil _ _ _ _, hb⟩
theorem lpq_empty {w w1 : World} {e : Ending} {b : Nat} (hB : b = w1.heap.size) (he : e = .returned (.tuple #[.slice (some ⟨b, 0, none⟩) 0 0, .bool false])) (hb : Below w.heap.size w w1) : LPq w [] false e (w1.alloc (.cells #[] 3)) :=
  ⟨_, 0, 0, he, rfl, own_mono (own_emptyI hB) hb.size, below_alloc hb _⟩
/-- a row of one's own that is filled while numbers are read -/
structure RW (w : World) (A : Option Addr) (n : Nat) (us : List Int) (m : Nat) (cur : List Int) (wr : World) : Prop where
  pr : NR wr A n us
  own : wr.ownsRow w.heap.size 3 1 (.slice (some ⟨w.heap.size, 0, none⟩) m m) m (icells cur)
  bel : Below w.heap.size w wr
  old : 0 < n → ∀ x, A.map (·.block) = some x → x < w.heap.size
theorem rw_set {w wr : World} {A : Option Addr} {n m : Nat} {us cur : List Int} (h : RW w A n us m cur wr) (k : Nat) (x : Int) : RW w A n us m (cur.set k x) (wr.setCell ⟨w.heap.size, k, none⟩ (.int .i64 x)) :=
  ⟨nr_set h.pr (fun hn y hy => by have := h.old hn y hy; simp; omega) _, own_set_int h.own k x, h.bel.setCell (Nat.le_refl _) _, h.old⟩
theorem rw_drewN {w wr : World} {A : Option Addr} {n m : Nat} {us cur : List Int} (h : RW w A n us m cur wr) (k : Nat) : RW w A n us m cur (wr.drewN k) :=
  ⟨h.pr, own_below h.own (below_drewN (Below.refl _ _) k), below_drewN h.bel k, h.old⟩
theorem rw_drew {w wr : World} {A : Option Addr} {n m : Nat} {us cur : List Int} (h : RW w A n us m cur wr) : RW w A n us m cur wr.drew := rw_drewN h 1
theorem nat_of {x lo hi : Int} (h0 : 0 ≤ lo) (h : lo ≤ x ∧ x ≤ hi) : ∃ d : Nat, x = (d : Int) ∧ lo ≤ (d : Int) ∧ (d : Int) ≤ hi := ⟨x.toNat, by omega, by omega, by omega⟩
theorem memT_succ {us : List Int} {k : Nat} {x : Int} {P : Int → Prop} (h : ∀ y ∈ us.take k, P y) (hx : us[k]? = some x) (hp : P x) : ∀ y ∈ us.take (k + 1), P y := by
  intro y hy
  rw [List.take_add_one, hx] at hy
  rcases List.mem_append.1 hy with hy | hy
  · exact h y hy
  · simp at hy; subst hy; exact hp
theorem cd_step {us : List Int} {k d : Nat} (hx : us[k]? = some (d : Int)) (hd : 1 ≤ (d : Int) ∧ (d : Int) ≤ 5) : (cdL (us.take k)).set d (cntI d (us.take k) + 1) = cdL (us.take (k + 1)) := by
  rw [List.take_add_one, hx]
  exact cd_snoc hd
theorem cd_end {us : List Int} {n k : Nat} (h : us.length = n) (hk : n ≤ k) : cdL (us.take k) = cdL us := by rw [List.take_of_length_le (by omega)]
theorem dec_bad {us : List Int} {k : Nat} {x : Int} (hx : us[k]? = some x) (h : ¬(1 ≤ x ∧ x ≤ 5)) : decB us = false := by
  rcases hq : decB us with _ | _
  · rfl
  · exact absurd (dec_of hq x (List.mem_of_getElem? hx)) h
def CdRel (w : World) (A : Option Addr) (n : Nat) (us : List Int) (i : Value) (wr : World) : Prop :=
  ∃ k : Nat, k ≤ n ∧ i = .int .i64 (k : Int) ∧ (∀ x ∈ us.take k, 1 ≤ x ∧ x ≤ 5) ∧ RW w A n us 6 (cdL (us.take k)) wr
def allD (lo hi : Int) (us : List Int) : Bool := us.all (fun x => decide (lo ≤ x ∧ x ≤ hi))
theorem allD_of {lo hi : Int} {us : List Int} (h : allD lo hi us = true) : ∀ x ∈ us, lo ≤ x ∧ x ≤ hi := by
  simpa [allD, List.all_eq_true] using h
theorem allD_bad {lo hi x : Int} {us : List Int} {k : Nat} (hx : us[k]? = some x) (h : inB x lo hi = false) : allD lo hi us = false := by
  rcases hq : allD lo hi us with _ | _
  · rfl
  · have := allD_of hq x (List.mem_of_getElem? hx)
    simp [inB] at h
    omega
theorem allD_mk {lo hi : Int} {us : List Int} (h : ∀ x ∈ us, inB x lo hi = true) : allD lo hi us = true := by
  simpa [allD, inB, List.all_eq_true] using h
set_option maxRecDepth 100000 in
set_option maxHeartbeats 1000000 in
theorem allD_any (A : Option Addr) (n c : Nat) (us : List Int) (lo hi : Int) (w : World) (h : NR w A n us) (hn : n ≤ 9223372036854775807) :
    Calls Tryd.prog 30 #[.slice A n c, .int .i64 lo, .int .i64 hi] w fun e w' => e = .returned (.bool (allD lo hi us)) ∧ w' = w := by
  have H := Lib.hid h
  clear h
  go_enter Tryd.func30, Tryd.ntmps30
  go_wp2
  go_loop [11] (fun i => ∃ k : Nat, k ≤ n ∧ i = .int .i64 (k : Int) ∧ ∀ x ∈ us.take k, inB x lo hi = true) (fun i => n - (intOf i).toNat)
  case atStart => exact ⟨0, Nat.zero_le _, rfl, fun x hx => by simp at hx⟩
  case round =>
    obtain ⟨k, hk, rfl, hall⟩ := hrel
    have HA := Lib.hid hall
    clear hall
    by_cases hlt : k < n
    · obtain ⟨b, off, x, rfl, hb, hx, c0⟩ := nr_at H.out hlt
      have HX := Lib.hid hx
      have k0 : (0 : Int) ≤ (k : Int) := by omega
      have k1 : (k : Int) < (n : Int) := by omega
      clear hx
      rcases hin : inB x lo hi with _ | _
      · have HI := Lib.hid hin
        go_wp2_with (go_at_call 35; refine (within_any _ _ _ _).mono ?_; rintro e w' ⟨rfl, rfl⟩; rw [HI.out])
        go_ret
        exact ⟨ret_bool (allD_bad HX.out HI.out).symm, rfl⟩
      · have HI := Lib.hid hin
        go_wp2_with (go_at_call 35; refine (within_any _ _ _ _).mono ?_; rintro e w' ⟨rfl, rfl⟩; rw [HI.out])
        go_round
        case rel => exact ⟨k + 1, by omega, by go_num, memT_succ (P := fun x => inB x lo hi = true) HA.out HX.out HI.out⟩
        case measure => simp [intOf]; omega
    · obtain rfl : k = n := by omega
      have HE : Hid (allD lo hi us = true) := Lib.hid (allD_mk fun x hx => HA.out x (by rw [List.take_of_length_le (by have := H.out.1; omega)]; exact hx))
      go_wp2
      go_ret
      exact ⟨ret_bool HE.out.symm, rfl⟩
theorem allD_is (A : Option Addr) (n c : Nat) (us : List Int) (lo hi : Int) (v : Bool) (w : World) (h : NR w A n us) (hn : n ≤ 9223372036854775807) (hv : allD lo hi us = v) :
    Calls Tryd.prog 30 #[.slice A n c, .int .i64 lo, .int .i64 hi] w fun e w' => e = .returned (.bool v) ∧ w = w' := by
  subst hv
  exact (allD_any A n c us lo hi w h hn).mono fun _ _ h => ⟨h.1, h.2.symm⟩
set_option maxRecDepth 100000 in
set_option maxHeartbeats 2000000 in
theorem cdI_any (A : Option Addr) (n c : Nat) (us : List Int) (w : World) (h : NR w A n us) (hn : n ≤ 9223372036854775807) :
    Calls Tryd.prog 18 #[.slice A n c] w (LPq w (if decB us = true then cdL us else []) (decB us)) := by
  have H := Lib.hid h
  have OLD := Lib.hid (nr_old h)
  clear h
  rcases hd : decB us with _ | _
  · have HD : Hid (allD 1 5 us = false) := Lib.hid hd
    clear hd
    go_enter Tryd.func18, Tryd.ntmps18
    go_wp2_with (go_at_call 30; refine (allD_is A n c us 1 5 false _ H.out hn HD.out).mono ?_; rintro e w' ⟨rfl, rfl⟩)
    go_ret2
    exact lpq_nil rfl (Below.refl _ _)
  · have HD : Hid (allD 1 5 us = true) := Lib.hid hd
    have HV := Lib.hid (dec_of hd)
    clear hd
    obtain ⟨i0, hi, hz0, hz1, hz2⟩ := info_parts infoInt
    go_enter Tryd.func18, Tryd.ntmps18
    go_wp2_with (first
      | (go_at_call 30; refine (allD_is A n c us 1 5 true _ H.out hn HD.out).mono ?_; rintro e w' ⟨rfl, rfl⟩)
      | (refine wpList_make_full _ rfl (.const (.int .i64 6)) (.const (.int .i64 6)) 23 rfl w.heap.size 3 i0 _ 1 Tryd.underlying23 hi hz0 hz1 .i64 .i64 6 6 6 rfl rfl rfl rfl (by rw [hz2]; omega) (by unfold maxLen; omega) (Nat.le_refl _) ?_
         intro w1 ho1 hg1
         have R0 : Hid (CdRel w A n us (.int .i64 0) w1) := Lib.hid (by
           rw [zerosI] at ho1
           have hb1 : Below w.heap.size w w1 := ⟨hg1.os, hg1.tape, hg1.output, hg1.size, fun i hi => hg1.block i hi (by simp)⟩
           exact ⟨0, Nat.zero_le _, rfl, fun x hx => by simp at hx, nr_below H.out hb1, ho1, hb1, OLD.out⟩)
         clear ho1 hg1))
    clear hi hz0 hz1 hz2
    go_loopw [13] (fun i wr => CdRel w A n us i wr) (fun i _ => n - (intOf i).toNat)
    case atStart => exact R0.out
    case round =>
      obtain ⟨k, hk, rfl, hall, hR⟩ := hrel
      clear R0
      have HR := Lib.hid hR
      have HA := Lib.hid hall
      clear hall
      by_cases hlt : k < n
      · obtain ⟨b, off, x, rfl, hb, hx, c0⟩ := nr_at hR.pr hlt
        obtain ⟨d, rfl, hd1, hd5⟩ := nat_of (by omega) (HV.out x (List.mem_of_getElem? hx))
        obtain ⟨b', off', y, e1, hb', hy, d0⟩ := nr_at (k := d) (nr_own hR.own) (by omega)
        obtain ⟨rfl, rfl⟩ : w.heap.size = b' ∧ 0 = off' := by injection e1 with e1; injection e1 with a b; exact ⟨a, b⟩
        rw [Nat.zero_add] at d0
        have f0 := World.ownsRow.frozenAt hR.own d
        obtain rfl : y = cntI d (us.take k) := by rw [cd_get (by omega)] at hy; exact (Option.some.inj hy).symm
        obtain ⟨y, hY⟩ : ∃ y, y = cntI d (us.take k) := ⟨_, rfl⟩
        have y0 := (cntI_bd d (us.take k)).1
        have y1 := (cntI_bd d (us.take k)).2
        rw [List.length_take, ← hY] at y1
        rw [← hY] at d0 y0
        have y2 : y ≤ (k : Int) := by omega
        have HX := Lib.hid hx
        have HY := Lib.hid hY
        have k0 : (0 : Int) ≤ (k : Int) := by omega
        have k1 : (k : Int) < (n : Int) := by omega
        have d2 : (0 : Int) ≤ (d : Int) := by omega
        have d6 : (d : Int) < 6 := by omega
        clear hR hx hy hY e1 y1
        go_wp2
        go_roundw
        case rel => exact ⟨k + 1, by omega, by go_num, memT_succ (P := fun x => 1 ≤ x ∧ x ≤ 5) HA.out HX.out ⟨hd1, hd5⟩, by have := rw_set HR.out d (y + 1); rw [HY.out, cd_step HX.out ⟨hd1, hd5⟩] at this; rw [HY.out]; exact this⟩
        case measure => simp [intOf]; omega
      · obtain rfl : k = n := by omega
        clear hR
        go_wp2
        go_ret2
        exact lpq_mk rfl (by have o := HR.out.own; rw [cd_end H.out.1 (Nat.le_refl _)] at o; exact o) HR.out.bel
set_option maxRecDepth 100000 in
set_option maxHeartbeats 2000000 in
theorem cdS_any (A : Option Addr) (n c : Nat) (us : List Int) (w : World) (h : NR w A n us) (hn : n ≤ 9223372036854775807) :
    Calls Tryd.prog 20 #[.slice A n c] w (LPq w (if decB us = true then cdL us else []) (decB us)) := by
  have H := Lib.hid h
  have OLD := Lib.hid (nr_old h)
  clear h
  obtain ⟨i0, hi, hz0, hz1, hz2⟩ := info_parts infoInt
  obtain ⟨P, hP⟩ : ∃ P, P = (if decB us = true then cdL us else []) := ⟨_, rfl⟩
  obtain ⟨ok, hok⟩ : ∃ ok, ok = decB us := ⟨_, rfl⟩
  rw [← hP, ← hok]
  have HP : Hid (P = (if ok = true then cdL us else []) ∧ ok = decB us) := Lib.hid ⟨by rw [hP, hok], hok⟩
  clear hP hok
  go_enter Tryd.func20, Tryd.ntmps20
  go_wp2_with (refine wpList_make_full _ rfl (.const (.int .i64 6)) (.const (.int .i64 6)) 23 rfl w.heap.size 3 i0 _ 1 Tryd.underlying23 hi hz0 hz1 .i64 .i64 6 6 6 rfl rfl rfl rfl (by rw [hz2]; omega) (by unfold maxLen; omega) (Nat.le_refl _) ?_
               intro w1 ho1 hg1
               have R0 : Hid (CdRel w A n us (.int .i64 0) w1) := Lib.hid (by
                 rw [zerosI] at ho1
                 have hb1 : Below w.heap.size w w1 := ⟨hg1.os, hg1.tape, hg1.output, hg1.size, fun i hi => hg1.block i hi (by simp)⟩
                 exact ⟨0, Nat.zero_le _, rfl, fun x hx => by simp at hx, nr_below H.out hb1, ho1, hb1, OLD.out⟩)
               clear ho1 hg1)
  clear hi hz0 hz1 hz2
  go_loopw [5] (fun i wr => CdRel w A n us i wr) (fun i _ => n - (intOf i).toNat)
  case atStart => exact R0.out
  case round =>
    obtain ⟨k, hk, rfl, hall, hR⟩ := hrel
    clear R0
    have HR := Lib.hid hR
    have HA := Lib.hid hall
    clear hall
    by_cases hlt : k < n
    · obtain ⟨b, off, x, rfl, hb, hx, c0⟩ := nr_at hR.pr hlt
      have k0 : (0 : Int) ≤ (k : Int) := by omega
      have k1 : (k : Int) < (n : Int) := by omega
      have HX := Lib.hid hx
      by_cases h1 : x < 1
      · have HE := Lib.hid (dec_bad hx (by omega))
        clear hR hx
        go_wp2
        go_ret2
        obtain rfl : ok = false := HP.out.2.trans HE.out
        obtain rfl : P = [] := HP.out.1
        exact lpq_empty rfl rfl HR.out.bel
      · by_cases h5 : 5 < x
        · have HE := Lib.hid (dec_bad hx (by omega))
          clear hR hx
          go_wp2
          go_ret2
          obtain rfl : ok = false := HP.out.2.trans HE.out
          obtain rfl : P = [] := HP.out.1
          exact lpq_empty rfl rfl HR.out.bel
        · obtain ⟨d, rfl, hd1, hd5⟩ := nat_of (lo := 1) (hi := 5) (x := x) (by omega) (by omega)
          obtain ⟨b', off', y, e1, hb', hy, d0⟩ := nr_at (k := d) (nr_own hR.own) (by omega)
          obtain ⟨rfl, rfl⟩ : w.heap.size = b' ∧ 0 = off' := by injection e1 with e1; injection e1 with a b; exact ⟨a, b⟩
          rw [Nat.zero_add] at d0
          have f0 := World.ownsRow.frozenAt hR.own d
          obtain rfl : y = cntI d (us.take k) := by rw [cd_get (by omega)] at hy; exact (Option.some.inj hy).symm
          obtain ⟨y, hY⟩ : ∃ y, y = cntI d (us.take k) := ⟨_, rfl⟩
          have y0 := (cntI_bd d (us.take k)).1
          have y1 := (cntI_bd d (us.take k)).2
          rw [List.length_take, ← hY] at y1
          rw [← hY] at d0 y0
          have y2 : y ≤ (k : Int) := by omega
          have HY := Lib.hid hY
          have d2 : (0 : Int) ≤ (d : Int) := by omega
          have d6 : (d : Int) < 6 := by omega
          clear hR hx hy hY e1 y1
          go_wp2_with fail
          go_region
          all_goals
            go_wp2
            go_roundw
            case rel => exact ⟨k + 1, by omega, by go_num, memT_succ (P := fun x => 1 ≤ x ∧ x ≤ 5) HA.out HX.out ⟨hd1, hd5⟩, by have := rw_set (rw_drew HR.out) d (y + 1); rw [HY.out, cd_step HX.out ⟨hd1, hd5⟩] at this; rw [HY.out]; exact this⟩
            case measure => simp [intOf]; omega
    · obtain rfl : k = n := by omega
      clear hR
      have HE := Lib.hid (dec_mk (fun x hx => HA.out x (by rw [List.take_of_length_le (by have := H.out.1; omega)]; exact hx)))
      go_wp2
      go_ret2
      obtain rfl : ok = true := HP.out.2.trans HE.out
      obtain rfl : P = cdL us := HP.out.1
      exact lpq_mk rfl (by have o := HR.out.own; rw [cd_end H.out.1 (Nat.le_refl _)] at o; exact o) HR.out.bel
end Go.Proofs.YtaccbmgbkalknabDoor
