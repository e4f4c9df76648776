/-
  Chapter 10: shaping as the laws want it, comparing arrivals. Conditions: a slice's length fits an int.
-/
import Derived.Test.YtclgmmnidkppmabEL
import Derived.Test.YtclgmmnidkppmabE8
import Derived.Test.YtclgmmnidkppmabEax
namespace Go.Proofs.Ytclgmmnidkppmab
open Go.RowKit

theorem shaped_of {ps qs : List Arr} {r s : Int} (h : ShIs ps r s qs true) : bkB ps r s = true ∧ Shaped r s s 0 ps qs := by
  rcases h with ⟨a, b, _⟩ | ⟨_, _, e⟩
  · have h1 := bk_of a
    exact ⟨a, shp_shaped (bv_full h1.2) (av_of h1.1).2 b⟩
  · cases e
theorem shaped_val {ps qs : List Arr} {r s : Int} (h : ShIs ps r s qs true) : avB qs = true := by
  obtain ⟨a, S⟩ := shaped_of h
  have := (av_of (bk_of a).1).1
  rw [avB, S.val, S.len, decide_eq_true this]
  rfl
theorem shaped_bk {ps qs : List Arr} {r s : Int} (h : ShIs ps r s qs true) : bkB qs r s = true := by
  rw [bkB, shaped_val h, (bk_of (shaped_of h).1).2]
  rfl
theorem shaped_back {ps qs : List Arr} {r s : Int} (h : ShIs ps r s qs true) : back r qs ≤ s := by
  obtain ⟨a, S⟩ := shaped_of h
  have := bk_in a
  exact (conf_iff (by omega)).1 S.con
theorem shaped_again {ps qs : List Arr} {r s : Int} (h : ShIs ps r s qs true) : ShIs qs r s qs true := by
  obtain ⟨a, S⟩ := shaped_of h
  exact .inl ⟨shaped_bk h, shp_same (bv_full (bk_of a).2) S.val S.con, rfl⟩
theorem shaped_same {ps qs : List Arr} {r s : Int} (h : ShIs ps r s qs true) : cfR ps r s = sameA qs ps := by
  obtain ⟨a, S⟩ := shaped_of h
  rw [cfR_yes a]
  rcases hc : conf r s ps with _ | _
  · refine sameA_no fun e => ?_
    subst e
    have := S.con
    unfold conf at hc
    rw [this] at hc
    cases hc
  · refine sameA_yes ?_
    have h1 := shp_same (bv_full (bk_of a).2) (av_of (bk_of a).1).2 hc
    rcases h with ⟨_, b, _⟩ | ⟨_, _, e⟩
    · unfold shape at b
      rw [h1] at b
      exact (Option.some.inj b).symm
    · cases e
def ShRd (w : World) (ps : List Arr) (r s : Int) (e : Ending) (w' : World) : Prop :=
  ∃ A n c qs ok, e = .returned (.tuple #[.slice A n c, .bool ok]) ∧ ShIs ps r s qs ok ∧ n ≤ 32 ∧ n ≤ c ∧ AR w' A n qs ∧ Below w.heap.size w w'
theorem sh_rd {w w' : World} {ps : List Arr} {r s : Int} {e : Ending} (h : ShPost w ps r s e w') : ShRd w ps r s e w' := by
  obtain ⟨A, n, c, qs, ok, h1, h2, h3, h4, h5⟩ := h
  obtain ⟨A', c', hv, hnc, -⟩ := own_form h4
  obtain ⟨rfl, rfl⟩ : A = A' ∧ c = c' := by injection hv with a1 a2 a3; exact ⟨a1, a3⟩
  exact ⟨A, n, c, qs, ok, h1, h2, h3, hnc, ar_own h4, h5⟩
theorem shI_rd (A : Option Addr) (n c : Nat) (ps : List Arr) (r s : Int) (w : World) (h : AR w A n ps) (hn : n ≤ 9223372036854775807) :
    Calls Try.prog 32 #[.slice A n c, .int .i64 r, .int .i64 s] w (ShRd w ps r s) := (shI_any A n c ps r s w h hn).mono fun _ _ => sh_rd
theorem shS_rd (A : Option Addr) (n c : Nat) (ps : List Arr) (r s : Int) (w : World) (h : AR w A n ps) (hn : n ≤ 9223372036854775807) :
    Calls Try.prog 31 #[.slice A n c, .int .i64 r, .int .i64 s] w (ShRd w ps r s) := (shS_any A n c ps r s w h hn).mono fun _ _ => sh_rd
set_option maxHeartbeats 2000000 in
theorem tga_any (A A2 : Option Addr) (n c n2 c2 : Nat) (ps qs : List Arr) (w : World) (h : AR w A n ps) (h2 : AR w A2 n2 qs) (hn : n ≤ 9223372036854775807) (hn2 : n2 ≤ 9223372036854775807) :
    Calls Try.prog 18 #[.slice A n c, .slice A2 n2 c2] w fun e w' => e = .returned (.bool (sameA ps qs)) ∧ Below w.heap.size w w' := by
  have H := Lib.hid h
  have H2 := Lib.hid h2
  clear h h2
  by_cases hl : n = n2
  · subst hl
    go_enter Try.func18, Try.ntmps18
    go_wp2
    go_loopw [5] (fun i wr => EqA ps qs w n i wr) (fun i _ => n - (intOf i).toNat)
    case atStart => exact ⟨0, Nat.zero_le _, rfl, by simp, Below.refl _ _⟩
    case round =>
      obtain ⟨k, hk, rfl, ht, hbl⟩ := hrel
      have HT := Lib.hid ht
      clear ht
      by_cases hlt : k < n
      · obtain ⟨b, off, p, rfl, hb, hp, c0, c1⟩ := ar_at (ar_below H.out hbl) hlt
        obtain ⟨b2, off2, q, rfl, hb2, hq, d0, d1⟩ := ar_at (ar_below H2.out hbl) hlt
        have HP := Lib.hid hp
        have HQ := Lib.hid hq
        have HB := Lib.hid hbl
        clear hp hq hbl
        have hcase : p = q ∨ (p.t == q.t) = false ∨ ((p.t == q.t) = true ∧ (p.z == q.z) = false) := arr_cases p q
        rcases hcase with rfl | e0 | ⟨e0, e1⟩
        · go_wp2
          go_quiet (fail)
          go_wp2
          go_roundw
          case rel => exact ⟨k + 1, by omega, by go_num, take_stepA HT.out HP.out HQ.out rfl, below_drewN HB.out _⟩
          case measure => simp [intOf]; omega
        all_goals
          go_wp2
          go_quiet (fail)
          go_wp2
          go_ret
          exact ⟨ret_bool (sameA_no (take_neA HP.out HQ.out (by rintro rfl; simp at *))), below_drewN HB.out _⟩
      · obtain rfl : k = n := by omega
        have HB := Lib.hid hbl
        clear hbl
        go_wp2
        go_ret
        exact ⟨ret_bool (sameA_yes (take_allA HT.out (by have := H.out.1; omega) (by have := H2.out.1; omega))), HB.out⟩
  · have hlb : ((n : Int) == (n2 : Int)) = false := by simp; omega
    have HL := Lib.hid hl
    clear hl
    go_enter Try.func18, Try.ntmps18
    go_wp2
    go_ret
    exact ⟨ret_bool (sameA_no (by rintro rfl; exact HL.out (H.out.1.symm.trans H2.out.1))), Below.refl _ _⟩
end Go.Proofs.Ytclgmmnidkppmab
