/-
  Chapter 10: merging as the laws want it; the draws of lists to merge. Conditions: a slice's length fits an int.
-/
import Derived.Test.YtclgmmnidkppmabEi
import Derived.Test.YtclgmmnidkppmabEt
import Derived.Test.YtclgmmnidkppmabDE
namespace Go.Proofs.Ytclgmmnidkppmab
open Go.RowKit

theorem mg_len {ps qs : List Arr} : (finA ps qs).length = ps.length + qs.length := finA_len ps qs
theorem mg_val {ps qs : List Arr} (h : mgB ps qs = true) : avB (finA ps qs) = true := by
  obtain ⟨h1, h2, h3⟩ := mg_of h
  rw [avB, mg_len, decide_eq_true h3, finA_val (av_of h1).2 (av_of h2).2 (Int.le_refl _)]
  rfl
theorem mg_sym {ps qs : List Arr} (h : mgB ps qs = true) : mgB qs ps = true := by
  obtain ⟨h1, h2, h3⟩ := mg_of h
  rw [mgB, h1, h2, decide_eq_true (by omega)]
  rfl
theorem mg_swp {ps qs : List Arr} (h : mgB ps qs = true) : Swp (finA ps qs) (finA qs ps) := by
  obtain ⟨h1, h2, h3⟩ := mg_of h
  exact swp_two (av_of h1).2 (av_of h2).2
theorem mg_peak {ps qs : List Arr} {d : Int} (hd : 1 ≤ d) (h : mgB ps qs = true) : peak d (finA ps qs) = peak d (finA qs ps) :=
  swp_pkS hd (mg_swp h) (lo := 0) (av_of (mg_val h)).2
theorem mg_back {ps qs : List Arr} {r : Int} (h : mgB ps qs = true) : back r (finA ps qs) = back r (finA qs ps) :=
  swp_mbl (mg_swp h) (lo := 0) (av_of (mg_val h)).2
theorem mg_add {ps qs : List Arr} (h : mgB ps qs = true) : mx (back 12 (finA ps qs)) 1 ≤ mx (back 5 ps) 1 + mx (back 7 qs) 1 := by
  obtain ⟨h1, h2, h3⟩ := mg_of h
  have h4 := back_two (r1 := 5) (r2 := 7) (av_of h1).2 (av_of h2).2 (by omega) (by omega)
  have h5 := mx_l (back 5 ps) 1
  have h6 := mx_r (back 5 ps) 1
  have h7 := mx_l (back 7 qs) 1
  have h8 := mx_r (back 7 qs) 1
  rw [show (5 : Int) + 7 = 12 by rfl] at h4
  exact mx_le.2 ⟨by omega, by omega⟩
def MgRd (w : World) (ps qs : List Arr) (R : Bool) (e : Ending) (w' : World) : Prop :=
  ∃ A n c, e = .returned (.tuple #[.slice A n c, .bool R]) ∧ n ≤ 32 ∧ n ≤ c ∧ AR w' A n (mgL ps qs) ∧ Below w.heap.size w w'
theorem mg_rd {w w' : World} {ps qs : List Arr} {R : Bool} {e : Ending} (hR : mgB ps qs = R) (h : MgPost w ps qs e w') : MgRd w ps qs R e w' := by
  subst hR
  obtain ⟨A, n, c, h1, h2, h3⟩ := h
  obtain ⟨A', c', hv, hnc, -⟩ := own_form h2
  obtain ⟨rfl, rfl⟩ : A = A' ∧ c = c' := by injection hv with a1 a2 a3; exact ⟨a1, a3⟩
  have h4 := ar_own h2
  refine ⟨A, n, c, h1, ?_, hnc, h4, h3⟩
  have h5 := h4.1
  rcases hb : mgB ps qs with _ | _
  · rw [mgL_no hb] at h5
    simp at h5
    omega
  · rw [mgL_yes hb, mg_len] at h5
    have := (mg_of hb).2.2
    omega
theorem mgI_rd (A B : Option Addr) (n c m d : Nat) (ps qs : List Arr) (R : Bool) (w : World) (hp : AR w A n ps) (hq : AR w B m qs) (hn : n ≤ 9) (hm : m ≤ 9) (hR : mgB ps qs = R) :
    Calls Try.prog 17 #[.slice A n c, .slice B m d] w (MgRd w ps qs R) := (mgI_any A B n c m d ps qs w hp hq (by omega) (by omega) (fun _ => by omega)).mono fun _ _ => mg_rd hR
theorem mgS_rd (A B : Option Addr) (n c m d : Nat) (ps qs : List Arr) (R : Bool) (w : World) (hp : AR w A n ps) (hq : AR w B m qs) (hn : n ≤ 9) (hm : m ≤ 9) (hR : mgB ps qs = R) :
    Calls Try.prog 20 #[.slice A n c, .slice B m d] w (MgRd w ps qs R) := (mgS_any A B n c m d ps qs w hp hq (by omega) (by omega)).mono fun _ _ => mg_rd hR
def DrewM (w : World) (e : Ending) (w' : World) : Prop :=
  ∃ A n c ps B m d qs, e = .returned (.tuple #[.slice A n c, .slice B m d]) ∧ n ≤ 9 ∧ m ≤ 9 ∧ n ≤ c ∧ m ≤ d ∧ AR w' A n ps ∧ AR w' B m qs ∧ Below w.heap.size w w'
set_option maxHeartbeats 1000000 in
theorem drawMerge_any (A : Option Addr) (n c : Nat) (w : World) (h : Bytes w A n c) :
    Calls Try.prog 19 #[.slice A n c] w (DrewM w) := by
  go_enter Try.func19, Try.ntmps19
  go_wp2_with fail
  refine (open_any A n c _ h).mono ?_
  rintro e w1 ⟨g, rfl, hg, hb, hr⟩
  have hgl := rd_lt hr
  go_wp2_with fail
  refine (drawA_any g 0 _ hr (by omega)).mono ?_
  rintro e w2 ⟨v, m, qs, rfl, hm, ho, hgr, hr2⟩
  obtain ⟨A2, c2, rfl, -, -, -⟩ := own_form ho
  have O2 := Lib.hid ho
  have hz2 := hgr.size
  have B2 := Lib.hid (below_grown hb hb.size hgr hg)
  clear hr ho hgr hb h
  go_wp2_with fail
  refine (wrongA_any g _ A2 m c2 qs _ hr2 (by omega) (ar_own O2.out) hm).mono ?_
  rintro e w3 ⟨v3, m3, qs3, rfl, hm3, ho3, hgr3, hr3⟩
  obtain ⟨A3, c3, rfl, hnc3, hcm3, -⟩ := own_form ho3
  have hz3 := hgr3.size
  have O3 := Lib.hid ho3
  have B3 := Lib.hid (below_grown B2.out B2.out.size hgr3 hg)
  clear hr2 ho3 hgr3 B2 O2
  go_wp2_with fail
  refine (drawA_any g _ _ hr3 (by omega)).mono ?_
  rintro e w4 ⟨v4, m4, qs4, rfl, hm4, ho4, hgr4, hr4⟩
  obtain ⟨A4, c4, rfl, hnc4, hcm4, -⟩ := own_form ho4
  have F := Lib.hid (show AR w4 A3 m3 qs3 ∧ AR w4 A4 m4 qs4 ∧ Below w.heap.size w w4 from ⟨ar_own (O3.out.kept hgr4 (own_block_none O3.out (by omega))), ar_own ho4, below_grown B3.out B3.out.size hgr4 hg⟩)
  clear hr3 ho4 hgr4 B3 O3 hr4
  go_wp2
  go_ret2
  exact ⟨A3, m3, c3, qs3, A4, m4, c4, qs4, rfl, hm3, hm4, hnc3, hnc4, F.out.1, F.out.2.1, F.out.2.2⟩
def DrewV (w : World) (e : Ending) (w' : World) : Prop :=
  ∃ A n c ps, e = .returned (.slice A n c) ∧ n ≤ 9 ∧ n ≤ c ∧ c ≤ maxLen ∧ AR w' A n ps ∧ Below w.heap.size w w'
set_option maxHeartbeats 1000000 in
theorem drawAV_any (A : Option Addr) (n c : Nat) (w : World) (h : Bytes w A n c) :
    Calls Try.prog 14 #[.slice A n c] w (DrewV w) := by
  go_enter Try.func14, Try.ntmps14
  go_wp2_with fail
  refine (open_any A n c _ h).mono ?_
  rintro e w1 ⟨g, rfl, hg, hb, hr⟩
  have hgl := rd_lt hr
  go_wp2_with fail
  refine (drawA_any g 0 _ hr (by omega)).mono ?_
  rintro e w2 ⟨v, m, qs, rfl, hm, ho, hgr, hr2⟩
  obtain ⟨A2, c2, rfl, -, -, -⟩ := own_form ho
  have O2 := Lib.hid ho
  have hz2 := hgr.size
  have B2 := Lib.hid (below_grown hb hb.size hgr hg)
  clear hr ho hgr hb h
  go_wp2_with fail
  refine (wrongA_any g _ A2 m c2 qs _ hr2 (by omega) (ar_own O2.out) hm).mono ?_
  rintro e w3 ⟨v3, m3, qs3, rfl, hm3, ho3, hgr3, hr3⟩
  obtain ⟨A3, c3, rfl, hnc3, hcm3, -⟩ := own_form ho3
  have hz3 := hgr3.size
  have O3 := Lib.hid ho3
  have B3 := Lib.hid (below_grown B2.out B2.out.size hgr3 hg)
  clear hr2 ho3 hgr3 B2 O2
  go_wp2_with fail
  refine (wrongA_any g _ A3 m3 c3 qs3 _ hr3 (by omega) (ar_own O3.out) hm3).mono ?_
  rintro e w4 ⟨v4, m4, qs4, rfl, hm4, ho4, hgr4, hr4⟩
  obtain ⟨A4, c4, rfl, hnc4, hcm4, -⟩ := own_form ho4
  have hz4 := hgr4.size
  have O4 := Lib.hid ho4
  have B4 := Lib.hid (below_grown B3.out B3.out.size hgr4 hg)
  clear hr3 ho4 hgr4 B3 O3
  go_wp2_with fail
  refine (wrongA_any g _ A4 m4 c4 qs4 _ hr4 (by omega) (ar_own O4.out) hm4).mono ?_
  rintro e w5 ⟨v5, m5, qs5, rfl, hm5, ho5, hgr5, hr5⟩
  obtain ⟨A5, c5, rfl, hnc5, hcm5, -⟩ := own_form ho5
  have F := Lib.hid (show AR w5 A5 m5 qs5 ∧ Below w.heap.size w w5 from ⟨ar_own ho5, below_grown B4.out B4.out.size hgr5 hg⟩)
  clear hr4 ho5 hgr5 B4 O4 hr5
  go_wp2
  go_ret
  exact ⟨A5, m5, c5, qs5, rfl, hm5, hnc5, hcm5, F.out.1, F.out.2⟩
end Go.Proofs.Ytclgmmnidkppmab
