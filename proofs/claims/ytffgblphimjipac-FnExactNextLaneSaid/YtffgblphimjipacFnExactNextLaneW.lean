/-
  The law FnExactNextLane returns true at every argument: the program's NextLane answers as the model's and writes into no argument. Conditions: none.
-/
import Derived.Test.YtffgblphimjipacKo
import Derived.Test.YtffgblphimjipacKk
import Derived.Test.YtffgblphimjipacKz
import Derived.Test.YtffgblphimjipacKl
import Derived.Test.YtffgblphimjipacKn
namespace Go.Proofs.Ytffgblphimjipac.fnExactNextLane
open Go.ChangeShapes Go.WideShapes Go.ChangeAt Go.RowKit

theorem both (l : Ln) : ∃ (x : Int) (ok : Bool), Hid (∀ (A : Option Addr) (n c : Nat) (B : Option Addr) (m d : Nat) (C : Option Addr) (o f : Nat) (w : World), LR w A n B m C o l → Calls Try.prog 37 #[.agg #[.slice A n c, .slice B m d, .slice C o f]] w (fun e w' => e = .returned (.tuple #[.int .i64 x, .bool ok]) ∧ Below w.heap.size w w')) ∧ Hid (∀ (A : Option Addr) (n c : Nat) (B : Option Addr) (m d : Nat) (C : Option Addr) (o f : Nat) (w : World), LR w A n B m C o l → Calls Try.prog 20 #[.agg #[.slice A n c, .slice B m d, .slice C o f]] w (fun e w' => e = .returned (.tuple #[.int .i64 x, .bool ok]) ∧ Below w.heap.size w w')) := by
  have F : ∃ (x : Int) (ok : Bool), ∀ (w : World) (e : Ending) (w' : World), NlPost w l e w' → e = .returned (.tuple #[.int .i64 x, .bool ok]) ∧ Below w.heap.size w w' := by
    by_cases h : LV l ∧ ∃ i, Turn6 l i
    · obtain ⟨hv, i, hi⟩ := h
      refine ⟨(i : Int), true, fun w e w' ⟨hp, hb⟩ => ⟨?_, hb⟩⟩
      rcases hp with ⟨j, -, hj, rfl⟩ | ⟨hn, -⟩
      · rw [turn_uniq hj hi]
      · exact absurd ⟨hv, i, hi⟩ hn
    · refine ⟨0, false, fun w e w' ⟨hp, hb⟩ => ⟨?_, hb⟩⟩
      rcases hp with ⟨j, hv, hj, -⟩ | ⟨-, rfl⟩
      · exact absurd ⟨hv, j, hj⟩ h
      · rfl
  obtain ⟨x, ok, hF⟩ := F
  exact ⟨x, ok, Lib.hid fun A n c B m d C o f w h => (nlS_any A n c B m d C o f l w h).mono fun e w' => hF w e w', Lib.hid fun A n c B m d C o f w h => (nlI_any A n c B m d C o f l w h).mono fun e w' => hF w e w'⟩

theorem rd33b {w5 w' : World} {g0 g4 : Nat} {t0 t4 : TypeId} {x y z x4 y4 z4 : Value} (B0 : Blk w5 g0 t0 #[x, y, z]) (B4 : Blk w5 g4 t4 #[x4, y4, z4]) (hb : Below w5.heap.size w5 w') :
    ((w'.cell? ⟨g0, 0, none⟩ = some x ∧ w'.cell? ⟨g0, 1, none⟩ = some y ∧ w'.cell? ⟨g0, 2, none⟩ = some z) ∧ (w'.cell? ⟨g4, 0, none⟩ = some x4 ∧ w'.cell? ⟨g4, 1, none⟩ = some y4 ∧ w'.cell? ⟨g4, 2, none⟩ = some z4)) ∧ Below w5.heap.size w5 w' := by
  have b0 := blk_below B0 hb (blk_lt B0)
  have b4 := blk_below B4 hb (blk_lt B4)
  exact ⟨⟨(blk_three b0).1, (blk_three b4).1⟩, hb⟩
set_option maxRecDepth 100000 in
set_option maxHeartbeats 8000000 in
theorem walk (A : Option Addr) (n c : Nat) (B : Option Addr) (m d : Nat) (C : Option Addr) (o f : Nat) (l : Ln) (w : World) (h : LA w A n B m C o l) :
    Calls Try.prog 10 #[.agg #[.slice A n c, .slice B m d, .slice C o f]] w fun e w' => e = .returned (.bool true) ∧ Below w.heap.size w w' := by
  have H := Lib.hid h
  have HL := Lib.hid (la_lens h)
  have B0 := Lib.hid (below_alloc (Below.refl w.heap.size w) (.cells #[.slice A n c, .slice B m d, .slice C o f] 57))
  have A0 := Lib.hid (blk_new w 57 #[.slice A n c, .slice B m d, .slice C o f])
  clear h
  by_cases hbig : lsz l ≤ 1048576
  · obtain ⟨x, ok, HS0, HI0⟩ := both l
    have n0 : n ≤ 1048576 := by have := HL.out.2.2.2; omega
    have m0 : m ≤ 1048576 := by have := HL.out.2.2.2; omega
    have o0 : o ≤ 1048576 := by have := HL.out.2.2.2; omega
    have hle : ¬ (1048576 : Int) < (lsz l : Int) := by omega
    have hd : decide ((1048576 : Int) - (lsz l : Int) < 0) = false := by simp; omega
    go_enter Try.func10, Try.ntmps10
    go_wp2_with fail
    refine (szLanes_any A n c B m d C o f l 1048576 _ (la_below H.out B0.out) (by omega)).mono ?_
    rintro e w1 ⟨rfl, hb⟩
    rw [if_neg (by omega)]
    have B1 := Lib.hid (below_seq B0.out hb)
    have A1 := Lib.hid (blk_below A0.out hb (by simp))
    clear hb hle
    obtain ⟨⟨q0, q1, q2⟩, -⟩ := blk_three A1.out
    go_wp2_with fail
    refine (toLanes_any A n c B m d C o f l _ (la_below H.out B1.out) hbig).mono ?_
    rintro e w2 ⟨A2, B2', C2, hs2, iv2, rfl, hD, -, hb⟩
    have X2 := Lib.hid (lo_lr hD (by omega) (by omega) (by omega))
    have B2 := Lib.hid (below_seq B1.out hb)
    have A2b := Lib.hid (blk_below A1.out hb (blk_lt A1.out))
    clear hb hD q0 q1 q2
    go_wp2_with fail
    refine (HS0.out A2 n n B2' m m C2 o o _ X2.out).mono ?_
    rintro e w3 ⟨rfl, hb⟩
    have B3 := Lib.hid (below_seq B2.out hb)
    have A3 := Lib.hid (blk_below A2b.out hb (blk_lt A2b.out))
    clear hb X2 A2b
    obtain ⟨⟨q0, q1, q2⟩, -⟩ := blk_three A3.out
    go_wp2_with fail
    refine (toLanes_any A n c B m d C o f l _ (la_below H.out B3.out) hbig).mono ?_
    rintro e w4 ⟨A4, B4', C4, hs4, iv4, rfl, hD, -, hb⟩
    have X4 := Lib.hid (lr_alloc (lo_lr hD (by omega) (by omega) (by omega)) (.cells #[.slice A4 n n, .slice B4' m m, .slice C4 o o] 26))
    have B4 := Lib.hid (below_alloc (below_seq B3.out hb) (.cells #[.slice A4 n n, .slice B4' m m, .slice C4 o o] 26))
    have A4b := Lib.hid (blk_alloc (blk_below A3.out hb (blk_lt A3.out)) (.cells #[.slice A4 n n, .slice B4' m m, .slice C4 o o] 26))
    have Y4 := Lib.hid (blk_new w4 26 #[.slice A4 n n, .slice B4' m m, .slice C4 o o])
    clear hb hD q0 q1 q2
    obtain ⟨⟨x0, x1, x2⟩, -⟩ := blk_three Y4.out
    go_wp2_with fail
    refine (HI0.out A4 n n B4' m m C4 o o _ X4.out).mono ?_
    rintro e w5 ⟨rfl, hb⟩
    have X5 := Lib.hid (lr_below X4.out hb)
    have B5 := Lib.hid (below_seq B4.out hb)
    have A5 := Lib.hid (blk_below A4b.out hb (blk_lt A4b.out))
    have Y5 := Lib.hid (blk_below Y4.out hb (blk_lt Y4.out))
    clear hb x0 x1 x2
    have hS := rd33b A5.out Y5.out (Below.refl w5.heap.size w5).drew
    go_wp2_with fail
    go_region_held3 (fun w' => ((w'.cell? ⟨w.heap.size, 0, none⟩ = some (.slice A n c) ∧ w'.cell? ⟨w.heap.size, 1, none⟩ = some (.slice B m d) ∧ w'.cell? ⟨w.heap.size, 2, none⟩ = some (.slice C o f)) ∧ (w'.cell? ⟨w4.heap.size, 0, none⟩ = some (.slice A4 n n) ∧ w'.cell? ⟨w4.heap.size, 1, none⟩ = some (.slice B4' m m) ∧ w'.cell? ⟨w4.heap.size, 2, none⟩ = some (.slice C4 o o))) ∧ Below w5.heap.size w5 w')
      (first | (with_reducible assumption) | fail)
      (first
        | (go_at_call 36
           refine (eqLanes_same A4 A6 n n n n B4' B6 m m m m C4 C6 o o o o l _ (lr_below X5.out K6.out) PX6.out).mono ?_
           rintro e w7 ⟨rfl, hb7⟩
           have K7 := Lib.hid (below_seq K6.out hb7)
           have hS7 := rd33b A5.out Y5.out K7.out
           clear hb7)
        | (go_at_call 35
           refine (toLanes_any A n c B m d C o f l _ (la_below H.out (below_seq B5.out (Below.refl w5.heap.size w5).drew)) hbig).mono ?_
           rintro e w6 ⟨A6, B6, C6, hs6, iv6, rfl, ho6, -, hb6⟩
           have PX6 := Lib.hid (lo_lr ho6 (by omega) (by omega) (by omega))
           have K6 := Lib.hid (below_seq (Below.refl w5.heap.size w5).drew hb6)
           have hS6 := rd33b A5.out Y5.out K6.out
           clear hb6 ho6))
    all_goals
      clear PX6 hS hS6 hS7
      go_wp2
      go_ret
      exact ⟨rfl, below_seq B5.out K7.out⟩
  · have hle : (1048576 : Int) < (lsz l : Int) := by omega
    go_enter Try.func10, Try.ntmps10
    go_wp2_with fail
    refine (szLanes_any A n c B m d C o f l 1048576 _ (la_below H.out B0.out) (by omega)).mono ?_
    rintro e w1 ⟨rfl, hb⟩
    rw [if_pos (by omega)]
    have B1 := Lib.hid (below_seq B0.out hb)
    clear hb hle hbig
    go_wp2
    go_ret
    exact ⟨rfl, B1.out⟩
end Go.Proofs.Ytffgblphimjipac.fnExactNextLane
