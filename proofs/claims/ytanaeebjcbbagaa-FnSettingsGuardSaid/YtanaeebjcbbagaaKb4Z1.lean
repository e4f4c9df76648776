/-
  Eight copies of one bucket, of one score (slices.Repeat). Conditions: the one lies in a box.
  Conditions: each lemma says them.
-/
import Derived.Test.YtanaeebjcbbagaaKb1Z1
import Derived.Test.YtanaeebjcbbagaaKbZ1
import Derived.Test.YtanaeebjcbbagaaKeZ1
namespace Go.Proofs.Ytanaeebjcbbagaa
open Go.RowKit
theorem rep_src {w : World} {base g n : Nat} {e : TypeId} {cs rest : List Value} (h : w.ownsRow base e 4 (.slice (some ⟨g, 0, none⟩) n n) n (cs ++ rest)) (j : Nat) (v : Value) (hj : cs[j]? = some v) : w.cell? ((⟨g, 0, none⟩ : Addr).add j) = some v := by
  have hl : j < cs.length := by
    rcases Nat.lt_or_ge j cs.length with h1 | h1
    · exact h1
    · rw [List.getElem?_eq_none h1] at hj; cases hj
  exact h.cells (g := g) rfl j v (by rw [List.getElem?_append_left hl]; exact hj)
def rp (k : Nat) (p : Pkt) : List Pkt := List.replicate k p
theorem setLs_app (zs : List Value) : ∀ (xs ys r : List Value), ys.length = zs.length → setLs (xs ++ (ys ++ r)) xs.length zs = xs ++ (zs ++ r) := by
  induction zs with
  | nil => intro xs ys r h; rw [List.eq_nil_of_length_eq_zero h]; rfl
  | cons v q ih =>
    intro xs ys r h
    match ys, h with
    | y :: t, h =>
      have e := ih (xs ++ [v]) t r (by simpa using h)
      have e1 : (xs ++ (y :: t ++ r)).set xs.length v = xs ++ [v] ++ (t ++ r) := by simp
      simp only [List.length_append, List.length_cons, List.length_nil, Nat.zero_add] at e
      rw [setLs, e1, e]
      simp
theorem rp_len (k : Nat) (p : Pkt) : (pcells (rp k p)).length = k * 4 := by rw [pcells_len, rp, List.length_replicate]
theorem rp_add (j k : Nat) (p : Pkt) : rp (j + k) p = rp j p ++ rp k p := (List.replicate_append_replicate).symm
theorem own_rep {w : World} {base g : Nat} {e : TypeId} {p : Pkt} (j k m : Nat) (h : w.ownsRow base e 4 (.slice (some ⟨g, 0, none⟩) 8 8) 8 (pcells (rp j p ++ rp (k + m) zeroP))) :
    (w.setCells g (j * 4) (pcells (rp k p))).ownsRow base e 4 (.slice (some ⟨g, 0, none⟩) 8 8) 8 (pcells (rp (j + k) p ++ rp m zeroP)) := by
  rw [rp_add, pcells_append, pcells_append] at h
  have h1 := own_setCells (pcells (rp k p)) (j * 4) h
  rw [← rp_len j p, setLs_app _ _ _ _ (by rw [rp_len, rp_len])] at h1
  rw [← rp_len j p, rp_add, List.append_assoc, pcells_append, pcells_append]
  exact h1
theorem own_src {w : World} {base g : Nat} {e : TypeId} {p : Pkt} {j m : Nat} (h : w.ownsRow base e 4 (.slice (some ⟨g, 0, none⟩) 8 8) 8 (pcells (rp j p ++ rp m zeroP))) (i : Nat) (v : Value) (hi : (pcells (rp j p))[i]? = some v) : w.cell? ((⟨g, 0, none⟩ : Addr).add i) = some v :=
  rep_src (by rw [← pcells_append]; exact h) i v hi
set_option maxRecDepth 100000 in
set_option maxHeartbeats 1000000 in
theorem mul64_18 (w : World) :
    Calls Try.prog 93 #[.int .u64 1, .int .u64 8] w fun e w' => e = .returned (.tuple #[.int .u64 0, .int .u64 8]) ∧ w = w' := by
  go_enter Try.func93, Try.ntmps93
  go_wp2
  go_ret2
  exact ⟨rfl, rfl⟩
set_option maxRecDepth 100000 in
set_option maxHeartbeats 1000000 in
theorem mul_18 (w : World) :
    Calls Try.prog 63 #[.int .u64 1, .int .u64 8] w fun e w' => e = .returned (.tuple #[.int .u64 0, .int .u64 8]) ∧ w = w' := by
  go_enter Try.func63, Try.ntmps63
  go_wp2_with (go_at_call 93; refine (mul64_18 _).mono ?_; rintro e w' ⟨rfl, rfl⟩)
  go_ret2
  exact ⟨rfl, rfl⟩
theorem below_cells {B : Nat} {a w : World} {g : Nat} (h : Below B a w) (hg : B ≤ g) (o : Nat) (cs : List Value) : Below B a (w.setCells g o cs) := by
  induction cs generalizing w o with
  | nil => exact h
  | cons v r ih => exact ih (h.setCell hg _) (o + 1)
def RepPostB (w : World) (p : Pkt) (e : Ending) (w' : World) : Prop :=
  ∃ A, e = .returned (.slice A 8 8) ∧ w'.ownsRow w.heap.size 29 4 (.slice A 8 8) 8 (pcells (List.replicate 8 p)) ∧ Below w.heap.size w w'
theorem rep_copyB {w : World} {g o dLen dCap sLen sCap base : Nat} {a : Addr} {xs cs : List Value} (h : w.ownsRow base 29 4 (.slice (some ⟨g, 0, none⟩) 8 8) 8 xs) (hn : cs.length = Nat.min sLen dLen * 4) (hx : o + cs.length ≤ 32)
    (hsrc : ∀ j v, cs[j]? = some v → w.cell? (a.add j) = some v) (h1 : ∀ v ∈ cs, v.oneCell' = true) (ty : TypeId) :
    (Builtin.copy_ #[30, 30] ty #[.slice (some ⟨g, o, none⟩) dLen dCap, .slice (some a) sLen sCap]).run Try.prog w = .ok (goInt (Nat.min sLen dLen)) (w.setCells g o cs) := by
  obtain ⟨i0, hi, hz0, hz1, hz2⟩ := info_parts infoPktB
  refine run_copy_sized _ _ _ ty 29 4 g o dLen dCap a sLen sCap cs Try.underlying30 (by simp [hi, hz1]) hn hsrc (fun j hj => ?_) (fun j _ => h.frozenAt (o + j)) h1
  rw [h.cellAt (o + j) (by omega), List.getElem?_eq_getElem (by rw [h.1]; omega)]
  rfl
set_option maxRecDepth 100000 in
set_option maxHeartbeats 2000000 in
theorem rep_anyB (p : Pkt) (b : Nat) (w : World) (hB : Blk w b 29 #[.int .i64 p.peer, .int .i64 p.lane, .int .i64 p.size, .int .i64 p.id]) :
    Calls Try.prog 30 #[.slice (some ⟨b, 0, none⟩) 1 1, .int .i64 8] w (RepPostB w p) := by
  have HB := Lib.hid hB
  clear hB
  obtain ⟨i0, hi, hz0, hz1, hz2⟩ := info_parts infoPktB
  go_enter Try.func30, Try.ntmps30
  go_wp2_with (first
    | (go_at_call 63; refine (mul_18 _).mono ?_; rintro e w' ⟨rfl, rfl⟩)
    | (refine wpList_make_full _ rfl (.tmp 29) (.tmp 29) 30 rfl w.heap.size 29 i0 _ 4 Try.underlying30 hi hz0 hz1 .i64 .i64 8 8 8 rfl rfl rfl rfl (by rw [hz2]; omega) (by unfold maxLen; omega) (Nat.le_refl _) ?_
       intro w1 ho1 hg1
       rw [zeros 8] at ho1
       have B1 := Lib.hid (show Below w.heap.size w w1 from ⟨hg1.os, hg1.tape, hg1.output, hg1.size, fun i hi => hg1.block i hi (by simp)⟩)
       have O1 := Lib.hid ho1
       have hrun1 := rep_copyB (o := 0) (dLen := 8) (dCap := 8) (sLen := 1) (sCap := 1) (a := ⟨b, 0, none⟩) (cs := pcells (rp 1 p)) ho1 rfl (by show 0 + 4 ≤ 32; omega) (fun j v hj => by
         have hBk := blk_below HB.out B1.out (blk_lt HB.out)
         match j, hj with
         | 0, hj => (obtain rfl := Option.some.inj hj; exact blk_cell hBk 0)
         | 1, hj => (obtain rfl := Option.some.inj hj; exact blk_cell hBk 1)
         | 2, hj => (obtain rfl := Option.some.inj hj; exact blk_cell hBk 2)
         | 3, hj => (obtain rfl := Option.some.inj hj; exact blk_cell hBk 3)
         | j + 4, hj => simp [rp, pcells] at hj) (pcells_one _)
       clear ho1 hg1))
  have O2 := Lib.hid (show (w1.setCells w.heap.size 0 (pcells (rp 1 p))).ownsRow w.heap.size 29 4 (.slice (some ⟨w.heap.size, 0, none⟩) 8 8) 8 (pcells (rp 1 p ++ rp 7 zeroP)) from own_rep 0 1 7 O1.out)
  have B2 := Lib.hid (show Below w.heap.size w (w1.setCells w.heap.size 0 (pcells (rp 1 p))) from below_cells B1.out (Nat.le_refl _) _ _)
  clear hrun1
  generalize w1.setCells w.heap.size 0 (pcells (rp 1 p)) = W1 at O2 B2 ⊢
  have P2 := Lib.hid (own_below O2.out (Below.refl W1.heap.size W1).drew)
  have hrun2 := rep_copyB (o := 4) (dLen := 7) (dCap := 7) (sLen := 1) (sCap := 8) (a := ⟨w.heap.size, 0, none⟩) (cs := pcells (rp 1 p)) P2.out rfl (by show 4 + 4 ≤ 32; omega) (own_src P2.out) (pcells_one _)
  refine wp_loop_rounds 4 ?_
  rw [rounds_succ]
  go_wp2_with fail
  go_region
  all_goals
    go_wp2_with fail
    have O3 := Lib.hid (show (W1.drew.setCells w.heap.size 4 (pcells (rp 1 p))).ownsRow w.heap.size 29 4 (.slice (some ⟨w.heap.size, 0, none⟩) 8 8) 8 (pcells (rp 2 p ++ rp 6 zeroP)) from own_rep 1 1 6 P2.out)
    have B3 := Lib.hid (show Below w.heap.size w (W1.drew.setCells w.heap.size 4 (pcells (rp 1 p))) from below_cells B2.out.drew (Nat.le_refl _) _ _)
    clear hrun2
    generalize W1.drew.setCells w.heap.size 4 (pcells (rp 1 p)) = W2 at O3 B3 ⊢
    have P3 := Lib.hid (own_below O3.out (Below.refl W2.heap.size W2).drew)
    have hrun3 := rep_copyB (o := 8) (dLen := 6) (dCap := 6) (sLen := 2) (sCap := 8) (a := ⟨w.heap.size, 0, none⟩) (cs := pcells (rp 2 p)) P3.out rfl (by show 8 + 8 ≤ 32; omega) (own_src P3.out) (pcells_one _)
    rw [rounds_succ]
    go_wp2_with fail
    go_region
    all_goals
      go_wp2_with fail
      have O4 := Lib.hid (show (W2.drew.setCells w.heap.size 8 (pcells (rp 2 p))).ownsRow w.heap.size 29 4 (.slice (some ⟨w.heap.size, 0, none⟩) 8 8) 8 (pcells (rp 4 p ++ rp 4 zeroP)) from own_rep 2 2 4 P3.out)
      have B4 := Lib.hid (show Below w.heap.size w (W2.drew.setCells w.heap.size 8 (pcells (rp 2 p))) from below_cells B3.out.drew (Nat.le_refl _) _ _)
      clear hrun3
      generalize W2.drew.setCells w.heap.size 8 (pcells (rp 2 p)) = W3 at O4 B4 ⊢
      have P4 := Lib.hid (own_below O4.out (Below.refl W3.heap.size W3).drew)
      have hrun4 := rep_copyB (o := 16) (dLen := 4) (dCap := 4) (sLen := 4) (sCap := 8) (a := ⟨w.heap.size, 0, none⟩) (cs := pcells (rp 4 p)) P4.out rfl (by show 16 + 16 ≤ 32; omega) (own_src P4.out) (pcells_one _)
      rw [rounds_succ]
      go_wp2_with fail
      go_region
      all_goals
        go_wp2_with fail
        have O5 := Lib.hid (show (W3.drew.setCells w.heap.size 16 (pcells (rp 4 p))).ownsRow w.heap.size 29 4 (.slice (some ⟨w.heap.size, 0, none⟩) 8 8) 8 (pcells (rp 8 p ++ rp 0 zeroP)) from own_rep 4 4 0 P4.out)
        have B5 := Lib.hid (show Below w.heap.size w (W3.drew.setCells w.heap.size 16 (pcells (rp 4 p))) from below_cells B4.out.drew (Nat.le_refl _) _ _)
        clear hrun4
        generalize W3.drew.setCells w.heap.size 16 (pcells (rp 4 p)) = W4 at O5 B5 ⊢
        rw [rounds_succ]
        go_wp2
        go_ret
        exact ⟨_, rfl, by have := O5.out; rw [show rp 0 zeroP = [] from rfl, List.append_nil] at this; exact this, B5.out⟩
def RepPostS (w : World) (p : Pkt) (e : Ending) (w' : World) : Prop :=
  ∃ A, e = .returned (.slice A 8 8) ∧ w'.ownsRow w.heap.size 70 4 (.slice A 8 8) 8 (pcells (List.replicate 8 p)) ∧ Below w.heap.size w w'
theorem rep_copyS {w : World} {g o dLen dCap sLen sCap base : Nat} {a : Addr} {xs cs : List Value} (h : w.ownsRow base 70 4 (.slice (some ⟨g, 0, none⟩) 8 8) 8 xs) (hn : cs.length = Nat.min sLen dLen * 4) (hx : o + cs.length ≤ 32)
    (hsrc : ∀ j v, cs[j]? = some v → w.cell? (a.add j) = some v) (h1 : ∀ v ∈ cs, v.oneCell' = true) (ty : TypeId) :
    (Builtin.copy_ #[36, 36] ty #[.slice (some ⟨g, o, none⟩) dLen dCap, .slice (some a) sLen sCap]).run Try.prog w = .ok (goInt (Nat.min sLen dLen)) (w.setCells g o cs) := by
  obtain ⟨i0, hi, hz0, hz1, hz2⟩ := info_parts infoPktS
  refine run_copy_sized _ _ _ ty 70 4 g o dLen dCap a sLen sCap cs Try.underlying36 (by simp [hi, hz1]) hn hsrc (fun j hj => ?_) (fun j _ => h.frozenAt (o + j)) h1
  rw [h.cellAt (o + j) (by omega), List.getElem?_eq_getElem (by rw [h.1]; omega)]
  rfl
set_option maxRecDepth 100000 in
set_option maxHeartbeats 2000000 in
theorem rep_anyS (p : Pkt) (b : Nat) (w : World) (hB : Blk w b 70 #[.int .i64 p.peer, .int .i64 p.lane, .int .i64 p.size, .int .i64 p.id]) :
    Calls Try.prog 31 #[.slice (some ⟨b, 0, none⟩) 1 1, .int .i64 8] w (RepPostS w p) := by
  have HB := Lib.hid hB
  clear hB
  obtain ⟨i0, hi, hz0, hz1, hz2⟩ := info_parts infoPktS
  go_enter Try.func31, Try.ntmps31
  go_wp2_with (first
    | (go_at_call 63; refine (mul_18 _).mono ?_; rintro e w' ⟨rfl, rfl⟩)
    | (refine wpList_make_full _ rfl (.tmp 29) (.tmp 29) 36 rfl w.heap.size 70 i0 _ 4 Try.underlying36 hi hz0 hz1 .i64 .i64 8 8 8 rfl rfl rfl rfl (by rw [hz2]; omega) (by unfold maxLen; omega) (Nat.le_refl _) ?_
       intro w1 ho1 hg1
       rw [zeros 8] at ho1
       have B1 := Lib.hid (show Below w.heap.size w w1 from ⟨hg1.os, hg1.tape, hg1.output, hg1.size, fun i hi => hg1.block i hi (by simp)⟩)
       have O1 := Lib.hid ho1
       have hrun1 := rep_copyS (o := 0) (dLen := 8) (dCap := 8) (sLen := 1) (sCap := 1) (a := ⟨b, 0, none⟩) (cs := pcells (rp 1 p)) ho1 rfl (by show 0 + 4 ≤ 32; omega) (fun j v hj => by
         have hBk := blk_below HB.out B1.out (blk_lt HB.out)
         match j, hj with
         | 0, hj => (obtain rfl := Option.some.inj hj; exact blk_cell hBk 0)
         | 1, hj => (obtain rfl := Option.some.inj hj; exact blk_cell hBk 1)
         | 2, hj => (obtain rfl := Option.some.inj hj; exact blk_cell hBk 2)
         | 3, hj => (obtain rfl := Option.some.inj hj; exact blk_cell hBk 3)
         | j + 4, hj => simp [rp, pcells] at hj) (pcells_one _)
       clear ho1 hg1))
  have O2 := Lib.hid (show (w1.setCells w.heap.size 0 (pcells (rp 1 p))).ownsRow w.heap.size 70 4 (.slice (some ⟨w.heap.size, 0, none⟩) 8 8) 8 (pcells (rp 1 p ++ rp 7 zeroP)) from own_rep 0 1 7 O1.out)
  have B2 := Lib.hid (show Below w.heap.size w (w1.setCells w.heap.size 0 (pcells (rp 1 p))) from below_cells B1.out (Nat.le_refl _) _ _)
  clear hrun1
  generalize w1.setCells w.heap.size 0 (pcells (rp 1 p)) = W1 at O2 B2 ⊢
  have P2 := Lib.hid (own_below O2.out (Below.refl W1.heap.size W1).drew)
  have hrun2 := rep_copyS (o := 4) (dLen := 7) (dCap := 7) (sLen := 1) (sCap := 8) (a := ⟨w.heap.size, 0, none⟩) (cs := pcells (rp 1 p)) P2.out rfl (by show 4 + 4 ≤ 32; omega) (own_src P2.out) (pcells_one _)
  refine wp_loop_rounds 4 ?_
  rw [rounds_succ]
  go_wp2_with fail
  go_region
  all_goals
    go_wp2_with fail
    have O3 := Lib.hid (show (W1.drew.setCells w.heap.size 4 (pcells (rp 1 p))).ownsRow w.heap.size 70 4 (.slice (some ⟨w.heap.size, 0, none⟩) 8 8) 8 (pcells (rp 2 p ++ rp 6 zeroP)) from own_rep 1 1 6 P2.out)
    have B3 := Lib.hid (show Below w.heap.size w (W1.drew.setCells w.heap.size 4 (pcells (rp 1 p))) from below_cells B2.out.drew (Nat.le_refl _) _ _)
    clear hrun2
    generalize W1.drew.setCells w.heap.size 4 (pcells (rp 1 p)) = W2 at O3 B3 ⊢
    have P3 := Lib.hid (own_below O3.out (Below.refl W2.heap.size W2).drew)
    have hrun3 := rep_copyS (o := 8) (dLen := 6) (dCap := 6) (sLen := 2) (sCap := 8) (a := ⟨w.heap.size, 0, none⟩) (cs := pcells (rp 2 p)) P3.out rfl (by show 8 + 8 ≤ 32; omega) (own_src P3.out) (pcells_one _)
    rw [rounds_succ]
    go_wp2_with fail
    go_region
    all_goals
      go_wp2_with fail
      have O4 := Lib.hid (show (W2.drew.setCells w.heap.size 8 (pcells (rp 2 p))).ownsRow w.heap.size 70 4 (.slice (some ⟨w.heap.size, 0, none⟩) 8 8) 8 (pcells (rp 4 p ++ rp 4 zeroP)) from own_rep 2 2 4 P3.out)
      have B4 := Lib.hid (show Below w.heap.size w (W2.drew.setCells w.heap.size 8 (pcells (rp 2 p))) from below_cells B3.out.drew (Nat.le_refl _) _ _)
      clear hrun3
      generalize W2.drew.setCells w.heap.size 8 (pcells (rp 2 p)) = W3 at O4 B4 ⊢
      have P4 := Lib.hid (own_below O4.out (Below.refl W3.heap.size W3).drew)
      have hrun4 := rep_copyS (o := 16) (dLen := 4) (dCap := 4) (sLen := 4) (sCap := 8) (a := ⟨w.heap.size, 0, none⟩) (cs := pcells (rp 4 p)) P4.out rfl (by show 16 + 16 ≤ 32; omega) (own_src P4.out) (pcells_one _)
      rw [rounds_succ]
      go_wp2_with fail
      go_region
      all_goals
        go_wp2_with fail
        have O5 := Lib.hid (show (W3.drew.setCells w.heap.size 16 (pcells (rp 4 p))).ownsRow w.heap.size 70 4 (.slice (some ⟨w.heap.size, 0, none⟩) 8 8) 8 (pcells (rp 8 p ++ rp 0 zeroP)) from own_rep 4 4 0 P4.out)
        have B5 := Lib.hid (show Below w.heap.size w (W3.drew.setCells w.heap.size 16 (pcells (rp 4 p))) from below_cells B4.out.drew (Nat.le_refl _) _ _)
        clear hrun4
        generalize W3.drew.setCells w.heap.size 16 (pcells (rp 4 p)) = W4 at O5 B5 ⊢
        rw [rounds_succ]
        go_wp2
        go_ret
        exact ⟨_, rfl, by have := O5.out; rw [show rp 0 zeroP = [] from rfl, List.append_nil] at this; exact this, B5.out⟩
end Go.Proofs.Ytanaeebjcbbagaa
