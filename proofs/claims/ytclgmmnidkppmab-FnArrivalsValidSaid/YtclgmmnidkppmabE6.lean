/-
  Chapter 10: LeastRate: sort.Search with the program's function, what the program's function and the model's return. Conditions: a slice's length fits an int.
-/
import Derived.Test.YtclgmmnidkppmabE5
import Derived.Shelf.Abstract
import Derived.Deep.RegionHeld3
namespace Go.Proofs.Ytclgmmnidkppmab
open Go.RowKit

/-- the least rate, or none -/
def LrIs (ps : List Arr) (s v : Int) (ok : Bool) : Prop :=
  (bkB ps 0 s = false ∧ v = 0 ∧ ok = false) ∨ (bkB ps 0 s = true ∧ ok = true ∧ 0 ≤ v ∧ v ≤ 1000 ∧ back v ps ≤ s ∧ ∀ r, 0 ≤ r → r < v → s < back r ps) ∨
    (bkB ps 0 s = true ∧ ok = false ∧ v = 0 ∧ ∀ r, 0 ≤ r → r ≤ 1000 → s < back r ps)
theorem lr_uniq {ps : List Arr} {s v v' : Int} {ok ok' : Bool} (h : LrIs ps s v ok) (h' : LrIs ps s v' ok') : v = v' ∧ ok = ok' := by
  rcases h with ⟨a, b, c⟩ | ⟨a, b, c, d, e, f⟩ | ⟨a, b, c, d⟩ <;> rcases h' with ⟨a', b', c'⟩ | ⟨a', b', c', d', e', f'⟩ | ⟨a', b', c', d'⟩
  · exact ⟨by rw [b, b'], by rw [c, c']⟩
  · rw [a] at a'; cases a'
  · rw [a] at a'; cases a'
  · rw [a] at a'; cases a'
  · refine ⟨?_, by rw [b, b']⟩
    rcases Int.lt_trichotomy v v' with h | h | h
    · have := f' v c h; omega
    · exact h
    · have := f v' c' h; omega
  · have := d' v c d; omega
  · rw [a] at a'; cases a'
  · have := d v' c' d'; omega
  · exact ⟨by rw [c, c'], by rw [b, b']⟩
theorem rb_0 {s : Int} : rbB 0 s = decide (1 ≤ s ∧ s ≤ 10000) := by
  unfold rbB
  rw [decide_eq_decide]
  omega
set_option maxHeartbeats 1000000 in
theorem lrC_any (ba bb : Nat) (A : Option Addr) (n c : Nat) (ps : List Arr) (s : Int) (i : Int) (w : World) (h : AR w A n ps) (hv : avB ps = true) (hi : 0 ≤ i ∧ i ≤ 1000) (ha : w.cell? ⟨ba, 0, none⟩ = some (.slice A n c)) (hb : w.cell? ⟨bb, 0, none⟩ = some (.int .i64 s)) (hla : ba < w.heap.size) (hlb : bb < w.heap.size) :
    Calls Try.prog 55 #[.int .i64 i, .pointer (some ⟨ba, 0, none⟩), .pointer (some ⟨bb, 0, none⟩)] w fun e w' => e = .returned (.bool (decide (back i ps ≤ s))) ∧ Below w.heap.size w w' := by
  have H := Lib.hid h
  have HV := Lib.hid hv
  have hS : (w.drew.cell? ⟨ba, 0, none⟩ = some (.slice A n c) ∧ w.drew.cell? ⟨bb, 0, none⟩ = some (.int .i64 s)) ∧ Below w.heap.size w w.drew := ⟨⟨ha, hb⟩, (Below.refl _ _).drew⟩
  obtain ⟨X, hX⟩ : ∃ X, X = back i ps := ⟨_, rfl⟩
  have HX := Lib.hid hX
  rw [← hX]
  clear h hv hX
  go_enter Try.func55, Try.ntmps55
  go_wp2_with fail
  go_region_held3 (fun w' => (w'.cell? ⟨ba, 0, none⟩ = some (.slice A n c) ∧ w'.cell? ⟨bb, 0, none⟩ = some (.int .i64 s)) ∧ Below w.heap.size w w')
    (first
      | (with_reducible assumption)
      | fail)
    (first
      | (go_at_call 46
         refine (blI_any A n c ps i _ (ar_below H.out hS.2) HV.out hi).mono ?_
         rintro e w3 ⟨rfl, hb3⟩
         rw [← HX.out]
         have hS3 : (w3.cell? ⟨ba, 0, none⟩ = some (.slice A n c) ∧ w3.cell? ⟨bb, 0, none⟩ = some (.int .i64 s)) ∧ Below w.heap.size w w3 := ⟨⟨((bcell hb3).1 _ 0 hla).trans ha, ((bcell hb3).1 _ 0 hlb).trans hb⟩, below_seq hS.2 hb3⟩
         have HS3 := Lib.hid hS3
         clear hb3))
  all_goals
    go_wp2
    go_ret
    exact ⟨rfl, HS3.out.2⟩
set_option maxHeartbeats 1000000 in
theorem searchI_any (ba bb : Nat) (p : Nat → Bool) (w : World)
    (hf : ∀ (W : World) (i : Nat), Below w.heap.size w W → i < 1001 → Calls Try.prog 55 #[.int .i64 (i : Int), .pointer (some ⟨ba, 0, none⟩), .pointer (some ⟨bb, 0, none⟩)] W fun e W' => e = .returned (.bool (p i)) ∧ Below W.heap.size W W')
    (hmono : ∀ a b, a ≤ b → b < 1001 → p a = true → p b = true) :
    Calls Try.prog 54 #[.int .i64 1001, .func (.func 55) #[] #[.pointer (some ⟨ba, 0, none⟩), .pointer (some ⟨bb, 0, none⟩)]] w fun e w' =>
      ∃ k : Nat, e = .returned (.int .i64 (k : Int)) ∧ k ≤ 1001 ∧ (∀ t, t < k → p t = false) ∧ (k < 1001 → p k = true) ∧ Below w.heap.size w w' := by
  have HF := Lib.hid hf
  have M := Lib.hid hmono
  clear hf hmono
  go_enter Try.func54, Try.ntmps54
  go_wp2
  go_loopw [5, 6] (fun s5 s6 wr => ∃ (lo hi : Nat), s5 = .int .i64 (lo : Int) ∧ s6 = .int .i64 (hi : Int) ∧ lo ≤ hi ∧ hi ≤ 1001 ∧ Below w.heap.size w wr ∧ Hid ((∀ t, t < lo → p t = false) ∧ (∀ t, hi ≤ t → t < 1001 → p t = true))) (fun s5 s6 _ => (intOf s6).toNat - (intOf s5).toNat)
  case atStart => exact ⟨0, 1001, rfl, rfl, Nat.zero_le _, Nat.le_refl _, Below.refl _ _, Lib.hid ⟨fun t ht => absurd ht (Nat.not_lt_zero _), fun t h1 h2 => by omega⟩⟩
  case round =>
    obtain ⟨lo, hi, rfl, rfl, hlh, hin, hbl, I⟩ := hrel
    have HB := Lib.hid hbl
    clear hbl
    by_cases hlt : lo < hi
    · have hc := HF.out wr ((lo + hi) / 2) HB.out (by omega)
      rw [show (((lo + hi) / 2 : Nat) : Int) = ((lo : Int) + (hi : Int)) / 2 by omega] at hc
      have m0 : (0 : Int) ≤ (lo : Int) + (hi : Int) := by omega
      have m1 : (lo : Int) + (hi : Int) ≤ 2002 := by omega
      cases hp : p ((lo + hi) / 2) <;> rw [hp] at hc
      · have HP := Lib.hid hp
        have HC := Lib.hid hc
        clear hp hc
        go_wp2_with (go_at_call 55; refine HC.out.mono ?_; rintro e w' ⟨rfl, hb'⟩; have B' := Lib.hid (below_seq HB.out hb'); clear hb')
        go_roundw
        case rel =>
          exact ⟨(lo + hi) / 2 + 1, hi, by rw [show ((lo : Int) + (hi : Int)) / 2 + 1 = (((lo + hi) / 2 + 1 : Nat) : Int) by omega], rfl, by omega, hin, B'.out, Lib.hid ⟨fun t ht => (by
            cases h : p t with
            | false => rfl
            | true => have := M.out t ((lo + hi) / 2) (by omega) (by omega) h; rw [HP.out] at this; cases this), I.out.2⟩⟩
        case measure => simp [intOf]; omega
      · have HP := Lib.hid hp
        have HC := Lib.hid hc
        clear hp hc
        go_wp2_with (go_at_call 55; refine HC.out.mono ?_; rintro e w' ⟨rfl, hb'⟩; have B' := Lib.hid (below_seq HB.out hb'); clear hb')
        go_roundw
        case rel =>
          exact ⟨lo, (lo + hi) / 2, rfl, by rw [show ((lo : Int) + (hi : Int)) / 2 = (((lo + hi) / 2 : Nat) : Int) by omega], by omega, by omega, B'.out, Lib.hid ⟨I.out.1, fun t ht htn => M.out ((lo + hi) / 2) t ht htn HP.out⟩⟩
        case measure => simp [intOf]; omega
    · obtain rfl : hi = lo := by omega
      go_wp2
      go_ret
      exact ⟨hi, rfl, hin, I.out.1, fun h => I.out.2 hi (Nat.le_refl _) h, HB.out⟩
set_option maxHeartbeats 1000000 in
theorem lrI_any (A : Option Addr) (n c : Nat) (ps : List Arr) (s : Int) (w : World) (h : AR w A n ps) (hn : n ≤ 9223372036854775807) :
    Calls Try.prog 30 #[.slice A n c, .int .i64 s] w fun e w' => ∃ v ok, e = .returned (.tuple #[.int .i64 v, .bool ok]) ∧ LrIs ps s v ok ∧ Below w.heap.size w w' := by
  have hmf : ∀ (fn : Fn) (first cap : Array Value) (w : World), (Instr.makeFunc fn first cap).run Try.prog w = .ok (.func fn first cap) w := fun _ _ _ _ => rfl
  have H2 := Lib.hid (ar_alloc (ar_alloc h (.cells #[.slice A n c] 23)) (.cells #[.int .i64 s] 3))
  have hb0 := blk_alloc (blk_new w 23 #[.slice A n c]) (.cells #[.int .i64 s] 3)
  have hb1 := blk_new2 w (.cells #[.slice A n c] 23) 3 #[.int .i64 s]
  have HB0 := Lib.hid (And.intro hb0 hb1)
  have BB := Lib.hid (below_alloc (below_alloc (Below.refl w.heap.size w) (.cells #[.slice A n c] 23)) (.cells #[.int .i64 s] 3))
  have a0 := blk_cell hb0 0
  have a1 := blk_cell hb1 0
  simp only [List.getElem?_toArray, List.getElem?_cons_zero] at a0 a1
  clear h hb0 hb1
  rcases hk : bkB ps 0 s with _ | _
  · have HK := Lib.hid hk
    go_enter Try.func30, Try.ntmps30
    go_wp2_with fail
    refine (bfI_no A n c ps 0 s _ H2.out hn hk).mono ?_
    rintro e w1 ⟨rfl, hb1⟩
    have B1 := Lib.hid (below_alloc (below_seq BB.out hb1) (.cells #[.int .i64 0, .int .i64 0, .int .i64 0, .int .i64 0] 62))
    clear hb1 hk
    go_wp2
    go_ret2
    exact ⟨0, false, rfl, .inl ⟨HK.out, rfl, rfl⟩, B1.out⟩
  · have HK := Lib.hid hk
    obtain ⟨hv, hrb⟩ := bk_of hk
    have HV := Lib.hid hv
    have hs := rb_of hrb
    go_enter Try.func30, Try.ntmps30
    go_wp2_with fail
    refine (bfI_yes A n c ps 0 s _ H2.out hn hk).mono ?_
    rintro e w1 ⟨rfl, hb1⟩
    have z1 := hb1.size
    simp at z1
    have A1 := Lib.hid (ar_alloc (ar_below H2.out hb1) (.cells #[.int .i64 0, .int .i64 s, .int .i64 s, .int .i64 0] 62))
    have C0 := Lib.hid (blk_alloc (blk_below HB0.out.1 hb1 (by simp <;> omega)) (.cells #[.int .i64 0, .int .i64 s, .int .i64 s, .int .i64 0] 62))
    have C1 := Lib.hid (blk_alloc (blk_below HB0.out.2 hb1 (by simp <;> omega)) (.cells #[.int .i64 0, .int .i64 s, .int .i64 s, .int .i64 0] 62))
    have B1 := Lib.hid (below_alloc (below_seq BB.out hb1) (.cells #[.int .i64 0, .int .i64 s, .int .i64 s, .int .i64 0] 62))
    clear hb1 hk hrb a0 a1 hv
    go_wp2_with fail
    refine (searchI_any w.heap.size (w.heap.size + 1) (fun i => decide (back (i : Int) ps ≤ s)) _ (fun W i hW hi => lrC_any w.heap.size (w.heap.size + 1) A n c ps s (i : Int) W (ar_below A1.out hW) HV.out (by omega) (blk_cell (blk_below C0.out hW (blk_lt C0.out)) 0) (blk_cell (blk_below C1.out hW (blk_lt C1.out)) 0) (Nat.lt_of_lt_of_le (blk_lt C0.out) hW.size) (Nat.lt_of_lt_of_le (blk_lt C1.out) hW.size)) (fun a b hab hb ha => by
      rw [decide_eq_true_eq] at ha ⊢
      exact Int.le_trans (back_anti (by omega) (by omega) (av_of HV.out).2) ha)).mono ?_
    rintro e w2 ⟨k, rfl, hk1, hlo, hat, hb2⟩
    have B2 := Lib.hid (below_seq B1.out hb2)
    have HLO := Lib.hid hlo
    have HAT := Lib.hid hat
    clear hb2 hlo hat
    by_cases hk2 : k ≤ 1000
    · go_wp2
      go_ret2
      refine ⟨(k : Int), true, rfl, .inr (.inl ⟨HK.out, rfl, by omega, by omega, of_decide_eq_true (HAT.out (by omega)), fun r h0 h1 => ?_⟩), B2.out⟩
      have := of_decide_eq_false (HLO.out r.toNat (by omega))
      rw [Int.toNat_of_nonneg h0] at this
      omega
    · have hk3 : (1000 : Int) < (k : Int) := by omega
      go_wp2
      go_ret2
      refine ⟨0, false, rfl, .inr (.inr ⟨HK.out, rfl, rfl, fun r h0 h1 => ?_⟩), B2.out⟩
      have := of_decide_eq_false (HLO.out r.toNat (by omega))
      rw [Int.toNat_of_nonneg h0] at this
      omega
def LrRel (w : World) (ps : List Arr) (s : Int) (i : Value) (wr : World) : Prop :=
  ∃ k : Nat, k ≤ 1001 ∧ i = .int .i64 (k : Int) ∧ (k = 0 ∨ bkB ps 0 s = true) ∧ (∀ r, 0 ≤ r → r < (k : Int) → s < back r ps) ∧ Below w.heap.size w wr
set_option maxHeartbeats 1000000 in
theorem lrS_any (A : Option Addr) (n c : Nat) (ps : List Arr) (s : Int) (w : World) (h : AR w A n ps) (hn : n ≤ 9223372036854775807) :
    Calls Try.prog 29 #[.slice A n c, .int .i64 s] w fun e w' => ∃ v ok, e = .returned (.tuple #[.int .i64 v, .bool ok]) ∧ LrIs ps s v ok ∧ Below w.heap.size w w' := by
  have H := Lib.hid h
  clear h
  go_enter Try.func29, Try.ntmps29
  go_wp2
  go_loopw [6] (fun i wr => LrRel w ps s i wr) (fun i _ => 1001 - (intOf i).toNat)
  case atStart => exact ⟨0, by omega, rfl, .inl rfl, fun r h0 h1 => absurd h1 (by omega), Below.refl _ _⟩
  case round =>
    obtain ⟨k, hk, rfl, hor, hno, hbl⟩ := hrel
    have HO := Lib.hid hor
    have HN := Lib.hid hno
    have HB := Lib.hid hbl
    clear hor hno hbl
    by_cases hk2 : k ≤ 1000
    · have k1 : (k : Int) ≤ 1000 := by omega
      rcases h1 : avB ps with _ | _
      · have HK := Lib.hid (show bkB ps 0 s = false by rw [bkB, h1, Bool.false_and])
        go_wp2_with (go_at_call 16; refine (avS_any A n c ps _ (ar_below H.out HB.out) hn).mono ?_; rintro e w1 ⟨rfl, hb1⟩; have B1 := Lib.hid (below_seq HB.out hb1); clear hb1)
        go_ret2
        exact ⟨0, false, rfl, .inl ⟨HK.out, rfl, rfl⟩, B1.out⟩
      · have HV := Lib.hid h1
        by_cases h2 : 1 ≤ s
        · by_cases h3 : s ≤ 10000
          · have HRB := Lib.hid (show rbB (k : Int) s = true by unfold rbB; rw [decide_eq_true_eq]; omega)
            have HK := Lib.hid (show bkB ps 0 s = true by rw [bkB, h1, rb_0, decide_eq_true ⟨h2, h3⟩]; rfl)
            obtain ⟨X, hX⟩ : ∃ X, X = back (k : Int) ps := ⟨_, rfl⟩
            have HX := Lib.hid hX
            have hce := conf_eq (r := (k : Int)) (s := s) (l := ps) (by omega)
            rw [← hX] at hce
            have HC := Lib.hid hce
            clear hX hce
            by_cases hx : X ≤ s
            · go_wp2_with (first | (go_at_call 16; refine (avS_any A n c ps _ (ar_below H.out HB.out) hn).mono ?_; rintro e w1 ⟨rfl, hb1⟩; have B1 := Lib.hid (below_seq HB.out hb1); clear hb1) | (go_at_call 51; refine (runS_any A n c ps (k : Int) s _ (ar_below H.out B1.out) HV.out HRB.out).mono ?_; rintro e w2 ⟨rfl, hb2⟩; rw [HC.out, decide_eq_true hx]; have B2 := Lib.hid (below_seq B1.out hb2); clear hb2))
              go_ret2
              exact ⟨(k : Int), true, rfl, .inr (.inl ⟨HK.out, rfl, by omega, by omega, by rw [← HX.out]; exact hx, HN.out⟩), B2.out⟩
            · have hx' := decide_eq_false hx
              have HXX := Lib.hid hx
              clear hx
              go_wp2_with (first | (go_at_call 16; refine (avS_any A n c ps _ (ar_below H.out HB.out) hn).mono ?_; rintro e w1 ⟨rfl, hb1⟩; have B1 := Lib.hid (below_seq HB.out hb1); clear hb1) | (go_at_call 51; refine (runS_any A n c ps (k : Int) s _ (ar_below H.out B1.out) HV.out HRB.out).mono ?_; rintro e w2 ⟨rfl, hb2⟩; rw [HC.out, hx']; have B2 := Lib.hid (below_seq B1.out hb2); clear hb2))
              go_roundw
              case rel =>
                refine ⟨k + 1, by omega, by go_num, .inr HK.out, fun r h0 h1 => ?_, B2.out⟩
                by_cases hr : r < (k : Int)
                · exact HN.out r h0 hr
                · obtain rfl : r = (k : Int) := by omega
                  have := HX.out
                  have := HXX.out
                  omega
              case measure => simp [intOf]; omega
          · have HK := Lib.hid (show bkB ps 0 s = false by rw [bkB, rb_0, decide_eq_false (by omega), Bool.and_false])
            have h3' := decide_eq_false h3
            go_wp2_with (go_at_call 16; refine (avS_any A n c ps _ (ar_below H.out HB.out) hn).mono ?_; rintro e w1 ⟨rfl, hb1⟩; have B1 := Lib.hid (below_seq HB.out hb1); clear hb1)
            go_ret2
            exact ⟨0, false, rfl, .inl ⟨HK.out, rfl, rfl⟩, B1.out⟩
        · have HK := Lib.hid (show bkB ps 0 s = false by rw [bkB, rb_0, decide_eq_false (by omega), Bool.and_false])
          have h2' := decide_eq_false h2
          go_wp2_with (go_at_call 16; refine (avS_any A n c ps _ (ar_below H.out HB.out) hn).mono ?_; rintro e w1 ⟨rfl, hb1⟩; have B1 := Lib.hid (below_seq HB.out hb1); clear hb1)
          go_ret2
          exact ⟨0, false, rfl, .inl ⟨HK.out, rfl, rfl⟩, B1.out⟩
    · obtain rfl : k = 1001 := by omega
      have HK : bkB ps 0 s = true := by
        rcases HO.out with h | h
        · cases h
        · exact h
      have HKK := Lib.hid HK
      clear HK
      go_wp2
      go_ret2
      exact ⟨0, false, rfl, .inr (.inr ⟨HKK.out, rfl, rfl, fun r h0 h1 => HN.out r h0 (by omega)⟩), HB.out⟩
end Go.Proofs.Ytclgmmnidkppmab
