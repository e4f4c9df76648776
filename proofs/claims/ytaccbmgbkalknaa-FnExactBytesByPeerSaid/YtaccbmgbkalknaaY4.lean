/-
  Chapter 11: TopPeers: the library's stable sort of fewer than 20 places; what the program's function and the model's return. Conditions: a slice's length fits an int.
-/
import Derived.Test.YtaccbmgbkalknaaY3
import Derived.RegionTactic
import Derived.BigQuiet
namespace Go.Proofs.Ytaccbmgbkalknaa
open Go.RowKit

def tpB (us : List Int) (x : Int) : Bool := shB us && decide (0 ≤ x)
def tpL (us : List Int) (x : Int) : List Int := if tpB us x = true then (topL us).take x.toNat else []
theorem swap_midI {A C : List Int} {x y : Int} : ((A ++ y :: x :: C).set (A.length + 1) y).set A.length x = A ++ x :: y :: C := by
  induction A with
  | nil => rfl
  | cons a A ih => simp
theorem at_midI {A C : List Int} {x y : Int} : (A ++ y :: x :: C)[A.length]? = some y ∧ (A ++ y :: x :: C)[A.length + 1]? = some x := by
  induction A with
  | nil => exact ⟨rfl, rfl⟩
  | cons a A ih => simp
theorem own_takeY {w : World} {base b n c k : Nat} {e : TypeId} {us : List Int} (h : w.ownsRow base e 1 (.slice (some ⟨b, 0, none⟩) n c) n (icells us)) (hk : k ≤ n) : w.ownsRow base e 1 (.slice (some ⟨b, 0, none⟩) k c) k (icells (us.take k)) := by
  have hl : us.length = n := (nr_own h).1
  rcases h.2 with ⟨hv, _⟩ | ⟨g, cap, cur, hv, hb, hg, hnc, hcm, hs, ht⟩
  · cases hv
  · obtain ⟨rfl, rfl⟩ : b = g ∧ c = cap := by injection hv with a1 a2 a3; injection a1 with a1; injection a1 with a1 _ _; exact ⟨a1, a3⟩
    refine ⟨by rw [icells_len, List.length_take]; omega, .inr ⟨b, c, cur, rfl, hb, hg, by omega, hcm, hs, ?_⟩⟩
    have h2 : icells (us.take k) = (icells us).take k := by unfold icells; rw [List.map_take]
    rw [h2, ← ht, List.take_take]
    congr 1
    omega
def cmpY (x y : Int) : Int := if x < y then -1 else if y < x then 1 else 0
/-- the numbers that the order reads, apart from the row that is sorted -/
structure KT (w : World) (bb b : Nat) (A : Option Addr) (n c : Nat) (us : List Int) : Prop where
  box : w.cell? ⟨bb, 0, none⟩ = some (.slice A n c)
  nr : NR w A n us
  lt : bb < w.heap.size
  ne : bb ≠ b
  far : 0 < n → ∀ x, A.map (·.block) = some x → x ≠ b
theorem kt_grown {w w' : World} {bb b : Nat} {A : Option Addr} {n c : Nat} {us : List Int} (h : KT w bb b A n c us) (hg : w.grownBy w' (some b)) : KT w' bb b A n c us :=
  ⟨(g_cell hg h.lt h.ne).trans h.box, nr_grown h.nr hg (fun hn x hx e => h.far hn x hx (by injection e)), Nat.lt_of_lt_of_le h.lt hg.size, h.ne, h.far⟩
def InN (n : Nat) (l : List Int) : Prop := ∀ z ∈ l, 0 ≤ z ∧ z < n
theorem nanY_any (x : Int) (w : World) : Calls Try.prog 61 #[.int .i64 x] w fun e w' => e = .returned (.bool false) ∧ w = w' := by
  go_enter Try.func61, Try.ntmps61
  go_wp2
  go_ret
  exact ⟨by simp, rfl⟩
theorem cmpYI_any (x y V : Int) (w : World) (hV : cmpY x y = V) : Calls Try.prog 53 #[.int .i64 x, .int .i64 y] w fun e w' => e = .returned (.int .i64 V) ∧ w' = w := by
  subst hV
  by_cases h1 : x < y
  · go_enter Try.func53, Try.ntmps53
    go_wp2_with (go_at_call 61; refine (nanY_any _ _).mono ?_; rintro e w' ⟨rfl, rfl⟩)
    go_ret
    exact ⟨ret_int (by unfold cmpY; rw [if_pos h1]), rfl⟩
  · by_cases h2 : y < x
    · go_enter Try.func53, Try.ntmps53
      go_wp2_with (go_at_call 61; refine (nanY_any _ _).mono ?_; rintro e w' ⟨rfl, rfl⟩)
      go_ret
      exact ⟨ret_int (by unfold cmpY; rw [if_neg (by omega), if_pos h2]), rfl⟩
    · go_enter Try.func53, Try.ntmps53
      go_wp2_with (go_at_call 61; refine (nanY_any _ _).mono ?_; rintro e w' ⟨rfl, rfl⟩)
      go_ret
      exact ⟨ret_int (by unfold cmpY; rw [if_neg (by omega), if_neg (by omega)]), rfl⟩
set_option maxHeartbeats 1000000 in
theorem cmpT_any (bb b : Nat) (A : Option Addr) (n c : Nat) (us : List Int) (x y V : Int) (w : World) (h : KT w bb b A n c us) (hx : 0 ≤ x ∧ x < n) (hy : 0 ≤ y ∧ y < n) (hV : cmpY (keyOf us y) (keyOf us x) = V) :
    Calls Try.prog 52 #[.int .i64 x, .int .i64 y, .pointer (some ⟨bb, 0, none⟩)] w fun e w' => e = .returned (.int .i64 V) ∧ ∃ m, w' = w.drewN m := by
  obtain ⟨i, rfl⟩ : ∃ i : Nat, x = (i : Int) := ⟨x.toNat, by omega⟩
  obtain ⟨j, rfl⟩ : ∃ j : Nat, y = (j : Int) := ⟨y.toNat, by omega⟩
  obtain ⟨ba, oa, u, rfl, hb, hu, c0⟩ := nr_at (k := i) h.nr (by omega)
  obtain ⟨b2, o2, v, e2, hb2, hv, d0⟩ := nr_at (k := j) h.nr (by omega)
  obtain ⟨rfl, rfl⟩ : ba = b2 ∧ oa = o2 := by injection e2 with e1; injection e1 with a b; exact ⟨a, b⟩
  have hk : cmpY v u = V := by rw [← hV, key_at hu, key_at hv]
  have HK := Lib.hid hk
  have q0 := h.box
  have i0 : (0 : Int) ≤ (i : Int) := by omega
  have j0 : (0 : Int) ≤ (j : Int) := by omega
  have i1 := hx.2
  have j1 := hy.2
  clear h hx hy hV hk e2 hu hv
  go_enter Try.func52, Try.ntmps52
  go_wp2_with fail
  go_quiet ((go_at_call 53; exact Calls.quiet_of_same (cmpYI_any _ _ V _ HK.out)))
  go_wp2
  go_ret
  exact ⟨rfl, _, rfl⟩
def ToOut (w : World) (base b n c : Nat) (f : Int → Int) (l : List Int) (vi : Value) (wr : World) : Prop :=
  ∃ i : Nat, 1 ≤ i ∧ i ≤ n ∧ vi = .int .i64 (i : Int) ∧ wr.ownsRow base 3 1 (.slice (some ⟨b, 0, none⟩) n c) n (icells (finT f [] (l.take i) ++ l.drop i)) ∧ w.grownBy wr (some b)
def ToIn (w : World) (base b n c i : Nat) (f : Int → Int) (S R : List Int) (x : Int) (vj : Value) (wr : World) : Prop :=
  ∃ (j : Nat) (A B : List Int), vj = .int .i64 (j : Int) ∧ A.length = j ∧ j ≤ i ∧ A ++ B = S ∧ (∀ z ∈ B, f z < f x) ∧ wr.ownsRow base 3 1 (.slice (some ⟨b, 0, none⟩) n c) n (icells (A ++ x :: B ++ R)) ∧ w.grownBy wr (some b)
theorem drop_atI {l : List Int} {k : Nat} {x : Int} (h : l[k]? = some x) : l.drop k = x :: l.drop (k + 1) := by
  induction l generalizing k with
  | nil => simp at h
  | cons a r ih =>
    cases k with
    | zero =>
      obtain rfl : a = x := by simpa using h
      rfl
    | succ k => exact ih (k := k) (by simpa using h)
set_option maxHeartbeats 4000000 in
theorem insT_any (base bb b n c m d : Nat) (A0 : Option Addr) (us l : List Int) (w : World) (ho : w.ownsRow base 3 1 (.slice (some ⟨b, 0, none⟩) n c) n (icells l)) (hn : 1 ≤ n ∧ n ≤ 1000) (hk : KT w bb b A0 m d us) (hl : InN m l) :
    Calls Try.prog 63 #[.slice (some ⟨b, 0, none⟩) n c, .int .i64 0, .int .i64 (n : Int), .func (.func 52) #[] #[.pointer (some ⟨bb, 0, none⟩)]] w fun e w' =>
      e = .returned (.tuple #[]) ∧ w'.ownsRow base 3 1 (.slice (some ⟨b, 0, none⟩) n c) n (icells (finT (keyOf us) [] l)) ∧ w.grownBy w' (some b) := by
  have hlen : l.length = n := (nr_own ho).1
  obtain ⟨f, hf⟩ : ∃ f, f = keyOf us := ⟨_, rfl⟩
  have HF := Lib.hid hf
  rw [← hf]
  have R0 : ToOut w base b n c f l (.int .i64 1) w := by
    refine ⟨1, Nat.le_refl _, hn.1, rfl, ?_, g_refl _ _⟩
    have : finT f [] (l.take 1) ++ l.drop 1 = l := by
      rcases l with _ | ⟨x, r⟩
      · simp at hlen; omega
      · rfl
    rw [this]
    exact ho
  have HR0 := Lib.hid R0
  have HL := Lib.hid hl
  have HLN := Lib.hid hlen
  have HK := Lib.hid hk
  clear R0 ho hl hlen hk hf
  go_enter Try.func63, Try.ntmps63
  go_wp2
  go_loopw [8] (fun vi wr => ToOut w base b n c f l vi wr) (fun vi _ => n - (intOf vi).toNat)
  case atStart => exact HR0.out
  case round =>
    obtain ⟨i, hi1, hin, rfl, hoi, hgi⟩ := hrel
    clear HR0
    by_cases hlt : i < n
    · have hltz : (i : Int) < (n : Int) := by omega
      obtain ⟨x, hx⟩ : ∃ x, l[i]? = some x := ⟨_, List.getElem?_eq_getElem (by rw [HLN.out]; exact hlt)⟩
      have HX := Lib.hid hx
      have HXN := Lib.hid (HL.out x (List.mem_of_getElem? hx))
      have hSl : (finT f [] (l.take i)).length = i := by
        rw [finT_len, List.length_take, HLN.out]
        simp
        omega
      have HSD := Lib.hid (show Desc f (finT f [] (l.take i)) from finT_desc trivial)
      have HSN := Lib.hid (show InN m (finT f [] (l.take i)) from fun z hz => HL.out z (List.mem_of_mem_take ((finT_mem.1 hz).resolve_left (by simp))))
      obtain ⟨S, hS⟩ : ∃ S, S = finT f [] (l.take i) := ⟨_, rfl⟩
      obtain ⟨R, hR⟩ : ∃ R, R = l.drop (i + 1) := ⟨_, rfl⟩
      rw [← hS] at hSl hoi HSD HSN
      have HSS := Lib.hid hS
      have HRR := Lib.hid hR
      have R1 : ToIn w base b n c i f S R x (.int .i64 (i : Int)) wr := ⟨i, S, [], rfl, hSl, Nat.le_refl _, by simp, fun z hz => (by cases hz), by rw [drop_atI hx, ← hR] at hoi; simpa using hoi, hgi⟩
      have HR1 := Lib.hid R1
      have OUT := Lib.hid (fun (A B : List Int) (W : World) (e : A ++ B = S) (hA : ∀ z ∈ A, f x ≤ f z) (hB : ∀ z ∈ B, f z < f x) (ho : W.ownsRow base 3 1 (.slice (some ⟨b, 0, none⟩) n c) n (icells (A ++ x :: B ++ R))) (hg : w.grownBy W (some b)) =>
        (show ToOut w base b n c f l (.int .i64 ((i : Int) + 1)) W from ⟨i + 1, by omega, by omega, by go_num, by rw [take_finT HX.out, ← HSS.out, ← e, insT_at hA hB, ← HRR.out]; exact ho, hg⟩))
      clear R1 hx hS hR hSl hoi hgi
      go_wp2
      go_loopw [9] (fun vj wr2 => ToIn w base b n c i f S R x vj wr2) (fun vj _ => (intOf vj).toNat)
      case atStart => exact HR1.out
      case round =>
        obtain ⟨j, A, B, rfl, hAl, hji, hAB, hB, hoj, hgj⟩ := hrel
        clear HR1
        rcases List.eq_nil_or_concat A with hA0 | ⟨A', y, hA0⟩
        · subst hA0
          obtain rfl : j = 0 := by simpa using hAl.symm
          have HO := Lib.hid (OUT.out [] B wr hAB (fun z hz => by cases hz) hB hoj hgj)
          clear hoj hgj hAB hB
          go_wp2_with fail
          go_quiet (fail)
          go_wp2
          go_roundw
          case rel =>
            obtain ⟨i', q1, q2, q3, q4, q5⟩ := HO.out
            exact ⟨i', q1, q2, q3, own_below q4 (below_drewN (Below.refl _ _) _), g_drewN q5 _⟩
          case measure => simp [intOf]; omega
        · subst hA0
          obtain ⟨q, rfl⟩ : ∃ q, j = q + 1 := ⟨A'.length, by simp at hAl; omega⟩
          have hAl' : A'.length = q := by simpa using hAl
          have hcur : A' ++ [y] ++ x :: B ++ R = A' ++ y :: x :: (B ++ R) := by simp
          simp only [List.concat_eq_append] at hoj hAB
          rw [hcur] at hoj
          have HOJ := Lib.hid hoj
          have HGJ := Lib.hid hgj
          have HAB := Lib.hid hAB
          have HB := Lib.hid hB
          have HAL := Lib.hid hAl'
          have HYN := Lib.hid (HSN.out y (by rw [← hAB]; simp))
          have KJ := Lib.hid (kt_grown HK.out hgj)
          obtain ⟨b1, o1, y1, e1, e2, hy, d0⟩ := nr_at (k := q) (nr_own hoj) (by omega)
          obtain ⟨rfl, rfl⟩ : b = b1 ∧ 0 = o1 := by injection e1 with e1; injection e1 with a b; exact ⟨a, b⟩
          obtain rfl : y = y1 := by rw [← hAl', at_midI.1] at hy; exact Option.some.inj hy
          obtain ⟨b1, o1, x1, e3, e4, hx1, c0⟩ := nr_at (k := q + 1) (nr_own hoj) (by omega)
          obtain ⟨rfl, rfl⟩ : b = b1 ∧ 0 = o1 := by injection e3 with e1; injection e1 with a b; exact ⟨a, b⟩
          obtain rfl : x = x1 := by rw [← hAl', at_midI.2] at hx1; exact Option.some.inj hx1
          rw [Nat.zero_add] at c0 d0
          have hbl : b < wr.heap.size := e2
          have m0 : (0 : Int) < (q : Int) + 1 := by omega
          have m1 : (q : Int) + 1 < (n : Int) := by omega
          have m2 : (q : Int) < (n : Int) := by omega
          have p0 : (0 : Int) ≤ (q : Int) + 1 := by omega
          have p1 : (0 : Int) ≤ (q : Int) := by omega
          have hwp : IntKind.i64.wrap (q : Int) = (q : Int) := by rw [IntKind.wrap_i64]; omega
          have f0 := World.ownsRow.frozenAt hoj (q + 1)
          have f1 := World.ownsRow.frozenAt hoj q
          obtain ⟨V, hV⟩ : ∃ V, cmpY (f y) (f x) = V := ⟨_, rfl⟩
          have HV : Hid (cmpY (keyOf us y) (keyOf us x) = V) := Lib.hid (by rw [← hV, HF.out])
          clear hoj hgj hAB hB hAl hAl' hcur e1 e2 e3 e4 hy hx1
          by_cases hxy : f y < f x
          · have hV0 : V < 0 := by rw [← hV]; unfold cmpY; rw [if_pos hxy]; omega
            have HXY := Lib.hid hxy
            clear hV hxy
            go_wp2_with fail
            go_quiet ((go_at_call 52; exact Calls.quiet_of (cmpT_any bb b A0 m d us x y V _ (kt_grown KJ.out (g_drewN (g_refl _ _) _)) HXN.out HYN.out HV.out)))
            go_wp2_with fail
            go_region
            all_goals
              go_wp2
              go_roundw
              case rel =>
                refine ⟨q, A', y :: B, rfl, HAL.out, by omega, by rw [← HAB.out]; simp, fun z hz => ?_, ?_, g_set (g_set (g_drewN HGJ.out _) (.inl rfl) _) (.inl rfl) _⟩
                · rcases List.mem_cons.1 hz with e | e
                  · subst e; exact HXY.out
                  · exact HB.out z e
                · have h5 := own_set_int (own_set_int (own_below HOJ.out (below_drewN (Below.refl _ _) (nq + 1))) (q + 1) y) q x
                  rw [← HAL.out, swap_midI, HAL.out] at h5
                  simpa using h5
              case measure => simp [intOf]
          · have hV0 : 0 ≤ V := by rw [← hV]; unfold cmpY; rw [if_neg hxy]; split <;> omega
            have HO := Lib.hid (fun W h1 h2 => OUT.out (A' ++ [y]) B W HAB.out (fun z hz => by
              have := ge_last (f := f) (A := A') (B := B) (y := y) (by rw [HAB.out]; exact HSD.out) z hz
              omega) HB.out h1 h2)
            clear hV hxy
            go_wp2_with fail
            go_quiet ((go_at_call 52; exact Calls.quiet_of (cmpT_any bb b A0 m d us x y V _ (kt_grown KJ.out (g_drewN (g_refl _ _) _)) HXN.out HYN.out HV.out)))
            go_wp2
            go_roundw
            case rel => exact HO.out _ (by rw [show A' ++ [y] ++ x :: B ++ R = A' ++ y :: x :: (B ++ R) by simp]; exact own_below HOJ.out (below_drewN (Below.refl wr.heap.size wr) _)) (g_drewN HGJ.out _)
            case measure => simp [intOf]; omega
    · obtain rfl : i = n := by omega
      have HO := Lib.hid (And.intro hoi hgi)
      clear hoi hgi
      go_wp2
      go_end0
      refine ⟨rfl, ?_, HO.out.2⟩
      have := HO.out.1
      rw [List.drop_of_length_le (by rw [HLN.out]; exact Nat.le_refl _), List.append_nil, List.take_of_length_le (by rw [HLN.out]; exact Nat.le_refl _)] at this
      exact this
set_option maxHeartbeats 1000000 in
theorem stableT_any (base bb b n c m d : Nat) (A0 : Option Addr) (us l : List Int) (w : World) (ho : w.ownsRow base 3 1 (.slice (some ⟨b, 0, none⟩) n c) n (icells l)) (hn : 1 ≤ n ∧ n < 20) (hk : KT w bb b A0 m d us) (hl : InN m l) :
    Calls Try.prog 60 #[.slice (some ⟨b, 0, none⟩) n c, .int .i64 (n : Int), .func (.func 52) #[] #[.pointer (some ⟨bb, 0, none⟩)]] w fun e w' =>
      e = .returned (.tuple #[]) ∧ w'.ownsRow base 3 1 (.slice (some ⟨b, 0, none⟩) n c) n (icells (finT (keyOf us) [] l)) ∧ w.grownBy w' (some b) := by
  have HO := Lib.hid ho
  have HL := Lib.hid hl
  have HK := Lib.hid hk
  have n1 : (n : Int) < 20 := by omega
  have n2 : ¬((20 : Int) ≤ (n : Int)) := by omega
  have n3 : ¬((20 : Int) < (n : Int)) := by omega
  have n4 : decide ((20 : Int) ≤ (n : Int)) = false := decide_eq_false n2
  have n5 : decide ((20 : Int) < (n : Int)) = false := decide_eq_false n3
  clear ho hl hk
  go_enter Try.func60, Try.ntmps60
  go_wp2
  refine wp_loop_rounds 1 ?_
  rw [rounds_succ]
  go_wp2_with (go_at_call 63; refine (insT_any base bb b n c m d A0 us l _ HO.out (by omega) HK.out HL.out).mono ?_; rintro e w1 ⟨rfl, ho1, hg1⟩; have O1 := Lib.hid (And.intro ho1 hg1); clear ho1 hg1)
  refine wp_loop_rounds 1 ?_
  rw [rounds_succ]
  go_wp2
  go_end0
  exact ⟨rfl, O1.out.1, O1.out.2⟩
theorem sortT_any (base bb b n c m d : Nat) (A0 : Option Addr) (us l : List Int) (w : World) (ho : w.ownsRow base 3 1 (.slice (some ⟨b, 0, none⟩) n c) n (icells l)) (hn : 1 ≤ n ∧ n < 20) (hk : KT w bb b A0 m d us) (hl : InN m l) :
    Calls Try.prog 51 #[.slice (some ⟨b, 0, none⟩) n c, .func (.func 52) #[] #[.pointer (some ⟨bb, 0, none⟩)]] w fun e w' =>
      e = .returned (.tuple #[]) ∧ w'.ownsRow base 3 1 (.slice (some ⟨b, 0, none⟩) n c) n (icells (finT (keyOf us) [] l)) ∧ w.grownBy w' (some b) := by
  have HO := Lib.hid ho
  have HL := Lib.hid hl
  have HK := Lib.hid hk
  clear ho hl hk
  go_enter Try.func51, Try.ntmps51
  go_wp2_with (go_at_call 60; refine (stableT_any base bb b n c m d A0 us l _ HO.out hn HK.out HL.out).mono ?_; rintro e w1 ⟨rfl, ho1, hg1⟩; have O1 := Lib.hid (And.intro ho1 hg1); clear ho1 hg1)
  go_end0
  exact ⟨rfl, O1.out.1, O1.out.2⟩
/-- nothing to sort -/
theorem sortT_nil (A : Option Addr) (c bb : Nat) (w : World) :
    Calls Try.prog 51 #[.slice A 0 c, .func (.func 52) #[] #[.pointer (some ⟨bb, 0, none⟩)]] w fun e w' => e = .returned (.tuple #[]) ∧ w = w' := by
  have hi : ∀ W : World, Calls Try.prog 63 #[.slice A 0 c, .int .i64 0, .int .i64 0, .func (.func 52) #[] #[.pointer (some ⟨bb, 0, none⟩)]] W fun e w' => e = .returned (.tuple #[]) ∧ W = w' := fun W => by
    go_enter Try.func63, Try.ntmps63
    go_wp2
    refine wp_loop_rounds 1 ?_
    rw [rounds_succ]
    go_wp2
    go_end0
    exact ⟨rfl, rfl⟩
  have hs : ∀ W : World, Calls Try.prog 60 #[.slice A 0 c, .int .i64 0, .func (.func 52) #[] #[.pointer (some ⟨bb, 0, none⟩)]] W fun e w' => e = .returned (.tuple #[]) ∧ W = w' := fun W => by
    go_enter Try.func60, Try.ntmps60
    go_wp2
    refine wp_loop_rounds 1 ?_
    rw [rounds_succ]
    go_wp2_with (go_at_call 63; refine (hi _).mono ?_; rintro e w' ⟨rfl, rfl⟩)
    refine wp_loop_rounds 1 ?_
    rw [rounds_succ]
    go_wp2
    go_end0
    exact ⟨rfl, rfl⟩
  go_enter Try.func51, Try.ntmps51
  go_wp2_with (go_at_call 60; refine (hs _).mono ?_; rintro e w' ⟨rfl, rfl⟩)
  go_end0
  exact ⟨rfl, rfl⟩
def PlRel (w0 : World) (n : Nat) (v i : Value) (wr : World) : Prop :=
  ∃ (k : Nat) (A : Option Addr) (c : Nat), k ≤ n ∧ i = .int .i64 (k : Int) ∧ v = .slice A k c ∧ Below w0.heap.size w0 wr ∧ wr.ownsRow w0.heap.size 3 1 (.slice A k c) k (icells (plcs k))
theorem tp_no {us : List Int} {x : Int} (h : tpB us x = false) : tpL us x = [] := by rw [tpL, h]; rfl
set_option maxHeartbeats 4000000 in
theorem tpI_any (A : Option Addr) (n c : Nat) (us : List Int) (x : Int) (w : World) (h : NR w A n us) (hn : n ≤ 9223372036854775807) :
    Calls Try.prog 27 #[.slice A n c, .int .i64 x] w (LPq w (tpL us x) (tpB us x)) := by
  have H := Lib.hid h
  have OLD := Lib.hid (nr_old h)
  clear h
  have B0 := Lib.hid (below_alloc (Below.refl w.heap.size w) (.cells #[.slice A n c] 23))
  obtain ⟨L, hL⟩ : ∃ L, L = tpL us x := ⟨_, rfl⟩
  obtain ⟨ok, hok⟩ : ∃ ok, ok = tpB us x := ⟨_, rfl⟩
  rw [← hL, ← hok]
  have HL := Lib.hid hL
  have HK := Lib.hid hok
  clear hL hok
  rcases hv : shB us with _ | _
  · have HV := Lib.hid hv
    clear hv
    obtain rfl : ok = false := by rw [HK.out, tpB, HV.out, Bool.false_and]
    obtain rfl : L = [] := by rw [HL.out, tp_no HK.out.symm]
    go_enter Try.func27, Try.ntmps27
    go_wp2_with (go_at_call 47; refine (shI_is A n c us false _ (nr_below H.out B0.out) hn HV.out).mono ?_; rintro e w' ⟨rfl, rfl⟩)
    go_ret2
    exact lpq_nil rfl B0.out
  · have HV := Lib.hid hv
    obtain ⟨hl16, -⟩ := sh_of hv
    have hn16 : n ≤ 16 := by have := H.out.1; omega
    clear hv hl16
    by_cases hx : x < 0
    · obtain rfl : ok = false := by rw [HK.out, tpB, HV.out, decide_eq_false (by omega)]; rfl
      obtain rfl : L = [] := by rw [HL.out, tp_no HK.out.symm]
      go_enter Try.func27, Try.ntmps27
      go_wp2_with (go_at_call 47; refine (shI_is A n c us true _ (nr_below H.out B0.out) hn HV.out).mono ?_; rintro e w' ⟨rfl, rfl⟩)
      go_ret2
      exact lpq_nil rfl B0.out
    · obtain ⟨q, rfl⟩ : ∃ q : Nat, x = (q : Int) := ⟨x.toNat, by omega⟩
      obtain rfl : ok = true := by rw [HK.out, tpB, HV.out, decide_eq_true (by omega)]; rfl
      have HL2 : Hid (L = (topL us).take q) := Lib.hid (by rw [HL.out, tpL, HK.out.symm]; rfl)
      have R0 : Hid (PlRel (w.alloc (.cells #[.slice A n c] 23)) n (.slice none 0 0) (.int .i64 0) (w.alloc (.cells #[.slice A n c] 23))) := Lib.hid ⟨0, none, 0, Nat.zero_le _, rfl, rfl, Below.refl _ _, World.ownsRow_nil _ _ _ _⟩
      have q0 : (w.alloc (.cells #[.slice A n c] 23)).cell? ⟨w.heap.size, 0, none⟩ = some (.slice A n c) := blk_cell (blk_new w _ _) 0
      have N0 := Lib.hid (nr_below H.out B0.out)
      clear hx
      go_enter Try.func27, Try.ntmps27
      go_wp2_with (go_at_call 47; refine (shI_is A n c us true _ N0.out hn HV.out).mono ?_; rintro e w' ⟨rfl, rfl⟩)
      obtain ⟨w0, hw0⟩ : ∃ w0, w0 = w.alloc (.cells #[.slice A n c] 23) := ⟨_, rfl⟩
      have z0 : w0.heap.size = w.heap.size + 1 := by rw [hw0]; simp
      rw [← hw0] at B0 R0 N0 q0
      have Q0 := Lib.hid q0
      clear q0
      rw [← hw0]
      clear hw0
      go_loopw [6, 17] (fun v i wr => PlRel w0 n v i wr) (fun _ i _ => n - (intOf i).toNat)
      case atStart => exact R0.out
      case round =>
        obtain ⟨k, A2, c2, hk, rfl, rfl, hbl, ho⟩ := hrel
        clear R0
        have HO := Lib.hid ho
        have HB := Lib.hid hbl
        have zb := hbl.size
        by_cases hlt : k < n
        · have k1 : (k : Int) < (n : Int) := by omega
          clear hbl ho
          go_wp2_with (at_builtin
                       refine wpl_app_ints _ rfl (.tmp 20) (.tmp 22) rfl w0.heap.size (.slice A2 k c2) k (plcs k) rfl (HO.out.alloc _) (some ⟨wr.heap.size, 0, none⟩) 1 1 [(k : Int)] rfl (int_single (blk_at (by simp) _ _)) (by omega) (by simp; omega) ?_
                       intro v7 w7 ho7 hg7 hat7
                       obtain ⟨A7, c7, rfl, -, -, -⟩ := own_form ho7
                       have D7 : Hid (Below w0.heap.size w0 w7 ∧ w7.ownsRow w0.heap.size 3 1 (.slice A7 (k + 1) c7) (k + 1) (icells (plcs (k + 1)))) := Lib.hid ⟨app_belowG (HO.out.alloc _) (below_alloc HB.out _) hg7 (by simp; omega), by rw [plcs_succ]; exact ho7⟩
                       clear ho7 hg7 hat7)
          go_roundw
          case rel => exact ⟨k + 1, A7, c7, by omega, by go_num, rfl, D7.out.1, D7.out.2⟩
          case measure => simp [intOf]; omega
        · obtain rfl : k = n := by omega
          have BW := Lib.hid (below_from B0.out HB.out (by omega))
          clear hbl ho
          by_cases hk0 : k = 0
          · subst hk0
            have q1 : ¬ (q : Int) < 0 := by omega
            have hus : us = [] := List.eq_nil_of_length_eq_zero H.out.1
            subst hus
            have HE : Hid (L = []) := Lib.hid (by rw [HL2.out]; simp [topL, plcs, finT])
            obtain rfl : L = [] := HE.out
            by_cases hq0 : q = 0
            · subst hq0
              go_wp2_with (go_at_call 51; refine (sortT_nil A2 c2 _ _).mono ?_; rintro e w1 ⟨rfl, rfl⟩)
              go_ret2
              exact lpq_mk rfl (own_mono HO.out (b2 := w.heap.size) (by omega)) BW.out
            · have q2 : (0 : Int) < (q : Int) := by omega
              go_wp2_with (go_at_call 51; refine (sortT_nil A2 c2 _ _).mono ?_; rintro e w1 ⟨rfl, rfl⟩)
              go_ret2
              exact lpq_mk rfl (own_mono HO.out (b2 := w.heap.size) (by omega)) BW.out
          · obtain ⟨b, c2', hv2, hbb, hlt2⟩ := HO.out.form (by omega)
            obtain ⟨rfl, rfl⟩ : A2 = some ⟨b, 0, none⟩ ∧ c2 = c2' := by injection hv2 with a1 a2 a3; exact ⟨a1, a3⟩
            have KW : Hid (KT wr w.heap.size b A k c us) := Lib.hid ⟨((bcell HB.out).1 _ _ (by omega)).trans Q0.out, nr_below N0.out HB.out, by omega, by omega, fun hk x hx => by have := OLD.out hk x hx; omega⟩
            clear hv2
            have kc2 : k ≤ c2 := by obtain ⟨A9, c9, e9, h9, -⟩ := own_form HO.out; injection e9 with a1 a2 a3; omega
            by_cases hqk : q ≤ k
            · have q3 : ¬ (k : Int) < (q : Int) := by omega
              have q4 : ¬ k < q := by omega
              go_wp2_with (go_at_call 51
                           refine (sortT_any w0.heap.size w.heap.size b k c2 k c A us (plcs k) _ HO.out (by omega) KW.out (fun z hz => plcs_mem hz)).mono ?_
                           rintro e w1 ⟨rfl, ho1, hg1⟩
                           have O1 : Hid (w1.ownsRow w.heap.size 3 1 (.slice (some ⟨b, 0, none⟩) k c2) k (icells (topL us))) := Lib.hid (by have o := own_mono ho1 (b2 := w.heap.size) (by omega); rw [topL, H.out.1]; exact o)
                           have B1 := Lib.hid (below_grown BW.out BW.out.size hg1 (by omega))
                           clear ho1 hg1)
              go_ret2
              exact lpq_mk rfl (by rw [HL2.out]; exact own_takeY O1.out hqk) B1.out
            · have q3 : (k : Int) < (q : Int) := by omega
              have q4 : k < q := by omega
              go_wp2_with (go_at_call 51
                           refine (sortT_any w0.heap.size w.heap.size b k c2 k c A us (plcs k) _ HO.out (by omega) KW.out (fun z hz => plcs_mem hz)).mono ?_
                           rintro e w1 ⟨rfl, ho1, hg1⟩
                           have O1 : Hid (w1.ownsRow w.heap.size 3 1 (.slice (some ⟨b, 0, none⟩) k c2) k (icells (topL us))) := Lib.hid (by have o := own_mono ho1 (b2 := w.heap.size) (by omega); rw [topL, H.out.1]; exact o)
                           have B1 := Lib.hid (below_grown BW.out BW.out.size hg1 (by omega))
                           clear ho1 hg1)
              go_ret2
              exact lpq_mk rfl (by rw [HL2.out, List.take_of_length_le (by rw [top_len, H.out.1]; omega)]; exact O1.out) B1.out
end Go.Proofs.Ytaccbmgbkalknaa
