/-
  A slice of arrivals that comes in as an argument; what the exact laws do with arrivals: copies, comparison, marks. Conditions: a list has at most 1048576 arrivals.
-/
import Derived.Test.YtaccbmgbkalknabEr
import Derived.StillTailTactics
import Derived.Deep.Slices
import Derived.Deep.Fields
import Derived.ChangeSame
import Derived.Lib.SmallJoins
namespace Go.Proofs.Ytaccbmgbkalknab
open Go.ChangeShapes Go.WideShapes Go.ChangeAt Go.RowKit Go.Deep

theorem list_ofA {P : Nat → Arr → Prop} {n : Nat} (h : ∀ i, i < n → ∃ q, P i q) : ∃ ps : List Arr, ps.length = n ∧ ∀ k p, ps[k]? = some p → P k p := by
  induction n with
  | zero => exact ⟨[], rfl, fun k p hp => by simp at hp⟩
  | succ n ih =>
    obtain ⟨ps, hl, hp⟩ := ih fun i hi => h i (by omega)
    obtain ⟨q, hq⟩ := h n (by omega)
    refine ⟨ps ++ [q], by simp [hl], fun k p hk => ?_⟩
    rcases Nat.lt_or_ge k n with hlt | hge
    · rw [List.getElem?_append_left (by omega)] at hk
      exact hp k p hk
    · rw [List.getElem?_append_right (by omega)] at hk
      have : k - ps.length = 0 := by
        rcases Nat.eq_zero_or_pos (k - ps.length) with h0 | h0
        · exact h0
        · rw [List.getElem?_eq_none (by simp; omega)] at hk; cases hk
      rw [this] at hk
      obtain rfl : q = p := by simpa using hk
      obtain rfl : k = n := by omega
      exact hq
theorem arrs_open {H : Type} {enc : TypeId × Value → H} {W : World} {base : Nat} {sp : Nat → Bool} {hd : Bool} {a : Option Addr} {n c : Nat} {d : DataW H} {p : List MemPlace}
    (h : DataW.Trod enc Try.prog W base sp hd 22 (.slice a n c) d p) : ∃ ps, AR W a n ps ∧ n ≤ 9223372036854775807 := by
  obtain ⟨fuel, hf⟩ := h
  rcases open_slice Try.underlying22 hf with ⟨hcs, _⟩ | ⟨x, len, cap, m, nf, D, Pl, hcs, hb, hl, hm, hmm, hx, hi⟩
  · simp [Value.cells] at hcs
    obtain ⟨rfl, rfl, rfl⟩ := hcs
    exact ⟨[], ar_nil _ _, by omega⟩
  · simp [Value.cells] at hcs
    obtain ⟨rfl, rfl, rfl⟩ := hcs
    have hn : n ≤ m := by rw [hmm]; split <;> omega
    have hC : Try.prog.cellsOf 35 = 2 := by kernel_rfl
    have hI : Try.prog.cellsOf 3 = 1 := by kernel_rfl
    rw [hC] at hi
    have hone : ∀ i, i < n → ∃ q : Arr, W.cell? ((x.add (i * 2)).add 0) = some (.int .i64 q.t) ∧ W.cell? ((x.add (i * 2)).add 1) = some (.int .i64 q.z) := by
      intro i him
      obtain ⟨cs', hc, ht⟩ := hi i (by omega)
      obtain ⟨_, hcl, hat⟩ := World.cells?_some hc
      obtain ⟨y0, y1, nn, _, _, t0, t1⟩ := trod_struct2 Try.underlying35 ht
      obtain ⟨q0, e0, _, _⟩ := DataW.trod_int Try.underlying3 t0
      obtain ⟨q1, e1, _, _⟩ := DataW.trod_int Try.underlying3 t1
      have g : ∀ (j : Nat) (v : Value), j < 2 → (cs'.drop j).take (Try.prog.cellsOf 3) = [v] → cs'[j]? = some v := by
        intro j v hj h
        rw [hI] at h
        have := congrArg (fun l : List Value => l[0]?) h
        simpa using this
      refine ⟨⟨q0, q1⟩, ?_, ?_⟩
      · rw [hat (i := 0) (by omega)]; exact g 0 _ (by omega) e0
      · rw [hat (i := 1) (by omega)]; exact g 1 _ (by omega) e1
    obtain ⟨ps, hl1, hps⟩ := list_ofA hone
    refine ⟨ps, ⟨hl1, fun hn0 => ?_⟩, by unfold maxLen at hm; omega⟩
    obtain ⟨b, off, spot⟩ := x
    obtain ⟨q, hq, _⟩ := hone 0 hn0
    have hspot : spot = none := by simpa [Addr.add] using World.cell?_spot hq
    subst hspot
    have ha : ∀ i j, ((⟨b, off, none⟩ : Addr).add i).add j = ⟨b, off + i + j, none⟩ := fun i j => by unfold Addr.add; split <;> split <;> simp_all
    refine ⟨b, off, rfl, World.block_lt_of_cell? W (a := ⟨b, off + 0 * 2 + 0, none⟩) (by rw [← ha]; exact hq), fun k p hp => ?_⟩
    obtain ⟨h0, h1⟩ := hps k p hp
    rw [ha] at h0 h1
    exact ⟨h0, h1⟩

open Classical in
noncomputable def sameA (ps qs : List Arr) : Bool := decide (ps = qs)
theorem sameA_yes {ps qs : List Arr} (h : ps = qs) : true = sameA ps qs := by simp [sameA, h]
theorem sameA_no {ps qs : List Arr} (h : ps ≠ qs) : false = sameA ps qs := by simp [sameA, h]
open Classical in
noncomputable def arrB (p q : Arr) : Bool := decide (p = q)
theorem arrB_yes {p q : Arr} (h : p = q) : true = arrB p q := by simp [arrB, h]
theorem arrB_no {p q : Arr} (h : p ≠ q) : false = arrB p q := by simp [arrB, h]
theorem arr_cases (p q : Arr) : p = q ∨ (p.t == q.t) = false ∨ ((p.t == q.t) = true ∧ (p.z == q.z) = false) := by
  simp only [beq_iff_eq, beq_eq_false_iff_ne]
  by_cases h0 : p.t = q.t
  · by_cases h1 : p.z = q.z
    · exact .inl (arr_ext h0 h1)
    · exact .inr (.inr ⟨h0, h1⟩)
  · exact .inr (.inl h0)
def EqA (ps qs : List Arr) (w : World) (n : Nat) (i : Value) (wr : World) : Prop :=
  ∃ k : Nat, k ≤ n ∧ i = .int .i64 (k : Int) ∧ ps.take k = qs.take k ∧ Below w.heap.size w wr
theorem take_stepA {α : Type} {ps qs : List α} {k : Nat} {p q : α} (h : ps.take k = qs.take k) (hp : ps[k]? = some p) (hq : qs[k]? = some q) (he : p = q) : ps.take (k + 1) = qs.take (k + 1) := by
  rw [List.take_add_one, List.take_add_one, hp, hq, h, he]
theorem take_neA {α : Type} {ps qs : List α} {k : Nat} {p q : α} (hp : ps[k]? = some p) (hq : qs[k]? = some q) (he : p ≠ q) : ps ≠ qs := by
  rintro rfl
  rw [hp] at hq
  exact he (by injection hq)
theorem take_allA {α : Type} {ps qs : List α} {n : Nat} (h : ps.take n = qs.take n) (hp : ps.length ≤ n) (hq : qs.length ≤ n) : ps = qs := by
  rw [List.take_of_length_le hp, List.take_of_length_le hq] at h
  exact h
set_option maxRecDepth 100000 in
set_option maxHeartbeats 400000 in
theorem toArr_any (p : Arr) (w : World) :
    Calls Try.prog 12 #[.agg #[.int .i64 p.t, .int .i64 p.z]] w fun e w' => e = .returned (.agg #[.int .i64 p.t, .int .i64 p.z]) ∧ Below w.heap.size w w' := by
  go_enter Try.func12, Try.ntmps12
  go_wp2
  refine bodyPost_ret (v := .agg #[.int .i64 p.t, .int .i64 p.z]) (by simp [results, Try.results12, go_sem]) rfl ⟨rfl, ?_⟩
  exact below_alloc (below_alloc (below_alloc (Below.refl _ _) _) _) _
set_option maxRecDepth 100000 in
set_option maxHeartbeats 1000000 in
theorem eqArr_any (p q : Arr) (w : World) :
    Calls Try.prog 18 #[.agg #[.int .i64 p.t, .int .i64 p.z], .agg #[.int .i64 q.t, .int .i64 q.z]] w fun e w' => e = .returned (.bool (arrB p q)) ∧ Below w.heap.size w w' := by
  have hb := below_alloc (below_alloc (Below.refl w.heap.size w) (.cells #[.int .i64 p.t, .int .i64 p.z] 33)) (.cells #[.int .i64 q.t, .int .i64 q.z] 33)
  rcases arr_cases p q with rfl | e0 | ⟨e0, e1⟩
  · go_enter Try.func18, Try.ntmps18
    go_wp2
    go_ret
    exact ⟨ret_bool (arrB_yes rfl), hb⟩
  all_goals
    go_enter Try.func18, Try.ntmps18
    go_wp2
    go_ret
    exact ⟨ret_bool (arrB_no (by rintro rfl; simp at *)), hb⟩
theorem szArrS_any (A : Option Addr) (n c : Nat) (left : Int) (w : World) (hn : n ≤ 9223372036854775807) (hl : 0 ≤ left ∧ left ≤ 1048576) :
    Calls Try.prog 4 #[.slice A n c, .int .i64 left] w fun e w' => e = .returned (.int .i64 (if left < n then -1 else left - n)) ∧ w = w' := by
  by_cases h : left < n
  · rw [if_pos h]
    have h1 : left - (n : Int) < 0 := by omega
    go_enter Try.func4, Try.ntmps4
    go_wp2
    go_ret
    exact ⟨rfl, rfl⟩
  · rw [if_neg h]
    have h1 : 0 ≤ left - (n : Int) := by omega
    go_enter Try.func4, Try.ntmps4
    go_wp2
    go_ret
    exact ⟨rfl, rfl⟩
set_option maxRecDepth 100000 in
set_option maxHeartbeats 2000000 in
theorem eqArrS_any (A A2 : Option Addr) (n c n2 c2 : Nat) (ps qs : List Arr) (w : World) (h : AR w A n ps) (h2 : AR w A2 n2 qs) (hn : n ≤ 9223372036854775807) (hn2 : n2 ≤ 9223372036854775807) :
    Calls Try.prog 8 #[.slice A n c, .slice A2 n2 c2] w fun e w' => e = .returned (.bool (sameA ps qs)) ∧ Below w.heap.size w w' := by
  have H := Lib.hid h
  have H2 := Lib.hid h2
  clear h h2
  by_cases hl : n = n2
  · subst hl
    go_enter Try.func8, Try.ntmps8
    go_wp2
    go_loopw [5] (fun i wr => EqA ps qs w n i wr) (fun i _ => n - (intOf i).toNat)
    case atStart => exact ⟨0, Nat.zero_le _, rfl, by simp, Below.refl _ _⟩
    case round =>
      obtain ⟨k, hk, rfl, ht, hbl⟩ := hrel
      have HT := Lib.hid ht
      clear ht
      by_cases hlt : k < n
      · obtain ⟨b, off, p, rfl, hb, hp, c0, c1⟩ := ar_at (ar_below H.out hbl) hlt
        obtain ⟨b2, off2, q, rfl, hb2, hq, d0, d1⟩ := ar_at (ar_below H2.out hbl) hlt
        have HP := Lib.hid hp
        have HQ := Lib.hid hq
        have HB := Lib.hid hbl
        clear hp hq hbl
        have k0 : (0 : Int) ≤ (k : Int) := by omega
        have k1 : (k : Int) < (n : Int) := by omega
        go_wp2_with fail
        go_still_tail 8, (by kernel_rfl)
        change wpList _ _ _ _ _ wr.drew
        go_wp2_with fail
        refine (eqArr_any p q _).mono ?_
        rintro e w1 ⟨rfl, hb1⟩
        have HB1 := Lib.hid (below_seq (HB.out.drew) hb1)
        clear hb1 c0 c1 d0 d1
        by_cases hpq : p = q
        · rw [← arrB_yes hpq]
          have HE := Lib.hid hpq
          clear hpq
          go_wp2
          go_roundw
          case rel => exact ⟨k + 1, by omega, by go_num, take_stepA HT.out HP.out HQ.out HE.out, HB1.out⟩
          case measure => simp [intOf]; omega
        · rw [← arrB_no hpq]
          have HE := Lib.hid hpq
          clear hpq
          go_wp2
          go_ret
          exact ⟨ret_bool (sameA_no (take_neA HP.out HQ.out HE.out)), HB1.out⟩
      · obtain rfl : k = n := by omega
        have HB := Lib.hid hbl
        clear hbl
        go_wp2
        go_ret
        exact ⟨ret_bool (sameA_yes (take_allA HT.out (by have := H.out.1; omega) (by have := H2.out.1; omega))), HB.out⟩
  · have hlb : ((n : Int) == (n2 : Int)) = false := by simp; omega
    have HL := Lib.hid hl
    clear hl
    go_enter Try.func8, Try.ntmps8
    go_wp2
    go_ret
    exact ⟨ret_bool (sameA_no (by rintro rfl; exact HL.out (H.out.1.symm.trans H2.out.1))), Below.refl _ _⟩
def zeroA : Arr := ⟨0, 0⟩
theorem zerosA (n : Nat) : (madeCells (Value.cells (.agg #[.int .i64 0, .int .i64 0])) (n * 2)).toList = acells (List.replicate n zeroA) := by
  have h1 : ∀ m, (madeCells (Value.cells (.agg #[.int .i64 0, .int .i64 0])) m).toList = List.replicate m (.int .i64 0) := by
    intro m
    apply List.ext_getElem
    · simp [madeCells]
    · intro i h1 h2
      simp only [madeCells, Value.cells, List.getElem_replicate, Array.getElem_toList, Array.getElem_map, Array.getElem_range]
      have : i % 2 = 0 ∨ i % 2 = 1 := by omega
      have hs : (#[Value.int .i64 0, Value.int .i64 0] : Array Value).size = 2 := rfl
      rw [hs]
      rcases this with e | e <;> rw [e] <;> rfl
  have h2 : ∀ m, acells (List.replicate m zeroA) = List.replicate (m * 2) (.int .i64 0) := by
    intro m
    induction m with
    | zero => rfl
    | succ m ih =>
      rw [show (m + 1) * 2 = m * 2 + 1 + 1 from by omega]
      simp only [List.replicate_succ, acells, ih]
      rfl
  rw [h1, h2]
theorem set_takeA {α : Type} {cur ps : List α} {k n : Nat} {p : α} (hc : cur.length = n) (hk : k < n) (h : cur.take k = ps.take k) (hp : ps[k]? = some p) : (cur.set k p).take (k + 1) = ps.take (k + 1) := by
  have h1 : (cur.set k p)[k]? = some p := by rw [List.getElem?_set_self (by omega)]
  rw [List.take_add_one, h1, List.take_set_of_le (Nat.le_refl _), h, List.take_add_one, hp]
def CopyA (w : World) (ps : List Arr) (n : Nat) (i : Value) (wr : World) : Prop :=
  ∃ (k : Nat) (cur : List Arr), k ≤ n ∧ i = .int .i64 (k : Int) ∧ cur.length = n ∧ cur.take k = ps.take k ∧ wr.ownsRow w.heap.size 33 2 (.slice (some ⟨w.heap.size, 0, none⟩) n n) n (acells cur) ∧ Below w.heap.size w wr
def CopyAP (w : World) (ps : List Arr) (n : Nat) (e : Ending) (w' : World) : Prop :=
  e = .returned (.slice (some ⟨w.heap.size, 0, none⟩) n n) ∧ w'.ownsRow w.heap.size 33 2 (.slice (some ⟨w.heap.size, 0, none⟩) n n) n (acells ps) ∧ Below w.heap.size w w'
set_option maxRecDepth 100000 in
set_option maxHeartbeats 2000000 in
theorem toArrS_any (A : Option Addr) (n c : Nat) (ps : List Arr) (w : World) (h : AR w A n ps) (hn : n ≤ 1048576) :
    Calls Try.prog 6 #[.slice A n c] w (CopyAP w ps n) := by
  have H := Lib.hid h
  clear h
  obtain ⟨i0, hi, hz0, hz1, hz2⟩ := info_parts infoArr
  go_enter Try.func6, Try.ntmps6
  go_wp2_with (refine wpList_make_full _ rfl (.tmp 6) (.tmp 6) 24 rfl w.heap.size 33 i0 _ 2 Try.underlying24 hi hz0 hz1 .i64 .i64 n n n rfl rfl rfl rfl (by rw [hz2]; omega) (by unfold maxLen; omega) (Nat.le_refl _) ?_; intro w1 ho1 hg1)
  have R0 : CopyA w ps n (.int .i64 0) w1 := by
    rw [zerosA] at ho1
    exact ⟨0, _, Nat.zero_le _, rfl, List.length_replicate, by simp, ho1, ⟨hg1.os, hg1.tape, hg1.output, hg1.size, fun i hi => hg1.block i hi (by simp)⟩⟩
  have HR := Lib.hid R0
  clear R0 ho1 hg1 hi hz0 hz1 hz2
  go_loopw [4] (fun i wr => CopyA w ps n i wr) (fun i _ => n - (intOf i).toNat)
  case atStart => exact HR.out
  case round =>
    obtain ⟨k, cur, hk, rfl, hl, ht, ho, hbl⟩ := hrel
    clear HR
    by_cases hlt : k < n
    · obtain ⟨b, off, p, rfl, hb, hp, c0, c1⟩ := ar_at (ar_below H.out hbl) hlt
      have HP := Lib.hid (And.intro hp (And.intro hl ht))
      have HB := Lib.hid hbl
      have HO := Lib.hid ho
      clear hp hbl ho hl ht
      go_wp2_with fail
      refine (toArr_any p _).mono ?_
      rintro e w2 ⟨rfl, hb2⟩
      have ho2 := own_below HO.out hb2
      have HB2 := Lib.hid (HB.out.trans (hb2.mono HB.out.size))
      clear hb2 c0 c1
      obtain ⟨b', off', p2, e1, e2, e3, e4⟩ := ar_at (k := k) (ar_own ho2) hlt
      obtain ⟨rfl, rfl⟩ : w.heap.size = b' ∧ 0 = off' := by injection e1 with e1; injection e1 with a b; exact ⟨a, b⟩
      obtain ⟨c0, c1⟩ := e4
      rw [Nat.zero_add] at c0 c1
      clear e1 e2 e3
      have f0 := World.ownsRow.frozenAt ho2 (k * 2)
      have f1 := World.ownsRow.frozenAt ho2 (k * 2 + 1)
      have G := Lib.hid (own_set_arr ho2 k p)
      clear ho2
      go_wp2
      go_roundw
      case rel => exact ⟨k + 1, _, by omega, by go_num, by rw [List.length_set]; exact HP.out.2.1, set_takeA HP.out.2.1 hlt HP.out.2.2 HP.out.1, G.out, (HB2.out.setCell (Nat.le_refl _) _).setCell (Nat.le_refl _) _⟩
      case measure => simp [intOf]; omega
    · obtain rfl : k = n := by omega
      have HE := Lib.hid (And.intro (take_allA ht (by have := H.out.1; omega) (by have := H.out.1; omega)) (And.intro ho hbl))
      clear ht ho hbl
      go_wp2
      go_ret
      exact ⟨rfl, by have e := HE.out.1; have o := HE.out.2.1; rw [e] at o; exact o, HE.out.2.2⟩
def markA : Nat → Int → List Arr
  | 0, _ => []
  | n + 1, k => ⟨k, k + 1⟩ :: markA n (k + 2)
theorem markA_len (n : Nat) (k : Int) : (markA n k).length = n := by
  induction n generalizing k with
  | zero => rfl
  | succ n ih => simp [markA, ih]
theorem markA_get (n : Nat) (k : Int) (i : Nat) (h : i < n) : (markA n k)[i]? = some ⟨k + 2 * i, k + 2 * i + 1⟩ := by
  induction n generalizing k i with
  | zero => omega
  | succ n ih =>
    cases i with
    | zero => simp [markA]
    | succ i =>
      have := ih (k + 2) i (by omega)
      simp only [markA, List.getElem?_cons_succ, this, Option.some.injEq, Arr.mk.injEq]
      omega
def MarkAR (w : World) (base b n c : Nat) (k0 : Int) (kv i : Value) (wr : World) : Prop :=
  ∃ (k : Nat) (x : Int) (cur : List Arr), k ≤ n ∧ i = .int .i64 (k : Int) ∧ kv = .int .i64 x ∧ x = k0 + 2 * k ∧ cur.length = n ∧ cur.take k = (markA n k0).take k ∧ wr.ownsRow base 33 2 (.slice (some ⟨b, 0, none⟩) n c) n (acells cur) ∧ w.grownBy wr (some b)
def MarkAP (w : World) (base : Nat) (A : Option Addr) (n c : Nat) (k0 : Int) (e : Ending) (w' : World) : Prop :=
  e = .returned (.int .i64 (k0 + 2 * n)) ∧ w'.ownsRow base 33 2 (.slice A n c) n (acells (markA n k0)) ∧ w.grownBy w' (Value.ownBlock (.slice A n c))
set_option maxRecDepth 100000 in
set_option maxHeartbeats 2000000 in
theorem markArrS_any (base : Nat) (A : Option Addr) (n c : Nat) (k0 : Int) (ps : List Arr) (w : World) (h : w.ownsRow base 33 2 (.slice A n c) n (acells ps)) (hn : n ≤ 4000000000) (hk : 0 ≤ k0 ∧ k0 ≤ 100000000) :
    Calls Try.prog 9 #[.slice A n c, .int .i64 k0] w (MarkAP w base A n c k0) := by
  by_cases h0 : n = 0
  · subst h0
    have hps : ps = [] := List.eq_nil_of_length_eq_zero (by have := h.1; rw [acells_len] at this; omega)
    subst hps
    have H := Lib.hid h
    clear h
    go_enter Try.func9, Try.ntmps9
    go_wp2
    refine wp_loop_rounds 1 ?_
    rw [rounds_succ]
    go_wp2
    go_ret
    exact ⟨ret_int (by omega), H.out, g_refl _ _⟩
  · obtain ⟨b, c', hv, hbb, hlt⟩ := h.form (by omega)
    obtain ⟨rfl, rfl⟩ : A = some ⟨b, 0, none⟩ ∧ c = c' := by injection hv with a1 a2 a3; exact ⟨a1, a3⟩
    have hl0 : ps.length = n := (ar_own h).1
    have R0 : MarkAR w base b n c k0 (.int .i64 k0) (.int .i64 0) w := ⟨0, k0, ps, Nat.zero_le _, rfl, rfl, by omega, hl0, by simp, h, g_refl _ _⟩
    have HR := Lib.hid R0
    clear R0 h hv
    go_enter Try.func9, Try.ntmps9
    go_wp2
    go_loopw [1, 5] (fun kv i wr => MarkAR w base b n c k0 kv i wr) (fun _ i _ => n - (intOf i).toNat)
    case atStart => exact HR.out
    case round =>
      obtain ⟨k, x, cur, hk', rfl, rfl, hx, hl, ht, ho, hgr⟩ := hrel
      clear HR
      have hx0 : 0 ≤ x ∧ x ≤ 17000000000 := by omega
      have HX := Lib.hid hx
      have HL := Lib.hid (And.intro hl ht)
      have HG := Lib.hid hgr
      clear hx hl ht hgr
      by_cases hlt : k < n
      · obtain ⟨b', off', p2, e1, e2, e3, e4⟩ := ar_at (k := k) (ar_own ho) hlt
        obtain ⟨rfl, rfl⟩ : b = b' ∧ 0 = off' := by injection e1 with e1; injection e1 with a b; exact ⟨a, b⟩
        obtain ⟨c0, c1⟩ := e4
        rw [Nat.zero_add] at c0 c1
        clear e1 e2 e3
        have f0 := World.ownsRow.frozenAt ho (k * 2)
        have f1 := World.ownsRow.frozenAt ho (k * 2 + 1)
        have G := Lib.hid (own_set_arr ho k ⟨x, x + 1⟩)
        clear ho
        go_wp2
        go_roundw
        case rel => exact ⟨k + 1, _, _, by omega, by go_num, rfl, by have := HX.out; omega, by rw [List.length_set]; exact HL.out.1, set_takeA HL.out.1 hlt HL.out.2 (by rw [markA_get n k0 k hlt, HX.out, Option.some.injEq, Arr.mk.injEq]; omega), G.out, g_set (g_set HG.out (.inl rfl) _) (.inl rfl) _⟩
        case measure => simp [intOf]; omega
      · obtain rfl : k = n := by omega
        have HE := Lib.hid (And.intro (take_allA HL.out.2 (by have := HL.out.1; omega) (Nat.le_of_eq (markA_len _ _))) ho)
        clear ho
        go_wp2
        go_ret
        exact ⟨ret_int HX.out, by have e := HE.out.1; have o := HE.out.2; rw [e] at o; exact o, HG.out⟩
set_option maxRecDepth 100000 in
set_option maxHeartbeats 2000000 in
theorem heldArrS_any (A : Option Addr) (n c : Nat) (k0 : Int) (w : World) (h : AR w A n (markA n k0)) (hn : n ≤ 4000000000) (hk : 0 ≤ k0 ∧ k0 ≤ 100000000) :
    Calls Try.prog 10 #[.slice A n c, .int .i64 k0] w fun e w' => e = .returned (.int .i64 (k0 + 2 * n)) ∧ w = w' := by
  have H := Lib.hid h
  clear h
  go_enter Try.func10, Try.ntmps10
  go_wp2
  go_loop [1, 5] (fun kv i => ∃ (k : Nat) (x : Int), k ≤ n ∧ i = .int .i64 (k : Int) ∧ kv = .int .i64 x ∧ x = k0 + 2 * k) (fun _ i => n - (intOf i).toNat)
  case atStart => exact ⟨0, k0, Nat.zero_le _, rfl, rfl, by omega⟩
  case round =>
    obtain ⟨k, x, hk', rfl, rfl, hx⟩ := hrel
    have hx0 : 0 ≤ x ∧ x ≤ 17000000000 := by omega
    have HX := Lib.hid hx
    by_cases hlt : k < n
    · obtain ⟨b, off, p, rfl, hb, hp, c0, c1⟩ := ar_at H.out hlt
      obtain rfl : p = ⟨x, x + 1⟩ := by
        rw [markA_get n k0 k hlt, ← hx] at hp
        injection hp with hp
        rw [← hp, Arr.mk.injEq]
        omega
      clear hx hp
      go_wp2
      go_round
      case rel => exact ⟨k + 1, _, by omega, by go_num, rfl, by have := HX.out; omega⟩
      case measure => simp [intOf]; omega
    · obtain rfl : k = n := by omega
      clear hx
      go_wp2
      go_ret
      exact ⟨ret_int HX.out, rfl⟩
end Go.Proofs.Ytaccbmgbkalknab
