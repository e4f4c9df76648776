/-
  Chapter 10: merging in place, as lists: an exchange, a rotation, a split. Conditions: each lemma says them.
-/
import Derived.Test.YtaccbmgbkalknabE9
namespace Go.Proofs.Ytaccbmgbkalknab
open Go.RowKit

/-- two places of a list, and their exchange -/
theorem two_at {α : Type} {L M R : List α} {x y : α} {p q : Nat} (hp : L.length = p) (hq : p + 1 + M.length = q) :
    (L ++ x :: (M ++ y :: R))[p]? = some x ∧ (L ++ x :: (M ++ y :: R))[q]? = some y ∧ ((L ++ x :: (M ++ y :: R)).set p y).set q x = L ++ y :: (M ++ x :: R) := by
  subst hp
  subst hq
  have e : L.length + 1 + M.length = L.length + (1 + M.length) := by omega
  rw [e]
  induction L with
  | nil =>
    refine ⟨rfl, ?_, ?_⟩
    · simp [Nat.add_comm 1]
    · simp [Nat.add_comm 1]
  | cons a L ih =>
    obtain ⟨h1, h2, h3⟩ := ih (by omega)
    have e2 : (a :: L).length + (1 + M.length) = (L.length + (1 + M.length)) + 1 := by simp; omega
    refine ⟨by simp, ?_, ?_⟩
    · rw [e2]; simpa using h2
    · rw [e2]; simpa using h3
theorem insA_low {y : Arr} {S X : List Arr} (h : ∀ x ∈ X, y.t < x.t) : insA y (S ++ X) = insA y S ++ X := by
  induction S with
  | nil =>
    cases X with
    | nil => rfl
    | cons x r =>
      have := h x (by simp)
      simp only [List.nil_append, insA]
      rw [if_pos this]
      rfl
  | cons s S ih =>
    simp only [List.cons_append, insA]
    split
    · rfl
    · rw [ih]; rfl
theorem insA_high {y : Arr} {Z S : List Arr} (h : ∀ z ∈ Z, z.t ≤ y.t) : insA y (Z ++ S) = Z ++ insA y S := by
  induction Z with
  | nil => rfl
  | cons z Z ih =>
    have := h z (by simp)
    simp only [List.cons_append, insA]
    rw [if_neg (by omega), ih fun x hx => h x (by simp [hx])]
theorem finA_low {S X Y : List Arr} (h : ∀ y ∈ Y, ∀ x ∈ X, y.t < x.t) : finA (S ++ X) Y = finA S Y ++ X := by
  induction Y generalizing S with
  | nil => rfl
  | cons y Y ih =>
    simp only [finA]
    rw [insA_low (h y (by simp)), ih fun z hz => h z (by simp [hz])]
theorem finA_high {Z S Y : List Arr} (h : ∀ y ∈ Y, ∀ z ∈ Z, z.t ≤ y.t) : finA (Z ++ S) Y = Z ++ finA S Y := by
  induction Y generalizing S with
  | nil => rfl
  | cons y Y ih =>
    simp only [finA]
    rw [insA_high (h y (by simp)), ih fun z hz => h z (by simp [hz])]
theorem insA_mem {x z : Arr} {l : List Arr} : z ∈ insA x l ↔ z = x ∨ z ∈ l := by
  induction l with
  | nil => simp [insA]
  | cons y r ih =>
    simp only [insA]
    split
    · simp
    · simp only [List.mem_cons, ih]
      constructor
      · rintro (h | h | h)
        · exact .inr (.inl h)
        · exact .inl h
        · exact .inr (.inr h)
      · rintro (h | h | h)
        · exact .inr (.inl h)
        · exact .inl h
        · exact .inr (.inr h)
theorem finA_mem {z : Arr} {s l : List Arr} : z ∈ finA s l ↔ z ∈ s ∨ z ∈ l := by
  induction l generalizing s with
  | nil => simp [finA]
  | cons x l ih =>
    simp only [finA, ih, insA_mem, List.mem_cons]
    constructor
    · rintro ((h | h) | h)
      · exact .inr (.inl h)
      · exact .inl h
      · exact .inr (.inr h)
    · rintro (h | h | h)
      · exact .inl (.inr h)
      · exact .inl (.inl h)
      · exact .inr h
/-- merging in two halves -/
theorem finA_split {X1 X2 Y1 Y2 : List Arr} (h1 : ∀ x ∈ X1, ∀ y ∈ Y2, x.t ≤ y.t) (h2 : ∀ y ∈ Y1, ∀ x ∈ X2, y.t < x.t) (h3 : ∀ y ∈ Y1, ∀ z ∈ Y2, y.t ≤ z.t) : finA (X1 ++ X2) (Y1 ++ Y2) = finA X1 Y1 ++ finA X2 Y2 := by
  rw [finA_append, finA_low h2, finA_high]
  intro y hy z hz
  rcases finA_mem.1 hz with e | e
  · exact h1 z e y hy
  · exact h3 z e y hy
theorem finA_one {x : Arr} {Y1 Y2 : List Arr} {lo : Int} (hv : avL lo (Y1 ++ Y2) = true) (h1 : ∀ y ∈ Y1, y.t < x.t) (h2 : ∀ y ∈ Y2, x.t ≤ y.t) : finA [x] (Y1 ++ Y2) = Y1 ++ x :: Y2 := by
  induction Y1 generalizing lo with
  | nil =>
    rcases Y2 with _ | ⟨y, r⟩
    · rfl
    · simp only [List.nil_append] at hv ⊢
      rw [finA_le hv (h2 y (by simp)), finA_nil hv]
  | cons y Y1 ih =>
    rw [List.cons_append] at hv
    have hv1 := av_cons.1 hv
    rw [List.cons_append, finA_gt hv (h1 y (by simp)), ih hv1.2.2.2.2 (fun z hz => h1 z (by simp [hz]))]
    rfl
theorem av_pair {lo : Int} {l : List Arr} {i j : Nat} {a b : Arr} (h : avL lo l = true) (hi : l[i]? = some a) (hj : l[j]? = some b) (hle : i ≤ j) : a.t ≤ b.t := by
  have h1 := av_drop h i
  rw [drop_at hi] at h1
  have h2 := av_cons.1 h1
  rcases Nat.eq_or_lt_of_le hle with e | e
  · subst e
    rw [hi] at hj
    obtain rfl := Option.some.inj hj
    exact Int.le_refl _
  · have h3 : (l.drop (i + 1))[j - (i + 1)]? = some b := by rw [List.getElem?_drop, show i + 1 + (j - (i + 1)) = j by omega]; exact hj
    exact (av_at h2.2.2.2.2 h3).1
abbrev RowA (w : World) (base b0 N c : Nat) (l : List Arr) : Prop := w.ownsRow base 33 2 (.slice (some ⟨b0, 0, none⟩) N c) N (acells l)
/-- an exchange of two places, in memory -/
theorem row_swap {w : World} {base b0 N c p q : Nat} {L M R : List Arr} {x y : Arr} (h : RowA w base b0 N c (L ++ x :: (M ++ y :: R))) (hp : L.length = p) (hq : p + 1 + M.length = q) :
    RowA ((((w.setCell ⟨b0, p * 2, none⟩ (.int .i64 y.t)).setCell ⟨b0, p * 2 + 1, none⟩ (.int .i64 y.z)).setCell ⟨b0, q * 2, none⟩ (.int .i64 x.t)).setCell ⟨b0, q * 2 + 1, none⟩ (.int .i64 x.z)) base b0 N c (L ++ y :: (M ++ x :: R)) := by
  have h1 := own_set_arr (own_set_arr h p y) q x
  rw [(two_at hp hq).2.2] at h1
  exact h1
/-- two places of a row: cells and marks -/
theorem row_two {w : World} {base b0 N c p q : Nat} {L M R : List Arr} {x y : Arr} (h : RowA w base b0 N c (L ++ x :: (M ++ y :: R))) (hp : L.length = p) (hq : p + 1 + M.length = q) :
    (w.cell? ⟨b0, p * 2, none⟩ = some (.int .i64 x.t) ∧ w.cell? ⟨b0, p * 2 + 1, none⟩ = some (.int .i64 x.z) ∧ w.cell? ⟨b0, q * 2, none⟩ = some (.int .i64 y.t) ∧ w.cell? ⟨b0, q * 2 + 1, none⟩ = some (.int .i64 y.z)) ∧
      (w.frozen? ⟨b0, p * 2, none⟩ = false ∧ w.frozen? ⟨b0, p * 2 + 1, none⟩ = false ∧ w.frozen? ⟨b0, q * 2, none⟩ = false ∧ w.frozen? ⟨b0, q * 2 + 1, none⟩ = false) ∧ p < N ∧ q < N := by
  obtain ⟨e1, e2, -⟩ := two_at (x := x) (y := y) (R := R) hp hq
  have hl := (ar_own h).1
  have hq' : q < N := by
    rw [← hl, ← hq, ← hp]
    simp
    omega
  have hp' : p < N := by omega
  obtain ⟨b1, o1, x1, e3, _, hx1, c0, c1⟩ := ar_at (ar_own h) hp'
  obtain ⟨rfl, rfl⟩ : b0 = b1 ∧ 0 = o1 := by injection e3 with e1; injection e1 with a b; exact ⟨a, b⟩
  obtain rfl : x = x1 := by rw [e1] at hx1; exact Option.some.inj hx1
  obtain ⟨b1, o1, y1, e4, _, hy1, d0, d1⟩ := ar_at (ar_own h) hq'
  obtain ⟨rfl, rfl⟩ : b0 = b1 ∧ 0 = o1 := by injection e4 with e1; injection e1 with a b; exact ⟨a, b⟩
  obtain rfl : y = y1 := by rw [e2] at hy1; exact Option.some.inj hy1
  rw [Nat.zero_add] at c0 c1 d0 d1
  exact ⟨⟨c0, c1, d0, d1⟩, ⟨World.ownsRow.frozenAt h _, World.ownsRow.frozenAt h _, World.ownsRow.frozenAt h _, World.ownsRow.frozenAt h _⟩, hp', hq'⟩
theorem g_row {w w1 : World} {base b0 N c : Nat} {l : List Arr} (_h : RowA w base b0 N c l) (hg : w.grownBy w1 (some b0)) : w.grownBy w1 (some b0) := hg
theorem g_swap {w wr : World} {b0 : Nat} {a1 a2 a3 a4 : Nat} {u1 u2 u3 u4 : Value} (h : w.grownBy wr (some b0)) : w.grownBy ((((wr.setCell ⟨b0, a1, none⟩ u1).setCell ⟨b0, a2, none⟩ u2).setCell ⟨b0, a3, none⟩ u3).setCell ⟨b0, a4, none⟩ u4) (some b0) :=
  g_set (g_set (g_set (g_set h (.inl rfl) _) (.inl rfl) _) (.inl rfl) _) (.inl rfl) _
theorem g_drew {w wr : World} {b : Option Nat} (h : w.grownBy wr b) : w.grownBy wr.drew b := ⟨h.os, h.tape, h.output, h.size, h.block⟩
def SwRel (w : World) (base b0 N c n : Nat) (P U W V Q : List Arr) (iv : Value) (wr : World) : Prop :=
  ∃ (i : Nat) (U1 U2 V1 V2 : List Arr), i ≤ n ∧ iv = .int .i64 (i : Int) ∧ U = U1 ++ U2 ∧ V = V1 ++ V2 ∧ U1.length = i ∧ V1.length = i ∧ RowA wr base b0 N c (P ++ V1 ++ (U2 ++ W ++ U1) ++ (V2 ++ Q)) ∧ w.grownBy wr (some b0)
set_option maxHeartbeats 1000000 in
theorem swI_any (base b0 N c a bb n : Nat) (fv : Value) (P U W V Q : List Arr) (w : World) (ho : RowA w base b0 N c (P ++ U ++ W ++ V ++ Q)) (hN : N ≤ 1000) (ha : P.length = a) (hU : U.length = n) (hV : V.length = n) (hb : a + n + W.length = bb) :
    Calls Try.prog 26 #[.slice (some ⟨b0, 0, none⟩) N c, .int .i64 (a : Int), .int .i64 (bb : Int), .int .i64 (n : Int), fv] w fun e w' => e = .returned (.tuple #[]) ∧ RowA w' base b0 N c (P ++ V ++ W ++ U ++ Q) ∧ w.grownBy w' (some b0) := by
  have hlen := (ar_own ho).1
  have hbn : bb + n ≤ N := by simp at hlen; omega
  have R0 : SwRel w base b0 N c n P U W V Q (.int .i64 0) w := ⟨0, [], U, [], V, Nat.zero_le _, rfl, rfl, rfl, rfl, rfl, by simpa using ho, g_refl _ _⟩
  have HR0 := Lib.hid R0
  have HA := Lib.hid (And.intro ha (And.intro hU (And.intro hV hb)))
  clear R0 ho hlen ha hU hV
  go_enter Try.func26, Try.ntmps26
  go_wp2
  go_loopw [10] (fun iv wr => SwRel w base b0 N c n P U W V Q iv wr) (fun iv _ => n - (intOf iv).toNat)
  case atStart => exact HR0.out
  case round =>
    obtain ⟨i, U1, U2, V1, V2, hi, rfl, hU, hV, hu1, hv1, ho, hg⟩ := hrel
    clear HR0
    by_cases hlt : i < n
    · obtain ⟨u, U2, rfl⟩ : ∃ u U3, U2 = u :: U3 := by
        rcases U2 with _ | ⟨u, U3⟩
        · have := HA.out.2.1; rw [hU] at this; simp at this; omega
        · exact ⟨u, U3, rfl⟩
      obtain ⟨v, V2, rfl⟩ : ∃ v V3, V2 = v :: V3 := by
        rcases V2 with _ | ⟨v, V3⟩
        · have := HA.out.2.2.1; rw [hV] at this; simp at this; omega
        · exact ⟨v, V3, rfl⟩
      have hl1 : (P ++ V1).length = a + i := by rw [List.length_append, HA.out.1, hv1]
      have hl2 : a + i + 1 + (U2 ++ W ++ U1).length = bb + i := by
        have h2 := HA.out.2.1
        have h3 := HA.out.2.2.2
        rw [hU] at h2
        simp only [List.length_append, List.length_cons] at h2 ⊢
        omega
      have ho' : RowA wr base b0 N c ((P ++ V1) ++ u :: ((U2 ++ W ++ U1) ++ v :: (V2 ++ Q))) := by simpa using ho
      obtain ⟨⟨c0, c1, c2, c3⟩, ⟨f0, f1, f2, f3⟩, hp1, hq1⟩ := row_two ho' hl1 hl2
      have hsw := row_swap ho' hl1 hl2
      have HS := Lib.hid (World.ownsRow.drew hsw)
      have HG := Lib.hid (g_drew (g_swap (a1 := (a + i) * 2) (a2 := (a + i) * 2 + 1) (a3 := (bb + i) * 2) (a4 := (bb + i) * 2 + 1) (u1 := .int .i64 v.t) (u2 := .int .i64 v.z) (u3 := .int .i64 u.t) (u4 := .int .i64 u.z) hg))
      have HUV := Lib.hid (And.intro hU (And.intro hV (And.intro hu1 hv1)))
      obtain ⟨x, hx⟩ : ∃ x, x = a + i := ⟨_, rfl⟩
      obtain ⟨y, hy⟩ : ∃ y, y = bb + i := ⟨_, rfl⟩
      have ex : (a : Int) + (i : Int) = (x : Int) := by omega
      have ey : (bb : Int) + (i : Int) = (y : Int) := by omega
      have iz : (i : Int) < (n : Int) := by omega
      rw [← hx] at c0 c1 f0 f1 hp1 HS HG
      rw [← hy] at c2 c3 f2 f3 hq1 HS HG
      have xz : (x : Int) < (N : Int) := by omega
      have yz : (y : Int) < (N : Int) := by omega
      have hxy : x ≠ y := by omega
      have HXY := Lib.hid (And.intro hx hy)
      clear hx hy ho ho' hsw hg hl1 hl2 hU hV hu1 hv1
      go_wp2_with fail
      go_region
      go_wp2
      go_roundw
      case rel =>
        refine ⟨i + 1, U1 ++ [u], U2, V1 ++ [v], V2, by omega, by go_num, by rw [HUV.out.1]; simp, by rw [HUV.out.2.1]; simp, by simp [HUV.out.2.2.1], by simp [HUV.out.2.2.2], ?_, HG.out⟩
        have := HS.out
        simpa using this
      case measure => simp [intOf]; omega
    · obtain rfl : i = n := by omega
      have e1 : U2 = [] := List.eq_nil_of_length_eq_zero (by have := HA.out.2.1; rw [hU] at this; simp at this; omega)
      have e2 : V2 = [] := List.eq_nil_of_length_eq_zero (by have := HA.out.2.2.1; rw [hV] at this; simp at this; omega)
      have HO := Lib.hid (show RowA wr base b0 N c (P ++ V ++ W ++ U ++ Q) by rw [hU, hV]; subst e1 e2; simpa using ho)
      have HG := Lib.hid hg
      clear ho hg hU hV
      go_wp2
      go_end0
      exact ⟨rfl, HO.out, HG.out⟩
def RoRel (w : World) (base b0 N c m : Nat) (P Q T : List Arr) (iv jv : Value) (wr : World) : Prop :=
  ∃ (i j : Nat) (D1 U V D2 : List Arr), iv = .int .i64 (i : Int) ∧ jv = .int .i64 (j : Int) ∧ 1 ≤ i ∧ 1 ≤ j ∧ U.length = i ∧ V.length = j ∧ (P ++ D1 ++ U).length = m ∧ T = D1 ++ V ++ U ++ D2 ∧ RowA wr base b0 N c (P ++ D1 ++ U ++ V ++ D2 ++ Q) ∧ w.grownBy wr (some b0)
set_option maxHeartbeats 1000000 in
theorem roI_any (base b0 N c a m bb : Nat) (fv : Value) (P U V Q : List Arr) (w : World) (ho : RowA w base b0 N c (P ++ U ++ V ++ Q)) (hN : N ≤ 1000) (ha : P.length = a) (hU : a + U.length = m) (hV : m + V.length = bb) (h1 : a < m) (h2 : m < bb) :
    Calls Try.prog 25 #[.slice (some ⟨b0, 0, none⟩) N c, .int .i64 (a : Int), .int .i64 (m : Int), .int .i64 (bb : Int), fv] w fun e w' => e = .returned (.tuple #[]) ∧ RowA w' base b0 N c (P ++ V ++ U ++ Q) ∧ w.grownBy w' (some b0) := by
  have hlen := (ar_own ho).1
  have hbn : bb ≤ N := by simp at hlen; omega
  have e1 : (m : Int) - (a : Int) = ((m - a : Nat) : Int) := by omega
  have e2 : (bb : Int) - (m : Int) = ((bb - m : Nat) : Int) := by omega
  have R0 : RoRel w base b0 N c m P Q (V ++ U) (.int .i64 ((m - a : Nat) : Int)) (.int .i64 ((bb - m : Nat) : Int)) w := ⟨m - a, bb - m, [], U, V, [], rfl, rfl, by omega, by omega, by omega, by omega, by simp; omega, by simp, by simpa using ho, g_refl _ _⟩
  have HR0 := Lib.hid R0
  clear R0 ho hlen
  go_enter Try.func25, Try.ntmps25
  go_wp2
  go_loopw [10, 11] (fun iv jv wr => RoRel w base b0 N c m P Q (V ++ U) iv jv wr) (fun iv jv _ => (intOf iv).toNat + (intOf jv).toNat)
  case atStart => exact HR0.out
  case round =>
    obtain ⟨i, j, D1, U', V', D2, rfl, rfl, hi, hj, hu, hv, hm, hT, ho, hg⟩ := hrel
    have HO := Lib.hid ho
    have HG := Lib.hid hg
    have HT := Lib.hid hT
    have hl := (ar_own ho).1
    have hm2 : i ≤ m ∧ m + j ≤ N := by
      simp only [List.length_append] at hl hm
      omega
    have HM := Lib.hid hm
    have HUV := Lib.hid (And.intro hu hv)
    obtain ⟨q, hq⟩ : ∃ q, q = m - i := ⟨_, rfl⟩
    have x1 : (m : Int) - (i : Int) = (q : Int) := by omega
    have x3 : IntKind.i64.wrap (q : Int) = (q : Int) := IntWalk.i64_in _ (by omega)
    have HQ := Lib.hid hq
    have hpl : (P ++ D1).length = q := by
      have := HM.out
      have := HUV.out.1
      simp only [List.length_append] at *
      omega
    have HPL := Lib.hid hpl
    clear HR0 ho hg hT hl hm hu hv hq hpl
    by_cases hij : i = j
    · have HIJ := Lib.hid hij
      have hb1 : ((i : Int) == (j : Int)) = true := by simp; omega
      clear hij
      go_wp2_with (go_at_call 26; refine (swI_any base b0 N c q m i _ (P ++ D1) U' [] V' (D2 ++ Q) _ (by have := HO.out; simpa using this) hN HPL.out HUV.out.1 (by rw [HUV.out.2, HIJ.out]) (by have := HQ.out; simp; omega)).mono ?_; rintro e w1 ⟨rfl, ho1, hg1⟩; have O1 := Lib.hid ho1; have G1 := Lib.hid (HG.out.trans hg1); clear ho1 hg1)
      go_end0
      refine ⟨rfl, ?_, G1.out⟩
      have h3 := O1.out
      have h4 : P ++ V ++ U ++ Q = P ++ D1 ++ V' ++ [] ++ U' ++ (D2 ++ Q) := by
        have := HT.out
        calc P ++ V ++ U ++ Q = P ++ (V ++ U) ++ Q := by simp
          _ = P ++ (D1 ++ V' ++ U' ++ D2) ++ Q := by rw [this]
          _ = _ := by simp
      rw [h4]
      exact h3
    · have hb1 : ((i : Int) == (j : Int)) = false := by simp; omega
      by_cases hgt : j < i
      · obtain ⟨i2, hi2⟩ : ∃ i2, i2 = i - j := ⟨_, rfl⟩
        have x4 : (i : Int) - (j : Int) = (i2 : Int) := by omega
        have g1 : (j : Int) < (i : Int) := by omega
        have hu1 : (U'.take j).length = j := by rw [List.length_take, HUV.out.1]; omega
        have hu2 : (U'.drop j).length = i2 := by rw [List.length_drop, HUV.out.1]; omega
        have hi2' : 1 ≤ i2 := by omega
        have hi3 : i2 + j = i := by omega
        have HU := Lib.hid (And.intro hu1 (And.intro hu2 (And.intro hi3 (List.take_append_drop j U'))))
        clear hi2 hu1 hu2 hi3 hij
        obtain ⟨U1, hU1⟩ : ∃ U1, U1 = U'.take j := ⟨_, rfl⟩
        obtain ⟨U2, hU2⟩ : ∃ U2, U2 = U'.drop j := ⟨_, rfl⟩
        rw [← hU1, ← hU2] at HU
        clear hU1 hU2
        go_wp2_with (go_at_call 26; refine (swI_any base b0 N c q m j _ (P ++ D1) U1 U2 V' (D2 ++ Q) _ (by have := HO.out; rw [← HU.out.2.2.2] at this; simpa using this) hN HPL.out HU.out.1 HUV.out.2 (by have := HQ.out; have := HU.out.2.1; have := HU.out.2.2.1; omega)).mono ?_; rintro e w1 ⟨rfl, ho1, hg1⟩; have O1 := Lib.hid ho1; have G1 := Lib.hid (HG.out.trans hg1); clear ho1 hg1)
        go_roundw
        case rel =>
          refine ⟨i2, j, D1 ++ V', U2, U1, D2, rfl, rfl, hi2', hj, HU.out.2.1, HU.out.1, ?_, ?_, ?_, G1.out⟩
          · have := HM.out
            have h5 := HU.out.2.1
            have h6 := HU.out.2.2.1
            have h7 := HUV.out.1
            have h8 := HUV.out.2
            simp only [List.length_append] at this ⊢
            omega
          · rw [HT.out, ← HU.out.2.2.2]
            simp
          · have := O1.out
            simpa using this
        case measure => (have := HU.out.2.2.1); simp [intOf]; omega
      · obtain ⟨j2, hj2⟩ : ∃ j2, j2 = j - i := ⟨_, rfl⟩
        obtain ⟨y, hy⟩ : ∃ y, y = m + j - i := ⟨_, rfl⟩
        have x4 : (j : Int) - (i : Int) = (j2 : Int) := by omega
        have x5 : (m : Int) + (j : Int) - (i : Int) = (y : Int) := by omega
        have g1 : ¬((j : Int) < (i : Int)) := by omega
        have g2 : decide ((j : Int) < (i : Int)) = false := decide_eq_false g1
        have hv1 : (V'.take j2).length = j2 := by rw [List.length_take, HUV.out.2]; omega
        have hv2 : (V'.drop j2).length = i := by rw [List.length_drop, HUV.out.2]; omega
        have hj2' : 1 ≤ j2 := by omega
        have hj3 : j2 + i = j := by omega
        have hy2 : q + i + j2 = y := by have := HQ.out; omega
        have HV := Lib.hid (And.intro hv1 (And.intro hv2 (And.intro hj3 (And.intro hy2 (List.take_append_drop j2 V')))))
        clear hj2 hy hv1 hv2 hj3 hy2 hij g1
        obtain ⟨V1, hV1⟩ : ∃ V1, V1 = V'.take j2 := ⟨_, rfl⟩
        obtain ⟨V2, hV2⟩ : ∃ V2, V2 = V'.drop j2 := ⟨_, rfl⟩
        rw [← hV1, ← hV2] at HV
        clear hV1 hV2
        go_wp2_with (go_at_call 26; refine (swI_any base b0 N c q y i _ (P ++ D1) U' V1 V2 (D2 ++ Q) _ (by have := HO.out; rw [← HV.out.2.2.2.2] at this; simpa using this) hN HPL.out HUV.out.1 HV.out.2.1 (by have := HV.out.1; have := HV.out.2.2.2.1; omega)).mono ?_; rintro e w1 ⟨rfl, ho1, hg1⟩; have O1 := Lib.hid ho1; have G1 := Lib.hid (HG.out.trans hg1); clear ho1 hg1)
        go_roundw
        case rel =>
          refine ⟨i, j2, D1, V2, V1, U' ++ D2, rfl, rfl, hi, hj2', HV.out.2.1, HV.out.1, ?_, ?_, ?_, G1.out⟩
          · have := HM.out
            have h5 := HV.out.2.1
            have h7 := HUV.out.1
            simp only [List.length_append] at this ⊢
            omega
          · rw [HT.out, ← HV.out.2.2.2.2]
            simp
          · have := O1.out
            simpa using this
        case measure => (have := HV.out.2.2.1); simp [intOf]; omega
end Go.Proofs.Ytaccbmgbkalknab
