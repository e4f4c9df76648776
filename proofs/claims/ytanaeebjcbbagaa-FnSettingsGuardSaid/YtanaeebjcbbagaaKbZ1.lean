/-
  Chapter 1: validity, sizes: what the program's functions and the model's return. Conditions: a slice's length fits an int. Chapter 1: packets of a peer, equality: what the program's functions and the model's return. Conditions: the slice has at most 4000000000 packets. Chapter 1: equality of lists: what the program's function and the model's return. Conditions: the slices' lengths fit an int. A slice of bytes that comes in as an argument, as the walks know it. Conditions: none. What the exact laws do with packets: copies, comparison, marks. Conditions: a list has at most 1048576 packets. Chapt
  Conditions: each lemma says them.
-/
import Derived.Test.YtanaeebjcbbagaaKaZ1
import Derived.StillTailTactics
import Derived.Deep.RegionLaw
namespace Go.Proofs.Ytanaeebjcbbagaa
open Go.RowKit
def inB (n lo hi : Int) : Bool := decide (lo ≤ n ∧ n ≤ hi)
theorem within_any (n lo hi : Int) (w : World) :
    Calls Try.prog 43 #[.int .i64 n, .int .i64 lo, .int .i64 hi] w fun e w' => e = .returned (.bool (inB n lo hi)) ∧ w = w' := by
  by_cases h1 : lo ≤ n
  · by_cases h2 : n ≤ hi
    · go_enter Try.func43, Try.ntmps43
      go_wp2
      go_ret
      exact ⟨ret_bool (by simp [inB, h1, h2]), rfl⟩
    · go_enter Try.func43, Try.ntmps43
      go_wp2
      go_ret
      exact ⟨ret_bool (by simp [inB, h2]), rfl⟩
  · go_enter Try.func43, Try.ntmps43
    go_wp2
    go_ret
    exact ⟨ret_bool (by simp only [inB, eq_comm (a := false), decide_eq_false_iff_not]; omega), rfl⟩
theorem vldB_eq (p : Pkt) : vldB p = (inB p.peer 0 7 && inB p.lane 0 3 && inB p.size 1 100 && inB p.id 0 9999) := by
  rw [Bool.eq_iff_iff]
  simp only [vldB, inB, Bool.and_eq_true, decide_eq_true_eq]
  omega
set_option maxHeartbeats 1000000 in
theorem vldI_any (p : Pkt) (w : World) :
    Calls Try.prog 99 #[.agg #[.int .i64 p.peer, .int .i64 p.lane, .int .i64 p.size, .int .i64 p.id]] w fun e w' => e = .returned (.bool (vldB p)) ∧ Below w.heap.size w w' := by
  have hb := below_alloc (Below.refl w.heap.size w) (.cells #[.int .i64 p.peer, .int .i64 p.lane, .int .i64 p.size, .int .i64 p.id] 50)
  rcases h1 : inB p.peer 0 7 with _ | _
  · go_enter Try.func99, Try.ntmps99
    go_wp2_with (go_at_call 43; refine (within_any _ _ _ _).mono ?_; rintro e w' ⟨rfl, rfl⟩)
    go_ret
    exact ⟨ret_bool (by rw [vldB_eq, h1]; rfl), hb⟩
  · rcases h2 : inB p.lane 0 3 with _ | _
    · go_enter Try.func99, Try.ntmps99
      go_wp2_with (go_at_call 43; refine (within_any _ _ _ _).mono ?_; rintro e w' ⟨rfl, rfl⟩)
      go_ret
      exact ⟨ret_bool (by rw [vldB_eq, h1, h2]; rfl), hb⟩
    · rcases h3 : inB p.size 1 100 with _ | _
      · go_enter Try.func99, Try.ntmps99
        go_wp2_with (go_at_call 43; refine (within_any _ _ _ _).mono ?_; rintro e w' ⟨rfl, rfl⟩)
        go_ret
        exact ⟨ret_bool (by rw [vldB_eq, h1, h2, h3]; rfl), hb⟩
      · rcases h4 : inB p.id 0 9999 with _ | _
        · go_enter Try.func99, Try.ntmps99
          go_wp2_with (go_at_call 43; refine (within_any _ _ _ _).mono ?_; rintro e w' ⟨rfl, rfl⟩)
          go_ret
          exact ⟨ret_bool (by rw [vldB_eq, h1, h2, h3, h4]; rfl), hb⟩
        · go_enter Try.func99, Try.ntmps99
          go_wp2_with (go_at_call 43; refine (within_any _ _ _ _).mono ?_; rintro e w' ⟨rfl, rfl⟩)
          go_ret
          exact ⟨ret_bool (by rw [vldB_eq, h1, h2, h3, h4]; rfl), hb⟩
def okB (ps : List Pkt) : Bool := decide (ps.length ≤ 64) && ps.all vldB
def sizeSum : List Pkt → Int
  | [] => 0
  | p :: r => p.size + sizeSum r
theorem sizeSum_snoc (a : List Pkt) (p : Pkt) : sizeSum (a ++ [p]) = sizeSum a + p.size := by
  induction a with
  | nil => simp [sizeSum]
  | cons q r ih => simp only [List.cons_append, sizeSum, ih]; omega
theorem take_snoc {α : Type} (l : List α) (k : Nat) (x : α) (h : l[k]? = some x) : l.take (k + 1) = l.take k ++ [x] := by
  rw [List.take_add_one, h]; rfl
theorem all_snoc (l : List Pkt) (k : Nat) (x : Pkt) (h : l[k]? = some x) (ha : (l.take k).all vldB = true) (hx : vldB x = true) : (l.take (k + 1)).all vldB = true := by
  rw [take_snoc l k x h, List.all_append, ha]
  simp [hx]
theorem all_fails (l : List Pkt) (k : Nat) (x : Pkt) (h : l[k]? = some x) (hx : vldB x = false) : l.all vldB = false := by
  rw [List.all_eq_false]
  exact ⟨x, List.mem_of_getElem? h, by simp [hx]⟩
theorem vld_size {p : Pkt} (h : vldB p = true) : 1 ≤ p.size ∧ p.size ≤ 100 := by
  simp only [vldB, decide_eq_true_eq] at h
  omega
theorem sum_bound (ps : List Pkt) (h : ps.all vldB = true) : (ps.length : Int) ≤ sizeSum ps ∧ sizeSum ps ≤ 100 * ps.length := by
  induction ps with
  | nil => simp [sizeSum]
  | cons p r ih =>
    simp only [List.all_cons, Bool.and_eq_true] at h
    have := ih h.2
    have := vld_size h.1
    simp only [sizeSum, List.length_cons]
    omega
theorem all_take (ps : List Pkt) (k : Nat) (h : ps.all vldB = true) : (ps.take k).all vldB = true := by
  rw [List.all_eq_true] at h ⊢
  exact fun x hx => h x (List.mem_of_mem_take hx)
theorem ok_bad {ps : List Pkt} {k : Nat} {p : Pkt} (h : ps[k]? = some p) (hx : vldB p = false) : false = okB ps := by
  rw [okB, all_fails ps k p h hx, Bool.and_false]
theorem ok_yes {ps : List Pkt} {k : Nat} (hl : ps.length ≤ 64) (hk : ps.length ≤ k) (h : (ps.take k).all vldB = true) : true = okB ps := by
  rw [List.take_of_length_le hk] at h
  simp [okB, hl, h]
theorem ok_long {ps : List Pkt} (h : 64 < ps.length) : false = okB ps := by
  have : decide (ps.length ≤ 64) = false := by simp; omega
  rw [okB, this, Bool.false_and]
theorem ok_of {ps : List Pkt} (h : okB ps = true) : ps.length ≤ 64 ∧ ps.all vldB = true := by
  simpa [okB] using h
theorem ok_at {ps : List Pkt} {k : Nat} {p : Pkt} (h : okB ps = true) (hp : ps[k]? = some p) : vldB p = true :=
  List.all_eq_true.1 (ok_of h).2 p (List.mem_of_getElem? hp)
def szN (ps : List Pkt) : Int := if okB ps = true then sizeSum ps else 0
theorem sz_yes {ps : List Pkt} (h : okB ps = true) : szN ps = sizeSum ps := if_pos h
theorem sz_no {ps : List Pkt} (h : okB ps = false) : szN ps = 0 := if_neg (by rw [h]; exact Bool.false_ne_true)
theorem ret_two {x y : Int} {a b : Bool} (h : x = y) (h2 : a = b) : Ending.returned (.tuple #[.int .i64 x, .bool a]) = .returned (.tuple #[.int .i64 y, .bool b]) := by rw [h, h2]
theorem sum_step {ps : List Pkt} {k : Nat} {p : Pkt} (h : okB ps = true) (hp : ps[k]? = some p) :
    sizeSum (ps.take (k + 1)) = sizeSum (ps.take k) + p.size ∧ 0 ≤ sizeSum (ps.take k) ∧ sizeSum (ps.take k) ≤ 6400 ∧ 1 ≤ p.size ∧ p.size ≤ 100 := by
  have h1 := sum_bound (ps.take k) (all_take ps k (ok_of h).2)
  have h2 : (ps.take k).length ≤ 64 := Nat.le_trans (List.length_take_le' k ps) (ok_of h).1
  have h3 := vld_size (ok_at h hp)
  exact ⟨by rw [take_snoc ps k p hp, sizeSum_snoc], by omega, by omega, h3.1, h3.2⟩
def ValidRel (w : World) (ps : List Pkt) (n : Nat) (i : Value) (wr : World) : Prop :=
  ∃ k : Nat, k ≤ n ∧ i = .int .i64 (k : Int) ∧ (ps.take k).all vldB = true ∧ Below w.heap.size w wr
set_option maxHeartbeats 1000000 in
theorem okI_any (A : Option Addr) (n c : Nat) (ps : List Pkt) (w : World) (h : PR w A n ps) (hn : n ≤ 9223372036854775807) :
    Calls Try.prog 70 #[.slice A n c] w fun e w' => e = .returned (.bool (okB ps)) ∧ Below w.heap.size w w' := by
  by_cases h64 : n ≤ 64
  · go_enter Try.func70, Try.ntmps70
    go_wp2
    go_loopw [10] (fun i wr => ValidRel w ps n i wr) (fun i _ => n - (intOf i).toNat)
    case atStart => exact ⟨0, Nat.zero_le _, rfl, by simp, Below.refl _ _⟩
    case round =>
      obtain ⟨k, hk, rfl, hv, hbl⟩ := hrel
      have HV := Lib.hid hv
      clear hv
      by_cases hlt : k < n
      · obtain ⟨b, off, p, rfl, hb, hp, c0, c1, c2, c3⟩ := pr_at (pr_below h hbl) hlt
        have HP := Lib.hid hp
        have H := Lib.hid h
        have HB := Lib.hid hbl
        clear hp h hbl
        go_wp2_with fail
        refine (vldI_any p _).mono ?_
        rintro e w1 ⟨rfl, hb1⟩
        have HB1 := Lib.hid (below_seq (below_alloc HB.out _) hb1)
        clear hb1 HB c0 c1 c2 c3
        rcases hv : vldB p with _ | _
        · go_wp2
          go_ret
          exact ⟨ret_bool (ok_bad HP.out hv), HB1.out⟩
        · go_wp2
          go_roundw
          case rel => exact ⟨k + 1, by omega, by go_num, all_snoc ps k p HP.out HV.out hv, HB1.out⟩
          case measure => simp [intOf]; omega
      · obtain rfl : k = n := by omega
        have H := Lib.hid h
        clear h
        go_wp2
        go_ret
        exact ⟨ret_bool (ok_yes (by have := H.out.1; omega) (by have := H.out.1; omega) HV.out), hbl⟩
  · have H := Lib.hid h
    clear h
    go_enter Try.func70, Try.ntmps70
    go_wp2
    go_ret
    exact ⟨ret_bool (ok_long (by have := H.out.1; omega)), Below.refl _ _⟩
def SumRel (w : World) (ps : List Pkt) (n : Nat) (s i : Value) (wr : World) : Prop :=
  ∃ k : Nat, k ≤ n ∧ i = .int .i64 (k : Int) ∧ s = .int .i64 (sizeSum (ps.take k)) ∧ Below w.heap.size w wr
set_option maxHeartbeats 1000000 in
theorem sizeI_any (A : Option Addr) (n c : Nat) (ps : List Pkt) (w : World) (h : PR w A n ps) (hn : n ≤ 9223372036854775807) :
    Calls Try.prog 66 #[.slice A n c] w fun e w' => e = .returned (.tuple #[.int .i64 (szN ps), .bool (okB ps)]) ∧ Below w.heap.size w w' := by
  rcases hok : okB ps with _ | _
  · have H := Lib.hid h
    clear h
    go_enter Try.func66, Try.ntmps66
    go_wp2_with fail
    refine (okI_any A n c ps _ H.out hn).mono ?_
    rintro e w1 ⟨rfl, hb⟩
    rw [hok]
    have HK := Lib.hid hok
    clear hok
    go_wp2
    go_ret2
    exact ⟨ret_two (sz_no HK.out).symm rfl, hb⟩
  · have H := Lib.hid h
    have hn64 : n ≤ 64 := by have := (ok_of hok).1; have := h.1; omega
    clear h
    go_enter Try.func66, Try.ntmps66
    go_wp2_with fail
    refine (okI_any A n c ps _ H.out hn).mono ?_
    rintro e w1 ⟨rfl, hb⟩
    rw [hok]
    have HK := Lib.hid hok
    clear hok
    go_wp2
    have HB := Lib.hid hb
    clear hb
    go_loopw [4, 12] (fun s i wr => SumRel w ps n s i wr) (fun _ i _ => n - (intOf i).toNat)
    case atStart => exact ⟨0, Nat.zero_le _, rfl, rfl, HB.out⟩
    case round =>
      obtain ⟨k, hk, rfl, rfl, hbl⟩ := hrel
      have HBL := Lib.hid hbl
      by_cases hlt : k < n
      · obtain ⟨b, off, p, rfl, hb, hp, c0, c1, c2, c3⟩ := pr_at (pr_below H.out hbl) hlt
        obtain ⟨s0, s1, s2, s3, s4⟩ := sum_step HK.out hp
        have HP := Lib.hid hp
        have HS := Lib.hid s0
        clear hp hbl s0
        go_wp2
        go_roundw
        case rel => exact ⟨k + 1, by omega, by go_num, by rw [HS.out], below_alloc HBL.out _⟩
        case measure => simp [intOf]; omega
      · obtain rfl : k = n := by omega
        clear hbl
        go_wp2
        go_ret2
        exact ⟨ret_two (by rw [sz_yes HK.out, List.take_of_length_le (by have := H.out.1; omega)]) rfl, HBL.out⟩
end Go.Proofs.Ytanaeebjcbbagaa
namespace Go.Proofs.Ytanaeebjcbbagaa
open Go.RowKit
end Go.Proofs.Ytanaeebjcbbagaa
namespace Go.Proofs.Ytanaeebjcbbagaa
open Go.RowKit
end Go.Proofs.Ytanaeebjcbbagaa
namespace Go.Proofs.Ytanaeebjcbbagaa
open Go.ChangeShapes Go.WideShapes Go.ChangeAt Go.RowKit
theorem bytes_open {H : Type} {enc : TypeId × Value → H} {W : World} {base : Nat} {sp : Nat → Bool} {hd : Bool} {a : Option Addr} {n c : Nat} {d : DataW H} {p : List MemPlace}
    (h : DataW.Trod enc Try.prog W base sp hd 22 (.slice a n c) d p) : Bytes W a n c := by
  obtain ⟨fuel, hf⟩ := h
  rcases open_ints Try.underlying22 Try.underlying5 (by kernel_rfl) hf with ⟨hcs, _⟩ | ⟨x, l, cap, zs, hcs, _, hl, hm, hz, hx, hcell, hwz⟩
  · simp [Value.cells] at hcs
    obtain ⟨rfl, rfl, rfl⟩ := hcs
    exact ⟨Nat.le_refl _, fun h => absurd h (by omega)⟩
  · simp [Value.cells] at hcs
    obtain ⟨rfl, rfl, rfl⟩ := hcs
    refine ⟨hl, fun hn => ?_⟩
    have hlen : n ≤ zs.length := by rw [hz]; split <;> omega
    obtain ⟨b, off, spot⟩ := x
    have hspot : spot = none := by simpa [Addr.add] using World.cell?_spot (hcell 0 (by omega))
    subst hspot
    have ha : ∀ j, (⟨b, off, none⟩ : Addr).add j = ⟨b, off + j, none⟩ := fun j => by unfold Addr.add; split <;> simp_all
    refine ⟨b, off, rfl, ?_, fun k hk => ?_⟩
    · have h0 := hcell 0 (by omega)
      rw [ha] at h0
      rcases Nat.lt_or_ge b W.heap.size with hlt | hge
      · exact hlt
      · simp [World.cell?, Array.getElem?_eq_none hge] at h0
    · have hk' : k < zs.length := by omega
      have h0 := hcell k hk'
      rw [ha] at h0
      have hwf := hwz (zs.getD k 0) (by rw [List.getD_eq_getElem?_getD, List.getElem?_eq_getElem hk']; exact List.getElem_mem hk')
      have hr : 0 ≤ zs.getD k 0 ∧ zs.getD k 0 ≤ 255 := by simpa [Lit.wf, IntKind.min, IntKind.max, IntKind.signed, IntKind.bits] using hwf
      exact ⟨(zs.getD k 0).toNat, by omega, by rw [h0, Int.toNat_of_nonneg hr.1]⟩
end Go.Proofs.Ytanaeebjcbbagaa
namespace Go.Proofs.Ytanaeebjcbbagaa
open Go.RowKit
def zeroP : Pkt := ⟨0, 0, 0, 0⟩
theorem zeros (n : Nat) : (madeCells (Value.cells (.agg #[.int .i64 0, .int .i64 0, .int .i64 0, .int .i64 0])) (n * 4)).toList = pcells (List.replicate n zeroP) := by
  have h1 : ∀ m, (madeCells (Value.cells (.agg #[.int .i64 0, .int .i64 0, .int .i64 0, .int .i64 0])) m).toList = List.replicate m (.int .i64 0) := by
    intro m
    apply List.ext_getElem
    · simp [madeCells]
    · intro i h1 h2
      simp only [madeCells, Value.cells, List.getElem_replicate, Array.getElem_toList, Array.getElem_map, Array.getElem_range]
      have : i % 4 = 0 ∨ i % 4 = 1 ∨ i % 4 = 2 ∨ i % 4 = 3 := by omega
      have hs : (#[Value.int .i64 0, Value.int .i64 0, Value.int .i64 0, Value.int .i64 0] : Array Value).size = 4 := rfl
      rw [hs]
      rcases this with e | e | e | e <;> rw [e] <;> rfl
  have h2 : ∀ m, pcells (List.replicate m zeroP) = List.replicate (m * 4) (.int .i64 0) := by
    intro m
    induction m with
    | zero => rfl
    | succ m ih =>
      rw [show (m + 1) * 4 = m * 4 + 1 + 1 + 1 + 1 from by omega]
      simp only [List.replicate_succ, pcells, ih]
      rfl
  rw [h1, h2]
end Go.Proofs.Ytanaeebjcbbagaa
namespace Go.Proofs.Ytanaeebjcbbagaa
open Go.RowKit
end Go.Proofs.Ytanaeebjcbbagaa
namespace Go.Proofs.Ytanaeebjcbbagaa
open Go.RowKit
theorem pr_old {w : World} {A : Option Addr} {n : Nat} {ps : List Pkt} (h : PR w A n ps) : 0 < n → ∀ b, A.map (·.block) = some b → b < w.heap.size := fun hn b hb => by
  obtain ⟨b', off, rfl, hlt, _⟩ := h.2 hn
  obtain rfl : b' = b := by simpa using hb
  exact hlt
end Go.Proofs.Ytanaeebjcbbagaa
namespace Go.Proofs.Ytanaeebjcbbagaa
open Go.RowKit
structure At (lo hi : Nat) (P : World → Prop) (w : World) : Prop where
  it : P w
  fit : hi ≤ w.heap.size
  loc : ∀ w', w.heap.size ≤ w'.heap.size → (∀ b, lo ≤ b → b < hi → w'.heap[b]? = w.heap[b]?) → P w'
structure Chg (lo hi : Nat) (w w' : World) : Prop where
  os : w'.os = w.os
  tape : w'.tape = w.tape
  output : w'.output = w.output
  size : w.heap.size ≤ w'.heap.size
  block : ∀ k, k < w.heap.size → (k < lo ∨ hi ≤ k) → w'.heap[k]? = w.heap[k]?
theorem chg_grown {lo hi : Nat} {w w' : World} {row : Option Nat} (h : w.grownBy w' row) (hr : ∀ b, row = some b → lo ≤ b ∧ b < hi) : Chg lo hi w w' :=
  ⟨h.os, h.tape, h.output, h.size, fun k hk ho => h.block k hk (fun e => by have := hr k e.symm; omega)⟩
theorem chg_below {lo hi : Nat} {w w' : World} (h : Below w.heap.size w w') : Chg lo hi w w' := ⟨h.os, h.tape, h.output, h.size, fun k hk _ => h.block k hk⟩
theorem below_chg {B lo hi : Nat} {a w w' : World} (h : Below B a w) (hB : B ≤ w.heap.size) (hc : Chg lo hi w w') (hl : B ≤ lo) : Below B a w' :=
  h.trans ⟨hc.os, hc.tape, hc.output, hc.size, fun k hk => hc.block k (by omega) (.inl (by omega))⟩
section
variable {lo hi : Nat} {P Q : World → Prop} {w w' : World}
theorem at_chg {l2 h2 : Nat} (h : At lo hi P w) (hc : Chg l2 h2 w w') (hd : hi ≤ l2 ∨ h2 ≤ lo) : At lo hi P w' := by
  have hf := h.fit
  have e : ∀ b, lo ≤ b → b < hi → w'.heap[b]? = w.heap[b]? := fun b h1 h3 => hc.block b (by omega) (by omega)
  exact ⟨h.loc w' hc.size e, Nat.le_trans hf hc.size, fun w2 hs hb => h.loc w2 (Nat.le_trans hc.size hs) fun b h1 h3 => (hb b h1 h3).trans (e b h1 h3)⟩
theorem at_below (h : At lo hi P w) (hb : Below w.heap.size w w') : At lo hi P w' := at_chg (l2 := hi) (h2 := hi) h (chg_below hb) (.inl (Nat.le_refl _))
theorem at_mono {l2 h2 : Nat} (h : At lo hi P w) (h1 : l2 ≤ lo) (h3 : hi ≤ h2) (h4 : h2 ≤ w.heap.size) : At l2 h2 P w := ⟨h.it, h4, fun w2 hs hb => h.loc w2 hs fun b a c => hb b (by omega) (by omega)⟩
end
def BoxP (b : Nat) (t : TypeId) (cs : Array Value) (w : World) : Prop := Blk w b t cs
def OwnP (lo hi : Nat) (e : TypeId) (size : Nat) (v : Value) (n : Nat) (xs : List Value) (w : World) : Prop := w.ownsRow lo e size v n xs ∧ ∀ k, v.ownBlock = some k → lo ≤ k ∧ k < hi
theorem at_box {w : World} {b : Nat} {t : TypeId} {cs : Array Value} (h : Blk w b t cs) : At b (b + 1) (BoxP b t cs) w :=
  ⟨h, blk_lt h, fun _ _ hb => (hb b (Nat.le_refl _) (Nat.lt_succ_self _)).trans h⟩
theorem at_own {w : World} {lo hi : Nat} {e : TypeId} {size : Nat} {v : Value} {n : Nat} {xs : List Value} (h : w.ownsRow lo e size v n xs) (hf : hi ≤ w.heap.size) (hl : ∀ k, v.ownBlock = some k → k < hi) : At lo hi (OwnP lo hi e size v n xs) w := by
  refine ⟨⟨h, fun k hk => ⟨(h.lt k hk).1, hl k hk⟩⟩, hf, fun _ hs hb => ⟨⟨h.1, ?_⟩, fun k hk => ⟨(h.lt k hk).1, hl k hk⟩⟩⟩
  rcases h.2 with hn | ⟨g, cap, cur, rfl, hg, hgg, rest⟩
  · exact .inl hn
  · exact .inr ⟨g, cap, cur, rfl, hg, (hb g hg (hl g rfl)).trans hgg, rest⟩
theorem at_own_all {w : World} {lo : Nat} {e : TypeId} {size : Nat} {v : Value} {n : Nat} {xs : List Value} (h : w.ownsRow lo e size v n xs) : At lo w.heap.size (OwnP lo w.heap.size e size v n xs) w :=
  at_own h (Nat.le_refl _) fun k hk => (h.lt k hk).2
structure Iv where
  lo : Nat
  hi : Nat
  P : World → Prop
def Al : Nat → List Iv → World → Prop
  | lo, [], w => lo ≤ w.heap.size
  | lo, x :: r, w => lo ≤ x.lo ∧ x.lo ≤ x.hi ∧ At x.lo x.hi x.P w ∧ Al x.hi r w
theorem al_chg {w w' : World} {l2 h2 : Nat} (hc : Chg l2 h2 w w') : ∀ {L : List Iv} {lo : Nat}, h2 ≤ lo → Al lo L w → Al lo L w'
  | [], _, _, h => Nat.le_trans h hc.size
  | _ :: _, _, hl, ⟨h1, h3, h4, h5⟩ => ⟨h1, h3, at_chg h4 hc (.inr (by omega)), al_chg hc (by omega) h5⟩
theorem al_below {w w' : World} (hb : Below w.heap.size w w') {L : List Iv} {lo : Nat} (h : Al lo L w) : Al lo L w' := al_chg (l2 := 0) (h2 := 0) (chg_below hb) (Nat.zero_le _) h
theorem al_lo {w : World} : ∀ {L : List Iv} {lo : Nat}, Al lo L w → lo ≤ w.heap.size
  | [], _, h => h
  | _ :: _, _, ⟨h1, h3, h4, _⟩ => by have := h4.fit; omega
theorem al_get {w : World} : ∀ {L : List Iv} {lo : Nat} (i : Nat) {a b : Nat} {P : World → Prop}, Al lo L w → L[i]? = some ⟨a, b, P⟩ → At a b P w ∧ lo ≤ a ∧ a ≤ b
  | [], _, _, _, _, _, _, h => by simp at h
  | x :: r, _, 0, _, _, _, ⟨h1, h3, h4, h5⟩, h => by
    have h' := Option.some.inj (show some x = some _ from h)
    subst h'
    exact ⟨h4, h1, h3⟩
  | x :: r, _, i + 1, _, _, _, ⟨h1, h3, h4, h5⟩, h => by
    have := al_get i h5 (by simpa using h)
    exact ⟨this.1, by omega, this.2.2⟩
theorem al_snoc {w w' : World} (hb : Below w.heap.size w w') {a b : Nat} {P : World → Prop} (ha : w.heap.size ≤ a) (hab : a ≤ b) (hP : At a b P w') : ∀ {L : List Iv} {lo : Nat}, Al lo L w → Al lo (L ++ [⟨a, b, P⟩]) w'
  | [], _, h => ⟨Nat.le_trans h ha, hab, hP, hP.fit⟩
  | _ :: _, _, ⟨h1, h3, h4, h5⟩ => ⟨h1, h3, at_below h4 hb, al_snoc hb ha hab hP h5⟩
theorem al_put {w w' : World} : ∀ {L : List Iv} {lo : Nat} (i : Nat) {a b : Nat} {P Q : World → Prop}, Al lo L w → L[i]? = some ⟨a, b, P⟩ → Chg a b w w' → At a b Q w' → Al lo (L.set i ⟨a, b, Q⟩) w'
  | [], _, _, _, _, _, _, _, h, _, _ => by simp at h
  | x :: r, _, 0, a, b, _, Q, ⟨h1, h3, h4, h5⟩, h, hc, hq => by
    have h' := Option.some.inj (show some x = some _ from h)
    subst h'
    exact ⟨h1, h3, hq, al_chg hc (Nat.le_refl _) h5⟩
  | x :: r, _, i + 1, a, b, _, Q, ⟨h1, h3, h4, h5⟩, h, hc, hq => by
    have hg := al_get i h5 (by simpa using h)
    exact ⟨h1, h3, at_chg h4 hc (.inl hg.2.1), al_put i h5 (by simpa using h) hc hq⟩
structure Fm (w : World) (L : List Iv) (w' : World) : Prop where
  below : Below w.heap.size w w'
  al : Al w.heap.size L w'
section
variable {w w1 w2 : World} {L : List Iv}
theorem fm_zero (w : World) : Fm w [] w := ⟨Below.refl _ _, Nat.le_refl _⟩
theorem fm_below (h : Fm w L w1) (hb : Below w1.heap.size w1 w2) : Fm w L w2 := ⟨below_seq h.below hb, al_below hb h.al⟩
theorem fm_drew (h : Fm w L w1) : Fm w L w1.drew := fm_below h (Below.refl _ _).drew
theorem fm_alloc (h : Fm w L w1) (o : Obj) : Fm w L (w1.alloc o) := fm_below h (below_alloc (Below.refl _ _) o)
theorem fm_box (h : Fm w L w1) (t : TypeId) (cs : Array Value) : Fm w (L ++ [⟨w1.heap.size, w1.heap.size + 1, BoxP w1.heap.size t cs⟩]) (w1.alloc (.cells cs t)) :=
  ⟨below_alloc h.below _, al_snoc (below_alloc (Below.refl _ _) _) (Nat.le_refl _) (Nat.le_succ _) (at_box (blk_new w1 t cs)) h.al⟩
theorem fm_own {s : Nat} {e : TypeId} {size : Nat} {v : Value} {n : Nat} {xs : List Value} (h : Fm w L w1) (hb : Below w1.heap.size w1 w2) (ho : w2.ownsRow w1.heap.size e size v n xs) (hs : w1.heap.size = s) : Fm w (L ++ [⟨s, w2.heap.size, OwnP s w2.heap.size e size v n xs⟩]) w2 := by
  subst hs
  exact ⟨below_seq h.below hb, al_snoc hb (Nat.le_refl _) hb.size (at_own_all ho) h.al⟩
theorem fm_at {s : Nat} {P : World → Prop} (h : Fm w L w1) (hb : Below w1.heap.size w1 w2) (hP : At w1.heap.size w2.heap.size P w2) (hs : w1.heap.size = s) : Fm w (L ++ [⟨s, w2.heap.size, P⟩]) w2 := by
  subst hs
  exact ⟨below_seq h.below hb, al_snoc hb (Nat.le_refl _) hb.size hP h.al⟩
theorem fm_get (h : Fm w L w1) (i : Nat) {a b : Nat} {P : World → Prop} (hi : L[i]? = some ⟨a, b, P⟩) : P w1 := (al_get i h.al hi).1.it
theorem fm_put (h : Fm w L w1) (i : Nat) {a b : Nat} {P Q : World → Prop} (hi : L[i]? = some ⟨a, b, P⟩) (hc : Chg a b w1 w2) (hq : At a b Q w2) : Fm w (L.set i ⟨a, b, Q⟩) w2 := by
  have hg := al_get i h.al hi
  exact ⟨below_chg h.below h.below.size hc hg.2.1, al_put i h.al hi hc hq⟩
theorem fm_blk {a b g : Nat} {t : TypeId} {cs : Array Value} (h : Fm w L w1) (i : Nat) (hi : L[i]? = some ⟨a, b, BoxP g t cs⟩) : Blk w1 g t cs := fm_get h i hi
theorem fm_lt (h : Fm w L w1) (i : Nat) {a b : Nat} {P : World → Prop} (hi : L[i]? = some ⟨a, b, P⟩) : w.heap.size ≤ a ∧ a ≤ b ∧ b ≤ w1.heap.size := by
  have := al_get i h.al hi
  exact ⟨this.2.1, this.2.2, this.1.fit⟩
end
end Go.Proofs.Ytanaeebjcbbagaa
