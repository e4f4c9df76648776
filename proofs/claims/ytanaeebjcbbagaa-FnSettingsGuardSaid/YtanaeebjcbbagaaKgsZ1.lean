/-
  Chapter 8: drawn settings: what l8Set returns, whatever the bytes. Conditions: the source is as open leaves it, its counter is small.
  Conditions: each lemma says them.
-/
import Derived.Test.YtanaeebjcbbagaaKriZ1
import Derived.Test.YtanaeebjcbbagaaKldZ1
import Derived.Test.YtanaeebjcbbagaaKbtZ1
namespace Go.Proofs.Ytanaeebjcbbagaa
open Go.RowKit
inductive K8 | ptr | sl (n : Nat) (xs : List Int) | num | div | mem | row | agg
def KP (w : World) (g : Nat) (m : Int) : K8 → Value → World → Prop
  | .ptr, v, _ => v = .pointer (some ⟨g, 0, none⟩)
  | .sl n xs, v, w' => ∃ b, v = .slice (some ⟨b, 0, none⟩) n n ∧ w.heap.size < b ∧ Blk w' b 3 (xs.map (Value.int .i64)).toArray
  | .num, v, _ => ∃ x, v = .int .i64 x
  | .div, v, _ => ∃ x, x ∈ ([2, 1, 3] : List Int) ∧ v = .int .i64 x
  | .mem, v, _ => v = .int .i64 m
  | .row, v, w' => ∃ A c us, v = .slice A 4 c ∧ us.length = 4 ∧ w'.ownsRow (w.heap.size + 1) 3 1 (.slice A 4 c) 4 (icells us)
  | .agg, v, w' => ∃ s A c, v = .agg (stc s A 4 c) ∧ s.ws.length = 4 ∧ w'.ownsRow (w.heap.size + 1) 3 1 (.slice A 4 c) 4 (icells s.ws)
def kd : Nat → K8
  | 1 => .sl 4 [50, 10, 100, 0]
  | 2 => .num
  | 4 => .sl 3 [300, 100, 500]
  | 5 => .num
  | 7 => .sl 4 [10, 5, 50, 0]
  | 8 => .num
  | 10 => .sl 3 [100, 60, 200]
  | 11 => .num
  | 12 => .mem
  | 13 => .mem
  | 15 => .sl 3 [2, 1, 3]
  | 16 => .div
  | 17 => .num
  | 19 => .sl 3 [50, 100, 20]
  | 20 => .num
  | 22 => .row
  | 23 => .agg
  | _ => .ptr
def SetPost (w : World) (g q : Nat) (e : Ending) (w' : World) : Prop :=
  ∃ s A c, e = .returned (.agg (stc s A 4 c)) ∧ s.ws.length = 4 ∧ w'.ownsRow (w.heap.size + 1) 3 1 (.slice A 4 c) 4 (icells s.ws) ∧ w.grownBy w' (some g) ∧ RdAt w' g q
section
variable {w w1 w2 : World} {g : Nat} {m : Int}
theorem kp_alloc : ∀ (k : K8) (v : Value) (o : Obj), KP w g m k v w1 → KP w g m k v (w1.alloc o)
  | .ptr, _, _, h => h
  | .sl _ _, _, o, ⟨b, e, hb, hB⟩ => ⟨b, e, hb, blk_alloc hB o⟩
  | .num, _, _, h => h
  | .div, _, _, h => h
  | .mem, _, _, h => h
  | .row, _, o, ⟨A, c, us, e, hl, ho⟩ => ⟨A, c, us, e, hl, ho.alloc o⟩
  | .agg, _, o, ⟨s, A, c, e, hl, ho⟩ => ⟨s, A, c, e, hl, ho.alloc o⟩
theorem kp_grown (hg : w1.grownBy w2 (some g)) (hgw : g < w.heap.size) : ∀ (k : K8) (v : Value), KP w g m k v w1 → KP w g m k v w2
  | .ptr, _, h => h
  | .sl _ _, _, ⟨b, e, hb, hB⟩ => ⟨b, e, hb, blk_grown hB hg (by omega)⟩
  | .num, _, h => h
  | .div, _, h => h
  | .mem, _, h => h
  | .row, _, ⟨A, c, us, e, hl, ho⟩ => ⟨A, c, us, e, hl, ho.kept hg (own_block_none ho (by omega))⟩
  | .agg, _, ⟨s, A, c, e, hl, ho⟩ => ⟨s, A, c, e, hl, ho.kept hg (own_block_none ho (by omega))⟩
end
def ZS : Array Value := #[.int .i64 0, .int .i64 0, .int .i64 0, .int .i64 0, .int .i64 0, .int .i64 0, .int .i64 0, .slice none 0 0]
def A8 (w : World) (g : Nat) (m : Int) (x1 : Value) (vs : Nat → Value) : Act :=
  ⟨#[.pointer (some ⟨g, 0, none⟩), x1, .pointer (some ⟨w.heap.size, 0, none⟩), .int .i64 m, .pointer (some ⟨g, 0, none⟩), .slice (some ⟨w.heap.size + 1, 0, none⟩) 4 4, .int .i64 m, vs 0, vs 1, vs 2, vs 3, vs 4, vs 5, vs 6, vs 7, vs 8, vs 9, vs 10, vs 11, vs 12, vs 13, vs 14, vs 15, vs 16, vs 17, vs 18, vs 19, vs 20, vs 21, vs 22, vs 23], []⟩
structure J8 (w : World) (g q : Nat) (m : Int) (vs : Nat → Value) (l : Array Bool) (w' : World) : Prop where
  size : l.size = 25
  rd : RdAt w' g (q + 1 + 4 * (25 - unl 25 l))
  gr : w.grownBy w' (some g)
  lt : w.heap.size < w'.heap.size
  last : l.getD 24 false = false
  box : Blk w' w.heap.size 25 ZS
  val : ∀ j, l.getD j false = true → KP w g m (kd j) (vs j) w'
def I8 (w : World) (g q : Nat) (m : Int) (x1 : Value) (l : Array Bool) (a : Act) (w' : World) : Prop := ∃ vs, a = A8 w g m x1 vs ∧ J8 w g q m vs l w'
theorem i8_step {w w' w2 : World} {g q i : Nat} {m : Int} {x1 v : Value} {vs : Nat → Value} {l : Array Bool} {a : Act} (J : J8 w g q m vs l w') (hi : i < 24) (h2 : l.getD i true = false)
    (hv : KP w g m (kd i) v w2) (keep : ∀ k u, KP w g m k u w' → KP w g m k u w2) (box : Blk w2 w.heap.size 25 ZS) (rd : RdAt w2 g (q + 1 + 4 * (25 - unl 25 l) + 4)) (gr : w.grownBy w2 (some g)) (hz : w'.heap.size ≤ w2.heap.size)
    (ha : a = A8 w g m x1 (fun j => if j = i then v else vs j)) : I8 w g q m x1 (l.setIfInBounds i true) a w2 :=
  ⟨_, ha, by simp [J.size], rd_more rd (by have := unl_set h2 25 (by omega); have := unl_le (l := l) 25; omega), gr, Nat.lt_of_lt_of_le J.lt hz, by rw [getD_set (by omega)]; exact J.last, box, fun j hj => by
    by_cases e : j = i
    · subst e
      rw [if_pos rfl]
      exact hv
    · rw [if_neg e]
      exact keep _ _ (J.val j (by rwa [getD_set e] at hj))⟩
theorem dep8 {l : Array Bool} {o : Oper} (h : (o.after.all fun e => !Region.binds .any e || l.getD e.on false) = true) (k : Nat) (e : Edge) (he : o.after[k]? = some e) (hb : Region.binds .any e = true) : l.getD e.on false = true := by
  obtain ⟨hk, rfl⟩ := Array.getElem?_eq_some_iff.1 he
  have := Array.all_eq_true.1 h k hk
  rw [hb] at this
  simpa using this
theorem num_at8 (g q b n : Nat) (t : TypeId) (cs : Array Value) (xs : List Int) (w : World) (h : RdAt w g q) (hB : Blk w b t cs) (hq : q ≤ 1000000) (hgb : g < b) (hx : xs.length = n ∧ 0 < n) (hcs : cs.toList = xs.map (Value.int .i64)) :
    Calls Try.prog 36 #[.pointer (some ⟨g, 0, none⟩), .slice (some ⟨b, 0, none⟩) n n] w (NumPost w g (q + 1) xs) := by
  obtain ⟨rfl, hx⟩ := hx
  exact num_any g q b _ xs w h hq hx hgb (fun k x hk => by rw [blk_cell hB, ← Array.getElem?_toList, hcs, List.getElem?_map, hk]; rfl) (blk_lt hB)
set_option maxRecDepth 100000 in
set_option maxHeartbeats 4000000 in
theorem l8Set_any (g q : Nat) (w : World) (h : RdAt w g q) (hq : q ≤ 700000) :
    Calls Try.prog 26 #[.pointer (some ⟨g, 0, none⟩)] w (SetPost w g (q + 101)) := by
  have hg := rd_lt h
  have HG0 := Lib.hid (g_refl w (some g))
  go_enter Try.func26, Try.ntmps26
  go_wp2_with fail
  refine (num_lit g q _ 4 _ _ [300, 100, 1000, 500] _ (rd_alloc h _) (by omega) (by simp) (by decide) rfl).mono ?_
  rintro e w1 ⟨m, hx1, rfl, hg1, hr1⟩
  have G1 := Lib.hid ((g_alloc HG0.out _).trans hg1)
  have Z1 := Lib.hid (show Blk w1 w.heap.size 25 ZS from blk_grown (blk_new w _ _) hg1 (by omega))
  have R1 := Lib.hid hr1
  have z1 : w.heap.size < w1.heap.size := by have := hg1.size; simp at this; omega
  clear hx1 hg1 hr1 h
  go_wp2_with fail
  refine region_inv (I8 w g q m _) (by kernel_rfl) ⟨fun _ => undef, rfl, by simp, rd_more R1.out (by omega), ⟨G1.out.os, G1.out.tape, G1.out.output, G1.out.size, G1.out.block⟩, z1, by simp, Z1.out, fun j hj => by simp [Array.getD_eq_getD_getElem?, Array.getElem?_replicate] at hj; split at hj <;> simp at hj⟩ ?_ ?_
  rotate_left
  · rintro l a w' ⟨vs, rfl, J⟩ hr
    have := ready_nil hr J.size (by kernel_rfl) 24 (by decide)
    rw [J.last] at this
    cases this
  rintro l a w' i ⟨vs, rfl, J⟩ hi
  obtain ⟨h1, h2, h3⟩ := ready_mem hi
  have JJ := Lib.hid J
  clear J hi
  have hlt := JJ.out.lt
  have hc : i = 0 ∨ i = 1 ∨ i = 2 ∨ i = 3 ∨ i = 4 ∨ i = 5 ∨ i = 6 ∨ i = 7 ∨ i = 8 ∨ i = 9 ∨ i = 10 ∨ i = 11 ∨ i = 12 ∨ i = 13 ∨ i = 14 ∨ i = 15 ∨ i = 16 ∨ i = 17 ∨ i = 18 ∨ i = 19 ∨ i = 20 ∨ i = 21 ∨ i = 22 ∨ i = 23 ∨ i = 24 := by
    simp only [List.size_toArray, List.length_cons, List.length_nil] at h1
    omega
  clear h1
  rcases hc with rfl | rfl | rfl | rfl | rfl | rfl | rfl | rfl | rfl | rfl | rfl | rfl | rfl | rfl | rfl | rfl | rfl | rfl | rfl | rfl | rfl | rfl | rfl | rfl | rfl
  · refine wpOp_step rfl (fun K hK => ?_)
    have HK := Lib.hid hK
    clear hK h3
    simp only [A8]
    go_simp
    exact HK.out _ _ (.inl (i8_step (i := 0) (v := .pointer (some ⟨g, 0, none⟩)) JJ.out (by omega) h2 rfl (fun _ _ h => h) JJ.out.box (rd_more JJ.out.rd (by omega)) JJ.out.gr (Nat.le_refl _) rfl))
  · refine wpOp_step rfl (fun K hK => ?_)
    have HK := Lib.hid hK
    clear hK h3
    simp only [A8]
    go_simp
    exact HK.out _ _ (.inl (i8_step (i := 1) (v := .slice (some ⟨w'.heap.size, 0, none⟩) 4 4) JJ.out (by omega) h2 ⟨w'.heap.size, rfl, by omega, blk_new w' _ _⟩ (fun k u h => kp_alloc k u _ h) (blk_alloc JJ.out.box _) (rd_more (rd_alloc JJ.out.rd _) (by omega)) (g_alloc JJ.out.gr _) (by simp) rfl))
  · have d0 : l.getD 0 false = true := dep8 (h3 _ rfl) 0 _ rfl rfl
    have d1 : l.getD 1 false = true := dep8 (h3 _ rfl) 1 _ rfl rfl
    have e0 : vs 0 = .pointer (some ⟨g, 0, none⟩) := JJ.out.val 0 d0
    obtain ⟨b, e1, hb, hB⟩ := JJ.out.val 1 d1
    have HB := Lib.hid hB
    clear hB
    refine wpOp_step rfl (fun K hK => ?_)
    have HK := Lib.hid hK
    clear hK h3
    simp only [A8]
    go_simp
    refine (num_at8 g _ b 4 _ _ [50, 10, 100, 0] _ JJ.out.rd HB.out (by omega) (by omega) (by simp) (by simp)).mono ?_
    rintro e w2 ⟨x, hx, rfl, hg2, hr2⟩
    have HX := Lib.hid hx
    have HG := Lib.hid hg2
    have HR := Lib.hid hr2
    clear hx hg2 hr2
    go_wp2
    exact HK.out _ _ (.inl (i8_step (i := 2) (v := .int .i64 x) JJ.out (by omega) h2 ⟨x, rfl⟩ (kp_grown HG.out hg) (blk_grown JJ.out.box HG.out (by omega)) (rd_more HR.out (by omega)) (JJ.out.gr.trans HG.out) HG.out.size (by simp [A8, e0, e1])))
  · refine wpOp_step rfl (fun K hK => ?_)
    have HK := Lib.hid hK
    clear hK h3
    simp only [A8]
    go_simp
    exact HK.out _ _ (.inl (i8_step (i := 3) (v := .pointer (some ⟨g, 0, none⟩)) JJ.out (by omega) h2 rfl (fun _ _ h => h) JJ.out.box (rd_more JJ.out.rd (by omega)) JJ.out.gr (Nat.le_refl _) rfl))
  · refine wpOp_step rfl (fun K hK => ?_)
    have HK := Lib.hid hK
    clear hK h3
    simp only [A8]
    go_simp
    exact HK.out _ _ (.inl (i8_step (i := 4) (v := .slice (some ⟨w'.heap.size, 0, none⟩) 3 3) JJ.out (by omega) h2 ⟨w'.heap.size, rfl, by omega, blk_new w' _ _⟩ (fun k u h => kp_alloc k u _ h) (blk_alloc JJ.out.box _) (rd_more (rd_alloc JJ.out.rd _) (by omega)) (g_alloc JJ.out.gr _) (by simp) rfl))
  · have d3 : l.getD 3 false = true := dep8 (h3 _ rfl) 0 _ rfl rfl
    have d4 : l.getD 4 false = true := dep8 (h3 _ rfl) 1 _ rfl rfl
    have d2 : l.getD 2 false = true := dep8 (h3 _ rfl) 2 _ rfl rfl
    have e3 : vs 3 = .pointer (some ⟨g, 0, none⟩) := JJ.out.val 3 d3
    obtain ⟨b, e4, hb, hB⟩ := JJ.out.val 4 d4
    have HB := Lib.hid hB
    clear hB
    refine wpOp_step rfl (fun K hK => ?_)
    have HK := Lib.hid hK
    clear hK h3
    simp only [A8]
    go_simp
    refine (num_at8 g _ b 3 _ _ [300, 100, 500] _ JJ.out.rd HB.out (by omega) (by omega) (by simp) (by simp)).mono ?_
    rintro e w2 ⟨x, hx, rfl, hg2, hr2⟩
    have HX := Lib.hid hx
    have HG := Lib.hid hg2
    have HR := Lib.hid hr2
    clear hx hg2 hr2
    go_wp2
    exact HK.out _ _ (.inl (i8_step (i := 5) (v := .int .i64 x) JJ.out (by omega) h2 ⟨x, rfl⟩ (kp_grown HG.out hg) (blk_grown JJ.out.box HG.out (by omega)) (rd_more HR.out (by omega)) (JJ.out.gr.trans HG.out) HG.out.size (by simp [A8, e3, e4])))
  · refine wpOp_step rfl (fun K hK => ?_)
    have HK := Lib.hid hK
    clear hK h3
    simp only [A8]
    go_simp
    exact HK.out _ _ (.inl (i8_step (i := 6) (v := .pointer (some ⟨g, 0, none⟩)) JJ.out (by omega) h2 rfl (fun _ _ h => h) JJ.out.box (rd_more JJ.out.rd (by omega)) JJ.out.gr (Nat.le_refl _) rfl))
  · refine wpOp_step rfl (fun K hK => ?_)
    have HK := Lib.hid hK
    clear hK h3
    simp only [A8]
    go_simp
    exact HK.out _ _ (.inl (i8_step (i := 7) (v := .slice (some ⟨w'.heap.size, 0, none⟩) 4 4) JJ.out (by omega) h2 ⟨w'.heap.size, rfl, by omega, blk_new w' _ _⟩ (fun k u h => kp_alloc k u _ h) (blk_alloc JJ.out.box _) (rd_more (rd_alloc JJ.out.rd _) (by omega)) (g_alloc JJ.out.gr _) (by simp) rfl))
  · have d6 : l.getD 6 false = true := dep8 (h3 _ rfl) 0 _ rfl rfl
    have d7 : l.getD 7 false = true := dep8 (h3 _ rfl) 1 _ rfl rfl
    have d5 : l.getD 5 false = true := dep8 (h3 _ rfl) 2 _ rfl rfl
    have e6 : vs 6 = .pointer (some ⟨g, 0, none⟩) := JJ.out.val 6 d6
    obtain ⟨b, e7, hb, hB⟩ := JJ.out.val 7 d7
    have HB := Lib.hid hB
    clear hB
    refine wpOp_step rfl (fun K hK => ?_)
    have HK := Lib.hid hK
    clear hK h3
    simp only [A8]
    go_simp
    refine (num_at8 g _ b 4 _ _ [10, 5, 50, 0] _ JJ.out.rd HB.out (by omega) (by omega) (by simp) (by simp)).mono ?_
    rintro e w2 ⟨x, hx, rfl, hg2, hr2⟩
    have HX := Lib.hid hx
    have HG := Lib.hid hg2
    have HR := Lib.hid hr2
    clear hx hg2 hr2
    go_wp2
    exact HK.out _ _ (.inl (i8_step (i := 8) (v := .int .i64 x) JJ.out (by omega) h2 ⟨x, rfl⟩ (kp_grown HG.out hg) (blk_grown JJ.out.box HG.out (by omega)) (rd_more HR.out (by omega)) (JJ.out.gr.trans HG.out) HG.out.size (by simp [A8, e6, e7])))
  · refine wpOp_step rfl (fun K hK => ?_)
    have HK := Lib.hid hK
    clear hK h3
    simp only [A8]
    go_simp
    exact HK.out _ _ (.inl (i8_step (i := 9) (v := .pointer (some ⟨g, 0, none⟩)) JJ.out (by omega) h2 rfl (fun _ _ h => h) JJ.out.box (rd_more JJ.out.rd (by omega)) JJ.out.gr (Nat.le_refl _) rfl))
  · refine wpOp_step rfl (fun K hK => ?_)
    have HK := Lib.hid hK
    clear hK h3
    simp only [A8]
    go_simp
    exact HK.out _ _ (.inl (i8_step (i := 10) (v := .slice (some ⟨w'.heap.size, 0, none⟩) 3 3) JJ.out (by omega) h2 ⟨w'.heap.size, rfl, by omega, blk_new w' _ _⟩ (fun k u h => kp_alloc k u _ h) (blk_alloc JJ.out.box _) (rd_more (rd_alloc JJ.out.rd _) (by omega)) (g_alloc JJ.out.gr _) (by simp) rfl))
  · have d9 : l.getD 9 false = true := dep8 (h3 _ rfl) 0 _ rfl rfl
    have d10 : l.getD 10 false = true := dep8 (h3 _ rfl) 1 _ rfl rfl
    have d8 : l.getD 8 false = true := dep8 (h3 _ rfl) 2 _ rfl rfl
    have e9 : vs 9 = .pointer (some ⟨g, 0, none⟩) := JJ.out.val 9 d9
    obtain ⟨b, e10, hb, hB⟩ := JJ.out.val 10 d10
    have HB := Lib.hid hB
    clear hB
    refine wpOp_step rfl (fun K hK => ?_)
    have HK := Lib.hid hK
    clear hK h3
    simp only [A8]
    go_simp
    refine (num_at8 g _ b 3 _ _ [100, 60, 200] _ JJ.out.rd HB.out (by omega) (by omega) (by simp) (by simp)).mono ?_
    rintro e w2 ⟨x, hx, rfl, hg2, hr2⟩
    have HX := Lib.hid hx
    have HG := Lib.hid hg2
    have HR := Lib.hid hr2
    clear hx hg2 hr2
    go_wp2
    exact HK.out _ _ (.inl (i8_step (i := 11) (v := .int .i64 x) JJ.out (by omega) h2 ⟨x, rfl⟩ (kp_grown HG.out hg) (blk_grown JJ.out.box HG.out (by omega)) (rd_more HR.out (by omega)) (JJ.out.gr.trans HG.out) HG.out.size (by simp [A8, e9, e10])))
  · refine wpOp_step rfl (fun K hK => ?_)
    have HK := Lib.hid hK
    clear hK h3
    simp only [A8]
    go_simp
    exact HK.out _ _ (.inl (i8_step (i := 12) (v := .int .i64 m) JJ.out (by omega) h2 rfl (fun _ _ h => h) JJ.out.box (rd_more JJ.out.rd (by omega)) JJ.out.gr (Nat.le_refl _) rfl))
  · refine wpOp_step rfl (fun K hK => ?_)
    have HK := Lib.hid hK
    clear hK h3
    simp only [A8]
    go_simp
    exact HK.out _ _ (.inl (i8_step (i := 13) (v := .int .i64 m) JJ.out (by omega) h2 rfl (fun _ _ h => h) JJ.out.box (rd_more JJ.out.rd (by omega)) JJ.out.gr (Nat.le_refl _) rfl))
  · refine wpOp_step rfl (fun K hK => ?_)
    have HK := Lib.hid hK
    clear hK h3
    simp only [A8]
    go_simp
    exact HK.out _ _ (.inl (i8_step (i := 14) (v := .pointer (some ⟨g, 0, none⟩)) JJ.out (by omega) h2 rfl (fun _ _ h => h) JJ.out.box (rd_more JJ.out.rd (by omega)) JJ.out.gr (Nat.le_refl _) rfl))
  · refine wpOp_step rfl (fun K hK => ?_)
    have HK := Lib.hid hK
    clear hK h3
    simp only [A8]
    go_simp
    exact HK.out _ _ (.inl (i8_step (i := 15) (v := .slice (some ⟨w'.heap.size, 0, none⟩) 3 3) JJ.out (by omega) h2 ⟨w'.heap.size, rfl, by omega, blk_new w' _ _⟩ (fun k u h => kp_alloc k u _ h) (blk_alloc JJ.out.box _) (rd_more (rd_alloc JJ.out.rd _) (by omega)) (g_alloc JJ.out.gr _) (by simp) rfl))
  · have d14 : l.getD 14 false = true := dep8 (h3 _ rfl) 0 _ rfl rfl
    have d15 : l.getD 15 false = true := dep8 (h3 _ rfl) 1 _ rfl rfl
    have d11 : l.getD 11 false = true := dep8 (h3 _ rfl) 2 _ rfl rfl
    have e14 : vs 14 = .pointer (some ⟨g, 0, none⟩) := JJ.out.val 14 d14
    obtain ⟨b, e15, hb, hB⟩ := JJ.out.val 15 d15
    have HB := Lib.hid hB
    clear hB
    refine wpOp_step rfl (fun K hK => ?_)
    have HK := Lib.hid hK
    clear hK h3
    simp only [A8]
    go_simp
    refine (num_at8 g _ b 3 _ _ [2, 1, 3] _ JJ.out.rd HB.out (by omega) (by omega) (by simp) (by simp)).mono ?_
    rintro e w2 ⟨x, hx, rfl, hg2, hr2⟩
    have HX := Lib.hid hx
    have HG := Lib.hid hg2
    have HR := Lib.hid hr2
    clear hx hg2 hr2
    go_wp2
    exact HK.out _ _ (.inl (i8_step (i := 16) (v := .int .i64 x) JJ.out (by omega) h2 ⟨x, HX.out, rfl⟩ (kp_grown HG.out hg) (blk_grown JJ.out.box HG.out (by omega)) (rd_more HR.out (by omega)) (JJ.out.gr.trans HG.out) HG.out.size (by simp [A8, e14, e15])))
  · have d13 : l.getD 13 false = true := dep8 (h3 _ rfl) 0 _ rfl rfl
    have d16 : l.getD 16 false = true := dep8 (h3 _ rfl) 1 _ rfl rfl
    have e13 : vs 13 = .int .i64 m := JJ.out.val 13 d13
    obtain ⟨x, hx, e16⟩ := JJ.out.val 16 d16
    simp only [List.mem_cons, List.not_mem_nil, or_false] at hx
    clear h3
    rcases hx with rfl | rfl | rfl
    · refine wpOp_step rfl (fun K hK => ?_)
      have HK := Lib.hid hK
      clear hK
      simp only [A8]
      go_simp
      refine HK.out _ _ (.inl (i8_step (i := 17) (v := .int .i64 (IntKind.i64.wrap (m.tdiv 2))) JJ.out (by omega) h2 ⟨_, rfl⟩ (fun _ _ h => h) JJ.out.box (rd_more JJ.out.rd (by omega)) JJ.out.gr (Nat.le_refl _) ?ha))
      case ha =>
        simp only [A8, e13, e16, Nat.reduceEqDiff, reduceIte]
    · refine wpOp_step rfl (fun K hK => ?_)
      have HK := Lib.hid hK
      clear hK
      simp only [A8]
      go_simp
      refine HK.out _ _ (.inl (i8_step (i := 17) (v := .int .i64 (IntKind.i64.wrap m)) JJ.out (by omega) h2 ⟨_, rfl⟩ (fun _ _ h => h) JJ.out.box (rd_more JJ.out.rd (by omega)) JJ.out.gr (Nat.le_refl _) ?ha))
      case ha =>
        simp only [A8, e13, e16, Nat.reduceEqDiff, reduceIte]
    · refine wpOp_step rfl (fun K hK => ?_)
      have HK := Lib.hid hK
      clear hK
      simp only [A8]
      go_simp
      refine HK.out _ _ (.inl (i8_step (i := 17) (v := .int .i64 (IntKind.i64.wrap (m.tdiv 3))) JJ.out (by omega) h2 ⟨_, rfl⟩ (fun _ _ h => h) JJ.out.box (rd_more JJ.out.rd (by omega)) JJ.out.gr (Nat.le_refl _) ?ha))
      case ha =>
        simp only [A8, e13, e16, Nat.reduceEqDiff, reduceIte]
  · refine wpOp_step rfl (fun K hK => ?_)
    have HK := Lib.hid hK
    clear hK h3
    simp only [A8]
    go_simp
    exact HK.out _ _ (.inl (i8_step (i := 18) (v := .pointer (some ⟨g, 0, none⟩)) JJ.out (by omega) h2 rfl (fun _ _ h => h) JJ.out.box (rd_more JJ.out.rd (by omega)) JJ.out.gr (Nat.le_refl _) rfl))
  · refine wpOp_step rfl (fun K hK => ?_)
    have HK := Lib.hid hK
    clear hK h3
    simp only [A8]
    go_simp
    exact HK.out _ _ (.inl (i8_step (i := 19) (v := .slice (some ⟨w'.heap.size, 0, none⟩) 3 3) JJ.out (by omega) h2 ⟨w'.heap.size, rfl, by omega, blk_new w' _ _⟩ (fun k u h => kp_alloc k u _ h) (blk_alloc JJ.out.box _) (rd_more (rd_alloc JJ.out.rd _) (by omega)) (g_alloc JJ.out.gr _) (by simp) rfl))
  · have d18 : l.getD 18 false = true := dep8 (h3 _ rfl) 0 _ rfl rfl
    have d19 : l.getD 19 false = true := dep8 (h3 _ rfl) 1 _ rfl rfl
    have d16 : l.getD 16 false = true := dep8 (h3 _ rfl) 2 _ rfl rfl
    have e18 : vs 18 = .pointer (some ⟨g, 0, none⟩) := JJ.out.val 18 d18
    obtain ⟨b, e19, hb, hB⟩ := JJ.out.val 19 d19
    have HB := Lib.hid hB
    clear hB
    refine wpOp_step rfl (fun K hK => ?_)
    have HK := Lib.hid hK
    clear hK h3
    simp only [A8]
    go_simp
    refine (num_at8 g _ b 3 _ _ [50, 100, 20] _ JJ.out.rd HB.out (by omega) (by omega) (by simp) (by simp)).mono ?_
    rintro e w2 ⟨x, hx, rfl, hg2, hr2⟩
    have HX := Lib.hid hx
    have HG := Lib.hid hg2
    have HR := Lib.hid hr2
    clear hx hg2 hr2
    go_wp2
    exact HK.out _ _ (.inl (i8_step (i := 20) (v := .int .i64 x) JJ.out (by omega) h2 ⟨x, rfl⟩ (kp_grown HG.out hg) (blk_grown JJ.out.box HG.out (by omega)) (rd_more HR.out (by omega)) (JJ.out.gr.trans HG.out) HG.out.size (by simp [A8, e18, e19])))
  · refine wpOp_step rfl (fun K hK => ?_)
    have HK := Lib.hid hK
    clear hK h3
    simp only [A8]
    go_simp
    exact HK.out _ _ (.inl (i8_step (i := 21) (v := .pointer (some ⟨g, 0, none⟩)) JJ.out (by omega) h2 rfl (fun _ _ h => h) JJ.out.box (rd_more JJ.out.rd (by omega)) JJ.out.gr (Nat.le_refl _) rfl))
  · have d21 : l.getD 21 false = true := dep8 (h3 _ rfl) 0 _ rfl rfl
    have d20 : l.getD 20 false = true := dep8 (h3 _ rfl) 1 _ rfl rfl
    have e21 : vs 21 = .pointer (some ⟨g, 0, none⟩) := JJ.out.val 21 d21
    refine wpOp_step rfl (fun K hK => ?_)
    have HK := Lib.hid hK
    clear hK h3
    simp only [A8]
    go_simp
    refine (l6Numbers_any g _ _ JJ.out.rd (by omega)).mono ?_
    rintro e w2 ⟨A, c, us, rfl, hl, -, ho, hg2, hr2⟩
    have HO := Lib.hid ho
    have HG := Lib.hid hg2
    have HR := Lib.hid hr2
    clear ho hg2 hr2
    go_wp2
    exact HK.out _ _ (.inl (i8_step (i := 22) (v := .slice A 4 c) JJ.out (by omega) h2 ⟨A, c, us, rfl, hl, own_mono HO.out (by omega)⟩ (kp_grown HG.out hg) (blk_grown JJ.out.box HG.out (by omega)) (rd_more HR.out (by omega)) (JJ.out.gr.trans HG.out) HG.out.size (by simp [A8, e21])))
  · have d2 : l.getD 2 false = true := dep8 (h3 _ rfl) 0 _ rfl rfl
    have d5 : l.getD 5 false = true := dep8 (h3 _ rfl) 1 _ rfl rfl
    have d8 : l.getD 8 false = true := dep8 (h3 _ rfl) 2 _ rfl rfl
    have d11 : l.getD 11 false = true := dep8 (h3 _ rfl) 3 _ rfl rfl
    have d12 : l.getD 12 false = true := dep8 (h3 _ rfl) 4 _ rfl rfl
    have d17 : l.getD 17 false = true := dep8 (h3 _ rfl) 5 _ rfl rfl
    have d20 : l.getD 20 false = true := dep8 (h3 _ rfl) 6 _ rfl rfl
    have d22 : l.getD 22 false = true := dep8 (h3 _ rfl) 7 _ rfl rfl
    obtain ⟨x2, e2⟩ := JJ.out.val 2 d2
    obtain ⟨x5, e5⟩ := JJ.out.val 5 d5
    obtain ⟨x8, e8⟩ := JJ.out.val 8 d8
    obtain ⟨x11, e11⟩ := JJ.out.val 11 d11
    obtain ⟨x17, e17⟩ := JJ.out.val 17 d17
    obtain ⟨x20, e20⟩ := JJ.out.val 20 d20
    have e12 : vs 12 = .int .i64 m := JJ.out.val 12 d12
    obtain ⟨A, c, us, e22, hl, ho⟩ := JJ.out.val 22 d22
    have HO := Lib.hid ho
    clear ho
    refine wpOp_step rfl (fun K hK => ?_)
    have HK := Lib.hid hK
    clear hK h3
    simp only [A8]
    go_simp
    exact HK.out _ _ (.inl (i8_step (i := 23) (v := .agg (stc ⟨x2, x5, x8, x11, m, x17, x20, us⟩ A 4 c)) JJ.out (by omega) h2 ⟨_, A, c, rfl, hl, HO.out⟩ (fun _ _ h => h) JJ.out.box (rd_more JJ.out.rd (by omega)) JJ.out.gr (Nat.le_refl _) (by simp [A8, stc, e2, e5, e8, e11, e12, e17, e20, e22])))
  · have hall : Hid (∀ j, j < 25 → (l.setIfInBounds 24 true).getD j false = true) := Lib.hid fun j hj => by
      by_cases ej : j = 24
      · subst ej; exact getD_self (by rw [JJ.out.size]; omega)
      · rw [getD_set ej]
        have hc : j = 0 ∨ j = 1 ∨ j = 2 ∨ j = 3 ∨ j = 4 ∨ j = 5 ∨ j = 6 ∨ j = 7 ∨ j = 8 ∨ j = 9 ∨ j = 10 ∨ j = 11 ∨ j = 12 ∨ j = 13 ∨ j = 14 ∨ j = 15 ∨ j = 16 ∨ j = 17 ∨ j = 18 ∨ j = 19 ∨ j = 20 ∨ j = 21 ∨ j = 22 ∨ j = 23 := by omega
        rcases hc with rfl | rfl | rfl | rfl | rfl | rfl | rfl | rfl | rfl | rfl | rfl | rfl | rfl | rfl | rfl | rfl | rfl | rfl | rfl | rfl | rfl | rfl | rfl | rfl
        · exact dep8 (h3 _ rfl) 2 _ rfl rfl
        · exact dep8 (h3 _ rfl) 3 _ rfl rfl
        · exact dep8 (h3 _ rfl) 4 _ rfl rfl
        · exact dep8 (h3 _ rfl) 5 _ rfl rfl
        · exact dep8 (h3 _ rfl) 6 _ rfl rfl
        · exact dep8 (h3 _ rfl) 7 _ rfl rfl
        · exact dep8 (h3 _ rfl) 8 _ rfl rfl
        · exact dep8 (h3 _ rfl) 9 _ rfl rfl
        · exact dep8 (h3 _ rfl) 10 _ rfl rfl
        · exact dep8 (h3 _ rfl) 11 _ rfl rfl
        · exact dep8 (h3 _ rfl) 12 _ rfl rfl
        · exact dep8 (h3 _ rfl) 13 _ rfl rfl
        · exact dep8 (h3 _ rfl) 14 _ rfl rfl
        · exact dep8 (h3 _ rfl) 15 _ rfl rfl
        · exact dep8 (h3 _ rfl) 16 _ rfl rfl
        · exact dep8 (h3 _ rfl) 17 _ rfl rfl
        · exact dep8 (h3 _ rfl) 18 _ rfl rfl
        · exact dep8 (h3 _ rfl) 19 _ rfl rfl
        · exact dep8 (h3 _ rfl) 20 _ rfl rfl
        · exact dep8 (h3 _ rfl) 21 _ rfl rfl
        · exact dep8 (h3 _ rfl) 22 _ rfl rfl
        · exact dep8 (h3 _ rfl) 23 _ rfl rfl
        · exact dep8 (h3 _ rfl) 1 _ rfl rfl
        · exact dep8 (h3 _ rfl) 0 _ rfl rfl
    obtain ⟨s, A, c, e23, hl, ho⟩ := JJ.out.val 23 (dep8 (h3 _ rfl) 0 _ rfl rfl)
    have HO := Lib.hid ho
    clear ho
    unfold stc at e23
    have zc0 : w'.cell? ⟨w.heap.size, 0, none⟩ = some (.int .i64 0) := blk_cell JJ.out.box 0
    have zf0 : w'.frozen? ⟨w.heap.size, 0, none⟩ = false := blk_free JJ.out.box 0
    have zc1 : w'.cell? ⟨w.heap.size, 1, none⟩ = some (.int .i64 0) := blk_cell JJ.out.box 1
    have zf1 : w'.frozen? ⟨w.heap.size, 1, none⟩ = false := blk_free JJ.out.box 1
    have zc2 : w'.cell? ⟨w.heap.size, 2, none⟩ = some (.int .i64 0) := blk_cell JJ.out.box 2
    have zf2 : w'.frozen? ⟨w.heap.size, 2, none⟩ = false := blk_free JJ.out.box 2
    have zc3 : w'.cell? ⟨w.heap.size, 3, none⟩ = some (.int .i64 0) := blk_cell JJ.out.box 3
    have zf3 : w'.frozen? ⟨w.heap.size, 3, none⟩ = false := blk_free JJ.out.box 3
    have zc4 : w'.cell? ⟨w.heap.size, 4, none⟩ = some (.int .i64 0) := blk_cell JJ.out.box 4
    have zf4 : w'.frozen? ⟨w.heap.size, 4, none⟩ = false := blk_free JJ.out.box 4
    have zc5 : w'.cell? ⟨w.heap.size, 5, none⟩ = some (.int .i64 0) := blk_cell JJ.out.box 5
    have zf5 : w'.frozen? ⟨w.heap.size, 5, none⟩ = false := blk_free JJ.out.box 5
    have zc6 : w'.cell? ⟨w.heap.size, 6, none⟩ = some (.int .i64 0) := blk_cell JJ.out.box 6
    have zf6 : w'.frozen? ⟨w.heap.size, 6, none⟩ = false := blk_free JJ.out.box 6
    have zc7 : w'.cell? ⟨w.heap.size, 7, none⟩ = some (.slice none 0 0) := blk_cell JJ.out.box 7
    have zf7 : w'.frozen? ⟨w.heap.size, 7, none⟩ = false := blk_free JJ.out.box 7
    refine wpOp_step rfl (fun K hK => ?_)
    have HK := Lib.hid hK
    clear hK h3
    simp only [A8]
    go_simp
    refine HK.out _ _ (.inr ⟨ready_all hall.out, ?_⟩)
    clear HK hall
    go_wp2
    refine bodyPost_ret (v := .agg (stc s A 4 c)) (by simp [results, Try.results26, go_sem, stc, zc0, zc1, zc2, zc3, zc4, zc5, zc6, zc7]) rfl ⟨s, A, c, rfl, hl, ?_, ?_, ?_⟩
    · repeat with_reducible refine own_set_far ?_ (by simp) _
      exact HO.out
    · repeat with_reducible refine g_set ?_ (.inr (Nat.le_refl _)) _
      exact JJ.out.gr
    · repeat with_reducible refine rd_set ?_ (by simpa using hg) _
      exact rd_more JJ.out.rd (by omega)
end Go.Proofs.Ytanaeebjcbbagaa
