/-
  The law FnLanesSame returns true at every argument: equality of lanes is reflexive and symmetric, and equal lanes are both valid or neither. Conditions: none.
-/
import Derived.Test.YtkmoiphcpmhacabKb
import Derived.Test.YtkmoiphcpmhacabKy
import Derived.Test.YtkmoiphcpmhacabKvb
import Derived.Test.YtkmoiphcpmhacabKw
import Derived.Test.YtkmoiphcpmhacabMay
import Derived.Test.YtkmoiphcpmhacabLifts
import Derived.Test.YtkmoiphcpmhacabMake
namespace Go.Proofs.Ytkmoiphcpmhacab.fnLanesSame
open Go.ChangeShapes Go.WideShapes Go.ChangeAt Go.RowKit

theorem fm_rd33L {w w1 : World} {L : List Iv} (h : Fm w L w1) (i j : Nat) {a b a2 b2 g g2 : Nat} {t t2 : TypeId} {x y z x2 y2 z2 : Value} (hi : L[i]? = some ⟨a, b, BoxP g t #[x, y, z]⟩) (hj : L[j]? = some ⟨a2, b2, BoxP g2 t2 #[x2, y2, z2]⟩) :
    (w1.cell? ⟨g, 0, none⟩ = some x ∧ w1.cell? ⟨g, 1, none⟩ = some y ∧ w1.cell? ⟨g, 2, none⟩ = some z) ∧ (w1.cell? ⟨g2, 0, none⟩ = some x2 ∧ w1.cell? ⟨g2, 1, none⟩ = some y2 ∧ w1.cell? ⟨g2, 2, none⟩ = some z2) ∧ Fm w L w1 :=
  ⟨⟨blk_cell (fm_blk h i hi) 0, blk_cell (fm_blk h i hi) 1, blk_cell (fm_blk h i hi) 2⟩, ⟨blk_cell (fm_blk h j hj) 0, blk_cell (fm_blk h j hj) 1, blk_cell (fm_blk h j hj) 2⟩, h⟩
set_option maxRecDepth 100000 in
set_option maxHeartbeats 8000000 in
theorem walk (A : Option Addr) (n c : Nat) (w : World) (h : Bytes w A n c) :
    Calls Try.prog 3 #[.slice A n c] w fun e w' => e = .returned (.bool true) ∧ Below w.heap.size w w' := by
  have HB := Lib.hid h
  clear h
  by_cases hbig : ¬ n ≤ 1048576
  · go_enter Try.func3, Try.ntmps3
    go_wp2
    go_ret
    exact ⟨rfl, Below.refl _ _⟩
  have hbig' : n ≤ 1048576 := by omega
  clear hbig
  go_enter Try.func3, Try.ntmps3
  go_wp2_with fail
  refine (drawLanesSame_any A n c _ HB.out).mono ?_
  rintro e w1 ⟨A1, n1, c1, J1, d1, C1, f1, l, A2, n2, c2, J2, d2, C2, f2, l2, rfl, hp, hq, hb⟩
  obtain ⟨hc1, hf1⟩ := bcell hb
  have B1 := Lib.hid (show Below w.heap.size w w1 from (by first | exact below_seq (Below.refl w.heap.size w) hb | exact below_seq1 (Below.refl w.heap.size w) hb | exact below_seq2 (Below.refl w.heap.size w) hb | exact below_seq3 (Below.refl w.heap.size w) hb | exact below_seq4 (Below.refl w.heap.size w) hb))
  have R1 := Lib.hid hb
  have hz1 := hb.size
  try simp at hz1
  clear hb
  have H1 := Lib.hid hp
  have H2 := Lib.hid hq
  clear hp hq
  have F : Hid (Fm w1 [⟨w1.heap.size, w1.heap.size + 1, BoxP w1.heap.size 26 #[.slice A1 n1 c1, .slice J1 4 d1, .slice C1 4 f1]⟩, ⟨w1.heap.size + 1, w1.heap.size + 1 + 1, BoxP (w1.heap.size + 1) 26 #[.slice A2 n2 c2, .slice J2 4 d2, .slice C2 4 f2]⟩] ((w1.alloc (.cells #[.slice A1 n1 c1, .slice J1 4 d1, .slice C1 4 f1] 26)).alloc (.cells #[.slice A2 n2 c2, .slice J2 4 d2, .slice C2 4 f2] 26))) := Lib.hid (by have o := fm_box (fm_box (fm_zero w1) 26 #[.slice A1 n1 c1, .slice J1 4 d1, .slice C1 4 f1]) 26 #[.slice A2 n2 c2, .slice J2 4 d2, .slice C2 4 f2]; simpa using o)
  go_wp2_with fail
  refine (sameLI_any A1 n1 c1 J1 4 d1 C1 4 f1 l A2 n2 c2 J2 4 d2 C2 4 f2 l2 _ (lr_below H1.out F.out.below) (lr_below H2.out F.out.below)).mono ?_
  rintro e w2 ⟨rfl, hb⟩
  have F2 : Hid (Fm w1 [⟨w1.heap.size, w1.heap.size + 1, BoxP w1.heap.size 26 #[.slice A1 n1 c1, .slice J1 4 d1, .slice C1 4 f1]⟩, ⟨w1.heap.size + 1, w1.heap.size + 1 + 1, BoxP (w1.heap.size + 1) 26 #[.slice A2 n2 c2, .slice J2 4 d2, .slice C2 4 f2]⟩] w2) := Lib.hid (fm_below F.out hb)
  clear hb F
  have hS := fm_rd33L (fm_drew F2.out) 0 1 rfl rfl
  rcases hs : lsB l l2 with _ | _
  · have HV1 := Lib.hid hs
    have HV2 := Lib.hid ((ls_comm l2 l).trans hs)
    obtain ⟨v, hv⟩ : ∃ v, v = lvB l2 := ⟨_, rfl⟩
    have HV3 := Lib.hid hv
    clear hs hv
    go_wp2_with fail
    refine wp_region_held_drew (S := (fun w' => (w'.cell? ⟨w1.heap.size, 0, none⟩ = some (.slice A1 n1 c1) ∧ w'.cell? ⟨w1.heap.size, 1, none⟩ = some (.slice J1 4 d1) ∧ w'.cell? ⟨w1.heap.size, 2, none⟩ = some (.slice C1 4 f1)) ∧ (w'.cell? ⟨w1.heap.size + 1, 0, none⟩ = some (.slice A2 n2 c2) ∧ w'.cell? ⟨w1.heap.size + 1, 1, none⟩ = some (.slice J2 4 d2) ∧ w'.cell? ⟨w1.heap.size + 1, 2, none⟩ = some (.slice C2 4 f2)) ∧ Fm w1 [⟨w1.heap.size, w1.heap.size + 1, BoxP w1.heap.size 26 #[.slice A1 n1 c1, .slice J1 4 d1, .slice C1 4 f1]⟩, ⟨w1.heap.size + 1, w1.heap.size + 1 + 1, BoxP (w1.heap.size + 1) 26 #[.slice A2 n2 c2, .slice J2 4 d2, .slice C2 4 f2]⟩] w')) (by kernel_rfl) hS (fun hH => ?_)
    refine wpAnyH_take (i := 0) (oi := { dst := some 17, op := Op.move (Operand.tmp 5), type := 4, pos := "laws.go:1431", after := #[], guard := none }) (v := ?_) rfl (by kernel_rfl) (by kernel_rfl) (by kernel_rfl) (fun _ _ _ h => h) (Or.inl ⟨by rfl, ?_⟩) hS ?_
    rotate_left
    · (intro w9 hSw; (try dsimp only at hSw); go_simp; try with_reducible rfl)
    try simp only [Act.put, List.setIfInBounds_toArray, List.set_cons_zero, List.set_cons_succ]
    refine wpAnyH_take (i := 1) (oi := { dst := some 18, op := Op.load 26 (Operand.tmp 3), type := 26, pos := "laws.go:1431", after := #[], guard := none }) (v := ?_) rfl (by kernel_rfl) (by kernel_rfl) (by kernel_rfl) (fun _ _ _ h => h) (Or.inl ⟨by rfl, ?_⟩) hS ?_
    rotate_left
    · (intro w9 hSw; (try dsimp only at hSw); go_simp; try with_reducible rfl)
    try simp only [Act.put, List.setIfInBounds_toArray, List.set_cons_zero, List.set_cons_succ]
    refine wpAnyH_take (i := 2) (oi := { dst := some 19, op := Op.load 26 (Operand.tmp 4), type := 26, pos := "laws.go:1431", after := #[], guard := none }) (v := ?_) rfl (by kernel_rfl) (by kernel_rfl) (by kernel_rfl) (fun _ _ _ h => h) (Or.inl ⟨by rfl, ?_⟩) hS ?_
    rotate_left
    · (intro w9 hSw; (try dsimp only at hSw); go_simp; try with_reducible rfl)
    try simp only [Act.put, List.setIfInBounds_toArray, List.set_cons_zero, List.set_cons_succ]
    refine wpAnyH_ready (rs := [3]) (by kernel_rfl) (by simp) ?_
    refine AllReadyH.cons (o := { dst := some 20, op := Op.call { callee := Callee.value (Operand.func 17), args := #[Operand.tmp 18, Operand.tmp 19], argTypes := #[26, 26] }, type := 4, pos := "laws.go:1431", after := #[{ on := 1, ground := Ground.data }, { on := 2, ground := Ground.data }], guard := none }) rfl (fun K hK => ?_) AllReadyH.nil
    go_simp
    go_at_call 17
    refine (sameLS_any A1 n1 c1 J1 4 d1 C1 4 f1 l A2 n2 c2 J2 4 d2 C2 4 f2 l2 _ (lr_below H1.out (fm_drew F2.out).below) (lr_below H2.out (fm_drew F2.out).below)).mono ?_
    rintro e w3 ⟨rfl, hb3⟩
    rw [HV1.out]
    have F3 : Hid (Fm w1 [⟨w1.heap.size, w1.heap.size + 1, BoxP w1.heap.size 26 #[.slice A1 n1 c1, .slice J1 4 d1, .slice C1 4 f1]⟩, ⟨w1.heap.size + 1, w1.heap.size + 1 + 1, BoxP (w1.heap.size + 1) 26 #[.slice A2 n2 c2, .slice J2 4 d2, .slice C2 4 f2]⟩] w3) := Lib.hid (fm_below (fm_drew F2.out) hb3)
    have hS3 := fm_rd33L F3.out 0 1 rfl rfl
    clear hb3
    refine hK.out _ _ hS3 (fun hH => ?_)
    clear hK K
    try simp only [Act.put, List.setIfInBounds_toArray, List.set_cons_zero, List.set_cons_succ]
    refine wpAnyH_take (i := 4) (oi := { dst := some 21, op := Op.binOp BinOp.eql 4 (Operand.tmp 17) (Operand.tmp 20) 4, type := 4, pos := "laws.go:1431", after := #[{ on := 0, ground := Ground.data }, { on := 3, ground := Ground.data }], guard := none }) (v := ?_) rfl (by kernel_rfl) (by kernel_rfl) (by kernel_rfl) (fun _ _ _ h => h) (Or.inl ⟨by rfl, ?_⟩) hS3 ?_
    rotate_left
    · (intro w9 hSw; (try dsimp only at hSw); go_simp; try with_reducible rfl)
    try simp only [Act.put, List.setIfInBounds_toArray, List.set_cons_zero, List.set_cons_succ]
    refine wpAnyH_take (i := 5) (oi := { dst := some 22, op := Op.move (Operand.tmp 21), type := 4, pos := "laws.go:1431", after := #[{ on := 4, ground := Ground.data }, { on := 3, ground := Ground.chain }], guard := none }) (v := ?_) rfl (by kernel_rfl) (by kernel_rfl) (by kernel_rfl) (fun _ _ _ h => h) (Or.inl ⟨by rfl, ?_⟩) hS3 ?_
    rotate_left
    · (intro w9 hSw; (try dsimp only at hSw); go_simp; try with_reducible rfl)
    try simp only [Act.put, List.setIfInBounds_toArray, List.set_cons_zero, List.set_cons_succ]
    refine wpAnyH_take (i := 6) (oi := { dst := some 23, op := Op.move (Operand.tmp 5), type := 4, pos := "laws.go:1431", after := #[{ on := 5, ground := Ground.guard }], guard := some (5, true) }) (v := ?_) rfl (by kernel_rfl) (by kernel_rfl) (by kernel_rfl) (fun _ _ _ h => h) (Or.inl ⟨by rfl, ?_⟩) hS3 ?_
    rotate_left
    · (intro w9 hSw; (try dsimp only at hSw); go_simp; try with_reducible rfl)
    try simp only [Act.put, List.setIfInBounds_toArray, List.set_cons_zero, List.set_cons_succ]
    refine wpAnyH_take (i := 7) (oi := { dst := some 24, op := Op.load 26 (Operand.tmp 4), type := 26, pos := "laws.go:1431", after := #[{ on := 5, ground := Ground.guard }], guard := some (5, true) }) (v := ?_) rfl (by kernel_rfl) (by kernel_rfl) (by kernel_rfl) (fun _ _ _ h => h) (Or.inl ⟨by rfl, ?_⟩) hS3 ?_
    rotate_left
    · (intro w9 hSw; (try dsimp only at hSw); go_simp; try with_reducible rfl)
    try simp only [Act.put, List.setIfInBounds_toArray, List.set_cons_zero, List.set_cons_succ]
    refine wpAnyH_take (i := 8) (oi := { dst := some 25, op := Op.load 26 (Operand.tmp 3), type := 26, pos := "laws.go:1431", after := #[{ on := 5, ground := Ground.guard }], guard := some (5, true) }) (v := ?_) rfl (by kernel_rfl) (by kernel_rfl) (by kernel_rfl) (fun _ _ _ h => h) (Or.inl ⟨by rfl, ?_⟩) hS3 ?_
    rotate_left
    · (intro w9 hSw; (try dsimp only at hSw); go_simp; try with_reducible rfl)
    try simp only [Act.put, List.setIfInBounds_toArray, List.set_cons_zero, List.set_cons_succ]
    refine wpAnyH_ready (rs := [9]) (by kernel_rfl) (by simp) ?_
    refine AllReadyH.cons (o := { dst := some 26, op := Op.call { callee := Callee.value (Operand.func 16), args := #[Operand.tmp 24, Operand.tmp 25], argTypes := #[26, 26] }, type := 4, pos := "laws.go:1431", after := #[{ on := 7, ground := Ground.data }, { on := 8, ground := Ground.data }, { on := 5, ground := Ground.chain }, { on := 5, ground := Ground.guard }], guard := some (5, true) }) rfl (fun K hK => ?_) AllReadyH.nil
    go_simp
    go_at_call 16
    refine (sameLI_any A2 n2 c2 J2 4 d2 C2 4 f2 l2 A1 n1 c1 J1 4 d1 C1 4 f1 l _ (lr_below H2.out F3.out.below) (lr_below H1.out F3.out.below)).mono ?_
    rintro e w4 ⟨rfl, hb4⟩
    rw [HV2.out]
    have F4 : Hid (Fm w1 [⟨w1.heap.size, w1.heap.size + 1, BoxP w1.heap.size 26 #[.slice A1 n1 c1, .slice J1 4 d1, .slice C1 4 f1]⟩, ⟨w1.heap.size + 1, w1.heap.size + 1 + 1, BoxP (w1.heap.size + 1) 26 #[.slice A2 n2 c2, .slice J2 4 d2, .slice C2 4 f2]⟩] w4) := Lib.hid (fm_below F3.out hb4)
    have hS4 := fm_rd33L F4.out 0 1 rfl rfl
    clear hb4
    refine hK.out _ _ hS4 (fun hH => ?_)
    clear hK K
    try simp only [Act.put, List.setIfInBounds_toArray, List.set_cons_zero, List.set_cons_succ]
    refine wpAnyH_take (i := 10) (oi := { dst := some 27, op := Op.binOp BinOp.eql 4 (Operand.tmp 23) (Operand.tmp 26) 4, type := 4, pos := "laws.go:1431", after := #[{ on := 6, ground := Ground.data }, { on := 9, ground := Ground.data }, { on := 5, ground := Ground.guard }], guard := some (5, true) }) (v := ?_) rfl (by kernel_rfl) (by kernel_rfl) (by kernel_rfl) (fun _ _ _ h => h) (Or.inl ⟨by rfl, ?_⟩) hS4 ?_
    rotate_left
    · (intro w9 hSw; (try dsimp only at hSw); go_simp; try with_reducible rfl)
    try simp only [Act.put, List.setIfInBounds_toArray, List.set_cons_zero, List.set_cons_succ]
    refine wpAnyH_take (i := 11) (oi := { dst := some 28, op := Op.pick (Operand.tmp 22) (Operand.tmp 27) (Operand.const (Value.bool false)), type := 4, pos := "laws.go:1431", after := #[{ on := 5, ground := Ground.data }, { on := 10, ground := Ground.data }], guard := none }) (v := ?_) rfl (by kernel_rfl) (by kernel_rfl) (by kernel_rfl) (fun _ _ _ h => h) (Or.inl ⟨by rfl, ?_⟩) hS4 ?_
    rotate_left
    · (intro w9 hSw; (try dsimp only at hSw); go_simp; try with_reducible rfl)
    try simp only [Act.put, List.setIfInBounds_toArray, List.set_cons_zero, List.set_cons_succ]
    refine wpAnyH_take (i := 12) (oi := { dst := some 29, op := Op.move (Operand.tmp 28), type := 4, pos := "laws.go:1431", after := #[{ on := 11, ground := Ground.data }, { on := 9, ground := Ground.chain }], guard := none }) (v := ?_) rfl (by kernel_rfl) (by kernel_rfl) (by kernel_rfl) (fun _ _ _ h => h) (Or.inl ⟨by rfl, ?_⟩) hS4 ?_
    rotate_left
    · (intro w9 hSw; (try dsimp only at hSw); go_simp; try with_reducible rfl)
    try simp only [Act.put, List.setIfInBounds_toArray, List.set_cons_zero, List.set_cons_succ]
    refine wpAnyH_take (i := 13) (oi := { dst := some 30, op := Op.load 26 (Operand.tmp 3), type := 26, pos := "laws.go:1431", after := #[{ on := 12, ground := Ground.guard }], guard := some (12, true) }) (v := ?_) rfl (by kernel_rfl) (by kernel_rfl) (by kernel_rfl) (fun _ _ _ h => h) (Or.inl ⟨by rfl, ?_⟩) hS4 ?_
    rotate_left
    · (intro w9 hSw; (try dsimp only at hSw); go_simp; try with_reducible rfl)
    try simp only [Act.put, List.setIfInBounds_toArray, List.set_cons_zero, List.set_cons_succ]
    refine wpAnyH_take (i := 14) (oi := { dst := some 31, op := Op.load 26 (Operand.tmp 3), type := 26, pos := "laws.go:1431", after := #[{ on := 12, ground := Ground.guard }], guard := some (12, true) }) (v := ?_) rfl (by kernel_rfl) (by kernel_rfl) (by kernel_rfl) (fun _ _ _ h => h) (Or.inl ⟨by rfl, ?_⟩) hS4 ?_
    rotate_left
    · (intro w9 hSw; (try dsimp only at hSw); go_simp; try with_reducible rfl)
    try simp only [Act.put, List.setIfInBounds_toArray, List.set_cons_zero, List.set_cons_succ]
    refine wpAnyH_ready (rs := [15]) (by kernel_rfl) (by simp) ?_
    refine AllReadyH.cons (o := { dst := some 32, op := Op.call { callee := Callee.value (Operand.func 16), args := #[Operand.tmp 30, Operand.tmp 31], argTypes := #[26, 26] }, type := 4, pos := "laws.go:1431", after := #[{ on := 13, ground := Ground.data }, { on := 14, ground := Ground.data }, { on := 12, ground := Ground.chain }, { on := 12, ground := Ground.guard }], guard := some (12, true) }) rfl (fun K hK => ?_) AllReadyH.nil
    go_simp
    go_at_call 16
    refine (sameLI_any A1 n1 c1 J1 4 d1 C1 4 f1 l A1 n1 c1 J1 4 d1 C1 4 f1 l _ (lr_below H1.out F4.out.below) (lr_below H1.out F4.out.below)).mono ?_
    rintro e w5 ⟨rfl, hb5⟩
    rw [ls_refl]
    have F5 : Hid (Fm w1 [⟨w1.heap.size, w1.heap.size + 1, BoxP w1.heap.size 26 #[.slice A1 n1 c1, .slice J1 4 d1, .slice C1 4 f1]⟩, ⟨w1.heap.size + 1, w1.heap.size + 1 + 1, BoxP (w1.heap.size + 1) 26 #[.slice A2 n2 c2, .slice J2 4 d2, .slice C2 4 f2]⟩] w5) := Lib.hid (fm_below F4.out hb5)
    have hS5 := fm_rd33L F5.out 0 1 rfl rfl
    clear hb5
    refine hK.out _ _ hS5 (fun hH => ?_)
    clear hK K
    try simp only [Act.put, List.setIfInBounds_toArray, List.set_cons_zero, List.set_cons_succ]
    refine wpAnyH_take (i := 16) (oi := { dst := some 33, op := Op.pick (Operand.tmp 29) (Operand.tmp 32) (Operand.const (Value.bool false)), type := 4, pos := "laws.go:1431", after := #[{ on := 12, ground := Ground.data }, { on := 15, ground := Ground.data }], guard := none }) (v := ?_) rfl (by kernel_rfl) (by kernel_rfl) (by kernel_rfl) (fun _ _ _ h => h) (Or.inl ⟨by rfl, ?_⟩) hS5 ?_
    rotate_left
    · (intro w9 hSw; (try dsimp only at hSw); go_simp; try with_reducible rfl)
    try simp only [Act.put, List.setIfInBounds_toArray, List.set_cons_zero, List.set_cons_succ]
    refine wpAnyH_take (i := 17) (oi := { dst := some 34, op := Op.move (Operand.tmp 33), type := 4, pos := "laws.go:1431", after := #[{ on := 16, ground := Ground.data }, { on := 15, ground := Ground.chain }], guard := none }) (v := ?_) rfl (by kernel_rfl) (by kernel_rfl) (by kernel_rfl) (fun _ _ _ h => h) (Or.inl ⟨by rfl, ?_⟩) hS5 ?_
    rotate_left
    · (intro w9 hSw; (try dsimp only at hSw); go_simp; try with_reducible rfl)
    try simp only [Act.put, List.setIfInBounds_toArray, List.set_cons_zero, List.set_cons_succ]
    refine wpAnyH_take (i := 18) (oi := { dst := some 35, op := Op.move (Operand.tmp 5), type := 4, pos := "laws.go:1431", after := #[{ on := 17, ground := Ground.guard }], guard := some (17, true) }) (v := ?_) rfl (by kernel_rfl) (by kernel_rfl) (by kernel_rfl) (fun _ _ _ h => h) (Or.inl ⟨by rfl, ?_⟩) hS5 ?_
    rotate_left
    · (intro w9 hSw; (try dsimp only at hSw); go_simp; try with_reducible rfl)
    try simp only [Act.put, List.setIfInBounds_toArray, List.set_cons_zero, List.set_cons_succ]
    refine wpAnyH_take (i := 19) (oi := { dst := some 36, op := Op.unOp UnOp.not 4 (Operand.tmp 35), type := 4, pos := "laws.go:1431", after := #[{ on := 18, ground := Ground.data }, { on := 17, ground := Ground.guard }], guard := some (17, true) }) (v := ?_) rfl (by kernel_rfl) (by kernel_rfl) (by kernel_rfl) (fun _ _ _ h => h) (Or.inl ⟨by rfl, ?_⟩) hS5 ?_
    rotate_left
    · (intro w9 hSw; (try dsimp only at hSw); go_simp; try with_reducible rfl)
    try simp only [Act.put, List.setIfInBounds_toArray, List.set_cons_zero, List.set_cons_succ]
    refine wpAnyH_take (i := 20) (oi := { dst := some 37, op := Op.move (Operand.tmp 36), type := 4, pos := "laws.go:1431", after := #[{ on := 19, ground := Ground.data }, { on := 17, ground := Ground.chain }, { on := 17, ground := Ground.guard }], guard := some (17, true) }) (v := ?_) rfl (by kernel_rfl) (by kernel_rfl) (by kernel_rfl) (fun _ _ _ h => h) (Or.inl ⟨by rfl, ?_⟩) hS5 ?_
    rotate_left
    · (intro w9 hSw; (try dsimp only at hSw); go_simp; try with_reducible rfl)
    try simp only [Act.put, List.setIfInBounds_toArray, List.set_cons_zero, List.set_cons_succ]
    refine wpAnyH_take (i := 21) (oi := { dst := some 38, op := Op.load 26 (Operand.tmp 3), type := 26, pos := "laws.go:1431", after := #[{ on := 20, ground := Ground.guard }], guard := some (20, false) }) (v := undef) rfl (by kernel_rfl) (by kernel_rfl) (by kernel_rfl) (fun _ _ _ h => h) (Or.inr ⟨by rfl, rfl⟩) hS5 ?_
    try simp only [Act.put, List.setIfInBounds_toArray, List.set_cons_zero, List.set_cons_succ]
    refine wpAnyH_take (i := 22) (oi := { dst := some 39, op := Op.call { callee := Callee.value (Operand.func 18), args := #[Operand.tmp 38], argTypes := #[26] }, type := 4, pos := "laws.go:1431", after := #[{ on := 21, ground := Ground.data }, { on := 20, ground := Ground.chain }, { on := 20, ground := Ground.guard }], guard := some (20, false) }) (v := undef) rfl (by kernel_rfl) (by kernel_rfl) (by kernel_rfl) (fun _ _ _ h => h) (Or.inr ⟨by rfl, rfl⟩) hS5 ?_
    try simp only [Act.put, List.setIfInBounds_toArray, List.set_cons_zero, List.set_cons_succ]
    refine wpAnyH_take (i := 23) (oi := { dst := some 40, op := Op.load 26 (Operand.tmp 4), type := 26, pos := "laws.go:1431", after := #[{ on := 20, ground := Ground.guard }], guard := some (20, false) }) (v := undef) rfl (by kernel_rfl) (by kernel_rfl) (by kernel_rfl) (fun _ _ _ h => h) (Or.inr ⟨by rfl, rfl⟩) hS5 ?_
    try simp only [Act.put, List.setIfInBounds_toArray, List.set_cons_zero, List.set_cons_succ]
    refine wpAnyH_take (i := 24) (oi := { dst := some 41, op := Op.call { callee := Callee.value (Operand.func 18), args := #[Operand.tmp 40], argTypes := #[26] }, type := 4, pos := "laws.go:1431", after := #[{ on := 23, ground := Ground.data }, { on := 22, ground := Ground.chain }, { on := 20, ground := Ground.guard }], guard := some (20, false) }) (v := undef) rfl (by kernel_rfl) (by kernel_rfl) (by kernel_rfl) (fun _ _ _ h => h) (Or.inr ⟨by rfl, rfl⟩) hS5 ?_
    try simp only [Act.put, List.setIfInBounds_toArray, List.set_cons_zero, List.set_cons_succ]
    refine wpAnyH_take (i := 25) (oi := { dst := some 42, op := Op.binOp BinOp.eql 4 (Operand.tmp 39) (Operand.tmp 41) 4, type := 4, pos := "laws.go:1431", after := #[{ on := 22, ground := Ground.data }, { on := 24, ground := Ground.data }, { on := 20, ground := Ground.guard }], guard := some (20, false) }) (v := undef) rfl (by kernel_rfl) (by kernel_rfl) (by kernel_rfl) (fun _ _ _ h => h) (Or.inr ⟨by rfl, rfl⟩) hS5 ?_
    try simp only [Act.put, List.setIfInBounds_toArray, List.set_cons_zero, List.set_cons_succ]
    refine wpAnyH_take (i := 26) (oi := { dst := some 43, op := Op.pick (Operand.tmp 37) (Operand.const (Value.bool true)) (Operand.tmp 42), type := 4, pos := "laws.go:1431", after := #[{ on := 20, ground := Ground.data }, { on := 25, ground := Ground.data }, { on := 17, ground := Ground.guard }], guard := some (17, true) }) (v := ?_) rfl (by kernel_rfl) (by kernel_rfl) (by kernel_rfl) (fun _ _ _ h => h) (Or.inl ⟨by rfl, ?_⟩) hS5 ?_
    rotate_left
    · (intro w9 hSw; (try dsimp only at hSw); go_simp; try with_reducible rfl)
    try simp only [Act.put, List.setIfInBounds_toArray, List.set_cons_zero, List.set_cons_succ]
    refine wpAnyH_take (i := 27) (oi := { dst := some 44, op := Op.pick (Operand.tmp 34) (Operand.tmp 43) (Operand.const (Value.bool false)), type := 4, pos := "laws.go:1431", after := #[{ on := 17, ground := Ground.data }, { on := 26, ground := Ground.data }], guard := none }) (v := ?_) rfl (by kernel_rfl) (by kernel_rfl) (by kernel_rfl) (fun _ _ _ h => h) (Or.inl ⟨by rfl, ?_⟩) hS5 ?_
    rotate_left
    · (intro w9 hSw; (try dsimp only at hSw); go_simp; try with_reducible rfl)
    try simp only [Act.put, List.setIfInBounds_toArray, List.set_cons_zero, List.set_cons_succ]
    refine wpAnyH_take (i := 28) (oi := { dst := some 45, op := Op.move (Operand.tmp 44), type := 4, pos := "laws.go:1431", after := #[{ on := 27, ground := Ground.data }, { on := 24, ground := Ground.chain }], guard := none }) (v := ?_) rfl (by kernel_rfl) (by kernel_rfl) (by kernel_rfl) (fun _ _ _ h => h) (Or.inl ⟨by rfl, ?_⟩) hS5 ?_
    rotate_left
    · (intro w9 hSw; (try dsimp only at hSw); go_simp; try with_reducible rfl)
    try simp only [Act.put, List.setIfInBounds_toArray, List.set_cons_zero, List.set_cons_succ]
    refine wpAnyH_take (i := 29) (oi := { dst := some 46, op := Op.load 26 (Operand.tmp 4), type := 26, pos := "laws.go:1431", after := #[{ on := 28, ground := Ground.guard }], guard := some (28, true) }) (v := ?_) rfl (by kernel_rfl) (by kernel_rfl) (by kernel_rfl) (fun _ _ _ h => h) (Or.inl ⟨by rfl, ?_⟩) hS5 ?_
    rotate_left
    · (intro w9 hSw; (try dsimp only at hSw); go_simp; try with_reducible rfl)
    try simp only [Act.put, List.setIfInBounds_toArray, List.set_cons_zero, List.set_cons_succ]
    refine wpAnyH_take (i := 31) (oi := { dst := some 48, op := Op.load 26 (Operand.tmp 4), type := 26, pos := "laws.go:1431", after := #[{ on := 28, ground := Ground.guard }], guard := some (28, true) }) (v := ?_) rfl (by kernel_rfl) (by kernel_rfl) (by kernel_rfl) (fun _ _ _ h => h) (Or.inl ⟨by rfl, ?_⟩) hS5 ?_
    rotate_left
    · (intro w9 hSw; (try dsimp only at hSw); go_simp; try with_reducible rfl)
    try simp only [Act.put, List.setIfInBounds_toArray, List.set_cons_zero, List.set_cons_succ]
    refine wpAnyH_ready (rs := [30]) (by kernel_rfl) (by simp) ?_
    refine AllReadyH.cons (o := { dst := some 47, op := Op.call { callee := Callee.value (Operand.func 18), args := #[Operand.tmp 46], argTypes := #[26] }, type := 4, pos := "laws.go:1431", after := #[{ on := 29, ground := Ground.data }, { on := 28, ground := Ground.chain }, { on := 28, ground := Ground.guard }], guard := some (28, true) }) rfl (fun K hK => ?_) AllReadyH.nil
    go_simp
    go_at_call 18
    refine (lanI_any A2 n2 c2 J2 4 d2 C2 4 f2 l2 _ (lr_below H2.out F5.out.below)).mono ?_
    rintro e w6 ⟨rfl, hb6⟩
    rw [← HV3.out]
    have F6 : Hid (Fm w1 [⟨w1.heap.size, w1.heap.size + 1, BoxP w1.heap.size 26 #[.slice A1 n1 c1, .slice J1 4 d1, .slice C1 4 f1]⟩, ⟨w1.heap.size + 1, w1.heap.size + 1 + 1, BoxP (w1.heap.size + 1) 26 #[.slice A2 n2 c2, .slice J2 4 d2, .slice C2 4 f2]⟩] w6) := Lib.hid (fm_below F5.out hb6)
    have hS6 := fm_rd33L F6.out 0 1 rfl rfl
    clear hb6
    refine hK.out _ _ hS6 (fun hH => ?_)
    clear hK K
    try simp only [Act.put, List.setIfInBounds_toArray, List.set_cons_zero, List.set_cons_succ]
    refine wpAnyH_ready (rs := [32]) (by kernel_rfl) (by simp) ?_
    refine AllReadyH.cons (o := { dst := some 49, op := Op.call { callee := Callee.value (Operand.func 19), args := #[Operand.tmp 48], argTypes := #[26] }, type := 4, pos := "laws.go:1431", after := #[{ on := 31, ground := Ground.data }, { on := 30, ground := Ground.chain }, { on := 28, ground := Ground.guard }], guard := some (28, true) }) rfl (fun K hK => ?_) AllReadyH.nil
    go_simp
    go_at_call 19
    refine (lanS_any A2 n2 c2 J2 4 d2 C2 4 f2 l2 _ (lr_below H2.out F6.out.below)).mono ?_
    rintro e w7 ⟨rfl, hb7⟩
    rw [← HV3.out]
    have F7 : Hid (Fm w1 [⟨w1.heap.size, w1.heap.size + 1, BoxP w1.heap.size 26 #[.slice A1 n1 c1, .slice J1 4 d1, .slice C1 4 f1]⟩, ⟨w1.heap.size + 1, w1.heap.size + 1 + 1, BoxP (w1.heap.size + 1) 26 #[.slice A2 n2 c2, .slice J2 4 d2, .slice C2 4 f2]⟩] w7) := Lib.hid (fm_below F6.out hb7)
    have hS7 := fm_rd33L F7.out 0 1 rfl rfl
    clear hb7
    refine hK.out _ _ hS7 (fun hH => ?_)
    clear hK K
    try simp only [Act.put, List.setIfInBounds_toArray, List.set_cons_zero, List.set_cons_succ]
    refine wpAnyH_take (i := 33) (oi := { dst := some 50, op := Op.binOp BinOp.eql 4 (Operand.tmp 47) (Operand.tmp 49) 4, type := 4, pos := "laws.go:1431", after := #[{ on := 30, ground := Ground.data }, { on := 32, ground := Ground.data }, { on := 28, ground := Ground.guard }], guard := some (28, true) }) (v := ?_) rfl (by kernel_rfl) (by kernel_rfl) (by kernel_rfl) (fun _ _ _ h => h) (Or.inl ⟨by rfl, ?_⟩) hS7 ?_
    rotate_left
    · (intro w9 hSw; (try dsimp only at hSw); go_simp; try with_reducible rfl)
    try simp only [Act.put, List.setIfInBounds_toArray, List.set_cons_zero, List.set_cons_succ]
    refine wpAnyH_take (i := 34) (oi := { dst := some 51, op := Op.pick (Operand.tmp 45) (Operand.tmp 50) (Operand.const (Value.bool false)), type := 4, pos := "laws.go:1431", after := #[{ on := 28, ground := Ground.data }, { on := 33, ground := Ground.data }], guard := none }) (v := ?_) rfl (by kernel_rfl) (by kernel_rfl) (by kernel_rfl) (fun _ _ _ h => h) (Or.inl ⟨by rfl, ?_⟩) hS7 ?_
    rotate_left
    · (intro w9 hSw; (try dsimp only at hSw); go_simp; try with_reducible rfl)
    try simp only [Act.put, List.setIfInBounds_toArray, List.set_cons_zero, List.set_cons_succ]
    refine wpAnyH_take (i := 35) (oi := { dst := some 2, op := Op.assign (Operand.tmp 51), type := 4, pos := "laws.go:1431", after := #[{ on := 34, ground := Ground.data }, { on := 32, ground := Ground.chain }, { on := 0, ground := Ground.phase }, { on := 1, ground := Ground.phase }, { on := 2, ground := Ground.phase }, { on := 3, ground := Ground.phase }, { on := 4, ground := Ground.phase }, { on := 5, ground := Ground.phase }, { on := 6, ground := Ground.phase }, { on := 7, ground := Ground.phase }, { on := 8, ground := Ground.phase }, { on := 9, ground := Ground.phase }, { on := 10, ground := Ground.phase }, { on := 11, ground := Ground.phase }, { on := 12, ground := Ground.phase }, { on := 13, ground := Ground.phase }, { on := 14, ground := Ground.phase }, { on := 15, ground := Ground.phase }, { on := 16, ground := Ground.phase }, { on := 17, ground := Ground.phase }, { on := 18, ground := Ground.phase }, { on := 19, ground := Ground.phase }, { on := 20, ground := Ground.phase }, { on := 21, ground := Ground.phase }, { on := 22, ground := Ground.phase }, { on := 23, ground := Ground.phase }, { on := 24, ground := Ground.phase }, { on := 25, ground := Ground.phase }, { on := 26, ground := Ground.phase }, { on := 27, ground := Ground.phase }, { on := 28, ground := Ground.phase }, { on := 29, ground := Ground.phase }, { on := 30, ground := Ground.phase }, { on := 31, ground := Ground.phase }, { on := 32, ground := Ground.phase }, { on := 33, ground := Ground.phase }, { on := 34, ground := Ground.phase }], guard := none }) (v := ?_) rfl (by kernel_rfl) (by kernel_rfl) (by kernel_rfl) (fun _ _ _ h => h) (Or.inl ⟨by rfl, ?_⟩) hS7 ?_
    rotate_left
    · (intro w9 hSw; (try dsimp only at hSw); go_simp; try with_reducible rfl)
    try simp only [Act.put, List.setIfInBounds_toArray, List.set_cons_zero, List.set_cons_succ]
    refine wpAnyH_done (by kernel_rfl) ?_ _
    go_wp2
    go_ret
    exact ⟨ret_bool (by simp), below_seq B1.out F7.out.below⟩
  · obtain rfl := ls_iff.1 hs
    obtain ⟨v, hv⟩ : ∃ v, v = lvB l := ⟨_, rfl⟩
    have HV3 := Lib.hid hv
    clear hs hv
    go_wp2_with fail
    go_region_held3 (fun w' => (w'.cell? ⟨w1.heap.size, 0, none⟩ = some (.slice A1 n1 c1) ∧ w'.cell? ⟨w1.heap.size, 1, none⟩ = some (.slice J1 4 d1) ∧ w'.cell? ⟨w1.heap.size, 2, none⟩ = some (.slice C1 4 f1)) ∧ (w'.cell? ⟨w1.heap.size + 1, 0, none⟩ = some (.slice A2 n2 c2) ∧ w'.cell? ⟨w1.heap.size + 1, 1, none⟩ = some (.slice J2 4 d2) ∧ w'.cell? ⟨w1.heap.size + 1, 2, none⟩ = some (.slice C2 4 f2)) ∧ Fm w1 [⟨w1.heap.size, w1.heap.size + 1, BoxP w1.heap.size 26 #[.slice A1 n1 c1, .slice J1 4 d1, .slice C1 4 f1]⟩, ⟨w1.heap.size + 1, w1.heap.size + 1 + 1, BoxP (w1.heap.size + 1) 26 #[.slice A2 n2 c2, .slice J2 4 d2, .slice C2 4 f2]⟩] w')
      (first
        | (with_reducible assumption)
        | fail)
      (first
        | (go_at_call 19
           refine (lanS_any A2 n2 c2 J2 4 d2 C2 4 f2 l _ (lr_below H2.out F8.out.below)).mono ?_
           rintro e w9 ⟨rfl, hb9⟩
           rw [← HV3.out]
           have F9 : Hid (Fm w1 [⟨w1.heap.size, w1.heap.size + 1, BoxP w1.heap.size 26 #[.slice A1 n1 c1, .slice J1 4 d1, .slice C1 4 f1]⟩, ⟨w1.heap.size + 1, w1.heap.size + 1 + 1, BoxP (w1.heap.size + 1) 26 #[.slice A2 n2 c2, .slice J2 4 d2, .slice C2 4 f2]⟩] w9) := Lib.hid (fm_below F8.out hb9)
           have hS9 := fm_rd33L F9.out 0 1 rfl rfl
           clear hb9)
        | (go_at_call 18
           refine (lanI_any A2 n2 c2 J2 4 d2 C2 4 f2 l _ (lr_below H2.out F7.out.below)).mono ?_
           rintro e w8 ⟨rfl, hb8⟩
           rw [← HV3.out]
           have F8 : Hid (Fm w1 [⟨w1.heap.size, w1.heap.size + 1, BoxP w1.heap.size 26 #[.slice A1 n1 c1, .slice J1 4 d1, .slice C1 4 f1]⟩, ⟨w1.heap.size + 1, w1.heap.size + 1 + 1, BoxP (w1.heap.size + 1) 26 #[.slice A2 n2 c2, .slice J2 4 d2, .slice C2 4 f2]⟩] w8) := Lib.hid (fm_below F7.out hb8)
           have hS8 := fm_rd33L F8.out 0 1 rfl rfl
           clear hb8)
        | (go_at_call 18
           refine (lanI_any A2 n2 c2 J2 4 d2 C2 4 f2 l _ (lr_below H2.out F6.out.below)).mono ?_
           rintro e w7 ⟨rfl, hb7⟩
           rw [← HV3.out]
           have F7 : Hid (Fm w1 [⟨w1.heap.size, w1.heap.size + 1, BoxP w1.heap.size 26 #[.slice A1 n1 c1, .slice J1 4 d1, .slice C1 4 f1]⟩, ⟨w1.heap.size + 1, w1.heap.size + 1 + 1, BoxP (w1.heap.size + 1) 26 #[.slice A2 n2 c2, .slice J2 4 d2, .slice C2 4 f2]⟩] w7) := Lib.hid (fm_below F6.out hb7)
           have hS7 := fm_rd33L F7.out 0 1 rfl rfl
           clear hb7)
        | (go_at_call 18
           refine (lanI_any A1 n1 c1 J1 4 d1 C1 4 f1 l _ (lr_below H1.out F5.out.below)).mono ?_
           rintro e w6 ⟨rfl, hb6⟩
           rw [← HV3.out]
           have F6 : Hid (Fm w1 [⟨w1.heap.size, w1.heap.size + 1, BoxP w1.heap.size 26 #[.slice A1 n1 c1, .slice J1 4 d1, .slice C1 4 f1]⟩, ⟨w1.heap.size + 1, w1.heap.size + 1 + 1, BoxP (w1.heap.size + 1) 26 #[.slice A2 n2 c2, .slice J2 4 d2, .slice C2 4 f2]⟩] w6) := Lib.hid (fm_below F5.out hb6)
           have hS6 := fm_rd33L F6.out 0 1 rfl rfl
           clear hb6)
        | (go_at_call 16
           refine (sameLI_any A1 n1 c1 J1 4 d1 C1 4 f1 l A1 n1 c1 J1 4 d1 C1 4 f1 l _ (lr_below H1.out F4.out.below) (lr_below H1.out F4.out.below)).mono ?_
           rintro e w5 ⟨rfl, hb5⟩
           rw [ls_refl]
           have F5 : Hid (Fm w1 [⟨w1.heap.size, w1.heap.size + 1, BoxP w1.heap.size 26 #[.slice A1 n1 c1, .slice J1 4 d1, .slice C1 4 f1]⟩, ⟨w1.heap.size + 1, w1.heap.size + 1 + 1, BoxP (w1.heap.size + 1) 26 #[.slice A2 n2 c2, .slice J2 4 d2, .slice C2 4 f2]⟩] w5) := Lib.hid (fm_below F4.out hb5)
           have hS5 := fm_rd33L F5.out 0 1 rfl rfl
           clear hb5)
        | (go_at_call 16
           refine (sameLI_any A2 n2 c2 J2 4 d2 C2 4 f2 l A1 n1 c1 J1 4 d1 C1 4 f1 l _ (lr_below H2.out F3.out.below) (lr_below H1.out F3.out.below)).mono ?_
           rintro e w4 ⟨rfl, hb4⟩
           rw [ls_refl]
           have F4 : Hid (Fm w1 [⟨w1.heap.size, w1.heap.size + 1, BoxP w1.heap.size 26 #[.slice A1 n1 c1, .slice J1 4 d1, .slice C1 4 f1]⟩, ⟨w1.heap.size + 1, w1.heap.size + 1 + 1, BoxP (w1.heap.size + 1) 26 #[.slice A2 n2 c2, .slice J2 4 d2, .slice C2 4 f2]⟩] w4) := Lib.hid (fm_below F3.out hb4)
           have hS4 := fm_rd33L F4.out 0 1 rfl rfl
           clear hb4)
        | (go_at_call 17
           refine (sameLS_any A1 n1 c1 J1 4 d1 C1 4 f1 l A2 n2 c2 J2 4 d2 C2 4 f2 l _ (lr_below H1.out (fm_drew F2.out).below) (lr_below H2.out (fm_drew F2.out).below)).mono ?_
           rintro e w3 ⟨rfl, hb3⟩
           rw [ls_refl]
           have F3 : Hid (Fm w1 [⟨w1.heap.size, w1.heap.size + 1, BoxP w1.heap.size 26 #[.slice A1 n1 c1, .slice J1 4 d1, .slice C1 4 f1]⟩, ⟨w1.heap.size + 1, w1.heap.size + 1 + 1, BoxP (w1.heap.size + 1) 26 #[.slice A2 n2 c2, .slice J2 4 d2, .slice C2 4 f2]⟩] w3) := Lib.hid (fm_below (fm_drew F2.out) hb3)
           have hS3 := fm_rd33L F3.out 0 1 rfl rfl
           clear hb3))
    all_goals
      go_wp2
      go_ret
      exact ⟨ret_bool (by simp), below_seq B1.out F9.out.below⟩
theorem own : ownKnob Try.prog.godebug = none := by kernel_rfl
theorem laidOut : laidOutB Try.prog = true := by kernel_rfl
set_option maxRecDepth 100000 in
theorem lifted (os : Os) (started : os.Started) (H : Type) (enc : TypeId × Value → H) :
    ReturnsInHanded {} Try.checked os 3 .any (Rows.fnLanesSameSpec.pre6 enc Try.prog Try.f3 Rows.fnLanesSameRow.domain false) (Rows.fnLanesSameSpec.post enc Try.prog Try.f3 false true false false) := by
  refine returnsInHanded_of_change (C := Try.checked) own started (by kernel_rfl) Try.func3
    (ChangeSpec.witness6 (enc := enc) (C := Try.checked) false ⟨#[], #[.slice none 0 0], []⟩ 8 (by kernel_rfl) (by kernel_rfl) (by kernel_rfl) (by kernel_rfl)) ?_
  intro W base args ds gs before hval0 hW _ _
  have hval : ∀ (j : Nat) t v, Try.f3.params[j]? = some t → args[j]? = some v → Value.okWide Try.prog W .any base t v := hval0
  have hW' := hW
  obtain ⟨p, q, hA0, hV, rfl, _, _⟩ := hW
  have hA : DataW.TrodAll enc Try.prog W 0 (fun _ => true) true Try.f3.params.toList args.toList ds p := hA0
  rw [Try.params3] at hA hval
  obtain ⟨v0, vs0, d0, ds0, p0, q0, hargs, rfl, rfl, h0, r0⟩ := trodAll_cons hA
  obtain ⟨rfl, rfl, rfl⟩ := trodAll_nil r0
  obtain rfl : args = #[v0] := by cases args; simp_all
  obtain ⟨rfl, rfl⟩ := trodVars_none hV
  have lt0 : ∀ x ∈ p0, x.block < W.heap.size := by obtain ⟨m, hm⟩ := h0; exact DataW.trod_lt m _ _ _ hm
  obtain ⟨a0, n0, c0, rfl⟩ := okWide_slice Try.underlying22 (hval 0 22 v0 rfl rfl)
  have w0 : Bytes W a0 n0 c0 := bytes_open h0
  clear hA0 hval0
  refine (walk a0 n0 c0 W w0).mono fun e W' ⟨he, bel⟩ => ?_
  subst he
  exact ⟨_, rfl, _, _, _, [], _, [], hW', trodAll_mk1 (shut_bool Try.underlying4 _), (trodAll_cons_mk (Below.trod laidOut (by kernel_rfl) (of_decide_eq_true (by kernel_rfl)) h0 bel lt0) trodAll_mk0), rfl, bel.frame _, fun h => by cases h⟩
theorem over : Rows.fnLanesSameRow.holds Try.pinned (OpenSpec.ofChange Rows.fnLanesSameSpec) :=
  OpenClaim.holds_of_wide 3 Try.f3 rfl rfl rfl rfl rfl rfl rfl ⟨rfl, rfl, rfl, rfl, rfl⟩ rfl rfl rfl rfl rfl (by kernel_rfl) Try.func3 (by unfold joinedFacts; rw [mayEnter, liftsFinal, makeIs]; kernel_rfl)
    (of_decide_eq_true (by kernel_rfl)) (by unfold Func.isWrapper; first | (rw [if_pos (by decide +kernel)]; kernel_rfl) | (rw [if_neg (by decide +kernel)]; exact ⟨rfl, rfl⟩))
    (fun os started H enc _ => lifted os started H enc)
/-- the given statement -/
theorem proved : Rows.FnLanesSameSaid := over
end Go.Proofs.Ytkmoiphcpmhacab.fnLanesSame
