/-
  The law FnQueueSame returns true at every argument: equality of queues is reflexive and symmetric. Conditions: none.
-/
import Derived.Test.YtapoahoknlaeaaaQL
import Derived.Test.YtapoahoknlaeaaaQ3
import Derived.Test.YtapoahoknlaeaaaQDs
namespace Go.Proofs.Ytapoahoknlaeaaa.fnQueueSame
open Go.ChangeShapes Go.WideShapes Go.ChangeAt Go.RowKit

structure QQ (w : World) (b1 : Nat) (l1 : Int) (A1 : Option Addr) (n1 c1 : Nat) (ps : List Pkt) (l2 : Int) (A2 : Option Addr) (n2 c2 : Nat) (qs : List Pkt) (w' : World) : Prop where
  x1 : Blk w' b1 25 #[.int .i64 l1, (.slice A1 n1 c1)]
  x2 : Blk w' (b1 + 1) 25 #[.int .i64 l2, (.slice A2 n2 c2)]
  q : PR w' A1 n1 ps
  r : PR w' A2 n2 qs
  b : Below w.heap.size w w'
section
variable {w w1 w2 : World} {b1 : Nat} {l1 l2 : Int} {A1 A2 : Option Addr} {n1 c1 n2 c2 : Nat} {ps qs : List Pkt}
theorem qq_below (h : QQ w b1 l1 A1 n1 c1 ps l2 A2 n2 c2 qs w1) (hb : Below w1.heap.size w1 w2) : QQ w b1 l1 A1 n1 c1 ps l2 A2 n2 c2 qs w2 :=
  ⟨blk_below h.x1 hb (blk_lt h.x1), blk_below h.x2 hb (blk_lt h.x2), pr_below h.q hb, pr_below h.r hb, below_seq h.b hb⟩
theorem qq_drew (h : QQ w b1 l1 A1 n1 c1 ps l2 A2 n2 c2 qs w1) : QQ w b1 l1 A1 n1 c1 ps l2 A2 n2 c2 qs w1.drew := ⟨h.x1, h.x2, h.q, h.r, h.b.drew⟩
theorem qq_cells (h : QQ w b1 l1 A1 n1 c1 ps l2 A2 n2 c2 qs w1) : (w1.cell? ⟨b1, 0, none⟩ = some (.int .i64 l1) ∧ w1.cell? ⟨b1, 1, none⟩ = some (.slice A1 n1 c1) ∧ w1.cell? ⟨b1 + 1, 0, none⟩ = some (.int .i64 l2) ∧ w1.cell? ⟨b1 + 1, 1, none⟩ = some (.slice A2 n2 c2)) ∧ QQ w b1 l1 A1 n1 c1 ps l2 A2 n2 c2 qs w1 :=
  ⟨⟨blk_cell h.x1 0, blk_cell h.x1 1, blk_cell h.x2 0, blk_cell h.x2 1⟩, h⟩
end
theorem qs_sym {l1 l2 : Int} {ps qs : List Pkt} (h : qsB l1 ps l2 qs = false) : qsB l2 qs l1 ps = false := by
  simp only [qsB, sameB, Bool.and_eq_false_iff, decide_eq_false_iff_not] at h ⊢
  exact h.imp (fun h e => h e.symm) (fun h e => h e.symm)
theorem qs_true {l1 l2 : Int} {ps qs : List Pkt} (h : qsB l1 ps l2 qs = true) : l1 = l2 ∧ ps = qs := by
  simpa [qsB, sameB] using h
set_option maxHeartbeats 4000000 in
theorem walk (A : Option Addr) (n c : Nat) (w : World) (h : Bytes w A n c) :
    Calls Try.prog 9 #[.slice A n c] w fun e w' => e = .returned (.bool true) ∧ Below w.heap.size w w' := by
  have HB := Lib.hid h
  clear h
  by_cases hbig : ¬ n ≤ 1048576
  · go_enter Try.func9, Try.ntmps9
    go_wp2
    go_ret
    exact ⟨rfl, Below.refl _ _⟩
  have hbig' : n ≤ 1048576 := by omega
  clear hbig
  go_enter Try.func9, Try.ntmps9
  go_wp2_with fail
  refine (drawQueueSame_any A n c _ HB.out).mono ?_
  rintro e w1 ⟨l1, A1, n1, c1, ps, l2, A2, n2, c2, qs, rfl, hn1, hn2, hp, hq, hb⟩
  obtain ⟨hc1, hf1⟩ := bcell hb
  have B1 := Lib.hid (show Below w.heap.size w w1 from (by first | exact below_seq (Below.refl w.heap.size w) hb | exact below_seq1 (Below.refl w.heap.size w) hb | exact below_seq2 (Below.refl w.heap.size w) hb | exact below_seq3 (Below.refl w.heap.size w) hb | exact below_seq4 (Below.refl w.heap.size w) hb))
  have R1 := Lib.hid hb
  have hz1 := hb.size
  try simp at hz1
  clear hb
  have Q := Lib.hid hp
  have X := Lib.hid hq
  clear hp hq
  have P1 := Lib.hid (show Blk ((w1.alloc (.cells #[.int .i64 l1, (.slice A1 n1 c1)] 25)).alloc (.cells #[.int .i64 l2, (.slice A2 n2 c2)] 25)) w1.heap.size 25 #[.int .i64 l1, (.slice A1 n1 c1)] from blk_alloc (blk_new _ _ _) _)
  have P2 := Lib.hid (show Blk ((w1.alloc (.cells #[.int .i64 l1, (.slice A1 n1 c1)] 25)).alloc (.cells #[.int .i64 l2, (.slice A2 n2 c2)] 25)) (w1.heap.size + 1) 25 #[.int .i64 l2, (.slice A2 n2 c2)] from blk_new2 _ _ _ _)
  go_wp2_with fail
  refine (sameQI_any l1 l2 A1 A2 n1 c1 n2 c2 ps qs _ (by first | with_reducible exact Q.out | with_reducible exact pr_alloc Q.out _ | with_reducible exact pr_alloc (pr_alloc Q.out _) _ | with_reducible exact pr_alloc (pr_alloc (pr_alloc Q.out _) _) _) (by first | with_reducible exact X.out | with_reducible exact pr_alloc X.out _ | with_reducible exact pr_alloc (pr_alloc X.out _) _ | with_reducible exact pr_alloc (pr_alloc (pr_alloc X.out _) _) _) (by omega) (by omega)).mono ?_
  rintro e w2 ⟨rfl, hb⟩
  obtain ⟨hc2, hf2⟩ := bcell hb
  have B2 := Lib.hid (show Below w.heap.size w w2 from (by first | exact below_seq B1.out hb | exact below_seq1 B1.out hb | exact below_seq2 B1.out hb | exact below_seq3 B1.out hb | exact below_seq4 B1.out hb))
  have R2 := Lib.hid hb
  have hz2 := hb.size
  try simp at hz2
  clear hb
  try have y20 : w.heap.size < w2.heap.size := by omega
  try have y20a : w.heap.size + 1 < w2.heap.size := by omega
  try have y20b : w.heap.size < w2.heap.size + 1 + 1 := by omega
  try have y20c : w.heap.size + 1 < w2.heap.size + 1 + 1 := by omega
  try have y21 : w1.heap.size < w2.heap.size := by omega
  try have y21a : w1.heap.size + 1 < w2.heap.size := by omega
  try have y21b : w1.heap.size < w2.heap.size + 1 + 1 := by omega
  try have y21c : w1.heap.size + 1 < w2.heap.size + 1 + 1 := by omega
  replace P1 := Lib.hid (blk_below P1.out R2.out (blk_lt P1.out))
  replace P2 := Lib.hid (blk_below P2.out R2.out (blk_lt P2.out))
  replace Q := Lib.hid (show PR w2 _ _ _ from (by first | with_reducible exact pr_below Q.out R2.out | with_reducible exact pr_below (pr_alloc Q.out _) R2.out | with_reducible exact pr_below (pr_alloc (pr_alloc Q.out _) _) R2.out | with_reducible exact pr_below (pr_alloc (pr_alloc (pr_alloc Q.out _) _) _) R2.out))
  replace X := Lib.hid (show PR w2 _ _ _ from (by first | with_reducible exact pr_below X.out R2.out | with_reducible exact pr_below (pr_alloc X.out _) R2.out | with_reducible exact pr_below (pr_alloc (pr_alloc X.out _) _) R2.out | with_reducible exact pr_below (pr_alloc (pr_alloc (pr_alloc X.out _) _) _) R2.out))
  have HS := Lib.hid (show QQ w w1.heap.size l1 A1 n1 c1 ps l2 A2 n2 c2 qs w2 from ⟨P1.out, P2.out, Q.out, X.out, B2.out⟩)
  clear P1 P2 Q X
  have hS := qq_cells (qq_drew HS.out)
  rcases hs : qsB l1 ps l2 qs with _ | _
  · have HV1 := Lib.hid hs
    have HV2 := Lib.hid (qs_sym hs)
    clear hs
    go_wp2_with fail
    refine wp_region_held_drew (S := (fun w' => (w'.cell? ⟨w1.heap.size, 0, none⟩ = some (.int .i64 l1) ∧ w'.cell? ⟨w1.heap.size, 1, none⟩ = some (.slice A1 n1 c1) ∧ w'.cell? ⟨w1.heap.size + 1, 0, none⟩ = some (.int .i64 l2) ∧ w'.cell? ⟨w1.heap.size + 1, 1, none⟩ = some (.slice A2 n2 c2)) ∧ QQ w w1.heap.size l1 A1 n1 c1 ps l2 A2 n2 c2 qs w')) (by kernel_rfl) hS (fun hH => ?_)
    refine wpAnyH_take (i := 0) (oi := { dst := some 17, op := Op.move (Operand.tmp 5), type := 4, pos := "laws.go:556", after := #[], guard := none }) (v := ?_) rfl (by kernel_rfl) (by kernel_rfl) (by kernel_rfl) (fun _ _ _ h => h) (Or.inl ⟨by rfl, ?_⟩) hS ?_
    rotate_left
    · (intro w9 hSw; (try dsimp only at hSw); go_simp; try with_reducible rfl)
    try simp only [Act.put, List.setIfInBounds_toArray, List.set_cons_zero, List.set_cons_succ]
    refine wpAnyH_take (i := 1) (oi := { dst := some 18, op := Op.load 25 (Operand.tmp 3), type := 25, pos := "laws.go:556", after := #[], guard := none }) (v := ?_) rfl (by kernel_rfl) (by kernel_rfl) (by kernel_rfl) (fun _ _ _ h => h) (Or.inl ⟨by rfl, ?_⟩) hS ?_
    rotate_left
    · (intro w9 hSw; (try dsimp only at hSw); go_simp; try with_reducible rfl)
    try simp only [Act.put, List.setIfInBounds_toArray, List.set_cons_zero, List.set_cons_succ]
    refine wpAnyH_take (i := 2) (oi := { dst := some 19, op := Op.load 25 (Operand.tmp 4), type := 25, pos := "laws.go:556", after := #[], guard := none }) (v := ?_) rfl (by kernel_rfl) (by kernel_rfl) (by kernel_rfl) (fun _ _ _ h => h) (Or.inl ⟨by rfl, ?_⟩) hS ?_
    rotate_left
    · (intro w9 hSw; (try dsimp only at hSw); go_simp; try with_reducible rfl)
    try simp only [Act.put, List.setIfInBounds_toArray, List.set_cons_zero, List.set_cons_succ]
    refine wpAnyH_ready (rs := [3]) (by kernel_rfl) (by simp) ?_
    refine AllReadyH.cons (o := { dst := some 20, op := Op.call { callee := Callee.value (Operand.func 39), args := #[Operand.tmp 18, Operand.tmp 19], argTypes := #[25, 25] }, type := 4, pos := "laws.go:556", after := #[{ on := 1, ground := Ground.data }, { on := 2, ground := Ground.data }], guard := none }) rfl (fun K hK => ?_) AllReadyH.nil
    go_simp
    go_at_call 39
    refine (sameQS_any l1 l2 A1 A2 n1 c1 n2 c2 ps qs _ (qq_drew HS.out).q (qq_drew HS.out).r (by omega) (by omega)).mono ?_
    rintro e w3 ⟨rfl, hb3⟩
    rw [HV1.out]
    have HS3 := Lib.hid (qq_below (qq_drew HS.out) hb3)
    have hS3 := qq_cells HS3.out
    clear hb3
    refine hK.out _ _ hS3 (fun hH => ?_)
    clear hK K
    try simp only [Act.put, List.setIfInBounds_toArray, List.set_cons_zero, List.set_cons_succ]
    refine wpAnyH_take (i := 4) (oi := { dst := some 21, op := Op.binOp BinOp.eql 4 (Operand.tmp 17) (Operand.tmp 20) 4, type := 4, pos := "laws.go:556", after := #[{ on := 0, ground := Ground.data }, { on := 3, ground := Ground.data }], guard := none }) (v := ?_) rfl (by kernel_rfl) (by kernel_rfl) (by kernel_rfl) (fun _ _ _ h => h) (Or.inl ⟨by rfl, ?_⟩) hS3 ?_
    rotate_left
    · (intro w9 hSw; (try dsimp only at hSw); go_simp; try with_reducible rfl)
    try simp only [Act.put, List.setIfInBounds_toArray, List.set_cons_zero, List.set_cons_succ]
    refine wpAnyH_take (i := 5) (oi := { dst := some 22, op := Op.move (Operand.tmp 21), type := 4, pos := "laws.go:556", after := #[{ on := 4, ground := Ground.data }, { on := 3, ground := Ground.chain }], guard := none }) (v := ?_) rfl (by kernel_rfl) (by kernel_rfl) (by kernel_rfl) (fun _ _ _ h => h) (Or.inl ⟨by rfl, ?_⟩) hS3 ?_
    rotate_left
    · (intro w9 hSw; (try dsimp only at hSw); go_simp; try with_reducible rfl)
    try simp only [Act.put, List.setIfInBounds_toArray, List.set_cons_zero, List.set_cons_succ]
    refine wpAnyH_take (i := 6) (oi := { dst := some 23, op := Op.move (Operand.tmp 5), type := 4, pos := "laws.go:556", after := #[{ on := 5, ground := Ground.guard }], guard := some (5, true) }) (v := ?_) rfl (by kernel_rfl) (by kernel_rfl) (by kernel_rfl) (fun _ _ _ h => h) (Or.inl ⟨by rfl, ?_⟩) hS3 ?_
    rotate_left
    · (intro w9 hSw; (try dsimp only at hSw); go_simp; try with_reducible rfl)
    try simp only [Act.put, List.setIfInBounds_toArray, List.set_cons_zero, List.set_cons_succ]
    refine wpAnyH_take (i := 7) (oi := { dst := some 24, op := Op.load 25 (Operand.tmp 4), type := 25, pos := "laws.go:556", after := #[{ on := 5, ground := Ground.guard }], guard := some (5, true) }) (v := ?_) rfl (by kernel_rfl) (by kernel_rfl) (by kernel_rfl) (fun _ _ _ h => h) (Or.inl ⟨by rfl, ?_⟩) hS3 ?_
    rotate_left
    · (intro w9 hSw; (try dsimp only at hSw); go_simp; try with_reducible rfl)
    try simp only [Act.put, List.setIfInBounds_toArray, List.set_cons_zero, List.set_cons_succ]
    refine wpAnyH_take (i := 8) (oi := { dst := some 25, op := Op.load 25 (Operand.tmp 3), type := 25, pos := "laws.go:556", after := #[{ on := 5, ground := Ground.guard }], guard := some (5, true) }) (v := ?_) rfl (by kernel_rfl) (by kernel_rfl) (by kernel_rfl) (fun _ _ _ h => h) (Or.inl ⟨by rfl, ?_⟩) hS3 ?_
    rotate_left
    · (intro w9 hSw; (try dsimp only at hSw); go_simp; try with_reducible rfl)
    try simp only [Act.put, List.setIfInBounds_toArray, List.set_cons_zero, List.set_cons_succ]
    refine wpAnyH_ready (rs := [9]) (by kernel_rfl) (by simp) ?_
    refine AllReadyH.cons (o := { dst := some 26, op := Op.call { callee := Callee.value (Operand.func 18), args := #[Operand.tmp 24, Operand.tmp 25], argTypes := #[25, 25] }, type := 4, pos := "laws.go:556", after := #[{ on := 7, ground := Ground.data }, { on := 8, ground := Ground.data }, { on := 5, ground := Ground.chain }, { on := 5, ground := Ground.guard }], guard := some (5, true) }) rfl (fun K hK => ?_) AllReadyH.nil
    go_simp
    go_at_call 18
    refine (sameQI_any l2 l1 A2 A1 n2 c2 n1 c1 qs ps _ HS3.out.r HS3.out.q (by omega) (by omega)).mono ?_
    rintro e w4 ⟨rfl, hb4⟩
    rw [HV2.out]
    have HS4 := Lib.hid (qq_below HS3.out hb4)
    have hS4 := qq_cells HS4.out
    clear hb4
    refine hK.out _ _ hS4 (fun hH => ?_)
    clear hK K
    try simp only [Act.put, List.setIfInBounds_toArray, List.set_cons_zero, List.set_cons_succ]
    refine wpAnyH_take (i := 10) (oi := { dst := some 27, op := Op.binOp BinOp.eql 4 (Operand.tmp 23) (Operand.tmp 26) 4, type := 4, pos := "laws.go:556", after := #[{ on := 6, ground := Ground.data }, { on := 9, ground := Ground.data }, { on := 5, ground := Ground.guard }], guard := some (5, true) }) (v := ?_) rfl (by kernel_rfl) (by kernel_rfl) (by kernel_rfl) (fun _ _ _ h => h) (Or.inl ⟨by rfl, ?_⟩) hS4 ?_
    rotate_left
    · (intro w9 hSw; (try dsimp only at hSw); go_simp; try with_reducible rfl)
    try simp only [Act.put, List.setIfInBounds_toArray, List.set_cons_zero, List.set_cons_succ]
    refine wpAnyH_take (i := 11) (oi := { dst := some 28, op := Op.pick (Operand.tmp 22) (Operand.tmp 27) (Operand.const (Value.bool false)), type := 4, pos := "laws.go:556", after := #[{ on := 5, ground := Ground.data }, { on := 10, ground := Ground.data }], guard := none }) (v := ?_) rfl (by kernel_rfl) (by kernel_rfl) (by kernel_rfl) (fun _ _ _ h => h) (Or.inl ⟨by rfl, ?_⟩) hS4 ?_
    rotate_left
    · (intro w9 hSw; (try dsimp only at hSw); go_simp; try with_reducible rfl)
    try simp only [Act.put, List.setIfInBounds_toArray, List.set_cons_zero, List.set_cons_succ]
    refine wpAnyH_take (i := 12) (oi := { dst := some 29, op := Op.move (Operand.tmp 28), type := 4, pos := "laws.go:556", after := #[{ on := 11, ground := Ground.data }, { on := 9, ground := Ground.chain }], guard := none }) (v := ?_) rfl (by kernel_rfl) (by kernel_rfl) (by kernel_rfl) (fun _ _ _ h => h) (Or.inl ⟨by rfl, ?_⟩) hS4 ?_
    rotate_left
    · (intro w9 hSw; (try dsimp only at hSw); go_simp; try with_reducible rfl)
    try simp only [Act.put, List.setIfInBounds_toArray, List.set_cons_zero, List.set_cons_succ]
    refine wpAnyH_take (i := 13) (oi := { dst := some 30, op := Op.load 25 (Operand.tmp 3), type := 25, pos := "laws.go:556", after := #[{ on := 12, ground := Ground.guard }], guard := some (12, true) }) (v := ?_) rfl (by kernel_rfl) (by kernel_rfl) (by kernel_rfl) (fun _ _ _ h => h) (Or.inl ⟨by rfl, ?_⟩) hS4 ?_
    rotate_left
    · (intro w9 hSw; (try dsimp only at hSw); go_simp; try with_reducible rfl)
    try simp only [Act.put, List.setIfInBounds_toArray, List.set_cons_zero, List.set_cons_succ]
    refine wpAnyH_take (i := 14) (oi := { dst := some 31, op := Op.load 25 (Operand.tmp 3), type := 25, pos := "laws.go:556", after := #[{ on := 12, ground := Ground.guard }], guard := some (12, true) }) (v := ?_) rfl (by kernel_rfl) (by kernel_rfl) (by kernel_rfl) (fun _ _ _ h => h) (Or.inl ⟨by rfl, ?_⟩) hS4 ?_
    rotate_left
    · (intro w9 hSw; (try dsimp only at hSw); go_simp; try with_reducible rfl)
    try simp only [Act.put, List.setIfInBounds_toArray, List.set_cons_zero, List.set_cons_succ]
    refine wpAnyH_ready (rs := [15]) (by kernel_rfl) (by simp) ?_
    refine AllReadyH.cons (o := { dst := some 32, op := Op.call { callee := Callee.value (Operand.func 18), args := #[Operand.tmp 30, Operand.tmp 31], argTypes := #[25, 25] }, type := 4, pos := "laws.go:556", after := #[{ on := 13, ground := Ground.data }, { on := 14, ground := Ground.data }, { on := 12, ground := Ground.chain }, { on := 12, ground := Ground.guard }], guard := some (12, true) }) rfl (fun K hK => ?_) AllReadyH.nil
    go_simp
    go_at_call 18
    refine (sameQI_any l1 l1 A1 A1 n1 c1 n1 c1 ps ps _ HS4.out.q HS4.out.q (by omega) (by omega)).mono ?_
    rintro e w5 ⟨rfl, hb5⟩
    rw [qs_refl]
    have HS5 := Lib.hid (qq_below HS4.out hb5)
    have hS5 := qq_cells HS5.out
    clear hb5
    refine hK.out _ _ hS5 (fun hH => ?_)
    clear hK K
    try simp only [Act.put, List.setIfInBounds_toArray, List.set_cons_zero, List.set_cons_succ]
    refine wpAnyH_take (i := 16) (oi := { dst := some 33, op := Op.pick (Operand.tmp 29) (Operand.tmp 32) (Operand.const (Value.bool false)), type := 4, pos := "laws.go:556", after := #[{ on := 12, ground := Ground.data }, { on := 15, ground := Ground.data }], guard := none }) (v := ?_) rfl (by kernel_rfl) (by kernel_rfl) (by kernel_rfl) (fun _ _ _ h => h) (Or.inl ⟨by rfl, ?_⟩) hS5 ?_
    rotate_left
    · (intro w9 hSw; (try dsimp only at hSw); go_simp; try with_reducible rfl)
    try simp only [Act.put, List.setIfInBounds_toArray, List.set_cons_zero, List.set_cons_succ]
    refine wpAnyH_take (i := 17) (oi := { dst := some 34, op := Op.move (Operand.tmp 33), type := 4, pos := "laws.go:556", after := #[{ on := 16, ground := Ground.data }, { on := 15, ground := Ground.chain }], guard := none }) (v := ?_) rfl (by kernel_rfl) (by kernel_rfl) (by kernel_rfl) (fun _ _ _ h => h) (Or.inl ⟨by rfl, ?_⟩) hS5 ?_
    rotate_left
    · (intro w9 hSw; (try dsimp only at hSw); go_simp; try with_reducible rfl)
    try simp only [Act.put, List.setIfInBounds_toArray, List.set_cons_zero, List.set_cons_succ]
    refine wpAnyH_take (i := 18) (oi := { dst := some 35, op := Op.move (Operand.tmp 5), type := 4, pos := "laws.go:556", after := #[{ on := 17, ground := Ground.guard }], guard := some (17, true) }) (v := ?_) rfl (by kernel_rfl) (by kernel_rfl) (by kernel_rfl) (fun _ _ _ h => h) (Or.inl ⟨by rfl, ?_⟩) hS5 ?_
    rotate_left
    · (intro w9 hSw; (try dsimp only at hSw); go_simp; try with_reducible rfl)
    try simp only [Act.put, List.setIfInBounds_toArray, List.set_cons_zero, List.set_cons_succ]
    refine wpAnyH_take (i := 19) (oi := { dst := some 36, op := Op.unOp UnOp.not 4 (Operand.tmp 35), type := 4, pos := "laws.go:556", after := #[{ on := 18, ground := Ground.data }, { on := 17, ground := Ground.guard }], guard := some (17, true) }) (v := ?_) rfl (by kernel_rfl) (by kernel_rfl) (by kernel_rfl) (fun _ _ _ h => h) (Or.inl ⟨by rfl, ?_⟩) hS5 ?_
    rotate_left
    · (intro w9 hSw; (try dsimp only at hSw); go_simp; try with_reducible rfl)
    try simp only [Act.put, List.setIfInBounds_toArray, List.set_cons_zero, List.set_cons_succ]
    refine wpAnyH_take (i := 20) (oi := { dst := some 37, op := Op.move (Operand.tmp 36), type := 4, pos := "laws.go:556", after := #[{ on := 19, ground := Ground.data }, { on := 17, ground := Ground.chain }, { on := 17, ground := Ground.guard }], guard := some (17, true) }) (v := ?_) rfl (by kernel_rfl) (by kernel_rfl) (by kernel_rfl) (fun _ _ _ h => h) (Or.inl ⟨by rfl, ?_⟩) hS5 ?_
    rotate_left
    · (intro w9 hSw; (try dsimp only at hSw); go_simp; try with_reducible rfl)
    try simp only [Act.put, List.setIfInBounds_toArray, List.set_cons_zero, List.set_cons_succ]
    refine wpAnyH_take (i := 21) (oi := { dst := some 38, op := Op.load 25 (Operand.tmp 3), type := 25, pos := "laws.go:556", after := #[{ on := 20, ground := Ground.guard }], guard := some (20, false) }) (v := undef) rfl (by kernel_rfl) (by kernel_rfl) (by kernel_rfl) (fun _ _ _ h => h) (Or.inr ⟨by rfl, rfl⟩) hS5 ?_
    try simp only [Act.put, List.setIfInBounds_toArray, List.set_cons_zero, List.set_cons_succ]
    refine wpAnyH_take (i := 22) (oi := { dst := some 39, op := Op.call { callee := Callee.value (Operand.func 20), args := #[Operand.tmp 38], argTypes := #[25] }, type := 4, pos := "laws.go:556", after := #[{ on := 21, ground := Ground.data }, { on := 20, ground := Ground.chain }, { on := 20, ground := Ground.guard }], guard := some (20, false) }) (v := undef) rfl (by kernel_rfl) (by kernel_rfl) (by kernel_rfl) (fun _ _ _ h => h) (Or.inr ⟨by rfl, rfl⟩) hS5 ?_
    try simp only [Act.put, List.setIfInBounds_toArray, List.set_cons_zero, List.set_cons_succ]
    refine wpAnyH_take (i := 23) (oi := { dst := some 40, op := Op.load 25 (Operand.tmp 4), type := 25, pos := "laws.go:556", after := #[{ on := 20, ground := Ground.guard }], guard := some (20, false) }) (v := undef) rfl (by kernel_rfl) (by kernel_rfl) (by kernel_rfl) (fun _ _ _ h => h) (Or.inr ⟨by rfl, rfl⟩) hS5 ?_
    try simp only [Act.put, List.setIfInBounds_toArray, List.set_cons_zero, List.set_cons_succ]
    refine wpAnyH_take (i := 24) (oi := { dst := some 41, op := Op.call { callee := Callee.value (Operand.func 20), args := #[Operand.tmp 40], argTypes := #[25] }, type := 4, pos := "laws.go:556", after := #[{ on := 23, ground := Ground.data }, { on := 22, ground := Ground.chain }, { on := 20, ground := Ground.guard }], guard := some (20, false) }) (v := undef) rfl (by kernel_rfl) (by kernel_rfl) (by kernel_rfl) (fun _ _ _ h => h) (Or.inr ⟨by rfl, rfl⟩) hS5 ?_
    try simp only [Act.put, List.setIfInBounds_toArray, List.set_cons_zero, List.set_cons_succ]
    refine wpAnyH_take (i := 25) (oi := { dst := some 42, op := Op.binOp BinOp.eql 4 (Operand.tmp 39) (Operand.tmp 41) 4, type := 4, pos := "laws.go:556", after := #[{ on := 22, ground := Ground.data }, { on := 24, ground := Ground.data }, { on := 20, ground := Ground.guard }], guard := some (20, false) }) (v := undef) rfl (by kernel_rfl) (by kernel_rfl) (by kernel_rfl) (fun _ _ _ h => h) (Or.inr ⟨by rfl, rfl⟩) hS5 ?_
    try simp only [Act.put, List.setIfInBounds_toArray, List.set_cons_zero, List.set_cons_succ]
    refine wpAnyH_take (i := 26) (oi := { dst := some 43, op := Op.pick (Operand.tmp 37) (Operand.const (Value.bool true)) (Operand.tmp 42), type := 4, pos := "laws.go:556", after := #[{ on := 20, ground := Ground.data }, { on := 25, ground := Ground.data }, { on := 17, ground := Ground.guard }], guard := some (17, true) }) (v := ?_) rfl (by kernel_rfl) (by kernel_rfl) (by kernel_rfl) (fun _ _ _ h => h) (Or.inl ⟨by rfl, ?_⟩) hS5 ?_
    rotate_left
    · (intro w9 hSw; (try dsimp only at hSw); go_simp; try with_reducible rfl)
    try simp only [Act.put, List.setIfInBounds_toArray, List.set_cons_zero, List.set_cons_succ]
    refine wpAnyH_take (i := 27) (oi := { dst := some 44, op := Op.pick (Operand.tmp 34) (Operand.tmp 43) (Operand.const (Value.bool false)), type := 4, pos := "laws.go:556", after := #[{ on := 17, ground := Ground.data }, { on := 26, ground := Ground.data }], guard := none }) (v := ?_) rfl (by kernel_rfl) (by kernel_rfl) (by kernel_rfl) (fun _ _ _ h => h) (Or.inl ⟨by rfl, ?_⟩) hS5 ?_
    rotate_left
    · (intro w9 hSw; (try dsimp only at hSw); go_simp; try with_reducible rfl)
    try simp only [Act.put, List.setIfInBounds_toArray, List.set_cons_zero, List.set_cons_succ]
    refine wpAnyH_take (i := 28) (oi := { dst := some 2, op := Op.assign (Operand.tmp 44), type := 4, pos := "laws.go:556", after := #[{ on := 27, ground := Ground.data }, { on := 24, ground := Ground.chain }, { on := 0, ground := Ground.phase }, { on := 1, ground := Ground.phase }, { on := 2, ground := Ground.phase }, { on := 3, ground := Ground.phase }, { on := 4, ground := Ground.phase }, { on := 5, ground := Ground.phase }, { on := 6, ground := Ground.phase }, { on := 7, ground := Ground.phase }, { on := 8, ground := Ground.phase }, { on := 9, ground := Ground.phase }, { on := 10, ground := Ground.phase }, { on := 11, ground := Ground.phase }, { on := 12, ground := Ground.phase }, { on := 13, ground := Ground.phase }, { on := 14, ground := Ground.phase }, { on := 15, ground := Ground.phase }, { on := 16, ground := Ground.phase }, { on := 17, ground := Ground.phase }, { on := 18, ground := Ground.phase }, { on := 19, ground := Ground.phase }, { on := 20, ground := Ground.phase }, { on := 21, ground := Ground.phase }, { on := 22, ground := Ground.phase }, { on := 23, ground := Ground.phase }, { on := 24, ground := Ground.phase }, { on := 25, ground := Ground.phase }, { on := 26, ground := Ground.phase }, { on := 27, ground := Ground.phase }], guard := none }) (v := ?_) rfl (by kernel_rfl) (by kernel_rfl) (by kernel_rfl) (fun _ _ _ h => h) (Or.inl ⟨by rfl, ?_⟩) hS5 ?_
    rotate_left
    · (intro w9 hSw; (try dsimp only at hSw); go_simp; try with_reducible rfl)
    try simp only [Act.put, List.setIfInBounds_toArray, List.set_cons_zero, List.set_cons_succ]
    refine wpAnyH_done (by kernel_rfl) ?_ _
    go_wp2
    go_ret
    exact ⟨ret_bool (by simp), HS5.out.b⟩
  · obtain ⟨rfl, rfl⟩ := qs_true hs
    have HV1 := Lib.hid hs
    have HV2 := Lib.hid hs
    obtain ⟨v, hv⟩ : ∃ v, v = qvB l1 ps := ⟨_, rfl⟩
    have HV3 := Lib.hid hv
    clear hs hv
    go_wp2_with fail
    go_region_held3 (fun w' => (w'.cell? ⟨w1.heap.size, 0, none⟩ = some (.int .i64 l1) ∧ w'.cell? ⟨w1.heap.size, 1, none⟩ = some (.slice A1 n1 c1) ∧ w'.cell? ⟨w1.heap.size + 1, 0, none⟩ = some (.int .i64 l1) ∧ w'.cell? ⟨w1.heap.size + 1, 1, none⟩ = some (.slice A2 n2 c2)) ∧ QQ w w1.heap.size l1 A1 n1 c1 ps l1 A2 n2 c2 ps w')
      (first
        | (with_reducible assumption)
        | fail)
      (first
        | (go_at_call 20
           refine (qvI_any l1 A2 n2 c2 ps _ HS6.out.r (by omega)).mono ?_
           rintro e w7 ⟨rfl, hb7⟩
           rw [← HV3.out]
           have HS7 := Lib.hid (qq_below HS6.out hb7)
           have hS7 := qq_cells HS7.out
           clear hb7)
        | (go_at_call 20
           refine (qvI_any l1 A1 n1 c1 ps _ HS5.out.q (by omega)).mono ?_
           rintro e w6 ⟨rfl, hb6⟩
           rw [← HV3.out]
           have HS6 := Lib.hid (qq_below HS5.out hb6)
           have hS6 := qq_cells HS6.out
           clear hb6)
        | (go_at_call 18
           refine (sameQI_any l1 l1 A1 A1 n1 c1 n1 c1 ps ps _ HS4.out.q HS4.out.q (by omega) (by omega)).mono ?_
           rintro e w5 ⟨rfl, hb5⟩
           rw [qs_refl]
           have HS5 := Lib.hid (qq_below HS4.out hb5)
           have hS5 := qq_cells HS5.out
           clear hb5)
        | (go_at_call 18
           refine (sameQI_any l1 l1 A2 A1 n2 c2 n1 c1 ps ps _ HS3.out.r HS3.out.q (by omega) (by omega)).mono ?_
           rintro e w4 ⟨rfl, hb4⟩
           rw [HV2.out]
           have HS4 := Lib.hid (qq_below HS3.out hb4)
           have hS4 := qq_cells HS4.out
           clear hb4)
        | (go_at_call 39
           refine (sameQS_any l1 l1 A1 A2 n1 c1 n2 c2 ps ps _ (qq_drew HS.out).q (qq_drew HS.out).r (by omega) (by omega)).mono ?_
           rintro e w3 ⟨rfl, hb3⟩
           rw [HV1.out]
           have HS3 := Lib.hid (qq_below (qq_drew HS.out) hb3)
           have hS3 := qq_cells HS3.out
           clear hb3))
    all_goals
      go_wp2
      go_ret
      exact ⟨ret_bool (by simp), HS7.out.b⟩
theorem own : ownKnob Try.prog.godebug = none := by kernel_rfl
theorem laidOut : laidOutB Try.prog = true := by kernel_rfl
set_option maxRecDepth 100000 in
theorem lifted (os : Os) (started : os.Started) (H : Type) (enc : TypeId × Value → H) :
    ReturnsInHanded {} Try.checked os 9 .any (Rows.fnQueueSameSpec.pre6 enc Try.prog Try.f9 Rows.fnQueueSameRow.domain false) (Rows.fnQueueSameSpec.post enc Try.prog Try.f9 false true false false) := by
  refine returnsInHanded_of_change (C := Try.checked) own started (by kernel_rfl) Try.func9
    (ChangeSpec.witness6 (enc := enc) (C := Try.checked) false ⟨#[], #[.slice none 0 0], []⟩ 8 (by kernel_rfl) (by kernel_rfl) (by kernel_rfl) (by kernel_rfl)) ?_
  intro W base args ds gs before hval0 hW _ _
  have hval : ∀ (j : Nat) t v, Try.f9.params[j]? = some t → args[j]? = some v → Value.okWide Try.prog W .any base t v := hval0
  have hW' := hW
  obtain ⟨p, q, hA0, hV, rfl, _, _⟩ := hW
  have hA : DataW.TrodAll enc Try.prog W 0 (fun _ => true) true Try.f9.params.toList args.toList ds p := hA0
  rw [Try.params9] at hA hval
  obtain ⟨v0, vs0, d0, ds0, p0, q0, hargs, rfl, rfl, h0, r0⟩ := trodAll_cons hA
  obtain ⟨rfl, rfl, rfl⟩ := trodAll_nil r0
  obtain rfl : args = #[v0] := by cases args; simp_all
  obtain ⟨rfl, rfl⟩ := trodVars_none hV
  have lt0 : ∀ x ∈ p0, x.block < W.heap.size := by obtain ⟨m, hm⟩ := h0; exact DataW.trod_lt m _ _ _ hm
  obtain ⟨a0, n0, c0, rfl⟩ := okWide_slice Try.underlying22 (hval 0 22 v0 rfl rfl)
  have w0 : Bytes W a0 n0 c0 := bytes_open h0
  clear hA0 hval0
  refine (walk a0 n0 c0 W w0).mono fun e W' ⟨he, bel⟩ => ?_
  subst he
  exact ⟨_, rfl, _, _, _, [], _, [], hW', trodAll_mk1 (shut_bool Try.underlying4 _), (trodAll_cons_mk (Below.trod laidOut (by kernel_rfl) (of_decide_eq_true (by kernel_rfl)) h0 bel lt0) trodAll_mk0), rfl, bel.frame _, fun h => by cases h⟩
theorem over : Rows.fnQueueSameRow.holds Try.pinned (OpenSpec.ofChange Rows.fnQueueSameSpec) :=
  OpenClaim.holds_of_wide 9 Try.f9 rfl rfl rfl rfl rfl rfl rfl ⟨rfl, rfl, rfl, rfl, rfl⟩ rfl rfl rfl rfl rfl (by kernel_rfl) Try.func9 (by kernel_rfl)
    (of_decide_eq_true (by kernel_rfl)) (by unfold Func.isWrapper; first | (rw [if_pos (by decide +kernel)]; kernel_rfl) | (rw [if_neg (by decide +kernel)]; exact ⟨rfl, rfl⟩))
    (fun os started H enc _ => lifted os started H enc)
/-- the given statement -/
theorem proved : Rows.FnQueueSameSaid := over
end Go.Proofs.Ytapoahoknlaeaaa.fnQueueSame
