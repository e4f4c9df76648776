/-
  Chapter 8: valid settings, new guards: what the model's functions return. Conditions: at most 4000000000 weights.
  Conditions: each lemma says them.
-/
import Derived.Test.YtanaeebjcbbagaaKbnZ1
import Derived.Test.YtanaeebjcbbagaaKnZ1
namespace Go.Proofs.Ytanaeebjcbbagaa
open Go.RowKit
theorem step_makeI (w : World) {ops : Array Oper} {o : Oper} {a : Act} {K : Act → World → Prop} {Q : Exit → Act → World → Prop} {E : Prop} (hgd : o.guard = none) (l c : Operand) (ho : o.op = .makeSlice 23 l c) (n : Nat) (hl : a.eval l = .int .i64 (n : Int)) (hc : a.eval c = .int .i64 (n : Int)) (hn : n ≤ 1000000)
    (h : ∀ w', w'.ownsRow w.heap.size 3 1 (.slice (some ⟨w.heap.size, 0, none⟩) n n) n (icells (List.replicate n 0)) → Below w.heap.size w w' → K (a.put o.dst (.slice (some ⟨w.heap.size, 0, none⟩) n n)) w') :
    if Region.wanted o (yielded ops a.tmps) = true then Oper.wp Try.prog o a w K Q else E := by
  have hw : Region.wanted o (yielded ops a.tmps) = true := by simp [Region.wanted, hgd]
  rw [if_pos hw]
  obtain ⟨i0, h0, h1, h2, h3⟩ := info_parts infoInt
  obtain ⟨w', hrun, r1, r2⟩ := run_make_full (P := Try.prog) w w.heap.size 23 3 i0 _ 1 Try.underlying23 h0 h1 h2 .i64 .i64 n (by rw [h3]; omega) (by unfold maxLen; omega) (Nat.le_refl _)
  rw [zeros6] at r1
  unfold Oper.wp
  simp [execOp, ho, hl, hc, hrun, Result.andThen]
  exact h w' r1 ⟨r2.os, r2.tape, r2.output, r2.size, fun i hi => r2.block i hi (by simp)⟩
theorem nlS_ex (q : Int) (us : List Int) : ∃ (l2 : Ln) (ok : Bool), (l2.rs.length ≤ 4 ∧ l2.ws.length ≤ 4 ∧ l2.cs.length ≤ 4) ∧ (ok = true ↔ NwOk q us) ∧ (ok = true → l2 = newN q us) ∧ ∀ (B : Option Addr) (m d : Nat) (w : World), NR w B m us → m ≤ 4000000000 → Calls Try.prog 32 #[.int .i64 q, .slice B m d] w (JlP w l2 ok) := by
  by_cases hk : NwOk q us
  · exact ⟨newN q us, true, newN_len hk, ⟨fun _ => hk, fun _ => rfl⟩, fun _ => rfl, fun B m d w h hm => (nwS_yes q B m d us w h hm hk).mono fun _ _ h => jlp_yes h⟩
  · exact ⟨⟨[], [], []⟩, false, by simp, ⟨fun h => (by cases h), fun h => absurd h hk⟩, fun h => (by cases h), fun B m d w h hm => (nwS_no q B m d us w h hm hk).mono fun _ _ h => jlp_no h⟩
theorem rec_sc {w : World} {b : Nat} {t : TypeId} {s : St} {A : Option Addr} {n c : Nat} (B : Blk w b t (stc s A n c)) : (w.cell? ⟨b, 0, none⟩ = some (.int .i64 s.r) ∧ w.cell? ⟨b, 1, none⟩ = some (.int .i64 s.b) ∧ w.cell? ⟨b, 2, none⟩ = some (.int .i64 s.pr) ∧ w.cell? ⟨b, 3, none⟩ = some (.int .i64 s.pb) ∧ w.cell? ⟨b, 4, none⟩ = some (.int .i64 s.me) ∧ w.cell? ⟨b, 5, none⟩ = some (.int .i64 s.ea) ∧ w.cell? ⟨b, 6, none⟩ = some (.int .i64 s.q) ∧ w.cell? ⟨b, 7, none⟩ = some (.slice A n c)) :=
  ⟨blk_cell B 0, blk_cell B 1, blk_cell B 2, blk_cell B 3, blk_cell B 4, blk_cell B 5, blk_cell B 6, blk_cell B 7⟩
def AcP (w : World) (s : St) (A : Option Addr) (n c : Nat) (s3 : Value) (wx : World) : Prop :=
  ∃ AB Am, s3 = .pointer (some ⟨AB, 0, none⟩) ∧ Blk wx AB 32 #[.int .i64 s.me, .int .i64 s.ea, (.slice Am 8 8)] ∧ NR wx Am 8 (List.replicate 8 0) ∧ Fm w [⟨w.heap.size, w.heap.size + 1, BoxP w.heap.size 25 (stc s A n c)⟩] wx
set_option maxRecDepth 100000 in
set_option maxHeartbeats 8000000 in
theorem svS_any (s : St) (A : Option Addr) (n c : Nat) (w : World) (h : NR w A n s.ws) (hn : n ≤ 4000000000) :
    Calls Try.prog 11 #[.agg (stc s A n c)] w fun e w' => e = .returned (.bool (svB s)) ∧ Below w.heap.size w w' := by
  obtain ⟨l2, okl, hl3, hl1, hl2, hNL⟩ := nlS_ex s.q s.ws
  have H := Lib.hid h
  have HNL := Lib.hid hNL
  have KL := Lib.hid (And.intro hl3 (And.intro hl1 hl2))
  have F0 : Hid (Fm w [⟨w.heap.size, w.heap.size + 1, BoxP w.heap.size 25 (stc s A n c)⟩] (w.alloc (.cells (stc s A n c) 25))) := Lib.hid (fm_one w _ _)
  have OS : Hid (∀ w' : World, Fm w [⟨w.heap.size, w.heap.size + 1, BoxP w.heap.size 25 (stc s A n c)⟩] w' → (w'.cell? ⟨w.heap.size, 0, none⟩ = some (.int .i64 s.r) ∧ w'.cell? ⟨w.heap.size, 1, none⟩ = some (.int .i64 s.b) ∧ w'.cell? ⟨w.heap.size, 2, none⟩ = some (.int .i64 s.pr) ∧ w'.cell? ⟨w.heap.size, 3, none⟩ = some (.int .i64 s.pb) ∧ w'.cell? ⟨w.heap.size, 4, none⟩ = some (.int .i64 s.me) ∧ w'.cell? ⟨w.heap.size, 5, none⟩ = some (.int .i64 s.ea) ∧ w'.cell? ⟨w.heap.size, 6, none⟩ = some (.int .i64 s.q) ∧ w'.cell? ⟨w.heap.size, 7, none⟩ = some (.slice A n c))) := Lib.hid (fun w' F => rec_sc (fm_blk F 0 rfl))
  have F5 := Lib.hid (fm_drew F0.out)
  have hS0 := OS.out _ F5.out
  have z0 := Lib.hid (show (w.alloc (.cells (stc s A n c) 25)).drew.heap.size = w.heap.size + 1 by simp)
  clear h hl3 hl1 hl2 hNL F0
  go_enter Try.func11, Try.ntmps11
  go_upto_region 1 with fail
  go_cut [3] from 6 to 11 (fun s3 wx => AcP w s A n c s3 wx)
  case first =>
    refine held_start (S := (fun w' : World => (w'.cell? ⟨w.heap.size, 0, none⟩ = some (.int .i64 s.r) ∧ w'.cell? ⟨w.heap.size, 1, none⟩ = some (.int .i64 s.b) ∧ w'.cell? ⟨w.heap.size, 2, none⟩ = some (.int .i64 s.pr) ∧ w'.cell? ⟨w.heap.size, 3, none⟩ = some (.int .i64 s.pb) ∧ w'.cell? ⟨w.heap.size, 4, none⟩ = some (.int .i64 s.me) ∧ w'.cell? ⟨w.heap.size, 5, none⟩ = some (.int .i64 s.ea) ∧ w'.cell? ⟨w.heap.size, 6, none⟩ = some (.int .i64 s.q) ∧ w'.cell? ⟨w.heap.size, 7, none⟩ = some (.slice A n c)))) 7 (by kernel_rfl) ?_
    generalize (w.alloc (.cells (stc s A n c) 25)).drew = w0 at F5 z0 hS0 ⊢
    refine held_take (i := 0) (oi := { dst := some 6, op := Op.fieldAddr 25 (Operand.tmp 1) 4, type := 0, pos := "l8_guards.go:7", after := #[], guard := none }) (v := ?_) rfl (by kernel_rfl) (by kernel_rfl) (by kernel_rfl) (by kernel_rfl) (fun _ _ _ h => h) (Or.inl ⟨by rfl, ?_⟩) hS0 ?_
    rotate_left
    · (intro w9 hSw; (try dsimp only at hSw); go_simp; try with_reducible rfl)
    try simp only [Act.put, List.setIfInBounds_toArray, List.set_cons_zero, List.set_cons_succ]
    refine held_take (i := 1) (oi := { dst := some 7, op := Op.load 3 (Operand.tmp 6), type := 3, pos := "l8_guards.go:7", after := #[{ on := 0, ground := Ground.data }], guard := none }) (v := ?_) rfl (by kernel_rfl) (by kernel_rfl) (by kernel_rfl) (by kernel_rfl) (fun _ _ _ h => h) (Or.inl ⟨by rfl, ?_⟩) hS0 ?_
    rotate_left
    · (intro w9 hSw; (try dsimp only at hSw); go_simp; try with_reducible rfl)
    try simp only [Act.put, List.setIfInBounds_toArray, List.set_cons_zero, List.set_cons_succ]
    refine held_take (i := 2) (oi := { dst := some 8, op := Op.fieldAddr 25 (Operand.tmp 1) 5, type := 0, pos := "l8_guards.go:7", after := #[], guard := none }) (v := ?_) rfl (by kernel_rfl) (by kernel_rfl) (by kernel_rfl) (by kernel_rfl) (fun _ _ _ h => h) (Or.inl ⟨by rfl, ?_⟩) hS0 ?_
    rotate_left
    · (intro w9 hSw; (try dsimp only at hSw); go_simp; try with_reducible rfl)
    try simp only [Act.put, List.setIfInBounds_toArray, List.set_cons_zero, List.set_cons_succ]
    refine held_take (i := 3) (oi := { dst := some 9, op := Op.load 3 (Operand.tmp 8), type := 3, pos := "l8_guards.go:7", after := #[{ on := 2, ground := Ground.data }], guard := none }) (v := ?_) rfl (by kernel_rfl) (by kernel_rfl) (by kernel_rfl) (by kernel_rfl) (fun _ _ _ h => h) (Or.inl ⟨by rfl, ?_⟩) hS0 ?_
    rotate_left
    · (intro w9 hSw; (try dsimp only at hSw); go_simp; try with_reducible rfl)
    try simp only [Act.put, List.setIfInBounds_toArray, List.set_cons_zero, List.set_cons_succ]
    refine held_two (i := 4) (j := 6) (oi := { dst := some 10, op := Op.makeSlice 23 (Operand.const (Value.int IntKind.i64 8)) (Operand.const (Value.int IntKind.i64 8)), type := 23, pos := "l8_guards.go:7", after := #[], guard := none }) (oj := { dst := some 3, op := Op.alloc 32, type := 0, pos := "l8_guards.go:7", after := #[], guard := none }) (by kernel_rfl) rfl rfl (fun K hK => ?_) (fun K hK => ?_)
    · refine step_makeI _ rfl (.const (.int .i64 8)) (.const (.int .i64 8)) rfl 8 rfl rfl (by omega) ?_
      intro w1 ho1 hb1
      have F6 := Lib.hid (fm_below F5.out hb1)
      have N6 := Lib.hid (nr_own ho1)
      have hS6 := OS.out _ F6.out
      clear hb1 ho1
      refine hK.out _ _ (.inr hS6) ?_
      clear hK K
      try simp only [Act.put, List.setIfInBounds_toArray, List.set_cons_zero, List.set_cons_succ]
      refine held_take (i := 5) (oi := { dst := some 11, op := Op.build 32 #[(0, Operand.tmp 7), (1, Operand.tmp 9), (2, Operand.tmp 10)], type := 32, pos := "l8_guards.go:7", after := #[{ on := 1, ground := Ground.data }, { on := 3, ground := Ground.data }, { on := 4, ground := Ground.data }], guard := none }) (v := ?_) rfl (by kernel_rfl) (by kernel_rfl) (by kernel_rfl) (by kernel_rfl) (fun _ _ _ h => h) (Or.inl ⟨by rfl, ?_⟩) hS6 ?_
      rotate_left
      · (intro w9 hSw; (try dsimp only at hSw); go_simp; try with_reducible rfl)
      try simp only [Act.put, List.setIfInBounds_toArray, List.set_cons_zero, List.set_cons_succ]
      refine held_one (i := 6) (o := { dst := some 3, op := Op.alloc 32, type := 0, pos := "l8_guards.go:7", after := #[], guard := none }) (by kernel_rfl) rfl (fun K hK => ?_)
      go_simp
      have F7 := Lib.hid (fm_alloc F6.out (.cells #[.int .i64 0, .int .i64 0, .slice none 0 0] 32))
      have hS7 := OS.out _ F7.out
      refine hK.out _ _ (.inr hS7) ?_
      clear hK K
      try simp only [Act.put, List.setIfInBounds_toArray, List.set_cons_zero, List.set_cons_succ]
      refine held_one (i := 7) (o := { dst := none, op := Op.store 32 (Operand.tmp 3) (Operand.tmp 11), type := 0, pos := "l8_guards.go:7", after := #[{ on := 6, ground := Ground.data }, { on := 5, ground := Ground.data }, { on := 0, ground := Ground.phase }, { on := 1, ground := Ground.phase }, { on := 2, ground := Ground.phase }, { on := 3, ground := Ground.phase }, { on := 4, ground := Ground.phase }, { on := 5, ground := Ground.phase }, { on := 6, ground := Ground.phase }], guard := none }) (by kernel_rfl) rfl (fun K hK => ?_)
      go_simp
      refine hK.out _ _ (.inl rfl) ?_
      clear hK K
      try simp only [Act.put, List.setIfInBounds_toArray, List.set_cons_zero, List.set_cons_succ]
      refine held_done (by kernel_rfl) ?_ _
      go_wp2_with fail
      go_meet
      first
        | exact ⟨_, _, rfl, blk_new _ _ _, nr_alloc N6.out _, fm_alloc F6.out _⟩
        | exact ⟨w0.heap.size, _, rfl, blk_set (blk_set (blk_set YB.out 0 _) 1 _) 2 _, nr_set (p := ⟨w0.heap.size, 2, none⟩) (nr_set (p := ⟨w0.heap.size, 1, none⟩) (nr_set (p := ⟨w0.heap.size, 0, none⟩) N6.out (fun _ b e => by have h9 := Option.some.inj e; simp at h9; show b ≠ w0.heap.size; omega) _) (fun _ b e => by have h9 := Option.some.inj e; simp at h9; show b ≠ w0.heap.size; omega) _) (fun _ b e => by have h9 := Option.some.inj e; simp at h9; show b ≠ w0.heap.size; omega) _, fm_out (fm_out (fm_out F6.out (fun y hy => by have := z0.out; simp only [List.mem_cons, List.not_mem_nil, or_false] at hy; rcases hy with rfl; simp only; omega) (by have := z0.out; omega) _) (fun y hy => by have := z0.out; simp only [List.mem_cons, List.not_mem_nil, or_false] at hy; rcases hy with rfl; simp only; omega) (by have := z0.out; omega) _) (fun y hy => by have := z0.out; simp only [List.mem_cons, List.not_mem_nil, or_false] at hy; rcases hy with rfl; simp only; omega) (by have := z0.out; omega) _⟩
    · go_simp
      have F7 := Lib.hid (fm_alloc F5.out (.cells #[.int .i64 0, .int .i64 0, .slice none 0 0] 32))
      have hS7 := OS.out _ F7.out
      refine hK.out _ _ (.inr hS7) ?_
      clear hK K
      try simp only [Act.put, List.setIfInBounds_toArray, List.set_cons_zero, List.set_cons_succ]
      refine held_one (i := 4) (o := { dst := some 10, op := Op.makeSlice 23 (Operand.const (Value.int IntKind.i64 8)) (Operand.const (Value.int IntKind.i64 8)), type := 23, pos := "l8_guards.go:7", after := #[], guard := none }) (by kernel_rfl) rfl (fun K hK => ?_)
      refine step_makeI _ rfl (.const (.int .i64 8)) (.const (.int .i64 8)) rfl 8 rfl rfl (by omega) ?_
      intro w1 ho1 hb1
      have F6 := Lib.hid (fm_below F7.out hb1)
      have N6 := Lib.hid (nr_own ho1)
      have hS6 := OS.out _ F6.out
      have N6 := Lib.hid (show NR w1 (some ⟨w0.heap.size + 1, 0, none⟩) 8 (List.replicate 8 0) by have h9 := N6.out; rw [World.size_alloc] at h9; exact h9)
      have YB := Lib.hid (blk_below (blk_new w0 32 #[.int .i64 0, .int .i64 0, .slice none 0 0]) hb1 (by simp))
      obtain ⟨⟨y0, y1, y2⟩, yf0, yf1, yf2⟩ := blk_three YB.out
      have yz := blk_lt YB.out
      clear hb1 ho1
      refine hK.out _ _ (.inr hS6) ?_
      clear hK K
      try simp only [Act.put, List.setIfInBounds_toArray, List.set_cons_zero, List.set_cons_succ]
      refine held_take (i := 5) (oi := { dst := some 11, op := Op.build 32 #[(0, Operand.tmp 7), (1, Operand.tmp 9), (2, Operand.tmp 10)], type := 32, pos := "l8_guards.go:7", after := #[{ on := 1, ground := Ground.data }, { on := 3, ground := Ground.data }, { on := 4, ground := Ground.data }], guard := none }) (v := ?_) rfl (by kernel_rfl) (by kernel_rfl) (by kernel_rfl) (by kernel_rfl) (fun _ _ _ h => h) (Or.inl ⟨by rfl, ?_⟩) hS6 ?_
      rotate_left
      · (intro w9 hSw; (try dsimp only at hSw); go_simp; try with_reducible rfl)
      try simp only [Act.put, List.setIfInBounds_toArray, List.set_cons_zero, List.set_cons_succ]
      refine held_one (i := 7) (o := { dst := none, op := Op.store 32 (Operand.tmp 3) (Operand.tmp 11), type := 0, pos := "l8_guards.go:7", after := #[{ on := 6, ground := Ground.data }, { on := 5, ground := Ground.data }, { on := 0, ground := Ground.phase }, { on := 1, ground := Ground.phase }, { on := 2, ground := Ground.phase }, { on := 3, ground := Ground.phase }, { on := 4, ground := Ground.phase }, { on := 5, ground := Ground.phase }, { on := 6, ground := Ground.phase }], guard := none }) (by kernel_rfl) rfl (fun K hK => ?_)
      go_simp
      refine hK.out _ _ (.inl rfl) ?_
      clear hK K
      try simp only [Act.put, List.setIfInBounds_toArray, List.set_cons_zero, List.set_cons_succ]
      refine held_done (by kernel_rfl) ?_ _
      go_wp2_with fail
      go_meet
      first
        | exact ⟨_, _, rfl, blk_new _ _ _, nr_alloc N6.out _, fm_alloc F6.out _⟩
        | exact ⟨w0.heap.size, _, rfl, blk_set (blk_set (blk_set YB.out 0 _) 1 _) 2 _, nr_set (p := ⟨w0.heap.size, 2, none⟩) (nr_set (p := ⟨w0.heap.size, 1, none⟩) (nr_set (p := ⟨w0.heap.size, 0, none⟩) N6.out (fun _ b e => by have h9 := Option.some.inj e; simp at h9; show b ≠ w0.heap.size; omega) _) (fun _ b e => by have h9 := Option.some.inj e; simp at h9; show b ≠ w0.heap.size; omega) _) (fun _ b e => by have h9 := Option.some.inj e; simp at h9; show b ≠ w0.heap.size; omega) _, fm_out (fm_out (fm_out F6.out (fun y hy => by have := z0.out; simp only [List.mem_cons, List.not_mem_nil, or_false] at hy; rcases hy with rfl; simp only; omega) (by have := z0.out; omega) _) (fun y hy => by have := z0.out; simp only [List.mem_cons, List.not_mem_nil, or_false] at hy; rcases hy with rfl; simp only; omega) (by have := z0.out; omega) _) (fun y hy => by have := z0.out; simp only [List.mem_cons, List.not_mem_nil, or_false] at hy; rcases hy with rfl; simp only; omega) (by have := z0.out; omega) _⟩
  case rest =>
  obtain ⟨AB, Am, rfl, hAB, hAm, hF⟩ := hcut
  have F1 := Lib.hid hF
  have XB := Lib.hid hAB
  have XM := Lib.hid hAm
  clear hAB hAm hF hS0 F5
  obtain ⟨q0, q1, q2, q3, q4, q5, q6, q7⟩ := OS.out _ F1.out
  go_wp2_with fail
  refine (HNL.out A n c _ (nr_below H.out F1.out.below) hn).mono ?_
  rintro e w2 ⟨Al, nl, cl, Bl, ml, dl, Cl, ol, fl, hsl, ivl, rfl, hL, -, hb⟩
  have F2 := Lib.hid (fm_alloc (fm_below F1.out hb) (.cells #[.slice Al nl cl, .slice Bl ml dl, .slice Cl ol fl] 35))
  have XB2 := Lib.hid (blk_alloc (blk_below XB.out hb (blk_lt XB.out)) (.cells #[.slice Al nl cl, .slice Bl ml dl, .slice Cl ol fl] 35))
  have XM2 := Lib.hid (nr_alloc (nr_below XM.out hb) (.cells #[.slice Al nl cl, .slice Bl ml dl, .slice Cl ol fl] 35))
  clear hb hL F1 XB XM q0 q1 q2 q3 q4 q5 q6 q7
  obtain ⟨q0, q1, q2, q3, q4, q5, q6, q7⟩ := OS.out _ F2.out
  obtain ⟨⟨y0, y1, y2⟩, -⟩ := blk_three XB2.out
  rcases h1 : rbB s.r s.b with _ | _
  · have HE := Lib.hid (sv_no (s := s) fun v => by have := v.a; rw [h1] at this; cases this)
    go_wp2_with (go_at_call 33; refine (ratesS_any _ _ _).mono ?_; rintro e w' ⟨rfl, rfl⟩; rw [h1])
    go_ret
    exact ⟨ret_bool HE.out, F2.out.below⟩
  rcases h2 : rbB s.pr s.pb with _ | _
  · have HE := Lib.hid (sv_no (s := s) fun v => by have := v.p; rw [h2] at this; cases this)
    go_wp2_with (go_at_call 33; refine (ratesS_any _ _ _).mono ?_; rintro e w' ⟨rfl, rfl⟩; first | rw [h1] | rw [h2])
    go_ret
    exact ⟨ret_bool HE.out, F2.out.below⟩
  go_wp2_with (go_at_call 33; refine (ratesS_any _ _ _).mono ?_; rintro e w' ⟨rfl, rfl⟩; first | rw [h1] | rw [h2])
  refine (acS_any s.me s.ea Am 8 8 (List.replicate 8 0) _ XM2.out (by omega)).mono ?_
  rintro e w3 ⟨rfl, hb⟩
  have F3 := Lib.hid (fm_below F2.out hb)
  clear hb F2 XB2 XM2 q0 q1 q2 q3 q4 q5 q6 q7 y0 y1 y2
  rcases h3 : acB s.me s.ea (List.replicate 8 0) with _ | _
  · have HE := Lib.hid (sv_no (s := s) fun v => by have := v.m; rw [h3] at this; cases this)
    go_wp2
    go_ret
    exact ⟨ret_bool HE.out, F3.out.below⟩
  rcases okl with _ | _
  · have HE := Lib.hid (sv_no (s := s) fun v => by have := KL.out.2.1.2 v.l; cases this)
    go_wp2
    go_ret
    exact ⟨ret_bool HE.out, F3.out.below⟩
  · have HE := Lib.hid (sv_yes (s := s) ⟨h1, h2, h3, KL.out.2.1.1 rfl⟩)
    go_wp2
    go_ret
    exact ⟨ret_bool HE.out, F3.out.below⟩
end Go.Proofs.Ytanaeebjcbbagaa
