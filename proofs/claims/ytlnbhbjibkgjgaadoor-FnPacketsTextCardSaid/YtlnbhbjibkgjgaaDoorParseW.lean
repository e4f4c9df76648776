/-
  ParsePacket: what the program's function and the model's return. Conditions: the text's length fits an int.
-/
import Derived.Test.YtlnbhbjibkgjgaaDoorParse
import Derived.Test.YtlnbhbjibkgjgaaDoorC1
namespace Go.Proofs.YtlnbhbjibkgjgaaDoor
open Go.RowKit

theorem cutI_fn (s : ByteArray) (c : UInt8) (w : World) (hs : s.size ≤ 9223372036854775807) :
    Calls Tryd.prog 36 #[.string s, .string ⟨#[c]⟩] w fun e w' => e = .returned (.tuple #[.string (cutF s c).1, .string (cutF s c).2.1, .bool (cutF s c).2.2]) ∧ Below w.heap.size w w' :=
  (cutI_any s c w hs).mono fun e w' ⟨h, hb⟩ => by
    rcases h with ⟨i, hf, rfl⟩ | ⟨hn, rfl⟩
    · rw [cutF_yes hf]; exact ⟨rfl, hb⟩
    · rw [cutF_no hn]; exact ⟨rfl, hb⟩
theorem cutS_fn (s : ByteArray) (c : UInt8) (w : World) (hs : s.size ≤ 9223372036854775807) :
    Calls Tryd.prog 43 #[.string s, .int .u8 ((c.toNat : Nat) : Int)] w fun e w' => e = .returned (.tuple #[.string (if (cutF s c).2.2 = true then (cutF s c).1 else ⟨#[]⟩), .string (cutF s c).2.1, .bool (cutF s c).2.2]) ∧ Below w.heap.size w w' :=
  (cutS_any s c w hs).mono fun e w' ⟨h, hb⟩ => by
    rcases h with ⟨i, hf, rfl⟩ | ⟨hn, rfl⟩
    · rw [cutF_yes hf]; exact ⟨rfl, hb⟩
    · rw [cutF_no hn]; exact ⟨rfl, hb⟩
theorem cut_size (s : ByteArray) (c : UInt8) (hs : s.size ≤ 9223372036854775807) : (cutF s c).1.size ≤ 9223372036854775807 ∧ (cutF s c).2.1.size ≤ 9223372036854775807 := by
  rcases cut_cases s c with ⟨i, hi⟩ | hn
  · rw [cutF_yes hi]
    simp only [ByteArray.size_extract]
    omega
  · rw [cutF_no hn]
    exact ⟨hs, by show 0 ≤ _; omega⟩
theorem res_block {w w3 : World} {t : TypeId} {cs : Array Value} (h : Below (w.alloc (.cells cs t)).heap.size (w.alloc (.cells cs t)) w3) : Blk w3 w.heap.size t cs ∧ w.heap.size < w3.heap.size := by
  have hb := blk_below (blk_new w t cs) h (by simp)
  exact ⟨hb, blk_lt hb⟩
def ParsePost (s : ByteArray) (w : World) (e : Ending) (w' : World) : Prop :=
  ((okT s = true ∧ e = .returned (.tuple #[.agg #[.int .i64 (pktOf s).peer, .int .i64 (pktOf s).lane, .int .i64 (pktOf s).size, .int .i64 (pktOf s).id], .bool true])) ∨
    (okT s = false ∧ e = .returned (.tuple #[.agg #[.int .i64 0, .int .i64 0, .int .i64 0, .int .i64 0], .bool false]))) ∧ Below w.heap.size w w'
set_option maxRecDepth 100000 in
set_option maxHeartbeats 2000000 in
theorem parseI_any (s : ByteArray) (w : World) (hs : s.size ≤ 9223372036854775807) :
    Calls Tryd.prog 12 #[.string s] w (ParsePost s w) := by
  have z1 := cut_size s 47 hs
  have z2 := cut_size (cutF s 47).2.1 58 z1.2
  have z3 := cut_size (cutF (cutF s 47).2.1 58).2.1 35 z2.2
  have Z := Lib.hid (And.intro z1 (And.intro z2 z3))
  clear z1 z2 z3
  go_enter Tryd.func12, Tryd.ntmps12
  go_wp2_with fail
  refine (cutI_fn s 47 _ hs).mono ?_
  rintro e w1 ⟨rfl, hb1⟩
  have B1 := Lib.hid hb1
  clear hb1
  go_wp2_with fail
  refine (cutI_fn (cutF s 47).2.1 58 _ Z.out.1.2).mono ?_
  rintro e w2 ⟨rfl, hb2⟩
  have B2 := Lib.hid (below_seq B1.out hb2)
  clear hb2
  go_wp2_with fail
  refine (cutI_fn (cutF (cutF s 47).2.1 58).2.1 35 _ Z.out.2.1.2).mono ?_
  rintro e w3 ⟨rfl, hb3⟩
  have B3 := Lib.hid (below_seq B2.out hb3)
  clear hb3
  go_wp2_with fail
  refine (parseNumber_any (cutF s 47).1 _ Z.out.1.1).mono ?_
  rintro e w4 ⟨rfl, rfl⟩
  go_wp2_with fail
  refine (parseNumber_any (cutF (cutF s 47).2.1 58).1 _ Z.out.2.1.1).mono ?_
  rintro e w4 ⟨rfl, rfl⟩
  go_wp2_with fail
  refine (parseNumber_any (cutF (cutF (cutF s 47).2.1 58).2.1 35).1 _ Z.out.2.2.1).mono ?_
  rintro e w4 ⟨rfl, rfl⟩
  go_wp2_with fail
  refine (parseNumber_any (cutF (cutF (cutF s 47).2.1 58).2.1 35).2.1 _ Z.out.2.2.2).mono ?_
  rintro e w4 ⟨rfl, rfl⟩
  have hP : Hid (pktOf s = ⟨numV (cutF s 47).1.data.toList, numV (cutF (cutF s 47).2.1 58).1.data.toList, numV (cutF (cutF (cutF s 47).2.1 58).2.1 35).1.data.toList, numV (cutF (cutF (cutF s 47).2.1 58).2.1 35).2.1.data.toList⟩) := Lib.hid rfl
  have hO : Hid (okT s = (numOk (cutF s 47).1.data.toList && numOk (cutF (cutF s 47).2.1 58).1.data.toList && numOk (cutF (cutF (cutF s 47).2.1 58).2.1 35).1.data.toList && numOk (cutF (cutF (cutF s 47).2.1 58).2.1 35).2.1.data.toList && vldB (pktOf s))) := Lib.hid rfl
  generalize numV (cutF s 47).1.data.toList = a at hP ⊢
  generalize numV (cutF (cutF s 47).2.1 58).1.data.toList = b at hP ⊢
  generalize numV (cutF (cutF (cutF s 47).2.1 58).2.1 35).1.data.toList = c at hP ⊢
  generalize numV (cutF (cutF (cutF s 47).2.1 58).2.1 35).2.1.data.toList = d at hP ⊢
  generalize numOk (cutF s 47).1.data.toList = oa at hO ⊢
  generalize numOk (cutF (cutF s 47).2.1 58).1.data.toList = ob at hO ⊢
  generalize numOk (cutF (cutF (cutF s 47).2.1 58).2.1 35).1.data.toList = oc at hO ⊢
  generalize numOk (cutF (cutF (cutF s 47).2.1 58).2.1 35).2.1.data.toList = od at hO ⊢
  have BW := Lib.hid (below_from (below_alloc (Below.refl w.heap.size w) (.cells #[.int .i64 0, .int .i64 0, .int .i64 0, .int .i64 0] 24)) B3.out (by simp))
  have hR := res_block B3.out
  have hlt := hR.2
  have HR := Lib.hid hR.1
  have r0 : w3.cell? ⟨w.heap.size, 0, none⟩ = some (.int .i64 0) := blk_cell HR.out 0
  have r1 : w3.cell? ⟨w.heap.size, 1, none⟩ = some (.int .i64 0) := blk_cell HR.out 1
  have r2 : w3.cell? ⟨w.heap.size, 2, none⟩ = some (.int .i64 0) := blk_cell HR.out 2
  have r3 : w3.cell? ⟨w.heap.size, 3, none⟩ = some (.int .i64 0) := blk_cell HR.out 3
  have g0 := blk_free HR.out 0
  have g1 := blk_free HR.out 1
  have g2 := blk_free HR.out 2
  have g3 := blk_free HR.out 3
  clear hR
  rcases oa with _ | _
  · go_wp2
    refine bodyPost_ret (v := .tuple #[.agg #[.int .i64 0, .int .i64 0, .int .i64 0, .int .i64 0], .bool false]) (by simp [results, Tryd.results12, go_sem, r0, r1, r2, r3, hlt, World.cell?_alloc_past]) rfl ⟨.inr ⟨by rw [hO.out]; simp, rfl⟩, ?_⟩
    exact below_alloc ((((BW.out.setCell (Nat.le_refl _) _).setCell (Nat.le_refl _) _).setCell (Nat.le_refl _) _).setCell (Nat.le_refl _) _) _
  rcases ob with _ | _
  · go_wp2
    refine bodyPost_ret (v := .tuple #[.agg #[.int .i64 0, .int .i64 0, .int .i64 0, .int .i64 0], .bool false]) (by simp [results, Tryd.results12, go_sem, r0, r1, r2, r3, hlt, World.cell?_alloc_past]) rfl ⟨.inr ⟨by rw [hO.out]; simp, rfl⟩, ?_⟩
    exact below_alloc ((((BW.out.setCell (Nat.le_refl _) _).setCell (Nat.le_refl _) _).setCell (Nat.le_refl _) _).setCell (Nat.le_refl _) _) _
  rcases oc with _ | _
  · go_wp2
    refine bodyPost_ret (v := .tuple #[.agg #[.int .i64 0, .int .i64 0, .int .i64 0, .int .i64 0], .bool false]) (by simp [results, Tryd.results12, go_sem, r0, r1, r2, r3, hlt, World.cell?_alloc_past]) rfl ⟨.inr ⟨by rw [hO.out]; simp, rfl⟩, ?_⟩
    exact below_alloc ((((BW.out.setCell (Nat.le_refl _) _).setCell (Nat.le_refl _) _).setCell (Nat.le_refl _) _).setCell (Nat.le_refl _) _) _
  rcases od with _ | _
  · go_wp2
    refine bodyPost_ret (v := .tuple #[.agg #[.int .i64 0, .int .i64 0, .int .i64 0, .int .i64 0], .bool false]) (by simp [results, Tryd.results12, go_sem, r0, r1, r2, r3, hlt, World.cell?_alloc_past]) rfl ⟨.inr ⟨by rw [hO.out]; simp, rfl⟩, ?_⟩
    exact below_alloc ((((BW.out.setCell (Nat.le_refl _) _).setCell (Nat.le_refl _) _).setCell (Nat.le_refl _) _).setCell (Nat.le_refl _) _) _
  clear r0 r1 r2 r3 g0 g1 g2 g3
  go_wp2_with fail
  refine (vldI_any ⟨a, b, c, d⟩ _).mono ?_
  rintro e w5 ⟨rfl, hb5⟩
  have HR5 := Lib.hid (blk_below (blk_alloc HR.out _) hb5 (by simp; omega))
  obtain ⟨q0, q1, q2, q3⟩ := (show PAt w5 w3.heap.size 0 ⟨a, b, c, d⟩ from pat_keep (pat_new w3 24 ⟨a, b, c, d⟩) fun x => (bcell hb5).1 _ x (by simp))
  have BW5 := Lib.hid (BW.out.trans ((Below.alloc (Below.refl w.heap.size w3) BW.out.size _).trans (hb5.mono (by simp; omega))))
  have hlt5 : w.heap.size < w5.heap.size := by have := hb5.size; simp at this; omega
  clear hb5
  have r0 : w5.cell? ⟨w.heap.size, 0, none⟩ = some (.int .i64 0) := blk_cell HR5.out 0
  have r1 : w5.cell? ⟨w.heap.size, 1, none⟩ = some (.int .i64 0) := blk_cell HR5.out 1
  have r2 : w5.cell? ⟨w.heap.size, 2, none⟩ = some (.int .i64 0) := blk_cell HR5.out 2
  have r3 : w5.cell? ⟨w.heap.size, 3, none⟩ = some (.int .i64 0) := blk_cell HR5.out 3
  have g0 := blk_free HR5.out 0
  have g1 := blk_free HR5.out 1
  have g2 := blk_free HR5.out 2
  have g3 := blk_free HR5.out 3
  have hV : Hid (okT s = vldB ⟨a, b, c, d⟩) := Lib.hid (by rw [hO.out, hP.out]; simp)
  rcases hv : vldB ⟨a, b, c, d⟩ with _ | _
  · have HV := Lib.hid (hV.out.trans hv)
    go_wp2
    refine bodyPost_ret (v := .tuple #[.agg #[.int .i64 0, .int .i64 0, .int .i64 0, .int .i64 0], .bool false]) (by simp [results, Tryd.results12, go_sem, r0, r1, r2, r3]) rfl ⟨.inr ⟨HV.out, rfl⟩, ?_⟩
    exact (((BW5.out.setCell (Nat.le_refl _) _).setCell (Nat.le_refl _) _).setCell (Nat.le_refl _) _).setCell (Nat.le_refl _) _
  · have HV := Lib.hid (hV.out.trans hv)
    go_wp2
    refine bodyPost_ret (v := .tuple #[.agg #[.int .i64 a, .int .i64 b, .int .i64 c, .int .i64 d], .bool true]) (by simp [results, Tryd.results12, go_sem, r0, r1, r2, r3]) rfl ⟨.inl ⟨HV.out, by rw [hP.out]⟩, ?_⟩
    exact (((BW5.out.setCell (Nat.le_refl _) _).setCell (Nat.le_refl _) _).setCell (Nat.le_refl _) _).setCell (Nat.le_refl _) _
def NumSPost (l : List UInt8) (w : World) (e : Ending) (w' : World) : Prop :=
  (∃ (z : Int) (ok : Bool), e = .returned (.tuple #[.int .i64 z, .bool ok]) ∧ ((z = numV l ∧ ok = numOk l) ∨ (numOk l = false ∧ ok = true ∧ z < 0))) ∧ w = w'
theorem l13Num_any (s : ByteArray) (w : World) (hs : s.size ≤ 9223372036854775807) : Calls Tryd.prog 44 #[.string s] w (NumSPost s.data.toList w) := by
  by_cases h : ∃ h : 0 < s.size, s[0].toNat = 45
  · obtain ⟨h0, hm⟩ := h
    have hN : numOk s.data.toList = false := not_dig h0 (by omega)
    refine (l13Num_neg s w h0 hm hs).mono ?_
    rintro e w' ⟨h | h, rfl⟩
    · obtain ⟨z, hz, rfl⟩ := h
      exact ⟨⟨z, true, rfl, .inr ⟨hN, rfl, hz⟩⟩, rfl⟩
    · exact ⟨⟨0, false, h, .inl ⟨(numV_no hN).symm, hN.symm⟩⟩, rfl⟩
  · refine (l13Num_pos s w hs (fun h0 hm => h ⟨h0, hm⟩)).mono ?_
    rintro e w' ⟨rfl, rfl⟩
    exact ⟨⟨_, _, rfl, .inl ⟨rfl, rfl⟩⟩, rfl⟩
theorem cutS_at (s : ByteArray) (c : UInt8) (k : Int) (hk : k = ((c.toNat : Nat) : Int)) (w : World) (hs : s.size ≤ 9223372036854775807) :
    Calls Tryd.prog 43 #[.string s, .int .u8 k] w fun e w' => e = .returned (.tuple #[.string (if (cutF s c).2.2 = true then (cutF s c).1 else ⟨#[]⟩), .string (cutF s c).2.1, .bool (cutF s c).2.2]) ∧ Below w.heap.size w w' := by
  subst hk
  exact cutS_fn s c w hs
def CutSome (w : World) (e : Ending) (w' : World) : Prop := (∃ (b r : ByteArray) (f : Bool), r.size ≤ 9223372036854775807 ∧ e = .returned (.tuple #[.string b, .string r, .bool f])) ∧ Below w.heap.size w w'
theorem cutS_some (s : ByteArray) (c : UInt8) (k : Int) (hk : k = ((c.toNat : Nat) : Int)) (w : World) (hs : s.size ≤ 9223372036854775807) :
    Calls Tryd.prog 43 #[.string s, .int .u8 k] w (CutSome w) :=
  (cutS_at s c k hk w hs).mono fun _ _ ⟨he, hb⟩ => ⟨⟨_, _, _, (cut_size s c hs).2, he⟩, hb⟩
theorem not_found {s : ByteArray} (h : ¬ ((cutF s 47).2.2 = true ∧ (cutF (cutF s 47).2.1 58).2.2 = true ∧ (cutF (cutF (cutF s 47).2.1 58).2.1 35).2.2 = true)) : okT s = false := by
  rcases h1 : okT s with _ | _
  · rfl
  · exact absurd (ok_found h1) h
theorem ok_num {s : ByteArray} {a b c d : Int} {oa ob oc od : Bool}
    (ha : (a = numV (partsOf s).a.data.toList ∧ oa = numOk (partsOf s).a.data.toList) ∨ (numOk (partsOf s).a.data.toList = false ∧ oa = true ∧ a < 0))
    (hb : (b = numV (partsOf s).b.data.toList ∧ ob = numOk (partsOf s).b.data.toList) ∨ (numOk (partsOf s).b.data.toList = false ∧ ob = true ∧ b < 0))
    (hc : (c = numV (partsOf s).c.data.toList ∧ oc = numOk (partsOf s).c.data.toList) ∨ (numOk (partsOf s).c.data.toList = false ∧ oc = true ∧ c < 0))
    (hd : (d = numV (partsOf s).d.data.toList ∧ od = numOk (partsOf s).d.data.toList) ∨ (numOk (partsOf s).d.data.toList = false ∧ od = true ∧ d < 0)) :
    okT s = (oa && ob && oc && od && vldB ⟨a, b, c, d⟩) ∧ (okT s = true → a = ((valL (partsOf s).a.data.toList : Nat) : Int) ∧ b = ((valL (partsOf s).b.data.toList : Nat) : Int) ∧ c = ((valL (partsOf s).c.data.toList : Nat) : Int) ∧ d = ((valL (partsOf s).d.data.toList : Nat) : Int)) := by
  have neg : ∀ {a b c d : Int}, (a < 0 ∨ b < 0 ∨ c < 0 ∨ d < 0) → vldB ⟨a, b, c, d⟩ = false := by
    intro a b c d h
    simp only [vldB, decide_eq_false_iff_not]
    omega
  have main : okT s = (oa && ob && oc && od && vldB ⟨a, b, c, d⟩) := by
    rcases ha with ⟨rfl, rfl⟩ | ⟨ha, rfl, h⟩
    · rcases hb with ⟨rfl, rfl⟩ | ⟨hb, rfl, h⟩
      · rcases hc with ⟨rfl, rfl⟩ | ⟨hc, rfl, h⟩
        · rcases hd with ⟨rfl, rfl⟩ | ⟨hd, rfl, h⟩
          · rfl
          · rw [neg (.inr (.inr (.inr h)))]; simp [okT, hd]
        · rw [neg (.inr (.inr (.inl h)))]; simp [okT, hc]
      · rw [neg (.inr (.inl h))]; simp [okT, hb]
    · rw [neg (.inl h)]; simp [okT, ha]
  refine ⟨main, fun hk => ?_⟩
  have hk' := hk
  simp only [okT, Bool.and_eq_true] at hk'
  obtain ⟨⟨⟨⟨ka, kb⟩, kc⟩, kd⟩, _⟩ := hk'
  refine ⟨?_, ?_, ?_, ?_⟩
  · rcases ha with ⟨rfl, _⟩ | ⟨h, _⟩
    · exact numV_yes ka
    · rw [ka] at h; cases h
  · rcases hb with ⟨rfl, _⟩ | ⟨h, _⟩
    · exact numV_yes kb
    · rw [kb] at h; cases h
  · rcases hc with ⟨rfl, _⟩ | ⟨h, _⟩
    · exact numV_yes kc
    · rw [kc] at h; cases h
  · rcases hd with ⟨rfl, _⟩ | ⟨h, _⟩
    · exact numV_yes kd
    · rw [kd] at h; cases h
set_option maxRecDepth 100000 in
set_option maxHeartbeats 4000000 in
theorem parseS_any (s : ByteArray) (w : World) (hs : s.size ≤ 9223372036854775807) :
    Calls Tryd.prog 17 #[.string s] w (ParsePost s w) := by
  have z1 := cut_size s 47 hs
  have z2 := cut_size (cutF s 47).2.1 58 z1.2
  have z3 := cut_size (cutF (cutF s 47).2.1 58).2.1 35 z2.2
  have Z := Lib.hid (And.intro z1 (And.intro z2 z3))
  clear z1 z2 z3
  rcases h1 : (cutF s 47).2.2 with _ | _
  · have H1 := Lib.hid h1
    have HN := Lib.hid (not_found (s := s) (by rw [h1]; simp))
    clear h1
    go_enter Tryd.func17, Tryd.ntmps17
    go_wp2_with fail
    refine (cutS_at s 47 47 rfl _ hs).mono ?_
    rintro e w1 ⟨rfl, hb1⟩
    rw [H1.out]
    have B1 := Lib.hid hb1
    clear hb1
    go_wp2_with fail
    refine (cutS_some (cutF s 47).2.1 58 58 rfl _ Z.out.1.2).mono ?_
    rintro e w2 ⟨⟨b2, r2', f2, hs2, rfl⟩, hb2⟩
    have B2 := Lib.hid (below_seq B1.out hb2)
    clear hb2
    go_wp2_with fail
    refine (cutS_some r2' 35 35 rfl _ hs2).mono ?_
    rintro e w3 ⟨⟨b3, r3', f3, hs3, rfl⟩, hb3⟩
    have B3 := Lib.hid (below_seq B2.out hb3)
    clear hb3
    have BW := Lib.hid (below_from (below_alloc (Below.refl w.heap.size w) (.cells #[.int .i64 0, .int .i64 0, .int .i64 0, .int .i64 0] 24)) B3.out (by simp))
    have hR := res_block B3.out
    have hlt := hR.2
    have HR := Lib.hid hR.1
    have r0 : w3.cell? ⟨w.heap.size, 0, none⟩ = some (.int .i64 0) := blk_cell HR.out 0
    have r1 : w3.cell? ⟨w.heap.size, 1, none⟩ = some (.int .i64 0) := blk_cell HR.out 1
    have r2 : w3.cell? ⟨w.heap.size, 2, none⟩ = some (.int .i64 0) := blk_cell HR.out 2
    have r3 : w3.cell? ⟨w.heap.size, 3, none⟩ = some (.int .i64 0) := blk_cell HR.out 3
    have g0 := blk_free HR.out 0
    have g1 := blk_free HR.out 1
    have g2 := blk_free HR.out 2
    have g3 := blk_free HR.out 3
    clear hR
    go_wp2
    refine bodyPost_ret (v := .tuple #[.agg #[.int .i64 0, .int .i64 0, .int .i64 0, .int .i64 0], .bool false]) (by simp [results, Tryd.results17, go_sem, r0, r1, r2, r3]) rfl ⟨.inr ⟨HN.out, rfl⟩, ?_⟩
    exact (((BW.out.setCell (Nat.le_refl _) _).setCell (Nat.le_refl _) _).setCell (Nat.le_refl _) _).setCell (Nat.le_refl _) _
  rcases h2 : (cutF (cutF s 47).2.1 58).2.2 with _ | _
  · have H1 := Lib.hid h1
    have H2 := Lib.hid h2
    have HN := Lib.hid (not_found (s := s) (by rw [h2]; simp))
    clear h1 h2
    go_enter Tryd.func17, Tryd.ntmps17
    go_wp2_with fail
    refine (cutS_at s 47 47 rfl _ hs).mono ?_
    rintro e w1 ⟨rfl, hb1⟩
    rw [H1.out]
    have B1 := Lib.hid hb1
    clear hb1
    go_wp2_with fail
    refine (cutS_at (cutF s 47).2.1 58 58 rfl _ Z.out.1.2).mono ?_
    rintro e w2 ⟨rfl, hb2⟩
    rw [H2.out]
    have B2 := Lib.hid (below_seq B1.out hb2)
    clear hb2
    go_wp2_with fail
    refine (cutS_some (cutF (cutF s 47).2.1 58).2.1 35 35 rfl _ Z.out.2.1.2).mono ?_
    rintro e w3 ⟨⟨b3, r3', f3, hs3, rfl⟩, hb3⟩
    have B3 := Lib.hid (below_seq B2.out hb3)
    clear hb3
    have BW := Lib.hid (below_from (below_alloc (Below.refl w.heap.size w) (.cells #[.int .i64 0, .int .i64 0, .int .i64 0, .int .i64 0] 24)) B3.out (by simp))
    have hR := res_block B3.out
    have hlt := hR.2
    have HR := Lib.hid hR.1
    have r0 : w3.cell? ⟨w.heap.size, 0, none⟩ = some (.int .i64 0) := blk_cell HR.out 0
    have r1 : w3.cell? ⟨w.heap.size, 1, none⟩ = some (.int .i64 0) := blk_cell HR.out 1
    have r2 : w3.cell? ⟨w.heap.size, 2, none⟩ = some (.int .i64 0) := blk_cell HR.out 2
    have r3 : w3.cell? ⟨w.heap.size, 3, none⟩ = some (.int .i64 0) := blk_cell HR.out 3
    have g0 := blk_free HR.out 0
    have g1 := blk_free HR.out 1
    have g2 := blk_free HR.out 2
    have g3 := blk_free HR.out 3
    clear hR
    go_wp2
    refine bodyPost_ret (v := .tuple #[.agg #[.int .i64 0, .int .i64 0, .int .i64 0, .int .i64 0], .bool false]) (by simp [results, Tryd.results17, go_sem, r0, r1, r2, r3]) rfl ⟨.inr ⟨HN.out, rfl⟩, ?_⟩
    exact (((BW.out.setCell (Nat.le_refl _) _).setCell (Nat.le_refl _) _).setCell (Nat.le_refl _) _).setCell (Nat.le_refl _) _
  rcases h3 : (cutF (cutF (cutF s 47).2.1 58).2.1 35).2.2 with _ | _
  · have H1 := Lib.hid h1
    have H2 := Lib.hid h2
    have H3 := Lib.hid h3
    have HN := Lib.hid (not_found (s := s) (by rw [h3]; simp))
    clear h1 h2 h3
    go_enter Tryd.func17, Tryd.ntmps17
    go_wp2_with fail
    refine (cutS_at s 47 47 rfl _ hs).mono ?_
    rintro e w1 ⟨rfl, hb1⟩
    rw [H1.out]
    have B1 := Lib.hid hb1
    clear hb1
    go_wp2_with fail
    refine (cutS_at (cutF s 47).2.1 58 58 rfl _ Z.out.1.2).mono ?_
    rintro e w2 ⟨rfl, hb2⟩
    rw [H2.out]
    have B2 := Lib.hid (below_seq B1.out hb2)
    clear hb2
    go_wp2_with fail
    refine (cutS_at (cutF (cutF s 47).2.1 58).2.1 35 35 rfl _ Z.out.2.1.2).mono ?_
    rintro e w3 ⟨rfl, hb3⟩
    rw [H3.out]
    have B3 := Lib.hid (below_seq B2.out hb3)
    clear hb3
    have BW := Lib.hid (below_from (below_alloc (Below.refl w.heap.size w) (.cells #[.int .i64 0, .int .i64 0, .int .i64 0, .int .i64 0] 24)) B3.out (by simp))
    have hR := res_block B3.out
    have hlt := hR.2
    have HR := Lib.hid hR.1
    have r0 : w3.cell? ⟨w.heap.size, 0, none⟩ = some (.int .i64 0) := blk_cell HR.out 0
    have r1 : w3.cell? ⟨w.heap.size, 1, none⟩ = some (.int .i64 0) := blk_cell HR.out 1
    have r2 : w3.cell? ⟨w.heap.size, 2, none⟩ = some (.int .i64 0) := blk_cell HR.out 2
    have r3 : w3.cell? ⟨w.heap.size, 3, none⟩ = some (.int .i64 0) := blk_cell HR.out 3
    have g0 := blk_free HR.out 0
    have g1 := blk_free HR.out 1
    have g2 := blk_free HR.out 2
    have g3 := blk_free HR.out 3
    clear hR
    go_wp2
    refine bodyPost_ret (v := .tuple #[.agg #[.int .i64 0, .int .i64 0, .int .i64 0, .int .i64 0], .bool false]) (by simp [results, Tryd.results17, go_sem, r0, r1, r2, r3]) rfl ⟨.inr ⟨HN.out, rfl⟩, ?_⟩
    exact (((BW.out.setCell (Nat.le_refl _) _).setCell (Nat.le_refl _) _).setCell (Nat.le_refl _) _).setCell (Nat.le_refl _) _
  have H1 := Lib.hid h1
  have H2 := Lib.hid h2
  have H3 := Lib.hid h3
  clear h1 h2 h3
  go_enter Tryd.func17, Tryd.ntmps17
  go_wp2_with fail
  refine (cutS_at s 47 47 rfl _ hs).mono ?_
  rintro e w1 ⟨rfl, hb1⟩
  rw [H1.out]
  have B1 := Lib.hid hb1
  clear hb1
  go_wp2_with fail
  refine (cutS_at (cutF s 47).2.1 58 58 rfl _ Z.out.1.2).mono ?_
  rintro e w2 ⟨rfl, hb2⟩
  rw [H2.out]
  have B2 := Lib.hid (below_seq B1.out hb2)
  clear hb2
  go_wp2_with fail
  refine (cutS_at (cutF (cutF s 47).2.1 58).2.1 35 35 rfl _ Z.out.2.1.2).mono ?_
  rintro e w3 ⟨rfl, hb3⟩
  rw [H3.out]
  have B3 := Lib.hid (below_seq B2.out hb3)
  clear hb3
  have BW := Lib.hid (below_from (below_alloc (Below.refl w.heap.size w) (.cells #[.int .i64 0, .int .i64 0, .int .i64 0, .int .i64 0] 24)) B3.out (by simp))
  have hR := res_block B3.out
  have hlt := hR.2
  have HR := Lib.hid hR.1
  have r0 : w3.cell? ⟨w.heap.size, 0, none⟩ = some (.int .i64 0) := blk_cell HR.out 0
  have r1 : w3.cell? ⟨w.heap.size, 1, none⟩ = some (.int .i64 0) := blk_cell HR.out 1
  have r2 : w3.cell? ⟨w.heap.size, 2, none⟩ = some (.int .i64 0) := blk_cell HR.out 2
  have r3 : w3.cell? ⟨w.heap.size, 3, none⟩ = some (.int .i64 0) := blk_cell HR.out 3
  have g0 := blk_free HR.out 0
  have g1 := blk_free HR.out 1
  have g2 := blk_free HR.out 2
  have g3 := blk_free HR.out 3
  clear hR
  go_wp2_with fail
  refine (l13Num_any (cutF s 47).1 _ Z.out.1.1).mono ?_
  rintro e w4 ⟨⟨z1, o1, rfl, n1⟩, rfl⟩
  have N1 := Lib.hid n1
  clear n1
  go_wp2_with fail
  refine (l13Num_any (cutF (cutF s 47).2.1 58).1 _ Z.out.2.1.1).mono ?_
  rintro e w4 ⟨⟨z2, o2, rfl, n2⟩, rfl⟩
  have N2 := Lib.hid n2
  clear n2
  go_wp2_with fail
  refine (l13Num_any (cutF (cutF (cutF s 47).2.1 58).2.1 35).1 _ Z.out.2.2.1).mono ?_
  rintro e w4 ⟨⟨z3, o3, rfl, n3⟩, rfl⟩
  have N3 := Lib.hid n3
  clear n3
  go_wp2_with fail
  refine (l13Num_any (cutF (cutF (cutF s 47).2.1 58).2.1 35).2.1 _ Z.out.2.2.2).mono ?_
  rintro e w4 ⟨⟨z4, o4, rfl, n4⟩, rfl⟩
  have N4 := Lib.hid n4
  clear n4
  have hM := ok_num (s := s) N1.out N2.out N3.out N4.out
  have HM := Lib.hid hM
  clear hM
  rcases o1 with _ | _
  · go_wp2
    refine bodyPost_ret (v := .tuple #[.agg #[.int .i64 0, .int .i64 0, .int .i64 0, .int .i64 0], .bool false]) (by simp [results, Tryd.results17, go_sem, r0, r1, r2, r3, hlt, World.cell?_alloc_past]) rfl ⟨.inr ⟨by rw [HM.out.1]; simp, rfl⟩, ?_⟩
    exact below_alloc ((((BW.out.setCell (Nat.le_refl _) _).setCell (Nat.le_refl _) _).setCell (Nat.le_refl _) _).setCell (Nat.le_refl _) _) _
  rcases o2 with _ | _
  · go_wp2
    refine bodyPost_ret (v := .tuple #[.agg #[.int .i64 0, .int .i64 0, .int .i64 0, .int .i64 0], .bool false]) (by simp [results, Tryd.results17, go_sem, r0, r1, r2, r3, hlt, World.cell?_alloc_past]) rfl ⟨.inr ⟨by rw [HM.out.1]; simp, rfl⟩, ?_⟩
    exact below_alloc ((((BW.out.setCell (Nat.le_refl _) _).setCell (Nat.le_refl _) _).setCell (Nat.le_refl _) _).setCell (Nat.le_refl _) _) _
  rcases o3 with _ | _
  · go_wp2
    refine bodyPost_ret (v := .tuple #[.agg #[.int .i64 0, .int .i64 0, .int .i64 0, .int .i64 0], .bool false]) (by simp [results, Tryd.results17, go_sem, r0, r1, r2, r3, hlt, World.cell?_alloc_past]) rfl ⟨.inr ⟨by rw [HM.out.1]; simp, rfl⟩, ?_⟩
    exact below_alloc ((((BW.out.setCell (Nat.le_refl _) _).setCell (Nat.le_refl _) _).setCell (Nat.le_refl _) _).setCell (Nat.le_refl _) _) _
  rcases o4 with _ | _
  · go_wp2
    refine bodyPost_ret (v := .tuple #[.agg #[.int .i64 0, .int .i64 0, .int .i64 0, .int .i64 0], .bool false]) (by simp [results, Tryd.results17, go_sem, r0, r1, r2, r3, hlt, World.cell?_alloc_past]) rfl ⟨.inr ⟨by rw [HM.out.1]; simp, rfl⟩, ?_⟩
    exact below_alloc ((((BW.out.setCell (Nat.le_refl _) _).setCell (Nat.le_refl _) _).setCell (Nat.le_refl _) _).setCell (Nat.le_refl _) _) _
  clear r0 r1 r2 r3 g0 g1 g2 g3
  go_wp2_with fail
  refine (vldS_any ⟨z1, z2, z3, z4⟩ _).mono ?_
  rintro e w5 ⟨rfl, hb5⟩
  have HR5 := Lib.hid (blk_below (blk_alloc HR.out _) hb5 (by simp; omega))
  have HP5 := Lib.hid (show PAt w5 w3.heap.size 0 ⟨z1, z2, z3, z4⟩ from pat_keep (pat_new w3 24 ⟨z1, z2, z3, z4⟩) fun x => (bcell hb5).1 _ x (by simp))
  have BW5 := Lib.hid (BW.out.trans ((Below.alloc (Below.refl w.heap.size w3) BW.out.size _).trans (hb5.mono (by simp; omega))))
  have hlt5 : w3.heap.size < w5.heap.size := by have := hb5.size; simp at this; omega
  clear hb5
  rcases hv : vldB ⟨z1, z2, z3, z4⟩ with _ | _
  · have HV := Lib.hid hv
    clear hv
    have r0 : w5.cell? ⟨w.heap.size, 0, none⟩ = some (.int .i64 0) := blk_cell HR5.out 0
    have r1 : w5.cell? ⟨w.heap.size, 1, none⟩ = some (.int .i64 0) := blk_cell HR5.out 1
    have r2 : w5.cell? ⟨w.heap.size, 2, none⟩ = some (.int .i64 0) := blk_cell HR5.out 2
    have r3 : w5.cell? ⟨w.heap.size, 3, none⟩ = some (.int .i64 0) := blk_cell HR5.out 3
    have g0 := blk_free HR5.out 0
    have g1 := blk_free HR5.out 1
    have g2 := blk_free HR5.out 2
    have g3 := blk_free HR5.out 3
    go_wp2
    refine bodyPost_ret (v := .tuple #[.agg #[.int .i64 0, .int .i64 0, .int .i64 0, .int .i64 0], .bool false]) (by simp [results, Tryd.results17, go_sem, r0, r1, r2, r3]) rfl ⟨.inr ⟨by rw [HM.out.1, HV.out]; simp, rfl⟩, ?_⟩
    exact (((BW5.out.setCell (Nat.le_refl _) _).setCell (Nat.le_refl _) _).setCell (Nat.le_refl _) _).setCell (Nat.le_refl _) _
  · have hT : okT s = true := by rw [HM.out.1, hv]; rfl
    obtain ⟨e1, e2, e3, e4⟩ := HM.out.2 hT
    have HV : vldB (pktOf s) = true := by simp only [okT, Bool.and_eq_true] at hT; exact hT.2
    have hb : z1 ≤ 9999 ∧ z2 ≤ 9999 ∧ z3 ≤ 9999 ∧ z4 ≤ 9999 := by
      simp only [vldB, decide_eq_true_eq] at hv
      omega
    have hTs : (⟨(textL (valL (partsOf s).a.data.toList) (valL (partsOf s).b.data.toList) (valL (partsOf s).c.data.toList) (valL (partsOf s).d.data.toList)).toArray⟩ : ByteArray) = s := by
      rw [text_of hT]
    have hPk : pktOf s = ⟨z1, z2, z3, z4⟩ := by
      simp only [okT, Bool.and_eq_true] at hT
      obtain ⟨⟨⟨⟨ka, kb⟩, kc⟩, kd⟩, _⟩ := hT
      rw [e1, e2, e3, e4, ← numV_yes ka, ← numV_yes kb, ← numV_yes kc, ← numV_yes kd]
      rfl
    have HTS := Lib.hid hTs
    have HPK := Lib.hid hPk
    have HTT := Lib.hid hT
    clear hTs hPk hT HV hv N1 N2 N3 N4 HM
    generalize valL (partsOf s).a.data.toList = m1 at e1 HTS
    generalize valL (partsOf s).b.data.toList = m2 at e2 HTS
    generalize valL (partsOf s).c.data.toList = m3 at e3 HTS
    generalize valL (partsOf s).d.data.toList = m4 at e4 HTS
    subst e1 e2 e3 e4
    obtain ⟨q0, q1, q2, q3⟩ := HP5.out
    go_wp2_with fail
    refine (l1Text_any m1 m2 m3 m4 _ (by omega) (by omega) (by omega) (by omega)).mono ?_
    rintro e w6 ⟨rfl, hb6⟩
    rw [HTS.out]
    have HR6 := Lib.hid (blk_below HR5.out hb6 (by omega))
    have HP6 := Lib.hid (pat_keep HP5.out fun x => (bcell hb6).1 _ x hlt5)
    have BW6 := Lib.hid (BW5.out.trans (hb6.mono BW5.out.size))
    clear hb6 q0 q1 q2 q3
    obtain ⟨q0, q1, q2, q3⟩ := HP6.out
    have r0 : w6.cell? ⟨w.heap.size, 0, none⟩ = some (.int .i64 0) := blk_cell HR6.out 0
    have r1 : w6.cell? ⟨w.heap.size, 1, none⟩ = some (.int .i64 0) := blk_cell HR6.out 1
    have r2 : w6.cell? ⟨w.heap.size, 2, none⟩ = some (.int .i64 0) := blk_cell HR6.out 2
    have r3 : w6.cell? ⟨w.heap.size, 3, none⟩ = some (.int .i64 0) := blk_cell HR6.out 3
    have g0 := blk_free HR6.out 0
    have g1 := blk_free HR6.out 1
    have g2 := blk_free HR6.out 2
    have g3 := blk_free HR6.out 3
    go_wp2
    refine bodyPost_ret (v := .tuple #[.agg #[.int .i64 (m1 : Int), .int .i64 (m2 : Int), .int .i64 (m3 : Int), .int .i64 (m4 : Int)], .bool true]) (by simp [results, Tryd.results17, go_sem, r0, r1, r2, r3]) rfl ⟨.inl ⟨HTT.out, by rw [HPK.out]⟩, ?_⟩
    exact (((BW6.out.setCell (Nat.le_refl _) _).setCell (Nat.le_refl _) _).setCell (Nat.le_refl _) _).setCell (Nat.le_refl _) _
end Go.Proofs.YtlnbhbjibkgjgaaDoor
