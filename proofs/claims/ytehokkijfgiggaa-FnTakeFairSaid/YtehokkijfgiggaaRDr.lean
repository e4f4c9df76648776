/-
  Chapter 5: the laws' own draws. Conditions: none.
-/
import Derived.Test.YtehokkijfgiggaaRDw
namespace Go.Proofs.Ytehokkijfgiggaa
open Go.RowKit

def DrawnR (w : World) (e : Ending) (w' : World) : Prop :=
  ∃ x A n c fs, e = .returned (.agg #[.int .i64 x, (.slice A n c)]) ∧ Sml 80 fs ∧ FRX w' (fun b => w.heap.size ≤ b) A n fs ∧ Below w.heap.size w w'
def DrawnRi (w : World) (e : Ending) (w' : World) : Prop :=
  ∃ x A n c fs, ∃ k : Int, e = .returned (.tuple #[.agg #[.int .i64 x, (.slice A n c)], .int .i64 k]) ∧ (-1 ≤ k ∧ k ≤ 1000) ∧ Sml 80 fs ∧ FRX w' (fun b => w.heap.size ≤ b) A n fs ∧ Below w.heap.size w w'
def DrawnRp (w : World) (e : Ending) (w' : World) : Prop :=
  ∃ x A n c fs, ∃ p : Pkt, e = .returned (.tuple #[.agg #[.int .i64 x, (.slice A n c)], .agg #[.int .i64 p.peer, .int .i64 p.lane, .int .i64 p.size, .int .i64 p.id]]) ∧ Sml 80 fs ∧ FRX w' (fun b => w.heap.size ≤ b) A n fs ∧ Below w.heap.size w w'
def DrawnRR (w : World) (e : Ending) (w' : World) : Prop :=
  ∃ x A n c fs, ∃ x2 A2 n2 c2 fs2, e = .returned (.tuple #[.agg #[.int .i64 x, (.slice A n c)], .agg #[.int .i64 x2, (.slice A2 n2 c2)]]) ∧ Sml 80 fs ∧ Sml 80 fs2 ∧ FRX w' (fun b => w.heap.size ≤ b) A n fs ∧ FRX w' (fun b => w.heap.size ≤ b) A2 n2 fs2 ∧ Below w.heap.size w w'
theorem frx_old {w : World} {X : Nat → Prop} {A : Option Addr} {n : Nat} {fs : List Flw} (h : FRX w X A n fs) : FRX w (fun b => X b ∧ b < w.heap.size) A n fs := by
  obtain ⟨hs, h1, h2, h3, h4⟩ := h
  refine ⟨hs, h1, fun hn b hb => ⟨h2 hn b hb, hr_old h1 hn b hb⟩, ⟨h3.1, fun k q f e1 e2 => ?_⟩, h4⟩
  have W := h3.2 k q f e1 e2
  exact ⟨W.peer, W.dfc, W.pr, W.cap, W.few, fun hn b hb => ⟨W.far hn b hb, pr_old W.pr hn b hb⟩⟩
theorem blk_fourD {w : World} {b : Nat} {t : TypeId} {x y z u : Value} (h : Blk w b t #[x, y, z, u]) : (w.cell? ⟨b, 0, none⟩ = some x ∧ w.cell? ⟨b, 1, none⟩ = some y ∧ w.cell? ⟨b, 2, none⟩ = some z ∧ w.cell? ⟨b, 3, none⟩ = some u) ∧ w.frozen? ⟨b, 0, none⟩ = false ∧ w.frozen? ⟨b, 1, none⟩ = false ∧ w.frozen? ⟨b, 2, none⟩ = false ∧ w.frozen? ⟨b, 3, none⟩ = false :=
  ⟨⟨blk_cell h 0, blk_cell h 1, blk_cell h 2, blk_cell h 3⟩, blk_free h 0, blk_free h 1, blk_free h 2, blk_free h 3⟩
set_option maxHeartbeats 1000000 in
theorem l5Case_any (A : Option Addr) (n c : Nat) (w : World) (h : Bytes w A n c) :
    Calls Try.prog 49 #[.slice A n c] w (DrawnR w) := by
  go_enter Try.func49, Try.ntmps49
  go_wp2_with fail
  refine (open_any A n c _ (bytes_below h (below_alloc (Below.refl _ _) _))).mono ?_
  rintro e w1 ⟨g, rfl, hg, hb, hr⟩
  have O1 := Lib.hid (blk_below (blk_new w 25 #[.int .i64 0, (.slice none 0 0)]) hb (by simp))
  have B1 := Lib.hid (below_from (below_alloc (Below.refl w.heap.size w) (.cells #[.int .i64 0, (.slice none 0 0)] 25)) hb (by simp))
  have hz1 := hb.size
  simp at hz1 hg
  have HR1 := Lib.hid hr
  clear hb hr h
  go_wp2_with fail
  refine (l5Draw_any g 0 _ HR1.out (by omega)).mono ?_
  rintro e w2 ⟨x2, A2, n2, c2, fs2, rfl, hs2, hf2, hg2, hr2⟩
  have O2 := Lib.hid (blk_grown O1.out hg2 (by omega))
  have B2 := Lib.hid (below_grown B1.out (by omega) hg2 (by omega))
  have hz2 := hg2.size
  have HR2 := Lib.hid hr2
  have HF2 := Lib.hid hf2
  have HS2 := Lib.hid hs2
  clear hs2 hf2 hg2 hr2 HR1 O1 B1
  go_wp2_with fail
  refine (l5Wrong_any g _ x2 A2 n2 c2 64 fs2 _ HR2.out (by omega) (frx_fr HF2.out) HS2.out (by omega)).mono ?_
  rintro e w3 ⟨x3, A3, n3, c3, fs3, rfl, hs3, hf3, hg3, hr3⟩
  have O3 := Lib.hid (blk_grown O2.out hg3 (by omega))
  have B3 := Lib.hid (below_grown B2.out (by omega) hg3 (by omega))
  have hz3 := hg3.size
  have HR3 := Lib.hid hr3
  have HF3 := Lib.hid hf3
  have HS3 := Lib.hid hs3
  clear hs3 hf3 hg3 hr3 HR2 O2 B2 HF2 HS2
  obtain ⟨o0, o1, f0, f1⟩ := blk_two O3.out
  clear O3
  go_wp2
  refine bodyPost_ret (v := .agg #[.int .i64 x3, (.slice A3 n3 c3)]) (by simp [results, Try.results49, go_sem, o0, o1]) rfl ⟨x3, A3, n3, c3, fs3, rfl, sml_mono HS3.out (by omega), ?_, ?_⟩
  · exact frx_mono (frx_set (frx_set HF3.out (by simp <;> omega) _) (by simp <;> omega) _) fun b hb => by omega
  · exact Below.setCell (Below.setCell B3.out (by simp) _) (by simp) _
set_option maxHeartbeats 400000 in
theorem drawNextPacket_any (A : Option Addr) (n c : Nat) (w : World) (h : Bytes w A n c) :
    Calls Try.prog 17 #[.slice A n c] w (DrawnR w) := by
  go_enter Try.func17, Try.ntmps17
  go_wp2_with fail
  refine (l5Case_any A n c _ (bytes_below h (below_alloc (Below.refl _ _) _))).mono ?_
  rintro e w1 ⟨x1, A1, n1, c1, fs1, rfl, hs1, hf1, hb⟩
  obtain ⟨o0, o1, f0, f1⟩ := blk_two (blk_below (blk_new w 25 #[.int .i64 0, (.slice none 0 0)]) hb (by simp))
  have HF1 := Lib.hid hf1
  have BW := Lib.hid (below_from (below_alloc (Below.refl w.heap.size w) _) hb (by simp))
  clear hb hf1 h
  go_wp2
  refine bodyPost_ret (v := .agg #[.int .i64 x1, (.slice A1 n1 c1)]) (by simp [results, Try.results17, go_sem, o0, o1]) rfl ⟨x1, A1, n1, c1, fs1, rfl, hs1, ?_, ?_⟩
  · exact frx_mono (frx_set (frx_set HF1.out (by simp) _) (by simp) _) fun b hb => by simp at hb; omega
  · exact Below.setCell (Below.setCell BW.out (by simp) _) (by simp) _
set_option maxHeartbeats 400000 in
theorem drawTakeAll_any (A : Option Addr) (n c : Nat) (w : World) (h : Bytes w A n c) :
    Calls Try.prog 24 #[.slice A n c] w (DrawnR w) := by
  go_enter Try.func24, Try.ntmps24
  go_wp2_with fail
  refine (l5Case_any A n c _ (bytes_below h (below_alloc (Below.refl _ _) _))).mono ?_
  rintro e w1 ⟨x1, A1, n1, c1, fs1, rfl, hs1, hf1, hb⟩
  obtain ⟨o0, o1, f0, f1⟩ := blk_two (blk_below (blk_new w 25 #[.int .i64 0, (.slice none 0 0)]) hb (by simp))
  have HF1 := Lib.hid hf1
  have BW := Lib.hid (below_from (below_alloc (Below.refl w.heap.size w) _) hb (by simp))
  clear hb hf1 h
  go_wp2
  refine bodyPost_ret (v := .agg #[.int .i64 x1, (.slice A1 n1 c1)]) (by simp [results, Try.results24, go_sem, o0, o1]) rfl ⟨x1, A1, n1, c1, fs1, rfl, hs1, ?_, ?_⟩
  · exact frx_mono (frx_set (frx_set HF1.out (by simp) _) (by simp) _) fun b hb => by simp at hb; omega
  · exact Below.setCell (Below.setCell BW.out (by simp) _) (by simp) _
set_option maxHeartbeats 1000000 in
theorem drawTakeBytes_any (A : Option Addr) (n c : Nat) (w : World) (h : Bytes w A n c) :
    Calls Try.prog 27 #[.slice A n c] w (DrawnRi w) := by
  go_enter Try.func27, Try.ntmps27
  go_wp2_with fail
  have hy := bytes_below h (below_alloc (Below.refl _ _) (.cells #[.int .i64 0, (.slice none 0 0)] 25))
  refine (l5Case_any A n c _ hy).mono ?_
  rintro e w1 ⟨x1, A1, n1, c1, fs1, rfl, hs1, hf1, hb⟩
  have O1 := Lib.hid (blk_below (blk_new w 25 #[.int .i64 0, (.slice none 0 0)]) hb (by simp))
  have hz1 := hb.size
  simp at hz1
  have HF1 := Lib.hid hf1
  have BW := Lib.hid (below_from (below_alloc (Below.refl w.heap.size w) _) hb (by simp))
  have hy1 := Lib.hid (bytes_below hy hb)
  clear hf1 hb hy h
  go_wp2_with fail
  refine (open_any A n c _ hy1.out).mono ?_
  rintro e w2 ⟨g, rfl, hg, hb2, hr2⟩
  have O2 := Lib.hid (blk_below O1.out hb2 (by omega))
  have HF2 := Lib.hid (frx_mono (frx_below (frx_old HF1.out) hb2) (Y := fun b => b ≠ g ∧ w.heap.size < b) fun b hb => ⟨by omega, by have := hb.1; simp at this; omega⟩)
  have B2 := Lib.hid (below_seq BW.out hb2)
  have hz2 := hb2.size
  have hr2' := Lib.hid hr2
  clear hb2 O1 HF1 BW hy1 hr2
  go_wp2_with fail
  refine (num_lit g 0 _ 7 _ _ [100, 50, 200, 10, 0, 1000, -1] _ hr2'.out (by omega) (by simp) (by decide) rfl).mono ?_
  rintro e w3 ⟨x, hx, rfl, hg3, hr3⟩
  obtain ⟨o0, o1, f0, f1⟩ := blk_two (blk_grown O2.out hg3 (by omega))
  have HF3 := Lib.hid (frx_grown HF2.out hg3 fun b hb e => by injection e with e; exact hb.1 e)
  have B3 := Lib.hid (below_grown B2.out B2.out.size hg3 (by omega))
  have HX := Lib.hid hx
  clear hg3 hr3 hx hr2'
  go_wp2
  refine bodyPost_ret (v := .tuple #[.agg #[.int .i64 x1, (.slice A1 n1 c1)], .int .i64 x]) (by simp [results, Try.results27, go_sem, o0, o1]) rfl ⟨x1, A1, n1, c1, fs1, x, rfl, (by have := HX.out; simp only [List.mem_cons, List.not_mem_nil, or_false] at this; omega), hs1, ?_, ?_⟩
  · exact frx_mono (frx_set (frx_set HF3.out (by simp) _) (by simp) _) fun b hb => by omega
  · exact Below.setCell (Below.setCell B3.out (by simp) _) (by simp) _
set_option maxHeartbeats 1000000 in
theorem drawWaitingOf_any (A : Option Addr) (n c : Nat) (w : World) (h : Bytes w A n c) :
    Calls Try.prog 33 #[.slice A n c] w (DrawnRi w) := by
  go_enter Try.func33, Try.ntmps33
  go_wp2_with fail
  have hy := bytes_below h (below_alloc (Below.refl _ _) (.cells #[.int .i64 0, (.slice none 0 0)] 25))
  refine (l5Case_any A n c _ hy).mono ?_
  rintro e w1 ⟨x1, A1, n1, c1, fs1, rfl, hs1, hf1, hb⟩
  have O1 := Lib.hid (blk_below (blk_new w 25 #[.int .i64 0, (.slice none 0 0)]) hb (by simp))
  have hz1 := hb.size
  simp at hz1
  have HF1 := Lib.hid hf1
  have BW := Lib.hid (below_from (below_alloc (Below.refl w.heap.size w) _) hb (by simp))
  have hy1 := Lib.hid (bytes_below hy hb)
  clear hf1 hb hy h
  go_wp2_with fail
  refine (open_any A n c _ hy1.out).mono ?_
  rintro e w2 ⟨g, rfl, hg, hb2, hr2⟩
  have O2 := Lib.hid (blk_below O1.out hb2 (by omega))
  have HF2 := Lib.hid (frx_mono (frx_below (frx_old HF1.out) hb2) (Y := fun b => b ≠ g ∧ w.heap.size < b) fun b hb => ⟨by omega, by have := hb.1; simp at this; omega⟩)
  have B2 := Lib.hid (below_seq BW.out hb2)
  have hz2 := hb2.size
  have hr2' := Lib.hid hr2
  clear hb2 O1 HF1 BW hy1 hr2
  go_wp2_with fail
  refine (num_lit g 0 _ 7 _ _ [0, 1, 2, 3, 7, 8, -1] _ hr2'.out (by omega) (by simp) (by decide) rfl).mono ?_
  rintro e w3 ⟨x, hx, rfl, hg3, hr3⟩
  obtain ⟨o0, o1, f0, f1⟩ := blk_two (blk_grown O2.out hg3 (by omega))
  have HF3 := Lib.hid (frx_grown HF2.out hg3 fun b hb e => by injection e with e; exact hb.1 e)
  have B3 := Lib.hid (below_grown B2.out B2.out.size hg3 (by omega))
  have HX := Lib.hid hx
  clear hg3 hr3 hx hr2'
  go_wp2
  refine bodyPost_ret (v := .tuple #[.agg #[.int .i64 x1, (.slice A1 n1 c1)], .int .i64 x]) (by simp [results, Try.results33, go_sem, o0, o1]) rfl ⟨x1, A1, n1, c1, fs1, x, rfl, (by have := HX.out; simp only [List.mem_cons, List.not_mem_nil, or_false] at this; omega), hs1, ?_, ?_⟩
  · exact frx_mono (frx_set (frx_set HF3.out (by simp) _) (by simp) _) fun b hb => by omega
  · exact Below.setCell (Below.setCell B3.out (by simp) _) (by simp) _
set_option maxHeartbeats 2000000 in
theorem drawJoinRobin_any (A : Option Addr) (n c : Nat) (w : World) (h : Bytes w A n c) :
    Calls Try.prog 30 #[.slice A n c] w (DrawnRp w) := by
  go_enter Try.func30, Try.ntmps30
  go_wp2_with fail
  refine (open_any A n c _ (bytes_below (bytes_below h (below_alloc (Below.refl _ _) _)) (below_alloc (Below.refl _ _) _))).mono ?_
  rintro e w1 ⟨g, rfl, hg, hb, hr⟩
  have O1 := Lib.hid (blk_below (blk_alloc (blk_new w 25 #[.int .i64 0, (.slice none 0 0)]) _) hb (by simp <;> omega))
  have P1 := Lib.hid (blk_below (blk_new2 w _ 28 #[.int .i64 0, .int .i64 0, .int .i64 0, .int .i64 0]) hb (by simp))
  have B1 := Lib.hid (below_from (below_alloc (below_alloc (Below.refl w.heap.size w) (.cells #[.int .i64 0, (.slice none 0 0)] 25)) (.cells #[.int .i64 0, .int .i64 0, .int .i64 0, .int .i64 0] 28)) hb (by simp <;> omega))
  have hz1 := hb.size
  simp at hz1 hg
  have HR1 := Lib.hid hr
  clear hb hr h
  have hgl := rd_lt HR1.out
  go_wp2_with fail
  refine (l5Draw_any g 0 _ HR1.out (by omega)).mono ?_
  rintro e w2 ⟨x2, A2, n2, c2, fs2, rfl, hs2, hf2, hg2, hr2⟩
  have O2 := Lib.hid (blk_grown O1.out hg2 (by omega))
  have P2 := Lib.hid (blk_grown P1.out hg2 (by omega))
  have B2 := Lib.hid (below_grown B1.out (by omega) hg2 (by omega))
  have hz2 := hg2.size
  have HR2 := Lib.hid hr2
  have HF2 := Lib.hid hf2
  have HS2 := Lib.hid hs2
  clear hs2 hf2 hg2 hr2 HR1 O1 B1 P1
  go_wp2_with fail
  refine (l5Wrong_any g _ x2 A2 n2 c2 64 fs2 _ HR2.out (by omega) (frx_fr HF2.out) HS2.out (by omega)).mono ?_
  rintro e w3 ⟨x3, A3, n3, c3, fs3, rfl, hs3, hf3, hg3, hr3⟩
  have O3 := Lib.hid (blk_grown O2.out hg3 (by omega))
  have P3 := Lib.hid (blk_grown P2.out hg3 (by omega))
  have B3 := Lib.hid (below_grown B2.out (by omega) hg3 (by omega))
  have hz3 := hg3.size
  have HR3 := Lib.hid hr3
  have HF3 := Lib.hid hf3
  have HS3 := Lib.hid hs3
  clear hs3 hf3 hg3 hr3 HR2 O2 B2 HF2 HS2 P2
  go_wp2_with fail
  have hg2' := rd_lt HR3.out
  refine (l1Draw_any g _ _ HR3.out (by omega)).mono ?_
  rintro e w4 ⟨p, rfl, -, hg4, hr4⟩
  have O4 := Lib.hid (blk_grown O3.out hg4 (by omega))
  have P4 := Lib.hid (blk_grown P3.out hg4 (by omega))
  have B4 := Lib.hid (below_grown B3.out (by omega) hg4 (by omega))
  have HF4 := Lib.hid (frx_grown (frx_mono HF3.out (Y := fun b => g < b ∧ w.heap.size + 2 ≤ b) fun b hb => by omega) hg4 fun b hb e => by injection e with e; omega)
  have HR4 := Lib.hid hr4
  have hz4 := hg4.size
  clear hg4 hr4 HR3 O3 B3 P3 HF3
  go_wp2_with fail
  refine (l1Wrong_any g _ p _ HR4.out (by omega)).mono ?_
  rintro e w5 ⟨p5, rfl, -, hg5, -⟩
  obtain ⟨o0, o1, f0, f1⟩ := blk_two (blk_grown O4.out hg5 (by omega))
  obtain ⟨⟨k0, k1, k2, k3⟩, e0, e1, e2, e3⟩ := blk_fourD (blk_grown P4.out hg5 (by omega))
  have B5 := Lib.hid (below_grown B4.out (by omega) hg5 (by omega))
  have HF5 := Lib.hid (frx_grown HF4.out hg5 fun b hb e => by injection e with e; omega)
  clear hg5 O4 B4 P4 HF4
  go_wp2
  refine bodyPost_ret (v := .tuple #[.agg #[.int .i64 x3, (.slice A3 n3 c3)], .agg #[.int .i64 p5.peer, .int .i64 p5.lane, .int .i64 p5.size, .int .i64 p5.id]]) (by simp [results, Try.results30, go_sem, o0, o1, k0, k1, k2, k3]) rfl ⟨x3, A3, n3, c3, fs3, p5, rfl, sml_mono HS3.out (by omega), ?_, ?_⟩
  · refine frx_mono (X := fun b => g < b ∧ w.heap.size + 2 ≤ b) ?_ fun b hb => by omega
    iterate 6 (with_reducible refine frx_set ?_ (by simp <;> omega) _)
    exact HF5.out
  · iterate 6 (with_reducible refine Below.setCell ?_ (by simp <;> omega) _)
    exact B5.out
end Go.Proofs.Ytehokkijfgiggaa
