/-
  Chapter 5: the laws' own draws. Conditions: none.
-/
import Derived.Test.YtgpkhimgkemjhaaRDw
namespace Go.Proofs.Ytgpkhimgkemjhaa
open Go.RowKit

def DrawnR (w : World) (e : Ending) (w' : World) : Prop :=
  ∃ x A n c fs, e = .returned (.agg #[.int .i64 x, (.slice A n c)]) ∧ Sml 80 fs ∧ FRX w' (fun b => w.heap.size ≤ b) A n fs ∧ Below w.heap.size w w'
def DrawnRi (w : World) (e : Ending) (w' : World) : Prop :=
  ∃ x A n c fs, ∃ k : Int, e = .returned (.tuple #[.agg #[.int .i64 x, (.slice A n c)], .int .i64 k]) ∧ (-1 ≤ k ∧ k ≤ 1000) ∧ Sml 80 fs ∧ FRX w' (fun b => w.heap.size ≤ b) A n fs ∧ Below w.heap.size w w'
def DrawnRp (w : World) (e : Ending) (w' : World) : Prop :=
  ∃ x A n c fs, ∃ p : Pkt, e = .returned (.tuple #[.agg #[.int .i64 x, (.slice A n c)], .agg #[.int .i64 p.peer, .int .i64 p.lane, .int .i64 p.size, .int .i64 p.id]]) ∧ Sml 80 fs ∧ FRX w' (fun b => w.heap.size ≤ b) A n fs ∧ Below w.heap.size w w'
def DrawnRR (w : World) (e : Ending) (w' : World) : Prop :=
  ∃ x A n c fs, ∃ x2 A2 n2 c2 fs2, e = .returned (.tuple #[.agg #[.int .i64 x, (.slice A n c)], .agg #[.int .i64 x2, (.slice A2 n2 c2)]]) ∧ Sml 80 fs ∧ Sml 80 fs2 ∧ FRX w' (fun b => w.heap.size ≤ b) A n fs ∧ FRX w' (fun b => w.heap.size ≤ b) A2 n2 fs2 ∧ Below w.heap.size w w'
theorem frx_old {w : World} {X : Nat → Prop} {A : Option Addr} {n : Nat} {fs : List Flw} (h : FRX w X A n fs) : FRX w (fun b => X b ∧ b < w.heap.size) A n fs := by
  obtain ⟨hs, h1, h2, h3, h4⟩ := h
  refine ⟨hs, h1, fun hn b hb => ⟨h2 hn b hb, hr_old h1 hn b hb⟩, ⟨h3.1, fun k q f e1 e2 => ?_⟩, h4⟩
  have W := h3.2 k q f e1 e2
  exact ⟨W.peer, W.dfc, W.pr, W.cap, W.few, fun hn b hb => ⟨W.far hn b hb, pr_old W.pr hn b hb⟩⟩
theorem blk_fourD {w : World} {b : Nat} {t : TypeId} {x y z u : Value} (h : Blk w b t #[x, y, z, u]) : (w.cell? ⟨b, 0, none⟩ = some x ∧ w.cell? ⟨b, 1, none⟩ = some y ∧ w.cell? ⟨b, 2, none⟩ = some z ∧ w.cell? ⟨b, 3, none⟩ = some u) ∧ w.frozen? ⟨b, 0, none⟩ = false ∧ w.frozen? ⟨b, 1, none⟩ = false ∧ w.frozen? ⟨b, 2, none⟩ = false ∧ w.frozen? ⟨b, 3, none⟩ = false :=
  ⟨⟨blk_cell h 0, blk_cell h 1, blk_cell h 2, blk_cell h 3⟩, blk_free h 0, blk_free h 1, blk_free h 2, blk_free h 3⟩
set_option maxHeartbeats 1000000 in
theorem l5Case_any (A : Option Addr) (n c : Nat) (w : World) (h : Bytes w A n c) :
    Calls Try.prog 41 #[.slice A n c] w (DrawnR w) := by
  go_enter Try.func41, Try.ntmps41
  go_wp2_with fail
  refine (open_any A n c _ (bytes_below h (below_alloc (Below.refl _ _) _))).mono ?_
  rintro e w1 ⟨g, rfl, hg, hb, hr⟩
  have O1 := Lib.hid (blk_below (blk_new w 25 #[.int .i64 0, (.slice none 0 0)]) hb (by simp))
  have B1 := Lib.hid (below_from (below_alloc (Below.refl w.heap.size w) (.cells #[.int .i64 0, (.slice none 0 0)] 25)) hb (by simp))
  have hz1 := hb.size
  simp at hz1 hg
  have HR1 := Lib.hid hr
  clear hb hr h
  go_wp2_with fail
  refine (l5Draw_any g 0 _ HR1.out (by omega)).mono ?_
  rintro e w2 ⟨x2, A2, n2, c2, fs2, rfl, hs2, hf2, hg2, hr2⟩
  have O2 := Lib.hid (blk_grown O1.out hg2 (by omega))
  have B2 := Lib.hid (below_grown B1.out (by omega) hg2 (by omega))
  have hz2 := hg2.size
  have HR2 := Lib.hid hr2
  have HF2 := Lib.hid hf2
  have HS2 := Lib.hid hs2
  clear hs2 hf2 hg2 hr2 HR1 O1 B1
  go_wp2_with fail
  refine (l5Wrong_any g _ x2 A2 n2 c2 64 fs2 _ HR2.out (by omega) (frx_fr HF2.out) HS2.out (by omega)).mono ?_
  rintro e w3 ⟨x3, A3, n3, c3, fs3, rfl, hs3, hf3, hg3, hr3⟩
  have O3 := Lib.hid (blk_grown O2.out hg3 (by omega))
  have B3 := Lib.hid (below_grown B2.out (by omega) hg3 (by omega))
  have hz3 := hg3.size
  have HR3 := Lib.hid hr3
  have HF3 := Lib.hid hf3
  have HS3 := Lib.hid hs3
  clear hs3 hf3 hg3 hr3 HR2 O2 B2 HF2 HS2
  obtain ⟨o0, o1, f0, f1⟩ := blk_two O3.out
  clear O3
  go_wp2
  refine bodyPost_ret (v := .agg #[.int .i64 x3, (.slice A3 n3 c3)]) (by simp [results, Try.results41, go_sem, o0, o1]) rfl ⟨x3, A3, n3, c3, fs3, rfl, sml_mono HS3.out (by omega), ?_, ?_⟩
  · exact frx_mono (frx_set (frx_set HF3.out (by simp <;> omega) _) (by simp <;> omega) _) fun b hb => by omega
  · exact Below.setCell (Below.setCell B3.out (by simp) _) (by simp) _
set_option maxHeartbeats 400000 in
theorem drawNextPacket_any (A : Option Addr) (n c : Nat) (w : World) (h : Bytes w A n c) :
    Calls Try.prog 15 #[.slice A n c] w (DrawnR w) := by
  go_enter Try.func15, Try.ntmps15
  go_wp2_with fail
  refine (l5Case_any A n c _ (bytes_below h (below_alloc (Below.refl _ _) _))).mono ?_
  rintro e w1 ⟨x1, A1, n1, c1, fs1, rfl, hs1, hf1, hb⟩
  obtain ⟨o0, o1, f0, f1⟩ := blk_two (blk_below (blk_new w 25 #[.int .i64 0, (.slice none 0 0)]) hb (by simp))
  have HF1 := Lib.hid hf1
  have BW := Lib.hid (below_from (below_alloc (Below.refl w.heap.size w) _) hb (by simp))
  clear hb hf1 h
  go_wp2
  refine bodyPost_ret (v := .agg #[.int .i64 x1, (.slice A1 n1 c1)]) (by simp [results, Try.results15, go_sem, o0, o1]) rfl ⟨x1, A1, n1, c1, fs1, rfl, hs1, ?_, ?_⟩
  · exact frx_mono (frx_set (frx_set HF1.out (by simp) _) (by simp) _) fun b hb => by simp at hb; omega
  · exact Below.setCell (Below.setCell BW.out (by simp) _) (by simp) _
set_option maxHeartbeats 400000 in
theorem drawTakeAll_any (A : Option Addr) (n c : Nat) (w : World) (h : Bytes w A n c) :
    Calls Try.prog 22 #[.slice A n c] w (DrawnR w) := by
  go_enter Try.func22, Try.ntmps22
  go_wp2_with fail
  refine (l5Case_any A n c _ (bytes_below h (below_alloc (Below.refl _ _) _))).mono ?_
  rintro e w1 ⟨x1, A1, n1, c1, fs1, rfl, hs1, hf1, hb⟩
  obtain ⟨o0, o1, f0, f1⟩ := blk_two (blk_below (blk_new w 25 #[.int .i64 0, (.slice none 0 0)]) hb (by simp))
  have HF1 := Lib.hid hf1
  have BW := Lib.hid (below_from (below_alloc (Below.refl w.heap.size w) _) hb (by simp))
  clear hb hf1 h
  go_wp2
  refine bodyPost_ret (v := .agg #[.int .i64 x1, (.slice A1 n1 c1)]) (by simp [results, Try.results22, go_sem, o0, o1]) rfl ⟨x1, A1, n1, c1, fs1, rfl, hs1, ?_, ?_⟩
  · exact frx_mono (frx_set (frx_set HF1.out (by simp) _) (by simp) _) fun b hb => by simp at hb; omega
  · exact Below.setCell (Below.setCell BW.out (by simp) _) (by simp) _
set_option maxHeartbeats 1000000 in
theorem drawRobinValid_any (A : Option Addr) (n c : Nat) (w : World) (h : Bytes w A n c) :
    Calls Try.prog 38 #[.slice A n c] w (DrawnR w) := by
  go_enter Try.func38, Try.ntmps38
  go_wp2_with fail
  refine (open_any A n c _ (bytes_below h (below_alloc (Below.refl _ _) _))).mono ?_
  rintro e w1 ⟨g, rfl, hg, hb, hr⟩
  have O1 := Lib.hid (blk_below (blk_new w 25 #[.int .i64 0, (.slice none 0 0)]) hb (by simp))
  have B1 := Lib.hid (below_from (below_alloc (Below.refl w.heap.size w) (.cells #[.int .i64 0, (.slice none 0 0)] 25)) hb (by simp))
  have hz1 := hb.size
  simp at hz1 hg
  have HR1 := Lib.hid hr
  clear hb hr h
  go_wp2_with fail
  refine (l5Draw_any g 0 _ HR1.out (by omega)).mono ?_
  rintro e w2 ⟨x2, A2, n2, c2, fs2, rfl, hs2, hf2, hg2, hr2⟩
  have O2 := Lib.hid (blk_grown O1.out hg2 (by omega))
  have B2 := Lib.hid (below_grown B1.out (by omega) hg2 (by omega))
  have hz2 := hg2.size
  have HR2 := Lib.hid hr2
  have HF2 := Lib.hid hf2
  have HS2 := Lib.hid hs2
  clear hs2 hf2 hg2 hr2 HR1 O1 B1
  go_wp2_with fail
  refine (l5Wrong_any g _ x2 A2 n2 c2 64 fs2 _ HR2.out (by omega) (frx_fr HF2.out) HS2.out (by omega)).mono ?_
  rintro e w3 ⟨x3, A3, n3, c3, fs3, rfl, hs3, hf3, hg3, hr3⟩
  have O3 := Lib.hid (blk_grown O2.out hg3 (by omega))
  have B3 := Lib.hid (below_grown B2.out (by omega) hg3 (by omega))
  have hz3 := hg3.size
  have HR3 := Lib.hid hr3
  have HF3 := Lib.hid hf3
  have HS3 := Lib.hid hs3
  clear hs3 hf3 hg3 hr3 HR2 O2 B2 HF2 HS2
  go_wp2_with fail
  refine (l5Wrong_any g _ x3 A3 n3 c3 65 fs3 _ HR3.out (by omega) (frx_fr HF3.out) HS3.out (by omega)).mono ?_
  rintro e w4 ⟨x4, A4, n4, c4, fs4, rfl, hs4, hf4, hg4, hr4⟩
  have O4 := Lib.hid (blk_grown O3.out hg4 (by omega))
  have B4 := Lib.hid (below_grown B3.out (by omega) hg4 (by omega))
  have hz4 := hg4.size
  have HR4 := Lib.hid hr4
  have HF4 := Lib.hid hf4
  have HS4 := Lib.hid hs4
  clear hs4 hf4 hg4 hr4 HR3 O3 B3 HF3 HS3
  obtain ⟨o0, o1, f0, f1⟩ := blk_two O4.out
  clear O4
  go_wp2
  refine bodyPost_ret (v := .agg #[.int .i64 x4, (.slice A4 n4 c4)]) (by simp [results, Try.results38, go_sem, o0, o1]) rfl ⟨x4, A4, n4, c4, fs4, rfl, sml_mono HS4.out (by omega), ?_, ?_⟩
  · exact frx_mono (frx_set (frx_set HF4.out (by simp <;> omega) _) (by simp <;> omega) _) fun b hb => by omega
  · exact Below.setCell (Below.setCell B4.out (by simp) _) (by simp) _
set_option maxHeartbeats 1000000 in
theorem drawTakeBytes_any (A : Option Addr) (n c : Nat) (w : World) (h : Bytes w A n c) :
    Calls Try.prog 26 #[.slice A n c] w (DrawnRi w) := by
  go_enter Try.func26, Try.ntmps26
  go_wp2_with fail
  have hy := bytes_below h (below_alloc (Below.refl _ _) (.cells #[.int .i64 0, (.slice none 0 0)] 25))
  refine (l5Case_any A n c _ hy).mono ?_
  rintro e w1 ⟨x1, A1, n1, c1, fs1, rfl, hs1, hf1, hb⟩
  have O1 := Lib.hid (blk_below (blk_new w 25 #[.int .i64 0, (.slice none 0 0)]) hb (by simp))
  have hz1 := hb.size
  simp at hz1
  have HF1 := Lib.hid hf1
  have BW := Lib.hid (below_from (below_alloc (Below.refl w.heap.size w) _) hb (by simp))
  have hy1 := Lib.hid (bytes_below hy hb)
  clear hf1 hb hy h
  go_wp2_with fail
  refine (open_any A n c _ hy1.out).mono ?_
  rintro e w2 ⟨g, rfl, hg, hb2, hr2⟩
  have O2 := Lib.hid (blk_below O1.out hb2 (by omega))
  have HF2 := Lib.hid (frx_mono (frx_below (frx_old HF1.out) hb2) (Y := fun b => b ≠ g ∧ w.heap.size < b) fun b hb => ⟨by omega, by have := hb.1; simp at this; omega⟩)
  have B2 := Lib.hid (below_seq BW.out hb2)
  have hz2 := hb2.size
  have hr2' := Lib.hid hr2
  clear hb2 O1 HF1 BW hy1 hr2
  go_wp2_with fail
  refine (num_lit g 0 _ 7 _ _ [100, 50, 200, 10, 0, 1000, -1] _ hr2'.out (by omega) (by simp) (by decide) rfl).mono ?_
  rintro e w3 ⟨x, hx, rfl, hg3, hr3⟩
  obtain ⟨o0, o1, f0, f1⟩ := blk_two (blk_grown O2.out hg3 (by omega))
  have HF3 := Lib.hid (frx_grown HF2.out hg3 fun b hb e => by injection e with e; exact hb.1 e)
  have B3 := Lib.hid (below_grown B2.out B2.out.size hg3 (by omega))
  have HX := Lib.hid hx
  clear hg3 hr3 hx hr2'
  go_wp2
  refine bodyPost_ret (v := .tuple #[.agg #[.int .i64 x1, (.slice A1 n1 c1)], .int .i64 x]) (by simp [results, Try.results26, go_sem, o0, o1]) rfl ⟨x1, A1, n1, c1, fs1, x, rfl, (by have := HX.out; simp only [List.mem_cons, List.not_mem_nil, or_false] at this; omega), hs1, ?_, ?_⟩
  · exact frx_mono (frx_set (frx_set HF3.out (by simp) _) (by simp) _) fun b hb => by omega
  · exact Below.setCell (Below.setCell B3.out (by simp) _) (by simp) _
set_option maxHeartbeats 1000000 in
theorem drawWaitingOf_any (A : Option Addr) (n c : Nat) (w : World) (h : Bytes w A n c) :
    Calls Try.prog 39 #[.slice A n c] w (DrawnRi w) := by
  go_enter Try.func39, Try.ntmps39
  go_wp2_with fail
  have hy := bytes_below h (below_alloc (Below.refl _ _) (.cells #[.int .i64 0, (.slice none 0 0)] 25))
  refine (l5Case_any A n c _ hy).mono ?_
  rintro e w1 ⟨x1, A1, n1, c1, fs1, rfl, hs1, hf1, hb⟩
  have O1 := Lib.hid (blk_below (blk_new w 25 #[.int .i64 0, (.slice none 0 0)]) hb (by simp))
  have hz1 := hb.size
  simp at hz1
  have HF1 := Lib.hid hf1
  have BW := Lib.hid (below_from (below_alloc (Below.refl w.heap.size w) _) hb (by simp))
  have hy1 := Lib.hid (bytes_below hy hb)
  clear hf1 hb hy h
  go_wp2_with fail
  refine (open_any A n c _ hy1.out).mono ?_
  rintro e w2 ⟨g, rfl, hg, hb2, hr2⟩
  have O2 := Lib.hid (blk_below O1.out hb2 (by omega))
  have HF2 := Lib.hid (frx_mono (frx_below (frx_old HF1.out) hb2) (Y := fun b => b ≠ g ∧ w.heap.size < b) fun b hb => ⟨by omega, by have := hb.1; simp at this; omega⟩)
  have B2 := Lib.hid (below_seq BW.out hb2)
  have hz2 := hb2.size
  have hr2' := Lib.hid hr2
  clear hb2 O1 HF1 BW hy1 hr2
  go_wp2_with fail
  refine (num_lit g 0 _ 7 _ _ [0, 1, 2, 3, 7, 8, -1] _ hr2'.out (by omega) (by simp) (by decide) rfl).mono ?_
  rintro e w3 ⟨x, hx, rfl, hg3, hr3⟩
  obtain ⟨o0, o1, f0, f1⟩ := blk_two (blk_grown O2.out hg3 (by omega))
  have HF3 := Lib.hid (frx_grown HF2.out hg3 fun b hb e => by injection e with e; exact hb.1 e)
  have B3 := Lib.hid (below_grown B2.out B2.out.size hg3 (by omega))
  have HX := Lib.hid hx
  clear hg3 hr3 hx hr2'
  go_wp2
  refine bodyPost_ret (v := .tuple #[.agg #[.int .i64 x1, (.slice A1 n1 c1)], .int .i64 x]) (by simp [results, Try.results39, go_sem, o0, o1]) rfl ⟨x1, A1, n1, c1, fs1, x, rfl, (by have := HX.out; simp only [List.mem_cons, List.not_mem_nil, or_false] at this; omega), hs1, ?_, ?_⟩
  · exact frx_mono (frx_set (frx_set HF3.out (by simp) _) (by simp) _) fun b hb => by omega
  · exact Below.setCell (Below.setCell B3.out (by simp) _) (by simp) _
set_option maxHeartbeats 400000 in
theorem drawLeaveRobin_any (A : Option Addr) (n c : Nat) (w : World) (h : Bytes w A n c) :
    Calls Try.prog 32 #[.slice A n c] w (DrawnRi w) := by
  go_enter Try.func32, Try.ntmps32
  go_wp2_with fail
  refine (drawWaitingOf_any A n c _ (bytes_below h (below_alloc (Below.refl _ _) _))).mono ?_
  rintro e w1 ⟨x1, A1, n1, c1, fs1, k, rfl, hk, hs1, hf1, hb⟩
  obtain ⟨o0, o1, f0, f1⟩ := blk_two (blk_below (blk_new w 25 #[.int .i64 0, (.slice none 0 0)]) hb (by simp))
  have HF1 := Lib.hid hf1
  have HK := Lib.hid hk
  have BW := Lib.hid (below_from (below_alloc (Below.refl w.heap.size w) _) hb (by simp))
  clear hb hf1 h hk
  go_wp2
  refine bodyPost_ret (v := .tuple #[.agg #[.int .i64 x1, (.slice A1 n1 c1)], .int .i64 k]) (by simp [results, Try.results32, go_sem, o0, o1]) rfl ⟨x1, A1, n1, c1, fs1, k, rfl, HK.out, hs1, ?_, ?_⟩
  · exact frx_mono (frx_set (frx_set HF1.out (by simp) _) (by simp) _) fun b hb => by simp at hb; omega
  · exact Below.setCell (Below.setCell BW.out (by simp) _) (by simp) _
set_option maxHeartbeats 2000000 in
theorem drawJoinRobin_any (A : Option Addr) (n c : Nat) (w : World) (h : Bytes w A n c) :
    Calls Try.prog 29 #[.slice A n c] w (DrawnRp w) := by
  go_enter Try.func29, Try.ntmps29
  go_wp2_with fail
  refine (open_any A n c _ (bytes_below (bytes_below h (below_alloc (Below.refl _ _) _)) (below_alloc (Below.refl _ _) _))).mono ?_
  rintro e w1 ⟨g, rfl, hg, hb, hr⟩
  have O1 := Lib.hid (blk_below (blk_alloc (blk_new w 25 #[.int .i64 0, (.slice none 0 0)]) _) hb (by simp <;> omega))
  have P1 := Lib.hid (blk_below (blk_new2 w _ 28 #[.int .i64 0, .int .i64 0, .int .i64 0, .int .i64 0]) hb (by simp))
  have B1 := Lib.hid (below_from (below_alloc (below_alloc (Below.refl w.heap.size w) (.cells #[.int .i64 0, (.slice none 0 0)] 25)) (.cells #[.int .i64 0, .int .i64 0, .int .i64 0, .int .i64 0] 28)) hb (by simp <;> omega))
  have hz1 := hb.size
  simp at hz1 hg
  have HR1 := Lib.hid hr
  clear hb hr h
  have hgl := rd_lt HR1.out
  go_wp2_with fail
  refine (l5Draw_any g 0 _ HR1.out (by omega)).mono ?_
  rintro e w2 ⟨x2, A2, n2, c2, fs2, rfl, hs2, hf2, hg2, hr2⟩
  have O2 := Lib.hid (blk_grown O1.out hg2 (by omega))
  have P2 := Lib.hid (blk_grown P1.out hg2 (by omega))
  have B2 := Lib.hid (below_grown B1.out (by omega) hg2 (by omega))
  have hz2 := hg2.size
  have HR2 := Lib.hid hr2
  have HF2 := Lib.hid hf2
  have HS2 := Lib.hid hs2
  clear hs2 hf2 hg2 hr2 HR1 O1 B1 P1
  go_wp2_with fail
  refine (l5Wrong_any g _ x2 A2 n2 c2 64 fs2 _ HR2.out (by omega) (frx_fr HF2.out) HS2.out (by omega)).mono ?_
  rintro e w3 ⟨x3, A3, n3, c3, fs3, rfl, hs3, hf3, hg3, hr3⟩
  have O3 := Lib.hid (blk_grown O2.out hg3 (by omega))
  have P3 := Lib.hid (blk_grown P2.out hg3 (by omega))
  have B3 := Lib.hid (below_grown B2.out (by omega) hg3 (by omega))
  have hz3 := hg3.size
  have HR3 := Lib.hid hr3
  have HF3 := Lib.hid hf3
  have HS3 := Lib.hid hs3
  clear hs3 hf3 hg3 hr3 HR2 O2 B2 HF2 HS2 P2
  go_wp2_with fail
  have hg2' := rd_lt HR3.out
  refine (l1Draw_any g _ _ HR3.out (by omega)).mono ?_
  rintro e w4 ⟨p, rfl, -, hg4, hr4⟩
  have O4 := Lib.hid (blk_grown O3.out hg4 (by omega))
  have P4 := Lib.hid (blk_grown P3.out hg4 (by omega))
  have B4 := Lib.hid (below_grown B3.out (by omega) hg4 (by omega))
  have HF4 := Lib.hid (frx_grown (frx_mono HF3.out (Y := fun b => g < b ∧ w.heap.size + 2 ≤ b) fun b hb => by omega) hg4 fun b hb e => by injection e with e; omega)
  have HR4 := Lib.hid hr4
  have hz4 := hg4.size
  clear hg4 hr4 HR3 O3 B3 P3 HF3
  go_wp2_with fail
  refine (l1Wrong_any g _ p _ HR4.out (by omega)).mono ?_
  rintro e w5 ⟨p5, rfl, -, hg5, -⟩
  obtain ⟨o0, o1, f0, f1⟩ := blk_two (blk_grown O4.out hg5 (by omega))
  obtain ⟨⟨k0, k1, k2, k3⟩, e0, e1, e2, e3⟩ := blk_fourD (blk_grown P4.out hg5 (by omega))
  have B5 := Lib.hid (below_grown B4.out (by omega) hg5 (by omega))
  have HF5 := Lib.hid (frx_grown HF4.out hg5 fun b hb e => by injection e with e; omega)
  clear hg5 O4 B4 P4 HF4
  go_wp2
  refine bodyPost_ret (v := .tuple #[.agg #[.int .i64 x3, (.slice A3 n3 c3)], .agg #[.int .i64 p5.peer, .int .i64 p5.lane, .int .i64 p5.size, .int .i64 p5.id]]) (by simp [results, Try.results29, go_sem, o0, o1, k0, k1, k2, k3]) rfl ⟨x3, A3, n3, c3, fs3, p5, rfl, sml_mono HS3.out (by omega), ?_, ?_⟩
  · refine frx_mono (X := fun b => g < b ∧ w.heap.size + 2 ≤ b) ?_ fun b hb => by omega
    iterate 6 (with_reducible refine frx_set ?_ (by simp <;> omega) _)
    exact HF5.out
  · iterate 6 (with_reducible refine Below.setCell ?_ (by simp <;> omega) _)
    exact B5.out
set_option maxHeartbeats 4000000 in
theorem drawRobinSame_any (A : Option Addr) (n c : Nat) (w : World) (h : Bytes w A n c) :
    Calls Try.prog 35 #[.slice A n c] w (DrawnRR w) := by
  go_enter Try.func35, Try.ntmps35
  go_wp2_with fail
  refine (open_any A n c _ (bytes_below (bytes_below h (below_alloc (Below.refl _ _) _)) (below_alloc (Below.refl _ _) _))).mono ?_
  rintro e w1 ⟨g, rfl, hg, hb, hr⟩
  have O1 := Lib.hid (blk_below (blk_alloc (blk_new w 25 #[.int .i64 0, (.slice none 0 0)]) _) hb (by simp <;> omega))
  have P1 := Lib.hid (blk_below (blk_new2 w _ 25 #[.int .i64 0, (.slice none 0 0)]) hb (by simp))
  have B1 := Lib.hid (below_from (below_alloc (below_alloc (Below.refl w.heap.size w) (.cells #[.int .i64 0, (.slice none 0 0)] 25)) (.cells #[.int .i64 0, (.slice none 0 0)] 25)) hb (by simp <;> omega))
  have hz1 := hb.size
  simp at hz1 hg
  have HR1 := Lib.hid hr
  clear hb hr h
  have hgl := rd_lt HR1.out
  go_wp2_with fail
  refine (l5Draw_any g 0 _ HR1.out (by omega)).mono ?_
  rintro e w2 ⟨x2, A2, n2, c2, fs2, rfl, hs2, hf2, hg2, hr2⟩
  have O2 := Lib.hid (blk_grown O1.out hg2 (by omega))
  have P2 := Lib.hid (blk_grown P1.out hg2 (by omega))
  have B2 := Lib.hid (below_grown B1.out (by omega) hg2 (by omega))
  have hz2 := hg2.size
  have HR2 := Lib.hid hr2
  have HF2 := Lib.hid hf2
  have HS2 := Lib.hid hs2
  clear hs2 hf2 hg2 hr2 HR1 O1 B1 P1
  have O3 := Lib.hid (show Blk (w2.alloc (.cells #[.int .i64 x2, (.slice A2 n2 c2)] 25)).drew w.heap.size 25 #[.int .i64 0, (.slice none 0 0)] from blk_alloc O2.out _)
  have P3 := Lib.hid (show Blk (w2.alloc (.cells #[.int .i64 x2, (.slice A2 n2 c2)] 25)).drew (w.heap.size + 1) 25 #[.int .i64 0, (.slice none 0 0)] from blk_alloc P2.out _)
  have T3 := Lib.hid (show Blk (w2.alloc (.cells #[.int .i64 x2, (.slice A2 n2 c2)] 25)).drew w2.heap.size 25 #[.int .i64 x2, (.slice A2 n2 c2)] from blk_new w2 _ _)
  have B3 := Lib.hid (Below.drew (below_alloc B2.out (.cells #[.int .i64 x2, (.slice A2 n2 c2)] 25)))
  have HR3 := Lib.hid (show RdAt (w2.alloc (.cells #[.int .i64 x2, (.slice A2 n2 c2)] 25)).drew g _ from rd_alloc HR2.out _)
  have FA3 := Lib.hid (frx_drew (frx_alloc (frx_mono HF2.out (Y := fun b => g < b ∧ w.heap.size + 2 ≤ b) fun b hb => by omega) (.cells #[.int .i64 x2, (.slice A2 n2 c2)] 25)))
  have HF3 := FA3
  have HS3 := HS2
  have hS0 := lv_hold T3.out
  have hzz : (w2.alloc (.cells #[.int .i64 x2, (.slice A2 n2 c2)] 25)).drew.heap.size = w2.heap.size + 1 := by simp
  clear O2 P2 B2 HR2
  go_wp2_with fail
  refine held_start (S := (fun w' => w'.cell? ⟨w2.heap.size, 0, none⟩ = some (.int .i64 x2) ∧ w'.cell? ⟨w2.heap.size, 1, none⟩ = some (.slice A2 n2 c2))) 9 (by kernel_rfl) ?_
  refine held_take (i := 0) (oi := { dst := some 10, op := Op.load 25 (Operand.tmp 5), type := 25, pos := "l5_robins.go:230", after := #[], guard := none }) (v := ?_) rfl (by kernel_rfl) (by kernel_rfl) (by kernel_rfl) (by kernel_rfl) (fun _ _ _ h => h) (Or.inl ⟨by rfl, ?_⟩) hS0 ?_
  rotate_left
  · (intro w9 hSw; (try dsimp only at hSw); go_simp; try with_reducible rfl)
  try simp only [Act.put, List.setIfInBounds_toArray, List.set_cons_zero, List.set_cons_succ]
  refine held_take (i := 1) (oi := { dst := some 11, op := Op.move (Operand.tmp 4), type := 59, pos := "l5_robins.go:230", after := #[], guard := none }) (v := ?_) rfl (by kernel_rfl) (by kernel_rfl) (by kernel_rfl) (by kernel_rfl) (fun _ _ _ h => h) (Or.inl ⟨by rfl, ?_⟩) hS0 ?_
  rotate_left
  · (intro w9 hSw; (try dsimp only at hSw); go_simp; try with_reducible rfl)
  try simp only [Act.put, List.setIfInBounds_toArray, List.set_cons_zero, List.set_cons_succ]
  refine held_take (i := 2) (oi := { dst := some 12, op := Op.move (Operand.tmp 4), type := 59, pos := "l5_robins.go:230", after := #[], guard := none }) (v := ?_) rfl (by kernel_rfl) (by kernel_rfl) (by kernel_rfl) (by kernel_rfl) (fun _ _ _ h => h) (Or.inl ⟨by rfl, ?_⟩) hS0 ?_
  rotate_left
  · (intro w9 hSw; (try dsimp only at hSw); go_simp; try with_reducible rfl)
  try simp only [Act.put, List.setIfInBounds_toArray, List.set_cons_zero, List.set_cons_succ]
  refine held_take (i := 3) (oi := { dst := some 13, op := Op.move (Operand.tmp 4), type := 59, pos := "l5_robins.go:230", after := #[], guard := none }) (v := ?_) rfl (by kernel_rfl) (by kernel_rfl) (by kernel_rfl) (by kernel_rfl) (fun _ _ _ h => h) (Or.inl ⟨by rfl, ?_⟩) hS0 ?_
  rotate_left
  · (intro w9 hSw; (try dsimp only at hSw); go_simp; try with_reducible rfl)
  try simp only [Act.put, List.setIfInBounds_toArray, List.set_cons_zero, List.set_cons_succ]
  refine held_take (i := 4) (oi := { dst := some 14, op := Op.load 25 (Operand.tmp 5), type := 25, pos := "l5_robins.go:230", after := #[], guard := none }) (v := ?_) rfl (by kernel_rfl) (by kernel_rfl) (by kernel_rfl) (by kernel_rfl) (fun _ _ _ h => h) (Or.inl ⟨by rfl, ?_⟩) hS0 ?_
  rotate_left
  · (intro w9 hSw; (try dsimp only at hSw); go_simp; try with_reducible rfl)
  try simp only [Act.put, List.setIfInBounds_toArray, List.set_cons_zero, List.set_cons_succ]
  refine held_one (i := 5) (o := { dst := some 15, op := Op.call { callee := Callee.value (Operand.func 53), args := #[Operand.tmp 13, Operand.tmp 14], argTypes := #[59, 25] }, type := 25, pos := "l5_robins.go:230", after := #[{ on := 3, ground := Ground.data }, { on := 4, ground := Ground.data }], guard := none }) (by kernel_rfl) rfl (fun K hK => ?_)
  go_simp
  go_at_call 53
  refine (l5Wrong_any g _ x2 A2 n2 c2 64 fs2 _ HR3.out (by omega) (frx_fr HF3.out) HS3.out (by omega)).mono ?_
  rintro e w4 ⟨x4, A4, n4, c4, fs4, rfl, hs4, hf4, hg4, hr4⟩
  have O4 := Lib.hid (blk_grown O3.out hg4 (by omega))
  have P4 := Lib.hid (blk_grown P3.out hg4 (by omega))
  have T4 := Lib.hid (blk_grown T3.out hg4 (by omega))
  have B4 := Lib.hid (below_grown B3.out B3.out.size hg4 (by omega))
  have FA4 := Lib.hid (frx_grown FA3.out hg4 fun b hb e => by injection e with e; omega)
  have hz4 := hg4.size
  have HR4 := Lib.hid hr4
  have HF4 := Lib.hid hf4
  have HS4 := Lib.hid hs4
  have hS4 := lv_hold T4.out
  clear hs4 hf4 hg4 hr4
  refine hK.out _ _ (.inr hS4) ?_
  clear hK K
  try simp only [Act.put, List.setIfInBounds_toArray, List.set_cons_zero, List.set_cons_succ]
  refine held_one (i := 6) (o := { dst := some 16, op := Op.call { callee := Callee.value (Operand.func 53), args := #[Operand.tmp 12, Operand.tmp 15], argTypes := #[59, 25] }, type := 25, pos := "l5_robins.go:230", after := #[{ on := 2, ground := Ground.data }, { on := 5, ground := Ground.data }, { on := 5, ground := Ground.chain }], guard := none }) (by kernel_rfl) rfl (fun K hK => ?_)
  go_simp
  go_at_call 53
  refine (l5Wrong_any g _ x4 A4 n4 c4 65 fs4 _ HR4.out (by omega) (frx_fr HF4.out) HS4.out (by omega)).mono ?_
  rintro e w5 ⟨x5, A5, n5, c5, fs5, rfl, hs5, hf5, hg5, hr5⟩
  have O5 := Lib.hid (blk_grown O4.out hg5 (by omega))
  have P5 := Lib.hid (blk_grown P4.out hg5 (by omega))
  have T5 := Lib.hid (blk_grown T4.out hg5 (by omega))
  have B5 := Lib.hid (below_grown B4.out B4.out.size hg5 (by omega))
  have FA5 := Lib.hid (frx_grown FA4.out hg5 fun b hb e => by injection e with e; omega)
  have hz5 := hg5.size
  have HR5 := Lib.hid hr5
  have HF5 := Lib.hid hf5
  have HS5 := Lib.hid hs5
  have hS5 := lv_hold T5.out
  clear hs5 hf5 hg5 hr5
  refine hK.out _ _ (.inr hS5) ?_
  clear hK K
  try simp only [Act.put, List.setIfInBounds_toArray, List.set_cons_zero, List.set_cons_succ]
  refine held_one (i := 7) (o := { dst := some 17, op := Op.call { callee := Callee.value (Operand.func 53), args := #[Operand.tmp 11, Operand.tmp 16], argTypes := #[59, 25] }, type := 25, pos := "l5_robins.go:230", after := #[{ on := 1, ground := Ground.data }, { on := 6, ground := Ground.data }, { on := 6, ground := Ground.chain }], guard := none }) (by kernel_rfl) rfl (fun K hK => ?_)
  go_simp
  go_at_call 53
  refine (l5Wrong_any g _ x5 A5 n5 c5 66 fs5 _ HR5.out (by omega) (frx_fr HF5.out) HS5.out (by omega)).mono ?_
  rintro e w6 ⟨x6, A6, n6, c6, fs6, rfl, hs6, hf6, hg6, hr6⟩
  have O6 := Lib.hid (blk_grown O5.out hg6 (by omega))
  have P6 := Lib.hid (blk_grown P5.out hg6 (by omega))
  have T6 := Lib.hid (blk_grown T5.out hg6 (by omega))
  have B6 := Lib.hid (below_grown B5.out B5.out.size hg6 (by omega))
  have FA6 := Lib.hid (frx_grown FA5.out hg6 fun b hb e => by injection e with e; omega)
  have hz6 := hg6.size
  have HR6 := Lib.hid hr6
  have HF6 := Lib.hid hf6
  have HS6 := Lib.hid hs6
  have hS6 := lv_hold T6.out
  clear hs6 hf6 hg6 hr6
  obtain ⟨o0, o1, f0, f1⟩ := blk_two O6.out
  obtain ⟨p0, p1, pf0, pf1⟩ := blk_two P6.out
  obtain ⟨t0, t1, -, -⟩ := blk_two T6.out
  refine hK.out _ _ (.inr hS6) ?_
  clear hK K
  try simp only [Act.put, List.setIfInBounds_toArray, List.set_cons_zero, List.set_cons_succ]
  refine held_one (i := 8) (o := { dst := none, op := Op.store 25 (Operand.tmp 2) (Operand.tmp 10), type := 0, pos := "l5_robins.go:230", after := #[{ on := 0, ground := Ground.data }, { on := 7, ground := Ground.chain }, { on := 0, ground := Ground.phase }, { on := 1, ground := Ground.textOnly Departure.lateStores }, { on := 2, ground := Ground.textOnly Departure.lateStores }, { on := 3, ground := Ground.textOnly Departure.lateStores }, { on := 4, ground := Ground.textOnly Departure.lateStores }, { on := 5, ground := Ground.textOnly Departure.lateStoresUnsure }, { on := 6, ground := Ground.textOnly Departure.lateStoresUnsure }, { on := 7, ground := Ground.textOnly Departure.lateStoresUnsure }], guard := none }) (by kernel_rfl) rfl (fun K hK => ?_)
  go_simp
  have hS7 := lv_hold (blk_far (p := ⟨w.heap.size, 1, none⟩) (blk_far (p := ⟨w.heap.size, 0, none⟩) T6.out (by simp; omega) (.int .i64 x2)) (by simp; omega) (.slice A2 n2 c2))
  refine hK.out _ _ (.inr hS7) ?_
  clear hK K
  try simp only [Act.put, List.setIfInBounds_toArray, List.set_cons_zero, List.set_cons_succ]
  refine held_one (i := 9) (o := { dst := none, op := Op.store 25 (Operand.tmp 3) (Operand.tmp 17), type := 0, pos := "l5_robins.go:230", after := #[{ on := 7, ground := Ground.data }, { on := 8, ground := Ground.chain }, { on := 0, ground := Ground.phase }, { on := 1, ground := Ground.phase }, { on := 2, ground := Ground.phase }, { on := 3, ground := Ground.phase }, { on := 4, ground := Ground.phase }, { on := 5, ground := Ground.phase }, { on := 6, ground := Ground.phase }, { on := 7, ground := Ground.phase }, { on := 8, ground := Ground.phase }], guard := none }) (by kernel_rfl) rfl (fun K hK => ?_)
  go_simp
  refine hK.out _ _ (.inl rfl) ?_
  clear hK K
  try simp only [Act.put, List.setIfInBounds_toArray, List.set_cons_zero, List.set_cons_succ]
  refine held_done (by kernel_rfl) ?_ _
  clear hS0 hS4 hS5 hS6 hS7
  have zo := blk_lt O6.out
  have zp := blk_lt P6.out
  go_wp2
  refine bodyPost_ret (v := .tuple #[.agg #[.int .i64 x2, (.slice A2 n2 c2)], .agg #[.int .i64 x6, (.slice A6 n6 c6)]]) (by simp [results, Try.results35, go_sem, o0, o1, p0, p1]) rfl ⟨x2, A2, n2, c2, fs2, x6, A6, n6, c6, fs6, rfl, sml_mono HS2.out (by omega), sml_mono HS6.out (by omega), ?_, ?_, ?_⟩
  · refine frx_mono (X := fun b => g < b ∧ w.heap.size + 2 ≤ b) ?_ fun b hb => by omega
    iterate 4 (with_reducible refine frx_set ?_ (by simp <;> omega) _)
    exact FA6.out
  · refine frx_mono (X := fun b => w5.heap.size ≤ b) ?_ fun b hb => by omega
    iterate 4 (with_reducible refine frx_set ?_ (by simp <;> omega) _)
    exact HF6.out
  · iterate 4 (with_reducible refine Below.setCell ?_ (by simp <;> omega) _)
    exact B6.out
end Go.Proofs.Ytgpkhimgkemjhaa
