/-
  Chapter 8: bytes that wait for each peer: what BytesOf of the program and of the model returns. Conditions: none.
  Conditions: each lemma says them.
-/
import Derived.Test.YtiodhdcgfdlknaaKgvZ2
import Derived.Test.YtiodhdcgfdlknaaKnZ2
namespace Go.Proofs.Ytiodhdcgfdlknaa
open Go.RowKit
noncomputable def boR (g : Gd) : List Int := if gvB g = true then bys g.ln else []
def IsP (w : World) (us : List Int) (ok : Bool) (e : Ending) (w' : World) : Prop :=
  ∃ A n c, e = .returned (.tuple #[.slice A n c, .bool ok]) ∧ n = us.length ∧ w'.ownsRow w.heap.size 3 1 (.slice A n c) n (icells us) ∧ Below w.heap.size w w'
theorem boR_len (g : Gd) : (boR g).length ≤ 8 := by
  unfold boR
  split
  · rw [bys_len]; omega
  · simp
theorem boR_yes {g : Gd} (h : gvB g = true) : boR g = bys g.ln := if_pos h
theorem boR_no {g : Gd} (h : gvB g = false) : boR g = [] := if_neg (by rw [h]; exact Bool.false_ne_true)
set_option maxRecDepth 100000 in
set_option maxHeartbeats 2000000 in
theorem boI_any (g : Gd) (h : Gh) (w : World) (G : GR w h g) :
    Calls Try.prog 30 #[.agg (gcs g h)] w (IsP w (boR g) (gvB g)) := by
  have H := Lib.hid G
  have B0 := Lib.hid (bg_start w g h)
  clear G
  obtain ⟨x0, x1, x2, x3, x4, x5, x6, x7, x8, x9, x10, x11, x12⟩ := gc_blk (B0.out.bx)
  go_enter Try.func30, Try.ntmps30
  go_wp2_with fail
  refine (gvI_any g h _ (gr_below H.out B0.out.b)).mono ?_
  rintro e w1 ⟨rfl, hb⟩
  have B1 := Lib.hid (bg_below B0.out hb)
  clear hb
  clear x0 x1 x2 x3 x4 x5 x6 x7 x8 x9 x10 x11 x12
  obtain ⟨x0, x1, x2, x3, x4, x5, x6, x7, x8, x9, x10, x11, x12⟩ := gc_blk (B1.out.bx)
  rcases hv : gvB g with _ | _
  · have HR := Lib.hid (boR_no hv)
    have HB0 := Lib.hid hv
    clear hv
    go_wp2
    refine bodyPost_ret (v := .tuple #[.slice none 0 0, .bool false]) (by simp [results, Try.results30, go_sem]) rfl ⟨none, 0, 0, by rw [HB0.out], by rw [HR.out]; rfl, by rw [HR.out]; exact World.ownsRow_nil _ _ _ _, B1.out.b⟩
  · have HR := Lib.hid (boR_yes hv)
    have HV := Lib.hid (gv_iff.1 hv)
    have HB0 := Lib.hid hv
    clear hv
    go_wp2_with fail
    refine (wbI_any h.A h.n h.c h.B h.m h.d h.C h.o h.f g.ln _ (lr_below H.out.l B1.out.b) HV.out.ln).mono ?_
    rintro e w2 ⟨A2, rfl, ho, hb⟩
    have B2 := Lib.hid (below_seq B1.out.b hb)
    have HO := Lib.hid (own_mono ho (show w.heap.size ≤ w1.heap.size from B1.out.b.size))
    clear ho hb
    go_wp2
    refine bodyPost_ret (v := .tuple #[.slice A2 8 8, .bool true]) (by simp [results, Try.results30, go_sem]) rfl ⟨A2, 8, 8, by rw [HB0.out], by rw [HR.out, bys_len], by rw [HR.out]; exact HO.out, B2.out⟩
structure CV (w : World) (g : Gd) (h : Gh) (Ao : Option Addr) (k co : Nat) (us : List Int) (wr : World) : Prop where
  own : wr.ownsRow (w.heap.size + 1) 3 1 (.slice Ao k co) k (icells us)
  bx : BG w g h wr
theorem cv_below {w wr w2 : World} {g : Gd} {h : Gh} {Ao : Option Addr} {k co : Nat} {us : List Int} (C : CV w g h Ao k co us wr) (hb : Below wr.heap.size wr w2) : CV w g h Ao k co us w2 := ⟨own_below C.own hb, bg_below C.bx hb⟩
theorem cv_app {w wr w2 w3 : World} {g : Gd} {h : Gh} {Ao A2 : Option Addr} {k co c2 m : Nat} {us vs : List Int} (C : CV w g h Ao k co us wr) (hb : Below wr.heap.size wr w2) (ho : w3.ownsRow (w.heap.size + 1) 3 1 (.slice A2 m c2) m (icells vs)) (hg : w2.grownBy w3 (Value.ownBlock (.slice Ao k co))) : CV w g h A2 m c2 vs w3 := by
  have B2 := bg_below C.bx hb
  have hlt := bg_lt B2
  refine ⟨ho, (hg.block _ hlt (fun e => by have := (C.own.lt _ e.symm).1; omega)).trans B2.bx, B2.b.grown hg B2.b.size fun b e => by have := (C.own.lt b e).1; omega⟩
def BoRel (w : World) (g : Gd) (h : Gh) (out i : Value) (wr : World) : Prop := ∃ (k : Nat) (Ao : Option Addr) (co : Nat), k ≤ 8 ∧ i = .int .i64 (k : Int) ∧ out = .slice Ao k co ∧ CV w g h Ao k co ((bys g.ln).take k) wr
set_option maxRecDepth 100000 in
set_option maxHeartbeats 4000000 in
theorem boS_any (g : Gd) (h : Gh) (w : World) (G : GR w h g) :
    Calls Try.prog 29 #[.agg (gcs g h)] w (IsP w (boR g) (gvB g)) := by
  have H := Lib.hid G
  have U0 := Lib.hid (show CV w g h (some ⟨w.heap.size + 1, 0, none⟩) 0 0 [] ((w.alloc (.cells (gcs g h) 41)).alloc (.cells #[] 3)) from ⟨own_mono (own_emptyI (by simp)) (by simp), bg_below (bg_start w g h) (below_alloc (Below.refl _ _) _)⟩)
  clear G
  obtain ⟨x0, x1, x2, x3, x4, x5, x6, x7, x8, x9, x10, x11, x12⟩ := gc_blk (U0.out.bx.bx)
  go_enter Try.func29, Try.ntmps29
  go_wp2_with fail
  refine (gvS_any g h _ (gr_below H.out U0.out.bx.b)).mono ?_
  rintro e w3 ⟨rfl, hb3⟩
  have U3 := Lib.hid (cv_below U0.out hb3)
  clear hb3 U0
  clear x0 x1 x2 x3 x4 x5 x6 x7 x8 x9 x10 x11 x12
  rcases hv : gvB g with _ | _
  · have HR := Lib.hid (boR_no hv)
    have HB0 := Lib.hid hv
    clear hv
    go_wp2
    refine bodyPost_ret (v := .tuple #[.slice (some ⟨w.heap.size + 1, 0, none⟩) 0 0, .bool false]) (by simp [results, Try.results29, go_sem]) rfl ⟨_, 0, 0, by rw [HB0.out], by rw [HR.out]; rfl, by rw [HR.out]; exact own_mono U3.out.own (show w.heap.size ≤ w.heap.size + 1 by omega), U3.out.bx.b⟩
  · have HR := Lib.hid (boR_yes hv)
    have HV := Lib.hid (gv_iff.1 hv)
    have HB0 := Lib.hid hv
    have R0 : Hid (BoRel w g h (.slice (some ⟨w.heap.size + 1, 0, none⟩) 0 0) (.int .i64 0) w3) := Lib.hid ⟨0, _, _, Nat.zero_le _, rfl, rfl, U3.out⟩
    clear hv U3
    go_wp2
    go_loopw [4, 5] (fun out i wr => BoRel w g h out i wr) (fun _ i _ => 8 - (intOf i).toNat)
    case atStart => exact R0.out
    case round =>
      obtain ⟨k, Ao, co, hk, rfl, rfl, hU⟩ := hrel
      have HU := Lib.hid hU
      obtain ⟨x0, x1, x2, x3, x4, x5, x6, x7, x8, x9, x10, x11, x12⟩ := gc_blk (hU.bx.bx)
      clear R0 hU
      by_cases hlt : k < 8
      · have k0 : (0 : Int) ≤ (k : Int) := by omega
        have k1 : (k : Int) < 8 := by omega
        have HE1 := Lib.hid (show (bys g.ln).take k ++ [byR g.ln.rs (k : Int)] = (bys g.ln).take (k + 1) by rw [List.take_add_one, bys_get _ hlt]; rfl)
        go_wp2_with fail
        refine (byS_any h.A h.n h.c h.B h.m h.d h.C h.o h.f g.ln (k : Int) _ (lr_below H.out.l HU.out.bx.b) HV.out.ln).mono ?_
        rintro e w5 ⟨rfl, hb5⟩
        have HU5 := Lib.hid (cv_below HU.out hb5)
        clear hb5
        clear x0 x1 x2 x3 x4 x5 x6 x7 x8 x9 x10 x11 x12
        go_wp2_with (at_builtin
                     refine wpl_app_ints _ rfl (.tmp 15) (.tmp 20) rfl (w.heap.size + 1) (.slice Ao k co) k ((bys g.ln).take k) rfl (HU5.out.own.alloc _) (some ⟨w5.heap.size, 0, none⟩) 1 1 [byR g.ln.rs (k : Int)] rfl (int_single (blk_at (by simp) _ _)) (by omega) (by simp; have := bg_lt HU5.out.bx; omega) ?_
                     intro v7 w7 ho7 hg7 hat7
                     rw [HE1.out] at ho7
                     obtain ⟨A7, c7, rfl, -, -, -⟩ := own_form ho7
                     have C7 := Lib.hid (cv_app HU5.out (below_alloc (Below.refl _ _) _) ho7 hg7)
                     clear ho7 hg7 hat7)
        go_roundw
        case rel => exact ⟨k + 1, A7, c7, by omega, by go_num, rfl, C7.out⟩
        case measure => simp [intOf]; omega
      · have hk8 : k = 8 := by omega
        have OC := Lib.hid (show k = (boR g).length ∧ wr.ownsRow w.heap.size 3 1 (.slice Ao k co) k (icells (boR g)) by
          have e : (bys g.ln).take k = boR g := (by rw [HR.out]; exact List.take_of_length_le (by rw [bys_len]; omega))
          rw [← e]
          exact ⟨by rw [List.length_take, bys_len]; omega, own_mono HU.out.own (show w.heap.size ≤ w.heap.size + 1 by omega)⟩)
        clear hk8
        go_wp2
        refine bodyPost_ret (v := .tuple #[.slice Ao k co, .bool true]) (by simp [results, Try.results29, go_sem]) rfl ⟨Ao, k, co, by rw [HB0.out], OC.out.1, OC.out.2, HU.out.bx.b⟩
end Go.Proofs.Ytiodhdcgfdlknaa
