/-
  Chapter 8: bytes that wait for each peer: what BytesOf of the program and of the model returns. Conditions: none.
  Conditions: each lemma says them.
-/
import Derived.Test.YtanaeebjcbbagaaKgvZ1
import Derived.Test.YtanaeebjcbbagaaKnZ1
namespace Go.Proofs.Ytanaeebjcbbagaa
open Go.RowKit
noncomputable def boR (g : Gd) : List Int := if gvB g = true then bys g.ln else []
def IsP (w : World) (us : List Int) (ok : Bool) (e : Ending) (w' : World) : Prop :=
  ∃ A n c, e = .returned (.tuple #[.slice A n c, .bool ok]) ∧ n = us.length ∧ w'.ownsRow w.heap.size 3 1 (.slice A n c) n (icells us) ∧ Below w.heap.size w w'
theorem boR_yes {g : Gd} (h : gvB g = true) : boR g = bys g.ln := if_pos h
theorem boR_no {g : Gd} (h : gvB g = false) : boR g = [] := if_neg (by rw [h]; exact Bool.false_ne_true)
set_option maxRecDepth 100000 in
set_option maxHeartbeats 2000000 in
theorem boI_any (g : Gd) (h : Gh) (w : World) (G : GR w h g) :
    Calls Try.prog 12 #[.agg (gcs g h)] w (IsP w (boR g) (gvB g)) := by
  have H := Lib.hid G
  have B0 := Lib.hid (bg_start w g h)
  clear G
  obtain ⟨x0, x1, x2, x3, x4, x5, x6, x7, x8, x9, x10, x11, x12⟩ := gc_blk (B0.out.bx)
  go_enter Try.func12, Try.ntmps12
  go_wp2_with fail
  refine (gvI_any g h _ (gr_below H.out B0.out.b)).mono ?_
  rintro e w1 ⟨rfl, hb⟩
  have B1 := Lib.hid (bg_below B0.out hb)
  clear hb
  clear x0 x1 x2 x3 x4 x5 x6 x7 x8 x9 x10 x11 x12
  obtain ⟨x0, x1, x2, x3, x4, x5, x6, x7, x8, x9, x10, x11, x12⟩ := gc_blk (B1.out.bx)
  rcases hv : gvB g with _ | _
  · have HR := Lib.hid (boR_no hv)
    have HB0 := Lib.hid hv
    clear hv
    go_wp2
    refine bodyPost_ret (v := .tuple #[.slice none 0 0, .bool false]) (by simp [results, Try.results12, go_sem]) rfl ⟨none, 0, 0, by rw [HB0.out], by rw [HR.out]; rfl, by rw [HR.out]; exact World.ownsRow_nil _ _ _ _, B1.out.b⟩
  · have HR := Lib.hid (boR_yes hv)
    have HV := Lib.hid (gv_iff.1 hv)
    have HB0 := Lib.hid hv
    clear hv
    go_wp2_with fail
    refine (wbI_any h.A h.n h.c h.B h.m h.d h.C h.o h.f g.ln _ (lr_below H.out.l B1.out.b) HV.out.ln).mono ?_
    rintro e w2 ⟨A2, rfl, ho, hb⟩
    have B2 := Lib.hid (below_seq B1.out.b hb)
    have HO := Lib.hid (own_mono ho (show w.heap.size ≤ w1.heap.size from B1.out.b.size))
    clear ho hb
    go_wp2
    refine bodyPost_ret (v := .tuple #[.slice A2 8 8, .bool true]) (by simp [results, Try.results12, go_sem]) rfl ⟨A2, 8, 8, by rw [HB0.out], by rw [HR.out, bys_len], by rw [HR.out]; exact HO.out, B2.out⟩
end Go.Proofs.Ytanaeebjcbbagaa
