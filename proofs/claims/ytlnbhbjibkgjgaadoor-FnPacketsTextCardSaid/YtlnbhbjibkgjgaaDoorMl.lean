/-
  internal/bytealg.MaxLen holds some number in every world that fits the form. Conditions: none.
-/
import Derived.Test.YtlnbhbjibkgjgaaDoorTab
import Derived.Test.YtlnbhbjibkgjgaaDoorPars
import Derived.Shelf.Vars
namespace Go.Proofs.YtlnbhbjibkgjgaaDoor
open Go.RowKit

theorem ml_of {W : World} (h : W.ShapedOpen Tryd.prog) : ML W := by
  obtain ⟨m, hm⟩ := Go.Proofs.cell_of_shapedOpen_int (g := 0) (zero := #[.int .i64 0]) (t := 3) h (of_decide_eq_true (by kernel_rfl)) (by kernel_rfl) rfl (by kernel_rfl) (by kernel_rfl) Tryd.underlying3
  exact ⟨m, hm, World.block_lt_of_cell? W (a := ⟨0, 0, none⟩) hm⟩
end Go.Proofs.YtlnbhbjibkgjgaaDoor
