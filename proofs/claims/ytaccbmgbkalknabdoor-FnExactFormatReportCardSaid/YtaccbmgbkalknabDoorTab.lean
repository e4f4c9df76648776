/-
  The tables of strconv, as a row lists them. Conditions: none.
-/
import Derived.Test.YtaccbmgbkalknabDoorCards
import Derived.Test.YtaccbmgbkalknabDoorTie
import Derived.Test.YtaccbmgbkalknabDoorFmt
import Derived.Deep.DeepHandedRow
import Derived.Lib.LaidTab
import Derived.Lib.SmallJoins
namespace Go.Proofs.YtaccbmgbkalknabDoor
open Go.ChangeShapes Go.WideShapes Go.ChangeAt Go.RowKit

theorem laid_tail {P : Program} {x : String × DataW Unit} {r : List (String × DataW Unit)} {w : World} (h : laidMet P (x :: r) w) : laidMet P r w := by
  obtain ⟨n, d⟩ := x
  obtain ⟨ps, ⟨g, t, cs, fuel, p, q, _, _, _, _, hr, rfl⟩, hn, hc⟩ := h
  exact ⟨q, hr, (List.nodup_append.1 hn).2.1, fun b off hb => hc b off (List.mem_append.2 (.inr hb))⟩
theorem gPowType : (Tryd.prog.globals[1]?).map (·.type) = some 70 := by kernel_rfl
theorem cellsArr : Tryd.prog.cellsOf 70 = 20 := by kernel_rfl
theorem cellsU64 : Tryd.prog.cellsOf 64 = 1 := by kernel_rfl
set_option maxRecDepth 100000 in
theorem same_tab : (Rows.laid_internal_strconv_uint64pow10 : DataW Unit) = Lib.tabData .u64 Lib.pow10Tab := by kernel_rfl
theorem table_of {W : World} {r : List (String × DataW Unit)} {d1 d2 : DataW Unit} (h1 : laidMet Tryd.prog (("math/bits.deBruijn32tab", d1) :: ("math/bits.deBruijn64tab", d2) :: ("internal/strconv.uint64pow10", Rows.laid_internal_strconv_uint64pow10) :: r) W) : Tab W := by
  have h2 := laid_tail (laid_tail h1)
  rw [same_tab] at h2
  have h3 := Lib.tabIs_of_head (rest := r) gPow gPowType Tryd.underlying70 Tryd.underlying64 cellsU64 cellsArr h2
  exact ⟨h3, World.block_lt_of_cell? W (a := ⟨1, 0, none⟩) (h3.cell gPow 0 (by rw [Lib.pow10Tab_length]; omega))⟩
end Go.Proofs.YtaccbmgbkalknabDoor
