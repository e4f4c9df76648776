/-
  Chapter 8: validity of guards: what the program's function and the model's return. Conditions: none.
  Conditions: each lemma says them.
-/
import Derived.Test.YtiodhdcgfdlknaaKb3Z1
import Derived.Test.YtiodhdcgfdlknaaKjZ1
import Derived.Test.YtiodhdcgfdlknaaKcZ1
import Derived.Deep.CutBlock
import Derived.Deep.RegionWith
import Derived.Test.YtiodhdcgfdlknaaKb5Z1
import Derived.Test.YtiodhdcgfdlknaaKhcZ1
import Derived.Deep.RegionHeld3
namespace Go.Proofs.Ytiodhdcgfdlknaa
open Go.RowKit
theorem gcj {w : World} {b : Nat} {t : TypeId} {g : Gd} {h : Gh} (B : Blk w b t (gcs g h)) : (w.cell? ⟨b, 0, none⟩ = some (.int .i64 g.tm) ∧ w.cell? ⟨b, 1, none⟩ = some (.int .i64 g.all.peer) ∧ w.cell? ⟨b, 2, none⟩ = some (.int .i64 g.all.lane) ∧ w.cell? ⟨b, 3, none⟩ = some (.int .i64 g.all.size) ∧ w.cell? ⟨b, 4, none⟩ = some (.int .i64 g.all.id) ∧ w.cell? ⟨b, 5, none⟩ = some (.slice h.E h.ne h.ce) ∧ w.cell? ⟨b, 6, none⟩ = some (.int .i64 g.lim) ∧ w.cell? ⟨b, 7, none⟩ = some (.int .i64 g.ea) ∧ w.cell? ⟨b, 8, none⟩ = some (.slice h.U h.nu h.cu) ∧ w.cell? ⟨b, 9, none⟩ = some (.slice h.A h.n h.c) ∧ w.cell? ⟨b, 10, none⟩ = some (.slice h.B h.m h.d) ∧ w.cell? ⟨b, 11, none⟩ = some (.slice h.C h.o h.f) ∧ w.cell? ⟨b, 12, none⟩ = some (.slice h.S h.ns h.cs)) :=
  ⟨blk_cell B 0, blk_cell B 1, blk_cell B 2, blk_cell B 3, blk_cell B 4, blk_cell B 5, blk_cell B 6, blk_cell B 7, blk_cell B 8, blk_cell B 9, blk_cell B 10, blk_cell B 11, blk_cell B 12⟩
end Go.Proofs.Ytiodhdcgfdlknaa
