/-
  ParsePackets: both answers in one form. Conditions: those of the contracts.
-/
import Derived.Test.YtlnbhbjibkgjgaaDoorParsS
namespace Go.Proofs.YtlnbhbjibkgjgaaDoor
open Go.RowKit

noncomputable def lstOf (s : ByteArray) : List Pkt := if okPs s = true then pktsOf s else []
theorem lst_yes {s : ByteArray} (h : okPs s = true) : lstOf s = pktsOf s := if_pos h
theorem lst_no {s : ByteArray} (h : okPs s = false) : lstOf s = [] := if_neg (by rw [h]; exact Bool.false_ne_true)
def ParsU (s : ByteArray) (w : World) (e : Ending) (w' : World) : Prop :=
  ∃ A n c, e = .returned (.tuple #[.slice A n c, .bool (okPs s)]) ∧ w'.ownsRow w.heap.size 24 4 (.slice A n c) n (pcells (lstOf s)) ∧ n ≤ 64 ∧ Below w.heap.size w w'
theorem pars_u {s : ByteArray} {w w' : World} {e : Ending} (h : ParsPost s w e w') : ParsU s w e w' := by
  obtain ⟨⟨hok, A, n, c, rfl, ho⟩ | ⟨hok, A, c, rfl, ho⟩, hb⟩ := h
  · have hl := (pkts_vld hok).2
    have hn : (pktsOf s).length = n := (pr_own ho).1
    exact ⟨A, n, c, by rw [hok], by rw [lst_yes hok]; exact ho, by omega, hb⟩
  · exact ⟨A, 0, c, by rw [hok], by rw [lst_no hok]; exact ho, by omega, hb⟩
theorem parsI_u (s : ByteArray) (w : World) (hs : s.size < 4294967281) (hm : ML w) : Calls Tryd.prog 21 #[.string s] w (ParsU s w) := (parsI_any s w hs hm).mono fun _ _ h => pars_u h
theorem parsS_u (s : ByteArray) (w : World) (hs : s.size ≤ 1048576) : Calls Tryd.prog 25 #[.string s] w (ParsU s w) := (parsS_any s w hs).mono fun _ _ h => pars_u h
end Go.Proofs.YtlnbhbjibkgjgaaDoor
