/-
  Appending one packet to a row of packets that the call owns. Conditions: the row has at most 4000000000 packets.
-/
import Derived.Test.YtfpdmolbaioojaaBase
namespace Go.Proofs.Ytfpdmolbaioojaa
open Go.RowKit

theorem infoPkt : (Try.prog.info? 33).map (fun i => (i.zero, i.size, i.bytes)) = some (some (.agg #[.int .i64 0, .int .i64 0, .int .i64 0, .int .i64 0]), 4, 32) := by kernel_rfl
theorem wp_app_pkt (w : World) {ops : Array Oper} {rest : List Oper} {o : Oper} {a : Act} {Q : Exit → Act → World → Prop} (hgd : o.guard = none) (s x : Operand)
    (ho : o.op = .call { callee := .builtin .append, args := #[s, x], argTypes := #[23, 23] })
    (base : Nat) (v : Value) (n : Nat) (ps : List Pkt) (p : Pkt) (hs : a.eval s = v) (hown : w.ownsRow base 33 4 v n (pcells ps))
    (bl : Nat) (hbl : bl = w.heap.size) (hx : a.eval x = .slice (some ⟨bl, 0, none⟩) 1 1) (hn : n ≤ 4000000000) (hb : base ≤ w.heap.size)
    (h : ∀ v' w', w'.ownsRow base 33 4 v' (n + 1) (pcells (ps ++ [p])) → (w.alloc (.cells #[.int .i64 p.peer, .int .i64 p.lane, .int .i64 p.size, .int .i64 p.id] 33)).grownBy w' v.ownBlock → wpList Try.prog ops Q rest (a.put o.dst v') w') :
    wpList Try.prog ops Q (o :: rest) a (w.alloc (.cells #[.int .i64 p.peer, .int .i64 p.lane, .int .i64 p.size, .int .i64 p.id] 33)) := by
  subst hbl
  obtain ⟨i0, hi, hz0, hz1, hz2⟩ := info_parts infoPkt
  refine wpList_append_own _ hgd s x 23 ho base 33 i0 _ 4 32 Try.underlying23 hi hz0 hz1 hz2 rfl (by decide) v n _ hs (hown.alloc _) ⟨w.heap.size, 0, none⟩ 1 1 [.int .i64 p.peer, .int .i64 p.lane, .int .i64 p.size, .int .i64 p.id] hx rfl ?_ ?_ ?_ ?_ ?_ ?_
  · intro j u hj
    have hB := blk_new w 33 #[.int .i64 p.peer, .int .i64 p.lane, .int .i64 p.size, .int .i64 p.id]
    have ha : (⟨w.heap.size, 0, none⟩ : Addr).add j = ⟨w.heap.size, j, none⟩ := by unfold Addr.add; split <;> simp_all
    rw [ha, blk_cell hB, ← hj, ← Array.getElem?_toList]
  · exact pcells_one [p]
  · unfold maxLen; omega
  · omega
  · simp; omega
  · intro v' w' hown' hg' _
    exact h v' w' (by rw [pcells_snoc]; exact hown') hg'
end Go.Proofs.Ytfpdmolbaioojaa
