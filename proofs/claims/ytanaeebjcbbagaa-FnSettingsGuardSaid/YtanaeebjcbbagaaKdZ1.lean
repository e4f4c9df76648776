/-
  Chapter 5: equality of flows and robins: what the program's functions and the model's return. Conditions: a flow has at most 4000000000 packets. Chapter 5: equality of robins: what the model's function returns. Conditions: a flow has at most 4000000000 packets. Appending rows of flows; slices.Clone of flows and of packets. Conditions: the rows have at most 4000000000 elements. Chapter 5: copies of robins: what the program's function returns. Conditions: a robin has at most 4000000000 flows, a flow at most 4000000000 packets. A region that draws its order, whose last operation waits for all oth
  Conditions: each lemma says them.
-/
import Derived.Test.YtanaeebjcbbagaaKcZ1
import Derived.Test.YtanaeebjcbbagaaKbZ1
import Derived.Test.YtanaeebjcbbagaaKaZ1
import Derived.Lib.SliceRun
import Derived.Deep.RegionHeld3
namespace Go.Proofs.Ytanaeebjcbbagaa
open Go.RowKit
end Go.Proofs.Ytanaeebjcbbagaa
namespace Go.Proofs.Ytanaeebjcbbagaa
open Go.RowKit
end Go.Proofs.Ytanaeebjcbbagaa
namespace Go.Proofs.Ytanaeebjcbbagaa
open Go.RowKit
end Go.Proofs.Ytanaeebjcbbagaa
namespace Go.Proofs.Ytanaeebjcbbagaa
open Go.RowKit
theorem al_out {w : World} {g : Nat} {k : Nat} {u : Value} : ∀ {L : List Iv} {lo : Nat}, (∀ x ∈ L, x.hi ≤ g) → Al lo L w → Al lo L (w.setCell ⟨g, k, none⟩ u)
  | [], _, _, h => by simpa [Al] using h
  | x :: r, _, hx, ⟨h1, h3, h4, h5⟩ => ⟨h1, h3, at_chg h4 (chg_grown (g_set (g_refl w (some g)) (.inl rfl) u) (lo := g) (hi := g + 1) fun b e => by injection e with e; omega) (.inl (hx x (List.mem_cons_self ..))), al_out (fun y hy => hx y (List.mem_cons_of_mem _ hy)) h5⟩
theorem fm_out {w w1 : World} {L : List Iv} {g k : Nat} (h : Fm w L w1) (hx : ∀ x ∈ L, x.hi ≤ g) (hg : w.heap.size ≤ g) (u : Value) : Fm w L (w1.setCell ⟨g, k, none⟩ u) := ⟨h.below.setCell hg u, al_out hx h.al⟩
theorem fm_grownO {w w1 w2 : World} {L : List Iv} {row : Option Nat} (h : Fm w L w1) (hg : w1.grownBy w2 row) (hr : ∀ b, row = some b → w.heap.size ≤ b ∧ ∀ x ∈ L, x.hi ≤ b) : Fm w L w2 := by
  refine ⟨h.below.grown hg h.below.size fun b e => (hr b e).1, ?_⟩
  have key : ∀ (M : List Iv) (lo : Nat), (∀ x ∈ M, x ∈ L) → Al lo M w1 → Al lo M w2 := by
    intro M
    induction M with
    | nil => intro lo _ h; exact Nat.le_trans h hg.size
    | cons x r ih =>
      intro lo hx ⟨h1, h3, h4, h5⟩
      refine ⟨h1, h3, ?_, ih _ (fun y hy => hx y (List.mem_cons_of_mem _ hy)) h5⟩
      rcases hrow : row with _ | b
      · exact at_below h4 ⟨hg.os, hg.tape, hg.output, hg.size, fun i hi => hg.block i hi (by rw [hrow]; exact fun e => by cases e)⟩
      · exact at_chg h4 (chg_grown hg (lo := b) (hi := b + 1) fun b' e => by rw [hrow] at e; injection e with e; omega) (.inl ((hr b hrow).2 x (hx x (List.mem_cons_self ..))))
  exact key L _ (fun x hx => hx) h.al
end Go.Proofs.Ytanaeebjcbbagaa
namespace Go.Proofs.Ytanaeebjcbbagaa
open Go.RowKit
section
variable {P : Program} {ops : Array Oper} {Q : Exit → Act → World → Prop} {md : Region.Mode} {S : World → Prop} {L : Nat}
def HeldTo (P : Program) (md : Region.Mode) (ops : Array Oper) (Q : Exit → Act → World → Prop) (S : World → Prop) (L : Nat) : Nat → Array Bool → Act → World → Prop
  | 0, ls, a, w => Region.ready md ops ls = [] ∧ Q .normal a w
  | n + 1, ls, a, w => (Region.ready md ops ls = [] → Q .normal a w) ∧ ∀ j ∈ Region.ready md ops ls, wpOp P ops Q j (fun a2 w2 => (j = L ∨ S w2) ∧ HeldTo P md ops Q S L n (ls.setIfInBounds j true) a2 w2) a w
theorem heldTo_any : ∀ (n : Nat) (ls : Array Bool) (a : Act) (w : World), HeldTo P md ops Q S L n ls a w → wpAny P md ops Q n ls a w
  | 0, _, _, _, h => h
  | n + 1, _, _, _, h => ⟨h.1, fun j hj => wpOp_mono (fun a2 w2 k => heldTo_any n _ a2 w2 k.2) (h.2 j hj)⟩
def waitsFor (md : Region.Mode) (ops : Array Oper) (L i : Nat) : Bool := match ops[L]? with
  | none => true
  | some o => o.after.any fun e => Region.binds md e && e.on == i
theorem heldTo_first {i : Nat} {oi : Oper} {v : Value} (hi : ops[i]? = some oi) (hsel : ∀ (j : Nat) (o : Oper) cs b, ops[j]? = some o → o.op ≠ .select cs b)
    (hQ : ∀ c a w, Q (.panic c) (a.put oi.dst v) w → Q (.panic c) a w) (hL : waitsFor md ops L i = true) : ∀ (n : Nat) (ls : Array Bool) (a : Act) (w : World),
      (∀ j oj, ops[j]? = some oj → j ≠ i → ls.getD j true = false → (∀ e ∈ oj.after, Region.binds md e = true → e.on ≠ i) → oi.apart ops oj = true) →
      i ∈ Region.ready md ops ls → YieldsIf P ops S oi v a → S w → HeldTo P md ops Q S L n (ls.setIfInBounds i true) (a.put oi.dst v) w → HeldTo P md ops Q S L (n + 1) ls a w := by
  intro n
  induction n with
  | zero =>
    intro ls a w _ hr hy hS H
    refine ⟨fun e => (by rw [e] at hr; cases hr), fun j hj => ?_⟩
    by_cases e : j = i
    · subst e; exact hy.wpOp hi hS ⟨.inr hS, H⟩
    · have := ready_mono hj e
      rw [H.1] at this
      cases this
  | succ n ih =>
    intro ls a w hfree hr hy hS H
    refine ⟨fun e => (by rw [e] at hr; cases hr), fun j hj => ?_⟩
    by_cases e : j = i
    · subst e; exact hy.wpOp hi hS ⟨.inr hS, H⟩
    obtain ⟨hju, oj, hoj, hall⟩ := mem_ready.1 hj
    have hno : ∀ e ∈ oj.after, Region.binds md e = true → e.on ≠ i := fun e he hb heq => by
      have h1 := hall e he hb
      have h0 := (mem_ready.1 hr).1
      rw [heq] at h1
      rcases Nat.lt_or_ge i ls.size with hlt | hge
      · simp [hlt] at h0 h1; rw [h0] at h1; cases h1
      · simp [Array.getElem?_eq_none hge] at h1
    have hjL : j ≠ L := by
      rintro rfl
      unfold waitsFor at hL
      rw [hoj] at hL
      simp only [Array.any_eq_true] at hL
      obtain ⟨k, hk, hb⟩ := hL
      rw [Bool.and_eq_true, beq_iff_eq] at hb
      exact hno _ (Array.getElem_mem hk) hb.1 hb.2
    have h2 := wpOp_putIf hoj (hfree j oj hoj e hju hno) (fun cs b => hsel i oi cs b hi) (fun cs b => hsel j oj cs b hoj) hQ hy (H.2 j (ready_mono hj e))
    have hfree2 : ∀ k ok, ops[k]? = some ok → k ≠ i → (ls.setIfInBounds j true).getD k true = false → (∀ e ∈ ok.after, Region.binds md e = true → e.on ≠ i) → oi.apart ops ok = true := fun k ok hk hki hun hn => by
      refine hfree k ok hk hki ?_ hn
      by_cases hjk : j = k
      · subst hjk; exact hju
      · rw [getD_set_ne true hjk] at hun; exact hun
    refine wpOp_mono (fun a2 w2 h3 => ⟨h3.2.1, ih (ls.setIfInBounds j true) a2 w2 hfree2 (ready_mono hr (Ne.symm e)) h3.1 (h3.2.1.resolve_left hjL) ?_⟩) h2
    rw [Array.setIfInBounds_comm _ _ e]
    exact h3.2.2
theorem held_take {i : Nat} {oi : Oper} {v : Value} {n : Nat} {ls : Array Bool} {a : Act} {w : World} (hi : ops[i]? = some oi) (hs : Region.noSelect ops = true) (hf : Region.free md ops ls i = true)
    (hr : (Region.ready md ops ls).contains i = true) (hL : waitsFor md ops L i = true) (hQ : ∀ c a w, Q (.panic c) (a.put oi.dst v) w → Q (.panic c) a w) (hy : YieldsIf P ops S oi v a) (hS : S w)
    (h : HeldTo P md ops Q S L n (ls.setIfInBounds i true) (a.put oi.dst v) w) : HeldTo P md ops Q S L (n + 1) ls a w :=
  heldTo_first hi (Region.noSelect_spec hs) hQ hL n ls a w (Region.free_spec hi hf) (by simpa using hr) hy hS h
theorem held_done {ls : Array Bool} {a : Act} {w : World} (hr : Region.ready md ops ls = []) (h : Q .normal a w) : ∀ n, HeldTo P md ops Q S L n ls a w
  | 0 => ⟨hr, h⟩
  | _ + 1 => ⟨fun _ => h, by rw [hr]; simp⟩
theorem held_one {i : Nat} {o : Oper} {n : Nat} {ls : Array Bool} {a : Act} {w : World} (hr : Region.ready md ops ls = [i]) (ho : ops[i]? = some o)
    (h : ∀ K : Act → World → Prop, Shut (∀ a2 w2, (i = L ∨ S w2) → HeldTo P md ops Q S L n (ls.setIfInBounds i true) a2 w2 → K a2 w2) → if Region.wanted o (yielded ops a.tmps) = true then Oper.wp P o a w K Q else K (a.put o.dst undef) w) :
    HeldTo P md ops Q S L (n + 1) ls a w :=
  ⟨fun e => (by rw [hr] at e; cases e), fun j hj => by
    rw [hr] at hj
    obtain rfl : j = i := by simpa using hj
    exact wpOp_step ho fun K hK => h K fun a2 w2 h1 h2 => hK a2 w2 ⟨h1, h2⟩⟩
theorem held_two {i j : Nat} {oi oj : Oper} {n : Nat} {ls : Array Bool} {a : Act} {w : World} (hr : Region.ready md ops ls = [i, j]) (hi : ops[i]? = some oi) (hj : ops[j]? = some oj)
    (h1 : ∀ K : Act → World → Prop, Shut (∀ a2 w2, (i = L ∨ S w2) → HeldTo P md ops Q S L n (ls.setIfInBounds i true) a2 w2 → K a2 w2) → if Region.wanted oi (yielded ops a.tmps) = true then Oper.wp P oi a w K Q else K (a.put oi.dst undef) w)
    (h2 : ∀ K : Act → World → Prop, Shut (∀ a2 w2, (j = L ∨ S w2) → HeldTo P md ops Q S L n (ls.setIfInBounds j true) a2 w2 → K a2 w2) → if Region.wanted oj (yielded ops a.tmps) = true then Oper.wp P oj a w K Q else K (a.put oj.dst undef) w) :
    HeldTo P md ops Q S L (n + 1) ls a w :=
  ⟨fun e => (by rw [hr] at e; cases e), fun k hk => by
    rw [hr] at hk
    rcases List.mem_cons.1 hk with rfl | hk
    · exact wpOp_step hi fun K hK => h1 K fun a2 w2 h3 h4 => hK a2 w2 ⟨h3, h4⟩
    · obtain rfl : k = j := by simpa using hk
      exact wpOp_step hj fun K hK => h2 K fun a2 w2 h3 h4 => hK a2 w2 ⟨h3, h4⟩⟩
theorem held_start {id : Nat} {a : Act} {w : World} (L : Nat) (hm : P.follows .mixedOrders = true) (h : HeldTo P .any ops Q S L ops.size (Array.replicate ops.size false) a w.drew) : (Code.region id ops true).wp P Q a w :=
  wp_region_any hm (heldTo_any _ _ _ _ h)
end
end Go.Proofs.Ytanaeebjcbbagaa
namespace Go.Proofs.Ytanaeebjcbbagaa
open Go.RowKit
structure CS (w : World) (q : Int) (A : Option Addr) (n c : Nat) (Ao : Option Addr) (k co : Nat) (hs : List Fh) (fs : List Flw) (wr : World) : Prop where
  fm : Fm w [⟨w.heap.size, w.heap.size + 1, BoxP w.heap.size 100 #[.int .i64 q, (.slice A n c)]⟩, ⟨w.heap.size + 1, w.heap.size + 2, BoxP (w.heap.size + 1) 100 #[.int .i64 0, (.slice none 0 0)]⟩] wr
  out : Blk wr (w.heap.size + 3) 100 #[.int .i64 q, (.slice Ao k co)]
  fl : DO wr (w.heap.size + 2) (.slice Ao k co) k hs fs
  sep : ∀ b, Value.ownBlock (.slice Ao k co) = some b → b ≠ w.heap.size + 3
  seps : ∀ (j : Nat) (h : Fh), hs[j]? = some h → ∀ b, h.sl.ownBlock = some b → b ≠ w.heap.size + 3
end Go.Proofs.Ytanaeebjcbbagaa
