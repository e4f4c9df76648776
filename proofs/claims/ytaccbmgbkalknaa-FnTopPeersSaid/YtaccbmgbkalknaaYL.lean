/-
  Chapter 11: what the laws want of its functions: answers as lists alone. Conditions: a slice's length fits an int; the model's BytesByPeer: at most 4000000000 packets.
-/
import Derived.Test.YtaccbmgbkalknaaY5
import Derived.Test.YtaccbmgbkalknaaY2
namespace Go.Proofs.Ytaccbmgbkalknaa
open Go.RowKit

def RdQ (w : World) (xs : List Int) (ok : Bool) (e : Ending) (w' : World) : Prop :=
  ∃ A n c, e = .returned (.tuple #[.slice A n c, .bool ok]) ∧ n = xs.length ∧ n ≤ c ∧ NR w' A n xs ∧ Below w.heap.size w w'
theorem rdq_of {w w' : World} {xs : List Int} {ok : Bool} {e : Ending} (h : LPq w xs ok e w') : RdQ w xs ok e w' := by
  obtain ⟨A, n, c, h1, h2, h3, h4⟩ := h
  obtain ⟨A', c', hv, hnc, -⟩ := own_form h3
  obtain ⟨rfl, rfl⟩ : A = A' ∧ c = c' := by injection hv with a1 a2 a3; exact ⟨a1, a3⟩
  exact ⟨A, n, c, h1, h2, hnc, nr_own h3, h4⟩
section
variable {w : World} {A : Option Addr} {n c : Nat} {xs : List Int}
theorem nr_drop (h : NR w A n xs) {k : Nat} (hk : k ≤ n) (hc : n ≤ c) : NR w (if c = k then A else A.map (·.add k)) (n - k) (xs.drop k) := by
  refine ⟨by rw [List.length_drop, h.1], fun hn => ?_⟩
  have hn' : k < n := by rw [List.length_drop, h.1] at hn; omega
  obtain ⟨b, off, rfl, hb, hcell⟩ := h.2 (by rw [h.1]; omega)
  rw [if_neg (by omega)]
  refine ⟨b, off + k, ?_, hb, fun j p hp => ?_⟩
  · simp only [Option.map_some, Addr.add]
    split
    · rw [show k = 0 from by assumption, Nat.add_zero]
    · rfl
  · have := hcell (k + j) p (by rw [← hp, List.getElem?_drop])
    rw [show off + k + j = off + (k + j) from by omega]
    exact this
end
theorem nr_drop2 {w : World} {A : Option Addr} {n c k : Nat} {xs : List Int} (h : NR w A n xs) (hk : k ≤ n) (hc : n ≤ c) (hne : ¬ c = k) : NR w (A.map (fun x => x.add k)) (n - k) (xs.drop k) := by
  have := nr_drop h hk hc
  rwa [if_neg hne] at this
theorem nr_drop0 {w : World} {A : Option Addr} {n k : Nat} {xs : List Int} (h : NR w A n xs) (hk : n ≤ k) : NR w A (n - k) (xs.drop k) :=
  ⟨by rw [List.length_drop, h.1], fun hn => by rw [List.length_drop, h.1] at hn; omega⟩
theorem pr_drop2 {w : World} {A : Option Addr} {n c k : Nat} {ps : List Pkt} (h : PR w A n ps) (hk : k ≤ n) (hc : n ≤ c) (hne : ¬ c = k) : PR w (A.map (fun x => x.add (k * 4))) (n - k) (ps.drop k) := by
  have := pr_drop h hk hc
  rwa [if_neg hne] at this
theorem pr_drop0 {w : World} {A : Option Addr} {n k : Nat} {ps : List Pkt} (h : PR w A n ps) (hk : n ≤ k) : PR w A (n - k) (ps.drop k) :=
  ⟨by rw [List.length_drop, h.1], fun hn => by omega⟩
theorem tgI_same (A A2 : Option Addr) (n c n2 c2 : Nat) (us : List Int) (w : World) (h : NR w A n us) (h2 : NR w A2 n2 us) (hn : n ≤ 9223372036854775807) (hn2 : n2 ≤ 9223372036854775807) :
    Calls Try.prog 18 #[.slice A n c, .slice A2 n2 c2] w fun e w' => e = .returned (.bool true) ∧ Below w.heap.size w w' := by
  have := tgInts_any A A2 n c n2 c2 us us w h h2 hn hn2
  rwa [← ints_yes rfl] at this
theorem cdI_rd (A : Option Addr) (n c : Nat) (us R : List Int) (ok : Bool) (w : World) (h : NR w A n us) (hn : n ≤ 9223372036854775807) (hR : (if decB us = true then cdL us else []) = R) (hok : decB us = ok) :
    Calls Try.prog 16 #[.slice A n c] w (RdQ w R ok) := by
  subst hR hok
  exact (cdI_any A n c us w h hn).mono fun _ _ => rdq_of
theorem cdS_rd (A : Option Addr) (n c : Nat) (us R : List Int) (ok : Bool) (w : World) (h : NR w A n us) (hn : n ≤ 9223372036854775807) (hR : (if decB us = true then cdL us else []) = R) (hok : decB us = ok) :
    Calls Try.prog 17 #[.slice A n c] w (RdQ w R ok) := by
  subst hR hok
  exact (cdS_any A n c us w h hn).mono fun _ _ => rdq_of
theorem bbI_rd (A : Option Addr) (n c : Nat) (ps : List Pkt) (R : List Int) (ok : Bool) (w : World) (h : PR w A n ps) (hn : n ≤ 9223372036854775807) (hR : (if bpB ps = true then bsL ps else []) = R) (hok : bpB ps = ok) :
    Calls Try.prog 20 #[.slice A n c] w (RdQ w R ok) := by
  subst hR hok
  exact (bbI_any A n c ps w h hn).mono fun _ _ => rdq_of
theorem bbS_rd (A : Option Addr) (n c : Nat) (ps : List Pkt) (R : List Int) (ok : Bool) (w : World) (h : PR w A n ps) (hn : n ≤ 4000000000) (hR : (if bpB ps = true then bsL ps else []) = R) (hok : bpB ps = ok) :
    Calls Try.prog 21 #[.slice A n c] w (RdQ w R ok) := by
  subst hR hok
  exact (bbS_any A n c ps w h hn).mono fun _ _ => rdq_of
theorem tpI_rd (A : Option Addr) (n c : Nat) (us R : List Int) (x : Int) (ok : Bool) (w : World) (h : NR w A n us) (hn : n ≤ 9223372036854775807) (hR : tpL us x = R) (hok : tpB us x = ok) :
    Calls Try.prog 27 #[.slice A n c, .int .i64 x] w (RdQ w R ok) := by
  subst hR hok
  exact (tpI_any A n c us x w h hn).mono fun _ _ => rdq_of
theorem tpS_rd (A : Option Addr) (n c : Nat) (us R : List Int) (x : Int) (ok : Bool) (w : World) (h : NR w A n us) (hn : n ≤ 9223372036854775807) (hR : tpL us x = R) (hok : tpB us x = ok) :
    Calls Try.prog 28 #[.slice A n c, .int .i64 x] w (RdQ w R ok) := by
  subst hR hok
  exact (tpS_any A n c us x w h hn).mono fun _ _ => rdq_of
theorem cd_len (us : List Int) : (cdL us).length = 6 := rfl
theorem bs_len (ps : List Pkt) : (bsL ps).length = 8 := rfl
theorem cd_bd (us : List Int) : ∀ x ∈ cdL us, 0 ≤ x ∧ x ≤ us.length := by
  intro x hx
  simp only [cdL, List.mem_cons, List.not_mem_nil, or_false] at hx
  rcases hx with rfl | rfl | rfl | rfl | rfl | rfl <;> exact cntI_bd _ _
theorem bs_bd {ps : List Pkt} (h : ps.all vldB = true) : ∀ x ∈ bsL ps, 0 ≤ x ∧ x ≤ 100 * ps.length := by
  intro x hx
  simp only [bsL, List.mem_cons, List.not_mem_nil, or_false] at hx
  rcases hx with rfl | rfl | rfl | rfl | rfl | rfl | rfl | rfl <;> exact bsz_bd h
theorem bp_app {a b : List Pkt} (h : bpB (a ++ b) = true) : bpB a = true ∧ bpB b = true := by
  obtain ⟨h1, h2⟩ := bp_of h
  rw [List.all_append, Bool.and_eq_true] at h2
  rw [List.length_append] at h1
  exact ⟨by simp only [bpB, Bool.and_eq_true, decide_eq_true_eq]; exact ⟨by omega, h2.1⟩, by simp only [bpB, Bool.and_eq_true, decide_eq_true_eq]; exact ⟨by omega, h2.2⟩⟩
theorem half (n : Nat) : ((n : Int).tdiv 2) = ((n / 2 : Nat) : Int) := by rw [Int.tdiv_eq_ediv_of_nonneg (by omega)]; omega
end Go.Proofs.Ytaccbmgbkalknaa
