/-
  A region that draws its order of evaluation: one invariant, kept by each operation that may come up, whatever the order. Conditions: each operation waits only for earlier ones.
  Conditions: each lemma says them.
-/
import Derived.Test.YtanaeebjcbbagaaKaZ1
import Derived.Deep.RegionHeld3
namespace Go.Proofs.Ytanaeebjcbbagaa
open Go
def unl : Nat → Array Bool → Nat
  | 0, _ => 0
  | n + 1, l => unl n l + (if l.getD n true = true then 0 else 1)
theorem getD_set {l : Array Bool} {i j : Nat} {d : Bool} (h : j ≠ i) : (l.setIfInBounds i true).getD j d = l.getD j d := by
  simp only [Array.getD_eq_getD_getElem?, Array.getElem?_setIfInBounds]
  rw [if_neg (fun e => h e.symm)]
theorem getD_self {l : Array Bool} {i : Nat} {d : Bool} (h : i < l.size) : (l.setIfInBounds i true).getD i d = true := by
  simp [Array.getD_eq_getD_getElem?, h]
theorem lt_of_unlisted {l : Array Bool} {i : Nat} (h : l.getD i true = false) : i < l.size := by
  rcases Nat.lt_or_ge i l.size with h1 | h1
  · exact h1
  · simp [Array.getD_eq_getD_getElem?, h1] at h
theorem unl_ge {l : Array Bool} {i : Nat} : ∀ n, n ≤ i → unl n (l.setIfInBounds i true) = unl n l
  | 0, _ => rfl
  | n + 1, h => by simp only [unl]; rw [unl_ge n (by omega), getD_set (by omega)]
theorem unl_set {l : Array Bool} {i : Nat} (h : l.getD i true = false) : ∀ n, i < n → unl n (l.setIfInBounds i true) + 1 = unl n l
  | 0, hn => absurd hn (by omega)
  | n + 1, hn => by
    simp only [unl]
    by_cases e : i = n
    · subst e
      rw [unl_ge i (Nat.le_refl _), getD_self (lt_of_unlisted h), h]
      rfl
    · rw [getD_set (fun k => e k.symm)]
      have := unl_set h n (by omega)
      omega
theorem unl_zero {l : Array Bool} : ∀ n, unl n l = 0 → ∀ i, i < n → l.getD i true = true
  | 0, _, _, hi => absurd hi (by omega)
  | n + 1, h, i, hi => by
    simp only [unl] at h
    by_cases e : i = n
    · subst e
      by_cases k : l.getD i true = true
      · exact k
      · rw [if_neg k] at h; omega
    · exact unl_zero n (by omega) i (by omega)
theorem unl_le {l : Array Bool} : ∀ n, unl n l ≤ n
  | 0 => Nat.le_refl _
  | n + 1 => by simp only [unl]; have := unl_le (l := l) n; split <;> omega
section
variable {P : Program} {ops : Array Oper} {Q : Exit → Act → World → Prop} {md : Region.Mode}
theorem ready_mem {l : Array Bool} {i : Nat} (h : i ∈ Region.ready md ops l) : i < ops.size ∧ l.getD i true = false ∧ ∀ o, ops[i]? = some o → (o.after.all fun e => !Region.binds md e || l.getD e.on false) = true := by
  simp only [Region.ready, List.mem_filter, List.mem_range, Bool.and_eq_true, Bool.not_eq_true'] at h
  obtain ⟨h1, h2, h3⟩ := h
  refine ⟨h1, h2, fun o ho => ?_⟩
  rw [ho] at h3
  simpa using h3
theorem ready_unl {l : Array Bool} (h : unl ops.size l = 0) : Region.ready md ops l = [] := by
  rw [List.eq_nil_iff_forall_not_mem]
  intro i hi
  obtain ⟨h1, h2, -⟩ := ready_mem hi
  rw [unl_zero _ h i h1] at h2
  cases h2
theorem ready_nil {l : Array Bool} (h : Region.ready md ops l = []) (hs : l.size = ops.size) (hw : ((List.range ops.size).all fun i => ((ops[i]?).map (·.after.all fun e => decide (e.on < i))).getD true) = true) : ∀ i, i < ops.size → l.getD i false = true := by
  intro i
  induction i using Nat.strongRecOn with
  | _ i ih =>
    intro hi
    have hi2 : i < l.size := by omega
    rcases hv : l.getD i false with _ | _
    · have : i ∈ Region.ready md ops l := by
        simp only [Region.ready, List.mem_filter, List.mem_range, Bool.and_eq_true, Bool.not_eq_true']
        refine ⟨hi, ?_, ?_⟩
        · simp only [Array.getD_eq_getD_getElem?, Array.getElem?_eq_getElem hi2, Option.getD_some] at hv ⊢
          exact hv
        · rw [Array.getElem?_eq_getElem hi]
          simp only [Option.map_some, Option.getD_some, Array.all_eq_true]
          intro k hk
          have h1 := List.all_eq_true.1 hw i (List.mem_range.2 hi)
          rw [Array.getElem?_eq_getElem hi, Option.map_some, Option.getD_some] at h1
          simp only [Array.all_eq_true, decide_eq_true_eq] at h1
          rw [ih _ (h1 k hk) (by have := h1 k hk; omega), Bool.or_true]
      rw [h] at this
      cases this
    · rfl
theorem unl_all {l : Array Bool} : ∀ n, (∀ j, j < n → l.getD j false = true) → unl n l = 0
  | 0, _ => rfl
  | n + 1, h => by
    have h1 := h n (by omega)
    have h2 : l.getD n true = true := by
      rcases Nat.lt_or_ge n l.size with k | k
      · simp only [Array.getD_eq_getD_getElem?, Array.getElem?_eq_getElem k, Option.getD_some] at h1 ⊢
        exact h1
      · simp [Array.getD_eq_getD_getElem?, k] at h1
    simp only [unl]
    rw [unl_all n (fun j hj => h j (by omega)), if_pos h2]
theorem ready_all {l : Array Bool} (h : ∀ j, j < ops.size → l.getD j false = true) : Region.ready md ops l = [] := ready_unl (unl_all _ h)
theorem any_inv (I : Array Bool → Act → World → Prop)
    (hstep : ∀ l a w i, I l a w → i ∈ Region.ready md ops l → wpOp P ops Q i (fun a' w' => I (l.setIfInBounds i true) a' w' ∨ (Region.ready md ops (l.setIfInBounds i true) = [] ∧ Q .normal a' w')) a w)
    (hend : ∀ l a w, I l a w → Region.ready md ops l = [] → Q .normal a w) :
    ∀ (fuel : Nat) (l : Array Bool) (a : Act) (w : World), I l a w → unl ops.size l ≤ fuel → wpAny P md ops Q fuel l a w
  | 0, l, a, w, h, hf => by
    have := ready_unl (md := md) (ops := ops) (l := l) (by omega)
    exact ⟨this, hend l a w h this⟩
  | fuel + 1, l, a, w, h, hf => ⟨hend l a w h, fun i hi => wpOp_mono (fun a' w' h' => by
      rcases h' with h' | ⟨h', hq⟩
      · exact any_inv I hstep hend fuel _ a' w' h' (by
          obtain ⟨h1, h2, -⟩ := ready_mem hi
          have := unl_set h2 ops.size h1
          omega)
      · exact wpAny_done h' hq fuel) (hstep l a w i h hi)⟩
theorem region_inv {id : Nat} {a : Act} {w : World} (I : Array Bool → Act → World → Prop) (hm : P.follows .mixedOrders = true)
    (h0 : I (Array.replicate ops.size false) a w.drew)
    (hstep : ∀ l a w i, I l a w → i ∈ Region.ready .any ops l → wpOp P ops Q i (fun a' w' => I (l.setIfInBounds i true) a' w' ∨ (Region.ready .any ops (l.setIfInBounds i true) = [] ∧ Q .normal a' w')) a w)
    (hend : ∀ l a w, I l a w → Region.ready .any ops l = [] → Q .normal a w) : (Code.region id ops true).wp P Q a w :=
  wp_region_any hm (any_inv I hstep hend _ _ _ _ h0 (unl_le _))
end
end Go.Proofs.Ytanaeebjcbbagaa
