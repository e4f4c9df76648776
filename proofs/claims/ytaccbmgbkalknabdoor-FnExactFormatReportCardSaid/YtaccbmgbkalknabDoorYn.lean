/-
  Chapter 11: the names of decisions out of a row's list; the draw of decisions and packets. Conditions: none.
-/
import Derived.Test.YtaccbmgbkalknabDoorTab
import Derived.Test.YtaccbmgbkalknabDoorYr
import Derived.Test.YtaccbmgbkalknabDoorYd
import Derived.Test.YtaccbmgbkalknabDoorDrawList
import Derived.OpenVars
import Derived.ChangeVars
namespace Go.Proofs.YtaccbmgbkalknabDoor
open Go.ChangeShapes Go.WideShapes Go.ChangeAt Go.RowKit

theorem cells_of_strs {H : Type} {enc : TypeId × Value → H} {P : Program} {w : World} {base : Nat} {sp : Nat → Bool} {held : Bool} {fuel : Nat} {t e : TypeId} {n : Nat} {cs : List Value} {zs : List (List UInt8)} {p : List MemPlace}
    (ht : P.underlying t = some (.array n e)) (he : P.underlying e = some .string) (hce : P.cellsOf e = 1) (hct : P.cellsOf t = n)
    (h : DataW.trod enc P w base sp held fuel t cs = some (.agg (zs.map fun z => .lit (.string z)), p)) : ∀ (i : Nat) (z : List UInt8), zs[i]? = some z → cs[i]? = some (.string ⟨z.toArray⟩) := by
  cases fuel with
  | zero => simp [DataW.trod] at h
  | succ fuel =>
    simp only [DataW.trod, ht, hce, hct, Nat.mul_one] at h
    split at h
    · rename_i hl
      obtain ⟨xs, hm, hx⟩ := Option.map_eq_some_iff.1 h
      have hxs : xs.map (·.1) = zs.map fun z => (DataW.lit (.string z) : DataW H) := by
        have := congrArg Prod.fst hx
        simpa using this
      have hxl : xs.length = n := by simpa using Lib.mapM_length hm
      have hzl : zs.length = n := by
        have := congrArg List.length hxs
        simp at this
        omega
      intro i z hz
      have hi : i < n := by
        rcases Nat.lt_or_ge i n with h1 | h1
        · exact h1
        · rw [List.getElem?_eq_none (by omega)] at hz; cases hz
      obtain ⟨b, hb, hf⟩ := Lib.mapM_at hm i i (by simp [hi])
      obtain ⟨s, hc, rfl, _⟩ := DataW.trod_string he hf
      have h1 : cs[i]? = some (.string s) := by
        have := congrArg (·[0]?) hc
        simpa [List.getElem?_take, List.getElem?_drop] using this
      have h2 : (xs.map (·.1))[i]? = some (DataW.lit (.string s.data.toList) : DataW H) := by simp [hb]
      rw [hxs] at h2
      simp only [List.getElem?_map, hz, Option.map_some, Option.some.injEq, DataW.lit.injEq, Lit.string.injEq] at h2
      rw [h1, h2]
    · cases h
theorem gNames : Tryd.prog.globalNamed "loop.example/trafficguard/impl.decisionNames" = some 0 := by kernel_rfl
theorem gNamesType : (Tryd.prog.globals[0]?).map (·.type) = some 43 := by kernel_rfl
theorem cellsNames : Tryd.prog.cellsOf 43 = 6 := by kernel_rfl
theorem cellsStr : Tryd.prog.cellsOf 9 = 1 := by kernel_rfl
def nmData : List (List UInt8) := [[], [105, 110], [98, 97, 110, 110, 101, 100], [102, 97, 115, 116], [98, 117, 115, 121], [102, 117, 108, 108]]
theorem nm_at {d : Nat} (h1 : 1 ≤ d) (h2 : d ≤ 5) : nmData[d]? = some (nmL d) := by
  rcases d with _ | _ | _ | _ | _ | _ | d
  · omega
  all_goals first | rfl | omega
theorem names_of {W : World} {r : List (String × DataW Unit)} {d1 d2 d3 : DataW Unit} (h1 : laidMet Tryd.prog (("math/bits.deBruijn32tab", d1) :: ("math/bits.deBruijn64tab", d2) :: ("internal/strconv.uint64pow10", d3) :: ("loop.example/trafficguard/impl.decisionNames", Rows.laid_loop_example_trafficguard_impl_decisionNames) :: r) W) : Nms W := by
  have h2 := laid_tail (laid_tail (laid_tail h1))
  have h0 : (Rows.laid_loop_example_trafficguard_impl_decisionNames : DataW Unit) = .agg (nmData.map fun z => .lit (.string z)) := by kernel_rfl
  rw [h0] at h2
  obtain ⟨ps, ⟨g', t', cs, fuel, p, q, hg', ht', hvar, hd, _, _⟩, _⟩ := h2
  obtain rfl := Option.some.inj (gNames.symm.trans hg')
  obtain rfl := Option.some.inj (gNamesType.symm.trans ht')
  have hcells := cells_of_strs Tryd.underlying43 Tryd.underlying9 cellsStr cellsNames hd
  have hat : ∀ d, 1 ≤ d → d ≤ 5 → W.cell? ⟨0, d, none⟩ = some (.string (nmS d)) := fun d a b => by
    have h3 := World.var?_cell gNames hvar d
    rw [h3, ← Array.getElem?_toList]
    exact hcells d _ (nm_at a b)
  exact ⟨World.block_lt_of_cell? W (a := ⟨0, 1, none⟩) (hat 1 (by omega) (by omega)), hat⟩
def DrawnF (w : World) (e : Ending) (w' : World) : Prop :=
  ∃ A n c us B m d ps, e = .returned (.tuple #[.slice A n c, .slice B m d]) ∧ n ≤ 9 ∧ m ≤ 9 ∧ NR w' A n us ∧ PR w' B m ps ∧ Below w.heap.size w w'
set_option maxRecDepth 100000 in
set_option maxHeartbeats 1000000 in
theorem drawReport_any (A : Option Addr) (n c : Nat) (w : World) (h : Bytes w A n c) :
    Calls Tryd.prog 6 #[.slice A n c] w (DrawnF w) := by
  go_enter Tryd.func6, Tryd.ntmps6
  go_wp2_with fail
  refine (open_any A n c _ h).mono ?_
  rintro e w1 ⟨g, rfl, hg, hb, hr⟩
  have hg1 := rd_lt hr
  go_wp2_with fail
  refine (l11Ints_any g 0 _ hr (by omega)).mono ?_
  rintro e w2 ⟨A2, m, c2, xs, rfl, hm, hf⟩
  have HF := Lib.hid hf
  have hg2 := rd_lt hf.rd
  clear hf hr
  go_wp2_with fail
  refine (l1Some_any g _ _ HF.out.rd (by omega)).mono ?_
  rintro e w3 ⟨v, n3, ps, rfl, hn3, ho3, hgr3, hr3⟩
  obtain ⟨A3, c3, rfl, -, -, -⟩ := own_form ho3
  have H := Lib.hid (show NR w3 A2 m xs ∧ PR w3 A3 n3 ps ∧ Below w.heap.size w w3 from ⟨nr_own (HF.out.own.kept hgr3 (own_block_none HF.out.own HF.out.hg)), pr_own ho3, below_grown (below_grown hb hb.size HF.out.grow hg) (by have := hb.size; have := HF.out.grow.size; omega) hgr3 hg⟩)
  clear ho3 hgr3 hr3 hb HF
  go_wp2
  go_ret2
  exact ⟨A2, m, c2, xs, A3, n3, c3, ps, rfl, hm, hn3, H.out.1, H.out.2.1, H.out.2.2⟩
end Go.Proofs.YtaccbmgbkalknabDoor
