/-
  The draw of two lists, of which the second may differ in one packet. Conditions: none.
-/
import Derived.Test.YtlnbhbjibkgjgaaDoorDrawList
import Derived.Deep.DeepCutAuto
namespace Go.Proofs.YtlnbhbjibkgjgaaDoor
open Go.RowKit

theorem app_below0 {w w1 w2 : World} {v : Value} {n : Nat} {xs : List Value} {e : TypeId} (ho : w1.ownsRow w.heap.size e 4 v n xs) (hb : Below w.heap.size w w1) (hg : w1.grownBy w2 v.ownBlock) (hs : w.heap.size ≤ w1.heap.size) : Below w.heap.size w w2 :=
  hb.grown hg hs fun k hk => (ho.lt k hk).1
theorem vld_set {ps : List Pkt} (h : allVld ps) (k : Nat) {p : Pkt} (hp : vldB p = true) : allVld (ps.set k p) := fun x hx => by
  rcases List.mem_or_eq_of_mem_set hx with h1 | h1
  · exact h x h1
  · subst h1; exact hp
theorem own_far {w w' : World} {base g : Nat} {e : TypeId} {v : Value} {n : Nat} {xs : List Value} (h : w.ownsRow base e 4 v n xs) (hg : w.grownBy w' (some g)) (hb : g < base) : w'.ownsRow base e 4 v n xs :=
  h.kept hg (own_block_none h hb)
def DrawnSame (w : World) (e : Ending) (w' : World) : Prop :=
  ∃ A n c A2 c2 ps qs, e = .returned (.tuple #[.slice A n c, .slice A2 n c2]) ∧ n ≤ 9 ∧ allVld ps ∧ allVld qs ∧ PR w' A n ps ∧ PR w' A2 n qs ∧ Below w.heap.size w w'
set_option maxRecDepth 100000 in
set_option maxHeartbeats 2000000 in
theorem drawPacketsSame_any (A : Option Addr) (n c : Nat) (w : World) (h : Bytes w A n c) :
    Calls Tryd.prog 26 #[.slice A n c] w (DrawnSame w) := by
  go_enter Tryd.func26, Tryd.ntmps26
  go_wp2_with fail
  refine (open_any A n c _ h).mono ?_
  rintro e w1 ⟨g, rfl, hg, hb, hr⟩
  have hg1 := rd_lt hr
  have B1 := Lib.hid hb
  clear hb
  go_wp2_with fail
  refine (l1List_any g 0 _ hr (by omega)).mono ?_
  rintro e w2 ⟨v, m, ps, rfl, hm, hs, ho, hgr, hr2⟩
  obtain ⟨A1, c1, rfl, hmc, hcm, -⟩ := own_form ho
  have HA := Lib.hid ho
  have hz2 := hgr.size
  have B2 := Lib.hid (below_grown B1.out B1.out.size hgr hg)
  have HS := Lib.hid hs
  have HR2 := Lib.hid hr2
  have O0 := Lib.hid (own_empty (w := w2) (Below.refl _ _))
  have HP := Lib.hid (pr_own ho)
  clear ho hgr hr hr2 hs hmc hcm
  go_upto_region 4 with (at_builtin; refine wp_app_pkts _ rfl (.tmp 11) (.tmp 12) rfl w2.heap.size (.slice (some ⟨w2.heap.size, 0, none⟩) 0 0) 0 [] rfl O0.out A1 m c1 ps rfl (pr_alloc HP.out _) (by omega) (by simp) ?_; intro v1 w3 ho3 hg3; simp only [List.nil_append, Nat.zero_add] at ho3; have T3 := Lib.hid (And.intro (app_below0 O0.out (below_alloc (Below.refl _ _) _) hg3 (by simp)) hg3); clear hg3)
  have hz3 := T3.out.1.size
  have hr3 := rd_new (rd_alloc HR2.out _) T3.out.2 (by show g < w2.heap.size; omega)
  have HA3 := Lib.hid (own_below HA.out T3.out.1)
  have B3 := Lib.hid (below_seq B2.out T3.out.1)
  clear T3 O0 HR2
  obtain ⟨A2, c2, rfl, hmc2, hcm2, -⟩ := own_form ho3
  have HO3 := Lib.hid ho3
  clear ho3 hmc2 hcm2
  by_cases hm0 : 0 < m
  · go_wp2_with fail
    refine (pick_any g _ _ _ hr3 (by omega) (by omega)).mono ?_
    rintro e w4 ⟨k, rfl, hk, hg4, hr4⟩
    have HA4 := Lib.hid (own_far HA3.out hg4 (by omega))
    have HO4 := Lib.hid (own_far HO3.out hg4 (by omega))
    have B4 := Lib.hid (below_grown B3.out B3.out.size hg4 hg)
    clear hg4 hr3
    by_cases hk0 : k = 0
    · subst hk0
      go_wp2_with fail
      refine (pick_any g _ _ _ hr4 (by omega) (by omega)).mono ?_
      rintro e w5 ⟨j, rfl, hj, hg5, hr5⟩
      have hjm : j < m := by omega
      have HA5 := Lib.hid (own_far HA4.out hg5 (by omega))
      have HO5 := Lib.hid (own_far HO4.out hg5 (by omega))
      have B5 := Lib.hid (below_grown B4.out B4.out.size hg5 hg)
      clear hg5 hr4
      go_wp2_with fail
      refine (l1Draw_any g _ _ hr5 (by omega)).mono ?_
      rintro e w6 ⟨p, rfl, hp, hg6, hr6⟩
      have hpv := hp rfl
      have HA6 := Lib.hid (own_far HA5.out hg6 (by omega))
      have HO6 := Lib.hid (own_far HO5.out hg6 (by omega))
      have B6 := Lib.hid (below_grown B5.out B5.out.size hg6 hg)
      clear hg6 hr5 hr6 hp
      obtain ⟨b, c', hv, hbb, hbl⟩ := HO6.out.form hm0
      obtain ⟨rfl, rfl⟩ : A2 = some ⟨b, 0, none⟩ ∧ c2 = c' := by injection hv with h1 h2 h3; exact ⟨h1, h3⟩
      obtain ⟨b', off, q, e1, e2, e3, e4⟩ := pr_at (k := j) (pr_own HO6.out) hjm
      obtain ⟨rfl, rfl⟩ : b = b' ∧ 0 = off := by injection e1 with e1; injection e1 with a b; exact ⟨a, b⟩
      obtain ⟨c0, d1, d2, d3⟩ := e4
      rw [Nat.zero_add] at c0 d1 d2 d3
      have f0 := World.ownsRow.frozenAt HO6.out (j * 4)
      have f1 := World.ownsRow.frozenAt HO6.out (j * 4 + 1)
      have f2 := World.ownsRow.frozenAt HO6.out (j * 4 + 2)
      have f3 := World.ownsRow.frozenAt HO6.out (j * 4 + 3)
      have HV := Lib.hid hpv
      clear e1 e2 e3 hv hpv
      go_wp2
      go_ret2
      have hab : ∀ b', A1.map (·.block) = some b' → b' < w2.heap.size := fun b' hb' => by
        have h0 : A1 = none ∨ A1 ≠ none := by cases A1 <;> simp
        rcases HA.out.form hm0 with ⟨ga, ca, hva, h1, h2⟩
        have : A1 = some ⟨ga, 0, none⟩ := by injection hva
        subst this
        have : ga = b' := by simpa using hb'
        omega
      refine ⟨A1, m, c1, some ⟨b, 0, none⟩, c2, ps, ps.set j p, rfl, hm, HS.out, vld_set HS.out j HV.out, ?_, pr_own (own_set_pkt HO6.out j p), ?_⟩
      · refine pr_keep (pr_own HA6.out) (by simp) fun b' x hb' hA' => ?_
        have hlt := hab b' hA'
        have hne : b' ≠ b := by omega
        refine (World.cell?_setCell_other _ _ _ _ (fun e => by injection e with e1; omega)).trans ((World.cell?_setCell_other _ _ _ _ (fun e => by injection e with e1; omega)).trans ((World.cell?_setCell_other _ _ _ _ (fun e => by injection e with e1; omega)).trans (World.cell?_setCell_other _ _ _ _ (fun e => by injection e with e1; omega))))
      · have hwb : w.heap.size ≤ b := by have := B2.out.size; omega
        exact (((B6.out.setCell hwb _).setCell hwb _).setCell hwb _).setCell hwb _
    · have hz : ((k : Int) == 0) = false := by simp only [beq_eq_false_iff_ne]; omega
      clear hk0
      go_wp2
      go_ret2
      exact ⟨A1, m, c1, A2, c2, ps, ps, rfl, hm, HS.out, HS.out, pr_own HA4.out, pr_own HO4.out, B4.out⟩
  · obtain rfl : m = 0 := by omega
    go_wp2
    go_ret2
    exact ⟨A1, 0, c1, A2, c2, ps, ps, rfl, hm, HS.out, HS.out, pr_own HA3.out, pr_own HO3.out, B3.out⟩
end Go.Proofs.YtlnbhbjibkgjgaaDoor
