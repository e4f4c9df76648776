/-
  Chapter 5: equality of flows and robins: what the program's functions and the model's return. Conditions: a flow has at most 4000000000 packets. Chapter 5: equality of robins: what the model's function returns. Conditions: a flow has at most 4000000000 packets. Appending rows of flows; slices.Clone of flows and of packets. Conditions: the rows have at most 4000000000 elements. Chapter 5: copies of robins: what the program's function returns. Conditions: a robin has at most 4000000000 flows, a flow at most 4000000000 packets. A region that draws its order, whose last operation waits for all oth
  Conditions: each lemma says them.
-/
import Derived.Test.YtkmoiphcpmhacaaKc
import Derived.Test.YtkmoiphcpmhacaaKb
import Derived.Test.YtkmoiphcpmhacaaKa
import Derived.Lib.SliceRun
import Derived.Deep.RegionHeld3
namespace Go.Proofs.Ytkmoiphcpmhacaa
open Go.RowKit

open Classical in
noncomputable def sfB (f g : Flw) : Bool := decide (f = g)
theorem sf_no {f g : Flw} (h : f ≠ g) : sfB f g = false := by simp [sfB, h]
theorem sf_ws {x d : Int} {ws vs : List Pkt} : sfB ⟨x, d, ws⟩ ⟨x, d, vs⟩ = sameB ws vs := by simp [sfB, sameB]
set_option maxHeartbeats 1000000 in
theorem sameFlow_any (x d : Int) (ws : List Pkt) (A : Option Addr) (n c : Nat) (x2 d2 : Int) (vs : List Pkt) (A2 : Option Addr) (n2 c2 : Nat) (w : World) (h : PR w A n ws) (h2 : PR w A2 n2 vs) (hn : n ≤ 4000000000) (hn2 : n2 ≤ 4000000000) :
    Calls Try.prog 61 #[.agg #[.int .i64 x, .int .i64 d, (.slice A n c)], .agg #[.int .i64 x2, .int .i64 d2, (.slice A2 n2 c2)]] w fun e w' => e = .returned (.bool (sfB ⟨x, d, ws⟩ ⟨x2, d2, vs⟩)) ∧ Below w.heap.size w w' := by
  have H := Lib.hid h
  have H2 := Lib.hid h2
  have F := Lib.hid (fm_two w 82 82 #[.int .i64 x, .int .i64 d, (.slice A n c)] #[.int .i64 x2, .int .i64 d2, (.slice A2 n2 c2)])
  clear h h2
  by_cases hx : x = x2
  · by_cases hd : d = d2
    · subst hx hd
      rw [sf_ws]
      have hxx : (x == x) = true := by simp
      have hdd : (d == d) = true := by simp
      go_enter Try.func61, Try.ntmps61
      go_wp2_with (go_at_call 29; refine (sameI_any A A2 n c n2 c2 ws vs _ (pr_below H.out F.out.below) (pr_below H2.out F.out.below) (by omega) (by omega)).mono ?_; rintro e w3 ⟨rfl, hb3⟩; have F3 := Lib.hid (fm_below F.out hb3); clear hb3)
      go_ret
      exact ⟨rfl, F3.out.below⟩
    · have hxb : (x == x2) = true := by simp [hx]
      have hdb : (d == d2) = false := by simp [hd]
      have HE := Lib.hid (sf_no (f := ⟨x, d, ws⟩) (g := ⟨x2, d2, vs⟩) fun e => hd (congrArg Flw.dfc e))
      clear hx hd
      go_enter Try.func61, Try.ntmps61
      go_wp2
      go_ret
      exact ⟨ret_bool HE.out.symm, F.out.below⟩
  · have hxb : (x == x2) = false := by simp [hx]
    have HE := Lib.hid (sf_no (f := ⟨x, d, ws⟩) (g := ⟨x2, d2, vs⟩) fun e => hx (congrArg Flw.peer e))
    clear hx
    go_enter Try.func61, Try.ntmps61
    go_wp2
    go_ret
    exact ⟨ret_bool HE.out.symm, F.out.below⟩
open Classical in
noncomputable def flsB (fs gs : List Flw) : Bool := decide (fs = gs)
theorem fls_no {fs gs : List Flw} (h : fs ≠ gs) : false = flsB fs gs := by simp [flsB, h]
theorem fls_yes {fs gs : List Flw} (h : fs = gs) : true = flsB fs gs := by simp [flsB, h]
theorem sf_yes {f g : Flw} (h : sfB f g = true) : f = g := by simpa [sfB] using h
theorem sf_ne {f g : Flw} (h : sfB f g = false) : f ≠ g := by simpa [sfB] using h
def FeRel (w : World) (fs gs : List Flw) (n : Nat) (i : Value) (wr : World) : Prop :=
  ∃ k : Nat, k ≤ n ∧ i = .int .i64 (k : Int) ∧ fs.take k = gs.take k ∧ Below w.heap.size w wr
theorem takeF_step {fs gs : List Flw} {k : Nat} {f g : Flw} (h : fs.take k = gs.take k) (hf : fs[k]? = some f) (hg : gs[k]? = some g) (he : f = g) : fs.take (k + 1) = gs.take (k + 1) := by
  rw [List.take_add_one, List.take_add_one, hf, hg, h, he]
theorem takeF_ne {fs gs : List Flw} {k : Nat} {f g : Flw} (hf : fs[k]? = some f) (hg : gs[k]? = some g) (he : f ≠ g) : fs ≠ gs := by
  rintro rfl
  rw [hf] at hg
  exact he (by injection hg)
theorem takeF_all {fs gs : List Flw} {n : Nat} (h : fs.take n = gs.take n) (hf : fs.length ≤ n) (hg : gs.length ≤ n) : fs = gs := by
  rw [List.take_of_length_le hf, List.take_of_length_le hg] at h
  exact h
set_option maxHeartbeats 2000000 in
theorem eqF_any (A A2 : Option Addr) (n c n2 c2 : Nat) (fs gs : List Flw) (w : World) (h : FR w A n fs) (h2 : FR w A2 n2 gs) :
    Calls Try.prog 60 #[.slice A n c, .slice A2 n2 c2, .func (.func 61) #[] #[]] w fun e w' => e = .returned (.bool (flsB fs gs)) ∧ Below w.heap.size w w' := by
  have H := Lib.hid h
  have H2 := Lib.hid h2
  have HL := Lib.hid (fr_lenF h)
  have HL2 := Lib.hid (fr_lenF h2)
  have n4 : n ≤ 4000000000 := HL.out.2
  have n42 : n2 ≤ 4000000000 := HL2.out.2
  clear h h2
  by_cases hl : n = n2
  · subst hl
    go_enter Try.func60, Try.ntmps60
    go_wp2
    go_loopw [17] (fun i wr => FeRel w fs gs n i wr) (fun i _ => n - (intOf i).toNat)
    case atStart => exact ⟨0, Nat.zero_le _, rfl, by simp, Below.refl _ _⟩
    case round =>
      obtain ⟨k, hk, rfl, ht, hbl⟩ := hrel
      have HT := Lib.hid ht
      clear ht
      by_cases hlt : k < n
      · obtain ⟨b, off, f, A1, n1, c1, rfl, hb, hf, c0, c1', c2', hpr, hc1, hn1⟩ := fr_cells (fr_belowF H.out hbl) hlt
        obtain ⟨b2, off2, g, A3, n3, c3, rfl, hb2, hg, d0, d1', d2', hpr2, hc3, hn3⟩ := fr_cells (fr_belowF H2.out hbl) hlt
        have HF := Lib.hid hf
        have HG := Lib.hid hg
        have HP := Lib.hid hpr
        have HP2 := Lib.hid hpr2
        have HB := Lib.hid hbl
        obtain ⟨x, d, ws⟩ := f
        obtain ⟨x2, d2, vs⟩ := g
        simp only at c0 c1' c2' d0 d1' d2'
        clear hf hg hbl hpr hpr2
        rcases hs : sfB ⟨x, d, ws⟩ ⟨x2, d2, vs⟩ with _ | _
        · have HE := Lib.hid (fls_no (takeF_ne HF.out HG.out (sf_ne hs)))
          have HS := Lib.hid hs
          clear hs
          go_wp2_with (go_at_call 61; refine (sameFlow_any x d ws A1 n1 c1 x2 d2 vs A3 n3 c3 _ (pr_alloc (pr_alloc HP.out _) _) (pr_alloc (pr_alloc HP2.out _) _) hn1 hn3).mono ?_; rintro e w3 ⟨rfl, hb3⟩; rw [HS.out]; have B3 := Lib.hid (below_seq2 HB.out hb3); clear hb3)
          go_ret
          exact ⟨ret_bool HE.out, B3.out⟩
        · have HX := Lib.hid (sf_yes hs)
          have HS := Lib.hid hs
          clear hs
          go_wp2_with (go_at_call 61; refine (sameFlow_any x d ws A1 n1 c1 x2 d2 vs A3 n3 c3 _ (pr_alloc (pr_alloc HP.out _) _) (pr_alloc (pr_alloc HP2.out _) _) hn1 hn3).mono ?_; rintro e w3 ⟨rfl, hb3⟩; rw [HS.out]; have B3 := Lib.hid (below_seq2 HB.out hb3); clear hb3)
          go_roundw
          case rel => exact ⟨k + 1, by omega, by go_num, takeF_step HT.out HF.out HG.out HX.out, B3.out⟩
          case measure => simp [intOf]; omega
      · obtain rfl : k = n := by omega
        have HB := Lib.hid hbl
        clear hbl
        go_wp2
        go_ret
        exact ⟨ret_bool (fls_yes (takeF_all HT.out (by have := HL.out.1; omega) (by have := HL2.out.1; omega))), HB.out⟩
  · have hlb : ((n : Int) != (n2 : Int)) = true := by simp; omega
    have HN := Lib.hid hl
    clear hl
    go_enter Try.func60, Try.ntmps60
    go_wp2
    go_ret
    exact ⟨ret_bool (fls_no (by rintro rfl; exact HN.out (HL.out.1.symm.trans HL2.out.1))), Below.refl _ _⟩
theorem rs_fls (q : Int) (fs gs : List Flw) : rsB q fs q gs = flsB fs gs := by simp [rsB, flsB]
theorem rs_quantum {q q2 : Int} {fs gs : List Flw} (h : q ≠ q2) : rsB q fs q2 gs = false := rs_no fun e => h e.1
set_option maxHeartbeats 1000000 in
theorem sameRI_any (q q2 : Int) (A A2 : Option Addr) (n c n2 c2 : Nat) (fs gs : List Flw) (w : World) (h : FR w A n fs) (h2 : FR w A2 n2 gs) :
    Calls Try.prog 21 #[.agg #[.int .i64 q, (.slice A n c)], .agg #[.int .i64 q2, (.slice A2 n2 c2)]] w fun e w' => e = .returned (.bool (rsB q fs q2 gs)) ∧ Below w.heap.size w w' := by
  have H := Lib.hid h
  have H2 := Lib.hid h2
  have F := Lib.hid (fm_two w 37 37 #[.int .i64 q, (.slice A n c)] #[.int .i64 q2, (.slice A2 n2 c2)])
  clear h h2
  by_cases hq : q = q2
  · subst hq
    rw [rs_fls]
    have hqq : (q == q) = true := by simp
    go_enter Try.func21, Try.ntmps21
    go_wp2_with (go_at_call 60; refine (eqF_any A A2 n c n2 c2 fs gs _ (fr_belowF H.out F.out.below) (fr_belowF H2.out F.out.below)).mono ?_; rintro e w3 ⟨rfl, hb3⟩; have F3 := Lib.hid (fm_below F.out hb3); clear hb3)
    go_ret
    exact ⟨rfl, F3.out.below⟩
  · have hqb : (q == q2) = false := by simp [hq]
    have HE := Lib.hid (rs_quantum (fs := fs) (gs := gs) hq)
    clear hq
    go_enter Try.func21, Try.ntmps21
    go_wp2
    go_ret
    exact ⟨ret_bool HE.out.symm, F.out.below⟩
end Go.Proofs.Ytkmoiphcpmhacaa
namespace Go.Proofs.Ytkmoiphcpmhacaa
open Go.RowKit

end Go.Proofs.Ytkmoiphcpmhacaa
namespace Go.Proofs.Ytkmoiphcpmhacaa
open Go.RowKit

theorem infoFlw : (Try.prog.info? 82).map (fun i => (i.zero, i.size, i.bytes)) = some (some (.agg #[.int .i64 0, .int .i64 0, .slice none 0 0]), 3, 40) := by kernel_rfl
theorem run_app_flws (w : World) (ty : TypeId) (base : Nat) (v : Value) (n : Nat) (ps : List Fh) (hown : w.ownsRow base 82 3 v n (fcells ps))
    (A : Option Addr) (m c : Nat) (qs : List Fh) (hr : HR w A m qs) (hn : n + m ≤ 4000000000) (hb : base ≤ w.heap.size) :
    ∃ v' w', (Builtin.append_ #[35, 35] ty #[v, .slice A m c]).run Try.prog w = .ok v' w' ∧ w'.ownsRow base 82 3 v' (n + m) (fcells (ps ++ qs)) ∧ w.grownBy w' v.ownBlock ∧
      (v'.ownBlock = v.ownBlock ∨ v'.ownBlock = some w.heap.size) := by
  obtain ⟨i0, hi, hz0, hz1, hz2⟩ := info_parts infoFlw
  by_cases h0 : A = none
  · subst h0
    have hm : m = 0 := by
      rcases Nat.eq_zero_or_pos m with hm | hm
      · exact hm
      · obtain ⟨b, off, e, _⟩ := hr.2 hm
        cases e
    subst hm
    have hq : qs = [] := List.eq_nil_of_length_eq_zero hr.1
    subst hq
    exact ⟨v, w, run_app_nil (P := Try.prog) w base 35 ty 82 i0 3 Try.underlying35 hi v n _ hown c, by simpa using hown, g_refl _ _, .inl rfl⟩
  · obtain ⟨ad, rfl⟩ : ∃ ad, A = some ad := by
      cases A with
      | none => exact absurd rfl h0
      | some ad => exact ⟨ad, rfl⟩
    obtain ⟨v', w', e1, e2, e3, _, e5⟩ := run_append_own_at (P := Try.prog) w base 35 ty 82 i0 _ 3 40 Try.underlying35 hi hz0 hz1 hz2 rfl (by decide) v n _ hown ad m c (fcells qs) (by rw [fcells_len, hr.1]) (by
      intro j u hj
      have hjl : j < m * 3 := by
        rcases Nat.lt_or_ge j (fcells qs).length with hl | hl
        · rw [fcells_len, hr.1] at hl; exact hl
        · rw [List.getElem?_eq_none hl] at hj; cases hj
      obtain ⟨b, off, e, hlt, hc⟩ := hr.2 (by omega)
      obtain rfl : ad = ⟨b, off, none⟩ := by injection e
      have ha : ∀ j, (⟨b, off, none⟩ : Addr).add j = ⟨b, off + j, none⟩ := fun j => by unfold Addr.add; split <;> simp_all
      rw [ha]
      have hk : j / 3 < qs.length := by rw [hr.1]; omega
      have hq := hc (j / 3) _ (List.getElem?_eq_getElem hk)
      have hp := fcells_get qs (j / 3) _ (List.getElem?_eq_getElem hk)
      have hcase : j = j / 3 * 3 ∨ j = j / 3 * 3 + 1 ∨ j = j / 3 * 3 + 2 := by omega
      generalize j / 3 = k3 at hk hq hp hcase
      obtain ⟨q0, q1, q2⟩ := hq
      obtain ⟨p0, p1, p2⟩ := hp
      rcases hcase with e | e | e
      · subst e; rw [p0] at hj; have hj := Option.some.inj hj; rw [← hj]; exact q0
      · subst e; rw [p1] at hj; have hj := Option.some.inj hj; rw [← hj, ← Nat.add_assoc]; exact q1
      · subst e; rw [p2] at hj; have hj := Option.some.inj hj; rw [← hj, ← Nat.add_assoc]; exact q2) (fcells_one qs) (by unfold maxLen; omega) (by omega) hb
    exact ⟨v', w', e1, by rw [fcells_append]; exact e2, e3, e5⟩
/-- at the list of a plain region's operations -/
theorem wpl_app_flws (w : World) {ops : Array Oper} {rest : List Oper} {o : Oper} {a : Act} {Q : Exit → Act → World → Prop} (hgd : o.guard = none) (s x : Operand)
    (ho : o.op = .call { callee := .builtin .append, args := #[s, x], argTypes := #[35, 35] })
    (base : Nat) (v : Value) (n : Nat) (ps : List Fh) (hs : a.eval s = v) (hown : w.ownsRow base 82 3 v n (fcells ps))
    (A : Option Addr) (m c : Nat) (qs : List Fh) (hx : a.eval x = .slice A m c) (hr : HR w A m qs) (hn : n + m ≤ 4000000000) (hb : base ≤ w.heap.size)
    (h : ∀ v' w', w'.ownsRow base 82 3 v' (n + m) (fcells (ps ++ qs)) → w.grownBy w' v.ownBlock → (v'.ownBlock = v.ownBlock ∨ v'.ownBlock = some w.heap.size) → wpList Try.prog ops Q rest (a.put o.dst v') w') :
    wpList Try.prog ops Q (o :: rest) a w := by
  refine wpList_plain hgd fun K hK => ?_
  obtain ⟨v', w', hr', h2, h3, h4⟩ := run_app_flws w o.type base v n ps hown A m c qs hr hn hb
  unfold Oper.wp execOp
  simp only [ho, resolve, invoke, builtin, Sem.run_bind, Sem.run_pure, Result.andThen_ok, List.map_toArray, List.map_cons, List.map_nil, hs, hx, hr']
  exact hK _ _ (h v' w' h2 h3 h4)
/-- at a step of a region that draws -/
theorem step_app_flws (w : World) {ops : Array Oper} {o : Oper} {a : Act} {K : Act → World → Prop} {Q : Exit → Act → World → Prop} {E : Prop} (hgd : o.guard = none) (s x : Operand)
    (ho : o.op = .call { callee := .builtin .append, args := #[s, x], argTypes := #[35, 35] })
    (base : Nat) (v : Value) (n : Nat) (ps : List Fh) (hs : a.eval s = v) (hown : w.ownsRow base 82 3 v n (fcells ps))
    (A : Option Addr) (m c : Nat) (qs : List Fh) (hx : a.eval x = .slice A m c) (hr : HR w A m qs) (hn : n + m ≤ 4000000000) (hb : base ≤ w.heap.size)
    (h : ∀ v' w', w'.ownsRow base 82 3 v' (n + m) (fcells (ps ++ qs)) → w.grownBy w' v.ownBlock → (v'.ownBlock = v.ownBlock ∨ v'.ownBlock = some w.heap.size) → K (a.put o.dst v') w') :
    if Region.wanted o (yielded ops a.tmps) = true then Oper.wp Try.prog o a w K Q else E := by
  have hw : Region.wanted o (yielded ops a.tmps) = true := by simp [Region.wanted, hgd]
  rw [if_pos hw]
  obtain ⟨v', w', hr', h2, h3, h4⟩ := run_app_flws w o.type base v n ps hown A m c qs hr hn hb
  unfold Oper.wp execOp
  simp only [ho, resolve, invoke, builtin, Sem.run_bind, Sem.run_pure, Result.andThen_ok, List.map_toArray, List.map_cons, List.map_nil, hs, hx, hr']
  exact h v' w' h2 h3 h4
theorem hr_single {w : World} {b : Nat} {t : TypeId} {h : Fh} (e : Blk w b t #[.int .i64 h.peer, .int .i64 h.dfc, .slice h.A h.n h.c]) : HR w (some ⟨b, 0, none⟩) 1 [h] :=
  ⟨rfl, fun _ => ⟨b, 0, rfl, blk_lt e, fun k q hk => by
    have hk0 : k = 0 := by
      rcases Nat.eq_zero_or_pos k with e | e
      · exact e
      · rw [List.getElem?_eq_none (by simp; omega)] at hk; cases hk
    subst hk0
    obtain rfl : h = q := by simpa using hk
    exact ⟨blk_cell e 0, blk_cell e 1, blk_cell e 2⟩⟩⟩
theorem own_emptyF {W : World} {b : Nat} (hb : b = W.heap.size) : (W.alloc (.cells #[] 82)).ownsRow W.heap.size 82 3 (.slice (some ⟨b, 0, none⟩) 0 0) 0 (fcells []) := by
  subst hb
  exact ⟨rfl, .inr ⟨W.heap.size, 0, #[], rfl, Nat.le_refl _, blk_new W _ _, Nat.le_refl _, by unfold maxLen; omega, rfl, rfl⟩⟩
set_option maxHeartbeats 1000000 in
theorem clone_any (A : Option Addr) (n c : Nat) (ps : List Pkt) (w : World) (h : PR w A n ps) (hn : n ≤ 4000000000) :
    Calls Try.prog 100 #[.slice A n c] w (OwnPost w n ps) := by
  cases A with
  | none =>
    have hm : n = 0 := by
      rcases Nat.eq_zero_or_pos n with hm | hm
      · exact hm
      · obtain ⟨b, off, e, _⟩ := h.2 hm
        cases e
    subst hm
    have hq : ps = [] := List.eq_nil_of_length_eq_zero h.1
    subst hq
    clear h
    have q23 : ∀ (w : World) (a : Option Addr) (n c n' c' : Nat), (binOp .eql 45 (.slice a n c) (.slice none n' c')).run Try.prog w = .ok (.bool a.isNone) w := fun w a n c n' c' => Lib.run_eql_slice_nil w _ _ a n c n' c' Try.underlying45
    go_enter Try.func100, Try.ntmps100
    go_wp2
    go_ret
    exact ⟨none, 0, rfl, World.ownsRow_nil _ _ _ _, Below.refl _ _⟩
  | some ad =>
    have H := Lib.hid h
    have O0 := Lib.hid (own_empty (w := w) (Below.refl _ _))
    clear h
    have q23 : ∀ (w : World) (a : Option Addr) (n c n' c' : Nat), (binOp .eql 45 (.slice a n c) (.slice none n' c')).run Try.prog w = .ok (.bool a.isNone) w := fun w a n c n' c' => Lib.run_eql_slice_nil w _ _ a n c n' c' Try.underlying45
    go_enter Try.func100, Try.ntmps100
    go_wp2_with (at_builtin; refine wp_app_pkts _ rfl (.tmp 5) (.tmp 6) rfl w.heap.size (.slice (some ⟨w.heap.size, 0, none⟩) 0 0) 0 [] rfl O0.out (some ad) n c ps rfl (pr_alloc H.out _) (by omega) (by simp) ?_; intro v1 w3 ho3 hg3; simp only [List.nil_append, Nat.zero_add] at ho3; have T3 := Lib.hid (app_belowQ O0.out (below_alloc (Below.refl _ _) _) hg3 (by simp)); clear hg3)
    obtain ⟨A2, c2, rfl, hmc, hcm, -⟩ := own_form ho3
    have O3 := Lib.hid ho3
    clear ho3
    go_wp2
    go_ret
    exact ⟨A2, c2, rfl, O3.out, T3.out⟩
/-- what a call hands back that made a row of flows of its own, whose packets are the old ones -/
def OwnPostF (w : World) (n : Nat) (hs : List Fh) (e : Ending) (w' : World) : Prop :=
  ∃ A c, e = .returned (.slice A n c) ∧ w'.ownsRow w.heap.size 82 3 (.slice A n c) n (fcells hs) ∧ Below w.heap.size w w'
set_option maxHeartbeats 1000000 in
theorem cloneF_any (A : Option Addr) (n c : Nat) (ps : List Fh) (w : World) (h : HR w A n ps) (hn : n ≤ 4000000000) :
    Calls Try.prog 96 #[.slice A n c] w (OwnPostF w n ps) := by
  cases A with
  | none =>
    have hm : n = 0 := by
      rcases Nat.eq_zero_or_pos n with hm | hm
      · exact hm
      · obtain ⟨b, off, e, _⟩ := h.2 hm
        cases e
    subst hm
    have hq : ps = [] := List.eq_nil_of_length_eq_zero h.1
    subst hq
    clear h
    have q23 : ∀ (w : World) (a : Option Addr) (n c n' c' : Nat), (binOp .eql 35 (.slice a n c) (.slice none n' c')).run Try.prog w = .ok (.bool a.isNone) w := fun w a n c n' c' => Lib.run_eql_slice_nil w _ _ a n c n' c' Try.underlying35
    go_enter Try.func96, Try.ntmps96
    go_wp2
    go_ret
    exact ⟨none, 0, rfl, World.ownsRow_nil _ _ _ _, Below.refl _ _⟩
  | some ad =>
    have H := Lib.hid h
    have O0 := Lib.hid (own_emptyF (W := w) rfl)
    clear h
    have q23 : ∀ (w : World) (a : Option Addr) (n c n' c' : Nat), (binOp .eql 35 (.slice a n c) (.slice none n' c')).run Try.prog w = .ok (.bool a.isNone) w := fun w a n c n' c' => Lib.run_eql_slice_nil w _ _ a n c n' c' Try.underlying35
    go_enter Try.func96, Try.ntmps96
    go_wp2_with (at_builtin; refine wpl_app_flws _ rfl (.tmp 5) (.tmp 6) rfl w.heap.size (.slice (some ⟨w.heap.size, 0, none⟩) 0 0) 0 [] rfl O0.out (some ad) n c ps rfl (hr_alloc H.out _) (by omega) (by simp) ?_; intro v1 w3 ho3 hg3 hat3; clear hat3; simp only [List.nil_append, Nat.zero_add] at ho3; have T3 := Lib.hid (app_belowG O0.out (below_alloc (Below.refl _ _) _) hg3 (by simp)); clear hg3)
    obtain ⟨A2, c2, rfl, hmc, hcm, -⟩ := own_form ho3
    have O3 := Lib.hid ho3
    clear ho3
    go_wp2
    go_ret
    exact ⟨A2, c2, rfl, O3.out, T3.out⟩
end Go.Proofs.Ytkmoiphcpmhacaa
namespace Go.Proofs.Ytkmoiphcpmhacaa
open Go.RowKit

/-- the first k flows of a row have packets of their own; the others are as they came -/
structure DK (w : World) (lo : Nat) (v : Value) (n k : Nat) (cur hs : List Fh) (fs : List Flw) : Prop where
  row : w.ownsRow lo 82 3 v n (fcells cur)
  len : cur.length = fs.length
  rest : ∀ j, k ≤ j → cur[j]? = hs[j]?
  all : ∀ (j : Nat) (h : Fh) (f : Flw), j < k → cur[j]? = some h → fs[j]? = some f → h.peer = f.peer ∧ h.dfc = f.dfc ∧ h.n ≤ 4000000000 ∧ w.ownsRow lo 29 4 h.sl h.n (pcells f.ws) ∧ (∀ b, h.sl.ownBlock = some b → v.ownBlock ≠ some b)
  apart : ∀ (i j : Nat) (h g : Fh), i < k → j < k → i ≠ j → cur[i]? = some h → cur[j]? = some g → ∀ b, h.sl.ownBlock = some b → g.sl.ownBlock ≠ some b
theorem dk_below {w w' : World} {lo : Nat} {v : Value} {n k : Nat} {cur hs : List Fh} {fs : List Flw} (h : DK w lo v n k cur hs fs) (hb : Below w.heap.size w w') : DK w' lo v n k cur hs fs :=
  ⟨own_below h.row hb, h.len, h.rest, fun j g f hj h1 h2 => by
    obtain ⟨e1, e2, e3, e4, e5⟩ := h.all j g f hj h1 h2
    exact ⟨e1, e2, e3, own_below e4 hb, e5⟩, h.apart⟩
theorem dk_zero {w : World} {lo : Nat} {v : Value} {n : Nat} {hs : List Fh} {fs : List Flw} (ho : w.ownsRow lo 82 3 v n (fcells hs)) (hl : hs.length = fs.length) : DK w lo v n 0 hs hs fs :=
  ⟨ho, hl, fun _ _ => rfl, fun j h f hj => absurd hj (by omega), fun i j h g hi => absurd hi (by omega)⟩
theorem dk_all {w : World} {lo : Nat} {v : Value} {n : Nat} {cur hs : List Fh} {fs : List Flw} (h : DK w lo v n n cur hs fs) : DO w lo v n cur fs := by
  have hl : cur.length = n := by have := h.row.1; rw [fcells_len] at this; omega
  have lt : ∀ {j : Nat} {g : Fh}, cur[j]? = some g → j < n := fun {j g} e => by
    rcases Nat.lt_or_ge j cur.length with hlt | hge
    · omega
    · rw [List.getElem?_eq_none hge] at e; cases e
  exact ⟨h.row, h.len, fun j g f h1 h2 => h.all j g f (lt h1) h1 h2, fun i j g g2 hij h1 h2 => h.apart i j g g2 (lt h1) (lt h2) hij h1 h2⟩
theorem dk_step {w w4 : World} {lo g n c k s m c4 : Nat} {A4 : Option Addr} {cur hs : List Fh} {fs : List Flw} {h : Fh} {f : Flw} (D : DK w lo (.slice (some ⟨g, 0, none⟩) n c) n k cur hs fs) (hk : cur[k]? = some h) (hf : fs[k]? = some f)
    (hp : h.peer = f.peer) (hd : h.dfc = f.dfc) (hb : Below w.heap.size w w4) (ho : w4.ownsRow s 29 4 (.slice A4 m c4) m (pcells f.ws)) (hs' : w.heap.size ≤ s) (hm : m ≤ 4000000000) (hlo : lo ≤ w.heap.size) :
    DK (w4.setCell ⟨g, k * 3 + 2, none⟩ (.slice A4 m c4)) lo (.slice (some ⟨g, 0, none⟩) n c) n (k + 1) (cur.set k ⟨h.peer, h.dfc, A4, m, c4⟩) hs fs := by
  have hg : g < w.heap.size := (D.row.lt g rfl).2
  have hlk : k < cur.length := by
    rcases Nat.lt_or_ge k cur.length with hlt | hge
    · exact hlt
    · rw [List.getElem?_eq_none hge] at hk; cases hk
  have hnew : ∀ b, Value.ownBlock (.slice A4 m c4) = some b → w.heap.size ≤ b := fun b e => by have := (ho.lt b e).1; omega
  have hold : ∀ (j : Nat) (q : Fh), j < k → cur[j]? = some q → ∀ b, q.sl.ownBlock = some b → b < w.heap.size := fun j q hj hq b e => by
    have hjl : j < fs.length := by rw [← D.len]; omega
    exact ((D.all j q _ hj hq (List.getElem?_eq_getElem hjl)).2.2.2.1.lt b e).2
  have hget : ∀ (j : Nat) (q : Fh), j < k + 1 → (cur.set k ⟨h.peer, h.dfc, A4, m, c4⟩)[j]? = some q → (j = k ∧ q = ⟨h.peer, h.dfc, A4, m, c4⟩) ∨ (j < k ∧ cur[j]? = some q) := by
    intro j q hj e
    by_cases hjk : k = j
    · subst hjk
      rw [List.getElem?_set_self hlk] at e
      exact .inl ⟨rfl, (Option.some.inj e).symm⟩
    · rw [List.getElem?_set_ne hjk] at e
      exact .inr ⟨by omega, e⟩
  refine ⟨?_, by rw [List.length_set]; exact D.len, fun j hj => ?_, fun j q f' hj h1 h2 => ?_, fun i j q q2 hi hj hij h1 h2 b hb1 hb2 => ?_⟩
  · have h1 := ((own_below D.row hb).stored (k * 3 + 2) (.slice A4 m c4)).1
    rw [fcells_set2 cur k h A4 m c4 hk] at h1
    exact h1
  · rw [List.getElem?_set_ne (by omega)]
    exact D.rest j (by omega)
  · rcases hget j q hj h1 with ⟨rfl, rfl⟩ | ⟨hjk, hq⟩
    · obtain rfl : f = f' := by rw [hf] at h2; exact Option.some.inj h2
      refine ⟨hp, hd, hm, own_mono (own_set_ne (p := ⟨g, j * 3 + 2, none⟩) ho (fun e => by have := hnew g e; omega) _) (by omega), fun b e e2 => ?_⟩
      have := hnew b e
      simp [Value.ownBlock] at e2
      omega
    · obtain ⟨e1, e2, e3, e4, e5⟩ := D.all j q f' hjk hq h2
      exact ⟨e1, e2, e3, own_set_ne (p := ⟨g, k * 3 + 2, none⟩) (own_below e4 hb) (fun e => e5 g e rfl) _, e5⟩
  · rcases hget i q hi h1 with ⟨rfl, rfl⟩ | ⟨hik, hq⟩
    · rcases hget j q2 hj h2 with ⟨rfl, rfl⟩ | ⟨hjk, hq2⟩
      · exact hij rfl
      · have := hnew b hb1
        have := hold j q2 hjk hq2 b hb2
        omega
    · rcases hget j q2 hj h2 with ⟨rfl, rfl⟩ | ⟨hjk, hq2⟩
      · have := hnew b hb2
        have := hold i q hik hq b hb1
        omega
      · exact D.apart i j q q2 hik hjk hij hq hq2 b hb1 hb2
/-- what a call hands back that made a robin of its own, packets and all -/
def RPost (w : World) (q : Int) (fs : List Flw) (e : Ending) (w' : World) : Prop :=
  ∃ A n c hs, e = .returned (.agg #[.int .i64 q, (.slice A n c)]) ∧ n = fs.length ∧ n ≤ c ∧ c ≤ maxLen ∧ DO w' w.heap.size (.slice A n c) n hs fs ∧ Below w.heap.size w w'
theorem do_cap {w : World} {lo : Nat} {A : Option Addr} {n c : Nat} {hs : List Fh} {fs : List Flw} (h : DO w lo (.slice A n c) n hs fs) : fs.length = n ∧ n ≤ c ∧ c ≤ maxLen := by
  obtain ⟨A', c', hv, h1, h2, -⟩ := own_form h.row
  obtain rfl : c = c' := by injection hv
  have := h.row.1
  rw [fcells_len, h.len] at this
  exact ⟨by omega, h1, h2⟩
theorem rpost_mk {w w' : World} {q : Int} {fs : List Flw} {A : Option Addr} {n c : Nat} {hs : List Fh} (h : DO w' w.heap.size (.slice A n c) n hs fs) (hb : Below w.heap.size w w') : RPost w q fs (.returned (.agg #[.int .i64 q, (.slice A n c)])) w' :=
  ⟨A, n, c, hs, rfl, (do_cap h).1.symm, (do_cap h).2.1, (do_cap h).2.2, h, hb⟩
/-- a store outside of the pieces -/
theorem al_out {w : World} {g : Nat} {k : Nat} {u : Value} : ∀ {L : List Iv} {lo : Nat}, (∀ x ∈ L, x.hi ≤ g) → Al lo L w → Al lo L (w.setCell ⟨g, k, none⟩ u)
  | [], _, _, h => by simpa [Al] using h
  | x :: r, _, hx, ⟨h1, h3, h4, h5⟩ => ⟨h1, h3, at_chg h4 (chg_grown (g_set (g_refl w (some g)) (.inl rfl) u) (lo := g) (hi := g + 1) fun b e => by injection e with e; omega) (.inl (hx x (List.mem_cons_self ..))), al_out (fun y hy => hx y (List.mem_cons_of_mem _ hy)) h5⟩
theorem fm_out {w w1 : World} {L : List Iv} {g k : Nat} (h : Fm w L w1) (hx : ∀ x ∈ L, x.hi ≤ g) (hg : w.heap.size ≤ g) (u : Value) : Fm w L (w1.setCell ⟨g, k, none⟩ u) := ⟨h.below.setCell hg u, al_out hx h.al⟩
theorem fm_grownO {w w1 w2 : World} {L : List Iv} {row : Option Nat} (h : Fm w L w1) (hg : w1.grownBy w2 row) (hr : ∀ b, row = some b → w.heap.size ≤ b ∧ ∀ x ∈ L, x.hi ≤ b) : Fm w L w2 := by
  refine ⟨h.below.grown hg h.below.size fun b e => (hr b e).1, ?_⟩
  have key : ∀ (M : List Iv) (lo : Nat), (∀ x ∈ M, x ∈ L) → Al lo M w1 → Al lo M w2 := by
    intro M
    induction M with
    | nil => intro lo _ h; exact Nat.le_trans h hg.size
    | cons x r ih =>
      intro lo hx ⟨h1, h3, h4, h5⟩
      refine ⟨h1, h3, ?_, ih _ (fun y hy => hx y (List.mem_cons_of_mem _ hy)) h5⟩
      rcases hrow : row with _ | b
      · exact at_below h4 ⟨hg.os, hg.tape, hg.output, hg.size, fun i hi => hg.block i hi (by rw [hrow]; exact fun e => by cases e)⟩
      · exact at_chg h4 (chg_grown hg (lo := b) (hi := b + 1) fun b' e => by rw [hrow] at e; injection e with e; omega) (.inl ((hr b hrow).2 x (hx x (List.mem_cons_self ..))))
  exact key L _ (fun x hx => hx) h.al
def CpRel (w : World) (q : Int) (A : Option Addr) (n c : Nat) (hs : List Fh) (fs : List Flw) (A2 : Option Addr) (c2 : Nat) (i : Value) (wr : World) : Prop :=
  ∃ k cur, k ≤ n ∧ i = .int .i64 (k : Int) ∧ DK wr (w.heap.size + 2) (.slice A2 n c2) n k cur hs fs ∧ Fm w [⟨w.heap.size, w.heap.size + 1, BoxP w.heap.size 37 #[.int .i64 q, (.slice A n c)]⟩, ⟨w.heap.size + 1, w.heap.size + 2, BoxP (w.heap.size + 1) 37 #[.int .i64 0, (.slice none 0 0)]⟩] wr
set_option maxHeartbeats 2000000 in
theorem copyRI_any (q : Int) (A : Option Addr) (n c : Nat) (fs : List Flw) (w : World) (h : FR w A n fs) :
    Calls Try.prog 59 #[.agg #[.int .i64 q, (.slice A n c)]] w (RPost w q fs) := by
  obtain ⟨hs, hh, hw, n4⟩ := h
  have H := Lib.hid hh
  have W := Lib.hid hw
  have F := Lib.hid (fm_two w 37 37 #[.int .i64 q, (.slice A n c)] #[.int .i64 0, (.slice none 0 0)])
  clear hh hw
  obtain ⟨g0, g1, -⟩ := blk_two (fm_blk F.out 0 rfl)
  go_enter Try.func59, Try.ntmps59
  go_wp2_with fail
  refine (cloneF_any A n c hs _ (hr_below H.out F.out.below) n4).mono ?_
  rintro e w2 ⟨A2, c2, rfl, ho, hb⟩
  have z2 := hb.size
  simp at z2
  have R0 : Hid (CpRel w q A n c hs fs A2 c2 (.int .i64 0) w2) := Lib.hid ⟨0, hs, Nat.zero_le _, rfl, dk_zero (own_mono ho (by simp)) W.out.1, fm_below F.out hb⟩
  clear ho hb F g0 g1
  go_wp2
  go_loopw [11] (fun i wr => CpRel w q A n c hs fs A2 c2 i wr) (fun i _ => n - (intOf i).toNat)
  case atStart => exact R0.out
  case round =>
    obtain ⟨k, cur, hk, rfl, hD, hF⟩ := hrel
    have HD := Lib.hid hD
    have HF := Lib.hid hF
    have zb0 := blk_lt (fm_blk hF 0 rfl)
    have zb := blk_lt (fm_blk hF 1 rfl)
    have hbl := hF.below
    clear R0
    by_cases hlt : k < n
    · obtain ⟨b, off, h, e1, hb, hk', c0, c1, c2'⟩ := hr_at (hr_own hD.row) hlt
      obtain ⟨g, cap, hv, hg1, hg2⟩ := hD.row.form (by omega)
      obtain ⟨rfl, rfl⟩ : A2 = some ⟨g, 0, none⟩ ∧ c2 = cap := by injection hv with a1 a2 a3; exact ⟨a1, a3⟩
      obtain ⟨rfl, rfl⟩ : g = b ∧ 0 = off := by injection e1 with e1; injection e1 with a1 a2; exact ⟨a1, a2⟩
      simp only [Nat.zero_add] at c0 c1 c2'
      have hhs : hs[k]? = some h := by rw [← hD.rest k (Nat.le_refl _)]; exact hk'
      obtain ⟨f, hf, hwh⟩ := wl_get W.out hhs
      have HK := Lib.hid hk'
      have HFF := Lib.hid hf
      have HW := Lib.hid (wh_below hwh hbl)
      have f0 : wr.frozen? ⟨g, k * 3 + 2, none⟩ = false := World.ownsRow.frozenAt hD.row _
      obtain ⟨x, d, A1, n1, c1'⟩ := h
      simp only at c0 c1 c2'
      have hn1 : n1 ≤ 4000000000 := hwh.few
      have x1 : g < wr.heap.size := hg2
      clear hD hF hbl hv e1 hhs hf hwh hk'
      go_wp2_with (go_at_call 100
                   refine (clone_any A1 n1 c1' f.ws _ (pr_alloc HW.out.pr _) hn1).mono ?_
                   rintro e w4 ⟨A4, c4, rfl, ho4, hb4⟩
                   have B4 := Lib.hid (show Below wr.heap.size wr w4 from below_seq1 (Below.refl _ _) hb4)
                   have O4 := Lib.hid ho4
                   have D0 : w4.cell? ⟨g, k * 3 + 2, none⟩ = some (.slice A1 n1 c1') := ((bcell B4.out).1 g _ x1).trans c2'
                   have D1 : w4.frozen? ⟨g, k * 3 + 2, none⟩ = false := ((bcell B4.out).2 g _ x1).trans f0
                   clear hb4 ho4 c0 c1 c2' f0)
      go_roundw
      case rel =>
        refine ⟨k + 1, cur.set k ⟨x, d, A4, n1, c4⟩, by omega, by go_num, dk_step HD.out HK.out HFF.out HW.out.peer HW.out.dfc B4.out O4.out (by simp) hn1 (by omega), fm_out (fm_below HF.out B4.out) (fun y hy => ?_) (by omega) _⟩
        simp only [List.mem_cons, List.not_mem_nil, or_false] at hy
        rcases hy with rfl | rfl <;> (simp only; omega)
      case measure => simp [intOf]; omega
    · obtain rfl : k = n := by omega
      obtain ⟨g0, g1, -⟩ := blk_two (fm_blk hF 0 rfl)
      obtain ⟨o0, o1, f0, f1⟩ := blk_two (fm_blk hF 1 rfl)
      have HE := Lib.hid (dk_all hD)
      clear hD hF hbl
      go_wp2
      refine bodyPost_ret (v := .agg #[.int .i64 q, (.slice A2 k c2)]) (by simp [results, Try.results59, go_sem, o0, o1]) rfl (rpost_mk (hs := cur) (do_mono (do_far (do_far HE.out (by simp) _) (by simp) _) (by omega)) ?_)
      exact Below.setCell (Below.setCell HF.out.below (by simp) _) (by simp) _
end Go.Proofs.Ytkmoiphcpmhacaa
namespace Go.Proofs.Ytkmoiphcpmhacaa
open Go.RowKit

section
variable {P : Program} {ops : Array Oper} {Q : Exit → Act → World → Prop} {md : Region.Mode} {S : World → Prop} {L : Nat}
/-- whatever comes up next, S holds behind it, unless it is number L -/
def HeldTo (P : Program) (md : Region.Mode) (ops : Array Oper) (Q : Exit → Act → World → Prop) (S : World → Prop) (L : Nat) : Nat → Array Bool → Act → World → Prop
  | 0, ls, a, w => Region.ready md ops ls = [] ∧ Q .normal a w
  | n + 1, ls, a, w => (Region.ready md ops ls = [] → Q .normal a w) ∧ ∀ j ∈ Region.ready md ops ls, wpOp P ops Q j (fun a2 w2 => (j = L ∨ S w2) ∧ HeldTo P md ops Q S L n (ls.setIfInBounds j true) a2 w2) a w
theorem heldTo_any : ∀ (n : Nat) (ls : Array Bool) (a : Act) (w : World), HeldTo P md ops Q S L n ls a w → wpAny P md ops Q n ls a w
  | 0, _, _, _, h => h
  | n + 1, _, _, _, h => ⟨h.1, fun j hj => wpOp_mono (fun a2 w2 k => heldTo_any n _ a2 w2 k.2) (h.2 j hj)⟩
/-- number L waits for number i -/
def waitsFor (md : Region.Mode) (ops : Array Oper) (L i : Nat) : Bool := match ops[L]? with
  | none => true
  | some o => o.after.any fun e => Region.binds md e && e.on == i
theorem heldTo_first {i : Nat} {oi : Oper} {v : Value} (hi : ops[i]? = some oi) (hsel : ∀ (j : Nat) (o : Oper) cs b, ops[j]? = some o → o.op ≠ .select cs b)
    (hQ : ∀ c a w, Q (.panic c) (a.put oi.dst v) w → Q (.panic c) a w) (hL : waitsFor md ops L i = true) : ∀ (n : Nat) (ls : Array Bool) (a : Act) (w : World),
      (∀ j oj, ops[j]? = some oj → j ≠ i → ls.getD j true = false → (∀ e ∈ oj.after, Region.binds md e = true → e.on ≠ i) → oi.apart ops oj = true) →
      i ∈ Region.ready md ops ls → YieldsIf P ops S oi v a → S w → HeldTo P md ops Q S L n (ls.setIfInBounds i true) (a.put oi.dst v) w → HeldTo P md ops Q S L (n + 1) ls a w := by
  intro n
  induction n with
  | zero =>
    intro ls a w _ hr hy hS H
    refine ⟨fun e => (by rw [e] at hr; cases hr), fun j hj => ?_⟩
    by_cases e : j = i
    · subst e; exact hy.wpOp hi hS ⟨.inr hS, H⟩
    · have := ready_mono hj e
      rw [H.1] at this
      cases this
  | succ n ih =>
    intro ls a w hfree hr hy hS H
    refine ⟨fun e => (by rw [e] at hr; cases hr), fun j hj => ?_⟩
    by_cases e : j = i
    · subst e; exact hy.wpOp hi hS ⟨.inr hS, H⟩
    obtain ⟨hju, oj, hoj, hall⟩ := mem_ready.1 hj
    have hno : ∀ e ∈ oj.after, Region.binds md e = true → e.on ≠ i := fun e he hb heq => by
      have h1 := hall e he hb
      have h0 := (mem_ready.1 hr).1
      rw [heq] at h1
      rcases Nat.lt_or_ge i ls.size with hlt | hge
      · simp [hlt] at h0 h1; rw [h0] at h1; cases h1
      · simp [Array.getElem?_eq_none hge] at h1
    have hjL : j ≠ L := by
      rintro rfl
      unfold waitsFor at hL
      rw [hoj] at hL
      simp only [Array.any_eq_true] at hL
      obtain ⟨k, hk, hb⟩ := hL
      rw [Bool.and_eq_true, beq_iff_eq] at hb
      exact hno _ (Array.getElem_mem hk) hb.1 hb.2
    have h2 := wpOp_putIf hoj (hfree j oj hoj e hju hno) (fun cs b => hsel i oi cs b hi) (fun cs b => hsel j oj cs b hoj) hQ hy (H.2 j (ready_mono hj e))
    have hfree2 : ∀ k ok, ops[k]? = some ok → k ≠ i → (ls.setIfInBounds j true).getD k true = false → (∀ e ∈ ok.after, Region.binds md e = true → e.on ≠ i) → oi.apart ops ok = true := fun k ok hk hki hun hn => by
      refine hfree k ok hk hki ?_ hn
      by_cases hjk : j = k
      · subst hjk; exact hju
      · rw [getD_set_ne true hjk] at hun; exact hun
    refine wpOp_mono (fun a2 w2 h3 => ⟨h3.2.1, ih (ls.setIfInBounds j true) a2 w2 hfree2 (ready_mono hr (Ne.symm e)) h3.1 (h3.2.1.resolve_left hjL) ?_⟩) h2
    rw [Array.setIfInBounds_comm _ _ e]
    exact h3.2.2
theorem held_take {i : Nat} {oi : Oper} {v : Value} {n : Nat} {ls : Array Bool} {a : Act} {w : World} (hi : ops[i]? = some oi) (hs : Region.noSelect ops = true) (hf : Region.free md ops ls i = true)
    (hr : (Region.ready md ops ls).contains i = true) (hL : waitsFor md ops L i = true) (hQ : ∀ c a w, Q (.panic c) (a.put oi.dst v) w → Q (.panic c) a w) (hy : YieldsIf P ops S oi v a) (hS : S w)
    (h : HeldTo P md ops Q S L n (ls.setIfInBounds i true) (a.put oi.dst v) w) : HeldTo P md ops Q S L (n + 1) ls a w :=
  heldTo_first hi (Region.noSelect_spec hs) hQ hL n ls a w (Region.free_spec hi hf) (by simpa using hr) hy hS h
theorem held_done {ls : Array Bool} {a : Act} {w : World} (hr : Region.ready md ops ls = []) (h : Q .normal a w) : ∀ n, HeldTo P md ops Q S L n ls a w
  | 0 => ⟨hr, h⟩
  | _ + 1 => ⟨fun _ => h, by rw [hr]; simp⟩
/-- one operation alone may come up -/
theorem held_one {i : Nat} {o : Oper} {n : Nat} {ls : Array Bool} {a : Act} {w : World} (hr : Region.ready md ops ls = [i]) (ho : ops[i]? = some o)
    (h : ∀ K : Act → World → Prop, Shut (∀ a2 w2, (i = L ∨ S w2) → HeldTo P md ops Q S L n (ls.setIfInBounds i true) a2 w2 → K a2 w2) → if Region.wanted o (yielded ops a.tmps) = true then Oper.wp P o a w K Q else K (a.put o.dst undef) w) :
    HeldTo P md ops Q S L (n + 1) ls a w :=
  ⟨fun e => (by rw [hr] at e; cases e), fun j hj => by
    rw [hr] at hj
    obtain rfl : j = i := by simpa using hj
    exact wpOp_step ho fun K hK => h K fun a2 w2 h1 h2 => hK a2 w2 ⟨h1, h2⟩⟩
/-- one of two operations may come up -/
theorem held_two {i j : Nat} {oi oj : Oper} {n : Nat} {ls : Array Bool} {a : Act} {w : World} (hr : Region.ready md ops ls = [i, j]) (hi : ops[i]? = some oi) (hj : ops[j]? = some oj)
    (h1 : ∀ K : Act → World → Prop, Shut (∀ a2 w2, (i = L ∨ S w2) → HeldTo P md ops Q S L n (ls.setIfInBounds i true) a2 w2 → K a2 w2) → if Region.wanted oi (yielded ops a.tmps) = true then Oper.wp P oi a w K Q else K (a.put oi.dst undef) w)
    (h2 : ∀ K : Act → World → Prop, Shut (∀ a2 w2, (j = L ∨ S w2) → HeldTo P md ops Q S L n (ls.setIfInBounds j true) a2 w2 → K a2 w2) → if Region.wanted oj (yielded ops a.tmps) = true then Oper.wp P oj a w K Q else K (a.put oj.dst undef) w) :
    HeldTo P md ops Q S L (n + 1) ls a w :=
  ⟨fun e => (by rw [hr] at e; cases e), fun k hk => by
    rw [hr] at hk
    rcases List.mem_cons.1 hk with rfl | hk
    · exact wpOp_step hi fun K hK => h1 K fun a2 w2 h3 h4 => hK a2 w2 ⟨h3, h4⟩
    · obtain rfl : k = j := by simpa using hk
      exact wpOp_step hj fun K hK => h2 K fun a2 w2 h3 h4 => hK a2 w2 ⟨h3, h4⟩⟩
theorem held_start {id : Nat} {a : Act} {w : World} (L : Nat) (hm : P.follows .mixedOrders = true) (h : HeldTo P .any ops Q S L ops.size (Array.replicate ops.size false) a w.drew) : (Code.region id ops true).wp P Q a w :=
  wp_region_any hm (heldTo_any _ _ _ _ h)
end
end Go.Proofs.Ytkmoiphcpmhacaa
namespace Go.Proofs.Ytkmoiphcpmhacaa
open Go.RowKit

theorem do_snoc {w w4 w5 : World} {lo s n m c4 : Nat} {v v' : Value} {A4 : Option Addr} {hs : List Fh} {fs : List Flw} {f : Flw} (D : DO w lo v n hs fs) (hb : Below w.heap.size w w4) (ho : w4.ownsRow s 29 4 (.slice A4 m c4) m (pcells f.ws)) (hs' : w.heap.size ≤ s) (hm : m ≤ 4000000000) (hlo : lo ≤ w.heap.size)
    (hr : w5.ownsRow lo 82 3 v' (n + 1) (fcells (hs ++ [⟨f.peer, f.dfc, A4, m, c4⟩]))) (hg : w4.grownBy w5 v.ownBlock) (hat : v'.ownBlock = v.ownBlock ∨ v'.ownBlock = some w4.heap.size) :
    DO w5 lo v' (n + 1) (hs ++ [⟨f.peer, f.dfc, A4, m, c4⟩]) (fs ++ [f]) := by
  have hz := hb.size
  have hv : ∀ b, v.ownBlock = some b → b < w.heap.size := fun b e => (D.row.lt b e).2
  have hnew : ∀ b, Value.ownBlock (.slice A4 m c4) = some b → w.heap.size ≤ b ∧ b < w4.heap.size := fun b e => by have := ho.lt b e; omega
  have hold : ∀ (j : Nat) (q : Fh), hs[j]? = some q → ∀ b, q.sl.ownBlock = some b → b < w.heap.size ∧ v.ownBlock ≠ some b := fun j q hq b e => by
    have hjl : j < fs.length := by
      rw [← D.len]
      rcases Nat.lt_or_ge j hs.length with hlt | hge
      · exact hlt
      · rw [List.getElem?_eq_none hge] at hq; cases hq
    have hA := D.all j q _ hq (List.getElem?_eq_getElem hjl)
    exact ⟨(hA.2.2.2.1.lt b e).2, hA.2.2.2.2 b e⟩
  have kept : ∀ {u : Value} {e : TypeId} {k c s2 : Nat} {xs : List Value}, w4.ownsRow s2 e k u c xs → (∀ b, u.ownBlock = some b → v.ownBlock ≠ some b) → w5.ownsRow s2 e k u c xs := by
    intro u e k c s2 xs h hu
    refine h.kept hg ?_
    rcases hub : u.ownBlock with _ | b
    · exact .inl rfl
    · exact .inr fun e => hu b hub e.symm
  have hv' : ∀ b, b < w4.heap.size → v.ownBlock ≠ some b → v'.ownBlock ≠ some b := fun b hlt hne e => by
    rcases hat with h | h
    · exact hne (h.symm.trans e)
    · rw [h] at e; injection e with e; omega
  have hget : ∀ (j : Nat) (q : Fh), (hs ++ [(⟨f.peer, f.dfc, A4, m, c4⟩ : Fh)])[j]? = some q → hs[j]? = some q ∨ (j = hs.length ∧ q = ⟨f.peer, f.dfc, A4, m, c4⟩) := by
    intro j q e
    rcases Nat.lt_or_ge j hs.length with hlt | hge
    · rw [List.getElem?_append_left hlt] at e; exact .inl e
    · rw [List.getElem?_append_right hge] at e
      have h0 : j - hs.length = 0 := by
        rcases Nat.eq_zero_or_pos (j - hs.length) with e0 | e0
        · exact e0
        · rw [List.getElem?_eq_none (by simp; omega)] at e; cases e
      rw [h0] at e
      exact .inr ⟨by omega, (Option.some.inj e).symm⟩
  refine ⟨hr, by simp [D.len], fun j q f' h1 h2 => ?_, fun i j q q2 hij h1 h2 b hb1 hb2 => ?_⟩
  · rcases hget j q h1 with hq | ⟨rfl, rfl⟩
    · have hjl : j < fs.length := by
        rw [← D.len]
        rcases Nat.lt_or_ge j hs.length with hlt | hge
        · exact hlt
        · rw [List.getElem?_eq_none hge] at hq; cases hq
      rw [List.getElem?_append_left hjl] at h2
      obtain ⟨e1, e2, e3, e4, e5⟩ := D.all j q f' hq h2
      exact ⟨e1, e2, e3, kept (own_below e4 hb) e5, fun b e => hv' b (by have := (hold j q hq b e).1; omega) (e5 b e)⟩
    · rw [D.len, List.getElem?_append_right (Nat.le_refl _), Nat.sub_self] at h2
      obtain rfl : f = f' := Option.some.inj h2
      exact ⟨rfl, rfl, hm, own_mono (kept ho fun b e e2 => by have := hnew b e; have := hv b e2; omega) (by omega), fun b e => hv' b (hnew b e).2 fun e2 => by have := hnew b e; have := hv b e2; omega⟩
  · rcases hget i q h1 with hq | ⟨rfl, rfl⟩
    · rcases hget j q2 h2 with hq2 | ⟨rfl, rfl⟩
      · exact D.apart i j q q2 hij hq hq2 b hb1 hb2
      · have := (hold i q hq b hb1).1
        have := (hnew b hb2).1
        omega
    · rcases hget j q2 h2 with hq2 | ⟨rfl, rfl⟩
      · have := (hold j q2 hq2 b hb2).1
        have := (hnew b hb1).1
        omega
      · exact hij rfl
/-- the copy as far as it goes: the boxes, the copy's own box, the flows -/
structure CS (w : World) (q : Int) (A : Option Addr) (n c : Nat) (Ao : Option Addr) (k co : Nat) (hs : List Fh) (fs : List Flw) (wr : World) : Prop where
  fm : Fm w [⟨w.heap.size, w.heap.size + 1, BoxP w.heap.size 37 #[.int .i64 q, (.slice A n c)]⟩, ⟨w.heap.size + 1, w.heap.size + 2, BoxP (w.heap.size + 1) 37 #[.int .i64 0, (.slice none 0 0)]⟩] wr
  out : Blk wr (w.heap.size + 3) 37 #[.int .i64 q, (.slice Ao k co)]
  fl : DO wr (w.heap.size + 2) (.slice Ao k co) k hs fs
  sep : ∀ b, Value.ownBlock (.slice Ao k co) = some b → b ≠ w.heap.size + 3
  seps : ∀ (j : Nat) (h : Fh), hs[j]? = some h → ∀ b, h.sl.ownBlock = some b → b ≠ w.heap.size + 3
theorem do_ne {w : World} {lo : Nat} {v : Value} {n : Nat} {hs : List Fh} {fs : List Flw} (h : DO w lo v n hs fs) {p : Addr} (h0 : ∀ b, v.ownBlock = some b → b ≠ p.block) (h1 : ∀ (j : Nat) (g : Fh), hs[j]? = some g → ∀ b, g.sl.ownBlock = some b → b ≠ p.block) (u : Value) : DO (w.setCell p u) lo v n hs fs :=
  do_grown h (g_set (g_refl w (some p.block)) (.inl rfl) u) (fun b e e2 => h0 b e2 (by injection e with e; exact e.symm)) fun k g hk b e e2 => h1 k g hk b e2 (by injection e with e; exact e.symm)
theorem cs_below {w w1 w2 : World} {q : Int} {A Ao : Option Addr} {n c k co : Nat} {hs : List Fh} {fs : List Flw} (h : CS w q A n c Ao k co hs fs w1) (hb : Below w1.heap.size w1 w2) : CS w q A n c Ao k co hs fs w2 :=
  ⟨fm_below h.fm hb, blk_below h.out hb (blk_lt h.out), do_below h.fl hb, h.sep, h.seps⟩
theorem cs_snoc {w w1 w8 w7 : World} {q : Int} {A Ao A6 A7 : Option Addr} {n c k co m c6 c7 s : Nat} {hs : List Fh} {fs : List Flw} {f : Flw} (C : CS w q A n c Ao k co hs fs w1) (hb : Below w1.heap.size w1 w8)
    (ho : w8.ownsRow s 29 4 (.slice A6 m c6) m (pcells f.ws)) (hs' : w1.heap.size ≤ s) (hm : m ≤ 4000000000)
    (hr : w7.ownsRow (w.heap.size + 2) 82 3 (.slice A7 (k + 1) c7) (k + 1) (fcells (hs ++ [⟨f.peer, f.dfc, A6, m, c6⟩]))) (hg : w8.grownBy w7 (Value.ownBlock (.slice Ao k co)))
    (hat : Value.ownBlock (.slice A7 (k + 1) c7) = Value.ownBlock (.slice Ao k co) ∨ Value.ownBlock (.slice A7 (k + 1) c7) = some w8.heap.size) :
    CS w q A n c A7 (k + 1) c7 (hs ++ [⟨f.peer, f.dfc, A6, m, c6⟩]) (fs ++ [f]) (w7.setCell ⟨w.heap.size + 3, 1, none⟩ (.slice A7 (k + 1) c7)) := by
  have z1 := blk_lt C.out
  have z8 := hb.size
  have D := do_snoc (lo := w.heap.size + 2) C.fl hb ho hs' hm (by omega) hr hg hat
  have sep : ∀ b, Value.ownBlock (.slice A7 (k + 1) c7) = some b → b ≠ w.heap.size + 3 := fun b e => by
    rcases hat with h | h
    · exact C.sep b (h.symm.trans e)
    · rw [h] at e; injection e with e; omega
  have seps : ∀ (j : Nat) (h : Fh), (hs ++ [(⟨f.peer, f.dfc, A6, m, c6⟩ : Fh)])[j]? = some h → ∀ b, h.sl.ownBlock = some b → b ≠ w.heap.size + 3 := fun j h hj b e => by
    rcases Nat.lt_or_ge j hs.length with hlt | hge
    · rw [List.getElem?_append_left hlt] at hj; exact C.seps j h hj b e
    · rw [List.getElem?_append_right hge] at hj
      have h0 : j - hs.length = 0 := by
        rcases Nat.eq_zero_or_pos (j - hs.length) with e0 | e0
        · exact e0
        · rw [List.getElem?_eq_none (by simp; omega)] at hj; cases hj
      rw [h0] at hj
      obtain rfl : (⟨f.peer, f.dfc, A6, m, c6⟩ : Fh) = h := Option.some.inj hj
      have := (ho.lt b e).1
      omega
  have F7 := fm_grownO (fm_below C.fm hb) hg fun b e => ⟨by have := (C.fl.row.lt b e).1; omega, fun x hx => by
    have := (C.fl.row.lt b e).1
    simp only [List.mem_cons, List.not_mem_nil, or_false] at hx
    rcases hx with rfl | rfl <;> (simp only; omega)⟩
  refine ⟨fm_out F7 (fun x hx => ?_) (by omega) _, ?_, do_ne D (fun b e => sep b e) (fun j h hj b e => seps j h hj b e) _, sep, seps⟩
  · simp only [List.mem_cons, List.not_mem_nil, or_false] at hx
    rcases hx with rfl | rfl <;> (simp only; omega)
  · exact blk_set (blk_grownQ (blk_below C.out hb z1) hg (fun e => C.sep _ e.symm rfl)) 1 _
theorem cs_hold {w w1 : World} {q : Int} {A Ao : Option Addr} {n c k co b5 : Nat} {hs : List Fh} {fs : List Flw} {x d : Int} {A1 : Option Addr} {n1 c1 : Nat} (C : CS w q A n c Ao k co hs fs w1) (B : Blk w1 b5 82 #[.int .i64 x, .int .i64 d, (.slice A1 n1 c1)]) :
    (w1.cell? ⟨w.heap.size + 3, 0, none⟩ = some (.int .i64 q) ∧ w1.cell? ⟨w.heap.size + 3, 1, none⟩ = some (.slice Ao k co)) ∧ (w1.cell? ⟨b5, 0, none⟩ = some (.int .i64 x) ∧ w1.cell? ⟨b5, 1, none⟩ = some (.int .i64 d) ∧ w1.cell? ⟨b5, 2, none⟩ = some (.slice A1 n1 c1)) ∧
      Fm w [⟨w.heap.size, w.heap.size + 1, BoxP w.heap.size 37 #[.int .i64 q, (.slice A n c)]⟩, ⟨w.heap.size + 1, w.heap.size + 2, BoxP (w.heap.size + 1) 37 #[.int .i64 0, (.slice none 0 0)]⟩] w1 :=
  ⟨⟨blk_cell C.out 0, blk_cell C.out 1⟩, (blk_three B).1, C.fm⟩
/-- the same behind the append of a flow -/
theorem cs_held {w w1 w8 w7 : World} {q : Int} {A Ao : Option Addr} {n c k co b5 : Nat} {hs : List Fh} {fs : List Flw} {x d : Int} {A1 : Option Addr} {n1 c1 : Nat} (C : CS w q A n c Ao k co hs fs w1) (hb : Below w1.heap.size w1 w8) (B : Blk w8 b5 82 #[.int .i64 x, .int .i64 d, (.slice A1 n1 c1)]) (h5 : w1.heap.size ≤ b5)
    (hg : w8.grownBy w7 (Value.ownBlock (.slice Ao k co))) :
    Blk w7 (w.heap.size + 3) 37 #[.int .i64 q, (.slice Ao k co)] ∧ (w7.cell? ⟨b5, 0, none⟩ = some (.int .i64 x) ∧ w7.cell? ⟨b5, 1, none⟩ = some (.int .i64 d) ∧ w7.cell? ⟨b5, 2, none⟩ = some (.slice A1 n1 c1)) ∧
      Fm w [⟨w.heap.size, w.heap.size + 1, BoxP w.heap.size 37 #[.int .i64 q, (.slice A n c)]⟩, ⟨w.heap.size + 1, w.heap.size + 2, BoxP (w.heap.size + 1) 37 #[.int .i64 0, (.slice none 0 0)]⟩] w7 :=
  ⟨blk_grownQ (blk_below C.out hb (blk_lt C.out)) hg (fun e => C.sep _ e.symm rfl), (blk_three (blk_grownQ B hg (fun e => by have := (C.fl.row.lt _ e.symm).2; omega))).1, fm_grownO (fm_below C.fm hb) hg fun b e => ⟨by have := (C.fl.row.lt b e).1; omega, fun x hx => by
    have := (C.fl.row.lt b e).1
    simp only [List.mem_cons, List.not_mem_nil, or_false] at hx
    rcases hx with rfl | rfl <;> (simp only; omega)⟩⟩
def CsRel (w : World) (q : Int) (A : Option Addr) (n c : Nat) (fs : List Flw) (i : Value) (wr : World) : Prop :=
  ∃ k Ao co hs, k ≤ n ∧ i = .int .i64 (k : Int) ∧ CS w q A n c Ao k co hs (fs.take k) wr
set_option maxHeartbeats 4000000 in
theorem copyRS_any (q : Int) (A : Option Addr) (n c : Nat) (fs : List Flw) (w : World) (h : FR w A n fs) :
    Calls Try.prog 102 #[.agg #[.int .i64 q, (.slice A n c)]] w (RPost w q fs) := by
  have H := Lib.hid h
  have HL := Lib.hid (fr_lenF h)
  have n4 : n ≤ 4000000000 := HL.out.2
  have F := Lib.hid (fm_two w 37 37 #[.int .i64 q, (.slice A n c)] #[.int .i64 0, (.slice none 0 0)])
  clear h
  have R0 : Hid (CsRel w q A n c fs (.int .i64 0) ((((w.alloc (.cells #[.int .i64 q, (.slice A n c)] 37)).alloc (.cells #[.int .i64 0, (.slice none 0 0)] 37)).alloc (.cells #[] 82)).alloc (.cells #[.int .i64 q, (.slice (some ⟨w.heap.size + 2, 0, none⟩) 0 0)] 37))) := Lib.hid
    ⟨0, some ⟨w.heap.size + 2, 0, none⟩, 0, [], Nat.zero_le _, rfl, fm_alloc (fm_alloc F.out _) _, blk_at (by simp) _ _, ⟨own_mono (World.ownsRow.alloc (own_emptyF (by simp)) _) (by simp), rfl, fun k h f e => by simp at e, fun i j h g _ e => by simp at e⟩, fun b e => by simp [Value.ownBlock] at e; omega, fun j h e => by simp at e⟩
  clear F
  go_enter Try.func102, Try.ntmps102
  go_wp2
  go_loopw [4] (fun i wr => CsRel w q A n c fs i wr) (fun i _ => n - (intOf i).toNat)
  case atStart => exact R0.out
  case round =>
    obtain ⟨k, Ao, co, hs, hk, rfl, hC⟩ := hrel
    clear R0
    have HC := Lib.hid hC
    have hbl := hC.fm.below
    obtain ⟨g0, g1, -⟩ := blk_two (fm_blk hC.fm 0 rfl)
    obtain ⟨l0, l1, lf0, lf1⟩ := blk_two hC.out
    have zb0 := blk_lt (fm_blk hC.fm 0 rfl)
    have zb1 := blk_lt (fm_blk hC.fm 1 rfl)
    have zb3 := blk_lt hC.out
    by_cases hlt : k < n
    · obtain ⟨b, off, f, A1, n1, c1, rfl, hb, hf, c0, c1', c2', hpr, hc1, hn1⟩ := fr_cells (fr_belowF H.out hbl) hlt
      have HF := Lib.hid hf
      have HP := Lib.hid hpr
      obtain ⟨x, d, ws⟩ := f
      simp only at c0 c1' c2'
      clear hf hpr hC
      have C0 := Lib.hid (cs_below HC.out (below_alloc (Below.refl _ _) (.cells #[.int .i64 x, .int .i64 d, (.slice A1 n1 c1)] 82)))
      have HT0 := Lib.hid (World.ownsRow.drew (own_emptyQ (W := wr.alloc (.cells #[.int .i64 x, .int .i64 d, (.slice A1 n1 c1)] 82)) (b := wr.heap.size + 1) (by simp)))
      have P0 := Lib.hid (pr_drewN (pr_alloc (pr_alloc HP.out (.cells #[.int .i64 x, .int .i64 d, (.slice A1 n1 c1)] 82)) (.cells #[] 29)) 1)
      have BF := Lib.hid (blk_new wr 82 #[.int .i64 x, .int .i64 d, (.slice A1 n1 c1)])
      have hS0 := cs_hold (cs_below C0.out (Below.drew (Below.refl _ _))) (blk_drewN BF.out 1)
      have HE := Lib.hid (show fs.take k ++ [⟨x, d, ws⟩] = fs.take (k + 1) by rw [List.take_add_one, HF.out]; rfl)
      clear l0 l1 lf0 lf1
      go_wp2_with fail
      refine held_start (S := (fun w' => (w'.cell? ⟨w.heap.size + 3, 0, none⟩ = some (.int .i64 q) ∧ w'.cell? ⟨w.heap.size + 3, 1, none⟩ = some (.slice Ao k co)) ∧ (w'.cell? ⟨wr.heap.size, 0, none⟩ = some (.int .i64 x) ∧ w'.cell? ⟨wr.heap.size, 1, none⟩ = some (.int .i64 d) ∧ w'.cell? ⟨wr.heap.size, 2, none⟩ = some (.slice A1 n1 c1)) ∧ Fm w [⟨w.heap.size, w.heap.size + 1, BoxP w.heap.size 37 #[.int .i64 q, (.slice (some ⟨b, off, none⟩) n c)]⟩, ⟨w.heap.size + 1, w.heap.size + 2, BoxP (w.heap.size + 1) 37 #[.int .i64 0, (.slice none 0 0)]⟩] w')) 14 (by kernel_rfl) ?_
      refine held_take (i := 0) (oi := { dst := some 22, op := Op.fieldAddr 37 (Operand.tmp 3) 1, type := 0, pos := "l5_robins.go:51", after := #[], guard := none }) (v := ?_) rfl (by kernel_rfl) (by kernel_rfl) (by kernel_rfl) (by kernel_rfl) (fun _ _ _ h => h) (Or.inl ⟨by rfl, ?_⟩) hS0 ?_
      rotate_left
      · (intro w9 hSw; (try dsimp only at hSw); go_simp; try with_reducible rfl)
      try simp only [Act.put, List.setIfInBounds_toArray, List.set_cons_zero, List.set_cons_succ]
      refine held_take (i := 1) (oi := { dst := some 23, op := Op.load 35 (Operand.tmp 22), type := 35, pos := "l5_robins.go:51", after := #[{ on := 0, ground := Ground.data }], guard := none }) (v := ?_) rfl (by kernel_rfl) (by kernel_rfl) (by kernel_rfl) (by kernel_rfl) (fun _ _ _ h => h) (Or.inl ⟨by rfl, ?_⟩) hS0 ?_
      rotate_left
      · (intro w9 hSw; (try dsimp only at hSw); go_simp; try with_reducible rfl)
      try simp only [Act.put, List.setIfInBounds_toArray, List.set_cons_zero, List.set_cons_succ]
      refine held_take (i := 2) (oi := { dst := some 24, op := Op.fieldAddr 82 (Operand.tmp 5) 0, type := 0, pos := "l5_robins.go:51", after := #[], guard := none }) (v := ?_) rfl (by kernel_rfl) (by kernel_rfl) (by kernel_rfl) (by kernel_rfl) (fun _ _ _ h => h) (Or.inl ⟨by rfl, ?_⟩) hS0 ?_
      rotate_left
      · (intro w9 hSw; (try dsimp only at hSw); go_simp; try with_reducible rfl)
      try simp only [Act.put, List.setIfInBounds_toArray, List.set_cons_zero, List.set_cons_succ]
      refine held_take (i := 3) (oi := { dst := some 25, op := Op.load 3 (Operand.tmp 24), type := 3, pos := "l5_robins.go:51", after := #[{ on := 2, ground := Ground.data }], guard := none }) (v := ?_) rfl (by kernel_rfl) (by kernel_rfl) (by kernel_rfl) (by kernel_rfl) (fun _ _ _ h => h) (Or.inl ⟨by rfl, ?_⟩) hS0 ?_
      rotate_left
      · (intro w9 hSw; (try dsimp only at hSw); go_simp; try with_reducible rfl)
      try simp only [Act.put, List.setIfInBounds_toArray, List.set_cons_zero, List.set_cons_succ]
      refine held_take (i := 4) (oi := { dst := some 26, op := Op.fieldAddr 82 (Operand.tmp 5) 1, type := 0, pos := "l5_robins.go:51", after := #[], guard := none }) (v := ?_) rfl (by kernel_rfl) (by kernel_rfl) (by kernel_rfl) (by kernel_rfl) (fun _ _ _ h => h) (Or.inl ⟨by rfl, ?_⟩) hS0 ?_
      rotate_left
      · (intro w9 hSw; (try dsimp only at hSw); go_simp; try with_reducible rfl)
      try simp only [Act.put, List.setIfInBounds_toArray, List.set_cons_zero, List.set_cons_succ]
      refine held_take (i := 5) (oi := { dst := some 27, op := Op.load 3 (Operand.tmp 26), type := 3, pos := "l5_robins.go:51", after := #[{ on := 4, ground := Ground.data }], guard := none }) (v := ?_) rfl (by kernel_rfl) (by kernel_rfl) (by kernel_rfl) (by kernel_rfl) (fun _ _ _ h => h) (Or.inl ⟨by rfl, ?_⟩) hS0 ?_
      rotate_left
      · (intro w9 hSw; (try dsimp only at hSw); go_simp; try with_reducible rfl)
      try simp only [Act.put, List.setIfInBounds_toArray, List.set_cons_zero, List.set_cons_succ]
      refine held_take (i := 7) (oi := { dst := some 29, op := Op.fieldAddr 82 (Operand.tmp 5) 2, type := 0, pos := "l5_robins.go:51", after := #[], guard := none }) (v := ?_) rfl (by kernel_rfl) (by kernel_rfl) (by kernel_rfl) (by kernel_rfl) (fun _ _ _ h => h) (Or.inl ⟨by rfl, ?_⟩) hS0 ?_
      rotate_left
      · (intro w9 hSw; (try dsimp only at hSw); go_simp; try with_reducible rfl)
      try simp only [Act.put, List.setIfInBounds_toArray, List.set_cons_zero, List.set_cons_succ]
      refine held_take (i := 8) (oi := { dst := some 30, op := Op.load 45 (Operand.tmp 29), type := 45, pos := "l5_robins.go:51", after := #[{ on := 7, ground := Ground.data }], guard := none }) (v := ?_) rfl (by kernel_rfl) (by kernel_rfl) (by kernel_rfl) (by kernel_rfl) (fun _ _ _ h => h) (Or.inl ⟨by rfl, ?_⟩) hS0 ?_
      rotate_left
      · (intro w9 hSw; (try dsimp only at hSw); go_simp; try with_reducible rfl)
      try simp only [Act.put, List.setIfInBounds_toArray, List.set_cons_zero, List.set_cons_succ]
      refine held_one (i := 6) (o := { dst := some 28, op := Op.buildSlice 45 0 #[], type := 45, pos := "l5_robins.go:51", after := #[], guard := none }) (by kernel_rfl) rfl (fun K hK => ?_)
      go_simp
      have hS1 := cs_hold (cs_below C0.out (below_alloc (Below.refl _ _) (.cells #[] 29)).drew) (blk_alloc (blk_drewN BF.out 1) (.cells #[] 29))
      refine hK.out _ _ (.inr hS1) ?_
      clear hK K
      try simp only [Act.put, List.setIfInBounds_toArray, List.set_cons_zero, List.set_cons_succ]
      refine held_one (i := 9) (o := { dst := some 31, op := Op.call { callee := Callee.builtin Builtin.append, args := #[Operand.tmp 28, Operand.tmp 30], argTypes := #[45, 45] }, type := 45, pos := "l5_robins.go:51", after := #[{ on := 6, ground := Ground.data }, { on := 8, ground := Ground.data }], guard := none }) (by kernel_rfl) rfl (fun K hK => ?_)
      refine step_app_pkts _ rfl (.tmp 28) (.tmp 30) rfl (wr.alloc (.cells #[.int .i64 x, .int .i64 d, (.slice A1 n1 c1)] 82)).heap.size (.slice (some ⟨wr.heap.size + 1, 0, none⟩) 0 0) 0 [] rfl HT0.out A1 n1 c1 ws rfl P0.out (by omega) (by simp) ?_
      intro v6 w6 ho6 hg6 hat6
      simp only [List.nil_append, Nat.zero_add] at ho6
      have T6 := Lib.hid (app_belowQ HT0.out (Below.drew (below_alloc (Below.refl _ _) _)) hg6 (by simp))
      obtain ⟨A6, c6, rfl, -, -, -⟩ := own_form ho6
      have O6 := Lib.hid ho6
      have hS6 := cs_hold (cs_below C0.out T6.out) (blk_below BF.out T6.out (by simp))
      clear hg6 hat6 ho6
      refine hK.out _ _ (.inr hS6) ?_
      clear hK K
      try simp only [Act.put, List.setIfInBounds_toArray, List.set_cons_zero, List.set_cons_succ]
      refine held_take (i := 10) (oi := { dst := some 32, op := Op.build 82 #[(0, Operand.tmp 25), (1, Operand.tmp 27), (2, Operand.tmp 31)], type := 82, pos := "l5_robins.go:51", after := #[{ on := 3, ground := Ground.data }, { on := 5, ground := Ground.data }, { on := 9, ground := Ground.data }], guard := none }) (v := ?_) rfl (by kernel_rfl) (by kernel_rfl) (by kernel_rfl) (by kernel_rfl) (fun _ _ _ h => h) (Or.inl ⟨by rfl, ?_⟩) hS6 ?_
      rotate_left
      · (intro w9 hSw; (try dsimp only at hSw); go_simp; try with_reducible rfl)
      try simp only [Act.put, List.setIfInBounds_toArray, List.set_cons_zero, List.set_cons_succ]
      refine held_one (i := 11) (o := { dst := some 33, op := Op.buildSlice 35 1 #[(0, Operand.tmp 32)], type := 35, pos := "l5_robins.go:51", after := #[{ on := 10, ground := Ground.data }], guard := none }) (by kernel_rfl) rfl (fun K hK => ?_)
      go_simp
      have T8 := Lib.hid (below_seq T6.out (below_alloc (Below.refl _ _) (.cells #[.int .i64 x, .int .i64 d, (.slice A6 n1 c6)] 82)))
      have hS8 := cs_hold (cs_below C0.out T8.out) (blk_below BF.out T8.out (by simp))
      refine hK.out _ _ (.inr hS8) ?_
      clear hK K
      try simp only [Act.put, List.setIfInBounds_toArray, List.set_cons_zero, List.set_cons_succ]
      refine held_one (i := 12) (o := { dst := some 34, op := Op.call { callee := Callee.builtin Builtin.append, args := #[Operand.tmp 23, Operand.tmp 33], argTypes := #[35, 35] }, type := 35, pos := "l5_robins.go:51", after := #[{ on := 1, ground := Ground.data }, { on := 11, ground := Ground.data }, { on := 9, ground := Ground.chain }], guard := none }) (by kernel_rfl) rfl (fun K hK => ?_)
      refine step_app_flws _ rfl (.tmp 23) (.tmp 33) rfl (w.heap.size + 2) (.slice Ao k co) k hs rfl (cs_below C0.out T8.out).fl.row (some ⟨w6.heap.size, 0, none⟩) 1 1 [⟨x, d, A6, n1, c6⟩] rfl (hr_single (blk_at rfl _ _)) (by omega) (by have := T8.out.size; simp at this ⊢; omega) ?_
      intro v7 w7 ho7 hg7 hat7
      obtain ⟨A7, c7, rfl, -, -, -⟩ := own_form ho7
      have C7 := Lib.hid (cs_snoc (f := ⟨x, d, ws⟩) C0.out T8.out (O6.out.alloc _) (by simp) hn1 ho7 hg7 hat7)
      obtain ⟨B7, hS7a, hS7b⟩ := cs_held HC.out (below_seq1 (Below.refl _ _) T8.out) (blk_below BF.out T8.out (by simp)) (Nat.le_refl _) hg7
      obtain ⟨l0', l1', lf0', lf1'⟩ := blk_two B7
      have hS7 := And.intro (And.intro l0' l1') (And.intro hS7a hS7b)
      clear hg7 hat7 ho7
      refine hK.out _ _ (.inr hS7) ?_
      clear hK K
      try simp only [Act.put, List.setIfInBounds_toArray, List.set_cons_zero, List.set_cons_succ]
      refine held_take (i := 13) (oi := { dst := some 35, op := Op.fieldAddr 37 (Operand.tmp 3) 1, type := 0, pos := "l5_robins.go:51", after := #[{ on := 0, ground := Ground.phase }, { on := 1, ground := Ground.phase }, { on := 2, ground := Ground.phase }, { on := 3, ground := Ground.phase }, { on := 4, ground := Ground.phase }, { on := 5, ground := Ground.phase }, { on := 6, ground := Ground.phase }, { on := 7, ground := Ground.phase }, { on := 8, ground := Ground.phase }, { on := 9, ground := Ground.phase }, { on := 10, ground := Ground.phase }, { on := 11, ground := Ground.phase }, { on := 12, ground := Ground.phase }], guard := none }) (v := ?_) rfl (by kernel_rfl) (by kernel_rfl) (by kernel_rfl) (by kernel_rfl) (fun _ _ _ h => h) (Or.inl ⟨by rfl, ?_⟩) hS7 ?_
      rotate_left
      · (intro w9 hSw; (try dsimp only at hSw); go_simp; try with_reducible rfl)
      try simp only [Act.put, List.setIfInBounds_toArray, List.set_cons_zero, List.set_cons_succ]
      refine held_one (i := 14) (o := { dst := none, op := Op.store 35 (Operand.tmp 35) (Operand.tmp 34), type := 0, pos := "l5_robins.go:51", after := #[{ on := 13, ground := Ground.data }, { on := 12, ground := Ground.data }, { on := 12, ground := Ground.chain }, { on := 0, ground := Ground.phase }, { on := 1, ground := Ground.phase }, { on := 2, ground := Ground.phase }, { on := 3, ground := Ground.phase }, { on := 4, ground := Ground.phase }, { on := 5, ground := Ground.phase }, { on := 6, ground := Ground.phase }, { on := 7, ground := Ground.phase }, { on := 8, ground := Ground.phase }, { on := 9, ground := Ground.phase }, { on := 10, ground := Ground.phase }, { on := 11, ground := Ground.phase }, { on := 12, ground := Ground.phase }], guard := none }) (by kernel_rfl) rfl (fun K hK => ?_)
      go_simp
      refine hK.out _ _ (.inl rfl) ?_
      clear hK K
      try simp only [Act.put, List.setIfInBounds_toArray, List.set_cons_zero, List.set_cons_succ]
      refine held_done (by kernel_rfl) ?_ _
      clear hS0 hS1 hS6 hS8 hS7 hS7a hS7b l0' l1' lf0' lf1'
      go_wp2
      go_roundw
      case rel => exact ⟨k + 1, A7, c7, _, by omega, by go_num, by rw [← HE.out]; exact C7.out⟩
      case measure => simp [intOf]; omega
    · obtain rfl : k = n := by omega
      obtain ⟨o0, o1, of0, of1⟩ := blk_two (fm_blk hC.fm 1 rfl)
      have HE := Lib.hid (show fs.take k = fs from List.take_of_length_le (by have := HL.out.1; omega))
      clear hC hbl
      go_wp2
      refine bodyPost_ret (v := .agg #[.int .i64 q, (.slice Ao k co)]) (by simp [results, Try.results102, go_sem, o0, o1]) rfl (rpost_mk (hs := hs) (by rw [← HE.out]; exact do_mono (do_far (do_far HC.out.fl (by simp) _) (by simp) _) (by omega)) ?_)
      exact Below.setCell (Below.setCell HC.out.fm.below (by simp) _) (by simp) _
end Go.Proofs.Ytkmoiphcpmhacaa
