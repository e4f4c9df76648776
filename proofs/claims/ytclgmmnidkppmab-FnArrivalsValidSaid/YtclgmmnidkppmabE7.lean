/-
  Chapter 10: ShapeArrivals: what the program's function returns. Conditions: a slice's length fits an int.
-/
import Derived.Test.YtclgmmnidkppmabE5
import Derived.Deep.RegionHeld3
import Derived.Deep.DeepCutAuto
namespace Go.Proofs.Ytclgmmnidkppmab
open Go.RowKit

/-- an append of one arrival that was just laid; it says where the row lies -/
theorem wp_app_arr3 (w : World) {ops : Array Oper} {rest : List Oper} {o : Oper} {a : Act} {Q : Exit → Act → World → Prop} (hgd : o.guard = none) (s x : Operand)
    (ho : o.op = .call { callee := .builtin .append, args := #[s, x], argTypes := #[23, 23] })
    (base : Nat) (v : Value) (n : Nat) (ps : List Arr) (p : Arr) (hs : a.eval s = v) (hown : w.ownsRow base 50 2 v n (acells ps))
    (bl : Nat) (hbl : bl = w.heap.size) (hx : a.eval x = .slice (some ⟨bl, 0, none⟩) 1 1) (hn : n ≤ 2000000000) (hb : base ≤ w.heap.size)
    (h : ∀ v' w', w'.ownsRow base 50 2 v' (n + 1) (acells (ps ++ [p])) → (w.alloc (.cells #[.int .i64 p.t, .int .i64 p.z] 50)).grownBy w' v.ownBlock → (v'.ownBlock = v.ownBlock ∨ v'.ownBlock = some (w.heap.size + 1)) → wpList Try.prog ops Q rest (a.put o.dst v') w') :
    wpList Try.prog ops Q (o :: rest) a (w.alloc (.cells #[.int .i64 p.t, .int .i64 p.z] 50)) := by
  subst hbl
  exact wpl_app_arrs _ hgd s x ho base v n ps hs (hown.alloc _) _ 1 1 [p] hx (ar_single (blk_new w _ _)) (by omega) (by simp; omega) fun v' w' h1 h2 h3 => h v' w' h1 h2 (by simpa using h3)
/-- what shaping answers -/
def ShIs (ps : List Arr) (r s : Int) (qs : List Arr) (ok : Bool) : Prop :=
  (bkB ps r s = true ∧ shape r s ps = some qs ∧ ok = true) ∨ ((bkB ps r s = false ∨ shape r s ps = none) ∧ qs = [] ∧ ok = false)
theorem sh_uniq {ps qs qs' : List Arr} {r s : Int} {ok ok' : Bool} (h : ShIs ps r s qs ok) (h' : ShIs ps r s qs' ok') : qs = qs' ∧ ok = ok' := by
  rcases h with ⟨a, b, c⟩ | ⟨a, b, c⟩ <;> rcases h' with ⟨a', b', c'⟩ | ⟨a', b', c'⟩
  · rw [b] at b'
    exact ⟨by injection b', by rw [c, c']⟩
  · rcases a' with e | e
    · rw [a] at e; cases e
    · rw [b] at e; cases e
  · rcases a with e | e
    · rw [a'] at e; cases e
    · rw [b'] at e; cases e
  · exact ⟨by rw [b, b'], by rw [c, c']⟩
def ShPost (w : World) (ps : List Arr) (r s : Int) (e : Ending) (w' : World) : Prop :=
  ∃ A n c qs ok, e = .returned (.tuple #[.slice A n c, .bool ok]) ∧ ShIs ps r s qs ok ∧ n ≤ 32 ∧ w'.ownsRow w.heap.size 50 2 (.slice A n c) n (acells qs) ∧ Below w.heap.size w w'
theorem sh_go {r s L T E W : Int} {ps qs : List Arr} {k : Nat} {p : Arr} {R : Option (List Arr)} (h : R = (shp r s L T (ps.drop k)).map (qs ++ ·)) (hp : ps[k]? = some p) (hE : mx p.t T = E) (hW : wt r s L T E p.z = W) (hw : wtB r s L T E p.z = true) (hl : E + W ≤ 10000) :
    R = (shp r s (lv r s L T (E + W) - p.z) (E + W) (ps.drop (k + 1))).map ((qs ++ [⟨E + W, p.z⟩]) ++ ·) := by
  rw [h, drop_at hp]
  simp only [shp]
  rw [hE, hW, if_pos ⟨hw, hl⟩, Option.map_map]
  congr 1
  funext y
  simp
theorem sh_no {r s L T E : Int} {ps qs : List Arr} {k : Nat} {p : Arr} {R : Option (List Arr)} (h : R = (shp r s L T (ps.drop k)).map (qs ++ ·)) (hp : ps[k]? = some p) (hE : mx p.t T = E) (hw : ¬(wtB r s L T E p.z = true ∧ E + wt r s L T E p.z ≤ 10000)) : R = none := by
  rw [h, drop_at hp]
  simp only [shp]
  rw [hE, if_neg hw]
  rfl
theorem sh_end {r s L T : Int} {ps qs : List Arr} {k : Nat} {R : Option (List Arr)} (h : R = (shp r s L T (ps.drop k)).map (qs ++ ·)) (hk : ps.length ≤ k) : R = some qs := by
  rw [h, drop_end hk]
  simp [shp]
def ShRel (w : World) (ps : List Arr) (r s : Int) (n B : Nat) (v i : Value) (wr : World) : Prop :=
  ∃ (k : Nat) (L T : Int) (qs : List Arr), k ≤ n ∧ i = .int .i64 (k : Int) ∧ shape r s ps = (shp r s L T (ps.drop k)).map (qs ++ ·) ∧ bvB r s L T = true ∧ T ≤ 10000 ∧
    wr.ownsRow w.heap.size 50 2 v k (acells qs) ∧ Blk wr B 62 #[.int .i64 r, .int .i64 s, .int .i64 L, .int .i64 T] ∧ v.ownBlock ≠ some B ∧ Below w.heap.size w wr
theorem own_drewN {w : World} {base size : Nat} {e : TypeId} {v : Value} {n : Nat} {xs : List Value} (h : w.ownsRow base e size v n xs) (k : Nat) : (w.drewN k).ownsRow base e size v n xs := own_below h (below_drewN (Below.refl _ _) k)
set_option maxHeartbeats 4000000 in
theorem shI_any (A : Option Addr) (n c : Nat) (ps : List Arr) (r s : Int) (w : World) (h : AR w A n ps) (hn : n ≤ 9223372036854775807) :
    Calls Try.prog 32 #[.slice A n c, .int .i64 r, .int .i64 s] w (ShPost w ps r s) := by
  have H := Lib.hid h
  clear h
  rcases hk : bkB ps r s with _ | _
  · have HK := Lib.hid hk
    clear hk
    go_enter Try.func32, Try.ntmps32
    go_wp2_with fail
    refine (bfI_no A n c ps r s _ H.out hn HK.out).mono ?_
    rintro e w1 ⟨rfl, hb1⟩
    have B1 := Lib.hid (below_alloc hb1 (.cells #[.int .i64 0, .int .i64 0, .int .i64 0, .int .i64 0] 62))
    clear hb1
    go_wp2
    go_ret2
    exact ⟨none, 0, 0, [], false, rfl, .inr ⟨.inl HK.out, rfl, rfl⟩, by omega, World.ownsRow_nil _ _ _ _, B1.out⟩
  · have HK := Lib.hid hk
    obtain ⟨hv, hrb⟩ := bk_of hk
    have V0 := Lib.hid (av_of hv).2
    have hn32 : n ≤ 32 := by have := (av_of hv).1; have := H.out.1; omega
    have HF := Lib.hid (bv_full hrb)
    clear hk hv hrb
    go_enter Try.func32, Try.ntmps32
    go_wp2_with fail
    refine (bfI_yes A n c ps r s _ H.out hn HK.out).mono ?_
    rintro e w1 ⟨rfl, hb1⟩
    have hzw := hb1.size
    have R0 : ShRel w ps r s n w1.heap.size (.slice none 0 0) (.int .i64 0) (w1.alloc (.cells #[.int .i64 r, .int .i64 s, .int .i64 s, .int .i64 0] 62)) := ⟨0, s, 0, [], Nat.zero_le _, rfl, by simp [shape], HF.out, by omega, World.ownsRow_nil _ _ _ _, blk_new w1 _ _, by simp [Value.ownBlock], below_alloc hb1 _⟩
    have HR0 := Lib.hid R0
    clear hb1 R0
    go_wp2
    go_loopw [10, 27] (fun v i wr => ShRel w ps r s n w1.heap.size v i wr) (fun _ i _ => n - (intOf i).toNat)
    case atStart => exact HR0.out
    case round =>
      obtain ⟨k, L, T, qs, hk, rfl, he, hbv, hT, ho, hB, hne, hbl⟩ := hrel
      have HE := Lib.hid he
      clear he HR0
      obtain ⟨A9, c9, rfl, -, -, -⟩ := own_form ho
      by_cases hlt : k < n
      · obtain ⟨b, off, p, rfl, hb, hp, c0, c1⟩ := ar_at (ar_below H.out hbl) hlt
        have a1 := av_at V0.out hp
        have hbv4 := bv_of hbv
        have hblt := blk_lt hB
        have HP := Lib.hid hp
        have HBB := Lib.hid hB
        have HBL := Lib.hid hbl
        have HBV := Lib.hid hbv
        have HO := Lib.hid ho
        have HNE := Lib.hid hne
        have hsz := hbl.size
        obtain ⟨⟨q0, q1, q2, q3⟩, -⟩ := blk_4 hB
        clear hp hB hbl hbv ho hne
        by_cases hTp : p.t < T
        · have HME := Lib.hid (show mx p.t T = T by unfold mx; split <;> omega)
          have hrt : rtB r s L T T = true := rt_mk (by omega)
          have hEb : 0 ≤ T ∧ T ≤ 10000 := by omega
          rcases hwt : wtB r s L T T p.z with _ | _
          · have HWT := Lib.hid hwt
            clear hwt hrt
            go_wp2_with fail
            refine (waitI_no r s L T T p.z _ HWT.out).mono ?_
            rintro e w2 ⟨rfl, hb2⟩
            have BX := Lib.hid (blk_below (blk_new wr 50 #[.int .i64 p.t, .int .i64 p.z]) hb2 (by simp))
            have hz2 := hb2.size
            simp at hz2
            have hl2 : wr.heap.size < w2.heap.size := by omega
            have x0 := blk_cell BX.out 0
            have x1 := blk_cell BX.out 1
            simp only [List.getElem?_toArray, List.getElem?_cons_zero, List.getElem?_cons_succ] at x0 x1
            have y0 := blk_free BX.out 0
            have B2 := Lib.hid (below_seq (below_alloc HBL.out _) hb2)
            clear hb2 q0 q1 q2 q3 c0 c1
            go_wp2
            go_ret2
            exact ⟨none, 0, 0, [], false, rfl, .inr ⟨.inr (sh_no HE.out HP.out HME.out (by rw [HWT.out]; rintro ⟨e, _⟩; cases e)), rfl, rfl⟩, by omega, World.ownsRow_nil _ _ _ _, B2.out.setCell (by show w.heap.size ≤ wr.heap.size; omega) _⟩
          · have HWT := Lib.hid hwt
            have hwb := wt_bd hwt
            obtain ⟨W, hW⟩ : ∃ W, W = wt r s L T T p.z := ⟨_, rfl⟩
            have W0 : 0 ≤ W := by rw [hW]; exact hwb.1
            have W1 : W ≤ 10000 := by rw [hW]; exact hwb.2.1
            have HW := Lib.hid hW
            clear hwt hrt hwb hW
            by_cases hl : T + W ≤ 10000
            · have hLV := shp_lev HWT.out (by rw [← HW.out]; omega)
              rw [← HW.out] at hLV
              obtain ⟨hr2, hz2, hs2⟩ := hLV
              have HR2 := Lib.hid hr2
              have HTK := Lib.hid (tk_mk hr2 (c := p.z) (by omega))
              obtain ⟨V, hV⟩ : ∃ V, lv r s L T (T + W) = V := ⟨_, rfl⟩
              rw [hV] at hz2 hs2
              have HV := Lib.hid hV
              have V0b : 0 ≤ V - p.z := by omega
              clear hr2 hV
              go_wp2_with fail
              refine (waitI_is r s L T T p.z W _ HWT.out HW.out.symm).mono ?_
              rintro e w2 ⟨rfl, hb2⟩
              have BX := Lib.hid (blk_below (blk_new wr 50 #[.int .i64 p.t, .int .i64 p.z]) hb2 (by simp))
              have BB2 := Lib.hid (blk_below (blk_alloc HBB.out _) hb2 (by simp; omega))
              have hz3 := hb2.size
              simp at hz3
              have hl2 : wr.heap.size < w2.heap.size := by omega
              have hl3 : w1.heap.size < w2.heap.size := by omega
              have hne1 : w1.heap.size ≠ wr.heap.size := by omega
              have x0 := blk_cell BX.out 0
              have x1 := blk_cell BX.out 1
              simp only [List.getElem?_toArray, List.getElem?_cons_zero, List.getElem?_cons_succ] at x0 x1
              have y0 := blk_free BX.out 0
              obtain ⟨⟨p0, p1, p2, p3⟩, -⟩ := blk_4 BB2.out
              have B2 := Lib.hid (below_seq (below_alloc HBL.out _) hb2)
              have O2 := Lib.hid (own_below (HO.out.alloc _) hb2)
              have hrow := Lib.hid (fun g (hg : Value.ownBlock (.slice A9 k c9) = some g) => (HO.out.lt g hg).2)
              clear hb2 q0 q1 q2 q3 c0 c1
              go_wp2_with fail
              refine (takeI_is r s L T (T + W) p.z V _ HTK.out HV.out (by omega)).mono ?_
              rintro e w3 ⟨rfl, hb3⟩
              have BX3 := Lib.hid (show Blk w3 wr.heap.size 50 #[.int .i64 (T + W), .int .i64 p.z] from blk_below (blk_set BX.out 0 (.int .i64 (T + W))) hb3 (by simp; omega))
              have BB3 := Lib.hid (blk_below (blk_far BB2.out (by simp; omega) _) hb3 (by simp; omega))
              have hz4 := hb3.size
              simp at hz4
              have hl4 : wr.heap.size < w3.heap.size := by omega
              have hl5 : w1.heap.size < w3.heap.size := by omega
              have z0 := blk_cell BX3.out 0
              have z1 := blk_cell BX3.out 1
              simp only [List.getElem?_toArray, List.getElem?_cons_zero, List.getElem?_cons_succ] at z0 z1
              obtain ⟨⟨r0, r1, r2, r3⟩, f0, f1, f2, f3⟩ := blk_4 BB3.out
              have B3 := Lib.hid (below_seq (B2.out.setCell (by show w.heap.size ≤ wr.heap.size; omega) (.int .i64 (T + W))) hb3)
              have O3 := Lib.hid (own_below (own_set_ne O2.out (p := ⟨wr.heap.size, 0, none⟩) (by intro e; have := hrow.out _ e; simp at this) (.int .i64 (T + W))) hb3)
              have O4 := Lib.hid (own_set_ne (own_set_ne (own_set_ne (own_set_ne O3.out (p := ⟨w1.heap.size, 0, none⟩) HNE.out (.int .i64 r)) (p := ⟨w1.heap.size, 1, none⟩) HNE.out (.int .i64 s)) (p := ⟨w1.heap.size, 2, none⟩) HNE.out (.int .i64 (V - p.z))) (p := ⟨w1.heap.size, 3, none⟩) HNE.out (.int .i64 (T + W)))
              have B4 := Lib.hid ((((B3.out.setCell (p := ⟨w1.heap.size, 0, none⟩) hzw (.int .i64 r)).setCell (p := ⟨w1.heap.size, 1, none⟩) hzw (.int .i64 s)).setCell (p := ⟨w1.heap.size, 2, none⟩) hzw (.int .i64 (V - p.z))).setCell (p := ⟨w1.heap.size, 3, none⟩) hzw (.int .i64 (T + W)))
              have BB4 := Lib.hid (show Blk ((((w3.setCell ⟨w1.heap.size, 0, none⟩ (.int .i64 r)).setCell ⟨w1.heap.size, 1, none⟩ (.int .i64 s)).setCell ⟨w1.heap.size, 2, none⟩ (.int .i64 (V - p.z))).setCell ⟨w1.heap.size, 3, none⟩ (.int .i64 (T + W))) w1.heap.size 62 #[.int .i64 r, .int .i64 s, .int .i64 (V - p.z), .int .i64 (T + W)] from blk_set (blk_set (blk_set (blk_set BB3.out 0 _) 1 _) 2 _) 3 _)
              clear hb3 x0 x1 y0 p0 p1 p2 p3
              go_wp2_with (at_builtin; refine wp_app_arr3 _ rfl (.tmp 65) (.tmp 67) rfl w.heap.size _ k qs ⟨T + W, p.z⟩ rfl O4.out _ (by simp) rfl (by omega) (by simp; omega) ?_; intro v5 w5 ho5 hg5 hat5; have O5 := Lib.hid ho5; have G5 := Lib.hid (And.intro hg5 hat5); clear ho5 hg5 hat5)
              go_roundw
              case rel =>
                refine ⟨k + 1, V - p.z, T + W, _, by omega, by go_num, by rw [← HV.out]; exact sh_go HE.out HP.out HME.out HW.out.symm HWT.out hl, bv_rt HR2.out V0b (by omega), hl, O5.out, blk_grownQ (blk_alloc BB4.out _) G5.out.1 (fun e => HNE.out e.symm), ?_, app_belowA (O4.out.alloc _) (below_alloc B4.out _) G5.out.1 (by simp; omega)⟩
                rcases G5.out.2 with e | e
                · rw [e]; exact HNE.out
                · rw [e]; intro e2; injection e2 with e2; simp at e2; omega
              case measure => simp [intOf]; omega
            · have hl' : 10000 < T + W := by omega
              go_wp2_with fail
              refine (waitI_is r s L T T p.z W _ HWT.out HW.out.symm).mono ?_
              rintro e w2 ⟨rfl, hb2⟩
              have BX := Lib.hid (blk_below (blk_new wr 50 #[.int .i64 p.t, .int .i64 p.z]) hb2 (by simp))
              have hz2 := hb2.size
              simp at hz2
              have hl2 : wr.heap.size < w2.heap.size := by omega
              have x0 := blk_cell BX.out 0
              have x1 := blk_cell BX.out 1
              simp only [List.getElem?_toArray, List.getElem?_cons_zero, List.getElem?_cons_succ] at x0 x1
              have y0 := blk_free BX.out 0
              have B2 := Lib.hid (below_seq (below_alloc HBL.out _) hb2)
              clear hb2 q0 q1 q2 q3 c0 c1
              go_wp2
              go_ret2
              exact ⟨none, 0, 0, [], false, rfl, .inr ⟨.inr (sh_no HE.out HP.out HME.out (by rw [← HW.out]; omega)), rfl, rfl⟩, by omega, World.ownsRow_nil _ _ _ _, B2.out.setCell (by show w.heap.size ≤ wr.heap.size; omega) _⟩
        · have hTp' : T ≤ p.t := by omega
          have HME := Lib.hid (show mx p.t T = p.t by unfold mx; split <;> omega)
          have hrt : rtB r s L T p.t = true := rt_mk (by omega)
          have hEb : 0 ≤ p.t ∧ p.t ≤ 10000 := by omega
          rcases hwt : wtB r s L T p.t p.z with _ | _
          · have HWT := Lib.hid hwt
            clear hwt hrt
            go_wp2_with fail
            refine (waitI_no r s L T p.t p.z _ HWT.out).mono ?_
            rintro e w2 ⟨rfl, hb2⟩
            have BX := Lib.hid (blk_below (blk_new wr 50 #[.int .i64 p.t, .int .i64 p.z]) hb2 (by simp))
            have hz2 := hb2.size
            simp at hz2
            have hl2 : wr.heap.size < w2.heap.size := by omega
            have x0 := blk_cell BX.out 0
            have x1 := blk_cell BX.out 1
            simp only [List.getElem?_toArray, List.getElem?_cons_zero, List.getElem?_cons_succ] at x0 x1
            have y0 := blk_free BX.out 0
            have B2 := Lib.hid (below_seq (below_alloc HBL.out _) hb2)
            clear hb2 q0 q1 q2 q3 c0 c1
            go_wp2
            go_ret2
            exact ⟨none, 0, 0, [], false, rfl, .inr ⟨.inr (sh_no HE.out HP.out HME.out (by rw [HWT.out]; rintro ⟨e, _⟩; cases e)), rfl, rfl⟩, by omega, World.ownsRow_nil _ _ _ _, B2.out.setCell (by show w.heap.size ≤ wr.heap.size; omega) _⟩
          · have HWT := Lib.hid hwt
            have hwb := wt_bd hwt
            obtain ⟨W, hW⟩ : ∃ W, W = wt r s L T p.t p.z := ⟨_, rfl⟩
            have W0 : 0 ≤ W := by rw [hW]; exact hwb.1
            have W1 : W ≤ 10000 := by rw [hW]; exact hwb.2.1
            have HW := Lib.hid hW
            clear hwt hrt hwb hW
            by_cases hl : p.t + W ≤ 10000
            · have hLV := shp_lev HWT.out (by rw [← HW.out]; omega)
              rw [← HW.out] at hLV
              obtain ⟨hr2, hz2, hs2⟩ := hLV
              have HR2 := Lib.hid hr2
              have HTK := Lib.hid (tk_mk hr2 (c := p.z) (by omega))
              obtain ⟨V, hV⟩ : ∃ V, lv r s L T (p.t + W) = V := ⟨_, rfl⟩
              rw [hV] at hz2 hs2
              have HV := Lib.hid hV
              have V0b : 0 ≤ V - p.z := by omega
              clear hr2 hV
              go_wp2_with fail
              refine (waitI_is r s L T p.t p.z W _ HWT.out HW.out.symm).mono ?_
              rintro e w2 ⟨rfl, hb2⟩
              have BX := Lib.hid (blk_below (blk_new wr 50 #[.int .i64 p.t, .int .i64 p.z]) hb2 (by simp))
              have BB2 := Lib.hid (blk_below (blk_alloc HBB.out _) hb2 (by simp; omega))
              have hz3 := hb2.size
              simp at hz3
              have hl2 : wr.heap.size < w2.heap.size := by omega
              have hl3 : w1.heap.size < w2.heap.size := by omega
              have hne1 : w1.heap.size ≠ wr.heap.size := by omega
              have x0 := blk_cell BX.out 0
              have x1 := blk_cell BX.out 1
              simp only [List.getElem?_toArray, List.getElem?_cons_zero, List.getElem?_cons_succ] at x0 x1
              have y0 := blk_free BX.out 0
              obtain ⟨⟨p0, p1, p2, p3⟩, -⟩ := blk_4 BB2.out
              have B2 := Lib.hid (below_seq (below_alloc HBL.out _) hb2)
              have O2 := Lib.hid (own_below (HO.out.alloc _) hb2)
              have hrow := Lib.hid (fun g (hg : Value.ownBlock (.slice A9 k c9) = some g) => (HO.out.lt g hg).2)
              clear hb2 q0 q1 q2 q3 c0 c1
              go_wp2_with fail
              refine (takeI_is r s L T (p.t + W) p.z V _ HTK.out HV.out (by omega)).mono ?_
              rintro e w3 ⟨rfl, hb3⟩
              have BX3 := Lib.hid (show Blk w3 wr.heap.size 50 #[.int .i64 (p.t + W), .int .i64 p.z] from blk_below (blk_set BX.out 0 (.int .i64 (p.t + W))) hb3 (by simp; omega))
              have BB3 := Lib.hid (blk_below (blk_far BB2.out (by simp; omega) _) hb3 (by simp; omega))
              have hz4 := hb3.size
              simp at hz4
              have hl4 : wr.heap.size < w3.heap.size := by omega
              have hl5 : w1.heap.size < w3.heap.size := by omega
              have z0 := blk_cell BX3.out 0
              have z1 := blk_cell BX3.out 1
              simp only [List.getElem?_toArray, List.getElem?_cons_zero, List.getElem?_cons_succ] at z0 z1
              obtain ⟨⟨r0, r1, r2, r3⟩, f0, f1, f2, f3⟩ := blk_4 BB3.out
              have B3 := Lib.hid (below_seq (B2.out.setCell (by show w.heap.size ≤ wr.heap.size; omega) (.int .i64 (p.t + W))) hb3)
              have O3 := Lib.hid (own_below (own_set_ne O2.out (p := ⟨wr.heap.size, 0, none⟩) (by intro e; have := hrow.out _ e; simp at this) (.int .i64 (p.t + W))) hb3)
              have O4 := Lib.hid (own_set_ne (own_set_ne (own_set_ne (own_set_ne O3.out (p := ⟨w1.heap.size, 0, none⟩) HNE.out (.int .i64 r)) (p := ⟨w1.heap.size, 1, none⟩) HNE.out (.int .i64 s)) (p := ⟨w1.heap.size, 2, none⟩) HNE.out (.int .i64 (V - p.z))) (p := ⟨w1.heap.size, 3, none⟩) HNE.out (.int .i64 (p.t + W)))
              have B4 := Lib.hid ((((B3.out.setCell (p := ⟨w1.heap.size, 0, none⟩) hzw (.int .i64 r)).setCell (p := ⟨w1.heap.size, 1, none⟩) hzw (.int .i64 s)).setCell (p := ⟨w1.heap.size, 2, none⟩) hzw (.int .i64 (V - p.z))).setCell (p := ⟨w1.heap.size, 3, none⟩) hzw (.int .i64 (p.t + W)))
              have BB4 := Lib.hid (show Blk ((((w3.setCell ⟨w1.heap.size, 0, none⟩ (.int .i64 r)).setCell ⟨w1.heap.size, 1, none⟩ (.int .i64 s)).setCell ⟨w1.heap.size, 2, none⟩ (.int .i64 (V - p.z))).setCell ⟨w1.heap.size, 3, none⟩ (.int .i64 (p.t + W))) w1.heap.size 62 #[.int .i64 r, .int .i64 s, .int .i64 (V - p.z), .int .i64 (p.t + W)] from blk_set (blk_set (blk_set (blk_set BB3.out 0 _) 1 _) 2 _) 3 _)
              clear hb3 x0 x1 y0 p0 p1 p2 p3
              go_wp2_with (at_builtin; refine wp_app_arr3 _ rfl (.tmp 65) (.tmp 67) rfl w.heap.size _ k qs ⟨p.t + W, p.z⟩ rfl O4.out _ (by simp) rfl (by omega) (by simp; omega) ?_; intro v5 w5 ho5 hg5 hat5; have O5 := Lib.hid ho5; have G5 := Lib.hid (And.intro hg5 hat5); clear ho5 hg5 hat5)
              go_roundw
              case rel =>
                refine ⟨k + 1, V - p.z, p.t + W, _, by omega, by go_num, by rw [← HV.out]; exact sh_go HE.out HP.out HME.out HW.out.symm HWT.out hl, bv_rt HR2.out V0b (by omega), hl, O5.out, blk_grownQ (blk_alloc BB4.out _) G5.out.1 (fun e => HNE.out e.symm), ?_, app_belowA (O4.out.alloc _) (below_alloc B4.out _) G5.out.1 (by simp; omega)⟩
                rcases G5.out.2 with e | e
                · rw [e]; exact HNE.out
                · rw [e]; intro e2; injection e2 with e2; simp at e2; omega
              case measure => simp [intOf]; omega
            · have hl' : 10000 < p.t + W := by omega
              go_wp2_with fail
              refine (waitI_is r s L T p.t p.z W _ HWT.out HW.out.symm).mono ?_
              rintro e w2 ⟨rfl, hb2⟩
              have BX := Lib.hid (blk_below (blk_new wr 50 #[.int .i64 p.t, .int .i64 p.z]) hb2 (by simp))
              have hz2 := hb2.size
              simp at hz2
              have hl2 : wr.heap.size < w2.heap.size := by omega
              have x0 := blk_cell BX.out 0
              have x1 := blk_cell BX.out 1
              simp only [List.getElem?_toArray, List.getElem?_cons_zero, List.getElem?_cons_succ] at x0 x1
              have y0 := blk_free BX.out 0
              have B2 := Lib.hid (below_seq (below_alloc HBL.out _) hb2)
              clear hb2 q0 q1 q2 q3 c0 c1
              go_wp2
              go_ret2
              exact ⟨none, 0, 0, [], false, rfl, .inr ⟨.inr (sh_no HE.out HP.out HME.out (by rw [← HW.out]; omega)), rfl, rfl⟩, by omega, World.ownsRow_nil _ _ _ _, B2.out.setCell (by show w.heap.size ≤ wr.heap.size; omega) _⟩
      · obtain rfl : k = n := by omega
        have HBL := Lib.hid hbl
        have HO := Lib.hid ho
        clear hbl hB ho
        go_wp2
        go_ret2
        exact ⟨A9, k, c9, qs, true, rfl, .inl ⟨HK.out, sh_end HE.out (by have := H.out.1; omega), rfl⟩, hn32, HO.out, HBL.out⟩
end Go.Proofs.Ytclgmmnidkppmab
