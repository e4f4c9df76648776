/-
  Chapter 11: the model's TopPeers. Conditions: a slice's length fits an int.
-/
import Derived.Test.YtaccbmgbkalknaaY4
namespace Go.Proofs.Ytaccbmgbkalknaa
open Go.RowKit

def TsOut (w : World) (us : List Int) (n : Nat) (v i : Value) (wr : World) : Prop :=
  ∃ (k : Nat) (A : Option Addr) (c : Nat), k ≤ n ∧ i = .int .i64 (k : Int) ∧ v = .slice A k c ∧ Below w.heap.size w wr ∧ wr.ownsRow w.heap.size 3 1 (.slice A k c) k (icells (finT (keyOf us) [] (plcs k)))
def TsIn (w : World) (b n c i : Nat) (f : Int → Int) (S : List Int) (x : Int) (vj : Value) (wr : World) : Prop :=
  ∃ (j : Nat) (A B : List Int), vj = .int .i64 (j : Int) ∧ A.length = j ∧ j ≤ i ∧ A ++ B = S ∧ (∀ z ∈ B, f z < f x) ∧ wr.ownsRow w.heap.size 3 1 (.slice (some ⟨b, 0, none⟩) n c) n (icells (A ++ x :: B)) ∧ Below w.heap.size w wr
set_option maxHeartbeats 8000000 in
theorem tpS_any (A : Option Addr) (n c : Nat) (us : List Int) (x : Int) (w : World) (h : NR w A n us) (hn : n ≤ 9223372036854775807) :
    Calls Try.prog 28 #[.slice A n c, .int .i64 x] w (LPq w (tpL us x) (tpB us x)) := by
  have H := Lib.hid h
  have OLD := Lib.hid (nr_old h)
  clear h
  have B0 := Lib.hid (below_alloc (Below.refl w.heap.size w) (.cells #[] 3))
  obtain ⟨L, hL⟩ : ∃ L, L = tpL us x := ⟨_, rfl⟩
  obtain ⟨ok, hok⟩ : ∃ ok, ok = tpB us x := ⟨_, rfl⟩
  rw [← hL, ← hok]
  have HL := Lib.hid hL
  have HK := Lib.hid hok
  clear hL hok
  rcases hv : shB us with _ | _
  · have HV := Lib.hid hv
    clear hv
    obtain rfl : ok = false := by rw [HK.out, tpB, HV.out, Bool.false_and]
    obtain rfl : L = [] := by rw [HL.out, tp_no HK.out.symm]
    go_enter Try.func28, Try.ntmps28
    go_wp2_with (go_at_call 49; refine (shS_any A n c us false _ (nr_below H.out B0.out) hn HV.out).mono ?_; rintro e w' ⟨rfl, rfl⟩)
    go_ret2
    exact lpq_empty rfl rfl (Below.refl _ _)
  · have HV := Lib.hid hv
    obtain ⟨hl16, -⟩ := sh_of hv
    have hn16 : n ≤ 16 := by have := H.out.1; omega
    clear hv hl16
    by_cases hx : x < 0
    · obtain rfl : ok = false := by rw [HK.out, tpB, HV.out, decide_eq_false (by omega)]; rfl
      obtain rfl : L = [] := by rw [HL.out, tp_no HK.out.symm]
      go_enter Try.func28, Try.ntmps28
      go_wp2_with (go_at_call 49; refine (shS_any A n c us true _ (nr_below H.out B0.out) hn HV.out).mono ?_; rintro e w' ⟨rfl, rfl⟩)
      go_ret2
      exact lpq_empty rfl rfl (Below.refl _ _)
    · obtain ⟨q, rfl⟩ : ∃ q : Nat, x = (q : Int) := ⟨x.toNat, by omega⟩
      obtain rfl : ok = true := by rw [HK.out, tpB, HV.out, decide_eq_true (by omega)]; rfl
      have HL2 : Hid (L = (topL us).take q) := Lib.hid (by rw [HL.out, tpL, HK.out.symm]; rfl)
      have R0 : Hid (TsOut w us n (.slice (some ⟨w.heap.size, 0, none⟩) 0 0) (.int .i64 0) (w.alloc (.cells #[] 3))) := Lib.hid ⟨0, _, 0, Nat.zero_le _, rfl, rfl, B0.out, own_emptyI rfl⟩
      obtain ⟨f, hf⟩ : ∃ f, f = keyOf us := ⟨_, rfl⟩
      have HF := Lib.hid hf
      clear hx hf
      go_enter Try.func28, Try.ntmps28
      go_wp2_with (go_at_call 49; refine (shS_any A n c us true _ (nr_below H.out B0.out) hn HV.out).mono ?_; rintro e w' ⟨rfl, rfl⟩)
      go_loopw [6, 7] (fun v i wr => TsOut w us n v i wr) (fun _ i _ => n - (intOf i).toNat)
      case atStart => exact R0.out
      case round =>
        obtain ⟨k, A2, c2, hk, rfl, rfl, hbl, ho⟩ := hrel
        clear R0
        have HO := Lib.hid ho
        have HB := Lib.hid hbl
        have zb := hbl.size
        by_cases hlt : k < n
        · have k1 : (k : Int) < (n : Int) := by omega
          have k0 : (0 : Int) ≤ (k : Int) := by omega
          have k2 : k ≤ 16 := by omega
          clear hbl ho
          go_wp2_with (at_builtin
                       refine wpl_app_ints _ rfl (.tmp 25) (.tmp 27) rfl w.heap.size (.slice A2 k c2) k (finT (keyOf us) [] (plcs k)) rfl (HO.out.alloc _) (some ⟨wr.heap.size, 0, none⟩) 1 1 [(k : Int)] rfl (int_single (blk_at (by simp) _ _)) (by omega) (by simp; omega) ?_
                       intro v7 w7 ho7 hg7 hat7
                       obtain ⟨b, c7, hv7, hb7, hlt7⟩ := ho7.form (by omega)
                       subst hv7
                       have R1 : Hid (TsIn w b (k + 1) c7 k f (finT f [] (plcs k)) (k : Int) (.int .i64 (k : Int)) w7) := Lib.hid ⟨k, finT f [] (plcs k), [], rfl, by rw [finT_len, plcs_len]; simp, Nat.le_refl _, by simp, fun z hz => (by cases hz), by rw [HF.out]; exact ho7, app_belowG (HO.out.alloc _) (below_alloc HB.out _) hg7 (by simp; omega)⟩
                       clear ho7 hg7 hat7)
          have HSD := Lib.hid (show Desc f (finT f [] (plcs k)) from finT_desc trivial)
          have HSN := Lib.hid (show InN k (finT f [] (plcs k)) from fun z hz => plcs_mem ((finT_mem.1 hz).resolve_left (by simp)))
          have OUT := Lib.hid (fun (A B : List Int) (W : World) (e : A ++ B = finT f [] (plcs k)) (hA : ∀ z ∈ A, f (k : Int) ≤ f z) (hB : ∀ z ∈ B, f z < f (k : Int)) (ho : W.ownsRow w.heap.size 3 1 (.slice (some ⟨b, 0, none⟩) (k + 1) c7) (k + 1) (icells (A ++ (k : Int) :: B))) (hb : Below w.heap.size w W) =>
            (show TsOut w us n (.slice (some ⟨b, 0, none⟩) (k + 1) c7) (.int .i64 ((k : Int) + 1)) W from ⟨k + 1, _, c7, by omega, by go_num, rfl, hb, by rw [plcs_succ, finT_append, ← HF.out, ← e]; simp only [finT]; rw [insT_at hA hB]; exact ho⟩))
          obtain ⟨S, hS⟩ : ∃ S, S = finT f [] (plcs k) := ⟨_, rfl⟩
          rw [← hS] at R1 HSD HSN OUT
          clear hS HO HB
          go_loopw [8] (fun vj wr2 => TsIn w b (k + 1) c7 k f S (k : Int) vj wr2) (fun vj _ => (intOf vj).toNat)
          case atStart => exact R1.out
          case round =>
            obtain ⟨j, A', B, rfl, hAl, hji, hAB, hB, hoj, hbj⟩ := hrel
            clear R1
            rcases List.eq_nil_or_concat A' with hA0 | ⟨A3, y, hA0⟩
            · subst hA0
              obtain rfl : j = 0 := by simpa using hAl.symm
              have HO := Lib.hid (fun W h1 h2 => OUT.out [] B W hAB (fun z hz => by cases hz) hB h1 h2)
              have OJ := Lib.hid (And.intro hoj hbj)
              clear hoj hbj hAB hB
              go_wp2_with fail
              go_quiet (fail)
              go_wp2
              go_roundw
              case rel => exact HO.out _ (own_below OJ.out.1 (below_drewN (Below.refl _ _) _)) (below_drewN OJ.out.2 _)
              case measure => simp [intOf]; omega
            · subst hA0
              obtain ⟨m, rfl⟩ : ∃ m, j = m + 1 := ⟨A3.length, by simp at hAl; omega⟩
              have hAl' : A3.length = m := by simpa using hAl
              have hcur : A3 ++ [y] ++ (k : Int) :: B = A3 ++ y :: (k : Int) :: B := by simp
              simp only [List.concat_eq_append] at hoj hAB
              rw [hcur] at hoj
              have HOJ := Lib.hid hoj
              have HBJ := Lib.hid hbj
              have HAB := Lib.hid hAB
              have HB := Lib.hid hB
              have HAL := Lib.hid hAl'
              obtain ⟨t, ht, t0, t1⟩ := nat_of (x := y) (lo := 0) (hi := (k : Int) - 1) (by omega) (by have := HSN.out y (by rw [← hAB]; simp); omega)
              obtain ⟨b1, o1, y1, e1, e2, hy, d0⟩ := nr_at (k := m) (nr_own hoj) (by omega)
              obtain ⟨rfl, rfl⟩ : b = b1 ∧ 0 = o1 := by injection e1 with e1; injection e1 with a b; exact ⟨a, b⟩
              obtain rfl : y = y1 := by rw [← hAl', at_midI.1] at hy; exact Option.some.inj hy
              obtain ⟨b1, o1, x1, e3, e4, hx1, c0⟩ := nr_at (k := m + 1) (nr_own hoj) (by omega)
              obtain ⟨rfl, rfl⟩ : b = b1 ∧ 0 = o1 := by injection e3 with e1; injection e1 with a b; exact ⟨a, b⟩
              obtain rfl : (k : Int) = x1 := by rw [← hAl', at_midI.2] at hx1; exact Option.some.inj hx1
              rw [Nat.zero_add] at c0 d0
              have NU := nr_below H.out hbj
              obtain ⟨ba, oa, u, rfl, hba, hu, cu⟩ := nr_at (k := k) NU hlt
              obtain ⟨b2, o2, v, e5, hb2, hv2, cv⟩ := nr_at (k := t) NU (by omega)
              obtain ⟨rfl, rfl⟩ : ba = b2 ∧ oa = o2 := by injection e5 with e1; injection e1 with a b; exact ⟨a, b⟩
              have hfu : f (k : Int) = u := by rw [HF.out, key_at hu]
              have hfv : f y = v := by rw [ht, HF.out, key_at hv2]
              rw [ht] at d0
              have HT := Lib.hid ht
              have HFU := Lib.hid hfu
              have HFV := Lib.hid hfv
              have hbl : b < wr.heap.size := e2
              have m0 : (0 : Int) < (m : Int) + 1 := by omega
              have m1 : (m : Int) + 1 < (k : Int) + 1 := by omega
              have m2 : (m : Int) < (k : Int) + 1 := by omega
              have p0 : (0 : Int) ≤ (m : Int) + 1 := by omega
              have p1 : (0 : Int) ≤ (m : Int) := by omega
              have t2 : (t : Int) < (n : Int) := by omega
              have hwp : IntKind.i64.wrap (m : Int) = (m : Int) := by rw [IntKind.wrap_i64]; omega
              have f0 := World.ownsRow.frozenAt hoj (m + 1)
              have f1 := World.ownsRow.frozenAt hoj m
              clear hoj hbj hAB hB hAl hAl' hcur e1 e2 e3 e4 hy hx1 e5 NU hu hv2 hfu hfv ht
              by_cases hxy : v < u
              · have HXY := Lib.hid hxy
                have hd : decide (v < u) = true := decide_eq_true hxy
                clear hxy
                go_wp2_with fail
                go_quiet (fail)
                go_wp2
                go_roundw
                case rel =>
                  refine ⟨m, A3, y :: B, by go_num, HAL.out, by omega, by rw [← HAB.out]; simp, fun z hz => ?_, ?_, Below.setCell (Below.setCell (below_drewN HBJ.out _) (by simp; omega) _) (by simp; omega) _⟩
                  · rcases List.mem_cons.1 hz with e | e
                    · subst e; rw [HFU.out, HFV.out]; exact HXY.out
                    · exact HB.out z e
                  · have h5 := own_set_int (own_set_int (own_below HOJ.out (below_drewN (Below.refl _ _) nq)) (m + 1) y) m (k : Int)
                    rw [← HAL.out, swap_midI, HAL.out, HT.out] at h5
                    rw [HT.out]
                    simpa using h5
                case measure => simp [intOf]
              · have hd : decide (v < u) = false := decide_eq_false hxy
                have HO := Lib.hid (fun W h1 h2 => OUT.out (A3 ++ [y]) B W HAB.out (fun z hz => by
                  have := ge_last (f := f) (A := A3) (B := B) (y := y) (by rw [HAB.out]; exact HSD.out) z hz
                  rw [HFV.out] at this
                  rw [HFU.out]
                  omega) HB.out h1 h2)
                clear hxy
                go_wp2_with fail
                go_quiet (fail)
                go_wp2
                go_roundw
                case rel => exact HO.out _ (by rw [show A3 ++ [y] ++ (k : Int) :: B = A3 ++ y :: (k : Int) :: B by simp]; exact own_below HOJ.out (below_drewN (Below.refl wr.heap.size wr) _)) (below_drewN HBJ.out _)
                case measure => simp [intOf]; omega
        · obtain rfl : k = n := by omega
          have kc2 : k ≤ c2 := by obtain ⟨A9, c9, e9, h9, -⟩ := own_form ho; injection e9 with a1 a2 a3; omega
          have HT : Hid (finT (keyOf us) [] (plcs k) = topL us) := Lib.hid (by rw [topL, H.out.1])
          clear hbl ho
          by_cases hqk : q < k
          · have q3 : (q : Int) < (k : Int) := by omega
            obtain ⟨b, c2', hv2, hbb, hlt2⟩ := HO.out.form (by omega)
            obtain ⟨rfl, rfl⟩ : A2 = some ⟨b, 0, none⟩ ∧ c2 = c2' := by injection hv2 with a1 a2 a3; exact ⟨a1, a3⟩
            clear hv2
            go_wp2
            go_ret2
            exact lpq_mk rfl (by rw [HL2.out, ← HT.out]; exact own_takeY HO.out (by omega)) HB.out
          · have q3 : ¬ (q : Int) < (k : Int) := by omega
            go_wp2
            go_ret2
            exact lpq_mk rfl (by rw [HL2.out, List.take_of_length_le (by rw [top_len, H.out.1]; omega), ← HT.out]; exact HO.out) HB.out
end Go.Proofs.Ytaccbmgbkalknaa
