/-
  Chapter 5: TakeAll, and the model's TakeBytes and TakeAll: what they return. Conditions: none.
-/
import Derived.Test.YtehokkijfgiggaaR7
namespace Go.Proofs.Ytehokkijfgiggaa
open Go.RowKit

def TaNo (w : World) (e : Ending) (w' : World) : Prop := ∃ At ct, e = .returned (.tuple #[.slice At 0 ct, .bool false]) ∧ w'.ownsRow w.heap.size 28 4 (.slice At 0 ct) 0 (pcells []) ∧ Below w.heap.size w w'
def TaYes (w : World) (q : Int) (fs : List Flw) (e : Ending) (w' : World) : Prop :=
  ∃ At nt ct, e = .returned (.tuple #[.slice At nt ct, .bool true]) ∧ nt = (takeA q fs).length ∧ w'.ownsRow w.heap.size 28 4 (.slice At nt ct) nt (pcells (takeA q fs)) ∧ Below w.heap.size w w'
theorem takeA_512 {q : Int} {fs : List Flw} (h : RV q fs) : (takeA q fs).length ≤ 512 ∧ sizeSum (takeA q fs) ≤ 51200 := by
  have := total_le h
  have := rv_len h
  have := takeA_sum fs h
  rw [takeA_len fs h]
  omega
theorem do_frx {w : World} {lo : Nat} {A : Option Addr} {n c : Nat} {hs : List Fh} {fs : List Flw} (D : DO w lo (.slice A n c) n hs fs) (hn : n ≤ 4000000000) : FRX w (fun b => lo ≤ b ∧ b < w.heap.size) A n fs := by
  obtain ⟨A', c', hv, -, -, hA⟩ := own_form D.row
  obtain rfl : A = A' := by injection hv
  refine ⟨hs, hr_own D.row, fun _ b hb => hA b hb, ⟨D.len, fun k h f h1 h2 => ?_⟩, hn⟩
  obtain ⟨e1, e2, e3, e4, -⟩ := D.all k h f h1 h2
  obtain ⟨A2, c2, hv2, hc2, -, hA2⟩ := own_form e4
  obtain ⟨h3, rfl⟩ : h.A = A2 ∧ h.c = c2 := by unfold Fh.sl at hv2; injection hv2 with a1 a2 a3; exact ⟨a1, a3⟩
  exact ⟨e1, e2, pr_own (A := h.A) (n := h.n) (c := h.c) e4, hc2, e3, fun _ b hb => hA2 b (by rw [← h3]; exact hb)⟩
set_option maxHeartbeats 1000000 in
theorem taI_no (q : Int) (A : Option Addr) (n c : Nat) (fs : List Flw) (w : World) (h : FR w A n fs) (hk : ¬ RV q fs) :
    Calls Try.prog 25 #[.agg #[.int .i64 q, (.slice A n c)]] w (TaNo w) := by
  have H := Lib.hid h
  have HK := Lib.hid hk
  clear h hk
  go_enter Try.func25, Try.ntmps25
  go_wp2_with (go_at_call 28
               refine (tbI_no q A n c fs 51200 _ (fr_allocF H.out _) (fun h => HK.out h.1)).mono ?_
               rintro e w1 ⟨At, ct, rfl, ho, hb1⟩
               have B1 := Lib.hid (below_seq1 (Below.refl _ _) hb1)
               have O1 := Lib.hid (own_mono (b2 := w.heap.size) ho (by simp))
               clear ho hb1)
  go_ret2
  exact ⟨At, ct, rfl, O1.out.alloc _, below_alloc B1.out _⟩
set_option maxHeartbeats 1000000 in
theorem taI_yes (q : Int) (A : Option Addr) (n c : Nat) (fs : List Flw) (w : World) (h : FR w A n fs) (hk : RV q fs) :
    Calls Try.prog 25 #[.agg #[.int .i64 q, (.slice A n c)]] w (TaYes w q fs) := by
  have H := Lib.hid h
  have HK := Lib.hid hk
  have HE := Lib.hid (takeB_all fs hk 51200 (takeA_512 hk).2)
  clear h hk
  go_enter Try.func25, Try.ntmps25
  go_wp2_with (go_at_call 28
               refine (tbI_yes q A n c fs 51200 _ (fr_allocF H.out _) HK.out (by omega) (by omega)).mono ?_
               rintro e w1 ⟨A1, n1, c1, hs1, At, nt, ct, lo, rfl, -, -, hnt, ho, -, hb1⟩
               rw [HE.out] at hnt ho
               have B1 := Lib.hid (below_seq1 (Below.refl _ _) hb1)
               have O1 := Lib.hid (own_mono (b2 := w.heap.size) ho (by simp))
               have HNT := Lib.hid hnt
               clear ho hb1 hnt)
  go_ret2
  exact ⟨At, nt, ct, rfl, HNT.out, O1.out.alloc _, below_alloc B1.out _⟩
set_option maxHeartbeats 2000000 in
theorem tbS_no (q : Int) (A : Option Addr) (n c : Nat) (fs : List Flw) (b : Int) (w : World) (h : FR w A n fs) (hk : ¬ (RV q fs ∧ 0 ≤ b)) :
    Calls Try.prog 29 #[.agg #[.int .i64 q, (.slice A n c)], .int .i64 b] w (TbNo w) := by
  have H := Lib.hid h
  have F := Lib.hid (show Fm w (bx2 w q A n c) _ from fm_alloc (fm_two w 25 25 #[.int .i64 q, (.slice A n c)] #[.int .i64 0, (.slice none 0 0)]) (.cells #[] 28))
  have O := Lib.hid (own_emptyQ (W := (w.alloc (.cells #[.int .i64 q, (.slice A n c)] 25)).alloc (.cells #[.int .i64 0, (.slice none 0 0)] 25)) (b := w.heap.size + 2) (by simp))
  obtain ⟨v, hv⟩ : ∃ v, rvB q fs = v := ⟨_, rfl⟩
  have hb : v = false ∨ (v = true ∧ b < 0) := by
    rcases v with _ | _
    · exact .inl rfl
    · exact .inr ⟨rfl, Int.not_le.1 fun h => hk ⟨rv_iff.1 hv, h⟩⟩
  have HR := Lib.hid hv
  clear h hk hv
  rcases hb with rfl | ⟨rfl, hb⟩
  · go_enter Try.func29, Try.ntmps29
    go_wp2_with (go_at_call 36
                 refine (rvS_any q A n c fs _ (fr_belowF H.out F.out.below)).mono ?_
                 rintro e w1 ⟨rfl, hb1⟩
                 rw [HR.out]
                 have F1 := Lib.hid (fm_below F.out hb1)
                 have O1 := Lib.hid (own_below O.out hb1)
                 obtain ⟨o0, o1, of0, of1⟩ := blk_two (fm_blk F1.out 1 rfl)
                 clear hb1)
    refine bodyPost_ret (v := .tuple #[.agg #[.int .i64 0, (.slice none 0 0)], .slice (some ⟨w.heap.size + 2, 0, none⟩) 0 0, .bool false]) (by simp [results, Try.results29, go_sem, o0, o1]) rfl ⟨some ⟨w.heap.size + 2, 0, none⟩, 0, rfl, ?_, ?_⟩
    · refine own_mono (base := w.heap.size + 2) ?_ (by omega)
      iterate 2 (with_reducible refine own_set_far ?_ (by simp <;> omega) _)
      exact own_mono O1.out (by simp)
    · iterate 2 (with_reducible refine Below.setCell ?_ (by simp <;> omega) _)
      exact F1.out.below
  · have hd : decide (b < 0) = true := by simp; omega
    go_enter Try.func29, Try.ntmps29
    go_wp2_with (go_at_call 36
                 refine (rvS_any q A n c fs _ (fr_belowF H.out F.out.below)).mono ?_
                 rintro e w1 ⟨rfl, hb1⟩
                 rw [HR.out]
                 have F1 := Lib.hid (fm_below F.out hb1)
                 have O1 := Lib.hid (own_below O.out hb1)
                 obtain ⟨o0, o1, of0, of1⟩ := blk_two (fm_blk F1.out 1 rfl)
                 clear hb1)
    refine bodyPost_ret (v := .tuple #[.agg #[.int .i64 0, (.slice none 0 0)], .slice (some ⟨w.heap.size + 2, 0, none⟩) 0 0, .bool false]) (by simp [results, Try.results29, go_sem, o0, o1]) rfl ⟨some ⟨w.heap.size + 2, 0, none⟩, 0, rfl, ?_, ?_⟩
    · refine own_mono (base := w.heap.size + 2) ?_ (by omega)
      iterate 2 (with_reducible refine own_set_far ?_ (by simp <;> omega) _)
      exact own_mono O1.out (by simp)
    · iterate 2 (with_reducible refine Below.setCell ?_ (by simp <;> omega) _)
      exact F1.out.below
theorem tb_nextS {w w1 w3 w6 : World} {q : Int} {A : Option Addr} {n c R : Nat} {X : Nat → Prop} {b : Int} {fs : List Flw} {b' : Int} {fs' : List Flw} {An : Option Addr} {nn cc : Nat} {ts : List Pkt} {tk : Value} {An3 : Option Addr} {n3 c3 : Nat} {P : Pkt} {v6 : Value}
    (T : TbR w q A n c R X b fs b' fs' An nn cc ts tk w1) (h0 : fs' ≠ []) (hP : P = nxP q fs') (hle : P.size ≤ b') (hb : Below w1.heap.size w1 w3) (hf : FRX w3 (fun g => w1.heap.size ≤ g) An3 n3 (nxL q fs'))
    (ho : w6.ownsRow (w.heap.size + 2) 28 4 v6 (ts.length + 1) (pcells (ts ++ [P]))) (hg : w3.grownBy w6 tk.ownBlock) (hat : v6.ownBlock = tk.ownBlock ∨ ∃ g, v6.ownBlock = some g ∧ w3.heap.size ≤ g) :
    TbR w q A n c R X b fs (b' - P.size) (nxL q fs') An3 n3 c3 (ts ++ [P]) v6 ((w6.setCell ⟨R, 0, none⟩ (.int .i64 q)).setCell ⟨R, 1, none⟩ (.slice An3 n3 c3)) := by
  obtain ⟨f, r, p, ws, N⟩ := nexted_is T.rv h0
  have hs1 := N.s1
  rw [← N.isP, ← hP] at hs1
  have hR := blk_lt T.box
  have hz := hb.size
  have hR2 := T.R2
  have hlo : ∀ g, tk.ownBlock = some g → w.heap.size + 2 ≤ g ∧ g < w1.heap.size := fun g e => T.tk.lt g e
  have G := g_set (g_set (g_refl w6 (some R)) (p := ⟨R, 0, none⟩) (.inl rfl) (.int .i64 q)) (p := ⟨R, 1, none⟩) (.inl rfl) (.slice An3 n3 c3)
  have sep6 : ∀ g, v6.ownBlock = some g → g ≠ R := fun g e => by
    rcases hat with h | ⟨g2, h, h2⟩
    · exact T.sep g (h.symm.trans e)
    · rw [h] at e; injection e with e; omega
  have hf1 := frx_grown (frx_lt hf) hg fun g hg e => by have := hlo g e.symm; have := hg.1; omega
  have hf2 := frx_mono (frx_grown hf1 G fun g hg e => by injection e with e; have := hg.1; omega) (Y := fun g => X g ∧ v6.ownBlock ≠ some g) fun g hx => ⟨T.XU g (by have := hx.1; omega), fun e => by
    rcases hat with h | ⟨g2, h, h2⟩
    · have := hlo g (h.symm.trans e); have := hx.1; omega
    · rw [h] at e; injection e with e; have := hx.2; omega⟩
  refine ⟨by omega, by have := T.bb; omega, N.rv, ?_, by rw [List.length_append]; have := T.few; rw [total_next N] at this; simp; omega, ?_, ?_, hf2, ?_, sep6, T.R2, T.XR, T.XU⟩
  · rw [T.eq, takeB_yes T.rv h0 (by rw [← hP]; exact hle), ← hP]; simp
  · refine fm_grownO (fm_grownO (fm_below T.fm hb) hg fun g e => ?_) G fun g e => ?_
    · have := (hlo g e).1; exact ⟨by omega, bx2_hi this⟩
    · injection e with e; subst e; exact ⟨by omega, bx2_hi hR2⟩
  · exact blk_set (blk_set (blk_grownQ (blk_below T.box hb hR) hg fun e => T.sep R e.symm rfl) 0 _) 1 _
  · rw [List.length_append]
    exact own_set_ne (p := ⟨R, 1, none⟩) (own_set_ne (p := ⟨R, 0, none⟩) ho (fun e => sep6 R e rfl) _) (fun e => sep6 R e rfl) _
set_option maxHeartbeats 4000000 in
theorem tbS_yes (q : Int) (A : Option Addr) (n c : Nat) (fs : List Flw) (b : Int) (w : World) (h : FR w A n fs) (hv : RV q fs) (hb0 : 0 ≤ b) (hb1 : b ≤ 9223372036854775807) :
    Calls Try.prog 29 #[.agg #[.int .i64 q, (.slice A n c)], .int .i64 b] w (TbYesS w q b fs) := by
  have H := Lib.hid h
  have F := Lib.hid (show Fm w (bx2 w q A n c) _ from fm_alloc (fm_two w 25 25 #[.int .i64 q, (.slice A n c)] #[.int .i64 0, (.slice none 0 0)]) (.cells #[] 28))
  have O := Lib.hid (own_mono (b2 := w.heap.size + 2) (own_emptyQ (W := (w.alloc (.cells #[.int .i64 q, (.slice A n c)] 25)).alloc (.cells #[.int .i64 0, (.slice none 0 0)] 25)) (b := w.heap.size + 2) (by simp)) (by simp))
  have HR := Lib.hid (rv_yes hv)
  have HV := Lib.hid hv
  have hd : decide (b < 0) = false := by simp; omega
  have HT := Lib.hid (show total fs ≤ 512 by have := total_le hv; have := rv_len hv; omega)
  have h8 := rv_len hv
  clear h hv
  go_enter Try.func29, Try.ntmps29
  go_upto_block 0 with (first
    | (go_at_call 36
       refine (rvS_any q A n c fs _ (fr_belowF H.out F.out.below)).mono ?_
       rintro e w1 ⟨rfl, hb1⟩
       rw [HR.out]
       have F1 := Lib.hid (fm_below F.out hb1)
       have O1 := Lib.hid (own_below O.out hb1)
       have Z1 := Lib.hid hb1.size
       obtain ⟨g0, g1, -⟩ := blk_two (fm_blk F1.out 0 rfl)
       clear hb1)
    | (go_at_call 60
       refine (copyRS_any q A n c fs _ (fr_belowF H.out F1.out.below)).mono ?_
       rintro e w2 ⟨A2, n2, c2, hs2, rfl, hn2, -, -, hD, hb2⟩
       have F2 := Lib.hid (fm_below F1.out hb2)
       have O2 := Lib.hid (own_below O1.out hb2)
       have D2 := Lib.hid (do_frx hD (by omega))
       have Z2 := Lib.hid hb2.size
       clear hb2 hD g0 g1 hn2))
  have z1 : w.heap.size + 3 ≤ w1.heap.size := by have := Z1.out; simpa using this
  have z2 : w1.heap.size ≤ w2.heap.size := Z2.out
  have R0 : Hid (∃ b' fs' An nn cc ts, Value.int .i64 b = .int .i64 b' ∧ TbR w q A n c w2.heap.size (fun g => (w1.heap.size ≤ g ∧ g < w2.heap.size) ∨ w2.heap.size < g) b fs b' fs' An nn cc ts (.slice (some ⟨w.heap.size + 2, 0, none⟩) 0 0) (w2.alloc (.cells #[.int .i64 q, (.slice A2 n2 c2)] 25))) := Lib.hid ⟨b, fs, A2, n2, c2, [], rfl, hb0, Int.le_refl _, HV.out, by simp, by simpa using HT.out, fm_alloc F2.out _, blk_new w2 _ _, frx_alloc (frx_mono D2.out fun g hg => ⟨.inl hg, fun e => by simp [Value.ownBlock] at e; have := hg.1; omega⟩) _, O2.out.alloc _, fun g e => by simp [Value.ownBlock] at e; omega, by omega, fun h => by rcases h with h | h <;> omega, fun g h => .inr h⟩
  clear hd F O O1 F1
  go_cut [1, 7] from 23 to 44 (fun s1 s7 wx => TbE w q A n c w2.heap.size (fun g => (w1.heap.size ≤ g ∧ g < w2.heap.size) ∨ w2.heap.size < g) b fs s7 wx)
  case first =>
    go_wp2_with fail
    go_loopw [1, 7] (fun bv tk wr => ∃ b' fs' An nn cc ts, bv = .int .i64 b' ∧ TbR w q A n c w2.heap.size (fun g => (w1.heap.size ≤ g ∧ g < w2.heap.size) ∨ w2.heap.size < g) b fs b' fs' An nn cc ts tk wr) (fun bv _ _ => (intOf bv).toNat)
    case atStart => exact R0.out
    case round =>
      obtain ⟨b', fs', An, nn, cc, ts, rfl, T⟩ := hrel
      clear R0
      have HT' := Lib.hid T
      obtain ⟨l0, l1, lf0, lf1⟩ := blk_two T.box
      have zR := blk_lt T.box
      have hlen := (fr_lenF (frx_fr T.fl)).1
      have hb0' := T.b0
      have hbb := T.bb
      have hts : ts.length ≤ 512 := by have := T.few; omega
      cases fs' with
      | nil =>
        obtain rfl : nn = 0 := hlen.symm
        have E := Lib.hid (tbE_nil T)
        clear T
        go_wp2_with fail
        go_meet
        case rel => exact E.out
      | cons f r =>
        have hn0 : 0 < nn := by simp at hlen; omega
        obtain ⟨P, hP⟩ : ∃ P, P = nxP q (f :: r) := ⟨_, rfl⟩
        have HP := Lib.hid hP
        have hs : 1 ≤ P.size ∧ P.size ≤ 100 := by
          obtain ⟨f', r', p', ws', N⟩ := nexted_is T.rv (by simp)
          rw [hP, N.isP]; exact ⟨N.s1, N.s2⟩
        obtain ⟨hs1, hs2⟩ := hs
        clear T hP hlen
        by_cases hle : P.size ≤ b'
        · have hd : decide (b' < P.size) = false := by simp; omega
          have yb : IntKind.i64.wrap (b' - P.size) = b' - P.size := IntWalk.i64_in _ (by omega)
          go_wp2_with (first
            | (go_at_call 52
               refine (nextS_any q An nn cc _ _ (frx_fr HT'.out.fl) HT'.out.rv (by simp)).mono ?_
               rintro e w3 ⟨A3, n3, c3, rfl, hf3, hb3⟩
               rw [← HP.out]
               have T3 := Lib.hid (tb_below HT'.out hb3)
               have RF := Lib.hid (frx_mono hf3 (Y := fun g => wr.heap.size ≤ g) fun g hg => hg.elim False.elim id)
               have RB := Lib.hid hb3
               have zR3 := blk_lt T3.out.box
               clear hb3 hf3 l0 l1 lf0 lf1)
            | (at_builtin
               refine wpl_app_pkts _ rfl (.tmp 40) (.tmp 42) rfl (w.heap.size + 2) u7 ts.length ts rfl (((T3.out.tk.alloc _).alloc _).alloc _) (some ⟨w3.heap.size + 1 + 1, 0, none⟩) 1 1 [P] rfl (pr_single (blk_at (by simp) _ _)) (by omega) (by simp <;> omega) ?_
               intro v6 w6 ho6 hg6 hat6
               have hg6' := (g_alloc (g_alloc (g_alloc (g_refl _ _) _) _) _).trans hg6
               have T6 := Lib.hid (tb_nextS (P := P) (w3 := w3) (An3 := A3) (n3 := n3) (c3 := c3) HT'.out (by simp) HP.out hle RB.out RF.out ho6 hg6' (hat6.imp id fun h => ⟨_, h, by simp <;> omega⟩))
               have B6 := Lib.hid (blk_grownQ T3.out.box hg6' fun e => T3.out.sep _ e.symm rfl)
               have L9 := Lib.hid (blk_grownQ (blk_alloc (blk_alloc (blk_new w3 25 #[.int .i64 q, (.slice A3 n3 c3)]) (.cells #[.int .i64 P.peer, .int .i64 P.lane, .int .i64 P.size, .int .i64 P.id] 28)) (.cells #[.int .i64 P.peer, .int .i64 P.lane, .int .i64 P.size, .int .i64 P.id] 28)) hg6 fun e => by have := (T3.out.tk.lt _ e.symm).2; omega)
               obtain ⟨l0, l1, lf0, lf1⟩ := blk_two B6.out
               obtain ⟨n0, n1', -, -⟩ := blk_two L9.out
               have zR6 := blk_lt B6.out
               clear ho6 hg6 hat6 hg6'))
          go_roundw
          case rel => exact ⟨_, _, _, _, _, _, rfl, T6.out⟩
          case measure => simp [intOf]; omega
        · have hd : decide (b' < P.size) = true := by simp; omega
          have E : Hid (¬ (nxP q (f :: r)).size ≤ b') := Lib.hid (by rw [← HP.out]; exact hle)
          clear hle
          go_wp2_with (go_at_call 52
                       refine (nextS_any q An nn cc _ _ (frx_fr HT'.out.fl) HT'.out.rv (by simp)).mono ?_
                       rintro e w3 ⟨A3, n3, c3, rfl, hf3, hb3⟩
                       rw [← HP.out]
                       have T3 := Lib.hid (tb_below HT'.out hb3)
                       clear hb3 hf3)
          go_meet
          case rel => exact tbE_no (tb_below T3.out (below_alloc (below_alloc (Below.refl _ _) _) _)) (by simp) (by have := E.out; omega)
  case rest =>
    obtain ⟨An, nn, cc, hF, hB, hf, ho, hR2, hX⟩ := hcut
    obtain ⟨At, ct, rfl, -, -, -⟩ := own_form ho
    have FW := Lib.hid hF
    have FL := Lib.hid hf
    have OT := Lib.hid ho
    obtain ⟨l0, l1, -, -⟩ := blk_two hB
    obtain ⟨o0, o1, of0, of1⟩ := blk_two (fm_blk hF 1 rfl)
    have zR := blk_lt hB
    have zb4 := blk_lt (fm_blk hF 1 rfl)
    have zn : w.heap.size + 1 < w2.heap.size := by omega
    clear hF hB hf ho hX
    go_wp2_with fail
    refine bodyPost_ret (v := .tuple #[.agg #[.int .i64 q, (.slice An nn cc)], .slice At (takeB q b fs).2.length ct, .bool true]) (by simp [results, Try.results29, go_sem, o0, o1]) rfl ⟨An, nn, cc, At, _, ct, rfl, ?_, rfl, ?_, ?_⟩
    · refine frx_fr (X := fun g => (w1.heap.size ≤ g ∧ g < w2.heap.size) ∨ w2.heap.size < g) ?_
      iterate 2 (with_reducible refine frx_set ?_ (fun hx => by simp at hx; omega) _)
      exact FL.out
    · refine own_mono (base := w.heap.size + 2) ?_ (by omega)
      iterate 2 (with_reducible refine own_set_far ?_ (by simp <;> omega) _)
      exact OT.out
    · iterate 2 (with_reducible refine Below.setCell ?_ (by simp <;> omega) _)
      exact FW.out.below
def lenVt : Value → Nat
  | .slice _ n _ => n
  | _ => 0
structure TsR (w : World) (q : Int) (fs : List Flw) (fs' : List Flw) (An : Option Addr) (nn cc : Nat) (ts : List Pkt) (v : Value) (wr : World) : Prop where
  rv : RV q fs'
  eq : takeA q fs = ts ++ takeA q fs'
  few : ts.length + total fs' = total fs
  below : Below w.heap.size w wr
  box : Blk wr w.heap.size 25 #[.int .i64 q, (.slice An nn cc)]
  fl : FRX wr (fun g => g ≠ w.heap.size ∧ v.ownBlock ≠ some g) An nn fs'
  tk : wr.ownsRow (w.heap.size + 1) 28 4 v ts.length (pcells ts)
theorem ts_below {w w1 w2 : World} {q : Int} {fs fs' : List Flw} {An : Option Addr} {nn cc : Nat} {ts : List Pkt} {v : Value} (T : TsR w q fs fs' An nn cc ts v w1) (hb : Below w1.heap.size w1 w2) : TsR w q fs fs' An nn cc ts v w2 :=
  ⟨T.rv, T.eq, T.few, below_seq T.below hb, blk_below T.box hb (blk_lt T.box), frx_below T.fl hb, own_below T.tk hb⟩
theorem ts_next {w w1 w3 w6 : World} {q : Int} {fs fs' : List Flw} {An : Option Addr} {nn cc : Nat} {ts : List Pkt} {tk : Value} {An3 : Option Addr} {n3 c3 : Nat} {P : Pkt} {v6 : Value}
    (T : TsR w q fs fs' An nn cc ts tk w1) (h0 : fs' ≠ []) (hP : P = nxP q fs') (hb : Below w1.heap.size w1 w3) (hf : FRX w3 (fun g => w1.heap.size ≤ g) An3 n3 (nxL q fs'))
    (ho : w6.ownsRow (w.heap.size + 1) 28 4 v6 (ts.length + 1) (pcells (ts ++ [P]))) (hg : w3.grownBy w6 tk.ownBlock) (hat : v6.ownBlock = tk.ownBlock ∨ ∃ g, v6.ownBlock = some g ∧ w3.heap.size ≤ g) :
    TsR w q fs (nxL q fs') An3 n3 c3 (ts ++ [P]) v6 ((w6.setCell ⟨w.heap.size, 0, none⟩ (.int .i64 q)).setCell ⟨w.heap.size, 1, none⟩ (.slice An3 n3 c3)) := by
  obtain ⟨f, r, p, ws, N⟩ := nexted_is T.rv h0
  have hR := blk_lt T.box
  have hz := hb.size
  have hlo : ∀ g, tk.ownBlock = some g → w.heap.size + 1 ≤ g ∧ g < w1.heap.size := fun g e => T.tk.lt g e
  have G := g_set (g_set (g_refl w6 (some w.heap.size)) (p := ⟨w.heap.size, 0, none⟩) (.inl rfl) (.int .i64 q)) (p := ⟨w.heap.size, 1, none⟩) (.inl rfl) (.slice An3 n3 c3)
  have sep6 : ∀ g, v6.ownBlock = some g → g ≠ w.heap.size := fun g e => by
    rcases hat with h | ⟨g2, h, h2⟩
    · have := hlo g (h.symm.trans e); omega
    · rw [h] at e; injection e with e; omega
  have hf1 := frx_grown (frx_lt hf) hg fun g hg e => by have := hlo g e.symm; have := hg.1; omega
  have hf2 := frx_mono (frx_grown hf1 G fun g hg e => by injection e with e; have := hg.1; omega) (Y := fun g => g ≠ w.heap.size ∧ v6.ownBlock ≠ some g) fun g hx => ⟨by have := hx.1; omega, fun e => by
    rcases hat with h | ⟨g2, h, h2⟩
    · have := hlo g (h.symm.trans e); have := hx.1; omega
    · rw [h] at e; injection e with e; have := hx.2; omega⟩
  refine ⟨N.rv, ?_, by rw [List.length_append]; have := T.few; rw [total_next N] at this; simp; omega, ?_, ?_, hf2, ?_⟩
  · rw [T.eq, takeA_cons T.rv h0, ← hP]; simp
  · have h1 : Below w.heap.size w w6 := (below_seq T.below hb).grown hg (by omega) fun g e => by have := (hlo g e).1; omega
    exact (h1.setCell (p := ⟨w.heap.size, 0, none⟩) (Nat.le_refl _) _).setCell (p := ⟨w.heap.size, 1, none⟩) (Nat.le_refl _) _
  · exact blk_set (blk_set (blk_grownQ (blk_below T.box hb hR) hg fun e => by have := (hlo _ e.symm).1; omega) 0 _) 1 _
  · rw [List.length_append]
    exact own_set_ne (p := ⟨w.heap.size, 1, none⟩) (own_set_ne (p := ⟨w.heap.size, 0, none⟩) ho (fun e => sep6 _ e rfl) _) (fun e => sep6 _ e rfl) _
set_option maxHeartbeats 1000000 in
theorem taS_no (q : Int) (A : Option Addr) (n c : Nat) (fs : List Flw) (w : World) (h : FR w A n fs) (hk : ¬ RV q fs) :
    Calls Try.prog 26 #[.agg #[.int .i64 q, (.slice A n c)]] w (TaNo w) := by
  have H := Lib.hid h
  have HK := Lib.hid (rv_no hk)
  have O := Lib.hid (own_emptyQ (W := w.alloc (.cells #[.int .i64 q, (.slice A n c)] 25)) (b := w.heap.size + 1) (by simp))
  have B0 := Lib.hid (below_alloc (below_alloc (Below.refl w.heap.size w) (.cells #[.int .i64 q, (.slice A n c)] 25)) (.cells #[] 28))
  clear h hk
  go_enter Try.func26, Try.ntmps26
  go_wp2_with (go_at_call 36
               refine (rvS_any q A n c fs _ (fr_allocF (fr_allocF H.out _) _)).mono ?_
               rintro e w1 ⟨rfl, hb1⟩
               rw [HK.out]
               have B1 := Lib.hid (below_seq B0.out hb1)
               have O1 := Lib.hid (own_mono (b2 := w.heap.size) (own_below O.out hb1) (by simp))
               clear hb1)
  go_ret2
  exact ⟨_, 0, rfl, O1.out, B1.out⟩
set_option maxHeartbeats 4000000 in
theorem taS_yes (q : Int) (A : Option Addr) (n c : Nat) (fs : List Flw) (w : World) (h : FR w A n fs) (hv : RV q fs) :
    Calls Try.prog 26 #[.agg #[.int .i64 q, (.slice A n c)]] w (TaYes w q fs) := by
  have H := Lib.hid h
  have HK := Lib.hid (rv_yes hv)
  have HV := Lib.hid hv
  have B0 := Lib.hid (below_alloc (below_alloc (Below.refl w.heap.size w) (.cells #[.int .i64 q, (.slice A n c)] 25)) (.cells #[] 28))
  have h512 := (takeA_512 hv).1
  rw [takeA_len fs hv] at h512
  have T0 : Hid (TsR w q fs fs A n c [] (.slice (some ⟨w.heap.size + 1, 0, none⟩) 0 0) ((w.alloc (.cells #[.int .i64 q, (.slice A n c)] 25)).alloc (.cells #[] 28))) := Lib.hid
    ⟨hv, by simp, by simp, B0.out, blk_alloc (blk_new w _ _) _, frx_alloc (frx_alloc (frx_mono (fr_frx h) fun g hg => ⟨by omega, fun e => by simp [Value.ownBlock] at e; omega⟩) _) _, own_mono (own_emptyQ (by simp)) (by simp)⟩
  clear h hv
  go_enter Try.func26, Try.ntmps26
  go_wp2_with (go_at_call 36
               refine (rvS_any q A n c fs _ (fr_allocF (fr_allocF H.out _) _)).mono ?_
               rintro e w1 ⟨rfl, hb1⟩
               rw [HK.out]
               have T1 := Lib.hid (ts_below T0.out hb1)
               clear hb1)
  go_loopw [4] (fun tk wr => ∃ fs' An nn cc ts, TsR w q fs fs' An nn cc ts tk wr) (fun tk _ => total fs - lenVt tk)
  case atStart => exact ⟨_, _, _, _, _, T1.out⟩
  case round =>
    obtain ⟨fs', An, nn, cc, ts, T⟩ := hrel
    clear T0 T1 B0
    have HT' := Lib.hid T
    obtain ⟨l0, l1, lf0, lf1⟩ := blk_two T.box
    have zR := blk_lt T.box
    have hlen := (fr_lenF (frx_fr T.fl)).1
    have hts : ts.length ≤ 512 := by have := T.few; omega
    obtain ⟨At, ct, rfl, -, -, -⟩ := own_form T.tk
    cases fs' with
    | nil =>
      obtain rfl : nn = 0 := hlen.symm
      have E := Lib.hid (show takeA q fs = ts by rw [T.eq, takeA_nil, List.append_nil])
      clear T
      go_wp2_with fail
      go_ret2
      exact ⟨At, ts.length, ct, rfl, by rw [E.out], by rw [E.out]; exact own_mono HT'.out.tk (by omega), HT'.out.below⟩
    | cons f r =>
      have hn0 : 0 < nn := by simp at hlen; omega
      obtain ⟨P, hP⟩ : ∃ P, P = nxP q (f :: r) := ⟨_, rfl⟩
      have HP := Lib.hid hP
      have hmore : ts.length < total fs := by
        have := T.few
        obtain ⟨f', r', p', ws', N⟩ := nexted_is T.rv (by simp)
        rw [total_next N] at this; omega
      clear T hP hlen
      go_wp2_with (first
        | (go_at_call 52
           refine (nextS_any q An nn cc _ _ (frx_fr HT'.out.fl) HT'.out.rv (by simp)).mono ?_
           rintro e w3 ⟨A3, n3, c3, rfl, hf3, hb3⟩
           rw [← HP.out]
           have T3 := Lib.hid (ts_below HT'.out hb3)
           have RF := Lib.hid (frx_mono hf3 (Y := fun g => wr.heap.size ≤ g) fun g hg => hg.elim False.elim id)
           have RB := Lib.hid hb3
           have zR3 := blk_lt T3.out.box
           clear hb3 hf3 l0 l1 lf0 lf1)
        | (at_builtin
           refine wpl_app_pkts _ rfl (.tmp 21) (.tmp 23) rfl (w.heap.size + 1) (.slice At ts.length ct) ts.length ts rfl (((T3.out.tk.alloc _).alloc _).alloc _) (some ⟨w3.heap.size + 1 + 1, 0, none⟩) 1 1 [P] rfl (pr_single (blk_at (by simp) _ _)) (by omega) (by simp <;> omega) ?_
           intro v6 w6 ho6 hg6 hat6
           obtain ⟨A6, c6, rfl, -, -, -⟩ := own_form ho6
           have hg6' := (g_alloc (g_alloc (g_alloc (g_refl _ _) _) _) _).trans hg6
           have T6 := Lib.hid (ts_next (P := P) (w3 := w3) (An3 := A3) (n3 := n3) (c3 := c3) HT'.out (by simp) HP.out RB.out RF.out ho6 hg6' (hat6.imp id fun h => ⟨_, h, by simp <;> omega⟩))
           have B6 := Lib.hid (blk_grownQ T3.out.box hg6' fun e => by have := (T3.out.tk.lt _ e.symm).1; omega)
           have L9 := Lib.hid (blk_grownQ (blk_alloc (blk_alloc (blk_new w3 25 #[.int .i64 q, (.slice A3 n3 c3)]) (.cells #[.int .i64 P.peer, .int .i64 P.lane, .int .i64 P.size, .int .i64 P.id] 28)) (.cells #[.int .i64 P.peer, .int .i64 P.lane, .int .i64 P.size, .int .i64 P.id] 28)) hg6 fun e => by have := (T3.out.tk.lt _ e.symm).2; omega)
           obtain ⟨l0, l1, lf0, lf1⟩ := blk_two B6.out
           obtain ⟨n0, n1', -, -⟩ := blk_two L9.out
           have zR6 := blk_lt B6.out
           clear ho6 hg6 hat6 hg6'))
      go_roundw
      case rel => exact ⟨_, _, _, _, _, T6.out⟩
      case measure => simp [lenVt]; omega
end Go.Proofs.Ytehokkijfgiggaa
