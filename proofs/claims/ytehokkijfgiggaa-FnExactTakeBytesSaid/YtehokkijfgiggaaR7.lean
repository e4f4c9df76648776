/-
  Chapter 5: TakeBytes and TakeAll: what the program's functions and the model's return. Conditions: none.
-/
import Derived.Test.YtehokkijfgiggaaR6
namespace Go.Proofs.Ytehokkijfgiggaa
open Go.RowKit

theorem frx_lt {w : World} {X : Nat → Prop} {A : Option Addr} {n : Nat} {fs : List Flw} (h : FRX w X A n fs) : FRX w (fun b => X b ∧ b < w.heap.size) A n fs := by
  obtain ⟨hs, h1, h2, h3, h4⟩ := h
  exact ⟨hs, h1, fun hn b hb => ⟨h2 hn b hb, hr_old h1 hn b hb⟩, ⟨h3.1, fun k g f e1 e2 => by have := h3.2 k g f e1 e2; exact ⟨this.peer, this.dfc, this.pr, this.cap, this.few, fun hn b hb => ⟨this.far hn b hb, pr_old this.pr hn b hb⟩⟩⟩, h4⟩
def bx2 (w : World) (q : Int) (A : Option Addr) (n c : Nat) : List Iv := [⟨w.heap.size, w.heap.size + 1, BoxP w.heap.size 25 #[.int .i64 q, (.slice A n c)]⟩, ⟨w.heap.size + 1, w.heap.size + 2, BoxP (w.heap.size + 1) 25 #[.int .i64 0, (.slice none 0 0)]⟩]
theorem bx2_hi {w : World} {q : Int} {A : Option Addr} {n c g : Nat} (h : w.heap.size + 2 ≤ g) : ∀ x ∈ bx2 w q A n c, x.hi ≤ g := fun x hx => by
  simp only [bx2, List.mem_cons, List.not_mem_nil, or_false] at hx
  rcases hx with rfl | rfl <;> (simp only; omega)
/-- what TakeBytes hands back when it takes nothing because it may not -/
def TbNo (w : World) (e : Ending) (w' : World) : Prop := ∃ At ct, e = .returned (.tuple #[.agg #[.int .i64 0, (.slice none 0 0)], .slice At 0 ct, .bool false]) ∧ w'.ownsRow w.heap.size 28 4 (.slice At 0 ct) 0 (pcells []) ∧ Below w.heap.size w w'
def TbYes (w : World) (q b : Int) (fs : List Flw) (e : Ending) (w' : World) : Prop :=
  ∃ A n c hs At nt ct lo, e = .returned (.tuple #[.agg #[.int .i64 q, (.slice A n c)], .slice At nt ct, .bool true]) ∧ DO w' lo (.slice A n c) n hs (takeB q b fs).1 ∧ w.heap.size ≤ lo ∧ nt = (takeB q b fs).2.length ∧ w'.ownsRow w.heap.size 28 4 (.slice At nt ct) nt (pcells (takeB q b fs).2) ∧
    (∀ g, Value.ownBlock (.slice At nt ct) = some g → g < lo) ∧ Below w.heap.size w w'
def TbYesS (w : World) (q b : Int) (fs : List Flw) (e : Ending) (w' : World) : Prop :=
  ∃ A n c At nt ct, e = .returned (.tuple #[.agg #[.int .i64 q, (.slice A n c)], .slice At nt ct, .bool true]) ∧ FR w' A n (takeB q b fs).1 ∧ nt = (takeB q b fs).2.length ∧ w'.ownsRow w.heap.size 28 4 (.slice At nt ct) nt (pcells (takeB q b fs).2) ∧ Below w.heap.size w w'
/-- the taking as far as it goes -/
structure TbR (w : World) (q : Int) (A : Option Addr) (n c R : Nat) (X : Nat → Prop) (b : Int) (fs : List Flw) (b' : Int) (fs' : List Flw) (An : Option Addr) (nn cc : Nat) (ts : List Pkt) (v : Value) (wr : World) : Prop where
  b0 : 0 ≤ b'
  bb : b' ≤ b
  rv : RV q fs'
  eq : takeB q b fs = ((takeB q b' fs').1, ts ++ (takeB q b' fs').2)
  few : ts.length + total fs' ≤ 512
  fm : Fm w (bx2 w q A n c) wr
  box : Blk wr R 25 #[.int .i64 q, (.slice An nn cc)]
  fl : FRX wr (fun g => X g ∧ v.ownBlock ≠ some g) An nn fs'
  tk : wr.ownsRow (w.heap.size + 2) 28 4 v ts.length (pcells ts)
  sep : ∀ g, v.ownBlock = some g → g ≠ R
  R2 : w.heap.size + 2 ≤ R
  XR : ¬ X R
  XU : ∀ g, R < g → X g
section
variable {w w1 w2 : World} {q : Int} {A : Option Addr} {n c R : Nat} {X : Nat → Prop} {b : Int} {fs : List Flw} {b' : Int} {fs' : List Flw} {An : Option Addr} {nn cc : Nat} {ts : List Pkt} {tk : Value}
theorem tb_below (T : TbR w q A n c R X b fs b' fs' An nn cc ts tk w1) (hb : Below w1.heap.size w1 w2) : TbR w q A n c R X b fs b' fs' An nn cc ts tk w2 :=
  ⟨T.b0, T.bb, T.rv, T.eq, T.few, fm_below T.fm hb, blk_below T.box hb (blk_lt T.box), frx_below T.fl hb, own_below T.tk hb, T.sep, T.R2, T.XR, T.XU⟩
/-- a packet is taken: the rest stands in its place, the packet behind the others -/
theorem tb_next {w3 w6 : World} {An3 : Option Addr} {n3 c3 : Nat} {P : Pkt} {v6 : Value} {s : Nat} (T : TbR w q A n c R X b fs b' fs' An nn cc ts tk w1) (h0 : fs' ≠ []) (hP : P = nxP q fs') (hle : P.size ≤ b') (hb : Below w1.heap.size w1 w3) (hf : FRX w3 (fun g => ((X g ∧ tk.ownBlock ≠ some g) ∧ g < s) ∨ w1.heap.size ≤ g) An3 n3 (nxL q fs'))
    (ho : w6.ownsRow (w.heap.size + 2) 28 4 v6 (ts.length + 1) (pcells (ts ++ [P]))) (hg : ((w3.setCell ⟨R, 0, none⟩ (.int .i64 q)).setCell ⟨R, 1, none⟩ (.slice An3 n3 c3)).grownBy w6 tk.ownBlock) (hat : v6.ownBlock = tk.ownBlock ∨ ∃ g, v6.ownBlock = some g ∧ w3.heap.size ≤ g) :
    TbR w q A n c R X b fs (b' - P.size) (nxL q fs') An3 n3 c3 (ts ++ [P]) v6 w6 := by
  obtain ⟨f, r, p, ws, N⟩ := nexted_is T.rv h0
  have hs1 := N.s1
  rw [← N.isP, ← hP] at hs1
  have hR := blk_lt T.box
  have hz := hb.size
  have hR2 := T.R2
  have hlo : ∀ g, tk.ownBlock = some g → w.heap.size + 2 ≤ g := fun g e => (T.tk.lt g e).1
  have G := g_set (g_set (g_refl w3 (some R)) (p := ⟨R, 0, none⟩) (.inl rfl) (.int .i64 q)) (p := ⟨R, 1, none⟩) (.inl rfl) (.slice An3 n3 c3)
  have hXX : ∀ g, (((X g ∧ tk.ownBlock ≠ some g) ∧ g < s) ∨ w1.heap.size ≤ g) → X g ∧ tk.ownBlock ≠ some g := fun g hg => hg.elim (fun h => h.1) fun h => ⟨T.XU g (by omega), fun e => by have := (T.tk.lt g e).2; omega⟩
  have hf1 := frx_grown (frx_lt (frx_mono hf hXX)) G fun g hg e => by injection e with e; exact T.XR (by rw [← e]; exact hg.1.1)
  have hf2 := frx_mono (frx_grown hf1 hg fun g hx e => hx.1.2 e.symm) (Y := fun g => X g ∧ v6.ownBlock ≠ some g) fun g hx => ⟨hx.1.1, fun e => by
    rcases hat with h | ⟨g2, h, h2⟩
    · exact hx.1.2 (h.symm.trans e)
    · rw [h] at e; injection e with e; have := hx.2; omega⟩
  refine ⟨by omega, by have := T.bb; omega, N.rv, ?_, by rw [List.length_append]; have := T.few; rw [total_next N] at this; simp; omega, ?_, ?_, hf2, by rw [List.length_append]; exact ho, fun g e => ?_, T.R2, T.XR, T.XU⟩
  · rw [T.eq, takeB_yes T.rv h0 (by rw [← hP]; exact hle), ← hP]; simp
  · refine fm_grownO (fm_grownO (fm_below T.fm hb) G fun g e => ?_) hg fun g e => ?_
    · injection e with e; subst e; exact ⟨by omega, bx2_hi hR2⟩
    · have := hlo g e; exact ⟨by omega, bx2_hi this⟩
  · refine blk_grownQ (cs := #[.int .i64 q, (.slice An3 n3 c3)]) ?_ hg fun e => T.sep R e.symm rfl
    exact blk_set (blk_set (blk_below T.box hb hR) 0 _) 1 _
  · rcases hat with h | ⟨g2, h, h2⟩
    · exact T.sep g (h.symm.trans e)
    · rw [h] at e; injection e with e; omega
end
/-- behind the loop -/
def TbE (w : World) (q : Int) (A : Option Addr) (n c R : Nat) (X : Nat → Prop) (b : Int) (fs : List Flw) (tk : Value) (wx : World) : Prop :=
  ∃ An nn cc, Fm w (bx2 w q A n c) wx ∧ Blk wx R 25 #[.int .i64 q, (.slice An nn cc)] ∧ FRX wx X An nn (takeB q b fs).1 ∧ wx.ownsRow (w.heap.size + 2) 28 4 tk (takeB q b fs).2.length (pcells (takeB q b fs).2) ∧ w.heap.size + 2 ≤ R ∧ ¬ X R
theorem tbE_nil {w w1 : World} {q : Int} {A : Option Addr} {n c R : Nat} {X : Nat → Prop} {b : Int} {fs : List Flw} {b' : Int} {An : Option Addr} {nn cc : Nat} {ts : List Pkt} {tk : Value} (T : TbR w q A n c R X b fs b' [] An nn cc ts tk w1) : TbE w q A n c R X b fs tk w1 := by
  have e : takeB q b fs = ([], ts) := by rw [T.eq, takeB_nil]; simp
  exact ⟨An, nn, cc, T.fm, T.box, by rw [e]; exact frx_mono T.fl fun g hg => hg.1, by rw [e]; exact T.tk, T.R2, T.XR⟩
theorem tbE_no {w w1 : World} {q : Int} {A : Option Addr} {n c R : Nat} {X : Nat → Prop} {b : Int} {fs : List Flw} {b' : Int} {fs' : List Flw} {An : Option Addr} {nn cc : Nat} {ts : List Pkt} {tk : Value} (T : TbR w q A n c R X b fs b' fs' An nn cc ts tk w1) (h0 : fs' ≠ []) (hn : ¬ (nxP q fs').size ≤ b') : TbE w q A n c R X b fs tk w1 := by
  have e : takeB q b fs = (fs', ts) := by rw [T.eq, takeB_no T.rv h0 hn]; simp
  exact ⟨An, nn, cc, T.fm, T.box, by rw [e]; exact frx_mono T.fl fun g hg => hg.1, by rw [e]; exact T.tk, T.R2, T.XR⟩
set_option maxHeartbeats 2000000 in
theorem tbI_no (q : Int) (A : Option Addr) (n c : Nat) (fs : List Flw) (b : Int) (w : World) (h : FR w A n fs) (hk : ¬ (RV q fs ∧ 0 ≤ b)) :
    Calls Try.prog 28 #[.agg #[.int .i64 q, (.slice A n c)], .int .i64 b] w (TbNo w) := by
  have H := Lib.hid h
  have F := Lib.hid (show Fm w (bx2 w q A n c) _ from fm_two w 25 25 #[.int .i64 q, (.slice A n c)] #[.int .i64 0, (.slice none 0 0)])
  obtain ⟨v, hv⟩ : ∃ v, rvB q fs = v := ⟨_, rfl⟩
  have hb : v = false ∨ (v = true ∧ b < 0) := by
    rcases v with _ | _
    · exact .inl rfl
    · exact .inr ⟨rfl, Int.not_le.1 fun h => hk ⟨rv_iff.1 hv, h⟩⟩
  have HR := Lib.hid hv
  clear h hk hv
  rcases hb with rfl | ⟨rfl, hb⟩
  · go_enter Try.func28, Try.ntmps28
    go_wp2_with (go_at_call 23
                 refine (rvI_any q A n c fs _ (fr_belowF H.out F.out.below)).mono ?_
                 rintro e w1 ⟨rfl, hb1⟩
                 rw [HR.out]
                 have F1 := Lib.hid (fm_below F.out hb1)
                 obtain ⟨o0, o1, of0, of1⟩ := blk_two (fm_blk F1.out 1 rfl)
                 clear hb1)
    refine bodyPost_ret (v := .tuple #[.agg #[.int .i64 0, (.slice none 0 0)], .slice none 0 0, .bool false]) (by simp [results, Try.results28, go_sem, o0, o1]) rfl ⟨none, 0, rfl, World.ownsRow_nil _ _ _ _, ?_⟩
    iterate 2 (with_reducible refine Below.setCell ?_ (by simp <;> omega) _)
    exact F1.out.below
  · have hd : decide (b < 0) = true := by simp; omega
    go_enter Try.func28, Try.ntmps28
    go_wp2_with (go_at_call 23
                 refine (rvI_any q A n c fs _ (fr_belowF H.out F.out.below)).mono ?_
                 rintro e w1 ⟨rfl, hb1⟩
                 rw [HR.out]
                 have F1 := Lib.hid (fm_below F.out hb1)
                 obtain ⟨o0, o1, of0, of1⟩ := blk_two (fm_blk F1.out 1 rfl)
                 clear hb1)
    refine bodyPost_ret (v := .tuple #[.agg #[.int .i64 0, (.slice none 0 0)], .slice none 0 0, .bool false]) (by simp [results, Try.results28, go_sem, o0, o1]) rfl ⟨none, 0, rfl, World.ownsRow_nil _ _ _ _, ?_⟩
    iterate 2 (with_reducible refine Below.setCell ?_ (by simp <;> omega) _)
    exact F1.out.below
set_option maxHeartbeats 4000000 in
theorem tbI_yes (q : Int) (A : Option Addr) (n c : Nat) (fs : List Flw) (b : Int) (w : World) (h : FR w A n fs) (hv : RV q fs) (hb0 : 0 ≤ b) (hb1 : b ≤ 9223372036854775807) :
    Calls Try.prog 28 #[.agg #[.int .i64 q, (.slice A n c)], .int .i64 b] w (TbYes w q b fs) := by
  have H := Lib.hid h
  have F := Lib.hid (show Fm w (bx2 w q A n c) _ from fm_two w 25 25 #[.int .i64 q, (.slice A n c)] #[.int .i64 0, (.slice none 0 0)])
  have HR := Lib.hid (rv_yes hv)
  have HV := Lib.hid hv
  have hd : decide (b < 0) = false := by simp; omega
  have ht : total fs ≤ 512 := by have := total_le hv; have := rv_len hv; omega
  have HT := Lib.hid ht
  clear h hv ht
  go_enter Try.func28, Try.ntmps28
  go_upto_block 0 with (go_at_call 23
                        refine (rvI_any q A n c fs _ (fr_belowF H.out F.out.below)).mono ?_
                        rintro e w1 ⟨rfl, hb1⟩
                        rw [HR.out]
                        have F1 := Lib.hid (fm_below F.out hb1)
                        obtain ⟨g0, g1, -⟩ := blk_two (fm_blk F1.out 0 rfl)
                        clear hb1)
  have z1 : w.heap.size + 2 ≤ w1.heap.size := by have := blk_lt (fm_blk F1.out 1 rfl); omega
  have R0 : Hid (∃ b' fs' An nn cc ts, Value.int .i64 b = .int .i64 b' ∧ TbR w q A n c w1.heap.size (fun g => g < w.heap.size ∨ w1.heap.size < g) b fs b' fs' An nn cc ts (.slice none 0 0) (w1.alloc (.cells #[.int .i64 q, (.slice A n c)] 25))) := Lib.hid ⟨b, fs, A, n, c, [], rfl, hb0, Int.le_refl _, HV.out, by simp, by simpa using HT.out, fm_alloc F1.out _, blk_new w1 _ _, frx_alloc (frx_below (frx_mono (fr_frx H.out) fun g hg => ⟨.inl hg, fun e => by simp [Value.ownBlock] at e⟩) F1.out.below) _, World.ownsRow_nil _ _ _ _, fun g e => by simp [Value.ownBlock] at e, z1, fun h => by rcases h with h | h <;> omega, fun g h => .inr h⟩
  clear g0 g1 hd F
  go_cut [1, 7] from 20 to 41 (fun s1 s7 wx => TbE w q A n c w1.heap.size (fun g => g < w.heap.size ∨ w1.heap.size < g) b fs s7 wx)
  case first =>
    go_wp2_with fail
    go_loopw [1, 7] (fun bv tk wr => ∃ b' fs' An nn cc ts, bv = .int .i64 b' ∧ TbR w q A n c w1.heap.size (fun g => g < w.heap.size ∨ w1.heap.size < g) b fs b' fs' An nn cc ts tk wr) (fun bv _ _ => (intOf bv).toNat)
    case atStart => exact R0.out
    case round =>
      obtain ⟨b', fs', An, nn, cc, ts, rfl, T⟩ := hrel
      clear R0
      have HT' := Lib.hid T
      obtain ⟨l0, l1, lf0, lf1⟩ := blk_two T.box
      have zR := blk_lt T.box
      have hlen := (fr_lenF (frx_fr T.fl)).1
      have hb0' := T.b0
      have hbb := T.bb
      have hts : ts.length ≤ 512 := by have := T.few; omega
      cases fs' with
      | nil =>
        obtain rfl : nn = 0 := hlen.symm
        have E := Lib.hid (tbE_nil T)
        clear T
        go_wp2_with fail
        go_meet
        case rel => exact E.out
      | cons f r =>
        have hn0 : 0 < nn := by simp at hlen; omega
        obtain ⟨P, hP⟩ : ∃ P, P = nxP q (f :: r) := ⟨_, rfl⟩
        have HP := Lib.hid hP
        have hs : 1 ≤ P.size ∧ P.size ≤ 100 := by
          obtain ⟨f', r', p', ws', N⟩ := nexted_is T.rv (by simp)
          rw [hP, N.isP]; exact ⟨N.s1, N.s2⟩
        obtain ⟨hs1, hs2⟩ := hs
        clear T hP hlen
        by_cases hle : P.size ≤ b'
        · have hd : decide (b' < P.size) = false := by simp; omega
          have yb : IntKind.i64.wrap (b' - P.size) = b' - P.size := IntWalk.i64_in _ (by omega)
          go_wp2_with (first
            | (go_at_call 50
               refine (takeI_any (fun g => ((g < w.heap.size ∨ w1.heap.size < g) ∧ u7.ownBlock ≠ some g) ∧ g < wr.heap.size) q An nn cc _ _ (frx_lt HT'.out.fl) (fun g hg => hg.2) HT'.out.rv (by simp)).mono ?_
               rintro e w3 ⟨A3, n3, c3, rfl, hf3, hb3⟩
               rw [← HP.out]
               have T3 := Lib.hid (tb_below HT'.out hb3)
               have RF := Lib.hid hf3
               have RB := Lib.hid hb3
               obtain ⟨l0, l1, lf0, lf1⟩ := blk_two T3.out.box
               have zR3 := blk_lt T3.out.box
               clear hb3 hf3)
            | (at_builtin
               refine wpl_app_pkts _ rfl (.tmp 38) (.tmp 40) rfl (w.heap.size + 2) u7 ts.length ts rfl ((((own_set_ne (p := ⟨w1.heap.size, 1, none⟩) (own_set_ne (p := ⟨w1.heap.size, 0, none⟩) T3.out.tk (fun e => T3.out.sep _ e rfl) _) (fun e => T3.out.sep _ e rfl) _).alloc _).alloc _).alloc _) (some ⟨w3.heap.size + 1 + 1, 0, none⟩) 1 1 [P] rfl (pr_single (blk_at (by simp) _ _)) (by omega) (by simp; omega) ?_
               intro v6 w6 ho6 hg6 hat6
               have T6 := Lib.hid (tb_next (P := P) (w3 := w3) (An3 := A3) (n3 := n3) (c3 := c3) HT'.out (by simp) HP.out hle RB.out RF.out ho6 ((g_alloc (g_alloc (g_alloc (g_refl _ _) _) _) _).trans hg6) (hat6.imp id fun h => ⟨_, h, by simp; omega⟩))
               clear l0 l1 lf0 lf1 ho6 hg6 hat6))
          go_roundw
          case rel => exact ⟨_, _, _, _, _, _, rfl, T6.out⟩
          case measure => simp [intOf]; omega
        · have hd : decide (b' < P.size) = true := by simp; omega
          have E : Hid (¬ (nxP q (f :: r)).size ≤ b') := Lib.hid (by rw [← HP.out]; exact hle)
          clear hle
          go_wp2_with (go_at_call 50
                       refine (takeI_any (fun g => ((g < w.heap.size ∨ w1.heap.size < g) ∧ u7.ownBlock ≠ some g) ∧ g < wr.heap.size) q An nn cc _ _ (frx_lt HT'.out.fl) (fun g hg => hg.2) HT'.out.rv (by simp)).mono ?_
                       rintro e w3 ⟨A3, n3, c3, rfl, hf3, hb3⟩
                       rw [← HP.out]
                       have T3 := Lib.hid (tb_below HT'.out hb3)
                       clear hb3 hf3)
          go_meet
          case rel => exact tbE_no (tb_below T3.out (below_alloc (below_alloc (Below.refl _ _) _) _)) (by simp) (by have := E.out; omega)
  case rest =>
    obtain ⟨An, nn, cc, hF, hB, hf, ho, hR2, hX⟩ := hcut
    obtain ⟨At, ct, rfl, -, -, -⟩ := own_form ho
    have FW := Lib.hid hF
    have FL := Lib.hid (frx_fr hf)
    have OT := Lib.hid ho
    obtain ⟨l0, l1, -, -⟩ := blk_two hB
    have zR := blk_lt hB
    have zw := hF.below.size
    clear hF hB hf ho hX
    go_wp2_with (go_at_call 51
                 refine (copyRI_any q An nn cc _ _ FL.out).mono ?_
                 rintro e w4 ⟨A4, n4, c4, hs4, rfl, -, -, -, hD, hb4⟩
                 have D4 := Lib.hid hD
                 have F4 := Lib.hid (fm_below FW.out hb4)
                 have O4 := Lib.hid (own_below OT.out hb4)
                 have SEP := Lib.hid (show ∀ g, Value.ownBlock (.slice At (takeB q b fs).2.length ct) = some g → g < wc.heap.size from fun g e => (OT.out.lt g e).2)
                 obtain ⟨o0, o1, of0, of1⟩ := blk_two (fm_blk F4.out 1 rfl)
                 have zb4 := blk_lt (fm_blk F4.out 1 rfl)
                 clear hb4 hD)
    refine bodyPost_ret (v := .tuple #[.agg #[.int .i64 q, (.slice A4 n4 c4)], .slice At (takeB q b fs).2.length ct, .bool true]) (by simp [results, Try.results28, go_sem, o0, o1]) rfl ⟨A4, n4, c4, hs4, At, _, ct, wc.heap.size, rfl, ?_, by omega, rfl, ?_, SEP.out, ?_⟩
    · iterate 2 (with_reducible refine do_far ?_ (by simp <;> omega) _)
      exact D4.out
    · refine own_mono (base := w.heap.size + 2) ?_ (by omega)
      iterate 2 (with_reducible refine own_set_far ?_ (by simp <;> omega) _)
      exact O4.out
    · iterate 2 (with_reducible refine Below.setCell ?_ (by simp <;> omega) _)
      exact F4.out.below
end Go.Proofs.Ytehokkijfgiggaa
