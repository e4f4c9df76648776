/-
  Chapter 6: new lanes: what the model's function returns. Conditions: at most 4000000000 weights. Four copies of one robin without flows (slices.Repeat). Conditions: the robin lies in a box. Chapter 6: new lanes: what the program's function returns. Conditions: at most 4000000000 weights.
  Conditions: each lemma says them.
-/
import Derived.Test.YtanaeebjcbbagaaKpZ1
import Derived.Test.YtanaeebjcbbagaaKeZ1
import Derived.Test.YtanaeebjcbbagaaKkZ1
namespace Go.Proofs.Ytanaeebjcbbagaa
open Go.RowKit
def NwOk (q : Int) (us : List Int) : Prop := 1 ≤ q ∧ q ≤ 500 ∧ WtOk us
def newN (q : Int) (us : List Int) : Ln := ⟨List.replicate 4 ⟨q, []⟩, us, us⟩
theorem newN_get (q : Int) (us : List Int) {k : Nat} (h : k < 4) : (newN q us).rs[k]? = some ⟨q, []⟩ := by
  show (List.replicate 4 (⟨q, []⟩ : Rb))[k]? = _
  rw [List.getElem?_replicate, if_pos h]
theorem rv_new {q : Int} (h : 1 ≤ q) (h2 : q ≤ 500) : RV q [] := rv_nil h h2
theorem lv_new {q : Int} {us : List Int} (h : NwOk q us) : LV (newN q us) := by
  refine ⟨by simp [newN], h.2.2.1, h.2.2.1, fun k r hr => ?_, fun k y hy => h.2.2.2 k y hy, fun k x y hx hy => ?_⟩
  · have hk : k < 4 := by have := get_lt hr; simpa [newN] using this
    rw [newN_get q us hk] at hr
    obtain rfl := Option.some.inj hr
    exact ⟨rv_new h.1 h.2.1, fun f hf => by cases hf⟩
  · obtain rfl : x = y := Option.some.inj (hx.symm.trans hy)
    have := h.2.2.2 k x hx
    omega
structure NS (w : World) (LB : Nat) (vA vB vC : Value) (k m o : Nat) (hs : List Rh) (iv : Nat → Nat × Nat) (l : Ln) (wr : World) : Prop where
  fm : Fm w [⟨w.heap.size, w.heap.size + 1, BoxP w.heap.size 35 #[.slice none 0 0, .slice none 0 0, .slice none 0 0]⟩] wr
  out : Blk wr LB 35 #[vA, vB, vC]
  lo : LO wr (w.heap.size + 1) vA k vB m vC o hs iv l
  hi : ∀ j, (iv j).1 < (iv j).2 → w.heap.size + 1 ≤ (iv j).1
  hL : w.heap.size + 1 ≤ LB
  sa : Out6 vA iv LB
  sb : vB.ownBlock ≠ some LB
  sc : vC.ownBlock ≠ some LB
section
variable {w w1 w2 : World} {LB k m o : Nat} {vA vB vC : Value} {hs : List Rh} {iv : Nat → Nat × Nat} {l : Ln}
theorem ns_below (h : NS w LB vA vB vC k m o hs iv l w1) (hb : Below w1.heap.size w1 w2) : NS w LB vA vB vC k m o hs iv l w2 :=
  ⟨fm_below h.fm hb, blk_below h.out hb (blk_lt h.out), lo_below h.lo hb, h.hi, h.hL, h.sa, h.sb, h.sc⟩
theorem fm_outN {u : Nat} {g : Nat} {b : Array Value} (h : Fm w [⟨w.heap.size, w.heap.size + 1, BoxP w.heap.size 35 b⟩] w1) (hg : w.heap.size + 1 ≤ g) (x : Value) : Fm w [⟨w.heap.size, w.heap.size + 1, BoxP w.heap.size 35 b⟩] (w1.setCell ⟨g, u, none⟩ x) :=
  fm_out h (fun y hy => by
    simp only [List.mem_cons, List.not_mem_nil, or_false] at hy
    rcases hy with rfl <;> (simp only; omega)) (by omega) _
theorem ns_snoc {w8 w7 : World} {vA' : Value} {s n6 c6 : Nat} {A6 : Option Addr} {fh : List Fh} {r : Rb} {rs : List Rb} {ws cs : List Int} (C : NS w LB vA vB vC k m o hs iv ⟨rs.take k, ws, cs⟩ w1) (hb : Below w1.heap.size w1 w8) (D : DO w8 s (.slice A6 n6 c6) n6 fh r.fs) (hs' : w1.heap.size ≤ s) (hn : n6 ≤ 4000000000)
    (hr : w7.ownsRow (w.heap.size + 1) 100 2 vA' (k + 1) (rcells (hs ++ [⟨r.q, A6, n6, c6⟩]))) (hg : w8.grownBy w7 vA.ownBlock) (hat : vA'.ownBlock = vA.ownBlock ∨ vA'.ownBlock = some w8.heap.size) (hk : rs[k]? = some r) :
    NS w LB vA' vB vC (k + 1) m o (hs ++ [⟨r.q, A6, n6, c6⟩]) (Up iv k (s, w8.heap.size)) ⟨rs.take (k + 1), ws, cs⟩ (w7.setCell ⟨LB, 0, none⟩ vA') := by
  have C8 := ns_below C hb
  have z8 := hb.size
  have zL := blk_lt C.out
  have zL2 := C.hL
  have zb : ∀ b, vB.ownBlock = some b → b < w1.heap.size := fun b e => (C.lo.b.lt b e).2
  have zc : ∀ b, vC.ownBlock = some b → b < w1.heap.size := fun b e => (C.lo.c.lt b e).2
  have za : ∀ b, vA.ownBlock = some b → w.heap.size + 1 ≤ b ∧ b < w1.heap.size := fun b e => C.lo.r.row.lt b e
  have hz := C.fm.below.size
  have hE : rs.take k ++ [r] = rs.take (k + 1) := by rw [List.take_add_one, hk]; rfl
  have key : ∀ b, b < w1.heap.size → Out6 vA iv b → Out6 vA' (Up iv k (s, w8.heap.size)) b := fun b hlt hO => by
    refine ⟨fun e => ?_, fun j => ?_⟩
    · rcases hat with h1 | h1
      · exact hO.1 (h1.symm.trans e)
      · have := Option.some.inj (h1.symm.trans e); omega
    · by_cases hj : j = k
      · subst hj; rw [up_self]; exact .inl (by simp only; omega)
      · rw [up_ne _ hj]; exact hO.2 j
  have DD := dr_snoc (r := r) C8.lo.r hr hg hat rfl hn (by have := C.hL; omega) (Nat.le_refl _) (dv_all D) (fun b e => .inl (by have := (za b e).2; omega)) (fun j _ => .inl (by have := C.lo.r.top j; omega))
  simp only [hE] at DD
  have LO7 : LO w7 (w.heap.size + 1) vA' (k + 1) vB m vC o (hs ++ [⟨r.q, A6, n6, c6⟩]) (Up iv k (s, w8.heap.size)) ⟨rs.take (k + 1), ws, cs⟩ :=
    ⟨dr_weak DD fun j hj => (by
      rcases Nat.lt_or_ge j k with h | h
      · exact .inr h
      · exact .inl (by omega)), own_kept6 C8.lo.b hg fun b e e2 => (C.lo.ab b e2).1 e, own_kept6 C8.lo.c hg fun b e e2 => (C.lo.ac b e2).1 e, fun b e => key b (zb b e) (C.lo.ab b e), fun b e => key b (zc b e) (C.lo.ac b e), C.lo.bc⟩
  have SA := key LB zL C.sa
  refine ⟨fm_outN (fm_grownO C8.fm hg fun b e => ⟨by have := (za b e).1; omega, fun x hx => ?_⟩) C.hL _, blk_set (blk_grownQ C8.out hg fun e => C.sa.1 e.symm) 0 _, lo_grown LO7 (g_set (g_refl w7 (some LB)) (.inl rfl) _) (fun b e => by obtain rfl := Option.some.inj e; exact ⟨SA, C.sb, C.sc⟩), up_lo C.hi (by omega), C.hL, SA, C.sb, C.sc⟩
  have := (za b e).1
  simp only [List.mem_cons, List.not_mem_nil, or_false] at hx
  rcases hx with rfl <;> (simp only; omega)
theorem ns_first {w0 W : World} {v1 v2 : Value} {ws cs : List Int} (h : C1 w0 W v1 m ws v2 o cs none) (hf : Fm w [⟨w.heap.size, w.heap.size + 1, BoxP w.heap.size 35 #[.slice none 0 0, .slice none 0 0, .slice none 0 0]⟩] w0) (hz : w.heap.size + 1 ≤ w0.heap.size) :
    NS w W.heap.size (.slice none 0 0) v1 v2 0 m o [] (fun _ => (0, 0)) ⟨[], ws, cs⟩ (W.alloc (.cells #[.slice none 0 0, v1, v2] 35)) := by
  have hs := h.below.size
  have hO : ∀ b : Nat, Out6 (.slice none 0 0) (fun _ => (0, 0)) b := fun b => ⟨fun e => (by cases e), fun k => .inr (Nat.zero_le _)⟩
  exact ⟨fm_below hf (below_alloc h.below _), blk_new W _ _, ⟨dr_nil _ _, own_mono (h.o1.alloc _) (by omega), own_mono (h.o2.alloc _) (by omega), fun b _ => hO b, fun b _ => hO b, h.d12⟩, fun j hj => absurd hj (by simp), by omega, hO _, fun e => (by have := (h.o1.lt _ e).2; omega), fun e => (by have := (h.o2.lt _ e).2; omega)⟩
end
theorem own_emptyFl {W : World} : (W.alloc (.cells #[] 107)).ownsRow W.heap.size 107 3 (.slice (some ⟨W.heap.size, 0, none⟩) 0 0) 0 (fcells []) :=
  ⟨rfl, .inr ⟨W.heap.size, 0, #[], rfl, Nat.le_refl _, blk_new W _ _, Nat.le_refl _, by unfold maxLen; omega, rfl, rfl⟩⟩
theorem do_emptyF (W : World) (o : Obj) : DO ((W.alloc (.cells #[] 107)).alloc o) W.heap.size (.slice (some ⟨W.heap.size, 0, none⟩) 0 0) 0 [] [] :=
  ⟨own_emptyFl.alloc _, rfl, fun k h f e => (by simp at e), fun i j h g _ e => (by simp at e)⟩
set_option maxRecDepth 100000 in
set_option maxHeartbeats 2000000 in
theorem nwS_no (q : Int) (B : Option Addr) (m d : Nat) (us : List Int) (w : World) (h : NR w B m us) (hm : m ≤ 4000000000) (hk : ¬ NwOk q us) :
    Calls Try.prog 32 #[.int .i64 q, .slice B m d] w (JlNo w) := by
  have H := Lib.hid h
  have F := Lib.hid (fm_one w 35 #[.slice none 0 0, .slice none 0 0, .slice none 0 0])
  have HL := Lib.hid h.1
  clear h
  obtain ⟨⟨o0, o1, o2⟩, f0, f1, f2⟩ := blk_three (fm_blk F.out 0 rfl)
  by_cases h1 : 1 ≤ q
  · by_cases h2 : q ≤ 500
    · by_cases h3 : m = 4
      · have hw : wtB us = false := wt_no fun hw => hk ⟨h1, h2, hw⟩
        have HW := Lib.hid hw
        have e1 : decide (q < 1) = false := decide_eq_false (by omega)
        have e2 : decide (500 < q) = false := decide_eq_false (by omega)
        subst h3
        clear hk hw
        go_enter Try.func32, Try.ntmps32
        go_wp2_with fail
        refine (wtS_any B 4 d us _ (nr_below H.out F.out.below) hm).mono ?_
        rintro e w1 ⟨rfl, hb⟩
        rw [HW.out]
        have F1 := Lib.hid (fm_below F.out hb)
        clear hb o0 o1 o2 f0 f1 f2
        obtain ⟨⟨o0, o1, o2⟩, f0, f1, f2⟩ := blk_three (fm_blk F1.out 0 rfl)
        have zo := blk_lt (fm_blk F1.out 0 rfl)
        go_wp2
        refine bodyPost_ret (v := .tuple #[.agg #[.slice none 0 0, .slice none 0 0, .slice none 0 0], .bool false]) (by simp [results, Try.results32, go_sem, o0, o1, o2]) rfl ⟨rfl, ?_⟩
        repeat refine Below.setCell ?_ (by simp <;> omega) _
        exact F1.out.below
      · have e1 : decide (q < 1) = false := decide_eq_false (by omega)
        have e2 : decide (500 < q) = false := decide_eq_false (by omega)
        have e3 : ((m : Int) == 4) = false := by simp only [beq_eq_false_iff_ne]; omega
        have e4 : ((m : Int) != 4) = true := by simp only [bne_iff_ne]; omega
        have e5 : ¬ (m : Int) = 4 := by omega
        have e6 : decide ((m : Int) = 4) = false := decide_eq_false e5
        clear hk
        go_enter Try.func32, Try.ntmps32
        go_wp2
        refine bodyPost_ret (v := .tuple #[.agg #[.slice none 0 0, .slice none 0 0, .slice none 0 0], .bool false]) (by simp [results, Try.results32, go_sem, o0, o1, o2]) rfl ⟨rfl, ?_⟩
        repeat refine Below.setCell ?_ (by simp <;> omega) _
        exact F.out.below
    · have e1 : decide (q < 1) = false := decide_eq_false (by omega)
      have e2 : decide (500 < q) = true := decide_eq_true (by omega)
      clear hk
      go_enter Try.func32, Try.ntmps32
      go_wp2
      refine bodyPost_ret (v := .tuple #[.agg #[.slice none 0 0, .slice none 0 0, .slice none 0 0], .bool false]) (by simp [results, Try.results32, go_sem, o0, o1, o2]) rfl ⟨rfl, ?_⟩
      repeat refine Below.setCell ?_ (by simp <;> omega) _
      exact F.out.below
  · have e1 : decide (q < 1) = true := decide_eq_true (by omega)
    clear hk
    go_enter Try.func32, Try.ntmps32
    go_wp2
    refine bodyPost_ret (v := .tuple #[.agg #[.slice none 0 0, .slice none 0 0, .slice none 0 0], .bool false]) (by simp [results, Try.results32, go_sem, o0, o1, o2]) rfl ⟨rfl, ?_⟩
    repeat refine Below.setCell ?_ (by simp <;> omega) _
    exact F.out.below
def NwRel (w : World) (l : Ln) (LB : Nat) (B2 : Option Addr) (m d2 : Nat) (C2 : Option Addr) (o f2 : Nat) (i : Value) (wr : World) : Prop :=
  ∃ (k : Nat) (Ao : Option Addr) (co : Nat) (hs : List Rh) (iv : Nat → Nat × Nat), k ≤ 4 ∧ i = .int .i64 (k : Int) ∧ NS w LB (.slice Ao k co) (.slice B2 m d2) (.slice C2 o f2) k m o hs iv ⟨l.rs.take k, l.ws, l.cs⟩ wr
set_option maxRecDepth 100000 in
set_option maxHeartbeats 4000000 in
theorem nwS_yes (q : Int) (B : Option Addr) (m d : Nat) (us : List Int) (w : World) (h : NR w B m us) (hm : m ≤ 4000000000) (hk : NwOk q us) :
    Calls Try.prog 32 #[.int .i64 q, .slice B m d] w (JlYes w (newN q us)) := by
  have H := Lib.hid h
  have F := Lib.hid (fm_one w 35 #[.slice none 0 0, .slice none 0 0, .slice none 0 0])
  have HW := Lib.hid (wt_yes hk.2.2)
  obtain rfl : m = 4 := by rw [← h.1]; exact hk.2.2.1
  have HL := Lib.hid h.1
  have e1 : decide (q < 1) = false := decide_eq_false (by have := hk.1; omega)
  have e2 : decide (500 < q) = false := decide_eq_false (by have := hk.2.1; omega)
  clear h hk
  go_enter Try.func32, Try.ntmps32
  go_wp2_with fail
  refine (wtS_any B 4 d us _ (nr_below H.out F.out.below) hm).mono ?_
  rintro e w1 ⟨rfl, hb⟩
  rw [HW.out]
  have F1 := Lib.hid (fm_below F.out hb)
  have z1 := blk_lt (fm_blk F1.out 0 rfl)
  clear hb
  have N1 := Lib.hid (c1_bs1 (c1_start w1))
  have NB := Lib.hid (nr_below (nr_below H.out F1.out.below) (below_alloc (Below.refl _ _) (.cells #[] 3)))
  go_wp2_with (at_builtin
               first
                 | (refine wpl_app_ints _ rfl (.tmp 25) (.tmp 26) rfl w1.heap.size _ 0 [] rfl N1.out.o1 B 4 d us rfl NB.out (by omega) (by simp) ?_
                    intro v2 w2 ho2 hg2 hat2
                    simp only [List.nil_append, Nat.zero_add] at ho2
                    have N2 := Lib.hid (c1_bs2 (c1_app1 N1.out ho2 hg2 hat2))
                    obtain ⟨B2, d2, rfl, -, -, -⟩ := own_form ho2
                    have NC := Lib.hid (nr_below H.out (below_seq F1.out.below N2.out.below))
                    clear ho2 hg2 hat2)
                 | (refine wpl_app_ints _ rfl (.tmp 28) (.tmp 29) rfl w1.heap.size _ 0 [] rfl N2.out.o2 B 4 d us rfl NC.out (by omega) N2.out.below.size ?_
                    intro v3 w3 ho3 hg3 hat3
                    simp only [List.nil_append, Nat.zero_add] at ho3
                    have N3 := Lib.hid (c1_app2 N2.out ho3 hg3 hat3)
                    obtain ⟨C2, f2, rfl, -, -, -⟩ := own_form ho3
                    clear ho3 hg3 hat3))
  have R0 : Hid (NwRel w (newN q us) w3.heap.size B2 4 d2 C2 4 f2 (.int .i64 0) (w3.alloc (.cells #[.slice none 0 0, .slice B2 4 d2, .slice C2 4 f2] 35))) := Lib.hid ⟨0, none, 0, [], _, Nat.zero_le _, rfl, ns_first N3.out F1.out (by omega)⟩
  clear N1 N2 N3 F F1
  go_loopw [7] (fun i wr => NwRel w (newN q us) w3.heap.size B2 4 d2 C2 4 f2 i wr) (fun i _ => 4 - (intOf i).toNat)
  case atStart => exact R0.out
  case round =>
    obtain ⟨k, Ao, co, hs, iv, hk4, rfl, hC⟩ := hrel
    clear R0
    have HC := Lib.hid hC
    obtain ⟨⟨y0, y1, y2⟩, yf0, yf1, yf2⟩ := blk_three hC.out
    have zL := blk_lt hC.out
    have zL2 := hC.hL
    have zb := hC.fm.below.size
    by_cases hlt : k < 4
    · have k0 : (0 : Int) ≤ (k : Int) := by omega
      have k1 : (k : Int) < 4 := by omega
      have HR := Lib.hid (newN_get q us hlt)
      have C8 := Lib.hid (ns_below hC (below_alloc (below_alloc (Below.refl wr.heap.size wr) (.cells #[] 107)) (.cells #[.int .i64 q, .slice (some ⟨wr.heap.size, 0, none⟩) 0 0] 100)))
      clear hC
      go_wp2_with (at_builtin
                   refine wpl_app_robs _ rfl (.tmp 37) (.tmp 41) rfl (w.heap.size + 1) (.slice Ao k co) k hs rfl C8.out.lo.r.row (some ⟨wr.heap.size + 1, 0, none⟩) 1 1 [⟨q, some ⟨wr.heap.size, 0, none⟩, 0, 0⟩] rfl (hq_single (blk_at (by simp) _ _)) (by omega) (by simp; omega) ?_
                   intro v7 w7 ho7 hg7 hat7
                   obtain ⟨A7, c7, rfl, -, -, -⟩ := own_form ho7
                   have C7 := Lib.hid (ns_snoc HC.out (below_alloc (below_alloc (Below.refl wr.heap.size wr) (.cells #[] 107)) (.cells #[.int .i64 q, .slice (some ⟨wr.heap.size, 0, none⟩) 0 0] 100)) (do_emptyF wr _) (Nat.le_refl _) (by omega) ho7 hg7 hat7 HR.out)
                   have X7 := Lib.hid (blk_grownQ C8.out.out hg7 fun e => HC.out.sa.1 e.symm)
                   clear hg7 hat7 ho7 y0 y1 y2 yf0 yf1 yf2
                   obtain ⟨⟨y0, y1, y2⟩, yf0, yf1, yf2⟩ := blk_three X7.out)
      go_roundw
      case rel => exact ⟨k + 1, A7, c7, _, _, by omega, by go_num, C7.out⟩
      case measure => simp [intOf]; omega
    · obtain rfl : k = 4 := by omega
      obtain ⟨⟨o0, o1, o2⟩, ff0, ff1, ff2⟩ := blk_three (fm_blk hC.fm 0 rfl)
      have zo := blk_lt (fm_blk hC.fm 0 rfl)
      have zne : w3.heap.size ≠ w.heap.size := by omega
      have HE := Lib.hid (show (⟨(newN q us).rs.take 4, (newN q us).ws, (newN q us).cs⟩ : Ln) = newN q us from ln_ext (List.take_of_length_le (by simp [newN])) rfl rfl)
      clear hC
      go_wp2
      refine bodyPost_ret (v := .tuple #[.agg #[.slice Ao 4 co, .slice B2 4 d2, .slice C2 4 f2], .bool true]) (by simp [results, Try.results32, go_sem, o0, o1, o2]) rfl ⟨Ao, 4, co, B2, 4, d2, C2, 4, f2, hs, iv, rfl, by simp [newN], HL.out.symm, HL.out.symm, ?_, fun j hj => Nat.le_trans (by omega) (HC.out.hi j hj), ?_⟩
      · rw [← HE.out]
        exact lo_mono (lo_far (lo_far (lo_far HC.out.lo (by simp) HC.out.hi _) (by simp) HC.out.hi _) (by simp) HC.out.hi _) (by omega)
      · repeat refine Below.setCell ?_ (by simp <;> omega) _
        exact HC.out.fm.below
end Go.Proofs.Ytanaeebjcbbagaa
namespace Go.Proofs.Ytanaeebjcbbagaa
open Go.RowKit
set_option maxRecDepth 100000 in
set_option maxHeartbeats 1000000 in
theorem mul64_14 (w : World) :
    Calls Try.prog 93 #[.int .u64 1, .int .u64 4] w fun e w' => e = .returned (.tuple #[.int .u64 0, .int .u64 4]) ∧ w = w' := by
  go_enter Try.func93, Try.ntmps93
  go_wp2
  go_ret2
  exact ⟨rfl, rfl⟩
set_option maxRecDepth 100000 in
set_option maxHeartbeats 1000000 in
theorem mul_14 (w : World) :
    Calls Try.prog 63 #[.int .u64 1, .int .u64 4] w fun e w' => e = .returned (.tuple #[.int .u64 0, .int .u64 4]) ∧ w = w' := by
  go_enter Try.func63, Try.ntmps63
  go_wp2_with (go_at_call 93; refine (mul64_14 _).mono ?_; rintro e w' ⟨rfl, rfl⟩)
  go_ret2
  exact ⟨rfl, rfl⟩
def RepPost (w : World) (q : Int) (e : Ending) (w' : World) : Prop :=
  ∃ A, e = .returned (.slice A 4 4) ∧ w'.ownsRow w.heap.size 100 2 (.slice A 4 4) 4 (rcells (List.replicate 4 ⟨q, none, 0, 0⟩)) ∧ Below w.heap.size w w'
theorem zerosQ (n : Nat) : (madeCells (Value.cells (.agg #[.int .i64 0, .slice none 0 0])) (n * 2)).toList = rcells (List.replicate n (⟨0, none, 0, 0⟩ : Rh)) := by
  apply List.ext_getElem?
  intro i
  by_cases hi : i < n * 2
  · have hk : (List.replicate n (⟨0, none, 0, 0⟩ : Rh))[i / 2]? = some (⟨0, none, 0, 0⟩ : Rh) := by rw [List.getElem?_replicate, if_pos (by omega)]
    obtain ⟨a0, a1⟩ := rcells_get _ (i / 2) _ hk
    have hs : (#[Value.int .i64 0, Value.slice none 0 0] : Array Value).size = 2 := rfl
    have hm : (madeCells (Value.cells (.agg #[.int .i64 0, .slice none 0 0])) (n * 2)).toList[i]? = some ((#[Value.int .i64 0, Value.slice none 0 0] : Array Value)[i % 2]!) := by
      rw [List.getElem?_eq_getElem (by simp [madeCells]; omega)]
      simp only [madeCells, Value.cells, Array.getElem_toList, Array.getElem_map, Array.getElem_range, hs]
    rw [hm]
    have : i % 2 = 0 ∨ i % 2 = 1 := by omega
    rcases this with e | e
    · rw [e, show i = i / 2 * 2 from by omega]
      have e2 : i / 2 * 2 / 2 = i / 2 := by omega
      exact a0.symm
    · rw [e, show i = i / 2 * 2 + 1 from by omega]
      exact a1.symm
  · rw [List.getElem?_eq_none (by simp [madeCells]; omega), List.getElem?_eq_none (by rw [rcells_len, List.length_replicate]; omega)]
theorem zeros4 : (madeCells (Value.cells (.agg #[.int .i64 0, .slice none 0 0])) (4 * 2)).toList = rcells (List.replicate 4 ⟨0, none, 0, 0⟩) := zerosQ 4
theorem rep_copy {w : World} {g o dLen dCap sLen sCap base : Nat} {a : Addr} {xs cs : List Value} (h : w.ownsRow base 100 2 (.slice (some ⟨g, 0, none⟩) 4 4) 4 xs) (hn : cs.length = Nat.min sLen dLen * 2) (hx : o + cs.length ≤ 8)
    (hsrc : ∀ j v, cs[j]? = some v → w.cell? (a.add j) = some v) (h1 : ∀ v ∈ cs, v.oneCell' = true) (ty : TypeId) :
    (Builtin.copy_ #[33, 33] ty #[.slice (some ⟨g, o, none⟩) dLen dCap, .slice (some a) sLen sCap]).run Try.prog w = .ok (goInt (Nat.min sLen dLen)) (w.setCells g o cs) := by
  obtain ⟨i0, hi, hz0, hz1, hz2⟩ := info_parts infoRob
  refine run_copy_sized _ _ _ ty 100 2 g o dLen dCap a sLen sCap cs Try.underlying33 (by simp [hi, hz1]) hn hsrc (fun j hj => ?_) (fun j _ => h.frozenAt (o + j)) h1
  rw [h.cellAt (o + j) (by omega), List.getElem?_eq_getElem (by rw [h.1]; omega)]
  rfl
set_option maxRecDepth 100000 in
set_option maxHeartbeats 2000000 in
theorem rep_any (q : Int) (b : Nat) (w : World) (hB : Blk w b 100 #[.int .i64 q, .slice none 0 0]) :
    Calls Try.prog 61 #[.slice (some ⟨b, 0, none⟩) 1 1, .int .i64 4] w (RepPost w q) := by
  have HB := Lib.hid hB
  clear hB
  obtain ⟨i0, hi, hz0, hz1, hz2⟩ := info_parts infoRob
  go_enter Try.func61, Try.ntmps61
  go_wp2_with (first
    | (go_at_call 63; refine (mul_14 _).mono ?_; rintro e w' ⟨rfl, rfl⟩)
    | (refine wpList_make_full _ rfl (.tmp 29) (.tmp 29) 33 rfl w.heap.size 100 i0 _ 2 Try.underlying33 hi hz0 hz1 .i64 .i64 4 4 4 rfl rfl rfl rfl (by rw [hz2]; omega) (by unfold maxLen; omega) (Nat.le_refl _) ?_
       intro w1 ho1 hg1
       rw [zeros4] at ho1
       have B1 := Lib.hid (show Below w.heap.size w w1 from ⟨hg1.os, hg1.tape, hg1.output, hg1.size, fun i hi => hg1.block i hi (by simp)⟩)
       have O1 := Lib.hid ho1
       have hrun1 := rep_copy (o := 0) (dLen := 4) (dCap := 4) (sLen := 1) (sCap := 1) (a := ⟨b, 0, none⟩) (cs := [.int .i64 q, .slice none 0 0]) ho1 rfl (by simp) (fun j v hj => by
         have hBk := blk_below HB.out B1.out (blk_lt HB.out)
         match j, hj with
         | 0, hj => (obtain rfl := Option.some.inj hj; exact blk_cell hBk 0)
         | 1, hj => (obtain rfl := Option.some.inj hj; exact blk_cell hBk 1)
         | j + 2, hj => simp at hj) (by intro v hv; simp at hv; rcases hv with rfl | rfl <;> rfl)
       clear ho1 hg1))
  have O2 := Lib.hid (show (w1.setCells w.heap.size 0 [.int .i64 q, .slice none 0 0]).ownsRow w.heap.size 100 2 (.slice (some ⟨w.heap.size, 0, none⟩) 4 4) 4 (rcells [⟨q, none, 0, 0⟩, ⟨0, none, 0, 0⟩, ⟨0, none, 0, 0⟩, ⟨0, none, 0, 0⟩]) from own_setCells [.int .i64 q, .slice none 0 0] 0 O1.out)
  have B2 := Lib.hid (show Below w.heap.size w (w1.setCells w.heap.size 0 [.int .i64 q, .slice none 0 0]) from (B1.out.setCell (Nat.le_refl _) _).setCell (Nat.le_refl _) _)
  clear hrun1
  generalize w1.setCells w.heap.size 0 [.int .i64 q, .slice none 0 0] = W1 at O2 B2 ⊢
  have P2 := Lib.hid (own_below O2.out (Below.refl W1.heap.size W1).drew)
  have hrun2 := rep_copy (o := 2) (dLen := 3) (dCap := 3) (sLen := 1) (sCap := 4) (a := ⟨w.heap.size, 0, none⟩) (cs := [.int .i64 q, .slice none 0 0]) P2.out rfl (by simp) (fun j v hj => by
    match j, hj with
    | 0, hj => (obtain rfl := Option.some.inj hj; exact P2.out.cellAt 0 (by omega))
    | 1, hj => (obtain rfl := Option.some.inj hj; exact P2.out.cellAt 1 (by omega))
    | j + 2, hj => simp at hj) (by intro v hv; simp at hv; rcases hv with rfl | rfl <;> rfl)
  refine wp_loop_rounds 3 ?_
  rw [rounds_succ]
  go_wp2_with fail
  go_region
  all_goals
    go_wp2_with fail
    have O3 := Lib.hid (show (W1.drew.setCells w.heap.size 2 [.int .i64 q, .slice none 0 0]).ownsRow w.heap.size 100 2 (.slice (some ⟨w.heap.size, 0, none⟩) 4 4) 4 (rcells [⟨q, none, 0, 0⟩, ⟨q, none, 0, 0⟩, ⟨0, none, 0, 0⟩, ⟨0, none, 0, 0⟩]) from own_setCells [.int .i64 q, .slice none 0 0] 2 P2.out)
    have B3 := Lib.hid (show Below w.heap.size w (W1.drew.setCells w.heap.size 2 [.int .i64 q, .slice none 0 0]) from (B2.out.drew.setCell (Nat.le_refl _) _).setCell (Nat.le_refl _) _)
    clear hrun2
    generalize W1.drew.setCells w.heap.size 2 [.int .i64 q, .slice none 0 0] = W2 at O3 B3 ⊢
    have P3 := Lib.hid (own_below O3.out (Below.refl W2.heap.size W2).drew)
    have hrun3 := rep_copy (o := 4) (dLen := 2) (dCap := 2) (sLen := 2) (sCap := 4) (a := ⟨w.heap.size, 0, none⟩) (cs := [.int .i64 q, .slice none 0 0, .int .i64 q, .slice none 0 0]) P3.out rfl (by simp) (fun j v hj => by
      match j, hj with
      | 0, hj => (obtain rfl := Option.some.inj hj; exact P3.out.cellAt 0 (by omega))
      | 1, hj => (obtain rfl := Option.some.inj hj; exact P3.out.cellAt 1 (by omega))
      | 2, hj => (obtain rfl := Option.some.inj hj; exact P3.out.cellAt 2 (by omega))
      | 3, hj => (obtain rfl := Option.some.inj hj; exact P3.out.cellAt 3 (by omega))
      | j + 4, hj => simp at hj) (by intro v hv; simp at hv; rcases hv with rfl | rfl | rfl | rfl <;> rfl)
    rw [rounds_succ]
    go_wp2_with fail
    go_region
    all_goals
      go_wp2_with fail
      have O4 := Lib.hid (show (W2.drew.setCells w.heap.size 4 [.int .i64 q, .slice none 0 0, .int .i64 q, .slice none 0 0]).ownsRow w.heap.size 100 2 (.slice (some ⟨w.heap.size, 0, none⟩) 4 4) 4 (rcells [⟨q, none, 0, 0⟩, ⟨q, none, 0, 0⟩, ⟨q, none, 0, 0⟩, ⟨q, none, 0, 0⟩]) from own_setCells [.int .i64 q, .slice none 0 0, .int .i64 q, .slice none 0 0] 4 P3.out)
      have B4 := Lib.hid (show Below w.heap.size w (W2.drew.setCells w.heap.size 4 [.int .i64 q, .slice none 0 0, .int .i64 q, .slice none 0 0]) from (((B3.out.drew.setCell (Nat.le_refl _) _).setCell (Nat.le_refl _) _).setCell (Nat.le_refl _) _).setCell (Nat.le_refl _) _)
      clear hrun3
      generalize W2.drew.setCells w.heap.size 4 [.int .i64 q, .slice none 0 0, .int .i64 q, .slice none 0 0] = W3 at O4 B4 ⊢
      rw [rounds_succ]
      go_wp2
      go_ret
      exact ⟨_, rfl, O4.out, B4.out⟩
end Go.Proofs.Ytanaeebjcbbagaa
namespace Go.Proofs.Ytanaeebjcbbagaa
open Go.RowKit
theorem nw_of {q : Int} {us : List Int} (h : LV (newN q us)) : NwOk q us := by
  have h0 := (h.rb 0 ⟨q, []⟩ (newN_get q us (by omega))).rv
  exact ⟨h0.q0, h0.q1, h.n1, fun k y hy => h.wt k y hy⟩
theorem dr_new {w : World} {lo : Nat} {A : Option Addr} {q : Int} (h : w.ownsRow lo 100 2 (.slice A 4 4) 4 (rcells (List.replicate 4 ⟨q, none, 0, 0⟩))) (hl : lo ≤ w.heap.size) :
    DR w lo (.slice A 4 4) 4 (List.replicate 4 ⟨q, none, 0, 0⟩) (List.replicate 4 ⟨q, []⟩) (fun _ => (w.heap.size, w.heap.size)) (fun j => j < 4) := by
  refine ⟨h, by simp, fun k _ g r e1 e2 => ?_, fun b _ k => by simp only; omega, fun i j _ => .inl (Nat.le_refl _), fun k => Nat.le_refl _⟩
  obtain rfl : g = ⟨q, none, 0, 0⟩ := List.eq_of_mem_replicate (List.mem_of_getElem? e1)
  obtain rfl : r = ⟨q, []⟩ := List.eq_of_mem_replicate (List.mem_of_getElem? e2)
  exact ⟨rfl, Nat.zero_le _, hl, [], do_nil _ _, fun b e => (by cases e), fun k h e => (by simp at e)⟩
theorem lo_new {w : World} {lo m sB sC d f : Nat} {A B C : Option Addr} {q : Int} {us : List Int} (hr : w.ownsRow lo 100 2 (.slice A 4 4) 4 (rcells (List.replicate 4 ⟨q, none, 0, 0⟩))) (hb : w.ownsRow sB 3 1 (.slice B m d) m (icells us)) (hc : w.ownsRow sC 3 1 (.slice C m f) m (icells us))
    (h1 : ∀ b, Value.ownBlock (.slice A 4 4) = some b → b < sB ∧ b < sC) (h2 : ∀ b, Value.ownBlock (.slice B m d) = some b → b < sC) (l1 : lo ≤ sB) (l2 : lo ≤ sC) (l3 : lo ≤ w.heap.size) :
    LO w lo (.slice A 4 4) 4 (.slice B m d) m (.slice C m f) m (List.replicate 4 ⟨q, none, 0, 0⟩) (fun _ => (w.heap.size, w.heap.size)) (newN q us) :=
  ⟨dr_new hr l3, own_mono hb l1, own_mono hc l2, fun b e => ⟨fun e2 => (by have := (hb.lt b e).1; have := (h1 b e2).1; omega), fun k => by simp only; omega⟩, fun b e => ⟨fun e2 => (by have := (hc.lt b e).1; have := (h1 b e2).2; omega), fun k => by simp only; omega⟩, fun b e e2 => (by have := (hc.lt b e2).1; have := h2 b e; omega)⟩
set_option maxRecDepth 100000 in
set_option maxHeartbeats 4000000 in
theorem nwI_both (q : Int) (B : Option Addr) (m d : Nat) (us : List Int) (w : World) (h : NR w B m us) (hm : m ≤ 4000000000) :
    Calls Try.prog 29 #[.int .i64 q, .slice B m d] w fun e w' => (NwOk q us → JlYes w (newN q us) e w') ∧ (¬ NwOk q us → JlNo w e w') := by
  have H := Lib.hid h
  have HL := Lib.hid h.1
  have F := Lib.hid (fm_one w 35 #[.slice none 0 0, .slice none 0 0, .slice none 0 0])
  have BX := Lib.hid (below_alloc F.out.below (.cells #[.int .i64 q, .slice none 0 0] 100))
  clear h
  go_enter Try.func29, Try.ntmps29
  go_wp2_with fail
  refine (rep_any q (w.heap.size + 1) _ (blk_at (by simp) _ _)).mono ?_
  rintro e w2 ⟨A2, rfl, hA, hb⟩
  have F2 := Lib.hid (fm_below (fm_alloc F.out (.cells #[.int .i64 q, .slice none 0 0] 100)) hb)
  have OA := Lib.hid (show w2.ownsRow (w.heap.size + 1) 100 2 (.slice A2 4 4) 4 _ from own_mono hA (by simp))
  have z2 := hb.size
  simp at z2
  clear hb hA
  go_wp2_with fail
  refine (cloneN_any B m d us _ (nr_below H.out F2.out.below) hm).mono ?_
  rintro e w3 ⟨B2, d2, rfl, ho, hb⟩
  have F3 := Lib.hid (fm_below F2.out hb)
  have OA3 := Lib.hid (own_below OA.out hb)
  have OB := Lib.hid ho
  have z3 := hb.size
  clear hb ho
  go_wp2_with fail
  refine (cloneN_any B m d us _ (nr_below H.out F3.out.below) hm).mono ?_
  rintro e w4 ⟨C2, f2, rfl, ho, hb⟩
  have F4 := Lib.hid (fm_below F3.out hb)
  have z4 := hb.size
  have LL := Lib.hid (lo_new (own_below OA3.out hb) (own_below OB.out hb) ho (fun b e => ⟨(OA.out.lt b e).2, by have := (OA.out.lt b e).2; omega⟩) (fun b e => (OB.out.lt b e).2) (by omega) (by omega) (by omega))
  clear hb ho F2 F3 OA OA3 OB
  have XB := Lib.hid (show Blk (w4.alloc (.cells #[.slice A2 4 4, .slice B2 m d2, .slice C2 m f2] 35)) w4.heap.size 35 #[.slice A2 4 4, .slice B2 m d2, .slice C2 m f2] from blk_new w4 _ _)
  have F5 := Lib.hid (fm_alloc F4.out (.cells #[.slice A2 4 4, .slice B2 m d2, .slice C2 m f2] 35))
  have L5 := Lib.hid (lo_below LL.out (below_alloc (Below.refl _ _) (.cells #[.slice A2 4 4, .slice B2 m d2, .slice C2 m f2] 35)))
  go_wp2_with fail
  refine (lanI_any A2 4 4 B2 m d2 C2 m f2 (newN q us) _ (lo_lr L5.out (by omega) (by omega) (by omega))).mono ?_
  rintro e w5 ⟨rfl, hb⟩
  have F6 := Lib.hid (fm_below F5.out hb)
  have L6 := Lib.hid (lo_below L5.out hb)
  have X6 := Lib.hid (blk_below XB.out hb (blk_lt XB.out))
  have z5 := hb.size
  simp at z5
  clear hb F F4 F5 XB L5 LL
  obtain ⟨⟨o0, o1, o2⟩, f0, f1, f2'⟩ := blk_three (fm_blk F6.out 0 rfl)
  have zo := blk_lt (fm_blk F6.out 0 rfl)
  have hne : w4.heap.size ≠ w.heap.size := by omega
  have zx := blk_lt X6.out
  obtain ⟨⟨x0, x1, x2⟩, -⟩ := blk_three X6.out
  rcases hv : lvB (newN q us) with _ | _
  · have HN := Lib.hid (show ¬ NwOk q us from fun hk => lv_not hv (lv_new hk))
    clear hv
    go_wp2
    refine bodyPost_ret (v := .tuple #[.agg #[.slice none 0 0, .slice none 0 0, .slice none 0 0], .bool false]) (by simp [results, Try.results29, go_sem, o0, o1, o2]) rfl ⟨fun hk => absurd hk HN.out, fun _ => ⟨rfl, ?_⟩⟩
    repeat refine Below.setCell ?_ (by simp <;> omega) _
    exact F6.out.below
  · have HN := Lib.hid (nw_of (lv_iff.1 hv))
    clear hv
    go_wp2
    refine bodyPost_ret (v := .tuple #[.agg #[.slice A2 4 4, .slice B2 m d2, .slice C2 m f2], .bool true]) (by simp [results, Try.results29, go_sem, o0, o1, o2]) rfl ⟨fun _ => ⟨A2, 4, 4, B2, m, d2, C2, m, f2, List.replicate 4 ⟨q, none, 0, 0⟩, fun _ => (w4.heap.size, w4.heap.size), rfl, by simp [newN], HL.out.symm, HL.out.symm, ?_, fun j hj => absurd hj (by simp), ?_⟩, fun hk => absurd HN.out hk⟩
    · exact lo_mono (lo_far (lo_far (lo_far L6.out (by simp) (fun k hk => absurd hk (by simp)) _) (by simp) (fun k hk => absurd hk (by simp)) _) (by simp) (fun k hk => absurd hk (by simp)) _) (by omega)
    · repeat refine Below.setCell ?_ (by simp <;> omega) _
      exact F6.out.below
end Go.Proofs.Ytanaeebjcbbagaa
