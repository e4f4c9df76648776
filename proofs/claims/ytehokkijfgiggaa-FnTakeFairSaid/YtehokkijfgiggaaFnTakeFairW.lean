/-
  The law FnTakeFair returns true at every argument: as long as two peers wait, neither gets more than the other by more than two quanta, two packets and what was left to both. Conditions: none.
-/
import Derived.Test.YtehokkijfgiggaaLift
import Derived.Test.YtehokkijfgiggaaRDr
import Derived.Test.YtehokkijfgiggaaC1
import Derived.Test.YtehokkijfgiggaaC1c
import Derived.Test.YtehokkijfgiggaaR3
namespace Go.Proofs.Ytehokkijfgiggaa.fnTakeFair
open Go.ChangeShapes Go.WideShapes Go.ChangeAt Go.RowKit

/-- how far the turns of two peers, u before v, are apart -/
def CJ (j : Int) (mu mv : Bool) : Prop := j = 0 ∨ (j = 1 ∧ (mu = true ∨ mv = false)) ∨ (j = 2 ∧ mu = true ∧ mv = false) ∨ (j = -1 ∧ mu = false)
structure Turn (q pu pv U V e : Int) (gs l1 : List Flw) (u : Flw) (l2 : List Flw) (v : Flw) (l3 : List Flw) (j : Int) : Prop where
  is : gs = l1 ++ u :: (l2 ++ v :: l3)
  pu : u.peer = pu
  pv : v.peer = pv
  c : CJ j (may u) (may v)
  eq : (U + u.dfc) - (V + v.dfc) = e + j * q
def TurnE (q pu pv U V e : Int) (gs : List Flw) : Prop := ∃ l1 u l2 v l3 j, Turn q pu pv U V e gs l1 u l2 v l3 j
def Fair (q pa pb X Y e : Int) (gs : List Flw) : Prop := TurnE q pa pb X Y e gs ∨ TurnE q pb pa Y X (-e - q) gs
theorem cj_rot {j : Int} {mv : Bool} (h : CJ j false mv) : CJ (-j) mv false := by
  unfold CJ at *
  cases mv <;> simp at h ⊢ <;> omega
theorem cj_add {j : Int} {mv : Bool} (h : CJ j false mv) : CJ (j + 1) true mv := by
  unfold CJ at *
  cases mv <;> simp at h ⊢ <;> omega
theorem cj_go {j : Int} {mv : Bool} (h : CJ j true mv) : CJ (1 - j) mv false := by
  unfold CJ at *
  cases mv <;> simp at h ⊢ <;> omega
/-- a flow that may not send goes behind the others -/
theorem ord_rot {q pu pv U V e : Int} {h : Flw} {r : List Flw} (H : TurnE q pu pv U V e (h :: r)) (hm : may h = false) (ha : may (addq q h) = false) :
    TurnE q pu pv U V e (r ++ [addq q h]) ∨ TurnE q pv pu V U (-e - q) (r ++ [addq q h]) := by
  obtain ⟨l1, u, l2, v, l3, j, O⟩ := H
  have his := O.is
  cases l1 with
  | nil =>
    simp only [List.nil_append, List.cons.injEq] at his
    obtain ⟨rfl, rfl⟩ := his
    refine .inr ⟨l2, v, l3, addq q h, [], -j, by simp, O.pv, O.pu, ?_, ?_⟩
    · have c := O.c
      rw [hm] at c
      rw [ha]
      exact cj_rot c
    · have := O.eq
      have := Int.neg_mul j q
      simp only [addq]
      omega
  | cons x l1 =>
    simp only [List.cons_append, List.cons.injEq] at his
    obtain ⟨rfl, rfl⟩ := his
    exact .inl ⟨l1, u, l2, v, l3 ++ [addq q h], j, by simp, O.pu, O.pv, O.c, O.eq⟩
theorem ord_add {q pu pv U V e : Int} {h : Flw} {r : List Flw} (H : TurnE q pu pv U V e (h :: r)) (hm : may h = false) (ha : may (addq q h) = true) : TurnE q pu pv U V e (addq q h :: r) := by
  obtain ⟨l1, u, l2, v, l3, j, O⟩ := H
  have his := O.is
  cases l1 with
  | nil =>
    simp only [List.nil_append, List.cons.injEq] at his
    obtain ⟨rfl, rfl⟩ := his
    refine ⟨[], addq q h, l2, v, l3, j + 1, rfl, O.pu, O.pv, ?_, ?_⟩
    · have c := O.c
      rw [hm] at c
      rw [ha]
      exact cj_add c
    · have := O.eq
      have := Int.add_mul j 1 q
      simp only [addq]
      omega
  | cons x l1 =>
    simp only [List.cons_append, List.cons.injEq] at his
    obtain ⟨rfl, rfl⟩ := his
    exact ⟨addq q h :: l1, u, l2, v, l3, j, rfl, O.pu, O.pv, O.c, O.eq⟩
theorem flipE (e q : Int) : -(-e - q) - q = e := by omega
theorem fair_rot {q pa pb X Y e : Int} {h : Flw} {r : List Flw} (H : Fair q pa pb X Y e (h :: r)) (hm : may h = false) (ha : may (addq q h) = false) : Fair q pa pb X Y e (r ++ [addq q h]) := by
  rcases H with H | H
  · exact ord_rot H hm ha
  · have := ord_rot H hm ha
    rw [flipE] at this
    exact this.symm
theorem fair_add {q pa pb X Y e : Int} {h : Flw} {r : List Flw} (H : Fair q pa pb X Y e (h :: r)) (hm : may h = false) (ha : may (addq q h) = true) : Fair q pa pb X Y e (addq q h :: r) := by
  rcases H with H | H
  · exact .inl (ord_add H hm ha)
  · exact .inr (ord_add H hm ha)
theorem fair_turned {q pa pb X Y e : Int} : ∀ (n : Nat) (fs : List Flw), need fs ≤ n → RV q fs → fs ≠ [] → Fair q pa pb X Y e fs → Fair q pa pb X Y e (turned q fs) := by
  intro n
  induction n with
  | zero =>
    intro fs hn h h0 H
    cases fs with
    | nil => exact absurd rfl h0
    | cons f r =>
      rcases hm : may f with _ | _
      · have := need_rot h hm; omega
      · rw [turned_may hm]; exact H
  | succ n ih =>
    intro fs hn h h0 H
    cases fs with
    | nil => exact absurd rfl h0
    | cons f r =>
      rcases hm : may f with _ | _
      · have hnr := need_rot h hm
        rcases ha : may (addq q f) with _ | _
        · rw [turned_rot h hm ha]
          exact ih (r ++ [addq q f]) (by omega) (rv_rot h hm) (by simp) (fair_rot H hm ha)
        · rw [turned_add h hm ha]; exact fair_add H hm ha
      · rw [turned_may hm]; exact H
theorem low_dfc {q : Int} {f : Flw} (h : VF q f) (hm : may f = false) : f.dfc < 100 := by
  obtain ⟨p, ws, hw, h1, h2, -⟩ := vf_wait h
  rw [may_of hw, decide_eq_false_iff_not] at hm
  omega
/-- the bytes that a peer has got, with those of one more packet -/
def got (p : Pkt) (x X : Int) : Int := if p.peer = x then X + p.size else X
theorem got_yes {p : Pkt} {x X : Int} (h : p.peer = x) : got p x X = X + p.size := if_pos h
theorem got_no {p : Pkt} {x X : Int} (h : ¬ p.peer = x) : got p x X = X := if_neg h
theorem ord_bound {q pu pv U V e : Int} {f : Flw} {r : List Flw} {p : Pkt} (H : TurnE q pu pv U V e (f :: r)) (hv : RV q (f :: r)) (hm : may f = true) (hp : p.peer = f.peer) (hs : p.size ≤ f.dfc) (hs1 : 1 ≤ p.size) :
    got p pu U - got p pv V ≤ e + 2 * q + 99 ∧ got p pv V - got p pu U ≤ -e + q + 99 := by
  obtain ⟨l1, u, l2, v, l3, j, O⟩ := H
  have his := O.is
  have hq := hv.q0
  have hu := hv.all u (by rw [his]; simp)
  have hvv := hv.all v (by rw [his]; simp)
  have ha := hv.apart
  rw [his] at ha
  have u0 := hu.d0
  have u1 := hu.d1
  have v0 := hvv.d0
  have v1 := hvv.d1
  have lu := low_dfc hu
  have lv := low_dfc hvv
  have heq := O.eq
  have huv : u.peer ≠ v.peer := by
    have := (List.pairwise_cons.1 (List.pairwise_append.1 ha).2.1).1
    exact this v (by simp)
  cases l1 with
  | nil =>
    simp only [List.nil_append, List.cons.injEq] at his
    obtain ⟨rfl, rfl⟩ := his
    rw [got_yes (hp.trans O.pu), got_no (by rw [hp, ← O.pv]; exact huv)]
    have c := O.c
    rw [hm] at c
    rcases c with rfl | ⟨rfl, -⟩ | ⟨rfl, -, hv2⟩ | ⟨-, hu2⟩
    · omega
    · omega
    · have := lv hv2; omega
    · cases hu2
  | cons x l1 =>
    simp only [List.cons_append, List.cons.injEq] at his
    obtain ⟨rfl, rfl⟩ := his
    have hx := (List.pairwise_cons.1 ha).1
    have hx1 := hx u (by simp)
    have hx2 := hx v (by simp)
    rw [got_no (by rw [hp, ← O.pu]; exact hx1), got_no (by rw [hp, ← O.pv]; exact hx2)]
    rcases O.c with rfl | ⟨rfl, -⟩ | ⟨rfl, -, hv2⟩ | ⟨rfl, hu2⟩
    · omega
    · omega
    · have := lv hv2; omega
    · have := lu hu2; omega
theorem ord_gone {q pu pv U V e : Int} {f : Flw} {r : List Flw} (H : TurnE q pu pv U V e (f :: r)) (h : ¬ f.peer = pu) : TurnE q pu pv U V e r := by
  obtain ⟨l1, u, l2, v, l3, j, O⟩ := H
  have his := O.is
  cases l1 with
  | nil =>
    simp only [List.nil_append, List.cons.injEq] at his
    obtain ⟨rfl, rfl⟩ := his
    exact absurd O.pu h
  | cons x l1 =>
    simp only [List.cons_append, List.cons.injEq] at his
    obtain ⟨rfl, rfl⟩ := his
    exact ⟨l1, u, l2, v, l3, j, rfl, O.pu, O.pv, O.c, O.eq⟩
/-- the flow in turn has sent one packet -/
theorem ord_send {q pu pv U V e : Int} {f : Flw} {r : List Flw} {p : Pkt} {ws : List Pkt} (H : TurnE q pu pv U V e (f :: r)) (hv : RV q (f :: r)) (hm : may f = true) (hp : p.peer = f.peer) :
    (may (spend f p ws) = true → TurnE q pu pv (got p pu U) (got p pv V) e (spend f p ws :: r)) ∧
    (may (spend f p ws) = false → TurnE q pu pv (got p pu U) (got p pv V) e (r ++ [spend f p ws]) ∨ TurnE q pv pu (got p pv V) (got p pu U) (-e - q) (r ++ [spend f p ws])) := by
  obtain ⟨l1, u, l2, v, l3, j, O⟩ := H
  have his := O.is
  have ha := hv.apart
  rw [his] at ha
  have huv : u.peer ≠ v.peer := by
    have := (List.pairwise_cons.1 (List.pairwise_append.1 ha).2.1).1
    exact this v (by simp)
  cases l1 with
  | nil =>
    simp only [List.nil_append, List.cons.injEq] at his
    obtain ⟨rfl, rfl⟩ := his
    rw [got_yes (hp.trans O.pu), got_no (by rw [hp, ← O.pv]; exact huv)]
    have c := O.c
    rw [hm] at c
    have heq := O.eq
    refine ⟨fun h => ⟨[], spend f p ws, l2, v, l3, j, rfl, O.pu, O.pv, by rw [h]; exact c, ?_⟩, fun h => .inr ⟨l2, v, l3, spend f p ws, [], 1 - j, by simp, O.pv, O.pu, by rw [h]; exact cj_go c, ?_⟩⟩
    · simp only [spend]; omega
    · have := Int.sub_mul 1 j q
      simp only [spend]; omega
  | cons x l1 =>
    simp only [List.cons_append, List.cons.injEq] at his
    obtain ⟨rfl, rfl⟩ := his
    have hx := (List.pairwise_cons.1 ha).1
    have hx1 := hx u (by simp)
    have hx2 := hx v (by simp)
    rw [got_no (by rw [hp, ← O.pu]; exact hx1), got_no (by rw [hp, ← O.pv]; exact hx2)]
    exact ⟨fun _ => ⟨spend f p ws :: l1, u, l2, v, l3, j, rfl, O.pu, O.pv, O.c, O.eq⟩, fun _ => .inl ⟨l1, u, l2, v, l3 ++ [spend f p ws], j, by simp, O.pu, O.pv, O.c, O.eq⟩⟩
theorem fair_next {q pa pb X Y e : Int} {gs : List Flw} (hv : RV q gs) (h0 : gs ≠ []) (H : Fair q pa pb X Y e gs) :
    ((got (nxP q gs) pa X - got (nxP q gs) pb Y ≤ e + 2 * q + 99 ∧ got (nxP q gs) pb Y - got (nxP q gs) pa X ≤ -e + 2 * q + 99) ∧
    (wOf (nxL q gs) pa ≠ [] → wOf (nxL q gs) pb ≠ [] → Fair q pa pb (got (nxP q gs) pa X) (got (nxP q gs) pb Y) e (nxL q gs))) := by
  obtain ⟨f, r, p, ws, N⟩ := nexted_is hv h0
  have HT := fair_turned _ gs (Nat.le_refl _) hv h0 H
  rw [N.t.is] at HT
  have hvr := N.t.rv
  have hm := N.t.may
  have hpp := N.pp
  have hq := hv.q0
  rw [N.isP]
  refine ⟨?_, fun ha hb => ?_⟩
  · rcases HT with HT | HT
    · have := ord_bound HT hvr hm hpp N.le N.s1; omega
    · have := ord_bound HT hvr hm hpp N.le N.s1; omega
  · rw [N.isL] at ha hb ⊢
    have hp := (rv_head hvr).2
    by_cases hz : ws.length = 0
    · rw [if_pos hz] at ha hb ⊢
      have hna : ¬ f.peer = pa := fun e => ha (w_none fun g hg k => hp g hg (e.trans k.symm))
      have hnb : ¬ f.peer = pb := fun e => hb (w_none fun g hg k => hp g hg (e.trans k.symm))
      rw [got_no (by rw [hpp]; exact hna), got_no (by rw [hpp]; exact hnb)]
      rcases HT with HT | HT
      · exact .inl (ord_gone HT hna)
      · exact .inr (ord_gone HT hnb)
    · rw [if_neg hz]
      rcases hs : may (spend f p ws) with _ | _
      · rw [if_neg (by simp)]
        rcases HT with HT | HT
        · exact (ord_send (ws := ws) HT hvr hm hpp).2 hs
        · have := (ord_send (ws := ws) HT hvr hm hpp).2 hs
          rw [flipE] at this
          exact this.symm
      · rw [if_pos (by simp)]
        rcases HT with HT | HT
        · exact .inl ((ord_send (ws := ws) HT hvr hm hpp).1 hs)
        · exact .inr ((ord_send (ws := ws) HT hvr hm hpp).1 hs)
theorem fair_first {q : Int} {a b : Flw} {r : List Flw} : Fair q a.peer b.peer 0 0 (a.dfc - b.dfc) (a :: b :: r) :=
  .inl ⟨[], a, [], b, r, 0, rfl, rfl, rfl, .inl rfl, by omega⟩

/-- the loop: how many have been taken, what is left, what the two have got -/
structure TfS (q : Int) (a b : Flw) (ts : List Pkt) (k : Nat) (gs : List Flw) (X Y : Int) : Prop where
  rv : RV q gs
  rest : ts.drop k = takeA q gs
  x0 : 0 ≤ X
  x1 : X ≤ 100 * k
  y0 : 0 ≤ Y
  y1 : Y ≤ 100 * k
  fair : wOf gs a.peer ≠ [] → wOf gs b.peer ≠ [] → Fair q a.peer b.peer X Y (a.dfc - b.dfc) gs
structure TfN (q : Int) (a b : Flw) (ts : List Pkt) (k : Nat) (gs : List Flw) (X Y : Int) (p : Pkt) : Prop where
  at_ : ts[k]? = some p
  s : TfS q a b ts (k + 1) (nxL q gs) (got p a.peer X) (got p b.peer Y)
  wa : wOf gs a.peer = if p.peer = a.peer then p :: wOf (nxL q gs) a.peer else wOf (nxL q gs) a.peer
  wb : wOf gs b.peer = if p.peer = b.peer then p :: wOf (nxL q gs) b.peer else wOf (nxL q gs) b.peer
  d1 : got p a.peer X - got p b.peer Y ≤ a.dfc - b.dfc + 2 * q + 99
  d2 : got p b.peer Y - got p a.peer X ≤ -(a.dfc - b.dfc) + 2 * q + 99
  s0 : 1 ≤ p.size
  s1 : p.size ≤ 100
theorem got_bd {p : Pkt} {x X : Int} {k : Nat} (h0 : 0 ≤ X) (h1 : X ≤ 100 * k) (s0 : 1 ≤ p.size) (s1 : p.size ≤ 100) : 0 ≤ got p x X ∧ got p x X ≤ 100 * ((k + 1 : Nat) : Int) := by
  unfold got
  split <;> omega
theorem tf_next {q : Int} {a b : Flw} {ts : List Pkt} {k : Nat} {gs : List Flw} {X Y : Int} (S : TfS q a b ts k gs X Y) (ha : wOf gs a.peer ≠ []) (hb : wOf gs b.peer ≠ []) : ∃ p, TfN q a b ts k gs X Y p := by
  have h0 : gs ≠ [] := fun e => ha (by rw [e]; rfl)
  obtain ⟨f, r, p, ws, N⟩ := nexted_is S.rv h0
  have hr := S.rest
  rw [takeA_cons S.rv h0] at hr
  have hk : ts[k]? = some (nxP q gs) := by
    have := congrArg (fun l : List Pkt => l[0]?) hr
    simpa using this
  have hd : ts.drop (k + 1) = takeA q (nxL q gs) := by
    have := congrArg List.tail hr
    simpa using this
  obtain ⟨⟨e1, e2⟩, e3⟩ := fair_next S.rv h0 (S.fair ha hb)
  have s0 : 1 ≤ (nxP q gs).size := by rw [N.isP]; exact N.s1
  have s1 : (nxP q gs).size ≤ 100 := by rw [N.isP]; exact N.s2
  obtain ⟨g0, g1⟩ := got_bd (p := nxP q gs) (x := a.peer) S.x0 S.x1 s0 s1
  obtain ⟨g2, g3⟩ := got_bd (p := nxP q gs) (x := b.peer) S.y0 S.y1 s0 s1
  refine ⟨nxP q gs, hk, ⟨N.rv, hd, g0, g1, g2, g3, e3⟩, ?_, ?_, e1, e2, s0, s1⟩
  · have := w_next N a.peer; rw [N.isP]; exact this
  · have := w_next N b.peer; rw [N.isP]; exact this
theorem wo_len {q : Int} {fs : List Flw} (h : RV q fs) (x : Int) : (wOf fs x).length ≤ 64 := by
  by_cases hlt : fix fs x < fs.length
  · obtain ⟨f, hf, hw, -⟩ := leave_some hlt
    rw [hw]
    exact (ok_of (h.all f (List.mem_of_getElem? hf)).ok).1
  · rw [w_far hlt]; simp
def TfRel (w : World) (q : Int) (a b : Flw) (Aa : Option Addr) (na ca : Nat) (Ab : Option Addr) (nb cb : Nat) (ts : List Pkt) (n2 : Nat) (x y m n i : Value) (wr : World) : Prop :=
  ∃ (k : Nat) (gs : List Flw) (X Y M N : Int), k ≤ n2 ∧ i = .int .i64 (k : Int) ∧ x = .int .i64 X ∧ y = .int .i64 Y ∧ m = .int .i64 M ∧ n = .int .i64 N ∧ M = ((wOf gs a.peer).length : Int) ∧ N = ((wOf gs b.peer).length : Int) ∧ TfS q a b ts k gs X Y ∧
    Blk wr w.heap.size 40 #[.int .i64 a.peer, .int .i64 a.dfc, (.slice Aa na ca)] ∧ Blk wr (w.heap.size + 1) 40 #[.int .i64 b.peer, .int .i64 b.dfc, (.slice Ab nb cb)] ∧ Below w.heap.size w wr
set_option maxRecDepth 100000 in
set_option maxHeartbeats 8000000 in
theorem walk (A : Option Addr) (n c : Nat) (w : World) (h : Bytes w A n c) :
    Calls Try.prog 4 #[.slice A n c] w fun e w' => e = .returned (.bool true) ∧ Below w.heap.size w w' := by
  have HB := Lib.hid h
  clear h
  by_cases hbig : ¬ n ≤ 1048576
  · go_enter Try.func4, Try.ntmps4
    go_wp2
    go_ret
    exact ⟨rfl, Below.refl _ _⟩
  have hbig' : n ≤ 1048576 := by omega
  clear hbig
  go_enter Try.func4, Try.ntmps4
  go_wp2_with fail
  refine (drawTakeAll_any A n c _ HB.out).mono ?_
  rintro e w1 ⟨x1, A1, n1, c1, fs, rfl, -, hf, hb⟩
  obtain ⟨hc1, hf1⟩ := bcell hb
  have B1 := Lib.hid (show Below w.heap.size w w1 from (by first | exact below_seq (Below.refl w.heap.size w) hb | exact below_seq1 (Below.refl w.heap.size w) hb | exact below_seq2 (Below.refl w.heap.size w) hb | exact below_seq3 (Below.refl w.heap.size w) hb | exact below_seq4 (Below.refl w.heap.size w) hb))
  have R1 := Lib.hid hb
  have hz1 := hb.size
  try simp at hz1
  clear hb
  have H := Lib.hid (frx_fr hf)
  clear hf
  by_cases hv : RV x1 fs
  · have HV := Lib.hid hv
    obtain ⟨ts, hts⟩ : ∃ ts, ts = takeA x1 fs := ⟨_, rfl⟩
    have HT := Lib.hid hts
    have HL : ts.length ≤ 512 := by rw [hts, takeA_len fs hv]; have := total_le hv; have := rv_len hv; omega
    have hq0 := hv.q0
    have hq1 := hv.q1
    clear hv hts
    go_wp2_with fail
    refine (taI_yes x1 A1 n1 c1 fs _ (by first | with_reducible exact H.out | with_reducible exact fr_allocF H.out _ | with_reducible exact fr_allocF (fr_allocF H.out _) _ | with_reducible exact fr_allocF (fr_allocF (fr_allocF H.out _) _) _) HV.out).mono ?_
    rintro e w2 ⟨A2, n2, c2, rfl, hn2, ho2, hb⟩
    obtain ⟨hc2, hf2⟩ := bcell hb
    have B2 := Lib.hid (show Below w.heap.size w w2 from (by first | exact below_seq B1.out hb | exact below_seq1 B1.out hb | exact below_seq2 B1.out hb | exact below_seq3 B1.out hb | exact below_seq4 B1.out hb))
    have R2 := Lib.hid hb
    have hz2 := hb.size
    try simp at hz2
    clear hb
    try have y20 : w.heap.size < w2.heap.size := by omega
    try have y20a : w.heap.size + 1 < w2.heap.size := by omega
    try have y20b : w.heap.size < w2.heap.size + 1 + 1 := by omega
    try have y20c : w.heap.size + 1 < w2.heap.size + 1 + 1 := by omega
    try have y21 : w1.heap.size < w2.heap.size := by omega
    try have y21a : w1.heap.size + 1 < w2.heap.size := by omega
    try have y21b : w1.heap.size < w2.heap.size + 1 + 1 := by omega
    try have y21c : w1.heap.size + 1 < w2.heap.size + 1 + 1 := by omega
    rw [← HT.out] at hn2 ho2
    have G := Lib.hid (pr_own ho2)
    have l2 : n2 ≤ 512 := by omega
    have HN2 := Lib.hid hn2
    clear ho2 hn2
    replace H := Lib.hid (show FR w2 _ _ _ from (by first | with_reducible exact fr_belowF H.out R2.out | with_reducible exact fr_belowF (fr_allocF H.out _) R2.out | with_reducible exact fr_belowF (fr_allocF (fr_allocF H.out _) _) R2.out | with_reducible exact fr_belowF (fr_allocF (fr_allocF (fr_allocF H.out _) _) _) R2.out))
    go_wp2_with fail
    refine (taS_yes x1 A1 n1 c1 fs _ (by first | with_reducible exact H.out | with_reducible exact fr_allocF H.out _ | with_reducible exact fr_allocF (fr_allocF H.out _) _ | with_reducible exact fr_allocF (fr_allocF (fr_allocF H.out _) _) _) HV.out).mono ?_
    rintro e w3 ⟨A3, n3, c3, rfl, hn3, ho3, hb⟩
    obtain ⟨hc3, hf3⟩ := bcell hb
    have B3 := Lib.hid (show Below w.heap.size w w3 from (by first | exact below_seq B2.out hb | exact below_seq1 B2.out hb | exact below_seq2 B2.out hb | exact below_seq3 B2.out hb | exact below_seq4 B2.out hb))
    have R3 := Lib.hid hb
    have hz3 := hb.size
    try simp at hz3
    clear hb
    try have y30 : w.heap.size < w3.heap.size := by omega
    try have y30a : w.heap.size + 1 < w3.heap.size := by omega
    try have y30b : w.heap.size < w3.heap.size + 1 + 1 := by omega
    try have y30c : w.heap.size + 1 < w3.heap.size + 1 + 1 := by omega
    try have y31 : w1.heap.size < w3.heap.size := by omega
    try have y31a : w1.heap.size + 1 < w3.heap.size := by omega
    try have y31b : w1.heap.size < w3.heap.size + 1 + 1 := by omega
    try have y31c : w1.heap.size + 1 < w3.heap.size + 1 + 1 := by omega
    try have y32 : w2.heap.size < w3.heap.size := by omega
    try have y32a : w2.heap.size + 1 < w3.heap.size := by omega
    try have y32b : w2.heap.size < w3.heap.size + 1 + 1 := by omega
    try have y32c : w2.heap.size + 1 < w3.heap.size + 1 + 1 := by omega
    rw [← HT.out] at hn3 ho3
    have K := Lib.hid (pr_own ho3)
    have l3 : n3 ≤ 512 := by omega
    clear ho3 hn3
    replace H := Lib.hid (show FR w3 _ _ _ from (by first | with_reducible exact fr_belowF H.out R3.out | with_reducible exact fr_belowF (fr_allocF H.out _) R3.out | with_reducible exact fr_belowF (fr_allocF (fr_allocF H.out _) _) R3.out | with_reducible exact fr_belowF (fr_allocF (fr_allocF (fr_allocF H.out _) _) _) R3.out))
    replace G := Lib.hid (show PR w3 _ _ _ from (by first | with_reducible exact pr_below G.out R3.out | with_reducible exact pr_below (pr_alloc G.out _) R3.out | with_reducible exact pr_below (pr_alloc (pr_alloc G.out _) _) R3.out | with_reducible exact pr_below (pr_alloc (pr_alloc (pr_alloc G.out _) _) _) R3.out))
    go_wp2_with fail
    refine (sameI_any A2 A3 n2 c2 n3 c3 ts ts _ (by first | with_reducible exact G.out | with_reducible exact pr_alloc G.out _ | with_reducible exact pr_alloc (pr_alloc G.out _) _ | with_reducible exact pr_alloc (pr_alloc (pr_alloc G.out _) _) _) (by first | with_reducible exact K.out | with_reducible exact pr_alloc K.out _ | with_reducible exact pr_alloc (pr_alloc K.out _) _ | with_reducible exact pr_alloc (pr_alloc (pr_alloc K.out _) _) _) (by omega) (by omega)).mono ?_
    rintro e w4 ⟨rfl, hb⟩
    obtain ⟨hc4, hf4⟩ := bcell hb
    have B4 := Lib.hid (show Below w.heap.size w w4 from (by first | exact below_seq B3.out hb | exact below_seq1 B3.out hb | exact below_seq2 B3.out hb | exact below_seq3 B3.out hb | exact below_seq4 B3.out hb))
    have R4 := Lib.hid hb
    have hz4 := hb.size
    try simp at hz4
    clear hb
    try have y40 : w.heap.size < w4.heap.size := by omega
    try have y40a : w.heap.size + 1 < w4.heap.size := by omega
    try have y40b : w.heap.size < w4.heap.size + 1 + 1 := by omega
    try have y40c : w.heap.size + 1 < w4.heap.size + 1 + 1 := by omega
    try have y41 : w1.heap.size < w4.heap.size := by omega
    try have y41a : w1.heap.size + 1 < w4.heap.size := by omega
    try have y41b : w1.heap.size < w4.heap.size + 1 + 1 := by omega
    try have y41c : w1.heap.size + 1 < w4.heap.size + 1 + 1 := by omega
    try have y42 : w2.heap.size < w4.heap.size := by omega
    try have y42a : w2.heap.size + 1 < w4.heap.size := by omega
    try have y42b : w2.heap.size < w4.heap.size + 1 + 1 := by omega
    try have y42c : w2.heap.size + 1 < w4.heap.size + 1 + 1 := by omega
    try have y43 : w3.heap.size < w4.heap.size := by omega
    try have y43a : w3.heap.size + 1 < w4.heap.size := by omega
    try have y43b : w3.heap.size < w4.heap.size + 1 + 1 := by omega
    try have y43c : w3.heap.size + 1 < w4.heap.size + 1 + 1 := by omega
    rw [← same_yes rfl]
    replace H := Lib.hid (show FR w4 _ _ _ from (by first | with_reducible exact fr_belowF H.out R4.out | with_reducible exact fr_belowF (fr_allocF H.out _) R4.out | with_reducible exact fr_belowF (fr_allocF (fr_allocF H.out _) _) R4.out | with_reducible exact fr_belowF (fr_allocF (fr_allocF (fr_allocF H.out _) _) _) R4.out))
    replace G := Lib.hid (show PR w4 _ _ _ from (by first | with_reducible exact pr_below G.out R4.out | with_reducible exact pr_below (pr_alloc G.out _) R4.out | with_reducible exact pr_below (pr_alloc (pr_alloc G.out _) _) R4.out | with_reducible exact pr_below (pr_alloc (pr_alloc (pr_alloc G.out _) _) _) R4.out))
    have hl1 := (fr_lenF H.out).1
    rcases hfs : fs with _ | ⟨a, _ | ⟨b, r⟩⟩
    · obtain rfl : n1 = 0 := by rw [hfs] at hl1; simpa using hl1.symm
      have d : decide (((0 : Nat) : Int) < 2) = true := by simp
      clear hfs hl1
      replace K := Lib.hid (show PR w4 _ _ _ from (by first | with_reducible exact pr_below K.out R4.out | with_reducible exact pr_below (pr_alloc K.out _) R4.out | with_reducible exact pr_below (pr_alloc (pr_alloc K.out _) _) R4.out | with_reducible exact pr_below (pr_alloc (pr_alloc (pr_alloc K.out _) _) _) R4.out))
      go_wp2_with fail
      refine (sameI_any A2 A3 n2 c2 n3 c3 ts ts _ (by first | with_reducible exact G.out | with_reducible exact pr_alloc G.out _ | with_reducible exact pr_alloc (pr_alloc G.out _) _ | with_reducible exact pr_alloc (pr_alloc (pr_alloc G.out _) _) _) (by first | with_reducible exact K.out | with_reducible exact pr_alloc K.out _ | with_reducible exact pr_alloc (pr_alloc K.out _) _ | with_reducible exact pr_alloc (pr_alloc (pr_alloc K.out _) _) _) (by omega) (by omega)).mono ?_
      rintro e w5 ⟨rfl, hb⟩
      obtain ⟨hc5, hf5⟩ := bcell hb
      have B5 := Lib.hid (show Below w.heap.size w w5 from (by first | exact below_seq B4.out hb | exact below_seq1 B4.out hb | exact below_seq2 B4.out hb | exact below_seq3 B4.out hb | exact below_seq4 B4.out hb))
      have R5 := Lib.hid hb
      have hz5 := hb.size
      try simp at hz5
      clear hb
      try have y50 : w.heap.size < w5.heap.size := by omega
      try have y50a : w.heap.size + 1 < w5.heap.size := by omega
      try have y50b : w.heap.size < w5.heap.size + 1 + 1 := by omega
      try have y50c : w.heap.size + 1 < w5.heap.size + 1 + 1 := by omega
      try have y51 : w1.heap.size < w5.heap.size := by omega
      try have y51a : w1.heap.size + 1 < w5.heap.size := by omega
      try have y51b : w1.heap.size < w5.heap.size + 1 + 1 := by omega
      try have y51c : w1.heap.size + 1 < w5.heap.size + 1 + 1 := by omega
      try have y52 : w2.heap.size < w5.heap.size := by omega
      try have y52a : w2.heap.size + 1 < w5.heap.size := by omega
      try have y52b : w2.heap.size < w5.heap.size + 1 + 1 := by omega
      try have y52c : w2.heap.size + 1 < w5.heap.size + 1 + 1 := by omega
      try have y53 : w3.heap.size < w5.heap.size := by omega
      try have y53a : w3.heap.size + 1 < w5.heap.size := by omega
      try have y53b : w3.heap.size < w5.heap.size + 1 + 1 := by omega
      try have y53c : w3.heap.size + 1 < w5.heap.size + 1 + 1 := by omega
      try have y54 : w4.heap.size < w5.heap.size := by omega
      try have y54a : w4.heap.size + 1 < w5.heap.size := by omega
      try have y54b : w4.heap.size < w5.heap.size + 1 + 1 := by omega
      try have y54c : w4.heap.size + 1 < w5.heap.size + 1 + 1 := by omega
      rw [← same_yes rfl]
      go_wp2
      all_goals
        go_ret
        refine ⟨rfl, ?_⟩
        repeat refine below_alloc ?_ _
        exact B5.out
    · obtain rfl : n1 = 1 := by rw [hfs] at hl1; simpa using hl1.symm
      have d : decide (((1 : Nat) : Int) < 2) = true := by simp
      clear hfs hl1
      replace K := Lib.hid (show PR w4 _ _ _ from (by first | with_reducible exact pr_below K.out R4.out | with_reducible exact pr_below (pr_alloc K.out _) R4.out | with_reducible exact pr_below (pr_alloc (pr_alloc K.out _) _) R4.out | with_reducible exact pr_below (pr_alloc (pr_alloc (pr_alloc K.out _) _) _) R4.out))
      go_wp2_with fail
      refine (sameI_any A2 A3 n2 c2 n3 c3 ts ts _ (by first | with_reducible exact G.out | with_reducible exact pr_alloc G.out _ | with_reducible exact pr_alloc (pr_alloc G.out _) _ | with_reducible exact pr_alloc (pr_alloc (pr_alloc G.out _) _) _) (by first | with_reducible exact K.out | with_reducible exact pr_alloc K.out _ | with_reducible exact pr_alloc (pr_alloc K.out _) _ | with_reducible exact pr_alloc (pr_alloc (pr_alloc K.out _) _) _) (by omega) (by omega)).mono ?_
      rintro e w5 ⟨rfl, hb⟩
      obtain ⟨hc5, hf5⟩ := bcell hb
      have B5 := Lib.hid (show Below w.heap.size w w5 from (by first | exact below_seq B4.out hb | exact below_seq1 B4.out hb | exact below_seq2 B4.out hb | exact below_seq3 B4.out hb | exact below_seq4 B4.out hb))
      have R5 := Lib.hid hb
      have hz5 := hb.size
      try simp at hz5
      clear hb
      try have y50 : w.heap.size < w5.heap.size := by omega
      try have y50a : w.heap.size + 1 < w5.heap.size := by omega
      try have y50b : w.heap.size < w5.heap.size + 1 + 1 := by omega
      try have y50c : w.heap.size + 1 < w5.heap.size + 1 + 1 := by omega
      try have y51 : w1.heap.size < w5.heap.size := by omega
      try have y51a : w1.heap.size + 1 < w5.heap.size := by omega
      try have y51b : w1.heap.size < w5.heap.size + 1 + 1 := by omega
      try have y51c : w1.heap.size + 1 < w5.heap.size + 1 + 1 := by omega
      try have y52 : w2.heap.size < w5.heap.size := by omega
      try have y52a : w2.heap.size + 1 < w5.heap.size := by omega
      try have y52b : w2.heap.size < w5.heap.size + 1 + 1 := by omega
      try have y52c : w2.heap.size + 1 < w5.heap.size + 1 + 1 := by omega
      try have y53 : w3.heap.size < w5.heap.size := by omega
      try have y53a : w3.heap.size + 1 < w5.heap.size := by omega
      try have y53b : w3.heap.size < w5.heap.size + 1 + 1 := by omega
      try have y53c : w3.heap.size + 1 < w5.heap.size + 1 + 1 := by omega
      try have y54 : w4.heap.size < w5.heap.size := by omega
      try have y54a : w4.heap.size + 1 < w5.heap.size := by omega
      try have y54b : w4.heap.size < w5.heap.size + 1 + 1 := by omega
      try have y54c : w4.heap.size + 1 < w5.heap.size + 1 + 1 := by omega
      rw [← same_yes rfl]
      go_wp2
      all_goals
        go_ret
        refine ⟨rfl, ?_⟩
        repeat refine below_alloc ?_ _
        exact B5.out
    · have hn1 : 2 ≤ n1 := by rw [hfs] at hl1; simp at hl1; omega
      have d : decide ((n1 : Int) < 2) = false := by simp; omega
      have k0 : (0 : Int) < (n1 : Int) := by omega
      have k1 : (1 : Int) < (n1 : Int) := by omega
      have V0 := HV.out.all a (by rw [hfs]; simp)
      have V1 := HV.out.all b (by rw [hfs]; simp)
      have hap : a.peer ≠ b.peer := by
        have := HV.out.apart
        rw [hfs] at this
        exact (List.pairwise_cons.1 this).1 b (by simp)
      obtain ⟨g, off, f0, Aa, na, ca, rfl, hg, hf0, a0, a1, a2, pa, -, -⟩ := fr_cells (k := 0) H.out (by omega)
      obtain ⟨g', off', f1, Ab, nb, cb, e9, -, hf1, b0, b1, b2, pb, -, -⟩ := fr_cells (k := 1) H.out (by omega)
      obtain ⟨rfl, rfl⟩ : g = g' ∧ off = off' := by injection e9 with e9; injection e9 with a1 a2; exact ⟨a1, a2⟩
      obtain rfl : a = f0 := by rw [hfs] at hf0; simpa using hf0
      obtain rfl : b = f1 := by rw [hfs] at hf1; simpa using hf1
      have wa : wOf fs a.peer = a.ws := w_mem HV.out.apart (by rw [hfs]; simp)
      have wb : wOf fs b.peer = b.ws := w_mem HV.out.apart (by rw [hfs]; simp)
      have la : a.ws.length = na := pa.1
      have lb : b.ws.length = nb := pb.1
      have S0 : Hid (TfS x1 a b ts 0 fs 0 0) := Lib.hid ⟨HV.out, by rw [HT.out]; rfl, by omega, by omega, by omega, by omega, fun _ _ => by rw [hfs]; exact fair_first⟩
      have LA : Hid (na = (wOf fs a.peer).length) := Lib.hid (by rw [wa, la])
      have LB : Hid (nb = (wOf fs b.peer).length) := Lib.hid (by rw [wb, lb])
      have ad0 := V0.d0
      have ad1 := V0.d1
      have bd0 := V1.d0
      have bd1 := V1.d1
      have HAP := Lib.hid hap
      simp only [Nat.zero_mul, Nat.add_zero, Nat.one_mul] at a0 a1 a2 b0 b1 b2
      have TI : Hid (n2 = ts.length) := HN2
      clear hfs V0 V1 hf0 hf1 e9 pa pb wa wb la lb hl1 H hap K
      go_wp2
      go_loopw [10, 11, 12, 13, 14] (fun x y m n i wr => TfRel w4 x1 a b Aa na ca Ab nb cb ts n2 x y m n i wr) (fun _ _ _ _ i _ => n2 - (intOf i).toNat)
      case atStart => exact ⟨0, fs, 0, 0, _, _, Nat.zero_le _, rfl, rfl, rfl, rfl, rfl, by rw [LA.out], by rw [LB.out], S0.out, blk_alloc (blk_new w4 _ _) _, blk_new2 w4 _ _ _, below_alloc (below_alloc (Below.refl _ _) _) _⟩
      case round =>
        obtain ⟨k, gs, X, Y, M, N, hk, rfl, rfl, rfl, rfl, rfl, hM, hN, hS, oa, ob, hbl⟩ := hrel
        have OA := Lib.hid oa
        have OB := Lib.hid ob
        have BL := Lib.hid hbl
        have Br := Lib.hid (below_seq B4.out hbl)
        obtain ⟨⟨oa0, oa1, oa2⟩, -⟩ := blk_three oa
        obtain ⟨⟨ob0, ob1, ob2⟩, -⟩ := blk_three ob
        have r0 : wr.cell? ⟨w1.heap.size, 0, none⟩ = some (.int .i64 x1) := by rw [(bcell hbl).1 _ _ (by omega)]; go_simp
        have hx0 := hS.x0
        have hx1 := hS.x1
        have hy0 := hS.y0
        have hy1 := hS.y1
        have lM : M ≤ 64 := by have := wo_len hS.rv a.peer; omega
        have lN : N ≤ 64 := by have := wo_len hS.rv b.peer; omega
        have HS := Lib.hid hS
        clear S0 LA LB a0 a1 a2 b0 b1 b2 oa ob hS
        by_cases hlt : k < n2
        · have k0' : (0 : Int) ≤ (k : Int) := by omega
          have k1' : (k : Int) < (n2 : Int) := by omega
          by_cases hm0 : M = 0
          · subst hm0
            clear hM hN hbl
            go_wp2
            go_ret
            exact ⟨rfl, Br.out⟩
          by_cases hn0 : N = 0
          · subst hn0
            have e0 : decide (0 < M) = true := by simp; omega
            clear hM hN hbl
            go_wp2
            go_ret
            exact ⟨rfl, Br.out⟩
          have e0 : decide (0 < M) = true := by simp; omega
          have e0' : decide (0 < N) = true := by simp; omega
          obtain ⟨p, hn⟩ := tf_next HS.out (fun e => hm0 (by rw [hM, e]; rfl)) (fun e => hn0 (by rw [hN, e]; rfl))
          obtain ⟨bq, oq, p', rfl, hbq, hp', q0, q1, q2, q3⟩ := pr_at (pr_below G.out hbl) hlt
          obtain rfl : p = p' := Option.some.inj (hn.at_.symm.trans hp')
          have HN := Lib.hid hn
          have ps0 := hn.s0
          have ps1 := hn.s1
          clear hn hp' hbl hm0 hn0
          have z1 : IntKind.i64.wrap (X + p.size) = X + p.size := IntWalk.i64_in _ (by omega)
          have z2 : IntKind.i64.wrap (Y + p.size) = Y + p.size := IntWalk.i64_in _ (by omega)
          have z3 : IntKind.i64.wrap (M - 1) = M - 1 := IntWalk.i64_in _ (by omega)
          have z4 : IntKind.i64.wrap (N - 1) = N - 1 := IntWalk.i64_in _ (by omega)
          have z5 : IntKind.i64.wrap (2 * x1) = 2 * x1 := IntWalk.i64_in _ (by omega)
          have z6 : IntKind.i64.wrap (2 * x1 + 200) = 2 * x1 + 200 := IntWalk.i64_in _ (by omega)
          have z7 : IntKind.i64.wrap (2 * x1 + 200 + a.dfc) = 2 * x1 + 200 + a.dfc := IntWalk.i64_in _ (by omega)
          have z8 : IntKind.i64.wrap (2 * x1 + 200 + a.dfc + b.dfc) = 2 * x1 + 200 + a.dfc + b.dfc := IntWalk.i64_in _ (by omega)
          by_cases ha : p.peer = a.peer
          · have hb : ¬ p.peer = b.peer := fun e => HAP.out (ha.symm.trans e)
            have e1 : (p.peer == a.peer) = true := by simp [ha]
            have e2 : (p.peer == b.peer) = false := by simp [hb]
            have S' := Lib.hid (show TfS x1 a b ts (k + 1) (nxL x1 gs) (X + p.size) (Y) from by have := HN.out.s; rwa [got_yes ha, got_no hb] at this)
            have D1 := HN.out.d1
            have D2 := HN.out.d2
            rw [got_yes ha, got_no hb] at D1 D2
            have MM := Lib.hid (show M - 1 = ((wOf (nxL x1 gs) a.peer).length : Int) from by have := HN.out.wa; rw [if_pos ha] at this; have h2 := congrArg List.length this; (try simp only [List.length_cons] at h2); omega)
            have NN := Lib.hid (show N = ((wOf (nxL x1 gs) b.peer).length : Int) from by have := HN.out.wb; rw [if_neg hb] at this; have h2 := congrArg List.length this; (try simp only [List.length_cons] at h2); omega)
            have z9 : IntKind.i64.wrap (X + p.size - (Y)) = X + p.size - (Y) := IntWalk.i64_in _ (by omega)
            have z10 : IntKind.i64.wrap (Y - (X + p.size)) = Y - (X + p.size) := IntWalk.i64_in _ (by omega)
            have z11 : decide (2 * x1 + 200 + a.dfc + b.dfc < X + p.size - (Y)) = false := by simp; omega
            have z12 : decide (2 * x1 + 200 + a.dfc + b.dfc < Y - (X + p.size)) = false := by simp; omega
            clear D1 D2 ha hb hM hN
            go_wp2_with fail
            go_quiet (fail)
            go_wp2_with fail
            go_quiet (fail)
            go_wp2
            go_roundw
            case rel => exact ⟨k + 1, nxL x1 gs, _, _, _, _, by omega, by go_num, rfl, rfl, rfl, rfl, MM.out, NN.out, S'.out, OA.out, OB.out, below_drewN BL.out _⟩
            case measure => simp [intOf]; omega
          · by_cases hb : p.peer = b.peer
            · skip
              have e1 : (p.peer == a.peer) = false := by simp [ha]
              have e2 : (p.peer == b.peer) = true := by simp [hb]
              have S' := Lib.hid (show TfS x1 a b ts (k + 1) (nxL x1 gs) (X) (Y + p.size) from by have := HN.out.s; rwa [got_no ha, got_yes hb] at this)
              have D1 := HN.out.d1
              have D2 := HN.out.d2
              rw [got_no ha, got_yes hb] at D1 D2
              have MM := Lib.hid (show M = ((wOf (nxL x1 gs) a.peer).length : Int) from by have := HN.out.wa; rw [if_neg ha] at this; have h2 := congrArg List.length this; (try simp only [List.length_cons] at h2); omega)
              have NN := Lib.hid (show N - 1 = ((wOf (nxL x1 gs) b.peer).length : Int) from by have := HN.out.wb; rw [if_pos hb] at this; have h2 := congrArg List.length this; (try simp only [List.length_cons] at h2); omega)
              have z9 : IntKind.i64.wrap (X - (Y + p.size)) = X - (Y + p.size) := IntWalk.i64_in _ (by omega)
              have z10 : IntKind.i64.wrap (Y + p.size - (X)) = Y + p.size - (X) := IntWalk.i64_in _ (by omega)
              have z11 : decide (2 * x1 + 200 + a.dfc + b.dfc < X - (Y + p.size)) = false := by simp; omega
              have z12 : decide (2 * x1 + 200 + a.dfc + b.dfc < Y + p.size - (X)) = false := by simp; omega
              clear D1 D2 ha hb hM hN
              go_wp2_with fail
              go_quiet (fail)
              go_wp2_with fail
              go_quiet (fail)
              go_wp2
              go_roundw
              case rel => exact ⟨k + 1, nxL x1 gs, _, _, _, _, by omega, by go_num, rfl, rfl, rfl, rfl, MM.out, NN.out, S'.out, OA.out, OB.out, below_drewN BL.out _⟩
              case measure => simp [intOf]; omega
            · skip
              have e1 : (p.peer == a.peer) = false := by simp [ha]
              have e2 : (p.peer == b.peer) = false := by simp [hb]
              have S' := Lib.hid (show TfS x1 a b ts (k + 1) (nxL x1 gs) (X) (Y) from by have := HN.out.s; rwa [got_no ha, got_no hb] at this)
              have D1 := HN.out.d1
              have D2 := HN.out.d2
              rw [got_no ha, got_no hb] at D1 D2
              have MM := Lib.hid (show M = ((wOf (nxL x1 gs) a.peer).length : Int) from by have := HN.out.wa; rw [if_neg ha] at this; have h2 := congrArg List.length this; (try simp only [List.length_cons] at h2); omega)
              have NN := Lib.hid (show N = ((wOf (nxL x1 gs) b.peer).length : Int) from by have := HN.out.wb; rw [if_neg hb] at this; have h2 := congrArg List.length this; (try simp only [List.length_cons] at h2); omega)
              have z9 : IntKind.i64.wrap (X - (Y)) = X - (Y) := IntWalk.i64_in _ (by omega)
              have z10 : IntKind.i64.wrap (Y - (X)) = Y - (X) := IntWalk.i64_in _ (by omega)
              have z11 : decide (2 * x1 + 200 + a.dfc + b.dfc < X - (Y)) = false := by simp; omega
              have z12 : decide (2 * x1 + 200 + a.dfc + b.dfc < Y - (X)) = false := by simp; omega
              clear D1 D2 ha hb hM hN
              go_wp2_with fail
              go_quiet (fail)
              go_wp2_with fail
              go_quiet (fail)
              go_wp2
              go_roundw
              case rel => exact ⟨k + 1, nxL x1 gs, _, _, _, _, by omega, by go_num, rfl, rfl, rfl, rfl, MM.out, NN.out, S'.out, OA.out, OB.out, below_drewN BL.out _⟩
              case measure => simp [intOf]; omega
        · obtain rfl : k = n2 := by omega
          clear hM hN hbl
          go_wp2
          go_ret
          exact ⟨rfl, Br.out⟩
  · have HV := Lib.hid hv
    clear hv
    go_wp2_with fail
    refine (taI_no x1 A1 n1 c1 fs _ (by first | with_reducible exact H.out | with_reducible exact fr_allocF H.out _ | with_reducible exact fr_allocF (fr_allocF H.out _) _ | with_reducible exact fr_allocF (fr_allocF (fr_allocF H.out _) _) _) HV.out).mono ?_
    rintro e w2 ⟨A2, c2, rfl, ho2, hb⟩
    obtain ⟨hc2, hf2⟩ := bcell hb
    have B2 := Lib.hid (show Below w.heap.size w w2 from (by first | exact below_seq B1.out hb | exact below_seq1 B1.out hb | exact below_seq2 B1.out hb | exact below_seq3 B1.out hb | exact below_seq4 B1.out hb))
    have R2 := Lib.hid hb
    have hz2 := hb.size
    try simp at hz2
    clear hb
    try have y20 : w.heap.size < w2.heap.size := by omega
    try have y20a : w.heap.size + 1 < w2.heap.size := by omega
    try have y20b : w.heap.size < w2.heap.size + 1 + 1 := by omega
    try have y20c : w.heap.size + 1 < w2.heap.size + 1 + 1 := by omega
    try have y21 : w1.heap.size < w2.heap.size := by omega
    try have y21a : w1.heap.size + 1 < w2.heap.size := by omega
    try have y21b : w1.heap.size < w2.heap.size + 1 + 1 := by omega
    try have y21c : w1.heap.size + 1 < w2.heap.size + 1 + 1 := by omega
    have P2 := Lib.hid (pr_own ho2)
    clear ho2
    replace H := Lib.hid (show FR w2 _ _ _ from (by first | with_reducible exact fr_belowF H.out R2.out | with_reducible exact fr_belowF (fr_allocF H.out _) R2.out | with_reducible exact fr_belowF (fr_allocF (fr_allocF H.out _) _) R2.out | with_reducible exact fr_belowF (fr_allocF (fr_allocF (fr_allocF H.out _) _) _) R2.out))
    go_wp2_with fail
    refine (taS_no x1 A1 n1 c1 fs _ (by first | with_reducible exact H.out | with_reducible exact fr_allocF H.out _ | with_reducible exact fr_allocF (fr_allocF H.out _) _ | with_reducible exact fr_allocF (fr_allocF (fr_allocF H.out _) _) _) HV.out).mono ?_
    rintro e w3 ⟨A3, c3, rfl, ho3, hb⟩
    obtain ⟨hc3, hf3⟩ := bcell hb
    have B3 := Lib.hid (show Below w.heap.size w w3 from (by first | exact below_seq B2.out hb | exact below_seq1 B2.out hb | exact below_seq2 B2.out hb | exact below_seq3 B2.out hb | exact below_seq4 B2.out hb))
    have R3 := Lib.hid hb
    have hz3 := hb.size
    try simp at hz3
    clear hb
    try have y30 : w.heap.size < w3.heap.size := by omega
    try have y30a : w.heap.size + 1 < w3.heap.size := by omega
    try have y30b : w.heap.size < w3.heap.size + 1 + 1 := by omega
    try have y30c : w.heap.size + 1 < w3.heap.size + 1 + 1 := by omega
    try have y31 : w1.heap.size < w3.heap.size := by omega
    try have y31a : w1.heap.size + 1 < w3.heap.size := by omega
    try have y31b : w1.heap.size < w3.heap.size + 1 + 1 := by omega
    try have y31c : w1.heap.size + 1 < w3.heap.size + 1 + 1 := by omega
    try have y32 : w2.heap.size < w3.heap.size := by omega
    try have y32a : w2.heap.size + 1 < w3.heap.size := by omega
    try have y32b : w2.heap.size < w3.heap.size + 1 + 1 := by omega
    try have y32c : w2.heap.size + 1 < w3.heap.size + 1 + 1 := by omega
    have P3 := Lib.hid (pr_own ho3)
    clear ho3
    replace P2 := Lib.hid (show PR w3 _ _ _ from (by first | with_reducible exact pr_below P2.out R3.out | with_reducible exact pr_below (pr_alloc P2.out _) R3.out | with_reducible exact pr_below (pr_alloc (pr_alloc P2.out _) _) R3.out | with_reducible exact pr_below (pr_alloc (pr_alloc (pr_alloc P2.out _) _) _) R3.out))
    go_wp2_with fail
    refine (sameI_any A2 A3 0 c2 0 c3 [] [] _ (by first | with_reducible exact P2.out | with_reducible exact pr_alloc P2.out _ | with_reducible exact pr_alloc (pr_alloc P2.out _) _ | with_reducible exact pr_alloc (pr_alloc (pr_alloc P2.out _) _) _) (by first | with_reducible exact P3.out | with_reducible exact pr_alloc P3.out _ | with_reducible exact pr_alloc (pr_alloc P3.out _) _ | with_reducible exact pr_alloc (pr_alloc (pr_alloc P3.out _) _) _) (by omega) (by omega)).mono ?_
    rintro e w4 ⟨rfl, hb⟩
    obtain ⟨hc4, hf4⟩ := bcell hb
    have B4 := Lib.hid (show Below w.heap.size w w4 from (by first | exact below_seq B3.out hb | exact below_seq1 B3.out hb | exact below_seq2 B3.out hb | exact below_seq3 B3.out hb | exact below_seq4 B3.out hb))
    have R4 := Lib.hid hb
    have hz4 := hb.size
    try simp at hz4
    clear hb
    try have y40 : w.heap.size < w4.heap.size := by omega
    try have y40a : w.heap.size + 1 < w4.heap.size := by omega
    try have y40b : w.heap.size < w4.heap.size + 1 + 1 := by omega
    try have y40c : w.heap.size + 1 < w4.heap.size + 1 + 1 := by omega
    try have y41 : w1.heap.size < w4.heap.size := by omega
    try have y41a : w1.heap.size + 1 < w4.heap.size := by omega
    try have y41b : w1.heap.size < w4.heap.size + 1 + 1 := by omega
    try have y41c : w1.heap.size + 1 < w4.heap.size + 1 + 1 := by omega
    try have y42 : w2.heap.size < w4.heap.size := by omega
    try have y42a : w2.heap.size + 1 < w4.heap.size := by omega
    try have y42b : w2.heap.size < w4.heap.size + 1 + 1 := by omega
    try have y42c : w2.heap.size + 1 < w4.heap.size + 1 + 1 := by omega
    try have y43 : w3.heap.size < w4.heap.size := by omega
    try have y43a : w3.heap.size + 1 < w4.heap.size := by omega
    try have y43b : w3.heap.size < w4.heap.size + 1 + 1 := by omega
    try have y43c : w3.heap.size + 1 < w4.heap.size + 1 + 1 := by omega
    rw [← same_yes rfl]
    replace P2 := Lib.hid (show PR w4 _ _ _ from (by first | with_reducible exact pr_below P2.out R4.out | with_reducible exact pr_below (pr_alloc P2.out _) R4.out | with_reducible exact pr_below (pr_alloc (pr_alloc P2.out _) _) R4.out | with_reducible exact pr_below (pr_alloc (pr_alloc (pr_alloc P2.out _) _) _) R4.out))
    replace P3 := Lib.hid (show PR w4 _ _ _ from (by first | with_reducible exact pr_below P3.out R4.out | with_reducible exact pr_below (pr_alloc P3.out _) R4.out | with_reducible exact pr_below (pr_alloc (pr_alloc P3.out _) _) R4.out | with_reducible exact pr_below (pr_alloc (pr_alloc (pr_alloc P3.out _) _) _) R4.out))
    go_wp2_with fail
    refine (sameI_any A2 A3 0 c2 0 c3 [] [] _ (by first | with_reducible exact P2.out | with_reducible exact pr_alloc P2.out _ | with_reducible exact pr_alloc (pr_alloc P2.out _) _ | with_reducible exact pr_alloc (pr_alloc (pr_alloc P2.out _) _) _) (by first | with_reducible exact P3.out | with_reducible exact pr_alloc P3.out _ | with_reducible exact pr_alloc (pr_alloc P3.out _) _ | with_reducible exact pr_alloc (pr_alloc (pr_alloc P3.out _) _) _) (by omega) (by omega)).mono ?_
    rintro e w5 ⟨rfl, hb⟩
    obtain ⟨hc5, hf5⟩ := bcell hb
    have B5 := Lib.hid (show Below w.heap.size w w5 from (by first | exact below_seq B4.out hb | exact below_seq1 B4.out hb | exact below_seq2 B4.out hb | exact below_seq3 B4.out hb | exact below_seq4 B4.out hb))
    have R5 := Lib.hid hb
    have hz5 := hb.size
    try simp at hz5
    clear hb
    try have y50 : w.heap.size < w5.heap.size := by omega
    try have y50a : w.heap.size + 1 < w5.heap.size := by omega
    try have y50b : w.heap.size < w5.heap.size + 1 + 1 := by omega
    try have y50c : w.heap.size + 1 < w5.heap.size + 1 + 1 := by omega
    try have y51 : w1.heap.size < w5.heap.size := by omega
    try have y51a : w1.heap.size + 1 < w5.heap.size := by omega
    try have y51b : w1.heap.size < w5.heap.size + 1 + 1 := by omega
    try have y51c : w1.heap.size + 1 < w5.heap.size + 1 + 1 := by omega
    try have y52 : w2.heap.size < w5.heap.size := by omega
    try have y52a : w2.heap.size + 1 < w5.heap.size := by omega
    try have y52b : w2.heap.size < w5.heap.size + 1 + 1 := by omega
    try have y52c : w2.heap.size + 1 < w5.heap.size + 1 + 1 := by omega
    try have y53 : w3.heap.size < w5.heap.size := by omega
    try have y53a : w3.heap.size + 1 < w5.heap.size := by omega
    try have y53b : w3.heap.size < w5.heap.size + 1 + 1 := by omega
    try have y53c : w3.heap.size + 1 < w5.heap.size + 1 + 1 := by omega
    try have y54 : w4.heap.size < w5.heap.size := by omega
    try have y54a : w4.heap.size + 1 < w5.heap.size := by omega
    try have y54b : w4.heap.size < w5.heap.size + 1 + 1 := by omega
    try have y54c : w4.heap.size + 1 < w5.heap.size + 1 + 1 := by omega
    rw [← same_yes rfl]
    go_wp2
    all_goals
      go_ret
      refine ⟨rfl, ?_⟩
      repeat refine below_alloc ?_ _
      exact B5.out
end Go.Proofs.Ytehokkijfgiggaa.fnTakeFair
