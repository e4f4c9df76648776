/-
  What the exact laws know of flows: an argument's flows, flows that a call owns in an interval of blocks, marks. Conditions: none; every lemma says what it asks. What the exact laws do with robins: sizes, copies, comparison, marks. Conditions: an argument has at most 1048576 flows and packets. A slice of flows that comes in as an argument, as the walks know it. Conditions: none.
  Conditions: each lemma says them.
-/
import Derived.Test.YtiodhdcgfdlknaaKbZ4
import Derived.Test.YtiodhdcgfdlknaaKeZ4
namespace Go.Proofs.Ytiodhdcgfdlknaa
open Go.RowKit
theorem total_take {fs : List Flw} {k : Nat} {f : Flw} (h : fs[k]? = some f) : total (fs.take (k + 1)) = total (fs.take k) + f.ws.length := by
  rw [List.take_add_one, h, total_append]; simp [total]
theorem total_take_le (fs : List Flw) (k : Nat) : total (fs.take k) ≤ total fs := by
  have := total_append (fs.take k) (fs.drop k)
  rw [List.take_append_drop] at this
  omega
theorem ws_le_total {fs : List Flw} {k : Nat} {f : Flw} (h : fs[k]? = some f) : f.ws.length ≤ total fs := by
  have := total_take h
  have := total_take_le fs (k + 1)
  omega
theorem do_set {w : World} {lo g n c k : Nat} {hs : List Fh} {fs : List Flw} {h : Fh} {f : Flw} (D : DO w lo (.slice (some ⟨g, 0, none⟩) n c) n hs fs) (hk : k < hs.length) (h0 : h.peer = f.peer) (h1 : h.dfc = f.dfc) (h2 : h.n ≤ 4000000000)
    (ho : w.ownsRow lo 74 4 h.sl h.n (pcells f.ws)) (hg : ∀ b, h.sl.ownBlock = some b → b ≠ g) (hap : ∀ (j : Nat) (q : Fh), j ≠ k → hs[j]? = some q → ∀ b, h.sl.ownBlock = some b → q.sl.ownBlock ≠ some b) :
    DO (((w.setCell ⟨g, k * 3, none⟩ (.int .i64 h.peer)).setCell ⟨g, k * 3 + 1, none⟩ (.int .i64 h.dfc)).setCell ⟨g, k * 3 + 2, none⟩ (.slice h.A h.n h.c)) lo (.slice (some ⟨g, 0, none⟩) n c) n (hs.set k h) (fs.set k f) := by
  have hget : ∀ (j : Nat) (q : Fh), (hs.set k h)[j]? = some q → (j = k ∧ q = h) ∨ (j ≠ k ∧ hs[j]? = some q) := by
    intro j q e
    by_cases hjk : k = j
    · subst hjk
      rw [List.getElem?_set_self hk] at e
      exact .inl ⟨rfl, (Option.some.inj e).symm⟩
    · rw [List.getElem?_set_ne hjk] at e
      exact .inr ⟨fun e => hjk e.symm, e⟩
  have far : ∀ {u : Value} {m : Nat} {xs : List Value}, w.ownsRow lo 74 4 u m xs → (∀ b, u.ownBlock = some b → b ≠ g) →
      (((w.setCell ⟨g, k * 3, none⟩ (.int .i64 h.peer)).setCell ⟨g, k * 3 + 1, none⟩ (.int .i64 h.dfc)).setCell ⟨g, k * 3 + 2, none⟩ (.slice h.A h.n h.c)).ownsRow lo 74 4 u m xs := fun e1 e2 =>
    own_set_ne (p := ⟨g, k * 3 + 2, none⟩) (own_set_ne (p := ⟨g, k * 3 + 1, none⟩) (own_set_ne (p := ⟨g, k * 3, none⟩) e1 (fun e => e2 g e rfl) _) (fun e => e2 g e rfl) _) (fun e => e2 g e rfl) _
  have hv : Value.ownBlock (.slice (some ⟨g, 0, none⟩) n c) = some g := rfl
  refine ⟨?_, by rw [List.length_set, List.length_set]; exact D.len, fun j q f' e1 e2 => ?_, fun i j q q2 hij e1 e2 b hb1 hb2 => ?_⟩
  · have a := (((D.row.stored (k * 3) (.int .i64 h.peer)).1.stored (k * 3 + 1) (.int .i64 h.dfc)).1.stored (k * 3 + 2) (.slice h.A h.n h.c)).1
    rw [fcells_set] at a
    exact a
  · rcases hget j q e1 with ⟨rfl, rfl⟩ | ⟨hjk, hq⟩
    · rw [List.getElem?_set_self (by rw [← D.len]; exact hk)] at e2
      obtain rfl := Option.some.inj e2
      exact ⟨h0, h1, h2, far ho hg, fun b e e3 => hg b e (by rw [hv] at e3; injection e3 with e3; exact e3.symm)⟩
    · rw [List.getElem?_set_ne (fun e => hjk e.symm)] at e2
      obtain ⟨a1, a2, a3, a4, a5⟩ := D.all j q f' hq e2
      exact ⟨a1, a2, a3, far a4 (fun b e e3 => a5 b e (by rw [hv, e3])), a5⟩
  · rcases hget i q e1 with ⟨rfl, rfl⟩ | ⟨hik, hq⟩
    · rcases hget j q2 e2 with ⟨rfl, rfl⟩ | ⟨hjk, hq2⟩
      · exact hij rfl
      · exact hap j q2 hjk hq2 b hb1 hb2
    · rcases hget j q2 e2 with ⟨rfl, rfl⟩ | ⟨hjk, hq2⟩
      · exact hap i q hik hq b hb2 hb1
      · exact D.apart i j q q2 hij hq hq2 b hb1 hb2
def DOI (lo hi : Nat) (v : Value) (n : Nat) (hs : List Fh) (fs : List Flw) (w : World) : Prop :=
  DO w lo v n hs fs ∧ (∀ b, v.ownBlock = some b → b < hi) ∧ ∀ (k : Nat) (h : Fh), hs[k]? = some h → ∀ b, h.sl.ownBlock = some b → b < hi
theorem own_loc {w w' : World} {lo hi : Nat} {e : TypeId} {size : Nat} {v : Value} {n : Nat} {xs : List Value} (h : w.ownsRow lo e size v n xs) (hl : ∀ k, v.ownBlock = some k → k < hi) (hb : ∀ b, lo ≤ b → b < hi → w'.heap[b]? = w.heap[b]?) : w'.ownsRow lo e size v n xs := by
  refine ⟨h.1, ?_⟩
  rcases h.2 with hn | ⟨g, cap, cur, rfl, hg, hgg, rest⟩
  · exact .inl hn
  · exact .inr ⟨g, cap, cur, rfl, hg, (hb g hg (hl g rfl)).trans hgg, rest⟩
theorem doi_loc {w w' : World} {lo hi : Nat} {v : Value} {n : Nat} {hs : List Fh} {fs : List Flw} (D : DOI lo hi v n hs fs w) (hb : ∀ b, lo ≤ b → b < hi → w'.heap[b]? = w.heap[b]?) : DOI lo hi v n hs fs w' :=
  ⟨⟨own_loc D.1.row D.2.1 hb, D.1.len, fun k h f e1 e2 => by
    obtain ⟨a1, a2, a3, a4, a5⟩ := D.1.all k h f e1 e2
    exact ⟨a1, a2, a3, own_loc a4 (D.2.2 k h e1) hb, a5⟩, D.1.apart⟩, D.2⟩
def cntF : List Flw → Int
  | [] => 0
  | f :: r => 2 + 4 * (f.ws.length : Int) + cntF r
def markF : List Flw → Int → List Flw
  | [], _ => []
  | f :: r, k => ⟨k, k + 1, markL f.ws.length (k + 2)⟩ :: markF r (k + 2 + 4 * (f.ws.length : Int))
theorem cntF_append (a b : List Flw) : cntF (a ++ b) = cntF a + cntF b := by
  induction a with
  | nil => simp [cntF]
  | cons f r ih => simp only [List.cons_append, cntF, ih]; omega
theorem cntF_take {fs : List Flw} {k : Nat} {f : Flw} (h : fs[k]? = some f) : cntF (fs.take (k + 1)) = cntF (fs.take k) + 2 + 4 * (f.ws.length : Int) := by
  rw [List.take_add_one, h, cntF_append]; simp [cntF]; omega
theorem cntF_eq (fs : List Flw) : cntF fs = 2 * (fs.length : Int) + 4 * (total fs : Int) := by
  induction fs with
  | nil => rfl
  | cons f r ih => simp only [cntF, ih, List.length_cons, total]; omega
theorem cntF_take_le (fs : List Flw) (k : Nat) : 0 ≤ cntF (fs.take k) ∧ cntF (fs.take k) ≤ cntF fs := by
  have h1 := cntF_append (fs.take k) (fs.drop k)
  rw [List.take_append_drop] at h1
  have h2 := cntF_eq (fs.take k)
  have h3 := cntF_eq (fs.drop k)
  omega
theorem markF_len (fs : List Flw) (k : Int) : (markF fs k).length = fs.length := by
  induction fs generalizing k with
  | nil => rfl
  | cons f r ih => simp [markF, ih]
theorem markF_append (a b : List Flw) (k : Int) : markF (a ++ b) k = markF a k ++ markF b (k + cntF a) := by
  induction a generalizing k with
  | nil => simp [markF, cntF]
  | cons f r ih =>
    simp only [List.cons_append, markF, cntF, ih]
    rw [show k + 2 + 4 * (f.ws.length : Int) + cntF r = k + (2 + 4 * (f.ws.length : Int) + cntF r) from by omega]
theorem markF_take {fs : List Flw} {k : Nat} {f : Flw} (h : fs[k]? = some f) (x : Int) : markF (fs.take (k + 1)) x = markF (fs.take k) x ++ [⟨x + cntF (fs.take k), x + cntF (fs.take k) + 1, markL f.ws.length (x + cntF (fs.take k) + 2)⟩] := by
  rw [List.take_add_one, h, markF_append]; simp [markF]
theorem markF_get {fs : List Flw} {k : Nat} {f : Flw} (h : fs[k]? = some f) (x : Int) : (markF fs x)[k]? = some ⟨x + cntF (fs.take k), x + cntF (fs.take k) + 1, markL f.ws.length (x + cntF (fs.take k) + 2)⟩ := by
  have hl : k < fs.length := by
    rcases Nat.lt_or_ge k fs.length with hl | hl
    · exact hl
    · rw [List.getElem?_eq_none hl] at h; cases h
  have e : markF fs x = markF (fs.take (k + 1)) x ++ markF (fs.drop (k + 1)) (x + cntF (fs.take (k + 1))) := by rw [← markF_append, List.take_append_drop]
  have h2 : (markF (fs.take k) x).length = k := by rw [markF_len, List.length_take]; omega
  rw [e, List.getElem?_append_left (by rw [markF_len, List.length_take]; omega), markF_take h, List.getElem?_append_right (by omega), h2]
  simp
def midF (fs : List Flw) (k : Nat) (x : Int) : List Flw := markF (fs.take k) x ++ fs.drop k
theorem midF_len (fs : List Flw) (k : Nat) (x : Int) : (midF fs k x).length = fs.length := by
  unfold midF
  rw [List.length_append, markF_len, ← List.length_append, List.take_append_drop]
theorem midF_get {fs : List Flw} {k : Nat} {f : Flw} (h : fs[k]? = some f) (x : Int) : (midF fs k x)[k]? = some f := by
  have hl : k < fs.length := by
    rcases Nat.lt_or_ge k fs.length with hl | hl
    · exact hl
    · rw [List.getElem?_eq_none hl] at h; cases h
  have h2 : (markF (fs.take k) x).length = k := by rw [markF_len, List.length_take]; omega
  unfold midF
  rw [List.getElem?_append_right (by omega), h2, Nat.sub_self, List.getElem?_drop]
  exact h
theorem midF_set {fs : List Flw} {k : Nat} {f : Flw} (h : fs[k]? = some f) (x : Int) : (midF fs k x).set k ⟨x + cntF (fs.take k), x + cntF (fs.take k) + 1, markL f.ws.length (x + cntF (fs.take k) + 2)⟩ = midF fs (k + 1) x := by
  have hl : k < fs.length := by
    rcases Nat.lt_or_ge k fs.length with hl | hl
    · exact hl
    · rw [List.getElem?_eq_none hl] at h; cases h
  have h2 : (markF (fs.take k) x).length = k := by rw [markF_len, List.length_take]; omega
  have h3 : fs.drop k = f :: fs.drop (k + 1) := by
    rw [List.drop_eq_getElem_cons hl]
    rw [List.getElem?_eq_getElem hl] at h
    rw [Option.some.inj h]
  unfold midF
  rw [List.set_append_right _ _ (by omega), h2, Nat.sub_self, h3, List.set_cons_zero, markF_take h, List.append_assoc]
  rfl
theorem midF_all (fs : List Flw) (x : Int) : midF fs fs.length x = markF fs x := by simp [midF]
theorem midF_zero (fs : List Flw) (x : Int) : midF fs 0 x = fs := by simp [midF, markF]
end Go.Proofs.Ytiodhdcgfdlknaa
namespace Go.Proofs.Ytiodhdcgfdlknaa
open Go.RowKit
set_option maxRecDepth 100000 in
set_option maxHeartbeats 400000 in
theorem eqFlow_same (x d : Int) (A A2 : Option Addr) (n c n2 c2 : Nat) (ps : List Pkt) (w : World) (h : PR w A n ps) (h2 : PR w A2 n2 ps) (hn : n ≤ 9223372036854775807) (hn2 : n2 ≤ 9223372036854775807) :
    Calls Try.prog 183 #[.agg #[.int .i64 x, .int .i64 d, (.slice A n c)], .agg #[.int .i64 x, .int .i64 d, (.slice A2 n2 c2)]] w fun e w' => e = .returned (.bool true) ∧ Below w.heap.size w w' := by
  have H := Lib.hid h
  have H2 := Lib.hid h2
  clear h h2
  go_enter Try.func183, Try.ntmps183
  go_wp2_with fail
  refine (eqPacketS_any A A2 n c n2 c2 ps ps _ (pr_alloc (pr_alloc H.out _) _) (pr_alloc (pr_alloc H2.out _) _) hn hn2).mono ?_
  rintro e w1 ⟨rfl, hb⟩
  rw [← same_yes rfl]
  have HB := Lib.hid (below_seq2 (Below.refl w.heap.size w) hb)
  clear hb
  go_wp2
  go_ret
  exact ⟨rfl, HB.out⟩
def EfRel (w : World) (n : Nat) (i : Value) (wr : World) : Prop := ∃ k : Nat, k ≤ n ∧ i = .int .i64 (k : Int) ∧ Below w.heap.size w wr
set_option maxRecDepth 100000 in
set_option maxHeartbeats 1000000 in
theorem eqFlowS_same (A A2 : Option Addr) (n c n2 c2 : Nat) (fs : List Flw) (w : World) (h : FR w A n fs) (h2 : FR w A2 n2 fs) :
    Calls Try.prog 159 #[.slice A n c, .slice A2 n2 c2] w fun e w' => e = .returned (.bool true) ∧ Below w.heap.size w w' := by
  have H := Lib.hid h
  have H2 := Lib.hid h2
  have hl := (fr_lenF h).1
  have n4' := (fr_lenF h).2
  obtain rfl : n = n2 := hl.symm.trans (fr_lenF h2).1
  clear h h2 hl
  go_enter Try.func159, Try.ntmps159
  go_wp2
  go_loopw [5] (fun i wr => EfRel w n i wr) (fun i _ => n - (intOf i).toNat)
  case atStart => exact ⟨0, Nat.zero_le _, rfl, Below.refl _ _⟩
  case round =>
    obtain ⟨k, hk, rfl, hbl⟩ := hrel
    by_cases hlt : k < n
    · obtain ⟨b, off, f, A3, n3, c3, rfl, hb, hf, c0, c1, c2', hp, -, hn3⟩ := fr_cells (fr_belowF H.out hbl) hlt
      obtain ⟨b2, off2, g, A4, n4, c4, rfl, hb2, hg, d0, d1, d2, hp4, -, hn4⟩ := fr_cells (fr_belowF H2.out hbl) hlt
      obtain rfl : f = g := Option.some.inj (hf.symm.trans hg)
      have HP := Lib.hid hp
      have HQ := Lib.hid hp4
      have HB := Lib.hid hbl
      clear hp hp4 hf hg hbl
      have k0 : (0 : Int) ≤ (k : Int) := by omega
      have k1 : (k : Int) < (n : Int) := by omega
      go_wp2_with fail
      go_still_tail 8, (by kernel_rfl)
      change wpList _ _ _ _ _ wr.drew
      go_wp2_with fail
      refine (eqFlow_same f.peer f.dfc A3 A4 n3 c3 n4 c4 f.ws wr.drew HP.out HQ.out (by omega) (by omega)).mono ?_
      rintro e w1 ⟨rfl, hb1⟩
      have HB1 := Lib.hid (below_seq (HB.out.drew) hb1)
      clear hb1 c0 c1 c2' d0 d1 d2
      go_wp2
      go_roundw
      case rel => exact ⟨k + 1, by omega, by go_num, HB1.out⟩
      case measure => simp [intOf]; omega
    · obtain rfl : k = n := by omega
      have HB := Lib.hid hbl
      clear hbl
      go_wp2
      go_ret
      exact ⟨rfl, HB.out⟩
set_option maxRecDepth 100000 in
set_option maxHeartbeats 400000 in
theorem eqRobin_same (q : Int) (A A2 : Option Addr) (n c n2 c2 : Nat) (fs : List Flw) (w : World) (h : FR w A n fs) (h2 : FR w A2 n2 fs) :
    Calls Try.prog 134 #[.agg #[.int .i64 q, (.slice A n c)], .agg #[.int .i64 q, (.slice A2 n2 c2)]] w fun e w' => e = .returned (.bool true) ∧ Below w.heap.size w w' := by
  have H := Lib.hid h
  have H2 := Lib.hid h2
  clear h h2
  go_enter Try.func134, Try.ntmps134
  go_wp2_with fail
  refine (eqFlowS_same A A2 n c n2 c2 fs _ (fr_allocF (fr_allocF H.out _) _) (fr_allocF (fr_allocF H2.out _) _)).mono ?_
  rintro e w1 ⟨rfl, hb⟩
  have HB := Lib.hid (below_seq2 (Below.refl w.heap.size w) hb)
  clear hb
  go_wp2
  go_ret
  exact ⟨rfl, HB.out⟩
def OwnS (v : Value) (ss : List Value) (b : Nat) : Prop := v.ownBlock = some b ∨ ∃ u ∈ ss, u.ownBlock = some b
structure MkRel (w : World) (lo hi : Nat) (v : Value) (n : Nat) (fs : List Flw) (k0 : Int) (k : Nat) (x : Int) (cur : List Fh) (wr : World) : Prop where
  kn : k ≤ n
  hx : x = k0 + cntF (fs.take k)
  hD : DOI lo hi v n cur (midF fs k k0) wr
  hc : Chg lo hi w wr
  hk : ∀ b, b < w.heap.size → ¬ OwnS v (cur.map Fh.sl) b → wr.heap[b]? = w.heap[b]?
def MkR (w : World) (lo hi : Nat) (v : Value) (n : Nat) (fs : List Flw) (k0 : Int) (hs : List Fh) (kv i : Value) (wr : World) : Prop :=
  ∃ (k : Nat) (x : Int) (cur : List Fh), i = .int .i64 (k : Int) ∧ kv = .int .i64 x ∧ MkRel w lo hi v n fs k0 k x cur wr ∧ cur.map Fh.sl = hs.map Fh.sl
def MkPost (w : World) (lo hi : Nat) (v : Value) (n : Nat) (fs : List Flw) (k0 : Int) (hs : List Fh) (e : Ending) (w' : World) : Prop :=
  ∃ cur, e = .returned (.int .i64 (k0 + cntF fs)) ∧ DOI lo hi v n cur (markF fs k0) w' ∧ Chg lo hi w w' ∧ cur.map Fh.sl = hs.map Fh.sl ∧ ∀ b, b < w.heap.size → ¬ OwnS v (hs.map Fh.sl) b → w'.heap[b]? = w.heap[b]?
theorem chg_set {lo hi : Nat} {w w' : World} (h : Chg lo hi w w') {p : Addr} (h1 : lo ≤ p.block) (h2 : p.block < hi) (u : Value) : Chg lo hi w (w'.setCell p u) :=
  chg_trans h (chg_grown (g_set (g_refl w' (some p.block)) (.inl rfl) u) fun b e => by injection e with e; omega)
theorem do_nums {w : World} {lo g n c k : Nat} {hs : List Fh} {fs : List Flw} {h : Fh} {f : Flw} (x d : Int) (D : DO w lo (.slice (some ⟨g, 0, none⟩) n c) n hs fs) (hk : hs[k]? = some h) (hf : fs[k]? = some f) :
    DO ((w.setCell ⟨g, k * 3, none⟩ (.int .i64 x)).setCell ⟨g, k * 3 + 1, none⟩ (.int .i64 d)) lo (.slice (some ⟨g, 0, none⟩) n c) n (hs.set k ⟨x, d, h.A, h.n, h.c⟩) (fs.set k ⟨x, d, f.ws⟩) := by
  have hlk : k < hs.length := by
    rcases Nat.lt_or_ge k hs.length with hlt | hge
    · exact hlt
    · rw [List.getElem?_eq_none hge] at hk; cases hk
  obtain ⟨a1, a2, a3, a4, a5⟩ := D.all k h f hk hf
  have S := do_set (k := k) (h := ⟨x, d, h.A, h.n, h.c⟩) (f := ⟨x, d, f.ws⟩) D hlk rfl rfl a3 a4 (fun b e e2 => a5 b e (by rw [e2]; rfl)) (fun j q hj hq b e => D.apart k j h q (fun e => hj e.symm) hk hq b e)
  have hc := fcells_get hs k h hk
  -- the third cell is as it was
  have row := ((D.row.stored (k * 3) (.int .i64 x)).1.stored (k * 3 + 1) (.int .i64 d)).1
  have e3 : ((((fcells hs).set (k * 3) (.int .i64 x)).set (k * 3 + 1) (.int .i64 d))).set (k * 3 + 2) (.slice h.A h.n h.c) = ((fcells hs).set (k * 3) (.int .i64 x)).set (k * 3 + 1) (.int .i64 d) := by
    apply List.ext_getElem?
    intro i
    by_cases hi : k * 3 + 2 = i
    · subst hi
      rw [List.getElem?_set_self (by simp [fcells_len]; omega), List.getElem?_set_ne (by omega), List.getElem?_set_ne (by omega), hc.2.2]
    · rw [List.getElem?_set_ne hi]
  have e4 := fcells_set hs k ⟨x, d, h.A, h.n, h.c⟩
  simp only at e4
  rw [e3] at e4
  have far : ∀ {u : Value} {m : Nat} {xs : List Value}, w.ownsRow lo 74 4 u m xs → (∀ b, u.ownBlock = some b → Value.ownBlock (.slice (some ⟨g, 0, none⟩) n c) ≠ some b) → ((w.setCell ⟨g, k * 3, none⟩ (.int .i64 x)).setCell ⟨g, k * 3 + 1, none⟩ (.int .i64 d)).ownsRow lo 74 4 u m xs := fun h1 h2 =>
    own_set_ne (p := ⟨g, k * 3 + 1, none⟩) (own_set_ne (p := ⟨g, k * 3, none⟩) h1 (fun e => h2 g e rfl) _) (fun e => h2 g e rfl) _
  refine ⟨by rw [← e4]; exact row, S.len, fun j q f' e1 e2 => ?_, S.apart⟩
  obtain ⟨b1, b2, b3, -, b5⟩ := S.all j q f' e1 e2
  refine ⟨b1, b2, b3, ?_, b5⟩
  by_cases hj : k = j
  · subst hj
    rw [List.getElem?_set_self hlk] at e1
    rw [List.getElem?_set_self (by rw [← D.len]; exact hlk)] at e2
    obtain rfl := Option.some.inj e1
    obtain rfl := Option.some.inj e2
    exact far a4 a5
  · rw [List.getElem?_set_ne hj] at e1 e2
    obtain ⟨c1, c2, c3, c4, c5⟩ := D.all j q f' e1 e2
    exact far c4 c5
theorem do_mark {w w' : World} {lo n k : Nat} {v : Value} {hs : List Fh} {fs : List Flw} {h : Fh} {f : Flw} {ws : List Pkt} (D : DO w lo v n hs fs) (hk : hs[k]? = some h) (hf : fs[k]? = some f) (hg : w.grownBy w' h.sl.ownBlock) (ho : w'.ownsRow lo 74 4 h.sl h.n (pcells ws)) :
    DO w' lo v n hs (fs.set k ⟨f.peer, f.dfc, ws⟩) := by
  obtain ⟨a1, a2, a3, a4, a5⟩ := D.all k h f hk hf
  have hlf : k < fs.length := by
    rcases Nat.lt_or_ge k fs.length with hlt | hge
    · exact hlt
    · rw [List.getElem?_eq_none hge] at hf; cases hf
  have kept : ∀ {u : Value} {e : TypeId} {s a : Nat} {xs : List Value}, w.ownsRow lo e s u a xs → (∀ b, h.sl.ownBlock = some b → u.ownBlock ≠ some b) → w'.ownsRow lo e s u a xs := by
    intro u e s a xs h1 hu
    refine h1.kept hg ?_
    rcases hub : u.ownBlock with _ | b
    · exact .inl rfl
    · exact .inr fun e => hu b e.symm hub
  refine ⟨kept D.row fun b e => a5 b e, by rw [List.length_set]; exact D.len, fun j q f' e1 e2 => ?_, D.apart⟩
  by_cases hj : k = j
  · subst hj
    rw [List.getElem?_set_self hlf] at e2
    obtain rfl := Option.some.inj e2
    obtain rfl : h = q := Option.some.inj (hk.symm.trans e1)
    exact ⟨a1, a2, a3, ho, a5⟩
  · rw [List.getElem?_set_ne hj] at e2
    obtain ⟨b1, b2, b3, b4, b5⟩ := D.all j q f' e1 e2
    exact ⟨b1, b2, b3, kept b4 fun b e => D.apart k j h q hj hk e1 b e, b5⟩
theorem sl_set {cur hs : List Fh} {k : Nat} {h : Fh} (e : cur.map Fh.sl = hs.map Fh.sl) (hk : cur[k]? = some h) (x d : Int) : (cur.set k ⟨x, d, h.A, h.n, h.c⟩).map Fh.sl = hs.map Fh.sl := by
  rw [← e, List.map_set]
  apply List.ext_getElem?
  intro i
  by_cases hi : k = i
  · subst hi
    have hl : k < cur.length := by
      rcases Nat.lt_or_ge k cur.length with hlt | hge
      · exact hlt
      · rw [List.getElem?_eq_none hge] at hk; cases hk
    rw [List.getElem?_set_self (by simpa using hl), List.getElem?_map, hk]
    rfl
  · rw [List.getElem?_set_ne hi]
set_option maxRecDepth 100000 in
set_option maxHeartbeats 2000000 in
theorem markFlowS_any (lo hi : Nat) (A : Option Addr) (n c : Nat) (hs : List Fh) (fs : List Flw) (k0 : Int) (w : World) (h : DOI lo hi (.slice A n c) n hs fs w) (hn : n ≤ 1048576) (hT : total fs ≤ 1048576) (hk : 0 ≤ k0 ∧ k0 ≤ 50000000) :
    Calls Try.prog 135 #[.slice A n c, .int .i64 k0] w (MkPost w lo hi (.slice A n c) n fs k0 hs) := by
  have hl0 : fs.length = n := (do_cap h.1).1
  by_cases h0 : n = 0
  · subst h0
    obtain rfl : fs = [] := List.eq_nil_of_length_eq_zero hl0
    have H := Lib.hid h
    clear h
    go_enter Try.func135, Try.ntmps135
    go_wp2
    refine wp_loop_rounds 1 ?_
    rw [rounds_succ]
    go_wp2
    go_ret
    exact ⟨hs, ret_int (by simp [cntF]), H.out, chg_below (Below.refl _ _), rfl, fun b _ _ => rfl⟩
  · obtain ⟨g, c', hv, hbb, hlt0⟩ := h.1.row.form (by omega)
    obtain ⟨rfl, rfl⟩ : A = some ⟨g, 0, none⟩ ∧ c = c' := by injection hv with a1 a2 a3; exact ⟨a1, a3⟩
    have R0 : MkR w lo hi (.slice (some ⟨g, 0, none⟩) n c) n fs k0 hs (.int .i64 k0) (.int .i64 0) w := ⟨0, k0, hs, rfl, rfl, ⟨Nat.zero_le _, by simp [cntF], by rw [midF_zero]; exact h, chg_below (Below.refl _ _), fun b _ _ => rfl⟩, rfl⟩
    have HR := Lib.hid R0
    have hghi : g < hi := h.2.1 g rfl
    have hcnt := cntF_eq fs
    have HL := Lib.hid hl0
    clear R0 h hv
    go_enter Try.func135, Try.ntmps135
    go_wp2
    go_loopw [1, 5] (fun kv i wr => MkR w lo hi (.slice (some ⟨g, 0, none⟩) n c) n fs k0 hs kv i wr) (fun _ i _ => n - (intOf i).toNat)
    case atStart => exact HR.out
    case round =>
      obtain ⟨k, x, cur, rfl, rfl, hM, hsl⟩ := hrel
      clear HR
      have hkn := hM.kn
      have hx0 : 0 ≤ x ∧ x ≤ 60000000 := by have := hM.hx; have := cntF_take_le fs k; omega
      by_cases hlt : k < n
      · obtain ⟨bb, oo, q, e1, -, hq, c0, c1', c2⟩ := hr_at (hr_own hM.hD.1.row) hlt
        obtain ⟨rfl, rfl⟩ : g = bb ∧ 0 = oo := by injection e1 with e1; injection e1 with a b; exact ⟨a, b⟩
        rw [Nat.zero_add] at c0 c1' c2
        obtain ⟨f, hf⟩ : ∃ f, fs[k]? = some f := ⟨_, List.getElem?_eq_getElem (by have := HL.out; omega)⟩
        have f0 := World.ownsRow.frozenAt hM.hD.1.row (k * 3)
        have f1 := World.ownsRow.frozenAt hM.hD.1.row (k * 3 + 1)
        have D1 := do_nums x (x + 1) hM.hD.1 hq (midF_get hf k0)
        have hql : k < cur.length := by
          rcases Nat.lt_or_ge k cur.length with hlt | hge
          · exact hlt
          · rw [List.getElem?_eq_none hge] at hq; cases hq
        have hq2 : (cur.set k ⟨x, x + 1, q.A, q.n, q.c⟩)[k]? = some ⟨x, x + 1, q.A, q.n, q.c⟩ := List.getElem?_set_self hql
        have hf2 : ((midF fs k k0).set k ⟨x, x + 1, f.ws⟩)[k]? = some ⟨x, x + 1, f.ws⟩ := List.getElem?_set_self (by rw [midF_len]; have := HL.out; omega)
        obtain ⟨-, -, p3, p4, -⟩ := D1.all k _ _ hq2 hf2
        have p4' : World.ownsRow _ lo 74 4 (.slice q.A q.n q.c) q.n (pcells f.ws) := p4
        have hqn : f.ws.length = q.n := (pr_own p4').1
        have HP := Lib.hid p4'
        have HM := Lib.hid hM
        have HD1 := Lib.hid D1
        have HF := Lib.hid hf
        have HQ := Lib.hid hq
        have HQ2 := Lib.hid hq2
        have HF2 := Lib.hid hf2
        have HSL := Lib.hid hsl
        have HQN := Lib.hid hqn
        have hnT : q.n ≤ 1048576 := by have := ws_le_total hf; omega
        clear hM D1 hf hq hq2 hf2 p4 p4' hsl hqn e1
        go_wp2_with fail
        refine (markPacketS_any lo q.A q.n q.c (x + 1 + 1) f.ws _ HP.out (by omega) (by omega)).mono ?_
        rintro e w2 ⟨rfl, ho2, hg2⟩
        have DM := Lib.hid (do_mark HD1.out HQ2.out HF2.out hg2 ho2)
        have CH := Lib.hid (chg_trans (chg_set (chg_set HM.out.hc (by show lo ≤ g; exact hbb) hghi (.int .i64 x)) (by show lo ≤ g; exact hbb) hghi (.int .i64 (x + 1))) (chg_grown hg2 fun b e => ⟨(HP.out.lt b e).1, HM.out.hD.2.2 k q HQ.out b e⟩))
        have KP := Lib.hid (show ∀ b, b < w.heap.size → ¬ OwnS (.slice (some ⟨g, 0, none⟩) n c) (hs.map Fh.sl) b → w2.heap[b]? = w.heap[b]? from fun b hb hno => by
          have h1 : ¬ b = g := fun e => hno (.inl (by rw [e]; rfl))
          have h2 : ¬ Value.ownBlock (.slice q.A q.n q.c) = some b := fun e => hno (.inr ⟨_, by rw [← HSL.out]; exact List.mem_map.2 ⟨q, List.mem_of_getElem? HQ.out, rfl⟩, e⟩)
          rw [hg2.block b (by have := HM.out.hc.size; simp; omega) (fun e => h2 e.symm)]
          rw [← HM.out.hk b hb (by rw [HSL.out]; exact hno)]
          exact ((g_set (g_set (g_refl wr (some g)) (.inl rfl) _) (.inl rfl) _).block b (Nat.lt_of_lt_of_le hb HM.out.hc.size) (fun e => h1 (by injection e))))
        clear ho2 hg2 c0 c1' c2 f0 f1
        go_wp2
        go_roundw
        case rel =>
          refine ⟨k + 1, _, _, by go_num, rfl, ⟨by omega, ?_, ?_, CH.out, by rw [sl_set HSL.out HQ.out x (x + 1)]; exact KP.out⟩, sl_set HSL.out HQ.out x (x + 1)⟩
          · have h1 := HM.out.hx
            have h2 := cntF_take HF.out
            have h3 := HQN.out
            omega
          · have h1 := midF_set HF.out k0
            have h2 := HM.out.hx
            have h3 := HQN.out
            rw [← h2] at h1
            rw [List.set_set] at DM
            have e3 : (x + 1 + 1 : Int) = x + 2 := by omega
            rw [e3] at DM
            rw [h3] at h1
            rw [← h1]
            refine ⟨DM.out, HM.out.hD.2.1, fun j z hz b hb => ?_⟩
            by_cases hj : k = j
            · subst hj
              rw [HQ2.out] at hz
              obtain rfl := Option.some.inj hz
              exact HM.out.hD.2.2 k q HQ.out b hb
            · rw [List.getElem?_set_ne hj] at hz
              exact HM.out.hD.2.2 j z hz b hb
        case measure => simp [intOf]; omega
      · obtain rfl : k = n := by omega
        have hx := hM.hx
        have hD := hM.hD
        have hT2 : fs.take k = fs := List.take_of_length_le (by have := HL.out; omega)
        have hm2 : midF fs k k0 = markF fs k0 := by rw [← HL.out]; exact midF_all fs k0
        rw [hT2] at hx
        rw [hm2] at hD
        have HX := Lib.hid hx
        have HD := Lib.hid hD
        have HC := Lib.hid hM.hc
        have HKP := Lib.hid hM.hk
        have HSL := Lib.hid hsl
        clear hM hx hD hT2 hm2 hsl
        go_wp2
        go_ret
        exact ⟨cur, ret_int HX.out, HD.out, HC.out, HSL.out, by have := HKP.out; rwa [HSL.out] at this⟩
def HdRel (n : Nat) (fs : List Flw) (k0 : Int) (w0 : World) (kv i : Value) (wr : World) : Prop := ∃ (k : Nat) (x : Int), k ≤ n ∧ i = .int .i64 (k : Int) ∧ kv = .int .i64 x ∧ x = k0 + cntF (fs.take k) ∧ w0 = wr
set_option maxRecDepth 100000 in
set_option maxHeartbeats 2000000 in
theorem heldFlowS_any (A : Option Addr) (n c : Nat) (fs : List Flw) (k0 : Int) (w : World) (h : FR w A n (markF fs k0)) (hn : n ≤ 1048576) (hT : total fs ≤ 1048576) (hk : 0 ≤ k0 ∧ k0 ≤ 50000000) :
    Calls Try.prog 136 #[.slice A n c, .int .i64 k0] w fun e w' => e = .returned (.int .i64 (k0 + cntF fs)) ∧ w = w' := by
  have H := Lib.hid h
  have hl0 : fs.length = n := by have := (fr_lenF h).1; rw [markF_len] at this; exact this
  have HL := Lib.hid hl0
  have hcnt := cntF_eq fs
  clear h
  go_enter Try.func136, Try.ntmps136
  go_wp2
  go_loopw [1, 5] (fun kv i wr => HdRel n fs k0 w kv i wr) (fun _ i _ => n - (intOf i).toNat)
  case atStart => exact ⟨0, k0, Nat.zero_le _, rfl, rfl, by simp [cntF], rfl⟩
  case round =>
    obtain ⟨k, x, hk', rfl, rfl, hx, rfl⟩ := hrel
    have hx0 : 0 ≤ x ∧ x ≤ 60000000 := by have := cntF_take_le fs k; omega
    have HX := Lib.hid hx
    by_cases hlt : k < n
    · obtain ⟨b, off, f', A1, n1, c1, rfl, hb, hf', d0, d1, d2, hp, -, hn1⟩ := fr_cells H.out hlt
      obtain ⟨f, hf⟩ : ∃ f, fs[k]? = some f := ⟨_, List.getElem?_eq_getElem (by have := HL.out; omega)⟩
      rw [markF_get hf, Option.some.injEq, ← hx] at hf'
      subst hf'
      have hp' : PR w A1 n1 (markL f.ws.length (x + 2)) := hp
      have hl1 : f.ws.length = n1 := by have := hp'.1; rw [markL_len] at this; exact this
      rw [hl1] at hp'
      have HT := Lib.hid (cntF_take hf)
      have HN := Lib.hid hl1
      have hle := cntF_take_le fs (k + 1)
      have hct := cntF_take hf
      have hn1' : n1 ≤ 1048576 := by have := ws_le_total hf; omega
      have HP := Lib.hid (show PR w A1 n1 (markL n1 (x + 1 + 1)) by rw [show x + 1 + 1 = x + 2 by omega]; exact hp')
      have k0' : (0 : Int) ≤ (k : Int) := by omega
      have k1' : (k : Int) < (n : Int) := by omega
      have h9 : decide (x + 1 + 1 + 4 * (n1 : Int) < 0) = false := by simp; omega
      simp only at d0 d1
      clear hx hf hp hp' hl1 hle hct
      go_wp2_with fail
      refine (heldPacketS_any A1 n1 c1 (x + 1 + 1) _ HP.out (by omega) (by omega)).mono ?_
      rintro e w1 ⟨rfl, rfl⟩
      go_wp2
      go_roundw
      case rel => exact ⟨k + 1, _, by omega, by go_num, rfl, by have := HX.out; have := HT.out; have := HN.out; omega, rfl⟩
      case measure => simp [intOf]; omega
    · obtain rfl : k = n := by omega
      have hT2 : fs.take k = fs := List.take_of_length_le (by have := HL.out; omega)
      rw [hT2] at HX
      clear hx hT2
      go_wp2
      go_ret
      exact ⟨ret_int HX.out, rfl⟩
end Go.Proofs.Ytiodhdcgfdlknaa
namespace Go.Proofs.Ytiodhdcgfdlknaa
open Go.ChangeShapes Go.WideShapes Go.ChangeAt Go.RowKit Go.Deep
end Go.Proofs.Ytiodhdcgfdlknaa
