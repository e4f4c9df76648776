/-
  What the exact laws do with lanes: sizes, copies, comparison. Conditions: an argument has at most 1048576 robins, flows, packets and numbers. What the exact laws do with lanes: marks. Conditions: at most 1048576 robins, flows, packets and numbers. A slice of robins that comes in as an argument, as the walks know it. Conditions: none.
  Conditions: each lemma says them.
-/
import Derived.Test.YtiodhdcgfdlknaaKiZ4
import Derived.Test.YtiodhdcgfdlknaaKhZ4
import Derived.Test.YtiodhdcgfdlknaaKlZ4
namespace Go.Proofs.Ytiodhdcgfdlknaa
open Go.RowKit
def rsz : List Rb → Nat
  | [] => 0
  | r :: t => r.fs.length + total r.fs + rsz t
theorem rsz_append (a b : List Rb) : rsz (a ++ b) = rsz a + rsz b := by
  induction a with
  | nil => simp [rsz]
  | cons f r ih => simp only [List.cons_append, rsz, ih]; omega
theorem rsz_take {rs : List Rb} {k : Nat} {r : Rb} (h : rs[k]? = some r) : rsz (rs.take (k + 1)) = rsz (rs.take k) + (r.fs.length + total r.fs) := by
  rw [List.take_add_one, h, rsz_append]; simp [rsz]
theorem rsz_take_le (rs : List Rb) (k : Nat) : rsz (rs.take k) ≤ rsz rs := by
  have := rsz_append (rs.take k) (rs.drop k)
  rw [List.take_append_drop] at this
  omega
theorem rsz_get {rs : List Rb} {k : Nat} {r : Rb} (h : rs[k]? = some r) : r.fs.length + total r.fs ≤ rsz rs := by
  have := rsz_take h
  have := rsz_take_le rs (k + 1)
  omega
def lsz (l : Ln) : Nat := l.rs.length + rsz l.rs + l.ws.length + l.cs.length
set_option maxRecDepth 100000 in
set_option maxHeartbeats 1000000 in
theorem eqRobinS_same (A A2 : Option Addr) (n c n2 c2 : Nat) (rs : List Rb) (w : World) (h : RR w A n rs) (h2 : RR w A2 n2 rs) :
    Calls Try.prog 101 #[.slice A n c, .slice A2 n2 c2] w fun e w' => e = .returned (.bool true) ∧ Below w.heap.size w w' := by
  have H := Lib.hid h
  have H2 := Lib.hid h2
  have hl := (rr_len h).1
  have n4' := (rr_len h).2
  obtain rfl : n = n2 := hl.symm.trans (rr_len h2).1
  clear h h2 hl
  go_enter Try.func101, Try.ntmps101
  go_wp2
  go_loopw [5] (fun i wr => EfRel w n i wr) (fun i _ => n - (intOf i).toNat)
  case atStart => exact ⟨0, Nat.zero_le _, rfl, Below.refl _ _⟩
  case round =>
    obtain ⟨k, hk, rfl, hbl⟩ := hrel
    by_cases hlt : k < n
    · obtain ⟨b, off, r, A3, n3, c3, rfl, hb, hf, c0, c1, hp⟩ := rr_at (rr_below H.out hbl) hlt
      obtain ⟨b2, off2, g, A4, n4, c4, rfl, hb2, hg, d0, d1, hp4⟩ := rr_at (rr_below H2.out hbl) hlt
      obtain rfl : r = g := Option.some.inj (hf.symm.trans hg)
      have HP := Lib.hid hp
      have HQ := Lib.hid hp4
      have HB := Lib.hid hbl
      clear hp hp4 hf hg hbl
      have k0 : (0 : Int) ≤ (k : Int) := by omega
      have k1 : (k : Int) < (n : Int) := by omega
      go_wp2_with fail
      go_still_tail 8, (by kernel_rfl)
      change wpList _ _ _ _ _ wr.drew
      go_wp2_with fail
      refine (eqRobin_same r.q A3 A4 n3 c3 n4 c4 r.fs wr.drew (fr_belowF HP.out (Below.refl _ _).drew) (fr_belowF HQ.out (Below.refl _ _).drew)).mono ?_
      rintro e w1 ⟨rfl, hb1⟩
      have HB1 := Lib.hid (below_seq (HB.out.drew) hb1)
      clear hb1 c0 c1 d0 d1
      go_wp2
      go_roundw
      case rel => exact ⟨k + 1, by omega, by go_num, HB1.out⟩
      case measure => simp [intOf]; omega
    · obtain rfl : k = n := by omega
      have HB := Lib.hid hbl
      clear hbl
      go_wp2
      go_ret
      exact ⟨rfl, HB.out⟩
set_option maxRecDepth 100000 in
set_option maxHeartbeats 1000000 in
theorem eqLanes_same (A A2 : Option Addr) (n c n2 c2 : Nat) (B B2 : Option Addr) (m d m2 d2 : Nat) (C C2 : Option Addr) (o f o2 f2 : Nat) (l : Ln) (w : World) (h : LR w A n B m C o l) (h2 : LR w A2 n2 B2 m2 C2 o2 l) :
    Calls Try.prog 53 #[.agg #[.slice A n c, .slice B m d, .slice C o f], .agg #[.slice A2 n2 c2, .slice B2 m2 d2, .slice C2 o2 f2]] w fun e w' => e = .returned (.bool true) ∧ Below w.heap.size w w' := by
  have H := Lib.hid h
  have H2 := Lib.hid h2
  have m4 := h.mb
  have o4 := h.kb
  have m5 := h2.mb
  have o5 := h2.kb
  have F := Lib.hid (fm_two w 38 38 #[.slice A n c, .slice B m d, .slice C o f] #[.slice A2 n2 c2, .slice B2 m2 d2, .slice C2 o2 f2])
  clear h h2
  obtain ⟨⟨x0, x1, x2⟩, -⟩ := blk_three (fm_blk F.out 0 rfl)
  obtain ⟨⟨z0, z1, z2⟩, -⟩ := blk_three (fm_blk F.out 1 rfl)
  go_enter Try.func53, Try.ntmps53
  go_wp2_with fail
  refine (eqRobinS_same A A2 n c n2 c2 l.rs _ (rr_below H.out.r F.out.below) (rr_below H2.out.r F.out.below)).mono ?_
  rintro e w1 ⟨rfl, hb⟩
  have F1 := Lib.hid (fm_below F.out hb)
  clear hb F x0 x1 x2 z0 z1 z2
  obtain ⟨⟨x0, x1, x2⟩, -⟩ := blk_three (fm_blk F1.out 0 rfl)
  obtain ⟨⟨z0, z1, z2⟩, -⟩ := blk_three (fm_blk F1.out 1 rfl)
  go_wp2_with fail
  refine (eqIntS_any B B2 m d m2 d2 l.ws l.ws _ (nr_below H.out.wt F1.out.below) (nr_below H2.out.wt F1.out.below) (by omega) (by omega)).mono ?_
  rintro e w2 ⟨rfl, hb⟩
  have F2 := Lib.hid (fm_below F1.out hb)
  rw [show intsB l.ws l.ws = true from by simp [intsB]]
  clear hb F1 x0 x1 x2 z0 z1 z2
  obtain ⟨⟨x0, x1, x2⟩, -⟩ := blk_three (fm_blk F2.out 0 rfl)
  obtain ⟨⟨z0, z1, z2⟩, -⟩ := blk_three (fm_blk F2.out 1 rfl)
  go_wp2_with fail
  refine (eqIntS_any C C2 o f o2 f2 l.cs l.cs _ (nr_below H.out.cr F2.out.below) (nr_below H2.out.cr F2.out.below) (by omega) (by omega)).mono ?_
  rintro e w3 ⟨rfl, hb⟩
  have F3 := Lib.hid (fm_below F2.out hb)
  rw [show intsB l.cs l.cs = true from by simp [intsB]]
  clear hb F2 x0 x1 x2 z0 z1 z2
  go_wp2
  go_ret
  exact ⟨rfl, F3.out.below⟩
end Go.Proofs.Ytiodhdcgfdlknaa
namespace Go.Proofs.Ytiodhdcgfdlknaa
open Go.RowKit
def cntB : List Rb → Int
  | [] => 0
  | r :: t => 1 + cntF r.fs + cntB t
def markB : List Rb → Int → List Rb
  | [], _ => []
  | r :: t, k => ⟨k, markF r.fs (k + 1)⟩ :: markB t (k + 1 + cntF r.fs)
theorem cntB_append (a b : List Rb) : cntB (a ++ b) = cntB a + cntB b := by
  induction a with
  | nil => simp [cntB]
  | cons f r ih => simp only [List.cons_append, cntB, ih]; omega
theorem cntB_take {rs : List Rb} {k : Nat} {r : Rb} (h : rs[k]? = some r) : cntB (rs.take (k + 1)) = cntB (rs.take k) + 1 + cntF r.fs := by
  rw [List.take_add_one, h, cntB_append]; simp [cntB]; omega
theorem cntB_bd (rs : List Rb) : 0 ≤ cntB rs ∧ cntB rs ≤ (rs.length : Int) + 4 * (rsz rs : Int) := by
  induction rs with
  | nil => simp [cntB, rsz]
  | cons r t ih =>
    have := cntF_eq r.fs
    simp only [cntB, rsz, List.length_cons]
    omega
theorem cntB_take_le (rs : List Rb) (k : Nat) : 0 ≤ cntB (rs.take k) ∧ cntB (rs.take k) ≤ cntB rs := by
  have h1 := cntB_append (rs.take k) (rs.drop k)
  rw [List.take_append_drop] at h1
  have h2 := cntB_bd (rs.take k)
  have h3 := cntB_bd (rs.drop k)
  omega
theorem markB_len (rs : List Rb) (k : Int) : (markB rs k).length = rs.length := by
  induction rs generalizing k with
  | nil => rfl
  | cons f r ih => simp [markB, ih]
theorem markB_append (a b : List Rb) (k : Int) : markB (a ++ b) k = markB a k ++ markB b (k + cntB a) := by
  induction a generalizing k with
  | nil => simp [markB, cntB]
  | cons f r ih =>
    simp only [List.cons_append, markB, cntB, ih]
    rw [show k + 1 + cntF f.fs + cntB r = k + (1 + cntF f.fs + cntB r) from by omega]
theorem markB_take {rs : List Rb} {k : Nat} {r : Rb} (h : rs[k]? = some r) (x : Int) : markB (rs.take (k + 1)) x = markB (rs.take k) x ++ [⟨x + cntB (rs.take k), markF r.fs (x + cntB (rs.take k) + 1)⟩] := by
  rw [List.take_add_one, h, markB_append]; simp [markB]
theorem markB_get {rs : List Rb} {k : Nat} {r : Rb} (h : rs[k]? = some r) (x : Int) : (markB rs x)[k]? = some ⟨x + cntB (rs.take k), markF r.fs (x + cntB (rs.take k) + 1)⟩ := by
  have hl := get_lt h
  have e : markB rs x = markB (rs.take (k + 1)) x ++ markB (rs.drop (k + 1)) (x + cntB (rs.take (k + 1))) := by rw [← markB_append, List.take_append_drop]
  have h2 : (markB (rs.take k) x).length = k := by rw [markB_len, List.length_take]; omega
  rw [e, List.getElem?_append_left (by rw [markB_len, List.length_take]; omega), markB_take h, List.getElem?_append_right (by omega), h2]
  simp
def midB (rs : List Rb) (k : Nat) (x : Int) : List Rb := markB (rs.take k) x ++ rs.drop k
theorem midB_len (rs : List Rb) (k : Nat) (x : Int) : (midB rs k x).length = rs.length := by
  unfold midB
  rw [List.length_append, markB_len, ← List.length_append, List.take_append_drop]
theorem midB_get {rs : List Rb} {k : Nat} {r : Rb} (h : rs[k]? = some r) (x : Int) : (midB rs k x)[k]? = some r := by
  have hl := get_lt h
  have h2 : (markB (rs.take k) x).length = k := by rw [markB_len, List.length_take]; omega
  unfold midB
  rw [List.getElem?_append_right (by omega), h2, Nat.sub_self, List.getElem?_drop]
  exact h
theorem midB_set {rs : List Rb} {k : Nat} {r : Rb} (h : rs[k]? = some r) (x : Int) : (midB rs k x).set k ⟨x + cntB (rs.take k), markF r.fs (x + cntB (rs.take k) + 1)⟩ = midB rs (k + 1) x := by
  have hl := get_lt h
  have h2 : (markB (rs.take k) x).length = k := by rw [markB_len, List.length_take]; omega
  have h3 : rs.drop k = r :: rs.drop (k + 1) := by
    rw [List.drop_eq_getElem_cons hl]
    rw [List.getElem?_eq_getElem hl] at h
    rw [Option.some.inj h]
  unfold midB
  rw [List.set_append_right _ _ (by omega), h2, Nat.sub_self, h3, List.set_cons_zero, markB_take h, List.append_assoc]
  rfl
theorem midB_all (rs : List Rb) (x : Int) : midB rs rs.length x = markB rs x := by simp [midB]
theorem midB_zero (rs : List Rb) (x : Int) : midB rs 0 x = rs := by simp [midB, markB]
def cntL (l : Ln) : Int := cntB l.rs + l.ws.length + l.cs.length
def markLn (l : Ln) (k : Int) : Ln := ⟨markB l.rs k, markI l.ws.length (k + cntB l.rs), markI l.cs.length (k + cntB l.rs + l.ws.length)⟩
theorem cntL_bd {l : Ln} (h : lsz l ≤ 1048576) : 0 ≤ cntB l.rs ∧ 0 ≤ cntL l ∧ cntL l ≤ 5000000 ∧ cntB l.rs ≤ 5000000 := by
  have h1 := cntB_bd l.rs
  unfold lsz at h
  unfold cntL
  omega
theorem own_at6 {w w' : World} {lo : Nat} {e : TypeId} {size : Nat} {v : Value} {n : Nat} {xs : List Value} (h : w.ownsRow lo e size v n xs) (hb : ∀ b, v.ownBlock = some b → w'.heap[b]? = w.heap[b]?) : w'.ownsRow lo e size v n xs := by
  refine ⟨h.1, ?_⟩
  rcases h.2 with hn | ⟨g, cap, cur, rfl, hg, hgg, rest⟩
  · exact .inl hn
  · exact .inr ⟨g, cap, cur, rfl, hg, (hb g rfl).trans hgg, rest⟩
theorem dv_chg {w w' : World} {s e n a z : Nat} {v : Value} {hs : List Fh} {fs : List Flw} (D : DV w s e v n hs fs) (hc : Chg a z w w') (hd : e ≤ a ∨ z ≤ s) (ht : e ≤ w.heap.size) : DV w' s e v n hs fs :=
  doi_loc (lo := s) (hi := e) D fun b h1 h2 => hc.block b (by omega) (by omega)
section
variable {w w' : World} {lo n : Nat} {v : Value} {hs : List Rh} {rs : List Rb} {iv : Nat → Nat × Nat} {D : Nat → Prop}
theorem dr_num {g c k : Nat} {h : Rh} {r : Rb} (H : DR w lo (.slice (some ⟨g, 0, none⟩) n c) n hs rs iv D) (hh : hs[k]? = some h) (hr : rs[k]? = some r) (x : Int) :
    DR (w.setCell ⟨g, k * 2, none⟩ (.int .i64 x)) lo (.slice (some ⟨g, 0, none⟩) n c) n (hs.set k ⟨x, h.A, h.n, h.c⟩) (rs.set k ⟨x, r.fs⟩) iv D := by
  have hgb : w.grownBy (w.setCell ⟨g, k * 2, none⟩ (.int .i64 x)) (some g) := g_set (g_refl w (some g)) (.inl rfl) _
  have hc := rcells_get hs k h hh
  have row := (H.row.stored (k * 2) (.int .i64 x)).1
  have e3 : ((rcells hs).set (k * 2) (.int .i64 x)).set (k * 2 + 1) (.slice h.A h.n h.c) = (rcells hs).set (k * 2) (.int .i64 x) := by
    apply List.ext_getElem?
    intro i
    by_cases hi : k * 2 + 1 = i
    · subst hi
      rw [List.getElem?_set_self (by have := get_lt hh; simp [rcells_len]; omega), List.getElem?_set_ne (by omega), hc.2]
    · rw [List.getElem?_set_ne hi]
  have e4 := rcells_set hs k ⟨x, h.A, h.n, h.c⟩
  simp only at e4
  rw [e3] at e4
  refine ⟨by rw [← e4]; exact row, by rw [List.length_set, List.length_set]; exact H.len, fun j hj q r' e1 e2 => ?_, H.off, H.apart, fun j => Nat.le_trans (H.top j) hgb.size⟩
  by_cases hjk : k = j
  · subst hjk
    rw [List.getElem?_set_self (get_lt hh)] at e1
    rw [List.getElem?_set_self (get_lt hr)] at e2
    obtain rfl := Option.some.inj e1
    obtain rfl := Option.some.inj e2
    obtain ⟨a1, a2, a3, fh, a4⟩ := H.all k hj h r hh hr
    exact ⟨rfl, a2, a3, fh, dv_grown a4 hgb fun b e => by injection e with e; subst e; exact H.off _ rfl k⟩
  · rw [List.getElem?_set_ne hjk] at e1 e2
    obtain ⟨a1, a2, a3, fh, a4⟩ := H.all j hj q r' e1 e2
    exact ⟨a1, a2, a3, fh, dv_grown a4 hgb fun b e => by injection e with e; subst e; exact H.off _ rfl j⟩
theorem dr_chg {k : Nat} {h : Rh} {r : Rb} {fh : List Fh} {fs' : List Flw} (H : DR w lo v n hs rs iv D) (hh : hs[k]? = some h) (hr : rs[k]? = some r) (hk : D k) (hc : Chg (iv k).1 (iv k).2 w w') (hd : DV w' (iv k).1 (iv k).2 h.sl h.n fh fs') :
    DR w' lo v n hs (rs.set k ⟨r.q, fs'⟩) iv D := by
  obtain ⟨b1, b2, b3, -⟩ := H.all k hk h r hh hr
  refine ⟨own_at6 H.row fun b e => hc.block b (H.row.lt b e).2 (H.off b e k), by rw [List.length_set]; exact H.len, fun j hj q r' e1 e2 => ?_, H.off, H.apart, fun j => Nat.le_trans (H.top j) hc.size⟩
  by_cases hjk : k = j
  · subst hjk
    rw [List.getElem?_set_self (get_lt hr)] at e2
    obtain rfl := Option.some.inj e2
    obtain rfl : h = q := Option.some.inj (hh.symm.trans e1)
    exact ⟨b1, b2, b3, fh, hd⟩
  · rw [List.getElem?_set_ne hjk] at e2
    obtain ⟨a1, a2, a3, fh2, a4⟩ := H.all j hj q r' e1 e2
    exact ⟨a1, a2, a3, fh2, dv_chg a4 hc (H.apart j k fun e => hjk e.symm) (H.top j)⟩
end
structure MbRel (w : World) (lo hi : Nat) (v : Value) (n : Nat) (rs : List Rb) (iv : Nat → Nat × Nat) (k0 : Int) (k : Nat) (x : Int) (cur : List Rh) (wr : World) : Prop where
  kn : k ≤ n
  hx : x = k0 + cntB (rs.take k)
  hD : DR wr lo v n cur (midB rs k k0) iv (fun j => j < n)
  hc : Chg lo hi w wr
  hk : ∀ b, b < w.heap.size → Out6 v iv b → wr.heap[b]? = w.heap[b]?
def MbR (w : World) (lo hi : Nat) (v : Value) (n : Nat) (rs : List Rb) (iv : Nat → Nat × Nat) (k0 : Int) (kv i : Value) (wr : World) : Prop :=
  ∃ (k : Nat) (x : Int) (cur : List Rh), i = .int .i64 (k : Int) ∧ kv = .int .i64 x ∧ MbRel w lo hi v n rs iv k0 k x cur wr
def MbPost (w : World) (lo hi : Nat) (v : Value) (n : Nat) (rs : List Rb) (iv : Nat → Nat × Nat) (k0 : Int) (e : Ending) (w' : World) : Prop :=
  ∃ cur, e = .returned (.int .i64 (k0 + cntB rs)) ∧ DR w' lo v n cur (markB rs k0) iv (fun j => j < n) ∧ Chg lo hi w w' ∧ ∀ b, b < w.heap.size → Out6 v iv b → w'.heap[b]? = w.heap[b]?
set_option maxRecDepth 100000 in
set_option maxHeartbeats 2000000 in
theorem markRobinS_any (lo hi : Nat) (A : Option Addr) (n c : Nat) (hs : List Rh) (rs : List Rb) (iv : Nat → Nat × Nat) (k0 : Int) (w : World) (h : DR w lo (.slice A n c) n hs rs iv (fun j => j < n)) (hA : ∀ b, Value.ownBlock (.slice A n c) = some b → b < hi) (hI : ∀ k, (iv k).2 ≤ hi) (hn : n ≤ 1048576) (hT : rsz rs ≤ 1048576) (hk : 0 ≤ k0 ∧ k0 ≤ 20000000) :
    Calls Try.prog 103 #[.slice A n c, .int .i64 k0] w (MbPost w lo hi (.slice A n c) n rs iv k0) := by
  have hl0 : rs.length = n := (dr_len h).2
  by_cases h0 : n = 0
  · subst h0
    obtain rfl : rs = [] := List.eq_nil_of_length_eq_zero hl0
    have H := Lib.hid h
    clear h
    go_enter Try.func103, Try.ntmps103
    go_wp2
    refine wp_loop_rounds 1 ?_
    rw [rounds_succ]
    go_wp2
    go_ret
    exact ⟨hs, ret_int (by simp [cntB]), H.out, chg_below (Below.refl _ _), fun b _ _ => rfl⟩
  · obtain ⟨g, c', hv, hbb, hlt0⟩ := h.row.form (by omega)
    obtain ⟨rfl, rfl⟩ : A = some ⟨g, 0, none⟩ ∧ c = c' := by injection hv with a1 a2 a3; exact ⟨a1, a3⟩
    have R0 : MbR w lo hi (.slice (some ⟨g, 0, none⟩) n c) n rs iv k0 (.int .i64 k0) (.int .i64 0) w := ⟨0, k0, hs, rfl, rfl, ⟨Nat.zero_le _, by simp [cntB], by rw [midB_zero]; exact h, chg_below (Below.refl _ _), fun b _ _ => rfl⟩⟩
    have HR := Lib.hid R0
    have hghi : g < hi := hA g rfl
    have hcnt := cntB_bd rs
    have HL := Lib.hid hl0
    have HI := Lib.hid hI
    clear R0 h hv hA hI
    go_enter Try.func103, Try.ntmps103
    go_wp2
    go_loopw [1, 5] (fun kv i wr => MbR w lo hi (.slice (some ⟨g, 0, none⟩) n c) n rs iv k0 kv i wr) (fun _ i _ => n - (intOf i).toNat)
    case atStart => exact HR.out
    case round =>
      obtain ⟨k, x, cur, rfl, rfl, hM⟩ := hrel
      clear HR
      have hkn := hM.kn
      have hx0 : 0 ≤ x ∧ x ≤ 40000000 := by have := hM.hx; have := cntB_take_le rs k; omega
      by_cases hlt : k < n
      · obtain ⟨bb, oo, q, e1, -, hq, c0, c1'⟩ := hq_at (hq_own hM.hD.row) hlt
        obtain ⟨rfl, rfl⟩ : g = bb ∧ 0 = oo := by injection e1 with e1; injection e1 with a b; exact ⟨a, b⟩
        rw [Nat.zero_add] at c0 c1'
        obtain ⟨r, hr⟩ := get_of (xs := rs) (k := k) (by have := HL.out; omega)
        have f0 := World.ownsRow.frozenAt hM.hD.row (k * 2)
        have D1 := dr_num hM.hD hq (midB_get hr k0) x
        have hq2 : (cur.set k ⟨x, q.A, q.n, q.c⟩)[k]? = some ⟨x, q.A, q.n, q.c⟩ := List.getElem?_set_self (get_lt hq)
        have hr2 : ((midB rs k k0).set k ⟨x, r.fs⟩)[k]? = some ⟨x, r.fs⟩ := List.getElem?_set_self (by rw [midB_len]; have := HL.out; omega)
        obtain ⟨-, p2, p3, fh, p4⟩ := D1.all k hlt _ _ hq2 hr2
        have hqn : r.fs.length = q.n := (do_cap p4.1).1
        have hsz := rsz_get hr
        have hqn2 : q.n ≤ 1048576 := by omega
        have ht2 : total r.fs ≤ 1048576 := by omega
        have HP := Lib.hid p4
        have HP3 := Lib.hid p3
        have HM := Lib.hid hM
        have HD1 := Lib.hid D1
        have HRr := Lib.hid hr
        have HQ2 := Lib.hid hq2
        have HR2 := Lib.hid hr2
        clear hM D1 hr hq hq2 hr2 p4 e1 p3 hsz hqn
        go_wp2_with fail
        refine (markFlowS_any (iv k).1 (iv k).2 q.A q.n q.c fh r.fs (x + 1) _ HP.out hqn2 ht2 (by omega)).mono ?_
        rintro e w2 ⟨cf, rfl, hd2, hc2, -, -⟩
        have DM := Lib.hid (dr_chg HD1.out HQ2.out HR2.out hlt hc2 hd2)
        have CH := Lib.hid (chg_trans (chg_set HM.out.hc (by show lo ≤ g; exact hbb) hghi (.int .i64 x)) (chg_mono hc2 HP3.out (HI.out k)))
        have KP := Lib.hid (show ∀ b, b < w.heap.size → Out6 (.slice (some ⟨g, 0, none⟩) n c) iv b → w2.heap[b]? = w.heap[b]? from fun b hb hno => by
          have h1 : ¬ b = g := fun e => hno.1 (by rw [e]; rfl)
          rw [hc2.block b (by have := HM.out.hc.size; simp; omega) (hno.2 k)]
          rw [← HM.out.hk b hb hno]
          exact ((g_set (g_refl wr (some g)) (.inl rfl) _).block b (Nat.lt_of_lt_of_le hb HM.out.hc.size) (fun e => h1 (by injection e))))
        clear hd2 hc2 c0 c1' f0
        go_wp2
        go_roundw
        case rel =>
          refine ⟨k + 1, _, cur.set k ⟨x, q.A, q.n, q.c⟩, by go_num, rfl, ⟨by omega, ?_, ?_, CH.out, KP.out⟩⟩
          · have h1 := HM.out.hx
            have h2 := cntB_take HRr.out
            omega
          · have h1 := midB_set HRr.out k0
            have h2 := HM.out.hx
            rw [← h2] at h1
            rw [List.set_set] at DM
            rw [← h1]
            exact DM.out
        case measure => simp [intOf]; omega
      · obtain rfl : k = n := by omega
        have hx := hM.hx
        have hD := hM.hD
        have hT2 : rs.take k = rs := List.take_of_length_le (by have := HL.out; omega)
        have hm2 : midB rs k k0 = markB rs k0 := by rw [← HL.out]; exact midB_all rs k0
        rw [hT2] at hx
        rw [hm2] at hD
        have HX := Lib.hid hx
        have HD := Lib.hid hD
        have HC := Lib.hid hM.hc
        have HKP := Lib.hid hM.hk
        clear hM hx hD hT2 hm2
        go_wp2
        go_ret
        exact ⟨cur, ret_int HX.out, HD.out, HC.out, HKP.out⟩
structure In6 (hi : Nat) (vA vB vC : Value) (iv : Nat → Nat × Nat) : Prop where
  a : ∀ b, vA.ownBlock = some b → b < hi
  b : ∀ b, vB.ownBlock = some b → b < hi
  c : ∀ b, vC.ownBlock = some b → b < hi
  i : ∀ k, (iv k).2 ≤ hi
def LI (lo hi : Nat) (vA : Value) (n : Nat) (vB : Value) (m : Nat) (vC : Value) (o : Nat) (hs : List Rh) (iv : Nat → Nat × Nat) (l : Ln) (w : World) : Prop :=
  LO w lo vA n vB m vC o hs iv l ∧ In6 hi vA vB vC iv
section
variable {w w' : World} {lo hi n m o : Nat} {vA vB vC : Value} {hs : List Rh} {iv : Nat → Nat × Nat} {l : Ln}
theorem li_all (h : LO w lo vA n vB m vC o hs iv l) : LI lo w.heap.size vA n vB m vC o hs iv l w := ⟨h, fun b e => (h.r.row.lt b e).2, fun b e => (h.b.lt b e).2, fun b e => (h.c.lt b e).2, h.r.top⟩
theorem li_loc (h : LI lo hi vA n vB m vC o hs iv l w) (hs' : w.heap.size ≤ w'.heap.size) (hb : ∀ b, lo ≤ b → b < hi → w'.heap[b]? = w.heap[b]?) : LI lo hi vA n vB m vC o hs iv l w' :=
  ⟨⟨⟨own_loc h.1.r.row h.2.a hb, h.1.r.len, fun k hk q r e1 e2 => by
    obtain ⟨a1, a2, a3, fh, a4⟩ := h.1.r.all k hk q r e1 e2
    exact ⟨a1, a2, a3, fh, doi_loc (lo := (iv k).1) (hi := (iv k).2) a4 fun b h1 h2 => hb b (by omega) (by have := h.2.i k; omega)⟩, h.1.r.off, h.1.r.apart, fun k => Nat.le_trans (h.1.r.top k) hs'⟩,
    own_loc h.1.b h.2.b hb, own_loc h.1.c h.2.c hb, h.1.ab, h.1.ac, h.1.bc⟩, h.2⟩
theorem at_li (h : LI lo hi vA n vB m vC o hs iv l w) (hf : hi ≤ w.heap.size) : At lo hi (LI lo hi vA n vB m vC o hs iv l) w := ⟨h, hf, fun _ h1 h2 => li_loc h h1 h2⟩
theorem li_lr {A B C : Option Addr} {c d f : Nat} (h : LI lo hi (.slice A n c) n (.slice B m d) m (.slice C o f) o hs iv l w) (hn : n ≤ 4000000000) (hm : m ≤ 4000000000) (ho : o ≤ 4000000000) : LR w A n B m C o l := lo_lr h.1 hn hm ho
end
theorem fm_li {w3 w1 w2 : World} {L : List Iv} {s : Nat} {vA vB vC : Value} {n m o : Nat} {hs : List Rh} {iv : Nat → Nat × Nat} {l : Ln} (h : Fm w3 L w1) (hb : Below w1.heap.size w1 w2) (hD : LO w2 w1.heap.size vA n vB m vC o hs iv l) (e : w1.heap.size = s) : Fm w3 (L ++ [⟨s, w2.heap.size, LI s w2.heap.size vA n vB m vC o hs iv l⟩]) w2 := by
  subst e
  exact fm_at h hb (at_li (li_all hD) (Nat.le_refl _)) rfl
def OutL (vA vB vC : Value) (iv : Nat → Nat × Nat) (b : Nat) : Prop := Out6 vA iv b ∧ vB.ownBlock ≠ some b ∧ vC.ownBlock ≠ some b
def MlPost (w : World) (lo hi : Nat) (vA : Value) (n : Nat) (vB : Value) (m : Nat) (vC : Value) (o : Nat) (iv : Nat → Nat × Nat) (l : Ln) (k0 : Int) (e : Ending) (w' : World) : Prop :=
  ∃ cur, e = .returned (.int .i64 (k0 + cntL l)) ∧ LI lo hi vA n vB m vC o cur iv (markLn l k0) w' ∧ Chg lo hi w w' ∧ ∀ b, b < w.heap.size → OutL vA vB vC iv b → w'.heap[b]? = w.heap[b]?
set_option maxRecDepth 100000 in
set_option maxHeartbeats 2000000 in
theorem markLanes_any (lo hi : Nat) (A : Option Addr) (n c : Nat) (B : Option Addr) (m d : Nat) (C : Option Addr) (o f : Nat) (hs : List Rh) (iv : Nat → Nat × Nat) (l : Ln) (k0 : Int) (w : World) (h : LI lo hi (.slice A n c) n (.slice B m d) m (.slice C o f) o hs iv l w) (hhi : hi ≤ w.heap.size) (hT : lsz l ≤ 1048576) (hk : 0 ≤ k0 ∧ k0 ≤ 10000000) :
    Calls Try.prog 57 #[.agg #[.slice A n c, .slice B m d, .slice C o f], .int .i64 k0] w (MlPost w lo hi (.slice A n c) n (.slice B m d) m (.slice C o f) o iv l k0) := by
  have hl1 := (dr_len h.1.r).2
  have hl2 : l.ws.length = m := (nr_own h.1.b).1
  have hl3 : l.cs.length = o := (nr_own h.1.c).1
  have hcb := cntL_bd hT
  have hls : lsz l = n + rsz l.rs + m + o := by rw [lsz, hl1, hl2, hl3]
  have HL := Lib.hid (And.intro hl1 (And.intro hl2 hl3))
  have n0 : n ≤ 1048576 := by omega
  have m0 : m ≤ 1048576 := by omega
  have o0 : o ≤ 1048576 := by omega
  have r0 : rsz l.rs ≤ 1048576 := by omega
  have H := Lib.hid h
  have F := Lib.hid (fm_one w 38 #[.slice A n c, .slice B m d, .slice C o f])
  have H1 := Lib.hid (li_loc h (w' := w.alloc (.cells #[.slice A n c, .slice B m d, .slice C o f] 38)) (by simp) fun b _ h2 => (below_alloc (Below.refl w.heap.size w) _).block b (by omega))
  clear h hl1 hl2 hl3 hls
  obtain ⟨⟨x0, x1, x2⟩, -⟩ := blk_three (fm_blk F.out 0 rfl)
  go_enter Try.func57, Try.ntmps57
  go_wp2_with fail
  refine (markRobinS_any lo hi A n c hs l.rs iv k0 _ H1.out.1.r H1.out.2.a H1.out.2.i n0 r0 (by omega)).mono ?_
  rintro e w1 ⟨cur, rfl, hd, hc, hkp⟩
  have z1 := hc.size
  simp at z1
  have BX1 := Lib.hid (show Blk w1 w.heap.size 38 #[.slice A n c, .slice B m d, .slice C o f] from (hc.block _ (by simp) (.inr hhi)).trans (fm_blk F.out 0 rfl))
  have OB := Lib.hid (own_at6 H1.out.1.b fun b e => hkp b (H1.out.1.b.lt b e).2 (H1.out.1.ab b e))
  have OC := Lib.hid (own_at6 H1.out.1.c fun b e => hkp b (H1.out.1.c.lt b e).2 (H1.out.1.ac b e))
  have D1 := Lib.hid hd
  have C1 := Lib.hid hc
  have K1 := Lib.hid (show ∀ b, b < w.heap.size → OutL (.slice A n c) (.slice B m d) (.slice C o f) iv b → w1.heap[b]? = w.heap[b]? from fun b hb hno => (hkp b (by simp; omega) hno.1).trans ((below_alloc (Below.refl w.heap.size w) _).block b hb))
  clear hd hc hkp x0 x1 x2
  obtain ⟨⟨x0, x1, x2⟩, -⟩ := blk_three BX1.out
  go_wp2_with fail
  refine (markIntS_any lo B m d (k0 + cntB l.rs) l.ws _ OB.out (by omega) (by omega)).mono ?_
  rintro e w2 ⟨rfl, ho, hg⟩
  have K2 := Lib.hid (show ∀ b, b < w.heap.size → OutL (.slice A n c) (.slice B m d) (.slice C o f) iv b → w2.heap[b]? = w.heap[b]? from fun b hb hno => (hg.block b (by have := C1.out.size; simp at this; omega) (fun e => hno.2.1 e.symm)).trans (K1.out b hb hno))
  have BX2 := Lib.hid (show Blk w2 w.heap.size 38 #[.slice A n c, .slice B m d, .slice C o f] from (hg.block _ (blk_lt BX1.out) (fun e => by have := H.out.2.b _ e.symm; omega)).trans BX1.out)
  have OB2 := Lib.hid ho
  have OC2 := Lib.hid (own_kept6 OC.out hg fun b e e2 => H.out.1.bc b e e2)
  have D2 := Lib.hid (dr_grown D1.out hg fun b e => H.out.1.ab b e)
  have C2 := Lib.hid (chg_trans C1.out (chg_grown hg fun b e => ⟨(OB.out.lt b e).1, H.out.2.b b e⟩))
  clear ho hg x0 x1 x2
  obtain ⟨⟨x0, x1, x2⟩, -⟩ := blk_three BX2.out
  go_wp2_with fail
  refine (markIntS_any lo C o f (k0 + cntB l.rs + m) l.cs _ OC2.out (by omega) (by omega)).mono ?_
  rintro e w3 ⟨rfl, ho, hg⟩
  have K3 := Lib.hid (show ∀ b, b < w.heap.size → OutL (.slice A n c) (.slice B m d) (.slice C o f) iv b → w3.heap[b]? = w.heap[b]? from fun b hb hno => (hg.block b (by have := C2.out.size; simp at this; omega) (fun e => hno.2.2 e.symm)).trans (K2.out b hb hno))
  have OB3 := Lib.hid (own_kept6 OB2.out hg fun b e e2 => H.out.1.bc b e2 e)
  have D3 := Lib.hid (dr_grown D2.out hg fun b e => H.out.1.ac b e)
  have C3 := Lib.hid (chg_trans C2.out (chg_grown hg fun b e => ⟨(OC2.out.lt b e).1, H.out.2.c b e⟩))
  have OC3 := Lib.hid ho
  clear ho hg x0 x1 x2
  go_wp2
  go_ret
  refine ⟨cur, ret_int (by have := HL.out; unfold cntL; omega), ⟨⟨D3.out, ?_, ?_, H.out.1.ab, H.out.1.ac, H.out.1.bc⟩, H.out.2⟩, chg_trans (chg_below (below_alloc (Below.refl w.heap.size w) _)) C3.out, K3.out⟩
  · show World.ownsRow _ _ _ _ _ _ (icells (markI l.ws.length (k0 + cntB l.rs)))
    rw [HL.out.2.1]
    exact OB3.out
  · show World.ownsRow _ _ _ _ _ _ (icells (markI l.cs.length (k0 + cntB l.rs + l.ws.length)))
    rw [HL.out.2.2, HL.out.2.1]
    exact OC3.out
def HbRel (n : Nat) (rs : List Rb) (k0 : Int) (w0 : World) (kv i : Value) (wr : World) : Prop := ∃ (k : Nat) (x : Int), k ≤ n ∧ i = .int .i64 (k : Int) ∧ kv = .int .i64 x ∧ x = k0 + cntB (rs.take k) ∧ w0 = wr
set_option maxRecDepth 100000 in
set_option maxHeartbeats 2000000 in
theorem heldRobinS_any (A : Option Addr) (n c : Nat) (rs : List Rb) (k0 : Int) (w : World) (h : RR w A n (markB rs k0)) (hn : n ≤ 1048576) (hT : rsz rs ≤ 1048576) (hk : 0 ≤ k0 ∧ k0 ≤ 20000000) :
    Calls Try.prog 104 #[.slice A n c, .int .i64 k0] w fun e w' => e = .returned (.int .i64 (k0 + cntB rs)) ∧ w = w' := by
  have H := Lib.hid h
  have hl0 : rs.length = n := by have := (rr_len h).1; rw [markB_len] at this; exact this
  have HL := Lib.hid hl0
  have hcnt := cntB_bd rs
  clear h
  go_enter Try.func104, Try.ntmps104
  go_wp2
  go_loopw [1, 5] (fun kv i wr => HbRel n rs k0 w kv i wr) (fun _ i _ => n - (intOf i).toNat)
  case atStart => exact ⟨0, k0, Nat.zero_le _, rfl, rfl, by simp [cntB], rfl⟩
  case round =>
    obtain ⟨k, x, hk', rfl, rfl, hx, rfl⟩ := hrel
    have hx0 : 0 ≤ x ∧ x ≤ 40000000 := by have := cntB_take_le rs k; omega
    have HX := Lib.hid hx
    by_cases hlt : k < n
    · obtain ⟨b, off, f', A1, n1, c1, rfl, hb, hf', d0, d1, hp⟩ := rr_at H.out hlt
      obtain ⟨f, hf⟩ := get_of (xs := rs) (k := k) (by have := HL.out; omega)
      rw [markB_get hf, Option.some.injEq, ← hx] at hf'
      subst hf'
      have hp' : FR w A1 n1 (markF f.fs (x + 1)) := hp
      have hl1 : f.fs.length = n1 := by have := (fr_lenF hp').1; rw [markF_len] at this; exact this
      have hsz := rsz_get hf
      have hn1' : n1 ≤ 1048576 := by omega
      have ht1 : total f.fs ≤ 1048576 := by omega
      have hct := cntB_take hf
      have hle := cntB_take_le rs (k + 1)
      have hcf := cntF_eq f.fs
      have HT := Lib.hid hct
      have HP := Lib.hid hp'
      have k0' : (0 : Int) ≤ (k : Int) := by omega
      have k1' : (k : Int) < (n : Int) := by omega
      have h9 : decide (x + 1 + cntF f.fs < 0) = false := by simp; omega
      have h10 : 0 ≤ x + 1 + cntF f.fs := by omega
      simp only at d0 d1
      clear hx hf hp hp' hl1 hle hct hcf hsz
      go_wp2_with fail
      refine (heldFlowS_any A1 n1 c1 f.fs (x + 1) _ HP.out hn1' ht1 (by omega)).mono ?_
      rintro e w1 ⟨rfl, rfl⟩
      go_wp2
      go_roundw
      case rel => exact ⟨k + 1, _, by omega, by go_num, rfl, by have := HX.out; have := HT.out; omega, rfl⟩
      case measure => simp [intOf]; omega
    · obtain rfl : k = n := by omega
      have hT2 : rs.take k = rs := List.take_of_length_le (by have := HL.out; omega)
      rw [hT2] at HX
      clear hx hT2
      go_wp2
      go_ret
      exact ⟨ret_int HX.out, rfl⟩
set_option maxRecDepth 100000 in
set_option maxHeartbeats 2000000 in
theorem heldLanes_any (A : Option Addr) (n c : Nat) (B : Option Addr) (m d : Nat) (C : Option Addr) (o f : Nat) (l : Ln) (k0 : Int) (w : World) (h : LR w A n B m C o (markLn l k0)) (hT : lsz l ≤ 1048576) (hk : 0 ≤ k0 ∧ k0 ≤ 10000000) :
    Calls Try.prog 61 #[.agg #[.slice A n c, .slice B m d, .slice C o f], .int .i64 k0] w fun e w' => e = .returned (.int .i64 (k0 + cntL l)) ∧ Below w.heap.size w w' := by
  have hl1 : l.rs.length = n := by have := (rr_len h.r).1; rw [show (markLn l k0).rs = markB l.rs k0 from rfl, markB_len] at this; exact this
  have hl2 : l.ws.length = m := by have := h.wt.1; rw [show (markLn l k0).ws = markI l.ws.length (k0 + cntB l.rs) from rfl, markI_len] at this; exact this
  have hl3 : l.cs.length = o := by have := h.cr.1; rw [show (markLn l k0).cs = markI l.cs.length (k0 + cntB l.rs + l.ws.length) from rfl, markI_len] at this; exact this
  have hcb := cntL_bd hT
  have hls : lsz l = n + rsz l.rs + m + o := by rw [lsz, hl1, hl2, hl3]
  have n0 : n ≤ 1048576 := by omega
  have m0 : m ≤ 1048576 := by omega
  have o0 : o ≤ 1048576 := by omega
  have r0 : rsz l.rs ≤ 1048576 := by omega
  have HL := Lib.hid (And.intro hl1 (And.intro hl2 hl3))
  have F := Lib.hid (fm_one w 38 #[.slice A n c, .slice B m d, .slice C o f])
  have H := Lib.hid (lr_below h F.out.below)
  have HW : Hid (NR (w.alloc (.cells #[.slice A n c, .slice B m d, .slice C o f] 38)) B m (markI m (k0 + cntB l.rs))) := Lib.hid (by have := H.out.wt; rw [show (markLn l k0).ws = markI l.ws.length (k0 + cntB l.rs) from rfl, hl2] at this; exact this)
  have HC : Hid (NR (w.alloc (.cells #[.slice A n c, .slice B m d, .slice C o f] 38)) C o (markI o (k0 + cntB l.rs + m))) := Lib.hid (by have := H.out.cr; rw [show (markLn l k0).cs = markI l.cs.length (k0 + cntB l.rs + l.ws.length) from rfl, hl2, hl3] at this; exact this)
  have k1 : decide (k0 + cntB l.rs < 0) = false := by simp; omega
  have k2 : decide (k0 + cntB l.rs + (m : Int) < 0) = false := by simp; omega
  have k3 : decide (k0 + cntB l.rs + (m : Int) + (o : Int) < 0) = false := by simp; omega
  have j1 : 0 ≤ k0 + cntB l.rs := by omega
  have j2 : 0 ≤ k0 + cntB l.rs + (m : Int) := by omega
  have j3 : 0 ≤ k0 + cntB l.rs + (m : Int) + (o : Int) := by omega
  clear h hl1 hl2 hl3 hls
  obtain ⟨⟨x0, x1, x2⟩, -⟩ := blk_three (fm_blk F.out 0 rfl)
  go_enter Try.func61, Try.ntmps61
  go_wp2_with fail
  refine (heldRobinS_any A n c l.rs k0 _ H.out.r n0 r0 (by omega)).mono ?_
  rintro e w1 ⟨rfl, rfl⟩
  go_wp2_with fail
  refine (heldIntS_any B m d (k0 + cntB l.rs) _ HW.out (by omega) (by omega)).mono ?_
  rintro e w1 ⟨rfl, rfl⟩
  go_wp2_with fail
  refine (heldIntS_any C o f (k0 + cntB l.rs + m) _ HC.out (by omega) (by omega)).mono ?_
  rintro e w1 ⟨rfl, rfl⟩
  go_wp2
  go_ret
  exact ⟨ret_int (by have := HL.out; unfold cntL; omega), F.out.below⟩
end Go.Proofs.Ytiodhdcgfdlknaa
namespace Go.Proofs.Ytiodhdcgfdlknaa
open Go.ChangeShapes Go.WideShapes Go.ChangeAt Go.RowKit Go.Deep
end Go.Proofs.Ytiodhdcgfdlknaa
