/-
  Chapter 5: copies of robins: what the program's function returns. Conditions: a robin has at most 4000000000 flows, a flow at most 4000000000 packets.
-/
import Derived.Test.YtehokkijfgiggaaR1
import Derived.Test.YtehokkijfgiggaaAppFlw
namespace Go.Proofs.Ytehokkijfgiggaa
open Go.RowKit

/-- the first k flows of a row have packets of their own; the others are as they came -/
structure DK (w : World) (lo : Nat) (v : Value) (n k : Nat) (cur hs : List Fh) (fs : List Flw) : Prop where
  row : w.ownsRow lo 40 3 v n (fcells cur)
  len : cur.length = fs.length
  rest : ∀ j, k ≤ j → cur[j]? = hs[j]?
  all : ∀ (j : Nat) (h : Fh) (f : Flw), j < k → cur[j]? = some h → fs[j]? = some f → h.peer = f.peer ∧ h.dfc = f.dfc ∧ h.n ≤ 4000000000 ∧ w.ownsRow lo 28 4 h.sl h.n (pcells f.ws) ∧ (∀ b, h.sl.ownBlock = some b → v.ownBlock ≠ some b)
  apart : ∀ (i j : Nat) (h g : Fh), i < k → j < k → i ≠ j → cur[i]? = some h → cur[j]? = some g → ∀ b, h.sl.ownBlock = some b → g.sl.ownBlock ≠ some b
theorem dk_below {w w' : World} {lo : Nat} {v : Value} {n k : Nat} {cur hs : List Fh} {fs : List Flw} (h : DK w lo v n k cur hs fs) (hb : Below w.heap.size w w') : DK w' lo v n k cur hs fs :=
  ⟨own_below h.row hb, h.len, h.rest, fun j g f hj h1 h2 => by
    obtain ⟨e1, e2, e3, e4, e5⟩ := h.all j g f hj h1 h2
    exact ⟨e1, e2, e3, own_below e4 hb, e5⟩, h.apart⟩
theorem dk_zero {w : World} {lo : Nat} {v : Value} {n : Nat} {hs : List Fh} {fs : List Flw} (ho : w.ownsRow lo 40 3 v n (fcells hs)) (hl : hs.length = fs.length) : DK w lo v n 0 hs hs fs :=
  ⟨ho, hl, fun _ _ => rfl, fun j h f hj => absurd hj (by omega), fun i j h g hi => absurd hi (by omega)⟩
theorem dk_all {w : World} {lo : Nat} {v : Value} {n : Nat} {cur hs : List Fh} {fs : List Flw} (h : DK w lo v n n cur hs fs) : DO w lo v n cur fs := by
  have hl : cur.length = n := by have := h.row.1; rw [fcells_len] at this; omega
  have lt : ∀ {j : Nat} {g : Fh}, cur[j]? = some g → j < n := fun {j g} e => by
    rcases Nat.lt_or_ge j cur.length with hlt | hge
    · omega
    · rw [List.getElem?_eq_none hge] at e; cases e
  exact ⟨h.row, h.len, fun j g f h1 h2 => h.all j g f (lt h1) h1 h2, fun i j g g2 hij h1 h2 => h.apart i j g g2 (lt h1) (lt h2) hij h1 h2⟩
theorem dk_step {w w4 : World} {lo g n c k s m c4 : Nat} {A4 : Option Addr} {cur hs : List Fh} {fs : List Flw} {h : Fh} {f : Flw} (D : DK w lo (.slice (some ⟨g, 0, none⟩) n c) n k cur hs fs) (hk : cur[k]? = some h) (hf : fs[k]? = some f)
    (hp : h.peer = f.peer) (hd : h.dfc = f.dfc) (hb : Below w.heap.size w w4) (ho : w4.ownsRow s 28 4 (.slice A4 m c4) m (pcells f.ws)) (hs' : w.heap.size ≤ s) (hm : m ≤ 4000000000) (hlo : lo ≤ w.heap.size) :
    DK (w4.setCell ⟨g, k * 3 + 2, none⟩ (.slice A4 m c4)) lo (.slice (some ⟨g, 0, none⟩) n c) n (k + 1) (cur.set k ⟨h.peer, h.dfc, A4, m, c4⟩) hs fs := by
  have hg : g < w.heap.size := (D.row.lt g rfl).2
  have hlk : k < cur.length := by
    rcases Nat.lt_or_ge k cur.length with hlt | hge
    · exact hlt
    · rw [List.getElem?_eq_none hge] at hk; cases hk
  have hnew : ∀ b, Value.ownBlock (.slice A4 m c4) = some b → w.heap.size ≤ b := fun b e => by have := (ho.lt b e).1; omega
  have hold : ∀ (j : Nat) (q : Fh), j < k → cur[j]? = some q → ∀ b, q.sl.ownBlock = some b → b < w.heap.size := fun j q hj hq b e => by
    have hjl : j < fs.length := by rw [← D.len]; omega
    exact ((D.all j q _ hj hq (List.getElem?_eq_getElem hjl)).2.2.2.1.lt b e).2
  have hget : ∀ (j : Nat) (q : Fh), j < k + 1 → (cur.set k ⟨h.peer, h.dfc, A4, m, c4⟩)[j]? = some q → (j = k ∧ q = ⟨h.peer, h.dfc, A4, m, c4⟩) ∨ (j < k ∧ cur[j]? = some q) := by
    intro j q hj e
    by_cases hjk : k = j
    · subst hjk
      rw [List.getElem?_set_self hlk] at e
      exact .inl ⟨rfl, (Option.some.inj e).symm⟩
    · rw [List.getElem?_set_ne hjk] at e
      exact .inr ⟨by omega, e⟩
  refine ⟨?_, by rw [List.length_set]; exact D.len, fun j hj => ?_, fun j q f' hj h1 h2 => ?_, fun i j q q2 hi hj hij h1 h2 b hb1 hb2 => ?_⟩
  · have h1 := ((own_below D.row hb).stored (k * 3 + 2) (.slice A4 m c4)).1
    rw [fcells_set2 cur k h A4 m c4 hk] at h1
    exact h1
  · rw [List.getElem?_set_ne (by omega)]
    exact D.rest j (by omega)
  · rcases hget j q hj h1 with ⟨rfl, rfl⟩ | ⟨hjk, hq⟩
    · obtain rfl : f = f' := by rw [hf] at h2; exact Option.some.inj h2
      refine ⟨hp, hd, hm, own_mono (own_set_ne (p := ⟨g, j * 3 + 2, none⟩) ho (fun e => by have := hnew g e; omega) _) (by omega), fun b e e2 => ?_⟩
      have := hnew b e
      simp [Value.ownBlock] at e2
      omega
    · obtain ⟨e1, e2, e3, e4, e5⟩ := D.all j q f' hjk hq h2
      exact ⟨e1, e2, e3, own_set_ne (p := ⟨g, k * 3 + 2, none⟩) (own_below e4 hb) (fun e => e5 g e rfl) _, e5⟩
  · rcases hget i q hi h1 with ⟨rfl, rfl⟩ | ⟨hik, hq⟩
    · rcases hget j q2 hj h2 with ⟨rfl, rfl⟩ | ⟨hjk, hq2⟩
      · exact hij rfl
      · have := hnew b hb1
        have := hold j q2 hjk hq2 b hb2
        omega
    · rcases hget j q2 hj h2 with ⟨rfl, rfl⟩ | ⟨hjk, hq2⟩
      · have := hnew b hb2
        have := hold i q hik hq b hb1
        omega
      · exact D.apart i j q q2 hik hjk hij hq hq2 b hb1 hb2
/-- what a call hands back that made a robin of its own, packets and all -/
def RPost (w : World) (q : Int) (fs : List Flw) (e : Ending) (w' : World) : Prop :=
  ∃ A n c hs, e = .returned (.agg #[.int .i64 q, (.slice A n c)]) ∧ n = fs.length ∧ n ≤ c ∧ c ≤ maxLen ∧ DO w' w.heap.size (.slice A n c) n hs fs ∧ Below w.heap.size w w'
theorem do_cap {w : World} {lo : Nat} {A : Option Addr} {n c : Nat} {hs : List Fh} {fs : List Flw} (h : DO w lo (.slice A n c) n hs fs) : fs.length = n ∧ n ≤ c ∧ c ≤ maxLen := by
  obtain ⟨A', c', hv, h1, h2, -⟩ := own_form h.row
  obtain rfl : c = c' := by injection hv
  have := h.row.1
  rw [fcells_len, h.len] at this
  exact ⟨by omega, h1, h2⟩
theorem rpost_mk {w w' : World} {q : Int} {fs : List Flw} {A : Option Addr} {n c : Nat} {hs : List Fh} (h : DO w' w.heap.size (.slice A n c) n hs fs) (hb : Below w.heap.size w w') : RPost w q fs (.returned (.agg #[.int .i64 q, (.slice A n c)])) w' :=
  ⟨A, n, c, hs, rfl, (do_cap h).1.symm, (do_cap h).2.1, (do_cap h).2.2, h, hb⟩
/-- a store outside of the pieces -/
theorem al_out {w : World} {g : Nat} {k : Nat} {u : Value} : ∀ {L : List Iv} {lo : Nat}, (∀ x ∈ L, x.hi ≤ g) → Al lo L w → Al lo L (w.setCell ⟨g, k, none⟩ u)
  | [], _, _, h => by simpa [Al] using h
  | x :: r, _, hx, ⟨h1, h3, h4, h5⟩ => ⟨h1, h3, at_chg h4 (chg_grown (g_set (g_refl w (some g)) (.inl rfl) u) (lo := g) (hi := g + 1) fun b e => by injection e with e; omega) (.inl (hx x (List.mem_cons_self ..))), al_out (fun y hy => hx y (List.mem_cons_of_mem _ hy)) h5⟩
theorem fm_out {w w1 : World} {L : List Iv} {g k : Nat} (h : Fm w L w1) (hx : ∀ x ∈ L, x.hi ≤ g) (hg : w.heap.size ≤ g) (u : Value) : Fm w L (w1.setCell ⟨g, k, none⟩ u) := ⟨h.below.setCell hg u, al_out hx h.al⟩
theorem fm_grownO {w w1 w2 : World} {L : List Iv} {row : Option Nat} (h : Fm w L w1) (hg : w1.grownBy w2 row) (hr : ∀ b, row = some b → w.heap.size ≤ b ∧ ∀ x ∈ L, x.hi ≤ b) : Fm w L w2 := by
  refine ⟨h.below.grown hg h.below.size fun b e => (hr b e).1, ?_⟩
  have key : ∀ (M : List Iv) (lo : Nat), (∀ x ∈ M, x ∈ L) → Al lo M w1 → Al lo M w2 := by
    intro M
    induction M with
    | nil => intro lo _ h; exact Nat.le_trans h hg.size
    | cons x r ih =>
      intro lo hx ⟨h1, h3, h4, h5⟩
      refine ⟨h1, h3, ?_, ih _ (fun y hy => hx y (List.mem_cons_of_mem _ hy)) h5⟩
      rcases hrow : row with _ | b
      · exact at_below h4 ⟨hg.os, hg.tape, hg.output, hg.size, fun i hi => hg.block i hi (by rw [hrow]; exact fun e => by cases e)⟩
      · exact at_chg h4 (chg_grown hg (lo := b) (hi := b + 1) fun b' e => by rw [hrow] at e; injection e with e; omega) (.inl ((hr b hrow).2 x (hx x (List.mem_cons_self ..))))
  exact key L _ (fun x hx => hx) h.al
def CpRel (w : World) (q : Int) (A : Option Addr) (n c : Nat) (hs : List Fh) (fs : List Flw) (A2 : Option Addr) (c2 : Nat) (i : Value) (wr : World) : Prop :=
  ∃ k cur, k ≤ n ∧ i = .int .i64 (k : Int) ∧ DK wr (w.heap.size + 2) (.slice A2 n c2) n k cur hs fs ∧ Fm w [⟨w.heap.size, w.heap.size + 1, BoxP w.heap.size 25 #[.int .i64 q, (.slice A n c)]⟩, ⟨w.heap.size + 1, w.heap.size + 2, BoxP (w.heap.size + 1) 25 #[.int .i64 0, (.slice none 0 0)]⟩] wr
set_option maxHeartbeats 2000000 in
theorem copyRI_any (q : Int) (A : Option Addr) (n c : Nat) (fs : List Flw) (w : World) (h : FR w A n fs) :
    Calls Try.prog 51 #[.agg #[.int .i64 q, (.slice A n c)]] w (RPost w q fs) := by
  obtain ⟨hs, hh, hw, n4⟩ := h
  have H := Lib.hid hh
  have W := Lib.hid hw
  have F := Lib.hid (fm_two w 25 25 #[.int .i64 q, (.slice A n c)] #[.int .i64 0, (.slice none 0 0)])
  clear hh hw
  obtain ⟨g0, g1, -⟩ := blk_two (fm_blk F.out 0 rfl)
  go_enter Try.func51, Try.ntmps51
  go_wp2_with fail
  refine (cloneF_any A n c hs _ (hr_below H.out F.out.below) n4).mono ?_
  rintro e w2 ⟨A2, c2, rfl, ho, hb⟩
  have z2 := hb.size
  simp at z2
  have R0 : Hid (CpRel w q A n c hs fs A2 c2 (.int .i64 0) w2) := Lib.hid ⟨0, hs, Nat.zero_le _, rfl, dk_zero (own_mono ho (by simp)) W.out.1, fm_below F.out hb⟩
  clear ho hb F g0 g1
  go_wp2
  go_loopw [11] (fun i wr => CpRel w q A n c hs fs A2 c2 i wr) (fun i _ => n - (intOf i).toNat)
  case atStart => exact R0.out
  case round =>
    obtain ⟨k, cur, hk, rfl, hD, hF⟩ := hrel
    have HD := Lib.hid hD
    have HF := Lib.hid hF
    have zb0 := blk_lt (fm_blk hF 0 rfl)
    have zb := blk_lt (fm_blk hF 1 rfl)
    have hbl := hF.below
    clear R0
    by_cases hlt : k < n
    · obtain ⟨b, off, h, e1, hb, hk', c0, c1, c2'⟩ := hr_at (hr_own hD.row) hlt
      obtain ⟨g, cap, hv, hg1, hg2⟩ := hD.row.form (by omega)
      obtain ⟨rfl, rfl⟩ : A2 = some ⟨g, 0, none⟩ ∧ c2 = cap := by injection hv with a1 a2 a3; exact ⟨a1, a3⟩
      obtain ⟨rfl, rfl⟩ : g = b ∧ 0 = off := by injection e1 with e1; injection e1 with a1 a2; exact ⟨a1, a2⟩
      simp only [Nat.zero_add] at c0 c1 c2'
      have hhs : hs[k]? = some h := by rw [← hD.rest k (Nat.le_refl _)]; exact hk'
      obtain ⟨f, hf, hwh⟩ := wl_get W.out hhs
      have HK := Lib.hid hk'
      have HFF := Lib.hid hf
      have HW := Lib.hid (wh_below hwh hbl)
      have f0 : wr.frozen? ⟨g, k * 3 + 2, none⟩ = false := World.ownsRow.frozenAt hD.row _
      obtain ⟨x, d, A1, n1, c1'⟩ := h
      simp only at c0 c1 c2'
      have hn1 : n1 ≤ 4000000000 := hwh.few
      have x1 : g < wr.heap.size := hg2
      clear hD hF hbl hv e1 hhs hf hwh hk'
      go_wp2_with (go_at_call 81
                   refine (clone_any A1 n1 c1' f.ws _ (pr_alloc HW.out.pr _) hn1).mono ?_
                   rintro e w4 ⟨A4, c4, rfl, ho4, hb4⟩
                   have B4 := Lib.hid (show Below wr.heap.size wr w4 from below_seq1 (Below.refl _ _) hb4)
                   have O4 := Lib.hid ho4
                   have D0 : w4.cell? ⟨g, k * 3 + 2, none⟩ = some (.slice A1 n1 c1') := ((bcell B4.out).1 g _ x1).trans c2'
                   have D1 : w4.frozen? ⟨g, k * 3 + 2, none⟩ = false := ((bcell B4.out).2 g _ x1).trans f0
                   clear hb4 ho4 c0 c1 c2' f0)
      go_roundw
      case rel =>
        refine ⟨k + 1, cur.set k ⟨x, d, A4, n1, c4⟩, by omega, by go_num, dk_step HD.out HK.out HFF.out HW.out.peer HW.out.dfc B4.out O4.out (by simp) hn1 (by omega), fm_out (fm_below HF.out B4.out) (fun y hy => ?_) (by omega) _⟩
        simp only [List.mem_cons, List.not_mem_nil, or_false] at hy
        rcases hy with rfl | rfl <;> (simp only; omega)
      case measure => simp [intOf]; omega
    · obtain rfl : k = n := by omega
      obtain ⟨g0, g1, -⟩ := blk_two (fm_blk hF 0 rfl)
      obtain ⟨o0, o1, f0, f1⟩ := blk_two (fm_blk hF 1 rfl)
      have HE := Lib.hid (dk_all hD)
      clear hD hF hbl
      go_wp2
      refine bodyPost_ret (v := .agg #[.int .i64 q, (.slice A2 k c2)]) (by simp [results, Try.results51, go_sem, o0, o1]) rfl (rpost_mk (hs := cur) (do_mono (do_far (do_far HE.out (by simp) _) (by simp) _) (by omega)) ?_)
      exact Below.setCell (Below.setCell HF.out.below (by simp) _) (by simp) _
end Go.Proofs.Ytehokkijfgiggaa
