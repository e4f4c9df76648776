/-
  Chapter 5: JoinRobin: what the program's function and the model's return. Conditions: none. Chapter 5: JoinRobin: what the model's function returns. Conditions: none. Chapter 5: the draw of a robin: what it returns, whatever the bytes. Conditions: the source is as open leaves it, its counter is small. Chapter 5: a robin, sometimes one that is not valid: what the draw returns, whatever the bytes. Conditions: the source is as open leaves it, its counter is small. Chapter 5: the laws' own draws. Conditions: none.
  Conditions: each lemma says them.
-/
import Derived.Test.YtkmoiphcpmhacaaKf
import Derived.Test.YtkmoiphcpmhacaaKa
import Derived.StillTailTactics
import Derived.Deep.RegionWith
namespace Go.Proofs.Ytkmoiphcpmhacaa
open Go.RowKit

def bx3p (w : World) (q : Int) (A : Option Addr) (n c : Nat) (p : Pkt) : List Iv := [⟨w.heap.size, w.heap.size + 1, BoxP w.heap.size 37 #[.int .i64 q, (.slice A n c)]⟩, ⟨w.heap.size + 1, w.heap.size + 2, BoxP (w.heap.size + 1) 29 #[.int .i64 p.peer, .int .i64 p.lane, .int .i64 p.size, .int .i64 p.id]⟩, ⟨w.heap.size + 2, w.heap.size + 3, BoxP (w.heap.size + 2) 37 #[.int .i64 0, (.slice none 0 0)]⟩]
theorem bx3p_hi {w : World} {q : Int} {A : Option Addr} {n c g : Nat} {p : Pkt} (h : w.heap.size + 3 ≤ g) : ∀ x ∈ bx3p w q A n c p, x.hi ≤ g := fun x hx => by
  simp only [bx3p, List.mem_cons, List.not_mem_nil, or_false] at hx
  rcases hx with rfl | rfl | rfl <;> (simp only; omega)
def JnNo (w : World) (e : Ending) (w' : World) : Prop := e = .returned (.tuple #[.agg #[.int .i64 0, (.slice none 0 0)], .bool false]) ∧ Below w.heap.size w w'
def JnYes (w : World) (q : Int) (fs : List Flw) (p : Pkt) (e : Ending) (w' : World) : Prop :=
  ∃ A n c hs, e = .returned (.tuple #[.agg #[.int .i64 q, (.slice A n c)], .bool true]) ∧ DO w' w.heap.size (.slice A n c) n hs (joinL fs p) ∧ Below w.heap.size w w'
theorem join_dec {q : Int} {fs : List Flw} {p : Pkt} (h : RV q fs) (hp : vldB p = true) (hk : ¬ joinOk q fs p) : ∃ (k : Nat) (f : Flw), fs[k]? = some f ∧ plN fs p.peer = (k : Int) ∧ f.ws.length = 64 := by
  have hl : ¬ (wOf fs p.peer).length < 64 := fun h3 => hk ⟨h, hp, h3⟩
  by_cases hlt : fix fs p.peer < fs.length
  · obtain ⟨f, hf, hw, hpl⟩ := leave_some hlt
    refine ⟨_, f, hf, hpl, ?_⟩
    have := (ok_of (h.all f (List.mem_of_getElem? hf)).ok).1
    rw [hw] at hl
    omega
  · rw [w_far hlt] at hl
    simp at hl
/-- one flow's packets turn -/
theorem do_put {w w6 : World} {lo g n c k m c6 : Nat} {A6 : Option Addr} {hs : List Fh} {fs : List Flw} {h : Fh} {f : Flw} {ws' : List Pkt} (D : DO w lo (.slice (some ⟨g, 0, none⟩) n c) n hs fs) (hk : hs[k]? = some h) (hf : fs[k]? = some f) (hm : m ≤ 4000000000)
    (hg : w.grownBy w6 h.sl.ownBlock) (ho : w6.ownsRow lo 29 4 (.slice A6 m c6) m (pcells ws')) (hat : Value.ownBlock (.slice A6 m c6) = h.sl.ownBlock ∨ ∃ g2, Value.ownBlock (.slice A6 m c6) = some g2 ∧ w.heap.size ≤ g2) :
    DO (w6.setCell ⟨g, k * 3 + 2, none⟩ (.slice A6 m c6)) lo (.slice (some ⟨g, 0, none⟩) n c) n (hs.set k ⟨h.peer, h.dfc, A6, m, c6⟩) (fs.set k ⟨f.peer, f.dfc, ws'⟩) := by
  obtain ⟨k1, k2, k3, k4, k5⟩ := D.all k h f hk hf
  have hgr : Value.ownBlock (.slice (some ⟨g, 0, none⟩) n c) = some g := rfl
  have hgw := (D.row.lt g rfl).2
  have hlk : k < hs.length := by
    rcases Nat.lt_or_ge k hs.length with hlt | hge
    · exact hlt
    · rw [List.getElem?_eq_none hge] at hk; cases hk
  have hnew : ∀ b, Value.ownBlock (.slice A6 m c6) = some b → b ≠ g := fun b e e2 => by
    rcases hat with h1 | ⟨g2, h1, h2⟩
    · exact k5 b (h1.symm.trans e) (by rw [e2]; rfl)
    · rw [h1] at e; injection e with e; omega
  have hoth : ∀ (j : Nat) (q : Fh), j ≠ k → hs[j]? = some q → ∀ b, q.sl.ownBlock = some b → h.sl.ownBlock ≠ some b ∧ Value.ownBlock (.slice A6 m c6) ≠ some b := fun j q hj hq b e => by
    have h1 := D.apart j k q h hj hq hk b e
    refine ⟨h1, fun e2 => ?_⟩
    rcases hat with h3 | ⟨g2, h3, h4⟩
    · exact h1 (h3.symm.trans e2)
    · rw [h3] at e2
      injection e2 with e2
      have hjl : j < fs.length := by
        rw [← D.len]
        rcases Nat.lt_or_ge j hs.length with hlt | hge
        · exact hlt
        · rw [List.getElem?_eq_none hge] at hq; cases hq
      have := ((D.all j q _ hq (List.getElem?_eq_getElem hjl)).2.2.2.1.lt b e).2
      omega
  have kept : ∀ {u : Value} {e : TypeId} {s a : Nat} {xs : List Value}, w.ownsRow lo e s u a xs → (∀ b, u.ownBlock = some b → h.sl.ownBlock ≠ some b) → w6.ownsRow lo e s u a xs := by
    intro u e s a xs h1 hu
    refine h1.kept hg ?_
    rcases hub : u.ownBlock with _ | b
    · exact .inl rfl
    · exact .inr fun e => hu b hub e.symm
  have hget : ∀ (j : Nat) (q : Fh), (hs.set k ⟨h.peer, h.dfc, A6, m, c6⟩)[j]? = some q → (j = k ∧ q = ⟨h.peer, h.dfc, A6, m, c6⟩) ∨ (j ≠ k ∧ hs[j]? = some q) := by
    intro j q e
    by_cases hjk : k = j
    · subst hjk
      rw [List.getElem?_set_self hlk] at e
      exact .inl ⟨rfl, (Option.some.inj e).symm⟩
    · rw [List.getElem?_set_ne hjk] at e
      exact .inr ⟨fun e => hjk e.symm, e⟩
  refine ⟨?_, by rw [List.length_set, List.length_set]; exact D.len, fun j q f' h1 h2 => ?_, fun i j q q2 hij h1 h2 b hb1 hb2 => ?_⟩
  · have h1 := ((kept D.row fun b e e2 => k5 b e2 e).stored (k * 3 + 2) (.slice A6 m c6)).1
    rw [fcells_set2 hs k h A6 m c6 hk] at h1
    exact h1
  · rcases hget j q h1 with ⟨rfl, rfl⟩ | ⟨hjk, hq⟩
    · rw [List.getElem?_set_self (by rw [← D.len]; exact hlk)] at h2
      obtain rfl : (⟨f.peer, f.dfc, ws'⟩ : Flw) = f' := Option.some.inj h2
      exact ⟨k1, k2, hm, own_set_ne (p := ⟨g, j * 3 + 2, none⟩) ho (fun e => hnew g e rfl) _, fun b e e2 => hnew b e (by injection e2 with e2; exact e2.symm)⟩
    · rw [List.getElem?_set_ne (fun e => hjk e.symm)] at h2
      obtain ⟨e1, e2, e3, e4, e5⟩ := D.all j q f' hq h2
      exact ⟨e1, e2, e3, own_set_ne (p := ⟨g, k * 3 + 2, none⟩) (kept e4 fun b e => (hoth j q hjk hq b e).1) (fun e => e5 g e rfl) _, e5⟩
  · rcases hget i q h1 with ⟨rfl, rfl⟩ | ⟨hik, hq⟩
    · rcases hget j q2 h2 with ⟨rfl, rfl⟩ | ⟨hjk, hq2⟩
      · exact hij rfl
      · exact (hoth j q2 hjk hq2 b hb2).2 hb1
    · rcases hget j q2 h2 with ⟨rfl, rfl⟩ | ⟨hjk, hq2⟩
      · exact (hoth i q hik hq b hb1).2 hb2
      · exact D.apart i j q q2 hij hq hq2 b hb1 hb2
theorem froz_far {w w' : World} {b o : Nat} {row : Option Nat} (hg : w.grownBy w' row) (hb : b < w.heap.size) (hne : some b ≠ row) : w'.frozen? ⟨b, o, none⟩ = w.frozen? ⟨b, o, none⟩ := by
  have := hg.block b hb hne
  simp [World.frozen?, this]
theorem jn_holdI {w : World} {lo g n c k b1 : Nat} {hs : List Fh} {fs : List Flw} {h : Fh} {p : Pkt} (D : DO w lo (.slice (some ⟨g, 0, none⟩) n c) n hs fs) (hk : hs[k]? = some h) (B : Blk w b1 29 #[.int .i64 p.peer, .int .i64 p.lane, .int .i64 p.size, .int .i64 p.id]) :
    w.cell? ⟨g, k * 3 + 2, none⟩ = some (.slice h.A h.n h.c) ∧ (w.cell? ⟨b1, 0, none⟩ = some (.int .i64 p.peer) ∧ w.cell? ⟨b1, 1, none⟩ = some (.int .i64 p.lane) ∧ w.cell? ⟨b1, 2, none⟩ = some (.int .i64 p.size) ∧ w.cell? ⟨b1, 3, none⟩ = some (.int .i64 p.id)) := by
  have hl : k < n := by
    have h1 := D.row.1
    rw [fcells_len] at h1
    rcases Nat.lt_or_ge k hs.length with hlt | hge
    · omega
    · rw [List.getElem?_eq_none hge] at hk; cases hk
  obtain ⟨b, off, h', e1, -, hh, -, -, c2⟩ := hr_at (hr_own D.row) hl
  obtain ⟨rfl, rfl⟩ : g = b ∧ 0 = off := by injection e1 with e1; injection e1 with a1 a2; exact ⟨a1, a2⟩
  obtain rfl : h = h' := by rw [hk] at hh; exact Option.some.inj hh
  rw [Nat.zero_add] at c2
  exact ⟨c2, (blk_fourR B).1⟩
theorem jn_holdS {w : World} {lo g n c k b1 R : Nat} {q : Int} {hs : List Fh} {fs : List Flw} {h : Fh} {p : Pkt} (D : DO w lo (.slice (some ⟨g, 0, none⟩) n c) n hs fs) (hk : hs[k]? = some h) (BR : Blk w R 37 #[.int .i64 q, (.slice (some ⟨g, 0, none⟩) n c)]) (B : Blk w b1 29 #[.int .i64 p.peer, .int .i64 p.lane, .int .i64 p.size, .int .i64 p.id]) :
    w.cell? ⟨g, k * 3 + 2, none⟩ = some (.slice h.A h.n h.c) ∧ (w.cell? ⟨R, 0, none⟩ = some (.int .i64 q) ∧ w.cell? ⟨R, 1, none⟩ = some (.slice (some ⟨g, 0, none⟩) n c)) ∧ (w.cell? ⟨b1, 0, none⟩ = some (.int .i64 p.peer) ∧ w.cell? ⟨b1, 1, none⟩ = some (.int .i64 p.lane) ∧ w.cell? ⟨b1, 2, none⟩ = some (.int .i64 p.size) ∧ w.cell? ⟨b1, 3, none⟩ = some (.int .i64 p.id)) :=
  ⟨(jn_holdI D hk B).1, lv_hold BR, (jn_holdI D hk B).2⟩
set_option maxHeartbeats 4000000 in
theorem jnI_no (q : Int) (A : Option Addr) (n c : Nat) (fs : List Flw) (p : Pkt) (w : World) (h : FR w A n fs) (hk : ¬ joinOk q fs p) :
    Calls Try.prog 81 #[.agg #[.int .i64 q, (.slice A n c)], .agg #[.int .i64 p.peer, .int .i64 p.lane, .int .i64 p.size, .int .i64 p.id]] w (JnNo w) := by
  have H := Lib.hid h
  have F := Lib.hid (show Fm w (bx3p w q A n c p) _ from fm_three w 37 29 37 #[.int .i64 q, (.slice A n c)] #[.int .i64 p.peer, .int .i64 p.lane, .int .i64 p.size, .int .i64 p.id] #[.int .i64 0, (.slice none 0 0)])
  obtain ⟨v, hv⟩ : ∃ v, rvB q fs = v := ⟨_, rfl⟩
  obtain ⟨u, hu⟩ : ∃ u, vldB p = u := ⟨_, rfl⟩
  have HR := Lib.hid hv
  have HVP := Lib.hid hu
  have hl := (fr_lenF h).1
  rcases v with _ | _
  · clear h hk hv hu
    go_enter Try.func81, Try.ntmps81
    go_wp2_with (first
    | (go_at_call 57
       refine (rvI_any q A n c fs _ (fr_belowF H.out F.out.below)).mono ?_
       rintro e w1 ⟨rfl, hb1⟩
       rw [HR.out]
       have F1 := Lib.hid (fm_below F.out hb1)
       obtain ⟨⟨k0, k1, k2, k3⟩, -⟩ := blk_fourR (fm_blk F1.out 1 rfl)
       obtain ⟨o0, o1, of0, of1⟩ := blk_two (fm_blk F1.out 2 rfl)
       obtain ⟨g0, g1, -⟩ := blk_two (fm_blk F1.out 0 rfl)
       have zk := blk_lt (fm_blk F1.out 1 rfl)
       clear hb1))
    refine bodyPost_ret (v := .tuple #[.agg #[.int .i64 0, (.slice none 0 0)], .bool false]) (by simp [results, Try.results81, go_sem, o0, o1]) rfl ⟨rfl, ?_⟩
    iterate 2 (with_reducible refine Below.setCell ?_ (by simp <;> omega) _)
    exact F1.out.below
  rcases u with _ | _
  · clear h hk hv hu
    go_enter Try.func81, Try.ntmps81
    go_wp2_with (first
    | (go_at_call 57
       refine (rvI_any q A n c fs _ (fr_belowF H.out F.out.below)).mono ?_
       rintro e w1 ⟨rfl, hb1⟩
       rw [HR.out]
       have F1 := Lib.hid (fm_below F.out hb1)
       obtain ⟨⟨k0, k1, k2, k3⟩, -⟩ := blk_fourR (fm_blk F1.out 1 rfl)
       obtain ⟨o0, o1, of0, of1⟩ := blk_two (fm_blk F1.out 2 rfl)
       obtain ⟨g0, g1, -⟩ := blk_two (fm_blk F1.out 0 rfl)
       have zk := blk_lt (fm_blk F1.out 1 rfl)
       clear hb1)
    | (go_at_call 39
       refine (vldI_any p _).mono ?_
       rintro e w1b ⟨rfl, hb1⟩
       rw [HVP.out]
       have F1b := Lib.hid (fm_below F1.out hb1)
       clear hb1 k0 k1 k2 k3 o0 o1 of0 of1 g0 g1 zk
       obtain ⟨⟨k0, k1, k2, k3⟩, -⟩ := blk_fourR (fm_blk F1b.out 1 rfl)
       obtain ⟨o0, o1, of0, of1⟩ := blk_two (fm_blk F1b.out 2 rfl)
       obtain ⟨g0, g1, -⟩ := blk_two (fm_blk F1b.out 0 rfl)
       have zk := blk_lt (fm_blk F1b.out 1 rfl)))
    refine bodyPost_ret (v := .tuple #[.agg #[.int .i64 0, (.slice none 0 0)], .bool false]) (by simp [results, Try.results81, go_sem, o0, o1]) rfl ⟨rfl, ?_⟩
    iterate 2 (with_reducible refine Below.setCell ?_ (by simp <;> omega) _)
    exact F1b.out.below
  obtain ⟨k, f, hf, hp, h64⟩ := join_dec (rv_iff.1 hv) hu hk
  have h8 := rv_len (rv_iff.1 hv)
  have HF := Lib.hid hf
  have HP := Lib.hid hp
  have HW := Lib.hid h64
  have hlt : k < fs.length := by
    rcases Nat.lt_or_ge k fs.length with h | h
    · exact h
    · rw [List.getElem?_eq_none h] at hf; cases hf
  have hd : decide ((k : Int) < 0) = false := decide_eq_false (by omega)
  have hkn : k < n := by omega
  have hkn0 : (0 : Int) ≤ (k : Int) := by omega
  have hkn1 : (k : Int) < (n : Int) := by omega
  have hkn2 : (k : Int) < (fs.length : Int) := by omega
  clear h hk hv hu hf hp h64 hl
  go_enter Try.func81, Try.ntmps81
  go_wp2_with (first
    | (go_at_call 57
       refine (rvI_any q A n c fs _ (fr_belowF H.out F.out.below)).mono ?_
       rintro e w1 ⟨rfl, hb1⟩
       rw [HR.out]
       have F1 := Lib.hid (fm_below F.out hb1)
       obtain ⟨⟨k0, k1, k2, k3⟩, -⟩ := blk_fourR (fm_blk F1.out 1 rfl)
       obtain ⟨o0, o1, of0, of1⟩ := blk_two (fm_blk F1.out 2 rfl)
       obtain ⟨g0, g1, -⟩ := blk_two (fm_blk F1.out 0 rfl)
       have zk := blk_lt (fm_blk F1.out 1 rfl)
       clear hb1)
    | (go_at_call 39
       refine (vldI_any p _).mono ?_
       rintro e w1b ⟨rfl, hb1⟩
       rw [HVP.out]
       have F1b := Lib.hid (fm_below F1.out hb1)
       clear hb1 k0 k1 k2 k3 o0 o1 of0 of1 g0 g1 zk
       obtain ⟨⟨k0, k1, k2, k3⟩, -⟩ := blk_fourR (fm_blk F1b.out 1 rfl)
       obtain ⟨o0, o1, of0, of1⟩ := blk_two (fm_blk F1b.out 2 rfl)
       obtain ⟨g0, g1, -⟩ := blk_two (fm_blk F1b.out 0 rfl)
       have zk := blk_lt (fm_blk F1b.out 1 rfl))
    | (go_at_call 59
       refine (copyRI_any q A n c fs _ (fr_belowF H.out F1b.out.below)).mono ?_
       rintro e w2 ⟨A2, n2, c2, hs2, rfl, rfl, -, -, hD, hb2⟩
       have F2 := Lib.hid (fm_below F1b.out hb2)
       have D2 := Lib.hid hD
       have Z2 := Lib.hid hb2.size
       clear hb2 hD k0 k1 k2 k3 o0 o1 of0 of1 g0 g1 zk
       obtain ⟨⟨k0, k1, k2, k3⟩, -⟩ := blk_fourR (fm_blk F2.out 1 rfl)
       obtain ⟨g0, g1, -⟩ := blk_two (fm_blk F2.out 0 rfl)
       have zk := blk_lt (fm_blk F2.out 1 rfl)
       have zg0 := blk_lt (fm_blk F2.out 0 rfl))
    | (go_at_call 103
       refine (placeI_any q A n c fs p.peer _ (fr_belowF H.out (below_alloc F2.out.below _))).mono ?_
       rintro e w3 ⟨rfl, hb3⟩
       rw [HP.out]
       have T3 := Lib.hid (below_seq1 (Below.refl _ _) hb3)
       have F3 := Lib.hid (fm_below F2.out T3.out)
       have D3 := Lib.hid (do_below D2.out T3.out)
       have B3 := Lib.hid (blk_below (blk_new w2 37 #[.int .i64 q, (.slice A2 fs.length c2)]) hb3 (by simp))
       obtain ⟨l0, l1, lf0, lf1⟩ := blk_two B3.out
       obtain ⟨o0, o1, of0, of1⟩ := blk_two (fm_blk F3.out 2 rfl)
       have zR := blk_lt B3.out
       have zo := blk_lt (fm_blk F3.out 2 rfl)
       clear hb3 k0 k1 k2 k3 g0 g1 zk zg0
       obtain ⟨⟨k0, k1, k2, k3⟩, -⟩ := blk_fourR (fm_blk F3.out 1 rfl)
       obtain ⟨g0, g1, -⟩ := blk_two (fm_blk F3.out 0 rfl)
       have zk := blk_lt (fm_blk F3.out 1 rfl)
       have zg0 := blk_lt (fm_blk F3.out 0 rfl)
       obtain ⟨g, cap, hv, hg1, hg2⟩ := D3.out.row.form (by omega)
       obtain ⟨rfl, rfl⟩ : A2 = some ⟨g, 0, none⟩ ∧ c2 = cap := (by injection hv with a1 a2 a3; exact ⟨a1, a3⟩)
       obtain ⟨b', off', hk, e1, hb', hhk, c0, c1, c2'⟩ := hr_at (k := k) (hr_own D3.out.row) hlt
       obtain ⟨rfl, rfl⟩ : g = b' ∧ 0 = off' := (by injection e1 with e1; injection e1 with a1 a2; exact ⟨a1, a2⟩)
       simp only [Nat.zero_add] at c0 c1 c2'
       have e64 : ((hk.n : Int) == 64) = true := (by have h1 := (D3.out.all k hk f hhk HF.out).2.2.2.1.1; rw [pcells_len, HW.out] at h1; simp; omega)
       clear hv e1 hhk))
  refine bodyPost_ret (v := .tuple #[.agg #[.int .i64 0, (.slice none 0 0)], .bool false]) (by simp [results, Try.results81, go_sem, o0, o1]) rfl ⟨rfl, ?_⟩
  iterate 2 (with_reducible refine Below.setCell ?_ (by simp <;> omega) _)
  exact F3.out.below
set_option maxHeartbeats 8000000 in
theorem jnI_yes (q : Int) (A : Option Addr) (n c : Nat) (fs : List Flw) (p : Pkt) (w : World) (h : FR w A n fs) (hk : joinOk q fs p) :
    Calls Try.prog 81 #[.agg #[.int .i64 q, (.slice A n c)], .agg #[.int .i64 p.peer, .int .i64 p.lane, .int .i64 p.size, .int .i64 p.id]] w (JnYes w q fs p) := by
  have H := Lib.hid h
  have F := Lib.hid (show Fm w (bx3p w q A n c p) _ from fm_three w 37 29 37 #[.int .i64 q, (.slice A n c)] #[.int .i64 p.peer, .int .i64 p.lane, .int .i64 p.size, .int .i64 p.id] #[.int .i64 0, (.slice none 0 0)])
  have HR := Lib.hid (rv_yes hk.1)
  have HVP := Lib.hid hk.2.1
  have hl := (fr_lenF h).1
  have h8 := rv_len hk.1
  by_cases hlt : fix fs p.peer < fs.length
  · obtain ⟨f, hf, hw, hp⟩ := leave_some hlt
    have h64 := hk.2.2
    rw [hw] at h64
    obtain ⟨k, hkk⟩ : ∃ k, k = fix fs p.peer := ⟨_, rfl⟩
    have HJ : Hid (joinL fs p = fs.set k ⟨f.peer, f.dfc, f.ws ++ [p]⟩) := Lib.hid (by rw [hkk]; exact join_old hf)
    rw [← hkk] at hf hp hlt
    have HF := Lib.hid hf
    have HP := Lib.hid hp
    have HW := Lib.hid h64
    have hd : decide ((k : Int) < 0) = false := decide_eq_false (by omega)
    have hkn : k < n := by omega
    have hkn0 : (0 : Int) ≤ (k : Int) := by omega
    have hkn1 : (k : Int) < (n : Int) := by omega
    have hkn2 : (k : Int) < (fs.length : Int) := by omega
    clear h hk hf hp h64 hl hw hkk
    go_enter Try.func81, Try.ntmps81
    go_wp2_with (first
      | (go_at_call 57
         refine (rvI_any q A n c fs _ (fr_belowF H.out F.out.below)).mono ?_
         rintro e w1 ⟨rfl, hb1⟩
         rw [HR.out]
         have F1 := Lib.hid (fm_below F.out hb1)
         obtain ⟨⟨k0, k1, k2, k3⟩, -⟩ := blk_fourR (fm_blk F1.out 1 rfl)
         obtain ⟨o0, o1, of0, of1⟩ := blk_two (fm_blk F1.out 2 rfl)
         obtain ⟨g0, g1, -⟩ := blk_two (fm_blk F1.out 0 rfl)
         have zk := blk_lt (fm_blk F1.out 1 rfl)
         clear hb1)
      | (go_at_call 39
         refine (vldI_any p _).mono ?_
         rintro e w1b ⟨rfl, hb1⟩
         rw [HVP.out]
         have F1b := Lib.hid (fm_below F1.out hb1)
         clear hb1 k0 k1 k2 k3 o0 o1 of0 of1 g0 g1 zk
         obtain ⟨⟨k0, k1, k2, k3⟩, -⟩ := blk_fourR (fm_blk F1b.out 1 rfl)
         obtain ⟨o0, o1, of0, of1⟩ := blk_two (fm_blk F1b.out 2 rfl)
         obtain ⟨g0, g1, -⟩ := blk_two (fm_blk F1b.out 0 rfl)
         have zk := blk_lt (fm_blk F1b.out 1 rfl))
      | (go_at_call 59
         refine (copyRI_any q A n c fs _ (fr_belowF H.out F1b.out.below)).mono ?_
         rintro e w2 ⟨A2, n2, c2, hs2, rfl, rfl, -, -, hD, hb2⟩
         have F2 := Lib.hid (fm_below F1b.out hb2)
         have D2 := Lib.hid hD
         have Z2 := Lib.hid hb2.size
         clear hb2 hD k0 k1 k2 k3 o0 o1 of0 of1 g0 g1 zk
         obtain ⟨⟨k0, k1, k2, k3⟩, -⟩ := blk_fourR (fm_blk F2.out 1 rfl)
         obtain ⟨g0, g1, -⟩ := blk_two (fm_blk F2.out 0 rfl)
         have zk := blk_lt (fm_blk F2.out 1 rfl)
         have zg0 := blk_lt (fm_blk F2.out 0 rfl))
      | (go_at_call 103
         refine (placeI_any q A n c fs p.peer _ (fr_belowF H.out (below_alloc F2.out.below _))).mono ?_
         rintro e w3 ⟨rfl, hb3⟩
         rw [HP.out]
         have T3 := Lib.hid (below_seq1 (Below.refl _ _) hb3)
         have F3 := Lib.hid (fm_below F2.out T3.out)
         have D3 := Lib.hid (do_below D2.out T3.out)
         have B3 := Lib.hid (blk_below (blk_new w2 37 #[.int .i64 q, (.slice A2 fs.length c2)]) hb3 (by simp))
         obtain ⟨l0, l1, lf0, lf1⟩ := blk_two B3.out
         obtain ⟨o0, o1, of0, of1⟩ := blk_two (fm_blk F3.out 2 rfl)
         have zR := blk_lt B3.out
         have zo := blk_lt (fm_blk F3.out 2 rfl)
         clear hb3 k0 k1 k2 k3 g0 g1 zk zg0
         obtain ⟨⟨k0, k1, k2, k3⟩, -⟩ := blk_fourR (fm_blk F3.out 1 rfl)
         obtain ⟨g0, g1, -⟩ := blk_two (fm_blk F3.out 0 rfl)
         have zk := blk_lt (fm_blk F3.out 1 rfl)
         have zg0 := blk_lt (fm_blk F3.out 0 rfl)
         obtain ⟨g, cap, hv, hg1, hg2⟩ := D3.out.row.form (by omega)
         obtain ⟨rfl, rfl⟩ : A2 = some ⟨g, 0, none⟩ ∧ c2 = cap := (by injection hv with a1 a2 a3; exact ⟨a1, a3⟩)
         obtain ⟨b', off', hk, e1, hb', hhk, c0, c1, c2'⟩ := hr_at (k := k) (hr_own D3.out.row) hlt
         obtain ⟨rfl, rfl⟩ : g = b' ∧ 0 = off' := (by injection e1 with e1; injection e1 with a1 a2; exact ⟨a1, a2⟩)
         simp only [Nat.zero_add] at c0 c1 c2'
         have HH := Lib.hid hhk
         have e64 : ((hk.n : Int) == 64) = false := (by have h1 := (D3.out.all k hk f hhk HF.out).2.2.2.1.1; have := HW.out; rw [pcells_len] at h1; simp; omega)
         clear hv e1 hhk))
    have f0 := World.ownsRow.frozenAt D3.out.row (k * 3 + 2)
    have hw1 : w.heap.size + 3 ≤ w1b.heap.size := by have := blk_lt (fm_blk F1b.out 2 rfl); omega
    have hlo2 : w1b.heap.size ≤ w2.heap.size := by have := Z2.out; omega
    have zg : g < w3.heap.size := hb'
    have HA := Lib.hid (D3.out.all k hk f HH.out HF.out)
    have zl : w2.heap.size < w3.heap.size := zR
    have hn4 : hk.n < 64 := (by have h1 := HA.out.2.2.2.1.1; have := HW.out; rw [pcells_len] at h1; omega)
    have hS0 := jn_holdI (D3.out) HH.out (show Blk w3 (w.heap.size + 1) 29 #[.int .i64 p.peer, .int .i64 p.lane, .int .i64 p.size, .int .i64 p.id] from fm_blk F3.out 1 rfl)
    refine held_start (S := (fun w' => w'.cell? ⟨g, k * 3 + 2, none⟩ = some (.slice hk.A hk.n hk.c) ∧ (w'.cell? ⟨w.heap.size + 1, 0, none⟩ = some (.int .i64 p.peer) ∧ w'.cell? ⟨w.heap.size + 1, 1, none⟩ = some (.int .i64 p.lane) ∧ w'.cell? ⟨w.heap.size + 1, 2, none⟩ = some (.int .i64 p.size) ∧ w'.cell? ⟨w.heap.size + 1, 3, none⟩ = some (.int .i64 p.id)))) 10 (by kernel_rfl) ?_
    refine held_take (i := 0) (oi := { dst := some 48, op := Op.move (Operand.tmp 8), type := 113, pos := "l5_robins.go:60", after := #[], guard := none }) (v := ?_) rfl (by kernel_rfl) (by kernel_rfl) (by kernel_rfl) (by kernel_rfl) (fun _ _ _ h => h) (Or.inl ⟨by rfl, ?_⟩) hS0 ?_
    rotate_left
    · (intro w9 hSw; (try dsimp only at hSw); go_simp; try with_reducible rfl)
    try simp only [Act.put, List.setIfInBounds_toArray, List.set_cons_zero, List.set_cons_succ]
    refine held_take (i := 1) (oi := { dst := some 49, op := Op.move (Operand.tmp 8), type := 113, pos := "l5_robins.go:60", after := #[], guard := none }) (v := ?_) rfl (by kernel_rfl) (by kernel_rfl) (by kernel_rfl) (by kernel_rfl) (fun _ _ _ h => h) (Or.inl ⟨by rfl, ?_⟩) hS0 ?_
    rotate_left
    · (intro w9 hSw; (try dsimp only at hSw); go_simp; try with_reducible rfl)
    try simp only [Act.put, List.setIfInBounds_toArray, List.set_cons_zero, List.set_cons_succ]
    refine held_take (i := 2) (oi := { dst := some 50, op := Op.nilCheck (Operand.tmp 49), type := 0, pos := "l5_robins.go:60", after := #[{ on := 1, ground := Ground.data }], guard := none }) (v := ?_) rfl (by kernel_rfl) (by kernel_rfl) (by kernel_rfl) (by kernel_rfl) (fun _ _ _ h => h) (Or.inl ⟨by rfl, ?_⟩) hS0 ?_
    rotate_left
    · (intro w9 hSw; (try dsimp only at hSw); go_simp; try with_reducible rfl)
    try simp only [Act.put, List.setIfInBounds_toArray, List.set_cons_zero, List.set_cons_succ]
    refine held_take (i := 3) (oi := { dst := some 51, op := Op.fieldAddr 82 (Operand.tmp 50) 2, type := 0, pos := "l5_robins.go:60", after := #[{ on := 2, ground := Ground.data }], guard := none }) (v := ?_) rfl (by kernel_rfl) (by kernel_rfl) (by kernel_rfl) (by kernel_rfl) (fun _ _ _ h => h) (Or.inl ⟨by rfl, ?_⟩) hS0 ?_
    rotate_left
    · (intro w9 hSw; (try dsimp only at hSw); go_simp; try with_reducible rfl)
    try simp only [Act.put, List.setIfInBounds_toArray, List.set_cons_zero, List.set_cons_succ]
    refine held_take (i := 4) (oi := { dst := some 52, op := Op.load 45 (Operand.tmp 51), type := 45, pos := "l5_robins.go:60", after := #[{ on := 3, ground := Ground.data }], guard := none }) (v := ?_) rfl (by kernel_rfl) (by kernel_rfl) (by kernel_rfl) (by kernel_rfl) (fun _ _ _ h => h) (Or.inl ⟨by rfl, ?_⟩) hS0 ?_
    rotate_left
    · (intro w9 hSw; (try dsimp only at hSw); go_simp; try with_reducible rfl)
    try simp only [Act.put, List.setIfInBounds_toArray, List.set_cons_zero, List.set_cons_succ]
    refine held_take (i := 5) (oi := { dst := some 53, op := Op.load 29 (Operand.tmp 3), type := 29, pos := "l5_robins.go:60", after := #[], guard := none }) (v := ?_) rfl (by kernel_rfl) (by kernel_rfl) (by kernel_rfl) (by kernel_rfl) (fun _ _ _ h => h) (Or.inl ⟨by rfl, ?_⟩) hS0 ?_
    rotate_left
    · (intro w9 hSw; (try dsimp only at hSw); go_simp; try with_reducible rfl)
    try simp only [Act.put, List.setIfInBounds_toArray, List.set_cons_zero, List.set_cons_succ]
    refine held_one (i := 6) (o := { dst := some 54, op := Op.buildSlice 45 1 #[(0, Operand.tmp 53)], type := 45, pos := "l5_robins.go:60", after := #[{ on := 5, ground := Ground.data }], guard := none }) (by kernel_rfl) rfl (fun K hK => ?_)
    go_simp
    have T1 := Lib.hid (show Below w3.heap.size w3 _ from (below_alloc (Below.refl _ _) (.cells #[.int .i64 p.peer, .int .i64 p.lane, .int .i64 p.size, .int .i64 p.id] 29)).drew)
    have hS1 := jn_holdI (do_below D3.out T1.out) HH.out (blk_below (show Blk w3 (w.heap.size + 1) 29 #[.int .i64 p.peer, .int .i64 p.lane, .int .i64 p.size, .int .i64 p.id] from fm_blk F3.out 1 rfl) T1.out zk)
    refine hK.out _ _ (.inr hS1) ?_
    clear hK K
    try simp only [Act.put, List.setIfInBounds_toArray, List.set_cons_zero, List.set_cons_succ]
    refine held_one (i := 7) (o := { dst := some 55, op := Op.call { callee := Callee.builtin Builtin.append, args := #[Operand.tmp 52, Operand.tmp 54], argTypes := #[45, 45] }, type := 45, pos := "l5_robins.go:60", after := #[{ on := 4, ground := Ground.data }, { on := 6, ground := Ground.data }], guard := none }) (by kernel_rfl) rfl (fun K hK => ?_)
    refine step_app_pkts _ rfl (.tmp 52) (.tmp 54) rfl w1b.heap.size (.slice hk.A hk.n hk.c) hk.n f.ws rfl (World.ownsRow.drew (World.ownsRow.alloc HA.out.2.2.2.1 _)) (some ⟨w3.heap.size, 0, none⟩) 1 1 [p] rfl (pr_drewN (pr_single (blk_at rfl _ _)) 1) (by omega) (by simp; omega) ?_
    intro v5 w5 ho5 hg5 hat5
    obtain ⟨A5, c5, rfl, -, -, -⟩ := own_form ho5
    have hg5' : w3.grownBy w5 hk.sl.ownBlock := (World.grownBy_alloc w3 (.cells #[.int .i64 p.peer, .int .i64 p.lane, .int .i64 p.size, .int .i64 p.id] 29) _).trans (show (w3.alloc (.cells #[.int .i64 p.peer, .int .i64 p.lane, .int .i64 p.size, .int .i64 p.id] 29)).grownBy w5 _ from ⟨hg5.os, hg5.tape, hg5.output, hg5.size, hg5.block⟩)
    have D5 := Lib.hid (do_put D3.out HH.out HF.out (by omega) hg5' ho5 (hat5.imp id fun h => ⟨_, h, by simp⟩))
    have NB := Lib.hid (show ∀ b, hk.sl.ownBlock = some b → w1b.heap.size ≤ b ∧ b < w2.heap.size ∧ b ≠ g from fun b e => ⟨(HA.out.2.2.2.1.lt b e).1, ((D2.out.all k hk f HH.out HF.out).2.2.2.1.lt b e).2, fun h => HA.out.2.2.2.2 b e (by rw [h]; rfl)⟩)
    have F5 := Lib.hid (fm_grownO F3.out hg5' fun b e => ⟨by have := NB.out b e; omega, bx3p_hi (by have := NB.out b e; omega)⟩)
    have B5 := Lib.hid (blk_grownQ B3.out hg5' fun e => by have := (NB.out _ e.symm).2.1; omega)
    have C5 := Lib.hid (show w5.cell? ⟨g, k * 3 + 2, none⟩ = some (.slice hk.A hk.n hk.c) from (hg5'.cell_far ⟨g, k * 3 + 2, none⟩ zg fun e => (NB.out g e.symm).2.2 rfl).trans c2')
    have E5 := Lib.hid (show w5.frozen? ⟨g, k * 3 + 2, none⟩ = false from (froz_far hg5' zg fun e => (NB.out g e.symm).2.2 rfl).trans f0)
    have c5' := C5.out
    have e5' := E5.out
    have hS5 := And.intro C5.out (blk_fourR (fm_blk F5.out 1 rfl)).1
    have zg5 : g < w5.heap.size := Nat.lt_of_lt_of_le zg hg5'.size
    clear hg5 hat5 ho5 hg5'
    refine hK.out _ _ (.inr hS5) ?_
    clear hK K
    try simp only [Act.put, List.setIfInBounds_toArray, List.set_cons_zero, List.set_cons_succ]
    refine held_one (i := 8) (o := { dst := some 56, op := Op.nilCheck (Operand.tmp 48), type := 0, pos := "l5_robins.go:60", after := #[{ on := 0, ground := Ground.data }, { on := 0, ground := Ground.phase }, { on := 1, ground := Ground.phase }, { on := 2, ground := Ground.phase }, { on := 3, ground := Ground.phase }, { on := 4, ground := Ground.phase }, { on := 5, ground := Ground.phase }, { on := 6, ground := Ground.phase }, { on := 7, ground := Ground.phase }], guard := none }) (by kernel_rfl) rfl (fun K hK => ?_)
    go_simp
    refine hK.out _ _ (.inr hS5) ?_
    clear hK K
    try simp only [Act.put, List.setIfInBounds_toArray, List.set_cons_zero, List.set_cons_succ]
    refine held_take (i := 9) (oi := { dst := some 57, op := Op.fieldAddr 82 (Operand.tmp 56) 2, type := 0, pos := "l5_robins.go:60", after := #[{ on := 8, ground := Ground.data }, { on := 0, ground := Ground.phase }, { on := 1, ground := Ground.phase }, { on := 2, ground := Ground.phase }, { on := 3, ground := Ground.phase }, { on := 4, ground := Ground.phase }, { on := 5, ground := Ground.phase }, { on := 6, ground := Ground.phase }, { on := 7, ground := Ground.phase }], guard := none }) (v := ?_) rfl (by kernel_rfl) (by kernel_rfl) (by kernel_rfl) (by kernel_rfl) (fun _ _ _ h => h) (Or.inl ⟨by rfl, ?_⟩) hS5 ?_
    rotate_left
    · (intro w9 hSw; (try dsimp only at hSw); go_simp; try with_reducible rfl)
    try simp only [Act.put, List.setIfInBounds_toArray, List.set_cons_zero, List.set_cons_succ]
    refine held_one (i := 10) (o := { dst := none, op := Op.store 45 (Operand.tmp 57) (Operand.tmp 55), type := 0, pos := "l5_robins.go:60", after := #[{ on := 9, ground := Ground.data }, { on := 7, ground := Ground.data }, { on := 7, ground := Ground.chain }, { on := 0, ground := Ground.phase }, { on := 1, ground := Ground.phase }, { on := 2, ground := Ground.phase }, { on := 3, ground := Ground.phase }, { on := 4, ground := Ground.phase }, { on := 5, ground := Ground.phase }, { on := 6, ground := Ground.phase }, { on := 7, ground := Ground.phase }], guard := none }) (by kernel_rfl) rfl (fun K hK => ?_)
    go_simp
    refine hK.out _ _ (.inl rfl) ?_
    clear hK K
    try simp only [Act.put, List.setIfInBounds_toArray, List.set_cons_zero, List.set_cons_succ]
    refine held_done (by kernel_rfl) ?_ _
    clear hS0 hS1 hS5 c0 c1 c2' l0 l1 lf0 lf1 o0 o1 of0 of1 zR zk zo k0 k1 k2 k3 g0 g1 zg0
    obtain ⟨o0, o1, of0, of1⟩ := blk_two (fm_blk F5.out 2 rfl)
    obtain ⟨l0, l1, -, -⟩ := blk_two B5.out
    have zo := blk_lt (fm_blk F5.out 2 rfl)
    have zR := blk_lt B5.out
    have hgl := (D3.out.row.lt g rfl)
    have hg2' := (D2.out.row.lt g rfl).2
    go_wp2_with fail
    refine bodyPost_ret (v := .tuple #[.agg #[.int .i64 q, (.slice (some ⟨g, 0, none⟩) fs.length c2)], .bool true]) (by simp [results, Try.results81, go_sem, o0, o1]) rfl ⟨_, _, _, hs2.set k ⟨hk.peer, hk.dfc, A5, hk.n + 1, c5⟩, rfl, ?_, ?_⟩
    · rw [HJ.out]
      refine do_mono (lo := w1b.heap.size) ?_ (by omega)
      iterate 2 (with_reducible refine do_far ?_ (by simp <;> omega) _)
      exact D5.out
    · iterate 3 (with_reducible refine Below.setCell ?_ (by simp <;> omega) _)
      exact F5.out.below
  · obtain ⟨-, -, hp⟩ := leave_none hlt
    have HJ := Lib.hid (join_new (p := p) hlt)
    have HP := Lib.hid hp
    clear h hk hp hlt hl
    go_enter Try.func81, Try.ntmps81
    go_wp2_with (first
      | (go_at_call 57
         refine (rvI_any q A n c fs _ (fr_belowF H.out F.out.below)).mono ?_
         rintro e w1 ⟨rfl, hb1⟩
         rw [HR.out]
         have F1 := Lib.hid (fm_below F.out hb1)
         obtain ⟨⟨k0, k1, k2, k3⟩, -⟩ := blk_fourR (fm_blk F1.out 1 rfl)
         obtain ⟨o0, o1, of0, of1⟩ := blk_two (fm_blk F1.out 2 rfl)
         obtain ⟨g0, g1, -⟩ := blk_two (fm_blk F1.out 0 rfl)
         have zk := blk_lt (fm_blk F1.out 1 rfl)
         clear hb1)
      | (go_at_call 39
         refine (vldI_any p _).mono ?_
         rintro e w1b ⟨rfl, hb1⟩
         rw [HVP.out]
         have F1b := Lib.hid (fm_below F1.out hb1)
         clear hb1 k0 k1 k2 k3 o0 o1 of0 of1 g0 g1 zk
         obtain ⟨⟨k0, k1, k2, k3⟩, -⟩ := blk_fourR (fm_blk F1b.out 1 rfl)
         obtain ⟨o0, o1, of0, of1⟩ := blk_two (fm_blk F1b.out 2 rfl)
         obtain ⟨g0, g1, -⟩ := blk_two (fm_blk F1b.out 0 rfl)
         have zk := blk_lt (fm_blk F1b.out 1 rfl))
      | (go_at_call 59
         refine (copyRI_any q A n c fs _ (fr_belowF H.out F1b.out.below)).mono ?_
         rintro e w2 ⟨A2, n2, c2, hs2, rfl, rfl, -, -, hD, hb2⟩
         have F2 := Lib.hid (fm_below F1b.out hb2)
         have D2 := Lib.hid hD
         have Z2 := Lib.hid hb2.size
         clear hb2 hD k0 k1 k2 k3 o0 o1 of0 of1 g0 g1 zk
         obtain ⟨⟨k0, k1, k2, k3⟩, -⟩ := blk_fourR (fm_blk F2.out 1 rfl)
         obtain ⟨g0, g1, -⟩ := blk_two (fm_blk F2.out 0 rfl)
         have zk := blk_lt (fm_blk F2.out 1 rfl)
         have zg0 := blk_lt (fm_blk F2.out 0 rfl))
      | (go_at_call 103
         refine (placeI_any q A n c fs p.peer _ (fr_belowF H.out (below_alloc F2.out.below _))).mono ?_
         rintro e w3 ⟨rfl, hb3⟩
         rw [HP.out]
         have T3 := Lib.hid (below_seq1 (Below.refl _ _) hb3)
         have F3 := Lib.hid (fm_below F2.out T3.out)
         have D3 := Lib.hid (do_below D2.out T3.out)
         have B3 := Lib.hid (blk_below (blk_new w2 37 #[.int .i64 q, (.slice A2 fs.length c2)]) hb3 (by simp))
         obtain ⟨l0, l1, lf0, lf1⟩ := blk_two B3.out
         obtain ⟨o0, o1, of0, of1⟩ := blk_two (fm_blk F3.out 2 rfl)
         have zR := blk_lt B3.out
         have zo := blk_lt (fm_blk F3.out 2 rfl)
         clear hb3 k0 k1 k2 k3 g0 g1 zk zg0
         obtain ⟨⟨k0, k1, k2, k3⟩, -⟩ := blk_fourR (fm_blk F3.out 1 rfl)
         obtain ⟨g0, g1, -⟩ := blk_two (fm_blk F3.out 0 rfl)
         have zk := blk_lt (fm_blk F3.out 1 rfl)
         have zg0 := blk_lt (fm_blk F3.out 0 rfl))
      | (at_builtin
         refine wpl_app_flws _ rfl (.tmp 27) (.tmp 33) rfl w1b.heap.size (.slice A2 fs.length c2) fs.length hs2 rfl ((D3.out.row.alloc _).alloc _) (some ⟨w3.heap.size + 1, 0, none⟩) 1 1 [⟨p.peer, 0, some ⟨w3.heap.size, 0, none⟩, 1, 1⟩] rfl (hr_single (blk_at (by simp) _ _)) (by omega) (by have := Z2.out; have := T3.out.size; simp; omega) ?_
         intro v5 w5 ho5 hg5 hat5
         obtain ⟨A5, c5, rfl, -, -, -⟩ := own_form ho5
         have D5 := Lib.hid (do_snoc (f := ⟨p.peer, 0, [p]⟩) D3.out (below_alloc (below_alloc (Below.refl _ _) (.cells #[.int .i64 p.peer, .int .i64 p.lane, .int .i64 p.size, .int .i64 p.id] 29)) (.cells #[.int .i64 p.peer, .int .i64 0, (.slice (some ⟨w3.heap.size, 0, none⟩) 1 1)] 82)) ((World.ownsRow_lit w3 _ 1 (Nat.le_refl _) (by unfold maxLen; omega) rfl).alloc _) (Nat.le_refl _) (by omega) (by have := Z2.out; have := T3.out.size; omega) ho5 hg5 hat5)
         have hg5' := (g_alloc (g_alloc (g_refl w3 (Value.ownBlock (.slice A2 fs.length c2))) (.cells #[.int .i64 p.peer, .int .i64 p.lane, .int .i64 p.size, .int .i64 p.id] 29)) (.cells #[.int .i64 p.peer, .int .i64 0, (.slice (some ⟨w3.heap.size, 0, none⟩) 1 1)] 82)).trans hg5
         have hw1 : w.heap.size + 3 ≤ w1b.heap.size := (by have := blk_lt (fm_blk F1b.out 2 rfl); omega)
         have F5 := Lib.hid (fm_grownO F3.out hg5' fun b e => ⟨by have := (D3.out.row.lt b e).1; omega, bx3p_hi (by have := (D3.out.row.lt b e).1; omega)⟩)
         have B5 := Lib.hid (blk_grownQ B3.out hg5' fun e => by have := (D2.out.row.lt _ e.symm).2; omega)
         have AT := Lib.hid (show ∀ b, Value.ownBlock (.slice A5 (fs.length + 1) c5) = some b → b ≠ w2.heap.size from fun b e => (by
           rcases hat5 with h | h
           · have := (D2.out.row.lt b (h.symm.trans e)).2; omega
           · rw [h] at e; injection e with e; simp at e; omega))
         clear hg5 hat5 ho5 hg5' l0 l1 lf0 lf1 o0 o1 of0 of1
         obtain ⟨l0, l1, lf0, lf1⟩ := blk_two B5.out
         obtain ⟨o0, o1, of0, of1⟩ := blk_two (fm_blk F5.out 2 rfl)
         have zR5 := blk_lt B5.out
         have zo5 := blk_lt (fm_blk F5.out 2 rfl)
         have zw2 : w1b.heap.size ≤ w2.heap.size := Z2.out
         have zn : w.heap.size + 1 + 1 < w2.heap.size := by omega
         have zn1 : ¬ w2.heap.size = w.heap.size + 1 + 1 := by omega
         have zn2 : ¬ w2.heap.size = w.heap.size + 2 := by omega))
    have zw2 : w1b.heap.size ≤ w2.heap.size := Z2.out
    have zn : w.heap.size + 2 < w2.heap.size := by omega
    refine bodyPost_ret (v := .tuple #[.agg #[.int .i64 q, (.slice A5 (fs.length + 1) c5)], .bool true]) (by simp [results, Try.results81, go_sem, o0, o1]) rfl ⟨_, _, _, hs2 ++ [⟨p.peer, 0, some ⟨w3.heap.size, 0, none⟩, 1, 1⟩], rfl, ?_, ?_⟩
    · rw [HJ.out]
      refine do_mono (lo := w1b.heap.size) ?_ (by omega)
      iterate 2 (with_reducible refine do_far ?_ (by simp <;> omega) _)
      exact do_ne D5.out (fun b e => by have := AT.out b e; simpa using this) (fun j h hj b e => by
        rcases Nat.lt_or_ge j hs2.length with hlt | hge
        · rw [List.getElem?_append_left hlt] at hj
          have := ((D2.out.all j h _ hj (List.getElem?_eq_getElem (by rw [← D2.out.len]; exact hlt))).2.2.2.1.lt b e).2
          simp; omega
        · rw [List.getElem?_append_right hge] at hj
          have h0 : j - hs2.length = 0 := by
            rcases Nat.eq_zero_or_pos (j - hs2.length) with e0 | e0
            · exact e0
            · rw [List.getElem?_eq_none (by simp; omega)] at hj; cases hj
          rw [h0] at hj
          obtain rfl : (⟨p.peer, 0, some ⟨w3.heap.size, 0, none⟩, 1, 1⟩ : Fh) = h := Option.some.inj hj
          have e' : w3.heap.size = b := Option.some.inj e
          simp; omega) _
    · iterate 3 (with_reducible refine Below.setCell ?_ (by simp <;> omega) _)
      exact F5.out.below
end Go.Proofs.Ytkmoiphcpmhacaa
namespace Go.Proofs.Ytkmoiphcpmhacaa
open Go.RowKit

set_option maxHeartbeats 4000000 in
theorem jnS_no (q : Int) (A : Option Addr) (n c : Nat) (fs : List Flw) (p : Pkt) (w : World) (h : FR w A n fs) (hk : ¬ joinOk q fs p) :
    Calls Try.prog 120 #[.agg #[.int .i64 q, (.slice A n c)], .agg #[.int .i64 p.peer, .int .i64 p.lane, .int .i64 p.size, .int .i64 p.id]] w (JnNo w) := by
  have H := Lib.hid h
  have F := Lib.hid (show Fm w (bx3p w q A n c p) _ from fm_three w 37 29 37 #[.int .i64 q, (.slice A n c)] #[.int .i64 p.peer, .int .i64 p.lane, .int .i64 p.size, .int .i64 p.id] #[.int .i64 0, (.slice none 0 0)])
  obtain ⟨v, hv⟩ : ∃ v, rvB q fs = v := ⟨_, rfl⟩
  obtain ⟨u, hu⟩ : ∃ u, vldB p = u := ⟨_, rfl⟩
  have HR := Lib.hid hv
  have HVP := Lib.hid hu
  have hl := (fr_lenF h).1
  rcases v with _ | _
  · clear h hk hv hu
    go_enter Try.func120, Try.ntmps120
    go_wp2_with (first
    | (go_at_call 92
       refine (rvS_any q A n c fs _ (fr_belowF H.out F.out.below)).mono ?_
       rintro e w1 ⟨rfl, hb1⟩
       rw [HR.out]
       have F1 := Lib.hid (fm_below F.out hb1)
       obtain ⟨⟨k0, k1, k2, k3⟩, -⟩ := blk_fourR (fm_blk F1.out 1 rfl)
       obtain ⟨o0, o1, of0, of1⟩ := blk_two (fm_blk F1.out 2 rfl)
       obtain ⟨g0, g1, -⟩ := blk_two (fm_blk F1.out 0 rfl)
       have zk := blk_lt (fm_blk F1.out 1 rfl)
       clear hb1))
    refine bodyPost_ret (v := .tuple #[.agg #[.int .i64 0, (.slice none 0 0)], .bool false]) (by simp [results, Try.results120, go_sem, o0, o1]) rfl ⟨rfl, ?_⟩
    iterate 2 (with_reducible refine Below.setCell ?_ (by simp <;> omega) _)
    exact F1.out.below
  rcases u with _ | _
  · clear h hk hv hu
    go_enter Try.func120, Try.ntmps120
    go_wp2_with (first
    | (go_at_call 92
       refine (rvS_any q A n c fs _ (fr_belowF H.out F.out.below)).mono ?_
       rintro e w1 ⟨rfl, hb1⟩
       rw [HR.out]
       have F1 := Lib.hid (fm_below F.out hb1)
       obtain ⟨⟨k0, k1, k2, k3⟩, -⟩ := blk_fourR (fm_blk F1.out 1 rfl)
       obtain ⟨o0, o1, of0, of1⟩ := blk_two (fm_blk F1.out 2 rfl)
       obtain ⟨g0, g1, -⟩ := blk_two (fm_blk F1.out 0 rfl)
       have zk := blk_lt (fm_blk F1.out 1 rfl)
       clear hb1)
    | (go_at_call 121
       refine (vldS_any p _).mono ?_
       rintro e w1b ⟨rfl, hb1⟩
       rw [HVP.out]
       have F1b := Lib.hid (fm_below F1.out hb1)
       clear hb1 k0 k1 k2 k3 o0 o1 of0 of1 g0 g1 zk
       obtain ⟨⟨k0, k1, k2, k3⟩, -⟩ := blk_fourR (fm_blk F1b.out 1 rfl)
       obtain ⟨o0, o1, of0, of1⟩ := blk_two (fm_blk F1b.out 2 rfl)
       obtain ⟨g0, g1, -⟩ := blk_two (fm_blk F1b.out 0 rfl)
       have zk := blk_lt (fm_blk F1b.out 1 rfl)))
    refine bodyPost_ret (v := .tuple #[.agg #[.int .i64 0, (.slice none 0 0)], .bool false]) (by simp [results, Try.results120, go_sem, o0, o1]) rfl ⟨rfl, ?_⟩
    iterate 2 (with_reducible refine Below.setCell ?_ (by simp <;> omega) _)
    exact F1b.out.below
  obtain ⟨k, f, hf, hp, h64⟩ := join_dec (rv_iff.1 hv) hu hk
  have h8 := rv_len (rv_iff.1 hv)
  have HF := Lib.hid hf
  have HP := Lib.hid hp
  have HW := Lib.hid h64
  have hlt : k < fs.length := by
    rcases Nat.lt_or_ge k fs.length with h | h
    · exact h
    · rw [List.getElem?_eq_none h] at hf; cases hf
  have hd : decide ((k : Int) < 0) = false := decide_eq_false (by omega)
  have hkn : k < n := by omega
  have hkn0 : (0 : Int) ≤ (k : Int) := by omega
  have hkn1 : (k : Int) < (n : Int) := by omega
  have hkn2 : (k : Int) < (fs.length : Int) := by omega
  clear h hk hv hu hf hp h64 hl
  go_enter Try.func120, Try.ntmps120
  go_wp2_with (first
    | (go_at_call 92
       refine (rvS_any q A n c fs _ (fr_belowF H.out F.out.below)).mono ?_
       rintro e w1 ⟨rfl, hb1⟩
       rw [HR.out]
       have F1 := Lib.hid (fm_below F.out hb1)
       obtain ⟨⟨k0, k1, k2, k3⟩, -⟩ := blk_fourR (fm_blk F1.out 1 rfl)
       obtain ⟨o0, o1, of0, of1⟩ := blk_two (fm_blk F1.out 2 rfl)
       obtain ⟨g0, g1, -⟩ := blk_two (fm_blk F1.out 0 rfl)
       have zk := blk_lt (fm_blk F1.out 1 rfl)
       clear hb1)
    | (go_at_call 121
       refine (vldS_any p _).mono ?_
       rintro e w1b ⟨rfl, hb1⟩
       rw [HVP.out]
       have F1b := Lib.hid (fm_below F1.out hb1)
       clear hb1 k0 k1 k2 k3 o0 o1 of0 of1 g0 g1 zk
       obtain ⟨⟨k0, k1, k2, k3⟩, -⟩ := blk_fourR (fm_blk F1b.out 1 rfl)
       obtain ⟨o0, o1, of0, of1⟩ := blk_two (fm_blk F1b.out 2 rfl)
       obtain ⟨g0, g1, -⟩ := blk_two (fm_blk F1b.out 0 rfl)
       have zk := blk_lt (fm_blk F1b.out 1 rfl))
    | (go_at_call 102
       refine (copyRS_any q A n c fs _ (fr_belowF H.out F1b.out.below)).mono ?_
       rintro e w2 ⟨A2, n2, c2, hs2, rfl, rfl, -, -, hD, hb2⟩
       have F2 := Lib.hid (fm_below F1b.out hb2)
       have D2 := Lib.hid hD
       have Z2 := Lib.hid hb2.size
       clear hb2 hD k0 k1 k2 k3 o0 o1 of0 of1 g0 g1 zk
       obtain ⟨⟨k0, k1, k2, k3⟩, -⟩ := blk_fourR (fm_blk F2.out 1 rfl)
       obtain ⟨g0, g1, -⟩ := blk_two (fm_blk F2.out 0 rfl)
       have zk := blk_lt (fm_blk F2.out 1 rfl)
       have zg0 := blk_lt (fm_blk F2.out 0 rfl))
    | (go_at_call 106
       refine (findS_any q A n c fs p.peer _ (fr_belowF H.out (below_alloc F2.out.below _))).mono ?_
       rintro e w3 ⟨rfl, hb3⟩
       rw [HP.out]
       have T3 := Lib.hid (below_seq1 (Below.refl _ _) hb3)
       have F3 := Lib.hid (fm_below F2.out T3.out)
       have D3 := Lib.hid (do_below D2.out T3.out)
       have B3 := Lib.hid (blk_below (blk_new w2 37 #[.int .i64 q, (.slice A2 fs.length c2)]) hb3 (by simp))
       obtain ⟨l0, l1, lf0, lf1⟩ := blk_two B3.out
       obtain ⟨o0, o1, of0, of1⟩ := blk_two (fm_blk F3.out 2 rfl)
       have zR := blk_lt B3.out
       have zo := blk_lt (fm_blk F3.out 2 rfl)
       clear hb3 k0 k1 k2 k3 g0 g1 zk zg0
       obtain ⟨⟨k0, k1, k2, k3⟩, -⟩ := blk_fourR (fm_blk F3.out 1 rfl)
       obtain ⟨g0, g1, -⟩ := blk_two (fm_blk F3.out 0 rfl)
       have zk := blk_lt (fm_blk F3.out 1 rfl)
       have zg0 := blk_lt (fm_blk F3.out 0 rfl)
       obtain ⟨b, off, f', A1, n1, c1, hA, hbl, hf', c0, c1', c2', hpr, hc1, hn1⟩ := fr_cells (fr_belowF H.out F3.out.below) hkn
       obtain rfl := hA
       obtain rfl : f = f' := (by have := HF.out; rw [hf'] at this; exact (Option.some.inj this).symm)
       have e64 : ((n1 : Int) == 64) = true := (by have h1 := hpr.1; rw [HW.out] at h1; simp; omega)
       clear hpr hf'))
  refine bodyPost_ret (v := .tuple #[.agg #[.int .i64 0, (.slice none 0 0)], .bool false]) (by simp [results, Try.results120, go_sem, o0, o1]) rfl ⟨rfl, ?_⟩
  iterate 2 (with_reducible refine Below.setCell ?_ (by simp <;> omega) _)
  exact F3.out.below
set_option maxHeartbeats 8000000 in
theorem jnS_yes (q : Int) (A : Option Addr) (n c : Nat) (fs : List Flw) (p : Pkt) (w : World) (h : FR w A n fs) (hk : joinOk q fs p) :
    Calls Try.prog 120 #[.agg #[.int .i64 q, (.slice A n c)], .agg #[.int .i64 p.peer, .int .i64 p.lane, .int .i64 p.size, .int .i64 p.id]] w (JnYes w q fs p) := by
  have H := Lib.hid h
  have F := Lib.hid (show Fm w (bx3p w q A n c p) _ from fm_three w 37 29 37 #[.int .i64 q, (.slice A n c)] #[.int .i64 p.peer, .int .i64 p.lane, .int .i64 p.size, .int .i64 p.id] #[.int .i64 0, (.slice none 0 0)])
  have HR := Lib.hid (rv_yes hk.1)
  have HVP := Lib.hid hk.2.1
  have hl := (fr_lenF h).1
  have h8 := rv_len hk.1
  by_cases hlt : fix fs p.peer < fs.length
  · obtain ⟨f, hf, hw, hp⟩ := leave_some hlt
    have h64 := hk.2.2
    rw [hw] at h64
    obtain ⟨k, hkk⟩ : ∃ k, k = fix fs p.peer := ⟨_, rfl⟩
    have HJ : Hid (joinL fs p = fs.set k ⟨f.peer, f.dfc, f.ws ++ [p]⟩) := Lib.hid (by rw [hkk]; exact join_old hf)
    rw [← hkk] at hf hp hlt
    have HF := Lib.hid hf
    have HP := Lib.hid hp
    have HW := Lib.hid h64
    have hd : decide ((k : Int) < 0) = false := decide_eq_false (by omega)
    have hkn : k < n := by omega
    have hkn0 : (0 : Int) ≤ (k : Int) := by omega
    have hkn1 : (k : Int) < (n : Int) := by omega
    have hkn2 : (k : Int) < (fs.length : Int) := by omega
    clear h hk hf hp h64 hl hw hkk
    go_enter Try.func120, Try.ntmps120
    go_wp2_with (first
      | (go_at_call 92
         refine (rvS_any q A n c fs _ (fr_belowF H.out F.out.below)).mono ?_
         rintro e w1 ⟨rfl, hb1⟩
         rw [HR.out]
         have F1 := Lib.hid (fm_below F.out hb1)
         obtain ⟨⟨k0, k1, k2, k3⟩, -⟩ := blk_fourR (fm_blk F1.out 1 rfl)
         obtain ⟨o0, o1, of0, of1⟩ := blk_two (fm_blk F1.out 2 rfl)
         obtain ⟨g0, g1, -⟩ := blk_two (fm_blk F1.out 0 rfl)
         have zk := blk_lt (fm_blk F1.out 1 rfl)
         clear hb1)
      | (go_at_call 121
         refine (vldS_any p _).mono ?_
         rintro e w1b ⟨rfl, hb1⟩
         rw [HVP.out]
         have F1b := Lib.hid (fm_below F1.out hb1)
         clear hb1 k0 k1 k2 k3 o0 o1 of0 of1 g0 g1 zk
         obtain ⟨⟨k0, k1, k2, k3⟩, -⟩ := blk_fourR (fm_blk F1b.out 1 rfl)
         obtain ⟨o0, o1, of0, of1⟩ := blk_two (fm_blk F1b.out 2 rfl)
         obtain ⟨g0, g1, -⟩ := blk_two (fm_blk F1b.out 0 rfl)
         have zk := blk_lt (fm_blk F1b.out 1 rfl))
      | (go_at_call 102
         refine (copyRS_any q A n c fs _ (fr_belowF H.out F1b.out.below)).mono ?_
         rintro e w2 ⟨A2, n2, c2, hs2, rfl, rfl, -, -, hD, hb2⟩
         have F2 := Lib.hid (fm_below F1b.out hb2)
         have D2 := Lib.hid hD
         have Z2 := Lib.hid hb2.size
         clear hb2 hD k0 k1 k2 k3 o0 o1 of0 of1 g0 g1 zk
         obtain ⟨⟨k0, k1, k2, k3⟩, -⟩ := blk_fourR (fm_blk F2.out 1 rfl)
         obtain ⟨g0, g1, -⟩ := blk_two (fm_blk F2.out 0 rfl)
         have zk := blk_lt (fm_blk F2.out 1 rfl)
         have zg0 := blk_lt (fm_blk F2.out 0 rfl))
      | (go_at_call 106
         refine (findS_any q A n c fs p.peer _ (fr_belowF H.out (below_alloc F2.out.below _))).mono ?_
         rintro e w3 ⟨rfl, hb3⟩
         rw [HP.out]
         have T3 := Lib.hid (below_seq1 (Below.refl _ _) hb3)
         have F3 := Lib.hid (fm_below F2.out T3.out)
         have D3 := Lib.hid (do_below D2.out T3.out)
         have B3 := Lib.hid (blk_below (blk_new w2 37 #[.int .i64 q, (.slice A2 fs.length c2)]) hb3 (by simp))
         obtain ⟨l0, l1, lf0, lf1⟩ := blk_two B3.out
         obtain ⟨o0, o1, of0, of1⟩ := blk_two (fm_blk F3.out 2 rfl)
         have zR := blk_lt B3.out
         have zo := blk_lt (fm_blk F3.out 2 rfl)
         clear hb3 k0 k1 k2 k3 g0 g1 zk zg0
         obtain ⟨⟨k0, k1, k2, k3⟩, -⟩ := blk_fourR (fm_blk F3.out 1 rfl)
         obtain ⟨g0, g1, -⟩ := blk_two (fm_blk F3.out 0 rfl)
         have zk := blk_lt (fm_blk F3.out 1 rfl)
         have zg0 := blk_lt (fm_blk F3.out 0 rfl)
         obtain ⟨g, cap, hv, hg1, hg2⟩ := D3.out.row.form (by omega)
         obtain ⟨rfl, rfl⟩ : A2 = some ⟨g, 0, none⟩ ∧ c2 = cap := (by injection hv with a1 a2 a3; exact ⟨a1, a3⟩)
         obtain ⟨b', off', hk, e1, hb', hhk, c0, c1, c2'⟩ := hr_at (k := k) (hr_own D3.out.row) hlt
         obtain ⟨rfl, rfl⟩ : g = b' ∧ 0 = off' := (by injection e1 with e1; injection e1 with a1 a2; exact ⟨a1, a2⟩)
         simp only [Nat.zero_add] at c0 c1 c2'
         have HH := Lib.hid hhk
         obtain ⟨b, off, f', A1, n1, c1n, hA, hbl, hf', s0, s1, s2, hpr, hc1n, hn1⟩ := fr_cells (fr_belowF H.out F3.out.below) hkn
         obtain rfl := hA
         obtain rfl : f = f' := (by have := HF.out; rw [hf'] at this; exact (Option.some.inj this).symm)
         have e64 : ((n1 : Int) == 64) = false := (by have h1 := hpr.1; have := HW.out; simp; omega)
         clear hv e1 hhk hpr hf'))
    have f0 := World.ownsRow.frozenAt D3.out.row (k * 3 + 2)
    have hw1 : w.heap.size + 3 ≤ w1b.heap.size := by have := blk_lt (fm_blk F1b.out 2 rfl); omega
    have hlo2 : w1b.heap.size ≤ w2.heap.size := by have := Z2.out; omega
    have zg : g < w3.heap.size := hb'
    have HA := Lib.hid (D3.out.all k hk f HH.out HF.out)
    have zl : w2.heap.size < w3.heap.size := zR
    have hn4 : hk.n < 64 := (by have h1 := HA.out.2.2.2.1.1; have := HW.out; rw [pcells_len] at h1; omega)
    have hS0 := jn_holdS (D3.out) HH.out B3.out (show Blk w3 (w.heap.size + 1) 29 #[.int .i64 p.peer, .int .i64 p.lane, .int .i64 p.size, .int .i64 p.id] from fm_blk F3.out 1 rfl)
    refine held_start (S := (fun w' => w'.cell? ⟨g, k * 3 + 2, none⟩ = some (.slice hk.A hk.n hk.c) ∧ (w'.cell? ⟨w2.heap.size, 0, none⟩ = some (.int .i64 q) ∧ w'.cell? ⟨w2.heap.size, 1, none⟩ = some (.slice (some ⟨g, 0, none⟩) fs.length c2)) ∧ (w'.cell? ⟨w.heap.size + 1, 0, none⟩ = some (.int .i64 p.peer) ∧ w'.cell? ⟨w.heap.size + 1, 1, none⟩ = some (.int .i64 p.lane) ∧ w'.cell? ⟨w.heap.size + 1, 2, none⟩ = some (.int .i64 p.size) ∧ w'.cell? ⟨w.heap.size + 1, 3, none⟩ = some (.int .i64 p.id)))) 14 (by kernel_rfl) ?_
    refine held_take (i := 0) (oi := { dst := some 45, op := Op.fieldAddr 37 (Operand.tmp 6) 1, type := 0, pos := "l5_robins.go:80", after := #[], guard := none }) (v := ?_) rfl (by kernel_rfl) (by kernel_rfl) (by kernel_rfl) (by kernel_rfl) (fun _ _ _ h => h) (Or.inl ⟨by rfl, ?_⟩) hS0 ?_
    rotate_left
    · (intro w9 hSw; (try dsimp only at hSw); go_simp; try with_reducible rfl)
    try simp only [Act.put, List.setIfInBounds_toArray, List.set_cons_zero, List.set_cons_succ]
    refine held_take (i := 1) (oi := { dst := some 46, op := Op.load 35 (Operand.tmp 45), type := 35, pos := "l5_robins.go:80", after := #[{ on := 0, ground := Ground.data }], guard := none }) (v := ?_) rfl (by kernel_rfl) (by kernel_rfl) (by kernel_rfl) (by kernel_rfl) (fun _ _ _ h => h) (Or.inl ⟨by rfl, ?_⟩) hS0 ?_
    rotate_left
    · (intro w9 hSw; (try dsimp only at hSw); go_simp; try with_reducible rfl)
    try simp only [Act.put, List.setIfInBounds_toArray, List.set_cons_zero, List.set_cons_succ]
    refine held_take (i := 2) (oi := { dst := some 47, op := Op.move (Operand.tmp 7), type := 3, pos := "l5_robins.go:80", after := #[], guard := none }) (v := ?_) rfl (by kernel_rfl) (by kernel_rfl) (by kernel_rfl) (by kernel_rfl) (fun _ _ _ h => h) (Or.inl ⟨by rfl, ?_⟩) hS0 ?_
    rotate_left
    · (intro w9 hSw; (try dsimp only at hSw); go_simp; try with_reducible rfl)
    try simp only [Act.put, List.setIfInBounds_toArray, List.set_cons_zero, List.set_cons_succ]
    refine held_take (i := 3) (oi := { dst := some 48, op := Op.fieldAddr 37 (Operand.tmp 6) 1, type := 0, pos := "l5_robins.go:80", after := #[], guard := none }) (v := ?_) rfl (by kernel_rfl) (by kernel_rfl) (by kernel_rfl) (by kernel_rfl) (fun _ _ _ h => h) (Or.inl ⟨by rfl, ?_⟩) hS0 ?_
    rotate_left
    · (intro w9 hSw; (try dsimp only at hSw); go_simp; try with_reducible rfl)
    try simp only [Act.put, List.setIfInBounds_toArray, List.set_cons_zero, List.set_cons_succ]
    refine held_take (i := 4) (oi := { dst := some 49, op := Op.load 35 (Operand.tmp 48), type := 35, pos := "l5_robins.go:80", after := #[{ on := 3, ground := Ground.data }], guard := none }) (v := ?_) rfl (by kernel_rfl) (by kernel_rfl) (by kernel_rfl) (by kernel_rfl) (fun _ _ _ h => h) (Or.inl ⟨by rfl, ?_⟩) hS0 ?_
    rotate_left
    · (intro w9 hSw; (try dsimp only at hSw); go_simp; try with_reducible rfl)
    try simp only [Act.put, List.setIfInBounds_toArray, List.set_cons_zero, List.set_cons_succ]
    refine held_take (i := 5) (oi := { dst := some 50, op := Op.move (Operand.tmp 7), type := 3, pos := "l5_robins.go:80", after := #[], guard := none }) (v := ?_) rfl (by kernel_rfl) (by kernel_rfl) (by kernel_rfl) (by kernel_rfl) (fun _ _ _ h => h) (Or.inl ⟨by rfl, ?_⟩) hS0 ?_
    rotate_left
    · (intro w9 hSw; (try dsimp only at hSw); go_simp; try with_reducible rfl)
    try simp only [Act.put, List.setIfInBounds_toArray, List.set_cons_zero, List.set_cons_succ]
    refine held_take (i := 6) (oi := { dst := some 51, op := Op.indexAddr 35 (Operand.tmp 49) (Operand.tmp 50), type := 0, pos := "l5_robins.go:80", after := #[{ on := 4, ground := Ground.data }, { on := 5, ground := Ground.data }], guard := none }) (v := ?_) rfl (by kernel_rfl) (by kernel_rfl) (by kernel_rfl) (by kernel_rfl) (fun _ _ _ h => h) (Or.inl ⟨by rfl, ?_⟩) hS0 ?_
    rotate_left
    · (intro w9 hSw; (try dsimp only at hSw); go_simp; try with_reducible rfl)
    try simp only [Act.put, List.setIfInBounds_toArray, List.set_cons_zero, List.set_cons_succ]
    refine held_take (i := 7) (oi := { dst := some 52, op := Op.fieldAddr 82 (Operand.tmp 51) 2, type := 0, pos := "l5_robins.go:80", after := #[{ on := 6, ground := Ground.data }], guard := none }) (v := ?_) rfl (by kernel_rfl) (by kernel_rfl) (by kernel_rfl) (by kernel_rfl) (fun _ _ _ h => h) (Or.inl ⟨by rfl, ?_⟩) hS0 ?_
    rotate_left
    · (intro w9 hSw; (try dsimp only at hSw); go_simp; try with_reducible rfl)
    try simp only [Act.put, List.setIfInBounds_toArray, List.set_cons_zero, List.set_cons_succ]
    refine held_take (i := 8) (oi := { dst := some 53, op := Op.load 45 (Operand.tmp 52), type := 45, pos := "l5_robins.go:80", after := #[{ on := 7, ground := Ground.data }], guard := none }) (v := ?_) rfl (by kernel_rfl) (by kernel_rfl) (by kernel_rfl) (by kernel_rfl) (fun _ _ _ h => h) (Or.inl ⟨by rfl, ?_⟩) hS0 ?_
    rotate_left
    · (intro w9 hSw; (try dsimp only at hSw); go_simp; try with_reducible rfl)
    try simp only [Act.put, List.setIfInBounds_toArray, List.set_cons_zero, List.set_cons_succ]
    refine held_take (i := 9) (oi := { dst := some 54, op := Op.load 29 (Operand.tmp 3), type := 29, pos := "l5_robins.go:80", after := #[], guard := none }) (v := ?_) rfl (by kernel_rfl) (by kernel_rfl) (by kernel_rfl) (by kernel_rfl) (fun _ _ _ h => h) (Or.inl ⟨by rfl, ?_⟩) hS0 ?_
    rotate_left
    · (intro w9 hSw; (try dsimp only at hSw); go_simp; try with_reducible rfl)
    try simp only [Act.put, List.setIfInBounds_toArray, List.set_cons_zero, List.set_cons_succ]
    refine held_one (i := 10) (o := { dst := some 55, op := Op.buildSlice 45 1 #[(0, Operand.tmp 54)], type := 45, pos := "l5_robins.go:80", after := #[{ on := 9, ground := Ground.data }], guard := none }) (by kernel_rfl) rfl (fun K hK => ?_)
    go_simp
    have T1 := Lib.hid (show Below w3.heap.size w3 _ from (below_alloc (Below.refl _ _) (.cells #[.int .i64 p.peer, .int .i64 p.lane, .int .i64 p.size, .int .i64 p.id] 29)).drew)
    have hS1 := jn_holdS (do_below D3.out T1.out) HH.out (blk_below B3.out T1.out zR) (blk_below (show Blk w3 (w.heap.size + 1) 29 #[.int .i64 p.peer, .int .i64 p.lane, .int .i64 p.size, .int .i64 p.id] from fm_blk F3.out 1 rfl) T1.out zk)
    refine hK.out _ _ (.inr hS1) ?_
    clear hK K
    try simp only [Act.put, List.setIfInBounds_toArray, List.set_cons_zero, List.set_cons_succ]
    refine held_one (i := 11) (o := { dst := some 56, op := Op.call { callee := Callee.builtin Builtin.append, args := #[Operand.tmp 53, Operand.tmp 55], argTypes := #[45, 45] }, type := 45, pos := "l5_robins.go:80", after := #[{ on := 8, ground := Ground.data }, { on := 10, ground := Ground.data }], guard := none }) (by kernel_rfl) rfl (fun K hK => ?_)
    refine step_app_pkts _ rfl (.tmp 53) (.tmp 55) rfl w1b.heap.size (.slice hk.A hk.n hk.c) hk.n f.ws rfl (World.ownsRow.drew (World.ownsRow.alloc HA.out.2.2.2.1 _)) (some ⟨w3.heap.size, 0, none⟩) 1 1 [p] rfl (pr_drewN (pr_single (blk_at rfl _ _)) 1) (by omega) (by simp; omega) ?_
    intro v5 w5 ho5 hg5 hat5
    obtain ⟨A5, c5, rfl, -, -, -⟩ := own_form ho5
    have hg5' : w3.grownBy w5 hk.sl.ownBlock := (World.grownBy_alloc w3 (.cells #[.int .i64 p.peer, .int .i64 p.lane, .int .i64 p.size, .int .i64 p.id] 29) _).trans (show (w3.alloc (.cells #[.int .i64 p.peer, .int .i64 p.lane, .int .i64 p.size, .int .i64 p.id] 29)).grownBy w5 _ from ⟨hg5.os, hg5.tape, hg5.output, hg5.size, hg5.block⟩)
    have D5 := Lib.hid (do_put D3.out HH.out HF.out (by omega) hg5' ho5 (hat5.imp id fun h => ⟨_, h, by simp⟩))
    have NB := Lib.hid (show ∀ b, hk.sl.ownBlock = some b → w1b.heap.size ≤ b ∧ b < w2.heap.size ∧ b ≠ g from fun b e => ⟨(HA.out.2.2.2.1.lt b e).1, ((D2.out.all k hk f HH.out HF.out).2.2.2.1.lt b e).2, fun h => HA.out.2.2.2.2 b e (by rw [h]; rfl)⟩)
    have F5 := Lib.hid (fm_grownO F3.out hg5' fun b e => ⟨by have := NB.out b e; omega, bx3p_hi (by have := NB.out b e; omega)⟩)
    have B5 := Lib.hid (blk_grownQ B3.out hg5' fun e => by have := (NB.out _ e.symm).2.1; omega)
    have C5 := Lib.hid (show w5.cell? ⟨g, k * 3 + 2, none⟩ = some (.slice hk.A hk.n hk.c) from (hg5'.cell_far ⟨g, k * 3 + 2, none⟩ zg fun e => (NB.out g e.symm).2.2 rfl).trans c2')
    have E5 := Lib.hid (show w5.frozen? ⟨g, k * 3 + 2, none⟩ = false from (froz_far hg5' zg fun e => (NB.out g e.symm).2.2 rfl).trans f0)
    have c5' := C5.out
    have e5' := E5.out
    have hS5 := And.intro C5.out (And.intro (lv_hold B5.out) (blk_fourR (fm_blk F5.out 1 rfl)).1)
    have zg5 : g < w5.heap.size := Nat.lt_of_lt_of_le zg hg5'.size
    clear hg5 hat5 ho5 hg5'
    refine hK.out _ _ (.inr hS5) ?_
    clear hK K
    try simp only [Act.put, List.setIfInBounds_toArray, List.set_cons_zero, List.set_cons_succ]
    refine held_one (i := 12) (o := { dst := some 57, op := Op.indexAddr 35 (Operand.tmp 46) (Operand.tmp 47), type := 0, pos := "l5_robins.go:80", after := #[{ on := 1, ground := Ground.data }, { on := 2, ground := Ground.data }, { on := 0, ground := Ground.phase }, { on := 1, ground := Ground.phase }, { on := 2, ground := Ground.phase }, { on := 3, ground := Ground.phase }, { on := 4, ground := Ground.phase }, { on := 5, ground := Ground.phase }, { on := 6, ground := Ground.phase }, { on := 7, ground := Ground.phase }, { on := 8, ground := Ground.phase }, { on := 9, ground := Ground.phase }, { on := 10, ground := Ground.phase }, { on := 11, ground := Ground.phase }], guard := none }) (by kernel_rfl) rfl (fun K hK => ?_)
    go_simp
    refine hK.out _ _ (.inr hS5) ?_
    clear hK K
    try simp only [Act.put, List.setIfInBounds_toArray, List.set_cons_zero, List.set_cons_succ]
    refine held_take (i := 13) (oi := { dst := some 58, op := Op.fieldAddr 82 (Operand.tmp 57) 2, type := 0, pos := "l5_robins.go:80", after := #[{ on := 12, ground := Ground.data }, { on := 0, ground := Ground.phase }, { on := 1, ground := Ground.phase }, { on := 2, ground := Ground.phase }, { on := 3, ground := Ground.phase }, { on := 4, ground := Ground.phase }, { on := 5, ground := Ground.phase }, { on := 6, ground := Ground.phase }, { on := 7, ground := Ground.phase }, { on := 8, ground := Ground.phase }, { on := 9, ground := Ground.phase }, { on := 10, ground := Ground.phase }, { on := 11, ground := Ground.phase }], guard := none }) (v := ?_) rfl (by kernel_rfl) (by kernel_rfl) (by kernel_rfl) (by kernel_rfl) (fun _ _ _ h => h) (Or.inl ⟨by rfl, ?_⟩) hS5 ?_
    rotate_left
    · (intro w9 hSw; (try dsimp only at hSw); go_simp; try with_reducible rfl)
    try simp only [Act.put, List.setIfInBounds_toArray, List.set_cons_zero, List.set_cons_succ]
    refine held_one (i := 14) (o := { dst := none, op := Op.store 45 (Operand.tmp 58) (Operand.tmp 56), type := 0, pos := "l5_robins.go:80", after := #[{ on := 13, ground := Ground.data }, { on := 11, ground := Ground.data }, { on := 11, ground := Ground.chain }, { on := 0, ground := Ground.phase }, { on := 1, ground := Ground.phase }, { on := 2, ground := Ground.phase }, { on := 3, ground := Ground.phase }, { on := 4, ground := Ground.phase }, { on := 5, ground := Ground.phase }, { on := 6, ground := Ground.phase }, { on := 7, ground := Ground.phase }, { on := 8, ground := Ground.phase }, { on := 9, ground := Ground.phase }, { on := 10, ground := Ground.phase }, { on := 11, ground := Ground.phase }], guard := none }) (by kernel_rfl) rfl (fun K hK => ?_)
    go_simp
    refine hK.out _ _ (.inl rfl) ?_
    clear hK K
    try simp only [Act.put, List.setIfInBounds_toArray, List.set_cons_zero, List.set_cons_succ]
    refine held_done (by kernel_rfl) ?_ _
    clear hS0 hS1 hS5 c0 c1 c2' l0 l1 lf0 lf1 o0 o1 of0 of1 zR zk zo k0 k1 k2 k3 g0 g1 zg0
    obtain ⟨o0, o1, of0, of1⟩ := blk_two (fm_blk F5.out 2 rfl)
    obtain ⟨l0, l1, -, -⟩ := blk_two B5.out
    have zo := blk_lt (fm_blk F5.out 2 rfl)
    have zR := blk_lt B5.out
    have hgl := (D3.out.row.lt g rfl)
    have hg2' := (D2.out.row.lt g rfl).2
    go_wp2_with fail
    refine bodyPost_ret (v := .tuple #[.agg #[.int .i64 q, (.slice (some ⟨g, 0, none⟩) fs.length c2)], .bool true]) (by simp [results, Try.results120, go_sem, o0, o1]) rfl ⟨_, _, _, hs2.set k ⟨hk.peer, hk.dfc, A5, hk.n + 1, c5⟩, rfl, ?_, ?_⟩
    · rw [HJ.out]
      refine do_mono (lo := w1b.heap.size) ?_ (by omega)
      iterate 2 (with_reducible refine do_far ?_ (by simp <;> omega) _)
      exact D5.out
    · iterate 3 (with_reducible refine Below.setCell ?_ (by simp <;> omega) _)
      exact F5.out.below
  · obtain ⟨-, -, hp⟩ := leave_none hlt
    have HJ := Lib.hid (join_new (p := p) hlt)
    have HP := Lib.hid hp
    clear h hk hp hlt hl
    go_enter Try.func120, Try.ntmps120
    go_wp2_with (first
      | (go_at_call 92
         refine (rvS_any q A n c fs _ (fr_belowF H.out F.out.below)).mono ?_
         rintro e w1 ⟨rfl, hb1⟩
         rw [HR.out]
         have F1 := Lib.hid (fm_below F.out hb1)
         obtain ⟨⟨k0, k1, k2, k3⟩, -⟩ := blk_fourR (fm_blk F1.out 1 rfl)
         obtain ⟨o0, o1, of0, of1⟩ := blk_two (fm_blk F1.out 2 rfl)
         obtain ⟨g0, g1, -⟩ := blk_two (fm_blk F1.out 0 rfl)
         have zk := blk_lt (fm_blk F1.out 1 rfl)
         clear hb1)
      | (go_at_call 121
         refine (vldS_any p _).mono ?_
         rintro e w1b ⟨rfl, hb1⟩
         rw [HVP.out]
         have F1b := Lib.hid (fm_below F1.out hb1)
         clear hb1 k0 k1 k2 k3 o0 o1 of0 of1 g0 g1 zk
         obtain ⟨⟨k0, k1, k2, k3⟩, -⟩ := blk_fourR (fm_blk F1b.out 1 rfl)
         obtain ⟨o0, o1, of0, of1⟩ := blk_two (fm_blk F1b.out 2 rfl)
         obtain ⟨g0, g1, -⟩ := blk_two (fm_blk F1b.out 0 rfl)
         have zk := blk_lt (fm_blk F1b.out 1 rfl))
      | (go_at_call 102
         refine (copyRS_any q A n c fs _ (fr_belowF H.out F1b.out.below)).mono ?_
         rintro e w2 ⟨A2, n2, c2, hs2, rfl, rfl, -, -, hD, hb2⟩
         have F2 := Lib.hid (fm_below F1b.out hb2)
         have D2 := Lib.hid hD
         have Z2 := Lib.hid hb2.size
         clear hb2 hD k0 k1 k2 k3 o0 o1 of0 of1 g0 g1 zk
         obtain ⟨⟨k0, k1, k2, k3⟩, -⟩ := blk_fourR (fm_blk F2.out 1 rfl)
         obtain ⟨g0, g1, -⟩ := blk_two (fm_blk F2.out 0 rfl)
         have zk := blk_lt (fm_blk F2.out 1 rfl)
         have zg0 := blk_lt (fm_blk F2.out 0 rfl))
      | (go_at_call 106
         refine (findS_any q A n c fs p.peer _ (fr_belowF H.out (below_alloc F2.out.below _))).mono ?_
         rintro e w3 ⟨rfl, hb3⟩
         rw [HP.out]
         have T3 := Lib.hid (below_seq1 (Below.refl _ _) hb3)
         have F3 := Lib.hid (fm_below F2.out T3.out)
         have D3 := Lib.hid (do_below D2.out T3.out)
         have B3 := Lib.hid (blk_below (blk_new w2 37 #[.int .i64 q, (.slice A2 fs.length c2)]) hb3 (by simp))
         obtain ⟨l0, l1, lf0, lf1⟩ := blk_two B3.out
         obtain ⟨o0, o1, of0, of1⟩ := blk_two (fm_blk F3.out 2 rfl)
         have zR := blk_lt B3.out
         have zo := blk_lt (fm_blk F3.out 2 rfl)
         clear hb3 k0 k1 k2 k3 g0 g1 zk zg0
         obtain ⟨⟨k0, k1, k2, k3⟩, -⟩ := blk_fourR (fm_blk F3.out 1 rfl)
         obtain ⟨g0, g1, -⟩ := blk_two (fm_blk F3.out 0 rfl)
         have zk := blk_lt (fm_blk F3.out 1 rfl)
         have zg0 := blk_lt (fm_blk F3.out 0 rfl))
      | (at_builtin
         refine wpl_app_flws _ rfl (.tmp 26) (.tmp 32) rfl w1b.heap.size (.slice A2 fs.length c2) fs.length hs2 rfl ((D3.out.row.alloc _).alloc _) (some ⟨w3.heap.size + 1, 0, none⟩) 1 1 [⟨p.peer, 0, some ⟨w3.heap.size, 0, none⟩, 1, 1⟩] rfl (hr_single (blk_at (by simp) _ _)) (by omega) (by have := Z2.out; have := T3.out.size; simp; omega) ?_
         intro v5 w5 ho5 hg5 hat5
         obtain ⟨A5, c5, rfl, -, -, -⟩ := own_form ho5
         have D5 := Lib.hid (do_snoc (f := ⟨p.peer, 0, [p]⟩) D3.out (below_alloc (below_alloc (Below.refl _ _) (.cells #[.int .i64 p.peer, .int .i64 p.lane, .int .i64 p.size, .int .i64 p.id] 29)) (.cells #[.int .i64 p.peer, .int .i64 0, (.slice (some ⟨w3.heap.size, 0, none⟩) 1 1)] 82)) ((World.ownsRow_lit w3 _ 1 (Nat.le_refl _) (by unfold maxLen; omega) rfl).alloc _) (Nat.le_refl _) (by omega) (by have := Z2.out; have := T3.out.size; omega) ho5 hg5 hat5)
         have hg5' := (g_alloc (g_alloc (g_refl w3 (Value.ownBlock (.slice A2 fs.length c2))) (.cells #[.int .i64 p.peer, .int .i64 p.lane, .int .i64 p.size, .int .i64 p.id] 29)) (.cells #[.int .i64 p.peer, .int .i64 0, (.slice (some ⟨w3.heap.size, 0, none⟩) 1 1)] 82)).trans hg5
         have hw1 : w.heap.size + 3 ≤ w1b.heap.size := (by have := blk_lt (fm_blk F1b.out 2 rfl); omega)
         have F5 := Lib.hid (fm_grownO F3.out hg5' fun b e => ⟨by have := (D3.out.row.lt b e).1; omega, bx3p_hi (by have := (D3.out.row.lt b e).1; omega)⟩)
         have B5 := Lib.hid (blk_grownQ B3.out hg5' fun e => by have := (D2.out.row.lt _ e.symm).2; omega)
         have AT := Lib.hid (show ∀ b, Value.ownBlock (.slice A5 (fs.length + 1) c5) = some b → b ≠ w2.heap.size from fun b e => (by
           rcases hat5 with h | h
           · have := (D2.out.row.lt b (h.symm.trans e)).2; omega
           · rw [h] at e; injection e with e; simp at e; omega))
         clear hg5 hat5 ho5 hg5' l0 l1 lf0 lf1 o0 o1 of0 of1
         obtain ⟨l0, l1, lf0, lf1⟩ := blk_two B5.out
         obtain ⟨o0, o1, of0, of1⟩ := blk_two (fm_blk F5.out 2 rfl)
         have zR5 := blk_lt B5.out
         have zo5 := blk_lt (fm_blk F5.out 2 rfl)
         have zw2 : w1b.heap.size ≤ w2.heap.size := Z2.out
         have zn : w.heap.size + 1 + 1 < w2.heap.size := by omega
         have zn1 : ¬ w2.heap.size = w.heap.size + 1 + 1 := by omega
         have zn2 : ¬ w2.heap.size = w.heap.size + 2 := by omega))
    have zw2 : w1b.heap.size ≤ w2.heap.size := Z2.out
    have zn : w.heap.size + 2 < w2.heap.size := by omega
    refine bodyPost_ret (v := .tuple #[.agg #[.int .i64 q, (.slice A5 (fs.length + 1) c5)], .bool true]) (by simp [results, Try.results120, go_sem, o0, o1]) rfl ⟨_, _, _, hs2 ++ [⟨p.peer, 0, some ⟨w3.heap.size, 0, none⟩, 1, 1⟩], rfl, ?_, ?_⟩
    · rw [HJ.out]
      refine do_mono (lo := w1b.heap.size) ?_ (by omega)
      iterate 2 (with_reducible refine do_far ?_ (by simp <;> omega) _)
      exact do_ne D5.out (fun b e => by have := AT.out b e; simpa using this) (fun j h hj b e => by
        rcases Nat.lt_or_ge j hs2.length with hlt | hge
        · rw [List.getElem?_append_left hlt] at hj
          have := ((D2.out.all j h _ hj (List.getElem?_eq_getElem (by rw [← D2.out.len]; exact hlt))).2.2.2.1.lt b e).2
          simp; omega
        · rw [List.getElem?_append_right hge] at hj
          have h0 : j - hs2.length = 0 := by
            rcases Nat.eq_zero_or_pos (j - hs2.length) with e0 | e0
            · exact e0
            · rw [List.getElem?_eq_none (by simp; omega)] at hj; cases hj
          rw [h0] at hj
          obtain rfl : (⟨p.peer, 0, some ⟨w3.heap.size, 0, none⟩, 1, 1⟩ : Fh) = h := Option.some.inj hj
          have e' : w3.heap.size = b := Option.some.inj e
          simp; omega) _
    · iterate 3 (with_reducible refine Below.setCell ?_ (by simp <;> omega) _)
      exact F5.out.below
end Go.Proofs.Ytkmoiphcpmhacaa
namespace Go.Proofs.Ytkmoiphcpmhacaa
open Go.RowKit

def Sml (m : Nat) (fs : List Flw) : Prop := fs.length ≤ m ∧ ∀ f ∈ fs, f.ws.length ≤ m
/-- a drawn robin with at most m flows, each of at most m packets -/
def RDraw (w : World) (g q m : Nat) (e : Ending) (w' : World) : Prop :=
  ∃ x A n c fs, e = .returned (.agg #[.int .i64 x, (.slice A n c)]) ∧ Sml m fs ∧ FRX w' (fun b => w.heap.size ≤ b) A n fs ∧ w.grownBy w' (some g) ∧ RdAt w' g q
def RVN (q : Int) (fs : List Flw) : Prop := RV q fs ∨ fs = []
theorem rvn_sml {q : Int} {fs : List Flw} (h : RVN q fs) : Sml 64 fs := by
  rcases h with h | rfl
  · exact ⟨by have := rv_len h; omega, fun f hf => (ok_of (h.all f hf).ok).1⟩
  · exact ⟨by simp, fun f hf => by cases hf⟩
theorem frx_nil (w : World) (X : Nat → Prop) (A : Option Addr) : FRX w X A 0 [] := ⟨[], hr_nil _ _, fun h => absurd h (by omega), wl_nil, by omega⟩
structure RLD (w : World) (g Q L : Nat) (x : Int) (A : Option Addr) (m c : Nat) (fs : List Flw) (wr : World) : Prop where
  out : Blk wr w.heap.size 37 #[.int .i64 0, .slice none 0 0]
  l : Blk wr L 37 #[.int .i64 x, .slice A m c]
  fx : FRX wr (fun b => L < b) A m fs
  gr : w.grownBy wr (some g)
  rd : RdAt wr g Q
  hg : g < w.heap.size
  hL : w.heap.size < L
theorem rld_drew {w wr : World} {g Q L : Nat} {x : Int} {A : Option Addr} {m c : Nat} {fs : List Flw} (h : RLD w g Q L x A m c fs wr) : RLD w g Q L x A m c fs wr.drew :=
  ⟨h.out, h.l, frx_drew h.fx, ⟨h.gr.os, h.gr.tape, h.gr.output, h.gr.size, h.gr.block⟩, h.rd, h.hg, h.hL⟩
theorem rld_grown {w w1 w2 : World} {g Q Q2 L : Nat} {x : Int} {A : Option Addr} {m c : Nat} {fs : List Flw} (h : RLD w g Q L x A m c fs w1) (hg : w1.grownBy w2 (some g)) (hr : RdAt w2 g Q2) : RLD w g Q2 L x A m c fs w2 :=
  ⟨blk_grown h.out hg (by have := h.hg; omega), blk_grown h.l hg (by have := h.hg; have := h.hL; omega), frx_grown h.fx hg (fun b hb e => by injection e with e; have := h.hg; have := h.hL; omega), h.gr.trans hg, hr, h.hg, h.hL⟩
/-- a call that makes a robin of its own, then the store of it -/
theorem rld_next {w wr w2 : World} {g Q L : Nat} {x x2 : Int} {A A2 : Option Addr} {m c m2 c2 : Nat} {fs fs2 : List Flw}
    (h : RLD w g Q L x A m c fs wr) (hb : Below wr.heap.size wr w2) (hf : FRX w2 (fun b => wr.heap.size ≤ b) A2 m2 fs2) :
    RLD w g Q L x2 A2 m2 c2 fs2 ((w2.setCell ⟨L, 0, none⟩ (.int .i64 x2)).setCell ⟨L, 1, none⟩ (.slice A2 m2 c2)) := by
  have hlt := blk_lt h.l
  have hL := h.hL
  have hg := h.hg
  refine ⟨blk_far (blk_far (blk_below h.out hb (blk_lt h.out)) (by simp; omega) _) (by simp; omega) _, blk_set (blk_set (blk_below h.l hb hlt) 0 _) 1 _,
    frx_set (frx_set (frx_mono hf fun b hb => by omega) (by simp) _) (by simp) _, g_set (g_set (g_below h.gr hb) (.inr (by simp; omega)) _) (.inr (by simp; omega)) _,
    rd_set (rd_set (rd_below h.rd hb) (by simp; omega) _) (by simp; omega) _, hg, hL⟩
theorem rld_cells {w wr : World} {g Q L : Nat} {x : Int} {A : Option Addr} {m c : Nat} {fs : List Flw} (h : RLD w g Q L x A m c fs wr) : (wr.cell? ⟨L, 0, none⟩ = some (.int .i64 x) ∧ wr.cell? ⟨L, 1, none⟩ = some (.slice A m c)) ∧ wr.frozen? ⟨L, 0, none⟩ = false ∧ wr.frozen? ⟨L, 1, none⟩ = false := by
  obtain ⟨l0, l1, g0, g1⟩ := blk_two h.l
  exact ⟨⟨l0, l1⟩, g0, g1⟩
theorem lists_step {w1 w2 w3 w4 : World} {g q n : Nat} {v : Value} {ps : List Pkt} (hg : g < w1.heap.size) (h1 : w1.grownBy w2 (some g)) (ho : w2.ownsRow w1.heap.size 29 4 v n (pcells ps)) (h2 : w2.grownBy w3 (some g)) (hr : RdAt w3 g q) (h3 : w3.grownBy w4 v.ownBlock) :
    w1.grownBy w4 (some g) ∧ RdAt w4 g q := by
  rcases hv : v.ownBlock with _ | j
  · rw [hv] at h3
    exact ⟨g_none (h1.trans h2) h3, rd_below hr ⟨h3.os, h3.tape, h3.output, h3.size, fun i hi => h3.block i hi (by simp)⟩⟩
  · rw [hv] at h3
    have := (ho.lt j hv).1
    exact ⟨g_new (h1.trans h2) h3 this, rd_new hr h3 (by omega)⟩
/-- one call in both cases -/
def JnAny (w : World) (q : Int) (fs : List Flw) (e : Ending) (w' : World) : Prop :=
  ∃ x A n c fs' ok, e = .returned (.tuple #[.agg #[.int .i64 x, (.slice A n c)], .bool ok]) ∧ (RVN q fs → RVN x fs') ∧ FRX w' (fun b => w.heap.size ≤ b) A n fs' ∧ Below w.heap.size w w'
theorem jnS_any (q : Int) (A : Option Addr) (n c : Nat) (fs : List Flw) (p : Pkt) (w : World) (h : FR w A n fs) :
    Calls Try.prog 120 #[.agg #[.int .i64 q, (.slice A n c)], .agg #[.int .i64 p.peer, .int .i64 p.lane, .int .i64 p.size, .int .i64 p.id]] w (JnAny w q fs) := by
  by_cases hk : joinOk q fs p
  · refine (jnS_yes q A n c fs p w h hk).mono ?_
    rintro e w' ⟨A2, n2, c2, hs, rfl, hD, hb⟩
    have hc := do_cap hD
    have h9 := rv_len (rv_join hk)
    exact ⟨q, A2, n2, c2, _, true, rfl, fun _ => .inl (rv_join hk), frx_mono (do_frx hD (by omega)) (fun b hb => hb.1), hb⟩
  · refine (jnS_no q A n c fs p w h hk).mono ?_
    rintro e w' ⟨rfl, hb⟩
    exact ⟨0, none, 0, 0, [], false, rfl, fun _ => .inr rfl, frx_nil _ _ _, hb⟩
def RDRel (w : World) (g Q L : Nat) (Al : Option Addr) (nl cl : Nat) (ps : List Pkt) (i : Value) (wr : World) : Prop :=
  ∃ (k : Nat) (x : Int) (A : Option Addr) (m c : Nat) (fs : List Flw), k ≤ nl ∧ i = .int .i64 (k : Int) ∧ RVN x fs ∧ wr.ownsRow (L + 1) 29 4 (.slice Al nl cl) nl (pcells ps) ∧ RLD w g Q L x A m c fs wr
def RDRel2 (w : World) (g Q L : Nat) (i : Value) (wr : World) : Prop :=
  ∃ (k : Nat) (x : Int) (A : Option Addr) (m c : Nat) (fs : List Flw), k ≤ 9 ∧ i = .int .i64 (k : Int) ∧ RVN x fs ∧ RLD w g Q L x A m c fs wr
theorem q_in {x : Int} (h : x ∈ [50, 10, 100, 30, 500, 1]) : RV x [] := by
  simp only [List.mem_cons, List.not_mem_nil, or_false] at h
  exact ⟨by omega, by omega, fun f hf => by (cases hf), List.Pairwise.nil⟩
set_option maxHeartbeats 4000000 in
theorem l5Draw_any (g q : Nat) (w : World) (h : RdAt w g q) (hq : q ≤ 600000) :
    Calls Try.prog 108 #[.pointer (some ⟨g, 0, none⟩)] w (RDraw w g (q + 90) 64) := by
  have hg := rd_lt h
  go_enter Try.func108, Try.ntmps108
  go_wp2_with fail
  refine (num_lit g q _ 6 _ _ [50, 10, 100, 30, 500, 1] _ (rd_alloc h _) (by omega) (by simp) (by decide) rfl).mono ?_
  rintro e w1 ⟨x0, hx, rfl, hg1, hr1⟩
  have HL := Lib.hid (q_in hx)
  have hz1 := hg1.size
  have G1 := Lib.hid ((g_alloc (g_refl w (some g)) (.cells #[.int .i64 0, (.slice none 0 0)] 37)).trans hg1)
  have O1 := Lib.hid (blk_grown (blk_new w 37 #[.int .i64 0, (.slice none 0 0)]) hg1 (by omega))
  have HR1 := Lib.hid hr1
  clear hx hg1 h hr1
  simp at hz1
  have L1 : Hid (RLD w g (q + 1) (w1.heap.size + 1) x0 (some ⟨w1.heap.size, 0, none⟩) 0 0 [] ((w1.alloc (.cells #[] 82)).alloc (.cells #[.int .i64 x0, (.slice (some ⟨w1.heap.size, 0, none⟩) 0 0)] 37))) := Lib.hid
    ⟨blk_alloc (blk_alloc O1.out _) _, blk_new2 w1 _ _ _, frx_nil _ _ _, g_alloc (g_alloc G1.out _) _, rd_alloc (rd_alloc HR1.out _) _, hg, by omega⟩
  clear G1 O1 HR1
  go_wp2_with fail
  refine (l1List_any g _ _ L1.out.rd (by omega)).mono ?_
  rintro e w2 ⟨v, nl1, ps1, rfl, hn1, -, ho1, hgr1, hr2⟩
  obtain ⟨A1, c1, rfl, -, -, -⟩ := own_form ho1
  have HO1 := Lib.hid ho1
  have HG1 := Lib.hid hgr1
  have HR2 := Lib.hid hr2
  have hz2 := hgr1.size
  simp at hz2
  clear ho1 hgr1 hr2
  go_wp2_with fail
  refine (l1List_any g _ _ HR2.out (by omega)).mono ?_
  rintro e w3 ⟨v, nl2, ps2, rfl, hn2, -, ho2, hgr2, hr3⟩
  obtain ⟨A2, c2, rfl, -, -, -⟩ := own_form ho2
  have hz3 := hgr2.size
  have hk1 := HO1.out.kept hgr2 (own_block_none HO1.out (by simp; omega))
  go_wp2_with (at_builtin; refine wpl_app_pkts _ rfl (.tmp 13) (.tmp 15) rfl _ (.slice A1 nl1 c1) nl1 ps1 rfl hk1 A2 nl2 c2 ps2 rfl (pr_own ho2) (by omega) (by simp; omega) ?_; intro v4 w4 ho4 hg4 hat4; obtain ⟨Al, cl, rfl, -, -, -⟩ := own_form ho4; have HS := Lib.hid (lists_step (by simp; omega) HG1.out HO1.out hgr2 hr3 hg4); have HO4 := Lib.hid ho4; clear hg4 hat4 ho4)
  have hnl : nl1 + nl2 ≤ 18 := by omega
  generalize nl1 + nl2 = nl at HO4 hnl ⊢
  have R0 : Hid (RDRel w g (q + 1 + 40 + 40) (w1.heap.size + 1) Al nl cl (ps1 ++ ps2) (.int .i64 0) w4) := Lib.hid
    ⟨0, _, _, _, _, _, Nat.zero_le _, rfl, .inl HL.out, by simpa using HO4.out, rld_grown L1.out HS.out.1 HS.out.2⟩
  clear L1 HS HO4 HO1 HG1 HR2 hk1 hgr2 hr3 ho2 HL
  go_wp2_with fail
  go_loopw [5] (fun i wr => RDRel w g (q + 1 + 40 + 40) (w1.heap.size + 1) Al nl cl (ps1 ++ ps2) i wr) (fun i _ => nl - (intOf i).toNat)
  case atStart => exact R0.out
  case round =>
    obtain ⟨k, x, A, m, c, cur, hk, rfl, hcur, hlst, hD⟩ := hrel
    clear R0
    have HD := Lib.hid hD
    have HC := Lib.hid hcur
    have HLs := Lib.hid hlst
    by_cases hlt : k < nl
    · obtain ⟨b, off, p, rfl, hb, hp, d0, d1, d2, d3⟩ := pr_at (pr_own hlst) hlt
      obtain ⟨⟨l0, l1⟩, g0, g1⟩ := rld_cells hD
      have k0 : (0 : Int) ≤ (k : Int) := by omega
      have k1 : (k : Int) < (nl : Int) := by omega
      clear hD hcur hp hlst
      go_wp2_with fail
      have HDd := Lib.hid (rld_drew HD.out)
      have HLd := Lib.hid (World.ownsRow.drew HLs.out)
      go_region_with (go_at_call 120; refine (jnS_any x A m c cur p _ (frx_fr HDd.out.fx)).mono ?_; rintro e w5 ⟨x5, A5, m5, c5, fs5, ok5, rfl, hv5, hf5, hb5⟩; have HN := Lib.hid (rld_next (c2 := c5) (x2 := x5) HDd.out hb5 hf5); have HV := Lib.hid hv5; have HB := Lib.hid (own_below HLd.out hb5); obtain ⟨n0, n1, h0, h1⟩ := blk_two (blk_below HDd.out.l hb5 (blk_lt HDd.out.l)); clear hb5 hf5 hv5)
      all_goals
        clear d0 d1 d2 d3
        go_wp2
        go_roundw
        case rel => exact ⟨k + 1, _, _, _, _, _, by omega, by go_num, HV.out HC.out, own_set_far (own_set_far HB.out (by simp) _) (by simp) _, HN.out⟩
        case measure => simp [intOf]; omega
    · obtain rfl : k = nl := by omega
      clear hcur hlst hD hk hlt
      go_wp2_with fail
      refine (pick_any g _ _ _ HD.out.rd (by omega) (by omega)).mono ?_
      rintro e w6 ⟨j, rfl, hj, hg6, hr6⟩
      have R2 : Hid (RDRel2 w g (q + 1 + 40 + 40 + 1) (w1.heap.size + 1) (.int .i64 (j : Int)) w6) := Lib.hid ⟨j, _, _, _, _, _, by omega, rfl, HC.out, rld_grown HD.out hg6 hr6⟩
      clear HC HD HLs hg6 hr6 hj
      go_wp2_with fail
      go_loopw [6] (fun i wr => RDRel2 w g (q + 1 + 40 + 40 + 1) (w1.heap.size + 1) i wr) (fun i _ => (intOf i).toNat)
      case atStart => exact R2.out
      case round =>
        obtain ⟨k, x, A, m, c, cur, hk9, rfl, hcur, hD⟩ := hrel
        clear R2
        have HD := Lib.hid hD
        have HC := Lib.hid hcur
        obtain ⟨⟨l0, l1⟩, g0, g1⟩ := rld_cells hD
        obtain ⟨o0, o1, f0, f1⟩ := blk_two hD.out
        have hlen := (fr_lenF (frx_fr hD.fx)).1
        clear hD
        by_cases hgo : 0 < k ∧ 0 < m
        · obtain ⟨hk0, hm0⟩ := hgo
          have hne : cur ≠ [] := fun e => by rw [e] at hlen; simp at hlen; omega
          have hrv := Lib.hid (hcur.resolve_right hne)
          clear hcur
          have kk : decide ((k : Int) > 0) = true := decide_eq_true (by omega)
          have mm : decide ((m : Int) > 0) = true := decide_eq_true (by omega)
          go_wp2_with (go_at_call 94; refine (nextS_any x A m c cur _ (frx_fr HD.out.fx) hrv.out hne).mono ?_; rintro e w7 ⟨A7, m7, c7, rfl, hf7, hb7⟩; have HN := Lib.hid (rld_next (c2 := c7) (x2 := x) HD.out hb7 (frx_mono hf7 fun b hb => hb.resolve_left id)); obtain ⟨n0, n1, h0, h1⟩ := blk_two (blk_below HD.out.l hb7 (blk_lt HD.out.l)); clear hb7 hf7 l0 l1 g0 g1 o0 o1 f0 f1)
          go_roundw
          case rel =>
            obtain ⟨f9, r9, p9, ws9, N9⟩ := nexted_is hrv.out hne
            exact ⟨k - 1, _, _, _, _, _, by omega, by rw [Int.ofNat_sub (by omega)]; rfl, .inl N9.rv, HN.out⟩
          case measure => simp [intOf]; omega
        · have kk : (decide ((k : Int) > 0) && decide ((m : Int) > 0)) = false := by simp; omega
          clear hcur
          rcases Nat.eq_zero_or_pos k with rfl | hk0
          · go_wp2
            refine bodyPost_ret (v := .agg #[.int .i64 x, (.slice A m c)]) (by simp [results, Try.results108, go_sem, o0, o1]) rfl ⟨x, A, m, c, cur, rfl, rvn_sml HC.out, ?_, ?_, ?_⟩
            · exact frx_mono (frx_set (frx_set HD.out.fx (by simp; omega) _) (by simp; omega) _) fun b hb => by omega
            · exact g_set (g_set HD.out.gr (.inr (by simp)) _) (.inr (by simp)) _
            · exact rd_more (rd_set (rd_set HD.out.rd (by simp; omega) _) (by simp; omega) _) (by omega)
          · obtain rfl : m = 0 := by omega
            have k2 : decide ((k : Int) > 0) = true := decide_eq_true (by omega)
            go_wp2
            refine bodyPost_ret (v := .agg #[.int .i64 x, (.slice A 0 c)]) (by simp [results, Try.results108, go_sem, o0, o1]) rfl ⟨x, A, 0, c, cur, rfl, rvn_sml HC.out, ?_, ?_, ?_⟩
            · exact frx_mono (frx_set (frx_set HD.out.fx (by simp; omega) _) (by simp; omega) _) fun b hb => by omega
            · exact g_set (g_set HD.out.gr (.inr (by simp)) _) (.inr (by simp)) _
            · exact rd_more (rd_set (rd_set HD.out.rd (by simp; omega) _) (by simp; omega) _) (by omega)
end Go.Proofs.Ytkmoiphcpmhacaa
namespace Go.Proofs.Ytkmoiphcpmhacaa
open Go.RowKit

theorem sml_mono {m k : Nat} {fs : List Flw} (h : Sml m fs) (hk : m ≤ k) : Sml k fs := ⟨Nat.le_trans h.1 hk, fun f hf => Nat.le_trans (h.2 f hf) hk⟩
theorem sml_set {m k : Nat} {fs : List Flw} {f : Flw} (h : Sml m fs) (hf : f.ws.length ≤ m + 1) : Sml (m + 1) (fs.set k f) :=
  ⟨by rw [List.length_set]; have := h.1; omega, fun x hx => by
    rcases List.mem_or_eq_of_mem_set hx with h1 | rfl
    · have := h.2 x h1; omega
    · exact hf⟩
theorem sml_snoc {m : Nat} {fs : List Flw} {f : Flw} (h : Sml m fs) (hf : f.ws.length ≤ m + 1) : Sml (m + 1) (fs ++ [f]) :=
  ⟨by have := h.1; simp; omega, fun x hx => by
    rcases List.mem_append.1 hx with h1 | h1
    · have := h.2 x h1; omega
    · simp at h1; subst h1; exact hf⟩
/-- one flow's deficit is written -/
theorem do_dfc {w : World} {lo g n c k : Nat} {hs : List Fh} {fs : List Flw} {h : Fh} {f : Flw} (x : Int) (D : DO w lo (.slice (some ⟨g, 0, none⟩) n c) n hs fs) (hk : hs[k]? = some h) (hf : fs[k]? = some f) :
    DO (w.setCell ⟨g, k * 3 + 1, none⟩ (.int .i64 x)) lo (.slice (some ⟨g, 0, none⟩) n c) n (hs.set k ⟨h.peer, x, h.A, h.n, h.c⟩) (fs.set k ⟨f.peer, x, f.ws⟩) := by
  have hlk : k < hs.length := by
    rcases Nat.lt_or_ge k hs.length with hlt | hge
    · exact hlt
    · rw [List.getElem?_eq_none hge] at hk; cases hk
  have hget : ∀ (j : Nat) (q : Fh), (hs.set k ⟨h.peer, x, h.A, h.n, h.c⟩)[j]? = some q → ∃ q0, hs[j]? = some q0 ∧ q.sl = q0.sl ∧ q.n = q0.n ∧ q.peer = q0.peer ∧ (j ≠ k → q.dfc = q0.dfc) ∧ (j = k → q.dfc = x) := by
    intro j q e
    by_cases hjk : k = j
    · subst hjk
      rw [List.getElem?_set_self hlk] at e
      obtain rfl := Option.some.inj e
      exact ⟨h, hk, rfl, rfl, rfl, fun e => absurd rfl e, fun _ => rfl⟩
    · rw [List.getElem?_set_ne hjk] at e
      exact ⟨q, e, rfl, rfl, rfl, fun _ => rfl, fun e => absurd e.symm hjk⟩
  refine ⟨?_, by rw [List.length_set, List.length_set]; exact D.len, fun j q f' h1 h2 => ?_, fun i j q q2 hij h1 h2 b hb1 hb2 => ?_⟩
  · have h1 := (D.row.stored (k * 3 + 1) (.int .i64 x)).1
    rw [fcells_set1 hs k h x hk] at h1
    exact h1
  · obtain ⟨q0, hq0, e1, e2, e3, e4, e5⟩ := hget j q h1
    have far : ∀ {u : Value} {m : Nat} {xs : List Value}, w.ownsRow lo 29 4 u m xs → (∀ b, u.ownBlock = some b → Value.ownBlock (.slice (some ⟨g, 0, none⟩) n c) ≠ some b) → (w.setCell ⟨g, k * 3 + 1, none⟩ (.int .i64 x)).ownsRow lo 29 4 u m xs := fun h1 h2 => own_set_ne (p := ⟨g, k * 3 + 1, none⟩) h1 (fun e => h2 g e rfl) _
    by_cases hjk : k = j
    · subst hjk
      rw [List.getElem?_set_self (by rw [← D.len]; exact hlk)] at h2
      obtain rfl := Option.some.inj h2
      obtain ⟨a1, a2, a3, a4, a5⟩ := D.all k q0 f hq0 hf
      rw [e1, e2, e3, e5 rfl]
      exact ⟨a1, rfl, a3, far a4 a5, a5⟩
    · rw [List.getElem?_set_ne hjk] at h2
      obtain ⟨a1, a2, a3, a4, a5⟩ := D.all j q0 f' hq0 h2
      rw [e1, e2, e3, e4 fun e => hjk e.symm]
      exact ⟨a1, a2, a3, far a4 a5, a5⟩
  · obtain ⟨q0, hq0, e1, -⟩ := hget i q h1
    obtain ⟨q1, hq1, e2, -⟩ := hget j q2 h2
    rw [e1] at hb1
    rw [e2] at hb2
    exact D.apart i j q0 q1 hij hq0 hq1 b hb1 hb2
structure LWR (w : World) (g L : Nat) (x : Int) (A : Option Addr) (m c : Nat) (hs : List Fh) (fs : List Flw) (wr : World) : Prop where
  out : Blk wr (w.heap.size + 1) 37 #[.int .i64 0, .slice none 0 0]
  l : Blk wr L 37 #[.int .i64 x, .slice A m c]
  fl : DO wr (w.heap.size + 2) (.slice A m c) m hs fs
  sep : ∀ b, Value.ownBlock (.slice A m c) = some b → b ≠ L
  seps : ∀ (j : Nat) (h : Fh), hs[j]? = some h → ∀ b, h.sl.ownBlock = some b → b ≠ L
  gr : w.grownBy wr (some g)
  hg : g < w.heap.size
  hL : w.heap.size + 1 < L
theorem do_lo {w : World} {lo : Nat} {v : Value} {n : Nat} {hs : List Fh} {fs : List Flw} (D : DO w lo v n hs fs) : (∀ b, v.ownBlock = some b → lo ≤ b ∧ b < w.heap.size) ∧ ∀ (k : Nat) (h : Fh), hs[k]? = some h → ∀ b, h.sl.ownBlock = some b → lo ≤ b ∧ b < w.heap.size :=
  ⟨fun b e => D.row.lt b e, fun k h hk b e => by
    have hlk : k < hs.length := by
      rcases Nat.lt_or_ge k hs.length with hlt | hge
      · exact hlt
      · rw [List.getElem?_eq_none hge] at hk; cases hk
    exact (D.all k h _ hk (List.getElem?_eq_getElem (by rw [← D.len]; exact hlk))).2.2.2.1.lt b e⟩
theorem lwr_grown {w w1 w2 : World} {g L : Nat} {x : Int} {A : Option Addr} {m c : Nat} {hs : List Fh} {fs : List Flw} (h : LWR w g L x A m c hs fs w1) (hg : w1.grownBy w2 (some g)) : LWR w g L x A m c hs fs w2 :=
  have h0 := h.hg
  have hL := h.hL
  ⟨blk_grown h.out hg (by omega), blk_grown h.l hg (by omega), do_grown h.fl hg (fun b e e2 => by injection e with e; have := (do_lo h.fl).1 b e2; omega) (fun k q hk b e e2 => by injection e with e; have := (do_lo h.fl).2 k q hk b e2; omega), h.sep, h.seps, h.gr.trans hg, h.hg, h.hL⟩
theorem lwr_drew {w w1 : World} {g L : Nat} {x : Int} {A : Option Addr} {m c : Nat} {hs : List Fh} {fs : List Flw} (h : LWR w g L x A m c hs fs w1) : LWR w g L x A m c hs fs w1.drew :=
  ⟨h.out, h.l, do_below h.fl (Below.refl _ _).drew, h.sep, h.seps, ⟨h.gr.os, h.gr.tape, h.gr.output, h.gr.size, h.gr.block⟩, h.hg, h.hL⟩
theorem lwr_alloc {w w1 : World} {g L : Nat} {x : Int} {A : Option Addr} {m c : Nat} {hs : List Fh} {fs : List Flw} (h : LWR w g L x A m c hs fs w1) (o : Obj) : LWR w g L x A m c hs fs (w1.alloc o) :=
  ⟨blk_alloc h.out o, blk_alloc h.l o, do_alloc h.fl o, h.sep, h.seps, g_alloc h.gr o, h.hg, h.hL⟩
theorem lwr_cells {w w1 : World} {g L : Nat} {x : Int} {A : Option Addr} {m c : Nat} {hs : List Fh} {fs : List Flw} (h : LWR w g L x A m c hs fs w1) : w1.cell? ⟨L, 0, none⟩ = some (.int .i64 x) ∧ w1.cell? ⟨L, 1, none⟩ = some (.slice A m c) := ⟨blk_cell h.l 0, blk_cell h.l 1⟩
/-- the boxes and the source, when a row that the robin owns has grown -/
theorem lwr_app {w w5 w6 : World} {g Q L : Nat} {x : Int} {A : Option Addr} {m c : Nat} {hs : List Fh} {fs : List Flw} {row : Option Nat} {o : Obj} (h : LWR w g L x A m c hs fs w5) (hr : RdAt w5 g Q) (h6 : (w5.alloc o).grownBy w6 row)
    (hrow : ∀ b, row = some b → w.heap.size + 2 ≤ b ∧ b ≠ L) :
    Blk w6 L 37 #[.int .i64 x, .slice A m c] ∧ Blk w6 (w.heap.size + 1) 37 #[.int .i64 0, .slice none 0 0] ∧ w.grownBy w6 (some g) ∧ RdAt w6 g Q := by
  have h0 := h.hg
  refine ⟨blk_grownQ (blk_alloc h.l o) h6 (fun e => (hrow _ e.symm).2 rfl), blk_grownQ (blk_alloc h.out o) h6 (fun e => by have := hrow _ e.symm; omega), ?_, ?_⟩
  · rcases row with _ | j
    · exact g_none (g_alloc h.gr o) h6
    · exact g_new (g_alloc h.gr o) h6 (by have := hrow j rfl; omega)
  · rcases row with _ | j
    · exact rd_below (rd_alloc hr o) ⟨h6.os, h6.tape, h6.output, h6.size, fun i hi => h6.block i hi (by simp)⟩
    · exact rd_new (rd_alloc hr o) h6 (by have := hrow j rfl; omega)
theorem lwr_end {w wr : World} {g Q n c : Nat} {A : Option Addr} {hs : List Fh} {fs : List Flw} (u v : Value) (D : DO wr (w.heap.size + 2) (.slice A n c) n hs fs) (hn : n ≤ 4000000000) (gr : w.grownBy wr (some g)) (rd : RdAt wr g Q) (hg : g < w.heap.size) :
    FRX ((wr.setCell ⟨w.heap.size + 1, 0, none⟩ u).setCell ⟨w.heap.size + 1, 1, none⟩ v) (fun b => w.heap.size ≤ b) A n fs ∧ w.grownBy ((wr.setCell ⟨w.heap.size + 1, 0, none⟩ u).setCell ⟨w.heap.size + 1, 1, none⟩ v) (some g) ∧ RdAt ((wr.setCell ⟨w.heap.size + 1, 0, none⟩ u).setCell ⟨w.heap.size + 1, 1, none⟩ v) g Q :=
  ⟨frx_mono (do_frx (do_far (do_far D (by simp) _) (by simp) _) hn) (fun b hb => by omega), g_set (g_set gr (.inr (by simp)) _) (.inr (by simp)) _, rd_set (rd_set rd (by simp; omega) _) (by simp; omega) _⟩
end Go.Proofs.Ytkmoiphcpmhacaa
namespace Go.Proofs.Ytkmoiphcpmhacaa
open Go.RowKit

def DrawnR (w : World) (e : Ending) (w' : World) : Prop :=
  ∃ x A n c fs, e = .returned (.agg #[.int .i64 x, (.slice A n c)]) ∧ Sml 80 fs ∧ FRX w' (fun b => w.heap.size ≤ b) A n fs ∧ Below w.heap.size w w'
def DrawnRi (w : World) (e : Ending) (w' : World) : Prop :=
  ∃ x A n c fs, ∃ k : Int, e = .returned (.tuple #[.agg #[.int .i64 x, (.slice A n c)], .int .i64 k]) ∧ (-1 ≤ k ∧ k ≤ 1000) ∧ Sml 80 fs ∧ FRX w' (fun b => w.heap.size ≤ b) A n fs ∧ Below w.heap.size w w'
def DrawnRp (w : World) (e : Ending) (w' : World) : Prop :=
  ∃ x A n c fs, ∃ p : Pkt, e = .returned (.tuple #[.agg #[.int .i64 x, (.slice A n c)], .agg #[.int .i64 p.peer, .int .i64 p.lane, .int .i64 p.size, .int .i64 p.id]]) ∧ Sml 80 fs ∧ FRX w' (fun b => w.heap.size ≤ b) A n fs ∧ Below w.heap.size w w'
def DrawnRR (w : World) (e : Ending) (w' : World) : Prop :=
  ∃ x A n c fs, ∃ x2 A2 n2 c2 fs2, e = .returned (.tuple #[.agg #[.int .i64 x, (.slice A n c)], .agg #[.int .i64 x2, (.slice A2 n2 c2)]]) ∧ Sml 80 fs ∧ Sml 80 fs2 ∧ FRX w' (fun b => w.heap.size ≤ b) A n fs ∧ FRX w' (fun b => w.heap.size ≤ b) A2 n2 fs2 ∧ Below w.heap.size w w'
theorem frx_old {w : World} {X : Nat → Prop} {A : Option Addr} {n : Nat} {fs : List Flw} (h : FRX w X A n fs) : FRX w (fun b => X b ∧ b < w.heap.size) A n fs := by
  obtain ⟨hs, h1, h2, h3, h4⟩ := h
  refine ⟨hs, h1, fun hn b hb => ⟨h2 hn b hb, hr_old h1 hn b hb⟩, ⟨h3.1, fun k q f e1 e2 => ?_⟩, h4⟩
  have W := h3.2 k q f e1 e2
  exact ⟨W.peer, W.dfc, W.pr, W.cap, W.few, fun hn b hb => ⟨W.far hn b hb, pr_old W.pr hn b hb⟩⟩
theorem blk_fourD {w : World} {b : Nat} {t : TypeId} {x y z u : Value} (h : Blk w b t #[x, y, z, u]) : (w.cell? ⟨b, 0, none⟩ = some x ∧ w.cell? ⟨b, 1, none⟩ = some y ∧ w.cell? ⟨b, 2, none⟩ = some z ∧ w.cell? ⟨b, 3, none⟩ = some u) ∧ w.frozen? ⟨b, 0, none⟩ = false ∧ w.frozen? ⟨b, 1, none⟩ = false ∧ w.frozen? ⟨b, 2, none⟩ = false ∧ w.frozen? ⟨b, 3, none⟩ = false :=
  ⟨⟨blk_cell h 0, blk_cell h 1, blk_cell h 2, blk_cell h 3⟩, blk_free h 0, blk_free h 1, blk_free h 2, blk_free h 3⟩
end Go.Proofs.Ytkmoiphcpmhacaa
