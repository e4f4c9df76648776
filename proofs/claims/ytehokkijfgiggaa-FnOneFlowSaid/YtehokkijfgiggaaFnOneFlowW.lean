/-
  The law FnOneFlow returns true at every argument: one flow alone sends its packets in order. Conditions: none.
-/
import Derived.Test.YtehokkijfgiggaaLift
import Derived.Test.YtehokkijfgiggaaRDr
import Derived.Test.YtehokkijfgiggaaC1
import Derived.Test.YtehokkijfgiggaaC1c
import Derived.Test.YtehokkijfgiggaaR3
import Derived.Test.YtehokkijfgiggaaR7S
namespace Go.Proofs.Ytehokkijfgiggaa.fnOneFlow
open Go.ChangeShapes Go.WideShapes Go.ChangeAt Go.RowKit

def oneF (x : Int) : List Pkt → List Flw
  | [] => []
  | p :: r => [⟨x, 0, p :: r⟩]
theorem one_join {x : Int} {ws : List Pkt} {p : Pkt} (hp : p.peer = x) : joinL (oneF x ws) p = oneF x (ws ++ [p]) := by
  subst hp
  cases ws with
  | nil => simp [oneF, joinL, fix]
  | cons q r => simp [oneF, joinL, fix, List.findIdx_cons]
theorem one_w (x : Int) (ws : List Pkt) : wOf (oneF x ws) x = ws := by
  cases ws with
  | nil => rfl
  | cons p r => simp [oneF, wOf]
theorem one_total (x : Int) (ws : List Pkt) : total (oneF x ws) = ws.length := by
  cases ws with
  | nil => rfl
  | cons p r => simp [oneF, total]
theorem one_take {q x : Int} {ws : List Pkt} (h : RV q (oneF x ws)) : takeA q (oneF x ws) = ws := by
  have h1 := takeA_peer x _ h
  have h2 := takeA_len _ h
  rw [one_total] at h2
  rw [one_w] at h1
  unfold ofPeer at h1
  have h3 := (List.filter_sublist (p := fun p : Pkt => p.peer == x) (l := takeA q (oneF x ws))).eq_of_length (by rw [h1, h2])
  rw [← h3, h1]
/-- the packets that wait for one peer, one after the other -/
structure OF (q x : Int) (ps : List Pkt) : Prop where
  rv : ∀ k, RV q (oneF x (ps.take k))
  ok : ∀ p ∈ ps, p.peer = x ∧ vldB p = true
  len : ps.length ≤ 64
theorem of_mk {q x : Int} {fs : List Flw} (h : RV q fs) : OF q x (wOf fs x) := by
  by_cases hlt : fix fs x < fs.length
  · obtain ⟨f, hf, hw, -⟩ := leave_some hlt
    obtain ⟨f', hf', hx⟩ := fix_lt hlt
    obtain rfl : f = f' := Option.some.inj (hf.symm.trans hf')
    have hv := h.all f (List.mem_of_getElem? hf)
    have ho := ok_of hv.ok
    rw [hw]
    refine ⟨fun k => ?_, fun p hp => ⟨(hv.own p hp).trans hx, List.all_eq_true.1 ho.2 p hp⟩, ho.1⟩
    rcases ht : f.ws.take k with _ | ⟨p, r⟩
    · exact rv_nil h.q0 h.q1
    · have hm : ∀ y ∈ p :: r, y ∈ f.ws := fun y hy => List.mem_of_mem_take (by rw [ht]; exact hy)
      have hl : (p :: r).length ≤ 64 := by rw [← ht, List.length_take]; omega
      refine rv_cons (rv_nil h.q0 h.q1) ⟨by rw [← hx]; exact hv.p0, by rw [← hx]; exact hv.p7, Int.le_refl _, by show (0 : Int) < q + 100; have := h.q0; omega, by simp, ok_mk hl (List.all_eq_true.2 fun y hy => List.all_eq_true.1 ho.2 y (hm y hy)), fun y hy => (hv.own y (hm y hy)).trans hx⟩ fun g hg => by simp at hg
  · rw [w_far hlt]
    exact ⟨fun k => by simpa [oneF] using rv_nil h.q0 h.q1, fun p hp => by simp at hp, by simp⟩
theorem of_join {q x : Int} {ps : List Pkt} (h : OF q x ps) {k : Nat} {p : Pkt} (hp : ps[k]? = some p) : joinOk q (oneF x (ps.take k)) p ∧ joinL (oneF x (ps.take k)) p = oneF x (ps.take (k + 1)) := by
  have hm := h.ok p (List.mem_of_getElem? hp)
  have hl : k < ps.length := by
    rcases Nat.lt_or_ge k ps.length with hl | hl
    · exact hl
    · rw [List.getElem?_eq_none hl] at hp; cases hp
  refine ⟨⟨h.rv k, hm.2, ?_⟩, ?_⟩
  · rw [hm.1, one_w, List.length_take]; have := h.len; omega
  · rw [one_join hm.1, List.take_add_one, hp]; rfl
def OfRel (w : World) (q : Int) (x : Int) (ps : List Pkt) (n2 : Nat) (i : Value) (wr : World) : Prop :=
  ∃ (k : Nat) (A : Option Addr) (m c : Nat), k ≤ n2 ∧ i = .int .i64 (k : Int) ∧ FRX wr (fun b => w.heap.size < b) A m (oneF x (ps.take k)) ∧ Blk wr w.heap.size 25 #[.int .i64 q, (.slice A m c)] ∧ Below w.heap.size w wr
def OfS (W : World) (L b off k : Nat) (q : Int) (A : Option Addr) (m c : Nat) (p : Pkt) (wr : World) : Prop :=
  ((wr.cell? ⟨L, 0, none⟩ = some (.int .i64 q) ∧ wr.cell? ⟨L, 1, none⟩ = some (.slice A m c)) ∧ (wr.cell? ⟨b, off + k * 4, none⟩ = some (.int .i64 p.peer) ∧ wr.cell? ⟨b, off + k * 4 + 1, none⟩ = some (.int .i64 p.lane) ∧ wr.cell? ⟨b, off + k * 4 + 2, none⟩ = some (.int .i64 p.size) ∧ wr.cell? ⟨b, off + k * 4 + 3, none⟩ = some (.int .i64 p.id))) ∧ Below W.heap.size W wr
theorem of_hold {W w6 : World} {L b off n2 k m c : Nat} {q : Int} {A : Option Addr} {ps : List Pkt} {p : Pkt} (O : Blk W L 25 #[.int .i64 q, (.slice A m c)]) (P : PR W (some ⟨b, off, none⟩) n2 ps) (hk : k < n2) (hp : ps[k]? = some p) (h : Below W.heap.size W w6) : OfS W L b off k q A m c p w6 := by
  obtain ⟨b', off', p', e, -, hp', hc⟩ := pr_at (pr_below P h) hk
  injection e with e
  injection e with e1 e2
  subst e1
  subst e2
  obtain rfl : p = p' := Option.some.inj (hp.symm.trans hp')
  have O6 := blk_below O h (blk_lt O)
  exact ⟨⟨⟨blk_cell O6 0, blk_cell O6 1⟩, hc⟩, h⟩
theorem snd_of {a b : Prop} (h : a ∧ b) : b := h.2
def OfR (w4 : World) (q x : Int) (ws : List Pkt) (A : Option Addr) (m c : Nat) (s : Value) (wx : World) : Prop :=
  ∃ (L : Nat) (A5 : Option Addr) (m5 c5 : Nat), s = .pointer (some ⟨L, 0, none⟩) ∧ w4.heap.size < L ∧ Blk wx L 25 #[.int .i64 q, (.slice A5 m5 c5)] ∧ Blk wx w4.heap.size 25 #[.int .i64 q, (.slice A m c)] ∧ FRX wx (fun b => w4.heap.size < b) A5 m5 (oneF x ws) ∧ Below w4.heap.size w4 wx
theorem ofr_new {w4 w5 : World} {lo : Nat} {q x : Int} {ws : List Pkt} {A A5 : Option Addr} {m c m5 c5 : Nat} {hs : List Fh} (D : DO w5 lo (.slice A5 m5 c5) m5 hs (oneF x ws)) (hm : m5 ≤ 4000000000) (hlo : w4.heap.size < lo) (O : Blk w5 w4.heap.size 25 #[.int .i64 q, (.slice A m c)]) (B : Below w4.heap.size w4 w5) :
    OfR w4 q x ws A m c (.pointer (some ⟨w5.heap.size, 0, none⟩)) (w5.alloc (.cells #[.int .i64 q, (.slice A5 m5 c5)] 25)) := by
  have z := blk_lt O
  refine ⟨w5.heap.size, A5, m5, c5, rfl, z, blk_new w5 _ _, blk_alloc O _, ?_, below_alloc B _⟩
  refine frx_mono (X := fun b => lo ≤ b ∧ b < w5.heap.size) ?_ fun b hb => by omega
  exact frx_alloc (do_frx D hm) _
theorem ofr_set {w4 w5 : World} {lo L : Nat} {q x : Int} {ws : List Pkt} {A A5 : Option Addr} {m c m5 c5 : Nat} {hs : List Fh} (D : DO w5 lo (.slice A5 m5 c5) m5 hs (oneF x ws)) (hm : m5 ≤ 4000000000) (hL : w4.heap.size < L) (hlo : L < lo) (N : Blk w5 L 25 #[.int .i64 0, (.slice none 0 0)]) (O : Blk w5 w4.heap.size 25 #[.int .i64 q, (.slice A m c)]) (B : Below w4.heap.size w4 w5) :
    OfR w4 q x ws A m c (.pointer (some ⟨L, 0, none⟩)) ((w5.setCell ⟨L, 0, none⟩ (.int .i64 q)).setCell ⟨L, 1, none⟩ (.slice A5 m5 c5)) := by
  refine ⟨L, A5, m5, c5, rfl, hL, blk_set (blk_set N 0 _) 1 _, blk_far (blk_far O (by simp; omega) _) (by simp; omega) _, ?_, Below.setCell (Below.setCell B (by simp; omega) _) (by simp; omega) _⟩
  refine frx_mono (X := fun b => lo ≤ b ∧ b < w5.heap.size) ?_ fun b hb => by omega
  exact frx_set (frx_set (do_frx D hm) (by simp; omega) _) (by simp; omega) _
set_option maxHeartbeats 4000000 in
theorem walk (A : Option Addr) (n c : Nat) (w : World) (h : Bytes w A n c) :
    Calls Try.prog 7 #[.slice A n c] w fun e w' => e = .returned (.bool true) ∧ Below w.heap.size w w' := by
  have HB := Lib.hid h
  clear h
  by_cases hbig : ¬ n ≤ 1048576
  · go_enter Try.func7, Try.ntmps7
    go_wp2
    go_ret
    exact ⟨rfl, Below.refl _ _⟩
  have hbig' : n ≤ 1048576 := by omega
  clear hbig
  go_enter Try.func7, Try.ntmps7
  go_wp2_with fail
  refine (drawWaitingOf_any A n c _ HB.out).mono ?_
  rintro e w1 ⟨x1, A1, n1, c1, fs, x, rfl, -, -, hf, hb⟩
  obtain ⟨hc1, hf1⟩ := bcell hb
  have B1 := Lib.hid (show Below w.heap.size w w1 from (by first | exact below_seq (Below.refl w.heap.size w) hb | exact below_seq1 (Below.refl w.heap.size w) hb | exact below_seq2 (Below.refl w.heap.size w) hb | exact below_seq3 (Below.refl w.heap.size w) hb | exact below_seq4 (Below.refl w.heap.size w) hb))
  have R1 := Lib.hid hb
  have hz1 := hb.size
  try simp at hz1
  clear hb
  have H := Lib.hid (frx_fr hf)
  clear hf
  by_cases hk : LvOk x1 fs x
  · have HK := Lib.hid hk
    have HOF := Lib.hid (of_mk (x := x) hk.1)
    obtain ⟨ps, hps⟩ : ∃ ps, ps = wOf fs x := ⟨_, rfl⟩
    rw [← hps] at HOF
    have HPs := Lib.hid hps
    have l64 := HOF.out.len
    clear hk hps
    go_wp2_with fail
    refine (woI_yes x1 A1 n1 c1 fs x _ (by first | with_reducible exact H.out | with_reducible exact fr_allocF H.out _ | with_reducible exact fr_allocF (fr_allocF H.out _) _ | with_reducible exact fr_allocF (fr_allocF (fr_allocF H.out _) _) _) HK.out).mono ?_
    rintro e w2 ⟨A2, n2, c2, rfl, hn2, ho2, hb⟩
    obtain ⟨hc2, hf2⟩ := bcell hb
    have B2 := Lib.hid (show Below w.heap.size w w2 from (by first | exact below_seq B1.out hb | exact below_seq1 B1.out hb | exact below_seq2 B1.out hb | exact below_seq3 B1.out hb | exact below_seq4 B1.out hb))
    have R2 := Lib.hid hb
    have hz2 := hb.size
    try simp at hz2
    clear hb
    try have y20 : w.heap.size < w2.heap.size := by omega
    try have y20a : w.heap.size + 1 < w2.heap.size := by omega
    try have y20b : w.heap.size < w2.heap.size + 1 + 1 := by omega
    try have y20c : w.heap.size + 1 < w2.heap.size + 1 + 1 := by omega
    try have y21 : w1.heap.size < w2.heap.size := by omega
    try have y21a : w1.heap.size + 1 < w2.heap.size := by omega
    try have y21b : w1.heap.size < w2.heap.size + 1 + 1 := by omega
    try have y21c : w1.heap.size + 1 < w2.heap.size + 1 + 1 := by omega
    rw [← HPs.out] at hn2 ho2
    have G := Lib.hid (pr_own ho2)
    have l2 : n2 ≤ 64 := by omega
    have HN2 := Lib.hid hn2
    clear hn2 ho2
    replace H := Lib.hid (show FR w2 _ _ _ from (by first | with_reducible exact fr_belowF H.out R2.out | with_reducible exact fr_belowF (fr_allocF H.out _) R2.out | with_reducible exact fr_belowF (fr_allocF (fr_allocF H.out _) _) R2.out | with_reducible exact fr_belowF (fr_allocF (fr_allocF (fr_allocF H.out _) _) _) R2.out))
    go_wp2_with fail
    refine (woS_yes x1 A1 n1 c1 fs x _ (by first | with_reducible exact H.out | with_reducible exact fr_allocF H.out _ | with_reducible exact fr_allocF (fr_allocF H.out _) _ | with_reducible exact fr_allocF (fr_allocF (fr_allocF H.out _) _) _) HK.out).mono ?_
    rintro e w3 ⟨A3, n3, c3, rfl, hn3, ho3, hb⟩
    obtain ⟨hc3, hf3⟩ := bcell hb
    have B3 := Lib.hid (show Below w.heap.size w w3 from (by first | exact below_seq B2.out hb | exact below_seq1 B2.out hb | exact below_seq2 B2.out hb | exact below_seq3 B2.out hb | exact below_seq4 B2.out hb))
    have R3 := Lib.hid hb
    have hz3 := hb.size
    try simp at hz3
    clear hb
    try have y30 : w.heap.size < w3.heap.size := by omega
    try have y30a : w.heap.size + 1 < w3.heap.size := by omega
    try have y30b : w.heap.size < w3.heap.size + 1 + 1 := by omega
    try have y30c : w.heap.size + 1 < w3.heap.size + 1 + 1 := by omega
    try have y31 : w1.heap.size < w3.heap.size := by omega
    try have y31a : w1.heap.size + 1 < w3.heap.size := by omega
    try have y31b : w1.heap.size < w3.heap.size + 1 + 1 := by omega
    try have y31c : w1.heap.size + 1 < w3.heap.size + 1 + 1 := by omega
    try have y32 : w2.heap.size < w3.heap.size := by omega
    try have y32a : w2.heap.size + 1 < w3.heap.size := by omega
    try have y32b : w2.heap.size < w3.heap.size + 1 + 1 := by omega
    try have y32c : w2.heap.size + 1 < w3.heap.size + 1 + 1 := by omega
    rw [← HPs.out] at hn3 ho3
    have K := Lib.hid (pr_own ho3)
    have l3 : n3 ≤ 64 := by omega
    clear hn3 ho3
    replace G := Lib.hid (show PR w3 _ _ _ from (by first | with_reducible exact pr_below G.out R3.out | with_reducible exact pr_below (pr_alloc G.out _) R3.out | with_reducible exact pr_below (pr_alloc (pr_alloc G.out _) _) R3.out | with_reducible exact pr_below (pr_alloc (pr_alloc (pr_alloc G.out _) _) _) R3.out))
    go_wp2_with fail
    refine (sameI_any A2 A3 n2 c2 n3 c3 ps ps _ (by first | with_reducible exact G.out | with_reducible exact pr_alloc G.out _ | with_reducible exact pr_alloc (pr_alloc G.out _) _ | with_reducible exact pr_alloc (pr_alloc (pr_alloc G.out _) _) _) (by first | with_reducible exact K.out | with_reducible exact pr_alloc K.out _ | with_reducible exact pr_alloc (pr_alloc K.out _) _ | with_reducible exact pr_alloc (pr_alloc (pr_alloc K.out _) _) _) (by omega) (by omega)).mono ?_
    rintro e w4 ⟨rfl, hb⟩
    obtain ⟨hc4, hf4⟩ := bcell hb
    have B4 := Lib.hid (show Below w.heap.size w w4 from (by first | exact below_seq B3.out hb | exact below_seq1 B3.out hb | exact below_seq2 B3.out hb | exact below_seq3 B3.out hb | exact below_seq4 B3.out hb))
    have R4 := Lib.hid hb
    have hz4 := hb.size
    try simp at hz4
    clear hb
    try have y40 : w.heap.size < w4.heap.size := by omega
    try have y40a : w.heap.size + 1 < w4.heap.size := by omega
    try have y40b : w.heap.size < w4.heap.size + 1 + 1 := by omega
    try have y40c : w.heap.size + 1 < w4.heap.size + 1 + 1 := by omega
    try have y41 : w1.heap.size < w4.heap.size := by omega
    try have y41a : w1.heap.size + 1 < w4.heap.size := by omega
    try have y41b : w1.heap.size < w4.heap.size + 1 + 1 := by omega
    try have y41c : w1.heap.size + 1 < w4.heap.size + 1 + 1 := by omega
    try have y42 : w2.heap.size < w4.heap.size := by omega
    try have y42a : w2.heap.size + 1 < w4.heap.size := by omega
    try have y42b : w2.heap.size < w4.heap.size + 1 + 1 := by omega
    try have y42c : w2.heap.size + 1 < w4.heap.size + 1 + 1 := by omega
    try have y43 : w3.heap.size < w4.heap.size := by omega
    try have y43a : w3.heap.size + 1 < w4.heap.size := by omega
    try have y43b : w3.heap.size < w4.heap.size + 1 + 1 := by omega
    try have y43c : w3.heap.size + 1 < w4.heap.size + 1 + 1 := by omega
    rw [← same_yes rfl]
    replace G := Lib.hid (show PR w4 _ _ _ from (by first | with_reducible exact pr_below G.out R4.out | with_reducible exact pr_below (pr_alloc G.out _) R4.out | with_reducible exact pr_below (pr_alloc (pr_alloc G.out _) _) R4.out | with_reducible exact pr_below (pr_alloc (pr_alloc (pr_alloc G.out _) _) _) R4.out))
    clear K
    have R0 : Hid (OfRel w4 x1 x ps n2 (.int .i64 0) (w4.alloc (.cells #[.int .i64 x1, (.slice none 0 0)] 25))) := Lib.hid ⟨0, none, 0, 0, Nat.zero_le _, rfl, frx_nil _ _ _, blk_new w4 _ _, below_alloc (Below.refl _ _) _⟩
    go_wp2
    go_loopw [10] (fun i wr => OfRel w4 x1 x ps n2 i wr) (fun i _ => n2 - (intOf i).toNat)
    case atStart => exact R0.out
    case round =>
      obtain ⟨k, A, m, c, hk, rfl, hf, ho, hbl⟩ := hrel
      clear R0
      have Fk := Lib.hid hf
      have O := Lib.hid ho
      have BL := Lib.hid hbl
      have zO := blk_lt ho
      clear hf ho hbl
      by_cases hlt : k < n2
      · obtain ⟨b, off, p, rfl, hb, hp, -, -, -, -⟩ := pr_at G.out hlt
        have J := Lib.hid (of_join HOF.out hp)
        have k0 : (0 : Int) ≤ (k : Int) := by omega
        have k1 : (k : Int) < (n2 : Int) := by omega
        have OS : Hid (∀ w6 : World, Below wr.heap.size wr w6 → ((w6.cell? ⟨w4.heap.size, 0, none⟩ = some (.int .i64 x1) ∧ w6.cell? ⟨w4.heap.size, 1, none⟩ = some (.slice A m c)) ∧ (w6.cell? ⟨b, off + k * 4, none⟩ = some (.int .i64 p.peer) ∧ w6.cell? ⟨b, off + k * 4 + 1, none⟩ = some (.int .i64 p.lane) ∧ w6.cell? ⟨b, off + k * 4 + 2, none⟩ = some (.int .i64 p.size) ∧ w6.cell? ⟨b, off + k * 4 + 3, none⟩ = some (.int .i64 p.id))) ∧ Below wr.heap.size wr w6) := Lib.hid (fun w6 h => of_hold O.out (pr_below G.out BL.out) hlt hp h)
        have hS : ((wr.drew.cell? ⟨w4.heap.size, 0, none⟩ = some (.int .i64 x1) ∧ wr.drew.cell? ⟨w4.heap.size, 1, none⟩ = some (.slice A m c)) ∧ (wr.drew.cell? ⟨b, off + k * 4, none⟩ = some (.int .i64 p.peer) ∧ wr.drew.cell? ⟨b, off + k * 4 + 1, none⟩ = some (.int .i64 p.lane) ∧ wr.drew.cell? ⟨b, off + k * 4 + 2, none⟩ = some (.int .i64 p.size) ∧ wr.drew.cell? ⟨b, off + k * 4 + 3, none⟩ = some (.int .i64 p.id))) ∧ Below wr.heap.size wr wr.drew := OS.out _ (Below.drew (Below.refl _ _))
        clear hp hb
        go_upto_region 12 with fail
        go_cut [11, 12] from 65 to 73 (fun s11 s12 wx => OfR w4 x1 x (ps.take (k + 1)) A m c s11 wx ∧ s12 = .bool true)
        case first =>
          go_region_held3 (fun w' => ((w'.cell? ⟨w4.heap.size, 0, none⟩ = some (.int .i64 x1) ∧ w'.cell? ⟨w4.heap.size, 1, none⟩ = some (.slice A m c)) ∧ (w'.cell? ⟨b, off + k * 4, none⟩ = some (.int .i64 p.peer) ∧ w'.cell? ⟨b, off + k * 4 + 1, none⟩ = some (.int .i64 p.lane) ∧ w'.cell? ⟨b, off + k * 4 + 2, none⟩ = some (.int .i64 p.size) ∧ w'.cell? ⟨b, off + k * 4 + 3, none⟩ = some (.int .i64 p.id))) ∧ Below wr.heap.size wr w')
            (first
              | (with_reducible assumption)
              | (with_reducible exact OS.out _ (Below.drew (below_alloc (Below.refl _ _) _)))
              | (with_reducible exact OS.out _ (below_alloc B5.out _))
              | (refine OS.out _ ?_; with_reducible refine Below.setCell ?_ ?_ _; with_reducible refine Below.setCell ?_ ?_ _; (first | with_reducible exact B5.out | with_reducible exact below_alloc B5.out _); all_goals (simp <;> omega))
              | fail)
            (first
              | (go_at_call 31
                 refine (jnI_yes x1 A m c _ p _ (fr_belowF (frx_fr Fk.out) (snd_of (by with_reducible assumption))) J.out.1).mono ?_
                 rintro e w5 ⟨A5, m5, c5, hs5, rfl, hD5, hb5⟩
                 rw [J.out.2] at hD5
                 have D5 := Lib.hid hD5
                 have M5 := Lib.hid (show m5 ≤ 4000000000 by have := do_cap hD5; have := rv_len (HOF.out.rv (k + 1)); omega)
                 have B5 := Lib.hid (below_seq (snd_of (by with_reducible assumption)) hb5)
                 have hS5 := OS.out _ B5.out
                 have O5 := Lib.hid (blk_below O.out B5.out zO)
                 have BL5 := Lib.hid (below_seq BL.out B5.out)
                 have z5 := hb5.size
                 try simp at z5
                 first | (have o0 := (show Blk (wr.alloc (.cells #[.int .i64 0, (.slice none 0 0)] 25)).drew wr.heap.size 25 #[.int .i64 0, (.slice none 0 0)] from blk_new wr _ _); have o1 := blk_below o0 hb5 (blk_lt o0); obtain ⟨nn0, nn1, nf0, nf1⟩ := blk_two o1; have nB := Lib.hid o1; clear o0 o1) | skip
                 clear hb5 hD5))
          all_goals
            go_wp2_with fail
            go_meet
            refine ⟨?_, rfl⟩
            first
              | exact ofr_new D5.out M5.out (by first | omega | (simp; omega) | simp) O5.out BL5.out
              | exact ofr_set D5.out M5.out (by first | omega | (simp; omega) | simp) (by first | omega | (simp; omega) | simp) nB.out O5.out BL5.out
        case rest =>
          obtain ⟨⟨L, A5, m5, c5, rfl, hL, N5, O5, F5, BL5⟩, rfl⟩ := hcut
          obtain ⟨n0, n1', -, -⟩ := blk_two N5
          obtain ⟨o0, o1, fo0, fo1⟩ := blk_two O5
          have O5' := Lib.hid O5
          have F5' := Lib.hid F5
          have BL5' := Lib.hid BL5
          clear N5 O5 F5 BL5 hS
          go_wp2
          go_roundw
          case rel =>
            refine ⟨k + 1, A5, m5, c5, by omega, by go_num, ?_, ?_, ?_⟩
            · exact frx_set (frx_set F5'.out (by simp) _) (by simp) _
            · exact blk_set (blk_set O5'.out 0 _) 1 _
            · exact Below.setCell (Below.setCell BL5'.out (by simp) _) (by simp) _
          case measure => simp [intOf]; omega
      · obtain rfl : k = n2 := by omega
        have HTk : Hid (ps.take k = ps) := Lib.hid (List.take_of_length_le (by have := HN2.out; omega))
        have HT : Hid (takeA x1 (oneF x (ps.take k)) = ps) := Lib.hid ((one_take (HOF.out.rv k)).trans HTk.out)
        obtain ⟨o0, o1, -, -⟩ := blk_two O.out
        have Br := Lib.hid (below_seq B4.out BL.out)
        have Gr := Lib.hid (pr_below G.out BL.out)
        clear G
        go_wp2_with fail
        refine (taI_yes x1 A m c _ _ (frx_fr Fk.out) (HOF.out.rv k)).mono ?_
        rintro e w6 ⟨A6, n6, c6, rfl, hn6, ho6, hb6⟩
        rw [HT.out] at hn6 ho6
        have T := Lib.hid (pr_own ho6)
        have B6 := Lib.hid (below_seq Br.out hb6)
        have G6 := Lib.hid (pr_below Gr.out hb6)
        have l6 : n6 ≤ 64 := by omega
        clear hn6 ho6 hb6
        go_wp2_with fail
        refine (sameI_any A6 A2 n6 c6 k c2 ps ps _ T.out G6.out (by omega) (by omega)).mono ?_
        rintro e w7 ⟨rfl, hb7⟩
        rw [← same_yes rfl]
        have B7 := Lib.hid (below_seq B6.out hb7)
        clear hb7
        go_wp2
        go_ret
        exact ⟨rfl, B7.out⟩
  · have HK := Lib.hid hk
    clear hk
    go_wp2_with fail
    refine (woI_no x1 A1 n1 c1 fs x _ (by first | with_reducible exact H.out | with_reducible exact fr_allocF H.out _ | with_reducible exact fr_allocF (fr_allocF H.out _) _ | with_reducible exact fr_allocF (fr_allocF (fr_allocF H.out _) _) _) HK.out).mono ?_
    rintro e w2 ⟨D2, d2, rfl, ho2, hb⟩
    obtain ⟨hc2, hf2⟩ := bcell hb
    have B2 := Lib.hid (show Below w.heap.size w w2 from (by first | exact below_seq B1.out hb | exact below_seq1 B1.out hb | exact below_seq2 B1.out hb | exact below_seq3 B1.out hb | exact below_seq4 B1.out hb))
    have R2 := Lib.hid hb
    have hz2 := hb.size
    try simp at hz2
    clear hb
    try have y20 : w.heap.size < w2.heap.size := by omega
    try have y20a : w.heap.size + 1 < w2.heap.size := by omega
    try have y20b : w.heap.size < w2.heap.size + 1 + 1 := by omega
    try have y20c : w.heap.size + 1 < w2.heap.size + 1 + 1 := by omega
    try have y21 : w1.heap.size < w2.heap.size := by omega
    try have y21a : w1.heap.size + 1 < w2.heap.size := by omega
    try have y21b : w1.heap.size < w2.heap.size + 1 + 1 := by omega
    try have y21c : w1.heap.size + 1 < w2.heap.size + 1 + 1 := by omega
    have G := Lib.hid (pr_own ho2)
    clear ho2
    replace H := Lib.hid (show FR w2 _ _ _ from (by first | with_reducible exact fr_belowF H.out R2.out | with_reducible exact fr_belowF (fr_allocF H.out _) R2.out | with_reducible exact fr_belowF (fr_allocF (fr_allocF H.out _) _) R2.out | with_reducible exact fr_belowF (fr_allocF (fr_allocF (fr_allocF H.out _) _) _) R2.out))
    go_wp2_with fail
    refine (woS_no x1 A1 n1 c1 fs x _ (by first | with_reducible exact H.out | with_reducible exact fr_allocF H.out _ | with_reducible exact fr_allocF (fr_allocF H.out _) _ | with_reducible exact fr_allocF (fr_allocF (fr_allocF H.out _) _) _) HK.out).mono ?_
    rintro e w3 ⟨D3, d3, rfl, ho3, hb⟩
    obtain ⟨hc3, hf3⟩ := bcell hb
    have B3 := Lib.hid (show Below w.heap.size w w3 from (by first | exact below_seq B2.out hb | exact below_seq1 B2.out hb | exact below_seq2 B2.out hb | exact below_seq3 B2.out hb | exact below_seq4 B2.out hb))
    have R3 := Lib.hid hb
    have hz3 := hb.size
    try simp at hz3
    clear hb
    try have y30 : w.heap.size < w3.heap.size := by omega
    try have y30a : w.heap.size + 1 < w3.heap.size := by omega
    try have y30b : w.heap.size < w3.heap.size + 1 + 1 := by omega
    try have y30c : w.heap.size + 1 < w3.heap.size + 1 + 1 := by omega
    try have y31 : w1.heap.size < w3.heap.size := by omega
    try have y31a : w1.heap.size + 1 < w3.heap.size := by omega
    try have y31b : w1.heap.size < w3.heap.size + 1 + 1 := by omega
    try have y31c : w1.heap.size + 1 < w3.heap.size + 1 + 1 := by omega
    try have y32 : w2.heap.size < w3.heap.size := by omega
    try have y32a : w2.heap.size + 1 < w3.heap.size := by omega
    try have y32b : w2.heap.size < w3.heap.size + 1 + 1 := by omega
    try have y32c : w2.heap.size + 1 < w3.heap.size + 1 + 1 := by omega
    have K := Lib.hid (pr_own ho3)
    clear ho3
    replace G := Lib.hid (show PR w3 _ _ _ from (by first | with_reducible exact pr_below G.out R3.out | with_reducible exact pr_below (pr_alloc G.out _) R3.out | with_reducible exact pr_below (pr_alloc (pr_alloc G.out _) _) R3.out | with_reducible exact pr_below (pr_alloc (pr_alloc (pr_alloc G.out _) _) _) R3.out))
    go_wp2_with fail
    refine (sameI_any D2 D3 0 d2 0 d3 [] [] _ (by first | with_reducible exact G.out | with_reducible exact pr_alloc G.out _ | with_reducible exact pr_alloc (pr_alloc G.out _) _ | with_reducible exact pr_alloc (pr_alloc (pr_alloc G.out _) _) _) (by first | with_reducible exact K.out | with_reducible exact pr_alloc K.out _ | with_reducible exact pr_alloc (pr_alloc K.out _) _ | with_reducible exact pr_alloc (pr_alloc (pr_alloc K.out _) _) _) (by omega) (by omega)).mono ?_
    rintro e w4 ⟨rfl, hb⟩
    obtain ⟨hc4, hf4⟩ := bcell hb
    have B4 := Lib.hid (show Below w.heap.size w w4 from (by first | exact below_seq B3.out hb | exact below_seq1 B3.out hb | exact below_seq2 B3.out hb | exact below_seq3 B3.out hb | exact below_seq4 B3.out hb))
    have R4 := Lib.hid hb
    have hz4 := hb.size
    try simp at hz4
    clear hb
    try have y40 : w.heap.size < w4.heap.size := by omega
    try have y40a : w.heap.size + 1 < w4.heap.size := by omega
    try have y40b : w.heap.size < w4.heap.size + 1 + 1 := by omega
    try have y40c : w.heap.size + 1 < w4.heap.size + 1 + 1 := by omega
    try have y41 : w1.heap.size < w4.heap.size := by omega
    try have y41a : w1.heap.size + 1 < w4.heap.size := by omega
    try have y41b : w1.heap.size < w4.heap.size + 1 + 1 := by omega
    try have y41c : w1.heap.size + 1 < w4.heap.size + 1 + 1 := by omega
    try have y42 : w2.heap.size < w4.heap.size := by omega
    try have y42a : w2.heap.size + 1 < w4.heap.size := by omega
    try have y42b : w2.heap.size < w4.heap.size + 1 + 1 := by omega
    try have y42c : w2.heap.size + 1 < w4.heap.size + 1 + 1 := by omega
    try have y43 : w3.heap.size < w4.heap.size := by omega
    try have y43a : w3.heap.size + 1 < w4.heap.size := by omega
    try have y43b : w3.heap.size < w4.heap.size + 1 + 1 := by omega
    try have y43c : w3.heap.size + 1 < w4.heap.size + 1 + 1 := by omega
    rw [← same_yes rfl]
    replace G := Lib.hid (show PR w4 _ _ _ from (by first | with_reducible exact pr_below G.out R4.out | with_reducible exact pr_below (pr_alloc G.out _) R4.out | with_reducible exact pr_below (pr_alloc (pr_alloc G.out _) _) R4.out | with_reducible exact pr_below (pr_alloc (pr_alloc (pr_alloc G.out _) _) _) R4.out))
    replace K := Lib.hid (show PR w4 _ _ _ from (by first | with_reducible exact pr_below K.out R4.out | with_reducible exact pr_below (pr_alloc K.out _) R4.out | with_reducible exact pr_below (pr_alloc (pr_alloc K.out _) _) R4.out | with_reducible exact pr_below (pr_alloc (pr_alloc (pr_alloc K.out _) _) _) R4.out))
    go_wp2_with fail
    refine (sameI_any D2 D3 0 d2 0 d3 [] [] _ (by first | with_reducible exact G.out | with_reducible exact pr_alloc G.out _ | with_reducible exact pr_alloc (pr_alloc G.out _) _ | with_reducible exact pr_alloc (pr_alloc (pr_alloc G.out _) _) _) (by first | with_reducible exact K.out | with_reducible exact pr_alloc K.out _ | with_reducible exact pr_alloc (pr_alloc K.out _) _ | with_reducible exact pr_alloc (pr_alloc (pr_alloc K.out _) _) _) (by omega) (by omega)).mono ?_
    rintro e w5 ⟨rfl, hb⟩
    obtain ⟨hc5, hf5⟩ := bcell hb
    have B5 := Lib.hid (show Below w.heap.size w w5 from (by first | exact below_seq B4.out hb | exact below_seq1 B4.out hb | exact below_seq2 B4.out hb | exact below_seq3 B4.out hb | exact below_seq4 B4.out hb))
    have R5 := Lib.hid hb
    have hz5 := hb.size
    try simp at hz5
    clear hb
    try have y50 : w.heap.size < w5.heap.size := by omega
    try have y50a : w.heap.size + 1 < w5.heap.size := by omega
    try have y50b : w.heap.size < w5.heap.size + 1 + 1 := by omega
    try have y50c : w.heap.size + 1 < w5.heap.size + 1 + 1 := by omega
    try have y51 : w1.heap.size < w5.heap.size := by omega
    try have y51a : w1.heap.size + 1 < w5.heap.size := by omega
    try have y51b : w1.heap.size < w5.heap.size + 1 + 1 := by omega
    try have y51c : w1.heap.size + 1 < w5.heap.size + 1 + 1 := by omega
    try have y52 : w2.heap.size < w5.heap.size := by omega
    try have y52a : w2.heap.size + 1 < w5.heap.size := by omega
    try have y52b : w2.heap.size < w5.heap.size + 1 + 1 := by omega
    try have y52c : w2.heap.size + 1 < w5.heap.size + 1 + 1 := by omega
    try have y53 : w3.heap.size < w5.heap.size := by omega
    try have y53a : w3.heap.size + 1 < w5.heap.size := by omega
    try have y53b : w3.heap.size < w5.heap.size + 1 + 1 := by omega
    try have y53c : w3.heap.size + 1 < w5.heap.size + 1 + 1 := by omega
    try have y54 : w4.heap.size < w5.heap.size := by omega
    try have y54a : w4.heap.size + 1 < w5.heap.size := by omega
    try have y54b : w4.heap.size < w5.heap.size + 1 + 1 := by omega
    try have y54c : w4.heap.size + 1 < w5.heap.size + 1 + 1 := by omega
    rw [← same_yes rfl]
    go_wp2
    all_goals
      go_ret
      refine ⟨rfl, ?_⟩
      repeat refine below_alloc ?_ _
      exact B5.out
end Go.Proofs.Ytehokkijfgiggaa.fnOneFlow
