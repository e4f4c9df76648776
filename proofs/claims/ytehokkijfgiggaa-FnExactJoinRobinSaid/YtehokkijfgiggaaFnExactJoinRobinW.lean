/-
  The law FnExactJoinRobin returns true at every argument: the program's JoinRobin answers as the model's, writes into no argument, and its answer owns its memory. Conditions: none.
-/
import Derived.Test.YtehokkijfgiggaaREx
import Derived.Test.YtehokkijfgiggaaR9
import Derived.Test.YtehokkijfgiggaaR9S
namespace Go.Proofs.Ytehokkijfgiggaa.fnExactJoinRobin
open Go.ChangeShapes Go.WideShapes Go.ChangeAt Go.RowKit

/-- a robin that a region has laid into a box of its own, with its flows, in one interval of blocks -/
structure GB (lo hi L : Nat) (Q : Int) (v : Value) (n : Nat) (hs : List Fh) (fs : List Flw) (w : World) : Prop where
  b : Blk w L 25 #[.int .i64 Q, v]
  d : DOI lo hi v n hs fs w
  l : lo ≤ L ∧ L < hi
  sep : ¬ OwnS v (hs.map Fh.sl) L
theorem at_gb {lo hi L : Nat} {Q : Int} {v : Value} {n : Nat} {hs : List Fh} {fs : List Flw} {w : World} (G : GB lo hi L Q v n hs fs w) (hf : hi ≤ w.heap.size) : At lo hi (GB lo hi L Q v n hs fs) w :=
  ⟨G, hf, fun _ _ hb => ⟨(hb L G.l.1 G.l.2).trans G.b, doi_loc G.d hb, G.l, G.sep⟩⟩
theorem gb_mark {lo hi L : Nat} {Q : Int} {v : Value} {n : Nat} {hs cur : List Fh} {fs gs : List Flw} {w w' : World} (G : GB lo hi L Q v n hs fs w) (hD : DOI lo hi v n cur gs w') (hsl : cur.map Fh.sl = hs.map Fh.sl) (hk : ∀ b, b < w.heap.size → ¬ OwnS v (hs.map Fh.sl) b → w'.heap[b]? = w.heap[b]?) : GB lo hi L Q v n cur gs w' :=
  ⟨(hk L (blk_lt G.b) G.sep).trans G.b, hD, G.l, by rw [hsl]; exact G.sep⟩
def GR (w : World) (Q : Int) (gs : List Flw) (s : Value) (wx : World) : Prop :=
  ∃ L A n c hs, s = .pointer (some ⟨L, 0, none⟩) ∧ GB w.heap.size wx.heap.size L Q (.slice A n c) n hs gs wx ∧ Below w.heap.size w wx
theorem own_no {w : World} {lo L : Nat} {v : Value} {n : Nat} {hs : List Fh} {fs : List Flw} (D : DO w lo v n hs fs) (h : L < lo ∨ w.heap.size ≤ L) : ¬ OwnS v (hs.map Fh.sl) L := fun hno => by
  rcases hno with e | ⟨u, hu, e⟩
  · have := (do_lo D).1 L e; omega
  · obtain ⟨q, hq, rfl⟩ := List.mem_map.1 hu
    obtain ⟨j, hj⟩ := List.getElem?_of_mem hq
    have := (do_lo D).2 j q hj L e
    omega
theorem gr_new {W w8 : World} {lo : Nat} {Q : Int} {A : Option Addr} {n c : Nat} {hs : List Fh} {gs : List Flw} (D : DO w8 lo (.slice A n c) n hs gs) (hlo : W.heap.size ≤ lo) (B : Below W.heap.size W w8) : GR W Q gs (.pointer (some ⟨w8.heap.size, 0, none⟩)) (w8.alloc (.cells #[.int .i64 Q, (.slice A n c)] 25)) := by
  have z := B.size
  refine ⟨w8.heap.size, A, n, c, hs, rfl, ⟨blk_new w8 _ _, ?_, ⟨z, by simp⟩, own_no D (.inr (Nat.le_refl _))⟩, below_alloc B _⟩
  exact doi_all (do_alloc (do_mono D hlo) _)
theorem gr_set {W w8 : World} {lo L : Nat} {Q : Int} {A : Option Addr} {n c : Nat} {hs : List Fh} {gs : List Flw} (D : DO w8 lo (.slice A n c) n hs gs) (hL : W.heap.size ≤ L) (hlo : L < lo) (N : Blk w8 L 25 #[.int .i64 0, (.slice none 0 0)]) (B : Below W.heap.size W w8) : GR W Q gs (.pointer (some ⟨L, 0, none⟩)) ((w8.setCell ⟨L, 0, none⟩ (.int .i64 Q)).setCell ⟨L, 1, none⟩ (.slice A n c)) := by
  have z := blk_lt N
  refine ⟨L, A, n, c, hs, rfl, ⟨blk_set (blk_set N 0 _) 1 _, ?_, ⟨hL, by simp; exact z⟩, own_no D (.inl hlo)⟩, Below.setCell (Below.setCell B (by exact hL) _) (by exact hL) _⟩
  exact doi_all (do_mono (do_far (do_far D (by exact hlo) _) (by exact hlo) _) (by omega))
theorem snd_of {a b : Prop} (h : a ∧ b) : b := h.2
def JnP (w : World) (Q : Int) (gs : List Flw) (ok : Bool) (e : Ending) (w' : World) : Prop :=
  ∃ A n c hs, e = .returned (.tuple #[.agg #[.int .i64 Q, (.slice A n c)], .bool ok]) ∧ DO w' w.heap.size (.slice A n c) n hs gs ∧ Below w.heap.size w w'
theorem total_join {fs : List Flw} {p : Pkt} {q : Int} (h : joinOk q fs p) : total (joinL fs p) ≤ 512 := by
  have h1 := total_le (rv_join h)
  have h2 := rv_len (rv_join h)
  omega
theorem both (q : Int) (fs : List Flw) (p : Pkt) : ∃ (Q : Int) (gs : List Flw) (ok : Bool), gs.length ≤ 8 ∧ total gs ≤ 512 ∧
    Hid (∀ (A : Option Addr) (n c : Nat) (w : World), FR w A n fs → Calls Try.prog 32 #[.agg #[.int .i64 q, (.slice A n c)], .agg #[.int .i64 p.peer, .int .i64 p.lane, .int .i64 p.size, .int .i64 p.id]] w (JnP w Q gs ok)) ∧
    Hid (∀ (A : Option Addr) (n c : Nat) (w : World), FR w A n fs → Calls Try.prog 31 #[.agg #[.int .i64 q, (.slice A n c)], .agg #[.int .i64 p.peer, .int .i64 p.lane, .int .i64 p.size, .int .i64 p.id]] w (JnP w Q gs ok)) := by
  by_cases hk : joinOk q fs p
  · exact ⟨q, joinL fs p, true, rv_len (rv_join hk), total_join hk, Lib.hid fun A n c w h => jnS_yes q A n c fs p w h hk, Lib.hid fun A n c w h => jnI_yes q A n c fs p w h hk⟩
  · exact ⟨0, [], false, by simp, by simp [total], Lib.hid fun A n c w h => (jnS_no q A n c fs p w h hk).mono fun _ _ h => ⟨none, 0, 0, [], h.1, do_nil _ _, h.2⟩, Lib.hid fun A n c w h => (jnI_no q A n c fs p w h hk).mono fun _ _ h => ⟨none, 0, 0, [], h.1, do_nil _ _, h.2⟩⟩
set_option maxRecDepth 100000 in
set_option maxHeartbeats 8000000 in
theorem walk (q : Int) (A : Option Addr) (n c : Nat) (fs : List Flw) (p : Pkt) (w : World) (h : FA w A n fs) (hn : n ≤ 9223372036854775807) :
    Calls Try.prog 11 #[.agg #[.int .i64 q, (.slice A n c)], .agg #[.int .i64 p.peer, .int .i64 p.lane, .int .i64 p.size, .int .i64 p.id]] w fun e w' => e = .returned (.bool true) ∧ Below w.heap.size w w' := by
  have H := Lib.hid h
  have B0 := Lib.hid (below_alloc (below_alloc (Below.refl w.heap.size w) (.cells #[.int .i64 q, (.slice A n c)] 51)) (.cells #[.int .i64 p.peer, .int .i64 p.lane, .int .i64 p.size, .int .i64 p.id] 56))
  have A0 := Lib.hid (blk_alloc (blk_new w 51 #[.int .i64 q, (.slice A n c)]) (.cells #[.int .i64 p.peer, .int .i64 p.lane, .int .i64 p.size, .int .i64 p.id] 56))
  have P0 := Lib.hid (blk_new2 w (.cells #[.int .i64 q, (.slice A n c)] 51) 56 #[.int .i64 p.peer, .int .i64 p.lane, .int .i64 p.size, .int .i64 p.id])
  clear h
  by_cases hbig : (n : Int) + (total fs : Int) ≤ 1048576
  · obtain ⟨Q, gs, ok, hgl, hgt, HS0, HI0⟩ := both q fs p
    have hn1 : n ≤ 1048576 := by omega
    have ht1 : total fs ≤ 1048576 := by omega
    have hfl := fa_len H.out
    have hc := cntF_eq fs
    have kx : decide (1 + cntF fs < 0) = false := by simp; omega
    have kx0 : 0 ≤ 1 + cntF fs := by omega
    have hle : ¬ (1048576 : Int) < (n : Int) + (total fs : Int) := by omega
    have hd : decide ((1048576 : Int) - (n : Int) - (total fs : Int) < 0) = false := by simp; omega
    have hc2 := cntF_eq gs
    have kg : 0 ≤ 1 + cntF gs ∧ 1 + cntF gs ≤ 1000000 := by omega
    have kg0 : decide (1 + cntF gs < 0) = false := by simp; omega
    have hgt1 : total gs ≤ 1048576 := by omega
    have hgl1 : gs.length ≤ 1048576 := by omega
    clear hc2 hc hfl
    go_enter Try.func11, Try.ntmps11
    go_wp2_with fail
    refine (szRobin_any q A n c fs 1048576 _ (fa_below H.out B0.out) hn (by omega)).mono ?_
    rintro e w1 ⟨rfl, hb⟩
    rw [if_neg (by omega)]
    have B1 := Lib.hid (below_seq B0.out hb)
    have A1 := Lib.hid (blk_below A0.out hb (by simp <;> omega))
    have P1 := Lib.hid (blk_below P0.out hb (by simp))
    clear hb hle A0 P0 B0
    have OS : Hid (∀ w' : World, Below w1.heap.size w1 w' → ((w'.cell? ⟨w.heap.size, 0, none⟩ = some (.int .i64 q) ∧ w'.cell? ⟨w.heap.size, 1, none⟩ = some (.slice A n c)) ∧ (w'.cell? ⟨w.heap.size + 1, 0, none⟩ = some (.int .i64 p.peer) ∧ w'.cell? ⟨w.heap.size + 1, 1, none⟩ = some (.int .i64 p.lane) ∧ w'.cell? ⟨w.heap.size + 1, 2, none⟩ = some (.int .i64 p.size) ∧ w'.cell? ⟨w.heap.size + 1, 3, none⟩ = some (.int .i64 p.id))) ∧ Below w1.heap.size w1 w') := Lib.hid (fun w' h => by
      have b1 := blk_below A1.out h (blk_lt A1.out)
      have b2 := blk_below P1.out h (blk_lt P1.out)
      exact ⟨⟨⟨blk_cell b1 0, blk_cell b1 1⟩, ⟨blk_cell b2 0, blk_cell b2 1, blk_cell b2 2, blk_cell b2 3⟩⟩, h⟩)
    have hS : ((w1.drew.cell? ⟨w.heap.size, 0, none⟩ = some (.int .i64 q) ∧ w1.drew.cell? ⟨w.heap.size, 1, none⟩ = some (.slice A n c)) ∧ (w1.drew.cell? ⟨w.heap.size + 1, 0, none⟩ = some (.int .i64 p.peer) ∧ w1.drew.cell? ⟨w.heap.size + 1, 1, none⟩ = some (.int .i64 p.lane) ∧ w1.drew.cell? ⟨w.heap.size + 1, 2, none⟩ = some (.int .i64 p.size) ∧ w1.drew.cell? ⟨w.heap.size + 1, 3, none⟩ = some (.int .i64 p.id))) ∧ Below w1.heap.size w1 w1.drew := OS.out _ (Below.drew (Below.refl _ _))
    go_upto_region 5 with fail
    go_cut [6, 7] from 22 to 28 (fun s1 s2 wx => GR w1 Q gs s1 wx ∧ s2 = .bool ok)
    case first =>
      go_region_held3 (fun w' => ((w'.cell? ⟨w.heap.size, 0, none⟩ = some (.int .i64 q) ∧ w'.cell? ⟨w.heap.size, 1, none⟩ = some (.slice A n c)) ∧ (w'.cell? ⟨w.heap.size + 1, 0, none⟩ = some (.int .i64 p.peer) ∧ w'.cell? ⟨w.heap.size + 1, 1, none⟩ = some (.int .i64 p.lane) ∧ w'.cell? ⟨w.heap.size + 1, 2, none⟩ = some (.int .i64 p.size) ∧ w'.cell? ⟨w.heap.size + 1, 3, none⟩ = some (.int .i64 p.id))) ∧ Below w1.heap.size w1 w')
        (first
          | (with_reducible assumption)
          | (with_reducible exact OS.out _ (Below.drew (below_alloc (Below.refl _ _) _)))
          | (with_reducible exact OS.out _ (below_alloc B6.out _))
          | (with_reducible exact OS.out _ (below_alloc B7.out _))
          | (with_reducible exact OS.out _ (below_alloc B8.out _))
          | (refine OS.out _ ?_; with_reducible refine Below.setCell ?_ ?_ _; with_reducible refine Below.setCell ?_ ?_ _; (first | with_reducible exact B8.out | with_reducible exact below_alloc B8.out _); all_goals (simp <;> omega))
          | fail)
        (first
          | (go_at_call 32
             refine (HS0.out X6 n n _ (by first | exact PX7.out | exact fr_allocF PX7.out _)).mono ?_
             rintro e w8 ⟨Ao, no, co, hso, rfl, hD8, hb8⟩
             have D8 := Lib.hid hD8
             have B8 := Lib.hid (below_seq (snd_of (by with_reducible assumption)) hb8)
             have hS8 := OS.out _ B8.out
             have z8 := hb8.size
             try simp at z8
             first | (have o0 := (show Blk (w1.alloc (.cells #[.int .i64 0, (.slice none 0 0)] 25)).drew w1.heap.size 25 #[.int .i64 0, (.slice none 0 0)] from blk_new w1 _ _); have o1 := blk_below o0 R6.out (blk_lt o0); have o2 := blk_below o1 R7.out (blk_lt o1); have o3 := blk_below o2 hb8 (blk_lt o2); obtain ⟨nn0, nn1, nf0, nf1⟩ := blk_two o3; have nB := Lib.hid o3) | (have o0 := (show Blk (w6.alloc (.cells #[.int .i64 0, (.slice none 0 0)] 25)) w6.heap.size 25 #[.int .i64 0, (.slice none 0 0)] from blk_new w6 _ _); have o1 := blk_below o0 R7.out (blk_lt o0); have o2 := blk_below o1 hb8 (blk_lt o1); obtain ⟨nn0, nn1, nf0, nf1⟩ := blk_two o2; have nB := Lib.hid o2) | (have o0 := (show Blk (w7.alloc (.cells #[.int .i64 0, (.slice none 0 0)] 25)) w7.heap.size 25 #[.int .i64 0, (.slice none 0 0)] from blk_new w7 _ _); have o1 := blk_below o0 hb8 (blk_lt o0); obtain ⟨nn0, nn1, nf0, nf1⟩ := blk_two o1; have nB := Lib.hid o1) | skip
             clear hb8 hD8)
          | (go_at_call 40
             refine (toPacket_any p _).mono ?_
             rintro e w7 ⟨rfl, hb7⟩
             have R7 := Lib.hid hb7
             have B7 := Lib.hid (below_seq (snd_of (by with_reducible assumption)) hb7)
             have PX7 := Lib.hid (show FR w7 X6 n fs from (by first | exact fr_belowF PX6.out hb7 | exact fr_belowF (fr_allocF PX6.out _) hb7))
             have hS7 := OS.out _ B7.out
             have z7 := hb7.size
             try simp at z7
             clear hb7)
          | (go_at_call 37
             refine (toRobin_any q A n c fs _ (fa_below H.out (below_seq B1.out (snd_of (by with_reducible assumption)))) hn1 ht1).mono ?_
             rintro e w6 ⟨X6, h6, rfl, ho6, hb6⟩
             have R6 := Lib.hid hb6
             have PX6 := Lib.hid (do_fr ho6 (by omega))
             have B6 := Lib.hid (below_seq (snd_of (by with_reducible assumption)) hb6)
             have hS6 := OS.out _ B6.out
             have z6 := hb6.size
             try simp at z6
             clear hb6 ho6))
      all_goals
        go_wp2_with fail
        go_meet
        refine ⟨?_, rfl⟩
        first
          | exact gr_new D8.out (by first | omega | (simp; omega) | simp) B8.out
          | exact gr_set D8.out (by first | omega | (simp; omega) | simp) (by first | omega | (simp; omega) | simp) nB.out B8.out
    case rest =>
    clear hS OS
    obtain ⟨⟨Lw, Aw, nw, cw, hsw, rfl, hG, hB⟩, rfl⟩ := hcut
    obtain ⟨w3, rfl⟩ : ∃ w3, w3 = wc := ⟨_, rfl⟩
    have FW := Lib.hid (doi_fr hG.d (by have := do_cap hG.d.1; omega))
    have UB := Lib.hid hG.b
    have B3 := Lib.hid (below_seq B1.out hB)
    have A3 := Lib.hid (blk_below A1.out hB (blk_lt A1.out))
    have P3 := Lib.hid (blk_below P1.out hB (blk_lt P1.out))
    have za : w.heap.size < w3.heap.size := blk_lt A3.out
    have zb : w.heap.size + 1 < w3.heap.size := blk_lt P3.out
    have zu : Lw < w3.heap.size := blk_lt UB.out
    clear hG hB A1 P1
    have F3 : Hid (Fm w3 [] w3) := Lib.hid (fm_zero w3)
    obtain ⟨q0, q1, -, -⟩ := blk_two (blk_below A3.out F3.out.below za)
    go_wp2_with fail
    refine (toRobin_any q A n c fs _ (fa_below H.out (below_seq B3.out F3.out.below)) hn1 ht1).mono ?_
    rintro e w4 ⟨A4, hs4, rfl, hD, hb⟩
    have F4 : Hid (Fm w3 [⟨w3.heap.size, w4.heap.size, DOI w3.heap.size w4.heap.size (.slice A4 n n) n hs4 fs⟩] w4) := Lib.hid (fm_doi F3.out hb hD rfl)
    clear F3
    clear hb hD q0 q1
    have F4b : Hid (Fm w3 [⟨w3.heap.size, w4.heap.size, DOI w3.heap.size w4.heap.size (.slice A4 n n) n hs4 fs⟩, ⟨w4.heap.size, w4.heap.size + 1, BoxP w4.heap.size 25 #[.int .i64 q, (.slice A4 n n)]⟩] (w4.alloc (.cells #[.int .i64 q, (.slice A4 n n)] 25))) := Lib.hid (fm_push F4.out rfl _ _)
    clear F4
    have XB := Lib.hid (show Blk (w4.alloc (.cells #[.int .i64 q, (.slice A4 n n)] 25)) w4.heap.size 25 #[.int .i64 q, (.slice A4 n n)] from fm_blk F4b.out 1 rfl)
    have PB4 := Lib.hid (blk_below P3.out F4b.out.below zb)
    have PX4 := Lib.hid (doi_fr (fm_get F4b.out 0 rfl) (by omega))
    have zW : (World.heap (w4.alloc (.cells #[.int .i64 q, (.slice A4 n n)] 25))).size = w4.heap.size + 1 := by simp
    go_upto_region 7 with fail
    generalize (w4.alloc (.cells #[.int .i64 q, (.slice A4 n n)] 25)) = W at F4b XB PB4 PX4 zW ⊢
    have zW2 : w4.heap.size < W.heap.size := by omega
    have zW3 : w.heap.size + 1 < W.heap.size := by have := blk_lt PB4.out; omega
    clear zW
    have OS : Hid (∀ w' : World, Below W.heap.size W w' → ((w'.cell? ⟨w4.heap.size, 0, none⟩ = some (.int .i64 q) ∧ w'.cell? ⟨w4.heap.size, 1, none⟩ = some (.slice A4 n n)) ∧ (w'.cell? ⟨w.heap.size + 1, 0, none⟩ = some (.int .i64 p.peer) ∧ w'.cell? ⟨w.heap.size + 1, 1, none⟩ = some (.int .i64 p.lane) ∧ w'.cell? ⟨w.heap.size + 1, 2, none⟩ = some (.int .i64 p.size) ∧ w'.cell? ⟨w.heap.size + 1, 3, none⟩ = some (.int .i64 p.id))) ∧ Below W.heap.size W w') := Lib.hid (fun w' h => by
      have b1 := blk_below XB.out h (blk_lt XB.out)
      have b2 := blk_below PB4.out h (blk_lt PB4.out)
      exact ⟨⟨⟨blk_cell b1 0, blk_cell b1 1⟩, ⟨blk_cell b2 0, blk_cell b2 1, blk_cell b2 2, blk_cell b2 3⟩⟩, h⟩)
    have hS : ((W.drew.cell? ⟨w4.heap.size, 0, none⟩ = some (.int .i64 q) ∧ W.drew.cell? ⟨w4.heap.size, 1, none⟩ = some (.slice A4 n n)) ∧ (W.drew.cell? ⟨w.heap.size + 1, 0, none⟩ = some (.int .i64 p.peer) ∧ W.drew.cell? ⟨w.heap.size + 1, 1, none⟩ = some (.int .i64 p.lane) ∧ W.drew.cell? ⟨w.heap.size + 1, 2, none⟩ = some (.int .i64 p.size) ∧ W.drew.cell? ⟨w.heap.size + 1, 3, none⟩ = some (.int .i64 p.id))) ∧ Below W.heap.size W W.drew := OS.out _ (Below.drew (Below.refl _ _))
    go_cut [9, 10] from 32 to 37 (fun s1 s2 wx => GR W Q gs s1 wx ∧ s2 = .bool ok)
    case first =>
      go_region_held3 (fun w' => ((w'.cell? ⟨w4.heap.size, 0, none⟩ = some (.int .i64 q) ∧ w'.cell? ⟨w4.heap.size, 1, none⟩ = some (.slice A4 n n)) ∧ (w'.cell? ⟨w.heap.size + 1, 0, none⟩ = some (.int .i64 p.peer) ∧ w'.cell? ⟨w.heap.size + 1, 1, none⟩ = some (.int .i64 p.lane) ∧ w'.cell? ⟨w.heap.size + 1, 2, none⟩ = some (.int .i64 p.size) ∧ w'.cell? ⟨w.heap.size + 1, 3, none⟩ = some (.int .i64 p.id))) ∧ Below W.heap.size W w')
        (first
          | (with_reducible assumption)
          | (with_reducible exact OS.out _ (Below.drew (below_alloc (Below.refl _ _) _)))
          | (with_reducible exact OS.out _ (below_alloc B7.out _))
          | (with_reducible exact OS.out _ (below_alloc B8.out _))
          | (refine OS.out _ ?_; with_reducible refine Below.setCell ?_ ?_ _; with_reducible refine Below.setCell ?_ ?_ _; (first | with_reducible exact B8.out | with_reducible exact below_alloc B8.out _); all_goals (simp <;> omega))
          | fail)
        (first
          | (go_at_call 31
             refine (HI0.out A4 n n _ (by first | exact PX7.out | exact fr_allocF PX7.out _)).mono ?_
             rintro e w8 ⟨Ao, no, co, hso, rfl, hD8, hb8⟩
             have D8 := Lib.hid hD8
             have B8 := Lib.hid (below_seq (snd_of (by with_reducible assumption)) hb8)
             have hS8 := OS.out _ B8.out
             have z8 := hb8.size
             try simp at z8
             first | (have o0 := (show Blk (W.alloc (.cells #[.int .i64 0, (.slice none 0 0)] 25)).drew W.heap.size 25 #[.int .i64 0, (.slice none 0 0)] from blk_new W _ _); have o1 := blk_below o0 R7.out (blk_lt o0); have o2 := blk_below o1 hb8 (blk_lt o1); obtain ⟨nn0, nn1, nf0, nf1⟩ := blk_two o2; have nB := Lib.hid o2) | (have o0 := (show Blk (w7.alloc (.cells #[.int .i64 0, (.slice none 0 0)] 25)) w7.heap.size 25 #[.int .i64 0, (.slice none 0 0)] from blk_new w7 _ _); have o1 := blk_below o0 hb8 (blk_lt o0); obtain ⟨nn0, nn1, nf0, nf1⟩ := blk_two o1; have nB := Lib.hid o1) | skip
             clear hb8 hD8)
          | (go_at_call 40
             refine (toPacket_any p _).mono ?_
             rintro e w7 ⟨rfl, hb7⟩
             have R7 := Lib.hid hb7
             have B7 := Lib.hid (below_seq (snd_of (by with_reducible assumption)) hb7)
             have PX7 := Lib.hid (show FR w7 A4 n fs from fr_belowF PX4.out B7.out)
             have hS7 := OS.out _ B7.out
             have z7 := hb7.size
             try simp at z7
             clear hb7))
      all_goals
        go_wp2_with fail
        go_meet
        refine ⟨?_, rfl⟩
        first
          | exact gr_new D8.out (by first | omega | (simp; omega) | simp) B8.out
          | exact gr_set D8.out (by first | omega | (simp; omega) | simp) (by first | omega | (simp; omega) | simp) nB.out B8.out
    case rest =>
    clear hS OS
    obtain ⟨⟨Lg, Ag, ng, cg, hsg, rfl, hG, hB⟩, rfl⟩ := hcut
    obtain ⟨w5, rfl⟩ : ∃ w5, w5 = wc := ⟨_, rfl⟩
    have lng : ng ≤ 1048576 := by have := do_cap hG.d.1; omega
    have F5 : Hid (Fm w3 [⟨w3.heap.size, w4.heap.size, DOI w3.heap.size w4.heap.size (.slice A4 n n) n hs4 fs⟩, ⟨w4.heap.size, w4.heap.size + 1, BoxP w4.heap.size 25 #[.int .i64 q, (.slice A4 n n)]⟩, ⟨W.heap.size, w5.heap.size, GB (W.heap.size) w5.heap.size Lg Q (.slice Ag ng cg) ng hsg gs⟩] w5) := Lib.hid (fm_at F4b.out hB (at_gb hG (Nat.le_refl _)) rfl)
    clear F4b
    clear hG hB XB PB4 PX4 zW2 zW3
    obtain ⟨g0, g1, -, -⟩ := blk_two (fm_get F5.out 2 rfl).b
    obtain ⟨u0, u1, -, -⟩ := blk_two (blk_below UB.out F5.out.below zu)
    go_wp2_with fail
    refine (eqRobin_same Q Ag Aw ng cg nw cw gs _ (doi_fr (fm_get F5.out 2 rfl).d (by omega)) (fr_belowF FW.out F5.out.below)).mono ?_
    rintro e w8 ⟨rfl, hb⟩
    have Fw8 : Hid (Fm w3 [⟨w3.heap.size, w4.heap.size, DOI w3.heap.size w4.heap.size (.slice A4 n n) n hs4 fs⟩, ⟨w4.heap.size, w4.heap.size + 1, BoxP w4.heap.size 25 #[.int .i64 q, (.slice A4 n n)]⟩, ⟨W.heap.size, w5.heap.size, GB (W.heap.size) w5.heap.size Lg Q (.slice Ag ng cg) ng hsg gs⟩] w8) := Lib.hid (fm_below F5.out hb)
    clear F5
    clear hb g0 g1 u0 u1
    have hS := fm_rd22 (fm_drew Fw8.out) A3.out 1 rfl
    go_wp2_with fail
    go_region_held3 (fun w' => (w'.cell? ⟨w.heap.size, 0, none⟩ = some (.int .i64 q) ∧ w'.cell? ⟨w.heap.size, 1, none⟩ = some (.slice A n c)) ∧ (w'.cell? ⟨w4.heap.size, 0, none⟩ = some (.int .i64 q) ∧ w'.cell? ⟨w4.heap.size, 1, none⟩ = some (.slice A4 n n)) ∧ Fm w3 [⟨w3.heap.size, w4.heap.size, DOI w3.heap.size w4.heap.size (.slice A4 n n) n hs4 fs⟩, ⟨w4.heap.size, w4.heap.size + 1, BoxP w4.heap.size 25 #[.int .i64 q, (.slice A4 n n)]⟩, ⟨W.heap.size, w5.heap.size, GB (W.heap.size) w5.heap.size Lg Q (.slice Ag ng cg) ng hsg gs⟩] w')
      (first | (with_reducible assumption) | fail)
      (first
        | (go_at_call 38
           refine (eqRobin_same q A4 A6 n n n n fs _ (doi_fr (fm_get FX6.out 0 rfl) (by omega)) PX6.out).mono ?_
           rintro e w7 ⟨rfl, hb7⟩
           have FX7 : Hid (Fm w3 [⟨w3.heap.size, w4.heap.size, DOI w3.heap.size w4.heap.size (.slice A4 n n) n hs4 fs⟩, ⟨w4.heap.size, w4.heap.size + 1, BoxP w4.heap.size 25 #[.int .i64 q, (.slice A4 n n)]⟩, ⟨W.heap.size, w5.heap.size, GB (W.heap.size) w5.heap.size Lg Q (.slice Ag ng cg) ng hsg gs⟩] w7) := Lib.hid (fm_below FX6.out hb7)
           have hS7 := fm_rd22 FX7.out A3.out 1 rfl
           clear hb7)
        | (go_at_call 37
           refine (toRobin_any q A n c fs _ (fa_below H.out (below_seq B3.out (fm_drew Fw8.out).below)) hn1 ht1).mono ?_
           rintro e w6 ⟨A6, hs6, rfl, ho6, hb6⟩
           have PX6 := Lib.hid (do_fr ho6 (by omega))
           have FX6 : Hid (Fm w3 [⟨w3.heap.size, w4.heap.size, DOI w3.heap.size w4.heap.size (.slice A4 n n) n hs4 fs⟩, ⟨w4.heap.size, w4.heap.size + 1, BoxP w4.heap.size 25 #[.int .i64 q, (.slice A4 n n)]⟩, ⟨W.heap.size, w5.heap.size, GB (W.heap.size) w5.heap.size Lg Q (.slice Ag ng cg) ng hsg gs⟩] w6) := Lib.hid (fm_below (fm_drew Fw8.out) hb6)
           have hS6 := fm_rd22 FX6.out A3.out 1 rfl
           clear hb6 ho6))
    all_goals
      clear PX6 FX6 Fw8 hS hS6 hS7
      obtain ⟨x0, x1, -, -⟩ := blk_two (fm_blk FX7.out 1 rfl)
      go_wp2_with fail
      refine (markRobin_any q w3.heap.size w4.heap.size A4 n n hs4 fs 1 _ (fm_get FX7.out 0 rfl) (fm_lt FX7.out 0 rfl).2.2 hn1 ht1 (by omega)).mono ?_
      rintro e w10 ⟨cur, rfl, hD, hc, hsl, hk⟩
      have F10 : Hid (Fm w3 [⟨w3.heap.size, w4.heap.size, DOI w3.heap.size w4.heap.size (.slice A4 n n) n cur (markF fs 1)⟩, ⟨w4.heap.size, w4.heap.size + 1, BoxP w4.heap.size 25 #[.int .i64 q, (.slice A4 n n)]⟩, ⟨W.heap.size, w5.heap.size, GB (W.heap.size) w5.heap.size Lg Q (.slice Ag ng cg) ng hsg gs⟩] w10) := Lib.hid (fm_put FX7.out 0 rfl hc (at_doi hD (Nat.le_trans (fm_lt FX7.out 0 rfl).2.2 hc.size)))
      clear FX7
      clear hD hc hsl hk x0 x1
      obtain ⟨g0, g1, -, -⟩ := blk_two (fm_get F10.out 2 rfl).b
      obtain ⟨u0, u1, -, -⟩ := blk_two (blk_below UB.out F10.out.below zu)
      go_wp2_with fail
      refine (eqRobin_same Q Ag Aw ng cg nw cw gs _ (doi_fr (fm_get F10.out 2 rfl).d (by omega)) (fr_belowF FW.out F10.out.below)).mono ?_
      rintro e w11 ⟨rfl, hb⟩
      have Fw11 : Hid (Fm w3 [⟨w3.heap.size, w4.heap.size, DOI w3.heap.size w4.heap.size (.slice A4 n n) n cur (markF fs 1)⟩, ⟨w4.heap.size, w4.heap.size + 1, BoxP w4.heap.size 25 #[.int .i64 q, (.slice A4 n n)]⟩, ⟨W.heap.size, w5.heap.size, GB (W.heap.size) w5.heap.size Lg Q (.slice Ag ng cg) ng hsg gs⟩] w11) := Lib.hid (fm_below F10.out hb)
      clear F10
      clear hb g0 g1 u0 u1
      obtain ⟨g0, g1, -, -⟩ := blk_two (fm_get Fw11.out 2 rfl).b
      go_wp2_with fail
      refine (markRobin_any Q (W.heap.size) w5.heap.size Ag ng cg hsg gs 1 _ (fm_get Fw11.out 2 rfl).d (fm_lt Fw11.out 2 rfl).2.2 lng hgt1 (by omega)).mono ?_
      rintro e w12 ⟨curg, rfl, hD, hc, hsl, hk⟩
      have F12 : Hid (Fm w3 [⟨w3.heap.size, w4.heap.size, DOI w3.heap.size w4.heap.size (.slice A4 n n) n cur (markF fs 1)⟩, ⟨w4.heap.size, w4.heap.size + 1, BoxP w4.heap.size 25 #[.int .i64 q, (.slice A4 n n)]⟩, ⟨W.heap.size, w5.heap.size, GB (W.heap.size) w5.heap.size Lg Q (.slice Ag ng cg) ng curg (markF gs 1)⟩] w12) := Lib.hid (fm_put Fw11.out 2 rfl hc (at_gb (gb_mark (fm_get Fw11.out 2 rfl) hD hsl hk) (Nat.le_trans (fm_lt Fw11.out 2 rfl).2.2 hc.size)))
      clear Fw11
      clear hD hc hsl hk g0 g1
      obtain ⟨g0, g1, -, -⟩ := blk_two (fm_get F12.out 2 rfl).b
      go_wp2_with fail
      refine (heldRobin_any Q Ag ng cg gs 1 _ (doi_fr (fm_get F12.out 2 rfl).d (by omega)) lng hgt1 (by omega)).mono ?_
      rintro e w13 ⟨rfl, hb⟩
      have Fw13 : Hid (Fm w3 [⟨w3.heap.size, w4.heap.size, DOI w3.heap.size w4.heap.size (.slice A4 n n) n cur (markF fs 1)⟩, ⟨w4.heap.size, w4.heap.size + 1, BoxP w4.heap.size 25 #[.int .i64 q, (.slice A4 n n)]⟩, ⟨W.heap.size, w5.heap.size, GB (W.heap.size) w5.heap.size Lg Q (.slice Ag ng cg) ng curg (markF gs 1)⟩] w13) := Lib.hid (fm_below F12.out hb)
      clear F12
      clear hb g0 g1
      have A13 := Lib.hid (blk_below A3.out Fw13.out.below za)
      have P13 := Lib.hid (blk_below P3.out Fw13.out.below zb)
      have B13 := Lib.hid (below_seq B3.out Fw13.out.below)
      have OS : Hid (∀ w' : World, Below w13.heap.size w13 w' → ((w'.cell? ⟨w.heap.size, 0, none⟩ = some (.int .i64 q) ∧ w'.cell? ⟨w.heap.size, 1, none⟩ = some (.slice A n c)) ∧ (w'.cell? ⟨w.heap.size + 1, 0, none⟩ = some (.int .i64 p.peer) ∧ w'.cell? ⟨w.heap.size + 1, 1, none⟩ = some (.int .i64 p.lane) ∧ w'.cell? ⟨w.heap.size + 1, 2, none⟩ = some (.int .i64 p.size) ∧ w'.cell? ⟨w.heap.size + 1, 3, none⟩ = some (.int .i64 p.id))) ∧ Below w13.heap.size w13 w') := Lib.hid (fun w' h => by
        have b1 := blk_below A13.out h (blk_lt A13.out)
        have b2 := blk_below P13.out h (blk_lt P13.out)
        exact ⟨⟨⟨blk_cell b1 0, blk_cell b1 1⟩, ⟨blk_cell b2 0, blk_cell b2 1, blk_cell b2 2, blk_cell b2 3⟩⟩, h⟩)
      have hS : ((w13.drew.cell? ⟨w.heap.size, 0, none⟩ = some (.int .i64 q) ∧ w13.drew.cell? ⟨w.heap.size, 1, none⟩ = some (.slice A n c)) ∧ (w13.drew.cell? ⟨w.heap.size + 1, 0, none⟩ = some (.int .i64 p.peer) ∧ w13.drew.cell? ⟨w.heap.size + 1, 1, none⟩ = some (.int .i64 p.lane) ∧ w13.drew.cell? ⟨w.heap.size + 1, 2, none⟩ = some (.int .i64 p.size) ∧ w13.drew.cell? ⟨w.heap.size + 1, 3, none⟩ = some (.int .i64 p.id))) ∧ Below w13.heap.size w13 w13.drew := OS.out _ (Below.drew (Below.refl _ _))
      go_upto_region 24 with fail
      go_cut [14, 15] from 80 to 86 (fun s1 s2 wx => GR w13 Q gs s1 wx ∧ s2 = .bool ok)
      case first =>
        go_region_held3 (fun w' => ((w'.cell? ⟨w.heap.size, 0, none⟩ = some (.int .i64 q) ∧ w'.cell? ⟨w.heap.size, 1, none⟩ = some (.slice A n c)) ∧ (w'.cell? ⟨w.heap.size + 1, 0, none⟩ = some (.int .i64 p.peer) ∧ w'.cell? ⟨w.heap.size + 1, 1, none⟩ = some (.int .i64 p.lane) ∧ w'.cell? ⟨w.heap.size + 1, 2, none⟩ = some (.int .i64 p.size) ∧ w'.cell? ⟨w.heap.size + 1, 3, none⟩ = some (.int .i64 p.id))) ∧ Below w13.heap.size w13 w')
          (first
            | (with_reducible assumption)
            | (with_reducible exact OS.out _ (Below.drew (below_alloc (Below.refl _ _) _)))
            | (with_reducible exact OS.out _ (below_alloc B6.out _))
            | (with_reducible exact OS.out _ (below_alloc B7.out _))
            | (with_reducible exact OS.out _ (below_alloc B8.out _))
            | (refine OS.out _ ?_; with_reducible refine Below.setCell ?_ ?_ _; with_reducible refine Below.setCell ?_ ?_ _; (first | with_reducible exact B8.out | with_reducible exact below_alloc B8.out _); all_goals (simp <;> omega))
            | fail)
          (first
            | (go_at_call 31
               refine (HI0.out X6 n n _ (by first | exact PX7.out | exact fr_allocF PX7.out _)).mono ?_
               rintro e w8 ⟨Ao, no, co, hso, rfl, hD8, hb8⟩
               have D8 := Lib.hid hD8
               have B8 := Lib.hid (below_seq (snd_of (by with_reducible assumption)) hb8)
               have hS8 := OS.out _ B8.out
               have z8 := hb8.size
               try simp at z8
               first | (have o0 := (show Blk (w13.alloc (.cells #[.int .i64 0, (.slice none 0 0)] 25)).drew w13.heap.size 25 #[.int .i64 0, (.slice none 0 0)] from blk_new w13 _ _); have o1 := blk_below o0 R6.out (blk_lt o0); have o2 := blk_below o1 R7.out (blk_lt o1); have o3 := blk_below o2 hb8 (blk_lt o2); obtain ⟨nn0, nn1, nf0, nf1⟩ := blk_two o3; have nB := Lib.hid o3) | (have o0 := (show Blk (w6.alloc (.cells #[.int .i64 0, (.slice none 0 0)] 25)) w6.heap.size 25 #[.int .i64 0, (.slice none 0 0)] from blk_new w6 _ _); have o1 := blk_below o0 R7.out (blk_lt o0); have o2 := blk_below o1 hb8 (blk_lt o1); obtain ⟨nn0, nn1, nf0, nf1⟩ := blk_two o2; have nB := Lib.hid o2) | (have o0 := (show Blk (w7.alloc (.cells #[.int .i64 0, (.slice none 0 0)] 25)) w7.heap.size 25 #[.int .i64 0, (.slice none 0 0)] from blk_new w7 _ _); have o1 := blk_below o0 hb8 (blk_lt o0); obtain ⟨nn0, nn1, nf0, nf1⟩ := blk_two o1; have nB := Lib.hid o1) | skip
               clear hb8 hD8)
            | (go_at_call 40
               refine (toPacket_any p _).mono ?_
               rintro e w7 ⟨rfl, hb7⟩
               have R7 := Lib.hid hb7
               have B7 := Lib.hid (below_seq (snd_of (by with_reducible assumption)) hb7)
               have PX7 := Lib.hid (show FR w7 X6 n fs from (by first | exact fr_belowF PX6.out hb7 | exact fr_belowF (fr_allocF PX6.out _) hb7))
               have hS7 := OS.out _ B7.out
               have z7 := hb7.size
               try simp at z7
               clear hb7)
            | (go_at_call 37
               refine (toRobin_any q A n c fs _ (fa_below H.out (below_seq B13.out (snd_of (by with_reducible assumption)))) hn1 ht1).mono ?_
               rintro e w6 ⟨X6, h6, rfl, ho6, hb6⟩
               have R6 := Lib.hid hb6
               have PX6 := Lib.hid (do_fr ho6 (by omega))
               have B6 := Lib.hid (below_seq (snd_of (by with_reducible assumption)) hb6)
               have hS6 := OS.out _ B6.out
               have z6 := hb6.size
               try simp at z6
               clear hb6 ho6))
        all_goals
          go_wp2_with fail
          go_meet
          refine ⟨?_, rfl⟩
          first
            | exact gr_new D8.out (by first | omega | (simp; omega) | simp) B8.out
            | exact gr_set D8.out (by first | omega | (simp; omega) | simp) (by first | omega | (simp; omega) | simp) nB.out B8.out
      case rest =>
      clear hS OS
      obtain ⟨⟨Lh, Ah, nh, ch, hsh, rfl, hG, hB⟩, rfl⟩ := hcut
      obtain ⟨w15, rfl⟩ : ∃ w15, w15 = wc := ⟨_, rfl⟩
      have FH := Lib.hid (doi_fr hG.d (by have := do_cap hG.d.1; omega))
      obtain ⟨h0, h1, -, -⟩ := blk_two hG.b
      have F15 : Hid (Fm w3 [⟨w3.heap.size, w4.heap.size, DOI w3.heap.size w4.heap.size (.slice A4 n n) n cur (markF fs 1)⟩, ⟨w4.heap.size, w4.heap.size + 1, BoxP w4.heap.size 25 #[.int .i64 q, (.slice A4 n n)]⟩, ⟨W.heap.size, w5.heap.size, GB (W.heap.size) w5.heap.size Lg Q (.slice Ag ng cg) ng curg (markF gs 1)⟩] w15) := Lib.hid (fm_below Fw13.out hB)
      clear Fw13
      clear hG hB A13 P13 B13
      obtain ⟨u0, u1, -, -⟩ := blk_two (blk_below UB.out F15.out.below zu)
      go_wp2_with fail
      refine (eqRobin_same Q Ah Aw nh ch nw cw gs _ FH.out (fr_belowF FW.out F15.out.below)).mono ?_
      rintro e w16 ⟨rfl, hb⟩
      have F16 : Hid (Fm w3 [⟨w3.heap.size, w4.heap.size, DOI w3.heap.size w4.heap.size (.slice A4 n n) n cur (markF fs 1)⟩, ⟨w4.heap.size, w4.heap.size + 1, BoxP w4.heap.size 25 #[.int .i64 q, (.slice A4 n n)]⟩, ⟨W.heap.size, w5.heap.size, GB (W.heap.size) w5.heap.size Lg Q (.slice Ag ng cg) ng curg (markF gs 1)⟩] w16) := Lib.hid (fm_below F15.out hb)
      clear F15
      clear hb h0 h1 u0 u1 FH
      obtain ⟨g0, g1, -, -⟩ := blk_two (fm_get F16.out 2 rfl).b
      go_wp2_with fail
      refine (heldRobin_any Q Ag ng cg gs 1 _ (doi_fr (fm_get F16.out 2 rfl).d (by omega)) lng hgt1 (by omega)).mono ?_
      rintro e w17 ⟨rfl, hb⟩
      have Fw17 : Hid (Fm w3 [⟨w3.heap.size, w4.heap.size, DOI w3.heap.size w4.heap.size (.slice A4 n n) n cur (markF fs 1)⟩, ⟨w4.heap.size, w4.heap.size + 1, BoxP w4.heap.size 25 #[.int .i64 q, (.slice A4 n n)]⟩, ⟨W.heap.size, w5.heap.size, GB (W.heap.size) w5.heap.size Lg Q (.slice Ag ng cg) ng curg (markF gs 1)⟩] w17) := Lib.hid (fm_below F16.out hb)
      clear F16
      clear hb g0 g1
      go_wp2
      go_ret
      exact ⟨rfl, below_seq B3.out Fw17.out.below⟩
  · have hle : (1048576 : Int) < (n : Int) + (total fs : Int) := by omega
    go_enter Try.func11, Try.ntmps11
    go_wp2_with fail
    refine (szRobin_any q A n c fs 1048576 _ (fa_below H.out B0.out) hn (by omega)).mono ?_
    rintro e w1 ⟨rfl, hb⟩
    rw [if_pos (by omega)]
    have B1 := Lib.hid (below_seq B0.out hb)
    clear hb hle hbig
    go_wp2
    go_ret
    exact ⟨rfl, B1.out⟩
theorem own : ownKnob Try.prog.godebug = none := by kernel_rfl
theorem laidOut : laidOutB Try.prog = true := by kernel_rfl
set_option maxRecDepth 100000 in
theorem lifted (os : Os) (started : os.Started) (H : Type) (enc : TypeId × Value → H) :
    ReturnsInHanded {} Try.checked os 11 .any (Rows.fnExactJoinRobinSpec.pre6 enc Try.prog Try.f11 Rows.fnExactJoinRobinRow.domain false) (Rows.fnExactJoinRobinSpec.post enc Try.prog Try.f11 false true false false) := by
  refine returnsInHanded_of_change (C := Try.checked) own started (by kernel_rfl) Try.func11
    (ChangeSpec.witness6 (enc := enc) (C := Try.checked) false ⟨#[], #[.agg #[.int .i64 0, .slice none 0 0], .agg #[.int .i64 0, .int .i64 0, .int .i64 0, .int .i64 0]], []⟩ 8 (by kernel_rfl) (by kernel_rfl) (by kernel_rfl) (by kernel_rfl)) ?_
  intro W base args ds gs before hval0 hW _ _
  have hval : ∀ (j : Nat) t v, Try.f11.params[j]? = some t → args[j]? = some v → Value.okWide Try.prog W .any base t v := hval0
  have hW' := hW
  obtain ⟨p, q, hA0, hV, rfl, _, _⟩ := hW
  have hA : DataW.TrodAll enc Try.prog W 0 (fun _ => true) true Try.f11.params.toList args.toList ds p := hA0
  rw [Try.params11] at hA hval
  obtain ⟨v0, vs0, d0, ds0, p0, q0, hargs, rfl, rfl, h0, r0⟩ := trodAll_cons hA
  obtain ⟨v1, vs1, d1, ds1, p1, q1, rfl, rfl, rfl, h1, r1⟩ := trodAll_cons r0
  obtain ⟨rfl, rfl, rfl⟩ := trodAll_nil r1
  obtain rfl : args = #[v0, v1] := by cases args; simp_all
  obtain ⟨rfl, rfl⟩ := trodVars_none hV
  have lt0 : ∀ x ∈ p0, x.block < W.heap.size := by obtain ⟨m, hm⟩ := h0; exact DataW.trod_lt m _ _ _ hm
  have ok0 := (hval 0 51 v0 rfl rfl)
  obtain ⟨p0a, p0b, y0a, y0b, nf0, rfl, _, _, t0a, t0b⟩ := Go.Joins.open_agg2 Try.underlying51 (by kernel_rfl) (by kernel_rfl) ok0 h0
  obtain ⟨x0a, e0a, _, _⟩ := DataW.trod_int Try.underlying3 t0a
  obtain rfl : p0a = .int .i64 x0a := by simpa using e0a
  obtain ⟨a0, n0, c0, x0, rfl, w0, m0⟩ := flws_open1 t0b
  have lt1 : ∀ x ∈ p1, x.block < W.heap.size := by obtain ⟨m, hm⟩ := h1; exact DataW.trod_lt m _ _ _ hm
  have ok1 := (hval 1 56 v1 rfl rfl)
  obtain ⟨p1a, p1b, p1c, p1d, y1a, y1b, y1c, y1d, nf1, rfl, _, _, t1a, t1b, t1c, t1d⟩ := Go.Joins.open_agg4 Try.underlying56 (by kernel_rfl) (by kernel_rfl) ok1 h1
  obtain ⟨x1a, e1a, _, _⟩ := DataW.trod_int Try.underlying3 t1a
  obtain rfl : p1a = .int .i64 x1a := by simpa using e1a
  obtain ⟨x1b, e1b, _, _⟩ := DataW.trod_int Try.underlying3 t1b
  obtain rfl : p1b = .int .i64 x1b := by simpa using e1b
  obtain ⟨x1c, e1c, _, _⟩ := DataW.trod_int Try.underlying3 t1c
  obtain rfl : p1c = .int .i64 x1c := by simpa using e1c
  obtain ⟨x1d, e1d, _, _⟩ := DataW.trod_int Try.underlying3 t1d
  obtain rfl : p1d = .int .i64 x1d := by simpa using e1d
  clear hA0 hval0
  refine (walk x0a a0 n0 c0 x0 ⟨x1a, x1b, x1c, x1d⟩ W w0 m0).mono fun e W' ⟨he, bel⟩ => ?_
  subst he
  exact ⟨_, rfl, _, _, _, [], _, [], hW', trodAll_mk1 (shut_bool Try.underlying4 _), (trodAll_cons_mk (Below.trod laidOut (by kernel_rfl) (of_decide_eq_true (by kernel_rfl)) h0 bel lt0) (trodAll_cons_mk (Below.trod laidOut (by kernel_rfl) (of_decide_eq_true (by kernel_rfl)) h1 bel lt1) trodAll_mk0)), rfl, bel.frame _, fun h => by cases h⟩
end Go.Proofs.Ytehokkijfgiggaa.fnExactJoinRobin
