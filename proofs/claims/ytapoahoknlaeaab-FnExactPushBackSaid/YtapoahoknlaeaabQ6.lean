/-
  Chapter 3: DropPeer: what the program's function returns. Conditions: the slice has at most 4000000000 packets.
-/
import Derived.Test.YtapoahoknlaeaabQ5
import Derived.Test.YtapoahoknlaeaabQ3
import Derived.Test.YtapoahoknlaeaabFr
namespace Go.Proofs.Ytapoahoknlaeaab
open Go.RowKit

def dropOk (lim : Int) (ps : List Pkt) (x : Int) : Bool := qvB lim ps && inB x 0 7
/-- a queue, a list and a bool are handed back; both rows are the call's own, in blocks apart -/
def QPostL (w : World) (lim : Int) (ps gs : List Pkt) (ok : Bool) (e : Ending) (w' : World) : Prop :=
  ∃ A n c A2 n2 c2, e = .returned (.tuple #[.agg #[.int .i64 lim, (.slice A n c)], .slice A2 n2 c2, .bool ok]) ∧ n = ps.length ∧ n2 = gs.length ∧ w'.ownsRow w.heap.size 51 4 (.slice A n c) n (pcells ps) ∧ w'.ownsRow w.heap.size 51 4 (.slice A2 n2 c2) n2 (pcells gs) ∧
    (∀ b, Value.ownBlock (.slice A n c) = some b → Value.ownBlock (.slice A2 n2 c2) ≠ some b) ∧ Below w.heap.size w w'
theorem qpostl_mk {w w' : World} {lim : Int} {ps gs : List Pkt} {ok : Bool} {e : Ending} {A A2 : Option Addr} {n c n2 c2 : Nat} (he : e = .returned (.tuple #[.agg #[.int .i64 lim, (.slice A n c)], .slice A2 n2 c2, .bool ok])) (ho : w'.ownsRow w.heap.size 51 4 (.slice A n c) n (pcells ps)) (ho2 : w'.ownsRow w.heap.size 51 4 (.slice A2 n2 c2) n2 (pcells gs))
    (hs : ∀ b, Value.ownBlock (.slice A n c) = some b → Value.ownBlock (.slice A2 n2 c2) ≠ some b) (hb : Below w.heap.size w w') : QPostL w lim ps gs ok e w' :=
  ⟨A, n, c, A2, n2, c2, he, ((pr_own ho).1).symm, ((pr_own ho2).1).symm, ho, ho2, hs, hb⟩
def dropBs (lim : Int) (A : Option Addr) (n c : Nat) : List (TypeId × Array Value) := [(25, #[.int .i64 lim, (.slice A n c)]), (25, #[.int .i64 0, (.slice none 0 0)])]
theorem fr_drop {w : World} {A : Option Addr} {n : Nat} {ps : List Pkt} (h : PR w A n ps) (lim : Int) (c : Nat) : Fr w (dropBs lim A n c) A n ps ((w.alloc (.cells #[.int .i64 lim, (.slice A n c)] 25)).alloc (.cells #[.int .i64 0, (.slice none 0 0)] 25)) :=
  fr_two h 25 25 _ _
theorem drop_no {lim : Int} {ps : List Pkt} {x : Int} (h : dropOk lim ps x = false) : qvB lim ps = false ∨ (qvB lim ps = true ∧ inB x 0 7 = false) := by
  rcases hq : qvB lim ps with _ | _
  · exact .inl rfl
  · exact .inr ⟨rfl, by simpa [dropOk, hq] using h⟩
theorem drop_of {lim : Int} {ps : List Pkt} {x : Int} (h : dropOk lim ps x = true) : qvB lim ps = true ∧ inB x 0 7 = true := by simpa [dropOk] using h
set_option maxHeartbeats 1000000 in
theorem dropI_no (lim : Int) (A : Option Addr) (n c : Nat) (ps : List Pkt) (x : Int) (w : World) (h : PR w A n ps) (hn : n ≤ 4000000000) (hk : dropOk lim ps x = false) :
    Calls Try.prog 15 #[.agg #[.int .i64 lim, (.slice A n c)], .int .i64 x] w (QPostL w 0 [] [] false) := by
  have F := Lib.hid (fr_drop h lim c)
  clear h
  rcases drop_no hk with hq | ⟨hq, hx⟩
  · have HQ := Lib.hid hq
    clear hq hk
    go_enter Try.func15, Try.ntmps15
    go_wp2_with fail
    refine (qvI_any lim A n c ps _ F.out.pr (by omega)).mono ?_
    rintro e w1 ⟨rfl, hb⟩
    rw [HQ.out]
    replace F := Lib.hid (fr_below F.out hb)
    clear hb
    have F0c0 : World.cell? w1 ⟨w.heap.size, 0, none⟩ = some (.int .i64 lim) := blk_cell (F.out.it 0 _ _ rfl) 0
    have F0f0 : World.frozen? w1 ⟨w.heap.size, 0, none⟩ = false := blk_free (F.out.it 0 _ _ rfl) 0
    have F0c1 : World.cell? w1 ⟨w.heap.size, 1, none⟩ = some ((.slice A n c)) := blk_cell (F.out.it 0 _ _ rfl) 1
    have F0f1 : World.frozen? w1 ⟨w.heap.size, 1, none⟩ = false := blk_free (F.out.it 0 _ _ rfl) 1
    have F1c0 : World.cell? w1 ⟨w.heap.size + 1, 0, none⟩ = some (.int .i64 0) := blk_cell (F.out.it 1 _ _ rfl) 0
    have F1f0 : World.frozen? w1 ⟨w.heap.size + 1, 0, none⟩ = false := blk_free (F.out.it 1 _ _ rfl) 0
    have F1c1 : World.cell? w1 ⟨w.heap.size + 1, 1, none⟩ = some ((.slice none 0 0)) := blk_cell (F.out.it 1 _ _ rfl) 1
    have F1f1 : World.frozen? w1 ⟨w.heap.size + 1, 1, none⟩ = false := blk_free (F.out.it 1 _ _ rfl) 1
    go_wp2
    refine bodyPost_ret (v := .tuple #[.agg #[.int .i64 0, (.slice none 0 0)], .slice none 0 0, .bool false]) (by simp [results, Try.results15, go_sem, F1c0, F1c1]) rfl (qpostl_mk rfl (World.ownsRow_nil _ _ _ _) (World.ownsRow_nil _ _ _ _) (fun b e => by cases e) ?_)
    repeat refine Below.setCell ?_ (by first | omega | (simp <;> omega)) _
    exact F.out.below
  · have HQ := Lib.hid hq
    clear hq hk
    go_enter Try.func15, Try.ntmps15
    go_wp2_with fail
    refine (qvI_any lim A n c ps _ F.out.pr (by omega)).mono ?_
    rintro e w1 ⟨rfl, hb⟩
    rw [HQ.out]
    replace F := Lib.hid (fr_below F.out hb)
    clear hb
    have F0c0 : World.cell? w1 ⟨w.heap.size, 0, none⟩ = some (.int .i64 lim) := blk_cell (F.out.it 0 _ _ rfl) 0
    have F0f0 : World.frozen? w1 ⟨w.heap.size, 0, none⟩ = false := blk_free (F.out.it 0 _ _ rfl) 0
    have F0c1 : World.cell? w1 ⟨w.heap.size, 1, none⟩ = some ((.slice A n c)) := blk_cell (F.out.it 0 _ _ rfl) 1
    have F0f1 : World.frozen? w1 ⟨w.heap.size, 1, none⟩ = false := blk_free (F.out.it 0 _ _ rfl) 1
    have F1c0 : World.cell? w1 ⟨w.heap.size + 1, 0, none⟩ = some (.int .i64 0) := blk_cell (F.out.it 1 _ _ rfl) 0
    have F1f0 : World.frozen? w1 ⟨w.heap.size + 1, 0, none⟩ = false := blk_free (F.out.it 1 _ _ rfl) 0
    have F1c1 : World.cell? w1 ⟨w.heap.size + 1, 1, none⟩ = some ((.slice none 0 0)) := blk_cell (F.out.it 1 _ _ rfl) 1
    have F1f1 : World.frozen? w1 ⟨w.heap.size + 1, 1, none⟩ = false := blk_free (F.out.it 1 _ _ rfl) 1
    go_wp2_with (go_at_call 48; refine (within_any _ _ _ _).mono ?_; rintro e w' ⟨rfl, rfl⟩)
    refine bodyPost_ret (v := .tuple #[.agg #[.int .i64 0, (.slice none 0 0)], .slice none 0 0, .bool false]) (by simp [results, Try.results15, go_sem, F1c0, F1c1]) rfl (qpostl_mk rfl (World.ownsRow_nil _ _ _ _) (World.ownsRow_nil _ _ _ _) (fun b e => by cases e) ?_)
    repeat refine Below.setCell ?_ (by first | omega | (simp <;> omega)) _
    exact F.out.below
structure DK (w : World) (L : Nat) (lim : Int) (A : Option Addr) (n c : Nat) (ps : List Pkt) (Av : Option Addr) (m cv : Nat) (rs : List Pkt) (w' : World) : Prop where
  fr : Fr w (dropBs lim A n c) A n ps w'
  l : Blk w' L 25 #[.int .i64 lim, .slice Av m cv]
  own : w'.ownsRow (L + 1) 51 4 (.slice Av m cv) m (pcells rs)
  hL : w.heap.size + 2 ≤ L
def DRel (w : World) (L : Nat) (lim : Int) (A : Option Addr) (n c : Nat) (ps : List Pkt) (x : Int) (i : Value) (wr : World) : Prop :=
  ∃ (k m : Nat) (Av : Option Addr) (cv : Nat), k ≤ n ∧ m ≤ k ∧ i = .int .i64 (k : Int) ∧ DK w L lim A n c ps Av m cv (restOf (ps.take k) x) wr
theorem dk_alloc {w : World} {L : Nat} {lim : Int} {A : Option Addr} {n c : Nat} {ps : List Pkt} {Av : Option Addr} {m cv : Nat} {rs : List Pkt} {w' : World} (h : DK w L lim A n c ps Av m cv rs w') (o : Obj) : DK w L lim A n c ps Av m cv rs (w'.alloc o) :=
  ⟨fr_alloc h.fr o, blk_alloc h.l o, h.own.alloc o, h.hL⟩
theorem dk_below {w : World} {L : Nat} {lim : Int} {A : Option Addr} {n c : Nat} {ps : List Pkt} {Av : Option Addr} {m cv : Nat} {rs : List Pkt} {w' w2 : World} (h : DK w L lim A n c ps Av m cv rs w') (hb : Below w'.heap.size w' w2) : DK w L lim A n c ps Av m cv rs w2 :=
  ⟨fr_below h.fr hb, blk_below h.l hb (blk_lt h.l), own_below h.own hb, h.hL⟩
/-- one packet more, stored -/
theorem dk_next {w : World} {L : Nat} {lim : Int} {A : Option Addr} {n c : Nat} {ps : List Pkt} {Av : Option Addr} {m cv : Nat} {rs : List Pkt} {w' w2 : World} {A2 : Option Addr} {m2 c2 : Nat} {rs2 : List Pkt} (h : DK w L lim A n c ps Av m cv rs w')
    (hg : w'.grownBy w2 (Value.ownBlock (.slice Av m cv))) (ho : w2.ownsRow (L + 1) 51 4 (.slice A2 m2 c2) m2 (pcells rs2)) : DK w L lim A n c ps A2 m2 c2 rs2 (w2.setCell ⟨L, 1, none⟩ (.slice A2 m2 c2)) := by
  have hr : ∀ g, Value.ownBlock (.slice Av m cv) = some g → L + 1 ≤ g := fun g hg => (h.own.lt g hg).1
  have hL := h.hL
  exact ⟨fr_set (fr_grown h.fr hg (fun g e => by have := hr g e; simp [dropBs]; omega)) (by simp [dropBs]; omega) _, blk_set (blk_grownQ h.l hg (fun e => by have := hr _ e.symm; omega)) 1 _, own_set_far ho (by simp) _, hL⟩
theorem fr_first {w w1 : World} {a : TypeId × Array Value} {r : List (TypeId × Array Value)} {A : Option Addr} {n : Nat} {ps : List Pkt} (h : Fr w (a :: r) A n ps w1) : Fr w [a] A n ps w1 :=
  ⟨fun i t cs hi => (by
    cases i with
    | zero => exact h.it 0 t cs hi
    | succ i => simp at hi), h.pr, h.below, (by have := h.lt; simp at this ⊢; omega), h.old⟩
structure DE (w : World) (L : Nat) (lim : Int) (A : Option Addr) (n c : Nat) (ps : List Pkt) (Av : Option Addr) (m cv : Nat) (rs : List Pkt) (w' : World) : Prop where
  fr : Fr w [(25, #[.int .i64 lim, (.slice A n c)])] A n ps w'
  l : Blk w' L 25 #[.int .i64 lim, .slice Av m cv]
  own : w'.ownsRow (L + 1) 51 4 (.slice Av m cv) m (pcells rs)
  hL : w.heap.size + 2 ≤ L
section
variable {w w1 w2 : World} {L : Nat} {lim : Int} {A : Option Addr} {n c : Nat} {ps : List Pkt} {Av : Option Addr} {m cv : Nat} {rs : List Pkt}
theorem de_dk (h : DK w L lim A n c ps Av m cv rs w1) : DE w L lim A n c ps Av m cv rs w1.drew := ⟨fr_drew (fr_first h.fr), h.l, h.own, h.hL⟩
theorem de_below (h : DE w L lim A n c ps Av m cv rs w1) (hb : Below w1.heap.size w1 w2) : DE w L lim A n c ps Av m cv rs w2 := ⟨fr_below h.fr hb, blk_below h.l hb (blk_lt h.l), own_below h.own hb, h.hL⟩
theorem de_set (h : DE w L lim A n c ps Av m cv rs w1) (k : Nat) (u : Value) : DE w L lim A n c ps Av m cv rs (w1.setCell ⟨w.heap.size + 1, k, none⟩ u) :=
  ⟨fr_set h.fr (by simp) u, blk_far h.l (by have := h.hL; simp; omega) u, own_set_far h.own (by have := h.hL; simp; omega) u, h.hL⟩
theorem de_cells (h : DE w L lim A n c ps Av m cv rs w1) : w1.cell? ⟨w.heap.size, 0, none⟩ = some (.int .i64 lim) ∧ w1.cell? ⟨w.heap.size, 1, none⟩ = some (.slice A n c) ∧ w1.cell? ⟨L, 0, none⟩ = some (.int .i64 lim) ∧ w1.cell? ⟨L, 1, none⟩ = some (.slice Av m cv) ∧ DE w L lim A n c ps Av m cv rs w1 :=
  ⟨blk_cell (h.fr.it 0 _ _ rfl) 0, blk_cell (h.fr.it 0 _ _ rfl) 1, blk_cell h.l 0, blk_cell h.l 1, h⟩
end
set_option maxHeartbeats 1000000 in
theorem dropI_yes (lim : Int) (A : Option Addr) (n c : Nat) (ps : List Pkt) (x : Int) (w : World) (h : PR w A n ps) (hn : n ≤ 4000000000) (hk : dropOk lim ps x = true) :
    Calls Try.prog 15 #[.agg #[.int .i64 lim, (.slice A n c)], .int .i64 x] w (QPostL w lim (restOf ps x) (ofPeer ps x) true) := by
  have F := Lib.hid (fr_drop h lim c)
  obtain ⟨hq, hx⟩ := drop_of hk
  have HQ := Lib.hid hq
  have HL := Lib.hid h.1
  clear h hk hq
  go_enter Try.func15, Try.ntmps15
  go_wp2_with fail
  refine (qvI_any lim A n c ps _ F.out.pr (by omega)).mono ?_
  rintro e w1 ⟨rfl, hb⟩
  rw [HQ.out]
  replace F := Lib.hid (fr_below F.out hb)
  have z1 := F.out.lt
  simp [dropBs] at z1
  have y1 : w.heap.size < w1.heap.size := by omega
  have y2 : w.heap.size + 1 < w1.heap.size := by omega
  clear hb
  have F0c0 : World.cell? w1 ⟨w.heap.size, 0, none⟩ = some (.int .i64 lim) := blk_cell (F.out.it 0 _ _ rfl) 0
  have F0f0 : World.frozen? w1 ⟨w.heap.size, 0, none⟩ = false := blk_free (F.out.it 0 _ _ rfl) 0
  have F0c1 : World.cell? w1 ⟨w.heap.size, 1, none⟩ = some ((.slice A n c)) := blk_cell (F.out.it 0 _ _ rfl) 1
  have F0f1 : World.frozen? w1 ⟨w.heap.size, 1, none⟩ = false := blk_free (F.out.it 0 _ _ rfl) 1
  have F1c0 : World.cell? w1 ⟨w.heap.size + 1, 0, none⟩ = some (.int .i64 0) := blk_cell (F.out.it 1 _ _ rfl) 0
  have F1f0 : World.frozen? w1 ⟨w.heap.size + 1, 0, none⟩ = false := blk_free (F.out.it 1 _ _ rfl) 0
  have F1c1 : World.cell? w1 ⟨w.heap.size + 1, 1, none⟩ = some ((.slice none 0 0)) := blk_cell (F.out.it 1 _ _ rfl) 1
  have F1f1 : World.frozen? w1 ⟨w.heap.size + 1, 1, none⟩ = false := blk_free (F.out.it 1 _ _ rfl) 1
  have R0 : Hid (DRel w w1.heap.size lim A n c ps x (.int .i64 0) (w1.alloc (.cells #[.int .i64 lim, (.slice none 0 0)] 25))) :=
    Lib.hid ⟨0, 0, none, 0, Nat.zero_le _, Nat.le_refl _, rfl, fr_alloc F.out _, blk_new w1 _ _, World.ownsRow_nil _ _ _ _, by omega⟩
  go_wp2_with (go_at_call 48; refine (within_any _ _ _ _).mono ?_; rintro e w' ⟨rfl, rfl⟩)
  clear F0c0 F0f0 F0c1 F0f1 F1c0 F1f0 F1c1 F1f1
  clear hx
  go_loopw [25] (fun i wr => DRel w w1.heap.size lim A n c ps x i wr) (fun i _ => n - (intOf i).toNat)
  case atStart => exact R0.out
  case round =>
    obtain ⟨k, m, Av, cv, hk, hm, rfl, hD⟩ := hrel
    clear R0 F
    have HD := Lib.hid hD
    by_cases hlt : k < n
    · obtain ⟨b, off, p, rfl, hb, hp, c0, c1, c2, c3⟩ := pr_at hD.fr.pr hlt
      have HP := Lib.hid hp
      obtain ⟨l0, l1, g0, g1⟩ := blk_two hD.l
      have zb := blk_lt hD.l
      clear hD hp
      by_cases hx : p.peer = x
      · have hxb : (p.peer == x) = true := by simp [hx]
        have hxn : (p.peer != x) = false := by simp [hx]
        have HX := Lib.hid hx
        clear hx
        go_wp2
        go_roundw
        case rel => exact ⟨k + 1, m, Av, cv, by omega, by omega, by go_num, by rw [restOf_hit HP.out HX.out]; exact dk_alloc HD.out _⟩
        case measure => simp [intOf]; omega
      · have hxb : (p.peer == x) = false := by simp [hx]
        have hxn : (p.peer != x) = true := by simp [hx]
        have HX := Lib.hid hx
        have O1 := Lib.hid ((HD.out.own.alloc (.cells #[.int .i64 p.peer, .int .i64 p.lane, .int .i64 p.size, .int .i64 p.id] 51)).alloc (.cells #[.int .i64 p.peer, .int .i64 p.lane, .int .i64 p.size, .int .i64 p.id] 51))
        have D1 := Lib.hid (dk_alloc (dk_alloc HD.out (.cells #[.int .i64 p.peer, .int .i64 p.lane, .int .i64 p.size, .int .i64 p.id] 51)) (.cells #[.int .i64 p.peer, .int .i64 p.lane, .int .i64 p.size, .int .i64 p.id] 51))
        clear hx
        go_wp2_with (at_builtin
                     refine wpl_app_pkts _ rfl (.tmp 34) (.tmp 36) rfl (w1.heap.size + 1) (.slice Av m cv) m _ rfl O1.out (some ⟨wr.heap.size + 1, 0, none⟩) 1 1 [p] rfl (pr_single (blk_at (by simp) _ _)) (by omega) (by simp; omega) ?_
                     intro v4 w4 ho4 hg4 hat4
                     obtain ⟨l0', l1', g0', g1'⟩ := blk_two (blk_grownQ D1.out.l hg4 (fun e => by have := (HD.out.own.lt _ e.symm).1; omega))
                     obtain ⟨A4, c4, rfl, -, -, -⟩ := own_form ho4
                     have D4 := Lib.hid (dk_next D1.out hg4 ho4)
                     clear hg4 ho4 hat4 l0 l1 g0 g1)
        go_roundw
        case rel => exact ⟨k + 1, m + 1, A4, c4, by omega, by omega, by go_num, by rw [restOf_miss HP.out HX.out]; exact D4.out⟩
        case measure => simp [intOf]; omega
    · obtain rfl : k = n := by omega
      have HE := Lib.hid (de_dk hD)
      have O1 := Lib.hid (show Blk wr.drew (w.heap.size + 1) 25 #[.int .i64 0, (.slice none 0 0)] from hD.fr.it 1 _ _ rfl)
      have e1 : restOf (ps.take k) x = restOf ps x := by rw [List.take_of_length_le (by have := HL.out; omega)]
      rw [e1] at HE
      have zk := hD.hL
      have zr := blk_lt hD.l
      have hS := de_cells HE.out
      clear hD HD e1
      go_wp2_with fail
      go_region_held3 (fun w' => w'.cell? ⟨w.heap.size, 0, none⟩ = some (.int .i64 lim) ∧ w'.cell? ⟨w.heap.size, 1, none⟩ = some (.slice A k c) ∧ w'.cell? ⟨w1.heap.size, 0, none⟩ = some (.int .i64 lim) ∧ w'.cell? ⟨w1.heap.size, 1, none⟩ = some (.slice Av m cv) ∧ DE w w1.heap.size lim A k c ps Av m cv (restOf ps x) w')
        (first
          | (with_reducible assumption)
          | (with_reducible exact de_cells (de_set (de_set hS5.2.2.2.2 _ _) _ _))
          | fail)
        (first
          | (go_at_call 49
             refine (ofI_any A k c ps x _ HE.out.fr.pr hn).mono ?_
             rintro e w5 ⟨A5, n5, c5, rfl, h5a, h5b, h5c, h5d, h5e⟩
             have hS5 := de_cells (de_below HE.out h5e)
             obtain ⟨o0, o1, f0, f1⟩ := blk_two (blk_below O1.out h5e (by simp; omega))
             have HO5 := Lib.hid h5d
             have z5 := h5e.size
             clear h5a h5b h5c h5d h5e))
      all_goals
        have HX := Lib.hid hS5.2.2.2.2
        clear hS5
        go_wp2
        refine bodyPost_ret (v := .tuple #[.agg #[.int .i64 lim, (.slice Av m cv)], .slice A5 n5 c5, .bool true]) (by simp [results, Try.results15, go_sem, o0, o1]) rfl (qpostl_mk rfl ?_ ?_ ?_ ?_)
        · exact own_mono (de_set (de_set HX.out _ _) _ _).own (by omega)
        · exact own_mono (own_set_far (own_set_far HO5.out (by simp; omega) _) (by simp; omega) _) (by simp; omega)
        · intro b' e' e2
          have h1 := (HE.out.own.lt b' e').2
          have h2 := (HO5.out.lt b' e2).1
          omega
        · exact (de_set (de_set HX.out _ _) _ _).fr.below
end Go.Proofs.Ytapoahoknlaeaab
