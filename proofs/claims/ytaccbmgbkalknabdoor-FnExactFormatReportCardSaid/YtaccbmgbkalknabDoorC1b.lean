/-
  Chapter 1: packets of a peer, equality: what the program's functions and the model's return. Conditions: the slice has at most 4000000000 packets.
-/
import Derived.Test.YtaccbmgbkalknabDoorBase
import Derived.Test.YtaccbmgbkalknabDoorAppPkt
namespace Go.Proofs.YtaccbmgbkalknabDoor
open Go.RowKit

def ofPeer (ps : List Pkt) (x : Int) : List Pkt := ps.filter (fun p => p.peer == x)
theorem ofPeer_hit {ps : List Pkt} {k : Nat} {p : Pkt} {x : Int} (h : ps[k]? = some p) (hx : p.peer = x) : ofPeer (ps.take (k + 1)) x = ofPeer (ps.take k) x ++ [p] := by
  rw [List.take_add_one, h]; simp [ofPeer, List.filter_append, hx]
theorem ofPeer_miss {ps : List Pkt} {k : Nat} {p : Pkt} {x : Int} (h : ps[k]? = some p) (hx : ¬ p.peer = x) : ofPeer (ps.take (k + 1)) x = ofPeer (ps.take k) x := by
  rw [List.take_add_one, h]; simp [ofPeer, List.filter_append, hx]
theorem ofPeer_len (ps : List Pkt) (x : Int) : (ofPeer ps x).length ≤ ps.length := List.length_filter_le _ _
def OfPost (w : World) (ps : List Pkt) (x : Int) (e : Ending) (w' : World) : Prop :=
  ∃ A n c, e = .returned (.slice A n c) ∧ n ≤ ps.length ∧ n ≤ c ∧ c ≤ maxLen ∧ w'.ownsRow w.heap.size 47 4 (.slice A n c) n (pcells (ofPeer ps x)) ∧ Below w.heap.size w w'
def OfRel (w : World) (ps : List Pkt) (x : Int) (n : Nat) (v i : Value) (wr : World) : Prop :=
  ∃ k m : Nat, k ≤ n ∧ m ≤ k ∧ i = .int .i64 (k : Int) ∧ wr.ownsRow w.heap.size 47 4 v m (pcells (ofPeer (ps.take k) x)) ∧ Below w.heap.size w wr
theorem of_end {w wr : World} {ps : List Pkt} {x : Int} {n m : Nat} {v : Value} (hl : ps.length = n) (hm : m ≤ n) (ho : wr.ownsRow w.heap.size 47 4 v m (pcells (ofPeer (ps.take n) x))) (hb : Below w.heap.size w wr) : OfPost w ps x (.returned v) wr := by
  obtain ⟨A, c, rfl, h1, h2, _⟩ := own_form ho
  rw [List.take_of_length_le (by omega)] at ho
  exact ⟨A, m, c, rfl, by omega, h1, h2, ho, hb⟩
theorem grown_own {w w1 w2 : World} {base : Nat} {v : Value} {n : Nat} {xs : List Value} {e : TypeId} (ho : w1.ownsRow base e 4 v n xs) (hb : Below base w w1) {o : Obj} {w1' : World} (h1 : w1' = w1.alloc o) (hg : w1'.grownBy w2 v.ownBlock) (hs : base ≤ w1.heap.size) : Below base w w2 := by
  subst h1
  exact (hb.alloc hs o).grown hg (by simp; omega) fun k hk => (ho.lt k hk).1

set_option maxRecDepth 100000 in
set_option maxHeartbeats 1000000 in
theorem ofS_any (A : Option Addr) (n c : Nat) (ps : List Pkt) (x : Int) (w : World) (h : PR w A n ps) (hn : n ≤ 4000000000) :
    Calls Tryd.prog 34 #[.slice A n c, .int .i64 x] w (OfPost w ps x) := by
  have H := Lib.hid h
  clear h
  have R0 : OfRel w ps x n (.slice (some ⟨w.heap.size, 0, none⟩) 0 0) (.int .i64 0) (w.alloc (.cells #[] 47)) :=
    ⟨0, 0, Nat.zero_le _, Nat.le_refl _, rfl, ⟨rfl, .inr ⟨w.heap.size, 0, #[], rfl, Nat.le_refl _, blk_new w _ _, Nat.le_refl _, by unfold maxLen; omega, rfl, rfl⟩⟩, below_alloc (Below.refl _ _) _⟩
  have HR := Lib.hid R0
  clear R0
  go_enter Tryd.func34, Tryd.ntmps34
  go_wp2
  go_loopw [5, 6] (fun v i wr => OfRel w ps x n v i wr) (fun _ i _ => n - (intOf i).toNat)
  case atStart => exact HR.out
  case round =>
    obtain ⟨k, m, hk, hm, rfl, ho, hbl⟩ := hrel
    clear HR
    by_cases hlt : k < n
    · obtain ⟨b, off, p, rfl, hb, hp, c0, c1, c2, c3⟩ := pr_at (pr_below H.out hbl) hlt
      have HP := Lib.hid hp
      have hsz := hbl.size
      have HB := Lib.hid hbl
      have HO := Lib.hid ho
      clear hp hbl ho
      by_cases hx : p.peer = x
      · have hxb : (p.peer == x) = true := by simp [hx]
        have HX := Lib.hid hx
        clear hx
        go_wp2_with (at_builtin; refine wp_app_pkt _ rfl (.tmp 21) (.tmp 26) rfl w.heap.size u5 m _ p rfl HO.out _ rfl rfl (by omega) (by omega) ?_; intro v' w3 hown3 hg3)
        have L := grown_own HO.out HB.out rfl hg3 hsz
        clear hg3
        have HL := Lib.hid L
        clear L
        go_wp2
        go_roundw
        case rel => exact ⟨k + 1, m + 1, by omega, by omega, by go_num, by rw [ofPeer_hit HP.out HX.out]; exact hown3, HL.out⟩
        case measure => simp [intOf]; omega
      · have hxb : (p.peer == x) = false := by simp [hx]
        have HX := Lib.hid hx
        clear hx
        go_wp2
        go_roundw
        case rel => exact ⟨k + 1, m, by omega, by omega, by go_num, by rw [ofPeer_miss HP.out HX.out]; exact HO.out, HB.out⟩
        case measure => simp [intOf]; omega
    · obtain rfl : k = n := by omega
      have HE := Lib.hid (of_end H.out.1 hm ho hbl)
      clear ho hbl
      go_wp2
      go_ret
      exact HE.out
end Go.Proofs.YtaccbmgbkalknabDoor
