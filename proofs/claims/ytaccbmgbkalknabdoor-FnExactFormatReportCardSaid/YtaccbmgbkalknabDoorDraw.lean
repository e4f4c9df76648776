/-
  The draws of packets: what they return, whatever the bytes. Conditions: the source is as open leaves it, its counter is small.
-/
import Derived.Test.YtaccbmgbkalknabDoorRd
namespace Go.Proofs.YtaccbmgbkalknabDoor
open Go.RowKit

def NumPost (w : World) (g q : Nat) (xs : List Int) (e : Ending) (w' : World) : Prop :=
  ∃ x : Int, x ∈ xs ∧ e = .returned (.int .i64 x) ∧ w.grownBy w' (some g) ∧ RdAt w' g q
set_option maxRecDepth 100000 in
set_option maxHeartbeats 400000 in
theorem num_any (g q b c : Nat) (xs : List Int) (w : World) (h : RdAt w g q) (hq : q ≤ 1000000) (hx : 0 < xs.length) (hg : g < b)
    (hc : ∀ k x, xs[k]? = some x → w.cell? ⟨b, k, none⟩ = some (.int .i64 x)) (hb : b < w.heap.size) :
    Calls Tryd.prog 26 #[.pointer (some ⟨g, 0, none⟩), .slice (some ⟨b, 0, none⟩) xs.length c] w (NumPost w g (q + 1) xs) := by
  obtain ⟨n, hn⟩ : ∃ n, n = xs.length := ⟨_, rfl⟩
  rw [← hn]
  have hx' : 0 < n := by omega
  have HN := Lib.hid hn
  clear hn hx
  have HC := Lib.hid hc
  clear hc
  go_enter Tryd.func26, Tryd.ntmps26
  go_wp2_with fail
  refine (pick_any g q _ _ h hq (by omega)).mono ?_
  rintro e w1 ⟨k, rfl, hk, hgr, hrd⟩
  have hkn : k < n := by omega
  have e1 : w1.cell? ⟨b, k, none⟩ = some (.int .i64 (xs[k]'(by rw [← HN.out]; exact hkn))) :=
    (g_cell hgr hb (by omega)).trans (HC.out k _ (List.getElem?_eq_getElem (by rw [← HN.out]; exact hkn)))
  have HG := Lib.hid hgr
  have HR := Lib.hid hrd
  clear hgr hrd h
  obtain ⟨x, hxx⟩ : ∃ x, x = xs[k]'(by rw [← HN.out]; exact hkn) := ⟨_, rfl⟩
  rw [← hxx] at e1
  have hmem : x ∈ xs := by rw [hxx]; exact List.getElem_mem _
  clear hxx
  go_wp2
  go_ret
  exact ⟨x, hmem, rfl, HG.out, HR.out⟩

/-- what comes in as bytes: nil, or a row of them -/
def Bytes (w : World) (A : Option Addr) (n c : Nat) : Prop :=
  n ≤ c ∧ (0 < n → ∃ b off, A = some ⟨b, off, none⟩ ∧ b < w.heap.size ∧ ∀ k, k < n → ∃ x : Nat, x < 256 ∧ w.cell? ⟨b, off + k, none⟩ = some (.int .u8 (x : Int)))
theorem bytes_below {w w' : World} {A : Option Addr} {n c : Nat} (h : Bytes w A n c) (hb : Below w.heap.size w w') : Bytes w' A n c :=
  ⟨h.1, fun hn => by
    obtain ⟨b, off, e, hlt, hc⟩ := h.2 hn
    exact ⟨b, off, e, Nat.lt_of_lt_of_le hlt hb.size, fun k hk => by
      obtain ⟨x, hx, hcx⟩ := hc k hk
      exact ⟨x, hx, ((bcell hb).1 b _ hlt).trans hcx⟩⟩⟩
def OpenPost (w : World) (e : Ending) (w' : World) : Prop :=
  ∃ g : Nat, e = .returned (.pointer (some ⟨g, 0, none⟩)) ∧ w.heap.size ≤ g ∧ Below w.heap.size w w' ∧ RdAt w' g 0
theorem open_end (A : Option Addr) (n c : Nat) (w : World) (hn : n ≤ 2000) (h : 0 < n → ∃ b off, A = some ⟨b, off, none⟩ ∧ b < w.heap.size ∧ ∀ k, k < n → ∃ x : Nat, x < 256 ∧ w.cell? ⟨b, off + k, none⟩ = some (.int .u8 (x : Int))) :
    OpenPost w (.returned (.pointer (some ⟨w.heap.size, 0, none⟩))) (w.alloc (.cells #[.slice A n c, .int .i64 0] 53)) := by
  have hb : Below w.heap.size w (w.alloc (.cells #[.slice A n c, .int .i64 0] 53)) := below_alloc (Below.refl _ _) _
  refine ⟨w.heap.size, rfl, Nat.le_refl _, hb, A, n, c, 0, blk_new w _ _, hn, Nat.le_refl _, fun hn' => ?_⟩
  obtain ⟨b, off, e, hlt, hc⟩ := h hn'
  exact ⟨b, off, e, hlt, fun k hk => by
    obtain ⟨x, hx, hcx⟩ := hc k hk
    exact ⟨x, hx, ((bcell hb).1 b _ hlt).trans hcx⟩⟩
set_option maxRecDepth 100000 in
set_option maxHeartbeats 400000 in
theorem open_any (A : Option Addr) (n c : Nat) (w : World) (h : Bytes w A n c) :
    Calls Tryd.prog 15 #[.slice A n c] w (OpenPost w) := by
  obtain ⟨hnc, h⟩ := h
  have H := Lib.hid h
  clear h
  by_cases hn : n ≤ 2000
  · go_enter Tryd.func15, Tryd.ntmps15
    go_wp2
    go_ret
    exact open_end A n c w hn H.out
  · obtain ⟨b, off, rfl, hlt, hc⟩ := H.out (by omega)
    have HC := Lib.hid hc
    clear hc
    go_enter Tryd.func15, Tryd.ntmps15
    go_wp2
    go_ret
    exact open_end _ 2000 c w (by omega) fun _ => ⟨b, off, rfl, hlt, fun k hk => HC.out k (by omega)⟩
theorem lit_cells (w : World) (t : TypeId) (cs : Array Value) (xs : List Int) (b : Nat) (hb : b = w.heap.size) (h : cs.toList = xs.map (Value.int .i64)) :
    ∀ k x, xs[k]? = some x → (w.alloc (.cells cs t)).cell? ⟨b, k, none⟩ = some (.int .i64 x) := fun k x hk => by
  subst hb
  rw [blk_cell (blk_new w t cs), ← Array.getElem?_toList, h, List.getElem?_map, hk]; rfl
/-- num at a list that was written out just ahead of the call -/
theorem num_lit (g q b n : Nat) (t : TypeId) (cs : Array Value) (xs : List Int) (w : World) (h : RdAt w g q) (hq : q ≤ 1000000) (hb : b = w.heap.size) (hx : xs.length = n ∧ 0 < n) (hcs : cs.toList = xs.map (Value.int .i64)) :
    Calls Tryd.prog 26 #[.pointer (some ⟨g, 0, none⟩), .slice (some ⟨b, 0, none⟩) n n] (w.alloc (.cells cs t)) (NumPost w g (q + 1) xs) := by
  subst hb
  obtain ⟨rfl, hx⟩ := hx
  refine (num_any g q w.heap.size _ xs (w.alloc (.cells cs t)) (rd_alloc h _) hq hx (rd_lt h) (lit_cells w t cs xs _ rfl hcs) (by simp)).mono ?_
  rintro e w1 ⟨x, hx, he, hg, hr⟩
  exact ⟨x, hx, he, (World.grownBy_alloc w _ _).trans hg, hr⟩
end Go.Proofs.YtaccbmgbkalknabDoor
