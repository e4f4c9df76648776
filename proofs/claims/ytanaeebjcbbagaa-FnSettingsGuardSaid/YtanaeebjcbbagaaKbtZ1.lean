/-
  Chapter 8: settings: the plain maths. Conditions: none.
  Conditions: each lemma says them.
-/
import Derived.Test.YtanaeebjcbbagaaKb3Z1
import Derived.Test.YtanaeebjcbbagaaKqZ1
namespace Go.Proofs.Ytanaeebjcbbagaa
open Go.RowKit
structure St where
  r : Int
  b : Int
  pr : Int
  pb : Int
  me : Int
  ea : Int
  q : Int
  ws : List Int
def stc (s : St) (A : Option Addr) (n c : Nat) : Array Value := #[.int .i64 s.r, .int .i64 s.b, .int .i64 s.pr, .int .i64 s.pb, .int .i64 s.me, .int .i64 s.ea, .int .i64 s.q, .slice A n c]
structure SC (w : World) (b : Nat) (s : St) (A : Option Addr) (n c : Nat) : Prop where
  c0 : w.cell? ⟨b, 0, none⟩ = some (.int .i64 s.r)
  c1 : w.cell? ⟨b, 1, none⟩ = some (.int .i64 s.b)
  c2 : w.cell? ⟨b, 2, none⟩ = some (.int .i64 s.pr)
  c3 : w.cell? ⟨b, 3, none⟩ = some (.int .i64 s.pb)
  c4 : w.cell? ⟨b, 4, none⟩ = some (.int .i64 s.me)
  c5 : w.cell? ⟨b, 5, none⟩ = some (.int .i64 s.ea)
  c6 : w.cell? ⟨b, 6, none⟩ = some (.int .i64 s.q)
  c7 : w.cell? ⟨b, 7, none⟩ = some (.slice A n c)
theorem sc_blk {w : World} {s : St} {A : Option Addr} {n c b : Nat} {t : TypeId} (hB : Blk w b t (stc s A n c)) : SC w b s A n c :=
  ⟨blk_cell hB 0, blk_cell hB 1, blk_cell hB 2, blk_cell hB 3, blk_cell hB 4, blk_cell hB 5, blk_cell hB 6, blk_cell hB 7⟩
structure SV (s : St) : Prop where
  a : rbB s.r s.b = true
  p : rbB s.pr s.pb = true
  m : acB s.me s.ea (List.replicate 8 0) = true
  l : NwOk s.q s.ws
open Classical in
noncomputable def svB (s : St) : Bool := decide (SV s)
theorem sv_iff {s : St} : svB s = true ↔ SV s := by simp [svB]
theorem sv_yes {s : St} (h : SV s) : true = svB s := (sv_iff.2 h).symm
theorem sv_no {s : St} (h : ¬ SV s) : false = svB s := by
  rcases hk : svB s with _ | _
  · rfl
  · exact absurd (sv_iff.1 hk) h
def newG (s : St) (t : Int) : Gd := ⟨t, ⟨s.r, s.b, s.b, t⟩, List.replicate 8 ⟨s.pr, s.pb, s.pb, t⟩, s.me, s.ea, List.replicate 8 0, newN s.q s.ws, List.replicate 8 ⟨0, t, 0, 0⟩⟩
end Go.Proofs.Ytanaeebjcbbagaa
