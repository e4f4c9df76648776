/-
  Chapter 8: guards: the plain maths. Conditions: none.
  Conditions: each lemma says them.
-/
import Derived.Test.YtiodhdcgfdlknaaKjZ1
import Derived.Test.YtiodhdcgfdlknaaKhZ1
import Derived.Test.YtiodhdcgfdlknaaK2Z1
import Derived.Test.YtiodhdcgfdlknaaK7Z1
namespace Go.Proofs.Ytiodhdcgfdlknaa
open Go.RowKit
structure Gd where
  tm : Int
  all : Pkt
  each : List Pkt
  lim : Int
  ea : Int
  us : List Int
  ln : Ln
  sc : List Pkt
open Classical in
noncomputable def gsB (a b : Gd) : Bool := decide (a = b)
theorem gs_iff {a b : Gd} : gsB a b = true ↔ a = b := by simp [gsB]
theorem gs_yes {a b : Gd} (h : a = b) : true = gsB a b := (gs_iff.2 h).symm
theorem gs_no {a b : Gd} (h : a ≠ b) : false = gsB a b := by
  rcases hk : gsB a b with _ | _
  · rfl
  · exact absurd (gs_iff.1 hk) h
theorem gd_ext {a b : Gd} (h0 : a.tm = b.tm) (h1 : a.all = b.all) (h2 : a.each = b.each) (h3 : a.lim = b.lim) (h4 : a.ea = b.ea) (h5 : a.us = b.us) (h6 : a.ln = b.ln) (h7 : a.sc = b.sc) : a = b := by
  cases a; cases b; simp_all
end Go.Proofs.Ytiodhdcgfdlknaa
