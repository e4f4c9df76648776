/-
  Chapter 4: Reserve, Release, NewAccount; the model's. Conditions: a slice has at most 4000000000 numbers. Chapter 4: NewAccount, FairShares and OverShare; the model's. Conditions: a slice's length fits an int. Chapter 4: OverShare; the model's. Conditions: a slice's length fits an int. Chapter 4: shares that are dealt several bytes at a time; plain mathematics. Conditions: none; every lemma says what it asks.
  Conditions: each lemma says them.
-/
import Derived.Test.YtanaeebjcbbagaaKhZ1
import Derived.Deep.DeepCutAuto
namespace Go.Proofs.Ytanaeebjcbbagaa
open Go.RowKit
def APost1 (w : World) (lim each : Int) (us : List Int) (ok : Bool) (e : Ending) (w' : World) : Prop :=
  ∃ A n c, e = .returned (.tuple #[.agg #[.int .i64 lim, .int .i64 each, (.slice A n c)], .bool ok]) ∧ n = us.length ∧ w'.ownsRow w.heap.size 3 1 (.slice A n c) n (icells us) ∧ Below w.heap.size w w'
theorem apost1_mk {w w' : World} {lim each : Int} {us : List Int} {ok : Bool} {e : Ending} {A : Option Addr} {n c : Nat} (he : e = .returned (.tuple #[.agg #[.int .i64 lim, .int .i64 each, (.slice A n c)], .bool ok])) (ho : w'.ownsRow w.heap.size 3 1 (.slice A n c) n (icells us)) (hb : Below w.heap.size w w') : APost1 w lim each us ok e w' :=
  ⟨A, n, c, he, ((nr_own ho).1).symm, ho, hb⟩
end Go.Proofs.Ytanaeebjcbbagaa
namespace Go.Proofs.Ytanaeebjcbbagaa
open Go.RowKit
end Go.Proofs.Ytanaeebjcbbagaa
namespace Go.Proofs.Ytanaeebjcbbagaa
open Go.RowKit
end Go.Proofs.Ytanaeebjcbbagaa
namespace Go.Proofs.Ytanaeebjcbbagaa
open Go.RowKit
end Go.Proofs.Ytanaeebjcbbagaa
