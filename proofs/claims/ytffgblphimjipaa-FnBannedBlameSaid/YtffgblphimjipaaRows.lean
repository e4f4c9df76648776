/-
  No cell of these rows narrows 'for every input' (looked for: loops, veiled, ifaces, maps, wideKeys, modest, calm, conditions, laid).
  DERIVED. THE GIVEN ROWS OF THIS SEAT. 12 by the template 'for every input the law returns true; each argument reads behind the call as it read before'; 0 by the template 'total and deterministic' (their statements: YtffgblphimjipaaTotals.lean).
  GIVEN WITH THE SEED: the statements are not yours to turn. If you find one false, say at which input.
  Laid BY PROGRAM, IN A SANDBOX (cutbox-rows.mjs): the forced cells as the released guide's own fill.sh prints them over the translation d8a1bea862a9384c… (all of the seat's roots in one cut). By AI agents, Wed Nov 11 2026. No macro, syntax, notation, axiom, sorry.
-/
import Derived.Test.YtffgblphimjipaaChecked
import GoSem.Claim
import GoSem.ClaimJoined
import GoSem.ClaimMapViews
import Derived.JoinedTies
import Derived.KernelRfl
namespace Go.Proofs.Ytffgblphimjipaa
/- THE CELL 'sum', in the pinned program and in every row, IS THE sha256 OF THE DUMP (.gsa) THAT YtffgblphimjipaaProg.lean LOADS. Nothing in Lean hashes anything: it is a label: what it is worth is what the hold of that sum in a sandbox is worth. -/
noncomputable def Try.pinned : Pinned := { name := "ytffgblphimjipaa", sum := "d8a1bea862a9384c1569399fb823ca617861a9338b349e5521c8f84c6f047780", checked := Try.checked }
namespace Rows
def none {H : Type} : Left H := { results := [], args := [] }

/-- 'laws.FnBlame': WHATEVER THE INPUT: true; the input reads as it did. -/
def fnBlameSpec : ChangeSpec := { name := "fnBlame", fn := fun _ => fun
  | [d] => { results := [.lit (.bool true)], args := [d] }
  | _ => none }
def fnBlameRow : OpenClaim := { program := "ytffgblphimjipaa", sum := "d8a1bea862a9384c1569399fb823ca617861a9338b349e5521c8f84c6f047780", func := "loop.example/trafficguard/laws.FnBlame", spec := "fnBlame", apart := false }
def FnBlameSaid : Prop := fnBlameRow.holds Try.pinned (OpenSpec.ofChange fnBlameSpec)

/-- ITS FALSE NEIGHBOUR: 'it returns false'. Refute it at one input. -/
def fnBlameWrong : ChangeSpec := { name := "fnBlame", fn := fun _ => fun
  | [d] => { results := [.lit (.bool false)], args := [d] }
  | _ => none }
def FnBlameWrongFalsely : Prop := fnBlameRow.holds Try.pinned (OpenSpec.ofChange fnBlameWrong)

/-- 'laws.FnPointsAt': WHATEVER THE INPUT: true; the input reads as it did. -/
def fnPointsAtSpec : ChangeSpec := { name := "fnPointsAt", fn := fun _ => fun
  | [d] => { results := [.lit (.bool true)], args := [d] }
  | _ => none }
def fnPointsAtRow : OpenClaim := { program := "ytffgblphimjipaa", sum := "d8a1bea862a9384c1569399fb823ca617861a9338b349e5521c8f84c6f047780", func := "loop.example/trafficguard/laws.FnPointsAt", spec := "fnPointsAt", apart := false }
def FnPointsAtSaid : Prop := fnPointsAtRow.holds Try.pinned (OpenSpec.ofChange fnPointsAtSpec)

/-- ITS FALSE NEIGHBOUR: 'it returns false'. Refute it at one input. -/
def fnPointsAtWrong : ChangeSpec := { name := "fnPointsAt", fn := fun _ => fun
  | [d] => { results := [.lit (.bool false)], args := [d] }
  | _ => none }
def FnPointsAtWrongFalsely : Prop := fnPointsAtRow.holds Try.pinned (OpenSpec.ofChange fnPointsAtWrong)

/-- 'laws.FnBlameSplit': WHATEVER THE INPUT: true; the input reads as it did. -/
def fnBlameSplitSpec : ChangeSpec := { name := "fnBlameSplit", fn := fun _ => fun
  | [d] => { results := [.lit (.bool true)], args := [d] }
  | _ => none }
def fnBlameSplitRow : OpenClaim := { program := "ytffgblphimjipaa", sum := "d8a1bea862a9384c1569399fb823ca617861a9338b349e5521c8f84c6f047780", func := "loop.example/trafficguard/laws.FnBlameSplit", spec := "fnBlameSplit", apart := false }
def FnBlameSplitSaid : Prop := fnBlameSplitRow.holds Try.pinned (OpenSpec.ofChange fnBlameSplitSpec)

/-- ITS FALSE NEIGHBOUR: 'it returns false'. Refute it at one input. -/
def fnBlameSplitWrong : ChangeSpec := { name := "fnBlameSplit", fn := fun _ => fun
  | [d] => { results := [.lit (.bool false)], args := [d] }
  | _ => none }
def FnBlameSplitWrongFalsely : Prop := fnBlameSplitRow.holds Try.pinned (OpenSpec.ofChange fnBlameSplitWrong)

/-- 'laws.FnIsBanned': WHATEVER THE INPUT: true; the input reads as it did. -/
def fnIsBannedSpec : ChangeSpec := { name := "fnIsBanned", fn := fun _ => fun
  | [d] => { results := [.lit (.bool true)], args := [d] }
  | _ => none }
def fnIsBannedRow : OpenClaim := { program := "ytffgblphimjipaa", sum := "d8a1bea862a9384c1569399fb823ca617861a9338b349e5521c8f84c6f047780", func := "loop.example/trafficguard/laws.FnIsBanned", spec := "fnIsBanned", apart := false }
def FnIsBannedSaid : Prop := fnIsBannedRow.holds Try.pinned (OpenSpec.ofChange fnIsBannedSpec)

/-- ITS FALSE NEIGHBOUR: 'it returns false'. Refute it at one input. -/
def fnIsBannedWrong : ChangeSpec := { name := "fnIsBanned", fn := fun _ => fun
  | [d] => { results := [.lit (.bool false)], args := [d] }
  | _ => none }
def FnIsBannedWrongFalsely : Prop := fnIsBannedRow.holds Try.pinned (OpenSpec.ofChange fnIsBannedWrong)

/-- 'laws.FnBanLength': WHATEVER THE INPUT: true; the input reads as it did. -/
def fnBanLengthSpec : ChangeSpec := { name := "fnBanLength", fn := fun _ => fun
  | [d] => { results := [.lit (.bool true)], args := [d] }
  | _ => none }
def fnBanLengthRow : OpenClaim := { program := "ytffgblphimjipaa", sum := "d8a1bea862a9384c1569399fb823ca617861a9338b349e5521c8f84c6f047780", func := "loop.example/trafficguard/laws.FnBanLength", spec := "fnBanLength", apart := false }
def FnBanLengthSaid : Prop := fnBanLengthRow.holds Try.pinned (OpenSpec.ofChange fnBanLengthSpec)

/-- ITS FALSE NEIGHBOUR: 'it returns false'. Refute it at one input. -/
def fnBanLengthWrong : ChangeSpec := { name := "fnBanLength", fn := fun _ => fun
  | [d] => { results := [.lit (.bool false)], args := [d] }
  | _ => none }
def FnBanLengthWrongFalsely : Prop := fnBanLengthRow.holds Try.pinned (OpenSpec.ofChange fnBanLengthWrong)

/-- 'laws.FnPardon': WHATEVER THE INPUT: true; the input reads as it did. -/
def fnPardonSpec : ChangeSpec := { name := "fnPardon", fn := fun _ => fun
  | [d] => { results := [.lit (.bool true)], args := [d] }
  | _ => none }
def fnPardonRow : OpenClaim := { program := "ytffgblphimjipaa", sum := "d8a1bea862a9384c1569399fb823ca617861a9338b349e5521c8f84c6f047780", func := "loop.example/trafficguard/laws.FnPardon", spec := "fnPardon", apart := false }
def FnPardonSaid : Prop := fnPardonRow.holds Try.pinned (OpenSpec.ofChange fnPardonSpec)

/-- ITS FALSE NEIGHBOUR: 'it returns false'. Refute it at one input. -/
def fnPardonWrong : ChangeSpec := { name := "fnPardon", fn := fun _ => fun
  | [d] => { results := [.lit (.bool false)], args := [d] }
  | _ => none }
def FnPardonWrongFalsely : Prop := fnPardonRow.holds Try.pinned (OpenSpec.ofChange fnPardonWrong)

/-- 'laws.FnFreeAt': WHATEVER THE INPUT: true; the input reads as it did. -/
def fnFreeAtSpec : ChangeSpec := { name := "fnFreeAt", fn := fun _ => fun
  | [d] => { results := [.lit (.bool true)], args := [d] }
  | _ => none }
def fnFreeAtRow : OpenClaim := { program := "ytffgblphimjipaa", sum := "d8a1bea862a9384c1569399fb823ca617861a9338b349e5521c8f84c6f047780", func := "loop.example/trafficguard/laws.FnFreeAt", spec := "fnFreeAt", apart := false }
def FnFreeAtSaid : Prop := fnFreeAtRow.holds Try.pinned (OpenSpec.ofChange fnFreeAtSpec)

/-- ITS FALSE NEIGHBOUR: 'it returns false'. Refute it at one input. -/
def fnFreeAtWrong : ChangeSpec := { name := "fnFreeAt", fn := fun _ => fun
  | [d] => { results := [.lit (.bool false)], args := [d] }
  | _ => none }
def FnFreeAtWrongFalsely : Prop := fnFreeAtRow.holds Try.pinned (OpenSpec.ofChange fnFreeAtWrong)

/-- 'laws.FnBlameTwice': WHATEVER THE INPUT: true; the input reads as it did. -/
def fnBlameTwiceSpec : ChangeSpec := { name := "fnBlameTwice", fn := fun _ => fun
  | [d] => { results := [.lit (.bool true)], args := [d] }
  | _ => none }
def fnBlameTwiceRow : OpenClaim := { program := "ytffgblphimjipaa", sum := "d8a1bea862a9384c1569399fb823ca617861a9338b349e5521c8f84c6f047780", func := "loop.example/trafficguard/laws.FnBlameTwice", spec := "fnBlameTwice", apart := false }
def FnBlameTwiceSaid : Prop := fnBlameTwiceRow.holds Try.pinned (OpenSpec.ofChange fnBlameTwiceSpec)

/-- ITS FALSE NEIGHBOUR: 'it returns false'. Refute it at one input. -/
def fnBlameTwiceWrong : ChangeSpec := { name := "fnBlameTwice", fn := fun _ => fun
  | [d] => { results := [.lit (.bool false)], args := [d] }
  | _ => none }
def FnBlameTwiceWrongFalsely : Prop := fnBlameTwiceRow.holds Try.pinned (OpenSpec.ofChange fnBlameTwiceWrong)

/-- 'laws.FnBanTime': WHATEVER THE INPUT: true; the input reads as it did. -/
def fnBanTimeSpec : ChangeSpec := { name := "fnBanTime", fn := fun _ => fun
  | [d] => { results := [.lit (.bool true)], args := [d] }
  | _ => none }
def fnBanTimeRow : OpenClaim := { program := "ytffgblphimjipaa", sum := "d8a1bea862a9384c1569399fb823ca617861a9338b349e5521c8f84c6f047780", func := "loop.example/trafficguard/laws.FnBanTime", spec := "fnBanTime", apart := false }
def FnBanTimeSaid : Prop := fnBanTimeRow.holds Try.pinned (OpenSpec.ofChange fnBanTimeSpec)

/-- ITS FALSE NEIGHBOUR: 'it returns false'. Refute it at one input. -/
def fnBanTimeWrong : ChangeSpec := { name := "fnBanTime", fn := fun _ => fun
  | [d] => { results := [.lit (.bool false)], args := [d] }
  | _ => none }
def FnBanTimeWrongFalsely : Prop := fnBanTimeRow.holds Try.pinned (OpenSpec.ofChange fnBanTimeWrong)

/-- 'laws.FnPointsFree': WHATEVER THE INPUT: true; the input reads as it did. -/
def fnPointsFreeSpec : ChangeSpec := { name := "fnPointsFree", fn := fun _ => fun
  | [d] => { results := [.lit (.bool true)], args := [d] }
  | _ => none }
def fnPointsFreeRow : OpenClaim := { program := "ytffgblphimjipaa", sum := "d8a1bea862a9384c1569399fb823ca617861a9338b349e5521c8f84c6f047780", func := "loop.example/trafficguard/laws.FnPointsFree", spec := "fnPointsFree", apart := false }
def FnPointsFreeSaid : Prop := fnPointsFreeRow.holds Try.pinned (OpenSpec.ofChange fnPointsFreeSpec)

/-- ITS FALSE NEIGHBOUR: 'it returns false'. Refute it at one input. -/
def fnPointsFreeWrong : ChangeSpec := { name := "fnPointsFree", fn := fun _ => fun
  | [d] => { results := [.lit (.bool false)], args := [d] }
  | _ => none }
def FnPointsFreeWrongFalsely : Prop := fnPointsFreeRow.holds Try.pinned (OpenSpec.ofChange fnPointsFreeWrong)

/-- 'laws.FnPardonTwice': WHATEVER THE INPUT: true; the input reads as it did. -/
def fnPardonTwiceSpec : ChangeSpec := { name := "fnPardonTwice", fn := fun _ => fun
  | [d] => { results := [.lit (.bool true)], args := [d] }
  | _ => none }
def fnPardonTwiceRow : OpenClaim := { program := "ytffgblphimjipaa", sum := "d8a1bea862a9384c1569399fb823ca617861a9338b349e5521c8f84c6f047780", func := "loop.example/trafficguard/laws.FnPardonTwice", spec := "fnPardonTwice", apart := false }
def FnPardonTwiceSaid : Prop := fnPardonTwiceRow.holds Try.pinned (OpenSpec.ofChange fnPardonTwiceSpec)

/-- ITS FALSE NEIGHBOUR: 'it returns false'. Refute it at one input. -/
def fnPardonTwiceWrong : ChangeSpec := { name := "fnPardonTwice", fn := fun _ => fun
  | [d] => { results := [.lit (.bool false)], args := [d] }
  | _ => none }
def FnPardonTwiceWrongFalsely : Prop := fnPardonTwiceRow.holds Try.pinned (OpenSpec.ofChange fnPardonTwiceWrong)

/-- 'laws.FnBannedBlame': WHATEVER THE INPUT: true; the input reads as it did. -/
def fnBannedBlameSpec : ChangeSpec := { name := "fnBannedBlame", fn := fun _ => fun
  | [d] => { results := [.lit (.bool true)], args := [d] }
  | _ => none }
def fnBannedBlameRow : OpenClaim := { program := "ytffgblphimjipaa", sum := "d8a1bea862a9384c1569399fb823ca617861a9338b349e5521c8f84c6f047780", func := "loop.example/trafficguard/laws.FnBannedBlame", spec := "fnBannedBlame", apart := false }
def FnBannedBlameSaid : Prop := fnBannedBlameRow.holds Try.pinned (OpenSpec.ofChange fnBannedBlameSpec)

/-- ITS FALSE NEIGHBOUR: 'it returns false'. Refute it at one input. -/
def fnBannedBlameWrong : ChangeSpec := { name := "fnBannedBlame", fn := fun _ => fun
  | [d] => { results := [.lit (.bool false)], args := [d] }
  | _ => none }
def FnBannedBlameWrongFalsely : Prop := fnBannedBlameRow.holds Try.pinned (OpenSpec.ofChange fnBannedBlameWrong)

/- THE SECOND FORM. 'bulk': how many values and letters a reading holds, each counted each time it is reached (what is shared counts as often as it is met; a slice's spare places count too). A statement '..UptoSaid' is the law's where the arguments, and the package variables that the reading takes, are together of bulk at most 1048576: NARROWER than '..Said'. Prove '..Said' where nothing that the law and all that it calls make is longer than what came in: it says more and counts as full. Else prove '..UptoSaid'. A law counts once. -/
mutual
def uptoBulk {H : Type} : DataW H → Nat
  | .lit (.string bytes) => bytes.length + 1
  | .lit _ => 1
  | .nil => 1
  | .ptr d => uptoBulk d + 1
  | .slice elems spare => uptoBulkAll elems + uptoBulkAll spare + 1
  | .agg parts => uptoBulkAll parts + 1
  | .iface _ d => uptoBulk d + 1
  | .map entries => uptoBulkEntries entries + 1
  | .held _ => 1
def uptoBulkAll {H : Type} : List (DataW H) → Nat
  | [] => 0
  | d :: r => uptoBulk d + uptoBulkAll r
def uptoBulkEntries {H : Type} : List (Lit × DataW H) → Nat
  | [] => 0
  | x :: r => uptoBulkEntry x + uptoBulkEntries r
def uptoBulkEntry {H : Type} : Lit × DataW H → Nat
  | (.string bytes, d) => bytes.length + uptoBulk d + 1
  | (_, d) => uptoBulk d + 1
 end
def uptoSmall : (H : Type) → List (DataW H) → Bool := fun _ ds => decide (uptoBulkAll ds ≤ 1048576)
def OpenSpec.upto (s : _root_.Go.ChangeSpec) : _root_.Go.OpenSpec := { _root_.Go.OpenSpec.ofChange s with cond := some uptoSmall }

/-- 'laws.FnBlame', WHERE WHAT IT READS IS OF BULK AT MOST 1048576: true; the input reads as it did. -/
def fnBlameUptoRow : OpenClaim := { program := "ytffgblphimjipaa", sum := "d8a1bea862a9384c1569399fb823ca617861a9338b349e5521c8f84c6f047780", func := "loop.example/trafficguard/laws.FnBlame", spec := "fnBlame", apart := false, narrowed := true }
def FnBlameUptoSaid : Prop := fnBlameUptoRow.holds Try.pinned (OpenSpec.upto fnBlameSpec)

/-- 'laws.FnPointsAt', WHERE WHAT IT READS IS OF BULK AT MOST 1048576: true; the input reads as it did. -/
def fnPointsAtUptoRow : OpenClaim := { program := "ytffgblphimjipaa", sum := "d8a1bea862a9384c1569399fb823ca617861a9338b349e5521c8f84c6f047780", func := "loop.example/trafficguard/laws.FnPointsAt", spec := "fnPointsAt", apart := false, narrowed := true }
def FnPointsAtUptoSaid : Prop := fnPointsAtUptoRow.holds Try.pinned (OpenSpec.upto fnPointsAtSpec)

/-- 'laws.FnBlameSplit', WHERE WHAT IT READS IS OF BULK AT MOST 1048576: true; the input reads as it did. -/
def fnBlameSplitUptoRow : OpenClaim := { program := "ytffgblphimjipaa", sum := "d8a1bea862a9384c1569399fb823ca617861a9338b349e5521c8f84c6f047780", func := "loop.example/trafficguard/laws.FnBlameSplit", spec := "fnBlameSplit", apart := false, narrowed := true }
def FnBlameSplitUptoSaid : Prop := fnBlameSplitUptoRow.holds Try.pinned (OpenSpec.upto fnBlameSplitSpec)

/-- 'laws.FnIsBanned', WHERE WHAT IT READS IS OF BULK AT MOST 1048576: true; the input reads as it did. -/
def fnIsBannedUptoRow : OpenClaim := { program := "ytffgblphimjipaa", sum := "d8a1bea862a9384c1569399fb823ca617861a9338b349e5521c8f84c6f047780", func := "loop.example/trafficguard/laws.FnIsBanned", spec := "fnIsBanned", apart := false, narrowed := true }
def FnIsBannedUptoSaid : Prop := fnIsBannedUptoRow.holds Try.pinned (OpenSpec.upto fnIsBannedSpec)

/-- 'laws.FnBanLength', WHERE WHAT IT READS IS OF BULK AT MOST 1048576: true; the input reads as it did. -/
def fnBanLengthUptoRow : OpenClaim := { program := "ytffgblphimjipaa", sum := "d8a1bea862a9384c1569399fb823ca617861a9338b349e5521c8f84c6f047780", func := "loop.example/trafficguard/laws.FnBanLength", spec := "fnBanLength", apart := false, narrowed := true }
def FnBanLengthUptoSaid : Prop := fnBanLengthUptoRow.holds Try.pinned (OpenSpec.upto fnBanLengthSpec)

/-- 'laws.FnPardon', WHERE WHAT IT READS IS OF BULK AT MOST 1048576: true; the input reads as it did. -/
def fnPardonUptoRow : OpenClaim := { program := "ytffgblphimjipaa", sum := "d8a1bea862a9384c1569399fb823ca617861a9338b349e5521c8f84c6f047780", func := "loop.example/trafficguard/laws.FnPardon", spec := "fnPardon", apart := false, narrowed := true }
def FnPardonUptoSaid : Prop := fnPardonUptoRow.holds Try.pinned (OpenSpec.upto fnPardonSpec)

/-- 'laws.FnFreeAt', WHERE WHAT IT READS IS OF BULK AT MOST 1048576: true; the input reads as it did. -/
def fnFreeAtUptoRow : OpenClaim := { program := "ytffgblphimjipaa", sum := "d8a1bea862a9384c1569399fb823ca617861a9338b349e5521c8f84c6f047780", func := "loop.example/trafficguard/laws.FnFreeAt", spec := "fnFreeAt", apart := false, narrowed := true }
def FnFreeAtUptoSaid : Prop := fnFreeAtUptoRow.holds Try.pinned (OpenSpec.upto fnFreeAtSpec)

/-- 'laws.FnBlameTwice', WHERE WHAT IT READS IS OF BULK AT MOST 1048576: true; the input reads as it did. -/
def fnBlameTwiceUptoRow : OpenClaim := { program := "ytffgblphimjipaa", sum := "d8a1bea862a9384c1569399fb823ca617861a9338b349e5521c8f84c6f047780", func := "loop.example/trafficguard/laws.FnBlameTwice", spec := "fnBlameTwice", apart := false, narrowed := true }
def FnBlameTwiceUptoSaid : Prop := fnBlameTwiceUptoRow.holds Try.pinned (OpenSpec.upto fnBlameTwiceSpec)

/-- 'laws.FnBanTime', WHERE WHAT IT READS IS OF BULK AT MOST 1048576: true; the input reads as it did. -/
def fnBanTimeUptoRow : OpenClaim := { program := "ytffgblphimjipaa", sum := "d8a1bea862a9384c1569399fb823ca617861a9338b349e5521c8f84c6f047780", func := "loop.example/trafficguard/laws.FnBanTime", spec := "fnBanTime", apart := false, narrowed := true }
def FnBanTimeUptoSaid : Prop := fnBanTimeUptoRow.holds Try.pinned (OpenSpec.upto fnBanTimeSpec)

/-- 'laws.FnPointsFree', WHERE WHAT IT READS IS OF BULK AT MOST 1048576: true; the input reads as it did. -/
def fnPointsFreeUptoRow : OpenClaim := { program := "ytffgblphimjipaa", sum := "d8a1bea862a9384c1569399fb823ca617861a9338b349e5521c8f84c6f047780", func := "loop.example/trafficguard/laws.FnPointsFree", spec := "fnPointsFree", apart := false, narrowed := true }
def FnPointsFreeUptoSaid : Prop := fnPointsFreeUptoRow.holds Try.pinned (OpenSpec.upto fnPointsFreeSpec)

/-- 'laws.FnPardonTwice', WHERE WHAT IT READS IS OF BULK AT MOST 1048576: true; the input reads as it did. -/
def fnPardonTwiceUptoRow : OpenClaim := { program := "ytffgblphimjipaa", sum := "d8a1bea862a9384c1569399fb823ca617861a9338b349e5521c8f84c6f047780", func := "loop.example/trafficguard/laws.FnPardonTwice", spec := "fnPardonTwice", apart := false, narrowed := true }
def FnPardonTwiceUptoSaid : Prop := fnPardonTwiceUptoRow.holds Try.pinned (OpenSpec.upto fnPardonTwiceSpec)

/-- 'laws.FnBannedBlame', WHERE WHAT IT READS IS OF BULK AT MOST 1048576: true; the input reads as it did. -/
def fnBannedBlameUptoRow : OpenClaim := { program := "ytffgblphimjipaa", sum := "d8a1bea862a9384c1569399fb823ca617861a9338b349e5521c8f84c6f047780", func := "loop.example/trafficguard/laws.FnBannedBlame", spec := "fnBannedBlame", apart := false, narrowed := true }
def FnBannedBlameUptoSaid : Prop := fnBannedBlameUptoRow.holds Try.pinned (OpenSpec.upto fnBannedBlameSpec)

end Rows
end Go.Proofs.Ytffgblphimjipaa
