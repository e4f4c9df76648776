/-
  No cell of these rows narrows 'for every input' (looked for: loops, veiled, ifaces, maps, wideKeys, modest, calm, conditions, laid).
  DERIVED. THE GIVEN ROWS OF THIS SEAT. 12 by the template 'for every input the law returns true; each argument reads behind the call as it read before'; 0 by the template 'total and deterministic' (their statements: YtclgmmnidkppmaaTotals.lean).
  GIVEN WITH THE SEED: the statements are not yours to turn. If you find one false, say at which input.
  Laid BY PROGRAM, IN A SANDBOX (cutbox-rows.mjs): the forced cells as the released guide's own fill.sh prints them over the translation abf442c8d6a8a8ab… (all of the seat's roots in one cut). By AI agents, Wed Nov 11 2026. No macro, syntax, notation, axiom, sorry.
-/
import Derived.Test.YtclgmmnidkppmaaChecked
import GoSem.Claim
import GoSem.ClaimJoined
import GoSem.ClaimMapViews
import Derived.JoinedTies
import Derived.KernelRfl
namespace Go.Proofs.Ytclgmmnidkppmaa
/- THE CELL 'sum', in the pinned program and in every row, IS THE sha256 OF THE DUMP (.gsa) THAT YtclgmmnidkppmaaProg.lean LOADS. Nothing in Lean hashes anything: it is a label: what it is worth is what the hold of that sum in a sandbox is worth. -/
noncomputable def Try.pinned : Pinned := { name := "ytclgmmnidkppmaa", sum := "abf442c8d6a8a8abbe8986d4fe3047ea535a5e8e2f281620cdf5aaec04a15b78", checked := Try.checked }
namespace Rows
def none {H : Type} : Left H := { results := [], args := [] }

/-- 'laws.FnConforms': WHATEVER THE INPUT: true; the input reads as it did. -/
def fnConformsSpec : ChangeSpec := { name := "fnConforms", fn := fun _ => fun
  | [d] => { results := [.lit (.bool true)], args := [d] }
  | _ => none }
def fnConformsRow : OpenClaim := { program := "ytclgmmnidkppmaa", sum := "abf442c8d6a8a8abbe8986d4fe3047ea535a5e8e2f281620cdf5aaec04a15b78", func := "loop.example/trafficguard/laws.FnConforms", spec := "fnConforms", apart := false }
def FnConformsSaid : Prop := fnConformsRow.holds Try.pinned (OpenSpec.ofChange fnConformsSpec)

/-- ITS FALSE NEIGHBOUR: 'it returns false'. Refute it at one input. -/
def fnConformsWrong : ChangeSpec := { name := "fnConforms", fn := fun _ => fun
  | [d] => { results := [.lit (.bool false)], args := [d] }
  | _ => none }
def FnConformsWrongFalsely : Prop := fnConformsRow.holds Try.pinned (OpenSpec.ofChange fnConformsWrong)

/-- 'laws.FnLeastBurst': WHATEVER THE INPUT: true; the input reads as it did. -/
def fnLeastBurstSpec : ChangeSpec := { name := "fnLeastBurst", fn := fun _ => fun
  | [d] => { results := [.lit (.bool true)], args := [d] }
  | _ => none }
def fnLeastBurstRow : OpenClaim := { program := "ytclgmmnidkppmaa", sum := "abf442c8d6a8a8abbe8986d4fe3047ea535a5e8e2f281620cdf5aaec04a15b78", func := "loop.example/trafficguard/laws.FnLeastBurst", spec := "fnLeastBurst", apart := false }
def FnLeastBurstSaid : Prop := fnLeastBurstRow.holds Try.pinned (OpenSpec.ofChange fnLeastBurstSpec)

/-- ITS FALSE NEIGHBOUR: 'it returns false'. Refute it at one input. -/
def fnLeastBurstWrong : ChangeSpec := { name := "fnLeastBurst", fn := fun _ => fun
  | [d] => { results := [.lit (.bool false)], args := [d] }
  | _ => none }
def FnLeastBurstWrongFalsely : Prop := fnLeastBurstRow.holds Try.pinned (OpenSpec.ofChange fnLeastBurstWrong)

/-- 'laws.FnLeastRate': WHATEVER THE INPUT: true; the input reads as it did. -/
def fnLeastRateSpec : ChangeSpec := { name := "fnLeastRate", fn := fun _ => fun
  | [d] => { results := [.lit (.bool true)], args := [d] }
  | _ => none }
def fnLeastRateRow : OpenClaim := { program := "ytclgmmnidkppmaa", sum := "abf442c8d6a8a8abbe8986d4fe3047ea535a5e8e2f281620cdf5aaec04a15b78", func := "loop.example/trafficguard/laws.FnLeastRate", spec := "fnLeastRate", unfollowed := true, recurses := true, apart := false }
def FnLeastRateSaid : Prop := fnLeastRateRow.holds Try.pinned (OpenSpec.ofChange fnLeastRateSpec)

/-- ITS FALSE NEIGHBOUR: 'it returns false'. Refute it at one input. -/
def fnLeastRateWrong : ChangeSpec := { name := "fnLeastRate", fn := fun _ => fun
  | [d] => { results := [.lit (.bool false)], args := [d] }
  | _ => none }
def FnLeastRateWrongFalsely : Prop := fnLeastRateRow.holds Try.pinned (OpenSpec.ofChange fnLeastRateWrong)

/-- 'laws.FnPeakOf': WHATEVER THE INPUT: true; the input reads as it did. -/
def fnPeakOfSpec : ChangeSpec := { name := "fnPeakOf", fn := fun _ => fun
  | [d] => { results := [.lit (.bool true)], args := [d] }
  | _ => none }
def fnPeakOfRow : OpenClaim := { program := "ytclgmmnidkppmaa", sum := "abf442c8d6a8a8abbe8986d4fe3047ea535a5e8e2f281620cdf5aaec04a15b78", func := "loop.example/trafficguard/laws.FnPeakOf", spec := "fnPeakOf", apart := false }
def FnPeakOfSaid : Prop := fnPeakOfRow.holds Try.pinned (OpenSpec.ofChange fnPeakOfSpec)

/-- ITS FALSE NEIGHBOUR: 'it returns false'. Refute it at one input. -/
def fnPeakOfWrong : ChangeSpec := { name := "fnPeakOf", fn := fun _ => fun
  | [d] => { results := [.lit (.bool false)], args := [d] }
  | _ => none }
def FnPeakOfWrongFalsely : Prop := fnPeakOfRow.holds Try.pinned (OpenSpec.ofChange fnPeakOfWrong)

/-- 'laws.FnWorstDelay': WHATEVER THE INPUT: true; the input reads as it did. -/
def fnWorstDelaySpec : ChangeSpec := { name := "fnWorstDelay", fn := fun _ => fun
  | [d] => { results := [.lit (.bool true)], args := [d] }
  | _ => none }
def fnWorstDelayRow : OpenClaim := { program := "ytclgmmnidkppmaa", sum := "abf442c8d6a8a8abbe8986d4fe3047ea535a5e8e2f281620cdf5aaec04a15b78", func := "loop.example/trafficguard/laws.FnWorstDelay", spec := "fnWorstDelay", apart := false }
def FnWorstDelaySaid : Prop := fnWorstDelayRow.holds Try.pinned (OpenSpec.ofChange fnWorstDelaySpec)

/-- ITS FALSE NEIGHBOUR: 'it returns false'. Refute it at one input. -/
def fnWorstDelayWrong : ChangeSpec := { name := "fnWorstDelay", fn := fun _ => fun
  | [d] => { results := [.lit (.bool false)], args := [d] }
  | _ => none }
def FnWorstDelayWrongFalsely : Prop := fnWorstDelayRow.holds Try.pinned (OpenSpec.ofChange fnWorstDelayWrong)

/-- 'laws.FnBurstRate': WHATEVER THE INPUT: true; the input reads as it did. -/
def fnBurstRateSpec : ChangeSpec := { name := "fnBurstRate", fn := fun _ => fun
  | [d] => { results := [.lit (.bool true)], args := [d] }
  | _ => none }
def fnBurstRateRow : OpenClaim := { program := "ytclgmmnidkppmaa", sum := "abf442c8d6a8a8abbe8986d4fe3047ea535a5e8e2f281620cdf5aaec04a15b78", func := "loop.example/trafficguard/laws.FnBurstRate", spec := "fnBurstRate", apart := false }
def FnBurstRateSaid : Prop := fnBurstRateRow.holds Try.pinned (OpenSpec.ofChange fnBurstRateSpec)

/-- ITS FALSE NEIGHBOUR: 'it returns false'. Refute it at one input. -/
def fnBurstRateWrong : ChangeSpec := { name := "fnBurstRate", fn := fun _ => fun
  | [d] => { results := [.lit (.bool false)], args := [d] }
  | _ => none }
def FnBurstRateWrongFalsely : Prop := fnBurstRateRow.holds Try.pinned (OpenSpec.ofChange fnBurstRateWrong)

/-- 'laws.FnPeakAll': WHATEVER THE INPUT: true; the input reads as it did. -/
def fnPeakAllSpec : ChangeSpec := { name := "fnPeakAll", fn := fun _ => fun
  | [d] => { results := [.lit (.bool true)], args := [d] }
  | _ => none }
def fnPeakAllRow : OpenClaim := { program := "ytclgmmnidkppmaa", sum := "abf442c8d6a8a8abbe8986d4fe3047ea535a5e8e2f281620cdf5aaec04a15b78", func := "loop.example/trafficguard/laws.FnPeakAll", spec := "fnPeakAll", apart := false }
def FnPeakAllSaid : Prop := fnPeakAllRow.holds Try.pinned (OpenSpec.ofChange fnPeakAllSpec)

/-- ITS FALSE NEIGHBOUR: 'it returns false'. Refute it at one input. -/
def fnPeakAllWrong : ChangeSpec := { name := "fnPeakAll", fn := fun _ => fun
  | [d] => { results := [.lit (.bool false)], args := [d] }
  | _ => none }
def FnPeakAllWrongFalsely : Prop := fnPeakAllRow.holds Try.pinned (OpenSpec.ofChange fnPeakAllWrong)

/-- 'laws.FnRateBurst': WHATEVER THE INPUT: true; the input reads as it did. -/
def fnRateBurstSpec : ChangeSpec := { name := "fnRateBurst", fn := fun _ => fun
  | [d] => { results := [.lit (.bool true)], args := [d] }
  | _ => none }
def fnRateBurstRow : OpenClaim := { program := "ytclgmmnidkppmaa", sum := "abf442c8d6a8a8abbe8986d4fe3047ea535a5e8e2f281620cdf5aaec04a15b78", func := "loop.example/trafficguard/laws.FnRateBurst", spec := "fnRateBurst", unfollowed := true, recurses := true, apart := false }
def FnRateBurstSaid : Prop := fnRateBurstRow.holds Try.pinned (OpenSpec.ofChange fnRateBurstSpec)

/-- ITS FALSE NEIGHBOUR: 'it returns false'. Refute it at one input. -/
def fnRateBurstWrong : ChangeSpec := { name := "fnRateBurst", fn := fun _ => fun
  | [d] => { results := [.lit (.bool false)], args := [d] }
  | _ => none }
def FnRateBurstWrongFalsely : Prop := fnRateBurstRow.holds Try.pinned (OpenSpec.ofChange fnRateBurstWrong)

/-- 'laws.FnDelayRate': WHATEVER THE INPUT: true; the input reads as it did. -/
def fnDelayRateSpec : ChangeSpec := { name := "fnDelayRate", fn := fun _ => fun
  | [d] => { results := [.lit (.bool true)], args := [d] }
  | _ => none }
def fnDelayRateRow : OpenClaim := { program := "ytclgmmnidkppmaa", sum := "abf442c8d6a8a8abbe8986d4fe3047ea535a5e8e2f281620cdf5aaec04a15b78", func := "loop.example/trafficguard/laws.FnDelayRate", spec := "fnDelayRate", apart := false }
def FnDelayRateSaid : Prop := fnDelayRateRow.holds Try.pinned (OpenSpec.ofChange fnDelayRateSpec)

/-- ITS FALSE NEIGHBOUR: 'it returns false'. Refute it at one input. -/
def fnDelayRateWrong : ChangeSpec := { name := "fnDelayRate", fn := fun _ => fun
  | [d] => { results := [.lit (.bool false)], args := [d] }
  | _ => none }
def FnDelayRateWrongFalsely : Prop := fnDelayRateRow.holds Try.pinned (OpenSpec.ofChange fnDelayRateWrong)

/-- 'laws.FnShapeBurst': WHATEVER THE INPUT: true; the input reads as it did. -/
def fnShapeBurstSpec : ChangeSpec := { name := "fnShapeBurst", fn := fun _ => fun
  | [d] => { results := [.lit (.bool true)], args := [d] }
  | _ => none }
def fnShapeBurstRow : OpenClaim := { program := "ytclgmmnidkppmaa", sum := "abf442c8d6a8a8abbe8986d4fe3047ea535a5e8e2f281620cdf5aaec04a15b78", func := "loop.example/trafficguard/laws.FnShapeBurst", spec := "fnShapeBurst", apart := false }
def FnShapeBurstSaid : Prop := fnShapeBurstRow.holds Try.pinned (OpenSpec.ofChange fnShapeBurstSpec)

/-- ITS FALSE NEIGHBOUR: 'it returns false'. Refute it at one input. -/
def fnShapeBurstWrong : ChangeSpec := { name := "fnShapeBurst", fn := fun _ => fun
  | [d] => { results := [.lit (.bool false)], args := [d] }
  | _ => none }
def FnShapeBurstWrongFalsely : Prop := fnShapeBurstRow.holds Try.pinned (OpenSpec.ofChange fnShapeBurstWrong)

/-- 'laws.FnShapeTwice': WHATEVER THE INPUT: true; the input reads as it did. -/
def fnShapeTwiceSpec : ChangeSpec := { name := "fnShapeTwice", fn := fun _ => fun
  | [d] => { results := [.lit (.bool true)], args := [d] }
  | _ => none }
def fnShapeTwiceRow : OpenClaim := { program := "ytclgmmnidkppmaa", sum := "abf442c8d6a8a8abbe8986d4fe3047ea535a5e8e2f281620cdf5aaec04a15b78", func := "loop.example/trafficguard/laws.FnShapeTwice", spec := "fnShapeTwice", apart := false }
def FnShapeTwiceSaid : Prop := fnShapeTwiceRow.holds Try.pinned (OpenSpec.ofChange fnShapeTwiceSpec)

/-- ITS FALSE NEIGHBOUR: 'it returns false'. Refute it at one input. -/
def fnShapeTwiceWrong : ChangeSpec := { name := "fnShapeTwice", fn := fun _ => fun
  | [d] => { results := [.lit (.bool false)], args := [d] }
  | _ => none }
def FnShapeTwiceWrongFalsely : Prop := fnShapeTwiceRow.holds Try.pinned (OpenSpec.ofChange fnShapeTwiceWrong)

/-- 'laws.FnShapeArrivals': WHATEVER THE INPUT: true; the input reads as it did. -/
def fnShapeArrivalsSpec : ChangeSpec := { name := "fnShapeArrivals", fn := fun _ => fun
  | [d] => { results := [.lit (.bool true)], args := [d] }
  | _ => none }
def fnShapeArrivalsRow : OpenClaim := { program := "ytclgmmnidkppmaa", sum := "abf442c8d6a8a8abbe8986d4fe3047ea535a5e8e2f281620cdf5aaec04a15b78", func := "loop.example/trafficguard/laws.FnShapeArrivals", spec := "fnShapeArrivals", apart := false }
def FnShapeArrivalsSaid : Prop := fnShapeArrivalsRow.holds Try.pinned (OpenSpec.ofChange fnShapeArrivalsSpec)

/-- ITS FALSE NEIGHBOUR: 'it returns false'. Refute it at one input. -/
def fnShapeArrivalsWrong : ChangeSpec := { name := "fnShapeArrivals", fn := fun _ => fun
  | [d] => { results := [.lit (.bool false)], args := [d] }
  | _ => none }
def FnShapeArrivalsWrongFalsely : Prop := fnShapeArrivalsRow.holds Try.pinned (OpenSpec.ofChange fnShapeArrivalsWrong)

/- THE SECOND FORM. 'bulk': how many values and letters a reading holds, each counted each time it is reached (what is shared counts as often as it is met; a slice's spare places count too). A statement '..UptoSaid' is the law's where the arguments, and the package variables that the reading takes, are together of bulk at most 1048576: NARROWER than '..Said'. Prove '..Said' where nothing that the law and all that it calls make is longer than what came in: it says more and counts as full. Else prove '..UptoSaid'. A law counts once. -/
mutual
def uptoBulk {H : Type} : DataW H → Nat
  | .lit (.string bytes) => bytes.length + 1
  | .lit _ => 1
  | .nil => 1
  | .ptr d => uptoBulk d + 1
  | .slice elems spare => uptoBulkAll elems + uptoBulkAll spare + 1
  | .agg parts => uptoBulkAll parts + 1
  | .iface _ d => uptoBulk d + 1
  | .map entries => uptoBulkEntries entries + 1
  | .held _ => 1
def uptoBulkAll {H : Type} : List (DataW H) → Nat
  | [] => 0
  | d :: r => uptoBulk d + uptoBulkAll r
def uptoBulkEntries {H : Type} : List (Lit × DataW H) → Nat
  | [] => 0
  | x :: r => uptoBulkEntry x + uptoBulkEntries r
def uptoBulkEntry {H : Type} : Lit × DataW H → Nat
  | (.string bytes, d) => bytes.length + uptoBulk d + 1
  | (_, d) => uptoBulk d + 1
 end
def uptoSmall : (H : Type) → List (DataW H) → Bool := fun _ ds => decide (uptoBulkAll ds ≤ 1048576)
def OpenSpec.upto (s : _root_.Go.ChangeSpec) : _root_.Go.OpenSpec := { _root_.Go.OpenSpec.ofChange s with cond := some uptoSmall }

/-- 'laws.FnConforms', WHERE WHAT IT READS IS OF BULK AT MOST 1048576: true; the input reads as it did. -/
def fnConformsUptoRow : OpenClaim := { program := "ytclgmmnidkppmaa", sum := "abf442c8d6a8a8abbe8986d4fe3047ea535a5e8e2f281620cdf5aaec04a15b78", func := "loop.example/trafficguard/laws.FnConforms", spec := "fnConforms", apart := false, narrowed := true }
def FnConformsUptoSaid : Prop := fnConformsUptoRow.holds Try.pinned (OpenSpec.upto fnConformsSpec)

/-- 'laws.FnLeastBurst', WHERE WHAT IT READS IS OF BULK AT MOST 1048576: true; the input reads as it did. -/
def fnLeastBurstUptoRow : OpenClaim := { program := "ytclgmmnidkppmaa", sum := "abf442c8d6a8a8abbe8986d4fe3047ea535a5e8e2f281620cdf5aaec04a15b78", func := "loop.example/trafficguard/laws.FnLeastBurst", spec := "fnLeastBurst", apart := false, narrowed := true }
def FnLeastBurstUptoSaid : Prop := fnLeastBurstUptoRow.holds Try.pinned (OpenSpec.upto fnLeastBurstSpec)

/-- 'laws.FnLeastRate', WHERE WHAT IT READS IS OF BULK AT MOST 1048576: true; the input reads as it did. -/
def fnLeastRateUptoRow : OpenClaim := { program := "ytclgmmnidkppmaa", sum := "abf442c8d6a8a8abbe8986d4fe3047ea535a5e8e2f281620cdf5aaec04a15b78", func := "loop.example/trafficguard/laws.FnLeastRate", spec := "fnLeastRate", unfollowed := true, recurses := true, apart := false, narrowed := true }
def FnLeastRateUptoSaid : Prop := fnLeastRateUptoRow.holds Try.pinned (OpenSpec.upto fnLeastRateSpec)

/-- 'laws.FnPeakOf', WHERE WHAT IT READS IS OF BULK AT MOST 1048576: true; the input reads as it did. -/
def fnPeakOfUptoRow : OpenClaim := { program := "ytclgmmnidkppmaa", sum := "abf442c8d6a8a8abbe8986d4fe3047ea535a5e8e2f281620cdf5aaec04a15b78", func := "loop.example/trafficguard/laws.FnPeakOf", spec := "fnPeakOf", apart := false, narrowed := true }
def FnPeakOfUptoSaid : Prop := fnPeakOfUptoRow.holds Try.pinned (OpenSpec.upto fnPeakOfSpec)

/-- 'laws.FnWorstDelay', WHERE WHAT IT READS IS OF BULK AT MOST 1048576: true; the input reads as it did. -/
def fnWorstDelayUptoRow : OpenClaim := { program := "ytclgmmnidkppmaa", sum := "abf442c8d6a8a8abbe8986d4fe3047ea535a5e8e2f281620cdf5aaec04a15b78", func := "loop.example/trafficguard/laws.FnWorstDelay", spec := "fnWorstDelay", apart := false, narrowed := true }
def FnWorstDelayUptoSaid : Prop := fnWorstDelayUptoRow.holds Try.pinned (OpenSpec.upto fnWorstDelaySpec)

/-- 'laws.FnBurstRate', WHERE WHAT IT READS IS OF BULK AT MOST 1048576: true; the input reads as it did. -/
def fnBurstRateUptoRow : OpenClaim := { program := "ytclgmmnidkppmaa", sum := "abf442c8d6a8a8abbe8986d4fe3047ea535a5e8e2f281620cdf5aaec04a15b78", func := "loop.example/trafficguard/laws.FnBurstRate", spec := "fnBurstRate", apart := false, narrowed := true }
def FnBurstRateUptoSaid : Prop := fnBurstRateUptoRow.holds Try.pinned (OpenSpec.upto fnBurstRateSpec)

/-- 'laws.FnPeakAll', WHERE WHAT IT READS IS OF BULK AT MOST 1048576: true; the input reads as it did. -/
def fnPeakAllUptoRow : OpenClaim := { program := "ytclgmmnidkppmaa", sum := "abf442c8d6a8a8abbe8986d4fe3047ea535a5e8e2f281620cdf5aaec04a15b78", func := "loop.example/trafficguard/laws.FnPeakAll", spec := "fnPeakAll", apart := false, narrowed := true }
def FnPeakAllUptoSaid : Prop := fnPeakAllUptoRow.holds Try.pinned (OpenSpec.upto fnPeakAllSpec)

/-- 'laws.FnRateBurst', WHERE WHAT IT READS IS OF BULK AT MOST 1048576: true; the input reads as it did. -/
def fnRateBurstUptoRow : OpenClaim := { program := "ytclgmmnidkppmaa", sum := "abf442c8d6a8a8abbe8986d4fe3047ea535a5e8e2f281620cdf5aaec04a15b78", func := "loop.example/trafficguard/laws.FnRateBurst", spec := "fnRateBurst", unfollowed := true, recurses := true, apart := false, narrowed := true }
def FnRateBurstUptoSaid : Prop := fnRateBurstUptoRow.holds Try.pinned (OpenSpec.upto fnRateBurstSpec)

/-- 'laws.FnDelayRate', WHERE WHAT IT READS IS OF BULK AT MOST 1048576: true; the input reads as it did. -/
def fnDelayRateUptoRow : OpenClaim := { program := "ytclgmmnidkppmaa", sum := "abf442c8d6a8a8abbe8986d4fe3047ea535a5e8e2f281620cdf5aaec04a15b78", func := "loop.example/trafficguard/laws.FnDelayRate", spec := "fnDelayRate", apart := false, narrowed := true }
def FnDelayRateUptoSaid : Prop := fnDelayRateUptoRow.holds Try.pinned (OpenSpec.upto fnDelayRateSpec)

/-- 'laws.FnShapeBurst', WHERE WHAT IT READS IS OF BULK AT MOST 1048576: true; the input reads as it did. -/
def fnShapeBurstUptoRow : OpenClaim := { program := "ytclgmmnidkppmaa", sum := "abf442c8d6a8a8abbe8986d4fe3047ea535a5e8e2f281620cdf5aaec04a15b78", func := "loop.example/trafficguard/laws.FnShapeBurst", spec := "fnShapeBurst", apart := false, narrowed := true }
def FnShapeBurstUptoSaid : Prop := fnShapeBurstUptoRow.holds Try.pinned (OpenSpec.upto fnShapeBurstSpec)

/-- 'laws.FnShapeTwice', WHERE WHAT IT READS IS OF BULK AT MOST 1048576: true; the input reads as it did. -/
def fnShapeTwiceUptoRow : OpenClaim := { program := "ytclgmmnidkppmaa", sum := "abf442c8d6a8a8abbe8986d4fe3047ea535a5e8e2f281620cdf5aaec04a15b78", func := "loop.example/trafficguard/laws.FnShapeTwice", spec := "fnShapeTwice", apart := false, narrowed := true }
def FnShapeTwiceUptoSaid : Prop := fnShapeTwiceUptoRow.holds Try.pinned (OpenSpec.upto fnShapeTwiceSpec)

/-- 'laws.FnShapeArrivals', WHERE WHAT IT READS IS OF BULK AT MOST 1048576: true; the input reads as it did. -/
def fnShapeArrivalsUptoRow : OpenClaim := { program := "ytclgmmnidkppmaa", sum := "abf442c8d6a8a8abbe8986d4fe3047ea535a5e8e2f281620cdf5aaec04a15b78", func := "loop.example/trafficguard/laws.FnShapeArrivals", spec := "fnShapeArrivals", apart := false, narrowed := true }
def FnShapeArrivalsUptoSaid : Prop := fnShapeArrivalsUptoRow.holds Try.pinned (OpenSpec.upto fnShapeArrivalsSpec)

end Rows
end Go.Proofs.Ytclgmmnidkppmaa
