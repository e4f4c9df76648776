/-
  No cell of these rows narrows 'for every input' (looked for: loops, veiled, ifaces, maps, wideKeys, modest, calm, conditions, laid).
  DERIVED. THE GIVEN ROWS OF THIS SEAT. 11 by the template 'for every input the law returns true; each argument reads behind the call as it read before'; 0 by the template 'total and deterministic' (their statements: YtclgmmnidkppmabTotals.lean).
  GIVEN WITH THE SEED: the statements are not yours to turn. If you find one false, say at which input.
  Laid BY PROGRAM, IN A SANDBOX (cutbox-rows.mjs): the forced cells as the released guide's own fill.sh prints them over the translation ad1199a547ae6e0c… (all of the seat's roots in one cut). By AI agents, Wed Nov 11 2026. No macro, syntax, notation, axiom, sorry.
-/
import Derived.Test.YtclgmmnidkppmabChecked
import GoSem.Claim
import GoSem.ClaimJoined
import GoSem.ClaimMapViews
import Derived.JoinedTies
import Derived.KernelRfl
namespace Go.Proofs.Ytclgmmnidkppmab
/- THE CELL 'sum', in the pinned program and in every row, IS THE sha256 OF THE DUMP (.gsa) THAT YtclgmmnidkppmabProg.lean LOADS. Nothing in Lean hashes anything: it is a label: what it is worth is what the hold of that sum in a sandbox is worth. -/
noncomputable def Try.pinned : Pinned := { name := "ytclgmmnidkppmab", sum := "ad1199a547ae6e0c63dc17ee02ebe7e9383faadbc6121e0088c7d180e233b52c", checked := Try.checked }
namespace Rows
def none {H : Type} : Left H := { results := [], args := [] }

/-- 'laws.FnArrivalsValid': WHATEVER THE INPUT: true; the input reads as it did. -/
def fnArrivalsValidSpec : ChangeSpec := { name := "fnArrivalsValid", fn := fun _ => fun
  | [d] => { results := [.lit (.bool true)], args := [d] }
  | _ => none }
def fnArrivalsValidRow : OpenClaim := { program := "ytclgmmnidkppmab", sum := "ad1199a547ae6e0c63dc17ee02ebe7e9383faadbc6121e0088c7d180e233b52c", func := "loop.example/trafficguard/laws.FnArrivalsValid", spec := "fnArrivalsValid", unfollowed := true, recurses := true, apart := false }
def FnArrivalsValidSaid : Prop := fnArrivalsValidRow.holds Try.pinned (OpenSpec.ofChange fnArrivalsValidSpec)

/-- ITS FALSE NEIGHBOUR: 'it returns false'. Refute it at one input. -/
def fnArrivalsValidWrong : ChangeSpec := { name := "fnArrivalsValid", fn := fun _ => fun
  | [d] => { results := [.lit (.bool false)], args := [d] }
  | _ => none }
def FnArrivalsValidWrongFalsely : Prop := fnArrivalsValidRow.holds Try.pinned (OpenSpec.ofChange fnArrivalsValidWrong)

/-- 'laws.FnMergeArrivals': WHATEVER THE INPUT: true; the input reads as it did. -/
def fnMergeArrivalsSpec : ChangeSpec := { name := "fnMergeArrivals", fn := fun _ => fun
  | [d] => { results := [.lit (.bool true)], args := [d] }
  | _ => none }
def fnMergeArrivalsRow : OpenClaim := { program := "ytclgmmnidkppmab", sum := "ad1199a547ae6e0c63dc17ee02ebe7e9383faadbc6121e0088c7d180e233b52c", func := "loop.example/trafficguard/laws.FnMergeArrivals", spec := "fnMergeArrivals", unfollowed := true, recurses := true, apart := false }
def FnMergeArrivalsSaid : Prop := fnMergeArrivalsRow.holds Try.pinned (OpenSpec.ofChange fnMergeArrivalsSpec)

/-- ITS FALSE NEIGHBOUR: 'it returns false'. Refute it at one input. -/
def fnMergeArrivalsWrong : ChangeSpec := { name := "fnMergeArrivals", fn := fun _ => fun
  | [d] => { results := [.lit (.bool false)], args := [d] }
  | _ => none }
def FnMergeArrivalsWrongFalsely : Prop := fnMergeArrivalsRow.holds Try.pinned (OpenSpec.ofChange fnMergeArrivalsWrong)

/-- 'laws.FnMergeOrder': WHATEVER THE INPUT: true; the input reads as it did. -/
def fnMergeOrderSpec : ChangeSpec := { name := "fnMergeOrder", fn := fun _ => fun
  | [d] => { results := [.lit (.bool true)], args := [d] }
  | _ => none }
def fnMergeOrderRow : OpenClaim := { program := "ytclgmmnidkppmab", sum := "ad1199a547ae6e0c63dc17ee02ebe7e9383faadbc6121e0088c7d180e233b52c", func := "loop.example/trafficguard/laws.FnMergeOrder", spec := "fnMergeOrder", unfollowed := true, recurses := true, apart := false }
def FnMergeOrderSaid : Prop := fnMergeOrderRow.holds Try.pinned (OpenSpec.ofChange fnMergeOrderSpec)

/-- ITS FALSE NEIGHBOUR: 'it returns false'. Refute it at one input. -/
def fnMergeOrderWrong : ChangeSpec := { name := "fnMergeOrder", fn := fun _ => fun
  | [d] => { results := [.lit (.bool false)], args := [d] }
  | _ => none }
def FnMergeOrderWrongFalsely : Prop := fnMergeOrderRow.holds Try.pinned (OpenSpec.ofChange fnMergeOrderWrong)

/-- 'laws.FnExactArrivalsValid': WHATEVER THE INPUT: true; the input reads as it did. -/
def fnExactArrivalsValidSpec : ChangeSpec := { name := "fnExactArrivalsValid", fn := fun _ => fun
  | [d] => { results := [.lit (.bool true)], args := [d] }
  | _ => none }
def fnExactArrivalsValidRow : OpenClaim := { program := "ytclgmmnidkppmab", sum := "ad1199a547ae6e0c63dc17ee02ebe7e9383faadbc6121e0088c7d180e233b52c", func := "loop.example/trafficguard/laws.FnExactArrivalsValid", spec := "fnExactArrivalsValid", apart := false }
def FnExactArrivalsValidSaid : Prop := fnExactArrivalsValidRow.holds Try.pinned (OpenSpec.ofChange fnExactArrivalsValidSpec)

/-- ITS FALSE NEIGHBOUR: 'it returns false'. Refute it at one input. -/
def fnExactArrivalsValidWrong : ChangeSpec := { name := "fnExactArrivalsValid", fn := fun _ => fun
  | [d] => { results := [.lit (.bool false)], args := [d] }
  | _ => none }
def FnExactArrivalsValidWrongFalsely : Prop := fnExactArrivalsValidRow.holds Try.pinned (OpenSpec.ofChange fnExactArrivalsValidWrong)

/-- 'laws.FnExactConforms': WHATEVER THE INPUT: true; the input reads as it did. -/
def fnExactConformsSpec : ChangeSpec := { name := "fnExactConforms", fn := fun _ => fun
  | [d1, d2, d3] => { results := [.lit (.bool true)], args := [d1, d2, d3] }
  | _ => none }
def fnExactConformsRow : OpenClaim := { program := "ytclgmmnidkppmab", sum := "ad1199a547ae6e0c63dc17ee02ebe7e9383faadbc6121e0088c7d180e233b52c", func := "loop.example/trafficguard/laws.FnExactConforms", spec := "fnExactConforms", apart := false }
def FnExactConformsSaid : Prop := fnExactConformsRow.holds Try.pinned (OpenSpec.ofChange fnExactConformsSpec)

/-- ITS FALSE NEIGHBOUR: 'it returns false'. Refute it at one input. -/
def fnExactConformsWrong : ChangeSpec := { name := "fnExactConforms", fn := fun _ => fun
  | [d1, d2, d3] => { results := [.lit (.bool false)], args := [d1, d2, d3] }
  | _ => none }
def FnExactConformsWrongFalsely : Prop := fnExactConformsRow.holds Try.pinned (OpenSpec.ofChange fnExactConformsWrong)

/-- 'laws.FnExactLeastBurst': WHATEVER THE INPUT: true; the input reads as it did. -/
def fnExactLeastBurstSpec : ChangeSpec := { name := "fnExactLeastBurst", fn := fun _ => fun
  | [d1, d2] => { results := [.lit (.bool true)], args := [d1, d2] }
  | _ => none }
def fnExactLeastBurstRow : OpenClaim := { program := "ytclgmmnidkppmab", sum := "ad1199a547ae6e0c63dc17ee02ebe7e9383faadbc6121e0088c7d180e233b52c", func := "loop.example/trafficguard/laws.FnExactLeastBurst", spec := "fnExactLeastBurst", apart := false }
def FnExactLeastBurstSaid : Prop := fnExactLeastBurstRow.holds Try.pinned (OpenSpec.ofChange fnExactLeastBurstSpec)

/-- ITS FALSE NEIGHBOUR: 'it returns false'. Refute it at one input. -/
def fnExactLeastBurstWrong : ChangeSpec := { name := "fnExactLeastBurst", fn := fun _ => fun
  | [d1, d2] => { results := [.lit (.bool false)], args := [d1, d2] }
  | _ => none }
def FnExactLeastBurstWrongFalsely : Prop := fnExactLeastBurstRow.holds Try.pinned (OpenSpec.ofChange fnExactLeastBurstWrong)

/-- 'laws.FnExactLeastRate': WHATEVER THE INPUT: true; the input reads as it did. -/
def fnExactLeastRateSpec : ChangeSpec := { name := "fnExactLeastRate", fn := fun _ => fun
  | [d1, d2] => { results := [.lit (.bool true)], args := [d1, d2] }
  | _ => none }
def fnExactLeastRateRow : OpenClaim := { program := "ytclgmmnidkppmab", sum := "ad1199a547ae6e0c63dc17ee02ebe7e9383faadbc6121e0088c7d180e233b52c", func := "loop.example/trafficguard/laws.FnExactLeastRate", spec := "fnExactLeastRate", unfollowed := true, recurses := true, apart := false }
def FnExactLeastRateSaid : Prop := fnExactLeastRateRow.holds Try.pinned (OpenSpec.ofChange fnExactLeastRateSpec)

/-- ITS FALSE NEIGHBOUR: 'it returns false'. Refute it at one input. -/
def fnExactLeastRateWrong : ChangeSpec := { name := "fnExactLeastRate", fn := fun _ => fun
  | [d1, d2] => { results := [.lit (.bool false)], args := [d1, d2] }
  | _ => none }
def FnExactLeastRateWrongFalsely : Prop := fnExactLeastRateRow.holds Try.pinned (OpenSpec.ofChange fnExactLeastRateWrong)

/-- 'laws.FnExactShapeArrivals': WHATEVER THE INPUT: true; the input reads as it did. -/
def fnExactShapeArrivalsSpec : ChangeSpec := { name := "fnExactShapeArrivals", fn := fun _ => fun
  | [d1, d2, d3] => { results := [.lit (.bool true)], args := [d1, d2, d3] }
  | _ => none }
def fnExactShapeArrivalsRow : OpenClaim := { program := "ytclgmmnidkppmab", sum := "ad1199a547ae6e0c63dc17ee02ebe7e9383faadbc6121e0088c7d180e233b52c", func := "loop.example/trafficguard/laws.FnExactShapeArrivals", spec := "fnExactShapeArrivals", apart := false }
def FnExactShapeArrivalsSaid : Prop := fnExactShapeArrivalsRow.holds Try.pinned (OpenSpec.ofChange fnExactShapeArrivalsSpec)

/-- ITS FALSE NEIGHBOUR: 'it returns false'. Refute it at one input. -/
def fnExactShapeArrivalsWrong : ChangeSpec := { name := "fnExactShapeArrivals", fn := fun _ => fun
  | [d1, d2, d3] => { results := [.lit (.bool false)], args := [d1, d2, d3] }
  | _ => none }
def FnExactShapeArrivalsWrongFalsely : Prop := fnExactShapeArrivalsRow.holds Try.pinned (OpenSpec.ofChange fnExactShapeArrivalsWrong)

/-- 'laws.FnExactMergeArrivals': WHATEVER THE INPUT: true; the input reads as it did. -/
def fnExactMergeArrivalsSpec : ChangeSpec := { name := "fnExactMergeArrivals", fn := fun _ => fun
  | [d1, d2] => { results := [.lit (.bool true)], args := [d1, d2] }
  | _ => none }
def fnExactMergeArrivalsRow : OpenClaim := { program := "ytclgmmnidkppmab", sum := "ad1199a547ae6e0c63dc17ee02ebe7e9383faadbc6121e0088c7d180e233b52c", func := "loop.example/trafficguard/laws.FnExactMergeArrivals", spec := "fnExactMergeArrivals", unfollowed := true, recurses := true, apart := false }
def FnExactMergeArrivalsSaid : Prop := fnExactMergeArrivalsRow.holds Try.pinned (OpenSpec.ofChange fnExactMergeArrivalsSpec)

/-- ITS FALSE NEIGHBOUR: 'it returns false'. Refute it at one input. -/
def fnExactMergeArrivalsWrong : ChangeSpec := { name := "fnExactMergeArrivals", fn := fun _ => fun
  | [d1, d2] => { results := [.lit (.bool false)], args := [d1, d2] }
  | _ => none }
def FnExactMergeArrivalsWrongFalsely : Prop := fnExactMergeArrivalsRow.holds Try.pinned (OpenSpec.ofChange fnExactMergeArrivalsWrong)

/-- 'laws.FnExactPeakOf': WHATEVER THE INPUT: true; the input reads as it did. -/
def fnExactPeakOfSpec : ChangeSpec := { name := "fnExactPeakOf", fn := fun _ => fun
  | [d1, d2] => { results := [.lit (.bool true)], args := [d1, d2] }
  | _ => none }
def fnExactPeakOfRow : OpenClaim := { program := "ytclgmmnidkppmab", sum := "ad1199a547ae6e0c63dc17ee02ebe7e9383faadbc6121e0088c7d180e233b52c", func := "loop.example/trafficguard/laws.FnExactPeakOf", spec := "fnExactPeakOf", apart := false }
def FnExactPeakOfSaid : Prop := fnExactPeakOfRow.holds Try.pinned (OpenSpec.ofChange fnExactPeakOfSpec)

/-- ITS FALSE NEIGHBOUR: 'it returns false'. Refute it at one input. -/
def fnExactPeakOfWrong : ChangeSpec := { name := "fnExactPeakOf", fn := fun _ => fun
  | [d1, d2] => { results := [.lit (.bool false)], args := [d1, d2] }
  | _ => none }
def FnExactPeakOfWrongFalsely : Prop := fnExactPeakOfRow.holds Try.pinned (OpenSpec.ofChange fnExactPeakOfWrong)

/-- 'laws.FnExactWorstDelay': WHATEVER THE INPUT: true; the input reads as it did. -/
def fnExactWorstDelaySpec : ChangeSpec := { name := "fnExactWorstDelay", fn := fun _ => fun
  | [d1, d2] => { results := [.lit (.bool true)], args := [d1, d2] }
  | _ => none }
def fnExactWorstDelayRow : OpenClaim := { program := "ytclgmmnidkppmab", sum := "ad1199a547ae6e0c63dc17ee02ebe7e9383faadbc6121e0088c7d180e233b52c", func := "loop.example/trafficguard/laws.FnExactWorstDelay", spec := "fnExactWorstDelay", apart := false }
def FnExactWorstDelaySaid : Prop := fnExactWorstDelayRow.holds Try.pinned (OpenSpec.ofChange fnExactWorstDelaySpec)

/-- ITS FALSE NEIGHBOUR: 'it returns false'. Refute it at one input. -/
def fnExactWorstDelayWrong : ChangeSpec := { name := "fnExactWorstDelay", fn := fun _ => fun
  | [d1, d2] => { results := [.lit (.bool false)], args := [d1, d2] }
  | _ => none }
def FnExactWorstDelayWrongFalsely : Prop := fnExactWorstDelayRow.holds Try.pinned (OpenSpec.ofChange fnExactWorstDelayWrong)

/- THE SECOND FORM. 'bulk': how many values and letters a reading holds, each counted each time it is reached (what is shared counts as often as it is met; a slice's spare places count too). A statement '..UptoSaid' is the law's where the arguments, and the package variables that the reading takes, are together of bulk at most 1048576: NARROWER than '..Said'. Prove '..Said' where nothing that the law and all that it calls make is longer than what came in: it says more and counts as full. Else prove '..UptoSaid'. A law counts once. -/
mutual
def uptoBulk {H : Type} : DataW H → Nat
  | .lit (.string bytes) => bytes.length + 1
  | .lit _ => 1
  | .nil => 1
  | .ptr d => uptoBulk d + 1
  | .slice elems spare => uptoBulkAll elems + uptoBulkAll spare + 1
  | .agg parts => uptoBulkAll parts + 1
  | .iface _ d => uptoBulk d + 1
  | .map entries => uptoBulkEntries entries + 1
  | .held _ => 1
def uptoBulkAll {H : Type} : List (DataW H) → Nat
  | [] => 0
  | d :: r => uptoBulk d + uptoBulkAll r
def uptoBulkEntries {H : Type} : List (Lit × DataW H) → Nat
  | [] => 0
  | x :: r => uptoBulkEntry x + uptoBulkEntries r
def uptoBulkEntry {H : Type} : Lit × DataW H → Nat
  | (.string bytes, d) => bytes.length + uptoBulk d + 1
  | (_, d) => uptoBulk d + 1
 end
def uptoSmall : (H : Type) → List (DataW H) → Bool := fun _ ds => decide (uptoBulkAll ds ≤ 1048576)
def OpenSpec.upto (s : _root_.Go.ChangeSpec) : _root_.Go.OpenSpec := { _root_.Go.OpenSpec.ofChange s with cond := some uptoSmall }

/-- 'laws.FnArrivalsValid', WHERE WHAT IT READS IS OF BULK AT MOST 1048576: true; the input reads as it did. -/
def fnArrivalsValidUptoRow : OpenClaim := { program := "ytclgmmnidkppmab", sum := "ad1199a547ae6e0c63dc17ee02ebe7e9383faadbc6121e0088c7d180e233b52c", func := "loop.example/trafficguard/laws.FnArrivalsValid", spec := "fnArrivalsValid", unfollowed := true, recurses := true, apart := false, narrowed := true }
def FnArrivalsValidUptoSaid : Prop := fnArrivalsValidUptoRow.holds Try.pinned (OpenSpec.upto fnArrivalsValidSpec)

/-- 'laws.FnMergeArrivals', WHERE WHAT IT READS IS OF BULK AT MOST 1048576: true; the input reads as it did. -/
def fnMergeArrivalsUptoRow : OpenClaim := { program := "ytclgmmnidkppmab", sum := "ad1199a547ae6e0c63dc17ee02ebe7e9383faadbc6121e0088c7d180e233b52c", func := "loop.example/trafficguard/laws.FnMergeArrivals", spec := "fnMergeArrivals", unfollowed := true, recurses := true, apart := false, narrowed := true }
def FnMergeArrivalsUptoSaid : Prop := fnMergeArrivalsUptoRow.holds Try.pinned (OpenSpec.upto fnMergeArrivalsSpec)

/-- 'laws.FnMergeOrder', WHERE WHAT IT READS IS OF BULK AT MOST 1048576: true; the input reads as it did. -/
def fnMergeOrderUptoRow : OpenClaim := { program := "ytclgmmnidkppmab", sum := "ad1199a547ae6e0c63dc17ee02ebe7e9383faadbc6121e0088c7d180e233b52c", func := "loop.example/trafficguard/laws.FnMergeOrder", spec := "fnMergeOrder", unfollowed := true, recurses := true, apart := false, narrowed := true }
def FnMergeOrderUptoSaid : Prop := fnMergeOrderUptoRow.holds Try.pinned (OpenSpec.upto fnMergeOrderSpec)

/-- 'laws.FnExactArrivalsValid', WHERE WHAT IT READS IS OF BULK AT MOST 1048576: true; the input reads as it did. -/
def fnExactArrivalsValidUptoRow : OpenClaim := { program := "ytclgmmnidkppmab", sum := "ad1199a547ae6e0c63dc17ee02ebe7e9383faadbc6121e0088c7d180e233b52c", func := "loop.example/trafficguard/laws.FnExactArrivalsValid", spec := "fnExactArrivalsValid", apart := false, narrowed := true }
def FnExactArrivalsValidUptoSaid : Prop := fnExactArrivalsValidUptoRow.holds Try.pinned (OpenSpec.upto fnExactArrivalsValidSpec)

/-- 'laws.FnExactConforms', WHERE WHAT IT READS IS OF BULK AT MOST 1048576: true; the input reads as it did. -/
def fnExactConformsUptoRow : OpenClaim := { program := "ytclgmmnidkppmab", sum := "ad1199a547ae6e0c63dc17ee02ebe7e9383faadbc6121e0088c7d180e233b52c", func := "loop.example/trafficguard/laws.FnExactConforms", spec := "fnExactConforms", apart := false, narrowed := true }
def FnExactConformsUptoSaid : Prop := fnExactConformsUptoRow.holds Try.pinned (OpenSpec.upto fnExactConformsSpec)

/-- 'laws.FnExactLeastBurst', WHERE WHAT IT READS IS OF BULK AT MOST 1048576: true; the input reads as it did. -/
def fnExactLeastBurstUptoRow : OpenClaim := { program := "ytclgmmnidkppmab", sum := "ad1199a547ae6e0c63dc17ee02ebe7e9383faadbc6121e0088c7d180e233b52c", func := "loop.example/trafficguard/laws.FnExactLeastBurst", spec := "fnExactLeastBurst", apart := false, narrowed := true }
def FnExactLeastBurstUptoSaid : Prop := fnExactLeastBurstUptoRow.holds Try.pinned (OpenSpec.upto fnExactLeastBurstSpec)

/-- 'laws.FnExactLeastRate', WHERE WHAT IT READS IS OF BULK AT MOST 1048576: true; the input reads as it did. -/
def fnExactLeastRateUptoRow : OpenClaim := { program := "ytclgmmnidkppmab", sum := "ad1199a547ae6e0c63dc17ee02ebe7e9383faadbc6121e0088c7d180e233b52c", func := "loop.example/trafficguard/laws.FnExactLeastRate", spec := "fnExactLeastRate", unfollowed := true, recurses := true, apart := false, narrowed := true }
def FnExactLeastRateUptoSaid : Prop := fnExactLeastRateUptoRow.holds Try.pinned (OpenSpec.upto fnExactLeastRateSpec)

/-- 'laws.FnExactShapeArrivals', WHERE WHAT IT READS IS OF BULK AT MOST 1048576: true; the input reads as it did. -/
def fnExactShapeArrivalsUptoRow : OpenClaim := { program := "ytclgmmnidkppmab", sum := "ad1199a547ae6e0c63dc17ee02ebe7e9383faadbc6121e0088c7d180e233b52c", func := "loop.example/trafficguard/laws.FnExactShapeArrivals", spec := "fnExactShapeArrivals", apart := false, narrowed := true }
def FnExactShapeArrivalsUptoSaid : Prop := fnExactShapeArrivalsUptoRow.holds Try.pinned (OpenSpec.upto fnExactShapeArrivalsSpec)

/-- 'laws.FnExactMergeArrivals', WHERE WHAT IT READS IS OF BULK AT MOST 1048576: true; the input reads as it did. -/
def fnExactMergeArrivalsUptoRow : OpenClaim := { program := "ytclgmmnidkppmab", sum := "ad1199a547ae6e0c63dc17ee02ebe7e9383faadbc6121e0088c7d180e233b52c", func := "loop.example/trafficguard/laws.FnExactMergeArrivals", spec := "fnExactMergeArrivals", unfollowed := true, recurses := true, apart := false, narrowed := true }
def FnExactMergeArrivalsUptoSaid : Prop := fnExactMergeArrivalsUptoRow.holds Try.pinned (OpenSpec.upto fnExactMergeArrivalsSpec)

/-- 'laws.FnExactPeakOf', WHERE WHAT IT READS IS OF BULK AT MOST 1048576: true; the input reads as it did. -/
def fnExactPeakOfUptoRow : OpenClaim := { program := "ytclgmmnidkppmab", sum := "ad1199a547ae6e0c63dc17ee02ebe7e9383faadbc6121e0088c7d180e233b52c", func := "loop.example/trafficguard/laws.FnExactPeakOf", spec := "fnExactPeakOf", apart := false, narrowed := true }
def FnExactPeakOfUptoSaid : Prop := fnExactPeakOfUptoRow.holds Try.pinned (OpenSpec.upto fnExactPeakOfSpec)

/-- 'laws.FnExactWorstDelay', WHERE WHAT IT READS IS OF BULK AT MOST 1048576: true; the input reads as it did. -/
def fnExactWorstDelayUptoRow : OpenClaim := { program := "ytclgmmnidkppmab", sum := "ad1199a547ae6e0c63dc17ee02ebe7e9383faadbc6121e0088c7d180e233b52c", func := "loop.example/trafficguard/laws.FnExactWorstDelay", spec := "fnExactWorstDelay", apart := false, narrowed := true }
def FnExactWorstDelayUptoSaid : Prop := fnExactWorstDelayUptoRow.holds Try.pinned (OpenSpec.upto fnExactWorstDelaySpec)

end Rows
end Go.Proofs.Ytclgmmnidkppmab
