/-
  No cell of these rows narrows 'for every input' (looked for: loops, veiled, ifaces, maps, wideKeys, modest, calm, conditions, laid).
  DERIVED. THE GIVEN ROWS OF THIS SEAT. 11 by the template 'for every input the law returns true; each argument reads behind the call as it read before'; 0 by the template 'total and deterministic' (their statements: YtfnloakbkiiicaaTotals.lean).
  GIVEN WITH THE SEED: the statements are not yours to turn. If you find one false, say at which input.
  Laid BY PROGRAM, IN A SANDBOX (cutbox-rows.mjs): the forced cells as the released guide's own fill.sh prints them over the translation b7ffd1112948ee99… (all of the seat's roots in one cut). By AI agents, Wed Nov 11 2026. No macro, syntax, notation, axiom, sorry.
-/
import Derived.Test.YtfnloakbkiiicaaChecked
import GoSem.Claim
import GoSem.ClaimJoined
import GoSem.ClaimMapViews
import Derived.JoinedTies
import Derived.KernelRfl
namespace Go.Proofs.Ytfnloakbkiiicaa
/- THE CELL 'sum', in the pinned program and in every row, IS THE sha256 OF THE DUMP (.gsa) THAT YtfnloakbkiiicaaProg.lean LOADS. Nothing in Lean hashes anything: it is a label: what it is worth is what the hold of that sum in a sandbox is worth. -/
noncomputable def Try.pinned : Pinned := { name := "ytfnloakbkiiicaa", sum := "b7ffd1112948ee99d80749d056d18aaf8025a03d703f2b6f6b488ed72549893b", checked := Try.checked }
namespace Rows
def none {H : Type} : Left H := { results := [], args := [] }

/-- 'laws.FnTakeTokens': WHATEVER THE INPUT: true; the input reads as it did. -/
def fnTakeTokensSpec : ChangeSpec := { name := "fnTakeTokens", fn := fun _ => fun
  | [d] => { results := [.lit (.bool true)], args := [d] }
  | _ => none }
def fnTakeTokensRow : OpenClaim := { program := "ytfnloakbkiiicaa", sum := "b7ffd1112948ee99d80749d056d18aaf8025a03d703f2b6f6b488ed72549893b", func := "loop.example/trafficguard/laws.FnTakeTokens", spec := "fnTakeTokens", apart := false }
def FnTakeTokensSaid : Prop := fnTakeTokensRow.holds Try.pinned (OpenSpec.ofChange fnTakeTokensSpec)

/-- ITS FALSE NEIGHBOUR: 'it returns false'. Refute it at one input. -/
def fnTakeTokensWrong : ChangeSpec := { name := "fnTakeTokens", fn := fun _ => fun
  | [d] => { results := [.lit (.bool false)], args := [d] }
  | _ => none }
def FnTakeTokensWrongFalsely : Prop := fnTakeTokensRow.holds Try.pinned (OpenSpec.ofChange fnTakeTokensWrong)

/-- 'laws.FnLevelAt': WHATEVER THE INPUT: true; the input reads as it did. -/
def fnLevelAtSpec : ChangeSpec := { name := "fnLevelAt", fn := fun _ => fun
  | [d] => { results := [.lit (.bool true)], args := [d] }
  | _ => none }
def fnLevelAtRow : OpenClaim := { program := "ytfnloakbkiiicaa", sum := "b7ffd1112948ee99d80749d056d18aaf8025a03d703f2b6f6b488ed72549893b", func := "loop.example/trafficguard/laws.FnLevelAt", spec := "fnLevelAt", apart := false }
def FnLevelAtSaid : Prop := fnLevelAtRow.holds Try.pinned (OpenSpec.ofChange fnLevelAtSpec)

/-- ITS FALSE NEIGHBOUR: 'it returns false'. Refute it at one input. -/
def fnLevelAtWrong : ChangeSpec := { name := "fnLevelAt", fn := fun _ => fun
  | [d] => { results := [.lit (.bool false)], args := [d] }
  | _ => none }
def FnLevelAtWrongFalsely : Prop := fnLevelAtRow.holds Try.pinned (OpenSpec.ofChange fnLevelAtWrong)

/-- 'laws.FnLevelSplit': WHATEVER THE INPUT: true; the input reads as it did. -/
def fnLevelSplitSpec : ChangeSpec := { name := "fnLevelSplit", fn := fun _ => fun
  | [d] => { results := [.lit (.bool true)], args := [d] }
  | _ => none }
def fnLevelSplitRow : OpenClaim := { program := "ytfnloakbkiiicaa", sum := "b7ffd1112948ee99d80749d056d18aaf8025a03d703f2b6f6b488ed72549893b", func := "loop.example/trafficguard/laws.FnLevelSplit", spec := "fnLevelSplit", apart := false }
def FnLevelSplitSaid : Prop := fnLevelSplitRow.holds Try.pinned (OpenSpec.ofChange fnLevelSplitSpec)

/-- ITS FALSE NEIGHBOUR: 'it returns false'. Refute it at one input. -/
def fnLevelSplitWrong : ChangeSpec := { name := "fnLevelSplit", fn := fun _ => fun
  | [d] => { results := [.lit (.bool false)], args := [d] }
  | _ => none }
def FnLevelSplitWrongFalsely : Prop := fnLevelSplitRow.holds Try.pinned (OpenSpec.ofChange fnLevelSplitWrong)

/-- 'laws.FnWaitFor': WHATEVER THE INPUT: true; the input reads as it did. -/
def fnWaitForSpec : ChangeSpec := { name := "fnWaitFor", fn := fun _ => fun
  | [d] => { results := [.lit (.bool true)], args := [d] }
  | _ => none }
def fnWaitForRow : OpenClaim := { program := "ytfnloakbkiiicaa", sum := "b7ffd1112948ee99d80749d056d18aaf8025a03d703f2b6f6b488ed72549893b", func := "loop.example/trafficguard/laws.FnWaitFor", spec := "fnWaitFor", apart := false }
def FnWaitForSaid : Prop := fnWaitForRow.holds Try.pinned (OpenSpec.ofChange fnWaitForSpec)

/-- ITS FALSE NEIGHBOUR: 'it returns false'. Refute it at one input. -/
def fnWaitForWrong : ChangeSpec := { name := "fnWaitFor", fn := fun _ => fun
  | [d] => { results := [.lit (.bool false)], args := [d] }
  | _ => none }
def FnWaitForWrongFalsely : Prop := fnWaitForRow.holds Try.pinned (OpenSpec.ofChange fnWaitForWrong)

/-- 'laws.FnGiveTokens': WHATEVER THE INPUT: true; the input reads as it did. -/
def fnGiveTokensSpec : ChangeSpec := { name := "fnGiveTokens", fn := fun _ => fun
  | [d] => { results := [.lit (.bool true)], args := [d] }
  | _ => none }
def fnGiveTokensRow : OpenClaim := { program := "ytfnloakbkiiicaa", sum := "b7ffd1112948ee99d80749d056d18aaf8025a03d703f2b6f6b488ed72549893b", func := "loop.example/trafficguard/laws.FnGiveTokens", spec := "fnGiveTokens", apart := false }
def FnGiveTokensSaid : Prop := fnGiveTokensRow.holds Try.pinned (OpenSpec.ofChange fnGiveTokensSpec)

/-- ITS FALSE NEIGHBOUR: 'it returns false'. Refute it at one input. -/
def fnGiveTokensWrong : ChangeSpec := { name := "fnGiveTokens", fn := fun _ => fun
  | [d] => { results := [.lit (.bool false)], args := [d] }
  | _ => none }
def FnGiveTokensWrongFalsely : Prop := fnGiveTokensRow.holds Try.pinned (OpenSpec.ofChange fnGiveTokensWrong)

/-- 'laws.FnChangeRate': WHATEVER THE INPUT: true; the input reads as it did. -/
def fnChangeRateSpec : ChangeSpec := { name := "fnChangeRate", fn := fun _ => fun
  | [d] => { results := [.lit (.bool true)], args := [d] }
  | _ => none }
def fnChangeRateRow : OpenClaim := { program := "ytfnloakbkiiicaa", sum := "b7ffd1112948ee99d80749d056d18aaf8025a03d703f2b6f6b488ed72549893b", func := "loop.example/trafficguard/laws.FnChangeRate", spec := "fnChangeRate", apart := false }
def FnChangeRateSaid : Prop := fnChangeRateRow.holds Try.pinned (OpenSpec.ofChange fnChangeRateSpec)

/-- ITS FALSE NEIGHBOUR: 'it returns false'. Refute it at one input. -/
def fnChangeRateWrong : ChangeSpec := { name := "fnChangeRate", fn := fun _ => fun
  | [d] => { results := [.lit (.bool false)], args := [d] }
  | _ => none }
def FnChangeRateWrongFalsely : Prop := fnChangeRateRow.holds Try.pinned (OpenSpec.ofChange fnChangeRateWrong)

/-- 'laws.FnNewBucket': WHATEVER THE INPUT: true; the input reads as it did. -/
def fnNewBucketSpec : ChangeSpec := { name := "fnNewBucket", fn := fun _ => fun
  | [d] => { results := [.lit (.bool true)], args := [d] }
  | _ => none }
def fnNewBucketRow : OpenClaim := { program := "ytfnloakbkiiicaa", sum := "b7ffd1112948ee99d80749d056d18aaf8025a03d703f2b6f6b488ed72549893b", func := "loop.example/trafficguard/laws.FnNewBucket", spec := "fnNewBucket", apart := false }
def FnNewBucketSaid : Prop := fnNewBucketRow.holds Try.pinned (OpenSpec.ofChange fnNewBucketSpec)

/-- ITS FALSE NEIGHBOUR: 'it returns false'. Refute it at one input. -/
def fnNewBucketWrong : ChangeSpec := { name := "fnNewBucket", fn := fun _ => fun
  | [d] => { results := [.lit (.bool false)], args := [d] }
  | _ => none }
def FnNewBucketWrongFalsely : Prop := fnNewBucketRow.holds Try.pinned (OpenSpec.ofChange fnNewBucketWrong)

/-- 'laws.FnBucketValid': WHATEVER THE INPUT: true; the input reads as it did. -/
def fnBucketValidSpec : ChangeSpec := { name := "fnBucketValid", fn := fun _ => fun
  | [d] => { results := [.lit (.bool true)], args := [d] }
  | _ => none }
def fnBucketValidRow : OpenClaim := { program := "ytfnloakbkiiicaa", sum := "b7ffd1112948ee99d80749d056d18aaf8025a03d703f2b6f6b488ed72549893b", func := "loop.example/trafficguard/laws.FnBucketValid", spec := "fnBucketValid", apart := false }
def FnBucketValidSaid : Prop := fnBucketValidRow.holds Try.pinned (OpenSpec.ofChange fnBucketValidSpec)

/-- ITS FALSE NEIGHBOUR: 'it returns false'. Refute it at one input. -/
def fnBucketValidWrong : ChangeSpec := { name := "fnBucketValid", fn := fun _ => fun
  | [d] => { results := [.lit (.bool false)], args := [d] }
  | _ => none }
def FnBucketValidWrongFalsely : Prop := fnBucketValidRow.holds Try.pinned (OpenSpec.ofChange fnBucketValidWrong)

/-- 'laws.FnTakeTwo': WHATEVER THE INPUT: true; the input reads as it did. -/
def fnTakeTwoSpec : ChangeSpec := { name := "fnTakeTwo", fn := fun _ => fun
  | [d] => { results := [.lit (.bool true)], args := [d] }
  | _ => none }
def fnTakeTwoRow : OpenClaim := { program := "ytfnloakbkiiicaa", sum := "b7ffd1112948ee99d80749d056d18aaf8025a03d703f2b6f6b488ed72549893b", func := "loop.example/trafficguard/laws.FnTakeTwo", spec := "fnTakeTwo", apart := false }
def FnTakeTwoSaid : Prop := fnTakeTwoRow.holds Try.pinned (OpenSpec.ofChange fnTakeTwoSpec)

/-- ITS FALSE NEIGHBOUR: 'it returns false'. Refute it at one input. -/
def fnTakeTwoWrong : ChangeSpec := { name := "fnTakeTwo", fn := fun _ => fun
  | [d] => { results := [.lit (.bool false)], args := [d] }
  | _ => none }
def FnTakeTwoWrongFalsely : Prop := fnTakeTwoRow.holds Try.pinned (OpenSpec.ofChange fnTakeTwoWrong)

/-- 'laws.FnWaitLess': WHATEVER THE INPUT: true; the input reads as it did. -/
def fnWaitLessSpec : ChangeSpec := { name := "fnWaitLess", fn := fun _ => fun
  | [d] => { results := [.lit (.bool true)], args := [d] }
  | _ => none }
def fnWaitLessRow : OpenClaim := { program := "ytfnloakbkiiicaa", sum := "b7ffd1112948ee99d80749d056d18aaf8025a03d703f2b6f6b488ed72549893b", func := "loop.example/trafficguard/laws.FnWaitLess", spec := "fnWaitLess", apart := false }
def FnWaitLessSaid : Prop := fnWaitLessRow.holds Try.pinned (OpenSpec.ofChange fnWaitLessSpec)

/-- ITS FALSE NEIGHBOUR: 'it returns false'. Refute it at one input. -/
def fnWaitLessWrong : ChangeSpec := { name := "fnWaitLess", fn := fun _ => fun
  | [d] => { results := [.lit (.bool false)], args := [d] }
  | _ => none }
def FnWaitLessWrongFalsely : Prop := fnWaitLessRow.holds Try.pinned (OpenSpec.ofChange fnWaitLessWrong)

/-- 'laws.FnTakeWait': WHATEVER THE INPUT: true; the input reads as it did. -/
def fnTakeWaitSpec : ChangeSpec := { name := "fnTakeWait", fn := fun _ => fun
  | [d] => { results := [.lit (.bool true)], args := [d] }
  | _ => none }
def fnTakeWaitRow : OpenClaim := { program := "ytfnloakbkiiicaa", sum := "b7ffd1112948ee99d80749d056d18aaf8025a03d703f2b6f6b488ed72549893b", func := "loop.example/trafficguard/laws.FnTakeWait", spec := "fnTakeWait", apart := false }
def FnTakeWaitSaid : Prop := fnTakeWaitRow.holds Try.pinned (OpenSpec.ofChange fnTakeWaitSpec)

/-- ITS FALSE NEIGHBOUR: 'it returns false'. Refute it at one input. -/
def fnTakeWaitWrong : ChangeSpec := { name := "fnTakeWait", fn := fun _ => fun
  | [d] => { results := [.lit (.bool false)], args := [d] }
  | _ => none }
def FnTakeWaitWrongFalsely : Prop := fnTakeWaitRow.holds Try.pinned (OpenSpec.ofChange fnTakeWaitWrong)

/- THE SECOND FORM. 'bulk': how many values and letters a reading holds, each counted each time it is reached (what is shared counts as often as it is met; a slice's spare places count too). A statement '..UptoSaid' is the law's where the arguments, and the package variables that the reading takes, are together of bulk at most 1048576: NARROWER than '..Said'. Prove '..Said' where nothing that the law and all that it calls make is longer than what came in: it says more and counts as full. Else prove '..UptoSaid'. A law counts once. -/
mutual
def uptoBulk {H : Type} : DataW H → Nat
  | .lit (.string bytes) => bytes.length + 1
  | .lit _ => 1
  | .nil => 1
  | .ptr d => uptoBulk d + 1
  | .slice elems spare => uptoBulkAll elems + uptoBulkAll spare + 1
  | .agg parts => uptoBulkAll parts + 1
  | .iface _ d => uptoBulk d + 1
  | .map entries => uptoBulkEntries entries + 1
  | .held _ => 1
def uptoBulkAll {H : Type} : List (DataW H) → Nat
  | [] => 0
  | d :: r => uptoBulk d + uptoBulkAll r
def uptoBulkEntries {H : Type} : List (Lit × DataW H) → Nat
  | [] => 0
  | x :: r => uptoBulkEntry x + uptoBulkEntries r
def uptoBulkEntry {H : Type} : Lit × DataW H → Nat
  | (.string bytes, d) => bytes.length + uptoBulk d + 1
  | (_, d) => uptoBulk d + 1
 end
def uptoSmall : (H : Type) → List (DataW H) → Bool := fun _ ds => decide (uptoBulkAll ds ≤ 1048576)
def OpenSpec.upto (s : _root_.Go.ChangeSpec) : _root_.Go.OpenSpec := { _root_.Go.OpenSpec.ofChange s with cond := some uptoSmall }

/-- 'laws.FnTakeTokens', WHERE WHAT IT READS IS OF BULK AT MOST 1048576: true; the input reads as it did. -/
def fnTakeTokensUptoRow : OpenClaim := { program := "ytfnloakbkiiicaa", sum := "b7ffd1112948ee99d80749d056d18aaf8025a03d703f2b6f6b488ed72549893b", func := "loop.example/trafficguard/laws.FnTakeTokens", spec := "fnTakeTokens", apart := false, narrowed := true }
def FnTakeTokensUptoSaid : Prop := fnTakeTokensUptoRow.holds Try.pinned (OpenSpec.upto fnTakeTokensSpec)

/-- 'laws.FnLevelAt', WHERE WHAT IT READS IS OF BULK AT MOST 1048576: true; the input reads as it did. -/
def fnLevelAtUptoRow : OpenClaim := { program := "ytfnloakbkiiicaa", sum := "b7ffd1112948ee99d80749d056d18aaf8025a03d703f2b6f6b488ed72549893b", func := "loop.example/trafficguard/laws.FnLevelAt", spec := "fnLevelAt", apart := false, narrowed := true }
def FnLevelAtUptoSaid : Prop := fnLevelAtUptoRow.holds Try.pinned (OpenSpec.upto fnLevelAtSpec)

/-- 'laws.FnLevelSplit', WHERE WHAT IT READS IS OF BULK AT MOST 1048576: true; the input reads as it did. -/
def fnLevelSplitUptoRow : OpenClaim := { program := "ytfnloakbkiiicaa", sum := "b7ffd1112948ee99d80749d056d18aaf8025a03d703f2b6f6b488ed72549893b", func := "loop.example/trafficguard/laws.FnLevelSplit", spec := "fnLevelSplit", apart := false, narrowed := true }
def FnLevelSplitUptoSaid : Prop := fnLevelSplitUptoRow.holds Try.pinned (OpenSpec.upto fnLevelSplitSpec)

/-- 'laws.FnWaitFor', WHERE WHAT IT READS IS OF BULK AT MOST 1048576: true; the input reads as it did. -/
def fnWaitForUptoRow : OpenClaim := { program := "ytfnloakbkiiicaa", sum := "b7ffd1112948ee99d80749d056d18aaf8025a03d703f2b6f6b488ed72549893b", func := "loop.example/trafficguard/laws.FnWaitFor", spec := "fnWaitFor", apart := false, narrowed := true }
def FnWaitForUptoSaid : Prop := fnWaitForUptoRow.holds Try.pinned (OpenSpec.upto fnWaitForSpec)

/-- 'laws.FnGiveTokens', WHERE WHAT IT READS IS OF BULK AT MOST 1048576: true; the input reads as it did. -/
def fnGiveTokensUptoRow : OpenClaim := { program := "ytfnloakbkiiicaa", sum := "b7ffd1112948ee99d80749d056d18aaf8025a03d703f2b6f6b488ed72549893b", func := "loop.example/trafficguard/laws.FnGiveTokens", spec := "fnGiveTokens", apart := false, narrowed := true }
def FnGiveTokensUptoSaid : Prop := fnGiveTokensUptoRow.holds Try.pinned (OpenSpec.upto fnGiveTokensSpec)

/-- 'laws.FnChangeRate', WHERE WHAT IT READS IS OF BULK AT MOST 1048576: true; the input reads as it did. -/
def fnChangeRateUptoRow : OpenClaim := { program := "ytfnloakbkiiicaa", sum := "b7ffd1112948ee99d80749d056d18aaf8025a03d703f2b6f6b488ed72549893b", func := "loop.example/trafficguard/laws.FnChangeRate", spec := "fnChangeRate", apart := false, narrowed := true }
def FnChangeRateUptoSaid : Prop := fnChangeRateUptoRow.holds Try.pinned (OpenSpec.upto fnChangeRateSpec)

/-- 'laws.FnNewBucket', WHERE WHAT IT READS IS OF BULK AT MOST 1048576: true; the input reads as it did. -/
def fnNewBucketUptoRow : OpenClaim := { program := "ytfnloakbkiiicaa", sum := "b7ffd1112948ee99d80749d056d18aaf8025a03d703f2b6f6b488ed72549893b", func := "loop.example/trafficguard/laws.FnNewBucket", spec := "fnNewBucket", apart := false, narrowed := true }
def FnNewBucketUptoSaid : Prop := fnNewBucketUptoRow.holds Try.pinned (OpenSpec.upto fnNewBucketSpec)

/-- 'laws.FnBucketValid', WHERE WHAT IT READS IS OF BULK AT MOST 1048576: true; the input reads as it did. -/
def fnBucketValidUptoRow : OpenClaim := { program := "ytfnloakbkiiicaa", sum := "b7ffd1112948ee99d80749d056d18aaf8025a03d703f2b6f6b488ed72549893b", func := "loop.example/trafficguard/laws.FnBucketValid", spec := "fnBucketValid", apart := false, narrowed := true }
def FnBucketValidUptoSaid : Prop := fnBucketValidUptoRow.holds Try.pinned (OpenSpec.upto fnBucketValidSpec)

/-- 'laws.FnTakeTwo', WHERE WHAT IT READS IS OF BULK AT MOST 1048576: true; the input reads as it did. -/
def fnTakeTwoUptoRow : OpenClaim := { program := "ytfnloakbkiiicaa", sum := "b7ffd1112948ee99d80749d056d18aaf8025a03d703f2b6f6b488ed72549893b", func := "loop.example/trafficguard/laws.FnTakeTwo", spec := "fnTakeTwo", apart := false, narrowed := true }
def FnTakeTwoUptoSaid : Prop := fnTakeTwoUptoRow.holds Try.pinned (OpenSpec.upto fnTakeTwoSpec)

/-- 'laws.FnWaitLess', WHERE WHAT IT READS IS OF BULK AT MOST 1048576: true; the input reads as it did. -/
def fnWaitLessUptoRow : OpenClaim := { program := "ytfnloakbkiiicaa", sum := "b7ffd1112948ee99d80749d056d18aaf8025a03d703f2b6f6b488ed72549893b", func := "loop.example/trafficguard/laws.FnWaitLess", spec := "fnWaitLess", apart := false, narrowed := true }
def FnWaitLessUptoSaid : Prop := fnWaitLessUptoRow.holds Try.pinned (OpenSpec.upto fnWaitLessSpec)

/-- 'laws.FnTakeWait', WHERE WHAT IT READS IS OF BULK AT MOST 1048576: true; the input reads as it did. -/
def fnTakeWaitUptoRow : OpenClaim := { program := "ytfnloakbkiiicaa", sum := "b7ffd1112948ee99d80749d056d18aaf8025a03d703f2b6f6b488ed72549893b", func := "loop.example/trafficguard/laws.FnTakeWait", spec := "fnTakeWait", apart := false, narrowed := true }
def FnTakeWaitUptoSaid : Prop := fnTakeWaitUptoRow.holds Try.pinned (OpenSpec.upto fnTakeWaitSpec)

end Rows
end Go.Proofs.Ytfnloakbkiiicaa
