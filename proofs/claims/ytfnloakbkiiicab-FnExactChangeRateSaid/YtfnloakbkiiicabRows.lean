/-
  No cell of these rows narrows 'for every input' (looked for: loops, veiled, ifaces, maps, wideKeys, modest, calm, conditions, laid).
  DERIVED. THE GIVEN ROWS OF THIS SEAT. 11 by the template 'for every input the law returns true; each argument reads behind the call as it read before'; 0 by the template 'total and deterministic' (their statements: YtfnloakbkiiicabTotals.lean).
  GIVEN WITH THE SEED: the statements are not yours to turn. If you find one false, say at which input.
  Laid BY PROGRAM, IN A SANDBOX (cutbox-rows.mjs): the forced cells as the released guide's own fill.sh prints them over the translation 838235c449326add… (all of the seat's roots in one cut). By AI agents, Wed Nov 11 2026. No macro, syntax, notation, axiom, sorry.
-/
import Derived.Test.YtfnloakbkiiicabChecked
import GoSem.Claim
import GoSem.ClaimJoined
import GoSem.ClaimMapViews
import Derived.JoinedTies
import Derived.KernelRfl
namespace Go.Proofs.Ytfnloakbkiiicab
/- THE CELL 'sum', in the pinned program and in every row, IS THE sha256 OF THE DUMP (.gsa) THAT YtfnloakbkiiicabProg.lean LOADS. Nothing in Lean hashes anything: it is a label: what it is worth is what the hold of that sum in a sandbox is worth. -/
noncomputable def Try.pinned : Pinned := { name := "ytfnloakbkiiicab", sum := "838235c449326add77963acb93909189ff69aff30c288967bcceee51db52b9d3", checked := Try.checked }
namespace Rows
def none {H : Type} : Left H := { results := [], args := [] }

/-- 'laws.FnGiveTake': WHATEVER THE INPUT: true; the input reads as it did. -/
def fnGiveTakeSpec : ChangeSpec := { name := "fnGiveTake", fn := fun _ => fun
  | [d] => { results := [.lit (.bool true)], args := [d] }
  | _ => none }
def fnGiveTakeRow : OpenClaim := { program := "ytfnloakbkiiicab", sum := "838235c449326add77963acb93909189ff69aff30c288967bcceee51db52b9d3", func := "loop.example/trafficguard/laws.FnGiveTake", spec := "fnGiveTake", apart := false }
def FnGiveTakeSaid : Prop := fnGiveTakeRow.holds Try.pinned (OpenSpec.ofChange fnGiveTakeSpec)

/-- ITS FALSE NEIGHBOUR: 'it returns false'. Refute it at one input. -/
def fnGiveTakeWrong : ChangeSpec := { name := "fnGiveTake", fn := fun _ => fun
  | [d] => { results := [.lit (.bool false)], args := [d] }
  | _ => none }
def FnGiveTakeWrongFalsely : Prop := fnGiveTakeRow.holds Try.pinned (OpenSpec.ofChange fnGiveTakeWrong)

/-- 'laws.FnChangeSame': WHATEVER THE INPUT: true; the input reads as it did. -/
def fnChangeSameSpec : ChangeSpec := { name := "fnChangeSame", fn := fun _ => fun
  | [d] => { results := [.lit (.bool true)], args := [d] }
  | _ => none }
def fnChangeSameRow : OpenClaim := { program := "ytfnloakbkiiicab", sum := "838235c449326add77963acb93909189ff69aff30c288967bcceee51db52b9d3", func := "loop.example/trafficguard/laws.FnChangeSame", spec := "fnChangeSame", apart := false }
def FnChangeSameSaid : Prop := fnChangeSameRow.holds Try.pinned (OpenSpec.ofChange fnChangeSameSpec)

/-- ITS FALSE NEIGHBOUR: 'it returns false'. Refute it at one input. -/
def fnChangeSameWrong : ChangeSpec := { name := "fnChangeSame", fn := fun _ => fun
  | [d] => { results := [.lit (.bool false)], args := [d] }
  | _ => none }
def FnChangeSameWrongFalsely : Prop := fnChangeSameRow.holds Try.pinned (OpenSpec.ofChange fnChangeSameWrong)

/-- 'laws.FnLevelFull': WHATEVER THE INPUT: true; the input reads as it did. -/
def fnLevelFullSpec : ChangeSpec := { name := "fnLevelFull", fn := fun _ => fun
  | [d] => { results := [.lit (.bool true)], args := [d] }
  | _ => none }
def fnLevelFullRow : OpenClaim := { program := "ytfnloakbkiiicab", sum := "838235c449326add77963acb93909189ff69aff30c288967bcceee51db52b9d3", func := "loop.example/trafficguard/laws.FnLevelFull", spec := "fnLevelFull", apart := false }
def FnLevelFullSaid : Prop := fnLevelFullRow.holds Try.pinned (OpenSpec.ofChange fnLevelFullSpec)

/-- ITS FALSE NEIGHBOUR: 'it returns false'. Refute it at one input. -/
def fnLevelFullWrong : ChangeSpec := { name := "fnLevelFull", fn := fun _ => fun
  | [d] => { results := [.lit (.bool false)], args := [d] }
  | _ => none }
def FnLevelFullWrongFalsely : Prop := fnLevelFullRow.holds Try.pinned (OpenSpec.ofChange fnLevelFullWrong)

/-- 'laws.FnTakeLevel': WHATEVER THE INPUT: true; the input reads as it did. -/
def fnTakeLevelSpec : ChangeSpec := { name := "fnTakeLevel", fn := fun _ => fun
  | [d] => { results := [.lit (.bool true)], args := [d] }
  | _ => none }
def fnTakeLevelRow : OpenClaim := { program := "ytfnloakbkiiicab", sum := "838235c449326add77963acb93909189ff69aff30c288967bcceee51db52b9d3", func := "loop.example/trafficguard/laws.FnTakeLevel", spec := "fnTakeLevel", apart := false }
def FnTakeLevelSaid : Prop := fnTakeLevelRow.holds Try.pinned (OpenSpec.ofChange fnTakeLevelSpec)

/-- ITS FALSE NEIGHBOUR: 'it returns false'. Refute it at one input. -/
def fnTakeLevelWrong : ChangeSpec := { name := "fnTakeLevel", fn := fun _ => fun
  | [d] => { results := [.lit (.bool false)], args := [d] }
  | _ => none }
def FnTakeLevelWrongFalsely : Prop := fnTakeLevelRow.holds Try.pinned (OpenSpec.ofChange fnTakeLevelWrong)

/-- 'laws.FnExactNewBucket': WHATEVER THE INPUT: true; the input reads as it did. -/
def fnExactNewBucketSpec : ChangeSpec := { name := "fnExactNewBucket", fn := fun _ => fun
  | [d1, d2, d3] => { results := [.lit (.bool true)], args := [d1, d2, d3] }
  | _ => none }
def fnExactNewBucketRow : OpenClaim := { program := "ytfnloakbkiiicab", sum := "838235c449326add77963acb93909189ff69aff30c288967bcceee51db52b9d3", func := "loop.example/trafficguard/laws.FnExactNewBucket", spec := "fnExactNewBucket", apart := false }
def FnExactNewBucketSaid : Prop := fnExactNewBucketRow.holds Try.pinned (OpenSpec.ofChange fnExactNewBucketSpec)

/-- ITS FALSE NEIGHBOUR: 'it returns false'. Refute it at one input. -/
def fnExactNewBucketWrong : ChangeSpec := { name := "fnExactNewBucket", fn := fun _ => fun
  | [d1, d2, d3] => { results := [.lit (.bool false)], args := [d1, d2, d3] }
  | _ => none }
def FnExactNewBucketWrongFalsely : Prop := fnExactNewBucketRow.holds Try.pinned (OpenSpec.ofChange fnExactNewBucketWrong)

/-- 'laws.FnExactBucketValid': WHATEVER THE INPUT: true; the input reads as it did. -/
def fnExactBucketValidSpec : ChangeSpec := { name := "fnExactBucketValid", fn := fun _ => fun
  | [d] => { results := [.lit (.bool true)], args := [d] }
  | _ => none }
def fnExactBucketValidRow : OpenClaim := { program := "ytfnloakbkiiicab", sum := "838235c449326add77963acb93909189ff69aff30c288967bcceee51db52b9d3", func := "loop.example/trafficguard/laws.FnExactBucketValid", spec := "fnExactBucketValid", apart := false }
def FnExactBucketValidSaid : Prop := fnExactBucketValidRow.holds Try.pinned (OpenSpec.ofChange fnExactBucketValidSpec)

/-- ITS FALSE NEIGHBOUR: 'it returns false'. Refute it at one input. -/
def fnExactBucketValidWrong : ChangeSpec := { name := "fnExactBucketValid", fn := fun _ => fun
  | [d] => { results := [.lit (.bool false)], args := [d] }
  | _ => none }
def FnExactBucketValidWrongFalsely : Prop := fnExactBucketValidRow.holds Try.pinned (OpenSpec.ofChange fnExactBucketValidWrong)

/-- 'laws.FnExactLevelAt': WHATEVER THE INPUT: true; the input reads as it did. -/
def fnExactLevelAtSpec : ChangeSpec := { name := "fnExactLevelAt", fn := fun _ => fun
  | [d1, d2] => { results := [.lit (.bool true)], args := [d1, d2] }
  | _ => none }
def fnExactLevelAtRow : OpenClaim := { program := "ytfnloakbkiiicab", sum := "838235c449326add77963acb93909189ff69aff30c288967bcceee51db52b9d3", func := "loop.example/trafficguard/laws.FnExactLevelAt", spec := "fnExactLevelAt", apart := false }
def FnExactLevelAtSaid : Prop := fnExactLevelAtRow.holds Try.pinned (OpenSpec.ofChange fnExactLevelAtSpec)

/-- ITS FALSE NEIGHBOUR: 'it returns false'. Refute it at one input. -/
def fnExactLevelAtWrong : ChangeSpec := { name := "fnExactLevelAt", fn := fun _ => fun
  | [d1, d2] => { results := [.lit (.bool false)], args := [d1, d2] }
  | _ => none }
def FnExactLevelAtWrongFalsely : Prop := fnExactLevelAtRow.holds Try.pinned (OpenSpec.ofChange fnExactLevelAtWrong)

/-- 'laws.FnExactTakeTokens': WHATEVER THE INPUT: true; the input reads as it did. -/
def fnExactTakeTokensSpec : ChangeSpec := { name := "fnExactTakeTokens", fn := fun _ => fun
  | [d1, d2, d3] => { results := [.lit (.bool true)], args := [d1, d2, d3] }
  | _ => none }
def fnExactTakeTokensRow : OpenClaim := { program := "ytfnloakbkiiicab", sum := "838235c449326add77963acb93909189ff69aff30c288967bcceee51db52b9d3", func := "loop.example/trafficguard/laws.FnExactTakeTokens", spec := "fnExactTakeTokens", apart := false }
def FnExactTakeTokensSaid : Prop := fnExactTakeTokensRow.holds Try.pinned (OpenSpec.ofChange fnExactTakeTokensSpec)

/-- ITS FALSE NEIGHBOUR: 'it returns false'. Refute it at one input. -/
def fnExactTakeTokensWrong : ChangeSpec := { name := "fnExactTakeTokens", fn := fun _ => fun
  | [d1, d2, d3] => { results := [.lit (.bool false)], args := [d1, d2, d3] }
  | _ => none }
def FnExactTakeTokensWrongFalsely : Prop := fnExactTakeTokensRow.holds Try.pinned (OpenSpec.ofChange fnExactTakeTokensWrong)

/-- 'laws.FnExactGiveTokens': WHATEVER THE INPUT: true; the input reads as it did. -/
def fnExactGiveTokensSpec : ChangeSpec := { name := "fnExactGiveTokens", fn := fun _ => fun
  | [d1, d2, d3] => { results := [.lit (.bool true)], args := [d1, d2, d3] }
  | _ => none }
def fnExactGiveTokensRow : OpenClaim := { program := "ytfnloakbkiiicab", sum := "838235c449326add77963acb93909189ff69aff30c288967bcceee51db52b9d3", func := "loop.example/trafficguard/laws.FnExactGiveTokens", spec := "fnExactGiveTokens", apart := false }
def FnExactGiveTokensSaid : Prop := fnExactGiveTokensRow.holds Try.pinned (OpenSpec.ofChange fnExactGiveTokensSpec)

/-- ITS FALSE NEIGHBOUR: 'it returns false'. Refute it at one input. -/
def fnExactGiveTokensWrong : ChangeSpec := { name := "fnExactGiveTokens", fn := fun _ => fun
  | [d1, d2, d3] => { results := [.lit (.bool false)], args := [d1, d2, d3] }
  | _ => none }
def FnExactGiveTokensWrongFalsely : Prop := fnExactGiveTokensRow.holds Try.pinned (OpenSpec.ofChange fnExactGiveTokensWrong)

/-- 'laws.FnExactWaitFor': WHATEVER THE INPUT: true; the input reads as it did. -/
def fnExactWaitForSpec : ChangeSpec := { name := "fnExactWaitFor", fn := fun _ => fun
  | [d1, d2, d3] => { results := [.lit (.bool true)], args := [d1, d2, d3] }
  | _ => none }
def fnExactWaitForRow : OpenClaim := { program := "ytfnloakbkiiicab", sum := "838235c449326add77963acb93909189ff69aff30c288967bcceee51db52b9d3", func := "loop.example/trafficguard/laws.FnExactWaitFor", spec := "fnExactWaitFor", apart := false }
def FnExactWaitForSaid : Prop := fnExactWaitForRow.holds Try.pinned (OpenSpec.ofChange fnExactWaitForSpec)

/-- ITS FALSE NEIGHBOUR: 'it returns false'. Refute it at one input. -/
def fnExactWaitForWrong : ChangeSpec := { name := "fnExactWaitFor", fn := fun _ => fun
  | [d1, d2, d3] => { results := [.lit (.bool false)], args := [d1, d2, d3] }
  | _ => none }
def FnExactWaitForWrongFalsely : Prop := fnExactWaitForRow.holds Try.pinned (OpenSpec.ofChange fnExactWaitForWrong)

/-- 'laws.FnExactChangeRate': WHATEVER THE INPUT: true; the input reads as it did. -/
def fnExactChangeRateSpec : ChangeSpec := { name := "fnExactChangeRate", fn := fun _ => fun
  | [d1, d2, d3, d4] => { results := [.lit (.bool true)], args := [d1, d2, d3, d4] }
  | _ => none }
def fnExactChangeRateRow : OpenClaim := { program := "ytfnloakbkiiicab", sum := "838235c449326add77963acb93909189ff69aff30c288967bcceee51db52b9d3", func := "loop.example/trafficguard/laws.FnExactChangeRate", spec := "fnExactChangeRate", apart := false }
def FnExactChangeRateSaid : Prop := fnExactChangeRateRow.holds Try.pinned (OpenSpec.ofChange fnExactChangeRateSpec)

/-- ITS FALSE NEIGHBOUR: 'it returns false'. Refute it at one input. -/
def fnExactChangeRateWrong : ChangeSpec := { name := "fnExactChangeRate", fn := fun _ => fun
  | [d1, d2, d3, d4] => { results := [.lit (.bool false)], args := [d1, d2, d3, d4] }
  | _ => none }
def FnExactChangeRateWrongFalsely : Prop := fnExactChangeRateRow.holds Try.pinned (OpenSpec.ofChange fnExactChangeRateWrong)

/- THE SECOND FORM. 'bulk': how many values and letters a reading holds, each counted each time it is reached (what is shared counts as often as it is met; a slice's spare places count too). A statement '..UptoSaid' is the law's where the arguments, and the package variables that the reading takes, are together of bulk at most 1048576: NARROWER than '..Said'. Prove '..Said' where nothing that the law and all that it calls make is longer than what came in: it says more and counts as full. Else prove '..UptoSaid'. A law counts once. -/
mutual
def uptoBulk {H : Type} : DataW H → Nat
  | .lit (.string bytes) => bytes.length + 1
  | .lit _ => 1
  | .nil => 1
  | .ptr d => uptoBulk d + 1
  | .slice elems spare => uptoBulkAll elems + uptoBulkAll spare + 1
  | .agg parts => uptoBulkAll parts + 1
  | .iface _ d => uptoBulk d + 1
  | .map entries => uptoBulkEntries entries + 1
  | .held _ => 1
def uptoBulkAll {H : Type} : List (DataW H) → Nat
  | [] => 0
  | d :: r => uptoBulk d + uptoBulkAll r
def uptoBulkEntries {H : Type} : List (Lit × DataW H) → Nat
  | [] => 0
  | x :: r => uptoBulkEntry x + uptoBulkEntries r
def uptoBulkEntry {H : Type} : Lit × DataW H → Nat
  | (.string bytes, d) => bytes.length + uptoBulk d + 1
  | (_, d) => uptoBulk d + 1
 end
def uptoSmall : (H : Type) → List (DataW H) → Bool := fun _ ds => decide (uptoBulkAll ds ≤ 1048576)
def OpenSpec.upto (s : _root_.Go.ChangeSpec) : _root_.Go.OpenSpec := { _root_.Go.OpenSpec.ofChange s with cond := some uptoSmall }

/-- 'laws.FnGiveTake', WHERE WHAT IT READS IS OF BULK AT MOST 1048576: true; the input reads as it did. -/
def fnGiveTakeUptoRow : OpenClaim := { program := "ytfnloakbkiiicab", sum := "838235c449326add77963acb93909189ff69aff30c288967bcceee51db52b9d3", func := "loop.example/trafficguard/laws.FnGiveTake", spec := "fnGiveTake", apart := false, narrowed := true }
def FnGiveTakeUptoSaid : Prop := fnGiveTakeUptoRow.holds Try.pinned (OpenSpec.upto fnGiveTakeSpec)

/-- 'laws.FnChangeSame', WHERE WHAT IT READS IS OF BULK AT MOST 1048576: true; the input reads as it did. -/
def fnChangeSameUptoRow : OpenClaim := { program := "ytfnloakbkiiicab", sum := "838235c449326add77963acb93909189ff69aff30c288967bcceee51db52b9d3", func := "loop.example/trafficguard/laws.FnChangeSame", spec := "fnChangeSame", apart := false, narrowed := true }
def FnChangeSameUptoSaid : Prop := fnChangeSameUptoRow.holds Try.pinned (OpenSpec.upto fnChangeSameSpec)

/-- 'laws.FnLevelFull', WHERE WHAT IT READS IS OF BULK AT MOST 1048576: true; the input reads as it did. -/
def fnLevelFullUptoRow : OpenClaim := { program := "ytfnloakbkiiicab", sum := "838235c449326add77963acb93909189ff69aff30c288967bcceee51db52b9d3", func := "loop.example/trafficguard/laws.FnLevelFull", spec := "fnLevelFull", apart := false, narrowed := true }
def FnLevelFullUptoSaid : Prop := fnLevelFullUptoRow.holds Try.pinned (OpenSpec.upto fnLevelFullSpec)

/-- 'laws.FnTakeLevel', WHERE WHAT IT READS IS OF BULK AT MOST 1048576: true; the input reads as it did. -/
def fnTakeLevelUptoRow : OpenClaim := { program := "ytfnloakbkiiicab", sum := "838235c449326add77963acb93909189ff69aff30c288967bcceee51db52b9d3", func := "loop.example/trafficguard/laws.FnTakeLevel", spec := "fnTakeLevel", apart := false, narrowed := true }
def FnTakeLevelUptoSaid : Prop := fnTakeLevelUptoRow.holds Try.pinned (OpenSpec.upto fnTakeLevelSpec)

/-- 'laws.FnExactNewBucket', WHERE WHAT IT READS IS OF BULK AT MOST 1048576: true; the input reads as it did. -/
def fnExactNewBucketUptoRow : OpenClaim := { program := "ytfnloakbkiiicab", sum := "838235c449326add77963acb93909189ff69aff30c288967bcceee51db52b9d3", func := "loop.example/trafficguard/laws.FnExactNewBucket", spec := "fnExactNewBucket", apart := false, narrowed := true }
def FnExactNewBucketUptoSaid : Prop := fnExactNewBucketUptoRow.holds Try.pinned (OpenSpec.upto fnExactNewBucketSpec)

/-- 'laws.FnExactBucketValid', WHERE WHAT IT READS IS OF BULK AT MOST 1048576: true; the input reads as it did. -/
def fnExactBucketValidUptoRow : OpenClaim := { program := "ytfnloakbkiiicab", sum := "838235c449326add77963acb93909189ff69aff30c288967bcceee51db52b9d3", func := "loop.example/trafficguard/laws.FnExactBucketValid", spec := "fnExactBucketValid", apart := false, narrowed := true }
def FnExactBucketValidUptoSaid : Prop := fnExactBucketValidUptoRow.holds Try.pinned (OpenSpec.upto fnExactBucketValidSpec)

/-- 'laws.FnExactLevelAt', WHERE WHAT IT READS IS OF BULK AT MOST 1048576: true; the input reads as it did. -/
def fnExactLevelAtUptoRow : OpenClaim := { program := "ytfnloakbkiiicab", sum := "838235c449326add77963acb93909189ff69aff30c288967bcceee51db52b9d3", func := "loop.example/trafficguard/laws.FnExactLevelAt", spec := "fnExactLevelAt", apart := false, narrowed := true }
def FnExactLevelAtUptoSaid : Prop := fnExactLevelAtUptoRow.holds Try.pinned (OpenSpec.upto fnExactLevelAtSpec)

/-- 'laws.FnExactTakeTokens', WHERE WHAT IT READS IS OF BULK AT MOST 1048576: true; the input reads as it did. -/
def fnExactTakeTokensUptoRow : OpenClaim := { program := "ytfnloakbkiiicab", sum := "838235c449326add77963acb93909189ff69aff30c288967bcceee51db52b9d3", func := "loop.example/trafficguard/laws.FnExactTakeTokens", spec := "fnExactTakeTokens", apart := false, narrowed := true }
def FnExactTakeTokensUptoSaid : Prop := fnExactTakeTokensUptoRow.holds Try.pinned (OpenSpec.upto fnExactTakeTokensSpec)

/-- 'laws.FnExactGiveTokens', WHERE WHAT IT READS IS OF BULK AT MOST 1048576: true; the input reads as it did. -/
def fnExactGiveTokensUptoRow : OpenClaim := { program := "ytfnloakbkiiicab", sum := "838235c449326add77963acb93909189ff69aff30c288967bcceee51db52b9d3", func := "loop.example/trafficguard/laws.FnExactGiveTokens", spec := "fnExactGiveTokens", apart := false, narrowed := true }
def FnExactGiveTokensUptoSaid : Prop := fnExactGiveTokensUptoRow.holds Try.pinned (OpenSpec.upto fnExactGiveTokensSpec)

/-- 'laws.FnExactWaitFor', WHERE WHAT IT READS IS OF BULK AT MOST 1048576: true; the input reads as it did. -/
def fnExactWaitForUptoRow : OpenClaim := { program := "ytfnloakbkiiicab", sum := "838235c449326add77963acb93909189ff69aff30c288967bcceee51db52b9d3", func := "loop.example/trafficguard/laws.FnExactWaitFor", spec := "fnExactWaitFor", apart := false, narrowed := true }
def FnExactWaitForUptoSaid : Prop := fnExactWaitForUptoRow.holds Try.pinned (OpenSpec.upto fnExactWaitForSpec)

/-- 'laws.FnExactChangeRate', WHERE WHAT IT READS IS OF BULK AT MOST 1048576: true; the input reads as it did. -/
def fnExactChangeRateUptoRow : OpenClaim := { program := "ytfnloakbkiiicab", sum := "838235c449326add77963acb93909189ff69aff30c288967bcceee51db52b9d3", func := "loop.example/trafficguard/laws.FnExactChangeRate", spec := "fnExactChangeRate", apart := false, narrowed := true }
def FnExactChangeRateUptoSaid : Prop := fnExactChangeRateUptoRow.holds Try.pinned (OpenSpec.upto fnExactChangeRateSpec)

end Rows
end Go.Proofs.Ytfnloakbkiiicab
