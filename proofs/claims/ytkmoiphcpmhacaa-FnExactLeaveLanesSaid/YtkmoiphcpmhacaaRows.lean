/-
  No cell of these rows narrows 'for every input' (looked for: loops, veiled, ifaces, maps, wideKeys, modest, calm, conditions, laid).
  DERIVED. THE GIVEN ROWS OF THIS SEAT. 12 by the template 'for every input the law returns true; each argument reads behind the call as it read before'; 0 by the template 'total and deterministic' (their statements: YtkmoiphcpmhacaaTotals.lean).
  GIVEN WITH THE SEED: the statements are not yours to turn. If you find one false, say at which input.
  Laid BY PROGRAM, IN A SANDBOX (cutbox-rows.mjs): the forced cells as the released guide's own fill.sh prints them over the translation 0b64025512dec1d5… (all of the seat's roots in one cut). By AI agents, Wed Nov 11 2026. No macro, syntax, notation, axiom, sorry.
-/
import Derived.Test.YtkmoiphcpmhacaaChecked
import GoSem.Claim
import GoSem.ClaimJoined
import GoSem.ClaimMapViews
import Derived.JoinedTies
import Derived.KernelRfl
namespace Go.Proofs.Ytkmoiphcpmhacaa
/- THE CELL 'sum', in the pinned program and in every row, IS THE sha256 OF THE DUMP (.gsa) THAT YtkmoiphcpmhacaaProg.lean LOADS. Nothing in Lean hashes anything: it is a label: what it is worth is what the hold of that sum in a sandbox is worth. -/
noncomputable def Try.pinned : Pinned := { name := "ytkmoiphcpmhacaa", sum := "0b64025512dec1d51f3c0cbf7d0a9a99522d9468c91d4513b1511eedb232c7fa", checked := Try.checked }
namespace Rows
def none {H : Type} : Left H := { results := [], args := [] }

/-- 'laws.FnNextOfLanes': WHATEVER THE INPUT: true; the input reads as it did. -/
def fnNextOfLanesSpec : ChangeSpec := { name := "fnNextOfLanes", fn := fun _ => fun
  | [d] => { results := [.lit (.bool true)], args := [d] }
  | _ => none }
def fnNextOfLanesRow : OpenClaim := { program := "ytkmoiphcpmhacaa", sum := "0b64025512dec1d51f3c0cbf7d0a9a99522d9468c91d4513b1511eedb232c7fa", func := "loop.example/trafficguard/laws.FnNextOfLanes", spec := "fnNextOfLanes", unfollowed := true, recurses := true, apart := false }
def FnNextOfLanesSaid : Prop := fnNextOfLanesRow.holds Try.pinned (OpenSpec.ofChange fnNextOfLanesSpec)

/-- ITS FALSE NEIGHBOUR: 'it returns false'. Refute it at one input. -/
def fnNextOfLanesWrong : ChangeSpec := { name := "fnNextOfLanes", fn := fun _ => fun
  | [d] => { results := [.lit (.bool false)], args := [d] }
  | _ => none }
def FnNextOfLanesWrongFalsely : Prop := fnNextOfLanesRow.holds Try.pinned (OpenSpec.ofChange fnNextOfLanesWrong)

/-- 'laws.FnNoStarving': WHATEVER THE INPUT: true; the input reads as it did. -/
def fnNoStarvingSpec : ChangeSpec := { name := "fnNoStarving", fn := fun _ => fun
  | [d] => { results := [.lit (.bool true)], args := [d] }
  | _ => none }
def fnNoStarvingRow : OpenClaim := { program := "ytkmoiphcpmhacaa", sum := "0b64025512dec1d51f3c0cbf7d0a9a99522d9468c91d4513b1511eedb232c7fa", func := "loop.example/trafficguard/laws.FnNoStarving", spec := "fnNoStarving", apart := false }
def FnNoStarvingSaid : Prop := fnNoStarvingRow.holds Try.pinned (OpenSpec.ofChange fnNoStarvingSpec)

/-- ITS FALSE NEIGHBOUR: 'it returns false'. Refute it at one input. -/
def fnNoStarvingWrong : ChangeSpec := { name := "fnNoStarving", fn := fun _ => fun
  | [d] => { results := [.lit (.bool false)], args := [d] }
  | _ => none }
def FnNoStarvingWrongFalsely : Prop := fnNoStarvingRow.holds Try.pinned (OpenSpec.ofChange fnNoStarvingWrong)

/-- 'laws.FnTakeLanes': WHATEVER THE INPUT: true; the input reads as it did. -/
def fnTakeLanesSpec : ChangeSpec := { name := "fnTakeLanes", fn := fun _ => fun
  | [d] => { results := [.lit (.bool true)], args := [d] }
  | _ => none }
def fnTakeLanesRow : OpenClaim := { program := "ytkmoiphcpmhacaa", sum := "0b64025512dec1d51f3c0cbf7d0a9a99522d9468c91d4513b1511eedb232c7fa", func := "loop.example/trafficguard/laws.FnTakeLanes", spec := "fnTakeLanes", unfollowed := true, recurses := true, apart := false }
def FnTakeLanesSaid : Prop := fnTakeLanesRow.holds Try.pinned (OpenSpec.ofChange fnTakeLanesSpec)

/-- ITS FALSE NEIGHBOUR: 'it returns false'. Refute it at one input. -/
def fnTakeLanesWrong : ChangeSpec := { name := "fnTakeLanes", fn := fun _ => fun
  | [d] => { results := [.lit (.bool false)], args := [d] }
  | _ => none }
def FnTakeLanesWrongFalsely : Prop := fnTakeLanesRow.holds Try.pinned (OpenSpec.ofChange fnTakeLanesWrong)

/-- 'laws.FnTakeSplit': WHATEVER THE INPUT: true; the input reads as it did. -/
def fnTakeSplitSpec : ChangeSpec := { name := "fnTakeSplit", fn := fun _ => fun
  | [d] => { results := [.lit (.bool true)], args := [d] }
  | _ => none }
def fnTakeSplitRow : OpenClaim := { program := "ytkmoiphcpmhacaa", sum := "0b64025512dec1d51f3c0cbf7d0a9a99522d9468c91d4513b1511eedb232c7fa", func := "loop.example/trafficguard/laws.FnTakeSplit", spec := "fnTakeSplit", unfollowed := true, recurses := true, apart := false }
def FnTakeSplitSaid : Prop := fnTakeSplitRow.holds Try.pinned (OpenSpec.ofChange fnTakeSplitSpec)

/-- ITS FALSE NEIGHBOUR: 'it returns false'. Refute it at one input. -/
def fnTakeSplitWrong : ChangeSpec := { name := "fnTakeSplit", fn := fun _ => fun
  | [d] => { results := [.lit (.bool false)], args := [d] }
  | _ => none }
def FnTakeSplitWrongFalsely : Prop := fnTakeSplitRow.holds Try.pinned (OpenSpec.ofChange fnTakeSplitWrong)

/-- 'laws.FnLeaveLanes': WHATEVER THE INPUT: true; the input reads as it did. -/
def fnLeaveLanesSpec : ChangeSpec := { name := "fnLeaveLanes", fn := fun _ => fun
  | [d] => { results := [.lit (.bool true)], args := [d] }
  | _ => none }
def fnLeaveLanesRow : OpenClaim := { program := "ytkmoiphcpmhacaa", sum := "0b64025512dec1d51f3c0cbf7d0a9a99522d9468c91d4513b1511eedb232c7fa", func := "loop.example/trafficguard/laws.FnLeaveLanes", spec := "fnLeaveLanes", unfollowed := true, recurses := true, apart := false }
def FnLeaveLanesSaid : Prop := fnLeaveLanesRow.holds Try.pinned (OpenSpec.ofChange fnLeaveLanesSpec)

/-- ITS FALSE NEIGHBOUR: 'it returns false'. Refute it at one input. -/
def fnLeaveLanesWrong : ChangeSpec := { name := "fnLeaveLanes", fn := fun _ => fun
  | [d] => { results := [.lit (.bool false)], args := [d] }
  | _ => none }
def FnLeaveLanesWrongFalsely : Prop := fnLeaveLanesRow.holds Try.pinned (OpenSpec.ofChange fnLeaveLanesWrong)

/-- 'laws.FnLaneCredit': WHATEVER THE INPUT: true; the input reads as it did. -/
def fnLaneCreditSpec : ChangeSpec := { name := "fnLaneCredit", fn := fun _ => fun
  | [d] => { results := [.lit (.bool true)], args := [d] }
  | _ => none }
def fnLaneCreditRow : OpenClaim := { program := "ytkmoiphcpmhacaa", sum := "0b64025512dec1d51f3c0cbf7d0a9a99522d9468c91d4513b1511eedb232c7fa", func := "loop.example/trafficguard/laws.FnLaneCredit", spec := "fnLaneCredit", unfollowed := true, recurses := true, apart := false }
def FnLaneCreditSaid : Prop := fnLaneCreditRow.holds Try.pinned (OpenSpec.ofChange fnLaneCreditSpec)

/-- ITS FALSE NEIGHBOUR: 'it returns false'. Refute it at one input. -/
def fnLaneCreditWrong : ChangeSpec := { name := "fnLaneCredit", fn := fun _ => fun
  | [d] => { results := [.lit (.bool false)], args := [d] }
  | _ => none }
def FnLaneCreditWrongFalsely : Prop := fnLaneCreditRow.holds Try.pinned (OpenSpec.ofChange fnLaneCreditWrong)

/-- 'laws.FnJoinTake': WHATEVER THE INPUT: true; the input reads as it did. -/
def fnJoinTakeSpec : ChangeSpec := { name := "fnJoinTake", fn := fun _ => fun
  | [d1, d2] => { results := [.lit (.bool true)], args := [d1, d2] }
  | _ => none }
def fnJoinTakeRow : OpenClaim := { program := "ytkmoiphcpmhacaa", sum := "0b64025512dec1d51f3c0cbf7d0a9a99522d9468c91d4513b1511eedb232c7fa", func := "loop.example/trafficguard/laws.FnJoinTake", spec := "fnJoinTake", unfollowed := true, recurses := true, apart := false }
def FnJoinTakeSaid : Prop := fnJoinTakeRow.holds Try.pinned (OpenSpec.ofChange fnJoinTakeSpec)

/-- ITS FALSE NEIGHBOUR: 'it returns false'. Refute it at one input. -/
def fnJoinTakeWrong : ChangeSpec := { name := "fnJoinTake", fn := fun _ => fun
  | [d1, d2] => { results := [.lit (.bool false)], args := [d1, d2] }
  | _ => none }
def FnJoinTakeWrongFalsely : Prop := fnJoinTakeRow.holds Try.pinned (OpenSpec.ofChange fnJoinTakeWrong)

/-- 'laws.FnTakePeers': WHATEVER THE INPUT: true; the input reads as it did. -/
def fnTakePeersSpec : ChangeSpec := { name := "fnTakePeers", fn := fun _ => fun
  | [d] => { results := [.lit (.bool true)], args := [d] }
  | _ => none }
def fnTakePeersRow : OpenClaim := { program := "ytkmoiphcpmhacaa", sum := "0b64025512dec1d51f3c0cbf7d0a9a99522d9468c91d4513b1511eedb232c7fa", func := "loop.example/trafficguard/laws.FnTakePeers", spec := "fnTakePeers", unfollowed := true, recurses := true, apart := false }
def FnTakePeersSaid : Prop := fnTakePeersRow.holds Try.pinned (OpenSpec.ofChange fnTakePeersSpec)

/-- ITS FALSE NEIGHBOUR: 'it returns false'. Refute it at one input. -/
def fnTakePeersWrong : ChangeSpec := { name := "fnTakePeers", fn := fun _ => fun
  | [d] => { results := [.lit (.bool false)], args := [d] }
  | _ => none }
def FnTakePeersWrongFalsely : Prop := fnTakePeersRow.holds Try.pinned (OpenSpec.ofChange fnTakePeersWrong)

/-- 'laws.FnLeaveCount': WHATEVER THE INPUT: true; the input reads as it did. -/
def fnLeaveCountSpec : ChangeSpec := { name := "fnLeaveCount", fn := fun _ => fun
  | [d] => { results := [.lit (.bool true)], args := [d] }
  | _ => none }
def fnLeaveCountRow : OpenClaim := { program := "ytkmoiphcpmhacaa", sum := "0b64025512dec1d51f3c0cbf7d0a9a99522d9468c91d4513b1511eedb232c7fa", func := "loop.example/trafficguard/laws.FnLeaveCount", spec := "fnLeaveCount", unfollowed := true, recurses := true, apart := false }
def FnLeaveCountSaid : Prop := fnLeaveCountRow.holds Try.pinned (OpenSpec.ofChange fnLeaveCountSpec)

/-- ITS FALSE NEIGHBOUR: 'it returns false'. Refute it at one input. -/
def fnLeaveCountWrong : ChangeSpec := { name := "fnLeaveCount", fn := fun _ => fun
  | [d] => { results := [.lit (.bool false)], args := [d] }
  | _ => none }
def FnLeaveCountWrongFalsely : Prop := fnLeaveCountRow.holds Try.pinned (OpenSpec.ofChange fnLeaveCountWrong)

/-- 'laws.FnExactNextOfLanes': WHATEVER THE INPUT: true; the input reads as it did. -/
def fnExactNextOfLanesSpec : ChangeSpec := { name := "fnExactNextOfLanes", fn := fun _ => fun
  | [d] => { results := [.lit (.bool true)], args := [d] }
  | _ => none }
def fnExactNextOfLanesRow : OpenClaim := { program := "ytkmoiphcpmhacaa", sum := "0b64025512dec1d51f3c0cbf7d0a9a99522d9468c91d4513b1511eedb232c7fa", func := "loop.example/trafficguard/laws.FnExactNextOfLanes", spec := "fnExactNextOfLanes", apart := false }
def FnExactNextOfLanesSaid : Prop := fnExactNextOfLanesRow.holds Try.pinned (OpenSpec.ofChange fnExactNextOfLanesSpec)

/-- ITS FALSE NEIGHBOUR: 'it returns false'. Refute it at one input. -/
def fnExactNextOfLanesWrong : ChangeSpec := { name := "fnExactNextOfLanes", fn := fun _ => fun
  | [d] => { results := [.lit (.bool false)], args := [d] }
  | _ => none }
def FnExactNextOfLanesWrongFalsely : Prop := fnExactNextOfLanesRow.holds Try.pinned (OpenSpec.ofChange fnExactNextOfLanesWrong)

/-- 'laws.FnExactTakeLanes': WHATEVER THE INPUT: true; the input reads as it did. -/
def fnExactTakeLanesSpec : ChangeSpec := { name := "fnExactTakeLanes", fn := fun _ => fun
  | [d1, d2] => { results := [.lit (.bool true)], args := [d1, d2] }
  | _ => none }
def fnExactTakeLanesRow : OpenClaim := { program := "ytkmoiphcpmhacaa", sum := "0b64025512dec1d51f3c0cbf7d0a9a99522d9468c91d4513b1511eedb232c7fa", func := "loop.example/trafficguard/laws.FnExactTakeLanes", spec := "fnExactTakeLanes", apart := false }
def FnExactTakeLanesSaid : Prop := fnExactTakeLanesRow.holds Try.pinned (OpenSpec.ofChange fnExactTakeLanesSpec)

/-- ITS FALSE NEIGHBOUR: 'it returns false'. Refute it at one input. -/
def fnExactTakeLanesWrong : ChangeSpec := { name := "fnExactTakeLanes", fn := fun _ => fun
  | [d1, d2] => { results := [.lit (.bool false)], args := [d1, d2] }
  | _ => none }
def FnExactTakeLanesWrongFalsely : Prop := fnExactTakeLanesRow.holds Try.pinned (OpenSpec.ofChange fnExactTakeLanesWrong)

/-- 'laws.FnExactLeaveLanes': WHATEVER THE INPUT: true; the input reads as it did. -/
def fnExactLeaveLanesSpec : ChangeSpec := { name := "fnExactLeaveLanes", fn := fun _ => fun
  | [d1, d2] => { results := [.lit (.bool true)], args := [d1, d2] }
  | _ => none }
def fnExactLeaveLanesRow : OpenClaim := { program := "ytkmoiphcpmhacaa", sum := "0b64025512dec1d51f3c0cbf7d0a9a99522d9468c91d4513b1511eedb232c7fa", func := "loop.example/trafficguard/laws.FnExactLeaveLanes", spec := "fnExactLeaveLanes", apart := false }
def FnExactLeaveLanesSaid : Prop := fnExactLeaveLanesRow.holds Try.pinned (OpenSpec.ofChange fnExactLeaveLanesSpec)

/-- ITS FALSE NEIGHBOUR: 'it returns false'. Refute it at one input. -/
def fnExactLeaveLanesWrong : ChangeSpec := { name := "fnExactLeaveLanes", fn := fun _ => fun
  | [d1, d2] => { results := [.lit (.bool false)], args := [d1, d2] }
  | _ => none }
def FnExactLeaveLanesWrongFalsely : Prop := fnExactLeaveLanesRow.holds Try.pinned (OpenSpec.ofChange fnExactLeaveLanesWrong)

/- THE SECOND FORM. 'bulk': how many values and letters a reading holds, each counted each time it is reached (what is shared counts as often as it is met; a slice's spare places count too). A statement '..UptoSaid' is the law's where the arguments, and the package variables that the reading takes, are together of bulk at most 1048576: NARROWER than '..Said'. Prove '..Said' where nothing that the law and all that it calls make is longer than what came in: it says more and counts as full. Else prove '..UptoSaid'. A law counts once. -/
mutual
def uptoBulk {H : Type} : DataW H → Nat
  | .lit (.string bytes) => bytes.length + 1
  | .lit _ => 1
  | .nil => 1
  | .ptr d => uptoBulk d + 1
  | .slice elems spare => uptoBulkAll elems + uptoBulkAll spare + 1
  | .agg parts => uptoBulkAll parts + 1
  | .iface _ d => uptoBulk d + 1
  | .map entries => uptoBulkEntries entries + 1
  | .held _ => 1
def uptoBulkAll {H : Type} : List (DataW H) → Nat
  | [] => 0
  | d :: r => uptoBulk d + uptoBulkAll r
def uptoBulkEntries {H : Type} : List (Lit × DataW H) → Nat
  | [] => 0
  | x :: r => uptoBulkEntry x + uptoBulkEntries r
def uptoBulkEntry {H : Type} : Lit × DataW H → Nat
  | (.string bytes, d) => bytes.length + uptoBulk d + 1
  | (_, d) => uptoBulk d + 1
 end
def uptoSmall : (H : Type) → List (DataW H) → Bool := fun _ ds => decide (uptoBulkAll ds ≤ 1048576)
def OpenSpec.upto (s : _root_.Go.ChangeSpec) : _root_.Go.OpenSpec := { _root_.Go.OpenSpec.ofChange s with cond := some uptoSmall }

/-- 'laws.FnNextOfLanes', WHERE WHAT IT READS IS OF BULK AT MOST 1048576: true; the input reads as it did. -/
def fnNextOfLanesUptoRow : OpenClaim := { program := "ytkmoiphcpmhacaa", sum := "0b64025512dec1d51f3c0cbf7d0a9a99522d9468c91d4513b1511eedb232c7fa", func := "loop.example/trafficguard/laws.FnNextOfLanes", spec := "fnNextOfLanes", unfollowed := true, recurses := true, apart := false, narrowed := true }
def FnNextOfLanesUptoSaid : Prop := fnNextOfLanesUptoRow.holds Try.pinned (OpenSpec.upto fnNextOfLanesSpec)

/-- 'laws.FnNoStarving', WHERE WHAT IT READS IS OF BULK AT MOST 1048576: true; the input reads as it did. -/
def fnNoStarvingUptoRow : OpenClaim := { program := "ytkmoiphcpmhacaa", sum := "0b64025512dec1d51f3c0cbf7d0a9a99522d9468c91d4513b1511eedb232c7fa", func := "loop.example/trafficguard/laws.FnNoStarving", spec := "fnNoStarving", apart := false, narrowed := true }
def FnNoStarvingUptoSaid : Prop := fnNoStarvingUptoRow.holds Try.pinned (OpenSpec.upto fnNoStarvingSpec)

/-- 'laws.FnTakeLanes', WHERE WHAT IT READS IS OF BULK AT MOST 1048576: true; the input reads as it did. -/
def fnTakeLanesUptoRow : OpenClaim := { program := "ytkmoiphcpmhacaa", sum := "0b64025512dec1d51f3c0cbf7d0a9a99522d9468c91d4513b1511eedb232c7fa", func := "loop.example/trafficguard/laws.FnTakeLanes", spec := "fnTakeLanes", unfollowed := true, recurses := true, apart := false, narrowed := true }
def FnTakeLanesUptoSaid : Prop := fnTakeLanesUptoRow.holds Try.pinned (OpenSpec.upto fnTakeLanesSpec)

/-- 'laws.FnTakeSplit', WHERE WHAT IT READS IS OF BULK AT MOST 1048576: true; the input reads as it did. -/
def fnTakeSplitUptoRow : OpenClaim := { program := "ytkmoiphcpmhacaa", sum := "0b64025512dec1d51f3c0cbf7d0a9a99522d9468c91d4513b1511eedb232c7fa", func := "loop.example/trafficguard/laws.FnTakeSplit", spec := "fnTakeSplit", unfollowed := true, recurses := true, apart := false, narrowed := true }
def FnTakeSplitUptoSaid : Prop := fnTakeSplitUptoRow.holds Try.pinned (OpenSpec.upto fnTakeSplitSpec)

/-- 'laws.FnLeaveLanes', WHERE WHAT IT READS IS OF BULK AT MOST 1048576: true; the input reads as it did. -/
def fnLeaveLanesUptoRow : OpenClaim := { program := "ytkmoiphcpmhacaa", sum := "0b64025512dec1d51f3c0cbf7d0a9a99522d9468c91d4513b1511eedb232c7fa", func := "loop.example/trafficguard/laws.FnLeaveLanes", spec := "fnLeaveLanes", unfollowed := true, recurses := true, apart := false, narrowed := true }
def FnLeaveLanesUptoSaid : Prop := fnLeaveLanesUptoRow.holds Try.pinned (OpenSpec.upto fnLeaveLanesSpec)

/-- 'laws.FnLaneCredit', WHERE WHAT IT READS IS OF BULK AT MOST 1048576: true; the input reads as it did. -/
def fnLaneCreditUptoRow : OpenClaim := { program := "ytkmoiphcpmhacaa", sum := "0b64025512dec1d51f3c0cbf7d0a9a99522d9468c91d4513b1511eedb232c7fa", func := "loop.example/trafficguard/laws.FnLaneCredit", spec := "fnLaneCredit", unfollowed := true, recurses := true, apart := false, narrowed := true }
def FnLaneCreditUptoSaid : Prop := fnLaneCreditUptoRow.holds Try.pinned (OpenSpec.upto fnLaneCreditSpec)

/-- 'laws.FnJoinTake', WHERE WHAT IT READS IS OF BULK AT MOST 1048576: true; the input reads as it did. -/
def fnJoinTakeUptoRow : OpenClaim := { program := "ytkmoiphcpmhacaa", sum := "0b64025512dec1d51f3c0cbf7d0a9a99522d9468c91d4513b1511eedb232c7fa", func := "loop.example/trafficguard/laws.FnJoinTake", spec := "fnJoinTake", unfollowed := true, recurses := true, apart := false, narrowed := true }
def FnJoinTakeUptoSaid : Prop := fnJoinTakeUptoRow.holds Try.pinned (OpenSpec.upto fnJoinTakeSpec)

/-- 'laws.FnTakePeers', WHERE WHAT IT READS IS OF BULK AT MOST 1048576: true; the input reads as it did. -/
def fnTakePeersUptoRow : OpenClaim := { program := "ytkmoiphcpmhacaa", sum := "0b64025512dec1d51f3c0cbf7d0a9a99522d9468c91d4513b1511eedb232c7fa", func := "loop.example/trafficguard/laws.FnTakePeers", spec := "fnTakePeers", unfollowed := true, recurses := true, apart := false, narrowed := true }
def FnTakePeersUptoSaid : Prop := fnTakePeersUptoRow.holds Try.pinned (OpenSpec.upto fnTakePeersSpec)

/-- 'laws.FnLeaveCount', WHERE WHAT IT READS IS OF BULK AT MOST 1048576: true; the input reads as it did. -/
def fnLeaveCountUptoRow : OpenClaim := { program := "ytkmoiphcpmhacaa", sum := "0b64025512dec1d51f3c0cbf7d0a9a99522d9468c91d4513b1511eedb232c7fa", func := "loop.example/trafficguard/laws.FnLeaveCount", spec := "fnLeaveCount", unfollowed := true, recurses := true, apart := false, narrowed := true }
def FnLeaveCountUptoSaid : Prop := fnLeaveCountUptoRow.holds Try.pinned (OpenSpec.upto fnLeaveCountSpec)

/-- 'laws.FnExactNextOfLanes', WHERE WHAT IT READS IS OF BULK AT MOST 1048576: true; the input reads as it did. -/
def fnExactNextOfLanesUptoRow : OpenClaim := { program := "ytkmoiphcpmhacaa", sum := "0b64025512dec1d51f3c0cbf7d0a9a99522d9468c91d4513b1511eedb232c7fa", func := "loop.example/trafficguard/laws.FnExactNextOfLanes", spec := "fnExactNextOfLanes", apart := false, narrowed := true }
def FnExactNextOfLanesUptoSaid : Prop := fnExactNextOfLanesUptoRow.holds Try.pinned (OpenSpec.upto fnExactNextOfLanesSpec)

/-- 'laws.FnExactTakeLanes', WHERE WHAT IT READS IS OF BULK AT MOST 1048576: true; the input reads as it did. -/
def fnExactTakeLanesUptoRow : OpenClaim := { program := "ytkmoiphcpmhacaa", sum := "0b64025512dec1d51f3c0cbf7d0a9a99522d9468c91d4513b1511eedb232c7fa", func := "loop.example/trafficguard/laws.FnExactTakeLanes", spec := "fnExactTakeLanes", apart := false, narrowed := true }
def FnExactTakeLanesUptoSaid : Prop := fnExactTakeLanesUptoRow.holds Try.pinned (OpenSpec.upto fnExactTakeLanesSpec)

/-- 'laws.FnExactLeaveLanes', WHERE WHAT IT READS IS OF BULK AT MOST 1048576: true; the input reads as it did. -/
def fnExactLeaveLanesUptoRow : OpenClaim := { program := "ytkmoiphcpmhacaa", sum := "0b64025512dec1d51f3c0cbf7d0a9a99522d9468c91d4513b1511eedb232c7fa", func := "loop.example/trafficguard/laws.FnExactLeaveLanes", spec := "fnExactLeaveLanes", apart := false, narrowed := true }
def FnExactLeaveLanesUptoSaid : Prop := fnExactLeaveLanesUptoRow.holds Try.pinned (OpenSpec.upto fnExactLeaveLanesSpec)

end Rows
end Go.Proofs.Ytkmoiphcpmhacaa
