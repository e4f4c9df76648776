/-
  No cell of these rows narrows 'for every input' (looked for: loops, veiled, ifaces, maps, wideKeys, modest, calm, conditions, laid).
  DERIVED. THE GIVEN ROWS OF THIS SEAT. 12 by the template 'for every input the law returns true; each argument reads behind the call as it read before'; 0 by the template 'total and deterministic' (their statements: YtgpkhimgkemjhaaTotals.lean).
  GIVEN WITH THE SEED: the statements are not yours to turn. If you find one false, say at which input.
  Laid BY PROGRAM, IN A SANDBOX (cutbox-rows.mjs): the forced cells as the released guide's own fill.sh prints them over the translation 045a9a90d01b15c4… (all of the seat's roots in one cut). By AI agents, Wed Nov 11 2026. No macro, syntax, notation, axiom, sorry.
-/
import Derived.Test.YtgpkhimgkemjhaaChecked
import GoSem.Claim
import GoSem.ClaimJoined
import GoSem.ClaimMapViews
import Derived.JoinedTies
import Derived.KernelRfl
namespace Go.Proofs.Ytgpkhimgkemjhaa
/- THE CELL 'sum', in the pinned program and in every row, IS THE sha256 OF THE DUMP (.gsa) THAT YtgpkhimgkemjhaaProg.lean LOADS. Nothing in Lean hashes anything: it is a label: what it is worth is what the hold of that sum in a sandbox is worth. -/
noncomputable def Try.pinned : Pinned := { name := "ytgpkhimgkemjhaa", sum := "045a9a90d01b15c4ba20130600b3dd0c60468aefa9f218331ec5d2595f5e8bbd", checked := Try.checked }
namespace Rows
def none {H : Type} : Left H := { results := [], args := [] }

/-- 'laws.FnNextPacket': WHATEVER THE INPUT: true; the input reads as it did. -/
def fnNextPacketSpec : ChangeSpec := { name := "fnNextPacket", fn := fun _ => fun
  | [d] => { results := [.lit (.bool true)], args := [d] }
  | _ => none }
def fnNextPacketRow : OpenClaim := { program := "ytgpkhimgkemjhaa", sum := "045a9a90d01b15c4ba20130600b3dd0c60468aefa9f218331ec5d2595f5e8bbd", func := "loop.example/trafficguard/laws.FnNextPacket", spec := "fnNextPacket", unfollowed := true, recurses := true, apart := false }
def FnNextPacketSaid : Prop := fnNextPacketRow.holds Try.pinned (OpenSpec.ofChange fnNextPacketSpec)

/-- ITS FALSE NEIGHBOUR: 'it returns false'. Refute it at one input. -/
def fnNextPacketWrong : ChangeSpec := { name := "fnNextPacket", fn := fun _ => fun
  | [d] => { results := [.lit (.bool false)], args := [d] }
  | _ => none }
def FnNextPacketWrongFalsely : Prop := fnNextPacketRow.holds Try.pinned (OpenSpec.ofChange fnNextPacketWrong)

/-- 'laws.FnTakeAll': WHATEVER THE INPUT: true; the input reads as it did. -/
def fnTakeAllSpec : ChangeSpec := { name := "fnTakeAll", fn := fun _ => fun
  | [d] => { results := [.lit (.bool true)], args := [d] }
  | _ => none }
def fnTakeAllRow : OpenClaim := { program := "ytgpkhimgkemjhaa", sum := "045a9a90d01b15c4ba20130600b3dd0c60468aefa9f218331ec5d2595f5e8bbd", func := "loop.example/trafficguard/laws.FnTakeAll", spec := "fnTakeAll", apart := false }
def FnTakeAllSaid : Prop := fnTakeAllRow.holds Try.pinned (OpenSpec.ofChange fnTakeAllSpec)

/-- ITS FALSE NEIGHBOUR: 'it returns false'. Refute it at one input. -/
def fnTakeAllWrong : ChangeSpec := { name := "fnTakeAll", fn := fun _ => fun
  | [d] => { results := [.lit (.bool false)], args := [d] }
  | _ => none }
def FnTakeAllWrongFalsely : Prop := fnTakeAllRow.holds Try.pinned (OpenSpec.ofChange fnTakeAllWrong)

/-- 'laws.FnTakeFair': WHATEVER THE INPUT: true; the input reads as it did. -/
def fnTakeFairSpec : ChangeSpec := { name := "fnTakeFair", fn := fun _ => fun
  | [d] => { results := [.lit (.bool true)], args := [d] }
  | _ => none }
def fnTakeFairRow : OpenClaim := { program := "ytgpkhimgkemjhaa", sum := "045a9a90d01b15c4ba20130600b3dd0c60468aefa9f218331ec5d2595f5e8bbd", func := "loop.example/trafficguard/laws.FnTakeFair", spec := "fnTakeFair", apart := false }
def FnTakeFairSaid : Prop := fnTakeFairRow.holds Try.pinned (OpenSpec.ofChange fnTakeFairSpec)

/-- ITS FALSE NEIGHBOUR: 'it returns false'. Refute it at one input. -/
def fnTakeFairWrong : ChangeSpec := { name := "fnTakeFair", fn := fun _ => fun
  | [d] => { results := [.lit (.bool false)], args := [d] }
  | _ => none }
def FnTakeFairWrongFalsely : Prop := fnTakeFairRow.holds Try.pinned (OpenSpec.ofChange fnTakeFairWrong)

/-- 'laws.FnTakeBytes': WHATEVER THE INPUT: true; the input reads as it did. -/
def fnTakeBytesSpec : ChangeSpec := { name := "fnTakeBytes", fn := fun _ => fun
  | [d] => { results := [.lit (.bool true)], args := [d] }
  | _ => none }
def fnTakeBytesRow : OpenClaim := { program := "ytgpkhimgkemjhaa", sum := "045a9a90d01b15c4ba20130600b3dd0c60468aefa9f218331ec5d2595f5e8bbd", func := "loop.example/trafficguard/laws.FnTakeBytes", spec := "fnTakeBytes", unfollowed := true, recurses := true, apart := false }
def FnTakeBytesSaid : Prop := fnTakeBytesRow.holds Try.pinned (OpenSpec.ofChange fnTakeBytesSpec)

/-- ITS FALSE NEIGHBOUR: 'it returns false'. Refute it at one input. -/
def fnTakeBytesWrong : ChangeSpec := { name := "fnTakeBytes", fn := fun _ => fun
  | [d] => { results := [.lit (.bool false)], args := [d] }
  | _ => none }
def FnTakeBytesWrongFalsely : Prop := fnTakeBytesRow.holds Try.pinned (OpenSpec.ofChange fnTakeBytesWrong)

/-- 'laws.FnJoinRobin': WHATEVER THE INPUT: true; the input reads as it did. -/
def fnJoinRobinSpec : ChangeSpec := { name := "fnJoinRobin", fn := fun _ => fun
  | [d] => { results := [.lit (.bool true)], args := [d] }
  | _ => none }
def fnJoinRobinRow : OpenClaim := { program := "ytgpkhimgkemjhaa", sum := "045a9a90d01b15c4ba20130600b3dd0c60468aefa9f218331ec5d2595f5e8bbd", func := "loop.example/trafficguard/laws.FnJoinRobin", spec := "fnJoinRobin", unfollowed := true, recurses := true, apart := false }
def FnJoinRobinSaid : Prop := fnJoinRobinRow.holds Try.pinned (OpenSpec.ofChange fnJoinRobinSpec)

/-- ITS FALSE NEIGHBOUR: 'it returns false'. Refute it at one input. -/
def fnJoinRobinWrong : ChangeSpec := { name := "fnJoinRobin", fn := fun _ => fun
  | [d] => { results := [.lit (.bool false)], args := [d] }
  | _ => none }
def FnJoinRobinWrongFalsely : Prop := fnJoinRobinRow.holds Try.pinned (OpenSpec.ofChange fnJoinRobinWrong)

/-- 'laws.FnLeaveRobin': WHATEVER THE INPUT: true; the input reads as it did. -/
def fnLeaveRobinSpec : ChangeSpec := { name := "fnLeaveRobin", fn := fun _ => fun
  | [d] => { results := [.lit (.bool true)], args := [d] }
  | _ => none }
def fnLeaveRobinRow : OpenClaim := { program := "ytgpkhimgkemjhaa", sum := "045a9a90d01b15c4ba20130600b3dd0c60468aefa9f218331ec5d2595f5e8bbd", func := "loop.example/trafficguard/laws.FnLeaveRobin", spec := "fnLeaveRobin", unfollowed := true, recurses := true, apart := false }
def FnLeaveRobinSaid : Prop := fnLeaveRobinRow.holds Try.pinned (OpenSpec.ofChange fnLeaveRobinSpec)

/-- ITS FALSE NEIGHBOUR: 'it returns false'. Refute it at one input. -/
def fnLeaveRobinWrong : ChangeSpec := { name := "fnLeaveRobin", fn := fun _ => fun
  | [d] => { results := [.lit (.bool false)], args := [d] }
  | _ => none }
def FnLeaveRobinWrongFalsely : Prop := fnLeaveRobinRow.holds Try.pinned (OpenSpec.ofChange fnLeaveRobinWrong)

/-- 'laws.FnRobinSame': WHATEVER THE INPUT: true; the input reads as it did. -/
def fnRobinSameSpec : ChangeSpec := { name := "fnRobinSame", fn := fun _ => fun
  | [d] => { results := [.lit (.bool true)], args := [d] }
  | _ => none }
def fnRobinSameRow : OpenClaim := { program := "ytgpkhimgkemjhaa", sum := "045a9a90d01b15c4ba20130600b3dd0c60468aefa9f218331ec5d2595f5e8bbd", func := "loop.example/trafficguard/laws.FnRobinSame", spec := "fnRobinSame", unfollowed := true, recurses := true, apart := false }
def FnRobinSameSaid : Prop := fnRobinSameRow.holds Try.pinned (OpenSpec.ofChange fnRobinSameSpec)

/-- ITS FALSE NEIGHBOUR: 'it returns false'. Refute it at one input. -/
def fnRobinSameWrong : ChangeSpec := { name := "fnRobinSame", fn := fun _ => fun
  | [d] => { results := [.lit (.bool false)], args := [d] }
  | _ => none }
def FnRobinSameWrongFalsely : Prop := fnRobinSameRow.holds Try.pinned (OpenSpec.ofChange fnRobinSameWrong)

/-- 'laws.FnRobinValid': WHATEVER THE INPUT: true; the input reads as it did. -/
def fnRobinValidSpec : ChangeSpec := { name := "fnRobinValid", fn := fun _ => fun
  | [d] => { results := [.lit (.bool true)], args := [d] }
  | _ => none }
def fnRobinValidRow : OpenClaim := { program := "ytgpkhimgkemjhaa", sum := "045a9a90d01b15c4ba20130600b3dd0c60468aefa9f218331ec5d2595f5e8bbd", func := "loop.example/trafficguard/laws.FnRobinValid", spec := "fnRobinValid", apart := false }
def FnRobinValidSaid : Prop := fnRobinValidRow.holds Try.pinned (OpenSpec.ofChange fnRobinValidSpec)

/-- ITS FALSE NEIGHBOUR: 'it returns false'. Refute it at one input. -/
def fnRobinValidWrong : ChangeSpec := { name := "fnRobinValid", fn := fun _ => fun
  | [d] => { results := [.lit (.bool false)], args := [d] }
  | _ => none }
def FnRobinValidWrongFalsely : Prop := fnRobinValidRow.holds Try.pinned (OpenSpec.ofChange fnRobinValidWrong)

/-- 'laws.FnTakeEmpty': WHATEVER THE INPUT: true; the input reads as it did. -/
def fnTakeEmptySpec : ChangeSpec := { name := "fnTakeEmpty", fn := fun _ => fun
  | [d] => { results := [.lit (.bool true)], args := [d] }
  | _ => none }
def fnTakeEmptyRow : OpenClaim := { program := "ytgpkhimgkemjhaa", sum := "045a9a90d01b15c4ba20130600b3dd0c60468aefa9f218331ec5d2595f5e8bbd", func := "loop.example/trafficguard/laws.FnTakeEmpty", spec := "fnTakeEmpty", apart := false }
def FnTakeEmptySaid : Prop := fnTakeEmptyRow.holds Try.pinned (OpenSpec.ofChange fnTakeEmptySpec)

/-- ITS FALSE NEIGHBOUR: 'it returns false'. Refute it at one input. -/
def fnTakeEmptyWrong : ChangeSpec := { name := "fnTakeEmpty", fn := fun _ => fun
  | [d] => { results := [.lit (.bool false)], args := [d] }
  | _ => none }
def FnTakeEmptyWrongFalsely : Prop := fnTakeEmptyRow.holds Try.pinned (OpenSpec.ofChange fnTakeEmptyWrong)

/-- 'laws.FnTakeParts': WHATEVER THE INPUT: true; the input reads as it did. -/
def fnTakePartsSpec : ChangeSpec := { name := "fnTakeParts", fn := fun _ => fun
  | [d] => { results := [.lit (.bool true)], args := [d] }
  | _ => none }
def fnTakePartsRow : OpenClaim := { program := "ytgpkhimgkemjhaa", sum := "045a9a90d01b15c4ba20130600b3dd0c60468aefa9f218331ec5d2595f5e8bbd", func := "loop.example/trafficguard/laws.FnTakeParts", spec := "fnTakeParts", unfollowed := true, recurses := true, apart := false }
def FnTakePartsSaid : Prop := fnTakePartsRow.holds Try.pinned (OpenSpec.ofChange fnTakePartsSpec)

/-- ITS FALSE NEIGHBOUR: 'it returns false'. Refute it at one input. -/
def fnTakePartsWrong : ChangeSpec := { name := "fnTakeParts", fn := fun _ => fun
  | [d] => { results := [.lit (.bool false)], args := [d] }
  | _ => none }
def FnTakePartsWrongFalsely : Prop := fnTakePartsRow.holds Try.pinned (OpenSpec.ofChange fnTakePartsWrong)

/-- 'laws.FnJoinNew': WHATEVER THE INPUT: true; the input reads as it did. -/
def fnJoinNewSpec : ChangeSpec := { name := "fnJoinNew", fn := fun _ => fun
  | [d] => { results := [.lit (.bool true)], args := [d] }
  | _ => none }
def fnJoinNewRow : OpenClaim := { program := "ytgpkhimgkemjhaa", sum := "045a9a90d01b15c4ba20130600b3dd0c60468aefa9f218331ec5d2595f5e8bbd", func := "loop.example/trafficguard/laws.FnJoinNew", spec := "fnJoinNew", unfollowed := true, recurses := true, apart := false }
def FnJoinNewSaid : Prop := fnJoinNewRow.holds Try.pinned (OpenSpec.ofChange fnJoinNewSpec)

/-- ITS FALSE NEIGHBOUR: 'it returns false'. Refute it at one input. -/
def fnJoinNewWrong : ChangeSpec := { name := "fnJoinNew", fn := fun _ => fun
  | [d] => { results := [.lit (.bool false)], args := [d] }
  | _ => none }
def FnJoinNewWrongFalsely : Prop := fnJoinNewRow.holds Try.pinned (OpenSpec.ofChange fnJoinNewWrong)

/-- 'laws.FnOneFlow': WHATEVER THE INPUT: true; the input reads as it did. -/
def fnOneFlowSpec : ChangeSpec := { name := "fnOneFlow", fn := fun _ => fun
  | [d] => { results := [.lit (.bool true)], args := [d] }
  | _ => none }
def fnOneFlowRow : OpenClaim := { program := "ytgpkhimgkemjhaa", sum := "045a9a90d01b15c4ba20130600b3dd0c60468aefa9f218331ec5d2595f5e8bbd", func := "loop.example/trafficguard/laws.FnOneFlow", spec := "fnOneFlow", apart := false }
def FnOneFlowSaid : Prop := fnOneFlowRow.holds Try.pinned (OpenSpec.ofChange fnOneFlowSpec)

/-- ITS FALSE NEIGHBOUR: 'it returns false'. Refute it at one input. -/
def fnOneFlowWrong : ChangeSpec := { name := "fnOneFlow", fn := fun _ => fun
  | [d] => { results := [.lit (.bool false)], args := [d] }
  | _ => none }
def FnOneFlowWrongFalsely : Prop := fnOneFlowRow.holds Try.pinned (OpenSpec.ofChange fnOneFlowWrong)

/- THE SECOND FORM. 'bulk': how many values and letters a reading holds, each counted each time it is reached (what is shared counts as often as it is met; a slice's spare places count too). A statement '..UptoSaid' is the law's where the arguments, and the package variables that the reading takes, are together of bulk at most 1048576: NARROWER than '..Said'. Prove '..Said' where nothing that the law and all that it calls make is longer than what came in: it says more and counts as full. Else prove '..UptoSaid'. A law counts once. -/
mutual
def uptoBulk {H : Type} : DataW H → Nat
  | .lit (.string bytes) => bytes.length + 1
  | .lit _ => 1
  | .nil => 1
  | .ptr d => uptoBulk d + 1
  | .slice elems spare => uptoBulkAll elems + uptoBulkAll spare + 1
  | .agg parts => uptoBulkAll parts + 1
  | .iface _ d => uptoBulk d + 1
  | .map entries => uptoBulkEntries entries + 1
  | .held _ => 1
def uptoBulkAll {H : Type} : List (DataW H) → Nat
  | [] => 0
  | d :: r => uptoBulk d + uptoBulkAll r
def uptoBulkEntries {H : Type} : List (Lit × DataW H) → Nat
  | [] => 0
  | x :: r => uptoBulkEntry x + uptoBulkEntries r
def uptoBulkEntry {H : Type} : Lit × DataW H → Nat
  | (.string bytes, d) => bytes.length + uptoBulk d + 1
  | (_, d) => uptoBulk d + 1
 end
def uptoSmall : (H : Type) → List (DataW H) → Bool := fun _ ds => decide (uptoBulkAll ds ≤ 1048576)
def OpenSpec.upto (s : _root_.Go.ChangeSpec) : _root_.Go.OpenSpec := { _root_.Go.OpenSpec.ofChange s with cond := some uptoSmall }

/-- 'laws.FnNextPacket', WHERE WHAT IT READS IS OF BULK AT MOST 1048576: true; the input reads as it did. -/
def fnNextPacketUptoRow : OpenClaim := { program := "ytgpkhimgkemjhaa", sum := "045a9a90d01b15c4ba20130600b3dd0c60468aefa9f218331ec5d2595f5e8bbd", func := "loop.example/trafficguard/laws.FnNextPacket", spec := "fnNextPacket", unfollowed := true, recurses := true, apart := false, narrowed := true }
def FnNextPacketUptoSaid : Prop := fnNextPacketUptoRow.holds Try.pinned (OpenSpec.upto fnNextPacketSpec)

/-- 'laws.FnTakeAll', WHERE WHAT IT READS IS OF BULK AT MOST 1048576: true; the input reads as it did. -/
def fnTakeAllUptoRow : OpenClaim := { program := "ytgpkhimgkemjhaa", sum := "045a9a90d01b15c4ba20130600b3dd0c60468aefa9f218331ec5d2595f5e8bbd", func := "loop.example/trafficguard/laws.FnTakeAll", spec := "fnTakeAll", apart := false, narrowed := true }
def FnTakeAllUptoSaid : Prop := fnTakeAllUptoRow.holds Try.pinned (OpenSpec.upto fnTakeAllSpec)

/-- 'laws.FnTakeFair', WHERE WHAT IT READS IS OF BULK AT MOST 1048576: true; the input reads as it did. -/
def fnTakeFairUptoRow : OpenClaim := { program := "ytgpkhimgkemjhaa", sum := "045a9a90d01b15c4ba20130600b3dd0c60468aefa9f218331ec5d2595f5e8bbd", func := "loop.example/trafficguard/laws.FnTakeFair", spec := "fnTakeFair", apart := false, narrowed := true }
def FnTakeFairUptoSaid : Prop := fnTakeFairUptoRow.holds Try.pinned (OpenSpec.upto fnTakeFairSpec)

/-- 'laws.FnTakeBytes', WHERE WHAT IT READS IS OF BULK AT MOST 1048576: true; the input reads as it did. -/
def fnTakeBytesUptoRow : OpenClaim := { program := "ytgpkhimgkemjhaa", sum := "045a9a90d01b15c4ba20130600b3dd0c60468aefa9f218331ec5d2595f5e8bbd", func := "loop.example/trafficguard/laws.FnTakeBytes", spec := "fnTakeBytes", unfollowed := true, recurses := true, apart := false, narrowed := true }
def FnTakeBytesUptoSaid : Prop := fnTakeBytesUptoRow.holds Try.pinned (OpenSpec.upto fnTakeBytesSpec)

/-- 'laws.FnJoinRobin', WHERE WHAT IT READS IS OF BULK AT MOST 1048576: true; the input reads as it did. -/
def fnJoinRobinUptoRow : OpenClaim := { program := "ytgpkhimgkemjhaa", sum := "045a9a90d01b15c4ba20130600b3dd0c60468aefa9f218331ec5d2595f5e8bbd", func := "loop.example/trafficguard/laws.FnJoinRobin", spec := "fnJoinRobin", unfollowed := true, recurses := true, apart := false, narrowed := true }
def FnJoinRobinUptoSaid : Prop := fnJoinRobinUptoRow.holds Try.pinned (OpenSpec.upto fnJoinRobinSpec)

/-- 'laws.FnLeaveRobin', WHERE WHAT IT READS IS OF BULK AT MOST 1048576: true; the input reads as it did. -/
def fnLeaveRobinUptoRow : OpenClaim := { program := "ytgpkhimgkemjhaa", sum := "045a9a90d01b15c4ba20130600b3dd0c60468aefa9f218331ec5d2595f5e8bbd", func := "loop.example/trafficguard/laws.FnLeaveRobin", spec := "fnLeaveRobin", unfollowed := true, recurses := true, apart := false, narrowed := true }
def FnLeaveRobinUptoSaid : Prop := fnLeaveRobinUptoRow.holds Try.pinned (OpenSpec.upto fnLeaveRobinSpec)

/-- 'laws.FnRobinSame', WHERE WHAT IT READS IS OF BULK AT MOST 1048576: true; the input reads as it did. -/
def fnRobinSameUptoRow : OpenClaim := { program := "ytgpkhimgkemjhaa", sum := "045a9a90d01b15c4ba20130600b3dd0c60468aefa9f218331ec5d2595f5e8bbd", func := "loop.example/trafficguard/laws.FnRobinSame", spec := "fnRobinSame", unfollowed := true, recurses := true, apart := false, narrowed := true }
def FnRobinSameUptoSaid : Prop := fnRobinSameUptoRow.holds Try.pinned (OpenSpec.upto fnRobinSameSpec)

/-- 'laws.FnRobinValid', WHERE WHAT IT READS IS OF BULK AT MOST 1048576: true; the input reads as it did. -/
def fnRobinValidUptoRow : OpenClaim := { program := "ytgpkhimgkemjhaa", sum := "045a9a90d01b15c4ba20130600b3dd0c60468aefa9f218331ec5d2595f5e8bbd", func := "loop.example/trafficguard/laws.FnRobinValid", spec := "fnRobinValid", apart := false, narrowed := true }
def FnRobinValidUptoSaid : Prop := fnRobinValidUptoRow.holds Try.pinned (OpenSpec.upto fnRobinValidSpec)

/-- 'laws.FnTakeEmpty', WHERE WHAT IT READS IS OF BULK AT MOST 1048576: true; the input reads as it did. -/
def fnTakeEmptyUptoRow : OpenClaim := { program := "ytgpkhimgkemjhaa", sum := "045a9a90d01b15c4ba20130600b3dd0c60468aefa9f218331ec5d2595f5e8bbd", func := "loop.example/trafficguard/laws.FnTakeEmpty", spec := "fnTakeEmpty", apart := false, narrowed := true }
def FnTakeEmptyUptoSaid : Prop := fnTakeEmptyUptoRow.holds Try.pinned (OpenSpec.upto fnTakeEmptySpec)

/-- 'laws.FnTakeParts', WHERE WHAT IT READS IS OF BULK AT MOST 1048576: true; the input reads as it did. -/
def fnTakePartsUptoRow : OpenClaim := { program := "ytgpkhimgkemjhaa", sum := "045a9a90d01b15c4ba20130600b3dd0c60468aefa9f218331ec5d2595f5e8bbd", func := "loop.example/trafficguard/laws.FnTakeParts", spec := "fnTakeParts", unfollowed := true, recurses := true, apart := false, narrowed := true }
def FnTakePartsUptoSaid : Prop := fnTakePartsUptoRow.holds Try.pinned (OpenSpec.upto fnTakePartsSpec)

/-- 'laws.FnJoinNew', WHERE WHAT IT READS IS OF BULK AT MOST 1048576: true; the input reads as it did. -/
def fnJoinNewUptoRow : OpenClaim := { program := "ytgpkhimgkemjhaa", sum := "045a9a90d01b15c4ba20130600b3dd0c60468aefa9f218331ec5d2595f5e8bbd", func := "loop.example/trafficguard/laws.FnJoinNew", spec := "fnJoinNew", unfollowed := true, recurses := true, apart := false, narrowed := true }
def FnJoinNewUptoSaid : Prop := fnJoinNewUptoRow.holds Try.pinned (OpenSpec.upto fnJoinNewSpec)

/-- 'laws.FnOneFlow', WHERE WHAT IT READS IS OF BULK AT MOST 1048576: true; the input reads as it did. -/
def fnOneFlowUptoRow : OpenClaim := { program := "ytgpkhimgkemjhaa", sum := "045a9a90d01b15c4ba20130600b3dd0c60468aefa9f218331ec5d2595f5e8bbd", func := "loop.example/trafficguard/laws.FnOneFlow", spec := "fnOneFlow", apart := false, narrowed := true }
def FnOneFlowUptoSaid : Prop := fnOneFlowUptoRow.holds Try.pinned (OpenSpec.upto fnOneFlowSpec)

end Rows
end Go.Proofs.Ytgpkhimgkemjhaa
