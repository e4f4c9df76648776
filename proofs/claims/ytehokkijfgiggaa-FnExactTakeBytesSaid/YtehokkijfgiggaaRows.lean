/-
  No cell of these rows narrows 'for every input' (looked for: loops, veiled, ifaces, maps, wideKeys, modest, calm, conditions, laid).
  DERIVED. THE GIVEN ROWS OF THIS SEAT. 14 by the template 'for every input the law returns true; each argument reads behind the call as it read before'; 0 by the template 'total and deterministic' (their statements: YtehokkijfgiggaaTotals.lean).
  GIVEN WITH THE SEED: the statements are not yours to turn. If you find one false, say at which input.
  Laid BY PROGRAM, IN A SANDBOX (cutbox-rows.mjs): the forced cells as the released guide's own fill.sh prints them over the translation 38abe3d0b4b1049e… (all of the seat's roots in one cut). By AI agents, Wed Nov 11 2026. No macro, syntax, notation, axiom, sorry.
-/
import Derived.Test.YtehokkijfgiggaaChecked
import GoSem.Claim
import GoSem.ClaimJoined
import GoSem.ClaimMapViews
import Derived.JoinedTies
import Derived.KernelRfl
namespace Go.Proofs.Ytehokkijfgiggaa
/- THE CELL 'sum', in the pinned program and in every row, IS THE sha256 OF THE DUMP (.gsa) THAT YtehokkijfgiggaaProg.lean LOADS. Nothing in Lean hashes anything: it is a label: what it is worth is what the hold of that sum in a sandbox is worth. -/
noncomputable def Try.pinned : Pinned := { name := "ytehokkijfgiggaa", sum := "38abe3d0b4b1049e6af659c84e236545eebebc63071c603184a576a95d76f1c8", checked := Try.checked }
namespace Rows
def none {H : Type} : Left H := { results := [], args := [] }

/-- 'laws.FnNextPacket': WHATEVER THE INPUT: true; the input reads as it did. -/
def fnNextPacketSpec : ChangeSpec := { name := "fnNextPacket", fn := fun _ => fun
  | [d] => { results := [.lit (.bool true)], args := [d] }
  | _ => none }
def fnNextPacketRow : OpenClaim := { program := "ytehokkijfgiggaa", sum := "38abe3d0b4b1049e6af659c84e236545eebebc63071c603184a576a95d76f1c8", func := "loop.example/trafficguard/laws.FnNextPacket", spec := "fnNextPacket", unfollowed := true, recurses := true, apart := false }
def FnNextPacketSaid : Prop := fnNextPacketRow.holds Try.pinned (OpenSpec.ofChange fnNextPacketSpec)

/-- ITS FALSE NEIGHBOUR: 'it returns false'. Refute it at one input. -/
def fnNextPacketWrong : ChangeSpec := { name := "fnNextPacket", fn := fun _ => fun
  | [d] => { results := [.lit (.bool false)], args := [d] }
  | _ => none }
def FnNextPacketWrongFalsely : Prop := fnNextPacketRow.holds Try.pinned (OpenSpec.ofChange fnNextPacketWrong)

/-- 'laws.FnTakeFair': WHATEVER THE INPUT: true; the input reads as it did. -/
def fnTakeFairSpec : ChangeSpec := { name := "fnTakeFair", fn := fun _ => fun
  | [d] => { results := [.lit (.bool true)], args := [d] }
  | _ => none }
def fnTakeFairRow : OpenClaim := { program := "ytehokkijfgiggaa", sum := "38abe3d0b4b1049e6af659c84e236545eebebc63071c603184a576a95d76f1c8", func := "loop.example/trafficguard/laws.FnTakeFair", spec := "fnTakeFair", apart := false }
def FnTakeFairSaid : Prop := fnTakeFairRow.holds Try.pinned (OpenSpec.ofChange fnTakeFairSpec)

/-- ITS FALSE NEIGHBOUR: 'it returns false'. Refute it at one input. -/
def fnTakeFairWrong : ChangeSpec := { name := "fnTakeFair", fn := fun _ => fun
  | [d] => { results := [.lit (.bool false)], args := [d] }
  | _ => none }
def FnTakeFairWrongFalsely : Prop := fnTakeFairRow.holds Try.pinned (OpenSpec.ofChange fnTakeFairWrong)

/-- 'laws.FnTakeParts': WHATEVER THE INPUT: true; the input reads as it did. -/
def fnTakePartsSpec : ChangeSpec := { name := "fnTakeParts", fn := fun _ => fun
  | [d] => { results := [.lit (.bool true)], args := [d] }
  | _ => none }
def fnTakePartsRow : OpenClaim := { program := "ytehokkijfgiggaa", sum := "38abe3d0b4b1049e6af659c84e236545eebebc63071c603184a576a95d76f1c8", func := "loop.example/trafficguard/laws.FnTakeParts", spec := "fnTakeParts", unfollowed := true, recurses := true, apart := false }
def FnTakePartsSaid : Prop := fnTakePartsRow.holds Try.pinned (OpenSpec.ofChange fnTakePartsSpec)

/-- ITS FALSE NEIGHBOUR: 'it returns false'. Refute it at one input. -/
def fnTakePartsWrong : ChangeSpec := { name := "fnTakeParts", fn := fun _ => fun
  | [d] => { results := [.lit (.bool false)], args := [d] }
  | _ => none }
def FnTakePartsWrongFalsely : Prop := fnTakePartsRow.holds Try.pinned (OpenSpec.ofChange fnTakePartsWrong)

/-- 'laws.FnJoinNew': WHATEVER THE INPUT: true; the input reads as it did. -/
def fnJoinNewSpec : ChangeSpec := { name := "fnJoinNew", fn := fun _ => fun
  | [d] => { results := [.lit (.bool true)], args := [d] }
  | _ => none }
def fnJoinNewRow : OpenClaim := { program := "ytehokkijfgiggaa", sum := "38abe3d0b4b1049e6af659c84e236545eebebc63071c603184a576a95d76f1c8", func := "loop.example/trafficguard/laws.FnJoinNew", spec := "fnJoinNew", unfollowed := true, recurses := true, apart := false }
def FnJoinNewSaid : Prop := fnJoinNewRow.holds Try.pinned (OpenSpec.ofChange fnJoinNewSpec)

/-- ITS FALSE NEIGHBOUR: 'it returns false'. Refute it at one input. -/
def fnJoinNewWrong : ChangeSpec := { name := "fnJoinNew", fn := fun _ => fun
  | [d] => { results := [.lit (.bool false)], args := [d] }
  | _ => none }
def FnJoinNewWrongFalsely : Prop := fnJoinNewRow.holds Try.pinned (OpenSpec.ofChange fnJoinNewWrong)

/-- 'laws.FnOneFlow': WHATEVER THE INPUT: true; the input reads as it did. -/
def fnOneFlowSpec : ChangeSpec := { name := "fnOneFlow", fn := fun _ => fun
  | [d] => { results := [.lit (.bool true)], args := [d] }
  | _ => none }
def fnOneFlowRow : OpenClaim := { program := "ytehokkijfgiggaa", sum := "38abe3d0b4b1049e6af659c84e236545eebebc63071c603184a576a95d76f1c8", func := "loop.example/trafficguard/laws.FnOneFlow", spec := "fnOneFlow", apart := false }
def FnOneFlowSaid : Prop := fnOneFlowRow.holds Try.pinned (OpenSpec.ofChange fnOneFlowSpec)

/-- ITS FALSE NEIGHBOUR: 'it returns false'. Refute it at one input. -/
def fnOneFlowWrong : ChangeSpec := { name := "fnOneFlow", fn := fun _ => fun
  | [d] => { results := [.lit (.bool false)], args := [d] }
  | _ => none }
def FnOneFlowWrongFalsely : Prop := fnOneFlowRow.holds Try.pinned (OpenSpec.ofChange fnOneFlowWrong)

/-- 'laws.FnNextDeficit': WHATEVER THE INPUT: true; the input reads as it did. -/
def fnNextDeficitSpec : ChangeSpec := { name := "fnNextDeficit", fn := fun _ => fun
  | [d] => { results := [.lit (.bool true)], args := [d] }
  | _ => none }
def fnNextDeficitRow : OpenClaim := { program := "ytehokkijfgiggaa", sum := "38abe3d0b4b1049e6af659c84e236545eebebc63071c603184a576a95d76f1c8", func := "loop.example/trafficguard/laws.FnNextDeficit", spec := "fnNextDeficit", unfollowed := true, recurses := true, apart := false }
def FnNextDeficitSaid : Prop := fnNextDeficitRow.holds Try.pinned (OpenSpec.ofChange fnNextDeficitSpec)

/-- ITS FALSE NEIGHBOUR: 'it returns false'. Refute it at one input. -/
def fnNextDeficitWrong : ChangeSpec := { name := "fnNextDeficit", fn := fun _ => fun
  | [d] => { results := [.lit (.bool false)], args := [d] }
  | _ => none }
def FnNextDeficitWrongFalsely : Prop := fnNextDeficitRow.holds Try.pinned (OpenSpec.ofChange fnNextDeficitWrong)

/-- 'laws.FnExactRobinValid': WHATEVER THE INPUT: true; the input reads as it did. -/
def fnExactRobinValidSpec : ChangeSpec := { name := "fnExactRobinValid", fn := fun _ => fun
  | [d] => { results := [.lit (.bool true)], args := [d] }
  | _ => none }
def fnExactRobinValidRow : OpenClaim := { program := "ytehokkijfgiggaa", sum := "38abe3d0b4b1049e6af659c84e236545eebebc63071c603184a576a95d76f1c8", func := "loop.example/trafficguard/laws.FnExactRobinValid", spec := "fnExactRobinValid", apart := false }
def FnExactRobinValidSaid : Prop := fnExactRobinValidRow.holds Try.pinned (OpenSpec.ofChange fnExactRobinValidSpec)

/-- ITS FALSE NEIGHBOUR: 'it returns false'. Refute it at one input. -/
def fnExactRobinValidWrong : ChangeSpec := { name := "fnExactRobinValid", fn := fun _ => fun
  | [d] => { results := [.lit (.bool false)], args := [d] }
  | _ => none }
def FnExactRobinValidWrongFalsely : Prop := fnExactRobinValidRow.holds Try.pinned (OpenSpec.ofChange fnExactRobinValidWrong)

/-- 'laws.FnExactRobinSame': WHATEVER THE INPUT: true; the input reads as it did. -/
def fnExactRobinSameSpec : ChangeSpec := { name := "fnExactRobinSame", fn := fun _ => fun
  | [d1, d2] => { results := [.lit (.bool true)], args := [d1, d2] }
  | _ => none }
def fnExactRobinSameRow : OpenClaim := { program := "ytehokkijfgiggaa", sum := "38abe3d0b4b1049e6af659c84e236545eebebc63071c603184a576a95d76f1c8", func := "loop.example/trafficguard/laws.FnExactRobinSame", spec := "fnExactRobinSame", unfollowed := true, recurses := true, apart := false }
def FnExactRobinSameSaid : Prop := fnExactRobinSameRow.holds Try.pinned (OpenSpec.ofChange fnExactRobinSameSpec)

/-- ITS FALSE NEIGHBOUR: 'it returns false'. Refute it at one input. -/
def fnExactRobinSameWrong : ChangeSpec := { name := "fnExactRobinSame", fn := fun _ => fun
  | [d1, d2] => { results := [.lit (.bool false)], args := [d1, d2] }
  | _ => none }
def FnExactRobinSameWrongFalsely : Prop := fnExactRobinSameRow.holds Try.pinned (OpenSpec.ofChange fnExactRobinSameWrong)

/-- 'laws.FnExactJoinRobin': WHATEVER THE INPUT: true; the input reads as it did. -/
def fnExactJoinRobinSpec : ChangeSpec := { name := "fnExactJoinRobin", fn := fun _ => fun
  | [d1, d2] => { results := [.lit (.bool true)], args := [d1, d2] }
  | _ => none }
def fnExactJoinRobinRow : OpenClaim := { program := "ytehokkijfgiggaa", sum := "38abe3d0b4b1049e6af659c84e236545eebebc63071c603184a576a95d76f1c8", func := "loop.example/trafficguard/laws.FnExactJoinRobin", spec := "fnExactJoinRobin", apart := false }
def FnExactJoinRobinSaid : Prop := fnExactJoinRobinRow.holds Try.pinned (OpenSpec.ofChange fnExactJoinRobinSpec)

/-- ITS FALSE NEIGHBOUR: 'it returns false'. Refute it at one input. -/
def fnExactJoinRobinWrong : ChangeSpec := { name := "fnExactJoinRobin", fn := fun _ => fun
  | [d1, d2] => { results := [.lit (.bool false)], args := [d1, d2] }
  | _ => none }
def FnExactJoinRobinWrongFalsely : Prop := fnExactJoinRobinRow.holds Try.pinned (OpenSpec.ofChange fnExactJoinRobinWrong)

/-- 'laws.FnExactNextPacket': WHATEVER THE INPUT: true; the input reads as it did. -/
def fnExactNextPacketSpec : ChangeSpec := { name := "fnExactNextPacket", fn := fun _ => fun
  | [d] => { results := [.lit (.bool true)], args := [d] }
  | _ => none }
def fnExactNextPacketRow : OpenClaim := { program := "ytehokkijfgiggaa", sum := "38abe3d0b4b1049e6af659c84e236545eebebc63071c603184a576a95d76f1c8", func := "loop.example/trafficguard/laws.FnExactNextPacket", spec := "fnExactNextPacket", apart := false }
def FnExactNextPacketSaid : Prop := fnExactNextPacketRow.holds Try.pinned (OpenSpec.ofChange fnExactNextPacketSpec)

/-- ITS FALSE NEIGHBOUR: 'it returns false'. Refute it at one input. -/
def fnExactNextPacketWrong : ChangeSpec := { name := "fnExactNextPacket", fn := fun _ => fun
  | [d] => { results := [.lit (.bool false)], args := [d] }
  | _ => none }
def FnExactNextPacketWrongFalsely : Prop := fnExactNextPacketRow.holds Try.pinned (OpenSpec.ofChange fnExactNextPacketWrong)

/-- 'laws.FnExactTakeAll': WHATEVER THE INPUT: true; the input reads as it did. -/
def fnExactTakeAllSpec : ChangeSpec := { name := "fnExactTakeAll", fn := fun _ => fun
  | [d] => { results := [.lit (.bool true)], args := [d] }
  | _ => none }
def fnExactTakeAllRow : OpenClaim := { program := "ytehokkijfgiggaa", sum := "38abe3d0b4b1049e6af659c84e236545eebebc63071c603184a576a95d76f1c8", func := "loop.example/trafficguard/laws.FnExactTakeAll", spec := "fnExactTakeAll", apart := false }
def FnExactTakeAllSaid : Prop := fnExactTakeAllRow.holds Try.pinned (OpenSpec.ofChange fnExactTakeAllSpec)

/-- ITS FALSE NEIGHBOUR: 'it returns false'. Refute it at one input. -/
def fnExactTakeAllWrong : ChangeSpec := { name := "fnExactTakeAll", fn := fun _ => fun
  | [d] => { results := [.lit (.bool false)], args := [d] }
  | _ => none }
def FnExactTakeAllWrongFalsely : Prop := fnExactTakeAllRow.holds Try.pinned (OpenSpec.ofChange fnExactTakeAllWrong)

/-- 'laws.FnExactTakeBytes': WHATEVER THE INPUT: true; the input reads as it did. -/
def fnExactTakeBytesSpec : ChangeSpec := { name := "fnExactTakeBytes", fn := fun _ => fun
  | [d1, d2] => { results := [.lit (.bool true)], args := [d1, d2] }
  | _ => none }
def fnExactTakeBytesRow : OpenClaim := { program := "ytehokkijfgiggaa", sum := "38abe3d0b4b1049e6af659c84e236545eebebc63071c603184a576a95d76f1c8", func := "loop.example/trafficguard/laws.FnExactTakeBytes", spec := "fnExactTakeBytes", apart := false }
def FnExactTakeBytesSaid : Prop := fnExactTakeBytesRow.holds Try.pinned (OpenSpec.ofChange fnExactTakeBytesSpec)

/-- ITS FALSE NEIGHBOUR: 'it returns false'. Refute it at one input. -/
def fnExactTakeBytesWrong : ChangeSpec := { name := "fnExactTakeBytes", fn := fun _ => fun
  | [d1, d2] => { results := [.lit (.bool false)], args := [d1, d2] }
  | _ => none }
def FnExactTakeBytesWrongFalsely : Prop := fnExactTakeBytesRow.holds Try.pinned (OpenSpec.ofChange fnExactTakeBytesWrong)

/-- 'laws.FnExactWaitingOf': WHATEVER THE INPUT: true; the input reads as it did. -/
def fnExactWaitingOfSpec : ChangeSpec := { name := "fnExactWaitingOf", fn := fun _ => fun
  | [d1, d2] => { results := [.lit (.bool true)], args := [d1, d2] }
  | _ => none }
def fnExactWaitingOfRow : OpenClaim := { program := "ytehokkijfgiggaa", sum := "38abe3d0b4b1049e6af659c84e236545eebebc63071c603184a576a95d76f1c8", func := "loop.example/trafficguard/laws.FnExactWaitingOf", spec := "fnExactWaitingOf", apart := false }
def FnExactWaitingOfSaid : Prop := fnExactWaitingOfRow.holds Try.pinned (OpenSpec.ofChange fnExactWaitingOfSpec)

/-- ITS FALSE NEIGHBOUR: 'it returns false'. Refute it at one input. -/
def fnExactWaitingOfWrong : ChangeSpec := { name := "fnExactWaitingOf", fn := fun _ => fun
  | [d1, d2] => { results := [.lit (.bool false)], args := [d1, d2] }
  | _ => none }
def FnExactWaitingOfWrongFalsely : Prop := fnExactWaitingOfRow.holds Try.pinned (OpenSpec.ofChange fnExactWaitingOfWrong)

/-- 'laws.FnExactLeaveRobin': WHATEVER THE INPUT: true; the input reads as it did. -/
def fnExactLeaveRobinSpec : ChangeSpec := { name := "fnExactLeaveRobin", fn := fun _ => fun
  | [d1, d2] => { results := [.lit (.bool true)], args := [d1, d2] }
  | _ => none }
def fnExactLeaveRobinRow : OpenClaim := { program := "ytehokkijfgiggaa", sum := "38abe3d0b4b1049e6af659c84e236545eebebc63071c603184a576a95d76f1c8", func := "loop.example/trafficguard/laws.FnExactLeaveRobin", spec := "fnExactLeaveRobin", apart := false }
def FnExactLeaveRobinSaid : Prop := fnExactLeaveRobinRow.holds Try.pinned (OpenSpec.ofChange fnExactLeaveRobinSpec)

/-- ITS FALSE NEIGHBOUR: 'it returns false'. Refute it at one input. -/
def fnExactLeaveRobinWrong : ChangeSpec := { name := "fnExactLeaveRobin", fn := fun _ => fun
  | [d1, d2] => { results := [.lit (.bool false)], args := [d1, d2] }
  | _ => none }
def FnExactLeaveRobinWrongFalsely : Prop := fnExactLeaveRobinRow.holds Try.pinned (OpenSpec.ofChange fnExactLeaveRobinWrong)

/- THE SECOND FORM. 'bulk': how many values and letters a reading holds, each counted each time it is reached (what is shared counts as often as it is met; a slice's spare places count too). A statement '..UptoSaid' is the law's where the arguments, and the package variables that the reading takes, are together of bulk at most 1048576: NARROWER than '..Said'. Prove '..Said' where nothing that the law and all that it calls make is longer than what came in: it says more and counts as full. Else prove '..UptoSaid'. A law counts once. -/
mutual
def uptoBulk {H : Type} : DataW H → Nat
  | .lit (.string bytes) => bytes.length + 1
  | .lit _ => 1
  | .nil => 1
  | .ptr d => uptoBulk d + 1
  | .slice elems spare => uptoBulkAll elems + uptoBulkAll spare + 1
  | .agg parts => uptoBulkAll parts + 1
  | .iface _ d => uptoBulk d + 1
  | .map entries => uptoBulkEntries entries + 1
  | .held _ => 1
def uptoBulkAll {H : Type} : List (DataW H) → Nat
  | [] => 0
  | d :: r => uptoBulk d + uptoBulkAll r
def uptoBulkEntries {H : Type} : List (Lit × DataW H) → Nat
  | [] => 0
  | x :: r => uptoBulkEntry x + uptoBulkEntries r
def uptoBulkEntry {H : Type} : Lit × DataW H → Nat
  | (.string bytes, d) => bytes.length + uptoBulk d + 1
  | (_, d) => uptoBulk d + 1
 end
def uptoSmall : (H : Type) → List (DataW H) → Bool := fun _ ds => decide (uptoBulkAll ds ≤ 1048576)
def OpenSpec.upto (s : _root_.Go.ChangeSpec) : _root_.Go.OpenSpec := { _root_.Go.OpenSpec.ofChange s with cond := some uptoSmall }

/-- 'laws.FnNextPacket', WHERE WHAT IT READS IS OF BULK AT MOST 1048576: true; the input reads as it did. -/
def fnNextPacketUptoRow : OpenClaim := { program := "ytehokkijfgiggaa", sum := "38abe3d0b4b1049e6af659c84e236545eebebc63071c603184a576a95d76f1c8", func := "loop.example/trafficguard/laws.FnNextPacket", spec := "fnNextPacket", unfollowed := true, recurses := true, apart := false, narrowed := true }
def FnNextPacketUptoSaid : Prop := fnNextPacketUptoRow.holds Try.pinned (OpenSpec.upto fnNextPacketSpec)

/-- 'laws.FnTakeFair', WHERE WHAT IT READS IS OF BULK AT MOST 1048576: true; the input reads as it did. -/
def fnTakeFairUptoRow : OpenClaim := { program := "ytehokkijfgiggaa", sum := "38abe3d0b4b1049e6af659c84e236545eebebc63071c603184a576a95d76f1c8", func := "loop.example/trafficguard/laws.FnTakeFair", spec := "fnTakeFair", apart := false, narrowed := true }
def FnTakeFairUptoSaid : Prop := fnTakeFairUptoRow.holds Try.pinned (OpenSpec.upto fnTakeFairSpec)

/-- 'laws.FnTakeParts', WHERE WHAT IT READS IS OF BULK AT MOST 1048576: true; the input reads as it did. -/
def fnTakePartsUptoRow : OpenClaim := { program := "ytehokkijfgiggaa", sum := "38abe3d0b4b1049e6af659c84e236545eebebc63071c603184a576a95d76f1c8", func := "loop.example/trafficguard/laws.FnTakeParts", spec := "fnTakeParts", unfollowed := true, recurses := true, apart := false, narrowed := true }
def FnTakePartsUptoSaid : Prop := fnTakePartsUptoRow.holds Try.pinned (OpenSpec.upto fnTakePartsSpec)

/-- 'laws.FnJoinNew', WHERE WHAT IT READS IS OF BULK AT MOST 1048576: true; the input reads as it did. -/
def fnJoinNewUptoRow : OpenClaim := { program := "ytehokkijfgiggaa", sum := "38abe3d0b4b1049e6af659c84e236545eebebc63071c603184a576a95d76f1c8", func := "loop.example/trafficguard/laws.FnJoinNew", spec := "fnJoinNew", unfollowed := true, recurses := true, apart := false, narrowed := true }
def FnJoinNewUptoSaid : Prop := fnJoinNewUptoRow.holds Try.pinned (OpenSpec.upto fnJoinNewSpec)

/-- 'laws.FnOneFlow', WHERE WHAT IT READS IS OF BULK AT MOST 1048576: true; the input reads as it did. -/
def fnOneFlowUptoRow : OpenClaim := { program := "ytehokkijfgiggaa", sum := "38abe3d0b4b1049e6af659c84e236545eebebc63071c603184a576a95d76f1c8", func := "loop.example/trafficguard/laws.FnOneFlow", spec := "fnOneFlow", apart := false, narrowed := true }
def FnOneFlowUptoSaid : Prop := fnOneFlowUptoRow.holds Try.pinned (OpenSpec.upto fnOneFlowSpec)

/-- 'laws.FnNextDeficit', WHERE WHAT IT READS IS OF BULK AT MOST 1048576: true; the input reads as it did. -/
def fnNextDeficitUptoRow : OpenClaim := { program := "ytehokkijfgiggaa", sum := "38abe3d0b4b1049e6af659c84e236545eebebc63071c603184a576a95d76f1c8", func := "loop.example/trafficguard/laws.FnNextDeficit", spec := "fnNextDeficit", unfollowed := true, recurses := true, apart := false, narrowed := true }
def FnNextDeficitUptoSaid : Prop := fnNextDeficitUptoRow.holds Try.pinned (OpenSpec.upto fnNextDeficitSpec)

/-- 'laws.FnExactRobinValid', WHERE WHAT IT READS IS OF BULK AT MOST 1048576: true; the input reads as it did. -/
def fnExactRobinValidUptoRow : OpenClaim := { program := "ytehokkijfgiggaa", sum := "38abe3d0b4b1049e6af659c84e236545eebebc63071c603184a576a95d76f1c8", func := "loop.example/trafficguard/laws.FnExactRobinValid", spec := "fnExactRobinValid", apart := false, narrowed := true }
def FnExactRobinValidUptoSaid : Prop := fnExactRobinValidUptoRow.holds Try.pinned (OpenSpec.upto fnExactRobinValidSpec)

/-- 'laws.FnExactRobinSame', WHERE WHAT IT READS IS OF BULK AT MOST 1048576: true; the input reads as it did. -/
def fnExactRobinSameUptoRow : OpenClaim := { program := "ytehokkijfgiggaa", sum := "38abe3d0b4b1049e6af659c84e236545eebebc63071c603184a576a95d76f1c8", func := "loop.example/trafficguard/laws.FnExactRobinSame", spec := "fnExactRobinSame", unfollowed := true, recurses := true, apart := false, narrowed := true }
def FnExactRobinSameUptoSaid : Prop := fnExactRobinSameUptoRow.holds Try.pinned (OpenSpec.upto fnExactRobinSameSpec)

/-- 'laws.FnExactJoinRobin', WHERE WHAT IT READS IS OF BULK AT MOST 1048576: true; the input reads as it did. -/
def fnExactJoinRobinUptoRow : OpenClaim := { program := "ytehokkijfgiggaa", sum := "38abe3d0b4b1049e6af659c84e236545eebebc63071c603184a576a95d76f1c8", func := "loop.example/trafficguard/laws.FnExactJoinRobin", spec := "fnExactJoinRobin", apart := false, narrowed := true }
def FnExactJoinRobinUptoSaid : Prop := fnExactJoinRobinUptoRow.holds Try.pinned (OpenSpec.upto fnExactJoinRobinSpec)

/-- 'laws.FnExactNextPacket', WHERE WHAT IT READS IS OF BULK AT MOST 1048576: true; the input reads as it did. -/
def fnExactNextPacketUptoRow : OpenClaim := { program := "ytehokkijfgiggaa", sum := "38abe3d0b4b1049e6af659c84e236545eebebc63071c603184a576a95d76f1c8", func := "loop.example/trafficguard/laws.FnExactNextPacket", spec := "fnExactNextPacket", apart := false, narrowed := true }
def FnExactNextPacketUptoSaid : Prop := fnExactNextPacketUptoRow.holds Try.pinned (OpenSpec.upto fnExactNextPacketSpec)

/-- 'laws.FnExactTakeAll', WHERE WHAT IT READS IS OF BULK AT MOST 1048576: true; the input reads as it did. -/
def fnExactTakeAllUptoRow : OpenClaim := { program := "ytehokkijfgiggaa", sum := "38abe3d0b4b1049e6af659c84e236545eebebc63071c603184a576a95d76f1c8", func := "loop.example/trafficguard/laws.FnExactTakeAll", spec := "fnExactTakeAll", apart := false, narrowed := true }
def FnExactTakeAllUptoSaid : Prop := fnExactTakeAllUptoRow.holds Try.pinned (OpenSpec.upto fnExactTakeAllSpec)

/-- 'laws.FnExactTakeBytes', WHERE WHAT IT READS IS OF BULK AT MOST 1048576: true; the input reads as it did. -/
def fnExactTakeBytesUptoRow : OpenClaim := { program := "ytehokkijfgiggaa", sum := "38abe3d0b4b1049e6af659c84e236545eebebc63071c603184a576a95d76f1c8", func := "loop.example/trafficguard/laws.FnExactTakeBytes", spec := "fnExactTakeBytes", apart := false, narrowed := true }
def FnExactTakeBytesUptoSaid : Prop := fnExactTakeBytesUptoRow.holds Try.pinned (OpenSpec.upto fnExactTakeBytesSpec)

/-- 'laws.FnExactWaitingOf', WHERE WHAT IT READS IS OF BULK AT MOST 1048576: true; the input reads as it did. -/
def fnExactWaitingOfUptoRow : OpenClaim := { program := "ytehokkijfgiggaa", sum := "38abe3d0b4b1049e6af659c84e236545eebebc63071c603184a576a95d76f1c8", func := "loop.example/trafficguard/laws.FnExactWaitingOf", spec := "fnExactWaitingOf", apart := false, narrowed := true }
def FnExactWaitingOfUptoSaid : Prop := fnExactWaitingOfUptoRow.holds Try.pinned (OpenSpec.upto fnExactWaitingOfSpec)

/-- 'laws.FnExactLeaveRobin', WHERE WHAT IT READS IS OF BULK AT MOST 1048576: true; the input reads as it did. -/
def fnExactLeaveRobinUptoRow : OpenClaim := { program := "ytehokkijfgiggaa", sum := "38abe3d0b4b1049e6af659c84e236545eebebc63071c603184a576a95d76f1c8", func := "loop.example/trafficguard/laws.FnExactLeaveRobin", spec := "fnExactLeaveRobin", apart := false, narrowed := true }
def FnExactLeaveRobinUptoSaid : Prop := fnExactLeaveRobinUptoRow.holds Try.pinned (OpenSpec.upto fnExactLeaveRobinSpec)

end Rows
end Go.Proofs.Ytehokkijfgiggaa
