/-
  No cell of these rows narrows 'for every input' (looked for: loops, veiled, ifaces, maps, wideKeys, modest, calm, conditions, laid).
  DERIVED. THE GIVEN ROWS OF THIS SEAT. 4 by the template 'for every input the law returns true; each argument reads behind the call as it read before'; 0 by the template 'total and deterministic' (their statements: YtfpdmolbaioojabTotals.lean).
  GIVEN WITH THE SEED: the statements are not yours to turn. If you find one false, say at which input.
  Laid BY PROGRAM, IN A SANDBOX (cutbox-rows.mjs): the forced cells as the released guide's own fill.sh prints them over the translation ec0002ed925c8dd6… (all of the seat's roots in one cut). By AI agents, Wed Nov 11 2026. No macro, syntax, notation, axiom, sorry.
-/
import Derived.Test.YtfpdmolbaioojabChecked
import GoSem.Claim
import GoSem.ClaimJoined
import GoSem.ClaimMapViews
import Derived.JoinedTies
import Derived.KernelRfl
namespace Go.Proofs.Ytfpdmolbaioojab
/- THE CELL 'sum', in the pinned program and in every row, IS THE sha256 OF THE DUMP (.gsa) THAT YtfpdmolbaioojabProg.lean LOADS. Nothing in Lean hashes anything: it is a label: what it is worth is what the hold of that sum in a sandbox is worth. -/
noncomputable def Try.pinned : Pinned := { name := "ytfpdmolbaioojab", sum := "ec0002ed925c8dd63b8ba2b042ad56675feeb79dc9dfb20c304dd8cda961110d", checked := Try.checked }
namespace Rows
def none {H : Type} : Left H := { results := [], args := [] }

/-- 'laws.FnExactParsePacket': WHATEVER THE INPUT: true; the input reads as it did. -/
def fnExactParsePacketSpec : ChangeSpec := { name := "fnExactParsePacket", fn := fun _ => fun
  | [d] => { results := [.lit (.bool true)], args := [d] }
  | _ => none }
def fnExactParsePacketRow : OpenClaim := { program := "ytfpdmolbaioojab", sum := "ec0002ed925c8dd63b8ba2b042ad56675feeb79dc9dfb20c304dd8cda961110d", func := "loop.example/trafficguard/laws.FnExactParsePacket", spec := "fnExactParsePacket", inPlace := ["internal/bytealg.IndexByteString", "internal/bytealg.IndexString"], recurses := true, named := ["internal/bytealg.MaxLen"], apart := false }
def FnExactParsePacketSaid : Prop := fnExactParsePacketRow.holds Try.pinned (OpenSpec.ofChange fnExactParsePacketSpec)

/-- ITS FALSE NEIGHBOUR: 'it returns false'. Refute it at one input. -/
def fnExactParsePacketWrong : ChangeSpec := { name := "fnExactParsePacket", fn := fun _ => fun
  | [d] => { results := [.lit (.bool false)], args := [d] }
  | _ => none }
def FnExactParsePacketWrongFalsely : Prop := fnExactParsePacketRow.holds Try.pinned (OpenSpec.ofChange fnExactParsePacketWrong)

/-- 'laws.FnExactSizeOf': WHATEVER THE INPUT: true; the input reads as it did. -/
def fnExactSizeOfSpec : ChangeSpec := { name := "fnExactSizeOf", fn := fun _ => fun
  | [d] => { results := [.lit (.bool true)], args := [d] }
  | _ => none }
def fnExactSizeOfRow : OpenClaim := { program := "ytfpdmolbaioojab", sum := "ec0002ed925c8dd63b8ba2b042ad56675feeb79dc9dfb20c304dd8cda961110d", func := "loop.example/trafficguard/laws.FnExactSizeOf", spec := "fnExactSizeOf", apart := false }
def FnExactSizeOfSaid : Prop := fnExactSizeOfRow.holds Try.pinned (OpenSpec.ofChange fnExactSizeOfSpec)

/-- ITS FALSE NEIGHBOUR: 'it returns false'. Refute it at one input. -/
def fnExactSizeOfWrong : ChangeSpec := { name := "fnExactSizeOf", fn := fun _ => fun
  | [d] => { results := [.lit (.bool false)], args := [d] }
  | _ => none }
def FnExactSizeOfWrongFalsely : Prop := fnExactSizeOfRow.holds Try.pinned (OpenSpec.ofChange fnExactSizeOfWrong)

/-- 'laws.FnExactOfPeer': WHATEVER THE INPUT: true; the input reads as it did. -/
def fnExactOfPeerSpec : ChangeSpec := { name := "fnExactOfPeer", fn := fun _ => fun
  | [d1, d2] => { results := [.lit (.bool true)], args := [d1, d2] }
  | _ => none }
def fnExactOfPeerRow : OpenClaim := { program := "ytfpdmolbaioojab", sum := "ec0002ed925c8dd63b8ba2b042ad56675feeb79dc9dfb20c304dd8cda961110d", func := "loop.example/trafficguard/laws.FnExactOfPeer", spec := "fnExactOfPeer", apart := false }
def FnExactOfPeerSaid : Prop := fnExactOfPeerRow.holds Try.pinned (OpenSpec.ofChange fnExactOfPeerSpec)

/-- ITS FALSE NEIGHBOUR: 'it returns false'. Refute it at one input. -/
def fnExactOfPeerWrong : ChangeSpec := { name := "fnExactOfPeer", fn := fun _ => fun
  | [d1, d2] => { results := [.lit (.bool false)], args := [d1, d2] }
  | _ => none }
def FnExactOfPeerWrongFalsely : Prop := fnExactOfPeerRow.holds Try.pinned (OpenSpec.ofChange fnExactOfPeerWrong)

/-- 'laws.FnExactPacketsSame': WHATEVER THE INPUT: true; the input reads as it did. -/
def fnExactPacketsSameSpec : ChangeSpec := { name := "fnExactPacketsSame", fn := fun _ => fun
  | [d1, d2] => { results := [.lit (.bool true)], args := [d1, d2] }
  | _ => none }
def fnExactPacketsSameRow : OpenClaim := { program := "ytfpdmolbaioojab", sum := "ec0002ed925c8dd63b8ba2b042ad56675feeb79dc9dfb20c304dd8cda961110d", func := "loop.example/trafficguard/laws.FnExactPacketsSame", spec := "fnExactPacketsSame", apart := false }
def FnExactPacketsSameSaid : Prop := fnExactPacketsSameRow.holds Try.pinned (OpenSpec.ofChange fnExactPacketsSameSpec)

/-- ITS FALSE NEIGHBOUR: 'it returns false'. Refute it at one input. -/
def fnExactPacketsSameWrong : ChangeSpec := { name := "fnExactPacketsSame", fn := fun _ => fun
  | [d1, d2] => { results := [.lit (.bool false)], args := [d1, d2] }
  | _ => none }
def FnExactPacketsSameWrongFalsely : Prop := fnExactPacketsSameRow.holds Try.pinned (OpenSpec.ofChange fnExactPacketsSameWrong)

/- THE SECOND FORM. 'bulk': how many values and letters a reading holds, each counted each time it is reached (what is shared counts as often as it is met; a slice's spare places count too). A statement '..UptoSaid' is the law's where the arguments, and the package variables that the reading takes, are together of bulk at most 1048576: NARROWER than '..Said'. Prove '..Said' where nothing that the law and all that it calls make is longer than what came in: it says more and counts as full. Else prove '..UptoSaid'. A law counts once. -/
mutual
def uptoBulk {H : Type} : DataW H → Nat
  | .lit (.string bytes) => bytes.length + 1
  | .lit _ => 1
  | .nil => 1
  | .ptr d => uptoBulk d + 1
  | .slice elems spare => uptoBulkAll elems + uptoBulkAll spare + 1
  | .agg parts => uptoBulkAll parts + 1
  | .iface _ d => uptoBulk d + 1
  | .map entries => uptoBulkEntries entries + 1
  | .held _ => 1
def uptoBulkAll {H : Type} : List (DataW H) → Nat
  | [] => 0
  | d :: r => uptoBulk d + uptoBulkAll r
def uptoBulkEntries {H : Type} : List (Lit × DataW H) → Nat
  | [] => 0
  | x :: r => uptoBulkEntry x + uptoBulkEntries r
def uptoBulkEntry {H : Type} : Lit × DataW H → Nat
  | (.string bytes, d) => bytes.length + uptoBulk d + 1
  | (_, d) => uptoBulk d + 1
 end
def uptoSmall : (H : Type) → List (DataW H) → Bool := fun _ ds => decide (uptoBulkAll ds ≤ 1048576)
def OpenSpec.upto (s : _root_.Go.ChangeSpec) : _root_.Go.OpenSpec := { _root_.Go.OpenSpec.ofChange s with cond := some uptoSmall }

/-- 'laws.FnExactParsePacket', WHERE WHAT IT READS IS OF BULK AT MOST 1048576: true; the input reads as it did. -/
def fnExactParsePacketUptoRow : OpenClaim := { program := "ytfpdmolbaioojab", sum := "ec0002ed925c8dd63b8ba2b042ad56675feeb79dc9dfb20c304dd8cda961110d", func := "loop.example/trafficguard/laws.FnExactParsePacket", spec := "fnExactParsePacket", inPlace := ["internal/bytealg.IndexByteString", "internal/bytealg.IndexString"], recurses := true, named := ["internal/bytealg.MaxLen"], apart := false, narrowed := true }
def FnExactParsePacketUptoSaid : Prop := fnExactParsePacketUptoRow.holds Try.pinned (OpenSpec.upto fnExactParsePacketSpec)

/-- 'laws.FnExactSizeOf', WHERE WHAT IT READS IS OF BULK AT MOST 1048576: true; the input reads as it did. -/
def fnExactSizeOfUptoRow : OpenClaim := { program := "ytfpdmolbaioojab", sum := "ec0002ed925c8dd63b8ba2b042ad56675feeb79dc9dfb20c304dd8cda961110d", func := "loop.example/trafficguard/laws.FnExactSizeOf", spec := "fnExactSizeOf", apart := false, narrowed := true }
def FnExactSizeOfUptoSaid : Prop := fnExactSizeOfUptoRow.holds Try.pinned (OpenSpec.upto fnExactSizeOfSpec)

/-- 'laws.FnExactOfPeer', WHERE WHAT IT READS IS OF BULK AT MOST 1048576: true; the input reads as it did. -/
def fnExactOfPeerUptoRow : OpenClaim := { program := "ytfpdmolbaioojab", sum := "ec0002ed925c8dd63b8ba2b042ad56675feeb79dc9dfb20c304dd8cda961110d", func := "loop.example/trafficguard/laws.FnExactOfPeer", spec := "fnExactOfPeer", apart := false, narrowed := true }
def FnExactOfPeerUptoSaid : Prop := fnExactOfPeerUptoRow.holds Try.pinned (OpenSpec.upto fnExactOfPeerSpec)

/-- 'laws.FnExactPacketsSame', WHERE WHAT IT READS IS OF BULK AT MOST 1048576: true; the input reads as it did. -/
def fnExactPacketsSameUptoRow : OpenClaim := { program := "ytfpdmolbaioojab", sum := "ec0002ed925c8dd63b8ba2b042ad56675feeb79dc9dfb20c304dd8cda961110d", func := "loop.example/trafficguard/laws.FnExactPacketsSame", spec := "fnExactPacketsSame", apart := false, narrowed := true }
def FnExactPacketsSameUptoSaid : Prop := fnExactPacketsSameUptoRow.holds Try.pinned (OpenSpec.upto fnExactPacketsSameSpec)

end Rows
end Go.Proofs.Ytfpdmolbaioojab
