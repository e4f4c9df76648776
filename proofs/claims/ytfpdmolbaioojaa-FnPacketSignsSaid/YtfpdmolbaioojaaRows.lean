/-
  No cell of these rows narrows 'for every input' (looked for: loops, veiled, ifaces, maps, wideKeys, modest, calm, conditions, laid).
  DERIVED. THE GIVEN ROWS OF THIS SEAT. 7 by the template 'for every input the law returns true; each argument reads behind the call as it read before'; 0 by the template 'total and deterministic' (their statements: YtfpdmolbaioojaaTotals.lean).
  GIVEN WITH THE SEED: the statements are not yours to turn. If you find one false, say at which input.
  Laid BY PROGRAM, IN A SANDBOX (cutbox-rows.mjs): the forced cells as the released guide's own fill.sh prints them over the translation 7b83722bc3a17474… (all of the seat's roots in one cut). By AI agents, Wed Nov 11 2026. No macro, syntax, notation, axiom, sorry.
-/
import Derived.Test.YtfpdmolbaioojaaChecked
import GoSem.Claim
import GoSem.ClaimJoined
import GoSem.ClaimMapViews
import Derived.JoinedTies
import Derived.KernelRfl
namespace Go.Proofs.Ytfpdmolbaioojaa
/- THE CELL 'sum', in the pinned program and in every row, IS THE sha256 OF THE DUMP (.gsa) THAT YtfpdmolbaioojaaProg.lean LOADS. Nothing in Lean hashes anything: it is a label: what it is worth is what the hold of that sum in a sandbox is worth. -/
noncomputable def Try.pinned : Pinned := { name := "ytfpdmolbaioojaa", sum := "7b83722bc3a17474e5147ec3f0ecd29e2f2b3de23fd54fc7f9eee9ac358597e4", checked := Try.checked }
namespace Rows
def none {H : Type} : Left H := { results := [], args := [] }

/-- 'laws.FnSizeOf': WHATEVER THE INPUT: true; the input reads as it did. -/
def fnSizeOfSpec : ChangeSpec := { name := "fnSizeOf", fn := fun _ => fun
  | [d] => { results := [.lit (.bool true)], args := [d] }
  | _ => none }
def fnSizeOfRow : OpenClaim := { program := "ytfpdmolbaioojaa", sum := "7b83722bc3a17474e5147ec3f0ecd29e2f2b3de23fd54fc7f9eee9ac358597e4", func := "loop.example/trafficguard/laws.FnSizeOf", spec := "fnSizeOf", apart := false }
def FnSizeOfSaid : Prop := fnSizeOfRow.holds Try.pinned (OpenSpec.ofChange fnSizeOfSpec)

/-- ITS FALSE NEIGHBOUR: 'it returns false'. Refute it at one input. -/
def fnSizeOfWrong : ChangeSpec := { name := "fnSizeOf", fn := fun _ => fun
  | [d] => { results := [.lit (.bool false)], args := [d] }
  | _ => none }
def FnSizeOfWrongFalsely : Prop := fnSizeOfRow.holds Try.pinned (OpenSpec.ofChange fnSizeOfWrong)

/-- 'laws.FnOfPeer': WHATEVER THE INPUT: true; the input reads as it did. -/
def fnOfPeerSpec : ChangeSpec := { name := "fnOfPeer", fn := fun _ => fun
  | [d] => { results := [.lit (.bool true)], args := [d] }
  | _ => none }
def fnOfPeerRow : OpenClaim := { program := "ytfpdmolbaioojaa", sum := "7b83722bc3a17474e5147ec3f0ecd29e2f2b3de23fd54fc7f9eee9ac358597e4", func := "loop.example/trafficguard/laws.FnOfPeer", spec := "fnOfPeer", apart := false }
def FnOfPeerSaid : Prop := fnOfPeerRow.holds Try.pinned (OpenSpec.ofChange fnOfPeerSpec)

/-- ITS FALSE NEIGHBOUR: 'it returns false'. Refute it at one input. -/
def fnOfPeerWrong : ChangeSpec := { name := "fnOfPeer", fn := fun _ => fun
  | [d] => { results := [.lit (.bool false)], args := [d] }
  | _ => none }
def FnOfPeerWrongFalsely : Prop := fnOfPeerRow.holds Try.pinned (OpenSpec.ofChange fnOfPeerWrong)

/-- 'laws.FnSizeOrder': WHATEVER THE INPUT: true; the input reads as it did. -/
def fnSizeOrderSpec : ChangeSpec := { name := "fnSizeOrder", fn := fun _ => fun
  | [d] => { results := [.lit (.bool true)], args := [d] }
  | _ => none }
def fnSizeOrderRow : OpenClaim := { program := "ytfpdmolbaioojaa", sum := "7b83722bc3a17474e5147ec3f0ecd29e2f2b3de23fd54fc7f9eee9ac358597e4", func := "loop.example/trafficguard/laws.FnSizeOrder", spec := "fnSizeOrder", apart := false }
def FnSizeOrderSaid : Prop := fnSizeOrderRow.holds Try.pinned (OpenSpec.ofChange fnSizeOrderSpec)

/-- ITS FALSE NEIGHBOUR: 'it returns false'. Refute it at one input. -/
def fnSizeOrderWrong : ChangeSpec := { name := "fnSizeOrder", fn := fun _ => fun
  | [d] => { results := [.lit (.bool false)], args := [d] }
  | _ => none }
def FnSizeOrderWrongFalsely : Prop := fnSizeOrderRow.holds Try.pinned (OpenSpec.ofChange fnSizeOrderWrong)

/-- 'laws.FnPeersAll': WHATEVER THE INPUT: true; the input reads as it did. -/
def fnPeersAllSpec : ChangeSpec := { name := "fnPeersAll", fn := fun _ => fun
  | [d] => { results := [.lit (.bool true)], args := [d] }
  | _ => none }
def fnPeersAllRow : OpenClaim := { program := "ytfpdmolbaioojaa", sum := "7b83722bc3a17474e5147ec3f0ecd29e2f2b3de23fd54fc7f9eee9ac358597e4", func := "loop.example/trafficguard/laws.FnPeersAll", spec := "fnPeersAll", apart := false }
def FnPeersAllSaid : Prop := fnPeersAllRow.holds Try.pinned (OpenSpec.ofChange fnPeersAllSpec)

/-- ITS FALSE NEIGHBOUR: 'it returns false'. Refute it at one input. -/
def fnPeersAllWrong : ChangeSpec := { name := "fnPeersAll", fn := fun _ => fun
  | [d] => { results := [.lit (.bool false)], args := [d] }
  | _ => none }
def FnPeersAllWrongFalsely : Prop := fnPeersAllRow.holds Try.pinned (OpenSpec.ofChange fnPeersAllWrong)

/-- 'laws.FnPacketSigns': WHATEVER THE INPUT: true; the input reads as it did. -/
def fnPacketSignsSpec : ChangeSpec := { name := "fnPacketSigns", fn := fun _ => fun
  | [d] => { results := [.lit (.bool true)], args := [d] }
  | _ => none }
def fnPacketSignsRow : OpenClaim := { program := "ytfpdmolbaioojaa", sum := "7b83722bc3a17474e5147ec3f0ecd29e2f2b3de23fd54fc7f9eee9ac358597e4", func := "loop.example/trafficguard/laws.FnPacketSigns", spec := "fnPacketSigns", inPlace := ["internal/bytealg.IndexByteString", "internal/bytealg.IndexString"], recurses := true, named := ["internal/bytealg.MaxLen"], apart := false }
def FnPacketSignsSaid : Prop := fnPacketSignsRow.holds Try.pinned (OpenSpec.ofChange fnPacketSignsSpec)

/-- ITS FALSE NEIGHBOUR: 'it returns false'. Refute it at one input. -/
def fnPacketSignsWrong : ChangeSpec := { name := "fnPacketSigns", fn := fun _ => fun
  | [d] => { results := [.lit (.bool false)], args := [d] }
  | _ => none }
def FnPacketSignsWrongFalsely : Prop := fnPacketSignsRow.holds Try.pinned (OpenSpec.ofChange fnPacketSignsWrong)

/-- 'laws.FnOfPeerJoin': WHATEVER THE INPUT: true; the input reads as it did. -/
def fnOfPeerJoinSpec : ChangeSpec := { name := "fnOfPeerJoin", fn := fun _ => fun
  | [d1, d2] => { results := [.lit (.bool true)], args := [d1, d2] }
  | _ => none }
def fnOfPeerJoinRow : OpenClaim := { program := "ytfpdmolbaioojaa", sum := "7b83722bc3a17474e5147ec3f0ecd29e2f2b3de23fd54fc7f9eee9ac358597e4", func := "loop.example/trafficguard/laws.FnOfPeerJoin", spec := "fnOfPeerJoin", apart := false }
def FnOfPeerJoinSaid : Prop := fnOfPeerJoinRow.holds Try.pinned (OpenSpec.ofChange fnOfPeerJoinSpec)

/-- ITS FALSE NEIGHBOUR: 'it returns false'. Refute it at one input. -/
def fnOfPeerJoinWrong : ChangeSpec := { name := "fnOfPeerJoin", fn := fun _ => fun
  | [d1, d2] => { results := [.lit (.bool false)], args := [d1, d2] }
  | _ => none }
def FnOfPeerJoinWrongFalsely : Prop := fnOfPeerJoinRow.holds Try.pinned (OpenSpec.ofChange fnOfPeerJoinWrong)

/-- 'laws.FnExactPacketValid': WHATEVER THE INPUT: true; the input reads as it did. -/
def fnExactPacketValidSpec : ChangeSpec := { name := "fnExactPacketValid", fn := fun _ => fun
  | [d] => { results := [.lit (.bool true)], args := [d] }
  | _ => none }
def fnExactPacketValidRow : OpenClaim := { program := "ytfpdmolbaioojaa", sum := "7b83722bc3a17474e5147ec3f0ecd29e2f2b3de23fd54fc7f9eee9ac358597e4", func := "loop.example/trafficguard/laws.FnExactPacketValid", spec := "fnExactPacketValid", apart := false }
def FnExactPacketValidSaid : Prop := fnExactPacketValidRow.holds Try.pinned (OpenSpec.ofChange fnExactPacketValidSpec)

/-- ITS FALSE NEIGHBOUR: 'it returns false'. Refute it at one input. -/
def fnExactPacketValidWrong : ChangeSpec := { name := "fnExactPacketValid", fn := fun _ => fun
  | [d] => { results := [.lit (.bool false)], args := [d] }
  | _ => none }
def FnExactPacketValidWrongFalsely : Prop := fnExactPacketValidRow.holds Try.pinned (OpenSpec.ofChange fnExactPacketValidWrong)

/- THE SECOND FORM. 'bulk': how many values and letters a reading holds, each counted each time it is reached (what is shared counts as often as it is met; a slice's spare places count too). A statement '..UptoSaid' is the law's where the arguments, and the package variables that the reading takes, are together of bulk at most 1048576: NARROWER than '..Said'. Prove '..Said' where nothing that the law and all that it calls make is longer than what came in: it says more and counts as full. Else prove '..UptoSaid'. A law counts once. -/
mutual
def uptoBulk {H : Type} : DataW H → Nat
  | .lit (.string bytes) => bytes.length + 1
  | .lit _ => 1
  | .nil => 1
  | .ptr d => uptoBulk d + 1
  | .slice elems spare => uptoBulkAll elems + uptoBulkAll spare + 1
  | .agg parts => uptoBulkAll parts + 1
  | .iface _ d => uptoBulk d + 1
  | .map entries => uptoBulkEntries entries + 1
  | .held _ => 1
def uptoBulkAll {H : Type} : List (DataW H) → Nat
  | [] => 0
  | d :: r => uptoBulk d + uptoBulkAll r
def uptoBulkEntries {H : Type} : List (Lit × DataW H) → Nat
  | [] => 0
  | x :: r => uptoBulkEntry x + uptoBulkEntries r
def uptoBulkEntry {H : Type} : Lit × DataW H → Nat
  | (.string bytes, d) => bytes.length + uptoBulk d + 1
  | (_, d) => uptoBulk d + 1
 end
def uptoSmall : (H : Type) → List (DataW H) → Bool := fun _ ds => decide (uptoBulkAll ds ≤ 1048576)
def OpenSpec.upto (s : _root_.Go.ChangeSpec) : _root_.Go.OpenSpec := { _root_.Go.OpenSpec.ofChange s with cond := some uptoSmall }

/-- 'laws.FnSizeOf', WHERE WHAT IT READS IS OF BULK AT MOST 1048576: true; the input reads as it did. -/
def fnSizeOfUptoRow : OpenClaim := { program := "ytfpdmolbaioojaa", sum := "7b83722bc3a17474e5147ec3f0ecd29e2f2b3de23fd54fc7f9eee9ac358597e4", func := "loop.example/trafficguard/laws.FnSizeOf", spec := "fnSizeOf", apart := false, narrowed := true }
def FnSizeOfUptoSaid : Prop := fnSizeOfUptoRow.holds Try.pinned (OpenSpec.upto fnSizeOfSpec)

/-- 'laws.FnOfPeer', WHERE WHAT IT READS IS OF BULK AT MOST 1048576: true; the input reads as it did. -/
def fnOfPeerUptoRow : OpenClaim := { program := "ytfpdmolbaioojaa", sum := "7b83722bc3a17474e5147ec3f0ecd29e2f2b3de23fd54fc7f9eee9ac358597e4", func := "loop.example/trafficguard/laws.FnOfPeer", spec := "fnOfPeer", apart := false, narrowed := true }
def FnOfPeerUptoSaid : Prop := fnOfPeerUptoRow.holds Try.pinned (OpenSpec.upto fnOfPeerSpec)

/-- 'laws.FnSizeOrder', WHERE WHAT IT READS IS OF BULK AT MOST 1048576: true; the input reads as it did. -/
def fnSizeOrderUptoRow : OpenClaim := { program := "ytfpdmolbaioojaa", sum := "7b83722bc3a17474e5147ec3f0ecd29e2f2b3de23fd54fc7f9eee9ac358597e4", func := "loop.example/trafficguard/laws.FnSizeOrder", spec := "fnSizeOrder", apart := false, narrowed := true }
def FnSizeOrderUptoSaid : Prop := fnSizeOrderUptoRow.holds Try.pinned (OpenSpec.upto fnSizeOrderSpec)

/-- 'laws.FnPeersAll', WHERE WHAT IT READS IS OF BULK AT MOST 1048576: true; the input reads as it did. -/
def fnPeersAllUptoRow : OpenClaim := { program := "ytfpdmolbaioojaa", sum := "7b83722bc3a17474e5147ec3f0ecd29e2f2b3de23fd54fc7f9eee9ac358597e4", func := "loop.example/trafficguard/laws.FnPeersAll", spec := "fnPeersAll", apart := false, narrowed := true }
def FnPeersAllUptoSaid : Prop := fnPeersAllUptoRow.holds Try.pinned (OpenSpec.upto fnPeersAllSpec)

/-- 'laws.FnPacketSigns', WHERE WHAT IT READS IS OF BULK AT MOST 1048576: true; the input reads as it did. -/
def fnPacketSignsUptoRow : OpenClaim := { program := "ytfpdmolbaioojaa", sum := "7b83722bc3a17474e5147ec3f0ecd29e2f2b3de23fd54fc7f9eee9ac358597e4", func := "loop.example/trafficguard/laws.FnPacketSigns", spec := "fnPacketSigns", inPlace := ["internal/bytealg.IndexByteString", "internal/bytealg.IndexString"], recurses := true, named := ["internal/bytealg.MaxLen"], apart := false, narrowed := true }
def FnPacketSignsUptoSaid : Prop := fnPacketSignsUptoRow.holds Try.pinned (OpenSpec.upto fnPacketSignsSpec)

/-- 'laws.FnOfPeerJoin', WHERE WHAT IT READS IS OF BULK AT MOST 1048576: true; the input reads as it did. -/
def fnOfPeerJoinUptoRow : OpenClaim := { program := "ytfpdmolbaioojaa", sum := "7b83722bc3a17474e5147ec3f0ecd29e2f2b3de23fd54fc7f9eee9ac358597e4", func := "loop.example/trafficguard/laws.FnOfPeerJoin", spec := "fnOfPeerJoin", apart := false, narrowed := true }
def FnOfPeerJoinUptoSaid : Prop := fnOfPeerJoinUptoRow.holds Try.pinned (OpenSpec.upto fnOfPeerJoinSpec)

/-- 'laws.FnExactPacketValid', WHERE WHAT IT READS IS OF BULK AT MOST 1048576: true; the input reads as it did. -/
def fnExactPacketValidUptoRow : OpenClaim := { program := "ytfpdmolbaioojaa", sum := "7b83722bc3a17474e5147ec3f0ecd29e2f2b3de23fd54fc7f9eee9ac358597e4", func := "loop.example/trafficguard/laws.FnExactPacketValid", spec := "fnExactPacketValid", apart := false, narrowed := true }
def FnExactPacketValidUptoSaid : Prop := fnExactPacketValidUptoRow.holds Try.pinned (OpenSpec.upto fnExactPacketValidSpec)

end Rows
end Go.Proofs.Ytfpdmolbaioojaa
