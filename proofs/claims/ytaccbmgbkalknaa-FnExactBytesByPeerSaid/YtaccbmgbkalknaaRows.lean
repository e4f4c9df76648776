/-
  No cell of these rows narrows 'for every input' (looked for: loops, veiled, ifaces, maps, wideKeys, modest, calm, conditions, laid).
  DERIVED. THE GIVEN ROWS OF THIS SEAT. 12 by the template 'for every input the law returns true; each argument reads behind the call as it read before'; 0 by the template 'total and deterministic' (their statements: YtaccbmgbkalknaaTotals.lean).
  GIVEN WITH THE SEED: the statements are not yours to turn. If you find one false, say at which input.
  Laid BY PROGRAM, IN A SANDBOX (cutbox-rows.mjs): the forced cells as the released guide's own fill.sh prints them over the translation 521a1112c8da8323… (all of the seat's roots in one cut). By AI agents, Wed Nov 11 2026. No macro, syntax, notation, axiom, sorry.
-/
import Derived.Test.YtaccbmgbkalknaaChecked
import GoSem.Claim
import GoSem.ClaimJoined
import GoSem.ClaimMapViews
import Derived.JoinedTies
import Derived.KernelRfl
namespace Go.Proofs.Ytaccbmgbkalknaa
/- THE CELL 'sum', in the pinned program and in every row, IS THE sha256 OF THE DUMP (.gsa) THAT YtaccbmgbkalknaaProg.lean LOADS. Nothing in Lean hashes anything: it is a label: what it is worth is what the hold of that sum in a sandbox is worth. -/
noncomputable def Try.pinned : Pinned := { name := "ytaccbmgbkalknaa", sum := "521a1112c8da8323cdb6425417f3fcf5b34e44740bba1a4eda5ecec21c571e20", checked := Try.checked }
namespace Rows
def none {H : Type} : Left H := { results := [], args := [] }

/-- 'laws.FnCountDecisions': WHATEVER THE INPUT: true; the input reads as it did. -/
def fnCountDecisionsSpec : ChangeSpec := { name := "fnCountDecisions", fn := fun _ => fun
  | [d] => { results := [.lit (.bool true)], args := [d] }
  | _ => none }
def fnCountDecisionsRow : OpenClaim := { program := "ytaccbmgbkalknaa", sum := "521a1112c8da8323cdb6425417f3fcf5b34e44740bba1a4eda5ecec21c571e20", func := "loop.example/trafficguard/laws.FnCountDecisions", spec := "fnCountDecisions", apart := false }
def FnCountDecisionsSaid : Prop := fnCountDecisionsRow.holds Try.pinned (OpenSpec.ofChange fnCountDecisionsSpec)

/-- ITS FALSE NEIGHBOUR: 'it returns false'. Refute it at one input. -/
def fnCountDecisionsWrong : ChangeSpec := { name := "fnCountDecisions", fn := fun _ => fun
  | [d] => { results := [.lit (.bool false)], args := [d] }
  | _ => none }
def FnCountDecisionsWrongFalsely : Prop := fnCountDecisionsRow.holds Try.pinned (OpenSpec.ofChange fnCountDecisionsWrong)

/-- 'laws.FnBytesByPeer': WHATEVER THE INPUT: true; the input reads as it did. -/
def fnBytesByPeerSpec : ChangeSpec := { name := "fnBytesByPeer", fn := fun _ => fun
  | [d] => { results := [.lit (.bool true)], args := [d] }
  | _ => none }
def fnBytesByPeerRow : OpenClaim := { program := "ytaccbmgbkalknaa", sum := "521a1112c8da8323cdb6425417f3fcf5b34e44740bba1a4eda5ecec21c571e20", func := "loop.example/trafficguard/laws.FnBytesByPeer", spec := "fnBytesByPeer", apart := false }
def FnBytesByPeerSaid : Prop := fnBytesByPeerRow.holds Try.pinned (OpenSpec.ofChange fnBytesByPeerSpec)

/-- ITS FALSE NEIGHBOUR: 'it returns false'. Refute it at one input. -/
def fnBytesByPeerWrong : ChangeSpec := { name := "fnBytesByPeer", fn := fun _ => fun
  | [d] => { results := [.lit (.bool false)], args := [d] }
  | _ => none }
def FnBytesByPeerWrongFalsely : Prop := fnBytesByPeerRow.holds Try.pinned (OpenSpec.ofChange fnBytesByPeerWrong)

/-- 'laws.FnFairnessOf': WHATEVER THE INPUT: true; the input reads as it did. -/
def fnFairnessOfSpec : ChangeSpec := { name := "fnFairnessOf", fn := fun _ => fun
  | [d] => { results := [.lit (.bool true)], args := [d] }
  | _ => none }
def fnFairnessOfRow : OpenClaim := { program := "ytaccbmgbkalknaa", sum := "521a1112c8da8323cdb6425417f3fcf5b34e44740bba1a4eda5ecec21c571e20", func := "loop.example/trafficguard/laws.FnFairnessOf", spec := "fnFairnessOf", apart := false }
def FnFairnessOfSaid : Prop := fnFairnessOfRow.holds Try.pinned (OpenSpec.ofChange fnFairnessOfSpec)

/-- ITS FALSE NEIGHBOUR: 'it returns false'. Refute it at one input. -/
def fnFairnessOfWrong : ChangeSpec := { name := "fnFairnessOf", fn := fun _ => fun
  | [d] => { results := [.lit (.bool false)], args := [d] }
  | _ => none }
def FnFairnessOfWrongFalsely : Prop := fnFairnessOfRow.holds Try.pinned (OpenSpec.ofChange fnFairnessOfWrong)

/-- 'laws.FnTopPeers': WHATEVER THE INPUT: true; the input reads as it did. -/
def fnTopPeersSpec : ChangeSpec := { name := "fnTopPeers", fn := fun _ => fun
  | [d] => { results := [.lit (.bool true)], args := [d] }
  | _ => none }
def fnTopPeersRow : OpenClaim := { program := "ytaccbmgbkalknaa", sum := "521a1112c8da8323cdb6425417f3fcf5b34e44740bba1a4eda5ecec21c571e20", func := "loop.example/trafficguard/laws.FnTopPeers", spec := "fnTopPeers", unfollowed := true, recurses := true, apart := false }
def FnTopPeersSaid : Prop := fnTopPeersRow.holds Try.pinned (OpenSpec.ofChange fnTopPeersSpec)

/-- ITS FALSE NEIGHBOUR: 'it returns false'. Refute it at one input. -/
def fnTopPeersWrong : ChangeSpec := { name := "fnTopPeers", fn := fun _ => fun
  | [d] => { results := [.lit (.bool false)], args := [d] }
  | _ => none }
def FnTopPeersWrongFalsely : Prop := fnTopPeersRow.holds Try.pinned (OpenSpec.ofChange fnTopPeersWrong)

/-- 'laws.FnCountParts': WHATEVER THE INPUT: true; the input reads as it did. -/
def fnCountPartsSpec : ChangeSpec := { name := "fnCountParts", fn := fun _ => fun
  | [d] => { results := [.lit (.bool true)], args := [d] }
  | _ => none }
def fnCountPartsRow : OpenClaim := { program := "ytaccbmgbkalknaa", sum := "521a1112c8da8323cdb6425417f3fcf5b34e44740bba1a4eda5ecec21c571e20", func := "loop.example/trafficguard/laws.FnCountParts", spec := "fnCountParts", apart := false }
def FnCountPartsSaid : Prop := fnCountPartsRow.holds Try.pinned (OpenSpec.ofChange fnCountPartsSpec)

/-- ITS FALSE NEIGHBOUR: 'it returns false'. Refute it at one input. -/
def fnCountPartsWrong : ChangeSpec := { name := "fnCountParts", fn := fun _ => fun
  | [d] => { results := [.lit (.bool false)], args := [d] }
  | _ => none }
def FnCountPartsWrongFalsely : Prop := fnCountPartsRow.holds Try.pinned (OpenSpec.ofChange fnCountPartsWrong)

/-- 'laws.FnFairScale': WHATEVER THE INPUT: true; the input reads as it did. -/
def fnFairScaleSpec : ChangeSpec := { name := "fnFairScale", fn := fun _ => fun
  | [d] => { results := [.lit (.bool true)], args := [d] }
  | _ => none }
def fnFairScaleRow : OpenClaim := { program := "ytaccbmgbkalknaa", sum := "521a1112c8da8323cdb6425417f3fcf5b34e44740bba1a4eda5ecec21c571e20", func := "loop.example/trafficguard/laws.FnFairScale", spec := "fnFairScale", apart := false }
def FnFairScaleSaid : Prop := fnFairScaleRow.holds Try.pinned (OpenSpec.ofChange fnFairScaleSpec)

/-- ITS FALSE NEIGHBOUR: 'it returns false'. Refute it at one input. -/
def fnFairScaleWrong : ChangeSpec := { name := "fnFairScale", fn := fun _ => fun
  | [d] => { results := [.lit (.bool false)], args := [d] }
  | _ => none }
def FnFairScaleWrongFalsely : Prop := fnFairScaleRow.holds Try.pinned (OpenSpec.ofChange fnFairScaleWrong)

/-- 'laws.FnTopPrefix': WHATEVER THE INPUT: true; the input reads as it did. -/
def fnTopPrefixSpec : ChangeSpec := { name := "fnTopPrefix", fn := fun _ => fun
  | [d] => { results := [.lit (.bool true)], args := [d] }
  | _ => none }
def fnTopPrefixRow : OpenClaim := { program := "ytaccbmgbkalknaa", sum := "521a1112c8da8323cdb6425417f3fcf5b34e44740bba1a4eda5ecec21c571e20", func := "loop.example/trafficguard/laws.FnTopPrefix", spec := "fnTopPrefix", unfollowed := true, recurses := true, apart := false }
def FnTopPrefixSaid : Prop := fnTopPrefixRow.holds Try.pinned (OpenSpec.ofChange fnTopPrefixSpec)

/-- ITS FALSE NEIGHBOUR: 'it returns false'. Refute it at one input. -/
def fnTopPrefixWrong : ChangeSpec := { name := "fnTopPrefix", fn := fun _ => fun
  | [d] => { results := [.lit (.bool false)], args := [d] }
  | _ => none }
def FnTopPrefixWrongFalsely : Prop := fnTopPrefixRow.holds Try.pinned (OpenSpec.ofChange fnTopPrefixWrong)

/-- 'laws.FnBytesParts': WHATEVER THE INPUT: true; the input reads as it did. -/
def fnBytesPartsSpec : ChangeSpec := { name := "fnBytesParts", fn := fun _ => fun
  | [d] => { results := [.lit (.bool true)], args := [d] }
  | _ => none }
def fnBytesPartsRow : OpenClaim := { program := "ytaccbmgbkalknaa", sum := "521a1112c8da8323cdb6425417f3fcf5b34e44740bba1a4eda5ecec21c571e20", func := "loop.example/trafficguard/laws.FnBytesParts", spec := "fnBytesParts", apart := false }
def FnBytesPartsSaid : Prop := fnBytesPartsRow.holds Try.pinned (OpenSpec.ofChange fnBytesPartsSpec)

/-- ITS FALSE NEIGHBOUR: 'it returns false'. Refute it at one input. -/
def fnBytesPartsWrong : ChangeSpec := { name := "fnBytesParts", fn := fun _ => fun
  | [d] => { results := [.lit (.bool false)], args := [d] }
  | _ => none }
def FnBytesPartsWrongFalsely : Prop := fnBytesPartsRow.holds Try.pinned (OpenSpec.ofChange fnBytesPartsWrong)

/-- 'laws.FnExactCountDecisions': WHATEVER THE INPUT: true; the input reads as it did. -/
def fnExactCountDecisionsSpec : ChangeSpec := { name := "fnExactCountDecisions", fn := fun _ => fun
  | [d] => { results := [.lit (.bool true)], args := [d] }
  | _ => none }
def fnExactCountDecisionsRow : OpenClaim := { program := "ytaccbmgbkalknaa", sum := "521a1112c8da8323cdb6425417f3fcf5b34e44740bba1a4eda5ecec21c571e20", func := "loop.example/trafficguard/laws.FnExactCountDecisions", spec := "fnExactCountDecisions", apart := false }
def FnExactCountDecisionsSaid : Prop := fnExactCountDecisionsRow.holds Try.pinned (OpenSpec.ofChange fnExactCountDecisionsSpec)

/-- ITS FALSE NEIGHBOUR: 'it returns false'. Refute it at one input. -/
def fnExactCountDecisionsWrong : ChangeSpec := { name := "fnExactCountDecisions", fn := fun _ => fun
  | [d] => { results := [.lit (.bool false)], args := [d] }
  | _ => none }
def FnExactCountDecisionsWrongFalsely : Prop := fnExactCountDecisionsRow.holds Try.pinned (OpenSpec.ofChange fnExactCountDecisionsWrong)

/-- 'laws.FnExactBytesByPeer': WHATEVER THE INPUT: true; the input reads as it did. -/
def fnExactBytesByPeerSpec : ChangeSpec := { name := "fnExactBytesByPeer", fn := fun _ => fun
  | [d] => { results := [.lit (.bool true)], args := [d] }
  | _ => none }
def fnExactBytesByPeerRow : OpenClaim := { program := "ytaccbmgbkalknaa", sum := "521a1112c8da8323cdb6425417f3fcf5b34e44740bba1a4eda5ecec21c571e20", func := "loop.example/trafficguard/laws.FnExactBytesByPeer", spec := "fnExactBytesByPeer", apart := false }
def FnExactBytesByPeerSaid : Prop := fnExactBytesByPeerRow.holds Try.pinned (OpenSpec.ofChange fnExactBytesByPeerSpec)

/-- ITS FALSE NEIGHBOUR: 'it returns false'. Refute it at one input. -/
def fnExactBytesByPeerWrong : ChangeSpec := { name := "fnExactBytesByPeer", fn := fun _ => fun
  | [d] => { results := [.lit (.bool false)], args := [d] }
  | _ => none }
def FnExactBytesByPeerWrongFalsely : Prop := fnExactBytesByPeerRow.holds Try.pinned (OpenSpec.ofChange fnExactBytesByPeerWrong)

/-- 'laws.FnExactFairnessOf': WHATEVER THE INPUT: true; the input reads as it did. -/
def fnExactFairnessOfSpec : ChangeSpec := { name := "fnExactFairnessOf", fn := fun _ => fun
  | [d] => { results := [.lit (.bool true)], args := [d] }
  | _ => none }
def fnExactFairnessOfRow : OpenClaim := { program := "ytaccbmgbkalknaa", sum := "521a1112c8da8323cdb6425417f3fcf5b34e44740bba1a4eda5ecec21c571e20", func := "loop.example/trafficguard/laws.FnExactFairnessOf", spec := "fnExactFairnessOf", apart := false }
def FnExactFairnessOfSaid : Prop := fnExactFairnessOfRow.holds Try.pinned (OpenSpec.ofChange fnExactFairnessOfSpec)

/-- ITS FALSE NEIGHBOUR: 'it returns false'. Refute it at one input. -/
def fnExactFairnessOfWrong : ChangeSpec := { name := "fnExactFairnessOf", fn := fun _ => fun
  | [d] => { results := [.lit (.bool false)], args := [d] }
  | _ => none }
def FnExactFairnessOfWrongFalsely : Prop := fnExactFairnessOfRow.holds Try.pinned (OpenSpec.ofChange fnExactFairnessOfWrong)

/-- 'laws.FnExactTopPeers': WHATEVER THE INPUT: true; the input reads as it did. -/
def fnExactTopPeersSpec : ChangeSpec := { name := "fnExactTopPeers", fn := fun _ => fun
  | [d1, d2] => { results := [.lit (.bool true)], args := [d1, d2] }
  | _ => none }
def fnExactTopPeersRow : OpenClaim := { program := "ytaccbmgbkalknaa", sum := "521a1112c8da8323cdb6425417f3fcf5b34e44740bba1a4eda5ecec21c571e20", func := "loop.example/trafficguard/laws.FnExactTopPeers", spec := "fnExactTopPeers", unfollowed := true, recurses := true, apart := false }
def FnExactTopPeersSaid : Prop := fnExactTopPeersRow.holds Try.pinned (OpenSpec.ofChange fnExactTopPeersSpec)

/-- ITS FALSE NEIGHBOUR: 'it returns false'. Refute it at one input. -/
def fnExactTopPeersWrong : ChangeSpec := { name := "fnExactTopPeers", fn := fun _ => fun
  | [d1, d2] => { results := [.lit (.bool false)], args := [d1, d2] }
  | _ => none }
def FnExactTopPeersWrongFalsely : Prop := fnExactTopPeersRow.holds Try.pinned (OpenSpec.ofChange fnExactTopPeersWrong)

/- THE SECOND FORM. 'bulk': how many values and letters a reading holds, each counted each time it is reached (what is shared counts as often as it is met; a slice's spare places count too). A statement '..UptoSaid' is the law's where the arguments, and the package variables that the reading takes, are together of bulk at most 1048576: NARROWER than '..Said'. Prove '..Said' where nothing that the law and all that it calls make is longer than what came in: it says more and counts as full. Else prove '..UptoSaid'. A law counts once. -/
mutual
def uptoBulk {H : Type} : DataW H → Nat
  | .lit (.string bytes) => bytes.length + 1
  | .lit _ => 1
  | .nil => 1
  | .ptr d => uptoBulk d + 1
  | .slice elems spare => uptoBulkAll elems + uptoBulkAll spare + 1
  | .agg parts => uptoBulkAll parts + 1
  | .iface _ d => uptoBulk d + 1
  | .map entries => uptoBulkEntries entries + 1
  | .held _ => 1
def uptoBulkAll {H : Type} : List (DataW H) → Nat
  | [] => 0
  | d :: r => uptoBulk d + uptoBulkAll r
def uptoBulkEntries {H : Type} : List (Lit × DataW H) → Nat
  | [] => 0
  | x :: r => uptoBulkEntry x + uptoBulkEntries r
def uptoBulkEntry {H : Type} : Lit × DataW H → Nat
  | (.string bytes, d) => bytes.length + uptoBulk d + 1
  | (_, d) => uptoBulk d + 1
 end
def uptoSmall : (H : Type) → List (DataW H) → Bool := fun _ ds => decide (uptoBulkAll ds ≤ 1048576)
def OpenSpec.upto (s : _root_.Go.ChangeSpec) : _root_.Go.OpenSpec := { _root_.Go.OpenSpec.ofChange s with cond := some uptoSmall }

/-- 'laws.FnCountDecisions', WHERE WHAT IT READS IS OF BULK AT MOST 1048576: true; the input reads as it did. -/
def fnCountDecisionsUptoRow : OpenClaim := { program := "ytaccbmgbkalknaa", sum := "521a1112c8da8323cdb6425417f3fcf5b34e44740bba1a4eda5ecec21c571e20", func := "loop.example/trafficguard/laws.FnCountDecisions", spec := "fnCountDecisions", apart := false, narrowed := true }
def FnCountDecisionsUptoSaid : Prop := fnCountDecisionsUptoRow.holds Try.pinned (OpenSpec.upto fnCountDecisionsSpec)

/-- 'laws.FnBytesByPeer', WHERE WHAT IT READS IS OF BULK AT MOST 1048576: true; the input reads as it did. -/
def fnBytesByPeerUptoRow : OpenClaim := { program := "ytaccbmgbkalknaa", sum := "521a1112c8da8323cdb6425417f3fcf5b34e44740bba1a4eda5ecec21c571e20", func := "loop.example/trafficguard/laws.FnBytesByPeer", spec := "fnBytesByPeer", apart := false, narrowed := true }
def FnBytesByPeerUptoSaid : Prop := fnBytesByPeerUptoRow.holds Try.pinned (OpenSpec.upto fnBytesByPeerSpec)

/-- 'laws.FnFairnessOf', WHERE WHAT IT READS IS OF BULK AT MOST 1048576: true; the input reads as it did. -/
def fnFairnessOfUptoRow : OpenClaim := { program := "ytaccbmgbkalknaa", sum := "521a1112c8da8323cdb6425417f3fcf5b34e44740bba1a4eda5ecec21c571e20", func := "loop.example/trafficguard/laws.FnFairnessOf", spec := "fnFairnessOf", apart := false, narrowed := true }
def FnFairnessOfUptoSaid : Prop := fnFairnessOfUptoRow.holds Try.pinned (OpenSpec.upto fnFairnessOfSpec)

/-- 'laws.FnTopPeers', WHERE WHAT IT READS IS OF BULK AT MOST 1048576: true; the input reads as it did. -/
def fnTopPeersUptoRow : OpenClaim := { program := "ytaccbmgbkalknaa", sum := "521a1112c8da8323cdb6425417f3fcf5b34e44740bba1a4eda5ecec21c571e20", func := "loop.example/trafficguard/laws.FnTopPeers", spec := "fnTopPeers", unfollowed := true, recurses := true, apart := false, narrowed := true }
def FnTopPeersUptoSaid : Prop := fnTopPeersUptoRow.holds Try.pinned (OpenSpec.upto fnTopPeersSpec)

/-- 'laws.FnCountParts', WHERE WHAT IT READS IS OF BULK AT MOST 1048576: true; the input reads as it did. -/
def fnCountPartsUptoRow : OpenClaim := { program := "ytaccbmgbkalknaa", sum := "521a1112c8da8323cdb6425417f3fcf5b34e44740bba1a4eda5ecec21c571e20", func := "loop.example/trafficguard/laws.FnCountParts", spec := "fnCountParts", apart := false, narrowed := true }
def FnCountPartsUptoSaid : Prop := fnCountPartsUptoRow.holds Try.pinned (OpenSpec.upto fnCountPartsSpec)

/-- 'laws.FnFairScale', WHERE WHAT IT READS IS OF BULK AT MOST 1048576: true; the input reads as it did. -/
def fnFairScaleUptoRow : OpenClaim := { program := "ytaccbmgbkalknaa", sum := "521a1112c8da8323cdb6425417f3fcf5b34e44740bba1a4eda5ecec21c571e20", func := "loop.example/trafficguard/laws.FnFairScale", spec := "fnFairScale", apart := false, narrowed := true }
def FnFairScaleUptoSaid : Prop := fnFairScaleUptoRow.holds Try.pinned (OpenSpec.upto fnFairScaleSpec)

/-- 'laws.FnTopPrefix', WHERE WHAT IT READS IS OF BULK AT MOST 1048576: true; the input reads as it did. -/
def fnTopPrefixUptoRow : OpenClaim := { program := "ytaccbmgbkalknaa", sum := "521a1112c8da8323cdb6425417f3fcf5b34e44740bba1a4eda5ecec21c571e20", func := "loop.example/trafficguard/laws.FnTopPrefix", spec := "fnTopPrefix", unfollowed := true, recurses := true, apart := false, narrowed := true }
def FnTopPrefixUptoSaid : Prop := fnTopPrefixUptoRow.holds Try.pinned (OpenSpec.upto fnTopPrefixSpec)

/-- 'laws.FnBytesParts', WHERE WHAT IT READS IS OF BULK AT MOST 1048576: true; the input reads as it did. -/
def fnBytesPartsUptoRow : OpenClaim := { program := "ytaccbmgbkalknaa", sum := "521a1112c8da8323cdb6425417f3fcf5b34e44740bba1a4eda5ecec21c571e20", func := "loop.example/trafficguard/laws.FnBytesParts", spec := "fnBytesParts", apart := false, narrowed := true }
def FnBytesPartsUptoSaid : Prop := fnBytesPartsUptoRow.holds Try.pinned (OpenSpec.upto fnBytesPartsSpec)

/-- 'laws.FnExactCountDecisions', WHERE WHAT IT READS IS OF BULK AT MOST 1048576: true; the input reads as it did. -/
def fnExactCountDecisionsUptoRow : OpenClaim := { program := "ytaccbmgbkalknaa", sum := "521a1112c8da8323cdb6425417f3fcf5b34e44740bba1a4eda5ecec21c571e20", func := "loop.example/trafficguard/laws.FnExactCountDecisions", spec := "fnExactCountDecisions", apart := false, narrowed := true }
def FnExactCountDecisionsUptoSaid : Prop := fnExactCountDecisionsUptoRow.holds Try.pinned (OpenSpec.upto fnExactCountDecisionsSpec)

/-- 'laws.FnExactBytesByPeer', WHERE WHAT IT READS IS OF BULK AT MOST 1048576: true; the input reads as it did. -/
def fnExactBytesByPeerUptoRow : OpenClaim := { program := "ytaccbmgbkalknaa", sum := "521a1112c8da8323cdb6425417f3fcf5b34e44740bba1a4eda5ecec21c571e20", func := "loop.example/trafficguard/laws.FnExactBytesByPeer", spec := "fnExactBytesByPeer", apart := false, narrowed := true }
def FnExactBytesByPeerUptoSaid : Prop := fnExactBytesByPeerUptoRow.holds Try.pinned (OpenSpec.upto fnExactBytesByPeerSpec)

/-- 'laws.FnExactFairnessOf', WHERE WHAT IT READS IS OF BULK AT MOST 1048576: true; the input reads as it did. -/
def fnExactFairnessOfUptoRow : OpenClaim := { program := "ytaccbmgbkalknaa", sum := "521a1112c8da8323cdb6425417f3fcf5b34e44740bba1a4eda5ecec21c571e20", func := "loop.example/trafficguard/laws.FnExactFairnessOf", spec := "fnExactFairnessOf", apart := false, narrowed := true }
def FnExactFairnessOfUptoSaid : Prop := fnExactFairnessOfUptoRow.holds Try.pinned (OpenSpec.upto fnExactFairnessOfSpec)

/-- 'laws.FnExactTopPeers', WHERE WHAT IT READS IS OF BULK AT MOST 1048576: true; the input reads as it did. -/
def fnExactTopPeersUptoRow : OpenClaim := { program := "ytaccbmgbkalknaa", sum := "521a1112c8da8323cdb6425417f3fcf5b34e44740bba1a4eda5ecec21c571e20", func := "loop.example/trafficguard/laws.FnExactTopPeers", spec := "fnExactTopPeers", unfollowed := true, recurses := true, apart := false, narrowed := true }
def FnExactTopPeersUptoSaid : Prop := fnExactTopPeersUptoRow.holds Try.pinned (OpenSpec.upto fnExactTopPeersSpec)

end Rows
end Go.Proofs.Ytaccbmgbkalknaa
