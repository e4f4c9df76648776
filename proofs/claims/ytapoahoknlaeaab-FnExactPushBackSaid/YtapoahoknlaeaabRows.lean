/-
  No cell of these rows narrows 'for every input' (looked for: loops, veiled, ifaces, maps, wideKeys, modest, calm, conditions, laid).
  DERIVED. THE GIVEN ROWS OF THIS SEAT. 11 by the template 'for every input the law returns true; each argument reads behind the call as it read before'; 0 by the template 'total and deterministic' (their statements: YtapoahoknlaeaabTotals.lean).
  GIVEN WITH THE SEED: the statements are not yours to turn. If you find one false, say at which input.
  Laid BY PROGRAM, IN A SANDBOX (cutbox-rows.mjs): the forced cells as the released guide's own fill.sh prints them over the translation 91471b036d326627… (all of the seat's roots in one cut). By AI agents, Wed Nov 11 2026. No macro, syntax, notation, axiom, sorry.
-/
import Derived.Test.YtapoahoknlaeaabChecked
import GoSem.Claim
import GoSem.ClaimJoined
import GoSem.ClaimMapViews
import Derived.JoinedTies
import Derived.KernelRfl
namespace Go.Proofs.Ytapoahoknlaeaab
/- THE CELL 'sum', in the pinned program and in every row, IS THE sha256 OF THE DUMP (.gsa) THAT YtapoahoknlaeaabProg.lean LOADS. Nothing in Lean hashes anything: it is a label: what it is worth is what the hold of that sum in a sandbox is worth. -/
noncomputable def Try.pinned : Pinned := { name := "ytapoahoknlaeaab", sum := "91471b036d3266275c4536ac3a9bef3a881b80016ea4ef252db18e31cca3c60f", checked := Try.checked }
namespace Rows
def none {H : Type} : Left H := { results := [], args := [] }

/-- 'laws.FnDropTwice': WHATEVER THE INPUT: true; the input reads as it did. -/
def fnDropTwiceSpec : ChangeSpec := { name := "fnDropTwice", fn := fun _ => fun
  | [d] => { results := [.lit (.bool true)], args := [d] }
  | _ => none }
def fnDropTwiceRow : OpenClaim := { program := "ytapoahoknlaeaab", sum := "91471b036d3266275c4536ac3a9bef3a881b80016ea4ef252db18e31cca3c60f", func := "loop.example/trafficguard/laws.FnDropTwice", spec := "fnDropTwice", apart := false }
def FnDropTwiceSaid : Prop := fnDropTwiceRow.holds Try.pinned (OpenSpec.ofChange fnDropTwiceSpec)

/-- ITS FALSE NEIGHBOUR: 'it returns false'. Refute it at one input. -/
def fnDropTwiceWrong : ChangeSpec := { name := "fnDropTwice", fn := fun _ => fun
  | [d] => { results := [.lit (.bool false)], args := [d] }
  | _ => none }
def FnDropTwiceWrongFalsely : Prop := fnDropTwiceRow.holds Try.pinned (OpenSpec.ofChange fnDropTwiceWrong)

/-- 'laws.FnHeaviestDrop': WHATEVER THE INPUT: true; the input reads as it did. -/
def fnHeaviestDropSpec : ChangeSpec := { name := "fnHeaviestDrop", fn := fun _ => fun
  | [d] => { results := [.lit (.bool true)], args := [d] }
  | _ => none }
def fnHeaviestDropRow : OpenClaim := { program := "ytapoahoknlaeaab", sum := "91471b036d3266275c4536ac3a9bef3a881b80016ea4ef252db18e31cca3c60f", func := "loop.example/trafficguard/laws.FnHeaviestDrop", spec := "fnHeaviestDrop", apart := false }
def FnHeaviestDropSaid : Prop := fnHeaviestDropRow.holds Try.pinned (OpenSpec.ofChange fnHeaviestDropSpec)

/-- ITS FALSE NEIGHBOUR: 'it returns false'. Refute it at one input. -/
def fnHeaviestDropWrong : ChangeSpec := { name := "fnHeaviestDrop", fn := fun _ => fun
  | [d] => { results := [.lit (.bool false)], args := [d] }
  | _ => none }
def FnHeaviestDropWrongFalsely : Prop := fnHeaviestDropRow.holds Try.pinned (OpenSpec.ofChange fnHeaviestDropWrong)

/-- 'laws.FnRoomLimit': WHATEVER THE INPUT: true; the input reads as it did. -/
def fnRoomLimitSpec : ChangeSpec := { name := "fnRoomLimit", fn := fun _ => fun
  | [d] => { results := [.lit (.bool true)], args := [d] }
  | _ => none }
def fnRoomLimitRow : OpenClaim := { program := "ytapoahoknlaeaab", sum := "91471b036d3266275c4536ac3a9bef3a881b80016ea4ef252db18e31cca3c60f", func := "loop.example/trafficguard/laws.FnRoomLimit", spec := "fnRoomLimit", apart := false }
def FnRoomLimitSaid : Prop := fnRoomLimitRow.holds Try.pinned (OpenSpec.ofChange fnRoomLimitSpec)

/-- ITS FALSE NEIGHBOUR: 'it returns false'. Refute it at one input. -/
def fnRoomLimitWrong : ChangeSpec := { name := "fnRoomLimit", fn := fun _ => fun
  | [d] => { results := [.lit (.bool false)], args := [d] }
  | _ => none }
def FnRoomLimitWrongFalsely : Prop := fnRoomLimitRow.holds Try.pinned (OpenSpec.ofChange fnRoomLimitWrong)

/-- 'laws.FnExactQueueValid': WHATEVER THE INPUT: true; the input reads as it did. -/
def fnExactQueueValidSpec : ChangeSpec := { name := "fnExactQueueValid", fn := fun _ => fun
  | [d] => { results := [.lit (.bool true)], args := [d] }
  | _ => none }
def fnExactQueueValidRow : OpenClaim := { program := "ytapoahoknlaeaab", sum := "91471b036d3266275c4536ac3a9bef3a881b80016ea4ef252db18e31cca3c60f", func := "loop.example/trafficguard/laws.FnExactQueueValid", spec := "fnExactQueueValid", apart := false }
def FnExactQueueValidSaid : Prop := fnExactQueueValidRow.holds Try.pinned (OpenSpec.ofChange fnExactQueueValidSpec)

/-- ITS FALSE NEIGHBOUR: 'it returns false'. Refute it at one input. -/
def fnExactQueueValidWrong : ChangeSpec := { name := "fnExactQueueValid", fn := fun _ => fun
  | [d] => { results := [.lit (.bool false)], args := [d] }
  | _ => none }
def FnExactQueueValidWrongFalsely : Prop := fnExactQueueValidRow.holds Try.pinned (OpenSpec.ofChange fnExactQueueValidWrong)

/-- 'laws.FnExactQueueSame': WHATEVER THE INPUT: true; the input reads as it did. -/
def fnExactQueueSameSpec : ChangeSpec := { name := "fnExactQueueSame", fn := fun _ => fun
  | [d1, d2] => { results := [.lit (.bool true)], args := [d1, d2] }
  | _ => none }
def fnExactQueueSameRow : OpenClaim := { program := "ytapoahoknlaeaab", sum := "91471b036d3266275c4536ac3a9bef3a881b80016ea4ef252db18e31cca3c60f", func := "loop.example/trafficguard/laws.FnExactQueueSame", spec := "fnExactQueueSame", apart := false }
def FnExactQueueSameSaid : Prop := fnExactQueueSameRow.holds Try.pinned (OpenSpec.ofChange fnExactQueueSameSpec)

/-- ITS FALSE NEIGHBOUR: 'it returns false'. Refute it at one input. -/
def fnExactQueueSameWrong : ChangeSpec := { name := "fnExactQueueSame", fn := fun _ => fun
  | [d1, d2] => { results := [.lit (.bool false)], args := [d1, d2] }
  | _ => none }
def FnExactQueueSameWrongFalsely : Prop := fnExactQueueSameRow.holds Try.pinned (OpenSpec.ofChange fnExactQueueSameWrong)

/-- 'laws.FnExactPushBack': WHATEVER THE INPUT: true; the input reads as it did. -/
def fnExactPushBackSpec : ChangeSpec := { name := "fnExactPushBack", fn := fun _ => fun
  | [d1, d2] => { results := [.lit (.bool true)], args := [d1, d2] }
  | _ => none }
def fnExactPushBackRow : OpenClaim := { program := "ytapoahoknlaeaab", sum := "91471b036d3266275c4536ac3a9bef3a881b80016ea4ef252db18e31cca3c60f", func := "loop.example/trafficguard/laws.FnExactPushBack", spec := "fnExactPushBack", apart := false }
def FnExactPushBackSaid : Prop := fnExactPushBackRow.holds Try.pinned (OpenSpec.ofChange fnExactPushBackSpec)

/-- ITS FALSE NEIGHBOUR: 'it returns false'. Refute it at one input. -/
def fnExactPushBackWrong : ChangeSpec := { name := "fnExactPushBack", fn := fun _ => fun
  | [d1, d2] => { results := [.lit (.bool false)], args := [d1, d2] }
  | _ => none }
def FnExactPushBackWrongFalsely : Prop := fnExactPushBackRow.holds Try.pinned (OpenSpec.ofChange fnExactPushBackWrong)

/-- 'laws.FnExactPopFront': WHATEVER THE INPUT: true; the input reads as it did. -/
def fnExactPopFrontSpec : ChangeSpec := { name := "fnExactPopFront", fn := fun _ => fun
  | [d] => { results := [.lit (.bool true)], args := [d] }
  | _ => none }
def fnExactPopFrontRow : OpenClaim := { program := "ytapoahoknlaeaab", sum := "91471b036d3266275c4536ac3a9bef3a881b80016ea4ef252db18e31cca3c60f", func := "loop.example/trafficguard/laws.FnExactPopFront", spec := "fnExactPopFront", apart := false }
def FnExactPopFrontSaid : Prop := fnExactPopFrontRow.holds Try.pinned (OpenSpec.ofChange fnExactPopFrontSpec)

/-- ITS FALSE NEIGHBOUR: 'it returns false'. Refute it at one input. -/
def fnExactPopFrontWrong : ChangeSpec := { name := "fnExactPopFront", fn := fun _ => fun
  | [d] => { results := [.lit (.bool false)], args := [d] }
  | _ => none }
def FnExactPopFrontWrongFalsely : Prop := fnExactPopFrontRow.holds Try.pinned (OpenSpec.ofChange fnExactPopFrontWrong)

/-- 'laws.FnExactRoomOf': WHATEVER THE INPUT: true; the input reads as it did. -/
def fnExactRoomOfSpec : ChangeSpec := { name := "fnExactRoomOf", fn := fun _ => fun
  | [d] => { results := [.lit (.bool true)], args := [d] }
  | _ => none }
def fnExactRoomOfRow : OpenClaim := { program := "ytapoahoknlaeaab", sum := "91471b036d3266275c4536ac3a9bef3a881b80016ea4ef252db18e31cca3c60f", func := "loop.example/trafficguard/laws.FnExactRoomOf", spec := "fnExactRoomOf", apart := false }
def FnExactRoomOfSaid : Prop := fnExactRoomOfRow.holds Try.pinned (OpenSpec.ofChange fnExactRoomOfSpec)

/-- ITS FALSE NEIGHBOUR: 'it returns false'. Refute it at one input. -/
def fnExactRoomOfWrong : ChangeSpec := { name := "fnExactRoomOf", fn := fun _ => fun
  | [d] => { results := [.lit (.bool false)], args := [d] }
  | _ => none }
def FnExactRoomOfWrongFalsely : Prop := fnExactRoomOfRow.holds Try.pinned (OpenSpec.ofChange fnExactRoomOfWrong)

/-- 'laws.FnExactShedFor': WHATEVER THE INPUT: true; the input reads as it did. -/
def fnExactShedForSpec : ChangeSpec := { name := "fnExactShedFor", fn := fun _ => fun
  | [d1, d2] => { results := [.lit (.bool true)], args := [d1, d2] }
  | _ => none }
def fnExactShedForRow : OpenClaim := { program := "ytapoahoknlaeaab", sum := "91471b036d3266275c4536ac3a9bef3a881b80016ea4ef252db18e31cca3c60f", func := "loop.example/trafficguard/laws.FnExactShedFor", spec := "fnExactShedFor", apart := false }
def FnExactShedForSaid : Prop := fnExactShedForRow.holds Try.pinned (OpenSpec.ofChange fnExactShedForSpec)

/-- ITS FALSE NEIGHBOUR: 'it returns false'. Refute it at one input. -/
def fnExactShedForWrong : ChangeSpec := { name := "fnExactShedFor", fn := fun _ => fun
  | [d1, d2] => { results := [.lit (.bool false)], args := [d1, d2] }
  | _ => none }
def FnExactShedForWrongFalsely : Prop := fnExactShedForRow.holds Try.pinned (OpenSpec.ofChange fnExactShedForWrong)

/-- 'laws.FnExactHeaviestPeer': WHATEVER THE INPUT: true; the input reads as it did. -/
def fnExactHeaviestPeerSpec : ChangeSpec := { name := "fnExactHeaviestPeer", fn := fun _ => fun
  | [d] => { results := [.lit (.bool true)], args := [d] }
  | _ => none }
def fnExactHeaviestPeerRow : OpenClaim := { program := "ytapoahoknlaeaab", sum := "91471b036d3266275c4536ac3a9bef3a881b80016ea4ef252db18e31cca3c60f", func := "loop.example/trafficguard/laws.FnExactHeaviestPeer", spec := "fnExactHeaviestPeer", apart := false }
def FnExactHeaviestPeerSaid : Prop := fnExactHeaviestPeerRow.holds Try.pinned (OpenSpec.ofChange fnExactHeaviestPeerSpec)

/-- ITS FALSE NEIGHBOUR: 'it returns false'. Refute it at one input. -/
def fnExactHeaviestPeerWrong : ChangeSpec := { name := "fnExactHeaviestPeer", fn := fun _ => fun
  | [d] => { results := [.lit (.bool false)], args := [d] }
  | _ => none }
def FnExactHeaviestPeerWrongFalsely : Prop := fnExactHeaviestPeerRow.holds Try.pinned (OpenSpec.ofChange fnExactHeaviestPeerWrong)

/-- 'laws.FnExactDropPeer': WHATEVER THE INPUT: true; the input reads as it did. -/
def fnExactDropPeerSpec : ChangeSpec := { name := "fnExactDropPeer", fn := fun _ => fun
  | [d1, d2] => { results := [.lit (.bool true)], args := [d1, d2] }
  | _ => none }
def fnExactDropPeerRow : OpenClaim := { program := "ytapoahoknlaeaab", sum := "91471b036d3266275c4536ac3a9bef3a881b80016ea4ef252db18e31cca3c60f", func := "loop.example/trafficguard/laws.FnExactDropPeer", spec := "fnExactDropPeer", apart := false }
def FnExactDropPeerSaid : Prop := fnExactDropPeerRow.holds Try.pinned (OpenSpec.ofChange fnExactDropPeerSpec)

/-- ITS FALSE NEIGHBOUR: 'it returns false'. Refute it at one input. -/
def fnExactDropPeerWrong : ChangeSpec := { name := "fnExactDropPeer", fn := fun _ => fun
  | [d1, d2] => { results := [.lit (.bool false)], args := [d1, d2] }
  | _ => none }
def FnExactDropPeerWrongFalsely : Prop := fnExactDropPeerRow.holds Try.pinned (OpenSpec.ofChange fnExactDropPeerWrong)

/- THE SECOND FORM. 'bulk': how many values and letters a reading holds, each counted each time it is reached (what is shared counts as often as it is met; a slice's spare places count too). A statement '..UptoSaid' is the law's where the arguments, and the package variables that the reading takes, are together of bulk at most 1048576: NARROWER than '..Said'. Prove '..Said' where nothing that the law and all that it calls make is longer than what came in: it says more and counts as full. Else prove '..UptoSaid'. A law counts once. -/
mutual
def uptoBulk {H : Type} : DataW H → Nat
  | .lit (.string bytes) => bytes.length + 1
  | .lit _ => 1
  | .nil => 1
  | .ptr d => uptoBulk d + 1
  | .slice elems spare => uptoBulkAll elems + uptoBulkAll spare + 1
  | .agg parts => uptoBulkAll parts + 1
  | .iface _ d => uptoBulk d + 1
  | .map entries => uptoBulkEntries entries + 1
  | .held _ => 1
def uptoBulkAll {H : Type} : List (DataW H) → Nat
  | [] => 0
  | d :: r => uptoBulk d + uptoBulkAll r
def uptoBulkEntries {H : Type} : List (Lit × DataW H) → Nat
  | [] => 0
  | x :: r => uptoBulkEntry x + uptoBulkEntries r
def uptoBulkEntry {H : Type} : Lit × DataW H → Nat
  | (.string bytes, d) => bytes.length + uptoBulk d + 1
  | (_, d) => uptoBulk d + 1
 end
def uptoSmall : (H : Type) → List (DataW H) → Bool := fun _ ds => decide (uptoBulkAll ds ≤ 1048576)
def OpenSpec.upto (s : _root_.Go.ChangeSpec) : _root_.Go.OpenSpec := { _root_.Go.OpenSpec.ofChange s with cond := some uptoSmall }

/-- 'laws.FnDropTwice', WHERE WHAT IT READS IS OF BULK AT MOST 1048576: true; the input reads as it did. -/
def fnDropTwiceUptoRow : OpenClaim := { program := "ytapoahoknlaeaab", sum := "91471b036d3266275c4536ac3a9bef3a881b80016ea4ef252db18e31cca3c60f", func := "loop.example/trafficguard/laws.FnDropTwice", spec := "fnDropTwice", apart := false, narrowed := true }
def FnDropTwiceUptoSaid : Prop := fnDropTwiceUptoRow.holds Try.pinned (OpenSpec.upto fnDropTwiceSpec)

/-- 'laws.FnHeaviestDrop', WHERE WHAT IT READS IS OF BULK AT MOST 1048576: true; the input reads as it did. -/
def fnHeaviestDropUptoRow : OpenClaim := { program := "ytapoahoknlaeaab", sum := "91471b036d3266275c4536ac3a9bef3a881b80016ea4ef252db18e31cca3c60f", func := "loop.example/trafficguard/laws.FnHeaviestDrop", spec := "fnHeaviestDrop", apart := false, narrowed := true }
def FnHeaviestDropUptoSaid : Prop := fnHeaviestDropUptoRow.holds Try.pinned (OpenSpec.upto fnHeaviestDropSpec)

/-- 'laws.FnRoomLimit', WHERE WHAT IT READS IS OF BULK AT MOST 1048576: true; the input reads as it did. -/
def fnRoomLimitUptoRow : OpenClaim := { program := "ytapoahoknlaeaab", sum := "91471b036d3266275c4536ac3a9bef3a881b80016ea4ef252db18e31cca3c60f", func := "loop.example/trafficguard/laws.FnRoomLimit", spec := "fnRoomLimit", apart := false, narrowed := true }
def FnRoomLimitUptoSaid : Prop := fnRoomLimitUptoRow.holds Try.pinned (OpenSpec.upto fnRoomLimitSpec)

/-- 'laws.FnExactQueueValid', WHERE WHAT IT READS IS OF BULK AT MOST 1048576: true; the input reads as it did. -/
def fnExactQueueValidUptoRow : OpenClaim := { program := "ytapoahoknlaeaab", sum := "91471b036d3266275c4536ac3a9bef3a881b80016ea4ef252db18e31cca3c60f", func := "loop.example/trafficguard/laws.FnExactQueueValid", spec := "fnExactQueueValid", apart := false, narrowed := true }
def FnExactQueueValidUptoSaid : Prop := fnExactQueueValidUptoRow.holds Try.pinned (OpenSpec.upto fnExactQueueValidSpec)

/-- 'laws.FnExactQueueSame', WHERE WHAT IT READS IS OF BULK AT MOST 1048576: true; the input reads as it did. -/
def fnExactQueueSameUptoRow : OpenClaim := { program := "ytapoahoknlaeaab", sum := "91471b036d3266275c4536ac3a9bef3a881b80016ea4ef252db18e31cca3c60f", func := "loop.example/trafficguard/laws.FnExactQueueSame", spec := "fnExactQueueSame", apart := false, narrowed := true }
def FnExactQueueSameUptoSaid : Prop := fnExactQueueSameUptoRow.holds Try.pinned (OpenSpec.upto fnExactQueueSameSpec)

/-- 'laws.FnExactPushBack', WHERE WHAT IT READS IS OF BULK AT MOST 1048576: true; the input reads as it did. -/
def fnExactPushBackUptoRow : OpenClaim := { program := "ytapoahoknlaeaab", sum := "91471b036d3266275c4536ac3a9bef3a881b80016ea4ef252db18e31cca3c60f", func := "loop.example/trafficguard/laws.FnExactPushBack", spec := "fnExactPushBack", apart := false, narrowed := true }
def FnExactPushBackUptoSaid : Prop := fnExactPushBackUptoRow.holds Try.pinned (OpenSpec.upto fnExactPushBackSpec)

/-- 'laws.FnExactPopFront', WHERE WHAT IT READS IS OF BULK AT MOST 1048576: true; the input reads as it did. -/
def fnExactPopFrontUptoRow : OpenClaim := { program := "ytapoahoknlaeaab", sum := "91471b036d3266275c4536ac3a9bef3a881b80016ea4ef252db18e31cca3c60f", func := "loop.example/trafficguard/laws.FnExactPopFront", spec := "fnExactPopFront", apart := false, narrowed := true }
def FnExactPopFrontUptoSaid : Prop := fnExactPopFrontUptoRow.holds Try.pinned (OpenSpec.upto fnExactPopFrontSpec)

/-- 'laws.FnExactRoomOf', WHERE WHAT IT READS IS OF BULK AT MOST 1048576: true; the input reads as it did. -/
def fnExactRoomOfUptoRow : OpenClaim := { program := "ytapoahoknlaeaab", sum := "91471b036d3266275c4536ac3a9bef3a881b80016ea4ef252db18e31cca3c60f", func := "loop.example/trafficguard/laws.FnExactRoomOf", spec := "fnExactRoomOf", apart := false, narrowed := true }
def FnExactRoomOfUptoSaid : Prop := fnExactRoomOfUptoRow.holds Try.pinned (OpenSpec.upto fnExactRoomOfSpec)

/-- 'laws.FnExactShedFor', WHERE WHAT IT READS IS OF BULK AT MOST 1048576: true; the input reads as it did. -/
def fnExactShedForUptoRow : OpenClaim := { program := "ytapoahoknlaeaab", sum := "91471b036d3266275c4536ac3a9bef3a881b80016ea4ef252db18e31cca3c60f", func := "loop.example/trafficguard/laws.FnExactShedFor", spec := "fnExactShedFor", apart := false, narrowed := true }
def FnExactShedForUptoSaid : Prop := fnExactShedForUptoRow.holds Try.pinned (OpenSpec.upto fnExactShedForSpec)

/-- 'laws.FnExactHeaviestPeer', WHERE WHAT IT READS IS OF BULK AT MOST 1048576: true; the input reads as it did. -/
def fnExactHeaviestPeerUptoRow : OpenClaim := { program := "ytapoahoknlaeaab", sum := "91471b036d3266275c4536ac3a9bef3a881b80016ea4ef252db18e31cca3c60f", func := "loop.example/trafficguard/laws.FnExactHeaviestPeer", spec := "fnExactHeaviestPeer", apart := false, narrowed := true }
def FnExactHeaviestPeerUptoSaid : Prop := fnExactHeaviestPeerUptoRow.holds Try.pinned (OpenSpec.upto fnExactHeaviestPeerSpec)

/-- 'laws.FnExactDropPeer', WHERE WHAT IT READS IS OF BULK AT MOST 1048576: true; the input reads as it did. -/
def fnExactDropPeerUptoRow : OpenClaim := { program := "ytapoahoknlaeaab", sum := "91471b036d3266275c4536ac3a9bef3a881b80016ea4ef252db18e31cca3c60f", func := "loop.example/trafficguard/laws.FnExactDropPeer", spec := "fnExactDropPeer", apart := false, narrowed := true }
def FnExactDropPeerUptoSaid : Prop := fnExactDropPeerUptoRow.holds Try.pinned (OpenSpec.upto fnExactDropPeerSpec)

end Rows
end Go.Proofs.Ytapoahoknlaeaab
