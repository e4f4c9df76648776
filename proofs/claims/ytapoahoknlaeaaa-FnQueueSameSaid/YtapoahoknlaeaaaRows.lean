/-
  No cell of these rows narrows 'for every input' (looked for: loops, veiled, ifaces, maps, wideKeys, modest, calm, conditions, laid).
  DERIVED. THE GIVEN ROWS OF THIS SEAT. 12 by the template 'for every input the law returns true; each argument reads behind the call as it read before'; 0 by the template 'total and deterministic' (their statements: YtapoahoknlaeaaaTotals.lean).
  GIVEN WITH THE SEED: the statements are not yours to turn. If you find one false, say at which input.
  Laid BY PROGRAM, IN A SANDBOX (cutbox-rows.mjs): the forced cells as the released guide's own fill.sh prints them over the translation bba4e38159b37439… (all of the seat's roots in one cut). By AI agents, Wed Nov 11 2026. No macro, syntax, notation, axiom, sorry.
-/
import Derived.Test.YtapoahoknlaeaaaChecked
import GoSem.Claim
import GoSem.ClaimJoined
import GoSem.ClaimMapViews
import Derived.JoinedTies
import Derived.KernelRfl
namespace Go.Proofs.Ytapoahoknlaeaaa
/- THE CELL 'sum', in the pinned program and in every row, IS THE sha256 OF THE DUMP (.gsa) THAT YtapoahoknlaeaaaProg.lean LOADS. Nothing in Lean hashes anything: it is a label: what it is worth is what the hold of that sum in a sandbox is worth. -/
noncomputable def Try.pinned : Pinned := { name := "ytapoahoknlaeaaa", sum := "bba4e38159b374395d5a25c8a4ec30c0cd7923cabdd807bebf6fdd9314a688b4", checked := Try.checked }
namespace Rows
def none {H : Type} : Left H := { results := [], args := [] }

/-- 'laws.FnPushBack': WHATEVER THE INPUT: true; the input reads as it did. -/
def fnPushBackSpec : ChangeSpec := { name := "fnPushBack", fn := fun _ => fun
  | [d] => { results := [.lit (.bool true)], args := [d] }
  | _ => none }
def fnPushBackRow : OpenClaim := { program := "ytapoahoknlaeaaa", sum := "bba4e38159b374395d5a25c8a4ec30c0cd7923cabdd807bebf6fdd9314a688b4", func := "loop.example/trafficguard/laws.FnPushBack", spec := "fnPushBack", apart := false }
def FnPushBackSaid : Prop := fnPushBackRow.holds Try.pinned (OpenSpec.ofChange fnPushBackSpec)

/-- ITS FALSE NEIGHBOUR: 'it returns false'. Refute it at one input. -/
def fnPushBackWrong : ChangeSpec := { name := "fnPushBack", fn := fun _ => fun
  | [d] => { results := [.lit (.bool false)], args := [d] }
  | _ => none }
def FnPushBackWrongFalsely : Prop := fnPushBackRow.holds Try.pinned (OpenSpec.ofChange fnPushBackWrong)

/-- 'laws.FnPopFront': WHATEVER THE INPUT: true; the input reads as it did. -/
def fnPopFrontSpec : ChangeSpec := { name := "fnPopFront", fn := fun _ => fun
  | [d] => { results := [.lit (.bool true)], args := [d] }
  | _ => none }
def fnPopFrontRow : OpenClaim := { program := "ytapoahoknlaeaaa", sum := "bba4e38159b374395d5a25c8a4ec30c0cd7923cabdd807bebf6fdd9314a688b4", func := "loop.example/trafficguard/laws.FnPopFront", spec := "fnPopFront", apart := false }
def FnPopFrontSaid : Prop := fnPopFrontRow.holds Try.pinned (OpenSpec.ofChange fnPopFrontSpec)

/-- ITS FALSE NEIGHBOUR: 'it returns false'. Refute it at one input. -/
def fnPopFrontWrong : ChangeSpec := { name := "fnPopFront", fn := fun _ => fun
  | [d] => { results := [.lit (.bool false)], args := [d] }
  | _ => none }
def FnPopFrontWrongFalsely : Prop := fnPopFrontRow.holds Try.pinned (OpenSpec.ofChange fnPopFrontWrong)

/-- 'laws.FnRoomOf': WHATEVER THE INPUT: true; the input reads as it did. -/
def fnRoomOfSpec : ChangeSpec := { name := "fnRoomOf", fn := fun _ => fun
  | [d1, d2] => { results := [.lit (.bool true)], args := [d1, d2] }
  | _ => none }
def fnRoomOfRow : OpenClaim := { program := "ytapoahoknlaeaaa", sum := "bba4e38159b374395d5a25c8a4ec30c0cd7923cabdd807bebf6fdd9314a688b4", func := "loop.example/trafficguard/laws.FnRoomOf", spec := "fnRoomOf", apart := false }
def FnRoomOfSaid : Prop := fnRoomOfRow.holds Try.pinned (OpenSpec.ofChange fnRoomOfSpec)

/-- ITS FALSE NEIGHBOUR: 'it returns false'. Refute it at one input. -/
def fnRoomOfWrong : ChangeSpec := { name := "fnRoomOf", fn := fun _ => fun
  | [d1, d2] => { results := [.lit (.bool false)], args := [d1, d2] }
  | _ => none }
def FnRoomOfWrongFalsely : Prop := fnRoomOfRow.holds Try.pinned (OpenSpec.ofChange fnRoomOfWrong)

/-- 'laws.FnShedFor': WHATEVER THE INPUT: true; the input reads as it did. -/
def fnShedForSpec : ChangeSpec := { name := "fnShedFor", fn := fun _ => fun
  | [d] => { results := [.lit (.bool true)], args := [d] }
  | _ => none }
def fnShedForRow : OpenClaim := { program := "ytapoahoknlaeaaa", sum := "bba4e38159b374395d5a25c8a4ec30c0cd7923cabdd807bebf6fdd9314a688b4", func := "loop.example/trafficguard/laws.FnShedFor", spec := "fnShedFor", apart := false }
def FnShedForSaid : Prop := fnShedForRow.holds Try.pinned (OpenSpec.ofChange fnShedForSpec)

/-- ITS FALSE NEIGHBOUR: 'it returns false'. Refute it at one input. -/
def fnShedForWrong : ChangeSpec := { name := "fnShedFor", fn := fun _ => fun
  | [d] => { results := [.lit (.bool false)], args := [d] }
  | _ => none }
def FnShedForWrongFalsely : Prop := fnShedForRow.holds Try.pinned (OpenSpec.ofChange fnShedForWrong)

/-- 'laws.FnHeaviestPeer': WHATEVER THE INPUT: true; the input reads as it did. -/
def fnHeaviestPeerSpec : ChangeSpec := { name := "fnHeaviestPeer", fn := fun _ => fun
  | [d] => { results := [.lit (.bool true)], args := [d] }
  | _ => none }
def fnHeaviestPeerRow : OpenClaim := { program := "ytapoahoknlaeaaa", sum := "bba4e38159b374395d5a25c8a4ec30c0cd7923cabdd807bebf6fdd9314a688b4", func := "loop.example/trafficguard/laws.FnHeaviestPeer", spec := "fnHeaviestPeer", apart := false }
def FnHeaviestPeerSaid : Prop := fnHeaviestPeerRow.holds Try.pinned (OpenSpec.ofChange fnHeaviestPeerSpec)

/-- ITS FALSE NEIGHBOUR: 'it returns false'. Refute it at one input. -/
def fnHeaviestPeerWrong : ChangeSpec := { name := "fnHeaviestPeer", fn := fun _ => fun
  | [d] => { results := [.lit (.bool false)], args := [d] }
  | _ => none }
def FnHeaviestPeerWrongFalsely : Prop := fnHeaviestPeerRow.holds Try.pinned (OpenSpec.ofChange fnHeaviestPeerWrong)

/-- 'laws.FnDropPeer': WHATEVER THE INPUT: true; the input reads as it did. -/
def fnDropPeerSpec : ChangeSpec := { name := "fnDropPeer", fn := fun _ => fun
  | [d] => { results := [.lit (.bool true)], args := [d] }
  | _ => none }
def fnDropPeerRow : OpenClaim := { program := "ytapoahoknlaeaaa", sum := "bba4e38159b374395d5a25c8a4ec30c0cd7923cabdd807bebf6fdd9314a688b4", func := "loop.example/trafficguard/laws.FnDropPeer", spec := "fnDropPeer", apart := false }
def FnDropPeerSaid : Prop := fnDropPeerRow.holds Try.pinned (OpenSpec.ofChange fnDropPeerSpec)

/-- ITS FALSE NEIGHBOUR: 'it returns false'. Refute it at one input. -/
def fnDropPeerWrong : ChangeSpec := { name := "fnDropPeer", fn := fun _ => fun
  | [d] => { results := [.lit (.bool false)], args := [d] }
  | _ => none }
def FnDropPeerWrongFalsely : Prop := fnDropPeerRow.holds Try.pinned (OpenSpec.ofChange fnDropPeerWrong)

/-- 'laws.FnQueueSame': WHATEVER THE INPUT: true; the input reads as it did. -/
def fnQueueSameSpec : ChangeSpec := { name := "fnQueueSame", fn := fun _ => fun
  | [d] => { results := [.lit (.bool true)], args := [d] }
  | _ => none }
def fnQueueSameRow : OpenClaim := { program := "ytapoahoknlaeaaa", sum := "bba4e38159b374395d5a25c8a4ec30c0cd7923cabdd807bebf6fdd9314a688b4", func := "loop.example/trafficguard/laws.FnQueueSame", spec := "fnQueueSame", apart := false }
def FnQueueSameSaid : Prop := fnQueueSameRow.holds Try.pinned (OpenSpec.ofChange fnQueueSameSpec)

/-- ITS FALSE NEIGHBOUR: 'it returns false'. Refute it at one input. -/
def fnQueueSameWrong : ChangeSpec := { name := "fnQueueSame", fn := fun _ => fun
  | [d] => { results := [.lit (.bool false)], args := [d] }
  | _ => none }
def FnQueueSameWrongFalsely : Prop := fnQueueSameRow.holds Try.pinned (OpenSpec.ofChange fnQueueSameWrong)

/-- 'laws.FnQueueValid': WHATEVER THE INPUT: true; the input reads as it did. -/
def fnQueueValidSpec : ChangeSpec := { name := "fnQueueValid", fn := fun _ => fun
  | [d] => { results := [.lit (.bool true)], args := [d] }
  | _ => none }
def fnQueueValidRow : OpenClaim := { program := "ytapoahoknlaeaaa", sum := "bba4e38159b374395d5a25c8a4ec30c0cd7923cabdd807bebf6fdd9314a688b4", func := "loop.example/trafficguard/laws.FnQueueValid", spec := "fnQueueValid", apart := false }
def FnQueueValidSaid : Prop := fnQueueValidRow.holds Try.pinned (OpenSpec.ofChange fnQueueValidSpec)

/-- ITS FALSE NEIGHBOUR: 'it returns false'. Refute it at one input. -/
def fnQueueValidWrong : ChangeSpec := { name := "fnQueueValid", fn := fun _ => fun
  | [d] => { results := [.lit (.bool false)], args := [d] }
  | _ => none }
def FnQueueValidWrongFalsely : Prop := fnQueueValidRow.holds Try.pinned (OpenSpec.ofChange fnQueueValidWrong)

/-- 'laws.FnPushPop': WHATEVER THE INPUT: true; the input reads as it did. -/
def fnPushPopSpec : ChangeSpec := { name := "fnPushPop", fn := fun _ => fun
  | [d] => { results := [.lit (.bool true)], args := [d] }
  | _ => none }
def fnPushPopRow : OpenClaim := { program := "ytapoahoknlaeaaa", sum := "bba4e38159b374395d5a25c8a4ec30c0cd7923cabdd807bebf6fdd9314a688b4", func := "loop.example/trafficguard/laws.FnPushPop", spec := "fnPushPop", apart := false }
def FnPushPopSaid : Prop := fnPushPopRow.holds Try.pinned (OpenSpec.ofChange fnPushPopSpec)

/-- ITS FALSE NEIGHBOUR: 'it returns false'. Refute it at one input. -/
def fnPushPopWrong : ChangeSpec := { name := "fnPushPop", fn := fun _ => fun
  | [d] => { results := [.lit (.bool false)], args := [d] }
  | _ => none }
def FnPushPopWrongFalsely : Prop := fnPushPopRow.holds Try.pinned (OpenSpec.ofChange fnPushPopWrong)

/-- 'laws.FnPopRoom': WHATEVER THE INPUT: true; the input reads as it did. -/
def fnPopRoomSpec : ChangeSpec := { name := "fnPopRoom", fn := fun _ => fun
  | [d] => { results := [.lit (.bool true)], args := [d] }
  | _ => none }
def fnPopRoomRow : OpenClaim := { program := "ytapoahoknlaeaaa", sum := "bba4e38159b374395d5a25c8a4ec30c0cd7923cabdd807bebf6fdd9314a688b4", func := "loop.example/trafficguard/laws.FnPopRoom", spec := "fnPopRoom", apart := false }
def FnPopRoomSaid : Prop := fnPopRoomRow.holds Try.pinned (OpenSpec.ofChange fnPopRoomSpec)

/-- ITS FALSE NEIGHBOUR: 'it returns false'. Refute it at one input. -/
def fnPopRoomWrong : ChangeSpec := { name := "fnPopRoom", fn := fun _ => fun
  | [d] => { results := [.lit (.bool false)], args := [d] }
  | _ => none }
def FnPopRoomWrongFalsely : Prop := fnPopRoomRow.holds Try.pinned (OpenSpec.ofChange fnPopRoomWrong)

/-- 'laws.FnShedPush': WHATEVER THE INPUT: true; the input reads as it did. -/
def fnShedPushSpec : ChangeSpec := { name := "fnShedPush", fn := fun _ => fun
  | [d] => { results := [.lit (.bool true)], args := [d] }
  | _ => none }
def fnShedPushRow : OpenClaim := { program := "ytapoahoknlaeaaa", sum := "bba4e38159b374395d5a25c8a4ec30c0cd7923cabdd807bebf6fdd9314a688b4", func := "loop.example/trafficguard/laws.FnShedPush", spec := "fnShedPush", apart := false }
def FnShedPushSaid : Prop := fnShedPushRow.holds Try.pinned (OpenSpec.ofChange fnShedPushSpec)

/-- ITS FALSE NEIGHBOUR: 'it returns false'. Refute it at one input. -/
def fnShedPushWrong : ChangeSpec := { name := "fnShedPush", fn := fun _ => fun
  | [d] => { results := [.lit (.bool false)], args := [d] }
  | _ => none }
def FnShedPushWrongFalsely : Prop := fnShedPushRow.holds Try.pinned (OpenSpec.ofChange fnShedPushWrong)

/-- 'laws.FnShedPeers': WHATEVER THE INPUT: true; the input reads as it did. -/
def fnShedPeersSpec : ChangeSpec := { name := "fnShedPeers", fn := fun _ => fun
  | [d] => { results := [.lit (.bool true)], args := [d] }
  | _ => none }
def fnShedPeersRow : OpenClaim := { program := "ytapoahoknlaeaaa", sum := "bba4e38159b374395d5a25c8a4ec30c0cd7923cabdd807bebf6fdd9314a688b4", func := "loop.example/trafficguard/laws.FnShedPeers", spec := "fnShedPeers", apart := false }
def FnShedPeersSaid : Prop := fnShedPeersRow.holds Try.pinned (OpenSpec.ofChange fnShedPeersSpec)

/-- ITS FALSE NEIGHBOUR: 'it returns false'. Refute it at one input. -/
def fnShedPeersWrong : ChangeSpec := { name := "fnShedPeers", fn := fun _ => fun
  | [d] => { results := [.lit (.bool false)], args := [d] }
  | _ => none }
def FnShedPeersWrongFalsely : Prop := fnShedPeersRow.holds Try.pinned (OpenSpec.ofChange fnShedPeersWrong)

/- THE SECOND FORM. 'bulk': how many values and letters a reading holds, each counted each time it is reached (what is shared counts as often as it is met; a slice's spare places count too). A statement '..UptoSaid' is the law's where the arguments, and the package variables that the reading takes, are together of bulk at most 1048576: NARROWER than '..Said'. Prove '..Said' where nothing that the law and all that it calls make is longer than what came in: it says more and counts as full. Else prove '..UptoSaid'. A law counts once. -/
mutual
def uptoBulk {H : Type} : DataW H → Nat
  | .lit (.string bytes) => bytes.length + 1
  | .lit _ => 1
  | .nil => 1
  | .ptr d => uptoBulk d + 1
  | .slice elems spare => uptoBulkAll elems + uptoBulkAll spare + 1
  | .agg parts => uptoBulkAll parts + 1
  | .iface _ d => uptoBulk d + 1
  | .map entries => uptoBulkEntries entries + 1
  | .held _ => 1
def uptoBulkAll {H : Type} : List (DataW H) → Nat
  | [] => 0
  | d :: r => uptoBulk d + uptoBulkAll r
def uptoBulkEntries {H : Type} : List (Lit × DataW H) → Nat
  | [] => 0
  | x :: r => uptoBulkEntry x + uptoBulkEntries r
def uptoBulkEntry {H : Type} : Lit × DataW H → Nat
  | (.string bytes, d) => bytes.length + uptoBulk d + 1
  | (_, d) => uptoBulk d + 1
 end
def uptoSmall : (H : Type) → List (DataW H) → Bool := fun _ ds => decide (uptoBulkAll ds ≤ 1048576)
def OpenSpec.upto (s : _root_.Go.ChangeSpec) : _root_.Go.OpenSpec := { _root_.Go.OpenSpec.ofChange s with cond := some uptoSmall }

/-- 'laws.FnPushBack', WHERE WHAT IT READS IS OF BULK AT MOST 1048576: true; the input reads as it did. -/
def fnPushBackUptoRow : OpenClaim := { program := "ytapoahoknlaeaaa", sum := "bba4e38159b374395d5a25c8a4ec30c0cd7923cabdd807bebf6fdd9314a688b4", func := "loop.example/trafficguard/laws.FnPushBack", spec := "fnPushBack", apart := false, narrowed := true }
def FnPushBackUptoSaid : Prop := fnPushBackUptoRow.holds Try.pinned (OpenSpec.upto fnPushBackSpec)

/-- 'laws.FnPopFront', WHERE WHAT IT READS IS OF BULK AT MOST 1048576: true; the input reads as it did. -/
def fnPopFrontUptoRow : OpenClaim := { program := "ytapoahoknlaeaaa", sum := "bba4e38159b374395d5a25c8a4ec30c0cd7923cabdd807bebf6fdd9314a688b4", func := "loop.example/trafficguard/laws.FnPopFront", spec := "fnPopFront", apart := false, narrowed := true }
def FnPopFrontUptoSaid : Prop := fnPopFrontUptoRow.holds Try.pinned (OpenSpec.upto fnPopFrontSpec)

/-- 'laws.FnRoomOf', WHERE WHAT IT READS IS OF BULK AT MOST 1048576: true; the input reads as it did. -/
def fnRoomOfUptoRow : OpenClaim := { program := "ytapoahoknlaeaaa", sum := "bba4e38159b374395d5a25c8a4ec30c0cd7923cabdd807bebf6fdd9314a688b4", func := "loop.example/trafficguard/laws.FnRoomOf", spec := "fnRoomOf", apart := false, narrowed := true }
def FnRoomOfUptoSaid : Prop := fnRoomOfUptoRow.holds Try.pinned (OpenSpec.upto fnRoomOfSpec)

/-- 'laws.FnShedFor', WHERE WHAT IT READS IS OF BULK AT MOST 1048576: true; the input reads as it did. -/
def fnShedForUptoRow : OpenClaim := { program := "ytapoahoknlaeaaa", sum := "bba4e38159b374395d5a25c8a4ec30c0cd7923cabdd807bebf6fdd9314a688b4", func := "loop.example/trafficguard/laws.FnShedFor", spec := "fnShedFor", apart := false, narrowed := true }
def FnShedForUptoSaid : Prop := fnShedForUptoRow.holds Try.pinned (OpenSpec.upto fnShedForSpec)

/-- 'laws.FnHeaviestPeer', WHERE WHAT IT READS IS OF BULK AT MOST 1048576: true; the input reads as it did. -/
def fnHeaviestPeerUptoRow : OpenClaim := { program := "ytapoahoknlaeaaa", sum := "bba4e38159b374395d5a25c8a4ec30c0cd7923cabdd807bebf6fdd9314a688b4", func := "loop.example/trafficguard/laws.FnHeaviestPeer", spec := "fnHeaviestPeer", apart := false, narrowed := true }
def FnHeaviestPeerUptoSaid : Prop := fnHeaviestPeerUptoRow.holds Try.pinned (OpenSpec.upto fnHeaviestPeerSpec)

/-- 'laws.FnDropPeer', WHERE WHAT IT READS IS OF BULK AT MOST 1048576: true; the input reads as it did. -/
def fnDropPeerUptoRow : OpenClaim := { program := "ytapoahoknlaeaaa", sum := "bba4e38159b374395d5a25c8a4ec30c0cd7923cabdd807bebf6fdd9314a688b4", func := "loop.example/trafficguard/laws.FnDropPeer", spec := "fnDropPeer", apart := false, narrowed := true }
def FnDropPeerUptoSaid : Prop := fnDropPeerUptoRow.holds Try.pinned (OpenSpec.upto fnDropPeerSpec)

/-- 'laws.FnQueueSame', WHERE WHAT IT READS IS OF BULK AT MOST 1048576: true; the input reads as it did. -/
def fnQueueSameUptoRow : OpenClaim := { program := "ytapoahoknlaeaaa", sum := "bba4e38159b374395d5a25c8a4ec30c0cd7923cabdd807bebf6fdd9314a688b4", func := "loop.example/trafficguard/laws.FnQueueSame", spec := "fnQueueSame", apart := false, narrowed := true }
def FnQueueSameUptoSaid : Prop := fnQueueSameUptoRow.holds Try.pinned (OpenSpec.upto fnQueueSameSpec)

/-- 'laws.FnQueueValid', WHERE WHAT IT READS IS OF BULK AT MOST 1048576: true; the input reads as it did. -/
def fnQueueValidUptoRow : OpenClaim := { program := "ytapoahoknlaeaaa", sum := "bba4e38159b374395d5a25c8a4ec30c0cd7923cabdd807bebf6fdd9314a688b4", func := "loop.example/trafficguard/laws.FnQueueValid", spec := "fnQueueValid", apart := false, narrowed := true }
def FnQueueValidUptoSaid : Prop := fnQueueValidUptoRow.holds Try.pinned (OpenSpec.upto fnQueueValidSpec)

/-- 'laws.FnPushPop', WHERE WHAT IT READS IS OF BULK AT MOST 1048576: true; the input reads as it did. -/
def fnPushPopUptoRow : OpenClaim := { program := "ytapoahoknlaeaaa", sum := "bba4e38159b374395d5a25c8a4ec30c0cd7923cabdd807bebf6fdd9314a688b4", func := "loop.example/trafficguard/laws.FnPushPop", spec := "fnPushPop", apart := false, narrowed := true }
def FnPushPopUptoSaid : Prop := fnPushPopUptoRow.holds Try.pinned (OpenSpec.upto fnPushPopSpec)

/-- 'laws.FnPopRoom', WHERE WHAT IT READS IS OF BULK AT MOST 1048576: true; the input reads as it did. -/
def fnPopRoomUptoRow : OpenClaim := { program := "ytapoahoknlaeaaa", sum := "bba4e38159b374395d5a25c8a4ec30c0cd7923cabdd807bebf6fdd9314a688b4", func := "loop.example/trafficguard/laws.FnPopRoom", spec := "fnPopRoom", apart := false, narrowed := true }
def FnPopRoomUptoSaid : Prop := fnPopRoomUptoRow.holds Try.pinned (OpenSpec.upto fnPopRoomSpec)

/-- 'laws.FnShedPush', WHERE WHAT IT READS IS OF BULK AT MOST 1048576: true; the input reads as it did. -/
def fnShedPushUptoRow : OpenClaim := { program := "ytapoahoknlaeaaa", sum := "bba4e38159b374395d5a25c8a4ec30c0cd7923cabdd807bebf6fdd9314a688b4", func := "loop.example/trafficguard/laws.FnShedPush", spec := "fnShedPush", apart := false, narrowed := true }
def FnShedPushUptoSaid : Prop := fnShedPushUptoRow.holds Try.pinned (OpenSpec.upto fnShedPushSpec)

/-- 'laws.FnShedPeers', WHERE WHAT IT READS IS OF BULK AT MOST 1048576: true; the input reads as it did. -/
def fnShedPeersUptoRow : OpenClaim := { program := "ytapoahoknlaeaaa", sum := "bba4e38159b374395d5a25c8a4ec30c0cd7923cabdd807bebf6fdd9314a688b4", func := "loop.example/trafficguard/laws.FnShedPeers", spec := "fnShedPeers", apart := false, narrowed := true }
def FnShedPeersUptoSaid : Prop := fnShedPeersUptoRow.holds Try.pinned (OpenSpec.upto fnShedPeersSpec)

end Rows
end Go.Proofs.Ytapoahoknlaeaaa
