/-
  No cell of these rows narrows 'for every input' (looked for: loops, veiled, ifaces, maps, wideKeys, modest, calm, conditions, laid).
  DERIVED. THE GIVEN ROWS OF THIS SEAT. 12 by the template 'for every input the law returns true; each argument reads behind the call as it read before'; 0 by the template 'total and deterministic' (their statements: YtkmoiphcpmhacabTotals.lean).
  GIVEN WITH THE SEED: the statements are not yours to turn. If you find one false, say at which input.
  Laid BY PROGRAM, IN A SANDBOX (cutbox-rows.mjs): the forced cells as the released guide's own fill.sh prints them over the translation 87f8583f411ace4f… (all of the seat's roots in one cut). By AI agents, Wed Nov 11 2026. No macro, syntax, notation, axiom, sorry.
-/
import Derived.Test.YtkmoiphcpmhacabChecked
import GoSem.Claim
import GoSem.ClaimJoined
import GoSem.ClaimMapViews
import Derived.JoinedTies
import Derived.KernelRfl
namespace Go.Proofs.Ytkmoiphcpmhacab
/- THE CELL 'sum', in the pinned program and in every row, IS THE sha256 OF THE DUMP (.gsa) THAT YtkmoiphcpmhacabProg.lean LOADS. Nothing in Lean hashes anything: it is a label: what it is worth is what the hold of that sum in a sandbox is worth. -/
noncomputable def Try.pinned : Pinned := { name := "ytkmoiphcpmhacab", sum := "87f8583f411ace4f9c4cad71bc78303f7b1d8aeb1acc5be9fcedaff8fd391d7a", checked := Try.checked }
namespace Rows
def none {H : Type} : Left H := { results := [], args := [] }

/-- 'laws.FnLanesSame': WHATEVER THE INPUT: true; the input reads as it did. -/
def fnLanesSameSpec : ChangeSpec := { name := "fnLanesSame", fn := fun _ => fun
  | [d] => { results := [.lit (.bool true)], args := [d] }
  | _ => none }
def fnLanesSameRow : OpenClaim := { program := "ytkmoiphcpmhacab", sum := "87f8583f411ace4f9c4cad71bc78303f7b1d8aeb1acc5be9fcedaff8fd391d7a", func := "loop.example/trafficguard/laws.FnLanesSame", spec := "fnLanesSame", unfollowed := true, recurses := true, apart := false }
def FnLanesSameSaid : Prop := fnLanesSameRow.holds Try.pinned (OpenSpec.ofChange fnLanesSameSpec)

/-- ITS FALSE NEIGHBOUR: 'it returns false'. Refute it at one input. -/
def fnLanesSameWrong : ChangeSpec := { name := "fnLanesSame", fn := fun _ => fun
  | [d] => { results := [.lit (.bool false)], args := [d] }
  | _ => none }
def FnLanesSameWrongFalsely : Prop := fnLanesSameRow.holds Try.pinned (OpenSpec.ofChange fnLanesSameWrong)

/-- 'laws.FnLanesValid': WHATEVER THE INPUT: true; the input reads as it did. -/
def fnLanesValidSpec : ChangeSpec := { name := "fnLanesValid", fn := fun _ => fun
  | [d] => { results := [.lit (.bool true)], args := [d] }
  | _ => none }
def fnLanesValidRow : OpenClaim := { program := "ytkmoiphcpmhacab", sum := "87f8583f411ace4f9c4cad71bc78303f7b1d8aeb1acc5be9fcedaff8fd391d7a", func := "loop.example/trafficguard/laws.FnLanesValid", spec := "fnLanesValid", apart := false }
def FnLanesValidSaid : Prop := fnLanesValidRow.holds Try.pinned (OpenSpec.ofChange fnLanesValidSpec)

/-- ITS FALSE NEIGHBOUR: 'it returns false'. Refute it at one input. -/
def fnLanesValidWrong : ChangeSpec := { name := "fnLanesValid", fn := fun _ => fun
  | [d] => { results := [.lit (.bool false)], args := [d] }
  | _ => none }
def FnLanesValidWrongFalsely : Prop := fnLanesValidRow.holds Try.pinned (OpenSpec.ofChange fnLanesValidWrong)

/-- 'laws.FnLaneFirst': WHATEVER THE INPUT: true; the input reads as it did. -/
def fnLaneFirstSpec : ChangeSpec := { name := "fnLaneFirst", fn := fun _ => fun
  | [d] => { results := [.lit (.bool true)], args := [d] }
  | _ => none }
def fnLaneFirstRow : OpenClaim := { program := "ytkmoiphcpmhacab", sum := "87f8583f411ace4f9c4cad71bc78303f7b1d8aeb1acc5be9fcedaff8fd391d7a", func := "loop.example/trafficguard/laws.FnLaneFirst", spec := "fnLaneFirst", apart := false }
def FnLaneFirstSaid : Prop := fnLaneFirstRow.holds Try.pinned (OpenSpec.ofChange fnLaneFirstSpec)

/-- ITS FALSE NEIGHBOUR: 'it returns false'. Refute it at one input. -/
def fnLaneFirstWrong : ChangeSpec := { name := "fnLaneFirst", fn := fun _ => fun
  | [d] => { results := [.lit (.bool false)], args := [d] }
  | _ => none }
def FnLaneFirstWrongFalsely : Prop := fnLaneFirstRow.holds Try.pinned (OpenSpec.ofChange fnLaneFirstWrong)

/-- 'laws.FnJoinLanes': WHATEVER THE INPUT: true; the input reads as it did. -/
def fnJoinLanesSpec : ChangeSpec := { name := "fnJoinLanes", fn := fun _ => fun
  | [d] => { results := [.lit (.bool true)], args := [d] }
  | _ => none }
def fnJoinLanesRow : OpenClaim := { program := "ytkmoiphcpmhacab", sum := "87f8583f411ace4f9c4cad71bc78303f7b1d8aeb1acc5be9fcedaff8fd391d7a", func := "loop.example/trafficguard/laws.FnJoinLanes", spec := "fnJoinLanes", unfollowed := true, recurses := true, apart := false }
def FnJoinLanesSaid : Prop := fnJoinLanesRow.holds Try.pinned (OpenSpec.ofChange fnJoinLanesSpec)

/-- ITS FALSE NEIGHBOUR: 'it returns false'. Refute it at one input. -/
def fnJoinLanesWrong : ChangeSpec := { name := "fnJoinLanes", fn := fun _ => fun
  | [d] => { results := [.lit (.bool false)], args := [d] }
  | _ => none }
def FnJoinLanesWrongFalsely : Prop := fnJoinLanesRow.holds Try.pinned (OpenSpec.ofChange fnJoinLanesWrong)

/-- 'laws.FnNewLanes': WHATEVER THE INPUT: true; the input reads as it did. -/
def fnNewLanesSpec : ChangeSpec := { name := "fnNewLanes", fn := fun _ => fun
  | [d] => { results := [.lit (.bool true)], args := [d] }
  | _ => none }
def fnNewLanesRow : OpenClaim := { program := "ytkmoiphcpmhacab", sum := "87f8583f411ace4f9c4cad71bc78303f7b1d8aeb1acc5be9fcedaff8fd391d7a", func := "loop.example/trafficguard/laws.FnNewLanes", spec := "fnNewLanes", unfollowed := true, recurses := true, apart := false }
def FnNewLanesSaid : Prop := fnNewLanesRow.holds Try.pinned (OpenSpec.ofChange fnNewLanesSpec)

/-- ITS FALSE NEIGHBOUR: 'it returns false'. Refute it at one input. -/
def fnNewLanesWrong : ChangeSpec := { name := "fnNewLanes", fn := fun _ => fun
  | [d] => { results := [.lit (.bool false)], args := [d] }
  | _ => none }
def FnNewLanesWrongFalsely : Prop := fnNewLanesRow.holds Try.pinned (OpenSpec.ofChange fnNewLanesWrong)

/-- 'laws.FnCountLanes': WHATEVER THE INPUT: true; the input reads as it did. -/
def fnCountLanesSpec : ChangeSpec := { name := "fnCountLanes", fn := fun _ => fun
  | [d] => { results := [.lit (.bool true)], args := [d] }
  | _ => none }
def fnCountLanesRow : OpenClaim := { program := "ytkmoiphcpmhacab", sum := "87f8583f411ace4f9c4cad71bc78303f7b1d8aeb1acc5be9fcedaff8fd391d7a", func := "loop.example/trafficguard/laws.FnCountLanes", spec := "fnCountLanes", apart := false }
def FnCountLanesSaid : Prop := fnCountLanesRow.holds Try.pinned (OpenSpec.ofChange fnCountLanesSpec)

/-- ITS FALSE NEIGHBOUR: 'it returns false'. Refute it at one input. -/
def fnCountLanesWrong : ChangeSpec := { name := "fnCountLanes", fn := fun _ => fun
  | [d] => { results := [.lit (.bool false)], args := [d] }
  | _ => none }
def FnCountLanesWrongFalsely : Prop := fnCountLanesRow.holds Try.pinned (OpenSpec.ofChange fnCountLanesWrong)

/-- 'laws.FnExactSettingsValid': WHATEVER THE INPUT: true; the input reads as it did. -/
def fnExactSettingsValidSpec : ChangeSpec := { name := "fnExactSettingsValid", fn := fun _ => fun
  | [d] => { results := [.lit (.bool true)], args := [d] }
  | _ => none }
def fnExactSettingsValidRow : OpenClaim := { program := "ytkmoiphcpmhacab", sum := "87f8583f411ace4f9c4cad71bc78303f7b1d8aeb1acc5be9fcedaff8fd391d7a", func := "loop.example/trafficguard/laws.FnExactSettingsValid", spec := "fnExactSettingsValid", apart := false }
def FnExactSettingsValidSaid : Prop := fnExactSettingsValidRow.holds Try.pinned (OpenSpec.ofChange fnExactSettingsValidSpec)

/-- ITS FALSE NEIGHBOUR: 'it returns false'. Refute it at one input. -/
def fnExactSettingsValidWrong : ChangeSpec := { name := "fnExactSettingsValid", fn := fun _ => fun
  | [d] => { results := [.lit (.bool false)], args := [d] }
  | _ => none }
def FnExactSettingsValidWrongFalsely : Prop := fnExactSettingsValidRow.holds Try.pinned (OpenSpec.ofChange fnExactSettingsValidWrong)

/-- 'laws.FnExactNewGuard': WHATEVER THE INPUT: true; the input reads as it did. -/
def fnExactNewGuardSpec : ChangeSpec := { name := "fnExactNewGuard", fn := fun _ => fun
  | [d1, d2] => { results := [.lit (.bool true)], args := [d1, d2] }
  | _ => none }
def fnExactNewGuardRow : OpenClaim := { program := "ytkmoiphcpmhacab", sum := "87f8583f411ace4f9c4cad71bc78303f7b1d8aeb1acc5be9fcedaff8fd391d7a", func := "loop.example/trafficguard/laws.FnExactNewGuard", spec := "fnExactNewGuard", apart := false }
def FnExactNewGuardSaid : Prop := fnExactNewGuardRow.holds Try.pinned (OpenSpec.ofChange fnExactNewGuardSpec)

/-- ITS FALSE NEIGHBOUR: 'it returns false'. Refute it at one input. -/
def fnExactNewGuardWrong : ChangeSpec := { name := "fnExactNewGuard", fn := fun _ => fun
  | [d1, d2] => { results := [.lit (.bool false)], args := [d1, d2] }
  | _ => none }
def FnExactNewGuardWrongFalsely : Prop := fnExactNewGuardRow.holds Try.pinned (OpenSpec.ofChange fnExactNewGuardWrong)

/-- 'laws.FnExactGuardValid': WHATEVER THE INPUT: true; the input reads as it did. -/
def fnExactGuardValidSpec : ChangeSpec := { name := "fnExactGuardValid", fn := fun _ => fun
  | [d] => { results := [.lit (.bool true)], args := [d] }
  | _ => none }
def fnExactGuardValidRow : OpenClaim := { program := "ytkmoiphcpmhacab", sum := "87f8583f411ace4f9c4cad71bc78303f7b1d8aeb1acc5be9fcedaff8fd391d7a", func := "loop.example/trafficguard/laws.FnExactGuardValid", spec := "fnExactGuardValid", apart := false }
def FnExactGuardValidSaid : Prop := fnExactGuardValidRow.holds Try.pinned (OpenSpec.ofChange fnExactGuardValidSpec)

/-- ITS FALSE NEIGHBOUR: 'it returns false'. Refute it at one input. -/
def fnExactGuardValidWrong : ChangeSpec := { name := "fnExactGuardValid", fn := fun _ => fun
  | [d] => { results := [.lit (.bool false)], args := [d] }
  | _ => none }
def FnExactGuardValidWrongFalsely : Prop := fnExactGuardValidRow.holds Try.pinned (OpenSpec.ofChange fnExactGuardValidWrong)

/-- 'laws.FnExactGuardSame': WHATEVER THE INPUT: true; the input reads as it did. -/
def fnExactGuardSameSpec : ChangeSpec := { name := "fnExactGuardSame", fn := fun _ => fun
  | [d1, d2] => { results := [.lit (.bool true)], args := [d1, d2] }
  | _ => none }
def fnExactGuardSameRow : OpenClaim := { program := "ytkmoiphcpmhacab", sum := "87f8583f411ace4f9c4cad71bc78303f7b1d8aeb1acc5be9fcedaff8fd391d7a", func := "loop.example/trafficguard/laws.FnExactGuardSame", spec := "fnExactGuardSame", unfollowed := true, recurses := true, apart := false }
def FnExactGuardSameSaid : Prop := fnExactGuardSameRow.holds Try.pinned (OpenSpec.ofChange fnExactGuardSameSpec)

/-- ITS FALSE NEIGHBOUR: 'it returns false'. Refute it at one input. -/
def fnExactGuardSameWrong : ChangeSpec := { name := "fnExactGuardSame", fn := fun _ => fun
  | [d1, d2] => { results := [.lit (.bool false)], args := [d1, d2] }
  | _ => none }
def FnExactGuardSameWrongFalsely : Prop := fnExactGuardSameRow.holds Try.pinned (OpenSpec.ofChange fnExactGuardSameWrong)

/-- 'laws.FnExactBytesOf': WHATEVER THE INPUT: true; the input reads as it did. -/
def fnExactBytesOfSpec : ChangeSpec := { name := "fnExactBytesOf", fn := fun _ => fun
  | [d] => { results := [.lit (.bool true)], args := [d] }
  | _ => none }
def fnExactBytesOfRow : OpenClaim := { program := "ytkmoiphcpmhacab", sum := "87f8583f411ace4f9c4cad71bc78303f7b1d8aeb1acc5be9fcedaff8fd391d7a", func := "loop.example/trafficguard/laws.FnExactBytesOf", spec := "fnExactBytesOf", apart := false }
def FnExactBytesOfSaid : Prop := fnExactBytesOfRow.holds Try.pinned (OpenSpec.ofChange fnExactBytesOfSpec)

/-- ITS FALSE NEIGHBOUR: 'it returns false'. Refute it at one input. -/
def fnExactBytesOfWrong : ChangeSpec := { name := "fnExactBytesOf", fn := fun _ => fun
  | [d] => { results := [.lit (.bool false)], args := [d] }
  | _ => none }
def FnExactBytesOfWrongFalsely : Prop := fnExactBytesOfRow.holds Try.pinned (OpenSpec.ofChange fnExactBytesOfWrong)

/-- 'laws.FnSettingsGuard': WHATEVER THE INPUT: true; the input reads as it did. -/
def fnSettingsGuardSpec : ChangeSpec := { name := "fnSettingsGuard", fn := fun _ => fun
  | [d] => { results := [.lit (.bool true)], args := [d] }
  | _ => none }
def fnSettingsGuardRow : OpenClaim := { program := "ytkmoiphcpmhacab", sum := "87f8583f411ace4f9c4cad71bc78303f7b1d8aeb1acc5be9fcedaff8fd391d7a", func := "loop.example/trafficguard/laws.FnSettingsGuard", spec := "fnSettingsGuard", apart := false }
def FnSettingsGuardSaid : Prop := fnSettingsGuardRow.holds Try.pinned (OpenSpec.ofChange fnSettingsGuardSpec)

/-- ITS FALSE NEIGHBOUR: 'it returns false'. Refute it at one input. -/
def fnSettingsGuardWrong : ChangeSpec := { name := "fnSettingsGuard", fn := fun _ => fun
  | [d] => { results := [.lit (.bool false)], args := [d] }
  | _ => none }
def FnSettingsGuardWrongFalsely : Prop := fnSettingsGuardRow.holds Try.pinned (OpenSpec.ofChange fnSettingsGuardWrong)

/- THE SECOND FORM. 'bulk': how many values and letters a reading holds, each counted each time it is reached (what is shared counts as often as it is met; a slice's spare places count too). A statement '..UptoSaid' is the law's where the arguments, and the package variables that the reading takes, are together of bulk at most 1048576: NARROWER than '..Said'. Prove '..Said' where nothing that the law and all that it calls make is longer than what came in: it says more and counts as full. Else prove '..UptoSaid'. A law counts once. -/
mutual
def uptoBulk {H : Type} : DataW H → Nat
  | .lit (.string bytes) => bytes.length + 1
  | .lit _ => 1
  | .nil => 1
  | .ptr d => uptoBulk d + 1
  | .slice elems spare => uptoBulkAll elems + uptoBulkAll spare + 1
  | .agg parts => uptoBulkAll parts + 1
  | .iface _ d => uptoBulk d + 1
  | .map entries => uptoBulkEntries entries + 1
  | .held _ => 1
def uptoBulkAll {H : Type} : List (DataW H) → Nat
  | [] => 0
  | d :: r => uptoBulk d + uptoBulkAll r
def uptoBulkEntries {H : Type} : List (Lit × DataW H) → Nat
  | [] => 0
  | x :: r => uptoBulkEntry x + uptoBulkEntries r
def uptoBulkEntry {H : Type} : Lit × DataW H → Nat
  | (.string bytes, d) => bytes.length + uptoBulk d + 1
  | (_, d) => uptoBulk d + 1
 end
def uptoSmall : (H : Type) → List (DataW H) → Bool := fun _ ds => decide (uptoBulkAll ds ≤ 1048576)
def OpenSpec.upto (s : _root_.Go.ChangeSpec) : _root_.Go.OpenSpec := { _root_.Go.OpenSpec.ofChange s with cond := some uptoSmall }

/-- 'laws.FnLanesSame', WHERE WHAT IT READS IS OF BULK AT MOST 1048576: true; the input reads as it did. -/
def fnLanesSameUptoRow : OpenClaim := { program := "ytkmoiphcpmhacab", sum := "87f8583f411ace4f9c4cad71bc78303f7b1d8aeb1acc5be9fcedaff8fd391d7a", func := "loop.example/trafficguard/laws.FnLanesSame", spec := "fnLanesSame", unfollowed := true, recurses := true, apart := false, narrowed := true }
def FnLanesSameUptoSaid : Prop := fnLanesSameUptoRow.holds Try.pinned (OpenSpec.upto fnLanesSameSpec)

/-- 'laws.FnLanesValid', WHERE WHAT IT READS IS OF BULK AT MOST 1048576: true; the input reads as it did. -/
def fnLanesValidUptoRow : OpenClaim := { program := "ytkmoiphcpmhacab", sum := "87f8583f411ace4f9c4cad71bc78303f7b1d8aeb1acc5be9fcedaff8fd391d7a", func := "loop.example/trafficguard/laws.FnLanesValid", spec := "fnLanesValid", apart := false, narrowed := true }
def FnLanesValidUptoSaid : Prop := fnLanesValidUptoRow.holds Try.pinned (OpenSpec.upto fnLanesValidSpec)

/-- 'laws.FnLaneFirst', WHERE WHAT IT READS IS OF BULK AT MOST 1048576: true; the input reads as it did. -/
def fnLaneFirstUptoRow : OpenClaim := { program := "ytkmoiphcpmhacab", sum := "87f8583f411ace4f9c4cad71bc78303f7b1d8aeb1acc5be9fcedaff8fd391d7a", func := "loop.example/trafficguard/laws.FnLaneFirst", spec := "fnLaneFirst", apart := false, narrowed := true }
def FnLaneFirstUptoSaid : Prop := fnLaneFirstUptoRow.holds Try.pinned (OpenSpec.upto fnLaneFirstSpec)

/-- 'laws.FnJoinLanes', WHERE WHAT IT READS IS OF BULK AT MOST 1048576: true; the input reads as it did. -/
def fnJoinLanesUptoRow : OpenClaim := { program := "ytkmoiphcpmhacab", sum := "87f8583f411ace4f9c4cad71bc78303f7b1d8aeb1acc5be9fcedaff8fd391d7a", func := "loop.example/trafficguard/laws.FnJoinLanes", spec := "fnJoinLanes", unfollowed := true, recurses := true, apart := false, narrowed := true }
def FnJoinLanesUptoSaid : Prop := fnJoinLanesUptoRow.holds Try.pinned (OpenSpec.upto fnJoinLanesSpec)

/-- 'laws.FnNewLanes', WHERE WHAT IT READS IS OF BULK AT MOST 1048576: true; the input reads as it did. -/
def fnNewLanesUptoRow : OpenClaim := { program := "ytkmoiphcpmhacab", sum := "87f8583f411ace4f9c4cad71bc78303f7b1d8aeb1acc5be9fcedaff8fd391d7a", func := "loop.example/trafficguard/laws.FnNewLanes", spec := "fnNewLanes", unfollowed := true, recurses := true, apart := false, narrowed := true }
def FnNewLanesUptoSaid : Prop := fnNewLanesUptoRow.holds Try.pinned (OpenSpec.upto fnNewLanesSpec)

/-- 'laws.FnCountLanes', WHERE WHAT IT READS IS OF BULK AT MOST 1048576: true; the input reads as it did. -/
def fnCountLanesUptoRow : OpenClaim := { program := "ytkmoiphcpmhacab", sum := "87f8583f411ace4f9c4cad71bc78303f7b1d8aeb1acc5be9fcedaff8fd391d7a", func := "loop.example/trafficguard/laws.FnCountLanes", spec := "fnCountLanes", apart := false, narrowed := true }
def FnCountLanesUptoSaid : Prop := fnCountLanesUptoRow.holds Try.pinned (OpenSpec.upto fnCountLanesSpec)

/-- 'laws.FnExactSettingsValid', WHERE WHAT IT READS IS OF BULK AT MOST 1048576: true; the input reads as it did. -/
def fnExactSettingsValidUptoRow : OpenClaim := { program := "ytkmoiphcpmhacab", sum := "87f8583f411ace4f9c4cad71bc78303f7b1d8aeb1acc5be9fcedaff8fd391d7a", func := "loop.example/trafficguard/laws.FnExactSettingsValid", spec := "fnExactSettingsValid", apart := false, narrowed := true }
def FnExactSettingsValidUptoSaid : Prop := fnExactSettingsValidUptoRow.holds Try.pinned (OpenSpec.upto fnExactSettingsValidSpec)

/-- 'laws.FnExactNewGuard', WHERE WHAT IT READS IS OF BULK AT MOST 1048576: true; the input reads as it did. -/
def fnExactNewGuardUptoRow : OpenClaim := { program := "ytkmoiphcpmhacab", sum := "87f8583f411ace4f9c4cad71bc78303f7b1d8aeb1acc5be9fcedaff8fd391d7a", func := "loop.example/trafficguard/laws.FnExactNewGuard", spec := "fnExactNewGuard", apart := false, narrowed := true }
def FnExactNewGuardUptoSaid : Prop := fnExactNewGuardUptoRow.holds Try.pinned (OpenSpec.upto fnExactNewGuardSpec)

/-- 'laws.FnExactGuardValid', WHERE WHAT IT READS IS OF BULK AT MOST 1048576: true; the input reads as it did. -/
def fnExactGuardValidUptoRow : OpenClaim := { program := "ytkmoiphcpmhacab", sum := "87f8583f411ace4f9c4cad71bc78303f7b1d8aeb1acc5be9fcedaff8fd391d7a", func := "loop.example/trafficguard/laws.FnExactGuardValid", spec := "fnExactGuardValid", apart := false, narrowed := true }
def FnExactGuardValidUptoSaid : Prop := fnExactGuardValidUptoRow.holds Try.pinned (OpenSpec.upto fnExactGuardValidSpec)

/-- 'laws.FnExactGuardSame', WHERE WHAT IT READS IS OF BULK AT MOST 1048576: true; the input reads as it did. -/
def fnExactGuardSameUptoRow : OpenClaim := { program := "ytkmoiphcpmhacab", sum := "87f8583f411ace4f9c4cad71bc78303f7b1d8aeb1acc5be9fcedaff8fd391d7a", func := "loop.example/trafficguard/laws.FnExactGuardSame", spec := "fnExactGuardSame", unfollowed := true, recurses := true, apart := false, narrowed := true }
def FnExactGuardSameUptoSaid : Prop := fnExactGuardSameUptoRow.holds Try.pinned (OpenSpec.upto fnExactGuardSameSpec)

/-- 'laws.FnExactBytesOf', WHERE WHAT IT READS IS OF BULK AT MOST 1048576: true; the input reads as it did. -/
def fnExactBytesOfUptoRow : OpenClaim := { program := "ytkmoiphcpmhacab", sum := "87f8583f411ace4f9c4cad71bc78303f7b1d8aeb1acc5be9fcedaff8fd391d7a", func := "loop.example/trafficguard/laws.FnExactBytesOf", spec := "fnExactBytesOf", apart := false, narrowed := true }
def FnExactBytesOfUptoSaid : Prop := fnExactBytesOfUptoRow.holds Try.pinned (OpenSpec.upto fnExactBytesOfSpec)

/-- 'laws.FnSettingsGuard', WHERE WHAT IT READS IS OF BULK AT MOST 1048576: true; the input reads as it did. -/
def fnSettingsGuardUptoRow : OpenClaim := { program := "ytkmoiphcpmhacab", sum := "87f8583f411ace4f9c4cad71bc78303f7b1d8aeb1acc5be9fcedaff8fd391d7a", func := "loop.example/trafficguard/laws.FnSettingsGuard", spec := "fnSettingsGuard", apart := false, narrowed := true }
def FnSettingsGuardUptoSaid : Prop := fnSettingsGuardUptoRow.holds Try.pinned (OpenSpec.upto fnSettingsGuardSpec)

end Rows
end Go.Proofs.Ytkmoiphcpmhacab
