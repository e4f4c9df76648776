/-
  No cell of these rows narrows 'for every input' (looked for: loops, veiled, ifaces, maps, wideKeys, modest, calm, conditions, laid).
  DERIVED. THE GIVEN ROWS OF THIS SEAT. 12 by the template 'for every input the law returns true; each argument reads behind the call as it read before'; 0 by the template 'total and deterministic' (their statements: YtffgblphimjipacTotals.lean).
  GIVEN WITH THE SEED: the statements are not yours to turn. If you find one false, say at which input.
  Laid BY PROGRAM, IN A SANDBOX (cutbox-rows.mjs): the forced cells as the released guide's own fill.sh prints them over the translation 64e76df9dfffb5bd… (all of the seat's roots in one cut). By AI agents, Wed Nov 11 2026. No macro, syntax, notation, axiom, sorry.
-/
import Derived.Test.YtffgblphimjipacChecked
import GoSem.Claim
import GoSem.ClaimJoined
import GoSem.ClaimMapViews
import Derived.JoinedTies
import Derived.KernelRfl
namespace Go.Proofs.Ytffgblphimjipac
/- THE CELL 'sum', in the pinned program and in every row, IS THE sha256 OF THE DUMP (.gsa) THAT YtffgblphimjipacProg.lean LOADS. Nothing in Lean hashes anything: it is a label: what it is worth is what the hold of that sum in a sandbox is worth. -/
noncomputable def Try.pinned : Pinned := { name := "ytffgblphimjipac", sum := "64e76df9dfffb5bd294bb5056c24997fb542e2d9042a56bde74fde74b612e24a", checked := Try.checked }
namespace Rows
def none {H : Type} : Left H := { results := [], args := [] }

/-- 'laws.FnCountLanes': WHATEVER THE INPUT: true; the input reads as it did. -/
def fnCountLanesSpec : ChangeSpec := { name := "fnCountLanes", fn := fun _ => fun
  | [d] => { results := [.lit (.bool true)], args := [d] }
  | _ => none }
def fnCountLanesRow : OpenClaim := { program := "ytffgblphimjipac", sum := "64e76df9dfffb5bd294bb5056c24997fb542e2d9042a56bde74fde74b612e24a", func := "loop.example/trafficguard/laws.FnCountLanes", spec := "fnCountLanes", apart := false }
def FnCountLanesSaid : Prop := fnCountLanesRow.holds Try.pinned (OpenSpec.ofChange fnCountLanesSpec)

/-- ITS FALSE NEIGHBOUR: 'it returns false'. Refute it at one input. -/
def fnCountLanesWrong : ChangeSpec := { name := "fnCountLanes", fn := fun _ => fun
  | [d] => { results := [.lit (.bool false)], args := [d] }
  | _ => none }
def FnCountLanesWrongFalsely : Prop := fnCountLanesRow.holds Try.pinned (OpenSpec.ofChange fnCountLanesWrong)

/-- 'laws.FnLanesSame': WHATEVER THE INPUT: true; the input reads as it did. -/
def fnLanesSameSpec : ChangeSpec := { name := "fnLanesSame", fn := fun _ => fun
  | [d] => { results := [.lit (.bool true)], args := [d] }
  | _ => none }
def fnLanesSameRow : OpenClaim := { program := "ytffgblphimjipac", sum := "64e76df9dfffb5bd294bb5056c24997fb542e2d9042a56bde74fde74b612e24a", func := "loop.example/trafficguard/laws.FnLanesSame", spec := "fnLanesSame", unfollowed := true, recurses := true, apart := false }
def FnLanesSameSaid : Prop := fnLanesSameRow.holds Try.pinned (OpenSpec.ofChange fnLanesSameSpec)

/-- ITS FALSE NEIGHBOUR: 'it returns false'. Refute it at one input. -/
def fnLanesSameWrong : ChangeSpec := { name := "fnLanesSame", fn := fun _ => fun
  | [d] => { results := [.lit (.bool false)], args := [d] }
  | _ => none }
def FnLanesSameWrongFalsely : Prop := fnLanesSameRow.holds Try.pinned (OpenSpec.ofChange fnLanesSameWrong)

/-- 'laws.FnLanesValid': WHATEVER THE INPUT: true; the input reads as it did. -/
def fnLanesValidSpec : ChangeSpec := { name := "fnLanesValid", fn := fun _ => fun
  | [d] => { results := [.lit (.bool true)], args := [d] }
  | _ => none }
def fnLanesValidRow : OpenClaim := { program := "ytffgblphimjipac", sum := "64e76df9dfffb5bd294bb5056c24997fb542e2d9042a56bde74fde74b612e24a", func := "loop.example/trafficguard/laws.FnLanesValid", spec := "fnLanesValid", apart := false }
def FnLanesValidSaid : Prop := fnLanesValidRow.holds Try.pinned (OpenSpec.ofChange fnLanesValidSpec)

/-- ITS FALSE NEIGHBOUR: 'it returns false'. Refute it at one input. -/
def fnLanesValidWrong : ChangeSpec := { name := "fnLanesValid", fn := fun _ => fun
  | [d] => { results := [.lit (.bool false)], args := [d] }
  | _ => none }
def FnLanesValidWrongFalsely : Prop := fnLanesValidRow.holds Try.pinned (OpenSpec.ofChange fnLanesValidWrong)

/-- 'laws.FnJoinLanes': WHATEVER THE INPUT: true; the input reads as it did. -/
def fnJoinLanesSpec : ChangeSpec := { name := "fnJoinLanes", fn := fun _ => fun
  | [d] => { results := [.lit (.bool true)], args := [d] }
  | _ => none }
def fnJoinLanesRow : OpenClaim := { program := "ytffgblphimjipac", sum := "64e76df9dfffb5bd294bb5056c24997fb542e2d9042a56bde74fde74b612e24a", func := "loop.example/trafficguard/laws.FnJoinLanes", spec := "fnJoinLanes", unfollowed := true, recurses := true, apart := false }
def FnJoinLanesSaid : Prop := fnJoinLanesRow.holds Try.pinned (OpenSpec.ofChange fnJoinLanesSpec)

/-- ITS FALSE NEIGHBOUR: 'it returns false'. Refute it at one input. -/
def fnJoinLanesWrong : ChangeSpec := { name := "fnJoinLanes", fn := fun _ => fun
  | [d] => { results := [.lit (.bool false)], args := [d] }
  | _ => none }
def FnJoinLanesWrongFalsely : Prop := fnJoinLanesRow.holds Try.pinned (OpenSpec.ofChange fnJoinLanesWrong)

/-- 'laws.FnNewLanes': WHATEVER THE INPUT: true; the input reads as it did. -/
def fnNewLanesSpec : ChangeSpec := { name := "fnNewLanes", fn := fun _ => fun
  | [d] => { results := [.lit (.bool true)], args := [d] }
  | _ => none }
def fnNewLanesRow : OpenClaim := { program := "ytffgblphimjipac", sum := "64e76df9dfffb5bd294bb5056c24997fb542e2d9042a56bde74fde74b612e24a", func := "loop.example/trafficguard/laws.FnNewLanes", spec := "fnNewLanes", unfollowed := true, recurses := true, apart := false }
def FnNewLanesSaid : Prop := fnNewLanesRow.holds Try.pinned (OpenSpec.ofChange fnNewLanesSpec)

/-- ITS FALSE NEIGHBOUR: 'it returns false'. Refute it at one input. -/
def fnNewLanesWrong : ChangeSpec := { name := "fnNewLanes", fn := fun _ => fun
  | [d] => { results := [.lit (.bool false)], args := [d] }
  | _ => none }
def FnNewLanesWrongFalsely : Prop := fnNewLanesRow.holds Try.pinned (OpenSpec.ofChange fnNewLanesWrong)

/-- 'laws.FnExactLanesValid': WHATEVER THE INPUT: true; the input reads as it did. -/
def fnExactLanesValidSpec : ChangeSpec := { name := "fnExactLanesValid", fn := fun _ => fun
  | [d] => { results := [.lit (.bool true)], args := [d] }
  | _ => none }
def fnExactLanesValidRow : OpenClaim := { program := "ytffgblphimjipac", sum := "64e76df9dfffb5bd294bb5056c24997fb542e2d9042a56bde74fde74b612e24a", func := "loop.example/trafficguard/laws.FnExactLanesValid", spec := "fnExactLanesValid", apart := false }
def FnExactLanesValidSaid : Prop := fnExactLanesValidRow.holds Try.pinned (OpenSpec.ofChange fnExactLanesValidSpec)

/-- ITS FALSE NEIGHBOUR: 'it returns false'. Refute it at one input. -/
def fnExactLanesValidWrong : ChangeSpec := { name := "fnExactLanesValid", fn := fun _ => fun
  | [d] => { results := [.lit (.bool false)], args := [d] }
  | _ => none }
def FnExactLanesValidWrongFalsely : Prop := fnExactLanesValidRow.holds Try.pinned (OpenSpec.ofChange fnExactLanesValidWrong)

/-- 'laws.FnExactLanesSame': WHATEVER THE INPUT: true; the input reads as it did. -/
def fnExactLanesSameSpec : ChangeSpec := { name := "fnExactLanesSame", fn := fun _ => fun
  | [d1, d2] => { results := [.lit (.bool true)], args := [d1, d2] }
  | _ => none }
def fnExactLanesSameRow : OpenClaim := { program := "ytffgblphimjipac", sum := "64e76df9dfffb5bd294bb5056c24997fb542e2d9042a56bde74fde74b612e24a", func := "loop.example/trafficguard/laws.FnExactLanesSame", spec := "fnExactLanesSame", unfollowed := true, recurses := true, apart := false }
def FnExactLanesSameSaid : Prop := fnExactLanesSameRow.holds Try.pinned (OpenSpec.ofChange fnExactLanesSameSpec)

/-- ITS FALSE NEIGHBOUR: 'it returns false'. Refute it at one input. -/
def fnExactLanesSameWrong : ChangeSpec := { name := "fnExactLanesSame", fn := fun _ => fun
  | [d1, d2] => { results := [.lit (.bool false)], args := [d1, d2] }
  | _ => none }
def FnExactLanesSameWrongFalsely : Prop := fnExactLanesSameRow.holds Try.pinned (OpenSpec.ofChange fnExactLanesSameWrong)

/-- 'laws.FnExactNextLane': WHATEVER THE INPUT: true; the input reads as it did. -/
def fnExactNextLaneSpec : ChangeSpec := { name := "fnExactNextLane", fn := fun _ => fun
  | [d] => { results := [.lit (.bool true)], args := [d] }
  | _ => none }
def fnExactNextLaneRow : OpenClaim := { program := "ytffgblphimjipac", sum := "64e76df9dfffb5bd294bb5056c24997fb542e2d9042a56bde74fde74b612e24a", func := "loop.example/trafficguard/laws.FnExactNextLane", spec := "fnExactNextLane", apart := false }
def FnExactNextLaneSaid : Prop := fnExactNextLaneRow.holds Try.pinned (OpenSpec.ofChange fnExactNextLaneSpec)

/-- ITS FALSE NEIGHBOUR: 'it returns false'. Refute it at one input. -/
def fnExactNextLaneWrong : ChangeSpec := { name := "fnExactNextLane", fn := fun _ => fun
  | [d] => { results := [.lit (.bool false)], args := [d] }
  | _ => none }
def FnExactNextLaneWrongFalsely : Prop := fnExactNextLaneRow.holds Try.pinned (OpenSpec.ofChange fnExactNextLaneWrong)

/-- 'laws.FnExactCountLanes': WHATEVER THE INPUT: true; the input reads as it did. -/
def fnExactCountLanesSpec : ChangeSpec := { name := "fnExactCountLanes", fn := fun _ => fun
  | [d] => { results := [.lit (.bool true)], args := [d] }
  | _ => none }
def fnExactCountLanesRow : OpenClaim := { program := "ytffgblphimjipac", sum := "64e76df9dfffb5bd294bb5056c24997fb542e2d9042a56bde74fde74b612e24a", func := "loop.example/trafficguard/laws.FnExactCountLanes", spec := "fnExactCountLanes", apart := false }
def FnExactCountLanesSaid : Prop := fnExactCountLanesRow.holds Try.pinned (OpenSpec.ofChange fnExactCountLanesSpec)

/-- ITS FALSE NEIGHBOUR: 'it returns false'. Refute it at one input. -/
def fnExactCountLanesWrong : ChangeSpec := { name := "fnExactCountLanes", fn := fun _ => fun
  | [d] => { results := [.lit (.bool false)], args := [d] }
  | _ => none }
def FnExactCountLanesWrongFalsely : Prop := fnExactCountLanesRow.holds Try.pinned (OpenSpec.ofChange fnExactCountLanesWrong)

/-- 'laws.FnExactNewLanes': WHATEVER THE INPUT: true; the input reads as it did. -/
def fnExactNewLanesSpec : ChangeSpec := { name := "fnExactNewLanes", fn := fun _ => fun
  | [d1, d2] => { results := [.lit (.bool true)], args := [d1, d2] }
  | _ => none }
def fnExactNewLanesRow : OpenClaim := { program := "ytffgblphimjipac", sum := "64e76df9dfffb5bd294bb5056c24997fb542e2d9042a56bde74fde74b612e24a", func := "loop.example/trafficguard/laws.FnExactNewLanes", spec := "fnExactNewLanes", apart := false }
def FnExactNewLanesSaid : Prop := fnExactNewLanesRow.holds Try.pinned (OpenSpec.ofChange fnExactNewLanesSpec)

/-- ITS FALSE NEIGHBOUR: 'it returns false'. Refute it at one input. -/
def fnExactNewLanesWrong : ChangeSpec := { name := "fnExactNewLanes", fn := fun _ => fun
  | [d1, d2] => { results := [.lit (.bool false)], args := [d1, d2] }
  | _ => none }
def FnExactNewLanesWrongFalsely : Prop := fnExactNewLanesRow.holds Try.pinned (OpenSpec.ofChange fnExactNewLanesWrong)

/-- 'laws.FnExactJoinLanes': WHATEVER THE INPUT: true; the input reads as it did. -/
def fnExactJoinLanesSpec : ChangeSpec := { name := "fnExactJoinLanes", fn := fun _ => fun
  | [d1, d2] => { results := [.lit (.bool true)], args := [d1, d2] }
  | _ => none }
def fnExactJoinLanesRow : OpenClaim := { program := "ytffgblphimjipac", sum := "64e76df9dfffb5bd294bb5056c24997fb542e2d9042a56bde74fde74b612e24a", func := "loop.example/trafficguard/laws.FnExactJoinLanes", spec := "fnExactJoinLanes", apart := false }
def FnExactJoinLanesSaid : Prop := fnExactJoinLanesRow.holds Try.pinned (OpenSpec.ofChange fnExactJoinLanesSpec)

/-- ITS FALSE NEIGHBOUR: 'it returns false'. Refute it at one input. -/
def fnExactJoinLanesWrong : ChangeSpec := { name := "fnExactJoinLanes", fn := fun _ => fun
  | [d1, d2] => { results := [.lit (.bool false)], args := [d1, d2] }
  | _ => none }
def FnExactJoinLanesWrongFalsely : Prop := fnExactJoinLanesRow.holds Try.pinned (OpenSpec.ofChange fnExactJoinLanesWrong)

/-- 'laws.FnLaneFirst': WHATEVER THE INPUT: true; the input reads as it did. -/
def fnLaneFirstSpec : ChangeSpec := { name := "fnLaneFirst", fn := fun _ => fun
  | [d] => { results := [.lit (.bool true)], args := [d] }
  | _ => none }
def fnLaneFirstRow : OpenClaim := { program := "ytffgblphimjipac", sum := "64e76df9dfffb5bd294bb5056c24997fb542e2d9042a56bde74fde74b612e24a", func := "loop.example/trafficguard/laws.FnLaneFirst", spec := "fnLaneFirst", apart := false }
def FnLaneFirstSaid : Prop := fnLaneFirstRow.holds Try.pinned (OpenSpec.ofChange fnLaneFirstSpec)

/-- ITS FALSE NEIGHBOUR: 'it returns false'. Refute it at one input. -/
def fnLaneFirstWrong : ChangeSpec := { name := "fnLaneFirst", fn := fun _ => fun
  | [d] => { results := [.lit (.bool false)], args := [d] }
  | _ => none }
def FnLaneFirstWrongFalsely : Prop := fnLaneFirstRow.holds Try.pinned (OpenSpec.ofChange fnLaneFirstWrong)

/- THE SECOND FORM. 'bulk': how many values and letters a reading holds, each counted each time it is reached (what is shared counts as often as it is met; a slice's spare places count too). A statement '..UptoSaid' is the law's where the arguments, and the package variables that the reading takes, are together of bulk at most 1048576: NARROWER than '..Said'. Prove '..Said' where nothing that the law and all that it calls make is longer than what came in: it says more and counts as full. Else prove '..UptoSaid'. A law counts once. -/
mutual
def uptoBulk {H : Type} : DataW H → Nat
  | .lit (.string bytes) => bytes.length + 1
  | .lit _ => 1
  | .nil => 1
  | .ptr d => uptoBulk d + 1
  | .slice elems spare => uptoBulkAll elems + uptoBulkAll spare + 1
  | .agg parts => uptoBulkAll parts + 1
  | .iface _ d => uptoBulk d + 1
  | .map entries => uptoBulkEntries entries + 1
  | .held _ => 1
def uptoBulkAll {H : Type} : List (DataW H) → Nat
  | [] => 0
  | d :: r => uptoBulk d + uptoBulkAll r
def uptoBulkEntries {H : Type} : List (Lit × DataW H) → Nat
  | [] => 0
  | x :: r => uptoBulkEntry x + uptoBulkEntries r
def uptoBulkEntry {H : Type} : Lit × DataW H → Nat
  | (.string bytes, d) => bytes.length + uptoBulk d + 1
  | (_, d) => uptoBulk d + 1
 end
def uptoSmall : (H : Type) → List (DataW H) → Bool := fun _ ds => decide (uptoBulkAll ds ≤ 1048576)
def OpenSpec.upto (s : _root_.Go.ChangeSpec) : _root_.Go.OpenSpec := { _root_.Go.OpenSpec.ofChange s with cond := some uptoSmall }

/-- 'laws.FnCountLanes', WHERE WHAT IT READS IS OF BULK AT MOST 1048576: true; the input reads as it did. -/
def fnCountLanesUptoRow : OpenClaim := { program := "ytffgblphimjipac", sum := "64e76df9dfffb5bd294bb5056c24997fb542e2d9042a56bde74fde74b612e24a", func := "loop.example/trafficguard/laws.FnCountLanes", spec := "fnCountLanes", apart := false, narrowed := true }
def FnCountLanesUptoSaid : Prop := fnCountLanesUptoRow.holds Try.pinned (OpenSpec.upto fnCountLanesSpec)

/-- 'laws.FnLanesSame', WHERE WHAT IT READS IS OF BULK AT MOST 1048576: true; the input reads as it did. -/
def fnLanesSameUptoRow : OpenClaim := { program := "ytffgblphimjipac", sum := "64e76df9dfffb5bd294bb5056c24997fb542e2d9042a56bde74fde74b612e24a", func := "loop.example/trafficguard/laws.FnLanesSame", spec := "fnLanesSame", unfollowed := true, recurses := true, apart := false, narrowed := true }
def FnLanesSameUptoSaid : Prop := fnLanesSameUptoRow.holds Try.pinned (OpenSpec.upto fnLanesSameSpec)

/-- 'laws.FnLanesValid', WHERE WHAT IT READS IS OF BULK AT MOST 1048576: true; the input reads as it did. -/
def fnLanesValidUptoRow : OpenClaim := { program := "ytffgblphimjipac", sum := "64e76df9dfffb5bd294bb5056c24997fb542e2d9042a56bde74fde74b612e24a", func := "loop.example/trafficguard/laws.FnLanesValid", spec := "fnLanesValid", apart := false, narrowed := true }
def FnLanesValidUptoSaid : Prop := fnLanesValidUptoRow.holds Try.pinned (OpenSpec.upto fnLanesValidSpec)

/-- 'laws.FnJoinLanes', WHERE WHAT IT READS IS OF BULK AT MOST 1048576: true; the input reads as it did. -/
def fnJoinLanesUptoRow : OpenClaim := { program := "ytffgblphimjipac", sum := "64e76df9dfffb5bd294bb5056c24997fb542e2d9042a56bde74fde74b612e24a", func := "loop.example/trafficguard/laws.FnJoinLanes", spec := "fnJoinLanes", unfollowed := true, recurses := true, apart := false, narrowed := true }
def FnJoinLanesUptoSaid : Prop := fnJoinLanesUptoRow.holds Try.pinned (OpenSpec.upto fnJoinLanesSpec)

/-- 'laws.FnNewLanes', WHERE WHAT IT READS IS OF BULK AT MOST 1048576: true; the input reads as it did. -/
def fnNewLanesUptoRow : OpenClaim := { program := "ytffgblphimjipac", sum := "64e76df9dfffb5bd294bb5056c24997fb542e2d9042a56bde74fde74b612e24a", func := "loop.example/trafficguard/laws.FnNewLanes", spec := "fnNewLanes", unfollowed := true, recurses := true, apart := false, narrowed := true }
def FnNewLanesUptoSaid : Prop := fnNewLanesUptoRow.holds Try.pinned (OpenSpec.upto fnNewLanesSpec)

/-- 'laws.FnExactLanesValid', WHERE WHAT IT READS IS OF BULK AT MOST 1048576: true; the input reads as it did. -/
def fnExactLanesValidUptoRow : OpenClaim := { program := "ytffgblphimjipac", sum := "64e76df9dfffb5bd294bb5056c24997fb542e2d9042a56bde74fde74b612e24a", func := "loop.example/trafficguard/laws.FnExactLanesValid", spec := "fnExactLanesValid", apart := false, narrowed := true }
def FnExactLanesValidUptoSaid : Prop := fnExactLanesValidUptoRow.holds Try.pinned (OpenSpec.upto fnExactLanesValidSpec)

/-- 'laws.FnExactLanesSame', WHERE WHAT IT READS IS OF BULK AT MOST 1048576: true; the input reads as it did. -/
def fnExactLanesSameUptoRow : OpenClaim := { program := "ytffgblphimjipac", sum := "64e76df9dfffb5bd294bb5056c24997fb542e2d9042a56bde74fde74b612e24a", func := "loop.example/trafficguard/laws.FnExactLanesSame", spec := "fnExactLanesSame", unfollowed := true, recurses := true, apart := false, narrowed := true }
def FnExactLanesSameUptoSaid : Prop := fnExactLanesSameUptoRow.holds Try.pinned (OpenSpec.upto fnExactLanesSameSpec)

/-- 'laws.FnExactNextLane', WHERE WHAT IT READS IS OF BULK AT MOST 1048576: true; the input reads as it did. -/
def fnExactNextLaneUptoRow : OpenClaim := { program := "ytffgblphimjipac", sum := "64e76df9dfffb5bd294bb5056c24997fb542e2d9042a56bde74fde74b612e24a", func := "loop.example/trafficguard/laws.FnExactNextLane", spec := "fnExactNextLane", apart := false, narrowed := true }
def FnExactNextLaneUptoSaid : Prop := fnExactNextLaneUptoRow.holds Try.pinned (OpenSpec.upto fnExactNextLaneSpec)

/-- 'laws.FnExactCountLanes', WHERE WHAT IT READS IS OF BULK AT MOST 1048576: true; the input reads as it did. -/
def fnExactCountLanesUptoRow : OpenClaim := { program := "ytffgblphimjipac", sum := "64e76df9dfffb5bd294bb5056c24997fb542e2d9042a56bde74fde74b612e24a", func := "loop.example/trafficguard/laws.FnExactCountLanes", spec := "fnExactCountLanes", apart := false, narrowed := true }
def FnExactCountLanesUptoSaid : Prop := fnExactCountLanesUptoRow.holds Try.pinned (OpenSpec.upto fnExactCountLanesSpec)

/-- 'laws.FnExactNewLanes', WHERE WHAT IT READS IS OF BULK AT MOST 1048576: true; the input reads as it did. -/
def fnExactNewLanesUptoRow : OpenClaim := { program := "ytffgblphimjipac", sum := "64e76df9dfffb5bd294bb5056c24997fb542e2d9042a56bde74fde74b612e24a", func := "loop.example/trafficguard/laws.FnExactNewLanes", spec := "fnExactNewLanes", apart := false, narrowed := true }
def FnExactNewLanesUptoSaid : Prop := fnExactNewLanesUptoRow.holds Try.pinned (OpenSpec.upto fnExactNewLanesSpec)

/-- 'laws.FnExactJoinLanes', WHERE WHAT IT READS IS OF BULK AT MOST 1048576: true; the input reads as it did. -/
def fnExactJoinLanesUptoRow : OpenClaim := { program := "ytffgblphimjipac", sum := "64e76df9dfffb5bd294bb5056c24997fb542e2d9042a56bde74fde74b612e24a", func := "loop.example/trafficguard/laws.FnExactJoinLanes", spec := "fnExactJoinLanes", apart := false, narrowed := true }
def FnExactJoinLanesUptoSaid : Prop := fnExactJoinLanesUptoRow.holds Try.pinned (OpenSpec.upto fnExactJoinLanesSpec)

/-- 'laws.FnLaneFirst', WHERE WHAT IT READS IS OF BULK AT MOST 1048576: true; the input reads as it did. -/
def fnLaneFirstUptoRow : OpenClaim := { program := "ytffgblphimjipac", sum := "64e76df9dfffb5bd294bb5056c24997fb542e2d9042a56bde74fde74b612e24a", func := "loop.example/trafficguard/laws.FnLaneFirst", spec := "fnLaneFirst", apart := false, narrowed := true }
def FnLaneFirstUptoSaid : Prop := fnLaneFirstUptoRow.holds Try.pinned (OpenSpec.upto fnLaneFirstSpec)

end Rows
end Go.Proofs.Ytffgblphimjipac
