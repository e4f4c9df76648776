/-
  No cell of these rows narrows 'for every input' (looked for: loops, veiled, ifaces, maps, wideKeys, modest, calm, conditions, laid).
  DERIVED. THE GIVEN ROWS OF THIS SEAT. 12 by the template 'for every input the law returns true; each argument reads behind the call as it read before'; 0 by the template 'total and deterministic' (their statements: YtffgblphimjipabTotals.lean).
  GIVEN WITH THE SEED: the statements are not yours to turn. If you find one false, say at which input.
  Laid BY PROGRAM, IN A SANDBOX (cutbox-rows.mjs): the forced cells as the released guide's own fill.sh prints them over the translation 5457f8d3351058c3… (all of the seat's roots in one cut). By AI agents, Wed Nov 11 2026. No macro, syntax, notation, axiom, sorry.
-/
import Derived.Test.YtffgblphimjipabChecked
import GoSem.Claim
import GoSem.ClaimJoined
import GoSem.ClaimMapViews
import Derived.JoinedTies
import Derived.KernelRfl
namespace Go.Proofs.Ytffgblphimjipab
/- THE CELL 'sum', in the pinned program and in every row, IS THE sha256 OF THE DUMP (.gsa) THAT YtffgblphimjipabProg.lean LOADS. Nothing in Lean hashes anything: it is a label: what it is worth is what the hold of that sum in a sandbox is worth. -/
noncomputable def Try.pinned : Pinned := { name := "ytffgblphimjipab", sum := "5457f8d3351058c3094c8fe605d5b61740b768b560b5de6aba3beb73d7e53c86", checked := Try.checked }
namespace Rows
def none {H : Type} : Left H := { results := [], args := [] }

/-- 'laws.FnScoreStart': WHATEVER THE INPUT: true; the input reads as it did. -/
def fnScoreStartSpec : ChangeSpec := { name := "fnScoreStart", fn := fun _ => fun
  | [d] => { results := [.lit (.bool true)], args := [d] }
  | _ => none }
def fnScoreStartRow : OpenClaim := { program := "ytffgblphimjipab", sum := "5457f8d3351058c3094c8fe605d5b61740b768b560b5de6aba3beb73d7e53c86", func := "loop.example/trafficguard/laws.FnScoreStart", spec := "fnScoreStart", apart := false }
def FnScoreStartSaid : Prop := fnScoreStartRow.holds Try.pinned (OpenSpec.ofChange fnScoreStartSpec)

/-- ITS FALSE NEIGHBOUR: 'it returns false'. Refute it at one input. -/
def fnScoreStartWrong : ChangeSpec := { name := "fnScoreStart", fn := fun _ => fun
  | [d] => { results := [.lit (.bool false)], args := [d] }
  | _ => none }
def FnScoreStartWrongFalsely : Prop := fnScoreStartRow.holds Try.pinned (OpenSpec.ofChange fnScoreStartWrong)

/-- 'laws.FnFreeBlame': WHATEVER THE INPUT: true; the input reads as it did. -/
def fnFreeBlameSpec : ChangeSpec := { name := "fnFreeBlame", fn := fun _ => fun
  | [d] => { results := [.lit (.bool true)], args := [d] }
  | _ => none }
def fnFreeBlameRow : OpenClaim := { program := "ytffgblphimjipab", sum := "5457f8d3351058c3094c8fe605d5b61740b768b560b5de6aba3beb73d7e53c86", func := "loop.example/trafficguard/laws.FnFreeBlame", spec := "fnFreeBlame", apart := false }
def FnFreeBlameSaid : Prop := fnFreeBlameRow.holds Try.pinned (OpenSpec.ofChange fnFreeBlameSpec)

/-- ITS FALSE NEIGHBOUR: 'it returns false'. Refute it at one input. -/
def fnFreeBlameWrong : ChangeSpec := { name := "fnFreeBlame", fn := fun _ => fun
  | [d] => { results := [.lit (.bool false)], args := [d] }
  | _ => none }
def FnFreeBlameWrongFalsely : Prop := fnFreeBlameRow.holds Try.pinned (OpenSpec.ofChange fnFreeBlameWrong)

/-- 'laws.FnExactScoreValid': WHATEVER THE INPUT: true; the input reads as it did. -/
def fnExactScoreValidSpec : ChangeSpec := { name := "fnExactScoreValid", fn := fun _ => fun
  | [d] => { results := [.lit (.bool true)], args := [d] }
  | _ => none }
def fnExactScoreValidRow : OpenClaim := { program := "ytffgblphimjipab", sum := "5457f8d3351058c3094c8fe605d5b61740b768b560b5de6aba3beb73d7e53c86", func := "loop.example/trafficguard/laws.FnExactScoreValid", spec := "fnExactScoreValid", apart := false }
def FnExactScoreValidSaid : Prop := fnExactScoreValidRow.holds Try.pinned (OpenSpec.ofChange fnExactScoreValidSpec)

/-- ITS FALSE NEIGHBOUR: 'it returns false'. Refute it at one input. -/
def fnExactScoreValidWrong : ChangeSpec := { name := "fnExactScoreValid", fn := fun _ => fun
  | [d] => { results := [.lit (.bool false)], args := [d] }
  | _ => none }
def FnExactScoreValidWrongFalsely : Prop := fnExactScoreValidRow.holds Try.pinned (OpenSpec.ofChange fnExactScoreValidWrong)

/-- 'laws.FnExactPointsAt': WHATEVER THE INPUT: true; the input reads as it did. -/
def fnExactPointsAtSpec : ChangeSpec := { name := "fnExactPointsAt", fn := fun _ => fun
  | [d1, d2] => { results := [.lit (.bool true)], args := [d1, d2] }
  | _ => none }
def fnExactPointsAtRow : OpenClaim := { program := "ytffgblphimjipab", sum := "5457f8d3351058c3094c8fe605d5b61740b768b560b5de6aba3beb73d7e53c86", func := "loop.example/trafficguard/laws.FnExactPointsAt", spec := "fnExactPointsAt", apart := false }
def FnExactPointsAtSaid : Prop := fnExactPointsAtRow.holds Try.pinned (OpenSpec.ofChange fnExactPointsAtSpec)

/-- ITS FALSE NEIGHBOUR: 'it returns false'. Refute it at one input. -/
def fnExactPointsAtWrong : ChangeSpec := { name := "fnExactPointsAt", fn := fun _ => fun
  | [d1, d2] => { results := [.lit (.bool false)], args := [d1, d2] }
  | _ => none }
def FnExactPointsAtWrongFalsely : Prop := fnExactPointsAtRow.holds Try.pinned (OpenSpec.ofChange fnExactPointsAtWrong)

/-- 'laws.FnExactIsBanned': WHATEVER THE INPUT: true; the input reads as it did. -/
def fnExactIsBannedSpec : ChangeSpec := { name := "fnExactIsBanned", fn := fun _ => fun
  | [d1, d2] => { results := [.lit (.bool true)], args := [d1, d2] }
  | _ => none }
def fnExactIsBannedRow : OpenClaim := { program := "ytffgblphimjipab", sum := "5457f8d3351058c3094c8fe605d5b61740b768b560b5de6aba3beb73d7e53c86", func := "loop.example/trafficguard/laws.FnExactIsBanned", spec := "fnExactIsBanned", apart := false }
def FnExactIsBannedSaid : Prop := fnExactIsBannedRow.holds Try.pinned (OpenSpec.ofChange fnExactIsBannedSpec)

/-- ITS FALSE NEIGHBOUR: 'it returns false'. Refute it at one input. -/
def fnExactIsBannedWrong : ChangeSpec := { name := "fnExactIsBanned", fn := fun _ => fun
  | [d1, d2] => { results := [.lit (.bool false)], args := [d1, d2] }
  | _ => none }
def FnExactIsBannedWrongFalsely : Prop := fnExactIsBannedRow.holds Try.pinned (OpenSpec.ofChange fnExactIsBannedWrong)

/-- 'laws.FnExactBlame': WHATEVER THE INPUT: true; the input reads as it did. -/
def fnExactBlameSpec : ChangeSpec := { name := "fnExactBlame", fn := fun _ => fun
  | [d1, d2, d3] => { results := [.lit (.bool true)], args := [d1, d2, d3] }
  | _ => none }
def fnExactBlameRow : OpenClaim := { program := "ytffgblphimjipab", sum := "5457f8d3351058c3094c8fe605d5b61740b768b560b5de6aba3beb73d7e53c86", func := "loop.example/trafficguard/laws.FnExactBlame", spec := "fnExactBlame", apart := false }
def FnExactBlameSaid : Prop := fnExactBlameRow.holds Try.pinned (OpenSpec.ofChange fnExactBlameSpec)

/-- ITS FALSE NEIGHBOUR: 'it returns false'. Refute it at one input. -/
def fnExactBlameWrong : ChangeSpec := { name := "fnExactBlame", fn := fun _ => fun
  | [d1, d2, d3] => { results := [.lit (.bool false)], args := [d1, d2, d3] }
  | _ => none }
def FnExactBlameWrongFalsely : Prop := fnExactBlameRow.holds Try.pinned (OpenSpec.ofChange fnExactBlameWrong)

/-- 'laws.FnExactPardon': WHATEVER THE INPUT: true; the input reads as it did. -/
def fnExactPardonSpec : ChangeSpec := { name := "fnExactPardon", fn := fun _ => fun
  | [d1, d2] => { results := [.lit (.bool true)], args := [d1, d2] }
  | _ => none }
def fnExactPardonRow : OpenClaim := { program := "ytffgblphimjipab", sum := "5457f8d3351058c3094c8fe605d5b61740b768b560b5de6aba3beb73d7e53c86", func := "loop.example/trafficguard/laws.FnExactPardon", spec := "fnExactPardon", apart := false }
def FnExactPardonSaid : Prop := fnExactPardonRow.holds Try.pinned (OpenSpec.ofChange fnExactPardonSpec)

/-- ITS FALSE NEIGHBOUR: 'it returns false'. Refute it at one input. -/
def fnExactPardonWrong : ChangeSpec := { name := "fnExactPardon", fn := fun _ => fun
  | [d1, d2] => { results := [.lit (.bool false)], args := [d1, d2] }
  | _ => none }
def FnExactPardonWrongFalsely : Prop := fnExactPardonRow.holds Try.pinned (OpenSpec.ofChange fnExactPardonWrong)

/-- 'laws.FnExactBanLength': WHATEVER THE INPUT: true; the input reads as it did. -/
def fnExactBanLengthSpec : ChangeSpec := { name := "fnExactBanLength", fn := fun _ => fun
  | [d] => { results := [.lit (.bool true)], args := [d] }
  | _ => none }
def fnExactBanLengthRow : OpenClaim := { program := "ytffgblphimjipab", sum := "5457f8d3351058c3094c8fe605d5b61740b768b560b5de6aba3beb73d7e53c86", func := "loop.example/trafficguard/laws.FnExactBanLength", spec := "fnExactBanLength", apart := false }
def FnExactBanLengthSaid : Prop := fnExactBanLengthRow.holds Try.pinned (OpenSpec.ofChange fnExactBanLengthSpec)

/-- ITS FALSE NEIGHBOUR: 'it returns false'. Refute it at one input. -/
def fnExactBanLengthWrong : ChangeSpec := { name := "fnExactBanLength", fn := fun _ => fun
  | [d] => { results := [.lit (.bool false)], args := [d] }
  | _ => none }
def FnExactBanLengthWrongFalsely : Prop := fnExactBanLengthRow.holds Try.pinned (OpenSpec.ofChange fnExactBanLengthWrong)

/-- 'laws.FnExactFreeAt': WHATEVER THE INPUT: true; the input reads as it did. -/
def fnExactFreeAtSpec : ChangeSpec := { name := "fnExactFreeAt", fn := fun _ => fun
  | [d] => { results := [.lit (.bool true)], args := [d] }
  | _ => none }
def fnExactFreeAtRow : OpenClaim := { program := "ytffgblphimjipab", sum := "5457f8d3351058c3094c8fe605d5b61740b768b560b5de6aba3beb73d7e53c86", func := "loop.example/trafficguard/laws.FnExactFreeAt", spec := "fnExactFreeAt", apart := false }
def FnExactFreeAtSaid : Prop := fnExactFreeAtRow.holds Try.pinned (OpenSpec.ofChange fnExactFreeAtSpec)

/-- ITS FALSE NEIGHBOUR: 'it returns false'. Refute it at one input. -/
def fnExactFreeAtWrong : ChangeSpec := { name := "fnExactFreeAt", fn := fun _ => fun
  | [d] => { results := [.lit (.bool false)], args := [d] }
  | _ => none }
def FnExactFreeAtWrongFalsely : Prop := fnExactFreeAtRow.holds Try.pinned (OpenSpec.ofChange fnExactFreeAtWrong)

/-- 'laws.FnNewBucket': WHATEVER THE INPUT: true; the input reads as it did. -/
def fnNewBucketSpec : ChangeSpec := { name := "fnNewBucket", fn := fun _ => fun
  | [d] => { results := [.lit (.bool true)], args := [d] }
  | _ => none }
def fnNewBucketRow : OpenClaim := { program := "ytffgblphimjipab", sum := "5457f8d3351058c3094c8fe605d5b61740b768b560b5de6aba3beb73d7e53c86", func := "loop.example/trafficguard/laws.FnNewBucket", spec := "fnNewBucket", apart := false }
def FnNewBucketSaid : Prop := fnNewBucketRow.holds Try.pinned (OpenSpec.ofChange fnNewBucketSpec)

/-- ITS FALSE NEIGHBOUR: 'it returns false'. Refute it at one input. -/
def fnNewBucketWrong : ChangeSpec := { name := "fnNewBucket", fn := fun _ => fun
  | [d] => { results := [.lit (.bool false)], args := [d] }
  | _ => none }
def FnNewBucketWrongFalsely : Prop := fnNewBucketRow.holds Try.pinned (OpenSpec.ofChange fnNewBucketWrong)

/-- 'laws.FnBucketValid': WHATEVER THE INPUT: true; the input reads as it did. -/
def fnBucketValidSpec : ChangeSpec := { name := "fnBucketValid", fn := fun _ => fun
  | [d] => { results := [.lit (.bool true)], args := [d] }
  | _ => none }
def fnBucketValidRow : OpenClaim := { program := "ytffgblphimjipab", sum := "5457f8d3351058c3094c8fe605d5b61740b768b560b5de6aba3beb73d7e53c86", func := "loop.example/trafficguard/laws.FnBucketValid", spec := "fnBucketValid", apart := false }
def FnBucketValidSaid : Prop := fnBucketValidRow.holds Try.pinned (OpenSpec.ofChange fnBucketValidSpec)

/-- ITS FALSE NEIGHBOUR: 'it returns false'. Refute it at one input. -/
def fnBucketValidWrong : ChangeSpec := { name := "fnBucketValid", fn := fun _ => fun
  | [d] => { results := [.lit (.bool false)], args := [d] }
  | _ => none }
def FnBucketValidWrongFalsely : Prop := fnBucketValidRow.holds Try.pinned (OpenSpec.ofChange fnBucketValidWrong)

/-- 'laws.FnLevelFull': WHATEVER THE INPUT: true; the input reads as it did. -/
def fnLevelFullSpec : ChangeSpec := { name := "fnLevelFull", fn := fun _ => fun
  | [d] => { results := [.lit (.bool true)], args := [d] }
  | _ => none }
def fnLevelFullRow : OpenClaim := { program := "ytffgblphimjipab", sum := "5457f8d3351058c3094c8fe605d5b61740b768b560b5de6aba3beb73d7e53c86", func := "loop.example/trafficguard/laws.FnLevelFull", spec := "fnLevelFull", apart := false }
def FnLevelFullSaid : Prop := fnLevelFullRow.holds Try.pinned (OpenSpec.ofChange fnLevelFullSpec)

/-- ITS FALSE NEIGHBOUR: 'it returns false'. Refute it at one input. -/
def fnLevelFullWrong : ChangeSpec := { name := "fnLevelFull", fn := fun _ => fun
  | [d] => { results := [.lit (.bool false)], args := [d] }
  | _ => none }
def FnLevelFullWrongFalsely : Prop := fnLevelFullRow.holds Try.pinned (OpenSpec.ofChange fnLevelFullWrong)

/- THE SECOND FORM. 'bulk': how many values and letters a reading holds, each counted each time it is reached (what is shared counts as often as it is met; a slice's spare places count too). A statement '..UptoSaid' is the law's where the arguments, and the package variables that the reading takes, are together of bulk at most 1048576: NARROWER than '..Said'. Prove '..Said' where nothing that the law and all that it calls make is longer than what came in: it says more and counts as full. Else prove '..UptoSaid'. A law counts once. -/
mutual
def uptoBulk {H : Type} : DataW H → Nat
  | .lit (.string bytes) => bytes.length + 1
  | .lit _ => 1
  | .nil => 1
  | .ptr d => uptoBulk d + 1
  | .slice elems spare => uptoBulkAll elems + uptoBulkAll spare + 1
  | .agg parts => uptoBulkAll parts + 1
  | .iface _ d => uptoBulk d + 1
  | .map entries => uptoBulkEntries entries + 1
  | .held _ => 1
def uptoBulkAll {H : Type} : List (DataW H) → Nat
  | [] => 0
  | d :: r => uptoBulk d + uptoBulkAll r
def uptoBulkEntries {H : Type} : List (Lit × DataW H) → Nat
  | [] => 0
  | x :: r => uptoBulkEntry x + uptoBulkEntries r
def uptoBulkEntry {H : Type} : Lit × DataW H → Nat
  | (.string bytes, d) => bytes.length + uptoBulk d + 1
  | (_, d) => uptoBulk d + 1
 end
def uptoSmall : (H : Type) → List (DataW H) → Bool := fun _ ds => decide (uptoBulkAll ds ≤ 1048576)
def OpenSpec.upto (s : _root_.Go.ChangeSpec) : _root_.Go.OpenSpec := { _root_.Go.OpenSpec.ofChange s with cond := some uptoSmall }

/-- 'laws.FnScoreStart', WHERE WHAT IT READS IS OF BULK AT MOST 1048576: true; the input reads as it did. -/
def fnScoreStartUptoRow : OpenClaim := { program := "ytffgblphimjipab", sum := "5457f8d3351058c3094c8fe605d5b61740b768b560b5de6aba3beb73d7e53c86", func := "loop.example/trafficguard/laws.FnScoreStart", spec := "fnScoreStart", apart := false, narrowed := true }
def FnScoreStartUptoSaid : Prop := fnScoreStartUptoRow.holds Try.pinned (OpenSpec.upto fnScoreStartSpec)

/-- 'laws.FnFreeBlame', WHERE WHAT IT READS IS OF BULK AT MOST 1048576: true; the input reads as it did. -/
def fnFreeBlameUptoRow : OpenClaim := { program := "ytffgblphimjipab", sum := "5457f8d3351058c3094c8fe605d5b61740b768b560b5de6aba3beb73d7e53c86", func := "loop.example/trafficguard/laws.FnFreeBlame", spec := "fnFreeBlame", apart := false, narrowed := true }
def FnFreeBlameUptoSaid : Prop := fnFreeBlameUptoRow.holds Try.pinned (OpenSpec.upto fnFreeBlameSpec)

/-- 'laws.FnExactScoreValid', WHERE WHAT IT READS IS OF BULK AT MOST 1048576: true; the input reads as it did. -/
def fnExactScoreValidUptoRow : OpenClaim := { program := "ytffgblphimjipab", sum := "5457f8d3351058c3094c8fe605d5b61740b768b560b5de6aba3beb73d7e53c86", func := "loop.example/trafficguard/laws.FnExactScoreValid", spec := "fnExactScoreValid", apart := false, narrowed := true }
def FnExactScoreValidUptoSaid : Prop := fnExactScoreValidUptoRow.holds Try.pinned (OpenSpec.upto fnExactScoreValidSpec)

/-- 'laws.FnExactPointsAt', WHERE WHAT IT READS IS OF BULK AT MOST 1048576: true; the input reads as it did. -/
def fnExactPointsAtUptoRow : OpenClaim := { program := "ytffgblphimjipab", sum := "5457f8d3351058c3094c8fe605d5b61740b768b560b5de6aba3beb73d7e53c86", func := "loop.example/trafficguard/laws.FnExactPointsAt", spec := "fnExactPointsAt", apart := false, narrowed := true }
def FnExactPointsAtUptoSaid : Prop := fnExactPointsAtUptoRow.holds Try.pinned (OpenSpec.upto fnExactPointsAtSpec)

/-- 'laws.FnExactIsBanned', WHERE WHAT IT READS IS OF BULK AT MOST 1048576: true; the input reads as it did. -/
def fnExactIsBannedUptoRow : OpenClaim := { program := "ytffgblphimjipab", sum := "5457f8d3351058c3094c8fe605d5b61740b768b560b5de6aba3beb73d7e53c86", func := "loop.example/trafficguard/laws.FnExactIsBanned", spec := "fnExactIsBanned", apart := false, narrowed := true }
def FnExactIsBannedUptoSaid : Prop := fnExactIsBannedUptoRow.holds Try.pinned (OpenSpec.upto fnExactIsBannedSpec)

/-- 'laws.FnExactBlame', WHERE WHAT IT READS IS OF BULK AT MOST 1048576: true; the input reads as it did. -/
def fnExactBlameUptoRow : OpenClaim := { program := "ytffgblphimjipab", sum := "5457f8d3351058c3094c8fe605d5b61740b768b560b5de6aba3beb73d7e53c86", func := "loop.example/trafficguard/laws.FnExactBlame", spec := "fnExactBlame", apart := false, narrowed := true }
def FnExactBlameUptoSaid : Prop := fnExactBlameUptoRow.holds Try.pinned (OpenSpec.upto fnExactBlameSpec)

/-- 'laws.FnExactPardon', WHERE WHAT IT READS IS OF BULK AT MOST 1048576: true; the input reads as it did. -/
def fnExactPardonUptoRow : OpenClaim := { program := "ytffgblphimjipab", sum := "5457f8d3351058c3094c8fe605d5b61740b768b560b5de6aba3beb73d7e53c86", func := "loop.example/trafficguard/laws.FnExactPardon", spec := "fnExactPardon", apart := false, narrowed := true }
def FnExactPardonUptoSaid : Prop := fnExactPardonUptoRow.holds Try.pinned (OpenSpec.upto fnExactPardonSpec)

/-- 'laws.FnExactBanLength', WHERE WHAT IT READS IS OF BULK AT MOST 1048576: true; the input reads as it did. -/
def fnExactBanLengthUptoRow : OpenClaim := { program := "ytffgblphimjipab", sum := "5457f8d3351058c3094c8fe605d5b61740b768b560b5de6aba3beb73d7e53c86", func := "loop.example/trafficguard/laws.FnExactBanLength", spec := "fnExactBanLength", apart := false, narrowed := true }
def FnExactBanLengthUptoSaid : Prop := fnExactBanLengthUptoRow.holds Try.pinned (OpenSpec.upto fnExactBanLengthSpec)

/-- 'laws.FnExactFreeAt', WHERE WHAT IT READS IS OF BULK AT MOST 1048576: true; the input reads as it did. -/
def fnExactFreeAtUptoRow : OpenClaim := { program := "ytffgblphimjipab", sum := "5457f8d3351058c3094c8fe605d5b61740b768b560b5de6aba3beb73d7e53c86", func := "loop.example/trafficguard/laws.FnExactFreeAt", spec := "fnExactFreeAt", apart := false, narrowed := true }
def FnExactFreeAtUptoSaid : Prop := fnExactFreeAtUptoRow.holds Try.pinned (OpenSpec.upto fnExactFreeAtSpec)

/-- 'laws.FnNewBucket', WHERE WHAT IT READS IS OF BULK AT MOST 1048576: true; the input reads as it did. -/
def fnNewBucketUptoRow : OpenClaim := { program := "ytffgblphimjipab", sum := "5457f8d3351058c3094c8fe605d5b61740b768b560b5de6aba3beb73d7e53c86", func := "loop.example/trafficguard/laws.FnNewBucket", spec := "fnNewBucket", apart := false, narrowed := true }
def FnNewBucketUptoSaid : Prop := fnNewBucketUptoRow.holds Try.pinned (OpenSpec.upto fnNewBucketSpec)

/-- 'laws.FnBucketValid', WHERE WHAT IT READS IS OF BULK AT MOST 1048576: true; the input reads as it did. -/
def fnBucketValidUptoRow : OpenClaim := { program := "ytffgblphimjipab", sum := "5457f8d3351058c3094c8fe605d5b61740b768b560b5de6aba3beb73d7e53c86", func := "loop.example/trafficguard/laws.FnBucketValid", spec := "fnBucketValid", apart := false, narrowed := true }
def FnBucketValidUptoSaid : Prop := fnBucketValidUptoRow.holds Try.pinned (OpenSpec.upto fnBucketValidSpec)

/-- 'laws.FnLevelFull', WHERE WHAT IT READS IS OF BULK AT MOST 1048576: true; the input reads as it did. -/
def fnLevelFullUptoRow : OpenClaim := { program := "ytffgblphimjipab", sum := "5457f8d3351058c3094c8fe605d5b61740b768b560b5de6aba3beb73d7e53c86", func := "loop.example/trafficguard/laws.FnLevelFull", spec := "fnLevelFull", apart := false, narrowed := true }
def FnLevelFullUptoSaid : Prop := fnLevelFullUptoRow.holds Try.pinned (OpenSpec.upto fnLevelFullSpec)

end Rows
end Go.Proofs.Ytffgblphimjipab
