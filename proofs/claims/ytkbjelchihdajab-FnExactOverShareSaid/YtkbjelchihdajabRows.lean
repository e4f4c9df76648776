/-
  No cell of these rows narrows 'for every input' (looked for: loops, veiled, ifaces, maps, wideKeys, modest, calm, conditions, laid).
  DERIVED. THE GIVEN ROWS OF THIS SEAT. 11 by the template 'for every input the law returns true; each argument reads behind the call as it read before'; 0 by the template 'total and deterministic' (their statements: YtkbjelchihdajabTotals.lean).
  GIVEN WITH THE SEED: the statements are not yours to turn. If you find one false, say at which input.
  Laid BY PROGRAM, IN A SANDBOX (cutbox-rows.mjs): the forced cells as the released guide's own fill.sh prints them over the translation 914c457f24aac0da… (all of the seat's roots in one cut). By AI agents, Wed Nov 11 2026. No macro, syntax, notation, axiom, sorry.
-/
import Derived.Test.YtkbjelchihdajabChecked
import GoSem.Claim
import GoSem.ClaimJoined
import GoSem.ClaimMapViews
import Derived.JoinedTies
import Derived.KernelRfl
namespace Go.Proofs.Ytkbjelchihdajab
/- THE CELL 'sum', in the pinned program and in every row, IS THE sha256 OF THE DUMP (.gsa) THAT YtkbjelchihdajabProg.lean LOADS. Nothing in Lean hashes anything: it is a label: what it is worth is what the hold of that sum in a sandbox is worth. -/
noncomputable def Try.pinned : Pinned := { name := "ytkbjelchihdajab", sum := "914c457f24aac0da4f5fa238d11c417c49d9386b00d2034ef3f0d7d2228dec19", checked := Try.checked }
namespace Rows
def none {H : Type} : Left H := { results := [], args := [] }

/-- 'laws.FnSharesOne': WHATEVER THE INPUT: true; the input reads as it did. -/
def fnSharesOneSpec : ChangeSpec := { name := "fnSharesOne", fn := fun _ => fun
  | [d] => { results := [.lit (.bool true)], args := [d] }
  | _ => none }
def fnSharesOneRow : OpenClaim := { program := "ytkbjelchihdajab", sum := "914c457f24aac0da4f5fa238d11c417c49d9386b00d2034ef3f0d7d2228dec19", func := "loop.example/trafficguard/laws.FnSharesOne", spec := "fnSharesOne", apart := false }
def FnSharesOneSaid : Prop := fnSharesOneRow.holds Try.pinned (OpenSpec.ofChange fnSharesOneSpec)

/-- ITS FALSE NEIGHBOUR: 'it returns false'. Refute it at one input. -/
def fnSharesOneWrong : ChangeSpec := { name := "fnSharesOne", fn := fun _ => fun
  | [d] => { results := [.lit (.bool false)], args := [d] }
  | _ => none }
def FnSharesOneWrongFalsely : Prop := fnSharesOneRow.holds Try.pinned (OpenSpec.ofChange fnSharesOneWrong)

/-- 'laws.FnFreeLimit': WHATEVER THE INPUT: true; the input reads as it did. -/
def fnFreeLimitSpec : ChangeSpec := { name := "fnFreeLimit", fn := fun _ => fun
  | [d] => { results := [.lit (.bool true)], args := [d] }
  | _ => none }
def fnFreeLimitRow : OpenClaim := { program := "ytkbjelchihdajab", sum := "914c457f24aac0da4f5fa238d11c417c49d9386b00d2034ef3f0d7d2228dec19", func := "loop.example/trafficguard/laws.FnFreeLimit", spec := "fnFreeLimit", apart := false }
def FnFreeLimitSaid : Prop := fnFreeLimitRow.holds Try.pinned (OpenSpec.ofChange fnFreeLimitSpec)

/-- ITS FALSE NEIGHBOUR: 'it returns false'. Refute it at one input. -/
def fnFreeLimitWrong : ChangeSpec := { name := "fnFreeLimit", fn := fun _ => fun
  | [d] => { results := [.lit (.bool false)], args := [d] }
  | _ => none }
def FnFreeLimitWrongFalsely : Prop := fnFreeLimitRow.holds Try.pinned (OpenSpec.ofChange fnFreeLimitWrong)

/-- 'laws.FnOverHeavy': WHATEVER THE INPUT: true; the input reads as it did. -/
def fnOverHeavySpec : ChangeSpec := { name := "fnOverHeavy", fn := fun _ => fun
  | [d] => { results := [.lit (.bool true)], args := [d] }
  | _ => none }
def fnOverHeavyRow : OpenClaim := { program := "ytkbjelchihdajab", sum := "914c457f24aac0da4f5fa238d11c417c49d9386b00d2034ef3f0d7d2228dec19", func := "loop.example/trafficguard/laws.FnOverHeavy", spec := "fnOverHeavy", apart := false }
def FnOverHeavySaid : Prop := fnOverHeavyRow.holds Try.pinned (OpenSpec.ofChange fnOverHeavySpec)

/-- ITS FALSE NEIGHBOUR: 'it returns false'. Refute it at one input. -/
def fnOverHeavyWrong : ChangeSpec := { name := "fnOverHeavy", fn := fun _ => fun
  | [d] => { results := [.lit (.bool false)], args := [d] }
  | _ => none }
def FnOverHeavyWrongFalsely : Prop := fnOverHeavyRow.holds Try.pinned (OpenSpec.ofChange fnOverHeavyWrong)

/-- 'laws.FnExactNewAccount': WHATEVER THE INPUT: true; the input reads as it did. -/
def fnExactNewAccountSpec : ChangeSpec := { name := "fnExactNewAccount", fn := fun _ => fun
  | [d1, d2] => { results := [.lit (.bool true)], args := [d1, d2] }
  | _ => none }
def fnExactNewAccountRow : OpenClaim := { program := "ytkbjelchihdajab", sum := "914c457f24aac0da4f5fa238d11c417c49d9386b00d2034ef3f0d7d2228dec19", func := "loop.example/trafficguard/laws.FnExactNewAccount", spec := "fnExactNewAccount", apart := false }
def FnExactNewAccountSaid : Prop := fnExactNewAccountRow.holds Try.pinned (OpenSpec.ofChange fnExactNewAccountSpec)

/-- ITS FALSE NEIGHBOUR: 'it returns false'. Refute it at one input. -/
def fnExactNewAccountWrong : ChangeSpec := { name := "fnExactNewAccount", fn := fun _ => fun
  | [d1, d2] => { results := [.lit (.bool false)], args := [d1, d2] }
  | _ => none }
def FnExactNewAccountWrongFalsely : Prop := fnExactNewAccountRow.holds Try.pinned (OpenSpec.ofChange fnExactNewAccountWrong)

/-- 'laws.FnExactAccountValid': WHATEVER THE INPUT: true; the input reads as it did. -/
def fnExactAccountValidSpec : ChangeSpec := { name := "fnExactAccountValid", fn := fun _ => fun
  | [d] => { results := [.lit (.bool true)], args := [d] }
  | _ => none }
def fnExactAccountValidRow : OpenClaim := { program := "ytkbjelchihdajab", sum := "914c457f24aac0da4f5fa238d11c417c49d9386b00d2034ef3f0d7d2228dec19", func := "loop.example/trafficguard/laws.FnExactAccountValid", spec := "fnExactAccountValid", apart := false }
def FnExactAccountValidSaid : Prop := fnExactAccountValidRow.holds Try.pinned (OpenSpec.ofChange fnExactAccountValidSpec)

/-- ITS FALSE NEIGHBOUR: 'it returns false'. Refute it at one input. -/
def fnExactAccountValidWrong : ChangeSpec := { name := "fnExactAccountValid", fn := fun _ => fun
  | [d] => { results := [.lit (.bool false)], args := [d] }
  | _ => none }
def FnExactAccountValidWrongFalsely : Prop := fnExactAccountValidRow.holds Try.pinned (OpenSpec.ofChange fnExactAccountValidWrong)

/-- 'laws.FnExactAccountSame': WHATEVER THE INPUT: true; the input reads as it did. -/
def fnExactAccountSameSpec : ChangeSpec := { name := "fnExactAccountSame", fn := fun _ => fun
  | [d1, d2] => { results := [.lit (.bool true)], args := [d1, d2] }
  | _ => none }
def fnExactAccountSameRow : OpenClaim := { program := "ytkbjelchihdajab", sum := "914c457f24aac0da4f5fa238d11c417c49d9386b00d2034ef3f0d7d2228dec19", func := "loop.example/trafficguard/laws.FnExactAccountSame", spec := "fnExactAccountSame", apart := false }
def FnExactAccountSameSaid : Prop := fnExactAccountSameRow.holds Try.pinned (OpenSpec.ofChange fnExactAccountSameSpec)

/-- ITS FALSE NEIGHBOUR: 'it returns false'. Refute it at one input. -/
def fnExactAccountSameWrong : ChangeSpec := { name := "fnExactAccountSame", fn := fun _ => fun
  | [d1, d2] => { results := [.lit (.bool false)], args := [d1, d2] }
  | _ => none }
def FnExactAccountSameWrongFalsely : Prop := fnExactAccountSameRow.holds Try.pinned (OpenSpec.ofChange fnExactAccountSameWrong)

/-- 'laws.FnExactReserve': WHATEVER THE INPUT: true; the input reads as it did. -/
def fnExactReserveSpec : ChangeSpec := { name := "fnExactReserve", fn := fun _ => fun
  | [d1, d2, d3] => { results := [.lit (.bool true)], args := [d1, d2, d3] }
  | _ => none }
def fnExactReserveRow : OpenClaim := { program := "ytkbjelchihdajab", sum := "914c457f24aac0da4f5fa238d11c417c49d9386b00d2034ef3f0d7d2228dec19", func := "loop.example/trafficguard/laws.FnExactReserve", spec := "fnExactReserve", apart := false }
def FnExactReserveSaid : Prop := fnExactReserveRow.holds Try.pinned (OpenSpec.ofChange fnExactReserveSpec)

/-- ITS FALSE NEIGHBOUR: 'it returns false'. Refute it at one input. -/
def fnExactReserveWrong : ChangeSpec := { name := "fnExactReserve", fn := fun _ => fun
  | [d1, d2, d3] => { results := [.lit (.bool false)], args := [d1, d2, d3] }
  | _ => none }
def FnExactReserveWrongFalsely : Prop := fnExactReserveRow.holds Try.pinned (OpenSpec.ofChange fnExactReserveWrong)

/-- 'laws.FnExactRelease': WHATEVER THE INPUT: true; the input reads as it did. -/
def fnExactReleaseSpec : ChangeSpec := { name := "fnExactRelease", fn := fun _ => fun
  | [d1, d2, d3] => { results := [.lit (.bool true)], args := [d1, d2, d3] }
  | _ => none }
def fnExactReleaseRow : OpenClaim := { program := "ytkbjelchihdajab", sum := "914c457f24aac0da4f5fa238d11c417c49d9386b00d2034ef3f0d7d2228dec19", func := "loop.example/trafficguard/laws.FnExactRelease", spec := "fnExactRelease", apart := false }
def FnExactReleaseSaid : Prop := fnExactReleaseRow.holds Try.pinned (OpenSpec.ofChange fnExactReleaseSpec)

/-- ITS FALSE NEIGHBOUR: 'it returns false'. Refute it at one input. -/
def fnExactReleaseWrong : ChangeSpec := { name := "fnExactRelease", fn := fun _ => fun
  | [d1, d2, d3] => { results := [.lit (.bool false)], args := [d1, d2, d3] }
  | _ => none }
def FnExactReleaseWrongFalsely : Prop := fnExactReleaseRow.holds Try.pinned (OpenSpec.ofChange fnExactReleaseWrong)

/-- 'laws.FnExactFreeFor': WHATEVER THE INPUT: true; the input reads as it did. -/
def fnExactFreeForSpec : ChangeSpec := { name := "fnExactFreeFor", fn := fun _ => fun
  | [d1, d2] => { results := [.lit (.bool true)], args := [d1, d2] }
  | _ => none }
def fnExactFreeForRow : OpenClaim := { program := "ytkbjelchihdajab", sum := "914c457f24aac0da4f5fa238d11c417c49d9386b00d2034ef3f0d7d2228dec19", func := "loop.example/trafficguard/laws.FnExactFreeFor", spec := "fnExactFreeFor", apart := false }
def FnExactFreeForSaid : Prop := fnExactFreeForRow.holds Try.pinned (OpenSpec.ofChange fnExactFreeForSpec)

/-- ITS FALSE NEIGHBOUR: 'it returns false'. Refute it at one input. -/
def fnExactFreeForWrong : ChangeSpec := { name := "fnExactFreeFor", fn := fun _ => fun
  | [d1, d2] => { results := [.lit (.bool false)], args := [d1, d2] }
  | _ => none }
def FnExactFreeForWrongFalsely : Prop := fnExactFreeForRow.holds Try.pinned (OpenSpec.ofChange fnExactFreeForWrong)

/-- 'laws.FnExactFairShares': WHATEVER THE INPUT: true; the input reads as it did. -/
def fnExactFairSharesSpec : ChangeSpec := { name := "fnExactFairShares", fn := fun _ => fun
  | [d1, d2] => { results := [.lit (.bool true)], args := [d1, d2] }
  | _ => none }
def fnExactFairSharesRow : OpenClaim := { program := "ytkbjelchihdajab", sum := "914c457f24aac0da4f5fa238d11c417c49d9386b00d2034ef3f0d7d2228dec19", func := "loop.example/trafficguard/laws.FnExactFairShares", spec := "fnExactFairShares", apart := false }
def FnExactFairSharesSaid : Prop := fnExactFairSharesRow.holds Try.pinned (OpenSpec.ofChange fnExactFairSharesSpec)

/-- ITS FALSE NEIGHBOUR: 'it returns false'. Refute it at one input. -/
def fnExactFairSharesWrong : ChangeSpec := { name := "fnExactFairShares", fn := fun _ => fun
  | [d1, d2] => { results := [.lit (.bool false)], args := [d1, d2] }
  | _ => none }
def FnExactFairSharesWrongFalsely : Prop := fnExactFairSharesRow.holds Try.pinned (OpenSpec.ofChange fnExactFairSharesWrong)

/-- 'laws.FnExactOverShare': WHATEVER THE INPUT: true; the input reads as it did. -/
def fnExactOverShareSpec : ChangeSpec := { name := "fnExactOverShare", fn := fun _ => fun
  | [d] => { results := [.lit (.bool true)], args := [d] }
  | _ => none }
def fnExactOverShareRow : OpenClaim := { program := "ytkbjelchihdajab", sum := "914c457f24aac0da4f5fa238d11c417c49d9386b00d2034ef3f0d7d2228dec19", func := "loop.example/trafficguard/laws.FnExactOverShare", spec := "fnExactOverShare", apart := false }
def FnExactOverShareSaid : Prop := fnExactOverShareRow.holds Try.pinned (OpenSpec.ofChange fnExactOverShareSpec)

/-- ITS FALSE NEIGHBOUR: 'it returns false'. Refute it at one input. -/
def fnExactOverShareWrong : ChangeSpec := { name := "fnExactOverShare", fn := fun _ => fun
  | [d] => { results := [.lit (.bool false)], args := [d] }
  | _ => none }
def FnExactOverShareWrongFalsely : Prop := fnExactOverShareRow.holds Try.pinned (OpenSpec.ofChange fnExactOverShareWrong)

/- THE SECOND FORM. 'bulk': how many values and letters a reading holds, each counted each time it is reached (what is shared counts as often as it is met; a slice's spare places count too). A statement '..UptoSaid' is the law's where the arguments, and the package variables that the reading takes, are together of bulk at most 1048576: NARROWER than '..Said'. Prove '..Said' where nothing that the law and all that it calls make is longer than what came in: it says more and counts as full. Else prove '..UptoSaid'. A law counts once. -/
mutual
def uptoBulk {H : Type} : DataW H → Nat
  | .lit (.string bytes) => bytes.length + 1
  | .lit _ => 1
  | .nil => 1
  | .ptr d => uptoBulk d + 1
  | .slice elems spare => uptoBulkAll elems + uptoBulkAll spare + 1
  | .agg parts => uptoBulkAll parts + 1
  | .iface _ d => uptoBulk d + 1
  | .map entries => uptoBulkEntries entries + 1
  | .held _ => 1
def uptoBulkAll {H : Type} : List (DataW H) → Nat
  | [] => 0
  | d :: r => uptoBulk d + uptoBulkAll r
def uptoBulkEntries {H : Type} : List (Lit × DataW H) → Nat
  | [] => 0
  | x :: r => uptoBulkEntry x + uptoBulkEntries r
def uptoBulkEntry {H : Type} : Lit × DataW H → Nat
  | (.string bytes, d) => bytes.length + uptoBulk d + 1
  | (_, d) => uptoBulk d + 1
 end
def uptoSmall : (H : Type) → List (DataW H) → Bool := fun _ ds => decide (uptoBulkAll ds ≤ 1048576)
def OpenSpec.upto (s : _root_.Go.ChangeSpec) : _root_.Go.OpenSpec := { _root_.Go.OpenSpec.ofChange s with cond := some uptoSmall }

/-- 'laws.FnSharesOne', WHERE WHAT IT READS IS OF BULK AT MOST 1048576: true; the input reads as it did. -/
def fnSharesOneUptoRow : OpenClaim := { program := "ytkbjelchihdajab", sum := "914c457f24aac0da4f5fa238d11c417c49d9386b00d2034ef3f0d7d2228dec19", func := "loop.example/trafficguard/laws.FnSharesOne", spec := "fnSharesOne", apart := false, narrowed := true }
def FnSharesOneUptoSaid : Prop := fnSharesOneUptoRow.holds Try.pinned (OpenSpec.upto fnSharesOneSpec)

/-- 'laws.FnFreeLimit', WHERE WHAT IT READS IS OF BULK AT MOST 1048576: true; the input reads as it did. -/
def fnFreeLimitUptoRow : OpenClaim := { program := "ytkbjelchihdajab", sum := "914c457f24aac0da4f5fa238d11c417c49d9386b00d2034ef3f0d7d2228dec19", func := "loop.example/trafficguard/laws.FnFreeLimit", spec := "fnFreeLimit", apart := false, narrowed := true }
def FnFreeLimitUptoSaid : Prop := fnFreeLimitUptoRow.holds Try.pinned (OpenSpec.upto fnFreeLimitSpec)

/-- 'laws.FnOverHeavy', WHERE WHAT IT READS IS OF BULK AT MOST 1048576: true; the input reads as it did. -/
def fnOverHeavyUptoRow : OpenClaim := { program := "ytkbjelchihdajab", sum := "914c457f24aac0da4f5fa238d11c417c49d9386b00d2034ef3f0d7d2228dec19", func := "loop.example/trafficguard/laws.FnOverHeavy", spec := "fnOverHeavy", apart := false, narrowed := true }
def FnOverHeavyUptoSaid : Prop := fnOverHeavyUptoRow.holds Try.pinned (OpenSpec.upto fnOverHeavySpec)

/-- 'laws.FnExactNewAccount', WHERE WHAT IT READS IS OF BULK AT MOST 1048576: true; the input reads as it did. -/
def fnExactNewAccountUptoRow : OpenClaim := { program := "ytkbjelchihdajab", sum := "914c457f24aac0da4f5fa238d11c417c49d9386b00d2034ef3f0d7d2228dec19", func := "loop.example/trafficguard/laws.FnExactNewAccount", spec := "fnExactNewAccount", apart := false, narrowed := true }
def FnExactNewAccountUptoSaid : Prop := fnExactNewAccountUptoRow.holds Try.pinned (OpenSpec.upto fnExactNewAccountSpec)

/-- 'laws.FnExactAccountValid', WHERE WHAT IT READS IS OF BULK AT MOST 1048576: true; the input reads as it did. -/
def fnExactAccountValidUptoRow : OpenClaim := { program := "ytkbjelchihdajab", sum := "914c457f24aac0da4f5fa238d11c417c49d9386b00d2034ef3f0d7d2228dec19", func := "loop.example/trafficguard/laws.FnExactAccountValid", spec := "fnExactAccountValid", apart := false, narrowed := true }
def FnExactAccountValidUptoSaid : Prop := fnExactAccountValidUptoRow.holds Try.pinned (OpenSpec.upto fnExactAccountValidSpec)

/-- 'laws.FnExactAccountSame', WHERE WHAT IT READS IS OF BULK AT MOST 1048576: true; the input reads as it did. -/
def fnExactAccountSameUptoRow : OpenClaim := { program := "ytkbjelchihdajab", sum := "914c457f24aac0da4f5fa238d11c417c49d9386b00d2034ef3f0d7d2228dec19", func := "loop.example/trafficguard/laws.FnExactAccountSame", spec := "fnExactAccountSame", apart := false, narrowed := true }
def FnExactAccountSameUptoSaid : Prop := fnExactAccountSameUptoRow.holds Try.pinned (OpenSpec.upto fnExactAccountSameSpec)

/-- 'laws.FnExactReserve', WHERE WHAT IT READS IS OF BULK AT MOST 1048576: true; the input reads as it did. -/
def fnExactReserveUptoRow : OpenClaim := { program := "ytkbjelchihdajab", sum := "914c457f24aac0da4f5fa238d11c417c49d9386b00d2034ef3f0d7d2228dec19", func := "loop.example/trafficguard/laws.FnExactReserve", spec := "fnExactReserve", apart := false, narrowed := true }
def FnExactReserveUptoSaid : Prop := fnExactReserveUptoRow.holds Try.pinned (OpenSpec.upto fnExactReserveSpec)

/-- 'laws.FnExactRelease', WHERE WHAT IT READS IS OF BULK AT MOST 1048576: true; the input reads as it did. -/
def fnExactReleaseUptoRow : OpenClaim := { program := "ytkbjelchihdajab", sum := "914c457f24aac0da4f5fa238d11c417c49d9386b00d2034ef3f0d7d2228dec19", func := "loop.example/trafficguard/laws.FnExactRelease", spec := "fnExactRelease", apart := false, narrowed := true }
def FnExactReleaseUptoSaid : Prop := fnExactReleaseUptoRow.holds Try.pinned (OpenSpec.upto fnExactReleaseSpec)

/-- 'laws.FnExactFreeFor', WHERE WHAT IT READS IS OF BULK AT MOST 1048576: true; the input reads as it did. -/
def fnExactFreeForUptoRow : OpenClaim := { program := "ytkbjelchihdajab", sum := "914c457f24aac0da4f5fa238d11c417c49d9386b00d2034ef3f0d7d2228dec19", func := "loop.example/trafficguard/laws.FnExactFreeFor", spec := "fnExactFreeFor", apart := false, narrowed := true }
def FnExactFreeForUptoSaid : Prop := fnExactFreeForUptoRow.holds Try.pinned (OpenSpec.upto fnExactFreeForSpec)

/-- 'laws.FnExactFairShares', WHERE WHAT IT READS IS OF BULK AT MOST 1048576: true; the input reads as it did. -/
def fnExactFairSharesUptoRow : OpenClaim := { program := "ytkbjelchihdajab", sum := "914c457f24aac0da4f5fa238d11c417c49d9386b00d2034ef3f0d7d2228dec19", func := "loop.example/trafficguard/laws.FnExactFairShares", spec := "fnExactFairShares", apart := false, narrowed := true }
def FnExactFairSharesUptoSaid : Prop := fnExactFairSharesUptoRow.holds Try.pinned (OpenSpec.upto fnExactFairSharesSpec)

/-- 'laws.FnExactOverShare', WHERE WHAT IT READS IS OF BULK AT MOST 1048576: true; the input reads as it did. -/
def fnExactOverShareUptoRow : OpenClaim := { program := "ytkbjelchihdajab", sum := "914c457f24aac0da4f5fa238d11c417c49d9386b00d2034ef3f0d7d2228dec19", func := "loop.example/trafficguard/laws.FnExactOverShare", spec := "fnExactOverShare", apart := false, narrowed := true }
def FnExactOverShareUptoSaid : Prop := fnExactOverShareUptoRow.holds Try.pinned (OpenSpec.upto fnExactOverShareSpec)

end Rows
end Go.Proofs.Ytkbjelchihdajab
