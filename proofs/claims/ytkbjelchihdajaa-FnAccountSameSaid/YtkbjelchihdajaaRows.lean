/-
  No cell of these rows narrows 'for every input' (looked for: loops, veiled, ifaces, maps, wideKeys, modest, calm, conditions, laid).
  DERIVED. THE GIVEN ROWS OF THIS SEAT. 12 by the template 'for every input the law returns true; each argument reads behind the call as it read before'; 0 by the template 'total and deterministic' (their statements: YtkbjelchihdajaaTotals.lean).
  GIVEN WITH THE SEED: the statements are not yours to turn. If you find one false, say at which input.
  Laid BY PROGRAM, IN A SANDBOX (cutbox-rows.mjs): the forced cells as the released guide's own fill.sh prints them over the translation 4e7325a489390f61… (all of the seat's roots in one cut). By AI agents, Wed Nov 11 2026. No macro, syntax, notation, axiom, sorry.
-/
import Derived.Test.YtkbjelchihdajaaChecked
import GoSem.Claim
import GoSem.ClaimJoined
import GoSem.ClaimMapViews
import Derived.JoinedTies
import Derived.KernelRfl
namespace Go.Proofs.Ytkbjelchihdajaa
/- THE CELL 'sum', in the pinned program and in every row, IS THE sha256 OF THE DUMP (.gsa) THAT YtkbjelchihdajaaProg.lean LOADS. Nothing in Lean hashes anything: it is a label: what it is worth is what the hold of that sum in a sandbox is worth. -/
noncomputable def Try.pinned : Pinned := { name := "ytkbjelchihdajaa", sum := "4e7325a489390f61710b338de6cc9fa8626175175637a81523160679094d30b2", checked := Try.checked }
namespace Rows
def none {H : Type} : Left H := { results := [], args := [] }

/-- 'laws.FnReserve': WHATEVER THE INPUT: true; the input reads as it did. -/
def fnReserveSpec : ChangeSpec := { name := "fnReserve", fn := fun _ => fun
  | [d] => { results := [.lit (.bool true)], args := [d] }
  | _ => none }
def fnReserveRow : OpenClaim := { program := "ytkbjelchihdajaa", sum := "4e7325a489390f61710b338de6cc9fa8626175175637a81523160679094d30b2", func := "loop.example/trafficguard/laws.FnReserve", spec := "fnReserve", apart := false }
def FnReserveSaid : Prop := fnReserveRow.holds Try.pinned (OpenSpec.ofChange fnReserveSpec)

/-- ITS FALSE NEIGHBOUR: 'it returns false'. Refute it at one input. -/
def fnReserveWrong : ChangeSpec := { name := "fnReserve", fn := fun _ => fun
  | [d] => { results := [.lit (.bool false)], args := [d] }
  | _ => none }
def FnReserveWrongFalsely : Prop := fnReserveRow.holds Try.pinned (OpenSpec.ofChange fnReserveWrong)

/-- 'laws.FnRelease': WHATEVER THE INPUT: true; the input reads as it did. -/
def fnReleaseSpec : ChangeSpec := { name := "fnRelease", fn := fun _ => fun
  | [d] => { results := [.lit (.bool true)], args := [d] }
  | _ => none }
def fnReleaseRow : OpenClaim := { program := "ytkbjelchihdajaa", sum := "4e7325a489390f61710b338de6cc9fa8626175175637a81523160679094d30b2", func := "loop.example/trafficguard/laws.FnRelease", spec := "fnRelease", apart := false }
def FnReleaseSaid : Prop := fnReleaseRow.holds Try.pinned (OpenSpec.ofChange fnReleaseSpec)

/-- ITS FALSE NEIGHBOUR: 'it returns false'. Refute it at one input. -/
def fnReleaseWrong : ChangeSpec := { name := "fnRelease", fn := fun _ => fun
  | [d] => { results := [.lit (.bool false)], args := [d] }
  | _ => none }
def FnReleaseWrongFalsely : Prop := fnReleaseRow.holds Try.pinned (OpenSpec.ofChange fnReleaseWrong)

/-- 'laws.FnFreeFor': WHATEVER THE INPUT: true; the input reads as it did. -/
def fnFreeForSpec : ChangeSpec := { name := "fnFreeFor", fn := fun _ => fun
  | [d] => { results := [.lit (.bool true)], args := [d] }
  | _ => none }
def fnFreeForRow : OpenClaim := { program := "ytkbjelchihdajaa", sum := "4e7325a489390f61710b338de6cc9fa8626175175637a81523160679094d30b2", func := "loop.example/trafficguard/laws.FnFreeFor", spec := "fnFreeFor", apart := false }
def FnFreeForSaid : Prop := fnFreeForRow.holds Try.pinned (OpenSpec.ofChange fnFreeForSpec)

/-- ITS FALSE NEIGHBOUR: 'it returns false'. Refute it at one input. -/
def fnFreeForWrong : ChangeSpec := { name := "fnFreeFor", fn := fun _ => fun
  | [d] => { results := [.lit (.bool false)], args := [d] }
  | _ => none }
def FnFreeForWrongFalsely : Prop := fnFreeForRow.holds Try.pinned (OpenSpec.ofChange fnFreeForWrong)

/-- 'laws.FnFairShares': WHATEVER THE INPUT: true; the input reads as it did. -/
def fnFairSharesSpec : ChangeSpec := { name := "fnFairShares", fn := fun _ => fun
  | [d] => { results := [.lit (.bool true)], args := [d] }
  | _ => none }
def fnFairSharesRow : OpenClaim := { program := "ytkbjelchihdajaa", sum := "4e7325a489390f61710b338de6cc9fa8626175175637a81523160679094d30b2", func := "loop.example/trafficguard/laws.FnFairShares", spec := "fnFairShares", apart := false }
def FnFairSharesSaid : Prop := fnFairSharesRow.holds Try.pinned (OpenSpec.ofChange fnFairSharesSpec)

/-- ITS FALSE NEIGHBOUR: 'it returns false'. Refute it at one input. -/
def fnFairSharesWrong : ChangeSpec := { name := "fnFairShares", fn := fun _ => fun
  | [d] => { results := [.lit (.bool false)], args := [d] }
  | _ => none }
def FnFairSharesWrongFalsely : Prop := fnFairSharesRow.holds Try.pinned (OpenSpec.ofChange fnFairSharesWrong)

/-- 'laws.FnSharesFair': WHATEVER THE INPUT: true; the input reads as it did. -/
def fnSharesFairSpec : ChangeSpec := { name := "fnSharesFair", fn := fun _ => fun
  | [d] => { results := [.lit (.bool true)], args := [d] }
  | _ => none }
def fnSharesFairRow : OpenClaim := { program := "ytkbjelchihdajaa", sum := "4e7325a489390f61710b338de6cc9fa8626175175637a81523160679094d30b2", func := "loop.example/trafficguard/laws.FnSharesFair", spec := "fnSharesFair", apart := false }
def FnSharesFairSaid : Prop := fnSharesFairRow.holds Try.pinned (OpenSpec.ofChange fnSharesFairSpec)

/-- ITS FALSE NEIGHBOUR: 'it returns false'. Refute it at one input. -/
def fnSharesFairWrong : ChangeSpec := { name := "fnSharesFair", fn := fun _ => fun
  | [d] => { results := [.lit (.bool false)], args := [d] }
  | _ => none }
def FnSharesFairWrongFalsely : Prop := fnSharesFairRow.holds Try.pinned (OpenSpec.ofChange fnSharesFairWrong)

/-- 'laws.FnOverShare': WHATEVER THE INPUT: true; the input reads as it did. -/
def fnOverShareSpec : ChangeSpec := { name := "fnOverShare", fn := fun _ => fun
  | [d] => { results := [.lit (.bool true)], args := [d] }
  | _ => none }
def fnOverShareRow : OpenClaim := { program := "ytkbjelchihdajaa", sum := "4e7325a489390f61710b338de6cc9fa8626175175637a81523160679094d30b2", func := "loop.example/trafficguard/laws.FnOverShare", spec := "fnOverShare", apart := false }
def FnOverShareSaid : Prop := fnOverShareRow.holds Try.pinned (OpenSpec.ofChange fnOverShareSpec)

/-- ITS FALSE NEIGHBOUR: 'it returns false'. Refute it at one input. -/
def fnOverShareWrong : ChangeSpec := { name := "fnOverShare", fn := fun _ => fun
  | [d] => { results := [.lit (.bool false)], args := [d] }
  | _ => none }
def FnOverShareWrongFalsely : Prop := fnOverShareRow.holds Try.pinned (OpenSpec.ofChange fnOverShareWrong)

/-- 'laws.FnNewAccount': WHATEVER THE INPUT: true; the input reads as it did. -/
def fnNewAccountSpec : ChangeSpec := { name := "fnNewAccount", fn := fun _ => fun
  | [d] => { results := [.lit (.bool true)], args := [d] }
  | _ => none }
def fnNewAccountRow : OpenClaim := { program := "ytkbjelchihdajaa", sum := "4e7325a489390f61710b338de6cc9fa8626175175637a81523160679094d30b2", func := "loop.example/trafficguard/laws.FnNewAccount", spec := "fnNewAccount", apart := false }
def FnNewAccountSaid : Prop := fnNewAccountRow.holds Try.pinned (OpenSpec.ofChange fnNewAccountSpec)

/-- ITS FALSE NEIGHBOUR: 'it returns false'. Refute it at one input. -/
def fnNewAccountWrong : ChangeSpec := { name := "fnNewAccount", fn := fun _ => fun
  | [d] => { results := [.lit (.bool false)], args := [d] }
  | _ => none }
def FnNewAccountWrongFalsely : Prop := fnNewAccountRow.holds Try.pinned (OpenSpec.ofChange fnNewAccountWrong)

/-- 'laws.FnAccountSame': WHATEVER THE INPUT: true; the input reads as it did. -/
def fnAccountSameSpec : ChangeSpec := { name := "fnAccountSame", fn := fun _ => fun
  | [d] => { results := [.lit (.bool true)], args := [d] }
  | _ => none }
def fnAccountSameRow : OpenClaim := { program := "ytkbjelchihdajaa", sum := "4e7325a489390f61710b338de6cc9fa8626175175637a81523160679094d30b2", func := "loop.example/trafficguard/laws.FnAccountSame", spec := "fnAccountSame", apart := false }
def FnAccountSameSaid : Prop := fnAccountSameRow.holds Try.pinned (OpenSpec.ofChange fnAccountSameSpec)

/-- ITS FALSE NEIGHBOUR: 'it returns false'. Refute it at one input. -/
def fnAccountSameWrong : ChangeSpec := { name := "fnAccountSame", fn := fun _ => fun
  | [d] => { results := [.lit (.bool false)], args := [d] }
  | _ => none }
def FnAccountSameWrongFalsely : Prop := fnAccountSameRow.holds Try.pinned (OpenSpec.ofChange fnAccountSameWrong)

/-- 'laws.FnReserveTwo': WHATEVER THE INPUT: true; the input reads as it did. -/
def fnReserveTwoSpec : ChangeSpec := { name := "fnReserveTwo", fn := fun _ => fun
  | [d] => { results := [.lit (.bool true)], args := [d] }
  | _ => none }
def fnReserveTwoRow : OpenClaim := { program := "ytkbjelchihdajaa", sum := "4e7325a489390f61710b338de6cc9fa8626175175637a81523160679094d30b2", func := "loop.example/trafficguard/laws.FnReserveTwo", spec := "fnReserveTwo", apart := false }
def FnReserveTwoSaid : Prop := fnReserveTwoRow.holds Try.pinned (OpenSpec.ofChange fnReserveTwoSpec)

/-- ITS FALSE NEIGHBOUR: 'it returns false'. Refute it at one input. -/
def fnReserveTwoWrong : ChangeSpec := { name := "fnReserveTwo", fn := fun _ => fun
  | [d] => { results := [.lit (.bool false)], args := [d] }
  | _ => none }
def FnReserveTwoWrongFalsely : Prop := fnReserveTwoRow.holds Try.pinned (OpenSpec.ofChange fnReserveTwoWrong)

/-- 'laws.FnReserveOther': WHATEVER THE INPUT: true; the input reads as it did. -/
def fnReserveOtherSpec : ChangeSpec := { name := "fnReserveOther", fn := fun _ => fun
  | [d] => { results := [.lit (.bool true)], args := [d] }
  | _ => none }
def fnReserveOtherRow : OpenClaim := { program := "ytkbjelchihdajaa", sum := "4e7325a489390f61710b338de6cc9fa8626175175637a81523160679094d30b2", func := "loop.example/trafficguard/laws.FnReserveOther", spec := "fnReserveOther", apart := false }
def FnReserveOtherSaid : Prop := fnReserveOtherRow.holds Try.pinned (OpenSpec.ofChange fnReserveOtherSpec)

/-- ITS FALSE NEIGHBOUR: 'it returns false'. Refute it at one input. -/
def fnReserveOtherWrong : ChangeSpec := { name := "fnReserveOther", fn := fun _ => fun
  | [d] => { results := [.lit (.bool false)], args := [d] }
  | _ => none }
def FnReserveOtherWrongFalsely : Prop := fnReserveOtherRow.holds Try.pinned (OpenSpec.ofChange fnReserveOtherWrong)

/-- 'laws.FnReleaseAll': WHATEVER THE INPUT: true; the input reads as it did. -/
def fnReleaseAllSpec : ChangeSpec := { name := "fnReleaseAll", fn := fun _ => fun
  | [d] => { results := [.lit (.bool true)], args := [d] }
  | _ => none }
def fnReleaseAllRow : OpenClaim := { program := "ytkbjelchihdajaa", sum := "4e7325a489390f61710b338de6cc9fa8626175175637a81523160679094d30b2", func := "loop.example/trafficguard/laws.FnReleaseAll", spec := "fnReleaseAll", apart := false }
def FnReleaseAllSaid : Prop := fnReleaseAllRow.holds Try.pinned (OpenSpec.ofChange fnReleaseAllSpec)

/-- ITS FALSE NEIGHBOUR: 'it returns false'. Refute it at one input. -/
def fnReleaseAllWrong : ChangeSpec := { name := "fnReleaseAll", fn := fun _ => fun
  | [d] => { results := [.lit (.bool false)], args := [d] }
  | _ => none }
def FnReleaseAllWrongFalsely : Prop := fnReleaseAllRow.holds Try.pinned (OpenSpec.ofChange fnReleaseAllWrong)

/-- 'laws.FnSharesMore': WHATEVER THE INPUT: true; the input reads as it did. -/
def fnSharesMoreSpec : ChangeSpec := { name := "fnSharesMore", fn := fun _ => fun
  | [d] => { results := [.lit (.bool true)], args := [d] }
  | _ => none }
def fnSharesMoreRow : OpenClaim := { program := "ytkbjelchihdajaa", sum := "4e7325a489390f61710b338de6cc9fa8626175175637a81523160679094d30b2", func := "loop.example/trafficguard/laws.FnSharesMore", spec := "fnSharesMore", apart := false }
def FnSharesMoreSaid : Prop := fnSharesMoreRow.holds Try.pinned (OpenSpec.ofChange fnSharesMoreSpec)

/-- ITS FALSE NEIGHBOUR: 'it returns false'. Refute it at one input. -/
def fnSharesMoreWrong : ChangeSpec := { name := "fnSharesMore", fn := fun _ => fun
  | [d] => { results := [.lit (.bool false)], args := [d] }
  | _ => none }
def FnSharesMoreWrongFalsely : Prop := fnSharesMoreRow.holds Try.pinned (OpenSpec.ofChange fnSharesMoreWrong)

/- THE SECOND FORM. 'bulk': how many values and letters a reading holds, each counted each time it is reached (what is shared counts as often as it is met; a slice's spare places count too). A statement '..UptoSaid' is the law's where the arguments, and the package variables that the reading takes, are together of bulk at most 1048576: NARROWER than '..Said'. Prove '..Said' where nothing that the law and all that it calls make is longer than what came in: it says more and counts as full. Else prove '..UptoSaid'. A law counts once. -/
mutual
def uptoBulk {H : Type} : DataW H → Nat
  | .lit (.string bytes) => bytes.length + 1
  | .lit _ => 1
  | .nil => 1
  | .ptr d => uptoBulk d + 1
  | .slice elems spare => uptoBulkAll elems + uptoBulkAll spare + 1
  | .agg parts => uptoBulkAll parts + 1
  | .iface _ d => uptoBulk d + 1
  | .map entries => uptoBulkEntries entries + 1
  | .held _ => 1
def uptoBulkAll {H : Type} : List (DataW H) → Nat
  | [] => 0
  | d :: r => uptoBulk d + uptoBulkAll r
def uptoBulkEntries {H : Type} : List (Lit × DataW H) → Nat
  | [] => 0
  | x :: r => uptoBulkEntry x + uptoBulkEntries r
def uptoBulkEntry {H : Type} : Lit × DataW H → Nat
  | (.string bytes, d) => bytes.length + uptoBulk d + 1
  | (_, d) => uptoBulk d + 1
 end
def uptoSmall : (H : Type) → List (DataW H) → Bool := fun _ ds => decide (uptoBulkAll ds ≤ 1048576)
def OpenSpec.upto (s : _root_.Go.ChangeSpec) : _root_.Go.OpenSpec := { _root_.Go.OpenSpec.ofChange s with cond := some uptoSmall }

/-- 'laws.FnReserve', WHERE WHAT IT READS IS OF BULK AT MOST 1048576: true; the input reads as it did. -/
def fnReserveUptoRow : OpenClaim := { program := "ytkbjelchihdajaa", sum := "4e7325a489390f61710b338de6cc9fa8626175175637a81523160679094d30b2", func := "loop.example/trafficguard/laws.FnReserve", spec := "fnReserve", apart := false, narrowed := true }
def FnReserveUptoSaid : Prop := fnReserveUptoRow.holds Try.pinned (OpenSpec.upto fnReserveSpec)

/-- 'laws.FnRelease', WHERE WHAT IT READS IS OF BULK AT MOST 1048576: true; the input reads as it did. -/
def fnReleaseUptoRow : OpenClaim := { program := "ytkbjelchihdajaa", sum := "4e7325a489390f61710b338de6cc9fa8626175175637a81523160679094d30b2", func := "loop.example/trafficguard/laws.FnRelease", spec := "fnRelease", apart := false, narrowed := true }
def FnReleaseUptoSaid : Prop := fnReleaseUptoRow.holds Try.pinned (OpenSpec.upto fnReleaseSpec)

/-- 'laws.FnFreeFor', WHERE WHAT IT READS IS OF BULK AT MOST 1048576: true; the input reads as it did. -/
def fnFreeForUptoRow : OpenClaim := { program := "ytkbjelchihdajaa", sum := "4e7325a489390f61710b338de6cc9fa8626175175637a81523160679094d30b2", func := "loop.example/trafficguard/laws.FnFreeFor", spec := "fnFreeFor", apart := false, narrowed := true }
def FnFreeForUptoSaid : Prop := fnFreeForUptoRow.holds Try.pinned (OpenSpec.upto fnFreeForSpec)

/-- 'laws.FnFairShares', WHERE WHAT IT READS IS OF BULK AT MOST 1048576: true; the input reads as it did. -/
def fnFairSharesUptoRow : OpenClaim := { program := "ytkbjelchihdajaa", sum := "4e7325a489390f61710b338de6cc9fa8626175175637a81523160679094d30b2", func := "loop.example/trafficguard/laws.FnFairShares", spec := "fnFairShares", apart := false, narrowed := true }
def FnFairSharesUptoSaid : Prop := fnFairSharesUptoRow.holds Try.pinned (OpenSpec.upto fnFairSharesSpec)

/-- 'laws.FnSharesFair', WHERE WHAT IT READS IS OF BULK AT MOST 1048576: true; the input reads as it did. -/
def fnSharesFairUptoRow : OpenClaim := { program := "ytkbjelchihdajaa", sum := "4e7325a489390f61710b338de6cc9fa8626175175637a81523160679094d30b2", func := "loop.example/trafficguard/laws.FnSharesFair", spec := "fnSharesFair", apart := false, narrowed := true }
def FnSharesFairUptoSaid : Prop := fnSharesFairUptoRow.holds Try.pinned (OpenSpec.upto fnSharesFairSpec)

/-- 'laws.FnOverShare', WHERE WHAT IT READS IS OF BULK AT MOST 1048576: true; the input reads as it did. -/
def fnOverShareUptoRow : OpenClaim := { program := "ytkbjelchihdajaa", sum := "4e7325a489390f61710b338de6cc9fa8626175175637a81523160679094d30b2", func := "loop.example/trafficguard/laws.FnOverShare", spec := "fnOverShare", apart := false, narrowed := true }
def FnOverShareUptoSaid : Prop := fnOverShareUptoRow.holds Try.pinned (OpenSpec.upto fnOverShareSpec)

/-- 'laws.FnNewAccount', WHERE WHAT IT READS IS OF BULK AT MOST 1048576: true; the input reads as it did. -/
def fnNewAccountUptoRow : OpenClaim := { program := "ytkbjelchihdajaa", sum := "4e7325a489390f61710b338de6cc9fa8626175175637a81523160679094d30b2", func := "loop.example/trafficguard/laws.FnNewAccount", spec := "fnNewAccount", apart := false, narrowed := true }
def FnNewAccountUptoSaid : Prop := fnNewAccountUptoRow.holds Try.pinned (OpenSpec.upto fnNewAccountSpec)

/-- 'laws.FnAccountSame', WHERE WHAT IT READS IS OF BULK AT MOST 1048576: true; the input reads as it did. -/
def fnAccountSameUptoRow : OpenClaim := { program := "ytkbjelchihdajaa", sum := "4e7325a489390f61710b338de6cc9fa8626175175637a81523160679094d30b2", func := "loop.example/trafficguard/laws.FnAccountSame", spec := "fnAccountSame", apart := false, narrowed := true }
def FnAccountSameUptoSaid : Prop := fnAccountSameUptoRow.holds Try.pinned (OpenSpec.upto fnAccountSameSpec)

/-- 'laws.FnReserveTwo', WHERE WHAT IT READS IS OF BULK AT MOST 1048576: true; the input reads as it did. -/
def fnReserveTwoUptoRow : OpenClaim := { program := "ytkbjelchihdajaa", sum := "4e7325a489390f61710b338de6cc9fa8626175175637a81523160679094d30b2", func := "loop.example/trafficguard/laws.FnReserveTwo", spec := "fnReserveTwo", apart := false, narrowed := true }
def FnReserveTwoUptoSaid : Prop := fnReserveTwoUptoRow.holds Try.pinned (OpenSpec.upto fnReserveTwoSpec)

/-- 'laws.FnReserveOther', WHERE WHAT IT READS IS OF BULK AT MOST 1048576: true; the input reads as it did. -/
def fnReserveOtherUptoRow : OpenClaim := { program := "ytkbjelchihdajaa", sum := "4e7325a489390f61710b338de6cc9fa8626175175637a81523160679094d30b2", func := "loop.example/trafficguard/laws.FnReserveOther", spec := "fnReserveOther", apart := false, narrowed := true }
def FnReserveOtherUptoSaid : Prop := fnReserveOtherUptoRow.holds Try.pinned (OpenSpec.upto fnReserveOtherSpec)

/-- 'laws.FnReleaseAll', WHERE WHAT IT READS IS OF BULK AT MOST 1048576: true; the input reads as it did. -/
def fnReleaseAllUptoRow : OpenClaim := { program := "ytkbjelchihdajaa", sum := "4e7325a489390f61710b338de6cc9fa8626175175637a81523160679094d30b2", func := "loop.example/trafficguard/laws.FnReleaseAll", spec := "fnReleaseAll", apart := false, narrowed := true }
def FnReleaseAllUptoSaid : Prop := fnReleaseAllUptoRow.holds Try.pinned (OpenSpec.upto fnReleaseAllSpec)

/-- 'laws.FnSharesMore', WHERE WHAT IT READS IS OF BULK AT MOST 1048576: true; the input reads as it did. -/
def fnSharesMoreUptoRow : OpenClaim := { program := "ytkbjelchihdajaa", sum := "4e7325a489390f61710b338de6cc9fa8626175175637a81523160679094d30b2", func := "loop.example/trafficguard/laws.FnSharesMore", spec := "fnSharesMore", apart := false, narrowed := true }
def FnSharesMoreUptoSaid : Prop := fnSharesMoreUptoRow.holds Try.pinned (OpenSpec.upto fnSharesMoreSpec)

end Rows
end Go.Proofs.Ytkbjelchihdajaa
