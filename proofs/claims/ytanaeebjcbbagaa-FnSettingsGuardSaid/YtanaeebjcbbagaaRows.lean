/-
  No cell of these rows narrows 'for every input' (looked for: loops, veiled, ifaces, maps, wideKeys, modest, calm, conditions, laid).
  DERIVED. THE GIVEN ROWS OF THIS SEAT. 5 by the template 'for every input the law returns true; each argument reads behind the call as it read before'; 0 by the template 'total and deterministic' (their statements: YtanaeebjcbbagaaTotals.lean).
  GIVEN WITH THE SEED: the statements are not yours to turn. If you find one false, say at which input.
  Laid BY PROGRAM, IN A SANDBOX (cutbox-rows.mjs): the forced cells as the released guide's own fill.sh prints them over the translation a6f84c86cc6ba1ee… (all of the seat's roots in one cut). By AI agents, Wed Nov 11 2026. No macro, syntax, notation, axiom, sorry.
-/
import Derived.Test.YtanaeebjcbbagaaChecked
import GoSem.Claim
import GoSem.ClaimJoined
import GoSem.ClaimMapViews
import Derived.JoinedTies
import Derived.KernelRfl
namespace Go.Proofs.Ytanaeebjcbbagaa
/- THE CELL 'sum', in the pinned program and in every row, IS THE sha256 OF THE DUMP (.gsa) THAT YtanaeebjcbbagaaProg.lean LOADS. Nothing in Lean hashes anything: it is a label: what it is worth is what the hold of that sum in a sandbox is worth. -/
noncomputable def Try.pinned : Pinned := { name := "ytanaeebjcbbagaa", sum := "a6f84c86cc6ba1ee6cff408522c1d4eab4fc124ed655becc00e95643ee141cfd", checked := Try.checked }
namespace Rows
def none {H : Type} : Left H := { results := [], args := [] }

/-- 'laws.FnSettingsGuard': WHATEVER THE INPUT: true; the input reads as it did. -/
def fnSettingsGuardSpec : ChangeSpec := { name := "fnSettingsGuard", fn := fun _ => fun
  | [d] => { results := [.lit (.bool true)], args := [d] }
  | _ => none }
def fnSettingsGuardRow : OpenClaim := { program := "ytanaeebjcbbagaa", sum := "a6f84c86cc6ba1ee6cff408522c1d4eab4fc124ed655becc00e95643ee141cfd", func := "loop.example/trafficguard/laws.FnSettingsGuard", spec := "fnSettingsGuard", apart := false }
def FnSettingsGuardSaid : Prop := fnSettingsGuardRow.holds Try.pinned (OpenSpec.ofChange fnSettingsGuardSpec)

/-- ITS FALSE NEIGHBOUR: 'it returns false'. Refute it at one input. -/
def fnSettingsGuardWrong : ChangeSpec := { name := "fnSettingsGuard", fn := fun _ => fun
  | [d] => { results := [.lit (.bool false)], args := [d] }
  | _ => none }
def FnSettingsGuardWrongFalsely : Prop := fnSettingsGuardRow.holds Try.pinned (OpenSpec.ofChange fnSettingsGuardWrong)

/-- 'laws.FnNewGuard': WHATEVER THE INPUT: true; the input reads as it did. -/
def fnNewGuardSpec : ChangeSpec := { name := "fnNewGuard", fn := fun _ => fun
  | [d1, d2] => { results := [.lit (.bool true)], args := [d1, d2] }
  | _ => none }
def fnNewGuardRow : OpenClaim := { program := "ytanaeebjcbbagaa", sum := "a6f84c86cc6ba1ee6cff408522c1d4eab4fc124ed655becc00e95643ee141cfd", func := "loop.example/trafficguard/laws.FnNewGuard", spec := "fnNewGuard", unfollowed := true, recurses := true, apart := false }
def FnNewGuardSaid : Prop := fnNewGuardRow.holds Try.pinned (OpenSpec.ofChange fnNewGuardSpec)

/-- ITS FALSE NEIGHBOUR: 'it returns false'. Refute it at one input. -/
def fnNewGuardWrong : ChangeSpec := { name := "fnNewGuard", fn := fun _ => fun
  | [d1, d2] => { results := [.lit (.bool false)], args := [d1, d2] }
  | _ => none }
def FnNewGuardWrongFalsely : Prop := fnNewGuardRow.holds Try.pinned (OpenSpec.ofChange fnNewGuardWrong)

/-- 'laws.FnFastBan': WHATEVER THE INPUT: true; the input reads as it did. -/
def fnFastBanSpec : ChangeSpec := { name := "fnFastBan", fn := fun _ => fun
  | [d] => { results := [.lit (.bool true)], args := [d] }
  | _ => none }
def fnFastBanRow : OpenClaim := { program := "ytanaeebjcbbagaa", sum := "a6f84c86cc6ba1ee6cff408522c1d4eab4fc124ed655becc00e95643ee141cfd", func := "loop.example/trafficguard/laws.FnFastBan", spec := "fnFastBan", unfollowed := true, recurses := true, apart := false }
def FnFastBanSaid : Prop := fnFastBanRow.holds Try.pinned (OpenSpec.ofChange fnFastBanSpec)

/-- ITS FALSE NEIGHBOUR: 'it returns false'. Refute it at one input. -/
def fnFastBanWrong : ChangeSpec := { name := "fnFastBan", fn := fun _ => fun
  | [d] => { results := [.lit (.bool false)], args := [d] }
  | _ => none }
def FnFastBanWrongFalsely : Prop := fnFastBanRow.holds Try.pinned (OpenSpec.ofChange fnFastBanWrong)

/-- 'laws.FnBytesOf': WHATEVER THE INPUT: true; the input reads as it did. -/
def fnBytesOfSpec : ChangeSpec := { name := "fnBytesOf", fn := fun _ => fun
  | [d] => { results := [.lit (.bool true)], args := [d] }
  | _ => none }
def fnBytesOfRow : OpenClaim := { program := "ytanaeebjcbbagaa", sum := "a6f84c86cc6ba1ee6cff408522c1d4eab4fc124ed655becc00e95643ee141cfd", func := "loop.example/trafficguard/laws.FnBytesOf", spec := "fnBytesOf", apart := false }
def FnBytesOfSaid : Prop := fnBytesOfRow.holds Try.pinned (OpenSpec.ofChange fnBytesOfSpec)

/-- ITS FALSE NEIGHBOUR: 'it returns false'. Refute it at one input. -/
def fnBytesOfWrong : ChangeSpec := { name := "fnBytesOf", fn := fun _ => fun
  | [d] => { results := [.lit (.bool false)], args := [d] }
  | _ => none }
def FnBytesOfWrongFalsely : Prop := fnBytesOfRow.holds Try.pinned (OpenSpec.ofChange fnBytesOfWrong)

/-- 'laws.FnGuardSame': WHATEVER THE INPUT: true; the input reads as it did. -/
def fnGuardSameSpec : ChangeSpec := { name := "fnGuardSame", fn := fun _ => fun
  | [d] => { results := [.lit (.bool true)], args := [d] }
  | _ => none }
def fnGuardSameRow : OpenClaim := { program := "ytanaeebjcbbagaa", sum := "a6f84c86cc6ba1ee6cff408522c1d4eab4fc124ed655becc00e95643ee141cfd", func := "loop.example/trafficguard/laws.FnGuardSame", spec := "fnGuardSame", unfollowed := true, recurses := true, apart := false }
def FnGuardSameSaid : Prop := fnGuardSameRow.holds Try.pinned (OpenSpec.ofChange fnGuardSameSpec)

/-- ITS FALSE NEIGHBOUR: 'it returns false'. Refute it at one input. -/
def fnGuardSameWrong : ChangeSpec := { name := "fnGuardSame", fn := fun _ => fun
  | [d] => { results := [.lit (.bool false)], args := [d] }
  | _ => none }
def FnGuardSameWrongFalsely : Prop := fnGuardSameRow.holds Try.pinned (OpenSpec.ofChange fnGuardSameWrong)

/- THE SECOND FORM. 'bulk': how many values and letters a reading holds, each counted each time it is reached (what is shared counts as often as it is met; a slice's spare places count too). A statement '..UptoSaid' is the law's where the arguments, and the package variables that the reading takes, are together of bulk at most 1048576: NARROWER than '..Said'. Prove '..Said' where nothing that the law and all that it calls make is longer than what came in: it says more and counts as full. Else prove '..UptoSaid'. A law counts once. -/
mutual
def uptoBulk {H : Type} : DataW H → Nat
  | .lit (.string bytes) => bytes.length + 1
  | .lit _ => 1
  | .nil => 1
  | .ptr d => uptoBulk d + 1
  | .slice elems spare => uptoBulkAll elems + uptoBulkAll spare + 1
  | .agg parts => uptoBulkAll parts + 1
  | .iface _ d => uptoBulk d + 1
  | .map entries => uptoBulkEntries entries + 1
  | .held _ => 1
def uptoBulkAll {H : Type} : List (DataW H) → Nat
  | [] => 0
  | d :: r => uptoBulk d + uptoBulkAll r
def uptoBulkEntries {H : Type} : List (Lit × DataW H) → Nat
  | [] => 0
  | x :: r => uptoBulkEntry x + uptoBulkEntries r
def uptoBulkEntry {H : Type} : Lit × DataW H → Nat
  | (.string bytes, d) => bytes.length + uptoBulk d + 1
  | (_, d) => uptoBulk d + 1
 end
def uptoSmall : (H : Type) → List (DataW H) → Bool := fun _ ds => decide (uptoBulkAll ds ≤ 1048576)
def OpenSpec.upto (s : _root_.Go.ChangeSpec) : _root_.Go.OpenSpec := { _root_.Go.OpenSpec.ofChange s with cond := some uptoSmall }

/-- 'laws.FnSettingsGuard', WHERE WHAT IT READS IS OF BULK AT MOST 1048576: true; the input reads as it did. -/
def fnSettingsGuardUptoRow : OpenClaim := { program := "ytanaeebjcbbagaa", sum := "a6f84c86cc6ba1ee6cff408522c1d4eab4fc124ed655becc00e95643ee141cfd", func := "loop.example/trafficguard/laws.FnSettingsGuard", spec := "fnSettingsGuard", apart := false, narrowed := true }
def FnSettingsGuardUptoSaid : Prop := fnSettingsGuardUptoRow.holds Try.pinned (OpenSpec.upto fnSettingsGuardSpec)

/-- 'laws.FnNewGuard', WHERE WHAT IT READS IS OF BULK AT MOST 1048576: true; the input reads as it did. -/
def fnNewGuardUptoRow : OpenClaim := { program := "ytanaeebjcbbagaa", sum := "a6f84c86cc6ba1ee6cff408522c1d4eab4fc124ed655becc00e95643ee141cfd", func := "loop.example/trafficguard/laws.FnNewGuard", spec := "fnNewGuard", unfollowed := true, recurses := true, apart := false, narrowed := true }
def FnNewGuardUptoSaid : Prop := fnNewGuardUptoRow.holds Try.pinned (OpenSpec.upto fnNewGuardSpec)

/-- 'laws.FnFastBan', WHERE WHAT IT READS IS OF BULK AT MOST 1048576: true; the input reads as it did. -/
def fnFastBanUptoRow : OpenClaim := { program := "ytanaeebjcbbagaa", sum := "a6f84c86cc6ba1ee6cff408522c1d4eab4fc124ed655becc00e95643ee141cfd", func := "loop.example/trafficguard/laws.FnFastBan", spec := "fnFastBan", unfollowed := true, recurses := true, apart := false, narrowed := true }
def FnFastBanUptoSaid : Prop := fnFastBanUptoRow.holds Try.pinned (OpenSpec.upto fnFastBanSpec)

/-- 'laws.FnBytesOf', WHERE WHAT IT READS IS OF BULK AT MOST 1048576: true; the input reads as it did. -/
def fnBytesOfUptoRow : OpenClaim := { program := "ytanaeebjcbbagaa", sum := "a6f84c86cc6ba1ee6cff408522c1d4eab4fc124ed655becc00e95643ee141cfd", func := "loop.example/trafficguard/laws.FnBytesOf", spec := "fnBytesOf", apart := false, narrowed := true }
def FnBytesOfUptoSaid : Prop := fnBytesOfUptoRow.holds Try.pinned (OpenSpec.upto fnBytesOfSpec)

/-- 'laws.FnGuardSame', WHERE WHAT IT READS IS OF BULK AT MOST 1048576: true; the input reads as it did. -/
def fnGuardSameUptoRow : OpenClaim := { program := "ytanaeebjcbbagaa", sum := "a6f84c86cc6ba1ee6cff408522c1d4eab4fc124ed655becc00e95643ee141cfd", func := "loop.example/trafficguard/laws.FnGuardSame", spec := "fnGuardSame", unfollowed := true, recurses := true, apart := false, narrowed := true }
def FnGuardSameUptoSaid : Prop := fnGuardSameUptoRow.holds Try.pinned (OpenSpec.upto fnGuardSameSpec)

end Rows
end Go.Proofs.Ytanaeebjcbbagaa
