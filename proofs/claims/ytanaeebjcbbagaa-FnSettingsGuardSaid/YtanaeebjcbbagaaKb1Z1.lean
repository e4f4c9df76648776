/-
  Rows of buckets: appends, copies, equality. Conditions: the rows have at most 4000000000 of them. Rows of scores: appends, copies, equality. Conditions: the rows have at most 4000000000 of them.
  Conditions: each lemma says them.
-/
import Derived.Test.YtanaeebjcbbagaaKaZ1
import Derived.Test.YtanaeebjcbbagaaKbZ1
import Derived.Lib.SliceRun
namespace Go.Proofs.Ytanaeebjcbbagaa
open Go.RowKit
theorem infoPktB : (Try.prog.info? 29).map (fun i => (i.zero, i.size, i.bytes)) = some (some (.agg #[.int .i64 0, .int .i64 0, .int .i64 0, .int .i64 0]), 4, 32) := by kernel_rfl
end Go.Proofs.Ytanaeebjcbbagaa
namespace Go.Proofs.Ytanaeebjcbbagaa
open Go.RowKit
theorem infoPktS : (Try.prog.info? 70).map (fun i => (i.zero, i.size, i.bytes)) = some (some (.agg #[.int .i64 0, .int .i64 0, .int .i64 0, .int .i64 0]), 4, 32) := by kernel_rfl
end Go.Proofs.Ytanaeebjcbbagaa
