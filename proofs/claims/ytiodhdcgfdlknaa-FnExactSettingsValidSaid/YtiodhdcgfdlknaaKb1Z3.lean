/-
  Rows of buckets: appends, copies, equality. Conditions: the rows have at most 4000000000 of them. Rows of scores: appends, copies, equality. Conditions: the rows have at most 4000000000 of them.
  Conditions: each lemma says them.
-/
import Derived.Test.YtiodhdcgfdlknaaKaZ3
import Derived.Test.YtiodhdcgfdlknaaKbZ3
import Derived.Lib.SliceRun
namespace Go.Proofs.Ytiodhdcgfdlknaa
open Go.RowKit
theorem infoPktB : (Try.prog.info? 32).map (fun i => (i.zero, i.size, i.bytes)) = some (some (.agg #[.int .i64 0, .int .i64 0, .int .i64 0, .int .i64 0]), 4, 32) := by kernel_rfl
end Go.Proofs.Ytiodhdcgfdlknaa
namespace Go.Proofs.Ytiodhdcgfdlknaa
open Go.RowKit
theorem infoPktS : (Try.prog.info? 84).map (fun i => (i.zero, i.size, i.bytes)) = some (some (.agg #[.int .i64 0, .int .i64 0, .int .i64 0, .int .i64 0]), 4, 32) := by kernel_rfl
end Go.Proofs.Ytiodhdcgfdlknaa
