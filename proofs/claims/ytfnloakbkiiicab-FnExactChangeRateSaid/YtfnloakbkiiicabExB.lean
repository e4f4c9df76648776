/-
  What the exact laws do with buckets: copies and comparison. Conditions: none.
-/
import Derived.Test.YtfnloakbkiiicabBktM
import Derived.Lib.SmallJoins
namespace Go.Proofs.Ytfnloakbkiiicab
open Go.RowKit

set_option maxHeartbeats 400000 in
theorem toBucket_any (r s l t : Int) (w : World) :
    Calls Try.prog 29 #[.agg #[.int .i64 r, .int .i64 s, .int .i64 l, .int .i64 t]] w fun e w' => e = .returned (.agg #[.int .i64 r, .int .i64 s, .int .i64 l, .int .i64 t]) ∧ Below w.heap.size w w' := by
  go_enter Try.func29, Try.ntmps29
  go_wp2
  refine bodyPost_ret (v := .agg #[.int .i64 r, .int .i64 s, .int .i64 l, .int .i64 t]) (by simp [results, Try.results29, go_sem]) rfl ⟨rfl, ?_⟩
  exact below_alloc (below_alloc (below_alloc (Below.refl _ _) _) _) _
set_option maxHeartbeats 400000 in
theorem eqBucket_same (r s l t : Int) (w : World) :
    Calls Try.prog 27 #[.agg #[.int .i64 r, .int .i64 s, .int .i64 l, .int .i64 t], .agg #[.int .i64 r, .int .i64 s, .int .i64 l, .int .i64 t]] w fun e w' => e = .returned (.bool true) ∧ Below w.heap.size w w' := by
  go_enter Try.func27, Try.ntmps27
  go_wp2
  go_ret
  exact ⟨rfl, below_alloc (below_alloc (Below.refl _ _) _) _⟩
end Go.Proofs.Ytfnloakbkiiicab
