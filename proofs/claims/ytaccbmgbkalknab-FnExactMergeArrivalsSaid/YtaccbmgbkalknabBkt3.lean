/-
  Chapter 2: taking, giving, waiting, changing: what the program's functions and the model's return. Conditions: none; a contract says which case it speaks of.
-/
import Derived.Test.YtaccbmgbkalknabBkt2
import Derived.Deep.DeepCutAuto
namespace Go.Proofs.Ytaccbmgbkalknab
open Go.RowKit

theorem ret_bk2 {a b c d a2 b2 c2 d2 : Int} {o p : Bool} (h0 : a = a2) (h1 : b = b2) (h2 : c = c2) (h3 : d = d2) :
    Ending.returned (.tuple #[.agg #[.int .i64 a, .int .i64 b, .int .i64 c, .int .i64 d], .bool o, .bool p]) = .returned (.tuple #[.agg #[.int .i64 a2, .int .i64 b2, .int .i64 c2, .int .i64 d2], .bool o, .bool p]) := by rw [h0, h1, h2, h3]
end Go.Proofs.Ytaccbmgbkalknab
