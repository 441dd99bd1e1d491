/- Contracts and facts, put together (part 9). Conditions: each says its own. -/
import Derived.Test.YthiimllafcfieaaQ8

/- Two equal surds are told as equal. -/
namespace Go.Proofs.Ythiimllafcfieaa
open Go.ChangeShapes Go.WideShapes Go.ChangeAt Go.RowKit

set_option maxRecDepth 100000 in
set_option maxHeartbeats 400000 in
theorem eqSurd_same (s0 s1 : Int) (w : World) :
    Calls Try.prog 44 #[.agg #[.int .i64 s0, .int .i64 s1], .agg #[.int .i64 s0, .int .i64 s1]] w fun e w' => e = .returned (.bool true) ∧ Below w.heap.size w w' := by
  go_enter Try.func44, Try.ntmps44
  go_wp2
  go_returns
  exact ⟨rfl, by go_grown⟩

end Go.Proofs.Ythiimllafcfieaa
