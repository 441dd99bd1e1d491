/- Contracts: norms, and twice the numbers to the east and to the north, in the model and in the program. -/
import Derived.Test.YtadlkmfgjmcgeabPt2
import Derived.Test.YtadlkmfgjmcgeabSl
namespace Go.Proofs.Ytadlkmfgjmcgeab
open Go.ChangeShapes Go.WideShapes Go.ChangeAt Go.RowKit

def nm0 (a0 a1 a2 a3 : Int) : Int := wrap64 (wrap64 (wrap64 (wrap64 (a0 * a0) + wrap64 (a1 * a1)) + wrap64 (a2 * a2)) + wrap64 (a3 * a3))
def nm1 (a0 a1 a2 a3 : Int) : Int := wrap64 (wrap64 (wrap64 (wrap64 (a0 * a1) + wrap64 (a1 * a2)) + wrap64 (a2 * a3)) - wrap64 (a0 * a3))

set_option maxRecDepth 100000 in
set_option maxHeartbeats 400000 in
theorem spNorm_any (a0 a1 a2 a3 : Int) (w : World) :
    Calls Try.prog 46 #[.agg #[.int .i64 a0, .int .i64 a1, .int .i64 a2, .int .i64 a3]] w fun e w' => e = .returned (.agg #[.int .i64 (nm0 a0 a1 a2 a3), .int .i64 (nm1 a0 a1 a2 a3)]) ∧ Below w.heap.size w w' := by
  go_enter Try.func46, Try.ntmps46
  go_wp2
  go_returns
  exact ⟨rfl, by go_grown⟩

end Go.Proofs.Ytadlkmfgjmcgeab
