/- Contract: the law's equality of two speeds that are the same. -/
import Derived.Test.YtogimjbjdgccnaaDoorBa
namespace Go.Proofs.YtogimjbjdgccnaaDoor
open Go.ChangeShapes Go.WideShapes Go.ChangeAt Go.RowKit

set_option maxRecDepth 100000 in
theorem eqSpeed_same (a b : Int) (w : World) :
    Calls Tryd.prog 41 #[.agg #[.int .i64 a, .int .i64 b], .agg #[.int .i64 a, .int .i64 b]] w fun e w' => e = .returned (.bool true) ∧ Below w.heap.size w w' := by
  go_enter Tryd.func41, Tryd.ntmps41
  go_wp2
  all_goals go_returns
  all_goals exact ⟨by simp, by go_grown⟩

end Go.Proofs.YtogimjbjdgccnaaDoor
