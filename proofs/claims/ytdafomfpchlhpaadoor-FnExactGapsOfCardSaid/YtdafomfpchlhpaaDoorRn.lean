/- Contract: whether a number lies in a range. -/
import Derived.Test.YtdafomfpchlhpaaDoorIn
namespace Go.Proofs.YtdafomfpchlhpaaDoor
open Go.ChangeShapes Go.WideShapes Go.ChangeAt Go.RowKit

set_option maxRecDepth 100000 in
theorem isInRange_any (n lo hi : Int) (w : World) :
    Calls Tryd.prog 58 #[.int .i64 n, .int .i64 lo, .int .i64 hi] w fun e w' => e = .returned (.bool (inB n lo hi)) ∧ w = w' := by
  go_enter Tryd.func58, Tryd.ntmps58
  go_wp2
  · go_ret
    exact ⟨by simp [inB, *], rfl⟩
  · go_ret
    exact ⟨by simp [inB]; omega, rfl⟩

end Go.Proofs.YtdafomfpchlhpaaDoor
