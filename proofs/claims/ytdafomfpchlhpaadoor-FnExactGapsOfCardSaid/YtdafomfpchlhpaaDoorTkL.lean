/- Contracts: IsTrack of the model and of the program, as the laws ask for them. -/
import Derived.Test.YtdafomfpchlhpaaDoorTk
import Derived.Test.YtdafomfpchlhpaaDoorBa
namespace Go.Proofs.YtdafomfpchlhpaaDoor
open Go.ChangeShapes Go.WideShapes Go.ChangeAt Go.RowKit

theorem imIsTrack (s : ByteArray) (hs : s.size ≤ 1048576) (w : World) :
    Calls Tryd.prog 56 #[.string s] w fun e w' => e = .returned (.bool (tkB s)) ∧ Below w.heap.size w w' := grownOf (imIsTrack_any s hs w)

end Go.Proofs.YtdafomfpchlhpaaDoor
