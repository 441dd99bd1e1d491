/- What is let out: a number, or 0. -/
import Derived.Test.YtoenkgenoloihaaDoorProg
import Derived.WalkKit
namespace Go.Proofs.YtoenkgenoloihaaDoor
def sel (g : Bool) (a : Int) : Int := cond g a 0
end Go.Proofs.YtoenkgenoloihaaDoor
