/- What is let out: a number, or 0. -/
import Derived.Test.YtoenkgenoloihabProg
import Derived.WalkKit
namespace Go.Proofs.Ytoenkgenoloihab
def sel (g : Bool) (a : Int) : Int := cond g a 0
end Go.Proofs.Ytoenkgenoloihab
