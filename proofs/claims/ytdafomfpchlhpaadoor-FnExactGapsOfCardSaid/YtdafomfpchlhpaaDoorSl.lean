/- What is let out: a number, or 0. -/
import Derived.Test.YtdafomfpchlhpaaDoorProg
import Derived.WalkKit
namespace Go.Proofs.YtdafomfpchlhpaaDoor
def sel (g : Bool) (a : Int) : Int := cond g a 0
end Go.Proofs.YtdafomfpchlhpaaDoor
