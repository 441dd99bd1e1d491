/- What is let out: a number, or 0. -/
import Derived.Test.YtamojnbhnbeecaaDoorProg
import Derived.WalkKit
namespace Go.Proofs.YtamojnbhnbeecaaDoor
def sel (g : Bool) (a : Int) : Int := cond g a 0
end Go.Proofs.YtamojnbhnbeecaaDoor
