/- What is let out: a number, or 0. -/
import Derived.Test.YtppbbcckijcckabProg
import Derived.WalkKit
namespace Go.Proofs.Ytppbbcckijcckab
def sel (g : Bool) (a : Int) : Int := cond g a 0
end Go.Proofs.Ytppbbcckijcckab
