/- What is let out: a number, or 0. -/
import Derived.Test.YtppbbcckijcckaaProg
import Derived.WalkKit
namespace Go.Proofs.Ytppbbcckijcckaa
def sel (g : Bool) (a : Int) : Int := cond g a 0
end Go.Proofs.Ytppbbcckijcckaa
