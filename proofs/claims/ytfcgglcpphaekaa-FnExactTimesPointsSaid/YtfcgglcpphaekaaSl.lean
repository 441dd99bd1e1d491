/- What is let out: a number, or 0. -/
import Derived.Test.YtfcgglcpphaekaaProg
import Derived.WalkKit
namespace Go.Proofs.Ytfcgglcpphaekaa
def sel (g : Bool) (a : Int) : Int := cond g a 0
end Go.Proofs.Ytfcgglcpphaekaa
