/- What is let out: a number, or 0. -/
import Derived.Test.YtadlkmfgjmcgeaaProg
import Derived.WalkKit
namespace Go.Proofs.Ytadlkmfgjmcgeaa
def sel (g : Bool) (a : Int) : Int := cond g a 0
end Go.Proofs.Ytadlkmfgjmcgeaa
