/- What is let out: a number, or 0. -/
import Derived.Test.YtadlkmfgjmcgeabProg
import Derived.WalkKit
namespace Go.Proofs.Ytadlkmfgjmcgeab
def sel (g : Bool) (a : Int) : Int := cond g a 0
end Go.Proofs.Ytadlkmfgjmcgeab
