/- Contract: which bytes are pieces, in the model. -/
import Derived.Test.YtadlkmfgjmcgeabProg
import Derived.WalkKit
import Derived.ProofKit
import Derived.Handy
namespace Go.Proofs.Ytadlkmfgjmcgeab
open Go.ChangeShapes Go.WideShapes Go.ChangeAt Go.RowKit

def pcB (c : Int) : Bool := decide (c = 83 ∨ c = 76 ∨ c = 82)

end Go.Proofs.Ytadlkmfgjmcgeab
