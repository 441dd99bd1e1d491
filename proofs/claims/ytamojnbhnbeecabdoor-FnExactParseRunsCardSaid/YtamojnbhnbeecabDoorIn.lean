/- Contract: whether a number lies between two. -/
import Derived.Test.YtamojnbhnbeecabDoorBa
namespace Go.Proofs.YtamojnbhnbeecabDoor
open Go.ChangeShapes Go.WideShapes Go.ChangeAt Go.RowKit

def inB (n lo hi : Int) : Bool := decide (lo ≤ n ∧ n ≤ hi)

end Go.Proofs.YtamojnbhnbeecabDoor
