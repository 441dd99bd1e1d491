/- Contracts: IsTrack of the model and of the program, as the laws ask for them. -/
import Derived.Test.YtadlkmfgjmcgeabTk
import Derived.Test.YtadlkmfgjmcgeabBa
namespace Go.Proofs.Ytadlkmfgjmcgeab
open Go.ChangeShapes Go.WideShapes Go.ChangeAt Go.RowKit

end Go.Proofs.Ytadlkmfgjmcgeab
