/- Contracts: which surds there are, sums and products of surds, in the model and in the program. -/
import Derived.Test.YtfcgglcpphaekaaPt2
import Derived.Test.YtfcgglcpphaekaaSl
namespace Go.Proofs.Ytfcgglcpphaekaa
open Go.ChangeShapes Go.WideShapes Go.ChangeAt Go.RowKit

def surdB (n s0 s1 : Int) : Bool := inB s0 (-n) n && inB s1 (-n) n

end Go.Proofs.Ytfcgglcpphaekaa
