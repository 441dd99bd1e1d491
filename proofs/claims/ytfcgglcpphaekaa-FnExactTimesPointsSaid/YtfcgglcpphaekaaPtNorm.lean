/- Contracts: norms, and twice the numbers to the east and to the north, in the model and in the program. -/
import Derived.Test.YtfcgglcpphaekaaPt2
import Derived.Test.YtfcgglcpphaekaaSl
namespace Go.Proofs.Ytfcgglcpphaekaa
open Go.ChangeShapes Go.WideShapes Go.ChangeAt Go.RowKit

def nm0 (a0 a1 a2 a3 : Int) : Int := wrap64 (wrap64 (wrap64 (wrap64 (a0 * a0) + wrap64 (a1 * a1)) + wrap64 (a2 * a2)) + wrap64 (a3 * a3))

def nm1 (a0 a1 a2 a3 : Int) : Int := wrap64 (wrap64 (wrap64 (wrap64 (a0 * a1) + wrap64 (a1 * a2)) + wrap64 (a2 * a3)) - wrap64 (a0 * a3))

end Go.Proofs.Ytfcgglcpphaekaa
