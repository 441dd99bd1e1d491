/- Contracts for points: which numbers are a point's, in the model and in the program; a point is handed on and compared. -/
import Derived.Test.YtoaccnpkobbaaaaDoorProg
import Derived.Test.YtoaccnpkobbaaaaDoorBa
import Derived.WalkKit
import Derived.ProofKit
import Derived.Handy
import Derived.Lib.MinMax
import Derived.Laws.StructEq
import Derived.Deep.QuietTactic
import Derived.BigQuiet
import Derived.WalkLawsBesides
import Derived.WalkSpells
import Derived.Outline
import Derived.StillTailTactics
import Derived.Deep.RegionHeld3
namespace Go.Proofs.YtoaccnpkobbaaaaDoor
open Go.ChangeShapes Go.WideShapes Go.ChangeAt Go.RowKit

def goodB (a b c d : Int) : Bool := decide (-999999 ≤ a ∧ a ≤ 999999 ∧ -999999 ≤ b ∧ b ≤ 999999 ∧ -999999 ≤ c ∧ c ≤ 999999 ∧ -999999 ≤ d ∧ d ≤ 999999)

end Go.Proofs.YtoaccnpkobbaaaaDoor
