/- Contracts: what is a yard, what is a run on it. -/
import Derived.Test.YtoaccnpkobbaaaaDoorYGd
import Derived.Test.YtoaccnpkobbaaaaDoorClY
namespace Go.Proofs.YtoaccnpkobbaaaaDoor
open Go.ChangeShapes Go.WideShapes Go.ChangeAt Go.RowKit
open Yd

set_option linter.unusedVariables false

/-- A run asked for: in the model and in the program. -/
theorem rnB_no {ks rs ss : List Int} {a : Int} (h : ydB ks rs = false) : rnB ks rs a ss = false := by simp [rnB, h]

end Go.Proofs.YtoaccnpkobbaaaaDoor
