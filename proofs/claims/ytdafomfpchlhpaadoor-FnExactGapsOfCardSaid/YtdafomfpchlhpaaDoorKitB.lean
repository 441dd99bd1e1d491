/- An argument that is a box, opened to its numbers; boxes copied and compared in the laws. -/
import Derived.Test.YtdafomfpchlhpaaDoorKit
import Derived.Test.YtdafomfpchlhpaaDoorPt
namespace Go.Proofs.YtdafomfpchlhpaaDoor
open Go.ChangeShapes Go.WideShapes Go.ChangeAt Go.RowKit Go.Joins

/-- Two numbers: a box, or a surd. -/
structure Bq where
  x : Int
  r : Int

abbrev bv (b : Bq) : Value := .agg #[.int .i64 b.x, .int .i64 b.r]

end Go.Proofs.YtdafomfpchlhpaaDoor
