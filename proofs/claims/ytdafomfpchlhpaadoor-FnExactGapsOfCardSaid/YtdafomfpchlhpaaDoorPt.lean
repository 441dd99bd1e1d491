/- Contracts for points: which numbers are a point's, in the model and in the program; a point is handed on and compared. -/
import Derived.Test.YtdafomfpchlhpaaDoorProg
import Derived.Test.YtdafomfpchlhpaaDoorBa
import Derived.WalkKit
import Derived.ProofKit
import Derived.Handy
import Derived.Lib.MinMax
import Derived.Laws.StructEq
import Derived.Deep.QuietTactic
import Derived.BigQuiet
import Derived.WalkLawsBesides
import Derived.WalkSpells
import Derived.Outline
import Derived.StillTailTactics
import Derived.Deep.RegionHeld3
namespace Go.Proofs.YtdafomfpchlhpaaDoor
open Go.ChangeShapes Go.WideShapes Go.ChangeAt Go.RowKit

def goodB (a b c d : Int) : Bool := decide (-999999 ≤ a ∧ a ≤ 999999 ∧ -999999 ≤ b ∧ b ≤ 999999 ∧ -999999 ≤ c ∧ c ≤ 999999 ∧ -999999 ≤ d ∧ d ≤ 999999)

/-- '==' on two points, the model's entry reckoned once. -/
@[go_sem high] theorem eqPt (a0 a1 a2 a3 : Int) (b0 b1 b2 b3 : Int) (w : World) : (binOp .eql 60 (.agg #[.int .i64 a0, .int .i64 a1, .int .i64 a2, .int .i64 a3]) (.agg #[.int .i64 b0, .int .i64 b1, .int .i64 b2, .int .i64 b3])).run Tryd.prog w = .ok (.bool (a0 == b0 && (a1 == b1 && (a2 == b2 && a3 == b3)))) w := by
  have hS : Tryd.prog.underlying 60 = some (.struct (Tryd.prog.fieldsOf 60)) := by kernel_rfl
  have hp : Tryd.prog.stoodInHeld 60 = false := by kernel_rfl
  rw [run_eql_struct, show (10000 : Nat) = 9999 + 1 from rfl, run_equalIn_agg w 9999 60 _ _ hS hp]
  simp only [Program.fieldsOf, Tryd.underlying60]
  go_simp
  by_cases h0 : a0 = b0 <;> by_cases h1 : a1 = b1 <;> by_cases h2 : a2 = b2 <;> by_cases h3 : a3 = b3 <;> simp [h0, h1, h2, h3]

end Go.Proofs.YtdafomfpchlhpaaDoor
