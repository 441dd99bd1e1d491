/- Contracts: SignOfSurd and CompareSurds, in the model and in the program. -/
import Derived.Test.YtfcgglcpphaekaaSqI
namespace Go.Proofs.Ytfcgglcpphaekaa
open Go.ChangeShapes Go.WideShapes Go.ChangeAt Go.RowKit

theorem G1_abs (s0 s1 : Int) : G1 s0 s1 = decide (2 * s1.natAbs * s1.natAbs < s0.natAbs * s0.natAbs) := by
  have e0 : ((s0.natAbs * s0.natAbs : Nat) : Int) = s0 * s0 := Int.natAbs_mul_self
  have e1 : ((s1.natAbs * s1.natAbs : Nat) : Int) = s1 * s1 := Int.natAbs_mul_self
  have e2 : 2 * s1.natAbs * s1.natAbs = 2 * (s1.natAbs * s1.natAbs) := Nat.mul_assoc _ _ _
  unfold G1
  rw [decide_eq_decide]
  rw [e2]
  omega

end Go.Proofs.Ytfcgglcpphaekaa
