/- Contracts: TurnPoint and HeadingPoint, in the model and in the program; a product of two points in the program. -/
import Derived.Test.YtppbbcckijcckabPtTurn
import Derived.Lib.Hide
namespace Go.Proofs.Ytppbbcckijcckab
open Go.ChangeShapes Go.WideShapes Go.ChangeAt Go.RowKit

theorem mul_bd (a b : Int) (h0 : -999999 ≤ a) (h1 : a ≤ 999999) (k0 : -999999 ≤ b) (k1 : b ≤ 999999) : -999998000001 ≤ a * b ∧ a * b ≤ 999998000001 := by
  have ha : a.natAbs ≤ 999999 := by omega
  have hb : b.natAbs ≤ 999999 := by omega
  have hm : (a * b).natAbs ≤ 999998000001 := by rw [Int.natAbs_mul]; exact Nat.mul_le_mul ha hb
  omega

def tm0 (a0 a1 a2 a3 : Int) (b0 b1 b2 b3 : Int) : Int := a0 * b0 - a1 * b3 - a2 * b2 - a3 * b1

def tm1 (a0 a1 a2 a3 : Int) (b0 b1 b2 b3 : Int) : Int := a0 * b1 + a1 * b0 - a2 * b3 - a3 * b2

def tm2 (a0 a1 a2 a3 : Int) (b0 b1 b2 b3 : Int) : Int := a0 * b2 + a1 * b1 + a2 * b0 - a3 * b3

def tm3 (a0 a1 a2 a3 : Int) (b0 b1 b2 b3 : Int) : Int := a0 * b3 + a1 * b2 + a2 * b1 + a3 * b0

end Go.Proofs.Ytppbbcckijcckab
