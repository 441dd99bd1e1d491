/- Contracts: TurnPoint, in the model and in the program. -/
import Derived.Test.YtdafomfpchlhpaaDoorPtTurn2
import Derived.Test.YtdafomfpchlhpaaDoorCl
namespace Go.Proofs.YtdafomfpchlhpaaDoor
open Go.ChangeShapes Go.WideShapes Go.ChangeAt Go.RowKit

def tuG (a0 a1 a2 a3 : Int) (k : Int) : Bool := goodB a0 a1 a2 a3 && inB k 0 7

theorem tu_bd0 (k : Int) (h0 : 0 ≤ k) (h7 : k ≤ 7) : -999999 ≤ tu0 k 1 0 0 0 ∧ tu0 k 1 0 0 0 ≤ 999999 := by
  rcases eight k h0 h7 with rfl | rfl | rfl | rfl | rfl | rfl | rfl | rfl <;> simp [tu0]

theorem tm_tu0 (a0 a1 a2 a3 : Int) (k : Int) (h0 : 0 ≤ k) (h7 : k ≤ 7) : tm0 a0 a1 a2 a3 (tu0 k 1 0 0 0) (tu1 k 1 0 0 0) (tu2 k 1 0 0 0) (tu3 k 1 0 0 0) = tu0 k a0 a1 a2 a3 := by
  rcases eight k h0 h7 with rfl | rfl | rfl | rfl | rfl | rfl | rfl | rfl <;> simp [tm0, tu0, tu1, tu2, tu3]

theorem tu_bd1 (k : Int) (h0 : 0 ≤ k) (h7 : k ≤ 7) : -999999 ≤ tu1 k 1 0 0 0 ∧ tu1 k 1 0 0 0 ≤ 999999 := by
  rcases eight k h0 h7 with rfl | rfl | rfl | rfl | rfl | rfl | rfl | rfl <;> simp [tu1]

theorem tm_tu1 (a0 a1 a2 a3 : Int) (k : Int) (h0 : 0 ≤ k) (h7 : k ≤ 7) : tm1 a0 a1 a2 a3 (tu0 k 1 0 0 0) (tu1 k 1 0 0 0) (tu2 k 1 0 0 0) (tu3 k 1 0 0 0) = tu1 k a0 a1 a2 a3 := by
  rcases eight k h0 h7 with rfl | rfl | rfl | rfl | rfl | rfl | rfl | rfl <;> simp [tm1, tu0, tu1, tu2, tu3]

theorem tu_bd2 (k : Int) (h0 : 0 ≤ k) (h7 : k ≤ 7) : -999999 ≤ tu2 k 1 0 0 0 ∧ tu2 k 1 0 0 0 ≤ 999999 := by
  rcases eight k h0 h7 with rfl | rfl | rfl | rfl | rfl | rfl | rfl | rfl <;> simp [tu2]

theorem tm_tu2 (a0 a1 a2 a3 : Int) (k : Int) (h0 : 0 ≤ k) (h7 : k ≤ 7) : tm2 a0 a1 a2 a3 (tu0 k 1 0 0 0) (tu1 k 1 0 0 0) (tu2 k 1 0 0 0) (tu3 k 1 0 0 0) = tu2 k a0 a1 a2 a3 := by
  rcases eight k h0 h7 with rfl | rfl | rfl | rfl | rfl | rfl | rfl | rfl <;> simp [tm2, tu0, tu1, tu2, tu3]

theorem tu_bd3 (k : Int) (h0 : 0 ≤ k) (h7 : k ≤ 7) : -999999 ≤ tu3 k 1 0 0 0 ∧ tu3 k 1 0 0 0 ≤ 999999 := by
  rcases eight k h0 h7 with rfl | rfl | rfl | rfl | rfl | rfl | rfl | rfl <;> simp [tu3]

theorem tm_tu3 (a0 a1 a2 a3 : Int) (k : Int) (h0 : 0 ≤ k) (h7 : k ≤ 7) : tm3 a0 a1 a2 a3 (tu0 k 1 0 0 0) (tu1 k 1 0 0 0) (tu2 k 1 0 0 0) (tu3 k 1 0 0 0) = tu3 k a0 a1 a2 a3 := by
  rcases eight k h0 h7 with rfl | rfl | rfl | rfl | rfl | rfl | rfl | rfl <;> simp [tm3, tu0, tu1, tu2, tu3]

end Go.Proofs.YtdafomfpchlhpaaDoor
