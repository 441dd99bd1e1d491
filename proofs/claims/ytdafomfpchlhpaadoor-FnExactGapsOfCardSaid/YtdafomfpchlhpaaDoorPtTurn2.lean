/- Contracts: TurnPoint and HeadingPoint, in the model and in the program; a product of two points in the program. -/
import Derived.Test.YtdafomfpchlhpaaDoorPtTurn
import Derived.Lib.Hide
namespace Go.Proofs.YtdafomfpchlhpaaDoor
open Go.ChangeShapes Go.WideShapes Go.ChangeAt Go.RowKit

theorem mul_bd (a b : Int) (h0 : -999999 ≤ a) (h1 : a ≤ 999999) (k0 : -999999 ≤ b) (k1 : b ≤ 999999) : -999998000001 ≤ a * b ∧ a * b ≤ 999998000001 := by
  have ha : a.natAbs ≤ 999999 := by omega
  have hb : b.natAbs ≤ 999999 := by omega
  have hm : (a * b).natAbs ≤ 999998000001 := by rw [Int.natAbs_mul]; exact Nat.mul_le_mul ha hb
  omega

def tm0 (a0 a1 a2 a3 : Int) (b0 b1 b2 b3 : Int) : Int := a0 * b0 - a1 * b3 - a2 * b2 - a3 * b1

def tm1 (a0 a1 a2 a3 : Int) (b0 b1 b2 b3 : Int) : Int := a0 * b1 + a1 * b0 - a2 * b3 - a3 * b2

def tm2 (a0 a1 a2 a3 : Int) (b0 b1 b2 b3 : Int) : Int := a0 * b2 + a1 * b1 + a2 * b0 - a3 * b3

def tm3 (a0 a1 a2 a3 : Int) (b0 b1 b2 b3 : Int) : Int := a0 * b3 + a1 * b2 + a2 * b1 + a3 * b0

set_option maxRecDepth 100000 in
set_option maxHeartbeats 3200000 in
theorem imTimes_any (a0 a1 a2 a3 : Int) (b0 b1 b2 b3 : Int) (pa0 : -999999 ≤ a0) (qa0 : a0 ≤ 999999) (pa1 : -999999 ≤ a1) (qa1 : a1 ≤ 999999) (pa2 : -999999 ≤ a2) (qa2 : a2 ≤ 999999) (pa3 : -999999 ≤ a3) (qa3 : a3 ≤ 999999) (pb0 : -999999 ≤ b0) (qb0 : b0 ≤ 999999) (pb1 : -999999 ≤ b1) (qb1 : b1 ≤ 999999) (pb2 : -999999 ≤ b2) (qb2 : b2 ≤ 999999) (pb3 : -999999 ≤ b3) (qb3 : b3 ≤ 999999) (w : World) :
    Calls Tryd.prog 124 #[.agg #[.int .i64 a0, .int .i64 a1, .int .i64 a2, .int .i64 a3], .agg #[.int .i64 b0, .int .i64 b1, .int .i64 b2, .int .i64 b3]] w fun e w' => e = .returned (.agg #[.int .i64 (tm0 a0 a1 a2 a3 b0 b1 b2 b3), .int .i64 (tm1 a0 a1 a2 a3 b0 b1 b2 b3), .int .i64 (tm2 a0 a1 a2 a3 b0 b1 b2 b3), .int .i64 (tm3 a0 a1 a2 a3 b0 b1 b2 b3)]) ∧ Below w.heap.size w w' := by
  obtain ⟨l00, u00⟩ := mul_bd a0 b0 pa0 qa0 pb0 qb0
  obtain ⟨l01, u01⟩ := mul_bd a0 b1 pa0 qa0 pb1 qb1
  obtain ⟨l02, u02⟩ := mul_bd a0 b2 pa0 qa0 pb2 qb2
  obtain ⟨l03, u03⟩ := mul_bd a0 b3 pa0 qa0 pb3 qb3
  obtain ⟨l10, u10⟩ := mul_bd a1 b0 pa1 qa1 pb0 qb0
  obtain ⟨l11, u11⟩ := mul_bd a1 b1 pa1 qa1 pb1 qb1
  obtain ⟨l12, u12⟩ := mul_bd a1 b2 pa1 qa1 pb2 qb2
  obtain ⟨l13, u13⟩ := mul_bd a1 b3 pa1 qa1 pb3 qb3
  obtain ⟨l20, u20⟩ := mul_bd a2 b0 pa2 qa2 pb0 qb0
  obtain ⟨l21, u21⟩ := mul_bd a2 b1 pa2 qa2 pb1 qb1
  obtain ⟨l22, u22⟩ := mul_bd a2 b2 pa2 qa2 pb2 qb2
  obtain ⟨l23, u23⟩ := mul_bd a2 b3 pa2 qa2 pb3 qb3
  obtain ⟨l30, u30⟩ := mul_bd a3 b0 pa3 qa3 pb0 qb0
  obtain ⟨l31, u31⟩ := mul_bd a3 b1 pa3 qa3 pb1 qb1
  obtain ⟨l32, u32⟩ := mul_bd a3 b2 pa3 qa3 pb2 qb2
  obtain ⟨l33, u33⟩ := mul_bd a3 b3 pa3 qa3 pb3 qb3
  go_enter Tryd.func124, Tryd.ntmps124
  go_wp2
  go_returns
  exact ⟨rfl, by go_grown⟩

end Go.Proofs.YtdafomfpchlhpaaDoor
