/- Contract: which of both is greater, by the continued fraction, in the model. -/
import Derived.Test.YtfcgglcpphaekaaSq
import Derived.Test.YtfcgglcpphaekaaPt2
import Derived.LoopTactic
import Derived.Lib.Hide
namespace Go.Proofs.Ytfcgglcpphaekaa
open Go.ChangeShapes Go.WideShapes Go.ChangeAt Go.RowKit

def GRel (T : Bool) (wh x y : Int) (g : Bool) : Prop := (wh = 1 ∧ T = (G1 x y == g)) ∨ (wh = 2 ∧ T = (G2 x y == g))

theorem q_one {x y : Int} (hy : 0 < y) (h1 : y ≤ x) (h2 : x < 2 * y) : x / y = 1 := by
  have a : 1 ≤ x / y := (Int.le_ediv_iff_mul_le hy).2 (by omega)
  have b : x / y < 2 := (Int.ediv_lt_iff_lt_mul hy).2 (by omega)
  omega

theorem q_two {x y : Int} (hy : 0 < y) (h1 : 2 * y ≤ x) (h2 : x < 3 * y) : x / y = 2 := by
  have a : 2 ≤ x / y := (Int.le_ediv_iff_mul_le hy).2 (by omega)
  have b : x / y < 3 := (Int.ediv_lt_iff_lt_mul hy).2 (by omega)
  omega

theorem q_zero {x y : Int} (hx : 0 < x) (h1 : x < y) : x / y = 0 := Int.ediv_eq_zero_of_lt (by omega) h1

theorem q_ge2 {x y : Int} (hy : 0 < y) (h1 : 2 * y ≤ x) : 2 ≤ x / y := (Int.le_ediv_iff_mul_le hy).2 (by omega)

theorem q_ge3 {x y : Int} (hy : 0 < y) (h1 : 3 * y ≤ x) : 3 ≤ x / y := (Int.le_ediv_iff_mul_le hy).2 (by omega)

theorem q_le1 {x y : Int} (hx : 0 < x) (hy : 0 < y) (h1 : x < 2 * y) : 0 ≤ x / y ∧ x / y ≤ 1 := by
  have b : x / y < 2 := (Int.ediv_lt_iff_lt_mul hy).2 (by omega)
  have a : 0 ≤ x / y := Int.ediv_nonneg (by omega) (by omega)
  omega

theorem q_lex {x y : Int} (hx : 0 < x) : x / y ≤ x := Int.ediv_le_self _ (by omega)

end Go.Proofs.Ytfcgglcpphaekaa
