/- Contracts: the sign of a surd, in the model. -/
import Derived.Test.YtfcgglcpphaekaaSqG
import Derived.Test.YtfcgglcpphaekaaSd
namespace Go.Proofs.Ytfcgglcpphaekaa
open Go.ChangeShapes Go.WideShapes Go.ChangeAt Go.RowKit

def sg (n : Int) : Int := if 0 < n then 1 else if n < 0 then -1 else 0

def ab (n : Int) : Int := if n < 0 then -n else n

def sgn2 (s0 s1 : Int) : Int := cond (G1 s0 s1) (sg s0) (sg s1)

theorem sg_pos {n : Int} (h : 0 < n) : sg n = 1 := by simp [sg, h]

theorem sg_neg {n : Int} (h : n < 0) : sg n = -1 := by
  have h' : ¬ 0 < n := by omega
  simp [sg, h, h']

theorem sg_zero : sg 0 = 0 := rfl

theorem ab_pos {n : Int} (h : 0 < n) : ab n = n := by
  have h' : ¬ n < 0 := by omega
  simp [ab, h']

theorem ab_neg {n : Int} (h : n < 0) : ab n = -n := by simp [ab, h]

theorem G1_neg0 (x y : Int) : G1 (-x) y = G1 x y := by simp [G1, Int.neg_mul_neg]

theorem G1_neg1 (x y : Int) : G1 x (-y) = G1 x y := by simp [G1, Int.neg_mul_neg]

theorem G1_z0 (y : Int) : G1 0 y = false := by
  unfold G1
  have : 0 ≤ y * y := by
    rcases Int.le_total 0 y with h | h
    · exact Int.mul_nonneg h h
    · exact Int.mul_nonneg_of_nonpos_of_nonpos h h
  exact decide_eq_false (by omega)

theorem G1_z1 (x : Int) (h : x ≠ 0) : G1 x 0 = true := by
  unfold G1
  have : 0 < x * x := by
    rcases Int.lt_or_gt_of_ne h with h | h
    · exact Int.mul_pos_of_neg_of_neg h h
    · exact Int.mul_pos h h
  exact decide_eq_true (by omega)

end Go.Proofs.Ytfcgglcpphaekaa
