/- Contracts: a product of two points, in the model and in the program. -/
import Derived.Test.YtkjammpicmbhnaaPtTurn3
import Derived.Deep.DeepCutAuto
namespace Go.Proofs.Ytkjammpicmbhnaa
open Go.ChangeShapes Go.WideShapes Go.ChangeAt Go.RowKit

set_option linter.unusedVariables false
set_option linter.unusedSimpArgs false

theorem w64 (n : Int) (h0 : -9000000000000000000 ≤ n) (h1 : n ≤ 9000000000000000000) : wrap64 n = n := IntWalk.wrap64_in n ⟨by omega, by omega⟩

def rs00 (a0 a1 a2 a3 : Int) (b0 b1 b2 b3 : Int) : Int := b0 * a0
def rs01 (a0 a1 a2 a3 : Int) (b0 b1 b2 b3 : Int) : Int := b0 * a1
def rs02 (a0 a1 a2 a3 : Int) (b0 b1 b2 b3 : Int) : Int := b0 * a2
def rs03 (a0 a1 a2 a3 : Int) (b0 b1 b2 b3 : Int) : Int := b0 * a3
def rs10 (a0 a1 a2 a3 : Int) (b0 b1 b2 b3 : Int) : Int := rs00 a0 a1 a2 a3 b0 b1 b2 b3 + b1 * (-a3)
def rs11 (a0 a1 a2 a3 : Int) (b0 b1 b2 b3 : Int) : Int := rs01 a0 a1 a2 a3 b0 b1 b2 b3 + b1 * a0
def rs12 (a0 a1 a2 a3 : Int) (b0 b1 b2 b3 : Int) : Int := rs02 a0 a1 a2 a3 b0 b1 b2 b3 + b1 * a1
def rs13 (a0 a1 a2 a3 : Int) (b0 b1 b2 b3 : Int) : Int := rs03 a0 a1 a2 a3 b0 b1 b2 b3 + b1 * a2
def rs20 (a0 a1 a2 a3 : Int) (b0 b1 b2 b3 : Int) : Int := rs10 a0 a1 a2 a3 b0 b1 b2 b3 + b2 * (-a2)
def rs21 (a0 a1 a2 a3 : Int) (b0 b1 b2 b3 : Int) : Int := rs11 a0 a1 a2 a3 b0 b1 b2 b3 + b2 * (-a3)
def rs22 (a0 a1 a2 a3 : Int) (b0 b1 b2 b3 : Int) : Int := rs12 a0 a1 a2 a3 b0 b1 b2 b3 + b2 * a0
def rs23 (a0 a1 a2 a3 : Int) (b0 b1 b2 b3 : Int) : Int := rs13 a0 a1 a2 a3 b0 b1 b2 b3 + b2 * a1
def rs30 (a0 a1 a2 a3 : Int) (b0 b1 b2 b3 : Int) : Int := rs20 a0 a1 a2 a3 b0 b1 b2 b3 + b3 * (-a1)
def rs31 (a0 a1 a2 a3 : Int) (b0 b1 b2 b3 : Int) : Int := rs21 a0 a1 a2 a3 b0 b1 b2 b3 + b3 * (-a2)
def rs32 (a0 a1 a2 a3 : Int) (b0 b1 b2 b3 : Int) : Int := rs22 a0 a1 a2 a3 b0 b1 b2 b3 + b3 * (-a3)
def rs33 (a0 a1 a2 a3 : Int) (b0 b1 b2 b3 : Int) : Int := rs23 a0 a1 a2 a3 b0 b1 b2 b3 + b3 * a0

theorem rs_bd (a0 a1 a2 a3 : Int) (b0 b1 b2 b3 : Int) (pa0 : -999999 ≤ a0) (qa0 : a0 ≤ 999999) (pa1 : -999999 ≤ a1) (qa1 : a1 ≤ 999999) (pa2 : -999999 ≤ a2) (qa2 : a2 ≤ 999999) (pa3 : -999999 ≤ a3) (qa3 : a3 ≤ 999999) (pb0 : -999999 ≤ b0) (qb0 : b0 ≤ 999999) (pb1 : -999999 ≤ b1) (qb1 : b1 ≤ 999999) (pb2 : -999999 ≤ b2) (qb2 : b2 ≤ 999999) (pb3 : -999999 ≤ b3) (qb3 : b3 ≤ 999999) :
    (-1000000000000 ≤ rs00 a0 a1 a2 a3 b0 b1 b2 b3 ∧ rs00 a0 a1 a2 a3 b0 b1 b2 b3 ≤ 1000000000000) ∧ (-1000000000000 ≤ rs01 a0 a1 a2 a3 b0 b1 b2 b3 ∧ rs01 a0 a1 a2 a3 b0 b1 b2 b3 ≤ 1000000000000) ∧ (-1000000000000 ≤ rs02 a0 a1 a2 a3 b0 b1 b2 b3 ∧ rs02 a0 a1 a2 a3 b0 b1 b2 b3 ≤ 1000000000000) ∧ (-1000000000000 ≤ rs03 a0 a1 a2 a3 b0 b1 b2 b3 ∧ rs03 a0 a1 a2 a3 b0 b1 b2 b3 ≤ 1000000000000) ∧ (-2000000000000 ≤ rs10 a0 a1 a2 a3 b0 b1 b2 b3 ∧ rs10 a0 a1 a2 a3 b0 b1 b2 b3 ≤ 2000000000000) ∧ (-2000000000000 ≤ rs11 a0 a1 a2 a3 b0 b1 b2 b3 ∧ rs11 a0 a1 a2 a3 b0 b1 b2 b3 ≤ 2000000000000) ∧ (-2000000000000 ≤ rs12 a0 a1 a2 a3 b0 b1 b2 b3 ∧ rs12 a0 a1 a2 a3 b0 b1 b2 b3 ≤ 2000000000000) ∧ (-2000000000000 ≤ rs13 a0 a1 a2 a3 b0 b1 b2 b3 ∧ rs13 a0 a1 a2 a3 b0 b1 b2 b3 ≤ 2000000000000) ∧ (-3000000000000 ≤ rs20 a0 a1 a2 a3 b0 b1 b2 b3 ∧ rs20 a0 a1 a2 a3 b0 b1 b2 b3 ≤ 3000000000000) ∧ (-3000000000000 ≤ rs21 a0 a1 a2 a3 b0 b1 b2 b3 ∧ rs21 a0 a1 a2 a3 b0 b1 b2 b3 ≤ 3000000000000) ∧ (-3000000000000 ≤ rs22 a0 a1 a2 a3 b0 b1 b2 b3 ∧ rs22 a0 a1 a2 a3 b0 b1 b2 b3 ≤ 3000000000000) ∧ (-3000000000000 ≤ rs23 a0 a1 a2 a3 b0 b1 b2 b3 ∧ rs23 a0 a1 a2 a3 b0 b1 b2 b3 ≤ 3000000000000) ∧ (-4000000000000 ≤ rs30 a0 a1 a2 a3 b0 b1 b2 b3 ∧ rs30 a0 a1 a2 a3 b0 b1 b2 b3 ≤ 4000000000000) ∧ (-4000000000000 ≤ rs31 a0 a1 a2 a3 b0 b1 b2 b3 ∧ rs31 a0 a1 a2 a3 b0 b1 b2 b3 ≤ 4000000000000) ∧ (-4000000000000 ≤ rs32 a0 a1 a2 a3 b0 b1 b2 b3 ∧ rs32 a0 a1 a2 a3 b0 b1 b2 b3 ≤ 4000000000000) ∧ (-4000000000000 ≤ rs33 a0 a1 a2 a3 b0 b1 b2 b3 ∧ rs33 a0 a1 a2 a3 b0 b1 b2 b3 ≤ 4000000000000) := by
  obtain ⟨l00, u00⟩ := mul_bd a0 b0 pa0 qa0 pb0 qb0
  obtain ⟨l01, u01⟩ := mul_bd a0 b1 pa0 qa0 pb1 qb1
  obtain ⟨l02, u02⟩ := mul_bd a0 b2 pa0 qa0 pb2 qb2
  obtain ⟨l03, u03⟩ := mul_bd a0 b3 pa0 qa0 pb3 qb3
  obtain ⟨l10, u10⟩ := mul_bd a1 b0 pa1 qa1 pb0 qb0
  obtain ⟨l11, u11⟩ := mul_bd a1 b1 pa1 qa1 pb1 qb1
  obtain ⟨l12, u12⟩ := mul_bd a1 b2 pa1 qa1 pb2 qb2
  obtain ⟨l13, u13⟩ := mul_bd a1 b3 pa1 qa1 pb3 qb3
  obtain ⟨l20, u20⟩ := mul_bd a2 b0 pa2 qa2 pb0 qb0
  obtain ⟨l21, u21⟩ := mul_bd a2 b1 pa2 qa2 pb1 qb1
  obtain ⟨l22, u22⟩ := mul_bd a2 b2 pa2 qa2 pb2 qb2
  obtain ⟨l23, u23⟩ := mul_bd a2 b3 pa2 qa2 pb3 qb3
  obtain ⟨l30, u30⟩ := mul_bd a3 b0 pa3 qa3 pb0 qb0
  obtain ⟨l31, u31⟩ := mul_bd a3 b1 pa3 qa3 pb1 qb1
  obtain ⟨l32, u32⟩ := mul_bd a3 b2 pa3 qa3 pb2 qb2
  obtain ⟨l33, u33⟩ := mul_bd a3 b3 pa3 qa3 pb3 qb3
  have n00 : b0 * -a0 = -(a0 * b0) := by rw [Int.mul_neg, Int.mul_comm]
  have n01 : b0 * -a1 = -(a1 * b0) := by rw [Int.mul_neg, Int.mul_comm]
  have n02 : b0 * -a2 = -(a2 * b0) := by rw [Int.mul_neg, Int.mul_comm]
  have n03 : b0 * -a3 = -(a3 * b0) := by rw [Int.mul_neg, Int.mul_comm]
  have n10 : b1 * -a0 = -(a0 * b1) := by rw [Int.mul_neg, Int.mul_comm]
  have n11 : b1 * -a1 = -(a1 * b1) := by rw [Int.mul_neg, Int.mul_comm]
  have n12 : b1 * -a2 = -(a2 * b1) := by rw [Int.mul_neg, Int.mul_comm]
  have n13 : b1 * -a3 = -(a3 * b1) := by rw [Int.mul_neg, Int.mul_comm]
  have n20 : b2 * -a0 = -(a0 * b2) := by rw [Int.mul_neg, Int.mul_comm]
  have n21 : b2 * -a1 = -(a1 * b2) := by rw [Int.mul_neg, Int.mul_comm]
  have n22 : b2 * -a2 = -(a2 * b2) := by rw [Int.mul_neg, Int.mul_comm]
  have n23 : b2 * -a3 = -(a3 * b2) := by rw [Int.mul_neg, Int.mul_comm]
  have n30 : b3 * -a0 = -(a0 * b3) := by rw [Int.mul_neg, Int.mul_comm]
  have n31 : b3 * -a1 = -(a1 * b3) := by rw [Int.mul_neg, Int.mul_comm]
  have n32 : b3 * -a2 = -(a2 * b3) := by rw [Int.mul_neg, Int.mul_comm]
  have n33 : b3 * -a3 = -(a3 * b3) := by rw [Int.mul_neg, Int.mul_comm]
  have c00 : b0 * a0 = a0 * b0 := Int.mul_comm _ _
  have c01 : b0 * a1 = a1 * b0 := Int.mul_comm _ _
  have c02 : b0 * a2 = a2 * b0 := Int.mul_comm _ _
  have c03 : b0 * a3 = a3 * b0 := Int.mul_comm _ _
  have c10 : b1 * a0 = a0 * b1 := Int.mul_comm _ _
  have c11 : b1 * a1 = a1 * b1 := Int.mul_comm _ _
  have c12 : b1 * a2 = a2 * b1 := Int.mul_comm _ _
  have c13 : b1 * a3 = a3 * b1 := Int.mul_comm _ _
  have c20 : b2 * a0 = a0 * b2 := Int.mul_comm _ _
  have c21 : b2 * a1 = a1 * b2 := Int.mul_comm _ _
  have c22 : b2 * a2 = a2 * b2 := Int.mul_comm _ _
  have c23 : b2 * a3 = a3 * b2 := Int.mul_comm _ _
  have c30 : b3 * a0 = a0 * b3 := Int.mul_comm _ _
  have c31 : b3 * a1 = a1 * b3 := Int.mul_comm _ _
  have c32 : b3 * a2 = a2 * b3 := Int.mul_comm _ _
  have c33 : b3 * a3 = a3 * b3 := Int.mul_comm _ _
  simp only [rs00, rs01, rs02, rs03, rs10, rs11, rs12, rs13, rs20, rs21, rs22, rs23, rs30, rs31, rs32, rs33, n00, n01, n02, n03, n10, n11, n12, n13, n20, n21, n22, n23, n30, n31, n32, n33, c00, c01, c02, c03, c10, c11, c12, c13, c20, c21, c22, c23, c30, c31, c32, c33]
  omega

theorem rs_tm0 (a0 a1 a2 a3 : Int) (b0 b1 b2 b3 : Int) : rs30 a0 a1 a2 a3 b0 b1 b2 b3 = tm0 a0 a1 a2 a3 b0 b1 b2 b3 := by
  have n00 : b0 * -a0 = -(a0 * b0) := by rw [Int.mul_neg, Int.mul_comm]
  have n01 : b0 * -a1 = -(a1 * b0) := by rw [Int.mul_neg, Int.mul_comm]
  have n02 : b0 * -a2 = -(a2 * b0) := by rw [Int.mul_neg, Int.mul_comm]
  have n03 : b0 * -a3 = -(a3 * b0) := by rw [Int.mul_neg, Int.mul_comm]
  have n10 : b1 * -a0 = -(a0 * b1) := by rw [Int.mul_neg, Int.mul_comm]
  have n11 : b1 * -a1 = -(a1 * b1) := by rw [Int.mul_neg, Int.mul_comm]
  have n12 : b1 * -a2 = -(a2 * b1) := by rw [Int.mul_neg, Int.mul_comm]
  have n13 : b1 * -a3 = -(a3 * b1) := by rw [Int.mul_neg, Int.mul_comm]
  have n20 : b2 * -a0 = -(a0 * b2) := by rw [Int.mul_neg, Int.mul_comm]
  have n21 : b2 * -a1 = -(a1 * b2) := by rw [Int.mul_neg, Int.mul_comm]
  have n22 : b2 * -a2 = -(a2 * b2) := by rw [Int.mul_neg, Int.mul_comm]
  have n23 : b2 * -a3 = -(a3 * b2) := by rw [Int.mul_neg, Int.mul_comm]
  have n30 : b3 * -a0 = -(a0 * b3) := by rw [Int.mul_neg, Int.mul_comm]
  have n31 : b3 * -a1 = -(a1 * b3) := by rw [Int.mul_neg, Int.mul_comm]
  have n32 : b3 * -a2 = -(a2 * b3) := by rw [Int.mul_neg, Int.mul_comm]
  have n33 : b3 * -a3 = -(a3 * b3) := by rw [Int.mul_neg, Int.mul_comm]
  have c00 : b0 * a0 = a0 * b0 := Int.mul_comm _ _
  have c01 : b0 * a1 = a1 * b0 := Int.mul_comm _ _
  have c02 : b0 * a2 = a2 * b0 := Int.mul_comm _ _
  have c03 : b0 * a3 = a3 * b0 := Int.mul_comm _ _
  have c10 : b1 * a0 = a0 * b1 := Int.mul_comm _ _
  have c11 : b1 * a1 = a1 * b1 := Int.mul_comm _ _
  have c12 : b1 * a2 = a2 * b1 := Int.mul_comm _ _
  have c13 : b1 * a3 = a3 * b1 := Int.mul_comm _ _
  have c20 : b2 * a0 = a0 * b2 := Int.mul_comm _ _
  have c21 : b2 * a1 = a1 * b2 := Int.mul_comm _ _
  have c22 : b2 * a2 = a2 * b2 := Int.mul_comm _ _
  have c23 : b2 * a3 = a3 * b2 := Int.mul_comm _ _
  have c30 : b3 * a0 = a0 * b3 := Int.mul_comm _ _
  have c31 : b3 * a1 = a1 * b3 := Int.mul_comm _ _
  have c32 : b3 * a2 = a2 * b3 := Int.mul_comm _ _
  have c33 : b3 * a3 = a3 * b3 := Int.mul_comm _ _
  simp only [rs00, rs10, rs20, rs30, tm0, n00, n01, n02, n03, n10, n11, n12, n13, n20, n21, n22, n23, n30, n31, n32, n33, c00, c01, c02, c03, c10, c11, c12, c13, c20, c21, c22, c23, c30, c31, c32, c33]
  omega
theorem rs_tm1 (a0 a1 a2 a3 : Int) (b0 b1 b2 b3 : Int) : rs31 a0 a1 a2 a3 b0 b1 b2 b3 = tm1 a0 a1 a2 a3 b0 b1 b2 b3 := by
  have n00 : b0 * -a0 = -(a0 * b0) := by rw [Int.mul_neg, Int.mul_comm]
  have n01 : b0 * -a1 = -(a1 * b0) := by rw [Int.mul_neg, Int.mul_comm]
  have n02 : b0 * -a2 = -(a2 * b0) := by rw [Int.mul_neg, Int.mul_comm]
  have n03 : b0 * -a3 = -(a3 * b0) := by rw [Int.mul_neg, Int.mul_comm]
  have n10 : b1 * -a0 = -(a0 * b1) := by rw [Int.mul_neg, Int.mul_comm]
  have n11 : b1 * -a1 = -(a1 * b1) := by rw [Int.mul_neg, Int.mul_comm]
  have n12 : b1 * -a2 = -(a2 * b1) := by rw [Int.mul_neg, Int.mul_comm]
  have n13 : b1 * -a3 = -(a3 * b1) := by rw [Int.mul_neg, Int.mul_comm]
  have n20 : b2 * -a0 = -(a0 * b2) := by rw [Int.mul_neg, Int.mul_comm]
  have n21 : b2 * -a1 = -(a1 * b2) := by rw [Int.mul_neg, Int.mul_comm]
  have n22 : b2 * -a2 = -(a2 * b2) := by rw [Int.mul_neg, Int.mul_comm]
  have n23 : b2 * -a3 = -(a3 * b2) := by rw [Int.mul_neg, Int.mul_comm]
  have n30 : b3 * -a0 = -(a0 * b3) := by rw [Int.mul_neg, Int.mul_comm]
  have n31 : b3 * -a1 = -(a1 * b3) := by rw [Int.mul_neg, Int.mul_comm]
  have n32 : b3 * -a2 = -(a2 * b3) := by rw [Int.mul_neg, Int.mul_comm]
  have n33 : b3 * -a3 = -(a3 * b3) := by rw [Int.mul_neg, Int.mul_comm]
  have c00 : b0 * a0 = a0 * b0 := Int.mul_comm _ _
  have c01 : b0 * a1 = a1 * b0 := Int.mul_comm _ _
  have c02 : b0 * a2 = a2 * b0 := Int.mul_comm _ _
  have c03 : b0 * a3 = a3 * b0 := Int.mul_comm _ _
  have c10 : b1 * a0 = a0 * b1 := Int.mul_comm _ _
  have c11 : b1 * a1 = a1 * b1 := Int.mul_comm _ _
  have c12 : b1 * a2 = a2 * b1 := Int.mul_comm _ _
  have c13 : b1 * a3 = a3 * b1 := Int.mul_comm _ _
  have c20 : b2 * a0 = a0 * b2 := Int.mul_comm _ _
  have c21 : b2 * a1 = a1 * b2 := Int.mul_comm _ _
  have c22 : b2 * a2 = a2 * b2 := Int.mul_comm _ _
  have c23 : b2 * a3 = a3 * b2 := Int.mul_comm _ _
  have c30 : b3 * a0 = a0 * b3 := Int.mul_comm _ _
  have c31 : b3 * a1 = a1 * b3 := Int.mul_comm _ _
  have c32 : b3 * a2 = a2 * b3 := Int.mul_comm _ _
  have c33 : b3 * a3 = a3 * b3 := Int.mul_comm _ _
  simp only [rs01, rs11, rs21, rs31, tm1, n00, n01, n02, n03, n10, n11, n12, n13, n20, n21, n22, n23, n30, n31, n32, n33, c00, c01, c02, c03, c10, c11, c12, c13, c20, c21, c22, c23, c30, c31, c32, c33]
  omega
theorem rs_tm2 (a0 a1 a2 a3 : Int) (b0 b1 b2 b3 : Int) : rs32 a0 a1 a2 a3 b0 b1 b2 b3 = tm2 a0 a1 a2 a3 b0 b1 b2 b3 := by
  have n00 : b0 * -a0 = -(a0 * b0) := by rw [Int.mul_neg, Int.mul_comm]
  have n01 : b0 * -a1 = -(a1 * b0) := by rw [Int.mul_neg, Int.mul_comm]
  have n02 : b0 * -a2 = -(a2 * b0) := by rw [Int.mul_neg, Int.mul_comm]
  have n03 : b0 * -a3 = -(a3 * b0) := by rw [Int.mul_neg, Int.mul_comm]
  have n10 : b1 * -a0 = -(a0 * b1) := by rw [Int.mul_neg, Int.mul_comm]
  have n11 : b1 * -a1 = -(a1 * b1) := by rw [Int.mul_neg, Int.mul_comm]
  have n12 : b1 * -a2 = -(a2 * b1) := by rw [Int.mul_neg, Int.mul_comm]
  have n13 : b1 * -a3 = -(a3 * b1) := by rw [Int.mul_neg, Int.mul_comm]
  have n20 : b2 * -a0 = -(a0 * b2) := by rw [Int.mul_neg, Int.mul_comm]
  have n21 : b2 * -a1 = -(a1 * b2) := by rw [Int.mul_neg, Int.mul_comm]
  have n22 : b2 * -a2 = -(a2 * b2) := by rw [Int.mul_neg, Int.mul_comm]
  have n23 : b2 * -a3 = -(a3 * b2) := by rw [Int.mul_neg, Int.mul_comm]
  have n30 : b3 * -a0 = -(a0 * b3) := by rw [Int.mul_neg, Int.mul_comm]
  have n31 : b3 * -a1 = -(a1 * b3) := by rw [Int.mul_neg, Int.mul_comm]
  have n32 : b3 * -a2 = -(a2 * b3) := by rw [Int.mul_neg, Int.mul_comm]
  have n33 : b3 * -a3 = -(a3 * b3) := by rw [Int.mul_neg, Int.mul_comm]
  have c00 : b0 * a0 = a0 * b0 := Int.mul_comm _ _
  have c01 : b0 * a1 = a1 * b0 := Int.mul_comm _ _
  have c02 : b0 * a2 = a2 * b0 := Int.mul_comm _ _
  have c03 : b0 * a3 = a3 * b0 := Int.mul_comm _ _
  have c10 : b1 * a0 = a0 * b1 := Int.mul_comm _ _
  have c11 : b1 * a1 = a1 * b1 := Int.mul_comm _ _
  have c12 : b1 * a2 = a2 * b1 := Int.mul_comm _ _
  have c13 : b1 * a3 = a3 * b1 := Int.mul_comm _ _
  have c20 : b2 * a0 = a0 * b2 := Int.mul_comm _ _
  have c21 : b2 * a1 = a1 * b2 := Int.mul_comm _ _
  have c22 : b2 * a2 = a2 * b2 := Int.mul_comm _ _
  have c23 : b2 * a3 = a3 * b2 := Int.mul_comm _ _
  have c30 : b3 * a0 = a0 * b3 := Int.mul_comm _ _
  have c31 : b3 * a1 = a1 * b3 := Int.mul_comm _ _
  have c32 : b3 * a2 = a2 * b3 := Int.mul_comm _ _
  have c33 : b3 * a3 = a3 * b3 := Int.mul_comm _ _
  simp only [rs02, rs12, rs22, rs32, tm2, n00, n01, n02, n03, n10, n11, n12, n13, n20, n21, n22, n23, n30, n31, n32, n33, c00, c01, c02, c03, c10, c11, c12, c13, c20, c21, c22, c23, c30, c31, c32, c33]
  omega
theorem rs_tm3 (a0 a1 a2 a3 : Int) (b0 b1 b2 b3 : Int) : rs33 a0 a1 a2 a3 b0 b1 b2 b3 = tm3 a0 a1 a2 a3 b0 b1 b2 b3 := by
  have n00 : b0 * -a0 = -(a0 * b0) := by rw [Int.mul_neg, Int.mul_comm]
  have n01 : b0 * -a1 = -(a1 * b0) := by rw [Int.mul_neg, Int.mul_comm]
  have n02 : b0 * -a2 = -(a2 * b0) := by rw [Int.mul_neg, Int.mul_comm]
  have n03 : b0 * -a3 = -(a3 * b0) := by rw [Int.mul_neg, Int.mul_comm]
  have n10 : b1 * -a0 = -(a0 * b1) := by rw [Int.mul_neg, Int.mul_comm]
  have n11 : b1 * -a1 = -(a1 * b1) := by rw [Int.mul_neg, Int.mul_comm]
  have n12 : b1 * -a2 = -(a2 * b1) := by rw [Int.mul_neg, Int.mul_comm]
  have n13 : b1 * -a3 = -(a3 * b1) := by rw [Int.mul_neg, Int.mul_comm]
  have n20 : b2 * -a0 = -(a0 * b2) := by rw [Int.mul_neg, Int.mul_comm]
  have n21 : b2 * -a1 = -(a1 * b2) := by rw [Int.mul_neg, Int.mul_comm]
  have n22 : b2 * -a2 = -(a2 * b2) := by rw [Int.mul_neg, Int.mul_comm]
  have n23 : b2 * -a3 = -(a3 * b2) := by rw [Int.mul_neg, Int.mul_comm]
  have n30 : b3 * -a0 = -(a0 * b3) := by rw [Int.mul_neg, Int.mul_comm]
  have n31 : b3 * -a1 = -(a1 * b3) := by rw [Int.mul_neg, Int.mul_comm]
  have n32 : b3 * -a2 = -(a2 * b3) := by rw [Int.mul_neg, Int.mul_comm]
  have n33 : b3 * -a3 = -(a3 * b3) := by rw [Int.mul_neg, Int.mul_comm]
  have c00 : b0 * a0 = a0 * b0 := Int.mul_comm _ _
  have c01 : b0 * a1 = a1 * b0 := Int.mul_comm _ _
  have c02 : b0 * a2 = a2 * b0 := Int.mul_comm _ _
  have c03 : b0 * a3 = a3 * b0 := Int.mul_comm _ _
  have c10 : b1 * a0 = a0 * b1 := Int.mul_comm _ _
  have c11 : b1 * a1 = a1 * b1 := Int.mul_comm _ _
  have c12 : b1 * a2 = a2 * b1 := Int.mul_comm _ _
  have c13 : b1 * a3 = a3 * b1 := Int.mul_comm _ _
  have c20 : b2 * a0 = a0 * b2 := Int.mul_comm _ _
  have c21 : b2 * a1 = a1 * b2 := Int.mul_comm _ _
  have c22 : b2 * a2 = a2 * b2 := Int.mul_comm _ _
  have c23 : b2 * a3 = a3 * b2 := Int.mul_comm _ _
  have c30 : b3 * a0 = a0 * b3 := Int.mul_comm _ _
  have c31 : b3 * a1 = a1 * b3 := Int.mul_comm _ _
  have c32 : b3 * a2 = a2 * b3 := Int.mul_comm _ _
  have c33 : b3 * a3 = a3 * b3 := Int.mul_comm _ _
  simp only [rs03, rs13, rs23, rs33, tm3, n00, n01, n02, n03, n10, n11, n12, n13, n20, n21, n22, n23, n30, n31, n32, n33, c00, c01, c02, c03, c10, c11, c12, c13, c20, c21, c22, c23, c30, c31, c32, c33]
  omega

end Go.Proofs.Ytkjammpicmbhnaa
