/- Contracts: ptTimes and TimesPoints, in the model and in the program. -/
import Derived.Test.YtkjammpicmbhnaaPtRs
namespace Go.Proofs.Ytkjammpicmbhnaa
open Go.ChangeShapes Go.WideShapes Go.ChangeAt Go.RowKit

set_option linter.unusedVariables false
set_option linter.unusedSimpArgs false

def pk10 (a0 a1 a2 a3 b0 b1 b2 b3 : Int) : Int := b1 * (-a3)
def pk11 (a0 a1 a2 a3 b0 b1 b2 b3 : Int) : Int := b1 * a0
def pk12 (a0 a1 a2 a3 b0 b1 b2 b3 : Int) : Int := b1 * a1
def pk13 (a0 a1 a2 a3 b0 b1 b2 b3 : Int) : Int := b1 * a2
def pk20 (a0 a1 a2 a3 b0 b1 b2 b3 : Int) : Int := b2 * (-a2)
def pk21 (a0 a1 a2 a3 b0 b1 b2 b3 : Int) : Int := b2 * (-a3)
def pk22 (a0 a1 a2 a3 b0 b1 b2 b3 : Int) : Int := b2 * a0
def pk23 (a0 a1 a2 a3 b0 b1 b2 b3 : Int) : Int := b2 * a1
def pk30 (a0 a1 a2 a3 b0 b1 b2 b3 : Int) : Int := b3 * (-a1)
def pk31 (a0 a1 a2 a3 b0 b1 b2 b3 : Int) : Int := b3 * (-a2)
def pk32 (a0 a1 a2 a3 b0 b1 b2 b3 : Int) : Int := b3 * (-a3)
def pk33 (a0 a1 a2 a3 b0 b1 b2 b3 : Int) : Int := b3 * a0
theorem tuC1 (a0 a1 a2 a3 : Int) (pa0 : -999999 ≤ a0) (qa0 : a0 ≤ 999999) (pa1 : -999999 ≤ a1) (qa1 : a1 ≤ 999999) (pa2 : -999999 ≤ a2) (qa2 : a2 ≤ 999999) (pa3 : -999999 ≤ a3) (qa3 : a3 ≤ 999999) (w : World) :
    Calls Try.prog 43 #[.agg #[.int .i64 a0, .int .i64 a1, .int .i64 a2, .int .i64 a3], .int .i64 1] w fun e w' => e = .returned (.agg #[.int .i64 (-a3), .int .i64 a0, .int .i64 a1, .int .i64 a2]) ∧ Below w.heap.size w w' :=
  (ptTurn_any a0 a1 a2 a3 1 pa0 qa0 pa1 qa1 pa2 qa2 pa3 qa3 (by omega) (by omega) w).mono fun e w' ⟨h, hb⟩ => ⟨by rw [h]; simp [tu0, tu1, tu2, tu3], hb⟩
theorem tuC2 (a0 a1 a2 a3 : Int) (pa0 : -999999 ≤ a0) (qa0 : a0 ≤ 999999) (pa1 : -999999 ≤ a1) (qa1 : a1 ≤ 999999) (pa2 : -999999 ≤ a2) (qa2 : a2 ≤ 999999) (pa3 : -999999 ≤ a3) (qa3 : a3 ≤ 999999) (w : World) :
    Calls Try.prog 43 #[.agg #[.int .i64 a0, .int .i64 a1, .int .i64 a2, .int .i64 a3], .int .i64 2] w fun e w' => e = .returned (.agg #[.int .i64 (-a2), .int .i64 (-a3), .int .i64 a0, .int .i64 a1]) ∧ Below w.heap.size w w' :=
  (ptTurn_any a0 a1 a2 a3 2 pa0 qa0 pa1 qa1 pa2 qa2 pa3 qa3 (by omega) (by omega) w).mono fun e w' ⟨h, hb⟩ => ⟨by rw [h]; simp [tu0, tu1, tu2, tu3], hb⟩
theorem tuC3 (a0 a1 a2 a3 : Int) (pa0 : -999999 ≤ a0) (qa0 : a0 ≤ 999999) (pa1 : -999999 ≤ a1) (qa1 : a1 ≤ 999999) (pa2 : -999999 ≤ a2) (qa2 : a2 ≤ 999999) (pa3 : -999999 ≤ a3) (qa3 : a3 ≤ 999999) (w : World) :
    Calls Try.prog 43 #[.agg #[.int .i64 a0, .int .i64 a1, .int .i64 a2, .int .i64 a3], .int .i64 3] w fun e w' => e = .returned (.agg #[.int .i64 (-a1), .int .i64 (-a2), .int .i64 (-a3), .int .i64 a0]) ∧ Below w.heap.size w w' :=
  (ptTurn_any a0 a1 a2 a3 3 pa0 qa0 pa1 qa1 pa2 qa2 pa3 qa3 (by omega) (by omega) w).mono fun e w' ⟨h, hb⟩ => ⟨by rw [h]; simp [tu0, tu1, tu2, tu3], hb⟩
theorem scC0 (a0 a1 a2 a3 : Int) (b0 b1 b2 b3 : Int) (pa0 : -999999 ≤ a0) (qa0 : a0 ≤ 999999) (pa1 : -999999 ≤ a1) (qa1 : a1 ≤ 999999) (pa2 : -999999 ≤ a2) (qa2 : a2 ≤ 999999) (pa3 : -999999 ≤ a3) (qa3 : a3 ≤ 999999) (pb0 : -999999 ≤ b0) (qb0 : b0 ≤ 999999) (pb1 : -999999 ≤ b1) (qb1 : b1 ≤ 999999) (pb2 : -999999 ≤ b2) (qb2 : b2 ≤ 999999) (pb3 : -999999 ≤ b3) (qb3 : b3 ≤ 999999) (w : World) :
    Calls Try.prog 47 #[.agg #[.int .i64 a0, .int .i64 a1, .int .i64 a2, .int .i64 a3], .int .i64 b0] w fun e w' => e = .returned (.agg #[.int .i64 (rs00 a0 a1 a2 a3 b0 b1 b2 b3), .int .i64 (rs01 a0 a1 a2 a3 b0 b1 b2 b3), .int .i64 (rs02 a0 a1 a2 a3 b0 b1 b2 b3), .int .i64 (rs03 a0 a1 a2 a3 b0 b1 b2 b3)]) ∧ Below w.heap.size w w' := by
  have e0 : wrap64 (b0 * a0) = rs00 a0 a1 a2 a3 b0 b1 b2 b3 := by
    have m := mul_bd b0 a0 pb0 qb0 (by omega) (by omega)
    exact w64 _ (by omega) (by omega)
  have e1 : wrap64 (b0 * a1) = rs01 a0 a1 a2 a3 b0 b1 b2 b3 := by
    have m := mul_bd b0 a1 pb0 qb0 (by omega) (by omega)
    exact w64 _ (by omega) (by omega)
  have e2 : wrap64 (b0 * a2) = rs02 a0 a1 a2 a3 b0 b1 b2 b3 := by
    have m := mul_bd b0 a2 pb0 qb0 (by omega) (by omega)
    exact w64 _ (by omega) (by omega)
  have e3 : wrap64 (b0 * a3) = rs03 a0 a1 a2 a3 b0 b1 b2 b3 := by
    have m := mul_bd b0 a3 pb0 qb0 (by omega) (by omega)
    exact w64 _ (by omega) (by omega)
  refine (spScale_any a0 a1 a2 a3 b0 w).mono fun e w' ⟨h, hb⟩ => ⟨?_, hb⟩
  rw [h, e0, e1, e2, e3]
theorem scC1 (a0 a1 a2 a3 : Int) (b0 b1 b2 b3 : Int) (pa0 : -999999 ≤ a0) (qa0 : a0 ≤ 999999) (pa1 : -999999 ≤ a1) (qa1 : a1 ≤ 999999) (pa2 : -999999 ≤ a2) (qa2 : a2 ≤ 999999) (pa3 : -999999 ≤ a3) (qa3 : a3 ≤ 999999) (pb0 : -999999 ≤ b0) (qb0 : b0 ≤ 999999) (pb1 : -999999 ≤ b1) (qb1 : b1 ≤ 999999) (pb2 : -999999 ≤ b2) (qb2 : b2 ≤ 999999) (pb3 : -999999 ≤ b3) (qb3 : b3 ≤ 999999) (w : World) :
    Calls Try.prog 47 #[.agg #[.int .i64 (-a3), .int .i64 a0, .int .i64 a1, .int .i64 a2], .int .i64 b1] w fun e w' => e = .returned (.agg #[.int .i64 (pk10 a0 a1 a2 a3 b0 b1 b2 b3), .int .i64 (pk11 a0 a1 a2 a3 b0 b1 b2 b3), .int .i64 (pk12 a0 a1 a2 a3 b0 b1 b2 b3), .int .i64 (pk13 a0 a1 a2 a3 b0 b1 b2 b3)]) ∧ Below w.heap.size w w' := by
  have e0 : wrap64 (b1 * (-a3)) = pk10 a0 a1 a2 a3 b0 b1 b2 b3 := by
    have m := mul_bd b1 (-a3) pb1 qb1 (by omega) (by omega)
    exact w64 _ (by omega) (by omega)
  have e1 : wrap64 (b1 * a0) = pk11 a0 a1 a2 a3 b0 b1 b2 b3 := by
    have m := mul_bd b1 a0 pb1 qb1 (by omega) (by omega)
    exact w64 _ (by omega) (by omega)
  have e2 : wrap64 (b1 * a1) = pk12 a0 a1 a2 a3 b0 b1 b2 b3 := by
    have m := mul_bd b1 a1 pb1 qb1 (by omega) (by omega)
    exact w64 _ (by omega) (by omega)
  have e3 : wrap64 (b1 * a2) = pk13 a0 a1 a2 a3 b0 b1 b2 b3 := by
    have m := mul_bd b1 a2 pb1 qb1 (by omega) (by omega)
    exact w64 _ (by omega) (by omega)
  refine (spScale_any (-a3) a0 a1 a2 b1 w).mono fun e w' ⟨h, hb⟩ => ⟨?_, hb⟩
  rw [h, e0, e1, e2, e3]
theorem scC2 (a0 a1 a2 a3 : Int) (b0 b1 b2 b3 : Int) (pa0 : -999999 ≤ a0) (qa0 : a0 ≤ 999999) (pa1 : -999999 ≤ a1) (qa1 : a1 ≤ 999999) (pa2 : -999999 ≤ a2) (qa2 : a2 ≤ 999999) (pa3 : -999999 ≤ a3) (qa3 : a3 ≤ 999999) (pb0 : -999999 ≤ b0) (qb0 : b0 ≤ 999999) (pb1 : -999999 ≤ b1) (qb1 : b1 ≤ 999999) (pb2 : -999999 ≤ b2) (qb2 : b2 ≤ 999999) (pb3 : -999999 ≤ b3) (qb3 : b3 ≤ 999999) (w : World) :
    Calls Try.prog 47 #[.agg #[.int .i64 (-a2), .int .i64 (-a3), .int .i64 a0, .int .i64 a1], .int .i64 b2] w fun e w' => e = .returned (.agg #[.int .i64 (pk20 a0 a1 a2 a3 b0 b1 b2 b3), .int .i64 (pk21 a0 a1 a2 a3 b0 b1 b2 b3), .int .i64 (pk22 a0 a1 a2 a3 b0 b1 b2 b3), .int .i64 (pk23 a0 a1 a2 a3 b0 b1 b2 b3)]) ∧ Below w.heap.size w w' := by
  have e0 : wrap64 (b2 * (-a2)) = pk20 a0 a1 a2 a3 b0 b1 b2 b3 := by
    have m := mul_bd b2 (-a2) pb2 qb2 (by omega) (by omega)
    exact w64 _ (by omega) (by omega)
  have e1 : wrap64 (b2 * (-a3)) = pk21 a0 a1 a2 a3 b0 b1 b2 b3 := by
    have m := mul_bd b2 (-a3) pb2 qb2 (by omega) (by omega)
    exact w64 _ (by omega) (by omega)
  have e2 : wrap64 (b2 * a0) = pk22 a0 a1 a2 a3 b0 b1 b2 b3 := by
    have m := mul_bd b2 a0 pb2 qb2 (by omega) (by omega)
    exact w64 _ (by omega) (by omega)
  have e3 : wrap64 (b2 * a1) = pk23 a0 a1 a2 a3 b0 b1 b2 b3 := by
    have m := mul_bd b2 a1 pb2 qb2 (by omega) (by omega)
    exact w64 _ (by omega) (by omega)
  refine (spScale_any (-a2) (-a3) a0 a1 b2 w).mono fun e w' ⟨h, hb⟩ => ⟨?_, hb⟩
  rw [h, e0, e1, e2, e3]
theorem scC3 (a0 a1 a2 a3 : Int) (b0 b1 b2 b3 : Int) (pa0 : -999999 ≤ a0) (qa0 : a0 ≤ 999999) (pa1 : -999999 ≤ a1) (qa1 : a1 ≤ 999999) (pa2 : -999999 ≤ a2) (qa2 : a2 ≤ 999999) (pa3 : -999999 ≤ a3) (qa3 : a3 ≤ 999999) (pb0 : -999999 ≤ b0) (qb0 : b0 ≤ 999999) (pb1 : -999999 ≤ b1) (qb1 : b1 ≤ 999999) (pb2 : -999999 ≤ b2) (qb2 : b2 ≤ 999999) (pb3 : -999999 ≤ b3) (qb3 : b3 ≤ 999999) (w : World) :
    Calls Try.prog 47 #[.agg #[.int .i64 (-a1), .int .i64 (-a2), .int .i64 (-a3), .int .i64 a0], .int .i64 b3] w fun e w' => e = .returned (.agg #[.int .i64 (pk30 a0 a1 a2 a3 b0 b1 b2 b3), .int .i64 (pk31 a0 a1 a2 a3 b0 b1 b2 b3), .int .i64 (pk32 a0 a1 a2 a3 b0 b1 b2 b3), .int .i64 (pk33 a0 a1 a2 a3 b0 b1 b2 b3)]) ∧ Below w.heap.size w w' := by
  have e0 : wrap64 (b3 * (-a1)) = pk30 a0 a1 a2 a3 b0 b1 b2 b3 := by
    have m := mul_bd b3 (-a1) pb3 qb3 (by omega) (by omega)
    exact w64 _ (by omega) (by omega)
  have e1 : wrap64 (b3 * (-a2)) = pk31 a0 a1 a2 a3 b0 b1 b2 b3 := by
    have m := mul_bd b3 (-a2) pb3 qb3 (by omega) (by omega)
    exact w64 _ (by omega) (by omega)
  have e2 : wrap64 (b3 * (-a3)) = pk32 a0 a1 a2 a3 b0 b1 b2 b3 := by
    have m := mul_bd b3 (-a3) pb3 qb3 (by omega) (by omega)
    exact w64 _ (by omega) (by omega)
  have e3 : wrap64 (b3 * a0) = pk33 a0 a1 a2 a3 b0 b1 b2 b3 := by
    have m := mul_bd b3 a0 pb3 qb3 (by omega) (by omega)
    exact w64 _ (by omega) (by omega)
  refine (spScale_any (-a1) (-a2) (-a3) a0 b3 w).mono fun e w' ⟨h, hb⟩ => ⟨?_, hb⟩
  rw [h, e0, e1, e2, e3]
theorem adC1 (a0 a1 a2 a3 : Int) (b0 b1 b2 b3 : Int) (pa0 : -999999 ≤ a0) (qa0 : a0 ≤ 999999) (pa1 : -999999 ≤ a1) (qa1 : a1 ≤ 999999) (pa2 : -999999 ≤ a2) (qa2 : a2 ≤ 999999) (pa3 : -999999 ≤ a3) (qa3 : a3 ≤ 999999) (pb0 : -999999 ≤ b0) (qb0 : b0 ≤ 999999) (pb1 : -999999 ≤ b1) (qb1 : b1 ≤ 999999) (pb2 : -999999 ≤ b2) (qb2 : b2 ≤ 999999) (pb3 : -999999 ≤ b3) (qb3 : b3 ≤ 999999) (w : World) :
    Calls Try.prog 35 #[.agg #[.int .i64 (rs00 a0 a1 a2 a3 b0 b1 b2 b3), .int .i64 (rs01 a0 a1 a2 a3 b0 b1 b2 b3), .int .i64 (rs02 a0 a1 a2 a3 b0 b1 b2 b3), .int .i64 (rs03 a0 a1 a2 a3 b0 b1 b2 b3)], .agg #[.int .i64 (pk10 a0 a1 a2 a3 b0 b1 b2 b3), .int .i64 (pk11 a0 a1 a2 a3 b0 b1 b2 b3), .int .i64 (pk12 a0 a1 a2 a3 b0 b1 b2 b3), .int .i64 (pk13 a0 a1 a2 a3 b0 b1 b2 b3)]] w fun e w' => e = .returned (.agg #[.int .i64 (rs10 a0 a1 a2 a3 b0 b1 b2 b3), .int .i64 (rs11 a0 a1 a2 a3 b0 b1 b2 b3), .int .i64 (rs12 a0 a1 a2 a3 b0 b1 b2 b3), .int .i64 (rs13 a0 a1 a2 a3 b0 b1 b2 b3)]) ∧ Below w.heap.size w w' := by
  obtain ⟨⟨x00, y00⟩, ⟨x01, y01⟩, ⟨x02, y02⟩, ⟨x03, y03⟩, ⟨x10, y10⟩, ⟨x11, y11⟩, ⟨x12, y12⟩, ⟨x13, y13⟩, ⟨x20, y20⟩, ⟨x21, y21⟩, ⟨x22, y22⟩, ⟨x23, y23⟩, ⟨x30, y30⟩, ⟨x31, y31⟩, ⟨x32, y32⟩, ⟨x33, y33⟩⟩ := rs_bd a0 a1 a2 a3 b0 b1 b2 b3 pa0 qa0 pa1 qa1 pa2 qa2 pa3 qa3 pb0 qb0 pb1 qb1 pb2 qb2 pb3 qb3
  have x10' : -9000000000000000000 ≤ rs00 a0 a1 a2 a3 b0 b1 b2 b3 + pk10 a0 a1 a2 a3 b0 b1 b2 b3 := by (have : rs00 a0 a1 a2 a3 b0 b1 b2 b3 + pk10 a0 a1 a2 a3 b0 b1 b2 b3 = rs10 a0 a1 a2 a3 b0 b1 b2 b3 := rfl); omega
  have y10' : rs00 a0 a1 a2 a3 b0 b1 b2 b3 + pk10 a0 a1 a2 a3 b0 b1 b2 b3 ≤ 9000000000000000000 := by (have : rs00 a0 a1 a2 a3 b0 b1 b2 b3 + pk10 a0 a1 a2 a3 b0 b1 b2 b3 = rs10 a0 a1 a2 a3 b0 b1 b2 b3 := rfl); omega
  have x11' : -9000000000000000000 ≤ rs01 a0 a1 a2 a3 b0 b1 b2 b3 + pk11 a0 a1 a2 a3 b0 b1 b2 b3 := by (have : rs01 a0 a1 a2 a3 b0 b1 b2 b3 + pk11 a0 a1 a2 a3 b0 b1 b2 b3 = rs11 a0 a1 a2 a3 b0 b1 b2 b3 := rfl); omega
  have y11' : rs01 a0 a1 a2 a3 b0 b1 b2 b3 + pk11 a0 a1 a2 a3 b0 b1 b2 b3 ≤ 9000000000000000000 := by (have : rs01 a0 a1 a2 a3 b0 b1 b2 b3 + pk11 a0 a1 a2 a3 b0 b1 b2 b3 = rs11 a0 a1 a2 a3 b0 b1 b2 b3 := rfl); omega
  have x12' : -9000000000000000000 ≤ rs02 a0 a1 a2 a3 b0 b1 b2 b3 + pk12 a0 a1 a2 a3 b0 b1 b2 b3 := by (have : rs02 a0 a1 a2 a3 b0 b1 b2 b3 + pk12 a0 a1 a2 a3 b0 b1 b2 b3 = rs12 a0 a1 a2 a3 b0 b1 b2 b3 := rfl); omega
  have y12' : rs02 a0 a1 a2 a3 b0 b1 b2 b3 + pk12 a0 a1 a2 a3 b0 b1 b2 b3 ≤ 9000000000000000000 := by (have : rs02 a0 a1 a2 a3 b0 b1 b2 b3 + pk12 a0 a1 a2 a3 b0 b1 b2 b3 = rs12 a0 a1 a2 a3 b0 b1 b2 b3 := rfl); omega
  have x13' : -9000000000000000000 ≤ rs03 a0 a1 a2 a3 b0 b1 b2 b3 + pk13 a0 a1 a2 a3 b0 b1 b2 b3 := by (have : rs03 a0 a1 a2 a3 b0 b1 b2 b3 + pk13 a0 a1 a2 a3 b0 b1 b2 b3 = rs13 a0 a1 a2 a3 b0 b1 b2 b3 := rfl); omega
  have y13' : rs03 a0 a1 a2 a3 b0 b1 b2 b3 + pk13 a0 a1 a2 a3 b0 b1 b2 b3 ≤ 9000000000000000000 := by (have : rs03 a0 a1 a2 a3 b0 b1 b2 b3 + pk13 a0 a1 a2 a3 b0 b1 b2 b3 = rs13 a0 a1 a2 a3 b0 b1 b2 b3 := rfl); omega
  have e0 : wrap64 (rs00 a0 a1 a2 a3 b0 b1 b2 b3 + pk10 a0 a1 a2 a3 b0 b1 b2 b3) = rs10 a0 a1 a2 a3 b0 b1 b2 b3 := w64 _ x10' y10'
  have e1 : wrap64 (rs01 a0 a1 a2 a3 b0 b1 b2 b3 + pk11 a0 a1 a2 a3 b0 b1 b2 b3) = rs11 a0 a1 a2 a3 b0 b1 b2 b3 := w64 _ x11' y11'
  have e2 : wrap64 (rs02 a0 a1 a2 a3 b0 b1 b2 b3 + pk12 a0 a1 a2 a3 b0 b1 b2 b3) = rs12 a0 a1 a2 a3 b0 b1 b2 b3 := w64 _ x12' y12'
  have e3 : wrap64 (rs03 a0 a1 a2 a3 b0 b1 b2 b3 + pk13 a0 a1 a2 a3 b0 b1 b2 b3) = rs13 a0 a1 a2 a3 b0 b1 b2 b3 := w64 _ x13' y13'
  refine (spAdd_any _ _ _ _ _ _ _ _ w).mono fun e w' ⟨h, hb⟩ => ⟨?_, hb⟩
  rw [h, e0, e1, e2, e3]
theorem adC2 (a0 a1 a2 a3 : Int) (b0 b1 b2 b3 : Int) (pa0 : -999999 ≤ a0) (qa0 : a0 ≤ 999999) (pa1 : -999999 ≤ a1) (qa1 : a1 ≤ 999999) (pa2 : -999999 ≤ a2) (qa2 : a2 ≤ 999999) (pa3 : -999999 ≤ a3) (qa3 : a3 ≤ 999999) (pb0 : -999999 ≤ b0) (qb0 : b0 ≤ 999999) (pb1 : -999999 ≤ b1) (qb1 : b1 ≤ 999999) (pb2 : -999999 ≤ b2) (qb2 : b2 ≤ 999999) (pb3 : -999999 ≤ b3) (qb3 : b3 ≤ 999999) (w : World) :
    Calls Try.prog 35 #[.agg #[.int .i64 (rs10 a0 a1 a2 a3 b0 b1 b2 b3), .int .i64 (rs11 a0 a1 a2 a3 b0 b1 b2 b3), .int .i64 (rs12 a0 a1 a2 a3 b0 b1 b2 b3), .int .i64 (rs13 a0 a1 a2 a3 b0 b1 b2 b3)], .agg #[.int .i64 (pk20 a0 a1 a2 a3 b0 b1 b2 b3), .int .i64 (pk21 a0 a1 a2 a3 b0 b1 b2 b3), .int .i64 (pk22 a0 a1 a2 a3 b0 b1 b2 b3), .int .i64 (pk23 a0 a1 a2 a3 b0 b1 b2 b3)]] w fun e w' => e = .returned (.agg #[.int .i64 (rs20 a0 a1 a2 a3 b0 b1 b2 b3), .int .i64 (rs21 a0 a1 a2 a3 b0 b1 b2 b3), .int .i64 (rs22 a0 a1 a2 a3 b0 b1 b2 b3), .int .i64 (rs23 a0 a1 a2 a3 b0 b1 b2 b3)]) ∧ Below w.heap.size w w' := by
  obtain ⟨⟨x00, y00⟩, ⟨x01, y01⟩, ⟨x02, y02⟩, ⟨x03, y03⟩, ⟨x10, y10⟩, ⟨x11, y11⟩, ⟨x12, y12⟩, ⟨x13, y13⟩, ⟨x20, y20⟩, ⟨x21, y21⟩, ⟨x22, y22⟩, ⟨x23, y23⟩, ⟨x30, y30⟩, ⟨x31, y31⟩, ⟨x32, y32⟩, ⟨x33, y33⟩⟩ := rs_bd a0 a1 a2 a3 b0 b1 b2 b3 pa0 qa0 pa1 qa1 pa2 qa2 pa3 qa3 pb0 qb0 pb1 qb1 pb2 qb2 pb3 qb3
  have x20' : -9000000000000000000 ≤ rs10 a0 a1 a2 a3 b0 b1 b2 b3 + pk20 a0 a1 a2 a3 b0 b1 b2 b3 := by (have : rs10 a0 a1 a2 a3 b0 b1 b2 b3 + pk20 a0 a1 a2 a3 b0 b1 b2 b3 = rs20 a0 a1 a2 a3 b0 b1 b2 b3 := rfl); omega
  have y20' : rs10 a0 a1 a2 a3 b0 b1 b2 b3 + pk20 a0 a1 a2 a3 b0 b1 b2 b3 ≤ 9000000000000000000 := by (have : rs10 a0 a1 a2 a3 b0 b1 b2 b3 + pk20 a0 a1 a2 a3 b0 b1 b2 b3 = rs20 a0 a1 a2 a3 b0 b1 b2 b3 := rfl); omega
  have x21' : -9000000000000000000 ≤ rs11 a0 a1 a2 a3 b0 b1 b2 b3 + pk21 a0 a1 a2 a3 b0 b1 b2 b3 := by (have : rs11 a0 a1 a2 a3 b0 b1 b2 b3 + pk21 a0 a1 a2 a3 b0 b1 b2 b3 = rs21 a0 a1 a2 a3 b0 b1 b2 b3 := rfl); omega
  have y21' : rs11 a0 a1 a2 a3 b0 b1 b2 b3 + pk21 a0 a1 a2 a3 b0 b1 b2 b3 ≤ 9000000000000000000 := by (have : rs11 a0 a1 a2 a3 b0 b1 b2 b3 + pk21 a0 a1 a2 a3 b0 b1 b2 b3 = rs21 a0 a1 a2 a3 b0 b1 b2 b3 := rfl); omega
  have x22' : -9000000000000000000 ≤ rs12 a0 a1 a2 a3 b0 b1 b2 b3 + pk22 a0 a1 a2 a3 b0 b1 b2 b3 := by (have : rs12 a0 a1 a2 a3 b0 b1 b2 b3 + pk22 a0 a1 a2 a3 b0 b1 b2 b3 = rs22 a0 a1 a2 a3 b0 b1 b2 b3 := rfl); omega
  have y22' : rs12 a0 a1 a2 a3 b0 b1 b2 b3 + pk22 a0 a1 a2 a3 b0 b1 b2 b3 ≤ 9000000000000000000 := by (have : rs12 a0 a1 a2 a3 b0 b1 b2 b3 + pk22 a0 a1 a2 a3 b0 b1 b2 b3 = rs22 a0 a1 a2 a3 b0 b1 b2 b3 := rfl); omega
  have x23' : -9000000000000000000 ≤ rs13 a0 a1 a2 a3 b0 b1 b2 b3 + pk23 a0 a1 a2 a3 b0 b1 b2 b3 := by (have : rs13 a0 a1 a2 a3 b0 b1 b2 b3 + pk23 a0 a1 a2 a3 b0 b1 b2 b3 = rs23 a0 a1 a2 a3 b0 b1 b2 b3 := rfl); omega
  have y23' : rs13 a0 a1 a2 a3 b0 b1 b2 b3 + pk23 a0 a1 a2 a3 b0 b1 b2 b3 ≤ 9000000000000000000 := by (have : rs13 a0 a1 a2 a3 b0 b1 b2 b3 + pk23 a0 a1 a2 a3 b0 b1 b2 b3 = rs23 a0 a1 a2 a3 b0 b1 b2 b3 := rfl); omega
  have e0 : wrap64 (rs10 a0 a1 a2 a3 b0 b1 b2 b3 + pk20 a0 a1 a2 a3 b0 b1 b2 b3) = rs20 a0 a1 a2 a3 b0 b1 b2 b3 := w64 _ x20' y20'
  have e1 : wrap64 (rs11 a0 a1 a2 a3 b0 b1 b2 b3 + pk21 a0 a1 a2 a3 b0 b1 b2 b3) = rs21 a0 a1 a2 a3 b0 b1 b2 b3 := w64 _ x21' y21'
  have e2 : wrap64 (rs12 a0 a1 a2 a3 b0 b1 b2 b3 + pk22 a0 a1 a2 a3 b0 b1 b2 b3) = rs22 a0 a1 a2 a3 b0 b1 b2 b3 := w64 _ x22' y22'
  have e3 : wrap64 (rs13 a0 a1 a2 a3 b0 b1 b2 b3 + pk23 a0 a1 a2 a3 b0 b1 b2 b3) = rs23 a0 a1 a2 a3 b0 b1 b2 b3 := w64 _ x23' y23'
  refine (spAdd_any _ _ _ _ _ _ _ _ w).mono fun e w' ⟨h, hb⟩ => ⟨?_, hb⟩
  rw [h, e0, e1, e2, e3]
theorem adC3 (a0 a1 a2 a3 : Int) (b0 b1 b2 b3 : Int) (pa0 : -999999 ≤ a0) (qa0 : a0 ≤ 999999) (pa1 : -999999 ≤ a1) (qa1 : a1 ≤ 999999) (pa2 : -999999 ≤ a2) (qa2 : a2 ≤ 999999) (pa3 : -999999 ≤ a3) (qa3 : a3 ≤ 999999) (pb0 : -999999 ≤ b0) (qb0 : b0 ≤ 999999) (pb1 : -999999 ≤ b1) (qb1 : b1 ≤ 999999) (pb2 : -999999 ≤ b2) (qb2 : b2 ≤ 999999) (pb3 : -999999 ≤ b3) (qb3 : b3 ≤ 999999) (w : World) :
    Calls Try.prog 35 #[.agg #[.int .i64 (rs20 a0 a1 a2 a3 b0 b1 b2 b3), .int .i64 (rs21 a0 a1 a2 a3 b0 b1 b2 b3), .int .i64 (rs22 a0 a1 a2 a3 b0 b1 b2 b3), .int .i64 (rs23 a0 a1 a2 a3 b0 b1 b2 b3)], .agg #[.int .i64 (pk30 a0 a1 a2 a3 b0 b1 b2 b3), .int .i64 (pk31 a0 a1 a2 a3 b0 b1 b2 b3), .int .i64 (pk32 a0 a1 a2 a3 b0 b1 b2 b3), .int .i64 (pk33 a0 a1 a2 a3 b0 b1 b2 b3)]] w fun e w' => e = .returned (.agg #[.int .i64 (rs30 a0 a1 a2 a3 b0 b1 b2 b3), .int .i64 (rs31 a0 a1 a2 a3 b0 b1 b2 b3), .int .i64 (rs32 a0 a1 a2 a3 b0 b1 b2 b3), .int .i64 (rs33 a0 a1 a2 a3 b0 b1 b2 b3)]) ∧ Below w.heap.size w w' := by
  obtain ⟨⟨x00, y00⟩, ⟨x01, y01⟩, ⟨x02, y02⟩, ⟨x03, y03⟩, ⟨x10, y10⟩, ⟨x11, y11⟩, ⟨x12, y12⟩, ⟨x13, y13⟩, ⟨x20, y20⟩, ⟨x21, y21⟩, ⟨x22, y22⟩, ⟨x23, y23⟩, ⟨x30, y30⟩, ⟨x31, y31⟩, ⟨x32, y32⟩, ⟨x33, y33⟩⟩ := rs_bd a0 a1 a2 a3 b0 b1 b2 b3 pa0 qa0 pa1 qa1 pa2 qa2 pa3 qa3 pb0 qb0 pb1 qb1 pb2 qb2 pb3 qb3
  have x30' : -9000000000000000000 ≤ rs20 a0 a1 a2 a3 b0 b1 b2 b3 + pk30 a0 a1 a2 a3 b0 b1 b2 b3 := by (have : rs20 a0 a1 a2 a3 b0 b1 b2 b3 + pk30 a0 a1 a2 a3 b0 b1 b2 b3 = rs30 a0 a1 a2 a3 b0 b1 b2 b3 := rfl); omega
  have y30' : rs20 a0 a1 a2 a3 b0 b1 b2 b3 + pk30 a0 a1 a2 a3 b0 b1 b2 b3 ≤ 9000000000000000000 := by (have : rs20 a0 a1 a2 a3 b0 b1 b2 b3 + pk30 a0 a1 a2 a3 b0 b1 b2 b3 = rs30 a0 a1 a2 a3 b0 b1 b2 b3 := rfl); omega
  have x31' : -9000000000000000000 ≤ rs21 a0 a1 a2 a3 b0 b1 b2 b3 + pk31 a0 a1 a2 a3 b0 b1 b2 b3 := by (have : rs21 a0 a1 a2 a3 b0 b1 b2 b3 + pk31 a0 a1 a2 a3 b0 b1 b2 b3 = rs31 a0 a1 a2 a3 b0 b1 b2 b3 := rfl); omega
  have y31' : rs21 a0 a1 a2 a3 b0 b1 b2 b3 + pk31 a0 a1 a2 a3 b0 b1 b2 b3 ≤ 9000000000000000000 := by (have : rs21 a0 a1 a2 a3 b0 b1 b2 b3 + pk31 a0 a1 a2 a3 b0 b1 b2 b3 = rs31 a0 a1 a2 a3 b0 b1 b2 b3 := rfl); omega
  have x32' : -9000000000000000000 ≤ rs22 a0 a1 a2 a3 b0 b1 b2 b3 + pk32 a0 a1 a2 a3 b0 b1 b2 b3 := by (have : rs22 a0 a1 a2 a3 b0 b1 b2 b3 + pk32 a0 a1 a2 a3 b0 b1 b2 b3 = rs32 a0 a1 a2 a3 b0 b1 b2 b3 := rfl); omega
  have y32' : rs22 a0 a1 a2 a3 b0 b1 b2 b3 + pk32 a0 a1 a2 a3 b0 b1 b2 b3 ≤ 9000000000000000000 := by (have : rs22 a0 a1 a2 a3 b0 b1 b2 b3 + pk32 a0 a1 a2 a3 b0 b1 b2 b3 = rs32 a0 a1 a2 a3 b0 b1 b2 b3 := rfl); omega
  have x33' : -9000000000000000000 ≤ rs23 a0 a1 a2 a3 b0 b1 b2 b3 + pk33 a0 a1 a2 a3 b0 b1 b2 b3 := by (have : rs23 a0 a1 a2 a3 b0 b1 b2 b3 + pk33 a0 a1 a2 a3 b0 b1 b2 b3 = rs33 a0 a1 a2 a3 b0 b1 b2 b3 := rfl); omega
  have y33' : rs23 a0 a1 a2 a3 b0 b1 b2 b3 + pk33 a0 a1 a2 a3 b0 b1 b2 b3 ≤ 9000000000000000000 := by (have : rs23 a0 a1 a2 a3 b0 b1 b2 b3 + pk33 a0 a1 a2 a3 b0 b1 b2 b3 = rs33 a0 a1 a2 a3 b0 b1 b2 b3 := rfl); omega
  have e0 : wrap64 (rs20 a0 a1 a2 a3 b0 b1 b2 b3 + pk30 a0 a1 a2 a3 b0 b1 b2 b3) = rs30 a0 a1 a2 a3 b0 b1 b2 b3 := w64 _ x30' y30'
  have e1 : wrap64 (rs21 a0 a1 a2 a3 b0 b1 b2 b3 + pk31 a0 a1 a2 a3 b0 b1 b2 b3) = rs31 a0 a1 a2 a3 b0 b1 b2 b3 := w64 _ x31' y31'
  have e2 : wrap64 (rs22 a0 a1 a2 a3 b0 b1 b2 b3 + pk32 a0 a1 a2 a3 b0 b1 b2 b3) = rs32 a0 a1 a2 a3 b0 b1 b2 b3 := w64 _ x32' y32'
  have e3 : wrap64 (rs23 a0 a1 a2 a3 b0 b1 b2 b3 + pk33 a0 a1 a2 a3 b0 b1 b2 b3) = rs33 a0 a1 a2 a3 b0 b1 b2 b3 := w64 _ x33' y33'
  refine (spAdd_any _ _ _ _ _ _ _ _ w).mono fun e w' ⟨h, hb⟩ => ⟨?_, hb⟩
  rw [h, e0, e1, e2, e3]

end Go.Proofs.Ytkjammpicmbhnaa
