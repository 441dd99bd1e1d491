/- Contracts: headings turned, and a point negated, in the program. -/
import Derived.Test.YtppbbcckijcckaaPtTurn3
import Derived.Test.YtppbbcckijcckaaClS
namespace Go.Proofs.Ytppbbcckijcckaa
open Go.ChangeShapes Go.WideShapes Go.ChangeAt Go.RowKit

set_option linter.unusedVariables false
set_option linter.unusedSimpArgs false

theorem tm1_any (h : Int) (h0 : 0 ≤ h) (h7 : h ≤ 7) (w : World) :
    Calls Try.prog 184 #[.int .i64 h, .int .i64 (-1)] w fun e w' => e = .returned (.int .i64 ((h + 7) % 8)) ∧ w = w' := by
  have hm : (h + (-1) + 8) % 8 = (h + 7) % 8 := by omega
  have HM := Lib.hid hm
  clear hm
  go_enter Try.func184, Try.ntmps184
  go_wp2
  go_ret
  exact ⟨by first | rfl | (rw [← HM.out]; rfl) | (simp; omega), rfl⟩

theorem tm2_any (h : Int) (h0 : 0 ≤ h) (h7 : h ≤ 7) (w : World) :
    Calls Try.prog 184 #[.int .i64 h, .int .i64 (-2)] w fun e w' => e = .returned (.int .i64 ((h + 6) % 8)) ∧ w = w' := by
  have hm : (h + (-2) + 8) % 8 = (h + 6) % 8 := by omega
  have HM := Lib.hid hm
  clear hm
  go_enter Try.func184, Try.ntmps184
  go_wp2
  go_ret
  exact ⟨by first | rfl | (rw [← HM.out]; rfl) | (simp; omega), rfl⟩

theorem tp1_any (h : Int) (h0 : 0 ≤ h) (h7 : h ≤ 7) (w : World) :
    Calls Try.prog 184 #[.int .i64 h, .int .i64 1] w fun e w' => e = .returned (.int .i64 ((h + 1) % 8)) ∧ w = w' := by
  have hm : (h + 1 + 8) % 8 = (h + 1) % 8 := by omega
  have HM := Lib.hid hm
  clear hm
  go_enter Try.func184, Try.ntmps184
  go_wp2
  go_ret
  exact ⟨by first | rfl | (rw [← HM.out]; rfl) | (simp; omega), rfl⟩

theorem tp2_any (h : Int) (h0 : 0 ≤ h) (h7 : h ≤ 7) (w : World) :
    Calls Try.prog 184 #[.int .i64 h, .int .i64 2] w fun e w' => e = .returned (.int .i64 ((h + 2) % 8)) ∧ w = w' := by
  have hm : (h + 2 + 8) % 8 = (h + 2) % 8 := by omega
  have HM := Lib.hid hm
  clear hm
  go_enter Try.func184, Try.ntmps184
  go_wp2
  go_ret
  exact ⟨by first | rfl | (rw [← HM.out]; rfl) | (simp; omega), rfl⟩

theorem scN (x0 x1 x2 x3 : Int) (px0 : -999999 ≤ x0) (qx0 : x0 ≤ 999999) (px1 : -999999 ≤ x1) (qx1 : x1 ≤ 999999) (px2 : -999999 ≤ x2) (qx2 : x2 ≤ 999999) (px3 : -999999 ≤ x3) (qx3 : x3 ≤ 999999) (w : World) :
    Calls Try.prog 143 #[.agg #[.int .i64 x0, .int .i64 x1, .int .i64 x2, .int .i64 x3], .int .i64 (-1)] w fun e w' => e = .returned (.agg #[.int .i64 (-x0), .int .i64 (-x1), .int .i64 (-x2), .int .i64 (-x3)]) ∧ Below w.heap.size w w' :=
  (imScaled_any x0 x1 x2 x3 (-1) w).mono fun e w' ⟨h, hb⟩ => ⟨by rw [h, w64s (-1 * x0) (by omega) (by omega), w64s (-1 * x1) (by omega) (by omega), w64s (-1 * x2) (by omega) (by omega), w64s (-1 * x3) (by omega) (by omega)]; simp, hb⟩

end Go.Proofs.Ytppbbcckijcckaa
