/- Contracts: the sign of a surd, in the model. -/
import Derived.Test.YtppbbcckijcckaaSqG
import Derived.Test.YtppbbcckijcckaaSd
namespace Go.Proofs.Ytppbbcckijcckaa
open Go.ChangeShapes Go.WideShapes Go.ChangeAt Go.RowKit

def sg (n : Int) : Int := if 0 < n then 1 else if n < 0 then -1 else 0

def ab (n : Int) : Int := if n < 0 then -n else n

def sgn2 (s0 s1 : Int) : Int := cond (G1 s0 s1) (sg s0) (sg s1)

theorem sg_pos {n : Int} (h : 0 < n) : sg n = 1 := by simp [sg, h]

theorem sg_neg {n : Int} (h : n < 0) : sg n = -1 := by
  have h' : ¬ 0 < n := by omega
  simp [sg, h, h']

theorem sg_zero : sg 0 = 0 := rfl

theorem ab_pos {n : Int} (h : 0 < n) : ab n = n := by
  have h' : ¬ n < 0 := by omega
  simp [ab, h']

theorem ab_neg {n : Int} (h : n < 0) : ab n = -n := by simp [ab, h]

theorem G1_neg0 (x y : Int) : G1 (-x) y = G1 x y := by simp [G1, Int.neg_mul_neg]

theorem G1_neg1 (x y : Int) : G1 x (-y) = G1 x y := by simp [G1, Int.neg_mul_neg]

theorem G1_z0 (y : Int) : G1 0 y = false := by
  unfold G1
  have : 0 ≤ y * y := by
    rcases Int.le_total 0 y with h | h
    · exact Int.mul_nonneg h h
    · exact Int.mul_nonneg_of_nonpos_of_nonpos h h
  exact decide_eq_false (by omega)

theorem G1_z1 (x : Int) (h : x ≠ 0) : G1 x 0 = true := by
  unfold G1
  have : 0 < x * x := by
    rcases Int.lt_or_gt_of_ne h with h | h
    · exact Int.mul_pos_of_neg_of_neg h h
    · exact Int.mul_pos h h
  exact decide_eq_true (by omega)

set_option maxRecDepth 100000 in
theorem l1Sign_any (n : Int) (w : World) :
    Calls Try.prog 137 #[.int .i64 n] w fun e w' => e = .returned (.int .i64 (sg n)) ∧ w = w' := by
  rcases Int.lt_trichotomy n 0 with h | rfl | h
  · rw [sg_neg h]
    go_enter Try.func137, Try.ntmps137
    go_wp2
    go_ret
    exact ⟨rfl, rfl⟩
  · go_enter Try.func137, Try.ntmps137
    go_wp2
    go_ret
    exact ⟨rfl, rfl⟩
  · rw [sg_pos h]
    go_enter Try.func137, Try.ntmps137
    go_wp2
    go_ret
    exact ⟨rfl, rfl⟩

set_option maxRecDepth 100000 in
theorem l1Abs_any (n : Int) (h0 : n ≠ 0) (b0 : -9000000000000000 ≤ n) (b1 : n ≤ 9000000000000000) (w : World) :
    Calls Try.prog 139 #[.int .i64 n] w fun e w' => e = .returned (.int .i64 (ab n)) ∧ w = w' := by
  rcases Int.lt_or_gt_of_ne h0 with h | h
  · rw [ab_neg h]
    go_enter Try.func139, Try.ntmps139
    go_wp2
    all_goals go_ret
    all_goals exact ⟨rfl, rfl⟩
  · rw [ab_pos h]
    go_enter Try.func139, Try.ntmps139
    go_wp2
    all_goals go_ret
    all_goals exact ⟨rfl, rfl⟩

end Go.Proofs.Ytppbbcckijcckaa
