/- Plain numbers: no square is twice another one; parts of the continued fraction of the root of two. -/
import Derived.WalkKit
namespace Go.Proofs.Ytfcgglcpphaekaa

theorem irr (n : Nat) : ∀ (y r : Int), r.toNat ≤ n → 0 < y → 0 < r → y * y ≠ 2 * (y * r) + r * r := by
  induction n with
  | zero => intro y r h _ h0; omega
  | succ n ih =>
    intro y r hr hy h0 he
    have h1 : 2 * r < y := by
      rcases Int.lt_or_le (2 * r) y with h | h
      · exact h
      · have := Int.mul_le_mul_of_nonneg_left h (Int.le_of_lt hy)
        have e : y * (2 * r) = 2 * (y * r) := by rw [Int.mul_left_comm]
        have p := Int.mul_pos h0 h0
        omega
    have h2 : y < 3 * r := by
      rcases Int.lt_or_le y (3 * r) with h | h
      · exact h
      · have k := Int.mul_le_mul_of_nonneg_left h (Int.le_of_lt hy)
        have e : y * (3 * r) = 3 * (y * r) := by rw [Int.mul_left_comm]
        have k2 := Int.mul_le_mul_of_nonneg_right h (Int.le_of_lt h0)
        have e2 : 3 * r * r = 3 * (r * r) := Int.mul_assoc _ _ _
        have p := Int.mul_pos h0 h0
        omega
    obtain ⟨t, ht⟩ : ∃ t, y = 2 * r + t := ⟨y - 2 * r, by omega⟩
    subst ht
    refine ih r t (by omega) h0 (by omega) ?_
    have e1 : (2 * r + t) * (2 * r + t) = 4 * (r * r) + 4 * (r * t) + t * t := by
      rw [Int.add_mul, Int.mul_add, Int.mul_add]
      have a1 : 2 * r * (2 * r) = 4 * (r * r) := by rw [Int.mul_assoc, Int.mul_left_comm r 2 r, ← Int.mul_assoc]; rfl
      have a2 : 2 * r * t = 2 * (r * t) := Int.mul_assoc _ _ _
      have a3 : t * (2 * r) = 2 * (r * t) := by rw [Int.mul_comm, Int.mul_assoc]
      omega
    have e2 : (2 * r + t) * r = 2 * (r * r) + r * t := by
      rw [Int.add_mul, Int.mul_assoc, Int.mul_comm t r]
    rw [e1, e2] at he
    omega

def G1 (x y : Int) : Bool := decide (2 * (y * y) < x * x)

def G2 (x y : Int) : Bool := decide (2 * (x * y) + y * y < x * x)

theorem sq_add (y r : Int) : (y + r) * (y + r) = y * y + 2 * (y * r) + r * r := by
  rw [Int.add_mul, Int.mul_add, Int.mul_add, Int.mul_comm r y]
  omega

theorem G1_step (y r : Int) (hy : 0 < y) (h0 : 0 < r) : G1 (y + r) y = !G2 y r := by
  have i := irr r.toNat y r (Nat.le_refl _) hy h0
  unfold G1 G2
  rw [sq_add]
  by_cases h : 2 * (y * r) + r * r < y * y
  · have : ¬ 2 * (y * y) < y * y + 2 * (y * r) + r * r := by omega
    simp [h, this]
  · have : 2 * (y * y) < y * y + 2 * (y * r) + r * r := by omega
    simp [h, this]

theorem G1_end (y : Int) (hy : 0 < y) : G1 y y = false := by
  have := Int.mul_pos hy hy
  unfold G1
  exact decide_eq_false (by omega)

theorem e2y (y r : Int) : (2 * y + r) * (2 * y + r) = 4 * (y * y) + 4 * (y * r) + r * r := by
  rw [Int.add_mul, Int.mul_add, Int.mul_add]
  have a1 : 2 * y * (2 * y) = 4 * (y * y) := by rw [Int.mul_assoc, Int.mul_left_comm y 2 y, ← Int.mul_assoc]; rfl
  have a2 : 2 * y * r = 2 * (y * r) := Int.mul_assoc _ _ _
  have a3 : r * (2 * y) = 2 * (y * r) := by rw [Int.mul_comm, Int.mul_assoc]
  omega

theorem e2x (y r : Int) : (2 * y + r) * y = 2 * (y * y) + y * r := by
  rw [Int.add_mul, Int.mul_assoc, Int.mul_comm r y]

theorem G2_step (y r : Int) (hy : 0 < y) (h0 : 0 < r) : G2 (2 * y + r) y = !G2 y r := by
  have i := irr r.toNat y r (Nat.le_refl _) hy h0
  unfold G2
  rw [e2y, e2x]
  by_cases h : 2 * (y * r) + r * r < y * y
  · have : ¬ 2 * (2 * (y * y) + y * r) + y * y < 4 * (y * y) + 4 * (y * r) + r * r := by omega
    simp [h, this]
  · have : 2 * (2 * (y * y) + y * r) + y * y < 4 * (y * y) + 4 * (y * r) + r * r := by omega
    simp [h, this]

theorem G2_end (y : Int) (hy : 0 < y) : G2 (2 * y) y = false := by
  have := Int.mul_pos hy hy
  have e := e2y y 0
  have f := e2x y 0
  simp at e f
  unfold G2
  rw [e, f]
  exact decide_eq_false (by omega)

theorem G1_more (x y : Int) (hy : 0 < y) (h : 2 * y ≤ x) : G1 x y = true := by
  have a := Int.mul_le_mul_of_nonneg_left h (by omega : 0 ≤ x)
  have b := Int.mul_le_mul_of_nonneg_right h (by omega : 0 ≤ y)
  have e : x * (2 * y) = 2 * (x * y) := by rw [Int.mul_left_comm]
  have f : 2 * y * y = 2 * (y * y) := Int.mul_assoc _ _ _
  have p := Int.mul_pos hy hy
  unfold G1
  exact decide_eq_true (by omega)

theorem G1_less (x y : Int) (hx : 0 < x) (h : x < y) : G1 x y = false := by
  have a := Int.mul_le_mul_of_nonneg_left (Int.le_of_lt h) (Int.le_of_lt hx)
  have b := Int.mul_le_mul_of_nonneg_right (Int.le_of_lt h) (by omega : 0 ≤ y)
  have p := Int.mul_pos (by omega : 0 < y) (by omega : 0 < y)
  unfold G1
  exact decide_eq_false (by omega)

theorem G2_more (x y : Int) (hy : 0 < y) (h : 3 * y ≤ x) : G2 x y = true := by
  have a := Int.mul_le_mul_of_nonneg_left h (by omega : 0 ≤ x)
  have b := Int.mul_le_mul_of_nonneg_right h (by omega : 0 ≤ y)
  have e : x * (3 * y) = 3 * (x * y) := by rw [Int.mul_left_comm]
  have f : 3 * y * y = 3 * (y * y) := Int.mul_assoc _ _ _
  have p := Int.mul_pos hy hy
  unfold G2
  exact decide_eq_true (by omega)

theorem G2_less (x y : Int) (hx : 0 < x) (hy : 0 < y) (h : x < 2 * y) : G2 x y = false := by
  have a := Int.mul_le_mul_of_nonneg_left (Int.le_of_lt h) (Int.le_of_lt hx)
  have e : x * (2 * y) = 2 * (x * y) := by rw [Int.mul_left_comm]
  have p := Int.mul_pos hy hy
  unfold G2
  exact decide_eq_false (by omega)

end Go.Proofs.Ytfcgglcpphaekaa
