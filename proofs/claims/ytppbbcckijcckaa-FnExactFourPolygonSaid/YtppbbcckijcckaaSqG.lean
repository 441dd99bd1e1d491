/- Contract: which of both is greater, by the continued fraction, in the model. -/
import Derived.Test.YtppbbcckijcckaaSq
import Derived.Test.YtppbbcckijcckaaPt2
import Derived.LoopTactic
import Derived.Lib.Hide
namespace Go.Proofs.Ytppbbcckijcckaa
open Go.ChangeShapes Go.WideShapes Go.ChangeAt Go.RowKit

def GRel (T : Bool) (wh x y : Int) (g : Bool) : Prop := (wh = 1 ∧ T = (G1 x y == g)) ∨ (wh = 2 ∧ T = (G2 x y == g))

theorem q_one {x y : Int} (hy : 0 < y) (h1 : y ≤ x) (h2 : x < 2 * y) : x / y = 1 := by
  have a : 1 ≤ x / y := (Int.le_ediv_iff_mul_le hy).2 (by omega)
  have b : x / y < 2 := (Int.ediv_lt_iff_lt_mul hy).2 (by omega)
  omega

theorem q_two {x y : Int} (hy : 0 < y) (h1 : 2 * y ≤ x) (h2 : x < 3 * y) : x / y = 2 := by
  have a : 2 ≤ x / y := (Int.le_ediv_iff_mul_le hy).2 (by omega)
  have b : x / y < 3 := (Int.ediv_lt_iff_lt_mul hy).2 (by omega)
  omega

theorem q_zero {x y : Int} (hx : 0 < x) (h1 : x < y) : x / y = 0 := Int.ediv_eq_zero_of_lt (by omega) h1

theorem q_ge2 {x y : Int} (hy : 0 < y) (h1 : 2 * y ≤ x) : 2 ≤ x / y := (Int.le_ediv_iff_mul_le hy).2 (by omega)

theorem q_ge3 {x y : Int} (hy : 0 < y) (h1 : 3 * y ≤ x) : 3 ≤ x / y := (Int.le_ediv_iff_mul_le hy).2 (by omega)

theorem q_le1 {x y : Int} (hx : 0 < x) (hy : 0 < y) (h1 : x < 2 * y) : 0 ≤ x / y ∧ x / y ≤ 1 := by
  have b : x / y < 2 := (Int.ediv_lt_iff_lt_mul hy).2 (by omega)
  have a : 0 ≤ x / y := Int.ediv_nonneg (by omega) (by omega)
  omega

theorem q_lex {x y : Int} (hx : 0 < x) : x / y ≤ x := Int.ediv_le_self _ (by omega)

set_option maxRecDepth 100000 in
set_option maxHeartbeats 3200000 in
theorem greater_any (X Y : Int) (hX : 0 < X) (hY : 0 < Y) (bX : X ≤ 9000000000000000) (bY : Y ≤ 9000000000000000) (w : World) :
    Calls Try.prog 138 #[.int .i64 X, .int .i64 Y] w fun e w' => e = .returned (.bool (G1 X Y)) ∧ w = w' := by
  go_enter Try.func138, Try.ntmps138
  go_wp2
  go_loop [0, 1, 5, 6] (fun v0 v1 v5 v6 => ∃ (x y wh : Int) (g : Bool), v0 = .int .i64 x ∧ v1 = .int .i64 y ∧ v5 = .bool g ∧ v6 = .int .i64 wh ∧ 0 < x ∧ 0 < y ∧ x ≤ 9000000000000000 ∧ y ≤ 9000000000000000 ∧ GRel (G1 X Y) wh x y g) (fun _ v1 _ _ => (intOf v1).toNat)
  case atStart => exact ⟨X, Y, 1, true, rfl, rfl, rfl, rfl, hX, hY, bX, bY, .inl ⟨rfl, by simp⟩⟩
  case round =>
    obtain ⟨x, y, wh, g, rfl, rfl, rfl, rfl, hx, hy, bx, bby, hrel⟩ := hrel
    rcases hrel with ⟨rfl, hT⟩ | ⟨rfl, hT⟩
    · by_cases c1 : x < y
      · have hq := q_zero hx c1
        rw [G1_less x y hx c1] at hT
        have HT := Lib.hid hT
        clear hT
        go_wp2
        go_ret
        exact ⟨by rw [HT.out]; first | (cases g <;> rfl) | (cases g <;> simp <;> omega), rfl⟩
      by_cases c2 : 2 * y ≤ x
      · have hq := q_ge2 hy c2
        have hq2 := q_lex (y := y) hx
        rw [G1_more x y hy c2] at hT
        have HT := Lib.hid hT
        clear hT
        obtain ⟨k, hk⟩ : ∃ k, x / y = k := ⟨_, rfl⟩
        rw [hk] at hq hq2
        go_wp2
        go_ret
        exact ⟨by rw [HT.out]; first | (cases g <;> rfl) | (cases g <;> simp <;> omega), rfl⟩
      · have hq := q_one (x := x) hy (by omega) (by omega)
        have HT := Lib.hid hT
        clear hT
        by_cases c3 : x = y
        · subst c3
          go_wp2
          go_ret
          exact ⟨by rw [HT.out, G1_end _ hy]; cases g <;> rfl, rfl⟩
        · obtain ⟨r, hr⟩ : ∃ r, x = y + r := ⟨x - y, by omega⟩
          subst hr
          have hr0 : 0 < r := by omega
          go_wp2
          go_round
          case rel => exact ⟨y, r, 2, !g, rfl, by go_num, rfl, rfl, hy, hr0, by omega, by omega, .inr ⟨rfl, by rw [HT.out, G1_step y r hy hr0]; cases G2 y r <;> cases g <;> rfl⟩⟩
          case measure => simp [intOf]; omega
    · by_cases c1 : x < 2 * y
      · have hq := q_le1 hx hy c1
        rw [G2_less x y hx hy c1] at hT
        have HT := Lib.hid hT
        clear hT
        obtain ⟨k, hk⟩ : ∃ k, x / y = k := ⟨_, rfl⟩
        rw [hk] at hq
        obtain ⟨hq0, hq1⟩ := hq
        go_wp2
        go_ret
        exact ⟨by rw [HT.out]; first | (cases g <;> rfl) | (cases g <;> simp <;> omega), rfl⟩
      by_cases c2 : 3 * y ≤ x
      · have hq := q_ge3 hy c2
        have hq2 := q_lex (y := y) hx
        rw [G2_more x y hy c2] at hT
        have HT := Lib.hid hT
        clear hT
        obtain ⟨k, hk⟩ : ∃ k, x / y = k := ⟨_, rfl⟩
        rw [hk] at hq hq2
        go_wp2
        go_ret
        exact ⟨by rw [HT.out]; first | (cases g <;> rfl) | (cases g <;> simp <;> omega), rfl⟩
      · have hq := q_two (x := x) hy (by omega) (by omega)
        have HT := Lib.hid hT
        clear hT
        by_cases c3 : x = 2 * y
        · subst c3
          go_wp2
          go_ret
          exact ⟨by rw [HT.out, G2_end _ hy]; cases g <;> rfl, rfl⟩
        · obtain ⟨r, hr⟩ : ∃ r, x = 2 * y + r := ⟨x - 2 * y, by omega⟩
          subst hr
          have hr0 : 0 < r := by omega
          go_wp2
          go_round
          case rel => exact ⟨y, r, 2, !g, rfl, by go_num, rfl, rfl, hy, hr0, by omega, by omega, .inr ⟨rfl, by rw [HT.out, G2_step y r hy hr0]; cases G2 y r <;> cases g <;> rfl⟩⟩
          case measure => simp [intOf]; omega

end Go.Proofs.Ytppbbcckijcckaa
