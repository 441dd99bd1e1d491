/- Contracts: the sign of a surd, in the program. -/
import Derived.Test.YtppbbcckijcckaaSqP
import Derived.Shelf.Bits.Mul64
namespace Go.Proofs.Ytppbbcckijcckaa
open Go.ChangeShapes Go.WideShapes Go.ChangeAt Go.RowKit

def mh (x y : Nat) : Nat := x * y / 18446744073709551616

def ml (x y : Nat) : Nat := x * y % 18446744073709551616

theorem lex (a b : Nat) : (b / 18446744073709551616 < a / 18446744073709551616 ∨ a / 18446744073709551616 = b / 18446744073709551616 ∧ b % 18446744073709551616 < a % 18446744073709551616) ↔ b < a := by omega

set_option maxHeartbeats 1000000 in
theorem mul64_any (x y : Nat) (hx : x < 18446744073709551616) (hy : y < 18446744073709551616) (w : World) :
    Calls Try.prog 145 #[.int .u64 x, .int .u64 y] w fun e w' => e = .returned (.tuple #[.int .u64 (mh x y : Nat), .int .u64 (ml x y : Nat)]) ∧ w = w' := by
  unfold mh ml
  obtain ⟨bd, bt, bw, hhi⟩ := Lib.mul64_hi x y hx hy
  have ba := Lib.half_mul_le (a := x / 4294967296) (b := y / 4294967296) (by omega) (by omega)
  have bb := Lib.half_mul_le (a := x / 4294967296) (b := y % 4294967296) (by omega) (by omega)
  have bc := Lib.half_mul_le (a := x % 4294967296) (b := y / 4294967296) (by omega) (by omega)
  have ba' : x / 4294967296 * (y / 4294967296) < 18446744073709551616 := by omega
  have bb' : x / 4294967296 * (y % 4294967296) < 18446744073709551616 := by omega
  have bc' : x % 4294967296 * (y / 4294967296) < 18446744073709551616 := by omega
  have bh1 : x / 4294967296 * (y / 4294967296) + (x / 4294967296 * (y % 4294967296) + x % 4294967296 * (y % 4294967296) / 4294967296) / 4294967296 < 18446744073709551616 := by omega
  have bh : x / 4294967296 * (y / 4294967296) + (x / 4294967296 * (y % 4294967296) + x % 4294967296 * (y % 4294967296) / 4294967296) / 4294967296 + ((x / 4294967296 * (y % 4294967296) + x % 4294967296 * (y % 4294967296) / 4294967296) % 4294967296 + x % 4294967296 * (y / 4294967296)) / 4294967296 < 18446744073709551616 := by
    rw [hhi]
    have := Nat.mul_lt_mul'' hx hy
    omega
  go_enter Try.func145, Try.ntmps145
  go_wp2
  simp only [Mul64.maskN x hx, Mul64.maskN y hy, Mul64.divN, Mul64.mulN, Mul64.addN, Mul64.wrapN _ bd, Mul64.wrapN _ bb', Mul64.wrapN _ bt, Mul64.maskN _ bt, Mul64.wrapN _ bc', Mul64.wrapN _ bw, Mul64.wrapN _ ba', Mul64.wrapN _ bh1, Mul64.wrapN _ bh, Mul64.wrapM (x * y)]
  rw [hhi]
  go_ret2
  exact ⟨rfl, rfl⟩

theorem mul64_two (q : Nat) (h : q ≤ 9000000000000000) (w : World) :
    Calls Try.prog 145 #[.int .u64 (2 * (q : Int)), .int .u64 q] w fun e w' => e = .returned (.tuple #[.int .u64 (mh (2 * q) q : Nat), .int .u64 (ml (2 * q) q : Nat)]) ∧ w = w' := by
  have e : ((2 * q : Nat) : Int) = 2 * (q : Int) := by omega
  rw [← e]
  exact mul64_any (2 * q) q (by omega) (by omega) w

theorem sizeOf_any (n : Int) (b0 : -9000000000000000 ≤ n) (b1 : n ≤ 9000000000000000) (w : World) :
    Calls Try.prog 144 #[.int .i64 n] w fun e w' => e = .returned (.int .u64 (n.natAbs : Nat)) ∧ w = w' := by
  have hm : max n (-n) = (n.natAbs : Int) := by omega
  have hb : n.natAbs ≤ 9000000000000000 := by omega
  go_enter Try.func144, Try.ntmps144
  go_wp2
  go_ret
  exact ⟨by first | rfl | (simp [hm]; done) | (rw [IntKind.wrap_u64]; simp; omega) | (simp [IntKind.wrap_u64]; omega), rfl⟩

set_option maxRecDepth 100000 in
theorem compare_any (n : Int) (w : World) :
    Calls Try.prog 146 #[.int .i64 n, .int .i64 0] w fun e w' => e = .returned (.int .i64 (sg n)) ∧ w = w' := by
  rcases Int.lt_trichotomy n 0 with h | rfl | h
  · rw [sg_neg h]
    go_enter Try.func146, Try.ntmps146
    go_wp2
    all_goals go_ret
    all_goals exact ⟨rfl, rfl⟩
  · go_enter Try.func146, Try.ntmps146
    go_wp2
    all_goals go_ret
    all_goals exact ⟨rfl, rfl⟩
  · rw [sg_pos h]
    go_enter Try.func146, Try.ntmps146
    go_wp2
    all_goals go_ret
    all_goals exact ⟨rfl, rfl⟩

end Go.Proofs.Ytppbbcckijcckaa
