/- Contracts: the greatest common divisor, in the model and in the program. -/
import Derived.Test.YtogimjbjdgccnaaDoorCrA
import Derived.BigQuiet
namespace Go.Proofs.YtogimjbjdgccnaaDoor
open Go.ChangeShapes Go.WideShapes Go.ChangeAt Go.RowKit

set_option linter.unusedVariables false

theorem rem_wrap (m n : Nat) (hm : m ≤ 1099511627776) : IntKind.i64.wrap (((m : Nat) : Int).tmod (n : Int)) = ((m % n : Nat) : Int) := by
  have := Nat.mod_le m n
  rw [rem_nat, IntKind.wrap_i64] <;> omega

set_option maxRecDepth 100000 in
theorem comDiv_any (a b : Nat) (ha : a ≤ 1099511627776) (hb : b ≤ 1099511627776) (w : World) :
    Calls Tryd.prog 73 #[.int .i64 a, .int .i64 b] w fun e w' => e = .returned (.int .i64 (Nat.gcd a b : Nat)) ∧ w = w' := by
  go_enter Tryd.func73, Tryd.ntmps73
  go_wp2_with fail
  go_loop [0, 1] (fun x y => ∃ m n : Nat, x = .int .i64 m ∧ y = .int .i64 n ∧ Hid (Nat.gcd m n = Nat.gcd a b) ∧ m ≤ 1099511627776 ∧ n ≤ 1099511627776) (fun x _ => (intOf x).toNat)
  case atStart => exact ⟨a, b, rfl, rfl, Lib.hid rfl, ha, hb⟩
  case round =>
    obtain ⟨m, n, rfl, rfl, hG, hm, hn⟩ := hrel
    by_cases h : 0 < m
    · have w1 := rem_wrap n m hn
      have hlt := Nat.mod_lt n h
      have hle := Nat.mod_le n m
      have HG := Lib.hid (show Nat.gcd (n % m) m = Nat.gcd a b by rw [← Nat.gcd_rec]; exact hG.out)
      have er : (n : Int) % (m : Int) = ((n % m : Nat) : Int) := rfl
      clear w1
      generalize n % m = r at *
      go_wp2_with fail
      go_round
      case rel => exact ⟨r, m, by rw [er], rfl, HG, by omega, hm⟩
      case measure => simp only [intOf, er]; omega
    · obtain rfl : m = 0 := by omega
      have HG := Lib.hid (show n = Nat.gcd a b by rw [← hG.out, Nat.gcd_zero_left])
      go_wp2_with fail
      go_ret
      exact ⟨congrArg (fun z : Nat => Ending.returned (.int .i64 (z : Int))) HG.out, rfl⟩

set_option maxRecDepth 100000 in
theorem tnCommon_any (a b : Nat) (ha : a ≤ 1099511627776) (hb : b ≤ 1099511627776) (w : World) :
    Calls Tryd.prog 71 #[.int .i64 a, .int .i64 b] w fun e w' => e = .returned (.int .i64 (Nat.gcd a b : Nat)) ∧ Below w.heap.size w w' := by
  go_enter Tryd.func71, Tryd.ntmps71
  go_wp2_with fail
  go_loopw [0, 1] (fun x y wr => ∃ m n : Nat, x = .int .i64 m ∧ y = .int .i64 n ∧ Hid (Nat.gcd m n = Nat.gcd a b) ∧ m ≤ 1099511627776 ∧ n ≤ 1099511627776 ∧ Below w.heap.size w wr) (fun _ y _ => (intOf y).toNat)
  case atStart => exact ⟨a, b, rfl, rfl, Lib.hid rfl, ha, hb, Below.refl _ _⟩
  case round =>
    obtain ⟨m, n, rfl, rfl, hG, hm, hn, hB⟩ := hrel
    have HB := Lib.hid hB
    clear hB
    by_cases h : 0 < n
    · have w1 := rem_wrap m n hm
      have hlt := Nat.mod_lt m h
      have hle := Nat.mod_le m n
      have hne : ¬ (n : Int) = 0 := by omega
      have HG := Lib.hid (show Nat.gcd n (m % n) = Nat.gcd a b by rw [Nat.gcd_comm, ← Nat.gcd_rec, Nat.gcd_comm]; exact hG.out)
      have er : (m : Int) % (n : Int) = ((m % n : Nat) : Int) := rfl
      clear w1
      generalize m % n = r at *
      go_wp2_with fail
      go_quiet (fail)
      go_wp2_with fail
      go_roundw
      case rel => exact ⟨n, r, rfl, by rw [er], HG, hn, by omega, HB.out.trans (below_dw _ _)⟩
      case measure => simp only [intOf, er]; omega
    · obtain rfl : n = 0 := by omega
      have HG := Lib.hid (show m = Nat.gcd a b by rw [← hG.out, Nat.gcd_zero_right])
      go_wp2_with fail
      go_ret
      exact ⟨congrArg (fun z : Nat => Ending.returned (.int .i64 (z : Int))) HG.out, HB.out⟩

end Go.Proofs.YtogimjbjdgccnaaDoor
