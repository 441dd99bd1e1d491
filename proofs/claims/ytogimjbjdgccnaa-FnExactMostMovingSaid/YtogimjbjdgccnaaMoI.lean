/- Contracts: the greatest number of trains that can all move. -/
import Derived.Test.YtogimjbjdgccnaaRn
import Derived.BigQuiet
namespace Go.Proofs.Ytogimjbjdgccnaa
open Go.ChangeShapes Go.WideShapes Go.ChangeAt Go.RowKit

set_option linter.unusedVariables false

def moB (n g : Int) : Bool := inB n 1 24 && inB g 1 3

def moN (n g : Nat) : Nat := if 1 < n then max 1 (n / (g + 1)) else 0

def moR (n g : Int) : Int := cond (moB n g) ((moN n.toNat g.toNat : Nat) : Int) 0

theorem ret_mo {n g x : Int} {b : Bool} (hb : moB n g = b) (hs : moR n g = x) : Ending.returned (.tuple #[.int .i64 x, .bool b]) = Ending.returned (.tuple #[.int .i64 (moR n g), .bool (moB n g)]) := by rw [hb, hs]

theorem quo_n (a n : Nat) (ha : a ≤ 24) : IntKind.i64.wrap (((a : Nat) : Int).tdiv (n : Int)) = ((a / n : Nat) : Int) := by
  have := Nat.div_le_self a n
  rw [Int.tdiv_eq_ediv_of_nonneg (by omega)]
  rw [show ((a : Int) / (n : Int)) = ((a / n : Nat) : Int) from rfl]
  generalize a / n = d at this ⊢
  rw [IntKind.wrap_i64]
  omega

set_option maxRecDepth 100000 in
theorem most_any (a b : Nat) (w : World) :
    Calls Try.prog 10 #[.int .i64 a, .int .i64 b] w fun e w' => e = .returned (.int .i64 (max a b : Nat)) ∧ w = w' := by
  by_cases h : b < a
  · have e : max a b = a := by omega
    have h' : (b : Int) < (a : Int) := by omega
    rw [e]
    go_enter Try.func10, Try.ntmps10
    go_wp2_with fail
    go_ret
    exact ⟨rfl, rfl⟩
  · have e : max a b = b := by omega
    have h' : ¬ (b : Int) < (a : Int) := by omega
    rw [e]
    go_enter Try.func10, Try.ntmps10
    go_wp2_with fail
    go_ret
    exact ⟨rfl, rfl⟩

set_option maxRecDepth 100000 in
theorem spMostMoving (n g : Int) (w : World) :
    Calls Try.prog 5 #[.int .i64 n, .int .i64 g] w fun e w' => e = .returned (.tuple #[.int .i64 (moR n g), .bool (moB n g)]) ∧ Below w.heap.size w w' := by
  have I1 := l1In_any n 1 24
  have I2 := l1In_any g 1 3
  cases h1 : inB n 1 24
  · rw [h1] at I1
    have B := Lib.hid (show moB n g = false by rw [moB, h1]; rfl)
    clear h1
    go_enter Try.func5, Try.ntmps5
    go_wp2_with (go_at_call 9; refine (I1 _).mono ?_; rintro e w' ⟨rfl, rfl⟩)
    go_ret2
    exact ⟨ret_mo B.out (by rw [moR, B.out]; rfl), Below.refl _ _⟩
  · rw [h1] at I1
    cases h2 : inB g 1 3
    · rw [h2] at I2
      have B := Lib.hid (show moB n g = false by rw [moB, h1, h2]; rfl)
      clear h1 h2
      go_enter Try.func5, Try.ntmps5
      go_wp2_with (first | (go_at_call 9; (with_reducible refine Calls.mono (I1 _) ?_); rintro e w' ⟨rfl, rfl⟩) | (go_at_call 9; (with_reducible refine Calls.mono (I2 _) ?_); rintro e w' ⟨rfl, rfl⟩))
      go_ret2
      exact ⟨ret_mo B.out (by rw [moR, B.out]; rfl), Below.refl _ _⟩
    · rw [h2] at I2
      have B := Lib.hid (show moB n g = true by rw [moB, h1, h2]; rfl)
      simp only [inB, decide_eq_true_eq] at h1 h2
      obtain ⟨a, rfl⟩ : ∃ a : Nat, n = a := ⟨n.toNat, by omega⟩
      obtain ⟨b, rfl⟩ : ∃ b : Nat, g = b := ⟨g.toNat, by omega⟩
      have R := Lib.hid (show moR a b = ((moN a b : Nat) : Int) by rw [moR, B.out]; rfl)
      have hM := most_any 1 (a / (b + 1))
      have q := quo_n a (b + 1) (by omega)
      have dl := Nat.div_le_self a (b + 1)
      rw [show ((b + 1 : Nat) : Int) = (b : Int) + 1 by omega] at q
      have er : (a : Int) / ((b : Int) + 1) = ((a / (b + 1) : Nat) : Int) := rfl
      have hne : ¬ (b : Int) + 1 = 0 := by omega
      by_cases h : 1 < a
      · have R2 := Lib.hid (R.out.trans (show ((moN a b : Nat) : Int) = (max 1 (a / (b + 1)) : Nat) by rw [moN, if_pos h]))
        generalize a / (b + 1) = d at *
        have h' : 1 < (a : Int) := by omega
        go_enter Try.func5, Try.ntmps5
        go_wp2_with (first | (go_at_call 9; (with_reducible refine Calls.mono (I1 _) ?_); rintro e w' ⟨rfl, rfl⟩) | (go_at_call 9; (with_reducible refine Calls.mono (I2 _) ?_); rintro e w' ⟨rfl, rfl⟩) | (go_at_call 10; refine (hM _).mono ?_; rintro e w' ⟨rfl, rfl⟩))
        go_ret2
        exact ⟨ret_mo B.out R2.out, Below.refl _ _⟩
      · have R2 := Lib.hid (R.out.trans (show ((moN a b : Nat) : Int) = 0 by rw [moN, if_neg h]; rfl))
        have h' : ¬ 1 < (a : Int) := by omega
        go_enter Try.func5, Try.ntmps5
        go_wp2_with (first | (go_at_call 9; (with_reducible refine Calls.mono (I1 _) ?_); rintro e w' ⟨rfl, rfl⟩) | (go_at_call 9; (with_reducible refine Calls.mono (I2 _) ?_); rintro e w' ⟨rfl, rfl⟩))
        go_ret2
        exact ⟨ret_mo B.out R2.out, Below.refl _ _⟩

set_option maxRecDepth 100000 in
theorem imMostMoving (n g : Int) (w : World) :
    Calls Try.prog 6 #[.int .i64 n, .int .i64 g] w fun e w' => e = .returned (.tuple #[.int .i64 (moR n g), .bool (moB n g)]) ∧ Below w.heap.size w w' := by
  have I1 := isInRange_any n 1 24
  have I2 := isInRange_any g 1 3
  cases h1 : inB n 1 24
  · rw [h1] at I1
    have B := Lib.hid (show moB n g = false by rw [moB, h1]; rfl)
    clear h1
    go_enter Try.func6, Try.ntmps6
    go_wp2_with (go_at_call 11; refine (I1 _).mono ?_; rintro e w' ⟨rfl, rfl⟩)
    go_ret2
    exact ⟨ret_mo B.out (by rw [moR, B.out]; rfl), Below.refl _ _⟩
  · rw [h1] at I1
    cases h2 : inB g 1 3
    · rw [h2] at I2
      have B := Lib.hid (show moB n g = false by rw [moB, h1, h2]; rfl)
      clear h1 h2
      go_enter Try.func6, Try.ntmps6
      go_wp2_with (first | (go_at_call 11; (with_reducible refine Calls.mono (I1 _) ?_); rintro e w' ⟨rfl, rfl⟩) | (go_at_call 11; (with_reducible refine Calls.mono (I2 _) ?_); rintro e w' ⟨rfl, rfl⟩))
      go_ret2
      exact ⟨ret_mo B.out (by rw [moR, B.out]; rfl), Below.refl _ _⟩
    · rw [h2] at I2
      have B := Lib.hid (show moB n g = true by rw [moB, h1, h2]; rfl)
      simp only [inB, decide_eq_true_eq] at h1 h2
      obtain ⟨a, rfl⟩ : ∃ a : Nat, n = a := ⟨n.toNat, by omega⟩
      obtain ⟨b, rfl⟩ : ∃ b : Nat, g = b := ⟨g.toNat, by omega⟩
      have R := Lib.hid (show moR a b = ((moN a b : Nat) : Int) by rw [moR, B.out]; rfl)
      have q := quo_n a (b + 1) (by omega)
      have dl := Nat.div_le_self a (b + 1)
      rw [show ((b + 1 : Nat) : Int) = (b : Int) + 1 by omega] at q
      have er : (a : Int) / ((b : Int) + 1) = ((a / (b + 1) : Nat) : Int) := rfl
      have hne : ¬ (b : Int) + 1 = 0 := by omega
      by_cases h : a = 1
      · have R2 := Lib.hid (R.out.trans (show ((moN a b : Nat) : Int) = 0 by rw [moN, if_neg (by omega)]; rfl))
        clear q dl er hne R
        subst h
        go_enter Try.func6, Try.ntmps6
        go_wp2_with (first | (go_at_call 11; (with_reducible refine Calls.mono (I1 _) ?_); rintro e w' ⟨rfl, rfl⟩) | (go_at_call 11; (with_reducible refine Calls.mono (I2 _) ?_); rintro e w' ⟨rfl, rfl⟩))
        go_ret2
        exact ⟨ret_mo B.out R2.out, Below.refl _ _⟩
      · have R2 := Lib.hid (R.out.trans (show ((moN a b : Nat) : Int) = (max 1 (a / (b + 1)) : Nat) by rw [moN, if_pos (by omega)]))
        generalize a / (b + 1) = d at *
        have h' : ((a : Int) == 1) = false := by simp; omega
        go_enter Try.func6, Try.ntmps6
        go_wp2_with (first | (go_at_call 11; (with_reducible refine Calls.mono (I1 _) ?_); rintro e w' ⟨rfl, rfl⟩) | (go_at_call 11; (with_reducible refine Calls.mono (I2 _) ?_); rintro e w' ⟨rfl, rfl⟩))
        all_goals go_ret2
        all_goals exact ⟨ret_mo B.out (R2.out.trans (by omega)), Below.refl _ _⟩

end Go.Proofs.Ytogimjbjdgccnaa
