/- Contracts: all closed tracks of some pieces. -/
import Derived.Test.YtadlkmfgjmcgeaaSs
import Derived.Test.YtadlkmfgjmcgeaaRn
namespace Go.Proofs.Ytadlkmfgjmcgeaa
open Go.ChangeShapes Go.WideShapes Go.ChangeAt Go.RowKit

set_option linter.unusedVariables false

def ctB (n : Int) : Bool := inB n 1 10 && decide ((clsL sp0 n.toNat).length ≤ 300)
def ctL (n : Int) : List (List UInt8) := cond (ctB n) (clsL sp0 n.toNat) []
theorem ct_no {n : Int} (h : ctB n = false) : ctL n = [] := by simp [ctL, h]
theorem ct_yes {n : Int} (h : ctB n = true) : ctL n = clsL sp0 n.toNat := by simp [ctL, h]
theorem ClosedTracks_len (n : Int) : (ctL n).length ≤ 900000 := by
  cases h : ctB n
  · rw [ct_no h]; exact Nat.zero_le _
  · rw [ct_yes h]
    simp only [ctB, Bool.and_eq_true, decide_eq_true_eq] at h
    omega

set_option maxRecDepth 100000 in
theorem spClosedTracks (n : Int) (w : World) : Calls Try.prog 26 #[.int .i64 n] w (STPost (ctL n) (ctB n) w) := by
  cases h1 : inB n 1 10
  · have hb : ctB n = false := by simp [ctB, h1]
    rw [ct_no hb, hb]
    go_enter Try.func26, Try.ntmps26
    go_wp2_with (go_at_call 46; refine (l1In_any _ _ _ _).mono ?_; rintro e w' ⟨rfl, rfl⟩)
    go_ret2
    exact stNo (by go_grown)
  · have g1 : 1 ≤ n ∧ n ≤ 10 := by simpa [inB] using h1
    obtain ⟨m, rfl⟩ : ∃ m : Nat, n = m := ⟨n.toNat, by omega⟩
    have P := Lib.hid (fun w => (clAll_any m (by omega) sp0 (sp0_ok.mono (by omega)) w : Calls Try.prog 53 #[.agg #[.int .i64 0, .int .i64 0, .int .i64 0, .int .i64 0], .int .i64 0, .int .i64 (m : Nat)] w (StrPost (clsL sp0 m) w)))
    have hB : ctB (m : Int) = decide ((clsL sp0 m).length ≤ 300) := by simp [ctB, h1]
    have hL : ctL (m : Int) = cond (decide ((clsL sp0 m).length ≤ 300)) (clsL sp0 m) [] := by simp only [ctL, hB]; rfl
    rw [hB, hL]
    have hlen := cls_len sp0 m
    have h10 : 3 ^ m ≤ 59049 := Nat.pow_le_pow_right (by decide) (show m ≤ 10 by omega)
    generalize clsL sp0 m = l at *
    obtain ⟨k, hk⟩ : ∃ k, l.length = k := ⟨_, rfl⟩
    have HK := Lib.hid hk
    rw [hk] at hlen
    by_cases h3 : k ≤ 300
    · have hd : decide (l.length ≤ 300) = true := decide_eq_true (by omega)
      rw [hd, cond_true]
      have h3' : ¬ 300 < k := by omega
      clear hd hB hL hk
      go_enter Try.func26, Try.ntmps26
      go_wp2_with (go_at_call 46; refine (l1In_any _ _ _ _).mono ?_; rintro e w' ⟨rfl, rfl⟩)
      refine (P.out _).mono ?_
      rintro e w1 ⟨v, rfl, o1, hb⟩
      rw [HK.out] at o1
      obtain ⟨av, cv, rfl⟩ := own_formC o1
      have O1 := Lib.hid o1
      have HB := Lib.hid hb
      clear o1 hb
      go_wp2_with fail
      go_ret2
      exact ⟨_, rfl, by rw [HK.out]; exact O1.out, HB.out⟩
    · have hd : decide (l.length ≤ 300) = false := decide_eq_false (by omega)
      rw [hd, cond_false]
      have h3' : 300 < k := by omega
      clear hd hB hL hk
      go_enter Try.func26, Try.ntmps26
      go_wp2_with (go_at_call 46; refine (l1In_any _ _ _ _).mono ?_; rintro e w' ⟨rfl, rfl⟩)
      refine (P.out _).mono ?_
      rintro e w1 ⟨v, rfl, o1, hb⟩
      rw [HK.out] at o1
      obtain ⟨av, cv, rfl⟩ := own_formC o1
      have HB := Lib.hid hb
      clear o1 hb
      go_wp2_with fail
      go_ret2
      exact stNo HB.out

set_option maxRecDepth 100000 in
theorem imClosedTracks (n : Int) (w : World) : Calls Try.prog 27 #[.int .i64 n] w (STPost (ctL n) (ctB n) w) := by
  cases h1 : inB n 1 10
  · have hb : ctB n = false := by simp [ctB, h1]
    rw [ct_no hb, hb]
    go_enter Try.func27, Try.ntmps27
    go_wp2_with (go_at_call 47; refine (isInRange_any _ _ _ _).mono ?_; rintro e w' ⟨rfl, rfl⟩)
    go_ret2
    exact stNo (by go_grown)
  · have g1 : 1 ≤ n ∧ n ≤ 10 := by simpa [inB] using h1
    obtain ⟨m, rfl⟩ : ∃ m : Nat, n = m := ⟨n.toNat, by omega⟩
    have P := Lib.hid (fun w => (closings_any sp0 (sp0_ok.mono (by omega)) m (by omega) w : Calls Try.prog 54 #[.agg #[.int .i64 0, .int .i64 0, .int .i64 0, .int .i64 0, .int .i64 0], .int .i64 (m : Nat)] w (StrPost (clsL sp0 m) w)))
    have hB : ctB (m : Int) = decide ((clsL sp0 m).length ≤ 300) := by simp [ctB, h1]
    have hL : ctL (m : Int) = cond (decide ((clsL sp0 m).length ≤ 300)) (clsL sp0 m) [] := by simp only [ctL, hB]; rfl
    rw [hB, hL]
    have hlen := cls_len sp0 m
    have h10 : 3 ^ m ≤ 59049 := Nat.pow_le_pow_right (by decide) (show m ≤ 10 by omega)
    generalize clsL sp0 m = l at *
    obtain ⟨k, hk⟩ : ∃ k, l.length = k := ⟨_, rfl⟩
    have HK := Lib.hid hk
    rw [hk] at hlen
    by_cases h3 : k ≤ 300
    · have hd : decide (l.length ≤ 300) = true := decide_eq_true (by omega)
      rw [hd, cond_true]
      have h3' : ¬ 300 < k := by omega
      clear hd hB hL hk
      go_enter Try.func27, Try.ntmps27
      go_wp2_with (go_at_call 47; refine (isInRange_any _ _ _ _).mono ?_; rintro e w' ⟨rfl, rfl⟩)
      refine (P.out _).mono ?_
      rintro e w1 ⟨v, rfl, o1, hb⟩
      rw [HK.out] at o1
      obtain ⟨av, cv, rfl⟩ := own_formC o1
      have O1 := Lib.hid o1
      have HB := Lib.hid hb
      clear o1 hb
      go_wp2_with fail
      go_ret2
      exact ⟨_, rfl, by rw [HK.out]; exact O1.out, HB.out⟩
    · have hd : decide (l.length ≤ 300) = false := decide_eq_false (by omega)
      rw [hd, cond_false]
      have h3' : 300 < k := by omega
      clear hd hB hL hk
      go_enter Try.func27, Try.ntmps27
      go_wp2_with (go_at_call 47; refine (isInRange_any _ _ _ _).mono ?_; rintro e w' ⟨rfl, rfl⟩)
      refine (P.out _).mono ?_
      rintro e w1 ⟨v, rfl, o1, hb⟩
      rw [HK.out] at o1
      obtain ⟨av, cv, rfl⟩ := own_formC o1
      have HB := Lib.hid hb
      clear o1 hb
      go_wp2_with fail
      go_ret2
      exact stNo HB.out

end Go.Proofs.Ytadlkmfgjmcgeaa
