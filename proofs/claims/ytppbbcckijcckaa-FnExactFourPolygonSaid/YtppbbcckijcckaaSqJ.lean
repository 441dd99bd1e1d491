/- Contracts: SignOfSurd and CompareSurds, in the model and in the program. -/
import Derived.Test.YtppbbcckijcckaaSqI
namespace Go.Proofs.Ytppbbcckijcckaa
open Go.ChangeShapes Go.WideShapes Go.ChangeAt Go.RowKit

theorem G1_abs (s0 s1 : Int) : G1 s0 s1 = decide (2 * s1.natAbs * s1.natAbs < s0.natAbs * s0.natAbs) := by
  have e0 : ((s0.natAbs * s0.natAbs : Nat) : Int) = s0 * s0 := Int.natAbs_mul_self
  have e1 : ((s1.natAbs * s1.natAbs : Nat) : Int) = s1 * s1 := Int.natAbs_mul_self
  have e2 : 2 * s1.natAbs * s1.natAbs = 2 * (s1.natAbs * s1.natAbs) := Nat.mul_assoc _ _ _
  unfold G1
  rw [decide_eq_decide]
  rw [e2]
  omega

set_option maxRecDepth 100000 in
set_option maxHeartbeats 3200000 in
theorem imSign_any (s0 s1 : Int) (b0 : -4000000000000000 ≤ s0) (c0 : s0 ≤ 4000000000000000) (b1 : -4000000000000000 ≤ s1) (c1 : s1 ≤ 4000000000000000) (w : World) :
    Calls Try.prog 111 #[.agg #[.int .i64 s0, .int .i64 s1]] w fun e w' => e = .returned (.int .i64 (sgn2 s0 s1)) ∧ Below w.heap.size w w' := by
  have L := lex (s0.natAbs * s0.natAbs) (2 * s1.natAbs * s1.natAbs)
  have hG := G1_abs s0 s1
  by_cases k1 : mh (2 * s1.natAbs) s1.natAbs < mh s0.natAbs s0.natAbs
  · have hg : G1 s0 s1 = true := by rw [hG]; exact decide_eq_true (L.1 (.inl k1))
    clear L hG
    go_enter Try.func111, Try.ntmps111
    go_wp2_with fail
    go_quiet ((go_at_call 144; exact Calls.quiet_of_same (turned (sizeOf_any _ (by omega) (by omega) _))))
    go_wp2_with (first | (go_at_call 145; (with_reducible refine (mul64_any s0.natAbs s0.natAbs (by omega) (by omega) _).mono ?_); rintro e w' ⟨rfl, rfl⟩) | (go_at_call 145; (with_reducible refine (mul64_two s1.natAbs (by omega) _).mono ?_); rintro e w' ⟨rfl, rfl⟩) | (go_at_call 146; (refine (compare_any _ _).mono ?_); rintro e w' ⟨rfl, rfl⟩))
    all_goals go_returns
    all_goals first | (exfalso; simp_all; done) | exact ⟨by simp [sgn2, hg], by ((repeat refine below_drewN ?_ _); go_grown; done)⟩
  by_cases k2 : mh s0.natAbs s0.natAbs = mh (2 * s1.natAbs) s1.natAbs
  · by_cases k3 : ml (2 * s1.natAbs) s1.natAbs < ml s0.natAbs s0.natAbs
    · have hg : G1 s0 s1 = true := by rw [hG]; exact decide_eq_true (L.1 (.inr ⟨k2, k3⟩))
      clear L hG
      go_enter Try.func111, Try.ntmps111
      go_wp2_with fail
      go_quiet ((go_at_call 144; exact Calls.quiet_of_same (turned (sizeOf_any _ (by omega) (by omega) _))))
      go_wp2_with (first | (go_at_call 145; (with_reducible refine (mul64_any s0.natAbs s0.natAbs (by omega) (by omega) _).mono ?_); rintro e w' ⟨rfl, rfl⟩) | (go_at_call 145; (with_reducible refine (mul64_two s1.natAbs (by omega) _).mono ?_); rintro e w' ⟨rfl, rfl⟩) | (go_at_call 146; (refine (compare_any _ _).mono ?_); rintro e w' ⟨rfl, rfl⟩))
      all_goals go_returns
      all_goals first | (exfalso; simp_all; done) | exact ⟨by simp [sgn2, hg], by ((repeat refine below_drewN ?_ _); go_grown; done)⟩
    · have hg : G1 s0 s1 = false := by rw [hG]; exact decide_eq_false (fun h => (L.2 h).elim k1 (fun h => k3 h.2))
      clear L hG
      go_enter Try.func111, Try.ntmps111
      go_wp2_with fail
      go_quiet ((go_at_call 144; exact Calls.quiet_of_same (turned (sizeOf_any _ (by omega) (by omega) _))))
      go_wp2_with (first | (go_at_call 145; (with_reducible refine (mul64_any s0.natAbs s0.natAbs (by omega) (by omega) _).mono ?_); rintro e w' ⟨rfl, rfl⟩) | (go_at_call 145; (with_reducible refine (mul64_two s1.natAbs (by omega) _).mono ?_); rintro e w' ⟨rfl, rfl⟩) | (go_at_call 146; (refine (compare_any _ _).mono ?_); rintro e w' ⟨rfl, rfl⟩))
      all_goals go_returns
      all_goals first | (exfalso; simp_all; done) | exact ⟨by simp [sgn2, hg], by ((repeat refine below_drewN ?_ _); go_grown; done)⟩
  · have hg : G1 s0 s1 = false := by rw [hG]; exact decide_eq_false (fun h => (L.2 h).elim k1 (fun h => k2 h.1))
    clear L hG
    go_enter Try.func111, Try.ntmps111
    go_wp2_with fail
    go_quiet ((go_at_call 144; exact Calls.quiet_of_same (turned (sizeOf_any _ (by omega) (by omega) _))))
    go_wp2_with (first | (go_at_call 145; (with_reducible refine (mul64_any s0.natAbs s0.natAbs (by omega) (by omega) _).mono ?_); rintro e w' ⟨rfl, rfl⟩) | (go_at_call 145; (with_reducible refine (mul64_two s1.natAbs (by omega) _).mono ?_); rintro e w' ⟨rfl, rfl⟩) | (go_at_call 146; (refine (compare_any _ _).mono ?_); rintro e w' ⟨rfl, rfl⟩))
    all_goals go_returns
    all_goals first | (exfalso; simp_all; done) | exact ⟨by simp [sgn2, hg], by ((repeat refine below_drewN ?_ _); go_grown; done)⟩

end Go.Proofs.Ytppbbcckijcckaa
