/- Contracts: SignOfSurd and its like, in the model. -/
import Derived.Test.YtppbbcckijcckaaSqS
import Derived.Test.YtppbbcckijcckaaSl
namespace Go.Proofs.Ytppbbcckijcckaa
open Go.ChangeShapes Go.WideShapes Go.ChangeAt Go.RowKit

/-- A call that leaves the world alone, in a region that draws behind another one. -/
theorem two_quiet {P : Program} {f : FuncId} {args : Array Value} {w : World} {a n : Nat} {v : Value} (h : Calls P f args (w.drewN (a + n)) fun e w' => e = .returned v ∧ w' = w.drewN (a + n)) :
    Calls P f args (w.drewN (a + n)) fun e w' => e = .returned v ∧ ∃ m, w' = w.drewN (a + m) := h.mono fun _ _ k => ⟨k.1, n, k.2⟩

theorem below_drewN {B : Nat} {a w : World} (h : Below B a w) (n : Nat) : Below B a (w.drewN n) := ⟨h.os, h.tape, h.output, h.size, h.block⟩

set_option maxRecDepth 100000 in
set_option maxHeartbeats 3200000 in
theorem ptSign_any (s0 s1 : Int) (b0 : -4000000000000000 ≤ s0) (c0 : s0 ≤ 4000000000000000) (b1 : -4000000000000000 ≤ s1) (c1 : s1 ≤ 4000000000000000) (w : World) :
    Calls Try.prog 106 #[.agg #[.int .i64 s0, .int .i64 s1]] w fun e w' => e = .returned (.int .i64 (sgn2 s0 s1)) ∧ Below w.heap.size w w' := by
  rcases Int.lt_trichotomy s0 0 with h0 | rfl | h0 <;> rcases Int.lt_trichotomy s1 0 with h1 | rfl | h1
  · have e0 := sg_neg h0
    have e1 := sg_neg h1
    have hs : sgn2 s0 s1 = -1 := by rw [sgn2]; cases G1 s0 s1 <;> simp [e0, e1]
    rw [hs]
    clear hs
    go_enter Try.func106, Try.ntmps106
    go_wp2_with fail
    go_quiet ((go_at_call 137; exact Calls.quiet_of_same (turned (l1Sign_any _ _))))
    go_wp2
    go_returns
    exact ⟨by first | rfl | (simp [*]; done), by first | (refine below_drewN ?_ _; go_grown; done) | (go_grown; done)⟩
  · have e0 := sg_neg h0
    have e1 := sg_zero
    have hs : sgn2 s0 0 = -1 := by rw [sgn2, G1_z1 _ (by omega)]; simp [e0]
    rw [hs]
    clear hs
    go_enter Try.func106, Try.ntmps106
    go_wp2_with fail
    go_quiet ((go_at_call 137; exact Calls.quiet_of_same (turned (l1Sign_any _ _))))
    go_wp2
    go_returns
    exact ⟨by first | rfl | (simp [*]; done), by first | (refine below_drewN ?_ _; go_grown; done) | (go_grown; done)⟩
  · have e0 := sg_neg h0
    have e1 := sg_pos h1
    have hG : G1 (ab s0) (ab s1) = G1 s0 s1 := by rw [ab_neg h0, ab_pos h1, G1_neg0]
    have pa : 0 < ab s0 := by rw [ab_neg h0]; omega
    have pb : 0 < ab s1 := by rw [ab_pos h1]; omega
    have qa : ab s0 ≤ 9000000000000000 := by rw [ab_neg h0]; omega
    have qb : ab s1 ≤ 9000000000000000 := by rw [ab_pos h1]; omega
    have hs : sgn2 s0 s1 = cond (G1 s0 s1) (-1) 1 := by simp [sgn2, e0, e1]
    rw [hs]
    have HG := Lib.hid hG
    clear hG hs
    cases hg : G1 s0 s1
    · have hg2 : G1 (ab s0) (ab s1) = false := by rw [HG.out, hg]
      go_enter Try.func106, Try.ntmps106
      go_wp2_with fail
      go_quiet ((go_at_call 137; exact Calls.quiet_of_same (turned (l1Sign_any _ _))))
      go_wp2
      go_quiet ((first | (go_at_call 139; exact two_quiet (turned (l1Abs_any _ (by omega) (by omega) (by omega) _))) | (go_at_call 138; exact two_quiet (turned (greater_any _ _ pa pb qa qb _)))))
      go_wp2
      all_goals go_returns
      all_goals first | (exfalso; simp_all; done) | exact ⟨by first | rfl | (simp [*]; done), by ((repeat refine below_drewN ?_ _); go_grown; done)⟩
    · have hg2 : G1 (ab s0) (ab s1) = true := by rw [HG.out, hg]
      go_enter Try.func106, Try.ntmps106
      go_wp2_with fail
      go_quiet ((go_at_call 137; exact Calls.quiet_of_same (turned (l1Sign_any _ _))))
      go_wp2
      go_quiet ((first | (go_at_call 139; exact two_quiet (turned (l1Abs_any _ (by omega) (by omega) (by omega) _))) | (go_at_call 138; exact two_quiet (turned (greater_any _ _ pa pb qa qb _)))))
      go_wp2
      all_goals go_returns
      all_goals first | (exfalso; simp_all; done) | exact ⟨by first | rfl | (simp [*]; done), by ((repeat refine below_drewN ?_ _); go_grown; done)⟩
  · have e0 := sg_zero
    have e1 := sg_neg h1
    have hs : sgn2 0 s1 = -1 := by rw [sgn2, G1_z0]; simp [e1]
    rw [hs]
    clear hs
    go_enter Try.func106, Try.ntmps106
    go_wp2_with fail
    go_quiet ((go_at_call 137; exact Calls.quiet_of_same (turned (l1Sign_any _ _))))
    go_wp2
    go_returns
    exact ⟨by first | rfl | (simp [*]; done), by first | (refine below_drewN ?_ _; go_grown; done) | (go_grown; done)⟩
  · have e0 := sg_zero
    have hs : sgn2 0 0 = 0 := by rw [sgn2, G1_z0]; simp [sg_zero]
    rw [hs]
    clear hs
    go_enter Try.func106, Try.ntmps106
    go_wp2_with fail
    go_quiet ((go_at_call 137; exact Calls.quiet_of_same (turned (l1Sign_any _ _))))
    go_wp2
    go_returns
    exact ⟨by first | rfl | (simp [*]; done), by first | (refine below_drewN ?_ _; go_grown; done) | (go_grown; done)⟩
  · have e0 := sg_zero
    have e1 := sg_pos h1
    have hs : sgn2 0 s1 = 1 := by rw [sgn2, G1_z0]; simp [e1]
    rw [hs]
    clear hs
    go_enter Try.func106, Try.ntmps106
    go_wp2_with fail
    go_quiet ((go_at_call 137; exact Calls.quiet_of_same (turned (l1Sign_any _ _))))
    go_wp2
    go_returns
    exact ⟨by first | rfl | (simp [*]; done), by first | (refine below_drewN ?_ _; go_grown; done) | (go_grown; done)⟩
  · have e0 := sg_pos h0
    have e1 := sg_neg h1
    have hG : G1 (ab s0) (ab s1) = G1 s0 s1 := by rw [ab_pos h0, ab_neg h1, G1_neg1]
    have pa : 0 < ab s0 := by rw [ab_pos h0]; omega
    have pb : 0 < ab s1 := by rw [ab_neg h1]; omega
    have qa : ab s0 ≤ 9000000000000000 := by rw [ab_pos h0]; omega
    have qb : ab s1 ≤ 9000000000000000 := by rw [ab_neg h1]; omega
    have hs : sgn2 s0 s1 = cond (G1 s0 s1) 1 (-1) := by simp [sgn2, e0, e1]
    rw [hs]
    have HG := Lib.hid hG
    clear hG hs
    cases hg : G1 s0 s1
    · have hg2 : G1 (ab s0) (ab s1) = false := by rw [HG.out, hg]
      go_enter Try.func106, Try.ntmps106
      go_wp2_with fail
      go_quiet ((go_at_call 137; exact Calls.quiet_of_same (turned (l1Sign_any _ _))))
      go_wp2
      go_quiet ((first | (go_at_call 139; exact two_quiet (turned (l1Abs_any _ (by omega) (by omega) (by omega) _))) | (go_at_call 138; exact two_quiet (turned (greater_any _ _ pa pb qa qb _)))))
      go_wp2
      all_goals go_returns
      all_goals first | (exfalso; simp_all; done) | exact ⟨by first | rfl | (simp [*]; done), by ((repeat refine below_drewN ?_ _); go_grown; done)⟩
    · have hg2 : G1 (ab s0) (ab s1) = true := by rw [HG.out, hg]
      go_enter Try.func106, Try.ntmps106
      go_wp2_with fail
      go_quiet ((go_at_call 137; exact Calls.quiet_of_same (turned (l1Sign_any _ _))))
      go_wp2
      go_quiet ((first | (go_at_call 139; exact two_quiet (turned (l1Abs_any _ (by omega) (by omega) (by omega) _))) | (go_at_call 138; exact two_quiet (turned (greater_any _ _ pa pb qa qb _)))))
      go_wp2
      all_goals go_returns
      all_goals first | (exfalso; simp_all; done) | exact ⟨by first | rfl | (simp [*]; done), by ((repeat refine below_drewN ?_ _); go_grown; done)⟩
  · have e0 := sg_pos h0
    have e1 := sg_zero
    have hs : sgn2 s0 0 = 1 := by rw [sgn2, G1_z1 _ (by omega)]; simp [e0]
    rw [hs]
    clear hs
    go_enter Try.func106, Try.ntmps106
    go_wp2_with fail
    go_quiet ((go_at_call 137; exact Calls.quiet_of_same (turned (l1Sign_any _ _))))
    go_wp2
    go_returns
    exact ⟨by first | rfl | (simp [*]; done), by first | (refine below_drewN ?_ _; go_grown; done) | (go_grown; done)⟩
  · have e0 := sg_pos h0
    have e1 := sg_pos h1
    have hs : sgn2 s0 s1 = 1 := by rw [sgn2]; cases G1 s0 s1 <;> simp [e0, e1]
    rw [hs]
    clear hs
    go_enter Try.func106, Try.ntmps106
    go_wp2_with fail
    go_quiet ((go_at_call 137; exact Calls.quiet_of_same (turned (l1Sign_any _ _))))
    go_wp2
    go_returns
    exact ⟨by first | rfl | (simp [*]; done), by first | (refine below_drewN ?_ _; go_grown; done) | (go_grown; done)⟩

end Go.Proofs.Ytppbbcckijcckaa
