/- Contracts: SignOfSurd and CompareSurds, in the model and in the program. -/
import Derived.Test.YtadlkmfgjmcgeabSqJ
namespace Go.Proofs.Ytadlkmfgjmcgeab
open Go.ChangeShapes Go.WideShapes Go.ChangeAt Go.RowKit

theorem sd_bd {n s0 s1 : Int} (h : surdB n s0 s1 = true) : -n ≤ s0 ∧ s0 ≤ n ∧ -n ≤ s1 ∧ s1 ≤ n := by
  simp [surdB, inB] at h
  omega

set_option maxRecDepth 100000 in
theorem ptCompare_any (s0 s1 : Int) (t0 t1 : Int) (ps0 : -1900000000000000 ≤ s0) (qs0 : s0 ≤ 1900000000000000) (ps1 : -1900000000000000 ≤ s1) (qs1 : s1 ≤ 1900000000000000) (pt0 : -1900000000000000 ≤ t0) (qt0 : t0 ≤ 1900000000000000) (pt1 : -1900000000000000 ≤ t1) (qt1 : t1 ≤ 1900000000000000) (w : World) :
    Calls Try.prog 45 #[.agg #[.int .i64 s0, .int .i64 s1], .agg #[.int .i64 t0, .int .i64 t1]] w fun e w' => e = .returned (.int .i64 (sgn2 (s0 - t0) (s1 - t1))) ∧ Below w.heap.size w w' := by
  go_enter Try.func45, Try.ntmps45
  go_wp2_with (go_at_call 57; refine (ptSign_any _ _ (by omega) (by omega) (by omega) (by omega) _).mono ?_; rintro e w1 ⟨rfl, h1⟩; have hB : Below w.heap.size w w1 := ba (by go_grown) h1; obtain ⟨hc1, hf1⟩ := bcell h1; have hq := h1.size; (try simp at hq); have hz0 : w.heap.size < w1.heap.size := (by omega); have hz1 : w.heap.size + 1 < w1.heap.size := (by omega); clear h1 hq)
  go_returns
  exact ⟨rfl, by go_grown⟩

def csG (s0 s1 t0 t1 : Int) : Bool := surdB 1000000000000000 s0 s1 && surdB 1000000000000000 t0 t1

end Go.Proofs.Ytadlkmfgjmcgeab
