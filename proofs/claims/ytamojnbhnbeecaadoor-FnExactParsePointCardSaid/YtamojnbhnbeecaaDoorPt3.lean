/- Contracts: sums, multiples and differences of points, in the model and in the program; a point is let out or not; two equal points. -/
import Derived.Test.YtamojnbhnbeecaaDoorPt2
import Derived.Test.YtamojnbhnbeecaaDoorSl
namespace Go.Proofs.YtamojnbhnbeecaaDoor
open Go.ChangeShapes Go.WideShapes Go.ChangeAt Go.RowKit

set_option maxRecDepth 100000 in
theorem eqPoint_same (a0 a1 a2 a3 : Int) (w : World) :
    Calls Tryd.prog 10 #[.agg #[.int .i64 a0, .int .i64 a1, .int .i64 a2, .int .i64 a3], .agg #[.int .i64 a0, .int .i64 a1, .int .i64 a2, .int .i64 a3]] w fun e w' => e = .returned (.bool true) ∧ Below w.heap.size w w' := by
  go_enter Tryd.func10, Tryd.ntmps10
  go_wp2
  go_returns
  exact ⟨rfl, by go_grown⟩

set_option maxRecDepth 100000 in
theorem spIf_any (a0 a1 a2 a3 : Int) (w : World) :
    Calls Tryd.prog 18 #[.agg #[.int .i64 a0, .int .i64 a1, .int .i64 a2, .int .i64 a3]] w fun e w' => e = .returned (.tuple #[.agg #[.int .i64 (sel (goodB a0 a1 a2 a3) a0), .int .i64 (sel (goodB a0 a1 a2 a3) a1), .int .i64 (sel (goodB a0 a1 a2 a3) a2), .int .i64 (sel (goodB a0 a1 a2 a3) a3)], .bool (goodB a0 a1 a2 a3)]) ∧ Below w.heap.size w w' := by
  cases hg : goodB a0 a1 a2 a3
  all_goals
    go_enter Tryd.func18, Tryd.ntmps18
    go_wp2_with (go_at_call 11; refine (spGood_any _ _ _ _ _).mono ?_; rintro e w1 ⟨rfl, h1⟩; have hB : Below w.heap.size w w1 := ba (by go_grown) h1; obtain ⟨hc1, hf1⟩ := bcell h1; have hq := h1.size; (try simp at hq); have hz0 : w.heap.size < w1.heap.size := (by omega); have hz1 : w.heap.size + 1 < w1.heap.size := (by omega); clear h1 hq)
    refine bodyPost_ret (by simp [results, Tryd.results18, go_sem, *]; try rfl) rfl ?_
    exact ⟨rfl, by go_grown⟩

end Go.Proofs.YtamojnbhnbeecaaDoor
