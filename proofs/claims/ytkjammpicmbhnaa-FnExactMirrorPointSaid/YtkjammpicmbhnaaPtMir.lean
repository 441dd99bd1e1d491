/- Contracts: the mirrored point, in the model and in the program. -/
import Derived.Test.YtkjammpicmbhnaaPt3
namespace Go.Proofs.Ytkjammpicmbhnaa
open Go.ChangeShapes Go.WideShapes Go.ChangeAt Go.RowKit

set_option maxRecDepth 100000 in
theorem spMir_any (a0 a1 a2 a3 : Int) (w : World) :
    Calls Try.prog 46 #[.agg #[.int .i64 a0, .int .i64 a1, .int .i64 a2, .int .i64 a3]] w fun e w' => e = .returned (.agg #[.int .i64 a0, .int .i64 (wrap64 (-a3)), .int .i64 (wrap64 (-a2)), .int .i64 (wrap64 (-a1))]) ∧ Below w.heap.size w w' := by
  go_enter Try.func46, Try.ntmps46
  go_wp2
  go_returns
  exact ⟨rfl, by go_grown⟩

set_option maxRecDepth 100000 in
set_option maxHeartbeats 800000 in
theorem spMirrorPoint_any (a0 a1 a2 a3 : Int) (w : World) :
    Calls Try.prog 24 #[.agg #[.int .i64 a0, .int .i64 a1, .int .i64 a2, .int .i64 a3]] w fun e w' => e = .returned (.tuple #[.agg #[.int .i64 (sel (goodB a0 a1 a2 a3) a0), .int .i64 (sel (goodB a0 a1 a2 a3) (wrap64 (-a3))), .int .i64 (sel (goodB a0 a1 a2 a3) (wrap64 (-a2))), .int .i64 (sel (goodB a0 a1 a2 a3) (wrap64 (-a1)))], .bool (goodB a0 a1 a2 a3)]) ∧ Below w.heap.size w w' := by
  cases hga : goodB a0 a1 a2 a3
  all_goals
    go_enter Try.func24, Try.ntmps24
    go_wp2_with (first | (go_at_call 32; refine (spGood_any _ _ _ _ _).mono ?_; rintro e w1 ⟨rfl, h1⟩; have hB : Below w.heap.size w w1 := ba (by go_grown) h1; obtain ⟨hc1, hf1⟩ := bcell h1; have hq := h1.size; (try simp at hq); have hz0 : w.heap.size < w1.heap.size := (by omega); have hz1 : w.heap.size + 1 < w1.heap.size := (by omega); clear h1 hq) | (go_at_call 46; refine (spMir_any _ _ _ _ _).mono ?_; rintro e w1 ⟨rfl, h1⟩; have hB : Below w.heap.size w w1 := ba (by go_grown) h1; obtain ⟨hc1, hf1⟩ := bcell h1; have hq := h1.size; (try simp at hq); have hz0 : w.heap.size < w1.heap.size := (by omega); have hz1 : w.heap.size + 1 < w1.heap.size := (by omega); clear h1 hq))
    refine bodyPost_ret (by simp [results, Try.results24, go_sem, *]; try rfl) rfl ?_
    exact ⟨by simp [sel], by go_grown⟩

set_option maxRecDepth 100000 in
set_option maxHeartbeats 800000 in
theorem imMirrorPoint_any (a0 a1 a2 a3 : Int) (w : World) :
    Calls Try.prog 25 #[.agg #[.int .i64 a0, .int .i64 a1, .int .i64 a2, .int .i64 a3]] w fun e w' => e = .returned (.tuple #[.agg #[.int .i64 (sel (goodB a0 a1 a2 a3) a0), .int .i64 (sel (goodB a0 a1 a2 a3) (wrap64 (-a3))), .int .i64 (sel (goodB a0 a1 a2 a3) (wrap64 (-a2))), .int .i64 (sel (goodB a0 a1 a2 a3) (wrap64 (-a1)))], .bool (goodB a0 a1 a2 a3)]) ∧ Below w.heap.size w w' := by
  cases hga : goodB a0 a1 a2 a3
  all_goals
    go_enter Try.func25, Try.ntmps25
    go_wp2_with (first | (go_at_call 14; refine (imIsPoint_any _ _ _ _ _).mono ?_; rintro e w1 ⟨rfl, h1⟩; have hB : Below w.heap.size w w1 := ba (by go_grown) h1; obtain ⟨hc1, hf1⟩ := bcell h1; have hq := h1.size; (try simp at hq); have hz0 : w.heap.size < w1.heap.size := (by omega); have hz1 : w.heap.size + 1 < w1.heap.size := (by omega); clear h1 hq))
    refine bodyPost_ret (by simp [results, Try.results25, go_sem, *]; try rfl) rfl ?_
    exact ⟨by simp [sel], by go_grown⟩

end Go.Proofs.Ytkjammpicmbhnaa
