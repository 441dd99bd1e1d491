/- Contracts: the sum of two points, in the model and in the program. -/
import Derived.Test.YtkjammpicmbhnaaPt3
namespace Go.Proofs.Ytkjammpicmbhnaa
open Go.ChangeShapes Go.WideShapes Go.ChangeAt Go.RowKit

def addG (a0 a1 a2 a3 : Int) (b0 b1 b2 b3 : Int) : Bool := goodB a0 a1 a2 a3 && (goodB b0 b1 b2 b3 && goodB (wrap64 (a0 + b0)) (wrap64 (a1 + b1)) (wrap64 (a2 + b2)) (wrap64 (a3 + b3)))

set_option maxRecDepth 100000 in
set_option maxHeartbeats 800000 in
theorem spAddPoints_any (a0 a1 a2 a3 : Int) (b0 b1 b2 b3 : Int) (w : World) :
    Calls Try.prog 15 #[.agg #[.int .i64 a0, .int .i64 a1, .int .i64 a2, .int .i64 a3], .agg #[.int .i64 b0, .int .i64 b1, .int .i64 b2, .int .i64 b3]] w fun e w' => e = .returned (.tuple #[.agg #[.int .i64 (sel (addG a0 a1 a2 a3 b0 b1 b2 b3) (wrap64 (a0 + b0))), .int .i64 (sel (addG a0 a1 a2 a3 b0 b1 b2 b3) (wrap64 (a1 + b1))), .int .i64 (sel (addG a0 a1 a2 a3 b0 b1 b2 b3) (wrap64 (a2 + b2))), .int .i64 (sel (addG a0 a1 a2 a3 b0 b1 b2 b3) (wrap64 (a3 + b3)))], .bool (addG a0 a1 a2 a3 b0 b1 b2 b3)]) ∧ Below w.heap.size w w' := by
  cases hga : goodB a0 a1 a2 a3
  · go_enter Try.func15, Try.ntmps15
    go_wp2_with (go_at_call 32; refine (spGood_any _ _ _ _ _).mono ?_; rintro e w1 ⟨rfl, h1⟩; have hB : Below w.heap.size w w1 := ba (by go_grown) h1; obtain ⟨hc1, hf1⟩ := bcell h1; have hq := h1.size; (try simp at hq); have hz0 : w.heap.size < w1.heap.size := (by omega); have hz1 : w.heap.size + 1 < w1.heap.size := (by omega); have hz2 : w.heap.size + 2 < w1.heap.size := (by omega); clear h1 hq)
    refine bodyPost_ret (by simp [results, Try.results15, go_sem, *]; try rfl) rfl ?_
    exact ⟨by simp [addG, sel, hga], by go_grown⟩
  cases hgb : goodB b0 b1 b2 b3
  · go_enter Try.func15, Try.ntmps15
    go_wp2_with (go_at_call 32; refine (spGood_any _ _ _ _ _).mono ?_; rintro e w1 ⟨rfl, h1⟩; have hB : Below w.heap.size w w1 := ba (by go_grown) h1; obtain ⟨hc1, hf1⟩ := bcell h1; have hq := h1.size; (try simp at hq); have hz0 : w.heap.size < w1.heap.size := (by omega); have hz1 : w.heap.size + 1 < w1.heap.size := (by omega); have hz2 : w.heap.size + 2 < w1.heap.size := (by omega); clear h1 hq)
    refine bodyPost_ret (by simp [results, Try.results15, go_sem, *]; try rfl) rfl ?_
    exact ⟨by simp [addG, sel, hgb], by go_grown⟩
  · go_enter Try.func15, Try.ntmps15
    go_wp2_with (first | (go_at_call 32; refine (spGood_any _ _ _ _ _).mono ?_; rintro e w1 ⟨rfl, h1⟩; have hB : Below w.heap.size w w1 := ba (by go_grown) h1; obtain ⟨hc1, hf1⟩ := bcell h1; have hq := h1.size; (try simp at hq); have hz0 : w.heap.size < w1.heap.size := (by omega); have hz1 : w.heap.size + 1 < w1.heap.size := (by omega); have hz2 : w.heap.size + 2 < w1.heap.size := (by omega); clear h1 hq) | (go_at_call 35; refine (spAdd_any _ _ _ _ _ _ _ _ _).mono ?_; rintro e w1 ⟨rfl, h1⟩; have hB : Below w.heap.size w w1 := ba (by go_grown) h1; obtain ⟨hc1, hf1⟩ := bcell h1; have hq := h1.size; (try simp at hq); have hz0 : w.heap.size < w1.heap.size := (by omega); have hz1 : w.heap.size + 1 < w1.heap.size := (by omega); have hz2 : w.heap.size + 2 < w1.heap.size := (by omega); clear h1 hq) | (go_at_call 34; refine (spIf_any _ _ _ _ _).mono ?_; rintro e w1 ⟨rfl, h1⟩; have hB : Below w.heap.size w w1 := ba (by go_grown) h1; obtain ⟨hc1, hf1⟩ := bcell h1; have hq := h1.size; (try simp at hq); have hz0 : w.heap.size < w1.heap.size := (by omega); have hz1 : w.heap.size + 1 < w1.heap.size := (by omega); have hz2 : w.heap.size + 2 < w1.heap.size := (by omega); clear h1 hq))
    refine bodyPost_ret (by simp [results, Try.results15, go_sem, *]; try rfl) rfl ?_
    exact ⟨by simp [addG, hga, hgb], by go_grown⟩

set_option maxRecDepth 100000 in
set_option maxHeartbeats 800000 in
theorem imAddPoints_any (a0 a1 a2 a3 : Int) (b0 b1 b2 b3 : Int) (w : World) :
    Calls Try.prog 16 #[.agg #[.int .i64 a0, .int .i64 a1, .int .i64 a2, .int .i64 a3], .agg #[.int .i64 b0, .int .i64 b1, .int .i64 b2, .int .i64 b3]] w fun e w' => e = .returned (.tuple #[.agg #[.int .i64 (sel (addG a0 a1 a2 a3 b0 b1 b2 b3) (wrap64 (a0 + b0))), .int .i64 (sel (addG a0 a1 a2 a3 b0 b1 b2 b3) (wrap64 (a1 + b1))), .int .i64 (sel (addG a0 a1 a2 a3 b0 b1 b2 b3) (wrap64 (a2 + b2))), .int .i64 (sel (addG a0 a1 a2 a3 b0 b1 b2 b3) (wrap64 (a3 + b3)))], .bool (addG a0 a1 a2 a3 b0 b1 b2 b3)]) ∧ Below w.heap.size w w' := by
  cases hga : goodB a0 a1 a2 a3
  · go_enter Try.func16, Try.ntmps16
    go_wp2_with (go_at_call 14; refine (imIsPoint_any _ _ _ _ _).mono ?_; rintro e w1 ⟨rfl, h1⟩; have hB : Below w.heap.size w w1 := ba (by go_grown) h1; obtain ⟨hc1, hf1⟩ := bcell h1; have hq := h1.size; (try simp at hq); have hz0 : w.heap.size < w1.heap.size := (by omega); have hz1 : w.heap.size + 1 < w1.heap.size := (by omega); have hz2 : w.heap.size + 2 < w1.heap.size := (by omega); clear h1 hq)
    refine bodyPost_ret (by simp [results, Try.results16, go_sem, *]; try rfl) rfl ?_
    exact ⟨by simp [addG, sel, hga], by go_grown⟩
  cases hgb : goodB b0 b1 b2 b3
  · go_enter Try.func16, Try.ntmps16
    go_wp2_with (go_at_call 14; refine (imIsPoint_any _ _ _ _ _).mono ?_; rintro e w1 ⟨rfl, h1⟩; have hB : Below w.heap.size w w1 := ba (by go_grown) h1; obtain ⟨hc1, hf1⟩ := bcell h1; have hq := h1.size; (try simp at hq); have hz0 : w.heap.size < w1.heap.size := (by omega); have hz1 : w.heap.size + 1 < w1.heap.size := (by omega); have hz2 : w.heap.size + 2 < w1.heap.size := (by omega); clear h1 hq)
    refine bodyPost_ret (by simp [results, Try.results16, go_sem, *]; try rfl) rfl ?_
    exact ⟨by simp [addG, sel, hgb], by go_grown⟩
  · go_enter Try.func16, Try.ntmps16
    go_wp2_with (first | (go_at_call 14; refine (imIsPoint_any _ _ _ _ _).mono ?_; rintro e w1 ⟨rfl, h1⟩; have hB : Below w.heap.size w w1 := ba (by go_grown) h1; obtain ⟨hc1, hf1⟩ := bcell h1; have hq := h1.size; (try simp at hq); have hz0 : w.heap.size < w1.heap.size := (by omega); have hz1 : w.heap.size + 1 < w1.heap.size := (by omega); have hz2 : w.heap.size + 2 < w1.heap.size := (by omega); clear h1 hq) | (go_at_call 37; refine (imPlus_any _ _ _ _ _ _ _ _ _).mono ?_; rintro e w1 ⟨rfl, h1⟩; have hB : Below w.heap.size w w1 := ba (by go_grown) h1; obtain ⟨hc1, hf1⟩ := bcell h1; have hq := h1.size; (try simp at hq); have hz0 : w.heap.size < w1.heap.size := (by omega); have hz1 : w.heap.size + 1 < w1.heap.size := (by omega); have hz2 : w.heap.size + 2 < w1.heap.size := (by omega); clear h1 hq) | (go_at_call 36; refine (imOnly_any _ _ _ _ _).mono ?_; rintro e w1 ⟨rfl, h1⟩; have hB : Below w.heap.size w w1 := ba (by go_grown) h1; obtain ⟨hc1, hf1⟩ := bcell h1; have hq := h1.size; (try simp at hq); have hz0 : w.heap.size < w1.heap.size := (by omega); have hz1 : w.heap.size + 1 < w1.heap.size := (by omega); have hz2 : w.heap.size + 2 < w1.heap.size := (by omega); clear h1 hq))
    refine bodyPost_ret (by simp [results, Try.results16, go_sem, *]; try rfl) rfl ?_
    exact ⟨by simp [addG, hga, hgb], by go_grown⟩

end Go.Proofs.Ytkjammpicmbhnaa
