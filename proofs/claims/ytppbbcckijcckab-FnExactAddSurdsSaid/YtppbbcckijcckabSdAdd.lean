/- Contracts: sums and products of surds, in the model and in the program. -/
import Derived.Test.YtppbbcckijcckabSd
namespace Go.Proofs.Ytppbbcckijcckab
open Go.ChangeShapes Go.WideShapes Go.ChangeAt Go.RowKit

set_option maxRecDepth 100000 in
set_option maxHeartbeats 400000 in
theorem spSum_any (s0 s1 : Int) (t0 t1 : Int) (w : World) :
    Calls Try.prog 44 #[.agg #[.int .i64 s0, .int .i64 s1], .agg #[.int .i64 t0, .int .i64 t1]] w fun e w' => e = .returned (.agg #[.int .i64 (wrap64 (s0 + t0)), .int .i64 (wrap64 (s1 + t1))]) ∧ Below w.heap.size w w' := by
  go_enter Try.func44, Try.ntmps44
  go_wp2
  go_returns
  exact ⟨rfl, by go_grown⟩

def asG (s0 s1 t0 t1 : Int) : Bool := surdB 1000000000000000 s0 s1 && (surdB 1000000000000000 t0 t1 && surdB 1000000000000000 (wrap64 (s0 + t0)) (wrap64 (s1 + t1)))

def tsG (s0 s1 t0 t1 : Int) : Bool := surdB 1000000 s0 s1 && surdB 1000000 t0 t1

set_option maxRecDepth 100000 in
set_option maxHeartbeats 800000 in
theorem spAddSurds_any (s0 s1 : Int) (t0 t1 : Int) (w : World) :
    Calls Try.prog 22 #[.agg #[.int .i64 s0, .int .i64 s1], .agg #[.int .i64 t0, .int .i64 t1]] w fun e w' => e = .returned (.tuple #[.agg #[.int .i64 (sel (asG s0 s1 t0 t1) (wrap64 (s0 + t0))), .int .i64 (sel (asG s0 s1 t0 t1) (wrap64 (s1 + t1)))], .bool (asG s0 s1 t0 t1)]) ∧ Below w.heap.size w w' := by
  cases ha : surdB 1000000000000000 s0 s1
  · go_enter Try.func22, Try.ntmps22
    go_wp2_with (first | (go_at_call 43; refine (spSurd_any _ _ _).mono ?_; rintro e w1 ⟨rfl, h1⟩; have hB : Below w.heap.size w w1 := ba (by go_grown) h1; obtain ⟨hc1, hf1⟩ := bcell h1; have hq := h1.size; (try simp at hq); have hz0 : w.heap.size < w1.heap.size := (by omega); have hz1 : w.heap.size + 1 < w1.heap.size := (by omega); have hz2 : w.heap.size + 2 < w1.heap.size := (by omega); have HK1 := Lib.hid h1; clear h1 hq) | (go_at_call 44; refine (spSum_any _ _ _ _ _).mono ?_; rintro e w1 ⟨rfl, h1⟩; have hB : Below w.heap.size w w1 := ba (by go_grown) h1; obtain ⟨hc1, hf1⟩ := bcell h1; have hq := h1.size; (try simp at hq); have hz0 : w.heap.size < w1.heap.size := (by omega); have hz1 : w.heap.size + 1 < w1.heap.size := (by omega); have hz2 : w.heap.size + 2 < w1.heap.size := (by omega); have HK1 := Lib.hid h1; clear h1 hq))
    refine bodyPost_ret (by simp [results, Try.results22, go_sem, *]; try rfl) rfl ?_
    exact ⟨by simp [asG, sel, ha], by go_grown⟩
  cases hb : surdB 1000000000000000 t0 t1
  · go_enter Try.func22, Try.ntmps22
    go_wp2_with (first | (go_at_call 43; refine (spSurd_any _ _ _).mono ?_; rintro e w1 ⟨rfl, h1⟩; have hB : Below w.heap.size w w1 := ba (by go_grown) h1; obtain ⟨hc1, hf1⟩ := bcell h1; have hq := h1.size; (try simp at hq); have hz0 : w.heap.size < w1.heap.size := (by omega); have hz1 : w.heap.size + 1 < w1.heap.size := (by omega); have hz2 : w.heap.size + 2 < w1.heap.size := (by omega); have HK1 := Lib.hid h1; clear h1 hq) | (go_at_call 44; refine (spSum_any _ _ _ _ _).mono ?_; rintro e w1 ⟨rfl, h1⟩; have hB : Below w.heap.size w w1 := ba (by go_grown) h1; obtain ⟨hc1, hf1⟩ := bcell h1; have hq := h1.size; (try simp at hq); have hz0 : w.heap.size < w1.heap.size := (by omega); have hz1 : w.heap.size + 1 < w1.heap.size := (by omega); have hz2 : w.heap.size + 2 < w1.heap.size := (by omega); have HK1 := Lib.hid h1; clear h1 hq))
    refine bodyPost_ret (by simp [results, Try.results22, go_sem, *]; try rfl) rfl ?_
    exact ⟨by simp [asG, sel, hb], by go_grown⟩
  cases hc : surdB 1000000000000000 (wrap64 (s0 + t0)) (wrap64 (s1 + t1))
  all_goals
    go_enter Try.func22, Try.ntmps22
    go_wp2_with (first | (go_at_call 43; refine (spSurd_any _ _ _).mono ?_; rintro e w1 ⟨rfl, h1⟩; have hB : Below w.heap.size w w1 := ba (by go_grown) h1; obtain ⟨hc1, hf1⟩ := bcell h1; have hq := h1.size; (try simp at hq); have hz0 : w.heap.size < w1.heap.size := (by omega); have hz1 : w.heap.size + 1 < w1.heap.size := (by omega); have hz2 : w.heap.size + 2 < w1.heap.size := (by omega); have HK1 := Lib.hid h1; clear h1 hq) | (go_at_call 44; refine (spSum_any _ _ _ _ _).mono ?_; rintro e w1 ⟨rfl, h1⟩; have hB : Below w.heap.size w w1 := ba (by go_grown) h1; obtain ⟨hc1, hf1⟩ := bcell h1; have hq := h1.size; (try simp at hq); have hz0 : w.heap.size < w1.heap.size := (by omega); have hz1 : w.heap.size + 1 < w1.heap.size := (by omega); have hz2 : w.heap.size + 2 < w1.heap.size := (by omega); have HK1 := Lib.hid h1; clear h1 hq))
    refine bodyPost_ret (by simp [results, Try.results22, go_sem, *]; try rfl) rfl ?_
    exact ⟨by simp [asG, sel, ha, hb, hc], by go_grown⟩

set_option maxRecDepth 100000 in
theorem imSPlus_any (s0 s1 : Int) (t0 t1 : Int) (w : World) :
    Calls Try.prog 47 #[.agg #[.int .i64 s0, .int .i64 s1], .agg #[.int .i64 t0, .int .i64 t1]] w fun e w' => e = .returned (.agg #[.int .i64 (wrap64 (s0 + t0)), .int .i64 (wrap64 (s1 + t1))]) ∧ Below w.heap.size w w' := by
  go_enter Try.func47, Try.ntmps47
  go_wp2
  go_returns
  exact ⟨rfl, by go_grown⟩

set_option maxRecDepth 100000 in
theorem imOnlySurd_any (s0 s1 : Int) (w : World) :
    Calls Try.prog 46 #[.agg #[.int .i64 s0, .int .i64 s1]] w fun e w' => e = .returned (.tuple #[.agg #[.int .i64 (sel (surdB 1000000000000000 s0 s1) s0), .int .i64 (sel (surdB 1000000000000000 s0 s1) s1)], .bool (surdB 1000000000000000 s0 s1)]) ∧ Below w.heap.size w w' := by
  cases hg : surdB 1000000000000000 s0 s1
  all_goals
    go_enter Try.func46, Try.ntmps46
    go_wp2_with (go_at_call 45; refine (imIsSurd_any _ _ _).mono ?_; rintro e w1 ⟨rfl, h1⟩; have hB : Below w.heap.size w w1 := ba (by go_grown) h1; obtain ⟨hc1, hf1⟩ := bcell h1; have hq := h1.size; (try simp at hq); have hz0 : w.heap.size < w1.heap.size := (by omega); have hz1 : w.heap.size + 1 < w1.heap.size := (by omega); have HK1 := Lib.hid h1; clear h1 hq)
    refine bodyPost_ret (by simp [results, Try.results46, go_sem, *]; try rfl) rfl ?_
    exact ⟨by simp [sel], by go_grown⟩

set_option maxRecDepth 100000 in
set_option maxHeartbeats 800000 in
theorem imAddSurds_any (s0 s1 : Int) (t0 t1 : Int) (w : World) :
    Calls Try.prog 24 #[.agg #[.int .i64 s0, .int .i64 s1], .agg #[.int .i64 t0, .int .i64 t1]] w fun e w' => e = .returned (.tuple #[.agg #[.int .i64 (sel (asG s0 s1 t0 t1) (wrap64 (s0 + t0))), .int .i64 (sel (asG s0 s1 t0 t1) (wrap64 (s1 + t1)))], .bool (asG s0 s1 t0 t1)]) ∧ Below w.heap.size w w' := by
  cases ha : surdB 1000000000000000 s0 s1
  · go_enter Try.func24, Try.ntmps24
    go_wp2_with (first | (go_at_call 45; refine (imIsSurd_any _ _ _).mono ?_; rintro e w1 ⟨rfl, h1⟩; have hB : Below w.heap.size w w1 := ba (by go_grown) h1; obtain ⟨hc1, hf1⟩ := bcell h1; have hq := h1.size; (try simp at hq); have hz0 : w.heap.size < w1.heap.size := (by omega); have hz1 : w.heap.size + 1 < w1.heap.size := (by omega); have hz2 : w.heap.size + 2 < w1.heap.size := (by omega); have HK1 := Lib.hid h1; clear h1 hq))
    refine bodyPost_ret (by simp [results, Try.results24, go_sem, *]; try rfl) rfl ?_
    exact ⟨by simp [asG, sel, ha], by go_grown⟩
  cases hb : surdB 1000000000000000 t0 t1
  · go_enter Try.func24, Try.ntmps24
    go_wp2_with (first | (go_at_call 45; refine (imIsSurd_any _ _ _).mono ?_; rintro e w1 ⟨rfl, h1⟩; have hB : Below w.heap.size w w1 := ba (by go_grown) h1; obtain ⟨hc1, hf1⟩ := bcell h1; have hq := h1.size; (try simp at hq); have hz0 : w.heap.size < w1.heap.size := (by omega); have hz1 : w.heap.size + 1 < w1.heap.size := (by omega); have hz2 : w.heap.size + 2 < w1.heap.size := (by omega); have HK1 := Lib.hid h1; clear h1 hq))
    refine bodyPost_ret (by simp [results, Try.results24, go_sem, *]; try rfl) rfl ?_
    exact ⟨by simp [asG, sel, hb], by go_grown⟩
  cases hc : surdB 1000000000000000 (wrap64 (s0 + t0)) (wrap64 (s1 + t1))
  all_goals
    go_enter Try.func24, Try.ntmps24
    go_wp2_with (first | (go_at_call 45; refine (imIsSurd_any _ _ _).mono ?_; rintro e w1 ⟨rfl, h1⟩; have hB : Below w.heap.size w w1 := ba (by go_grown) h1; obtain ⟨hc1, hf1⟩ := bcell h1; have hq := h1.size; (try simp at hq); have hz0 : w.heap.size < w1.heap.size := (by omega); have hz1 : w.heap.size + 1 < w1.heap.size := (by omega); have hz2 : w.heap.size + 2 < w1.heap.size := (by omega); have HK1 := Lib.hid h1; clear h1 hq) | (go_at_call 47; refine (imSPlus_any _ _ _ _ _).mono ?_; rintro e w1 ⟨rfl, h1⟩; have hB : Below w.heap.size w w1 := ba (by go_grown) h1; obtain ⟨hc1, hf1⟩ := bcell h1; have hq := h1.size; (try simp at hq); have hz0 : w.heap.size < w1.heap.size := (by omega); have hz1 : w.heap.size + 1 < w1.heap.size := (by omega); have hz2 : w.heap.size + 2 < w1.heap.size := (by omega); have HK1 := Lib.hid h1; clear h1 hq) | (go_at_call 46; refine (imOnlySurd_any _ _ _).mono ?_; rintro e w1 ⟨rfl, h1⟩; have hB : Below w.heap.size w w1 := ba (by go_grown) h1; obtain ⟨hc1, hf1⟩ := bcell h1; have hq := h1.size; (try simp at hq); have hz0 : w.heap.size < w1.heap.size := (by omega); have hz1 : w.heap.size + 1 < w1.heap.size := (by omega); have hz2 : w.heap.size + 2 < w1.heap.size := (by omega); have HK1 := Lib.hid h1; clear h1 hq))
    refine bodyPost_ret (by simp [results, Try.results24, go_sem, *]; try rfl) rfl ?_
    exact ⟨by simp [asG, sel, ha, hb, hc], by go_grown⟩

end Go.Proofs.Ytppbbcckijcckab
