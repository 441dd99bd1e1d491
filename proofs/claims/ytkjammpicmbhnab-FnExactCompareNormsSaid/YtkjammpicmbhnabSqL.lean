/- Contracts: SignOfSurd and CompareSurds, in the model and in the program. -/
import Derived.Test.YtkjammpicmbhnabSqJ
namespace Go.Proofs.Ytkjammpicmbhnab
open Go.ChangeShapes Go.WideShapes Go.ChangeAt Go.RowKit

theorem sd_bd {n s0 s1 : Int} (h : surdB n s0 s1 = true) : -n ≤ s0 ∧ s0 ≤ n ∧ -n ≤ s1 ∧ s1 ≤ n := by
  simp [surdB, inB] at h
  omega

set_option maxRecDepth 100000 in
theorem ptCompare_any (s0 s1 : Int) (t0 t1 : Int) (ps0 : -1900000000000000 ≤ s0) (qs0 : s0 ≤ 1900000000000000) (ps1 : -1900000000000000 ≤ s1) (qs1 : s1 ≤ 1900000000000000) (pt0 : -1900000000000000 ≤ t0) (qt0 : t0 ≤ 1900000000000000) (pt1 : -1900000000000000 ≤ t1) (qt1 : t1 ≤ 1900000000000000) (w : World) :
    Calls Try.prog 45 #[.agg #[.int .i64 s0, .int .i64 s1], .agg #[.int .i64 t0, .int .i64 t1]] w fun e w' => e = .returned (.int .i64 (sgn2 (s0 - t0) (s1 - t1))) ∧ Below w.heap.size w w' := by
  go_enter Try.func45, Try.ntmps45
  go_wp2_with (go_at_call 43; refine (ptSign_any _ _ (by omega) (by omega) (by omega) (by omega) _).mono ?_; rintro e w1 ⟨rfl, h1⟩; have hB : Below w.heap.size w w1 := ba (by go_grown) h1; obtain ⟨hc1, hf1⟩ := bcell h1; have hq := h1.size; (try simp at hq); have hz0 : w.heap.size < w1.heap.size := (by omega); have hz1 : w.heap.size + 1 < w1.heap.size := (by omega); clear h1 hq)
  go_returns
  exact ⟨rfl, by go_grown⟩

set_option maxRecDepth 100000 in
theorem imCompare_any (s0 s1 : Int) (t0 t1 : Int) (ps0 : -1900000000000000 ≤ s0) (qs0 : s0 ≤ 1900000000000000) (ps1 : -1900000000000000 ≤ s1) (qs1 : s1 ≤ 1900000000000000) (pt0 : -1900000000000000 ≤ t0) (qt0 : t0 ≤ 1900000000000000) (pt1 : -1900000000000000 ≤ t1) (qt1 : t1 ≤ 1900000000000000) (w : World) :
    Calls Try.prog 46 #[.agg #[.int .i64 s0, .int .i64 s1], .agg #[.int .i64 t0, .int .i64 t1]] w fun e w' => e = .returned (.int .i64 (sgn2 (s0 - t0) (s1 - t1))) ∧ Below w.heap.size w w' := by
  go_enter Try.func46, Try.ntmps46
  go_wp2_with (go_at_call 44; refine (imSign_any _ _ (by omega) (by omega) (by omega) (by omega) _).mono ?_; rintro e w1 ⟨rfl, h1⟩; have hB : Below w.heap.size w w1 := ba (by go_grown) h1; obtain ⟨hc1, hf1⟩ := bcell h1; have hq := h1.size; (try simp at hq); have hz0 : w.heap.size < w1.heap.size := (by omega); have hz1 : w.heap.size + 1 < w1.heap.size := (by omega); clear h1 hq)
  go_returns
  exact ⟨rfl, by go_grown⟩

set_option maxRecDepth 100000 in
set_option maxHeartbeats 800000 in
theorem spSignOfSurd_any (s0 s1 : Int) (w : World) :
    Calls Try.prog 27 #[.agg #[.int .i64 s0, .int .i64 s1]] w fun e w' => e = .returned (.tuple #[.int .i64 (sel (surdB 1000000000000000 s0 s1) (sgn2 s0 s1)), .bool (surdB 1000000000000000 s0 s1)]) ∧ Below w.heap.size w w' := by
  cases hg : surdB 1000000000000000 s0 s1
  · go_enter Try.func27, Try.ntmps27
    go_wp2_with (go_at_call 39; refine (spSurd_any _ _ _).mono ?_; rintro e w1 ⟨rfl, h1⟩; have hB : Below w.heap.size w w1 := ba (by go_grown) h1; obtain ⟨hc1, hf1⟩ := bcell h1; have hq := h1.size; (try simp at hq); have hz0 : w.heap.size < w1.heap.size := (by omega); clear h1 hq)
    go_returns
    exact ⟨by simp [sel], by go_grown⟩
  · obtain ⟨a, b, c, d⟩ := sd_bd hg
    go_enter Try.func27, Try.ntmps27
    go_wp2_with (first | (go_at_call 39; refine (spSurd_any _ _ _).mono ?_; rintro e w1 ⟨rfl, h1⟩; have hB : Below w.heap.size w w1 := ba (by go_grown) h1; obtain ⟨hc1, hf1⟩ := bcell h1; have hq := h1.size; (try simp at hq); have hz0 : w.heap.size < w1.heap.size := (by omega); clear h1 hq) | (go_at_call 43; refine (ptSign_any _ _ (by omega) (by omega) (by omega) (by omega) _).mono ?_; rintro e w1 ⟨rfl, h1⟩; have hB : Below w.heap.size w w1 := ba (by go_grown) h1; obtain ⟨hc1, hf1⟩ := bcell h1; have hq := h1.size; (try simp at hq); have hz0 : w.heap.size < w1.heap.size := (by omega); clear h1 hq))
    go_returns
    exact ⟨by simp [sel], by go_grown⟩

set_option maxRecDepth 100000 in
set_option maxHeartbeats 800000 in
theorem imSignOfSurd_any (s0 s1 : Int) (w : World) :
    Calls Try.prog 28 #[.agg #[.int .i64 s0, .int .i64 s1]] w fun e w' => e = .returned (.tuple #[.int .i64 (sel (surdB 1000000000000000 s0 s1) (sgn2 s0 s1)), .bool (surdB 1000000000000000 s0 s1)]) ∧ Below w.heap.size w w' := by
  cases hg : surdB 1000000000000000 s0 s1
  · go_enter Try.func28, Try.ntmps28
    go_wp2_with (go_at_call 22; refine (imIsSurd_any _ _ _).mono ?_; rintro e w1 ⟨rfl, h1⟩; have hB : Below w.heap.size w w1 := ba (by go_grown) h1; obtain ⟨hc1, hf1⟩ := bcell h1; have hq := h1.size; (try simp at hq); have hz0 : w.heap.size < w1.heap.size := (by omega); clear h1 hq)
    go_returns
    exact ⟨by simp [sel], by go_grown⟩
  · obtain ⟨a, b, c, d⟩ := sd_bd hg
    go_enter Try.func28, Try.ntmps28
    go_wp2_with (first | (go_at_call 22; refine (imIsSurd_any _ _ _).mono ?_; rintro e w1 ⟨rfl, h1⟩; have hB : Below w.heap.size w w1 := ba (by go_grown) h1; obtain ⟨hc1, hf1⟩ := bcell h1; have hq := h1.size; (try simp at hq); have hz0 : w.heap.size < w1.heap.size := (by omega); clear h1 hq) | (go_at_call 44; refine (imSign_any _ _ (by omega) (by omega) (by omega) (by omega) _).mono ?_; rintro e w1 ⟨rfl, h1⟩; have hB : Below w.heap.size w w1 := ba (by go_grown) h1; obtain ⟨hc1, hf1⟩ := bcell h1; have hq := h1.size; (try simp at hq); have hz0 : w.heap.size < w1.heap.size := (by omega); clear h1 hq))
    go_returns
    exact ⟨by simp [sel], by go_grown⟩

def csG (s0 s1 t0 t1 : Int) : Bool := surdB 1000000000000000 s0 s1 && surdB 1000000000000000 t0 t1

set_option maxRecDepth 100000 in
set_option maxHeartbeats 800000 in
theorem spCompareSurds_any (s0 s1 : Int) (t0 t1 : Int) (w : World) :
    Calls Try.prog 29 #[.agg #[.int .i64 s0, .int .i64 s1], .agg #[.int .i64 t0, .int .i64 t1]] w fun e w' => e = .returned (.tuple #[.int .i64 (sel (csG s0 s1 t0 t1) (sgn2 (s0 - t0) (s1 - t1))), .bool (csG s0 s1 t0 t1)]) ∧ Below w.heap.size w w' := by
  cases ha : surdB 1000000000000000 s0 s1
  · go_enter Try.func29, Try.ntmps29
    go_wp2_with (go_at_call 39; refine (spSurd_any _ _ _).mono ?_; rintro e w1 ⟨rfl, h1⟩; have hB : Below w.heap.size w w1 := ba (by go_grown) h1; obtain ⟨hc1, hf1⟩ := bcell h1; have hq := h1.size; (try simp at hq); have hz0 : w.heap.size < w1.heap.size := (by omega); have hz1 : w.heap.size + 1 < w1.heap.size := (by omega); clear h1 hq)
    go_returns
    exact ⟨by simp [csG, sel, ha], by go_grown⟩
  cases hb : surdB 1000000000000000 t0 t1
  · go_enter Try.func29, Try.ntmps29
    go_wp2_with (go_at_call 39; refine (spSurd_any _ _ _).mono ?_; rintro e w1 ⟨rfl, h1⟩; have hB : Below w.heap.size w w1 := ba (by go_grown) h1; obtain ⟨hc1, hf1⟩ := bcell h1; have hq := h1.size; (try simp at hq); have hz0 : w.heap.size < w1.heap.size := (by omega); have hz1 : w.heap.size + 1 < w1.heap.size := (by omega); clear h1 hq)
    go_returns
    exact ⟨by simp [csG, sel, hb], by go_grown⟩
  · obtain ⟨a, b, c, d⟩ := sd_bd ha
    obtain ⟨a', b', c', d'⟩ := sd_bd hb
    go_enter Try.func29, Try.ntmps29
    go_wp2_with (first | (go_at_call 39; refine (spSurd_any _ _ _).mono ?_; rintro e w1 ⟨rfl, h1⟩; have hB : Below w.heap.size w w1 := ba (by go_grown) h1; obtain ⟨hc1, hf1⟩ := bcell h1; have hq := h1.size; (try simp at hq); have hz0 : w.heap.size < w1.heap.size := (by omega); have hz1 : w.heap.size + 1 < w1.heap.size := (by omega); clear h1 hq) | (go_at_call 45; refine (ptCompare_any _ _ _ _ (by omega) (by omega) (by omega) (by omega) (by omega) (by omega) (by omega) (by omega) _).mono ?_; rintro e w1 ⟨rfl, h1⟩; have hB : Below w.heap.size w w1 := ba (by go_grown) h1; obtain ⟨hc1, hf1⟩ := bcell h1; have hq := h1.size; (try simp at hq); have hz0 : w.heap.size < w1.heap.size := (by omega); have hz1 : w.heap.size + 1 < w1.heap.size := (by omega); clear h1 hq))
    go_returns
    exact ⟨by simp [csG, sel, ha, hb], by go_grown⟩

set_option maxRecDepth 100000 in
set_option maxHeartbeats 800000 in
theorem imCompareSurds_any (s0 s1 : Int) (t0 t1 : Int) (w : World) :
    Calls Try.prog 30 #[.agg #[.int .i64 s0, .int .i64 s1], .agg #[.int .i64 t0, .int .i64 t1]] w fun e w' => e = .returned (.tuple #[.int .i64 (sel (csG s0 s1 t0 t1) (sgn2 (s0 - t0) (s1 - t1))), .bool (csG s0 s1 t0 t1)]) ∧ Below w.heap.size w w' := by
  cases ha : surdB 1000000000000000 s0 s1
  · go_enter Try.func30, Try.ntmps30
    go_wp2_with (go_at_call 22; refine (imIsSurd_any _ _ _).mono ?_; rintro e w1 ⟨rfl, h1⟩; have hB : Below w.heap.size w w1 := ba (by go_grown) h1; obtain ⟨hc1, hf1⟩ := bcell h1; have hq := h1.size; (try simp at hq); have hz0 : w.heap.size < w1.heap.size := (by omega); have hz1 : w.heap.size + 1 < w1.heap.size := (by omega); clear h1 hq)
    go_returns
    exact ⟨by simp [csG, sel, ha], by go_grown⟩
  cases hb : surdB 1000000000000000 t0 t1
  · go_enter Try.func30, Try.ntmps30
    go_wp2_with (go_at_call 22; refine (imIsSurd_any _ _ _).mono ?_; rintro e w1 ⟨rfl, h1⟩; have hB : Below w.heap.size w w1 := ba (by go_grown) h1; obtain ⟨hc1, hf1⟩ := bcell h1; have hq := h1.size; (try simp at hq); have hz0 : w.heap.size < w1.heap.size := (by omega); have hz1 : w.heap.size + 1 < w1.heap.size := (by omega); clear h1 hq)
    go_returns
    exact ⟨by simp [csG, sel, hb], by go_grown⟩
  · obtain ⟨a, b, c, d⟩ := sd_bd ha
    obtain ⟨a', b', c', d'⟩ := sd_bd hb
    go_enter Try.func30, Try.ntmps30
    go_wp2_with (first | (go_at_call 22; refine (imIsSurd_any _ _ _).mono ?_; rintro e w1 ⟨rfl, h1⟩; have hB : Below w.heap.size w w1 := ba (by go_grown) h1; obtain ⟨hc1, hf1⟩ := bcell h1; have hq := h1.size; (try simp at hq); have hz0 : w.heap.size < w1.heap.size := (by omega); have hz1 : w.heap.size + 1 < w1.heap.size := (by omega); clear h1 hq) | (go_at_call 46; refine (imCompare_any _ _ _ _ (by omega) (by omega) (by omega) (by omega) (by omega) (by omega) (by omega) (by omega) _).mono ?_; rintro e w1 ⟨rfl, h1⟩; have hB : Below w.heap.size w w1 := ba (by go_grown) h1; obtain ⟨hc1, hf1⟩ := bcell h1; have hq := h1.size; (try simp at hq); have hz0 : w.heap.size < w1.heap.size := (by omega); have hz1 : w.heap.size + 1 < w1.heap.size := (by omega); clear h1 hq))
    go_returns
    exact ⟨by simp [csG, sel, ha, hb], by go_grown⟩

end Go.Proofs.Ytkjammpicmbhnab
