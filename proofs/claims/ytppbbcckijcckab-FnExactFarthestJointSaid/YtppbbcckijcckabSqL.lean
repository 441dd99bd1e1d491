/- Contracts: SignOfSurd and CompareSurds, in the model and in the program. -/
import Derived.Test.YtppbbcckijcckabSqJ
namespace Go.Proofs.Ytppbbcckijcckab
open Go.ChangeShapes Go.WideShapes Go.ChangeAt Go.RowKit

theorem sd_bd {n s0 s1 : Int} (h : surdB n s0 s1 = true) : -n ≤ s0 ∧ s0 ≤ n ∧ -n ≤ s1 ∧ s1 ≤ n := by
  simp [surdB, inB] at h
  omega

set_option maxRecDepth 100000 in
theorem ptCompare_any (s0 s1 : Int) (t0 t1 : Int) (ps0 : -1900000000000000 ≤ s0) (qs0 : s0 ≤ 1900000000000000) (ps1 : -1900000000000000 ≤ s1) (qs1 : s1 ≤ 1900000000000000) (pt0 : -1900000000000000 ≤ t0) (qt0 : t0 ≤ 1900000000000000) (pt1 : -1900000000000000 ≤ t1) (qt1 : t1 ≤ 1900000000000000) (w : World) :
    Calls Try.prog 48 #[.agg #[.int .i64 s0, .int .i64 s1], .agg #[.int .i64 t0, .int .i64 t1]] w fun e w' => e = .returned (.int .i64 (sgn2 (s0 - t0) (s1 - t1))) ∧ Below w.heap.size w w' := by
  go_enter Try.func48, Try.ntmps48
  go_wp2_with (go_at_call 63; refine (ptSign_any _ _ (by omega) (by omega) (by omega) (by omega) _).mono ?_; rintro e w1 ⟨rfl, h1⟩; have hB : Below w.heap.size w w1 := ba (by go_grown) h1; obtain ⟨hc1, hf1⟩ := bcell h1; have hq := h1.size; (try simp at hq); have hz0 : w.heap.size < w1.heap.size := (by omega); have hz1 : w.heap.size + 1 < w1.heap.size := (by omega); have HK1 := Lib.hid h1; clear h1 hq)
  go_returns
  exact ⟨rfl, by go_grown⟩

set_option maxRecDepth 100000 in
theorem imSLess_any (s0 s1 : Int) (t0 t1 : Int) (ps0 : -1900000000000000 ≤ s0) (qs0 : s0 ≤ 1900000000000000) (ps1 : -1900000000000000 ≤ s1) (qs1 : s1 ≤ 1900000000000000) (pt0 : -1900000000000000 ≤ t0) (qt0 : t0 ≤ 1900000000000000) (pt1 : -1900000000000000 ≤ t1) (qt1 : t1 ≤ 1900000000000000) (w : World) :
    Calls Try.prog 64 #[.agg #[.int .i64 s0, .int .i64 s1], .agg #[.int .i64 t0, .int .i64 t1]] w fun e w' => e = .returned (.agg #[.int .i64 (s0 - t0), .int .i64 (s1 - t1)]) ∧ Below w.heap.size w w' := by
  go_enter Try.func64, Try.ntmps64
  go_wp2
  go_returns
  exact ⟨rfl, by go_grown⟩

set_option maxRecDepth 100000 in
theorem imCompare_any (s0 s1 : Int) (t0 t1 : Int) (ps0 : -1900000000000000 ≤ s0) (qs0 : s0 ≤ 1900000000000000) (ps1 : -1900000000000000 ≤ s1) (qs1 : s1 ≤ 1900000000000000) (pt0 : -1900000000000000 ≤ t0) (qt0 : t0 ≤ 1900000000000000) (pt1 : -1900000000000000 ≤ t1) (qt1 : t1 ≤ 1900000000000000) (w : World) :
    Calls Try.prog 49 #[.agg #[.int .i64 s0, .int .i64 s1], .agg #[.int .i64 t0, .int .i64 t1]] w fun e w' => e = .returned (.int .i64 (sgn2 (s0 - t0) (s1 - t1))) ∧ Below w.heap.size w w' := by
  go_enter Try.func49, Try.ntmps49
  go_wp2_with (first | (go_at_call 64; (with_reducible refine (imSLess_any s0 s1 t0 t1 ps0 qs0 ps1 qs1 pt0 qt0 pt1 qt1 _).mono ?_); rintro e wA ⟨rfl, h1⟩; (try with_reducible replace h1 := undrew h1); have hB : Below w.heap.size w wA := ba (by go_grown) h1; obtain ⟨hcwA, hfwA⟩ := bcell h1; have hqwA := h1.size; (try simp at hqwA); (try have hz0wA : w.heap.size < wA.heap.size := (by omega)); (try have he0wA : w.heap.size ≤ wA.heap.size := (by omega)); (try have hz1wA : w.heap.size + 1 < wA.heap.size := (by omega)); (try have he1wA : w.heap.size + 1 ≤ wA.heap.size := (by omega))) | (go_at_call 65; (with_reducible refine (imSign_any (s0 - t0) (s1 - t1) (by omega) (by omega) (by omega) (by omega) _).mono ?_); rintro e wB ⟨rfl, h1⟩; (try with_reducible replace h1 := undrew h1); have hB : Below w.heap.size w wB := ba (by go_grown) h1; obtain ⟨hcwB, hfwB⟩ := bcell h1; have hqwB := h1.size; (try simp at hqwB); (try have hz0wB : w.heap.size < wB.heap.size := (by omega)); (try have he0wB : w.heap.size ≤ wB.heap.size := (by omega)); (try have hz1wB : w.heap.size + 1 < wB.heap.size := (by omega)); (try have he1wB : w.heap.size + 1 ≤ wB.heap.size := (by omega))))
  go_returns
  exact ⟨rfl, by go_grown⟩

def csG (s0 s1 t0 t1 : Int) : Bool := surdB 1000000000000000 s0 s1 && surdB 1000000000000000 t0 t1

set_option maxRecDepth 100000 in
set_option maxHeartbeats 800000 in
theorem spCompareSurds_any (s0 s1 : Int) (t0 t1 : Int) (w : World) :
    Calls Try.prog 25 #[.agg #[.int .i64 s0, .int .i64 s1], .agg #[.int .i64 t0, .int .i64 t1]] w fun e w' => e = .returned (.tuple #[.int .i64 (sel (csG s0 s1 t0 t1) (sgn2 (s0 - t0) (s1 - t1))), .bool (csG s0 s1 t0 t1)]) ∧ Below w.heap.size w w' := by
  cases ha : surdB 1000000000000000 s0 s1
  · go_enter Try.func25, Try.ntmps25
    go_wp2_with (go_at_call 43; refine (spSurd_any _ _ _).mono ?_; rintro e w1 ⟨rfl, h1⟩; have hB : Below w.heap.size w w1 := ba (by go_grown) h1; obtain ⟨hc1, hf1⟩ := bcell h1; have hq := h1.size; (try simp at hq); have hz0 : w.heap.size < w1.heap.size := (by omega); have hz1 : w.heap.size + 1 < w1.heap.size := (by omega); have HK1 := Lib.hid h1; clear h1 hq)
    go_returns
    exact ⟨by simp [csG, sel, ha], by go_grown⟩
  cases hb : surdB 1000000000000000 t0 t1
  · go_enter Try.func25, Try.ntmps25
    go_wp2_with (go_at_call 43; refine (spSurd_any _ _ _).mono ?_; rintro e w1 ⟨rfl, h1⟩; have hB : Below w.heap.size w w1 := ba (by go_grown) h1; obtain ⟨hc1, hf1⟩ := bcell h1; have hq := h1.size; (try simp at hq); have hz0 : w.heap.size < w1.heap.size := (by omega); have hz1 : w.heap.size + 1 < w1.heap.size := (by omega); have HK1 := Lib.hid h1; clear h1 hq)
    go_returns
    exact ⟨by simp [csG, sel, hb], by go_grown⟩
  · obtain ⟨a, b, c, d⟩ := sd_bd ha
    obtain ⟨a', b', c', d'⟩ := sd_bd hb
    go_enter Try.func25, Try.ntmps25
    go_wp2_with (first | (go_at_call 43; refine (spSurd_any _ _ _).mono ?_; rintro e w1 ⟨rfl, h1⟩; have hB : Below w.heap.size w w1 := ba (by go_grown) h1; obtain ⟨hc1, hf1⟩ := bcell h1; have hq := h1.size; (try simp at hq); have hz0 : w.heap.size < w1.heap.size := (by omega); have hz1 : w.heap.size + 1 < w1.heap.size := (by omega); have HK1 := Lib.hid h1; clear h1 hq) | (go_at_call 48; refine (ptCompare_any _ _ _ _ (by omega) (by omega) (by omega) (by omega) (by omega) (by omega) (by omega) (by omega) _).mono ?_; rintro e w1 ⟨rfl, h1⟩; have hB : Below w.heap.size w w1 := ba (by go_grown) h1; obtain ⟨hc1, hf1⟩ := bcell h1; have hq := h1.size; (try simp at hq); have hz0 : w.heap.size < w1.heap.size := (by omega); have hz1 : w.heap.size + 1 < w1.heap.size := (by omega); have HK1 := Lib.hid h1; clear h1 hq))
    go_returns
    exact ⟨by simp [csG, sel, ha, hb], by go_grown⟩

set_option maxRecDepth 100000 in
set_option maxHeartbeats 800000 in
theorem imCompareSurds_any (s0 s1 : Int) (t0 t1 : Int) (w : World) :
    Calls Try.prog 26 #[.agg #[.int .i64 s0, .int .i64 s1], .agg #[.int .i64 t0, .int .i64 t1]] w fun e w' => e = .returned (.tuple #[.int .i64 (sel (csG s0 s1 t0 t1) (sgn2 (s0 - t0) (s1 - t1))), .bool (csG s0 s1 t0 t1)]) ∧ Below w.heap.size w w' := by
  cases ha : surdB 1000000000000000 s0 s1
  · go_enter Try.func26, Try.ntmps26
    go_wp2_with (go_at_call 45; refine (imIsSurd_any _ _ _).mono ?_; rintro e w1 ⟨rfl, h1⟩; have hB : Below w.heap.size w w1 := ba (by go_grown) h1; obtain ⟨hc1, hf1⟩ := bcell h1; have hq := h1.size; (try simp at hq); have hz0 : w.heap.size < w1.heap.size := (by omega); have hz1 : w.heap.size + 1 < w1.heap.size := (by omega); have HK1 := Lib.hid h1; clear h1 hq)
    go_returns
    exact ⟨by simp [csG, sel, ha], by go_grown⟩
  cases hb : surdB 1000000000000000 t0 t1
  · go_enter Try.func26, Try.ntmps26
    go_wp2_with (go_at_call 45; refine (imIsSurd_any _ _ _).mono ?_; rintro e w1 ⟨rfl, h1⟩; have hB : Below w.heap.size w w1 := ba (by go_grown) h1; obtain ⟨hc1, hf1⟩ := bcell h1; have hq := h1.size; (try simp at hq); have hz0 : w.heap.size < w1.heap.size := (by omega); have hz1 : w.heap.size + 1 < w1.heap.size := (by omega); have HK1 := Lib.hid h1; clear h1 hq)
    go_returns
    exact ⟨by simp [csG, sel, hb], by go_grown⟩
  · obtain ⟨a, b, c, d⟩ := sd_bd ha
    obtain ⟨a', b', c', d'⟩ := sd_bd hb
    go_enter Try.func26, Try.ntmps26
    go_wp2_with (first | (go_at_call 45; refine (imIsSurd_any _ _ _).mono ?_; rintro e w1 ⟨rfl, h1⟩; have hB : Below w.heap.size w w1 := ba (by go_grown) h1; obtain ⟨hc1, hf1⟩ := bcell h1; have hq := h1.size; (try simp at hq); have hz0 : w.heap.size < w1.heap.size := (by omega); have hz1 : w.heap.size + 1 < w1.heap.size := (by omega); have HK1 := Lib.hid h1; clear h1 hq) | (go_at_call 49; refine (imCompare_any _ _ _ _ (by omega) (by omega) (by omega) (by omega) (by omega) (by omega) (by omega) (by omega) _).mono ?_; rintro e w1 ⟨rfl, h1⟩; have hB : Below w.heap.size w w1 := ba (by go_grown) h1; obtain ⟨hc1, hf1⟩ := bcell h1; have hq := h1.size; (try simp at hq); have hz0 : w.heap.size < w1.heap.size := (by omega); have hz1 : w.heap.size + 1 < w1.heap.size := (by omega); have HK1 := Lib.hid h1; clear h1 hq))
    go_returns
    exact ⟨by simp [csG, sel, ha, hb], by go_grown⟩

end Go.Proofs.Ytppbbcckijcckab
