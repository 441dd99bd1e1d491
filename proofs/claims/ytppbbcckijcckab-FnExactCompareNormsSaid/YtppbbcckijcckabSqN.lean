/- Contracts: CompareNorms, in the model and in the program. -/
import Derived.Test.YtppbbcckijcckabSqL
import Derived.Test.YtppbbcckijcckabPtNorm
import Derived.Test.YtppbbcckijcckabCl
namespace Go.Proofs.Ytppbbcckijcckab
open Go.ChangeShapes Go.WideShapes Go.ChangeAt Go.RowKit

theorem mul_bd (a b : Int) (h0 : -999999 ≤ a) (h1 : a ≤ 999999) (k0 : -999999 ≤ b) (k1 : b ≤ 999999) : -999998000001 ≤ a * b ∧ a * b ≤ 999998000001 := by
  have ha : a.natAbs ≤ 999999 := by omega
  have hb : b.natAbs ≤ 999999 := by omega
  have hm : (a * b).natAbs ≤ 999998000001 := by rw [Int.natAbs_mul]; exact Nat.mul_le_mul ha hb
  omega

theorem good_bd (a0 a1 a2 a3 : Int) (h : goodB a0 a1 a2 a3 = true) : -999999 ≤ a0 ∧ a0 ≤ 999999 ∧ -999999 ≤ a1 ∧ a1 ≤ 999999 ∧ -999999 ≤ a2 ∧ a2 ≤ 999999 ∧ -999999 ≤ a3 ∧ a3 ≤ 999999 := by
  simpa [goodB] using h

theorem w64n (n : Int) (h0 : -9000000000000000000 ≤ n) (h1 : n ≤ 9000000000000000000) : wrap64 n = n := IntWalk.wrap64_in n ⟨by omega, by omega⟩

theorem nm_bd (a0 a1 a2 a3 : Int) (h : goodB a0 a1 a2 a3 = true) : -4000000000000 ≤ nm0 a0 a1 a2 a3 ∧ nm0 a0 a1 a2 a3 ≤ 4000000000000 ∧ -4000000000000 ≤ nm1 a0 a1 a2 a3 ∧ nm1 a0 a1 a2 a3 ≤ 4000000000000 := by
  obtain ⟨p0, q0, p1, q1, p2, q2, p3, q3⟩ := good_bd _ _ _ _ h
  obtain ⟨l00, u00⟩ := mul_bd a0 a0 p0 q0 p0 q0
  obtain ⟨l11, u11⟩ := mul_bd a1 a1 p1 q1 p1 q1
  obtain ⟨l22, u22⟩ := mul_bd a2 a2 p2 q2 p2 q2
  obtain ⟨l33, u33⟩ := mul_bd a3 a3 p3 q3 p3 q3
  obtain ⟨l01, u01⟩ := mul_bd a0 a1 p0 q0 p1 q1
  obtain ⟨l12, u12⟩ := mul_bd a1 a2 p1 q1 p2 q2
  obtain ⟨l23, u23⟩ := mul_bd a2 a3 p2 q2 p3 q3
  obtain ⟨l03, u03⟩ := mul_bd a0 a3 p0 q0 p3 q3
  unfold nm0 nm1
  rw [w64n (a0 * a0) (by omega) (by omega), w64n (a1 * a1) (by omega) (by omega), w64n (a2 * a2) (by omega) (by omega), w64n (a3 * a3) (by omega) (by omega), w64n (a0 * a1) (by omega) (by omega), w64n (a1 * a2) (by omega) (by omega), w64n (a2 * a3) (by omega) (by omega), w64n (a0 * a3) (by omega) (by omega)]
  rw [w64n (a0 * a0 + a1 * a1) (by omega) (by omega), w64n (a0 * a1 + a1 * a2) (by omega) (by omega)]
  rw [w64n (a0 * a0 + a1 * a1 + a2 * a2) (by omega) (by omega), w64n (a0 * a1 + a1 * a2 + a2 * a3) (by omega) (by omega)]
  rw [w64n (a0 * a0 + a1 * a1 + a2 * a2 + a3 * a3) (by omega) (by omega), w64n (a0 * a1 + a1 * a2 + a2 * a3 - a0 * a3) (by omega) (by omega)]
  omega

def cnG (a0 a1 a2 a3 : Int) (b0 b1 b2 b3 : Int) : Bool := goodB a0 a1 a2 a3 && goodB b0 b1 b2 b3

set_option maxRecDepth 100000 in
set_option maxHeartbeats 1600000 in
theorem spCompareNorms_any (a0 a1 a2 a3 : Int) (b0 b1 b2 b3 : Int) (w : World) :
    Calls Try.prog 27 #[.agg #[.int .i64 a0, .int .i64 a1, .int .i64 a2, .int .i64 a3], .agg #[.int .i64 b0, .int .i64 b1, .int .i64 b2, .int .i64 b3]] w fun e w' => e = .returned (.tuple #[.int .i64 (sel (cnG a0 a1 a2 a3 b0 b1 b2 b3) (sgn2 (nm0 a0 a1 a2 a3 - nm0 b0 b1 b2 b3) (nm1 a0 a1 a2 a3 - nm1 b0 b1 b2 b3))), .bool (cnG a0 a1 a2 a3 b0 b1 b2 b3)]) ∧ Below w.heap.size w w' := by
  cases hga : goodB a0 a1 a2 a3
  · go_enter Try.func27, Try.ntmps27
    go_wp2_with (go_at_call 31; refine (spGood_any _ _ _ _ _).mono ?_; rintro e w1 ⟨rfl, h1⟩; have hB : Below w.heap.size w w1 := ba (by go_grown) h1; obtain ⟨hc1, hf1⟩ := bcell h1; have hq := h1.size; (try simp at hq); have hz0 : w.heap.size < w1.heap.size := (by omega); have hz1 : w.heap.size + 1 < w1.heap.size := (by omega); have HK1 := Lib.hid h1; clear h1 hq)
    go_returns
    exact ⟨by simp [cnG, sel, hga], by go_grown⟩
  cases hgb : goodB b0 b1 b2 b3
  · go_enter Try.func27, Try.ntmps27
    go_wp2_with (go_at_call 31; refine (spGood_any _ _ _ _ _).mono ?_; rintro e w1 ⟨rfl, h1⟩; have hB : Below w.heap.size w w1 := ba (by go_grown) h1; obtain ⟨hc1, hf1⟩ := bcell h1; have hq := h1.size; (try simp at hq); have hz0 : w.heap.size < w1.heap.size := (by omega); have hz1 : w.heap.size + 1 < w1.heap.size := (by omega); have HK1 := Lib.hid h1; clear h1 hq)
    go_returns
    exact ⟨by simp [cnG, sel, hgb], by go_grown⟩
  · obtain ⟨x0, y0, x1, y1⟩ := nm_bd _ _ _ _ hga
    obtain ⟨x2, y2, x3, y3⟩ := nm_bd _ _ _ _ hgb
    have hS := pp_start a0 a1 a2 a3 b0 b1 b2 b3 w 24 24
    go_enter Try.func27, Try.ntmps27
    go_wp2_with fail
    (go_at_call 31; (with_reducible refine (spGood_any _ _ _ _ _).mono ?_); rintro e wA ⟨rfl, h1⟩; (try with_reducible replace h1 := undrew h1); have hB : Below w.heap.size w wA := ba (by go_grown) h1; obtain ⟨hcwA, hfwA⟩ := bcell h1; have hqwA := h1.size; (try simp at hqwA); (try have hz0wA : w.heap.size < wA.heap.size := (by omega)); (try have he0wA : w.heap.size ≤ wA.heap.size := (by omega)); (try have hz1wA : w.heap.size + 1 < wA.heap.size := (by omega)); (try have he1wA : w.heap.size + 1 ≤ wA.heap.size := (by omega)))
    have hS1 := pp_below hS (by first | omega | (simp; done) | (simp; omega)) (by first | omega | (simp; done) | (simp; omega)) h1
    clear hS
    go_wp2_with fail
    (go_at_call 31; (with_reducible refine (spGood_any _ _ _ _ _).mono ?_); rintro e wB ⟨rfl, h1⟩; (try with_reducible replace h1 := undrew h1); have hB : Below w.heap.size w wB := ba (by go_grown) h1; obtain ⟨hcwB, hfwB⟩ := bcell h1; have hqwB := h1.size; (try simp at hqwB); (try have hz0wB : w.heap.size < wB.heap.size := (by omega)); (try have he0wB : w.heap.size ≤ wB.heap.size := (by omega)); (try have hz1wB : w.heap.size + 1 < wB.heap.size := (by omega)); (try have he1wB : w.heap.size + 1 ≤ wB.heap.size := (by omega)))
    have hS0 := pp_below hS1 (by omega) (by omega) h1
    clear hS1
    go_wp2_with fail
    go_region_held3 (fun w' => w'.cell? ⟨w.heap.size, 0, none⟩ = some (.int .i64 a0) ∧ w'.cell? ⟨w.heap.size, 1, none⟩ = some (.int .i64 a1) ∧ w'.cell? ⟨w.heap.size, 2, none⟩ = some (.int .i64 a2) ∧ w'.cell? ⟨w.heap.size, 3, none⟩ = some (.int .i64 a3) ∧ w'.cell? ⟨w.heap.size + 1, 0, none⟩ = some (.int .i64 b0) ∧ w'.cell? ⟨w.heap.size + 1, 1, none⟩ = some (.int .i64 b1) ∧ w'.cell? ⟨w.heap.size + 1, 2, none⟩ = some (.int .i64 b2) ∧ w'.cell? ⟨w.heap.size + 1, 3, none⟩ = some (.int .i64 b3))
      (first | (with_reducible assumption) | (with_reducible exact pp_drew hS0) | (with_reducible exact pp_drew (pp_alloc hS0 _)) | (with_reducible exact pp_alloc (pp_drew hS0) _) | (with_reducible refine pp_drew ?_; with_reducible assumption) | (with_reducible refine pp_alloc ?_ _; with_reducible assumption) | (with_reducible refine pp_re (by with_reducible assumption) ?_ ?_ _; (focus first | (with_reducible assumption) | omega | (simp; done) | (simp; omega)); (focus first | (with_reducible assumption) | omega | (simp; done) | (simp; omega))) | (with_reducible refine pp_below ?_ ?_ ?_ h1; (focus first | (with_reducible assumption) | (with_reducible refine pp_undrew ?_; with_reducible assumption)); (focus first | (with_reducible assumption) | omega | (simp; done) | (simp; omega)); (focus first | (with_reducible assumption) | omega | (simp; done) | (simp; omega))) | ((repeat (with_reducible refine pp_set ?_ _ _ ?_ ?_; rotate_left 1; (focus first | (with_reducible assumption) | omega | (simp; done) | (simp; omega)); (focus first | (with_reducible assumption) | omega | (simp; done) | (simp; omega)))); with_reducible assumption))
      (first | (go_at_call 50; (with_reducible refine (spNorm_any a0 a1 a2 a3 _).mono ?_); rintro e wC ⟨rfl, h1⟩; (try with_reducible replace h1 := undrew h1); have hB : Below w.heap.size w wC := ba (by go_grown) h1; obtain ⟨hcwC, hfwC⟩ := bcell h1; have hqwC := h1.size; (try simp at hqwC); (try have hz0wC : w.heap.size < wC.heap.size := (by omega)); (try have he0wC : w.heap.size ≤ wC.heap.size := (by omega)); (try have hz1wC : w.heap.size + 1 < wC.heap.size := (by omega)); (try have he1wC : w.heap.size + 1 ≤ wC.heap.size := (by omega))) | (go_at_call 50; (with_reducible refine (spNorm_any b0 b1 b2 b3 _).mono ?_); rintro e wD ⟨rfl, h1⟩; (try with_reducible replace h1 := undrew h1); have hB : Below w.heap.size w wD := ba (by go_grown) h1; obtain ⟨hcwD, hfwD⟩ := bcell h1; have hqwD := h1.size; (try simp at hqwD); (try have hz0wD : w.heap.size < wD.heap.size := (by omega)); (try have he0wD : w.heap.size ≤ wD.heap.size := (by omega)); (try have hz1wD : w.heap.size + 1 < wD.heap.size := (by omega)); (try have he1wD : w.heap.size + 1 ≤ wD.heap.size := (by omega))) | (go_at_call 48; (with_reducible refine (ptCompare_any _ _ _ _ (by omega) (by omega) (by omega) (by omega) (by omega) (by omega) (by omega) (by omega) _).mono ?_); rintro e wE ⟨rfl, h1⟩; (try with_reducible replace h1 := undrew h1); have hB : Below w.heap.size w wE := ba (by go_grown) h1; obtain ⟨hcwE, hfwE⟩ := bcell h1; have hqwE := h1.size; (try simp at hqwE); (try have hz0wE : w.heap.size < wE.heap.size := (by omega)); (try have he0wE : w.heap.size ≤ wE.heap.size := (by omega)); (try have hz1wE : w.heap.size + 1 < wE.heap.size := (by omega)); (try have he1wE : w.heap.size + 1 ≤ wE.heap.size := (by omega))))
    all_goals
      go_wp2_with fail
      go_returns
      exact ⟨by simp [cnG, sel, hga, hgb], by go_grown⟩

set_option maxRecDepth 100000 in
set_option maxHeartbeats 1600000 in
theorem imCompareNorms_any (a0 a1 a2 a3 : Int) (b0 b1 b2 b3 : Int) (w : World) :
    Calls Try.prog 28 #[.agg #[.int .i64 a0, .int .i64 a1, .int .i64 a2, .int .i64 a3], .agg #[.int .i64 b0, .int .i64 b1, .int .i64 b2, .int .i64 b3]] w fun e w' => e = .returned (.tuple #[.int .i64 (sel (cnG a0 a1 a2 a3 b0 b1 b2 b3) (sgn2 (nm0 a0 a1 a2 a3 - nm0 b0 b1 b2 b3) (nm1 a0 a1 a2 a3 - nm1 b0 b1 b2 b3))), .bool (cnG a0 a1 a2 a3 b0 b1 b2 b3)]) ∧ Below w.heap.size w w' := by
  cases hga : goodB a0 a1 a2 a3
  · go_enter Try.func28, Try.ntmps28
    go_wp2_with (go_at_call 34; refine (imIsPoint_any _ _ _ _ _).mono ?_; rintro e w1 ⟨rfl, h1⟩; have hB : Below w.heap.size w w1 := ba (by go_grown) h1; obtain ⟨hc1, hf1⟩ := bcell h1; have hq := h1.size; (try simp at hq); have hz0 : w.heap.size < w1.heap.size := (by omega); have hz1 : w.heap.size + 1 < w1.heap.size := (by omega); have HK1 := Lib.hid h1; clear h1 hq)
    go_returns
    exact ⟨by simp [cnG, sel, hga], by go_grown⟩
  cases hgb : goodB b0 b1 b2 b3
  · go_enter Try.func28, Try.ntmps28
    go_wp2_with (go_at_call 34; refine (imIsPoint_any _ _ _ _ _).mono ?_; rintro e w1 ⟨rfl, h1⟩; have hB : Below w.heap.size w w1 := ba (by go_grown) h1; obtain ⟨hc1, hf1⟩ := bcell h1; have hq := h1.size; (try simp at hq); have hz0 : w.heap.size < w1.heap.size := (by omega); have hz1 : w.heap.size + 1 < w1.heap.size := (by omega); have HK1 := Lib.hid h1; clear h1 hq)
    go_returns
    exact ⟨by simp [cnG, sel, hgb], by go_grown⟩
  · obtain ⟨x0, y0, x1, y1⟩ := nm_bd _ _ _ _ hga
    obtain ⟨x2, y2, x3, y3⟩ := nm_bd _ _ _ _ hgb
    have hS := pp_start a0 a1 a2 a3 b0 b1 b2 b3 w 24 24
    go_enter Try.func28, Try.ntmps28
    go_wp2_with fail
    (go_at_call 34; (with_reducible refine (imIsPoint_any _ _ _ _ _).mono ?_); rintro e wA ⟨rfl, h1⟩; (try with_reducible replace h1 := undrew h1); have hB : Below w.heap.size w wA := ba (by go_grown) h1; obtain ⟨hcwA, hfwA⟩ := bcell h1; have hqwA := h1.size; (try simp at hqwA); (try have hz0wA : w.heap.size < wA.heap.size := (by omega)); (try have he0wA : w.heap.size ≤ wA.heap.size := (by omega)); (try have hz1wA : w.heap.size + 1 < wA.heap.size := (by omega)); (try have he1wA : w.heap.size + 1 ≤ wA.heap.size := (by omega)))
    have hS1 := pp_below hS (by first | omega | (simp; done) | (simp; omega)) (by first | omega | (simp; done) | (simp; omega)) h1
    clear hS
    go_wp2_with fail
    (go_at_call 34; (with_reducible refine (imIsPoint_any _ _ _ _ _).mono ?_); rintro e wB ⟨rfl, h1⟩; (try with_reducible replace h1 := undrew h1); have hB : Below w.heap.size w wB := ba (by go_grown) h1; obtain ⟨hcwB, hfwB⟩ := bcell h1; have hqwB := h1.size; (try simp at hqwB); (try have hz0wB : w.heap.size < wB.heap.size := (by omega)); (try have he0wB : w.heap.size ≤ wB.heap.size := (by omega)); (try have hz1wB : w.heap.size + 1 < wB.heap.size := (by omega)); (try have he1wB : w.heap.size + 1 ≤ wB.heap.size := (by omega)))
    have hS0 := pp_below hS1 (by omega) (by omega) h1
    clear hS1
    go_wp2_with fail
    go_region_held3 (fun w' => w'.cell? ⟨w.heap.size, 0, none⟩ = some (.int .i64 a0) ∧ w'.cell? ⟨w.heap.size, 1, none⟩ = some (.int .i64 a1) ∧ w'.cell? ⟨w.heap.size, 2, none⟩ = some (.int .i64 a2) ∧ w'.cell? ⟨w.heap.size, 3, none⟩ = some (.int .i64 a3) ∧ w'.cell? ⟨w.heap.size + 1, 0, none⟩ = some (.int .i64 b0) ∧ w'.cell? ⟨w.heap.size + 1, 1, none⟩ = some (.int .i64 b1) ∧ w'.cell? ⟨w.heap.size + 1, 2, none⟩ = some (.int .i64 b2) ∧ w'.cell? ⟨w.heap.size + 1, 3, none⟩ = some (.int .i64 b3))
      (first | (with_reducible assumption) | (with_reducible exact pp_drew hS0) | (with_reducible exact pp_drew (pp_alloc hS0 _)) | (with_reducible exact pp_alloc (pp_drew hS0) _) | (with_reducible refine pp_drew ?_; with_reducible assumption) | (with_reducible refine pp_alloc ?_ _; with_reducible assumption) | (with_reducible refine pp_re (by with_reducible assumption) ?_ ?_ _; (focus first | (with_reducible assumption) | omega | (simp; done) | (simp; omega)); (focus first | (with_reducible assumption) | omega | (simp; done) | (simp; omega))) | (with_reducible refine pp_below ?_ ?_ ?_ h1; (focus first | (with_reducible assumption) | (with_reducible refine pp_undrew ?_; with_reducible assumption)); (focus first | (with_reducible assumption) | omega | (simp; done) | (simp; omega)); (focus first | (with_reducible assumption) | omega | (simp; done) | (simp; omega))) | ((repeat (with_reducible refine pp_set ?_ _ _ ?_ ?_; rotate_left 1; (focus first | (with_reducible assumption) | omega | (simp; done) | (simp; omega)); (focus first | (with_reducible assumption) | omega | (simp; done) | (simp; omega)))); with_reducible assumption))
      (first | (go_at_call 51; (with_reducible refine (imNorm_any a0 a1 a2 a3 _).mono ?_); rintro e wC ⟨rfl, h1⟩; (try with_reducible replace h1 := undrew h1); have hB : Below w.heap.size w wC := ba (by go_grown) h1; obtain ⟨hcwC, hfwC⟩ := bcell h1; have hqwC := h1.size; (try simp at hqwC); (try have hz0wC : w.heap.size < wC.heap.size := (by omega)); (try have he0wC : w.heap.size ≤ wC.heap.size := (by omega)); (try have hz1wC : w.heap.size + 1 < wC.heap.size := (by omega)); (try have he1wC : w.heap.size + 1 ≤ wC.heap.size := (by omega))) | (go_at_call 51; (with_reducible refine (imNorm_any b0 b1 b2 b3 _).mono ?_); rintro e wD ⟨rfl, h1⟩; (try with_reducible replace h1 := undrew h1); have hB : Below w.heap.size w wD := ba (by go_grown) h1; obtain ⟨hcwD, hfwD⟩ := bcell h1; have hqwD := h1.size; (try simp at hqwD); (try have hz0wD : w.heap.size < wD.heap.size := (by omega)); (try have he0wD : w.heap.size ≤ wD.heap.size := (by omega)); (try have hz1wD : w.heap.size + 1 < wD.heap.size := (by omega)); (try have he1wD : w.heap.size + 1 ≤ wD.heap.size := (by omega))) | (go_at_call 49; (with_reducible refine (imCompare_any _ _ _ _ (by omega) (by omega) (by omega) (by omega) (by omega) (by omega) (by omega) (by omega) _).mono ?_); rintro e wE ⟨rfl, h1⟩; (try with_reducible replace h1 := undrew h1); have hB : Below w.heap.size w wE := ba (by go_grown) h1; obtain ⟨hcwE, hfwE⟩ := bcell h1; have hqwE := h1.size; (try simp at hqwE); (try have hz0wE : w.heap.size < wE.heap.size := (by omega)); (try have he0wE : w.heap.size ≤ wE.heap.size := (by omega)); (try have hz1wE : w.heap.size + 1 < wE.heap.size := (by omega)); (try have he1wE : w.heap.size + 1 ≤ wE.heap.size := (by omega))))
    all_goals
      go_wp2_with fail
      go_returns
      exact ⟨by simp [cnG, sel, hga, hgb], by go_grown⟩

end Go.Proofs.Ytppbbcckijcckab
