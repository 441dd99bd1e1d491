/- Contracts: TurnPoint, in the model and in the program. -/
import Derived.Test.YtkjammpicmbhnaaPtTurn2
import Derived.Test.YtkjammpicmbhnaaCl
namespace Go.Proofs.Ytkjammpicmbhnaa
open Go.ChangeShapes Go.WideShapes Go.ChangeAt Go.RowKit

def tuG (a0 a1 a2 a3 : Int) (k : Int) : Bool := goodB a0 a1 a2 a3 && inB k 0 7

theorem tu_bd0 (k : Int) (h0 : 0 ≤ k) (h7 : k ≤ 7) : -999999 ≤ tu0 k 1 0 0 0 ∧ tu0 k 1 0 0 0 ≤ 999999 := by
  rcases eight k h0 h7 with rfl | rfl | rfl | rfl | rfl | rfl | rfl | rfl <;> simp [tu0]
theorem tm_tu0 (a0 a1 a2 a3 : Int) (k : Int) (h0 : 0 ≤ k) (h7 : k ≤ 7) : tm0 a0 a1 a2 a3 (tu0 k 1 0 0 0) (tu1 k 1 0 0 0) (tu2 k 1 0 0 0) (tu3 k 1 0 0 0) = tu0 k a0 a1 a2 a3 := by
  rcases eight k h0 h7 with rfl | rfl | rfl | rfl | rfl | rfl | rfl | rfl <;> simp [tm0, tu0, tu1, tu2, tu3]
theorem tu_bd1 (k : Int) (h0 : 0 ≤ k) (h7 : k ≤ 7) : -999999 ≤ tu1 k 1 0 0 0 ∧ tu1 k 1 0 0 0 ≤ 999999 := by
  rcases eight k h0 h7 with rfl | rfl | rfl | rfl | rfl | rfl | rfl | rfl <;> simp [tu1]
theorem tm_tu1 (a0 a1 a2 a3 : Int) (k : Int) (h0 : 0 ≤ k) (h7 : k ≤ 7) : tm1 a0 a1 a2 a3 (tu0 k 1 0 0 0) (tu1 k 1 0 0 0) (tu2 k 1 0 0 0) (tu3 k 1 0 0 0) = tu1 k a0 a1 a2 a3 := by
  rcases eight k h0 h7 with rfl | rfl | rfl | rfl | rfl | rfl | rfl | rfl <;> simp [tm1, tu0, tu1, tu2, tu3]
theorem tu_bd2 (k : Int) (h0 : 0 ≤ k) (h7 : k ≤ 7) : -999999 ≤ tu2 k 1 0 0 0 ∧ tu2 k 1 0 0 0 ≤ 999999 := by
  rcases eight k h0 h7 with rfl | rfl | rfl | rfl | rfl | rfl | rfl | rfl <;> simp [tu2]
theorem tm_tu2 (a0 a1 a2 a3 : Int) (k : Int) (h0 : 0 ≤ k) (h7 : k ≤ 7) : tm2 a0 a1 a2 a3 (tu0 k 1 0 0 0) (tu1 k 1 0 0 0) (tu2 k 1 0 0 0) (tu3 k 1 0 0 0) = tu2 k a0 a1 a2 a3 := by
  rcases eight k h0 h7 with rfl | rfl | rfl | rfl | rfl | rfl | rfl | rfl <;> simp [tm2, tu0, tu1, tu2, tu3]
theorem tu_bd3 (k : Int) (h0 : 0 ≤ k) (h7 : k ≤ 7) : -999999 ≤ tu3 k 1 0 0 0 ∧ tu3 k 1 0 0 0 ≤ 999999 := by
  rcases eight k h0 h7 with rfl | rfl | rfl | rfl | rfl | rfl | rfl | rfl <;> simp [tu3]
theorem tm_tu3 (a0 a1 a2 a3 : Int) (k : Int) (h0 : 0 ≤ k) (h7 : k ≤ 7) : tm3 a0 a1 a2 a3 (tu0 k 1 0 0 0) (tu1 k 1 0 0 0) (tu2 k 1 0 0 0) (tu3 k 1 0 0 0) = tu3 k a0 a1 a2 a3 := by
  rcases eight k h0 h7 with rfl | rfl | rfl | rfl | rfl | rfl | rfl | rfl <;> simp [tm3, tu0, tu1, tu2, tu3]

set_option maxRecDepth 100000 in
set_option maxHeartbeats 800000 in
theorem spTurnPoint_any (a0 a1 a2 a3 : Int) (k : Int) (w : World) :
    Calls Try.prog 22 #[.agg #[.int .i64 a0, .int .i64 a1, .int .i64 a2, .int .i64 a3], .int .i64 k] w fun e w' => e = .returned (.tuple #[.agg #[.int .i64 (sel (tuG a0 a1 a2 a3 k) (tu0 k a0 a1 a2 a3)), .int .i64 (sel (tuG a0 a1 a2 a3 k) (tu1 k a0 a1 a2 a3)), .int .i64 (sel (tuG a0 a1 a2 a3 k) (tu2 k a0 a1 a2 a3)), .int .i64 (sel (tuG a0 a1 a2 a3 k) (tu3 k a0 a1 a2 a3))], .bool (tuG a0 a1 a2 a3 k)]) ∧ Below w.heap.size w w' := by
  cases hga : goodB a0 a1 a2 a3
  · go_enter Try.func22, Try.ntmps22
    go_wp2_with (go_at_call 32; refine (spGood_any _ _ _ _ _).mono ?_; rintro e w1 ⟨rfl, h1⟩; have hB : Below w.heap.size w w1 := ba (by go_grown) h1; obtain ⟨hc1, hf1⟩ := bcell h1; have hq := h1.size; (try simp at hq); have hz0 : w.heap.size < w1.heap.size := (by omega); have hz1 : w.heap.size + 1 < w1.heap.size := (by omega); clear h1 hq)
    refine bodyPost_ret (by simp [results, Try.results22, go_sem, *]; try rfl) rfl ?_
    exact ⟨by simp [tuG, sel, hga], by go_grown⟩
  cases hk : inB k 0 7
  · go_enter Try.func22, Try.ntmps22
    go_wp2_with (first | (go_at_call 32; refine (spGood_any _ _ _ _ _).mono ?_; rintro e w1 ⟨rfl, h1⟩; have hB : Below w.heap.size w w1 := ba (by go_grown) h1; obtain ⟨hc1, hf1⟩ := bcell h1; have hq := h1.size; (try simp at hq); have hz0 : w.heap.size < w1.heap.size := (by omega); have hz1 : w.heap.size + 1 < w1.heap.size := (by omega); clear h1 hq) | (go_at_call 42; refine (l1In_any _ _ _ _).mono ?_; rintro e w' ⟨rfl, rfl⟩))
    refine bodyPost_ret (by simp [results, Try.results22, go_sem, *]; try rfl) rfl ?_
    exact ⟨by simp [tuG, sel, hk], by go_grown⟩
  · obtain ⟨pa0, qa0, pa1, qa1, pa2, qa2, pa3, qa3⟩ := good_bd _ _ _ _ hga
    obtain ⟨h0, h7⟩ := in_bd hk
    go_enter Try.func22, Try.ntmps22
    go_wp2_with (first | (go_at_call 32; refine (spGood_any _ _ _ _ _).mono ?_; rintro e w1 ⟨rfl, h1⟩; have hB : Below w.heap.size w w1 := ba (by go_grown) h1; obtain ⟨hc1, hf1⟩ := bcell h1; have hq := h1.size; (try simp at hq); have hz0 : w.heap.size < w1.heap.size := (by omega); have hz1 : w.heap.size + 1 < w1.heap.size := (by omega); clear h1 hq) | (go_at_call 42; refine (l1In_any _ _ _ _).mono ?_; rintro e w' ⟨rfl, rfl⟩) | (go_at_call 43; refine (ptTurn_any a0 a1 a2 a3 k pa0 qa0 pa1 qa1 pa2 qa2 pa3 qa3 h0 h7 _).mono ?_; rintro e w1 ⟨rfl, h1⟩; have hB : Below w.heap.size w w1 := ba (by go_grown) h1; obtain ⟨hc1, hf1⟩ := bcell h1; have hq := h1.size; (try simp at hq); have hz0 : w.heap.size < w1.heap.size := (by omega); have hz1 : w.heap.size + 1 < w1.heap.size := (by omega); clear h1 hq))
    refine bodyPost_ret (by simp [results, Try.results22, go_sem, *]; try rfl) rfl ?_
    exact ⟨by simp [tuG, sel, hga, hk], by go_grown⟩

set_option maxRecDepth 100000 in
set_option maxHeartbeats 1600000 in
theorem imTurnPoint_any (a0 a1 a2 a3 : Int) (k : Int) (w : World) :
    Calls Try.prog 23 #[.agg #[.int .i64 a0, .int .i64 a1, .int .i64 a2, .int .i64 a3], .int .i64 k] w fun e w' => e = .returned (.tuple #[.agg #[.int .i64 (sel (tuG a0 a1 a2 a3 k) (tu0 k a0 a1 a2 a3)), .int .i64 (sel (tuG a0 a1 a2 a3 k) (tu1 k a0 a1 a2 a3)), .int .i64 (sel (tuG a0 a1 a2 a3 k) (tu2 k a0 a1 a2 a3)), .int .i64 (sel (tuG a0 a1 a2 a3 k) (tu3 k a0 a1 a2 a3))], .bool (tuG a0 a1 a2 a3 k)]) ∧ Below w.heap.size w w' := by
  cases hga : goodB a0 a1 a2 a3
  · go_enter Try.func23, Try.ntmps23
    go_wp2_with (go_at_call 14; refine (imIsPoint_any _ _ _ _ _).mono ?_; rintro e w1 ⟨rfl, h1⟩; have hB : Below w.heap.size w w1 := ba (by go_grown) h1; obtain ⟨hc1, hf1⟩ := bcell h1; have hq := h1.size; (try simp at hq); have hz0 : w.heap.size < w1.heap.size := (by omega); have hz1 : w.heap.size + 1 < w1.heap.size := (by omega); clear h1 hq)
    refine bodyPost_ret (by simp [results, Try.results23, go_sem, *]; try rfl) rfl ?_
    exact ⟨by simp [tuG, sel, hga], by go_grown⟩
  cases hk : inB k 0 7
  · go_enter Try.func23, Try.ntmps23
    go_wp2_with (first | (go_at_call 14; refine (imIsPoint_any _ _ _ _ _).mono ?_; rintro e w1 ⟨rfl, h1⟩; have hB : Below w.heap.size w w1 := ba (by go_grown) h1; obtain ⟨hc1, hf1⟩ := bcell h1; have hq := h1.size; (try simp at hq); have hz0 : w.heap.size < w1.heap.size := (by omega); have hz1 : w.heap.size + 1 < w1.heap.size := (by omega); clear h1 hq) | (go_at_call 44; refine (isHeading_any _ _).mono ?_; rintro e w' ⟨rfl, rfl⟩))
    refine bodyPost_ret (by simp [results, Try.results23, go_sem, *]; try rfl) rfl ?_
    exact ⟨by simp [tuG, sel, hk], by go_grown⟩
  · obtain ⟨pa0, qa0, pa1, qa1, pa2, qa2, pa3, qa3⟩ := good_bd _ _ _ _ hga
    obtain ⟨h0, h7⟩ := in_bd hk
    obtain ⟨t0, t0'⟩ := tu_bd0 k h0 h7
    obtain ⟨t1, t1'⟩ := tu_bd1 k h0 h7
    obtain ⟨t2, t2'⟩ := tu_bd2 k h0 h7
    obtain ⟨t3, t3'⟩ := tu_bd3 k h0 h7
    have hS := po_start a0 a1 a2 a3 w 25
    go_enter Try.func23, Try.ntmps23
    go_wp2_with fail
    (go_at_call 14; (with_reducible refine (imIsPoint_any _ _ _ _ _).mono ?_); rintro e wA ⟨rfl, h1⟩; (try with_reducible replace h1 := undrew h1); have hB : Below w.heap.size w wA := ba (by go_grown) h1; obtain ⟨hcwA, hfwA⟩ := bcell h1; have hqwA := h1.size; (try simp at hqwA); (try have hz0wA : w.heap.size < wA.heap.size := (by omega)); (try have he0wA : w.heap.size ≤ wA.heap.size := (by omega)); (try have hz1wA : w.heap.size + 1 < wA.heap.size := (by omega)); (try have he1wA : w.heap.size + 1 ≤ wA.heap.size := (by omega)))
    have hS0 := po_below (po_alloc hS _) (by simp; omega) h1
    clear hS
    have hR : wA.cell? ⟨w.heap.size + 1, 0, none⟩ = some (.int .i64 0) ∧ wA.cell? ⟨w.heap.size + 1, 1, none⟩ = some (.int .i64 0) ∧ wA.cell? ⟨w.heap.size + 1, 2, none⟩ = some (.int .i64 0) ∧ wA.cell? ⟨w.heap.size + 1, 3, none⟩ = some (.int .i64 0) := ⟨by go_simp, by go_simp, by go_simp, by go_simp⟩
    go_wp2_with (go_at_call 44; refine (isHeading_any _ _).mono ?_; rintro e w' ⟨rfl, rfl⟩)
    clear h1
    go_region_held3 (fun w' => w'.cell? ⟨w.heap.size, 0, none⟩ = some (.int .i64 a0) ∧ w'.cell? ⟨w.heap.size, 1, none⟩ = some (.int .i64 a1) ∧ w'.cell? ⟨w.heap.size, 2, none⟩ = some (.int .i64 a2) ∧ w'.cell? ⟨w.heap.size, 3, none⟩ = some (.int .i64 a3))
      (first | (with_reducible assumption) | (with_reducible exact po_drew hS0) | (with_reducible exact po_drew (po_alloc hS0 _)) | (with_reducible exact po_alloc (po_drew hS0) _) | (with_reducible refine po_alloc ?_ _; with_reducible assumption) | (with_reducible refine po_re (by with_reducible assumption) ?_ _; (focus first | (with_reducible assumption) | omega | (simp; done) | (simp; omega))) | (with_reducible refine po_below ?_ ?_ h1; (focus first | (with_reducible assumption) | (with_reducible refine po_undrew ?_; with_reducible assumption)); (focus first | (with_reducible assumption) | omega | (simp; done) | (simp; omega))) | ((repeat (with_reducible refine po_set ?_ _ _ ?_; rotate_left 1; (focus first | (with_reducible assumption) | omega | (simp; done) | (simp; omega)))); with_reducible assumption))
      (first | (go_at_call 45; (with_reducible refine (power_any k h0 h7 _).mono ?_); rintro e wC ⟨rfl, h1⟩; (try with_reducible replace h1 := undrew h1); have hB : Below w.heap.size w wC := ba (by go_grown) h1; obtain ⟨hcwC, hfwC⟩ := bcell h1; have hqwC := h1.size; (try simp at hqwC); (try have hz0wC : w.heap.size < wC.heap.size := (by omega)); (try have he0wC : w.heap.size ≤ wC.heap.size := (by omega)); (try have hz1wC : w.heap.size + 1 < wC.heap.size := (by omega)); (try have he1wC : w.heap.size + 1 ≤ wC.heap.size := (by omega)); have hR := p_below hR (by omega) h1) | (go_at_call 41; (with_reducible refine (imTimes_any a0 a1 a2 a3 (tu0 k 1 0 0 0) (tu1 k 1 0 0 0) (tu2 k 1 0 0 0) (tu3 k 1 0 0 0) pa0 qa0 pa1 qa1 pa2 qa2 pa3 qa3 t0 t0' t1 t1' t2 t2' t3 t3' _).mono ?_); rintro e wD ⟨rfl, h1⟩; (try with_reducible replace h1 := undrew h1); have hB : Below w.heap.size w wD := ba (by go_grown) h1; obtain ⟨hcwD, hfwD⟩ := bcell h1; have hqwD := h1.size; (try simp at hqwD); (try have hz0wD : w.heap.size < wD.heap.size := (by omega)); (try have he0wD : w.heap.size ≤ wD.heap.size := (by omega)); (try have hz1wD : w.heap.size + 1 < wD.heap.size := (by omega)); (try have he1wD : w.heap.size + 1 ≤ wD.heap.size := (by omega)); have hR := p_below hR (by omega) h1))
    go_wp2_with fail
    refine bodyPost_ret (by simp [results, Try.results23, go_sem, *]; try rfl) rfl ?_
    exact ⟨by simp [tuG, sel, hga, hk, tm_tu0 _ _ _ _ k h0 h7, tm_tu1 _ _ _ _ k h0 h7, tm_tu2 _ _ _ _ k h0 h7, tm_tu3 _ _ _ _ k h0 h7], by go_grown⟩

end Go.Proofs.Ytkjammpicmbhnaa
