/- Contracts: the steps of pieces, in the model. -/
import Derived.Test.YtppbbcckijcckaaPtTurn3
import Derived.Test.YtppbbcckijcckaaPtLess
import Derived.Test.YtppbbcckijcckaaClS
import Derived.Test.YtppbbcckijcckaaPc
namespace Go.Proofs.Ytppbbcckijcckaa
open Go.ChangeShapes Go.WideShapes Go.ChangeAt Go.RowKit

set_option linter.unusedVariables false
set_option linter.unusedSimpArgs false

theorem lsd_eq (x y : Int) (px : -999999 ≤ x) (qx : x ≤ 999999) (py : -999999 ≤ y) (qy : y ≤ 999999) : lsd x y = x - y := by
  unfold lsd
  rw [w64s (-1 * y) (by omega) (by omega), w64s _ (by omega) (by omega)]
  omega

theorem lsB (x0 x1 x2 x3 y0 y1 y2 y3 : Int) (px0 : -999999 ≤ x0) (qx0 : x0 ≤ 999999) (px1 : -999999 ≤ x1) (qx1 : x1 ≤ 999999) (px2 : -999999 ≤ x2) (qx2 : x2 ≤ 999999) (px3 : -999999 ≤ x3) (qx3 : x3 ≤ 999999) (py0 : -999999 ≤ y0) (qy0 : y0 ≤ 999999) (py1 : -999999 ≤ y1) (qy1 : y1 ≤ 999999) (py2 : -999999 ≤ y2) (qy2 : y2 ≤ 999999) (py3 : -999999 ≤ y3) (qy3 : y3 ≤ 999999) (w : World) :
    Calls Try.prog 96 #[.agg #[.int .i64 x0, .int .i64 x1, .int .i64 x2, .int .i64 x3], .agg #[.int .i64 y0, .int .i64 y1, .int .i64 y2, .int .i64 y3]] w fun e w' => e = .returned (.agg #[.int .i64 (x0 - y0), .int .i64 (x1 - y1), .int .i64 (x2 - y2), .int .i64 (x3 - y3)]) ∧ Below w.heap.size w w' :=
  (spLess_any x0 x1 x2 x3 y0 y1 y2 y3 w).mono fun e w' ⟨h, hb⟩ => ⟨by rw [h, lsd_eq x0 y0 px0 qx0 py0 qy0, lsd_eq x1 y1 px1 qx1 py1 qy1, lsd_eq x2 y2 px2 qx2 py2 qy2, lsd_eq x3 y3 px3 qx3 py3 qy3], hb⟩

set_option maxRecDepth 100000 in
set_option maxHeartbeats 1600000 in
theorem ptStep_L (h : Int) (h0 : 0 ≤ h) (h7 : h ≤ 7) (w : World) :
    Calls Try.prog 150 #[.int .u8 76, .int .i64 h] w fun e w' => e = .returned (.tuple #[.agg #[.int .i64 ((tu0 ((h + 7) % 8) 1 0 0 0) - (tu0 ((h + 6) % 8) 1 0 0 0)), .int .i64 ((tu1 ((h + 7) % 8) 1 0 0 0) - (tu1 ((h + 6) % 8) 1 0 0 0)), .int .i64 ((tu2 ((h + 7) % 8) 1 0 0 0) - (tu2 ((h + 6) % 8) 1 0 0 0)), .int .i64 ((tu3 ((h + 7) % 8) 1 0 0 0) - (tu3 ((h + 6) % 8) 1 0 0 0))], .int .i64 ((h + 1) % 8)]) ∧ Below w.heap.size w w' := by
  obtain ⟨a0, a0'⟩ := tu_bd0 ((h + 7) % 8) (by omega) (by omega)
  obtain ⟨a1, a1'⟩ := tu_bd1 ((h + 7) % 8) (by omega) (by omega)
  obtain ⟨a2, a2'⟩ := tu_bd2 ((h + 7) % 8) (by omega) (by omega)
  obtain ⟨a3, a3'⟩ := tu_bd3 ((h + 7) % 8) (by omega) (by omega)
  obtain ⟨b0, b0'⟩ := tu_bd0 ((h + 6) % 8) (by omega) (by omega)
  obtain ⟨b1, b1'⟩ := tu_bd1 ((h + 6) % 8) (by omega) (by omega)
  obtain ⟨b2, b2'⟩ := tu_bd2 ((h + 6) % 8) (by omega) (by omega)
  obtain ⟨b3, b3'⟩ := tu_bd3 ((h + 6) % 8) (by omega) (by omega)
  go_enter Try.func150, Try.ntmps150
  go_wp2_with fail
  (go_at_call 171; (with_reducible refine (ptHeading_any (h + 7) (by omega) (by omega) _).mono ?_); rintro e wA ⟨rfl, h1⟩; (try with_reducible replace h1 := undrew h1); have hB : Below w.heap.size w wA := ba (by go_grown) h1; obtain ⟨hcwA, hfwA⟩ := bcell h1; have hqwA := h1.size; (try simp at hqwA); (try have hz0wA : w.heap.size < wA.heap.size := (by omega)); (try have he0wA : w.heap.size ≤ wA.heap.size := (by omega)))
  go_wp2_with fail
  (go_at_call 171; (with_reducible refine (ptHeading_any (h + 6) (by omega) (by omega) _).mono ?_); rintro e wB ⟨rfl, h1⟩; (try with_reducible replace h1 := undrew h1); have hB : Below w.heap.size w wB := ba (by go_grown) h1; obtain ⟨hcwB, hfwB⟩ := bcell h1; have hqwB := h1.size; (try simp at hqwB); (try have hz0wB : w.heap.size < wB.heap.size := (by omega)); (try have he0wB : w.heap.size ≤ wB.heap.size := (by omega)))
  go_wp2_with fail
  (go_at_call 96; (with_reducible refine (lsB (tu0 ((h + 7) % 8) 1 0 0 0) (tu1 ((h + 7) % 8) 1 0 0 0) (tu2 ((h + 7) % 8) 1 0 0 0) (tu3 ((h + 7) % 8) 1 0 0 0) (tu0 ((h + 6) % 8) 1 0 0 0) (tu1 ((h + 6) % 8) 1 0 0 0) (tu2 ((h + 6) % 8) 1 0 0 0) (tu3 ((h + 6) % 8) 1 0 0 0) a0 a0' a1 a1' a2 a2' a3 a3' b0 b0' b1 b1' b2 b2' b3 b3' _).mono ?_); rintro e wC ⟨rfl, h1⟩; (try with_reducible replace h1 := undrew h1); have hB : Below w.heap.size w wC := ba (by go_grown) h1; obtain ⟨hcwC, hfwC⟩ := bcell h1; have hqwC := h1.size; (try simp at hqwC); (try have hz0wC : w.heap.size < wC.heap.size := (by omega)); (try have he0wC : w.heap.size ≤ wC.heap.size := (by omega)))
  go_wp2_with fail
  refine bodyPost_ret (by simp [results, Try.results150, go_sem, *]; try rfl) rfl ?_
  exact ⟨rfl, by go_grown⟩

set_option maxRecDepth 100000 in
set_option maxHeartbeats 1600000 in
theorem ptStep_R (h : Int) (h0 : 0 ≤ h) (h7 : h ≤ 7) (w : World) :
    Calls Try.prog 150 #[.int .u8 82, .int .i64 h] w fun e w' => e = .returned (.tuple #[.agg #[.int .i64 ((tu0 ((h + 1) % 8) 1 0 0 0) - (tu0 ((h + 2) % 8) 1 0 0 0)), .int .i64 ((tu1 ((h + 1) % 8) 1 0 0 0) - (tu1 ((h + 2) % 8) 1 0 0 0)), .int .i64 ((tu2 ((h + 1) % 8) 1 0 0 0) - (tu2 ((h + 2) % 8) 1 0 0 0)), .int .i64 ((tu3 ((h + 1) % 8) 1 0 0 0) - (tu3 ((h + 2) % 8) 1 0 0 0))], .int .i64 ((h + 7) % 8)]) ∧ Below w.heap.size w w' := by
  obtain ⟨a0, a0'⟩ := tu_bd0 ((h + 1) % 8) (by omega) (by omega)
  obtain ⟨a1, a1'⟩ := tu_bd1 ((h + 1) % 8) (by omega) (by omega)
  obtain ⟨a2, a2'⟩ := tu_bd2 ((h + 1) % 8) (by omega) (by omega)
  obtain ⟨a3, a3'⟩ := tu_bd3 ((h + 1) % 8) (by omega) (by omega)
  obtain ⟨b0, b0'⟩ := tu_bd0 ((h + 2) % 8) (by omega) (by omega)
  obtain ⟨b1, b1'⟩ := tu_bd1 ((h + 2) % 8) (by omega) (by omega)
  obtain ⟨b2, b2'⟩ := tu_bd2 ((h + 2) % 8) (by omega) (by omega)
  obtain ⟨b3, b3'⟩ := tu_bd3 ((h + 2) % 8) (by omega) (by omega)
  go_enter Try.func150, Try.ntmps150
  go_wp2_with fail
  (go_at_call 171; (with_reducible refine (ptHeading_any (h + 1) (by omega) (by omega) _).mono ?_); rintro e wA ⟨rfl, h1⟩; (try with_reducible replace h1 := undrew h1); have hB : Below w.heap.size w wA := ba (by go_grown) h1; obtain ⟨hcwA, hfwA⟩ := bcell h1; have hqwA := h1.size; (try simp at hqwA); (try have hz0wA : w.heap.size < wA.heap.size := (by omega)); (try have he0wA : w.heap.size ≤ wA.heap.size := (by omega)))
  go_wp2_with fail
  (go_at_call 171; (with_reducible refine (ptHeading_any (h + 2) (by omega) (by omega) _).mono ?_); rintro e wB ⟨rfl, h1⟩; (try with_reducible replace h1 := undrew h1); have hB : Below w.heap.size w wB := ba (by go_grown) h1; obtain ⟨hcwB, hfwB⟩ := bcell h1; have hqwB := h1.size; (try simp at hqwB); (try have hz0wB : w.heap.size < wB.heap.size := (by omega)); (try have he0wB : w.heap.size ≤ wB.heap.size := (by omega)))
  go_wp2_with fail
  (go_at_call 96; (with_reducible refine (lsB (tu0 ((h + 1) % 8) 1 0 0 0) (tu1 ((h + 1) % 8) 1 0 0 0) (tu2 ((h + 1) % 8) 1 0 0 0) (tu3 ((h + 1) % 8) 1 0 0 0) (tu0 ((h + 2) % 8) 1 0 0 0) (tu1 ((h + 2) % 8) 1 0 0 0) (tu2 ((h + 2) % 8) 1 0 0 0) (tu3 ((h + 2) % 8) 1 0 0 0) a0 a0' a1 a1' a2 a2' a3 a3' b0 b0' b1 b1' b2 b2' b3 b3' _).mono ?_); rintro e wC ⟨rfl, h1⟩; (try with_reducible replace h1 := undrew h1); have hB : Below w.heap.size w wC := ba (by go_grown) h1; obtain ⟨hcwC, hfwC⟩ := bcell h1; have hqwC := h1.size; (try simp at hqwC); (try have hz0wC : w.heap.size < wC.heap.size := (by omega)); (try have he0wC : w.heap.size ≤ wC.heap.size := (by omega)))
  go_wp2_with fail
  refine bodyPost_ret (by simp [results, Try.results150, go_sem, *]; try rfl) rfl ?_
  exact ⟨rfl, by go_grown⟩

set_option maxRecDepth 100000 in
set_option maxHeartbeats 1600000 in
theorem ptStep_S (h : Int) (h0 : 0 ≤ h) (h7 : h ≤ 7) (w : World) :
    Calls Try.prog 150 #[.int .u8 83, .int .i64 h] w fun e w' => e = .returned (.tuple #[.agg #[.int .i64 ((tu0 h 1 0 0 0)), .int .i64 ((tu1 h 1 0 0 0)), .int .i64 ((tu2 h 1 0 0 0)), .int .i64 ((tu3 h 1 0 0 0))], .int .i64 h]) ∧ Below w.heap.size w w' := by
  have hm : h % 8 = h := by omega
  have HM := Lib.hid hm
  clear hm
  go_enter Try.func150, Try.ntmps150
  go_wp2_with fail
  (go_at_call 171; (with_reducible refine (ptHeading_any h (by omega) (by omega) _).mono ?_); rintro e wA ⟨rfl, h1⟩; (try with_reducible replace h1 := undrew h1); have hB : Below w.heap.size w wA := ba (by go_grown) h1; obtain ⟨hcwA, hfwA⟩ := bcell h1; have hqwA := h1.size; (try simp at hqwA); (try have hz0wA : w.heap.size < wA.heap.size := (by omega)); (try have he0wA : w.heap.size ≤ wA.heap.size := (by omega)))
  go_wp2_with fail
  refine bodyPost_ret (by simp [results, Try.results150, go_sem, *]; try rfl) rfl ?_
  exact ⟨by rw [HM.out], by go_grown⟩

end Go.Proofs.Ytppbbcckijcckaa
