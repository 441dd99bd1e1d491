/- Contracts: TimesPoints, in the model (its product told by one walk for every order) and in the program. -/
import Derived.Test.YtfcgglcpphaekaaPtTurn3
import Derived.Test.YtfcgglcpphaekaaAs
namespace Go.Proofs.Ytfcgglcpphaekaa
open Go.ChangeShapes Go.WideShapes Go.ChangeAt Go.RowKit

def tmG (a0 a1 a2 a3 : Int) (b0 b1 b2 b3 : Int) : Bool := goodB a0 a1 a2 a3 && (goodB b0 b1 b2 b3 && goodB (tm0 a0 a1 a2 a3 b0 b1 b2 b3) (tm1 a0 a1 a2 a3 b0 b1 b2 b3) (tm2 a0 a1 a2 a3 b0 b1 b2 b3) (tm3 a0 a1 a2 a3 b0 b1 b2 b3))

theorem spTm_any (a0 a1 a2 a3 : Int) (b0 b1 b2 b3 : Int) (pa0 : -999999 ≤ a0) (qa0 : a0 ≤ 999999) (pa1 : -999999 ≤ a1) (qa1 : a1 ≤ 999999) (pa2 : -999999 ≤ a2) (qa2 : a2 ≤ 999999) (pa3 : -999999 ≤ a3) (qa3 : a3 ≤ 999999) (pb0 : -999999 ≤ b0) (qb0 : b0 ≤ 999999) (pb1 : -999999 ≤ b1) (qb1 : b1 ≤ 999999) (pb2 : -999999 ≤ b2) (qb2 : b2 ≤ 999999) (pb3 : -999999 ≤ b3) (qb3 : b3 ≤ 999999) (w : World) :
    Calls Try.prog 10 #[.agg #[.int .i64 a0, .int .i64 a1, .int .i64 a2, .int .i64 a3], .agg #[.int .i64 b0, .int .i64 b1, .int .i64 b2, .int .i64 b3]] w fun e w' => e = .returned (.agg #[.int .i64 (tm0 a0 a1 a2 a3 b0 b1 b2 b3), .int .i64 (tm1 a0 a1 a2 a3 b0 b1 b2 b3), .int .i64 (tm2 a0 a1 a2 a3 b0 b1 b2 b3), .int .i64 (tm3 a0 a1 a2 a3 b0 b1 b2 b3)]) ∧ Below w.heap.size w w' :=
  (spTimesP ⟨a0, a1, a2, a3⟩ ⟨b0, b1, b2, b3⟩ ⟨⟨pa0, qa0⟩, ⟨pa1, qa1⟩, ⟨pa2, qa2⟩, ⟨pa3, qa3⟩⟩ ⟨⟨pb0, qb0⟩, ⟨pb1, qb1⟩, ⟨pb2, qb2⟩, ⟨pb3, qb3⟩⟩ w).mono fun _ _ h => h

set_option maxRecDepth 100000 in
set_option maxHeartbeats 1600000 in
theorem spTimesPoints_any (a0 a1 a2 a3 : Int) (b0 b1 b2 b3 : Int) (w : World) :
    Calls Try.prog 4 #[.agg #[.int .i64 a0, .int .i64 a1, .int .i64 a2, .int .i64 a3], .agg #[.int .i64 b0, .int .i64 b1, .int .i64 b2, .int .i64 b3]] w fun e w' => e = .returned (.tuple #[.agg #[.int .i64 (sel (tmG a0 a1 a2 a3 b0 b1 b2 b3) (tm0 a0 a1 a2 a3 b0 b1 b2 b3)), .int .i64 (sel (tmG a0 a1 a2 a3 b0 b1 b2 b3) (tm1 a0 a1 a2 a3 b0 b1 b2 b3)), .int .i64 (sel (tmG a0 a1 a2 a3 b0 b1 b2 b3) (tm2 a0 a1 a2 a3 b0 b1 b2 b3)), .int .i64 (sel (tmG a0 a1 a2 a3 b0 b1 b2 b3) (tm3 a0 a1 a2 a3 b0 b1 b2 b3))], .bool (tmG a0 a1 a2 a3 b0 b1 b2 b3)]) ∧ Below w.heap.size w w' := by
  cases hga : goodB a0 a1 a2 a3
  · go_enter Try.func4, Try.ntmps4
    go_wp2_with (go_at_call 8; refine (spGood_any _ _ _ _ _).mono ?_; rintro e w1 ⟨rfl, h1⟩; have hB : Below w.heap.size w w1 := ba (by go_grown) h1; obtain ⟨hc1, hf1⟩ := bcell h1; have hq := h1.size; (try simp at hq); have hz0 : w.heap.size < w1.heap.size := (by omega); have hz1 : w.heap.size + 1 < w1.heap.size := (by omega); have hz2 : w.heap.size + 2 < w1.heap.size := (by omega); have HK1 := Lib.hid h1; clear h1 hq)
    refine bodyPost_ret (by simp [results, Try.results4, go_sem, *]; try rfl) rfl ?_
    exact ⟨by simp [tmG, sel, hga], by go_grown⟩
  cases hgb : goodB b0 b1 b2 b3
  · go_enter Try.func4, Try.ntmps4
    go_wp2_with (go_at_call 8; refine (spGood_any _ _ _ _ _).mono ?_; rintro e w1 ⟨rfl, h1⟩; have hB : Below w.heap.size w w1 := ba (by go_grown) h1; obtain ⟨hc1, hf1⟩ := bcell h1; have hq := h1.size; (try simp at hq); have hz0 : w.heap.size < w1.heap.size := (by omega); have hz1 : w.heap.size + 1 < w1.heap.size := (by omega); have hz2 : w.heap.size + 2 < w1.heap.size := (by omega); have HK1 := Lib.hid h1; clear h1 hq)
    refine bodyPost_ret (by simp [results, Try.results4, go_sem, *]; try rfl) rfl ?_
    exact ⟨by simp [tmG, sel, hgb], by go_grown⟩
  · obtain ⟨pa0, qa0, pa1, qa1, pa2, qa2, pa3, qa3⟩ := good_bd _ _ _ _ hga
    obtain ⟨pb0, qb0, pb1, qb1, pb2, qb2, pb3, qb3⟩ := good_bd _ _ _ _ hgb
    go_enter Try.func4, Try.ntmps4
    go_wp2_with (first | (go_at_call 8; refine (spGood_any _ _ _ _ _).mono ?_; rintro e w1 ⟨rfl, h1⟩; have hB : Below w.heap.size w w1 := ba (by go_grown) h1; obtain ⟨hc1, hf1⟩ := bcell h1; have hq := h1.size; (try simp at hq); have hz0 : w.heap.size < w1.heap.size := (by omega); have hz1 : w.heap.size + 1 < w1.heap.size := (by omega); have hz2 : w.heap.size + 2 < w1.heap.size := (by omega); have HK1 := Lib.hid h1; clear h1 hq) | (go_at_call 10; refine (spTm_any a0 a1 a2 a3 b0 b1 b2 b3 pa0 qa0 pa1 qa1 pa2 qa2 pa3 qa3 pb0 qb0 pb1 qb1 pb2 qb2 pb3 qb3 _).mono ?_; rintro e w1 ⟨rfl, h1⟩; have hB : Below w.heap.size w w1 := ba (by go_grown) h1; obtain ⟨hc1, hf1⟩ := bcell h1; have hq := h1.size; (try simp at hq); have hz0 : w.heap.size < w1.heap.size := (by omega); have hz1 : w.heap.size + 1 < w1.heap.size := (by omega); have hz2 : w.heap.size + 2 < w1.heap.size := (by omega); have HK1 := Lib.hid h1; clear h1 hq) | (go_at_call 9; refine (spIf_any _ _ _ _ _).mono ?_; rintro e w1 ⟨rfl, h1⟩; have hB : Below w.heap.size w w1 := ba (by go_grown) h1; obtain ⟨hc1, hf1⟩ := bcell h1; have hq := h1.size; (try simp at hq); have hz0 : w.heap.size < w1.heap.size := (by omega); have hz1 : w.heap.size + 1 < w1.heap.size := (by omega); have hz2 : w.heap.size + 2 < w1.heap.size := (by omega); have HK1 := Lib.hid h1; clear h1 hq))
    refine bodyPost_ret (by simp [results, Try.results4, go_sem, *]; try rfl) rfl ?_
    exact ⟨by simp [tmG, hga, hgb], by go_grown⟩

set_option maxRecDepth 100000 in
set_option maxHeartbeats 1600000 in
theorem imTimesPoints_any (a0 a1 a2 a3 : Int) (b0 b1 b2 b3 : Int) (w : World) :
    Calls Try.prog 6 #[.agg #[.int .i64 a0, .int .i64 a1, .int .i64 a2, .int .i64 a3], .agg #[.int .i64 b0, .int .i64 b1, .int .i64 b2, .int .i64 b3]] w fun e w' => e = .returned (.tuple #[.agg #[.int .i64 (sel (tmG a0 a1 a2 a3 b0 b1 b2 b3) (tm0 a0 a1 a2 a3 b0 b1 b2 b3)), .int .i64 (sel (tmG a0 a1 a2 a3 b0 b1 b2 b3) (tm1 a0 a1 a2 a3 b0 b1 b2 b3)), .int .i64 (sel (tmG a0 a1 a2 a3 b0 b1 b2 b3) (tm2 a0 a1 a2 a3 b0 b1 b2 b3)), .int .i64 (sel (tmG a0 a1 a2 a3 b0 b1 b2 b3) (tm3 a0 a1 a2 a3 b0 b1 b2 b3))], .bool (tmG a0 a1 a2 a3 b0 b1 b2 b3)]) ∧ Below w.heap.size w w' := by
  cases hga : goodB a0 a1 a2 a3
  · go_enter Try.func6, Try.ntmps6
    go_wp2_with (go_at_call 11; refine (imIsPoint_any _ _ _ _ _).mono ?_; rintro e w1 ⟨rfl, h1⟩; have hB : Below w.heap.size w w1 := ba (by go_grown) h1; obtain ⟨hc1, hf1⟩ := bcell h1; have hq := h1.size; (try simp at hq); have hz0 : w.heap.size < w1.heap.size := (by omega); have hz1 : w.heap.size + 1 < w1.heap.size := (by omega); have hz2 : w.heap.size + 2 < w1.heap.size := (by omega); have HK1 := Lib.hid h1; clear h1 hq)
    refine bodyPost_ret (by simp [results, Try.results6, go_sem, *]; try rfl) rfl ?_
    exact ⟨by simp [tmG, sel, hga], by go_grown⟩
  cases hgb : goodB b0 b1 b2 b3
  · go_enter Try.func6, Try.ntmps6
    go_wp2_with (go_at_call 11; refine (imIsPoint_any _ _ _ _ _).mono ?_; rintro e w1 ⟨rfl, h1⟩; have hB : Below w.heap.size w w1 := ba (by go_grown) h1; obtain ⟨hc1, hf1⟩ := bcell h1; have hq := h1.size; (try simp at hq); have hz0 : w.heap.size < w1.heap.size := (by omega); have hz1 : w.heap.size + 1 < w1.heap.size := (by omega); have hz2 : w.heap.size + 2 < w1.heap.size := (by omega); have HK1 := Lib.hid h1; clear h1 hq)
    refine bodyPost_ret (by simp [results, Try.results6, go_sem, *]; try rfl) rfl ?_
    exact ⟨by simp [tmG, sel, hgb], by go_grown⟩
  · obtain ⟨pa0, qa0, pa1, qa1, pa2, qa2, pa3, qa3⟩ := good_bd _ _ _ _ hga
    obtain ⟨pb0, qb0, pb1, qb1, pb2, qb2, pb3, qb3⟩ := good_bd _ _ _ _ hgb
    go_enter Try.func6, Try.ntmps6
    go_wp2_with (first | (go_at_call 11; refine (imIsPoint_any _ _ _ _ _).mono ?_; rintro e w1 ⟨rfl, h1⟩; have hB : Below w.heap.size w w1 := ba (by go_grown) h1; obtain ⟨hc1, hf1⟩ := bcell h1; have hq := h1.size; (try simp at hq); have hz0 : w.heap.size < w1.heap.size := (by omega); have hz1 : w.heap.size + 1 < w1.heap.size := (by omega); have hz2 : w.heap.size + 2 < w1.heap.size := (by omega); have HK1 := Lib.hid h1; clear h1 hq) | (go_at_call 13; refine (imTimes_any a0 a1 a2 a3 b0 b1 b2 b3 pa0 qa0 pa1 qa1 pa2 qa2 pa3 qa3 pb0 qb0 pb1 qb1 pb2 qb2 pb3 qb3 _).mono ?_; rintro e w1 ⟨rfl, h1⟩; have hB : Below w.heap.size w w1 := ba (by go_grown) h1; obtain ⟨hc1, hf1⟩ := bcell h1; have hq := h1.size; (try simp at hq); have hz0 : w.heap.size < w1.heap.size := (by omega); have hz1 : w.heap.size + 1 < w1.heap.size := (by omega); have hz2 : w.heap.size + 2 < w1.heap.size := (by omega); have HK1 := Lib.hid h1; clear h1 hq) | (go_at_call 12; refine (imOnly_any _ _ _ _ _).mono ?_; rintro e w1 ⟨rfl, h1⟩; have hB : Below w.heap.size w w1 := ba (by go_grown) h1; obtain ⟨hc1, hf1⟩ := bcell h1; have hq := h1.size; (try simp at hq); have hz0 : w.heap.size < w1.heap.size := (by omega); have hz1 : w.heap.size + 1 < w1.heap.size := (by omega); have hz2 : w.heap.size + 2 < w1.heap.size := (by omega); have HK1 := Lib.hid h1; clear h1 hq))
    refine bodyPost_ret (by simp [results, Try.results6, go_sem, *]; try rfl) rfl ?_
    exact ⟨by simp [tmG, hga, hgb], by go_grown⟩

end Go.Proofs.Ytfcgglcpphaekaa
