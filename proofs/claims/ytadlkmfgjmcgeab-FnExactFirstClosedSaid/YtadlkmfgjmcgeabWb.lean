/- Contract: the way back from a step, in the program. -/
import Derived.Test.YtadlkmfgjmcgeabWdM
import Derived.Test.YtadlkmfgjmcgeabSt
namespace Go.Proofs.Ytadlkmfgjmcgeab
open Go.ChangeShapes Go.WideShapes Go.ChangeAt Go.RowKit

set_option linter.unusedVariables false

theorem times_tuB (k : Int) (h0 : 0 ≤ k) (h7 : k ≤ 7) (a0 a1 a2 a3 : Int) (pa0 : -999999 ≤ a0) (qa0 : a0 ≤ 999999) (pa1 : -999999 ≤ a1) (qa1 : a1 ≤ 999999) (pa2 : -999999 ≤ a2) (qa2 : a2 ≤ 999999) (pa3 : -999999 ≤ a3) (qa3 : a3 ≤ 999999) (w : World) :
    Calls Try.prog 51 #[.agg #[.int .i64 a0, .int .i64 a1, .int .i64 a2, .int .i64 a3], .agg #[.int .i64 (tu0 k 1 0 0 0), .int .i64 (tu1 k 1 0 0 0), .int .i64 (tu2 k 1 0 0 0), .int .i64 (tu3 k 1 0 0 0)]] w fun e w' => e = .returned (.agg #[.int .i64 (tu0 k a0 a1 a2 a3), .int .i64 (tu1 k a0 a1 a2 a3), .int .i64 (tu2 k a0 a1 a2 a3), .int .i64 (tu3 k a0 a1 a2 a3)]) ∧ Below w.heap.size w w' := by
  obtain ⟨b0, b0'⟩ := tu_bd0 k h0 h7
  obtain ⟨b1, b1'⟩ := tu_bd1 k h0 h7
  obtain ⟨b2, b2'⟩ := tu_bd2 k h0 h7
  obtain ⟨b3, b3'⟩ := tu_bd3 k h0 h7
  refine (imTimes_any a0 a1 a2 a3 (tu0 k 1 0 0 0) (tu1 k 1 0 0 0) (tu2 k 1 0 0 0) (tu3 k 1 0 0 0) pa0 qa0 pa1 qa1 pa2 qa2 pa3 qa3 b0 b0' b1 b1' b2 b2' b3 b3' w).mono ?_
  rintro e w' ⟨rfl, hb⟩
  exact ⟨by rw [tm_tu0 a0 a1 a2 a3 k h0 h7, tm_tu1 a0 a1 a2 a3 k h0 h7, tm_tu2 a0 a1 a2 a3 k h0 h7, tm_tu3 a0 a1 a2 a3 k h0 h7], hb⟩

theorem turn_back (h : Int) (h0 : 0 ≤ h) (h7 : h ≤ 7) (w : World) :
    Calls Try.prog 49 #[.int .i64 0, .int .i64 (-h)] w fun e w' => e = .returned (.int .i64 ((8 - h) % 8)) ∧ w = w' := by
  have h2 : (-h + 8).tmod 8 = (8 - h) % 8 := by rw [Int.tmod_eq_emod_of_nonneg (by omega), show -h + 8 = 8 - h by omega]
  have HM := Lib.hid h2
  clear h2
  go_enter Try.func49, Try.ntmps49
  go_wp2
  go_ret
  exact ⟨by first | rfl | (rw [← HM.out]; rfl) | (simp; done), rfl⟩

set_option maxRecDepth 100000 in
set_option maxHeartbeats 1600000 in
theorem wayBack_any (s : Sp) (hs : s.okB 999999) (w : World) :
    Calls Try.prog 35 #[.agg #[.int .i64 s.x0, .int .i64 s.x1, .int .i64 s.x2, .int .i64 s.x3, .int .i64 s.h]] w fun e w' =>
      e = .returned (.agg #[.int .i64 (wayB s).x0, .int .i64 (wayB s).x1, .int .i64 (wayB s).x2, .int .i64 (wayB s).x3, .int .i64 (wayB s).h]) ∧ Below w.heap.size w w' := by
  obtain ⟨x0, x1, x2, x3, h⟩ := s
  obtain ⟨⟨b0, b0'⟩, ⟨b1, b1'⟩, ⟨b2, b2'⟩, ⟨b3, b3'⟩, b4, b5⟩ := hs
  simp only at b0 b0' b1 b1' b2 b2' b3 b3' b4 b5
  have hc0 : 0 ≤ (8 - h) % 8 := by omega
  have hc7 : (8 - h) % 8 ≤ 7 := by omega
  have T := Lib.hid (times_tuB ((8 - h) % 8) hc0 hc7 (-x0) (-x1) (-x2) (-x3) (by omega) (by omega) (by omega) (by omega) (by omega) (by omega) (by omega) (by omega))
  have PW := Lib.hid (power_any ((8 - h) % 8) hc0 hc7)
  have SC := Lib.hid (scN x0 x1 x2 x3 b0 b0' b1 b1' b2 b2' b3 b3')
  have TB := Lib.hid (turn_back h b4 b5)
  simp only [wayB]
  generalize (8 - h) % 8 = k at *
  go_enter Try.func35, Try.ntmps35
  go_wp2_with (go_at_call 49; refine (TB.out _).mono ?_; rintro e w' ⟨rfl, rfl⟩)
  (go_at_call 50; (with_reducible refine (SC.out _).mono ?_); rintro e wA ⟨rfl, h1⟩; (try with_reducible replace h1 := undrew h1); have hB : Below w.heap.size w wA := ba (by go_grown) h1; obtain ⟨hcwA, hfwA⟩ := bcell h1; have hqwA := h1.size; (try simp at hqwA); (try have hz0wA : w.heap.size < wA.heap.size := (by omega)); (try have he0wA : w.heap.size ≤ wA.heap.size := (by omega)); (try have hz1wA : w.heap.size + 1 < wA.heap.size := (by omega)); (try have he1wA : w.heap.size + 1 ≤ wA.heap.size := (by omega)))
  go_wp2_with fail
  (go_at_call 52; (with_reducible refine (PW.out _).mono ?_); rintro e wB ⟨rfl, h1⟩; (try with_reducible replace h1 := undrew h1); have hB : Below w.heap.size w wB := ba (by go_grown) h1; obtain ⟨hcwB, hfwB⟩ := bcell h1; have hqwB := h1.size; (try simp at hqwB); (try have hz0wB : w.heap.size < wB.heap.size := (by omega)); (try have he0wB : w.heap.size ≤ wB.heap.size := (by omega)); (try have hz1wB : w.heap.size + 1 < wB.heap.size := (by omega)); (try have he1wB : w.heap.size + 1 ≤ wB.heap.size := (by omega)))
  go_wp2_with fail
  (go_at_call 51; (with_reducible refine (T.out _).mono ?_); rintro e wC ⟨rfl, h1⟩; (try with_reducible replace h1 := undrew h1); have hB : Below w.heap.size w wC := ba (by go_grown) h1; obtain ⟨hcwC, hfwC⟩ := bcell h1; have hqwC := h1.size; (try simp at hqwC); (try have hz0wC : w.heap.size < wC.heap.size := (by omega)); (try have he0wC : w.heap.size ≤ wC.heap.size := (by omega)); (try have hz1wC : w.heap.size + 1 < wC.heap.size := (by omega)); (try have he1wC : w.heap.size + 1 ≤ wC.heap.size := (by omega)))
  go_wp2_with fail
  refine bodyPost_ret (by simp [results, Try.results35, go_sem, *]; try rfl) rfl ?_
  exact ⟨rfl, by go_grown⟩

end Go.Proofs.Ytadlkmfgjmcgeab
