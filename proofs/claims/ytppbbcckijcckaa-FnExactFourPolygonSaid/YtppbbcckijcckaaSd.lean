/- Contracts: which surds there are, sums and products of surds, in the model and in the program. -/
import Derived.Test.YtppbbcckijcckaaPt2
import Derived.Test.YtppbbcckijcckaaSl
namespace Go.Proofs.Ytppbbcckijcckaa
open Go.ChangeShapes Go.WideShapes Go.ChangeAt Go.RowKit

def surdB (n s0 s1 : Int) : Bool := inB s0 (-n) n && inB s1 (-n) n

theorem isWithin_any (n m : Int) (hm : -9223372036854775807 ≤ m) (hm2 : m ≤ 9223372036854775807) (w : World) :
    Calls Try.prog 108 #[.int .i64 n, .int .i64 m] w fun e w' => e = .returned (.bool (inB n (-m) m)) ∧ w = w' := by
  go_enter Try.func108, Try.ntmps108
  go_wp2
  all_goals go_ret
  all_goals exact ⟨by first | (simp_all [inB]; done) | (simp [inB]; omega) | (simp_all [inB]; omega), rfl⟩

set_option maxRecDepth 100000 in
set_option maxHeartbeats 400000 in
theorem spSurd_any (s0 s1 : Int) (w : World) :
    Calls Try.prog 100 #[.agg #[.int .i64 s0, .int .i64 s1]] w fun e w' => e = .returned (.bool (surdB 1000000000000000 s0 s1)) ∧ Below w.heap.size w w' := by
  cases h0 : inB s0 (-1000000000000000) 1000000000000000 <;> cases h1 : inB s1 (-1000000000000000) 1000000000000000
  all_goals
    go_enter Try.func100, Try.ntmps100
    go_wp2_with (go_at_call 127; refine (l1In_any _ _ _ _).mono ?_; rintro e w' ⟨rfl, rfl⟩)
    go_returns
    exact ⟨by simp [surdB, h0, h1], by go_grown⟩

set_option maxRecDepth 100000 in
set_option maxHeartbeats 400000 in
theorem imWithin_any (s0 s1 : Int) (m : Int) (hm : -9223372036854775807 ≤ m) (hm2 : m ≤ 9223372036854775807) (w : World) :
    Calls Try.prog 151 #[.agg #[.int .i64 s0, .int .i64 s1], .int .i64 m] w fun e w' => e = .returned (.bool (surdB m s0 s1)) ∧ Below w.heap.size w w' := by
  cases h0 : inB s0 (-m) m <;> cases h1 : inB s1 (-m) m
  all_goals
    go_enter Try.func151, Try.ntmps151
    go_wp2_with (go_at_call 108; refine (isWithin_any _ _ hm hm2 _).mono ?_; rintro e w' ⟨rfl, rfl⟩)
    go_returns
    exact ⟨by simp [surdB, h0, h1], by go_grown⟩

set_option maxRecDepth 100000 in
set_option maxHeartbeats 400000 in
theorem imIsSurd_any (s0 s1 : Int) (w : World) :
    Calls Try.prog 118 #[.agg #[.int .i64 s0, .int .i64 s1]] w fun e w' => e = .returned (.bool (surdB 1000000000000000 s0 s1)) ∧ Below w.heap.size w w' := by
  go_enter Try.func118, Try.ntmps118
  go_wp2_with (go_at_call 151; refine (imWithin_any _ _ _ (by omega) (by omega) _).mono ?_; rintro e w1 ⟨rfl, h1⟩; have hB : Below w.heap.size w w1 := ba (by go_grown) h1; obtain ⟨hc1, hf1⟩ := bcell h1; have hq := h1.size; (try simp at hq); have hz0 : w.heap.size < w1.heap.size := (by omega); have HK1 := Lib.hid h1; clear h1 hq)
  go_returns
  exact ⟨rfl, by go_grown⟩

end Go.Proofs.Ytppbbcckijcckaa
