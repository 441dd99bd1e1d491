/- Contracts: turned points and powers, in the model and in the program. -/
import Derived.Test.YtdafomfpchlhpaaDoorPt3
namespace Go.Proofs.YtdafomfpchlhpaaDoor
open Go.ChangeShapes Go.WideShapes Go.ChangeAt Go.RowKit

def tu0 (k : Int) (a0 a1 a2 a3 : Int) : Int := if k = 0 then a0 else if k = 1 then -a3 else if k = 2 then -a2 else if k = 3 then -a1 else if k = 4 then -a0 else if k = 5 then a3 else if k = 6 then a2 else a1

def tu1 (k : Int) (a0 a1 a2 a3 : Int) : Int := if k = 0 then a1 else if k = 1 then a0 else if k = 2 then -a3 else if k = 3 then -a2 else if k = 4 then -a1 else if k = 5 then -a0 else if k = 6 then a3 else a2

def tu2 (k : Int) (a0 a1 a2 a3 : Int) : Int := if k = 0 then a2 else if k = 1 then a1 else if k = 2 then a0 else if k = 3 then -a3 else if k = 4 then -a2 else if k = 5 then -a1 else if k = 6 then -a0 else a3

def tu3 (k : Int) (a0 a1 a2 a3 : Int) : Int := if k = 0 then a3 else if k = 1 then a2 else if k = 2 then a1 else if k = 3 then a0 else if k = 4 then -a3 else if k = 5 then -a2 else if k = 6 then -a1 else -a0

theorem good_bd (a0 a1 a2 a3 : Int) (h : goodB a0 a1 a2 a3 = true) : -999999 ≤ a0 ∧ a0 ≤ 999999 ∧ -999999 ≤ a1 ∧ a1 ≤ 999999 ∧ -999999 ≤ a2 ∧ a2 ≤ 999999 ∧ -999999 ≤ a3 ∧ a3 ≤ 999999 := by
  simpa [goodB] using h

theorem in_bd {n lo hi : Int} (h : inB n lo hi = true) : lo ≤ n ∧ n ≤ hi := by simpa [inB] using h

theorem eight (k : Int) (h0 : 0 ≤ k) (h7 : k ≤ 7) : k = 0 ∨ k = 1 ∨ k = 2 ∨ k = 3 ∨ k = 4 ∨ k = 5 ∨ k = 6 ∨ k = 7 := by omega

set_option maxRecDepth 100000 in
set_option maxHeartbeats 1600000 in
theorem ptTurn_any (a0 a1 a2 a3 : Int) (k : Int) (p0 : -999999 ≤ a0) (q0 : a0 ≤ 999999) (p1 : -999999 ≤ a1) (q1 : a1 ≤ 999999) (p2 : -999999 ≤ a2) (q2 : a2 ≤ 999999) (p3 : -999999 ≤ a3) (q3 : a3 ≤ 999999) (h0 : 0 ≤ k) (h7 : k ≤ 7) (w : World) :
    Calls Tryd.prog 159 #[.agg #[.int .i64 a0, .int .i64 a1, .int .i64 a2, .int .i64 a3], .int .i64 k] w fun e w' => e = .returned (.agg #[.int .i64 (tu0 k a0 a1 a2 a3), .int .i64 (tu1 k a0 a1 a2 a3), .int .i64 (tu2 k a0 a1 a2 a3), .int .i64 (tu3 k a0 a1 a2 a3)]) ∧ Below w.heap.size w w' := by
  rcases eight k h0 h7 with rfl | rfl | rfl | rfl | rfl | rfl | rfl | rfl
  all_goals
    go_enter Tryd.func159, Tryd.ntmps159
    go_wp2_with fail
    refine wp_loop_rounds 9 ?_
    repeat any_goals (rw [rounds_succ]; go_wp2)
    go_returns
    exact ⟨by simp [tu0, tu1, tu2, tu3], by go_grown⟩

set_option maxRecDepth 100000 in
set_option maxHeartbeats 1600000 in
theorem power_any (k : Int) (h0 : 0 ≤ k) (h7 : k ≤ 7) (w : World) :
    Calls Tryd.prog 125 #[.int .i64 k] w fun e w' => e = .returned (.agg #[.int .i64 (tu0 k 1 0 0 0), .int .i64 (tu1 k 1 0 0 0), .int .i64 (tu2 k 1 0 0 0), .int .i64 (tu3 k 1 0 0 0)]) ∧ Below w.heap.size w w' := by
  rcases eight k h0 h7 with rfl | rfl | rfl | rfl | rfl | rfl | rfl | rfl
  all_goals
    go_enter Tryd.func125, Tryd.ntmps125
    go_wp2
    go_returns
    exact ⟨by simp [tu0, tu1, tu2, tu3], by go_grown⟩

set_option maxRecDepth 100000 in
theorem ptHeading_any (h : Int) (h0 : 0 ≤ h) (h1 : h ≤ 1000) (w : World) :
    Calls Tryd.prog 146 #[.int .i64 h] w fun e w' => e = .returned (.agg #[.int .i64 (tu0 (h % 8) 1 0 0 0), .int .i64 (tu1 (h % 8) 1 0 0 0), .int .i64 (tu2 (h % 8) 1 0 0 0), .int .i64 (tu3 (h % 8) 1 0 0 0)]) ∧ Below w.heap.size w w' := by
  have m0 : 0 ≤ h % 8 := by omega
  have m7 : h % 8 ≤ 7 := by omega
  go_enter Tryd.func146, Tryd.ntmps146
  go_wp2_with fail
  (go_at_call 159; (with_reducible refine (ptTurn_any 1 0 0 0 (h % 8) (by omega) (by omega) (by omega) (by omega) (by omega) (by omega) (by omega) (by omega) m0 m7 _).mono ?_); rintro e wA ⟨rfl, h1⟩; (try with_reducible replace h1 := undrew h1); have hB : Below w.heap.size w wA := ba (by go_grown) h1; obtain ⟨hcwA, hfwA⟩ := bcell h1; have hqwA := h1.size; (try simp at hqwA); )
  go_wp2_with fail
  refine bodyPost_ret (by simp [results, Tryd.results146, go_sem, *]; try rfl) rfl ?_
  exact ⟨rfl, by go_grown⟩

end Go.Proofs.YtdafomfpchlhpaaDoor
