/- Contracts: sums and products of surds, in the model and in the program. -/
import Derived.Test.YtppbbcckijcckaaSd
namespace Go.Proofs.Ytppbbcckijcckaa
open Go.ChangeShapes Go.WideShapes Go.ChangeAt Go.RowKit

set_option maxRecDepth 100000 in
set_option maxHeartbeats 400000 in
theorem spSum_any (s0 s1 : Int) (t0 t1 : Int) (w : World) :
    Calls Try.prog 69 #[.agg #[.int .i64 s0, .int .i64 s1], .agg #[.int .i64 t0, .int .i64 t1]] w fun e w' => e = .returned (.agg #[.int .i64 (wrap64 (s0 + t0)), .int .i64 (wrap64 (s1 + t1))]) ∧ Below w.heap.size w w' := by
  go_enter Try.func69, Try.ntmps69
  go_wp2
  go_returns
  exact ⟨rfl, by go_grown⟩

def asG (s0 s1 t0 t1 : Int) : Bool := surdB 1000000000000000 s0 s1 && (surdB 1000000000000000 t0 t1 && surdB 1000000000000000 (wrap64 (s0 + t0)) (wrap64 (s1 + t1)))

def tsG (s0 s1 t0 t1 : Int) : Bool := surdB 1000000 s0 s1 && surdB 1000000 t0 t1

set_option maxRecDepth 100000 in
theorem imSPlus_any (s0 s1 : Int) (t0 t1 : Int) (w : World) :
    Calls Try.prog 119 #[.agg #[.int .i64 s0, .int .i64 s1], .agg #[.int .i64 t0, .int .i64 t1]] w fun e w' => e = .returned (.agg #[.int .i64 (wrap64 (s0 + t0)), .int .i64 (wrap64 (s1 + t1))]) ∧ Below w.heap.size w w' := by
  go_enter Try.func119, Try.ntmps119
  go_wp2
  go_returns
  exact ⟨rfl, by go_grown⟩

set_option maxRecDepth 100000 in
theorem imOnlySurd_any (s0 s1 : Int) (w : World) :
    Calls Try.prog 65 #[.agg #[.int .i64 s0, .int .i64 s1]] w fun e w' => e = .returned (.tuple #[.agg #[.int .i64 (sel (surdB 1000000000000000 s0 s1) s0), .int .i64 (sel (surdB 1000000000000000 s0 s1) s1)], .bool (surdB 1000000000000000 s0 s1)]) ∧ Below w.heap.size w w' := by
  cases hg : surdB 1000000000000000 s0 s1
  all_goals
    go_enter Try.func65, Try.ntmps65
    go_wp2_with (go_at_call 118; refine (imIsSurd_any _ _ _).mono ?_; rintro e w1 ⟨rfl, h1⟩; have hB : Below w.heap.size w w1 := ba (by go_grown) h1; obtain ⟨hc1, hf1⟩ := bcell h1; have hq := h1.size; (try simp at hq); have hz0 : w.heap.size < w1.heap.size := (by omega); have hz1 : w.heap.size + 1 < w1.heap.size := (by omega); have HK1 := Lib.hid h1; clear h1 hq)
    refine bodyPost_ret (by simp [results, Try.results65, go_sem, *]; try rfl) rfl ?_
    exact ⟨by simp [sel], by go_grown⟩

end Go.Proofs.Ytppbbcckijcckaa
