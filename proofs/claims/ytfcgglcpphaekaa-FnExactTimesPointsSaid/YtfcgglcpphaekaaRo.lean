/- Contracts: a point turned by one, two, three eighths, in the model. -/
import Derived.Test.YtfcgglcpphaekaaAr
namespace Go.Proofs.Ytfcgglcpphaekaa
open Go.ChangeShapes Go.WideShapes Go.ChangeAt Go.RowKit Go.Sort

set_option maxRecDepth 100000 in
set_option maxHeartbeats 400000 in
theorem spRot1 (p : Pn) (h : Bd 999999 p) (w : World) : Calls Try.prog 17 #[pv p, .int .i64 1] w fun e w' => e = .returned (pv p.rot) ∧ Below w.heap.size w w' := by
  have e : wrap64 (-p.d) = -p.d := w64p _ (by unfold Bd at h; omega) (by unfold Bd at h; omega)
  go_enter Try.func17, Try.ntmps17
  go_wp2_with fail
  refine wp_loop_rounds 2 ?_
  repeat any_goals (rw [rounds_succ]; go_wp2_with fail)
  all_goals go_returns
  all_goals exact ⟨by simp [Pn.rot, *], by go_grown⟩

set_option maxRecDepth 100000 in
set_option maxHeartbeats 400000 in
theorem spRot2 (p : Pn) (h : Bd 999999 p) (w : World) : Calls Try.prog 17 #[pv p, .int .i64 2] w fun e w' => e = .returned (pv p.rot.rot) ∧ Below w.heap.size w w' := by
  have e : wrap64 (-p.d) = -p.d := w64p _ (by unfold Bd at h; omega) (by unfold Bd at h; omega)
  have e2 : wrap64 (-p.c) = -p.c := w64p _ (by unfold Bd at h; omega) (by unfold Bd at h; omega)
  go_enter Try.func17, Try.ntmps17
  go_wp2_with fail
  refine wp_loop_rounds 3 ?_
  repeat any_goals (rw [rounds_succ]; go_wp2_with fail)
  all_goals go_returns
  all_goals exact ⟨by simp [Pn.rot, *], by go_grown⟩

set_option maxRecDepth 100000 in
set_option maxHeartbeats 400000 in
theorem spRot3 (p : Pn) (h : Bd 999999 p) (w : World) : Calls Try.prog 17 #[pv p, .int .i64 3] w fun e w' => e = .returned (pv p.rot.rot.rot) ∧ Below w.heap.size w w' := by
  have e : wrap64 (-p.d) = -p.d := w64p _ (by unfold Bd at h; omega) (by unfold Bd at h; omega)
  have e2 : wrap64 (-p.c) = -p.c := w64p _ (by unfold Bd at h; omega) (by unfold Bd at h; omega)
  have e3 : wrap64 (-p.b) = -p.b := w64p _ (by unfold Bd at h; omega) (by unfold Bd at h; omega)
  go_enter Try.func17, Try.ntmps17
  go_wp2_with fail
  refine wp_loop_rounds 4 ?_
  repeat any_goals (rw [rounds_succ]; go_wp2_with fail)
  all_goals go_returns
  all_goals exact ⟨by simp [Pn.rot, *], by go_grown⟩

end Go.Proofs.Ytfcgglcpphaekaa
