/- Contracts: sides, in the model and in the program. -/
import Derived.Test.YtppbbcckijcckaaAt
namespace Go.Proofs.Ytppbbcckijcckaa
open Go.ChangeShapes Go.WideShapes Go.ChangeAt Go.RowKit Go.Sort

set_option maxRecDepth 100000 in
theorem arSideP (p q r : Pn) (hp : Bd 100000 p) (hq : Bd 100000 q) (hr : Bd 100000 r) (w : World) :
    Calls Try.prog 54 #[pv p, pv q, pv r] w fun e w' => e = .returned (.int .i64 (Pn.sd p q r)) ∧ Below w.heap.size w w' := by
  rw [← cx_cr]
  go_enter Try.func54, Try.ntmps54
  go_wp2_with fail
  refine absW (F := fun W => (W.cell? ⟨w.heap.size, 0, none⟩ = some (.int .i64 (p).a) ∧ W.cell? ⟨w.heap.size, 1, none⟩ = some (.int .i64 (p).b) ∧ W.cell? ⟨w.heap.size, 2, none⟩ = some (.int .i64 (p).c) ∧ W.cell? ⟨w.heap.size, 3, none⟩ = some (.int .i64 (p).d)) ∧ (W.cell? ⟨w.heap.size + 1, 0, none⟩ = some (.int .i64 (q).a) ∧ W.cell? ⟨w.heap.size + 1, 1, none⟩ = some (.int .i64 (q).b) ∧ W.cell? ⟨w.heap.size + 1, 2, none⟩ = some (.int .i64 (q).c) ∧ W.cell? ⟨w.heap.size + 1, 3, none⟩ = some (.int .i64 (q).d)) ∧ (W.cell? ⟨w.heap.size + 1 + 1, 0, none⟩ = some (.int .i64 (r).a) ∧ W.cell? ⟨w.heap.size + 1 + 1, 1, none⟩ = some (.int .i64 (r).b) ∧ W.cell? ⟨w.heap.size + 1 + 1, 2, none⟩ = some (.int .i64 (r).c) ∧ W.cell? ⟨w.heap.size + 1 + 1, 3, none⟩ = some (.int .i64 (r).d)) ∧ Below w.heap.size w W ∧ W.heap.size = w.heap.size + 1 + 1 + 1) ⟨⟨by go_simp, by go_simp, by go_simp, by go_simp⟩, ⟨by go_simp, by go_simp, by go_simp, by go_simp⟩, ⟨by go_simp, by go_simp, by go_simp, by go_simp⟩, by go_grown, by first | (simp; done) | (simp; omega)⟩ ?_
  rintro W ⟨⟨c0_0, c0_1, c0_2, c0_3⟩, ⟨c1_0, c1_1, c1_2, c1_3⟩, ⟨c2_0, c2_1, c2_2, c2_3⟩, HB, hz⟩
  have k0_0 := fun d os => cell_regrown c0_0 d os
  have k0_1 := fun d os => cell_regrown c0_1 d os
  have k0_2 := fun d os => cell_regrown c0_2 d os
  have k0_3 := fun d os => cell_regrown c0_3 d os
  have k1_0 := fun d os => cell_regrown c1_0 d os
  have k1_1 := fun d os => cell_regrown c1_1 d os
  have k1_2 := fun d os => cell_regrown c1_2 d os
  have k1_3 := fun d os => cell_regrown c1_3 d os
  have k2_0 := fun d os => cell_regrown c2_0 d os
  have k2_1 := fun d os => cell_regrown c2_1 d os
  have k2_2 := fun d os => cell_regrown c2_2 d os
  have k2_3 := fun d os => cell_regrown c2_3 d os
  refine wp_region_quiet_below (by kernel_rfl) (by kernel_rfl) ?_
  repeat (quiet_step (first | (go_at_call 96; with_reducible exact Calls.regrown_of (spLessP q p (hq.mono (by omega)) (hp.mono (by omega)) _)) | (go_at_call 96; with_reducible exact Calls.regrown_of (spLessP r p (hr.mono (by omega)) (hp.mono (by omega)) _)) | (go_at_call 107; with_reducible exact Calls.regrown_of (arCrossP (q.sub p) (r.sub p) (hq.sub2 hp) (hr.sub2 hp) _)) | (go_at_call 106; with_reducible exact Calls.regrown_of (spSignP ((q.sub p).cx (r.sub p)) ((cx_bd (hq.sub2 hp) (hr.sub2 hp)).mono (by omega)) _))))
  refine wpQuiet_nil ?_
  rintro _ ⟨⟨dq, osq⟩, rfl⟩
  have hbw1 := below_regrown W dq osq
  generalize grow (redrawn W dq) osq = w1 at hbw1 ⊢
  obtain ⟨hcw1, hfw1⟩ := bcell hbw1
  have hlw1 := hbw1.size
  replace HB := ba HB hbw1
  go_wp2_with fail
  go_returns
  exact ⟨rfl, by go_grown⟩

set_option maxRecDepth 100000 in
theorem sideP (p q r : Pn) (hp : Bd 100000 p) (hq : Bd 100000 q) (hr : Bd 100000 r) (w : World) :
    Calls Try.prog 56 #[tv p q r] w fun e w' => e = .returned (.int .i64 (Pn.sd p q r)) ∧ Below w.heap.size w w' := by
  rw [← cx_cr]
  go_enter Try.func56, Try.ntmps56
  go_wp2_with fail
  refine absW (F := fun W => (W.cell? ⟨w.heap.size, 0, none⟩ = some (.int .i64 (p).a) ∧ W.cell? ⟨w.heap.size, 1, none⟩ = some (.int .i64 (p).b) ∧ W.cell? ⟨w.heap.size, 2, none⟩ = some (.int .i64 (p).c) ∧ W.cell? ⟨w.heap.size, 3, none⟩ = some (.int .i64 (p).d)) ∧ (W.cell? ⟨w.heap.size, 4, none⟩ = some (.int .i64 (q).a) ∧ W.cell? ⟨w.heap.size, 5, none⟩ = some (.int .i64 (q).b) ∧ W.cell? ⟨w.heap.size, 6, none⟩ = some (.int .i64 (q).c) ∧ W.cell? ⟨w.heap.size, 7, none⟩ = some (.int .i64 (q).d)) ∧ (W.cell? ⟨w.heap.size, 8, none⟩ = some (.int .i64 (r).a) ∧ W.cell? ⟨w.heap.size, 9, none⟩ = some (.int .i64 (r).b) ∧ W.cell? ⟨w.heap.size, 10, none⟩ = some (.int .i64 (r).c) ∧ W.cell? ⟨w.heap.size, 11, none⟩ = some (.int .i64 (r).d)) ∧ Below w.heap.size w W ∧ W.heap.size = w.heap.size + 1) ⟨⟨by go_simp, by go_simp, by go_simp, by go_simp⟩, ⟨by go_simp, by go_simp, by go_simp, by go_simp⟩, ⟨by go_simp, by go_simp, by go_simp, by go_simp⟩, by go_grown, by first | (simp; done) | (simp; omega)⟩ ?_
  rintro W ⟨⟨c0_0, c0_1, c0_2, c0_3⟩, ⟨c0_4, c0_5, c0_6, c0_7⟩, ⟨c0_8, c0_9, c0_10, c0_11⟩, HB, hz⟩
  have k0_0 := fun d os => cell_regrown c0_0 d os
  have k0_1 := fun d os => cell_regrown c0_1 d os
  have k0_2 := fun d os => cell_regrown c0_2 d os
  have k0_3 := fun d os => cell_regrown c0_3 d os
  have k0_4 := fun d os => cell_regrown c0_4 d os
  have k0_5 := fun d os => cell_regrown c0_5 d os
  have k0_6 := fun d os => cell_regrown c0_6 d os
  have k0_7 := fun d os => cell_regrown c0_7 d os
  have k0_8 := fun d os => cell_regrown c0_8 d os
  have k0_9 := fun d os => cell_regrown c0_9 d os
  have k0_10 := fun d os => cell_regrown c0_10 d os
  have k0_11 := fun d os => cell_regrown c0_11 d os
  refine wp_region_quiet_below (by kernel_rfl) (by kernel_rfl) ?_
  repeat (quiet_step (first | (go_at_call 110; with_reducible exact Calls.regrown_of (imLessP q p (hq.mono (by omega)) (hp.mono (by omega)) _)) | (go_at_call 110; with_reducible exact Calls.regrown_of (imLessP r p (hr.mono (by omega)) (hp.mono (by omega)) _)) | (go_at_call 109; with_reducible exact Calls.regrown_of (twiceCrossP (q.sub p) (r.sub p) (hq.sub2 hp) (hr.sub2 hp) _)) | (go_at_call 111; with_reducible exact Calls.regrown_of (imSignP ((q.sub p).cx (r.sub p)) ((cx_bd (hq.sub2 hp) (hr.sub2 hp)).mono (by omega)) _))))
  refine wpQuiet_nil ?_
  rintro _ ⟨⟨dq, osq⟩, rfl⟩
  have hbw1 := below_regrown W dq osq
  generalize grow (redrawn W dq) osq = w1 at hbw1 ⊢
  obtain ⟨hcw1, hfw1⟩ := bcell hbw1
  have hlw1 := hbw1.size
  replace HB := ba HB hbw1
  go_wp2_with fail
  go_returns
  exact ⟨rfl, by go_grown⟩

end Go.Proofs.Ytppbbcckijcckaa
