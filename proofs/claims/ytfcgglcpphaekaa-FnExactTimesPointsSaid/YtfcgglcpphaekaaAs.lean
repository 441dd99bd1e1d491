/- Contracts: mirrored points, products, twice the numbers, sides; in the model and in the program. -/
import Derived.Test.YtfcgglcpphaekaaRo
import Derived.Test.YtfcgglcpphaekaaSqJ
namespace Go.Proofs.Ytfcgglcpphaekaa
open Go.ChangeShapes Go.WideShapes Go.ChangeAt Go.RowKit Go.Sort

theorem t4_mul (p q : Pn) : (((Pn.scl q.a p).add (Pn.scl q.b p.rot)).add (Pn.scl q.c p.rot.rot)).add (Pn.scl q.d p.rot.rot.rot) = p.mul q := by
  apply Pn.ext' <;> simp only [Pn.add, Pn.scl, Pn.rot, Pn.mul] <;> grind

theorem scl_big {n : Int} {k : Int} {p : Pn} (h : Bd n p) (hk : -n ≤ k ∧ k ≤ n) : Bd (n * n) (Pn.scl k p) := Bd.scl_bd h hk.1 hk.2

set_option maxRecDepth 100000 in
set_option maxHeartbeats 800000 in
theorem spTimesP (p q : Pn) (hp : Bd 999999 p) (hq : Bd 999999 q) (w : World) :
    Calls Try.prog 10 #[pv p, pv q] w fun e w' => e = .returned (pv (p.mul q)) ∧ Below w.heap.size w w' := by
  have b1 : Bd 999998000001 (Pn.scl q.a p) := scl_big hp hq.A
  have c2 : Bd 999998000001 (Pn.scl q.b p.rot) := scl_big hp.rot_bd hq.B
  have c3 : Bd 999998000001 (Pn.scl q.c p.rot.rot) := scl_big hp.rot_bd.rot_bd hq.C
  have c4 : Bd 999998000001 (Pn.scl q.d p.rot.rot.rot) := scl_big hp.rot_bd.rot_bd.rot_bd hq.D
  have b2 := b1.add_bd c2
  have b3 := b2.add_bd c3
  have A2 := spAddQ _ _ (b1.mono (by omega)) (c2.mono (by omega))
  have A3 := spAddQ _ _ (b2.mono (by omega)) (c3.mono (by omega))
  have A4 := spAddQ _ _ (b3.mono (by omega)) (c4.mono (by omega))
  rw [← t4_mul]
  generalize ((Pn.scl q.a p).add (Pn.scl q.b p.rot)).add (Pn.scl q.c p.rot.rot) = x3 at *
  generalize (Pn.scl q.a p).add (Pn.scl q.b p.rot) = x2 at *
  go_enter Try.func10, Try.ntmps10
  go_wp2_with fail
  (go_at_call 15; (with_reducible refine (spScaleP p q.a 999999 hp hq.A (by omega) _).mono ?_); rintro e wA ⟨rfl, h1⟩; (try with_reducible replace h1 := undrew h1); have hB : Below w.heap.size w wA := ba (by go_grown) h1; obtain ⟨hcwA, hfwA⟩ := bcell h1; have hqwA := h1.size; (try simp at hqwA); (try have hz0wA : w.heap.size < wA.heap.size := (by omega)); (try have he0wA : w.heap.size ≤ wA.heap.size := (by omega)); (try have hz1wA : w.heap.size + 1 < wA.heap.size := (by omega)); (try have he1wA : w.heap.size + 1 ≤ wA.heap.size := (by omega)); (try have hz2wA : w.heap.size + 1 + 1 < wA.heap.size := (by omega)); (try have he2wA : w.heap.size + 1 + 1 ≤ wA.heap.size := (by omega)))
  go_wp2_with fail
  refine absW (F := fun W => (W.cell? ⟨w.heap.size, 0, none⟩ = some (.int .i64 (p).a) ∧ W.cell? ⟨w.heap.size, 1, none⟩ = some (.int .i64 (p).b) ∧ W.cell? ⟨w.heap.size, 2, none⟩ = some (.int .i64 (p).c) ∧ W.cell? ⟨w.heap.size, 3, none⟩ = some (.int .i64 (p).d)) ∧ (W.cell? ⟨w.heap.size + 1, 0, none⟩ = some (.int .i64 (q).a) ∧ W.cell? ⟨w.heap.size + 1, 1, none⟩ = some (.int .i64 (q).b) ∧ W.cell? ⟨w.heap.size + 1, 2, none⟩ = some (.int .i64 (q).c) ∧ W.cell? ⟨w.heap.size + 1, 3, none⟩ = some (.int .i64 (q).d)) ∧ (W.cell? ⟨wA.heap.size, 0, none⟩ = some (.int .i64 (Pn.scl q.a p).a) ∧ W.cell? ⟨wA.heap.size, 1, none⟩ = some (.int .i64 (Pn.scl q.a p).b) ∧ W.cell? ⟨wA.heap.size, 2, none⟩ = some (.int .i64 (Pn.scl q.a p).c) ∧ W.cell? ⟨wA.heap.size, 3, none⟩ = some (.int .i64 (Pn.scl q.a p).d)) ∧ (∀ i, W.frozen? ⟨w.heap.size + 1 + 1, i, none⟩ = false) ∧ (W.cell? ⟨w.heap.size + 1 + 1, 0, none⟩ = some (.int .i64 0) ∧ W.cell? ⟨w.heap.size + 1 + 1, 1, none⟩ = some (.int .i64 0) ∧ W.cell? ⟨w.heap.size + 1 + 1, 2, none⟩ = some (.int .i64 0) ∧ W.cell? ⟨w.heap.size + 1 + 1, 3, none⟩ = some (.int .i64 0)) ∧ (∀ i, W.frozen? ⟨wA.heap.size, i, none⟩ = false) ∧ (wA.heap.size < W.heap.size) ∧ Below w.heap.size w W) ⟨⟨by go_simp, by go_simp, by go_simp, by go_simp⟩, ⟨by go_simp, by go_simp, by go_simp, by go_simp⟩, ⟨by go_simp, by go_simp, by go_simp, by go_simp⟩, fun i => by go_simp, ⟨by go_simp, by go_simp, by go_simp, by go_simp⟩, fun i => by go_simp, by simp, by go_grown⟩ ?_
  rintro W ⟨⟨c0_0, c0_1, c0_2, c0_3⟩, ⟨c1_0, c1_1, c1_2, c1_3⟩, ⟨cO_0, cO_1, cO_2, cO_3⟩, fr2, ⟨z20, z21, z22, z23⟩, frO, hz, HB⟩
  have k0_0 := fun d os => cell_regrown c0_0 d os
  have k0_1 := fun d os => cell_regrown c0_1 d os
  have k0_2 := fun d os => cell_regrown c0_2 d os
  have k0_3 := fun d os => cell_regrown c0_3 d os
  have k1_0 := fun d os => cell_regrown c1_0 d os
  have k1_1 := fun d os => cell_regrown c1_1 d os
  have k1_2 := fun d os => cell_regrown c1_2 d os
  have k1_3 := fun d os => cell_regrown c1_3 d os
  have kO_0 := fun d os => cell_regrown cO_0 d os
  have kO_1 := fun d os => cell_regrown cO_1 d os
  have kO_2 := fun d os => cell_regrown cO_2 d os
  have kO_3 := fun d os => cell_regrown cO_3 d os
  have z0W : w.heap.size < W.heap.size := by omega
  have z1W : w.heap.size + 1 < W.heap.size := by omega
  have z2W : w.heap.size + 1 + 1 < W.heap.size := by omega
  refine region_below_tail 7 (by kernel_rfl) (by kernel_rfl) ?_
  simp only [List.take_succ_cons, List.take_zero, List.drop_succ_cons, List.drop_zero]
  repeat (quiet_step (first | (go_at_call 17; with_reducible exact Calls.regrown_of (spRot1 p hp _)) | (go_at_call 15; with_reducible exact Calls.regrown_of (spScaleP p.rot q.b 999999 hp.rot_bd hq.B (by omega) _)) | (go_at_call 16; with_reducible exact Calls.regrown_of (A2 _))))
  refine wpQuiet_nil ?_
  rintro _ ⟨⟨dq, osq⟩, rfl⟩
  have hbw1 := below_regrown W dq osq
  generalize grow (redrawn W dq) osq = w1 at hbw1 ⊢
  obtain ⟨hcw1, hfw1⟩ := bcell hbw1
  have hlw1 := hbw1.size
  replace HB := ba HB hbw1
  go_wp2_with fail
  refine absW (F := fun X => (X.cell? ⟨w.heap.size, 0, none⟩ = some (.int .i64 (p).a) ∧ X.cell? ⟨w.heap.size, 1, none⟩ = some (.int .i64 (p).b) ∧ X.cell? ⟨w.heap.size, 2, none⟩ = some (.int .i64 (p).c) ∧ X.cell? ⟨w.heap.size, 3, none⟩ = some (.int .i64 (p).d)) ∧ (X.cell? ⟨w.heap.size + 1, 0, none⟩ = some (.int .i64 (q).a) ∧ X.cell? ⟨w.heap.size + 1, 1, none⟩ = some (.int .i64 (q).b) ∧ X.cell? ⟨w.heap.size + 1, 2, none⟩ = some (.int .i64 (q).c) ∧ X.cell? ⟨w.heap.size + 1, 3, none⟩ = some (.int .i64 (q).d)) ∧ (X.cell? ⟨wA.heap.size, 0, none⟩ = some (.int .i64 (x2).a) ∧ X.cell? ⟨wA.heap.size, 1, none⟩ = some (.int .i64 (x2).b) ∧ X.cell? ⟨wA.heap.size, 2, none⟩ = some (.int .i64 (x2).c) ∧ X.cell? ⟨wA.heap.size, 3, none⟩ = some (.int .i64 (x2).d)) ∧ (∀ i, X.frozen? ⟨w.heap.size + 1 + 1, i, none⟩ = false) ∧ (X.cell? ⟨w.heap.size + 1 + 1, 0, none⟩ = some (.int .i64 0) ∧ X.cell? ⟨w.heap.size + 1 + 1, 1, none⟩ = some (.int .i64 0) ∧ X.cell? ⟨w.heap.size + 1 + 1, 2, none⟩ = some (.int .i64 0) ∧ X.cell? ⟨w.heap.size + 1 + 1, 3, none⟩ = some (.int .i64 0)) ∧ (∀ i, X.frozen? ⟨wA.heap.size, i, none⟩ = false) ∧ (wA.heap.size < X.heap.size) ∧ Below w.heap.size w X) ⟨⟨by go_simp, by go_simp, by go_simp, by go_simp⟩, ⟨by go_simp, by go_simp, by go_simp, by go_simp⟩, ⟨by go_simp, by go_simp, by go_simp, by go_simp⟩, fun i => by go_simp, ⟨by go_simp, by go_simp, by go_simp, by go_simp⟩, fun i => by go_simp, by simp; omega, by go_grown⟩ ?_
  rintro X ⟨⟨c0_0, c0_1, c0_2, c0_3⟩, ⟨c1_0, c1_1, c1_2, c1_3⟩, ⟨cO_0, cO_1, cO_2, cO_3⟩, fr2, ⟨z20, z21, z22, z23⟩, frO, hzX, HB⟩
  have k0_0 := fun d os => cell_regrown c0_0 d os
  have k0_1 := fun d os => cell_regrown c0_1 d os
  have k0_2 := fun d os => cell_regrown c0_2 d os
  have k0_3 := fun d os => cell_regrown c0_3 d os
  have k1_0 := fun d os => cell_regrown c1_0 d os
  have k1_1 := fun d os => cell_regrown c1_1 d os
  have k1_2 := fun d os => cell_regrown c1_2 d os
  have k1_3 := fun d os => cell_regrown c1_3 d os
  have kO_0 := fun d os => cell_regrown cO_0 d os
  have kO_1 := fun d os => cell_regrown cO_1 d os
  have kO_2 := fun d os => cell_regrown cO_2 d os
  have kO_3 := fun d os => cell_regrown cO_3 d os
  have z0X : w.heap.size < X.heap.size := by omega
  have z1X : w.heap.size + 1 < X.heap.size := by omega
  have z2X : w.heap.size + 1 + 1 < X.heap.size := by omega
  refine region_below_tail 7 (by kernel_rfl) (by kernel_rfl) ?_
  simp only [List.take_succ_cons, List.take_zero, List.drop_succ_cons, List.drop_zero]
  repeat (quiet_step (first | (go_at_call 17; with_reducible exact Calls.regrown_of (spRot2 p hp _)) | (go_at_call 15; with_reducible exact Calls.regrown_of (spScaleP p.rot.rot q.c 999999 hp.rot_bd.rot_bd hq.C (by omega) _)) | (go_at_call 16; with_reducible exact Calls.regrown_of (A3 _))))
  refine wpQuiet_nil ?_
  rintro _ ⟨⟨dq, osq⟩, rfl⟩
  have hbw2 := below_regrown X dq osq
  generalize grow (redrawn X dq) osq = w2 at hbw2 ⊢
  obtain ⟨hcw2, hfw2⟩ := bcell hbw2
  have hlw2 := hbw2.size
  replace HB := ba HB hbw2
  go_wp2_with fail
  refine absW (F := fun Y => (Y.cell? ⟨w.heap.size, 0, none⟩ = some (.int .i64 (p).a) ∧ Y.cell? ⟨w.heap.size, 1, none⟩ = some (.int .i64 (p).b) ∧ Y.cell? ⟨w.heap.size, 2, none⟩ = some (.int .i64 (p).c) ∧ Y.cell? ⟨w.heap.size, 3, none⟩ = some (.int .i64 (p).d)) ∧ (Y.cell? ⟨w.heap.size + 1, 0, none⟩ = some (.int .i64 (q).a) ∧ Y.cell? ⟨w.heap.size + 1, 1, none⟩ = some (.int .i64 (q).b) ∧ Y.cell? ⟨w.heap.size + 1, 2, none⟩ = some (.int .i64 (q).c) ∧ Y.cell? ⟨w.heap.size + 1, 3, none⟩ = some (.int .i64 (q).d)) ∧ (Y.cell? ⟨wA.heap.size, 0, none⟩ = some (.int .i64 (x3).a) ∧ Y.cell? ⟨wA.heap.size, 1, none⟩ = some (.int .i64 (x3).b) ∧ Y.cell? ⟨wA.heap.size, 2, none⟩ = some (.int .i64 (x3).c) ∧ Y.cell? ⟨wA.heap.size, 3, none⟩ = some (.int .i64 (x3).d)) ∧ (∀ i, Y.frozen? ⟨w.heap.size + 1 + 1, i, none⟩ = false) ∧ (Y.cell? ⟨w.heap.size + 1 + 1, 0, none⟩ = some (.int .i64 0) ∧ Y.cell? ⟨w.heap.size + 1 + 1, 1, none⟩ = some (.int .i64 0) ∧ Y.cell? ⟨w.heap.size + 1 + 1, 2, none⟩ = some (.int .i64 0) ∧ Y.cell? ⟨w.heap.size + 1 + 1, 3, none⟩ = some (.int .i64 0)) ∧ (∀ i, Y.frozen? ⟨wA.heap.size, i, none⟩ = false) ∧ (wA.heap.size < Y.heap.size) ∧ Below w.heap.size w Y) ⟨⟨by go_simp, by go_simp, by go_simp, by go_simp⟩, ⟨by go_simp, by go_simp, by go_simp, by go_simp⟩, ⟨by go_simp, by go_simp, by go_simp, by go_simp⟩, fun i => by go_simp, ⟨by go_simp, by go_simp, by go_simp, by go_simp⟩, fun i => by go_simp, by simp; omega, by go_grown⟩ ?_
  rintro Y ⟨⟨c0_0, c0_1, c0_2, c0_3⟩, ⟨c1_0, c1_1, c1_2, c1_3⟩, ⟨cO_0, cO_1, cO_2, cO_3⟩, fr2, ⟨z20, z21, z22, z23⟩, frO, hzY, HB⟩
  have k0_0 := fun d os => cell_regrown c0_0 d os
  have k0_1 := fun d os => cell_regrown c0_1 d os
  have k0_2 := fun d os => cell_regrown c0_2 d os
  have k0_3 := fun d os => cell_regrown c0_3 d os
  have k1_0 := fun d os => cell_regrown c1_0 d os
  have k1_1 := fun d os => cell_regrown c1_1 d os
  have k1_2 := fun d os => cell_regrown c1_2 d os
  have k1_3 := fun d os => cell_regrown c1_3 d os
  have kO_0 := fun d os => cell_regrown cO_0 d os
  have kO_1 := fun d os => cell_regrown cO_1 d os
  have kO_2 := fun d os => cell_regrown cO_2 d os
  have kO_3 := fun d os => cell_regrown cO_3 d os
  have z0Y : w.heap.size < Y.heap.size := by omega
  have z1Y : w.heap.size + 1 < Y.heap.size := by omega
  have z2Y : w.heap.size + 1 + 1 < Y.heap.size := by omega
  refine region_below_tail 7 (by kernel_rfl) (by kernel_rfl) ?_
  simp only [List.take_succ_cons, List.take_zero, List.drop_succ_cons, List.drop_zero]
  repeat (quiet_step (first | (go_at_call 17; with_reducible exact Calls.regrown_of (spRot3 p hp _)) | (go_at_call 15; with_reducible exact Calls.regrown_of (spScaleP p.rot.rot.rot q.d 999999 hp.rot_bd.rot_bd.rot_bd hq.D (by omega) _)) | (go_at_call 16; with_reducible exact Calls.regrown_of (A4 _))))
  refine wpQuiet_nil ?_
  rintro _ ⟨⟨dq, osq⟩, rfl⟩
  have hbw3 := below_regrown Y dq osq
  generalize grow (redrawn Y dq) osq = w3 at hbw3 ⊢
  obtain ⟨hcw3, hfw3⟩ := bcell hbw3
  have hlw3 := hbw3.size
  replace HB := ba HB hbw3
  go_wp2_with fail
  refine bodyPost_ret (by simp [results, Try.results10, go_sem, *]; try rfl) rfl ?_
  exact ⟨rfl, by go_grown⟩

end Go.Proofs.Ytfcgglcpphaekaa
