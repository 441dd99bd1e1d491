/- Contracts: mirrored points, twice the numbers, products and sides; in the model and in the program. -/
import Derived.Test.YtppbbcckijcckaaAs
import Derived.Test.YtppbbcckijcckaaSqJ
namespace Go.Proofs.Ytppbbcckijcckaa
open Go.ChangeShapes Go.WideShapes Go.ChangeAt Go.RowKit Go.Sort

/-- Twice the cross product, as surds tell it. -/
def Pn.cx (p q : Pn) : Su := (p.mir.mul q).ty

def Pn.dx (p q : Pn) : Su := (p.mir.mul q).tx

theorem cx_cr (p q r : Pn) : ((q.sub p).cx (r.sub p)).sn = Pn.sd p q r := by
  have e : Ve.cr (Pn.vec p q) (Pn.vec p r) = (⟨2, 0⟩ : Su) * (q.sub p).cx (r.sub p) := by
    apply Su.ext' <;> simp only [Ve.cr, Pn.vec, Pn.cx, Pn.sub, Pn.mir, Pn.mul, Pn.ty, Su.mul_x, Su.mul_r, Su.sub_x, Su.sub_r] <;> grind
  unfold Pn.sd
  rw [e, Su.sn_mul, show (⟨2, 0⟩ : Su).sn = 1 from rfl, Int.one_mul]

theorem dx_dn (a b q : Pn) : ((a.sub q).dx (b.sub q)).sn = Pn.dn q a b := by
  have e : Ve.dt (Pn.vec q a) (Pn.vec q b) = (⟨2, 0⟩ : Su) * (a.sub q).dx (b.sub q) := by
    apply Su.ext' <;> simp only [Ve.dt, Pn.vec, Pn.dx, Pn.sub, Pn.mir, Pn.mul, Pn.tx, Su.mul_x, Su.mul_r, Su.add_x, Su.add_r] <;> grind
  unfold Pn.dn
  rw [e, Su.sn_mul, show (⟨2, 0⟩ : Su).sn = 1 from rfl, Int.one_mul]

theorem Bd.mul_bd {p q : Pn} (h : Bd 200000 p) (k : Bd 200000 q) : Bd 160000000000 (p.mul q) := by
  have m := fun (x y : Int) (hx : -200000 ≤ x ∧ x ≤ 200000) (hy : -200000 ≤ y ∧ y ≤ 200000) => mulb (n := 200000) (a := x) (b := y) hx.1 hx.2 hy.1 hy.2
  have aa := m _ _ h.A k.A; have ab := m _ _ h.A k.B; have ac := m _ _ h.A k.C; have ad := m _ _ h.A k.D
  have ba := m _ _ h.B k.A; have bb := m _ _ h.B k.B; have bc := m _ _ h.B k.C; have bd := m _ _ h.B k.D
  have ca := m _ _ h.C k.A; have cb := m _ _ h.C k.B; have cc := m _ _ h.C k.C; have cd := m _ _ h.C k.D
  have da := m _ _ h.D k.A; have db := m _ _ h.D k.B; have dc := m _ _ h.D k.C; have dd := m _ _ h.D k.D
  unfold Bd Pn.mul
  simp only
  omega

theorem Bd.tx_bd {n : Int} {p : Pn} (h : Bd n p) : Bs (2 * n) p.tx := by unfold Bd Bs Pn.tx at *; simp only; omega

theorem Bd.ty_bd {n : Int} {p : Pn} (h : Bd n p) : Bs (2 * n) p.ty := by unfold Bd Bs Pn.ty at *; simp only; omega

theorem cx_bd {p q : Pn} (h : Bd 200000 p) (k : Bd 200000 q) : Bs 320000000000 (p.cx q) := (h.mir_bd.mul_bd k).ty_bd

theorem dx_bd {p q : Pn} (h : Bd 200000 p) (k : Bd 200000 q) : Bs 320000000000 (p.dx q) := (h.mir_bd.mul_bd k).tx_bd

set_option maxRecDepth 100000 in
theorem spMirP (p : Pn) (h : Bd 999999 p) (w : World) : Calls Try.prog 148 #[pv p] w fun e w' => e = .returned (pv p.mir) ∧ Below w.heap.size w w' := by
  have e1 := w64p (-p.d) (by unfold Bd at h; omega) (by unfold Bd at h; omega)
  have e2 := w64p (-p.c) (by unfold Bd at h; omega) (by unfold Bd at h; omega)
  have e3 := w64p (-p.b) (by unfold Bd at h; omega) (by unfold Bd at h; omega)
  go_enter Try.func148, Try.ntmps148
  go_wp2
  go_returns
  exact ⟨by simp [Pn.mir, *], by go_grown⟩

set_option maxRecDepth 100000 in
theorem imMirP (p : Pn) (h : Bd 999999 p) (w : World) : Calls Try.prog 140 #[pv p] w fun e w' => e = .returned (pv p.mir) ∧ Below w.heap.size w w' := by
  have e1 := w64p (-p.d) (by unfold Bd at h; omega) (by unfold Bd at h; omega)
  have e2 := w64p (-p.c) (by unfold Bd at h; omega) (by unfold Bd at h; omega)
  have e3 := w64p (-p.b) (by unfold Bd at h; omega) (by unfold Bd at h; omega)
  go_enter Try.func140, Try.ntmps140
  go_wp2
  go_returns
  exact ⟨by simp [Pn.mir, *], by go_grown⟩

theorem w64X {p : Pn} (h : Bd 1000000000000000000 p) : wrap64 (2 * p.a) = 2 * p.a ∧ wrap64 (p.b - p.d) = p.b - p.d := by
  unfold Bd at h; exact ⟨w64p _ (by omega) (by omega), w64p _ (by omega) (by omega)⟩

theorem w64Y {p : Pn} (h : Bd 1000000000000000000 p) : wrap64 (2 * p.c) = 2 * p.c ∧ wrap64 (p.b + p.d) = p.b + p.d := by
  unfold Bd at h; exact ⟨w64p _ (by omega) (by omega), w64p _ (by omega) (by omega)⟩

set_option maxRecDepth 100000 in
theorem spXP (p : Pn) (h : Bd 1000000000000000000 p) (w : World) : Calls Try.prog 73 #[pv p] w fun e w' => e = .returned (sv p.tx) ∧ Below w.heap.size w w' := by
  have e1 := (w64X h).1; have e2 := (w64X h).2
  go_enter Try.func73, Try.ntmps73
  go_wp2
  go_returns
  exact ⟨by simp [Pn.tx, *], by go_grown⟩

set_option maxRecDepth 100000 in
theorem spYP (p : Pn) (h : Bd 1000000000000000000 p) (w : World) : Calls Try.prog 77 #[pv p] w fun e w' => e = .returned (sv p.ty) ∧ Below w.heap.size w w' := by
  have e1 := (w64Y h).1; have e2 := (w64Y h).2
  go_enter Try.func77, Try.ntmps77
  go_wp2
  go_returns
  exact ⟨by simp [Pn.ty, *], by go_grown⟩

set_option maxRecDepth 100000 in
theorem imXP (p : Pn) (h : Bd 1000000000000000000 p) (w : World) : Calls Try.prog 76 #[pv p] w fun e w' => e = .returned (sv p.tx) ∧ Below w.heap.size w w' := by
  have e1 := (w64X h).1; have e2 := (w64X h).2
  go_enter Try.func76, Try.ntmps76
  go_wp2
  go_returns
  exact ⟨by simp [Pn.tx, *], by go_grown⟩

set_option maxRecDepth 100000 in
theorem imYP (p : Pn) (h : Bd 1000000000000000000 p) (w : World) : Calls Try.prog 78 #[pv p] w fun e w' => e = .returned (sv p.ty) ∧ Below w.heap.size w w' := by
  have e1 := (w64Y h).1; have e2 := (w64Y h).2
  go_enter Try.func78, Try.ntmps78
  go_wp2
  go_returns
  exact ⟨by simp [Pn.ty, *], by go_grown⟩

set_option maxRecDepth 100000 in
set_option maxHeartbeats 800000 in
theorem imTimesP (p q : Pn) (hp : Bd 200000 p) (hq : Bd 200000 q) (w : World) :
    Calls Try.prog 141 #[pv p, pv q] w fun e w' => e = .returned (pv (p.mul q)) ∧ Below w.heap.size w w' := by
  have m := fun (x y : Int) (hx : -200000 ≤ x ∧ x ≤ 200000) (hy : -200000 ≤ y ∧ y ≤ 200000) => mulb (n := 200000) (a := x) (b := y) hx.1 hx.2 hy.1 hy.2
  have aa := m _ _ hp.A hq.A; have ab := m _ _ hp.A hq.B; have ac := m _ _ hp.A hq.C; have ad := m _ _ hp.A hq.D
  have ba := m _ _ hp.B hq.A; have bb := m _ _ hp.B hq.B; have bc := m _ _ hp.B hq.C; have bd := m _ _ hp.B hq.D
  have ca := m _ _ hp.C hq.A; have cb := m _ _ hp.C hq.B; have cc := m _ _ hp.C hq.C; have cd := m _ _ hp.C hq.D
  have da := m _ _ hp.D hq.A; have db := m _ _ hp.D hq.B; have dc := m _ _ hp.D hq.C; have dd := m _ _ hp.D hq.D
  clear m
  go_enter Try.func141, Try.ntmps141
  go_wp2
  go_returns
  exact ⟨rfl, by go_grown⟩

set_option maxRecDepth 100000 in
theorem arProductP (p q : Pn) (hp : Bd 999999 p) (hq : Bd 999999 q) (w : World) :
    Calls Try.prog 112 #[pv p, pv q] w fun e w' => e = .returned (pv (p.mir.mul q)) ∧ Below w.heap.size w w' := by
  go_enter Try.func112, Try.ntmps112
  go_wp2_with fail
  refine absW (F := fun W => (W.cell? ⟨w.heap.size, 0, none⟩ = some (.int .i64 (p).a) ∧ W.cell? ⟨w.heap.size, 1, none⟩ = some (.int .i64 (p).b) ∧ W.cell? ⟨w.heap.size, 2, none⟩ = some (.int .i64 (p).c) ∧ W.cell? ⟨w.heap.size, 3, none⟩ = some (.int .i64 (p).d)) ∧ (W.cell? ⟨w.heap.size + 1, 0, none⟩ = some (.int .i64 (q).a) ∧ W.cell? ⟨w.heap.size + 1, 1, none⟩ = some (.int .i64 (q).b) ∧ W.cell? ⟨w.heap.size + 1, 2, none⟩ = some (.int .i64 (q).c) ∧ W.cell? ⟨w.heap.size + 1, 3, none⟩ = some (.int .i64 (q).d)) ∧ (∀ i, W.frozen? ⟨w.heap.size + 1 + 1, i, none⟩ = false) ∧ (W.cell? ⟨w.heap.size + 1 + 1, 0, none⟩ = some (.int .i64 0) ∧ W.cell? ⟨w.heap.size + 1 + 1, 1, none⟩ = some (.int .i64 0) ∧ W.cell? ⟨w.heap.size + 1 + 1, 2, none⟩ = some (.int .i64 0) ∧ W.cell? ⟨w.heap.size + 1 + 1, 3, none⟩ = some (.int .i64 0)) ∧ Below w.heap.size w W ∧ W.heap.size = w.heap.size + 1 + 1 + 1) ⟨⟨by go_simp, by go_simp, by go_simp, by go_simp⟩, ⟨by go_simp, by go_simp, by go_simp, by go_simp⟩, fun i => by go_simp, ⟨by go_simp, by go_simp, by go_simp, by go_simp⟩, by go_grown, by first | (simp; done) | (simp; omega)⟩ ?_
  rintro W ⟨⟨c0_0, c0_1, c0_2, c0_3⟩, ⟨c1_0, c1_1, c1_2, c1_3⟩, fr2, ⟨z20, z21, z22, z23⟩, HB, hz⟩
  have k0_0 := fun d os => cell_regrown c0_0 d os
  have k0_1 := fun d os => cell_regrown c0_1 d os
  have k0_2 := fun d os => cell_regrown c0_2 d os
  have k0_3 := fun d os => cell_regrown c0_3 d os
  have k1_0 := fun d os => cell_regrown c1_0 d os
  have k1_1 := fun d os => cell_regrown c1_1 d os
  have k1_2 := fun d os => cell_regrown c1_2 d os
  have k1_3 := fun d os => cell_regrown c1_3 d os
  refine region_below_tail 4 (by kernel_rfl) (by kernel_rfl) ?_
  simp only [List.take_succ_cons, List.take_zero, List.drop_succ_cons, List.drop_zero]
  repeat (quiet_step (first | (go_at_call 148; with_reducible exact Calls.regrown_of (spMirP p hp _)) | (go_at_call 147; with_reducible exact Calls.regrown_of (spTimesP p.mir q hp.mir_bd hq _))))
  refine wpQuiet_nil ?_
  rintro _ ⟨⟨dq, osq⟩, rfl⟩
  have hbw1 := below_regrown W dq osq
  generalize grow (redrawn W dq) osq = w1 at hbw1 ⊢
  obtain ⟨hcw1, hfw1⟩ := bcell hbw1
  have hlw1 := hbw1.size
  replace HB := ba HB hbw1
  go_wp2_with fail
  refine bodyPost_ret (by simp [results, Try.results112, go_sem, *]; try rfl) rfl ?_
  exact ⟨rfl, by go_grown⟩

set_option maxRecDepth 100000 in
theorem arCrossP (p q : Pn) (hp : Bd 200000 p) (hq : Bd 200000 q) (w : World) :
    Calls Try.prog 107 #[pv p, pv q] w fun e w' => e = .returned (sv (p.cx q)) ∧ Below w.heap.size w w' := by
  go_enter Try.func107, Try.ntmps107
  go_wp2_with (first | (go_at_call 112; (with_reducible refine (arProductP p q (hp.mono (by omega)) (hq.mono (by omega)) _).mono ?_); rintro e wA ⟨rfl, h1⟩; (try with_reducible replace h1 := undrew h1); have hB : Below w.heap.size w wA := ba (by go_grown) h1; obtain ⟨hcwA, hfwA⟩ := bcell h1; have hqwA := h1.size; (try simp at hqwA); (try have hz0wA : w.heap.size < wA.heap.size := (by omega)); (try have he0wA : w.heap.size ≤ wA.heap.size := (by omega)); (try have hz1wA : w.heap.size + 1 < wA.heap.size := (by omega)); (try have he1wA : w.heap.size + 1 ≤ wA.heap.size := (by omega)); (try have hz2wA : w.heap.size + 1 + 1 < wA.heap.size := (by omega)); (try have he2wA : w.heap.size + 1 + 1 ≤ wA.heap.size := (by omega))) | (go_at_call 77; (with_reducible refine (spYP (p.mir.mul q) ((hp.mir_bd.mul_bd hq).mono (by omega)) _).mono ?_); rintro e wB ⟨rfl, h1⟩; (try with_reducible replace h1 := undrew h1); have hB : Below w.heap.size w wB := ba (by go_grown) h1; obtain ⟨hcwB, hfwB⟩ := bcell h1; have hqwB := h1.size; (try simp at hqwB); (try have hz0wB : w.heap.size < wB.heap.size := (by omega)); (try have he0wB : w.heap.size ≤ wB.heap.size := (by omega)); (try have hz1wB : w.heap.size + 1 < wB.heap.size := (by omega)); (try have he1wB : w.heap.size + 1 ≤ wB.heap.size := (by omega)); (try have hz2wB : w.heap.size + 1 + 1 < wB.heap.size := (by omega)); (try have he2wB : w.heap.size + 1 + 1 ≤ wB.heap.size := (by omega))))
  refine bodyPost_ret (by simp [results, Try.results107, go_sem, *]; try rfl) rfl ?_
  exact ⟨rfl, by go_grown⟩

set_option maxRecDepth 100000 in
theorem twiceCrossP (p q : Pn) (hp : Bd 200000 p) (hq : Bd 200000 q) (w : World) :
    Calls Try.prog 109 #[pv p, pv q] w fun e w' => e = .returned (sv (p.cx q)) ∧ Below w.heap.size w w' := by
  go_enter Try.func109, Try.ntmps109
  go_wp2_with fail
  refine absW (F := fun W => (W.cell? ⟨w.heap.size, 0, none⟩ = some (.int .i64 (p).a) ∧ W.cell? ⟨w.heap.size, 1, none⟩ = some (.int .i64 (p).b) ∧ W.cell? ⟨w.heap.size, 2, none⟩ = some (.int .i64 (p).c) ∧ W.cell? ⟨w.heap.size, 3, none⟩ = some (.int .i64 (p).d)) ∧ (W.cell? ⟨w.heap.size + 1, 0, none⟩ = some (.int .i64 (q).a) ∧ W.cell? ⟨w.heap.size + 1, 1, none⟩ = some (.int .i64 (q).b) ∧ W.cell? ⟨w.heap.size + 1, 2, none⟩ = some (.int .i64 (q).c) ∧ W.cell? ⟨w.heap.size + 1, 3, none⟩ = some (.int .i64 (q).d)) ∧ (∀ i, W.frozen? ⟨w.heap.size + 1 + 1, i, none⟩ = false) ∧ (W.cell? ⟨w.heap.size + 1 + 1, 0, none⟩ = some (.int .i64 0) ∧ W.cell? ⟨w.heap.size + 1 + 1, 1, none⟩ = some (.int .i64 0)) ∧ Below w.heap.size w W ∧ W.heap.size = w.heap.size + 1 + 1 + 1) ⟨⟨by go_simp, by go_simp, by go_simp, by go_simp⟩, ⟨by go_simp, by go_simp, by go_simp, by go_simp⟩, fun i => by go_simp, ⟨by go_simp, by go_simp⟩, by go_grown, by first | (simp; done) | (simp; omega)⟩ ?_
  rintro W ⟨⟨c0_0, c0_1, c0_2, c0_3⟩, ⟨c1_0, c1_1, c1_2, c1_3⟩, fr2, ⟨z20, z21⟩, HB, hz⟩
  have k0_0 := fun d os => cell_regrown c0_0 d os
  have k0_1 := fun d os => cell_regrown c0_1 d os
  have k0_2 := fun d os => cell_regrown c0_2 d os
  have k0_3 := fun d os => cell_regrown c0_3 d os
  have k1_0 := fun d os => cell_regrown c1_0 d os
  have k1_1 := fun d os => cell_regrown c1_1 d os
  have k1_2 := fun d os => cell_regrown c1_2 d os
  have k1_3 := fun d os => cell_regrown c1_3 d os
  refine region_below_tail 5 (by kernel_rfl) (by kernel_rfl) ?_
  simp only [List.take_succ_cons, List.take_zero, List.drop_succ_cons, List.drop_zero]
  repeat (quiet_step (first | (go_at_call 140; with_reducible exact Calls.regrown_of (imMirP p (hp.mono (by omega)) _)) | (go_at_call 141; with_reducible exact Calls.regrown_of (imTimesP p.mir q hp.mir_bd hq _)) | (go_at_call 78; with_reducible exact Calls.regrown_of (imYP (p.mir.mul q) ((hp.mir_bd.mul_bd hq).mono (by omega)) _))))
  refine wpQuiet_nil ?_
  rintro _ ⟨⟨dq, osq⟩, rfl⟩
  have hbw1 := below_regrown W dq osq
  generalize grow (redrawn W dq) osq = w1 at hbw1 ⊢
  obtain ⟨hcw1, hfw1⟩ := bcell hbw1
  have hlw1 := hbw1.size
  replace HB := ba HB hbw1
  go_wp2_with fail
  refine bodyPost_ret (by simp [results, Try.results109, go_sem, *]; try rfl) rfl ?_
  exact ⟨rfl, by go_grown⟩

theorem spSignP (s : Su) (h : Bs 4000000000000000 s) (w : World) : Calls Try.prog 106 #[sv s] w fun e w' => e = .returned (.int .i64 s.sn) ∧ Below w.heap.size w w' :=
  ptSign_any s.x s.r h.1.1 h.1.2 h.2.1 h.2.2 w

theorem imSignP (s : Su) (h : Bs 4000000000000000 s) (w : World) : Calls Try.prog 111 #[sv s] w fun e w' => e = .returned (.int .i64 s.sn) ∧ Below w.heap.size w w' :=
  imSign_any s.x s.r h.1.1 h.1.2 h.2.1 h.2.2 w

theorem Bd.sub2 {p q : Pn} (h : Bd 100000 p) (k : Bd 100000 q) : Bd 200000 (p.sub q) := h.sub_bd k

abbrev tv (p q r : Pn) : Value := .agg #[.int .i64 p.a, .int .i64 p.b, .int .i64 p.c, .int .i64 p.d, .int .i64 q.a, .int .i64 q.b, .int .i64 q.c, .int .i64 q.d, .int .i64 r.a, .int .i64 r.b, .int .i64 r.c, .int .i64 r.d]

abbrev cv (p q : Pn) : Value := .agg #[.int .i64 p.a, .int .i64 p.b, .int .i64 p.c, .int .i64 p.d, .int .i64 q.a, .int .i64 q.b, .int .i64 q.c, .int .i64 q.d]

end Go.Proofs.Ytppbbcckijcckaa
