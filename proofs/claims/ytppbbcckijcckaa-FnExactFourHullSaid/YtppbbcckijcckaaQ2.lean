/- Contracts and facts, put together (part 2). Conditions: each says its own. -/
import Derived.Test.YtppbbcckijcckaaQ1
import Derived.Shelf.Bits.Mul64
import Derived.Deep.DeepCutAuto

/- Points and surds by their parts: bounds, differences, products; the model's and the program's contracts. -/
namespace Go.Proofs.Ytppbbcckijcckaa
open Go.ChangeShapes Go.WideShapes Go.ChangeAt Go.RowKit Go.Sort

abbrev pv (p : Pn) : Value := .agg #[.int .i64 p.a, .int .i64 p.b, .int .i64 p.c, .int .i64 p.d]

abbrev sv (s : Su) : Value := .agg #[.int .i64 s.x, .int .i64 s.r]

def Bd (n : Int) (p : Pn) : Prop := (-n ≤ p.a ∧ p.a ≤ n) ∧ (-n ≤ p.b ∧ p.b ≤ n) ∧ (-n ≤ p.c ∧ p.c ≤ n) ∧ (-n ≤ p.d ∧ p.d ≤ n)

def Bs (n : Int) (s : Su) : Prop := (-n ≤ s.x ∧ s.x ≤ n) ∧ (-n ≤ s.r ∧ s.r ≤ n)

theorem Bd.A {n : Int} {p : Pn} (h : Bd n p) : -n ≤ p.a ∧ p.a ≤ n := h.1

theorem Bd.B {n : Int} {p : Pn} (h : Bd n p) : -n ≤ p.b ∧ p.b ≤ n := h.2.1

theorem Bd.C {n : Int} {p : Pn} (h : Bd n p) : -n ≤ p.c ∧ p.c ≤ n := h.2.2.1

theorem Bd.D {n : Int} {p : Pn} (h : Bd n p) : -n ≤ p.d ∧ p.d ≤ n := h.2.2.2

theorem Bd.mono {n m : Int} {p : Pn} (h : Bd n p) (k : n ≤ m) : Bd m p := by unfold Bd at *; omega

theorem Bs.mono {n m : Int} {s : Su} (h : Bs n s) (k : n ≤ m) : Bs m s := by unfold Bs at *; omega

def Pn.sub (p q : Pn) : Pn := ⟨p.a - q.a, p.b - q.b, p.c - q.c, p.d - q.d⟩

def Pn.mir (p : Pn) : Pn := ⟨p.a, -p.d, -p.c, -p.b⟩

def Pn.mul (p q : Pn) : Pn := ⟨p.a * q.a - p.b * q.d - p.c * q.c - p.d * q.b, p.a * q.b + p.b * q.a - p.c * q.d - p.d * q.c, p.a * q.c + p.b * q.b + p.c * q.a - p.d * q.d, p.a * q.d + p.b * q.c + p.c * q.b + p.d * q.a⟩

def Pn.tx (p : Pn) : Su := ⟨2 * p.a, p.b - p.d⟩

def Pn.ty (p : Pn) : Su := ⟨2 * p.c, p.b + p.d⟩

theorem w64p (n : Int) (h0 : -9000000000000000000 ≤ n) (h1 : n ≤ 9000000000000000000) : wrap64 n = n := IntWalk.wrap64_in n ⟨by omega, by omega⟩

theorem Bd.sub_bd {n m : Int} {p q : Pn} (h : Bd n p) (k : Bd m q) : Bd (n + m) (p.sub q) := by unfold Bd Pn.sub at *; simp only; omega

theorem Bd.mir_bd {n : Int} {p : Pn} (h : Bd n p) : Bd n p.mir := by unfold Bd Pn.mir at *; simp only; omega

theorem lsd_sub {n m : Int} (h0 : -400000 ≤ n) (h1 : n ≤ 400000) (k0 : -400000 ≤ m) (k1 : m ≤ 400000) : wrap64 (n + wrap64 (-1 * m)) = n - m := by
  rw [w64p (-1 * m) (by omega) (by omega), w64p _ (by omega) (by omega)]; omega

theorem absW {F : World → Prop} {P : Program} {c : Code} {Q : Exit → Act → World → Prop} {a : Act} {W : World} (hF : F W) (h : ∀ W, F W → c.wp P Q a W) : c.wp P Q a W := h W hF

theorem absE {F : World → Prop} {K : Act → World → Prop} {Q : Exit → Act → World → Prop} {a : Act} {W : World} (hF : F W) (h : ∀ W, F W → Exit.then K Q .normal a W) : Exit.then K Q .normal a W := h W hF

theorem same_regrown {P : Program} {f : FuncId} {args : Array Value} {w : World} {d : Nat} {os : Array Obj} {v : Value}
    (h : Calls P f args (grow (redrawn w d) os) fun e w' => e = .returned v ∧ grow (redrawn w d) os = w') : Calls P f args (grow (redrawn w d) os) fun e w'' => e = .returned v ∧ ∃ p : Regrown, w'' = grow (redrawn w p.d) p.os :=
  h.mono fun _ _ ⟨he, hb⟩ => ⟨he, ⟨d, os⟩, hb.symm⟩

def Pn.add (p q : Pn) : Pn := ⟨p.a + q.a, p.b + q.b, p.c + q.c, p.d + q.d⟩

def Pn.scl (k : Int) (p : Pn) : Pn := ⟨k * p.a, k * p.b, k * p.c, k * p.d⟩

def Pn.rot (p : Pn) : Pn := ⟨-p.d, p.a, p.b, p.c⟩

theorem mulb {n a b : Int} (h0 : -n ≤ a) (h1 : a ≤ n) (k0 : -n ≤ b) (k1 : b ≤ n) : -(n * n) ≤ a * b ∧ a * b ≤ n * n := by
  have e1 := Int.mul_nonneg (a := n - a) (b := n + b) (by omega) (by omega)
  have e2 := Int.mul_nonneg (a := n + a) (b := n - b) (by omega) (by omega)
  have e3 := Int.mul_nonneg (a := n - a) (b := n - b) (by omega) (by omega)
  have e4 := Int.mul_nonneg (a := n + a) (b := n + b) (by omega) (by omega)
  have r1 : (n - a) * (n + b) = n * n + n * b - a * n - a * b := by grind
  have r2 : (n + a) * (n - b) = n * n - n * b + a * n - a * b := by grind
  have r3 : (n - a) * (n - b) = n * n - n * b - a * n + a * b := by grind
  have r4 : (n + a) * (n + b) = n * n + n * b + a * n + a * b := by grind
  omega

theorem mulk {n m a b : Int} (h : Int.natAbs a ≤ n) (k : Int.natAbs b ≤ m) : -(n * m) ≤ a * b ∧ a * b ≤ n * m := by
  have h1 : (Int.natAbs (a * b) : Int) ≤ n * m := by
    rw [Int.natAbs_mul]
    exact_mod_cast Int.mul_le_mul h k (by omega) (by omega)
  omega

theorem Bd.rot_bd {n : Int} {p : Pn} (h : Bd n p) : Bd n p.rot := by unfold Bd Pn.rot at *; simp only; omega

theorem Bd.add_bd {n m : Int} {p q : Pn} (h : Bd n p) (k : Bd m q) : Bd (n + m) (p.add q) := by unfold Bd Pn.add at *; simp only; omega

theorem Bd.scl_bd {n m k : Int} {p : Pn} (h : Bd n p) (h0 : -m ≤ k) (h1 : k ≤ m) : Bd (m * n) (Pn.scl k p) := by
  unfold Bd Pn.scl at *
  have f := fun x (hx : -n ≤ x ∧ x ≤ n) => mulk (n := m) (m := n) (a := k) (b := x) (by omega) (by omega)
  exact ⟨f _ h.1, f _ h.2.1, f _ h.2.2.1, f _ h.2.2.2⟩

set_option maxRecDepth 100000 in
theorem spScaleP (p : Pn) (k n : Int) (h : Bd n p) (hk : -n ≤ k ∧ k ≤ n) (hn : n * n ≤ 9000000000000000000) (w : World) :
    Calls Try.prog 133 #[pv p, .int .i64 k] w fun e w' => e = .returned (pv (Pn.scl k p)) ∧ Below w.heap.size w w' :=
  (spScale_any p.a p.b p.c p.d k w).mono fun e w' ⟨he, hb⟩ => ⟨by
    have f := fun x (hx : -n ≤ x ∧ x ≤ n) => mulb (n := n) (a := k) (b := x) hk.1 hk.2 hx.1 hx.2
    rw [he, w64p _ (by have := f _ h.1; omega) (by have := f _ h.1; omega), w64p _ (by have := f _ h.2.1; omega) (by have := f _ h.2.1; omega), w64p _ (by have := f _ h.2.2.1; omega) (by have := f _ h.2.2.1; omega), w64p _ (by have := f _ h.2.2.2; omega) (by have := f _ h.2.2.2; omega)]
    rfl, hb⟩

set_option maxRecDepth 100000 in
theorem imScaledP (p : Pn) (k n : Int) (h : Bd n p) (hk : -n ≤ k ∧ k ≤ n) (hn : n * n ≤ 9000000000000000000) (w : World) :
    Calls Try.prog 143 #[pv p, .int .i64 k] w fun e w' => e = .returned (pv (Pn.scl k p)) ∧ Below w.heap.size w w' :=
  (imScaled_any p.a p.b p.c p.d k w).mono fun e w' ⟨he, hb⟩ => ⟨by
    have f := fun x (hx : -n ≤ x ∧ x ≤ n) => mulb (n := n) (a := k) (b := x) hk.1 hk.2 hx.1 hx.2
    rw [he, w64p _ (by have := f _ h.1; omega) (by have := f _ h.1; omega), w64p _ (by have := f _ h.2.1; omega) (by have := f _ h.2.1; omega), w64p _ (by have := f _ h.2.2.1; omega) (by have := f _ h.2.2.1; omega), w64p _ (by have := f _ h.2.2.2; omega) (by have := f _ h.2.2.2; omega)]
    rfl, hb⟩

theorem spAddQ (p q : Pn) (h : Bd 4000000000000000000 p) (k : Bd 4000000000000000000 q) (w : World) :
    Calls Try.prog 132 #[pv p, pv q] w fun e w' => e = .returned (pv (p.add q)) ∧ Below w.heap.size w w' :=
  (spAdd_any p.a p.b p.c p.d q.a q.b q.c q.d w).mono fun e w' ⟨he, hb⟩ => ⟨by
    unfold Bd at h k
    rw [he, w64p _ (by omega) (by omega), w64p _ (by omega) (by omega), w64p _ (by omega) (by omega), w64p _ (by omega) (by omega)]; rfl, hb⟩

theorem imPlusP (p q : Pn) (h : Bd 4000000000000000000 p) (k : Bd 4000000000000000000 q) (w : World) :
    Calls Try.prog 142 #[pv p, pv q] w fun e w' => e = .returned (pv (p.add q)) ∧ Below w.heap.size w w' :=
  (imPlus_any p.a p.b p.c p.d q.a q.b q.c q.d w).mono fun e w' ⟨he, hb⟩ => ⟨by
    unfold Bd at h k
    rw [he, w64p _ (by omega) (by omega), w64p _ (by omega) (by omega), w64p _ (by omega) (by omega), w64p _ (by omega) (by omega)]; rfl, hb⟩

theorem add_scl (p q : Pn) : p.add (Pn.scl (-1) q) = p.sub q := by
  apply Pn.ext' <;> simp only [Pn.add, Pn.scl, Pn.sub] <;> omega

set_option maxRecDepth 100000 in
theorem spLessP (p q : Pn) (hp : Bd 400000 p) (hq : Bd 400000 q) (w : World) :
    Calls Try.prog 96 #[pv p, pv q] w fun e w' => e = .returned (pv (p.sub q)) ∧ Below w.heap.size w w' := by
  have hs : Bd 4000000000000000000 (Pn.scl (-1) q) := by unfold Bd Pn.scl at *; simp only; omega
  rw [← add_scl]
  go_enter Try.func96, Try.ntmps96
  go_wp2_with fail
  refine absW (F := fun W => (W.cell? ⟨w.heap.size, 0, none⟩ = some (.int .i64 (p).a) ∧ W.cell? ⟨w.heap.size, 1, none⟩ = some (.int .i64 (p).b) ∧ W.cell? ⟨w.heap.size, 2, none⟩ = some (.int .i64 (p).c) ∧ W.cell? ⟨w.heap.size, 3, none⟩ = some (.int .i64 (p).d)) ∧ (W.cell? ⟨w.heap.size + 1, 0, none⟩ = some (.int .i64 (q).a) ∧ W.cell? ⟨w.heap.size + 1, 1, none⟩ = some (.int .i64 (q).b) ∧ W.cell? ⟨w.heap.size + 1, 2, none⟩ = some (.int .i64 (q).c) ∧ W.cell? ⟨w.heap.size + 1, 3, none⟩ = some (.int .i64 (q).d)) ∧ (∀ i, W.frozen? ⟨w.heap.size + 1 + 1, i, none⟩ = false) ∧ (W.cell? ⟨w.heap.size + 1 + 1, 0, none⟩ = some (.int .i64 0) ∧ W.cell? ⟨w.heap.size + 1 + 1, 1, none⟩ = some (.int .i64 0) ∧ W.cell? ⟨w.heap.size + 1 + 1, 2, none⟩ = some (.int .i64 0) ∧ W.cell? ⟨w.heap.size + 1 + 1, 3, none⟩ = some (.int .i64 0)) ∧ Below w.heap.size w W ∧ W.heap.size = w.heap.size + 1 + 1 + 1) ⟨⟨by go_simp, by go_simp, by go_simp, by go_simp⟩, ⟨by go_simp, by go_simp, by go_simp, by go_simp⟩, fun i => by go_simp, ⟨by go_simp, by go_simp, by go_simp, by go_simp⟩, by go_grown, by first | (simp; done) | (simp; omega)⟩ ?_
  rintro W ⟨⟨c0_0, c0_1, c0_2, c0_3⟩, ⟨c1_0, c1_1, c1_2, c1_3⟩, fr2, ⟨z20, z21, z22, z23⟩, HB, hz⟩
  have k0_0 := fun d os => cell_regrown c0_0 d os
  have k0_1 := fun d os => cell_regrown c0_1 d os
  have k0_2 := fun d os => cell_regrown c0_2 d os
  have k0_3 := fun d os => cell_regrown c0_3 d os
  have k1_0 := fun d os => cell_regrown c1_0 d os
  have k1_1 := fun d os => cell_regrown c1_1 d os
  have k1_2 := fun d os => cell_regrown c1_2 d os
  have k1_3 := fun d os => cell_regrown c1_3 d os
  refine region_below_tail 4 (by kernel_rfl) (by kernel_rfl) ?_
  simp only [List.take_succ_cons, List.take_zero, List.drop_succ_cons, List.drop_zero]
  repeat (quiet_step (first | (go_at_call 133; with_reducible exact Calls.regrown_of (spScaleP q (-1) 400000 hq (by omega) (by omega) _)) | (go_at_call 132; with_reducible exact Calls.regrown_of (spAddQ p (Pn.scl (-1) q) (hp.mono (by omega)) hs _))))
  refine wpQuiet_nil ?_
  rintro _ ⟨⟨dq, osq⟩, rfl⟩
  have hbw1 := below_regrown W dq osq
  generalize grow (redrawn W dq) osq = w1 at hbw1 ⊢
  obtain ⟨hcw1, hfw1⟩ := bcell hbw1
  have hlw1 := hbw1.size
  replace HB := ba HB hbw1
  go_wp2_with fail
  refine bodyPost_ret (by simp [results, Try.results96, go_sem, *]; try rfl) rfl ?_
  exact ⟨rfl, by go_grown⟩

set_option maxRecDepth 100000 in
theorem imLessP (p q : Pn) (hp : Bd 400000 p) (hq : Bd 400000 q) (w : World) :
    Calls Try.prog 110 #[pv p, pv q] w fun e w' => e = .returned (pv (p.sub q)) ∧ Below w.heap.size w w' := by
  have hs : Bd 4000000000000000000 (Pn.scl (-1) q) := by unfold Bd Pn.scl at *; simp only; omega
  rw [← add_scl]
  go_enter Try.func110, Try.ntmps110
  go_wp2_with fail
  refine absW (F := fun W => (W.cell? ⟨w.heap.size, 0, none⟩ = some (.int .i64 (p).a) ∧ W.cell? ⟨w.heap.size, 1, none⟩ = some (.int .i64 (p).b) ∧ W.cell? ⟨w.heap.size, 2, none⟩ = some (.int .i64 (p).c) ∧ W.cell? ⟨w.heap.size, 3, none⟩ = some (.int .i64 (p).d)) ∧ (W.cell? ⟨w.heap.size + 1, 0, none⟩ = some (.int .i64 (q).a) ∧ W.cell? ⟨w.heap.size + 1, 1, none⟩ = some (.int .i64 (q).b) ∧ W.cell? ⟨w.heap.size + 1, 2, none⟩ = some (.int .i64 (q).c) ∧ W.cell? ⟨w.heap.size + 1, 3, none⟩ = some (.int .i64 (q).d)) ∧ (∀ i, W.frozen? ⟨w.heap.size + 1 + 1, i, none⟩ = false) ∧ (W.cell? ⟨w.heap.size + 1 + 1, 0, none⟩ = some (.int .i64 0) ∧ W.cell? ⟨w.heap.size + 1 + 1, 1, none⟩ = some (.int .i64 0) ∧ W.cell? ⟨w.heap.size + 1 + 1, 2, none⟩ = some (.int .i64 0) ∧ W.cell? ⟨w.heap.size + 1 + 1, 3, none⟩ = some (.int .i64 0)) ∧ Below w.heap.size w W ∧ W.heap.size = w.heap.size + 1 + 1 + 1) ⟨⟨by go_simp, by go_simp, by go_simp, by go_simp⟩, ⟨by go_simp, by go_simp, by go_simp, by go_simp⟩, fun i => by go_simp, ⟨by go_simp, by go_simp, by go_simp, by go_simp⟩, by go_grown, by first | (simp; done) | (simp; omega)⟩ ?_
  rintro W ⟨⟨c0_0, c0_1, c0_2, c0_3⟩, ⟨c1_0, c1_1, c1_2, c1_3⟩, fr2, ⟨z20, z21, z22, z23⟩, HB, hz⟩
  have k0_0 := fun d os => cell_regrown c0_0 d os
  have k0_1 := fun d os => cell_regrown c0_1 d os
  have k0_2 := fun d os => cell_regrown c0_2 d os
  have k0_3 := fun d os => cell_regrown c0_3 d os
  have k1_0 := fun d os => cell_regrown c1_0 d os
  have k1_1 := fun d os => cell_regrown c1_1 d os
  have k1_2 := fun d os => cell_regrown c1_2 d os
  have k1_3 := fun d os => cell_regrown c1_3 d os
  refine region_below_tail 4 (by kernel_rfl) (by kernel_rfl) ?_
  simp only [List.take_succ_cons, List.take_zero, List.drop_succ_cons, List.drop_zero]
  repeat (quiet_step (first | (go_at_call 143; with_reducible exact Calls.regrown_of (imScaledP q (-1) 400000 hq (by omega) (by omega) _)) | (go_at_call 142; with_reducible exact Calls.regrown_of (imPlusP p (Pn.scl (-1) q) (hp.mono (by omega)) hs _))))
  refine wpQuiet_nil ?_
  rintro _ ⟨⟨dq, osq⟩, rfl⟩
  have hbw1 := below_regrown W dq osq
  generalize grow (redrawn W dq) osq = w1 at hbw1 ⊢
  obtain ⟨hcw1, hfw1⟩ := bcell hbw1
  have hlw1 := hbw1.size
  replace HB := ba HB hbw1
  go_wp2_with fail
  refine bodyPost_ret (by simp [results, Try.results110, go_sem, *]; try rfl) rfl ?_
  exact ⟨rfl, by go_grown⟩

end Go.Proofs.Ytppbbcckijcckaa

/- Contracts: a point turned by one, two, three eighths, in the model. -/
namespace Go.Proofs.Ytppbbcckijcckaa
open Go.ChangeShapes Go.WideShapes Go.ChangeAt Go.RowKit Go.Sort

set_option maxRecDepth 100000 in
set_option maxHeartbeats 400000 in
theorem spRot1 (p : Pn) (h : Bd 999999 p) (w : World) : Calls Try.prog 170 #[pv p, .int .i64 1] w fun e w' => e = .returned (pv p.rot) ∧ Below w.heap.size w w' := by
  have e : wrap64 (-p.d) = -p.d := w64p _ (by unfold Bd at h; omega) (by unfold Bd at h; omega)
  go_enter Try.func170, Try.ntmps170
  go_wp2_with fail
  refine wp_loop_rounds 2 ?_
  repeat any_goals (rw [rounds_succ]; go_wp2_with fail)
  all_goals go_returns
  all_goals exact ⟨by simp [Pn.rot, *], by go_grown⟩

set_option maxRecDepth 100000 in
set_option maxHeartbeats 400000 in
theorem spRot2 (p : Pn) (h : Bd 999999 p) (w : World) : Calls Try.prog 170 #[pv p, .int .i64 2] w fun e w' => e = .returned (pv p.rot.rot) ∧ Below w.heap.size w w' := by
  have e : wrap64 (-p.d) = -p.d := w64p _ (by unfold Bd at h; omega) (by unfold Bd at h; omega)
  have e2 : wrap64 (-p.c) = -p.c := w64p _ (by unfold Bd at h; omega) (by unfold Bd at h; omega)
  go_enter Try.func170, Try.ntmps170
  go_wp2_with fail
  refine wp_loop_rounds 3 ?_
  repeat any_goals (rw [rounds_succ]; go_wp2_with fail)
  all_goals go_returns
  all_goals exact ⟨by simp [Pn.rot, *], by go_grown⟩

set_option maxRecDepth 100000 in
set_option maxHeartbeats 400000 in
theorem spRot3 (p : Pn) (h : Bd 999999 p) (w : World) : Calls Try.prog 170 #[pv p, .int .i64 3] w fun e w' => e = .returned (pv p.rot.rot.rot) ∧ Below w.heap.size w w' := by
  have e : wrap64 (-p.d) = -p.d := w64p _ (by unfold Bd at h; omega) (by unfold Bd at h; omega)
  have e2 : wrap64 (-p.c) = -p.c := w64p _ (by unfold Bd at h; omega) (by unfold Bd at h; omega)
  have e3 : wrap64 (-p.b) = -p.b := w64p _ (by unfold Bd at h; omega) (by unfold Bd at h; omega)
  go_enter Try.func170, Try.ntmps170
  go_wp2_with fail
  refine wp_loop_rounds 4 ?_
  repeat any_goals (rw [rounds_succ]; go_wp2_with fail)
  all_goals go_returns
  all_goals exact ⟨by simp [Pn.rot, *], by go_grown⟩

end Go.Proofs.Ytppbbcckijcckaa

/- Contracts: the sign of a surd, in the program. -/
namespace Go.Proofs.Ytppbbcckijcckaa
open Go.ChangeShapes Go.WideShapes Go.ChangeAt Go.RowKit

def mh (x y : Nat) : Nat := x * y / 18446744073709551616

def ml (x y : Nat) : Nat := x * y % 18446744073709551616

theorem lex (a b : Nat) : (b / 18446744073709551616 < a / 18446744073709551616 ∨ a / 18446744073709551616 = b / 18446744073709551616 ∧ b % 18446744073709551616 < a % 18446744073709551616) ↔ b < a := by omega

set_option maxHeartbeats 1000000 in
theorem mul64_any (x y : Nat) (hx : x < 18446744073709551616) (hy : y < 18446744073709551616) (w : World) :
    Calls Try.prog 145 #[.int .u64 x, .int .u64 y] w fun e w' => e = .returned (.tuple #[.int .u64 (mh x y : Nat), .int .u64 (ml x y : Nat)]) ∧ w = w' := by
  unfold mh ml
  obtain ⟨bd, bt, bw, hhi⟩ := Lib.mul64_hi x y hx hy
  have ba := Lib.half_mul_le (a := x / 4294967296) (b := y / 4294967296) (by omega) (by omega)
  have bb := Lib.half_mul_le (a := x / 4294967296) (b := y % 4294967296) (by omega) (by omega)
  have bc := Lib.half_mul_le (a := x % 4294967296) (b := y / 4294967296) (by omega) (by omega)
  have ba' : x / 4294967296 * (y / 4294967296) < 18446744073709551616 := by omega
  have bb' : x / 4294967296 * (y % 4294967296) < 18446744073709551616 := by omega
  have bc' : x % 4294967296 * (y / 4294967296) < 18446744073709551616 := by omega
  have bh1 : x / 4294967296 * (y / 4294967296) + (x / 4294967296 * (y % 4294967296) + x % 4294967296 * (y % 4294967296) / 4294967296) / 4294967296 < 18446744073709551616 := by omega
  have bh : x / 4294967296 * (y / 4294967296) + (x / 4294967296 * (y % 4294967296) + x % 4294967296 * (y % 4294967296) / 4294967296) / 4294967296 + ((x / 4294967296 * (y % 4294967296) + x % 4294967296 * (y % 4294967296) / 4294967296) % 4294967296 + x % 4294967296 * (y / 4294967296)) / 4294967296 < 18446744073709551616 := by
    rw [hhi]
    have := Nat.mul_lt_mul'' hx hy
    omega
  go_enter Try.func145, Try.ntmps145
  go_wp2
  simp only [Mul64.maskN x hx, Mul64.maskN y hy, Mul64.divN, Mul64.mulN, Mul64.addN, Mul64.wrapN _ bd, Mul64.wrapN _ bb', Mul64.wrapN _ bt, Mul64.maskN _ bt, Mul64.wrapN _ bc', Mul64.wrapN _ bw, Mul64.wrapN _ ba', Mul64.wrapN _ bh1, Mul64.wrapN _ bh, Mul64.wrapM (x * y)]
  rw [hhi]
  go_ret2
  exact ⟨rfl, rfl⟩

theorem mul64_two (q : Nat) (h : q ≤ 9000000000000000) (w : World) :
    Calls Try.prog 145 #[.int .u64 (2 * (q : Int)), .int .u64 q] w fun e w' => e = .returned (.tuple #[.int .u64 (mh (2 * q) q : Nat), .int .u64 (ml (2 * q) q : Nat)]) ∧ w = w' := by
  have e : ((2 * q : Nat) : Int) = 2 * (q : Int) := by omega
  rw [← e]
  exact mul64_any (2 * q) q (by omega) (by omega) w

theorem sizeOf_any (n : Int) (b0 : -9000000000000000 ≤ n) (b1 : n ≤ 9000000000000000) (w : World) :
    Calls Try.prog 144 #[.int .i64 n] w fun e w' => e = .returned (.int .u64 (n.natAbs : Nat)) ∧ w = w' := by
  have hm : max n (-n) = (n.natAbs : Int) := by omega
  have hb : n.natAbs ≤ 9000000000000000 := by omega
  go_enter Try.func144, Try.ntmps144
  go_wp2
  go_ret
  exact ⟨by first | rfl | (simp [hm]; done) | (rw [IntKind.wrap_u64]; simp; omega) | (simp [IntKind.wrap_u64]; omega), rfl⟩

set_option maxRecDepth 100000 in
theorem compare_any (n : Int) (w : World) :
    Calls Try.prog 146 #[.int .i64 n, .int .i64 0] w fun e w' => e = .returned (.int .i64 (sg n)) ∧ w = w' := by
  rcases Int.lt_trichotomy n 0 with h | rfl | h
  · rw [sg_neg h]
    go_enter Try.func146, Try.ntmps146
    go_wp2
    all_goals go_ret
    all_goals exact ⟨rfl, rfl⟩
  · go_enter Try.func146, Try.ntmps146
    go_wp2
    all_goals go_ret
    all_goals exact ⟨rfl, rfl⟩
  · rw [sg_pos h]
    go_enter Try.func146, Try.ntmps146
    go_wp2
    all_goals go_ret
    all_goals exact ⟨rfl, rfl⟩

end Go.Proofs.Ytppbbcckijcckaa

/- Contracts: SignOfSurd and CompareSurds, in the model and in the program. -/
namespace Go.Proofs.Ytppbbcckijcckaa
open Go.ChangeShapes Go.WideShapes Go.ChangeAt Go.RowKit

theorem G1_abs (s0 s1 : Int) : G1 s0 s1 = decide (2 * s1.natAbs * s1.natAbs < s0.natAbs * s0.natAbs) := by
  have e0 : ((s0.natAbs * s0.natAbs : Nat) : Int) = s0 * s0 := Int.natAbs_mul_self
  have e1 : ((s1.natAbs * s1.natAbs : Nat) : Int) = s1 * s1 := Int.natAbs_mul_self
  have e2 : 2 * s1.natAbs * s1.natAbs = 2 * (s1.natAbs * s1.natAbs) := Nat.mul_assoc _ _ _
  unfold G1
  rw [decide_eq_decide]
  rw [e2]
  omega

set_option maxRecDepth 100000 in
set_option maxHeartbeats 3200000 in
theorem imSign_any (s0 s1 : Int) (b0 : -4000000000000000 ≤ s0) (c0 : s0 ≤ 4000000000000000) (b1 : -4000000000000000 ≤ s1) (c1 : s1 ≤ 4000000000000000) (w : World) :
    Calls Try.prog 111 #[.agg #[.int .i64 s0, .int .i64 s1]] w fun e w' => e = .returned (.int .i64 (sgn2 s0 s1)) ∧ Below w.heap.size w w' := by
  have L := lex (s0.natAbs * s0.natAbs) (2 * s1.natAbs * s1.natAbs)
  have hG := G1_abs s0 s1
  by_cases k1 : mh (2 * s1.natAbs) s1.natAbs < mh s0.natAbs s0.natAbs
  · have hg : G1 s0 s1 = true := by rw [hG]; exact decide_eq_true (L.1 (.inl k1))
    clear L hG
    go_enter Try.func111, Try.ntmps111
    go_wp2_with fail
    go_quiet ((go_at_call 144; exact Calls.quiet_of_same (turned (sizeOf_any _ (by omega) (by omega) _))))
    go_wp2_with (first | (go_at_call 145; (with_reducible refine (mul64_any s0.natAbs s0.natAbs (by omega) (by omega) _).mono ?_); rintro e w' ⟨rfl, rfl⟩) | (go_at_call 145; (with_reducible refine (mul64_two s1.natAbs (by omega) _).mono ?_); rintro e w' ⟨rfl, rfl⟩) | (go_at_call 146; (refine (compare_any _ _).mono ?_); rintro e w' ⟨rfl, rfl⟩))
    all_goals go_returns
    all_goals first | (exfalso; simp_all; done) | exact ⟨by simp [sgn2, hg], by ((repeat refine below_drewN ?_ _); go_grown; done)⟩
  by_cases k2 : mh s0.natAbs s0.natAbs = mh (2 * s1.natAbs) s1.natAbs
  · by_cases k3 : ml (2 * s1.natAbs) s1.natAbs < ml s0.natAbs s0.natAbs
    · have hg : G1 s0 s1 = true := by rw [hG]; exact decide_eq_true (L.1 (.inr ⟨k2, k3⟩))
      clear L hG
      go_enter Try.func111, Try.ntmps111
      go_wp2_with fail
      go_quiet ((go_at_call 144; exact Calls.quiet_of_same (turned (sizeOf_any _ (by omega) (by omega) _))))
      go_wp2_with (first | (go_at_call 145; (with_reducible refine (mul64_any s0.natAbs s0.natAbs (by omega) (by omega) _).mono ?_); rintro e w' ⟨rfl, rfl⟩) | (go_at_call 145; (with_reducible refine (mul64_two s1.natAbs (by omega) _).mono ?_); rintro e w' ⟨rfl, rfl⟩) | (go_at_call 146; (refine (compare_any _ _).mono ?_); rintro e w' ⟨rfl, rfl⟩))
      all_goals go_returns
      all_goals first | (exfalso; simp_all; done) | exact ⟨by simp [sgn2, hg], by ((repeat refine below_drewN ?_ _); go_grown; done)⟩
    · have hg : G1 s0 s1 = false := by rw [hG]; exact decide_eq_false (fun h => (L.2 h).elim k1 (fun h => k3 h.2))
      clear L hG
      go_enter Try.func111, Try.ntmps111
      go_wp2_with fail
      go_quiet ((go_at_call 144; exact Calls.quiet_of_same (turned (sizeOf_any _ (by omega) (by omega) _))))
      go_wp2_with (first | (go_at_call 145; (with_reducible refine (mul64_any s0.natAbs s0.natAbs (by omega) (by omega) _).mono ?_); rintro e w' ⟨rfl, rfl⟩) | (go_at_call 145; (with_reducible refine (mul64_two s1.natAbs (by omega) _).mono ?_); rintro e w' ⟨rfl, rfl⟩) | (go_at_call 146; (refine (compare_any _ _).mono ?_); rintro e w' ⟨rfl, rfl⟩))
      all_goals go_returns
      all_goals first | (exfalso; simp_all; done) | exact ⟨by simp [sgn2, hg], by ((repeat refine below_drewN ?_ _); go_grown; done)⟩
  · have hg : G1 s0 s1 = false := by rw [hG]; exact decide_eq_false (fun h => (L.2 h).elim k1 (fun h => k2 h.1))
    clear L hG
    go_enter Try.func111, Try.ntmps111
    go_wp2_with fail
    go_quiet ((go_at_call 144; exact Calls.quiet_of_same (turned (sizeOf_any _ (by omega) (by omega) _))))
    go_wp2_with (first | (go_at_call 145; (with_reducible refine (mul64_any s0.natAbs s0.natAbs (by omega) (by omega) _).mono ?_); rintro e w' ⟨rfl, rfl⟩) | (go_at_call 145; (with_reducible refine (mul64_two s1.natAbs (by omega) _).mono ?_); rintro e w' ⟨rfl, rfl⟩) | (go_at_call 146; (refine (compare_any _ _).mono ?_); rintro e w' ⟨rfl, rfl⟩))
    all_goals go_returns
    all_goals first | (exfalso; simp_all; done) | exact ⟨by simp [sgn2, hg], by ((repeat refine below_drewN ?_ _); go_grown; done)⟩

end Go.Proofs.Ytppbbcckijcckaa

/- Contracts: mirrored points, products, twice the numbers, sides; in the model and in the program. -/
namespace Go.Proofs.Ytppbbcckijcckaa
open Go.ChangeShapes Go.WideShapes Go.ChangeAt Go.RowKit Go.Sort

theorem t4_mul (p q : Pn) : (((Pn.scl q.a p).add (Pn.scl q.b p.rot)).add (Pn.scl q.c p.rot.rot)).add (Pn.scl q.d p.rot.rot.rot) = p.mul q := by
  apply Pn.ext' <;> simp only [Pn.add, Pn.scl, Pn.rot, Pn.mul] <;> grind

theorem scl_big {n : Int} {k : Int} {p : Pn} (h : Bd n p) (hk : -n ≤ k ∧ k ≤ n) : Bd (n * n) (Pn.scl k p) := Bd.scl_bd h hk.1 hk.2

set_option maxRecDepth 100000 in
set_option maxHeartbeats 800000 in
theorem spTimesP (p q : Pn) (hp : Bd 999999 p) (hq : Bd 999999 q) (w : World) :
    Calls Try.prog 147 #[pv p, pv q] w fun e w' => e = .returned (pv (p.mul q)) ∧ Below w.heap.size w w' := by
  have b1 : Bd 999998000001 (Pn.scl q.a p) := scl_big hp hq.A
  have c2 : Bd 999998000001 (Pn.scl q.b p.rot) := scl_big hp.rot_bd hq.B
  have c3 : Bd 999998000001 (Pn.scl q.c p.rot.rot) := scl_big hp.rot_bd.rot_bd hq.C
  have c4 : Bd 999998000001 (Pn.scl q.d p.rot.rot.rot) := scl_big hp.rot_bd.rot_bd.rot_bd hq.D
  have b2 := b1.add_bd c2
  have b3 := b2.add_bd c3
  have A2 := spAddQ _ _ (b1.mono (by omega)) (c2.mono (by omega))
  have A3 := spAddQ _ _ (b2.mono (by omega)) (c3.mono (by omega))
  have A4 := spAddQ _ _ (b3.mono (by omega)) (c4.mono (by omega))
  rw [← t4_mul]
  generalize ((Pn.scl q.a p).add (Pn.scl q.b p.rot)).add (Pn.scl q.c p.rot.rot) = x3 at *
  generalize (Pn.scl q.a p).add (Pn.scl q.b p.rot) = x2 at *
  go_enter Try.func147, Try.ntmps147
  go_wp2_with fail
  (go_at_call 133; (with_reducible refine (spScaleP p q.a 999999 hp hq.A (by omega) _).mono ?_); rintro e wA ⟨rfl, h1⟩; (try with_reducible replace h1 := undrew h1); have hB : Below w.heap.size w wA := ba (by go_grown) h1; obtain ⟨hcwA, hfwA⟩ := bcell h1; have hqwA := h1.size; (try simp at hqwA); (try have hz0wA : w.heap.size < wA.heap.size := (by omega)); (try have he0wA : w.heap.size ≤ wA.heap.size := (by omega)); (try have hz1wA : w.heap.size + 1 < wA.heap.size := (by omega)); (try have he1wA : w.heap.size + 1 ≤ wA.heap.size := (by omega)); (try have hz2wA : w.heap.size + 1 + 1 < wA.heap.size := (by omega)); (try have he2wA : w.heap.size + 1 + 1 ≤ wA.heap.size := (by omega)))
  go_wp2_with fail
  refine absW (F := fun W => (W.cell? ⟨w.heap.size, 0, none⟩ = some (.int .i64 (p).a) ∧ W.cell? ⟨w.heap.size, 1, none⟩ = some (.int .i64 (p).b) ∧ W.cell? ⟨w.heap.size, 2, none⟩ = some (.int .i64 (p).c) ∧ W.cell? ⟨w.heap.size, 3, none⟩ = some (.int .i64 (p).d)) ∧ (W.cell? ⟨w.heap.size + 1, 0, none⟩ = some (.int .i64 (q).a) ∧ W.cell? ⟨w.heap.size + 1, 1, none⟩ = some (.int .i64 (q).b) ∧ W.cell? ⟨w.heap.size + 1, 2, none⟩ = some (.int .i64 (q).c) ∧ W.cell? ⟨w.heap.size + 1, 3, none⟩ = some (.int .i64 (q).d)) ∧ (W.cell? ⟨wA.heap.size, 0, none⟩ = some (.int .i64 (Pn.scl q.a p).a) ∧ W.cell? ⟨wA.heap.size, 1, none⟩ = some (.int .i64 (Pn.scl q.a p).b) ∧ W.cell? ⟨wA.heap.size, 2, none⟩ = some (.int .i64 (Pn.scl q.a p).c) ∧ W.cell? ⟨wA.heap.size, 3, none⟩ = some (.int .i64 (Pn.scl q.a p).d)) ∧ (∀ i, W.frozen? ⟨w.heap.size + 1 + 1, i, none⟩ = false) ∧ (W.cell? ⟨w.heap.size + 1 + 1, 0, none⟩ = some (.int .i64 0) ∧ W.cell? ⟨w.heap.size + 1 + 1, 1, none⟩ = some (.int .i64 0) ∧ W.cell? ⟨w.heap.size + 1 + 1, 2, none⟩ = some (.int .i64 0) ∧ W.cell? ⟨w.heap.size + 1 + 1, 3, none⟩ = some (.int .i64 0)) ∧ (∀ i, W.frozen? ⟨wA.heap.size, i, none⟩ = false) ∧ (wA.heap.size < W.heap.size) ∧ Below w.heap.size w W) ⟨⟨by go_simp, by go_simp, by go_simp, by go_simp⟩, ⟨by go_simp, by go_simp, by go_simp, by go_simp⟩, ⟨by go_simp, by go_simp, by go_simp, by go_simp⟩, fun i => by go_simp, ⟨by go_simp, by go_simp, by go_simp, by go_simp⟩, fun i => by go_simp, by simp, by go_grown⟩ ?_
  rintro W ⟨⟨c0_0, c0_1, c0_2, c0_3⟩, ⟨c1_0, c1_1, c1_2, c1_3⟩, ⟨cO_0, cO_1, cO_2, cO_3⟩, fr2, ⟨z20, z21, z22, z23⟩, frO, hz, HB⟩
  have k0_0 := fun d os => cell_regrown c0_0 d os
  have k0_1 := fun d os => cell_regrown c0_1 d os
  have k0_2 := fun d os => cell_regrown c0_2 d os
  have k0_3 := fun d os => cell_regrown c0_3 d os
  have k1_0 := fun d os => cell_regrown c1_0 d os
  have k1_1 := fun d os => cell_regrown c1_1 d os
  have k1_2 := fun d os => cell_regrown c1_2 d os
  have k1_3 := fun d os => cell_regrown c1_3 d os
  have kO_0 := fun d os => cell_regrown cO_0 d os
  have kO_1 := fun d os => cell_regrown cO_1 d os
  have kO_2 := fun d os => cell_regrown cO_2 d os
  have kO_3 := fun d os => cell_regrown cO_3 d os
  have z0W : w.heap.size < W.heap.size := by omega
  have z1W : w.heap.size + 1 < W.heap.size := by omega
  have z2W : w.heap.size + 1 + 1 < W.heap.size := by omega
  refine region_below_tail 7 (by kernel_rfl) (by kernel_rfl) ?_
  simp only [List.take_succ_cons, List.take_zero, List.drop_succ_cons, List.drop_zero]
  repeat (quiet_step (first | (go_at_call 170; with_reducible exact Calls.regrown_of (spRot1 p hp _)) | (go_at_call 133; with_reducible exact Calls.regrown_of (spScaleP p.rot q.b 999999 hp.rot_bd hq.B (by omega) _)) | (go_at_call 132; with_reducible exact Calls.regrown_of (A2 _))))
  refine wpQuiet_nil ?_
  rintro _ ⟨⟨dq, osq⟩, rfl⟩
  have hbw1 := below_regrown W dq osq
  generalize grow (redrawn W dq) osq = w1 at hbw1 ⊢
  obtain ⟨hcw1, hfw1⟩ := bcell hbw1
  have hlw1 := hbw1.size
  replace HB := ba HB hbw1
  go_wp2_with fail
  refine absW (F := fun X => (X.cell? ⟨w.heap.size, 0, none⟩ = some (.int .i64 (p).a) ∧ X.cell? ⟨w.heap.size, 1, none⟩ = some (.int .i64 (p).b) ∧ X.cell? ⟨w.heap.size, 2, none⟩ = some (.int .i64 (p).c) ∧ X.cell? ⟨w.heap.size, 3, none⟩ = some (.int .i64 (p).d)) ∧ (X.cell? ⟨w.heap.size + 1, 0, none⟩ = some (.int .i64 (q).a) ∧ X.cell? ⟨w.heap.size + 1, 1, none⟩ = some (.int .i64 (q).b) ∧ X.cell? ⟨w.heap.size + 1, 2, none⟩ = some (.int .i64 (q).c) ∧ X.cell? ⟨w.heap.size + 1, 3, none⟩ = some (.int .i64 (q).d)) ∧ (X.cell? ⟨wA.heap.size, 0, none⟩ = some (.int .i64 (x2).a) ∧ X.cell? ⟨wA.heap.size, 1, none⟩ = some (.int .i64 (x2).b) ∧ X.cell? ⟨wA.heap.size, 2, none⟩ = some (.int .i64 (x2).c) ∧ X.cell? ⟨wA.heap.size, 3, none⟩ = some (.int .i64 (x2).d)) ∧ (∀ i, X.frozen? ⟨w.heap.size + 1 + 1, i, none⟩ = false) ∧ (X.cell? ⟨w.heap.size + 1 + 1, 0, none⟩ = some (.int .i64 0) ∧ X.cell? ⟨w.heap.size + 1 + 1, 1, none⟩ = some (.int .i64 0) ∧ X.cell? ⟨w.heap.size + 1 + 1, 2, none⟩ = some (.int .i64 0) ∧ X.cell? ⟨w.heap.size + 1 + 1, 3, none⟩ = some (.int .i64 0)) ∧ (∀ i, X.frozen? ⟨wA.heap.size, i, none⟩ = false) ∧ (wA.heap.size < X.heap.size) ∧ Below w.heap.size w X) ⟨⟨by go_simp, by go_simp, by go_simp, by go_simp⟩, ⟨by go_simp, by go_simp, by go_simp, by go_simp⟩, ⟨by go_simp, by go_simp, by go_simp, by go_simp⟩, fun i => by go_simp, ⟨by go_simp, by go_simp, by go_simp, by go_simp⟩, fun i => by go_simp, by simp; omega, by go_grown⟩ ?_
  rintro X ⟨⟨c0_0, c0_1, c0_2, c0_3⟩, ⟨c1_0, c1_1, c1_2, c1_3⟩, ⟨cO_0, cO_1, cO_2, cO_3⟩, fr2, ⟨z20, z21, z22, z23⟩, frO, hzX, HB⟩
  have k0_0 := fun d os => cell_regrown c0_0 d os
  have k0_1 := fun d os => cell_regrown c0_1 d os
  have k0_2 := fun d os => cell_regrown c0_2 d os
  have k0_3 := fun d os => cell_regrown c0_3 d os
  have k1_0 := fun d os => cell_regrown c1_0 d os
  have k1_1 := fun d os => cell_regrown c1_1 d os
  have k1_2 := fun d os => cell_regrown c1_2 d os
  have k1_3 := fun d os => cell_regrown c1_3 d os
  have kO_0 := fun d os => cell_regrown cO_0 d os
  have kO_1 := fun d os => cell_regrown cO_1 d os
  have kO_2 := fun d os => cell_regrown cO_2 d os
  have kO_3 := fun d os => cell_regrown cO_3 d os
  have z0X : w.heap.size < X.heap.size := by omega
  have z1X : w.heap.size + 1 < X.heap.size := by omega
  have z2X : w.heap.size + 1 + 1 < X.heap.size := by omega
  refine region_below_tail 7 (by kernel_rfl) (by kernel_rfl) ?_
  simp only [List.take_succ_cons, List.take_zero, List.drop_succ_cons, List.drop_zero]
  repeat (quiet_step (first | (go_at_call 170; with_reducible exact Calls.regrown_of (spRot2 p hp _)) | (go_at_call 133; with_reducible exact Calls.regrown_of (spScaleP p.rot.rot q.c 999999 hp.rot_bd.rot_bd hq.C (by omega) _)) | (go_at_call 132; with_reducible exact Calls.regrown_of (A3 _))))
  refine wpQuiet_nil ?_
  rintro _ ⟨⟨dq, osq⟩, rfl⟩
  have hbw2 := below_regrown X dq osq
  generalize grow (redrawn X dq) osq = w2 at hbw2 ⊢
  obtain ⟨hcw2, hfw2⟩ := bcell hbw2
  have hlw2 := hbw2.size
  replace HB := ba HB hbw2
  go_wp2_with fail
  refine absW (F := fun Y => (Y.cell? ⟨w.heap.size, 0, none⟩ = some (.int .i64 (p).a) ∧ Y.cell? ⟨w.heap.size, 1, none⟩ = some (.int .i64 (p).b) ∧ Y.cell? ⟨w.heap.size, 2, none⟩ = some (.int .i64 (p).c) ∧ Y.cell? ⟨w.heap.size, 3, none⟩ = some (.int .i64 (p).d)) ∧ (Y.cell? ⟨w.heap.size + 1, 0, none⟩ = some (.int .i64 (q).a) ∧ Y.cell? ⟨w.heap.size + 1, 1, none⟩ = some (.int .i64 (q).b) ∧ Y.cell? ⟨w.heap.size + 1, 2, none⟩ = some (.int .i64 (q).c) ∧ Y.cell? ⟨w.heap.size + 1, 3, none⟩ = some (.int .i64 (q).d)) ∧ (Y.cell? ⟨wA.heap.size, 0, none⟩ = some (.int .i64 (x3).a) ∧ Y.cell? ⟨wA.heap.size, 1, none⟩ = some (.int .i64 (x3).b) ∧ Y.cell? ⟨wA.heap.size, 2, none⟩ = some (.int .i64 (x3).c) ∧ Y.cell? ⟨wA.heap.size, 3, none⟩ = some (.int .i64 (x3).d)) ∧ (∀ i, Y.frozen? ⟨w.heap.size + 1 + 1, i, none⟩ = false) ∧ (Y.cell? ⟨w.heap.size + 1 + 1, 0, none⟩ = some (.int .i64 0) ∧ Y.cell? ⟨w.heap.size + 1 + 1, 1, none⟩ = some (.int .i64 0) ∧ Y.cell? ⟨w.heap.size + 1 + 1, 2, none⟩ = some (.int .i64 0) ∧ Y.cell? ⟨w.heap.size + 1 + 1, 3, none⟩ = some (.int .i64 0)) ∧ (∀ i, Y.frozen? ⟨wA.heap.size, i, none⟩ = false) ∧ (wA.heap.size < Y.heap.size) ∧ Below w.heap.size w Y) ⟨⟨by go_simp, by go_simp, by go_simp, by go_simp⟩, ⟨by go_simp, by go_simp, by go_simp, by go_simp⟩, ⟨by go_simp, by go_simp, by go_simp, by go_simp⟩, fun i => by go_simp, ⟨by go_simp, by go_simp, by go_simp, by go_simp⟩, fun i => by go_simp, by simp; omega, by go_grown⟩ ?_
  rintro Y ⟨⟨c0_0, c0_1, c0_2, c0_3⟩, ⟨c1_0, c1_1, c1_2, c1_3⟩, ⟨cO_0, cO_1, cO_2, cO_3⟩, fr2, ⟨z20, z21, z22, z23⟩, frO, hzY, HB⟩
  have k0_0 := fun d os => cell_regrown c0_0 d os
  have k0_1 := fun d os => cell_regrown c0_1 d os
  have k0_2 := fun d os => cell_regrown c0_2 d os
  have k0_3 := fun d os => cell_regrown c0_3 d os
  have k1_0 := fun d os => cell_regrown c1_0 d os
  have k1_1 := fun d os => cell_regrown c1_1 d os
  have k1_2 := fun d os => cell_regrown c1_2 d os
  have k1_3 := fun d os => cell_regrown c1_3 d os
  have kO_0 := fun d os => cell_regrown cO_0 d os
  have kO_1 := fun d os => cell_regrown cO_1 d os
  have kO_2 := fun d os => cell_regrown cO_2 d os
  have kO_3 := fun d os => cell_regrown cO_3 d os
  have z0Y : w.heap.size < Y.heap.size := by omega
  have z1Y : w.heap.size + 1 < Y.heap.size := by omega
  have z2Y : w.heap.size + 1 + 1 < Y.heap.size := by omega
  refine region_below_tail 7 (by kernel_rfl) (by kernel_rfl) ?_
  simp only [List.take_succ_cons, List.take_zero, List.drop_succ_cons, List.drop_zero]
  repeat (quiet_step (first | (go_at_call 170; with_reducible exact Calls.regrown_of (spRot3 p hp _)) | (go_at_call 133; with_reducible exact Calls.regrown_of (spScaleP p.rot.rot.rot q.d 999999 hp.rot_bd.rot_bd.rot_bd hq.D (by omega) _)) | (go_at_call 132; with_reducible exact Calls.regrown_of (A4 _))))
  refine wpQuiet_nil ?_
  rintro _ ⟨⟨dq, osq⟩, rfl⟩
  have hbw3 := below_regrown Y dq osq
  generalize grow (redrawn Y dq) osq = w3 at hbw3 ⊢
  obtain ⟨hcw3, hfw3⟩ := bcell hbw3
  have hlw3 := hbw3.size
  replace HB := ba HB hbw3
  go_wp2_with fail
  refine bodyPost_ret (by simp [results, Try.results147, go_sem, *]; try rfl) rfl ?_
  exact ⟨rfl, by go_grown⟩

end Go.Proofs.Ytppbbcckijcckaa

/- Contracts: mirrored points, twice the numbers, products and sides; in the model and in the program. -/
namespace Go.Proofs.Ytppbbcckijcckaa
open Go.ChangeShapes Go.WideShapes Go.ChangeAt Go.RowKit Go.Sort

/-- Twice the cross product, as surds tell it. -/
def Pn.cx (p q : Pn) : Su := (p.mir.mul q).ty

def Pn.dx (p q : Pn) : Su := (p.mir.mul q).tx

theorem cx_cr (p q r : Pn) : ((q.sub p).cx (r.sub p)).sn = Pn.sd p q r := by
  have e : Ve.cr (Pn.vec p q) (Pn.vec p r) = (⟨2, 0⟩ : Su) * (q.sub p).cx (r.sub p) := by
    apply Su.ext' <;> simp only [Ve.cr, Pn.vec, Pn.cx, Pn.sub, Pn.mir, Pn.mul, Pn.ty, Su.mul_x, Su.mul_r, Su.sub_x, Su.sub_r] <;> grind
  unfold Pn.sd
  rw [e, Su.sn_mul, show (⟨2, 0⟩ : Su).sn = 1 from rfl, Int.one_mul]

theorem dx_dn (a b q : Pn) : ((a.sub q).dx (b.sub q)).sn = Pn.dn q a b := by
  have e : Ve.dt (Pn.vec q a) (Pn.vec q b) = (⟨2, 0⟩ : Su) * (a.sub q).dx (b.sub q) := by
    apply Su.ext' <;> simp only [Ve.dt, Pn.vec, Pn.dx, Pn.sub, Pn.mir, Pn.mul, Pn.tx, Su.mul_x, Su.mul_r, Su.add_x, Su.add_r] <;> grind
  unfold Pn.dn
  rw [e, Su.sn_mul, show (⟨2, 0⟩ : Su).sn = 1 from rfl, Int.one_mul]

theorem Bd.mul_bd {p q : Pn} (h : Bd 200000 p) (k : Bd 200000 q) : Bd 160000000000 (p.mul q) := by
  have m := fun (x y : Int) (hx : -200000 ≤ x ∧ x ≤ 200000) (hy : -200000 ≤ y ∧ y ≤ 200000) => mulb (n := 200000) (a := x) (b := y) hx.1 hx.2 hy.1 hy.2
  have aa := m _ _ h.A k.A; have ab := m _ _ h.A k.B; have ac := m _ _ h.A k.C; have ad := m _ _ h.A k.D
  have ba := m _ _ h.B k.A; have bb := m _ _ h.B k.B; have bc := m _ _ h.B k.C; have bd := m _ _ h.B k.D
  have ca := m _ _ h.C k.A; have cb := m _ _ h.C k.B; have cc := m _ _ h.C k.C; have cd := m _ _ h.C k.D
  have da := m _ _ h.D k.A; have db := m _ _ h.D k.B; have dc := m _ _ h.D k.C; have dd := m _ _ h.D k.D
  unfold Bd Pn.mul
  simp only
  omega

theorem Bd.tx_bd {n : Int} {p : Pn} (h : Bd n p) : Bs (2 * n) p.tx := by unfold Bd Bs Pn.tx at *; simp only; omega

theorem Bd.ty_bd {n : Int} {p : Pn} (h : Bd n p) : Bs (2 * n) p.ty := by unfold Bd Bs Pn.ty at *; simp only; omega

theorem cx_bd {p q : Pn} (h : Bd 200000 p) (k : Bd 200000 q) : Bs 320000000000 (p.cx q) := (h.mir_bd.mul_bd k).ty_bd

theorem dx_bd {p q : Pn} (h : Bd 200000 p) (k : Bd 200000 q) : Bs 320000000000 (p.dx q) := (h.mir_bd.mul_bd k).tx_bd

set_option maxRecDepth 100000 in
theorem spMirP (p : Pn) (h : Bd 999999 p) (w : World) : Calls Try.prog 148 #[pv p] w fun e w' => e = .returned (pv p.mir) ∧ Below w.heap.size w w' := by
  have e1 := w64p (-p.d) (by unfold Bd at h; omega) (by unfold Bd at h; omega)
  have e2 := w64p (-p.c) (by unfold Bd at h; omega) (by unfold Bd at h; omega)
  have e3 := w64p (-p.b) (by unfold Bd at h; omega) (by unfold Bd at h; omega)
  go_enter Try.func148, Try.ntmps148
  go_wp2
  go_returns
  exact ⟨by simp [Pn.mir, *], by go_grown⟩

set_option maxRecDepth 100000 in
theorem imMirP (p : Pn) (h : Bd 999999 p) (w : World) : Calls Try.prog 140 #[pv p] w fun e w' => e = .returned (pv p.mir) ∧ Below w.heap.size w w' := by
  have e1 := w64p (-p.d) (by unfold Bd at h; omega) (by unfold Bd at h; omega)
  have e2 := w64p (-p.c) (by unfold Bd at h; omega) (by unfold Bd at h; omega)
  have e3 := w64p (-p.b) (by unfold Bd at h; omega) (by unfold Bd at h; omega)
  go_enter Try.func140, Try.ntmps140
  go_wp2
  go_returns
  exact ⟨by simp [Pn.mir, *], by go_grown⟩

theorem w64X {p : Pn} (h : Bd 1000000000000000000 p) : wrap64 (2 * p.a) = 2 * p.a ∧ wrap64 (p.b - p.d) = p.b - p.d := by
  unfold Bd at h; exact ⟨w64p _ (by omega) (by omega), w64p _ (by omega) (by omega)⟩

theorem w64Y {p : Pn} (h : Bd 1000000000000000000 p) : wrap64 (2 * p.c) = 2 * p.c ∧ wrap64 (p.b + p.d) = p.b + p.d := by
  unfold Bd at h; exact ⟨w64p _ (by omega) (by omega), w64p _ (by omega) (by omega)⟩

set_option maxRecDepth 100000 in
theorem spXP (p : Pn) (h : Bd 1000000000000000000 p) (w : World) : Calls Try.prog 73 #[pv p] w fun e w' => e = .returned (sv p.tx) ∧ Below w.heap.size w w' := by
  have e1 := (w64X h).1; have e2 := (w64X h).2
  go_enter Try.func73, Try.ntmps73
  go_wp2
  go_returns
  exact ⟨by simp [Pn.tx, *], by go_grown⟩

set_option maxRecDepth 100000 in
theorem spYP (p : Pn) (h : Bd 1000000000000000000 p) (w : World) : Calls Try.prog 77 #[pv p] w fun e w' => e = .returned (sv p.ty) ∧ Below w.heap.size w w' := by
  have e1 := (w64Y h).1; have e2 := (w64Y h).2
  go_enter Try.func77, Try.ntmps77
  go_wp2
  go_returns
  exact ⟨by simp [Pn.ty, *], by go_grown⟩

set_option maxRecDepth 100000 in
theorem imXP (p : Pn) (h : Bd 1000000000000000000 p) (w : World) : Calls Try.prog 76 #[pv p] w fun e w' => e = .returned (sv p.tx) ∧ Below w.heap.size w w' := by
  have e1 := (w64X h).1; have e2 := (w64X h).2
  go_enter Try.func76, Try.ntmps76
  go_wp2
  go_returns
  exact ⟨by simp [Pn.tx, *], by go_grown⟩

set_option maxRecDepth 100000 in
theorem imYP (p : Pn) (h : Bd 1000000000000000000 p) (w : World) : Calls Try.prog 78 #[pv p] w fun e w' => e = .returned (sv p.ty) ∧ Below w.heap.size w w' := by
  have e1 := (w64Y h).1; have e2 := (w64Y h).2
  go_enter Try.func78, Try.ntmps78
  go_wp2
  go_returns
  exact ⟨by simp [Pn.ty, *], by go_grown⟩

set_option maxRecDepth 100000 in
set_option maxHeartbeats 800000 in
theorem imTimesP (p q : Pn) (hp : Bd 200000 p) (hq : Bd 200000 q) (w : World) :
    Calls Try.prog 141 #[pv p, pv q] w fun e w' => e = .returned (pv (p.mul q)) ∧ Below w.heap.size w w' := by
  have m := fun (x y : Int) (hx : -200000 ≤ x ∧ x ≤ 200000) (hy : -200000 ≤ y ∧ y ≤ 200000) => mulb (n := 200000) (a := x) (b := y) hx.1 hx.2 hy.1 hy.2
  have aa := m _ _ hp.A hq.A; have ab := m _ _ hp.A hq.B; have ac := m _ _ hp.A hq.C; have ad := m _ _ hp.A hq.D
  have ba := m _ _ hp.B hq.A; have bb := m _ _ hp.B hq.B; have bc := m _ _ hp.B hq.C; have bd := m _ _ hp.B hq.D
  have ca := m _ _ hp.C hq.A; have cb := m _ _ hp.C hq.B; have cc := m _ _ hp.C hq.C; have cd := m _ _ hp.C hq.D
  have da := m _ _ hp.D hq.A; have db := m _ _ hp.D hq.B; have dc := m _ _ hp.D hq.C; have dd := m _ _ hp.D hq.D
  clear m
  go_enter Try.func141, Try.ntmps141
  go_wp2
  go_returns
  exact ⟨rfl, by go_grown⟩

set_option maxRecDepth 100000 in
theorem arProductP (p q : Pn) (hp : Bd 999999 p) (hq : Bd 999999 q) (w : World) :
    Calls Try.prog 112 #[pv p, pv q] w fun e w' => e = .returned (pv (p.mir.mul q)) ∧ Below w.heap.size w w' := by
  go_enter Try.func112, Try.ntmps112
  go_wp2_with fail
  refine absW (F := fun W => (W.cell? ⟨w.heap.size, 0, none⟩ = some (.int .i64 (p).a) ∧ W.cell? ⟨w.heap.size, 1, none⟩ = some (.int .i64 (p).b) ∧ W.cell? ⟨w.heap.size, 2, none⟩ = some (.int .i64 (p).c) ∧ W.cell? ⟨w.heap.size, 3, none⟩ = some (.int .i64 (p).d)) ∧ (W.cell? ⟨w.heap.size + 1, 0, none⟩ = some (.int .i64 (q).a) ∧ W.cell? ⟨w.heap.size + 1, 1, none⟩ = some (.int .i64 (q).b) ∧ W.cell? ⟨w.heap.size + 1, 2, none⟩ = some (.int .i64 (q).c) ∧ W.cell? ⟨w.heap.size + 1, 3, none⟩ = some (.int .i64 (q).d)) ∧ (∀ i, W.frozen? ⟨w.heap.size + 1 + 1, i, none⟩ = false) ∧ (W.cell? ⟨w.heap.size + 1 + 1, 0, none⟩ = some (.int .i64 0) ∧ W.cell? ⟨w.heap.size + 1 + 1, 1, none⟩ = some (.int .i64 0) ∧ W.cell? ⟨w.heap.size + 1 + 1, 2, none⟩ = some (.int .i64 0) ∧ W.cell? ⟨w.heap.size + 1 + 1, 3, none⟩ = some (.int .i64 0)) ∧ Below w.heap.size w W ∧ W.heap.size = w.heap.size + 1 + 1 + 1) ⟨⟨by go_simp, by go_simp, by go_simp, by go_simp⟩, ⟨by go_simp, by go_simp, by go_simp, by go_simp⟩, fun i => by go_simp, ⟨by go_simp, by go_simp, by go_simp, by go_simp⟩, by go_grown, by first | (simp; done) | (simp; omega)⟩ ?_
  rintro W ⟨⟨c0_0, c0_1, c0_2, c0_3⟩, ⟨c1_0, c1_1, c1_2, c1_3⟩, fr2, ⟨z20, z21, z22, z23⟩, HB, hz⟩
  have k0_0 := fun d os => cell_regrown c0_0 d os
  have k0_1 := fun d os => cell_regrown c0_1 d os
  have k0_2 := fun d os => cell_regrown c0_2 d os
  have k0_3 := fun d os => cell_regrown c0_3 d os
  have k1_0 := fun d os => cell_regrown c1_0 d os
  have k1_1 := fun d os => cell_regrown c1_1 d os
  have k1_2 := fun d os => cell_regrown c1_2 d os
  have k1_3 := fun d os => cell_regrown c1_3 d os
  refine region_below_tail 4 (by kernel_rfl) (by kernel_rfl) ?_
  simp only [List.take_succ_cons, List.take_zero, List.drop_succ_cons, List.drop_zero]
  repeat (quiet_step (first | (go_at_call 148; with_reducible exact Calls.regrown_of (spMirP p hp _)) | (go_at_call 147; with_reducible exact Calls.regrown_of (spTimesP p.mir q hp.mir_bd hq _))))
  refine wpQuiet_nil ?_
  rintro _ ⟨⟨dq, osq⟩, rfl⟩
  have hbw1 := below_regrown W dq osq
  generalize grow (redrawn W dq) osq = w1 at hbw1 ⊢
  obtain ⟨hcw1, hfw1⟩ := bcell hbw1
  have hlw1 := hbw1.size
  replace HB := ba HB hbw1
  go_wp2_with fail
  refine bodyPost_ret (by simp [results, Try.results112, go_sem, *]; try rfl) rfl ?_
  exact ⟨rfl, by go_grown⟩

set_option maxRecDepth 100000 in
theorem arCrossP (p q : Pn) (hp : Bd 200000 p) (hq : Bd 200000 q) (w : World) :
    Calls Try.prog 107 #[pv p, pv q] w fun e w' => e = .returned (sv (p.cx q)) ∧ Below w.heap.size w w' := by
  go_enter Try.func107, Try.ntmps107
  go_wp2_with (first | (go_at_call 112; (with_reducible refine (arProductP p q (hp.mono (by omega)) (hq.mono (by omega)) _).mono ?_); rintro e wA ⟨rfl, h1⟩; (try with_reducible replace h1 := undrew h1); have hB : Below w.heap.size w wA := ba (by go_grown) h1; obtain ⟨hcwA, hfwA⟩ := bcell h1; have hqwA := h1.size; (try simp at hqwA); (try have hz0wA : w.heap.size < wA.heap.size := (by omega)); (try have he0wA : w.heap.size ≤ wA.heap.size := (by omega)); (try have hz1wA : w.heap.size + 1 < wA.heap.size := (by omega)); (try have he1wA : w.heap.size + 1 ≤ wA.heap.size := (by omega)); (try have hz2wA : w.heap.size + 1 + 1 < wA.heap.size := (by omega)); (try have he2wA : w.heap.size + 1 + 1 ≤ wA.heap.size := (by omega))) | (go_at_call 77; (with_reducible refine (spYP (p.mir.mul q) ((hp.mir_bd.mul_bd hq).mono (by omega)) _).mono ?_); rintro e wB ⟨rfl, h1⟩; (try with_reducible replace h1 := undrew h1); have hB : Below w.heap.size w wB := ba (by go_grown) h1; obtain ⟨hcwB, hfwB⟩ := bcell h1; have hqwB := h1.size; (try simp at hqwB); (try have hz0wB : w.heap.size < wB.heap.size := (by omega)); (try have he0wB : w.heap.size ≤ wB.heap.size := (by omega)); (try have hz1wB : w.heap.size + 1 < wB.heap.size := (by omega)); (try have he1wB : w.heap.size + 1 ≤ wB.heap.size := (by omega)); (try have hz2wB : w.heap.size + 1 + 1 < wB.heap.size := (by omega)); (try have he2wB : w.heap.size + 1 + 1 ≤ wB.heap.size := (by omega))))
  refine bodyPost_ret (by simp [results, Try.results107, go_sem, *]; try rfl) rfl ?_
  exact ⟨rfl, by go_grown⟩

set_option maxRecDepth 100000 in
theorem twiceCrossP (p q : Pn) (hp : Bd 200000 p) (hq : Bd 200000 q) (w : World) :
    Calls Try.prog 109 #[pv p, pv q] w fun e w' => e = .returned (sv (p.cx q)) ∧ Below w.heap.size w w' := by
  go_enter Try.func109, Try.ntmps109
  go_wp2_with fail
  refine absW (F := fun W => (W.cell? ⟨w.heap.size, 0, none⟩ = some (.int .i64 (p).a) ∧ W.cell? ⟨w.heap.size, 1, none⟩ = some (.int .i64 (p).b) ∧ W.cell? ⟨w.heap.size, 2, none⟩ = some (.int .i64 (p).c) ∧ W.cell? ⟨w.heap.size, 3, none⟩ = some (.int .i64 (p).d)) ∧ (W.cell? ⟨w.heap.size + 1, 0, none⟩ = some (.int .i64 (q).a) ∧ W.cell? ⟨w.heap.size + 1, 1, none⟩ = some (.int .i64 (q).b) ∧ W.cell? ⟨w.heap.size + 1, 2, none⟩ = some (.int .i64 (q).c) ∧ W.cell? ⟨w.heap.size + 1, 3, none⟩ = some (.int .i64 (q).d)) ∧ (∀ i, W.frozen? ⟨w.heap.size + 1 + 1, i, none⟩ = false) ∧ (W.cell? ⟨w.heap.size + 1 + 1, 0, none⟩ = some (.int .i64 0) ∧ W.cell? ⟨w.heap.size + 1 + 1, 1, none⟩ = some (.int .i64 0)) ∧ Below w.heap.size w W ∧ W.heap.size = w.heap.size + 1 + 1 + 1) ⟨⟨by go_simp, by go_simp, by go_simp, by go_simp⟩, ⟨by go_simp, by go_simp, by go_simp, by go_simp⟩, fun i => by go_simp, ⟨by go_simp, by go_simp⟩, by go_grown, by first | (simp; done) | (simp; omega)⟩ ?_
  rintro W ⟨⟨c0_0, c0_1, c0_2, c0_3⟩, ⟨c1_0, c1_1, c1_2, c1_3⟩, fr2, ⟨z20, z21⟩, HB, hz⟩
  have k0_0 := fun d os => cell_regrown c0_0 d os
  have k0_1 := fun d os => cell_regrown c0_1 d os
  have k0_2 := fun d os => cell_regrown c0_2 d os
  have k0_3 := fun d os => cell_regrown c0_3 d os
  have k1_0 := fun d os => cell_regrown c1_0 d os
  have k1_1 := fun d os => cell_regrown c1_1 d os
  have k1_2 := fun d os => cell_regrown c1_2 d os
  have k1_3 := fun d os => cell_regrown c1_3 d os
  refine region_below_tail 5 (by kernel_rfl) (by kernel_rfl) ?_
  simp only [List.take_succ_cons, List.take_zero, List.drop_succ_cons, List.drop_zero]
  repeat (quiet_step (first | (go_at_call 140; with_reducible exact Calls.regrown_of (imMirP p (hp.mono (by omega)) _)) | (go_at_call 141; with_reducible exact Calls.regrown_of (imTimesP p.mir q hp.mir_bd hq _)) | (go_at_call 78; with_reducible exact Calls.regrown_of (imYP (p.mir.mul q) ((hp.mir_bd.mul_bd hq).mono (by omega)) _))))
  refine wpQuiet_nil ?_
  rintro _ ⟨⟨dq, osq⟩, rfl⟩
  have hbw1 := below_regrown W dq osq
  generalize grow (redrawn W dq) osq = w1 at hbw1 ⊢
  obtain ⟨hcw1, hfw1⟩ := bcell hbw1
  have hlw1 := hbw1.size
  replace HB := ba HB hbw1
  go_wp2_with fail
  refine bodyPost_ret (by simp [results, Try.results109, go_sem, *]; try rfl) rfl ?_
  exact ⟨rfl, by go_grown⟩

theorem spSignP (s : Su) (h : Bs 4000000000000000 s) (w : World) : Calls Try.prog 106 #[sv s] w fun e w' => e = .returned (.int .i64 s.sn) ∧ Below w.heap.size w w' :=
  ptSign_any s.x s.r h.1.1 h.1.2 h.2.1 h.2.2 w

theorem imSignP (s : Su) (h : Bs 4000000000000000 s) (w : World) : Calls Try.prog 111 #[sv s] w fun e w' => e = .returned (.int .i64 s.sn) ∧ Below w.heap.size w w' :=
  imSign_any s.x s.r h.1.1 h.1.2 h.2.1 h.2.2 w

theorem Bd.sub2 {p q : Pn} (h : Bd 100000 p) (k : Bd 100000 q) : Bd 200000 (p.sub q) := h.sub_bd k

abbrev tv (p q r : Pn) : Value := .agg #[.int .i64 p.a, .int .i64 p.b, .int .i64 p.c, .int .i64 p.d, .int .i64 q.a, .int .i64 q.b, .int .i64 q.c, .int .i64 q.d, .int .i64 r.a, .int .i64 r.b, .int .i64 r.c, .int .i64 r.d]

abbrev cv (p q : Pn) : Value := .agg #[.int .i64 p.a, .int .i64 p.b, .int .i64 p.c, .int .i64 p.d, .int .i64 q.a, .int .i64 q.b, .int .i64 q.c, .int .i64 q.d]

end Go.Proofs.Ytppbbcckijcckaa

/- Contracts: sides, in the model and in the program. -/
namespace Go.Proofs.Ytppbbcckijcckaa
open Go.ChangeShapes Go.WideShapes Go.ChangeAt Go.RowKit Go.Sort

set_option maxRecDepth 100000 in
theorem arSideP (p q r : Pn) (hp : Bd 100000 p) (hq : Bd 100000 q) (hr : Bd 100000 r) (w : World) :
    Calls Try.prog 54 #[pv p, pv q, pv r] w fun e w' => e = .returned (.int .i64 (Pn.sd p q r)) ∧ Below w.heap.size w w' := by
  rw [← cx_cr]
  go_enter Try.func54, Try.ntmps54
  go_wp2_with fail
  refine absW (F := fun W => (W.cell? ⟨w.heap.size, 0, none⟩ = some (.int .i64 (p).a) ∧ W.cell? ⟨w.heap.size, 1, none⟩ = some (.int .i64 (p).b) ∧ W.cell? ⟨w.heap.size, 2, none⟩ = some (.int .i64 (p).c) ∧ W.cell? ⟨w.heap.size, 3, none⟩ = some (.int .i64 (p).d)) ∧ (W.cell? ⟨w.heap.size + 1, 0, none⟩ = some (.int .i64 (q).a) ∧ W.cell? ⟨w.heap.size + 1, 1, none⟩ = some (.int .i64 (q).b) ∧ W.cell? ⟨w.heap.size + 1, 2, none⟩ = some (.int .i64 (q).c) ∧ W.cell? ⟨w.heap.size + 1, 3, none⟩ = some (.int .i64 (q).d)) ∧ (W.cell? ⟨w.heap.size + 1 + 1, 0, none⟩ = some (.int .i64 (r).a) ∧ W.cell? ⟨w.heap.size + 1 + 1, 1, none⟩ = some (.int .i64 (r).b) ∧ W.cell? ⟨w.heap.size + 1 + 1, 2, none⟩ = some (.int .i64 (r).c) ∧ W.cell? ⟨w.heap.size + 1 + 1, 3, none⟩ = some (.int .i64 (r).d)) ∧ Below w.heap.size w W ∧ W.heap.size = w.heap.size + 1 + 1 + 1) ⟨⟨by go_simp, by go_simp, by go_simp, by go_simp⟩, ⟨by go_simp, by go_simp, by go_simp, by go_simp⟩, ⟨by go_simp, by go_simp, by go_simp, by go_simp⟩, by go_grown, by first | (simp; done) | (simp; omega)⟩ ?_
  rintro W ⟨⟨c0_0, c0_1, c0_2, c0_3⟩, ⟨c1_0, c1_1, c1_2, c1_3⟩, ⟨c2_0, c2_1, c2_2, c2_3⟩, HB, hz⟩
  have k0_0 := fun d os => cell_regrown c0_0 d os
  have k0_1 := fun d os => cell_regrown c0_1 d os
  have k0_2 := fun d os => cell_regrown c0_2 d os
  have k0_3 := fun d os => cell_regrown c0_3 d os
  have k1_0 := fun d os => cell_regrown c1_0 d os
  have k1_1 := fun d os => cell_regrown c1_1 d os
  have k1_2 := fun d os => cell_regrown c1_2 d os
  have k1_3 := fun d os => cell_regrown c1_3 d os
  have k2_0 := fun d os => cell_regrown c2_0 d os
  have k2_1 := fun d os => cell_regrown c2_1 d os
  have k2_2 := fun d os => cell_regrown c2_2 d os
  have k2_3 := fun d os => cell_regrown c2_3 d os
  refine wp_region_quiet_below (by kernel_rfl) (by kernel_rfl) ?_
  repeat (quiet_step (first | (go_at_call 96; with_reducible exact Calls.regrown_of (spLessP q p (hq.mono (by omega)) (hp.mono (by omega)) _)) | (go_at_call 96; with_reducible exact Calls.regrown_of (spLessP r p (hr.mono (by omega)) (hp.mono (by omega)) _)) | (go_at_call 107; with_reducible exact Calls.regrown_of (arCrossP (q.sub p) (r.sub p) (hq.sub2 hp) (hr.sub2 hp) _)) | (go_at_call 106; with_reducible exact Calls.regrown_of (spSignP ((q.sub p).cx (r.sub p)) ((cx_bd (hq.sub2 hp) (hr.sub2 hp)).mono (by omega)) _))))
  refine wpQuiet_nil ?_
  rintro _ ⟨⟨dq, osq⟩, rfl⟩
  have hbw1 := below_regrown W dq osq
  generalize grow (redrawn W dq) osq = w1 at hbw1 ⊢
  obtain ⟨hcw1, hfw1⟩ := bcell hbw1
  have hlw1 := hbw1.size
  replace HB := ba HB hbw1
  go_wp2_with fail
  go_returns
  exact ⟨rfl, by go_grown⟩

set_option maxRecDepth 100000 in
theorem sideP (p q r : Pn) (hp : Bd 100000 p) (hq : Bd 100000 q) (hr : Bd 100000 r) (w : World) :
    Calls Try.prog 56 #[tv p q r] w fun e w' => e = .returned (.int .i64 (Pn.sd p q r)) ∧ Below w.heap.size w w' := by
  rw [← cx_cr]
  go_enter Try.func56, Try.ntmps56
  go_wp2_with fail
  refine absW (F := fun W => (W.cell? ⟨w.heap.size, 0, none⟩ = some (.int .i64 (p).a) ∧ W.cell? ⟨w.heap.size, 1, none⟩ = some (.int .i64 (p).b) ∧ W.cell? ⟨w.heap.size, 2, none⟩ = some (.int .i64 (p).c) ∧ W.cell? ⟨w.heap.size, 3, none⟩ = some (.int .i64 (p).d)) ∧ (W.cell? ⟨w.heap.size, 4, none⟩ = some (.int .i64 (q).a) ∧ W.cell? ⟨w.heap.size, 5, none⟩ = some (.int .i64 (q).b) ∧ W.cell? ⟨w.heap.size, 6, none⟩ = some (.int .i64 (q).c) ∧ W.cell? ⟨w.heap.size, 7, none⟩ = some (.int .i64 (q).d)) ∧ (W.cell? ⟨w.heap.size, 8, none⟩ = some (.int .i64 (r).a) ∧ W.cell? ⟨w.heap.size, 9, none⟩ = some (.int .i64 (r).b) ∧ W.cell? ⟨w.heap.size, 10, none⟩ = some (.int .i64 (r).c) ∧ W.cell? ⟨w.heap.size, 11, none⟩ = some (.int .i64 (r).d)) ∧ Below w.heap.size w W ∧ W.heap.size = w.heap.size + 1) ⟨⟨by go_simp, by go_simp, by go_simp, by go_simp⟩, ⟨by go_simp, by go_simp, by go_simp, by go_simp⟩, ⟨by go_simp, by go_simp, by go_simp, by go_simp⟩, by go_grown, by first | (simp; done) | (simp; omega)⟩ ?_
  rintro W ⟨⟨c0_0, c0_1, c0_2, c0_3⟩, ⟨c0_4, c0_5, c0_6, c0_7⟩, ⟨c0_8, c0_9, c0_10, c0_11⟩, HB, hz⟩
  have k0_0 := fun d os => cell_regrown c0_0 d os
  have k0_1 := fun d os => cell_regrown c0_1 d os
  have k0_2 := fun d os => cell_regrown c0_2 d os
  have k0_3 := fun d os => cell_regrown c0_3 d os
  have k0_4 := fun d os => cell_regrown c0_4 d os
  have k0_5 := fun d os => cell_regrown c0_5 d os
  have k0_6 := fun d os => cell_regrown c0_6 d os
  have k0_7 := fun d os => cell_regrown c0_7 d os
  have k0_8 := fun d os => cell_regrown c0_8 d os
  have k0_9 := fun d os => cell_regrown c0_9 d os
  have k0_10 := fun d os => cell_regrown c0_10 d os
  have k0_11 := fun d os => cell_regrown c0_11 d os
  refine wp_region_quiet_below (by kernel_rfl) (by kernel_rfl) ?_
  repeat (quiet_step (first | (go_at_call 110; with_reducible exact Calls.regrown_of (imLessP q p (hq.mono (by omega)) (hp.mono (by omega)) _)) | (go_at_call 110; with_reducible exact Calls.regrown_of (imLessP r p (hr.mono (by omega)) (hp.mono (by omega)) _)) | (go_at_call 109; with_reducible exact Calls.regrown_of (twiceCrossP (q.sub p) (r.sub p) (hq.sub2 hp) (hr.sub2 hp) _)) | (go_at_call 111; with_reducible exact Calls.regrown_of (imSignP ((q.sub p).cx (r.sub p)) ((cx_bd (hq.sub2 hp) (hr.sub2 hp)).mono (by omega)) _))))
  refine wpQuiet_nil ?_
  rintro _ ⟨⟨dq, osq⟩, rfl⟩
  have hbw1 := below_regrown W dq osq
  generalize grow (redrawn W dq) osq = w1 at hbw1 ⊢
  obtain ⟨hcw1, hfw1⟩ := bcell hbw1
  have hlw1 := hbw1.size
  replace HB := ba HB hbw1
  go_wp2_with fail
  go_returns
  exact ⟨rfl, by go_grown⟩

end Go.Proofs.Ytppbbcckijcckaa

/- Points in a row of memory; which of them are places, in the model and in the program. -/
namespace Go.Proofs.Ytppbbcckijcckaa
open Go.ChangeShapes Go.WideShapes Go.ChangeAt Go.RowKit Go.Sort

set_option linter.unusedVariables false
set_option linter.unusedSimpArgs false

/-- The points l lie at block g. -/
def RowP (w : World) (g : Nat) (l : List Pn) : Prop :=
  ∀ (k : Nat) (p : Pn), l[k]? = some p → w.cell? ⟨g, k * 4, none⟩ = some (.int .i64 p.a) ∧ w.cell? ⟨g, k * 4 + 1, none⟩ = some (.int .i64 p.b) ∧ w.cell? ⟨g, k * 4 + 2, none⟩ = some (.int .i64 p.c) ∧ w.cell? ⟨g, k * 4 + 3, none⟩ = some (.int .i64 p.d)

theorem RowP.below {w w' : World} {g n : Nat} {l : List Pn} (h : RowP w g l) (hg : g < n) (hb : Below n w w') : RowP w' g l := fun k p hp => by
  obtain ⟨a, b, c, d⟩ := h k p hp
  exact ⟨by rw [hb.cell (p := ⟨g, k * 4, none⟩) hg]; exact a, by rw [hb.cell (p := ⟨g, k * 4 + 1, none⟩) hg]; exact b, by rw [hb.cell (p := ⟨g, k * 4 + 2, none⟩) hg]; exact c, by rw [hb.cell (p := ⟨g, k * 4 + 3, none⟩) hg]; exact d⟩

theorem rowP1 {w : World} {g : Nat} {p : Pn} (h0 : w.cell? ⟨g, 0, none⟩ = some (.int .i64 p.a)) (h1 : w.cell? ⟨g, 1, none⟩ = some (.int .i64 p.b)) (h2 : w.cell? ⟨g, 2, none⟩ = some (.int .i64 p.c)) (h3 : w.cell? ⟨g, 3, none⟩ = some (.int .i64 p.d)) : RowP w g [p] := fun k x hx => by
  match k, hx with
  | 0, hx =>
    obtain rfl : p = x := by simpa using hx
    exact ⟨h0, h1, h2, h3⟩
  | k + 1, hx => simp at hx

theorem rowP2 {w : World} {g : Nat} {p q : Pn} (h0 : w.cell? ⟨g, 0, none⟩ = some (.int .i64 p.a)) (h1 : w.cell? ⟨g, 1, none⟩ = some (.int .i64 p.b)) (h2 : w.cell? ⟨g, 2, none⟩ = some (.int .i64 p.c)) (h3 : w.cell? ⟨g, 3, none⟩ = some (.int .i64 p.d)) (h4 : w.cell? ⟨g, 4, none⟩ = some (.int .i64 q.a)) (h5 : w.cell? ⟨g, 5, none⟩ = some (.int .i64 q.b)) (h6 : w.cell? ⟨g, 6, none⟩ = some (.int .i64 q.c)) (h7 : w.cell? ⟨g, 7, none⟩ = some (.int .i64 q.d)) : RowP w g [p, q] := fun k x hx => by
  match k, hx with
  | 0, hx =>
    obtain rfl : p = x := by simpa using hx
    exact ⟨h0, h1, h2, h3⟩
  | 1, hx =>
    obtain rfl : q = x := by simpa using hx
    exact ⟨h4, h5, h6, h7⟩
  | k + 2, hx => simp at hx

theorem rowP3 {w : World} {g : Nat} {p q r : Pn} (h0 : w.cell? ⟨g, 0, none⟩ = some (.int .i64 p.a)) (h1 : w.cell? ⟨g, 1, none⟩ = some (.int .i64 p.b)) (h2 : w.cell? ⟨g, 2, none⟩ = some (.int .i64 p.c)) (h3 : w.cell? ⟨g, 3, none⟩ = some (.int .i64 p.d)) (h4 : w.cell? ⟨g, 4, none⟩ = some (.int .i64 q.a)) (h5 : w.cell? ⟨g, 5, none⟩ = some (.int .i64 q.b)) (h6 : w.cell? ⟨g, 6, none⟩ = some (.int .i64 q.c)) (h7 : w.cell? ⟨g, 7, none⟩ = some (.int .i64 q.d)) (h8 : w.cell? ⟨g, 8, none⟩ = some (.int .i64 r.a)) (h9 : w.cell? ⟨g, 9, none⟩ = some (.int .i64 r.b)) (h10 : w.cell? ⟨g, 10, none⟩ = some (.int .i64 r.c)) (h11 : w.cell? ⟨g, 11, none⟩ = some (.int .i64 r.d)) : RowP w g [p, q, r] := fun k x hx => by
  match k, hx with
  | 0, hx =>
    obtain rfl : p = x := by simpa using hx
    exact ⟨h0, h1, h2, h3⟩
  | 1, hx =>
    obtain rfl : q = x := by simpa using hx
    exact ⟨h4, h5, h6, h7⟩
  | 2, hx =>
    obtain rfl : r = x := by simpa using hx
    exact ⟨h8, h9, h10, h11⟩
  | k + 3, hx => simp at hx

theorem rowP4 {w : World} {g : Nat} {p q r s : Pn} (h0 : w.cell? ⟨g, 0, none⟩ = some (.int .i64 p.a)) (h1 : w.cell? ⟨g, 1, none⟩ = some (.int .i64 p.b)) (h2 : w.cell? ⟨g, 2, none⟩ = some (.int .i64 p.c)) (h3 : w.cell? ⟨g, 3, none⟩ = some (.int .i64 p.d)) (h4 : w.cell? ⟨g, 4, none⟩ = some (.int .i64 q.a)) (h5 : w.cell? ⟨g, 5, none⟩ = some (.int .i64 q.b)) (h6 : w.cell? ⟨g, 6, none⟩ = some (.int .i64 q.c)) (h7 : w.cell? ⟨g, 7, none⟩ = some (.int .i64 q.d)) (h8 : w.cell? ⟨g, 8, none⟩ = some (.int .i64 r.a)) (h9 : w.cell? ⟨g, 9, none⟩ = some (.int .i64 r.b)) (h10 : w.cell? ⟨g, 10, none⟩ = some (.int .i64 r.c)) (h11 : w.cell? ⟨g, 11, none⟩ = some (.int .i64 r.d)) (h12 : w.cell? ⟨g, 12, none⟩ = some (.int .i64 s.a)) (h13 : w.cell? ⟨g, 13, none⟩ = some (.int .i64 s.b)) (h14 : w.cell? ⟨g, 14, none⟩ = some (.int .i64 s.c)) (h15 : w.cell? ⟨g, 15, none⟩ = some (.int .i64 s.d)) : RowP w g [p, q, r, s] := fun k x hx => by
  match k, hx with
  | 0, hx =>
    obtain rfl : p = x := by simpa using hx
    exact ⟨h0, h1, h2, h3⟩
  | 1, hx =>
    obtain rfl : q = x := by simpa using hx
    exact ⟨h4, h5, h6, h7⟩
  | 2, hx =>
    obtain rfl : r = x := by simpa using hx
    exact ⟨h8, h9, h10, h11⟩
  | 3, hx =>
    obtain rfl : s = x := by simpa using hx
    exact ⟨h12, h13, h14, h15⟩
  | k + 4, hx => simp at hx

def plB (p : Pn) : Bool := inB p.a (-100000) 100000 && (inB p.b (-100000) 100000 && (inB p.c (-100000) 100000 && inB p.d (-100000) 100000))

theorem plB_bd {p : Pn} (h : plB p = true) : Bd 100000 p := by
  unfold plB inB at h
  simp only [Bool.and_eq_true, decide_eq_true_eq] at h
  exact h

theorem bd_plB {p : Pn} (h : Bd 100000 p) : plB p = true := by
  unfold plB inB
  simp only [Bool.and_eq_true, decide_eq_true_eq]
  exact h

set_option maxRecDepth 100000 in
theorem arGoodP (p : Pn) (w : World) :
    Calls Try.prog 53 #[pv p] w fun e w' => e = .returned (.bool (plB p)) ∧ Below w.heap.size w w' := by
  go_enter Try.func53, Try.ntmps53
  go_wp2_with (go_at_call 105; refine (l1All4_any p.a p.b p.c p.d _ _ _ _ (by go_simp) (by go_simp) (by go_simp) (by go_simp)).mono ?_; rintro e w' ⟨rfl, rfl⟩)
  go_returns
  exact ⟨rfl, by go_grown⟩

set_option maxRecDepth 100000 in
set_option maxHeartbeats 1600000 in
theorem arePlacesP (g n cap : Nat) (l : List Pn) (hn : l.length = n) (hb : n ≤ 1000000) (w : World) (hg : g < w.heap.size) (h1 : RowP w g l) :
    Calls Try.prog 55 #[.slice (some ⟨g, 0, none⟩) n cap] w fun e w' => e = .returned (.bool (l.all plB)) ∧ Below w.heap.size w w' := by
  have HN := Lib.hid hn
  have H1 := Lib.hid h1
  clear hn h1
  go_enter Try.func55, Try.ntmps55
  go_wp2_with fail
  go_loopw [7] (fun i wr => ∃ k : Nat, k ≤ n ∧ i = .int .i64 k ∧ (l.take k).all plB = true ∧ Below w.heap.size w wr) (fun i _ => n - (intOf i).toNat)
  case atStart => exact ⟨0, Nat.zero_le _, rfl, by simp, Below.refl _ _⟩
  case round =>
    obtain ⟨k, hk, rfl, hA, hB⟩ := hrel
    have HA := Lib.hid hA
    clear hA
    by_cases hlt : k < n
    · obtain ⟨p, hp⟩ : ∃ p, l[k]? = some p := ⟨_, List.getElem?_eq_getElem (by rw [HN.out]; exact hlt)⟩
      obtain ⟨c0, c1, c2, c3⟩ := (H1.out.below hg hB) k p hp
      have hz := hB.size
      have HP := Lib.hid hp
      clear hp
      have j1 : (0 : Int) ≤ (k : Int) := by omega
      have j2 : (k : Int) < (n : Int) := by omega
      have hS : (l.take (k + 1)).all plB = plB p := by
        rw [List.take_add_one, HP.out]; simp [HA.out]
      have hF : plB p = false → l.all plB = false := fun h => by
        rw [List.all_eq_false]; exact ⟨p, List.mem_of_getElem? HP.out, by simp [h]⟩
      have HS := Lib.hid hS
      have HF := Lib.hid hF
      clear hS hF
      cases b0 : inB p.a (-100000) 100000 <;> cases b1 : inB p.b (-100000) 100000 <;> cases b2 : inB p.c (-100000) 100000 <;> cases b3 : inB p.d (-100000) 100000
      all_goals
        go_wp2_with (go_at_call 108; refine (isWithin_any _ 100000 (by omega) (by omega) _).mono ?_; rintro e w' ⟨rfl, rfl⟩)
        first
          | (go_ret; exact ⟨by rw [HF.out (by simp [plB, *])]; rfl, by go_grown⟩)
          | (go_roundw
             case rel => exact ⟨k + 1, by omega, by go_num, by rw [HS.out]; simp [plB, *], by go_grown⟩
             case measure => simp [intOf]; omega)
    · have hkn : k = n := by omega
      have hr : l.all plB = true := by
        have := HA.out
        rw [hkn, ← HN.out, List.take_length] at this
        exact this
      go_wp2_with fail
      go_ret
      exact ⟨by rw [hr]; rfl, hB⟩

end Go.Proofs.Ytppbbcckijcckaa

/- The walk of a region that draws, behind a structure: so that nothing unfolds it (operations that a guard leaves out would be reckoned through at once). -/
namespace Go.Proofs.Ytppbbcckijcckaa
open Go.ChangeShapes Go.WideShapes Go.ChangeAt Go.RowKit Go.Sort

structure WQ (P : Program) (ops : Array Oper) (C : World → Prop) (Q : Act → Prop) (l : List Oper) (a : Act) : Prop where
  out : wpQuiet P ops C Q l a

theorem WQ.nil {P : Program} {ops : Array Oper} {C : World → Prop} {Q : Act → Prop} {a : Act} (h : Q a) : WQ P ops C Q [] a := ⟨wpQuiet_nil h⟩

theorem WQ.step {P : Program} {ops : Array Oper} {C : World → Prop} {Q : Act → Prop} {a : Act} {o : Oper} {rest : List Oper}
    (h : ∀ K : Act → Prop, (∀ a, WQ P ops C Q rest a → K a) → if Region.wanted o (yielded ops a.tmps) then o.quiet P a C K else K (a.put o.dst undef)) : WQ P ops C Q (o :: rest) a :=
  ⟨wpQuiet_step fun K hK => h K fun a ha => hK a ha.out⟩

theorem wq_region {P : Program} {id : Nat} {Q : Exit → Act → World → Prop} {a : Act} {w : World} {l : List Oper} (hm : P.follows .mixedOrders = true) (hB : Region.lexB .any l.toArray = true)
    (h : WQ P l.toArray (fun w' => ∃ p : Regrown, w' = grow (redrawn w p.d) p.os) (fun a' => ∀ w', (∃ p : Regrown, w' = grow (redrawn w p.d) p.os) → Q .normal a' w') l a) : (Code.region id l.toArray true).wp P Q a w :=
  wp_region_quiet_below hm hB h.out

theorem wq_region_tail {P : Program} {id : Nat} {Q : Exit → Act → World → Prop} {a : Act} {w : World} {l : List Oper} (n : Nat) (hm : P.follows .mixedOrders = true) (hB : Region.lexTailB .any l.toArray n = true)
    (h : WQ P l.toArray (fun w' => ∃ p : Regrown, w' = grow (redrawn w p.d) p.os) (fun a' => ∀ w', (∃ p : Regrown, w' = grow (redrawn w p.d) p.os) → wpList P l.toArray Q (l.drop n) a' w') (l.take n) a) : (Code.region id l.toArray true).wp P Q a w :=
  region_below_tail n hm hB h.out

end Go.Proofs.Ytppbbcckijcckaa

/- Contracts: points on pieces and pieces that meet, in the model. -/
namespace Go.Proofs.Ytppbbcckijcckaa
open Go.ChangeShapes Go.WideShapes Go.ChangeAt Go.RowKit Go.Sort

set_option linter.unusedVariables false
set_option linter.unusedSimpArgs false

/-- The ends of the second piece are on both sides of the first one. -/
def spl (a b c d : Pn) : Bool := decide (Pn.sd a b c * Pn.sd a b d < 0)

/-- Two pieces have a point in common. -/
def shr (a b c d : Pn) : Bool := (spl a b c d && spl c d a b) || (Pn.btw a b c || (Pn.btw a b d || (Pn.btw c d a || Pn.btw c d b)))

theorem sd_three (p q r : Pn) : Pn.sd p q r = 1 ∨ Pn.sd p q r = 0 ∨ Pn.sd p q r = -1 := Su.sn_three _

theorem sd_mul (p q r a b c : Pn) : wrap64 (Pn.sd p q r * Pn.sd a b c) = Pn.sd p q r * Pn.sd a b c := by
  rcases sd_three p q r with h | h | h <;> rcases sd_three a b c with k | k | k <;> rw [h, k] <;> exact w64p _ (by decide) (by decide)

theorem sd_mul3 (p q r a b c : Pn) : Pn.sd p q r * Pn.sd a b c = 1 ∨ Pn.sd p q r * Pn.sd a b c = 0 ∨ Pn.sd p q r * Pn.sd a b c = -1 := by
  rcases sd_three p q r with h | h | h <;> rcases sd_three a b c with k | k | k <;> rw [h, k] <;> decide

theorem sd_mulK (p q r a b c : Pn) : IntKind.i64.wrap (Pn.sd p q r * Pn.sd a b c) = Pn.sd p q r * Pn.sd a b c := by
  rcases sd_three p q r with h | h | h <;> rcases sd_three a b c with k | k | k <;> rw [h, k] <;> rfl

set_option maxRecDepth 100000 in
set_option maxHeartbeats 800000 in
theorem arBetweenP (p q r : Pn) (hp : Bd 100000 p) (hq : Bd 100000 q) (hr : Bd 100000 r) (w : World) :
    Calls Try.prog 57 #[pv p, pv q, pv r] w fun e w' => e = .returned (.bool (Pn.btw p q r)) ∧ Below w.heap.size w w' := by
  have b1 : Bd 200000 (p.sub r) := hp.sub2 hr
  have b2 : Bd 200000 (q.sub r) := hq.sub2 hr
  have S := arSideP p q r hp hq hr
  have G := spSignP ((p.sub r).mir.mul (q.sub r)).tx ((dx_bd b1 b2).mono (by omega))
  rw [show ((p.sub r).mir.mul (q.sub r)).tx.sn = Pn.dn r p q from dx_dn p q r] at G
  by_cases h0 : Pn.sd p q r = 0
  · have e : Pn.btw p q r = decide (Pn.dn r p q ≤ 0) := by simp [Pn.btw, h0]
    rw [e]
    go_enter Try.func57, Try.ntmps57
    go_wp2_with fail
    refine absW (F := fun W => (W.cell? ⟨w.heap.size, 0, none⟩ = some (.int .i64 (p).a) ∧ W.cell? ⟨w.heap.size, 1, none⟩ = some (.int .i64 (p).b) ∧ W.cell? ⟨w.heap.size, 2, none⟩ = some (.int .i64 (p).c) ∧ W.cell? ⟨w.heap.size, 3, none⟩ = some (.int .i64 (p).d)) ∧ (W.cell? ⟨w.heap.size + 1, 0, none⟩ = some (.int .i64 (q).a) ∧ W.cell? ⟨w.heap.size + 1, 1, none⟩ = some (.int .i64 (q).b) ∧ W.cell? ⟨w.heap.size + 1, 2, none⟩ = some (.int .i64 (q).c) ∧ W.cell? ⟨w.heap.size + 1, 3, none⟩ = some (.int .i64 (q).d)) ∧ (W.cell? ⟨w.heap.size + 1 + 1, 0, none⟩ = some (.int .i64 (r).a) ∧ W.cell? ⟨w.heap.size + 1 + 1, 1, none⟩ = some (.int .i64 (r).b) ∧ W.cell? ⟨w.heap.size + 1 + 1, 2, none⟩ = some (.int .i64 (r).c) ∧ W.cell? ⟨w.heap.size + 1 + 1, 3, none⟩ = some (.int .i64 (r).d)) ∧ Below w.heap.size w W ∧ W.heap.size = w.heap.size + 1 + 1 + 1) ⟨⟨by go_simp, by go_simp, by go_simp, by go_simp⟩, ⟨by go_simp, by go_simp, by go_simp, by go_simp⟩, ⟨by go_simp, by go_simp, by go_simp, by go_simp⟩, by go_grown, by first | (simp; done) | (simp; omega)⟩ ?_
    rintro W ⟨⟨c0_0, c0_1, c0_2, c0_3⟩, ⟨c1_0, c1_1, c1_2, c1_3⟩, ⟨c2_0, c2_1, c2_2, c2_3⟩, HB, hz⟩
    have k0_0 := fun d os => cell_regrown c0_0 d os
    have k0_1 := fun d os => cell_regrown c0_1 d os
    have k0_2 := fun d os => cell_regrown c0_2 d os
    have k0_3 := fun d os => cell_regrown c0_3 d os
    have k1_0 := fun d os => cell_regrown c1_0 d os
    have k1_1 := fun d os => cell_regrown c1_1 d os
    have k1_2 := fun d os => cell_regrown c1_2 d os
    have k1_3 := fun d os => cell_regrown c1_3 d os
    have k2_0 := fun d os => cell_regrown c2_0 d os
    have k2_1 := fun d os => cell_regrown c2_1 d os
    have k2_2 := fun d os => cell_regrown c2_2 d os
    have k2_3 := fun d os => cell_regrown c2_3 d os
    refine wp_region_quiet_below (by kernel_rfl) (by kernel_rfl) ?_
    repeat (quiet_step (first | (go_at_call 54; with_reducible exact Calls.regrown_of (S _)) | (go_at_call 96; with_reducible exact Calls.regrown_of (spLessP p r (hp.mono (by omega)) (hr.mono (by omega)) _)) | (go_at_call 96; with_reducible exact Calls.regrown_of (spLessP q r (hq.mono (by omega)) (hr.mono (by omega)) _)) | (go_at_call 112; with_reducible exact Calls.regrown_of (arProductP (p.sub r) (q.sub r) (b1.mono (by omega)) (b2.mono (by omega)) _)) | (go_at_call 73; with_reducible exact Calls.regrown_of (spXP ((p.sub r).mir.mul (q.sub r)) ((b1.mir_bd.mul_bd b2).mono (by omega)) _)) | (go_at_call 106; with_reducible exact Calls.regrown_of (G _))))
    refine wpQuiet_nil ?_
    rintro _ ⟨⟨dq, osq⟩, rfl⟩
    have hbw1 := below_regrown W dq osq
    generalize grow (redrawn W dq) osq = w1 at hbw1 ⊢
    obtain ⟨hcw1, hfw1⟩ := bcell hbw1
    have hlw1 := hbw1.size
    replace HB := ba HB hbw1
    go_wp2_with fail
    go_returns
    exact ⟨rfl, by go_grown⟩
  · have e : Pn.btw p q r = false := by simp [Pn.btw, h0]
    rw [e]
    go_enter Try.func57, Try.ntmps57
    go_wp2_with fail
    refine absW (F := fun W => (W.cell? ⟨w.heap.size, 0, none⟩ = some (.int .i64 (p).a) ∧ W.cell? ⟨w.heap.size, 1, none⟩ = some (.int .i64 (p).b) ∧ W.cell? ⟨w.heap.size, 2, none⟩ = some (.int .i64 (p).c) ∧ W.cell? ⟨w.heap.size, 3, none⟩ = some (.int .i64 (p).d)) ∧ (W.cell? ⟨w.heap.size + 1, 0, none⟩ = some (.int .i64 (q).a) ∧ W.cell? ⟨w.heap.size + 1, 1, none⟩ = some (.int .i64 (q).b) ∧ W.cell? ⟨w.heap.size + 1, 2, none⟩ = some (.int .i64 (q).c) ∧ W.cell? ⟨w.heap.size + 1, 3, none⟩ = some (.int .i64 (q).d)) ∧ (W.cell? ⟨w.heap.size + 1 + 1, 0, none⟩ = some (.int .i64 (r).a) ∧ W.cell? ⟨w.heap.size + 1 + 1, 1, none⟩ = some (.int .i64 (r).b) ∧ W.cell? ⟨w.heap.size + 1 + 1, 2, none⟩ = some (.int .i64 (r).c) ∧ W.cell? ⟨w.heap.size + 1 + 1, 3, none⟩ = some (.int .i64 (r).d)) ∧ Below w.heap.size w W ∧ W.heap.size = w.heap.size + 1 + 1 + 1) ⟨⟨by go_simp, by go_simp, by go_simp, by go_simp⟩, ⟨by go_simp, by go_simp, by go_simp, by go_simp⟩, ⟨by go_simp, by go_simp, by go_simp, by go_simp⟩, by go_grown, by first | (simp; done) | (simp; omega)⟩ ?_
    rintro W ⟨⟨c0_0, c0_1, c0_2, c0_3⟩, ⟨c1_0, c1_1, c1_2, c1_3⟩, ⟨c2_0, c2_1, c2_2, c2_3⟩, HB, hz⟩
    have k0_0 := fun d os => cell_regrown c0_0 d os
    have k0_1 := fun d os => cell_regrown c0_1 d os
    have k0_2 := fun d os => cell_regrown c0_2 d os
    have k0_3 := fun d os => cell_regrown c0_3 d os
    have k1_0 := fun d os => cell_regrown c1_0 d os
    have k1_1 := fun d os => cell_regrown c1_1 d os
    have k1_2 := fun d os => cell_regrown c1_2 d os
    have k1_3 := fun d os => cell_regrown c1_3 d os
    have k2_0 := fun d os => cell_regrown c2_0 d os
    have k2_1 := fun d os => cell_regrown c2_1 d os
    have k2_2 := fun d os => cell_regrown c2_2 d os
    have k2_3 := fun d os => cell_regrown c2_3 d os
    refine wp_region_quiet_below (by kernel_rfl) (by kernel_rfl) ?_
    repeat (quiet_step (first | (go_at_call 54; with_reducible exact Calls.regrown_of (S _))))
    refine wpQuiet_nil ?_
    rintro _ ⟨⟨dq, osq⟩, rfl⟩
    have hbw1 := below_regrown W dq osq
    generalize grow (redrawn W dq) osq = w1 at hbw1 ⊢
    obtain ⟨hcw1, hfw1⟩ := bcell hbw1
    have hlw1 := hbw1.size
    replace HB := ba HB hbw1
    go_wp2_with fail
    go_returns
    exact ⟨rfl, by go_grown⟩

set_option maxRecDepth 100000 in
set_option maxHeartbeats 6400000 in
theorem arShareP (p q r s : Pn) (hp : Bd 100000 p) (hq : Bd 100000 q) (hr : Bd 100000 r) (hs : Bd 100000 s) (w : World) :
    Calls Try.prog 59 #[pv p, pv q, pv r, pv s] w fun e w' => e = .returned (.bool (shr p q r s)) ∧ Below w.heap.size w w' := by
  have B1 := arBetweenP p q r hp hq hr
  have B2 := arBetweenP p q s hp hq hs
  have B3 := arBetweenP r s p hr hs hp
  have B4 := arBetweenP r s q hr hs hq
  have S1 := arSideP p q r hp hq hr
  have S2 := arSideP p q s hp hq hs
  have S3 := arSideP r s p hr hs hp
  have S4 := arSideP r s q hr hs hq
  have m1 : IntKind.i64.wrap (Pn.sd p q r * Pn.sd p q s) = _ := sd_mulK p q r p q s
  have m2 : IntKind.i64.wrap (Pn.sd r s p * Pn.sd r s q) = _ := sd_mulK r s p r s q
  have hB := shr.eq_1 p q r s
  generalize Pn.btw p q r = b1 at *
  generalize Pn.btw p q s = b2 at *
  generalize Pn.btw r s p = b3 at *
  generalize Pn.btw r s q = b4 at *
  rw [hB]
  unfold spl
  clear hB hp hq hr hs
  obtain ⟨t0, ht0⟩ : ∃ t, Pn.sd p q r * Pn.sd p q s = t := ⟨_, rfl⟩
  obtain ⟨t1, ht1⟩ : ∃ t, Pn.sd r s p * Pn.sd r s q = t := ⟨_, rfl⟩
  rw [ht0, ht1]
  replace m1 := m1.trans ht0
  replace m2 := m2.trans ht1
  clear ht0 ht1
  go_enter Try.func59, Try.ntmps59
  go_upto_region 1 with fail
  go_cut [30] (fun s30 wx => s30 = .bool (b1 || (b2 || (b3 || b4))) ∧ (wx.cell? ⟨w.heap.size, 0, none⟩ = some (.int .i64 (p).a) ∧ wx.cell? ⟨w.heap.size, 1, none⟩ = some (.int .i64 (p).b) ∧ wx.cell? ⟨w.heap.size, 2, none⟩ = some (.int .i64 (p).c) ∧ wx.cell? ⟨w.heap.size, 3, none⟩ = some (.int .i64 (p).d)) ∧ (wx.cell? ⟨w.heap.size + 1, 0, none⟩ = some (.int .i64 (q).a) ∧ wx.cell? ⟨w.heap.size + 1, 1, none⟩ = some (.int .i64 (q).b) ∧ wx.cell? ⟨w.heap.size + 1, 2, none⟩ = some (.int .i64 (q).c) ∧ wx.cell? ⟨w.heap.size + 1, 3, none⟩ = some (.int .i64 (q).d)) ∧ (wx.cell? ⟨w.heap.size + 1 + 1, 0, none⟩ = some (.int .i64 (r).a) ∧ wx.cell? ⟨w.heap.size + 1 + 1, 1, none⟩ = some (.int .i64 (r).b) ∧ wx.cell? ⟨w.heap.size + 1 + 1, 2, none⟩ = some (.int .i64 (r).c) ∧ wx.cell? ⟨w.heap.size + 1 + 1, 3, none⟩ = some (.int .i64 (r).d)) ∧ (wx.cell? ⟨w.heap.size + 1 + 1 + 1, 0, none⟩ = some (.int .i64 (s).a) ∧ wx.cell? ⟨w.heap.size + 1 + 1 + 1, 1, none⟩ = some (.int .i64 (s).b) ∧ wx.cell? ⟨w.heap.size + 1 + 1 + 1, 2, none⟩ = some (.int .i64 (s).c) ∧ wx.cell? ⟨w.heap.size + 1 + 1 + 1, 3, none⟩ = some (.int .i64 (s).d)) ∧ Below w.heap.size w wx ∧ w.heap.size + 4 ≤ wx.heap.size)
  case first =>
    cases b1
    case true =>
      go_wp2_with (first | (go_at_call 57; (with_reducible refine (B1 _).mono ?_); rintro e wA ⟨rfl, h1⟩; (try with_reducible replace h1 := undrew h1); have hB : Below w.heap.size w wA := ba (by go_grown) h1; obtain ⟨hcwA, hfwA⟩ := bcell h1; have hqwA := h1.size; (try simp at hqwA); (try have hz0wA : w.heap.size < wA.heap.size := (by omega)); (try have he0wA : w.heap.size ≤ wA.heap.size := (by omega)); (try have hz1wA : w.heap.size + 1 < wA.heap.size := (by omega)); (try have he1wA : w.heap.size + 1 ≤ wA.heap.size := (by omega)); (try have hz2wA : w.heap.size + 1 + 1 < wA.heap.size := (by omega)); (try have he2wA : w.heap.size + 1 + 1 ≤ wA.heap.size := (by omega)); (try have hz3wA : w.heap.size + 1 + 1 + 1 < wA.heap.size := (by omega)); (try have he3wA : w.heap.size + 1 + 1 + 1 ≤ wA.heap.size := (by omega))) | (go_at_call 57; (with_reducible refine (B2 _).mono ?_); rintro e wB ⟨rfl, h1⟩; (try with_reducible replace h1 := undrew h1); have hB : Below w.heap.size w wB := ba (by go_grown) h1; obtain ⟨hcwB, hfwB⟩ := bcell h1; have hqwB := h1.size; (try simp at hqwB); (try have hz0wB : w.heap.size < wB.heap.size := (by omega)); (try have he0wB : w.heap.size ≤ wB.heap.size := (by omega)); (try have hz1wB : w.heap.size + 1 < wB.heap.size := (by omega)); (try have he1wB : w.heap.size + 1 ≤ wB.heap.size := (by omega)); (try have hz2wB : w.heap.size + 1 + 1 < wB.heap.size := (by omega)); (try have he2wB : w.heap.size + 1 + 1 ≤ wB.heap.size := (by omega)); (try have hz3wB : w.heap.size + 1 + 1 + 1 < wB.heap.size := (by omega)); (try have he3wB : w.heap.size + 1 + 1 + 1 ≤ wB.heap.size := (by omega))) | (go_at_call 57; (with_reducible refine (B3 _).mono ?_); rintro e wC ⟨rfl, h1⟩; (try with_reducible replace h1 := undrew h1); have hB : Below w.heap.size w wC := ba (by go_grown) h1; obtain ⟨hcwC, hfwC⟩ := bcell h1; have hqwC := h1.size; (try simp at hqwC); (try have hz0wC : w.heap.size < wC.heap.size := (by omega)); (try have he0wC : w.heap.size ≤ wC.heap.size := (by omega)); (try have hz1wC : w.heap.size + 1 < wC.heap.size := (by omega)); (try have he1wC : w.heap.size + 1 ≤ wC.heap.size := (by omega)); (try have hz2wC : w.heap.size + 1 + 1 < wC.heap.size := (by omega)); (try have he2wC : w.heap.size + 1 + 1 ≤ wC.heap.size := (by omega)); (try have hz3wC : w.heap.size + 1 + 1 + 1 < wC.heap.size := (by omega)); (try have he3wC : w.heap.size + 1 + 1 + 1 ≤ wC.heap.size := (by omega))) | (go_at_call 57; (with_reducible refine (B4 _).mono ?_); rintro e wD ⟨rfl, h1⟩; (try with_reducible replace h1 := undrew h1); have hB : Below w.heap.size w wD := ba (by go_grown) h1; obtain ⟨hcwD, hfwD⟩ := bcell h1; have hqwD := h1.size; (try simp at hqwD); (try have hz0wD : w.heap.size < wD.heap.size := (by omega)); (try have he0wD : w.heap.size ≤ wD.heap.size := (by omega)); (try have hz1wD : w.heap.size + 1 < wD.heap.size := (by omega)); (try have he1wD : w.heap.size + 1 ≤ wD.heap.size := (by omega)); (try have hz2wD : w.heap.size + 1 + 1 < wD.heap.size := (by omega)); (try have he2wD : w.heap.size + 1 + 1 ≤ wD.heap.size := (by omega)); (try have hz3wD : w.heap.size + 1 + 1 + 1 < wD.heap.size := (by omega)); (try have he3wD : w.heap.size + 1 + 1 + 1 ≤ wD.heap.size := (by omega))))
      go_meet
      exact ⟨by simp, ⟨by go_simp, by go_simp, by go_simp, by go_simp⟩, ⟨by go_simp, by go_simp, by go_simp, by go_simp⟩, ⟨by go_simp, by go_simp, by go_simp, by go_simp⟩, ⟨by go_simp, by go_simp, by go_simp, by go_simp⟩, by go_grown, by omega⟩
    cases b2
    case true =>
      go_wp2_with (first | (go_at_call 57; (with_reducible refine (B1 _).mono ?_); rintro e wA ⟨rfl, h1⟩; (try with_reducible replace h1 := undrew h1); have hB : Below w.heap.size w wA := ba (by go_grown) h1; obtain ⟨hcwA, hfwA⟩ := bcell h1; have hqwA := h1.size; (try simp at hqwA); (try have hz0wA : w.heap.size < wA.heap.size := (by omega)); (try have he0wA : w.heap.size ≤ wA.heap.size := (by omega)); (try have hz1wA : w.heap.size + 1 < wA.heap.size := (by omega)); (try have he1wA : w.heap.size + 1 ≤ wA.heap.size := (by omega)); (try have hz2wA : w.heap.size + 1 + 1 < wA.heap.size := (by omega)); (try have he2wA : w.heap.size + 1 + 1 ≤ wA.heap.size := (by omega)); (try have hz3wA : w.heap.size + 1 + 1 + 1 < wA.heap.size := (by omega)); (try have he3wA : w.heap.size + 1 + 1 + 1 ≤ wA.heap.size := (by omega))) | (go_at_call 57; (with_reducible refine (B2 _).mono ?_); rintro e wB ⟨rfl, h1⟩; (try with_reducible replace h1 := undrew h1); have hB : Below w.heap.size w wB := ba (by go_grown) h1; obtain ⟨hcwB, hfwB⟩ := bcell h1; have hqwB := h1.size; (try simp at hqwB); (try have hz0wB : w.heap.size < wB.heap.size := (by omega)); (try have he0wB : w.heap.size ≤ wB.heap.size := (by omega)); (try have hz1wB : w.heap.size + 1 < wB.heap.size := (by omega)); (try have he1wB : w.heap.size + 1 ≤ wB.heap.size := (by omega)); (try have hz2wB : w.heap.size + 1 + 1 < wB.heap.size := (by omega)); (try have he2wB : w.heap.size + 1 + 1 ≤ wB.heap.size := (by omega)); (try have hz3wB : w.heap.size + 1 + 1 + 1 < wB.heap.size := (by omega)); (try have he3wB : w.heap.size + 1 + 1 + 1 ≤ wB.heap.size := (by omega))) | (go_at_call 57; (with_reducible refine (B3 _).mono ?_); rintro e wC ⟨rfl, h1⟩; (try with_reducible replace h1 := undrew h1); have hB : Below w.heap.size w wC := ba (by go_grown) h1; obtain ⟨hcwC, hfwC⟩ := bcell h1; have hqwC := h1.size; (try simp at hqwC); (try have hz0wC : w.heap.size < wC.heap.size := (by omega)); (try have he0wC : w.heap.size ≤ wC.heap.size := (by omega)); (try have hz1wC : w.heap.size + 1 < wC.heap.size := (by omega)); (try have he1wC : w.heap.size + 1 ≤ wC.heap.size := (by omega)); (try have hz2wC : w.heap.size + 1 + 1 < wC.heap.size := (by omega)); (try have he2wC : w.heap.size + 1 + 1 ≤ wC.heap.size := (by omega)); (try have hz3wC : w.heap.size + 1 + 1 + 1 < wC.heap.size := (by omega)); (try have he3wC : w.heap.size + 1 + 1 + 1 ≤ wC.heap.size := (by omega))) | (go_at_call 57; (with_reducible refine (B4 _).mono ?_); rintro e wD ⟨rfl, h1⟩; (try with_reducible replace h1 := undrew h1); have hB : Below w.heap.size w wD := ba (by go_grown) h1; obtain ⟨hcwD, hfwD⟩ := bcell h1; have hqwD := h1.size; (try simp at hqwD); (try have hz0wD : w.heap.size < wD.heap.size := (by omega)); (try have he0wD : w.heap.size ≤ wD.heap.size := (by omega)); (try have hz1wD : w.heap.size + 1 < wD.heap.size := (by omega)); (try have he1wD : w.heap.size + 1 ≤ wD.heap.size := (by omega)); (try have hz2wD : w.heap.size + 1 + 1 < wD.heap.size := (by omega)); (try have he2wD : w.heap.size + 1 + 1 ≤ wD.heap.size := (by omega)); (try have hz3wD : w.heap.size + 1 + 1 + 1 < wD.heap.size := (by omega)); (try have he3wD : w.heap.size + 1 + 1 + 1 ≤ wD.heap.size := (by omega))))
      go_meet
      exact ⟨by simp, ⟨by go_simp, by go_simp, by go_simp, by go_simp⟩, ⟨by go_simp, by go_simp, by go_simp, by go_simp⟩, ⟨by go_simp, by go_simp, by go_simp, by go_simp⟩, ⟨by go_simp, by go_simp, by go_simp, by go_simp⟩, by go_grown, by omega⟩
    cases b3
    case true =>
      go_wp2_with (first | (go_at_call 57; (with_reducible refine (B1 _).mono ?_); rintro e wA ⟨rfl, h1⟩; (try with_reducible replace h1 := undrew h1); have hB : Below w.heap.size w wA := ba (by go_grown) h1; obtain ⟨hcwA, hfwA⟩ := bcell h1; have hqwA := h1.size; (try simp at hqwA); (try have hz0wA : w.heap.size < wA.heap.size := (by omega)); (try have he0wA : w.heap.size ≤ wA.heap.size := (by omega)); (try have hz1wA : w.heap.size + 1 < wA.heap.size := (by omega)); (try have he1wA : w.heap.size + 1 ≤ wA.heap.size := (by omega)); (try have hz2wA : w.heap.size + 1 + 1 < wA.heap.size := (by omega)); (try have he2wA : w.heap.size + 1 + 1 ≤ wA.heap.size := (by omega)); (try have hz3wA : w.heap.size + 1 + 1 + 1 < wA.heap.size := (by omega)); (try have he3wA : w.heap.size + 1 + 1 + 1 ≤ wA.heap.size := (by omega))) | (go_at_call 57; (with_reducible refine (B2 _).mono ?_); rintro e wB ⟨rfl, h1⟩; (try with_reducible replace h1 := undrew h1); have hB : Below w.heap.size w wB := ba (by go_grown) h1; obtain ⟨hcwB, hfwB⟩ := bcell h1; have hqwB := h1.size; (try simp at hqwB); (try have hz0wB : w.heap.size < wB.heap.size := (by omega)); (try have he0wB : w.heap.size ≤ wB.heap.size := (by omega)); (try have hz1wB : w.heap.size + 1 < wB.heap.size := (by omega)); (try have he1wB : w.heap.size + 1 ≤ wB.heap.size := (by omega)); (try have hz2wB : w.heap.size + 1 + 1 < wB.heap.size := (by omega)); (try have he2wB : w.heap.size + 1 + 1 ≤ wB.heap.size := (by omega)); (try have hz3wB : w.heap.size + 1 + 1 + 1 < wB.heap.size := (by omega)); (try have he3wB : w.heap.size + 1 + 1 + 1 ≤ wB.heap.size := (by omega))) | (go_at_call 57; (with_reducible refine (B3 _).mono ?_); rintro e wC ⟨rfl, h1⟩; (try with_reducible replace h1 := undrew h1); have hB : Below w.heap.size w wC := ba (by go_grown) h1; obtain ⟨hcwC, hfwC⟩ := bcell h1; have hqwC := h1.size; (try simp at hqwC); (try have hz0wC : w.heap.size < wC.heap.size := (by omega)); (try have he0wC : w.heap.size ≤ wC.heap.size := (by omega)); (try have hz1wC : w.heap.size + 1 < wC.heap.size := (by omega)); (try have he1wC : w.heap.size + 1 ≤ wC.heap.size := (by omega)); (try have hz2wC : w.heap.size + 1 + 1 < wC.heap.size := (by omega)); (try have he2wC : w.heap.size + 1 + 1 ≤ wC.heap.size := (by omega)); (try have hz3wC : w.heap.size + 1 + 1 + 1 < wC.heap.size := (by omega)); (try have he3wC : w.heap.size + 1 + 1 + 1 ≤ wC.heap.size := (by omega))) | (go_at_call 57; (with_reducible refine (B4 _).mono ?_); rintro e wD ⟨rfl, h1⟩; (try with_reducible replace h1 := undrew h1); have hB : Below w.heap.size w wD := ba (by go_grown) h1; obtain ⟨hcwD, hfwD⟩ := bcell h1; have hqwD := h1.size; (try simp at hqwD); (try have hz0wD : w.heap.size < wD.heap.size := (by omega)); (try have he0wD : w.heap.size ≤ wD.heap.size := (by omega)); (try have hz1wD : w.heap.size + 1 < wD.heap.size := (by omega)); (try have he1wD : w.heap.size + 1 ≤ wD.heap.size := (by omega)); (try have hz2wD : w.heap.size + 1 + 1 < wD.heap.size := (by omega)); (try have he2wD : w.heap.size + 1 + 1 ≤ wD.heap.size := (by omega)); (try have hz3wD : w.heap.size + 1 + 1 + 1 < wD.heap.size := (by omega)); (try have he3wD : w.heap.size + 1 + 1 + 1 ≤ wD.heap.size := (by omega))))
      go_meet
      exact ⟨by simp, ⟨by go_simp, by go_simp, by go_simp, by go_simp⟩, ⟨by go_simp, by go_simp, by go_simp, by go_simp⟩, ⟨by go_simp, by go_simp, by go_simp, by go_simp⟩, ⟨by go_simp, by go_simp, by go_simp, by go_simp⟩, by go_grown, by omega⟩
    cases b4
    case true =>
      go_wp2_with (first | (go_at_call 57; (with_reducible refine (B1 _).mono ?_); rintro e wA ⟨rfl, h1⟩; (try with_reducible replace h1 := undrew h1); have hB : Below w.heap.size w wA := ba (by go_grown) h1; obtain ⟨hcwA, hfwA⟩ := bcell h1; have hqwA := h1.size; (try simp at hqwA); (try have hz0wA : w.heap.size < wA.heap.size := (by omega)); (try have he0wA : w.heap.size ≤ wA.heap.size := (by omega)); (try have hz1wA : w.heap.size + 1 < wA.heap.size := (by omega)); (try have he1wA : w.heap.size + 1 ≤ wA.heap.size := (by omega)); (try have hz2wA : w.heap.size + 1 + 1 < wA.heap.size := (by omega)); (try have he2wA : w.heap.size + 1 + 1 ≤ wA.heap.size := (by omega)); (try have hz3wA : w.heap.size + 1 + 1 + 1 < wA.heap.size := (by omega)); (try have he3wA : w.heap.size + 1 + 1 + 1 ≤ wA.heap.size := (by omega))) | (go_at_call 57; (with_reducible refine (B2 _).mono ?_); rintro e wB ⟨rfl, h1⟩; (try with_reducible replace h1 := undrew h1); have hB : Below w.heap.size w wB := ba (by go_grown) h1; obtain ⟨hcwB, hfwB⟩ := bcell h1; have hqwB := h1.size; (try simp at hqwB); (try have hz0wB : w.heap.size < wB.heap.size := (by omega)); (try have he0wB : w.heap.size ≤ wB.heap.size := (by omega)); (try have hz1wB : w.heap.size + 1 < wB.heap.size := (by omega)); (try have he1wB : w.heap.size + 1 ≤ wB.heap.size := (by omega)); (try have hz2wB : w.heap.size + 1 + 1 < wB.heap.size := (by omega)); (try have he2wB : w.heap.size + 1 + 1 ≤ wB.heap.size := (by omega)); (try have hz3wB : w.heap.size + 1 + 1 + 1 < wB.heap.size := (by omega)); (try have he3wB : w.heap.size + 1 + 1 + 1 ≤ wB.heap.size := (by omega))) | (go_at_call 57; (with_reducible refine (B3 _).mono ?_); rintro e wC ⟨rfl, h1⟩; (try with_reducible replace h1 := undrew h1); have hB : Below w.heap.size w wC := ba (by go_grown) h1; obtain ⟨hcwC, hfwC⟩ := bcell h1; have hqwC := h1.size; (try simp at hqwC); (try have hz0wC : w.heap.size < wC.heap.size := (by omega)); (try have he0wC : w.heap.size ≤ wC.heap.size := (by omega)); (try have hz1wC : w.heap.size + 1 < wC.heap.size := (by omega)); (try have he1wC : w.heap.size + 1 ≤ wC.heap.size := (by omega)); (try have hz2wC : w.heap.size + 1 + 1 < wC.heap.size := (by omega)); (try have he2wC : w.heap.size + 1 + 1 ≤ wC.heap.size := (by omega)); (try have hz3wC : w.heap.size + 1 + 1 + 1 < wC.heap.size := (by omega)); (try have he3wC : w.heap.size + 1 + 1 + 1 ≤ wC.heap.size := (by omega))) | (go_at_call 57; (with_reducible refine (B4 _).mono ?_); rintro e wD ⟨rfl, h1⟩; (try with_reducible replace h1 := undrew h1); have hB : Below w.heap.size w wD := ba (by go_grown) h1; obtain ⟨hcwD, hfwD⟩ := bcell h1; have hqwD := h1.size; (try simp at hqwD); (try have hz0wD : w.heap.size < wD.heap.size := (by omega)); (try have he0wD : w.heap.size ≤ wD.heap.size := (by omega)); (try have hz1wD : w.heap.size + 1 < wD.heap.size := (by omega)); (try have he1wD : w.heap.size + 1 ≤ wD.heap.size := (by omega)); (try have hz2wD : w.heap.size + 1 + 1 < wD.heap.size := (by omega)); (try have he2wD : w.heap.size + 1 + 1 ≤ wD.heap.size := (by omega)); (try have hz3wD : w.heap.size + 1 + 1 + 1 < wD.heap.size := (by omega)); (try have he3wD : w.heap.size + 1 + 1 + 1 ≤ wD.heap.size := (by omega))))
      go_meet
      exact ⟨by simp, ⟨by go_simp, by go_simp, by go_simp, by go_simp⟩, ⟨by go_simp, by go_simp, by go_simp, by go_simp⟩, ⟨by go_simp, by go_simp, by go_simp, by go_simp⟩, ⟨by go_simp, by go_simp, by go_simp, by go_simp⟩, by go_grown, by omega⟩
    · go_wp2_with (first | (go_at_call 57; (with_reducible refine (B1 _).mono ?_); rintro e wA ⟨rfl, h1⟩; (try with_reducible replace h1 := undrew h1); have hB : Below w.heap.size w wA := ba (by go_grown) h1; obtain ⟨hcwA, hfwA⟩ := bcell h1; have hqwA := h1.size; (try simp at hqwA); (try have hz0wA : w.heap.size < wA.heap.size := (by omega)); (try have he0wA : w.heap.size ≤ wA.heap.size := (by omega)); (try have hz1wA : w.heap.size + 1 < wA.heap.size := (by omega)); (try have he1wA : w.heap.size + 1 ≤ wA.heap.size := (by omega)); (try have hz2wA : w.heap.size + 1 + 1 < wA.heap.size := (by omega)); (try have he2wA : w.heap.size + 1 + 1 ≤ wA.heap.size := (by omega)); (try have hz3wA : w.heap.size + 1 + 1 + 1 < wA.heap.size := (by omega)); (try have he3wA : w.heap.size + 1 + 1 + 1 ≤ wA.heap.size := (by omega))) | (go_at_call 57; (with_reducible refine (B2 _).mono ?_); rintro e wB ⟨rfl, h1⟩; (try with_reducible replace h1 := undrew h1); have hB : Below w.heap.size w wB := ba (by go_grown) h1; obtain ⟨hcwB, hfwB⟩ := bcell h1; have hqwB := h1.size; (try simp at hqwB); (try have hz0wB : w.heap.size < wB.heap.size := (by omega)); (try have he0wB : w.heap.size ≤ wB.heap.size := (by omega)); (try have hz1wB : w.heap.size + 1 < wB.heap.size := (by omega)); (try have he1wB : w.heap.size + 1 ≤ wB.heap.size := (by omega)); (try have hz2wB : w.heap.size + 1 + 1 < wB.heap.size := (by omega)); (try have he2wB : w.heap.size + 1 + 1 ≤ wB.heap.size := (by omega)); (try have hz3wB : w.heap.size + 1 + 1 + 1 < wB.heap.size := (by omega)); (try have he3wB : w.heap.size + 1 + 1 + 1 ≤ wB.heap.size := (by omega))) | (go_at_call 57; (with_reducible refine (B3 _).mono ?_); rintro e wC ⟨rfl, h1⟩; (try with_reducible replace h1 := undrew h1); have hB : Below w.heap.size w wC := ba (by go_grown) h1; obtain ⟨hcwC, hfwC⟩ := bcell h1; have hqwC := h1.size; (try simp at hqwC); (try have hz0wC : w.heap.size < wC.heap.size := (by omega)); (try have he0wC : w.heap.size ≤ wC.heap.size := (by omega)); (try have hz1wC : w.heap.size + 1 < wC.heap.size := (by omega)); (try have he1wC : w.heap.size + 1 ≤ wC.heap.size := (by omega)); (try have hz2wC : w.heap.size + 1 + 1 < wC.heap.size := (by omega)); (try have he2wC : w.heap.size + 1 + 1 ≤ wC.heap.size := (by omega)); (try have hz3wC : w.heap.size + 1 + 1 + 1 < wC.heap.size := (by omega)); (try have he3wC : w.heap.size + 1 + 1 + 1 ≤ wC.heap.size := (by omega))) | (go_at_call 57; (with_reducible refine (B4 _).mono ?_); rintro e wD ⟨rfl, h1⟩; (try with_reducible replace h1 := undrew h1); have hB : Below w.heap.size w wD := ba (by go_grown) h1; obtain ⟨hcwD, hfwD⟩ := bcell h1; have hqwD := h1.size; (try simp at hqwD); (try have hz0wD : w.heap.size < wD.heap.size := (by omega)); (try have he0wD : w.heap.size ≤ wD.heap.size := (by omega)); (try have hz1wD : w.heap.size + 1 < wD.heap.size := (by omega)); (try have he1wD : w.heap.size + 1 ≤ wD.heap.size := (by omega)); (try have hz2wD : w.heap.size + 1 + 1 < wD.heap.size := (by omega)); (try have he2wD : w.heap.size + 1 + 1 ≤ wD.heap.size := (by omega)); (try have hz3wD : w.heap.size + 1 + 1 + 1 < wD.heap.size := (by omega)); (try have he3wD : w.heap.size + 1 + 1 + 1 ≤ wD.heap.size := (by omega))))
      go_meet
      exact ⟨by simp, ⟨by go_simp, by go_simp, by go_simp, by go_simp⟩, ⟨by go_simp, by go_simp, by go_simp, by go_simp⟩, ⟨by go_simp, by go_simp, by go_simp, by go_simp⟩, ⟨by go_simp, by go_simp, by go_simp, by go_simp⟩, by go_grown, by omega⟩
  case rest =>
    obtain ⟨rfl, ⟨c0_0, c0_1, c0_2, c0_3⟩, ⟨c1_0, c1_1, c1_2, c1_3⟩, ⟨c2_0, c2_1, c2_2, c2_3⟩, ⟨c3_0, c3_1, c3_2, c3_3⟩, HBc, hzc⟩ := hcut
    have l0 : w.heap.size < wc.heap.size := by omega
    have l1 : w.heap.size + 1 < wc.heap.size := by omega
    have l2 : w.heap.size + 1 + 1 < wc.heap.size := by omega
    have l3 : w.heap.size + 1 + 1 + 1 < wc.heap.size := by omega
    cases hb : (b1 || (b2 || (b3 || b4)))
    case true =>
      have hb' : (decide (t0 < 0) && decide (t1 < 0) || (b1 || (b2 || (b3 || b4)))) = true := by rw [hb, Bool.or_true]
      go_wp2_with fail
      go_returns
      exact ⟨by rw [hb']; rfl, by go_grown⟩
    case false =>
      have hb' : (decide (t0 < 0) && decide (t1 < 0) || (b1 || (b2 || (b3 || b4)))) = (decide (t0 < 0) && decide (t1 < 0)) := by rw [hb, Bool.or_false]
      have HB' := Lib.hid hb'
      clear hb hb' B1 B2 B3 B4
      go_wp2_with fail
      refine absW (F := fun W => (W.cell? ⟨w.heap.size, 0, none⟩ = some (.int .i64 (p).a) ∧ W.cell? ⟨w.heap.size, 1, none⟩ = some (.int .i64 (p).b) ∧ W.cell? ⟨w.heap.size, 2, none⟩ = some (.int .i64 (p).c) ∧ W.cell? ⟨w.heap.size, 3, none⟩ = some (.int .i64 (p).d)) ∧ (W.cell? ⟨w.heap.size + 1, 0, none⟩ = some (.int .i64 (q).a) ∧ W.cell? ⟨w.heap.size + 1, 1, none⟩ = some (.int .i64 (q).b) ∧ W.cell? ⟨w.heap.size + 1, 2, none⟩ = some (.int .i64 (q).c) ∧ W.cell? ⟨w.heap.size + 1, 3, none⟩ = some (.int .i64 (q).d)) ∧ (W.cell? ⟨w.heap.size + 1 + 1, 0, none⟩ = some (.int .i64 (r).a) ∧ W.cell? ⟨w.heap.size + 1 + 1, 1, none⟩ = some (.int .i64 (r).b) ∧ W.cell? ⟨w.heap.size + 1 + 1, 2, none⟩ = some (.int .i64 (r).c) ∧ W.cell? ⟨w.heap.size + 1 + 1, 3, none⟩ = some (.int .i64 (r).d)) ∧ (W.cell? ⟨w.heap.size + 1 + 1 + 1, 0, none⟩ = some (.int .i64 (s).a) ∧ W.cell? ⟨w.heap.size + 1 + 1 + 1, 1, none⟩ = some (.int .i64 (s).b) ∧ W.cell? ⟨w.heap.size + 1 + 1 + 1, 2, none⟩ = some (.int .i64 (s).c) ∧ W.cell? ⟨w.heap.size + 1 + 1 + 1, 3, none⟩ = some (.int .i64 (s).d)) ∧ (w.heap.size + 4 ≤ W.heap.size) ∧ Below w.heap.size w W) ⟨⟨by go_simp, by go_simp, by go_simp, by go_simp⟩, ⟨by go_simp, by go_simp, by go_simp, by go_simp⟩, ⟨by go_simp, by go_simp, by go_simp, by go_simp⟩, ⟨by go_simp, by go_simp, by go_simp, by go_simp⟩, by omega, by go_grown⟩ ?_
      rintro W ⟨⟨c0_0, c0_1, c0_2, c0_3⟩, ⟨c1_0, c1_1, c1_2, c1_3⟩, ⟨c2_0, c2_1, c2_2, c2_3⟩, ⟨c3_0, c3_1, c3_2, c3_3⟩, hzW, HB⟩
      have k0_0 := fun d os => cell_regrown c0_0 d os
      have k0_1 := fun d os => cell_regrown c0_1 d os
      have k0_2 := fun d os => cell_regrown c0_2 d os
      have k0_3 := fun d os => cell_regrown c0_3 d os
      have k1_0 := fun d os => cell_regrown c1_0 d os
      have k1_1 := fun d os => cell_regrown c1_1 d os
      have k1_2 := fun d os => cell_regrown c1_2 d os
      have k1_3 := fun d os => cell_regrown c1_3 d os
      have k2_0 := fun d os => cell_regrown c2_0 d os
      have k2_1 := fun d os => cell_regrown c2_1 d os
      have k2_2 := fun d os => cell_regrown c2_2 d os
      have k2_3 := fun d os => cell_regrown c2_3 d os
      have k3_0 := fun d os => cell_regrown c3_0 d os
      have k3_1 := fun d os => cell_regrown c3_1 d os
      have k3_2 := fun d os => cell_regrown c3_2 d os
      have k3_3 := fun d os => cell_regrown c3_3 d os
      clear l0 l1 l2 l3
      by_cases e0 : t0 < 0
      · skip
        refine wq_region (by kernel_rfl) (by kernel_rfl) ?_
        repeat ((refine WQ.step (fun K hK => ?_)); go_simp; (first | (refine hK _ ?_; clear hK K) | (apply Exists.intro; refine ⟨fun _ => ?_, hK _ ?_⟩; (first | (go_at_call 54; with_reducible exact Calls.regrown_of (S1 _)) | (go_at_call 54; with_reducible exact Calls.regrown_of (S2 _)) | (go_at_call 54; with_reducible exact Calls.regrown_of (S3 _)) | (go_at_call 54; with_reducible exact Calls.regrown_of (S4 _))); clear hK K)))
        refine WQ.nil ?_
        rintro _ ⟨⟨dq, osq⟩, rfl⟩
        have hbw1 := below_regrown W dq osq
        generalize grow (redrawn W dq) osq = w1 at hbw1 ⊢
        obtain ⟨hcw1, hfw1⟩ := bcell hbw1
        have hlw1 := hbw1.size
        replace HB := ba HB hbw1
        go_wp2_with fail
        go_returns
        exact ⟨by rw [HB'.out]; simp [e0], by go_grown⟩
      · skip
        refine wq_region (by kernel_rfl) (by kernel_rfl) ?_
        repeat ((refine WQ.step (fun K hK => ?_)); go_simp; (first | (refine hK _ ?_; clear hK K) | (apply Exists.intro; refine ⟨fun _ => ?_, hK _ ?_⟩; (first | (go_at_call 54; with_reducible exact Calls.regrown_of (S1 _)) | (go_at_call 54; with_reducible exact Calls.regrown_of (S2 _)) | (go_at_call 54; with_reducible exact Calls.regrown_of (S3 _)) | (go_at_call 54; with_reducible exact Calls.regrown_of (S4 _))); clear hK K)))
        refine WQ.nil ?_
        rintro _ ⟨⟨dq, osq⟩, rfl⟩
        have hbw1 := below_regrown W dq osq
        generalize grow (redrawn W dq) osq = w1 at hbw1 ⊢
        obtain ⟨hcw1, hfw1⟩ := bcell hbw1
        have hlw1 := hbw1.size
        replace HB := ba HB hbw1
        go_wp2_with fail
        go_returns
        exact ⟨by rw [HB'.out, decide_eq_false (Int.not_lt.2 e0)]; rfl, by go_grown⟩

end Go.Proofs.Ytppbbcckijcckaa
