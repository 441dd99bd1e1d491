/- For every input the law FnExactIsBetween returns true, and its arguments read afterwards as they read before. Conditions: none. -/
import Derived.Test.YtppbbcckijcckaaKitJ
import Derived.Test.YtppbbcckijcckaaKitP
import Derived.Test.YtppbbcckijcckaaSb7
namespace Go.Proofs.Ytppbbcckijcckaa.lIsBetween
open Go.ChangeShapes Go.WideShapes Go.ChangeAt Go.RowKit Go.Joins Go.Sort

set_option maxRecDepth 100000 in
set_option maxHeartbeats 1600000 in
theorem walk0 (p q r : Pn) (R0 : Bool) (R1 : Bool) (w : World)
    (c1 : ∀ w, Calls Try.prog 20 #[pv p, pv q, pv r] w fun e w' => e = .returned (.tuple #[.bool R0, .bool R1]) ∧ Below w.heap.size w w')
    (c2 : ∀ w, Calls Try.prog 21 #[pv p, pv q, pv r] w fun e w' => e = .returned (.tuple #[.bool R0, .bool R1]) ∧ Below w.heap.size w w') :
    Calls Try.prog 4 #[pv p, pv q, pv r] w fun e w' => e = .returned (.bool true) ∧ Below w.heap.size w w' := by
  have C1 := Lib.hid c1
  have C2 := Lib.hid c2
  clear c1 c2
  go_enter Try.func4, Try.ntmps4
  go_wp2_with fail
  refine absW (F := fun W => (W.cell? ⟨w.heap.size, 0, none⟩ = some (.int .i64 (p).a) ∧ W.cell? ⟨w.heap.size, 1, none⟩ = some (.int .i64 (p).b) ∧ W.cell? ⟨w.heap.size, 2, none⟩ = some (.int .i64 (p).c) ∧ W.cell? ⟨w.heap.size, 3, none⟩ = some (.int .i64 (p).d)) ∧ (W.cell? ⟨w.heap.size + 1, 0, none⟩ = some (.int .i64 (q).a) ∧ W.cell? ⟨w.heap.size + 1, 1, none⟩ = some (.int .i64 (q).b) ∧ W.cell? ⟨w.heap.size + 1, 2, none⟩ = some (.int .i64 (q).c) ∧ W.cell? ⟨w.heap.size + 1, 3, none⟩ = some (.int .i64 (q).d)) ∧ (W.cell? ⟨w.heap.size + 1 + 1, 0, none⟩ = some (.int .i64 (r).a) ∧ W.cell? ⟨w.heap.size + 1 + 1, 1, none⟩ = some (.int .i64 (r).b) ∧ W.cell? ⟨w.heap.size + 1 + 1, 2, none⟩ = some (.int .i64 (r).c) ∧ W.cell? ⟨w.heap.size + 1 + 1, 3, none⟩ = some (.int .i64 (r).d)) ∧ Below w.heap.size w W ∧ W.heap.size = w.heap.size + 1 + 1 + 1) ⟨⟨by go_simp, by go_simp, by go_simp, by go_simp⟩, ⟨by go_simp, by go_simp, by go_simp, by go_simp⟩, ⟨by go_simp, by go_simp, by go_simp, by go_simp⟩, by go_grown, by first | (simp; done) | (simp; omega)⟩ ?_
  rintro W ⟨⟨c0_0, c0_1, c0_2, c0_3⟩, ⟨c1_0, c1_1, c1_2, c1_3⟩, ⟨c2_0, c2_1, c2_2, c2_3⟩, HB, hz⟩
  have k0_0 := fun d os => cell_regrown c0_0 d os
  have k0_1 := fun d os => cell_regrown c0_1 d os
  have k0_2 := fun d os => cell_regrown c0_2 d os
  have k0_3 := fun d os => cell_regrown c0_3 d os
  have k1_0 := fun d os => cell_regrown c1_0 d os
  have k1_1 := fun d os => cell_regrown c1_1 d os
  have k1_2 := fun d os => cell_regrown c1_2 d os
  have k1_3 := fun d os => cell_regrown c1_3 d os
  have k2_0 := fun d os => cell_regrown c2_0 d os
  have k2_1 := fun d os => cell_regrown c2_1 d os
  have k2_2 := fun d os => cell_regrown c2_2 d os
  have k2_3 := fun d os => cell_regrown c2_3 d os
  refine wp_region_quiet_below (by kernel_rfl) (by kernel_rfl) ?_
  repeat (quiet_step (first | (go_at_call 18; with_reducible exact Calls.regrown_of (toPoint_any p.a p.b p.c p.d _)) | (go_at_call 18; with_reducible exact Calls.regrown_of (toPoint_any q.a q.b q.c q.d _)) | (go_at_call 18; with_reducible exact Calls.regrown_of (toPoint_any r.a r.b r.c r.d _)) | (go_at_call 20; with_reducible exact Calls.regrown_of (C1.out _))))
  refine wpQuiet_nil ?_
  rintro _ ⟨⟨dq, osq⟩, rfl⟩
  have hbw1 := below_regrown W dq osq
  generalize grow (redrawn W dq) osq = w1 at hbw1 ⊢
  obtain ⟨hcw1, hfw1⟩ := bcell hbw1
  have hlw1 := hbw1.size
  replace HB := ba HB hbw1
  go_wp2_with fail
  refine absW (F := fun X => (X.cell? ⟨w.heap.size, 0, none⟩ = some (.int .i64 (p).a) ∧ X.cell? ⟨w.heap.size, 1, none⟩ = some (.int .i64 (p).b) ∧ X.cell? ⟨w.heap.size, 2, none⟩ = some (.int .i64 (p).c) ∧ X.cell? ⟨w.heap.size, 3, none⟩ = some (.int .i64 (p).d)) ∧ (X.cell? ⟨w.heap.size + 1, 0, none⟩ = some (.int .i64 (q).a) ∧ X.cell? ⟨w.heap.size + 1, 1, none⟩ = some (.int .i64 (q).b) ∧ X.cell? ⟨w.heap.size + 1, 2, none⟩ = some (.int .i64 (q).c) ∧ X.cell? ⟨w.heap.size + 1, 3, none⟩ = some (.int .i64 (q).d)) ∧ (X.cell? ⟨w.heap.size + 1 + 1, 0, none⟩ = some (.int .i64 (r).a) ∧ X.cell? ⟨w.heap.size + 1 + 1, 1, none⟩ = some (.int .i64 (r).b) ∧ X.cell? ⟨w.heap.size + 1 + 1, 2, none⟩ = some (.int .i64 (r).c) ∧ X.cell? ⟨w.heap.size + 1 + 1, 3, none⟩ = some (.int .i64 (r).d)) ∧ (w.heap.size + 3 ≤ X.heap.size) ∧ Below w.heap.size w X) ⟨⟨by go_simp, by go_simp, by go_simp, by go_simp⟩, ⟨by go_simp, by go_simp, by go_simp, by go_simp⟩, ⟨by go_simp, by go_simp, by go_simp, by go_simp⟩, by omega, by go_grown⟩ ?_
  rintro X ⟨⟨c0_0, c0_1, c0_2, c0_3⟩, ⟨c1_0, c1_1, c1_2, c1_3⟩, ⟨c2_0, c2_1, c2_2, c2_3⟩, hzX, HB⟩
  have k0_0 := fun d os => cell_regrown c0_0 d os
  have k0_1 := fun d os => cell_regrown c0_1 d os
  have k0_2 := fun d os => cell_regrown c0_2 d os
  have k0_3 := fun d os => cell_regrown c0_3 d os
  have k1_0 := fun d os => cell_regrown c1_0 d os
  have k1_1 := fun d os => cell_regrown c1_1 d os
  have k1_2 := fun d os => cell_regrown c1_2 d os
  have k1_3 := fun d os => cell_regrown c1_3 d os
  have k2_0 := fun d os => cell_regrown c2_0 d os
  have k2_1 := fun d os => cell_regrown c2_1 d os
  have k2_2 := fun d os => cell_regrown c2_2 d os
  have k2_3 := fun d os => cell_regrown c2_3 d os
  refine wp_region_quiet_below (by kernel_rfl) (by kernel_rfl) ?_
  repeat (quiet_step (first | (go_at_call 18; with_reducible exact Calls.regrown_of (toPoint_any p.a p.b p.c p.d _)) | (go_at_call 18; with_reducible exact Calls.regrown_of (toPoint_any q.a q.b q.c q.d _)) | (go_at_call 18; with_reducible exact Calls.regrown_of (toPoint_any r.a r.b r.c r.d _)) | (go_at_call 21; with_reducible exact Calls.regrown_of (C2.out _))))
  refine wpQuiet_nil ?_
  rintro _ ⟨⟨dq, osq⟩, rfl⟩
  have hbw2 := below_regrown X dq osq
  generalize grow (redrawn X dq) osq = w2 at hbw2 ⊢
  obtain ⟨hcw2, hfw2⟩ := bcell hbw2
  have hlw2 := hbw2.size
  replace HB := ba HB hbw2
  go_wp2_with fail
  all_goals go_returns
  all_goals exact ⟨rfl, by go_grown⟩

theorem walk (p0 p1 p2 p3 : Int) (q0 q1 q2 q3 : Int) (r0 r1 r2 r3 : Int) (w : World) :
    Calls Try.prog 4 #[.agg #[.int .i64 p0, .int .i64 p1, .int .i64 p2, .int .i64 p3], .agg #[.int .i64 q0, .int .i64 q1, .int .i64 q2, .int .i64 q3], .agg #[.int .i64 r0, .int .i64 r1, .int .i64 r2, .int .i64 r3]] w fun e w' => e = .returned (.bool true) ∧ Below w.heap.size w w' :=
  walk0 ⟨p0, p1, p2, p3⟩ ⟨q0, q1, q2, q3⟩ ⟨r0, r1, r2, r3⟩ _ _ w (spIsBetweenP ⟨p0, p1, p2, p3⟩ ⟨q0, q1, q2, q3⟩ ⟨r0, r1, r2, r3⟩) (imIsBetweenP ⟨p0, p1, p2, p3⟩ ⟨q0, q1, q2, q3⟩ ⟨r0, r1, r2, r3⟩)

set_option maxRecDepth 100000 in
theorem lifted (os : Os) (started : os.Started) (H : Type) (enc : TypeId × Value → H) :
    ReturnsInHanded {} Try.checked os 4 .any (Rows.fnExactIsBetweenSpec.pre6 enc Try.prog Try.f4 Rows.fnExactIsBetweenRow.domain false) (Rows.fnExactIsBetweenSpec.post enc Try.prog Try.f4 false true false false) := by
  refine returnsInHanded_of_change (C := Try.checked) Try.own started (by kernel_rfl) Try.func4
    (ChangeSpec.witness6 (enc := enc) (C := Try.checked) false ⟨#[], #[.agg #[.int .i64 0, .int .i64 0, .int .i64 0, .int .i64 0], .agg #[.int .i64 0, .int .i64 0, .int .i64 0, .int .i64 0], .agg #[.int .i64 0, .int .i64 0, .int .i64 0, .int .i64 0]], []⟩ 8 (by kernel_rfl) (by kernel_rfl) (by kernel_rfl) (by kernel_rfl)) ?_
  intro W base args ds gs before hval0 hW _ _
  have hval : ∀ (j : Nat) t v, Try.f4.params[j]? = some t → args[j]? = some v → Value.okWide Try.prog W .any base t v := hval0
  have hW0 := hW
  obtain ⟨p, q, hA0, hV, rfl, _, _⟩ := hW
  have hA : DataW.TrodAll enc Try.prog W 0 (fun _ => true) true Try.f4.params.toList args.toList ds p := hA0
  rw [Try.params4] at hA hval
  obtain ⟨v0, v1, v2, d0, d1, d2, p0, p1, p2, rfl, rfl, rfl, h0, h1, h2⟩ := trodAll_three hA
  obtain ⟨p0, p1, p2, p3, rfl⟩ := open_point (hval 0 23 v0 rfl rfl) h0
  obtain ⟨q0, q1, q2, q3, rfl⟩ := open_point (hval 1 23 v1 rfl rfl) h1
  obtain ⟨r0, r1, r2, r3, rfl⟩ := open_point (hval 2 23 v2 rfl rfl) h2
  refine (walk p0 p1 p2 p3 q0 q1 q2 q3 r0 r1 r2 r3 W).mono fun e W' ⟨he, hw⟩ => ?_
  subst he
  exact ⟨_, rfl, law_post Try.laidOut (by kernel_rfl) rfl Try.underlying4 rfl rfl hW0 hw⟩

set_option maxRecDepth 100000 in
theorem closed : joinedFacts Try.prog 4 Try.f4 Rows.fnExactIsBetweenSpec Rows.fnExactIsBetweenRow = true := by
  unfold joinedFacts
  simp only [Bool.and_eq_true]
  repeat' (with_reducible apply And.intro)
  all_goals first | (with_reducible exact enter_ok) | (rw [make_ok]; kernel_rfl) | (rw [lifts_ok]; kernel_rfl) | kernel_rfl

theorem holds : Rows.FnExactIsBetweenSaid :=
  OpenClaim.holds_of_wide 4 Try.f4 rfl rfl rfl rfl rfl rfl rfl ⟨rfl, rfl, rfl, rfl, rfl⟩ rfl rfl rfl rfl rfl (by kernel_rfl) Try.func4 closed
    (of_decide_eq_true (by kernel_rfl)) (by unfold Func.isWrapper; first | (rw [if_pos (by decide +kernel)]; kernel_rfl) | (rw [if_neg (by decide +kernel)]; exact ⟨rfl, rfl⟩))
    (fun os started H enc _ => lifted os started H enc)

end Go.Proofs.Ytppbbcckijcckaa.lIsBetween
