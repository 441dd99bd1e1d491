/- For every input the law FnExactCompareSurds returns true, and its arguments read afterwards as they read before. Conditions: none. -/
import Derived.Test.YtppbbcckijcckabKitS
import Derived.Test.YtppbbcckijcckabSqL
import Derived.Test.YtppbbcckijcckabCl
namespace Go.Proofs.Ytppbbcckijcckab.lCompareSurds
open Go.ChangeShapes Go.WideShapes Go.ChangeAt Go.RowKit Go.Joins

set_option maxRecDepth 100000 in
set_option maxHeartbeats 3200000 in
theorem walk (s0 s1 t0 t1 : Int) (w : World) :
    Calls Try.prog 8 #[.agg #[.int .i64 s0, .int .i64 s1], .agg #[.int .i64 t0, .int .i64 t1]] w fun e w' => e = .returned (.bool true) ∧ Below w.heap.size w w' := by
  have hS0 := ss_start s0 s1 t0 t1 w 37 37
  go_enter Try.func8, Try.ntmps8
  go_wp2_with fail
  go_region_held3 (fun w' => w'.cell? ⟨w.heap.size, 0, none⟩ = some (.int .i64 s0) ∧ w'.cell? ⟨w.heap.size, 1, none⟩ = some (.int .i64 s1) ∧ w'.cell? ⟨w.heap.size + 1, 0, none⟩ = some (.int .i64 t0) ∧ w'.cell? ⟨w.heap.size + 1, 1, none⟩ = some (.int .i64 t1))
    (first | (with_reducible assumption) | (with_reducible exact ss_drew hS0) | (with_reducible exact ss_drew (ss_alloc hS0 _)) | (with_reducible exact ss_alloc (ss_drew hS0) _) | (with_reducible refine ss_drew ?_; with_reducible assumption) | (with_reducible refine ss_alloc ?_ _; with_reducible assumption) | (with_reducible refine ss_re (by with_reducible assumption) ?_ ?_ _; (focus first | (with_reducible assumption) | omega | (simp; done) | (simp; omega)); (focus first | (with_reducible assumption) | omega | (simp; done) | (simp; omega))) | (with_reducible refine ss_below ?_ ?_ ?_ h1; (focus first | (with_reducible assumption) | (with_reducible refine ss_undrew ?_; with_reducible assumption)); (focus first | (with_reducible assumption) | omega | (simp; done) | (simp; omega)); (focus first | (with_reducible assumption) | omega | (simp; done) | (simp; omega))) | ((repeat (with_reducible refine ss_set ?_ _ _ ?_ ?_; rotate_left 1; (focus first | (with_reducible assumption) | omega | (simp; done) | (simp; omega)); (focus first | (with_reducible assumption) | omega | (simp; done) | (simp; omega)))); with_reducible assumption))
    (first | (go_at_call 23; (with_reducible refine (toSurd_any s0 s1 _).mono ?_); rintro e wA ⟨rfl, h1⟩; (try with_reducible replace h1 := undrew h1); have hB : Below w.heap.size w wA := ba (by go_grown) h1; obtain ⟨hcwA, hfwA⟩ := bcell h1; have hqwA := h1.size; (try simp at hqwA); (try have hz0wA : w.heap.size < wA.heap.size := (by omega)); (try have he0wA : w.heap.size ≤ wA.heap.size := (by omega)); (try have hz1wA : w.heap.size + 1 < wA.heap.size := (by omega)); (try have he1wA : w.heap.size + 1 ≤ wA.heap.size := (by omega))) | (go_at_call 23; (with_reducible refine (toSurd_any t0 t1 _).mono ?_); rintro e wB ⟨rfl, h1⟩; (try with_reducible replace h1 := undrew h1); have hB : Below w.heap.size w wB := ba (by go_grown) h1; obtain ⟨hcwB, hfwB⟩ := bcell h1; have hqwB := h1.size; (try simp at hqwB); (try have hz0wB : w.heap.size < wB.heap.size := (by omega)); (try have he0wB : w.heap.size ≤ wB.heap.size := (by omega)); (try have hz1wB : w.heap.size + 1 < wB.heap.size := (by omega)); (try have he1wB : w.heap.size + 1 ≤ wB.heap.size := (by omega))) | (go_at_call 25; (with_reducible refine (spCompareSurds_any _ _ _ _ _).mono ?_); rintro e wC ⟨rfl, h1⟩; (try with_reducible replace h1 := undrew h1); have hB : Below w.heap.size w wC := ba (by go_grown) h1; obtain ⟨hcwC, hfwC⟩ := bcell h1; have hqwC := h1.size; (try simp at hqwC); (try have hz0wC : w.heap.size < wC.heap.size := (by omega)); (try have he0wC : w.heap.size ≤ wC.heap.size := (by omega)); (try have hz1wC : w.heap.size + 1 < wC.heap.size := (by omega)); (try have he1wC : w.heap.size + 1 ≤ wC.heap.size := (by omega))))
  go_wp2_with fail
  go_region_held3 (fun w' => w'.cell? ⟨w.heap.size, 0, none⟩ = some (.int .i64 s0) ∧ w'.cell? ⟨w.heap.size, 1, none⟩ = some (.int .i64 s1) ∧ w'.cell? ⟨w.heap.size + 1, 0, none⟩ = some (.int .i64 t0) ∧ w'.cell? ⟨w.heap.size + 1, 1, none⟩ = some (.int .i64 t1))
    (first | (with_reducible assumption) | (with_reducible exact ss_drew hS0) | (with_reducible exact ss_drew (ss_alloc hS0 _)) | (with_reducible exact ss_alloc (ss_drew hS0) _) | (with_reducible refine ss_drew ?_; with_reducible assumption) | (with_reducible refine ss_alloc ?_ _; with_reducible assumption) | (with_reducible refine ss_re (by with_reducible assumption) ?_ ?_ _; (focus first | (with_reducible assumption) | omega | (simp; done) | (simp; omega)); (focus first | (with_reducible assumption) | omega | (simp; done) | (simp; omega))) | (with_reducible refine ss_below ?_ ?_ ?_ h1; (focus first | (with_reducible assumption) | (with_reducible refine ss_undrew ?_; with_reducible assumption)); (focus first | (with_reducible assumption) | omega | (simp; done) | (simp; omega)); (focus first | (with_reducible assumption) | omega | (simp; done) | (simp; omega))) | ((repeat (with_reducible refine ss_set ?_ _ _ ?_ ?_; rotate_left 1; (focus first | (with_reducible assumption) | omega | (simp; done) | (simp; omega)); (focus first | (with_reducible assumption) | omega | (simp; done) | (simp; omega)))); with_reducible assumption))
    (first | (go_at_call 23; (with_reducible refine (toSurd_any s0 s1 _).mono ?_); rintro e wD ⟨rfl, h1⟩; (try with_reducible replace h1 := undrew h1); have hB : Below w.heap.size w wD := ba (by go_grown) h1; obtain ⟨hcwD, hfwD⟩ := bcell h1; have hqwD := h1.size; (try simp at hqwD); (try have hz0wD : w.heap.size < wD.heap.size := (by omega)); (try have he0wD : w.heap.size ≤ wD.heap.size := (by omega)); (try have hz1wD : w.heap.size + 1 < wD.heap.size := (by omega)); (try have he1wD : w.heap.size + 1 ≤ wD.heap.size := (by omega))) | (go_at_call 23; (with_reducible refine (toSurd_any t0 t1 _).mono ?_); rintro e wE ⟨rfl, h1⟩; (try with_reducible replace h1 := undrew h1); have hB : Below w.heap.size w wE := ba (by go_grown) h1; obtain ⟨hcwE, hfwE⟩ := bcell h1; have hqwE := h1.size; (try simp at hqwE); (try have hz0wE : w.heap.size < wE.heap.size := (by omega)); (try have he0wE : w.heap.size ≤ wE.heap.size := (by omega)); (try have hz1wE : w.heap.size + 1 < wE.heap.size := (by omega)); (try have he1wE : w.heap.size + 1 ≤ wE.heap.size := (by omega))) | (go_at_call 26; (with_reducible refine (imCompareSurds_any _ _ _ _ _).mono ?_); rintro e wF ⟨rfl, h1⟩; (try with_reducible replace h1 := undrew h1); have hB : Below w.heap.size w wF := ba (by go_grown) h1; obtain ⟨hcwF, hfwF⟩ := bcell h1; have hqwF := h1.size; (try simp at hqwF); (try have hz0wF : w.heap.size < wF.heap.size := (by omega)); (try have he0wF : w.heap.size ≤ wF.heap.size := (by omega)); (try have hz1wF : w.heap.size + 1 < wF.heap.size := (by omega)); (try have he1wF : w.heap.size + 1 ≤ wF.heap.size := (by omega))))
  all_goals
    go_wp2_with fail
    go_returns
    exact ⟨rfl, by go_grown⟩

set_option maxRecDepth 100000 in
theorem lifted (os : Os) (started : os.Started) (H : Type) (enc : TypeId × Value → H) :
    ReturnsInHanded {} Try.checked os 8 .any (Rows.fnExactCompareSurdsSpec.pre6 enc Try.prog Try.f8 Rows.fnExactCompareSurdsRow.domain false) (Rows.fnExactCompareSurdsSpec.post enc Try.prog Try.f8 false true false false) := by
  refine returnsInHanded_of_change (C := Try.checked) Try.own started (by kernel_rfl) Try.func8
    (ChangeSpec.witness6 (enc := enc) (C := Try.checked) false ⟨#[], #[.agg #[.int .i64 0, .int .i64 0], .agg #[.int .i64 0, .int .i64 0]], []⟩ 8 (by kernel_rfl) (by kernel_rfl) (by kernel_rfl) (by kernel_rfl)) ?_
  intro W base args ds gs before hval0 hW _ _
  have hval : ∀ (j : Nat) t v, Try.f8.params[j]? = some t → args[j]? = some v → Value.okWide Try.prog W .any base t v := hval0
  have hW0 := hW
  obtain ⟨p, q, hA0, hV, rfl, _, _⟩ := hW
  have hA : DataW.TrodAll enc Try.prog W 0 (fun _ => true) true Try.f8.params.toList args.toList ds p := hA0
  rw [Try.params8] at hA hval
  obtain ⟨v0, v1, d0, d1, p0, p1, rfl, rfl, rfl, h0, h1⟩ := trodAll_two hA
  obtain ⟨s0, s1, rfl⟩ := open_surd (hval 0 37 v0 rfl rfl) h0
  obtain ⟨t0, t1, rfl⟩ := open_surd (hval 1 37 v1 rfl rfl) h1
  refine (walk s0 s1 t0 t1 W).mono fun e W' ⟨he, hw⟩ => ?_
  subst he
  exact ⟨_, rfl, law_post Try.laidOut (by kernel_rfl) rfl Try.underlying4 rfl rfl hW0 hw⟩

theorem holds : Rows.FnExactCompareSurdsSaid :=
  OpenClaim.holds_of_wide 8 Try.f8 rfl rfl rfl rfl rfl rfl rfl ⟨rfl, rfl, rfl, rfl, rfl⟩ rfl rfl rfl rfl rfl (by kernel_rfl) Try.func8 (by kernel_rfl)
    (of_decide_eq_true (by kernel_rfl)) (by unfold Func.isWrapper; first | (rw [if_pos (by decide +kernel)]; kernel_rfl) | (rw [if_neg (by decide +kernel)]; exact ⟨rfl, rfl⟩))
    (fun os started H enc _ => lifted os started H enc)

end Go.Proofs.Ytppbbcckijcckab.lCompareSurds
