/- For every input the law FnExactAddBoxes returns true, and its arguments read afterwards as they read before. Conditions: none. -/
import Derived.Test.YtkmgcmgnaeamaaaKitJ
import Derived.Test.YtkmgcmgnaeamaaaKitB
import Derived.Test.YtkmgcmgnaeamaaaBn
import Derived.Test.YtkmgcmgnaeamaaaClS
import Derived.Deep.DeepCutAuto
import Derived.Lib.Hide
namespace Go.Proofs.Ytkmgcmgnaeamaaa.lAddBoxes
open Go.ChangeShapes Go.WideShapes Go.ChangeAt Go.RowKit Go.Joins

set_option maxRecDepth 100000 in
set_option maxHeartbeats 3200000 in
theorem walk0 (s0 s1 t0 t1 p q : Int) (G : Bool) (w : World)
    (c1 : ∀ w, Calls Try.prog 45 #[.agg #[.int .i64 s0, .int .i64 s1], .agg #[.int .i64 t0, .int .i64 t1]] w fun e w' => e = .returned (.tuple #[.agg #[.int .i64 p, .int .i64 q], .bool G]) ∧ Below w.heap.size w w')
    (c2 : ∀ w, Calls Try.prog 46 #[.agg #[.int .i64 s0, .int .i64 s1], .agg #[.int .i64 t0, .int .i64 t1]] w fun e w' => e = .returned (.tuple #[.agg #[.int .i64 p, .int .i64 q], .bool G]) ∧ Below w.heap.size w w') :
    Calls Try.prog 13 #[.agg #[.int .i64 s0, .int .i64 s1], .agg #[.int .i64 t0, .int .i64 t1]] w fun e w' => e = .returned (.bool true) ∧ Below w.heap.size w w' := by
  have C1 := Lib.hid c1
  have C2 := Lib.hid c2
  clear c1 c2
  have hS0 := ss_start s0 s1 t0 t1 w 23 23
  go_enter Try.func13, Try.ntmps13
  go_upto_region 1 with fail
  go_cut [5, 6] (fun s5 s6 wx => ∃ g : Nat, s5 = .pointer (some ⟨g, 0, none⟩) ∧ s6 = .bool G ∧ ((wx.cell? ⟨w.heap.size, 0, none⟩ = some (.int .i64 s0) ∧ wx.cell? ⟨w.heap.size, 1, none⟩ = some (.int .i64 s1) ∧ wx.cell? ⟨w.heap.size + 1, 0, none⟩ = some (.int .i64 t0) ∧ wx.cell? ⟨w.heap.size + 1, 1, none⟩ = some (.int .i64 t1)) ∧ wx.cell? ⟨g, 0, none⟩ = some (.int .i64 p) ∧ wx.cell? ⟨g, 1, none⟩ = some (.int .i64 q)) ∧ Below w.heap.size w wx ∧ w.heap.size + 1 < g ∧ g < wx.heap.size)
  case first =>
    go_region_held3 (fun w' => w'.cell? ⟨w.heap.size, 0, none⟩ = some (.int .i64 s0) ∧ w'.cell? ⟨w.heap.size, 1, none⟩ = some (.int .i64 s1) ∧ w'.cell? ⟨w.heap.size + 1, 0, none⟩ = some (.int .i64 t0) ∧ w'.cell? ⟨w.heap.size + 1, 1, none⟩ = some (.int .i64 t1))
      (first | (with_reducible assumption) | (with_reducible exact ss_drew hS0) | (with_reducible exact ss_drew (ss_alloc hS0 _)) | (with_reducible exact ss_alloc (ss_drew hS0) _) | (with_reducible refine ss_drew ?_; with_reducible assumption) | (with_reducible refine ss_alloc ?_ _; with_reducible assumption) | (with_reducible refine ss_re (by with_reducible assumption) ?_ ?_ _; (focus first | (with_reducible assumption) | omega | (simp; done) | (simp; omega)); (focus first | (with_reducible assumption) | omega | (simp; done) | (simp; omega))) | (with_reducible refine ss_below ?_ ?_ ?_ h1; (focus first | (with_reducible assumption) | (with_reducible refine ss_undrew ?_; with_reducible assumption)); (focus first | (with_reducible assumption) | omega | (simp; done) | (simp; omega)); (focus first | (with_reducible assumption) | omega | (simp; done) | (simp; omega))) | ((repeat (with_reducible refine ss_set ?_ _ _ ?_ ?_; rotate_left 1; (focus first | (with_reducible assumption) | omega | (simp; done) | (simp; omega)); (focus first | (with_reducible assumption) | omega | (simp; done) | (simp; omega)))); with_reducible assumption))
      (first | (go_at_call 17; (with_reducible refine (toBox_any s0 s1 _).mono ?_); rintro e wA ⟨rfl, h1⟩; (try with_reducible replace h1 := undrew h1); have hB : Below w.heap.size w wA := ba (by go_grown) h1; obtain ⟨hcwA, hfwA⟩ := bcell h1; have hqwA := h1.size; (try simp at hqwA); (try have hz0wA : w.heap.size < wA.heap.size := (by omega)); (try have he0wA : w.heap.size ≤ wA.heap.size := (by omega)); (try have hz1wA : w.heap.size + 1 < wA.heap.size := (by omega)); (try have he1wA : w.heap.size + 1 ≤ wA.heap.size := (by omega)); (try have hz2wA : w.heap.size + 1 + 1 < wA.heap.size := (by omega)); (try have he2wA : w.heap.size + 1 + 1 ≤ wA.heap.size := (by omega))) | (go_at_call 17; (with_reducible refine (toBox_any t0 t1 _).mono ?_); rintro e wB ⟨rfl, h1⟩; (try with_reducible replace h1 := undrew h1); have hB : Below w.heap.size w wB := ba (by go_grown) h1; obtain ⟨hcwB, hfwB⟩ := bcell h1; have hqwB := h1.size; (try simp at hqwB); (try have hz0wB : w.heap.size < wB.heap.size := (by omega)); (try have he0wB : w.heap.size ≤ wB.heap.size := (by omega)); (try have hz1wB : w.heap.size + 1 < wB.heap.size := (by omega)); (try have he1wB : w.heap.size + 1 ≤ wB.heap.size := (by omega)); (try have hz2wB : w.heap.size + 1 + 1 < wB.heap.size := (by omega)); (try have he2wB : w.heap.size + 1 + 1 ≤ wB.heap.size := (by omega)); (try have hz3wB : wA.heap.size < wB.heap.size := (by omega)); (try have he3wB : wA.heap.size ≤ wB.heap.size := (by omega))) | (go_at_call 45; (with_reducible refine (C1.out _).mono ?_); rintro e wC ⟨rfl, h1⟩; (try with_reducible replace h1 := undrew h1); have hB : Below w.heap.size w wC := ba (by go_grown) h1; obtain ⟨hcwC, hfwC⟩ := bcell h1; have hqwC := h1.size; (try simp at hqwC); (try have hz0wC : w.heap.size < wC.heap.size := (by omega)); (try have he0wC : w.heap.size ≤ wC.heap.size := (by omega)); (try have hz1wC : w.heap.size + 1 < wC.heap.size := (by omega)); (try have he1wC : w.heap.size + 1 ≤ wC.heap.size := (by omega)); (try have hz2wC : w.heap.size + 1 + 1 < wC.heap.size := (by omega)); (try have he2wC : w.heap.size + 1 + 1 ≤ wC.heap.size := (by omega)); (try have hz3wC : wA.heap.size < wC.heap.size := (by omega)); (try have he3wC : wA.heap.size ≤ wC.heap.size := (by omega)); (try have hz4wC : wB.heap.size < wC.heap.size := (by omega)); (try have he4wC : wB.heap.size ≤ wC.heap.size := (by omega))))
    all_goals
      go_wp2_with fail
      go_meet
      refine ⟨_, rfl, rfl, ⟨by with_reducible assumption, ?_⟩, by go_grown, ?_, ?_⟩
      · refine ⟨?_, ?_⟩ <;> first | (go_simp; done) | (simp [go_sem, *]; done)
      · omega
      · first | omega | (simp; done) | (simp; omega)
  case rest =>
    obtain ⟨g, rfl, rfl, ⟨⟨k0, k1, k2, k3⟩, m0, m1⟩, hB, hg0, hg1⟩ := hcut
    have hS0 : wc.cell? ⟨w.heap.size, 0, none⟩ = some (.int .i64 s0) ∧ wc.cell? ⟨w.heap.size, 1, none⟩ = some (.int .i64 s1) ∧ wc.cell? ⟨w.heap.size + 1, 0, none⟩ = some (.int .i64 t0) ∧ wc.cell? ⟨w.heap.size + 1, 1, none⟩ = some (.int .i64 t1) ∧ wc.cell? ⟨g, 0, none⟩ = some (.int .i64 p) ∧ wc.cell? ⟨g, 1, none⟩ = some (.int .i64 q) := ⟨k0, k1, k2, k3, m0, m1⟩
    clear k0 k1 k2 k3 m0 m1
    have hz0 : w.heap.size < wc.heap.size := by omega
    have hz1 : w.heap.size + 1 < wc.heap.size := by omega
    go_upto_region 2 with fail
    go_region_held3 (fun w' => w'.cell? ⟨w.heap.size, 0, none⟩ = some (.int .i64 s0) ∧ w'.cell? ⟨w.heap.size, 1, none⟩ = some (.int .i64 s1) ∧ w'.cell? ⟨w.heap.size + 1, 0, none⟩ = some (.int .i64 t0) ∧ w'.cell? ⟨w.heap.size + 1, 1, none⟩ = some (.int .i64 t1) ∧ w'.cell? ⟨g, 0, none⟩ = some (.int .i64 p) ∧ w'.cell? ⟨g, 1, none⟩ = some (.int .i64 q))
      (first | (with_reducible assumption) | (with_reducible exact sss_drew hS0) | (with_reducible exact sss_drew (sss_alloc hS0 _)) | (with_reducible exact sss_alloc (sss_drew hS0) _) | (with_reducible refine sss_drew ?_; with_reducible assumption) | (with_reducible refine sss_alloc ?_ _; with_reducible assumption) | (with_reducible refine sss_re (by with_reducible assumption) ?_ ?_ ?_ _; (focus first | (with_reducible assumption) | omega | (simp; done) | (simp; omega)); (focus first | (with_reducible assumption) | omega | (simp; done) | (simp; omega)); (focus first | (with_reducible assumption) | omega | (simp; done) | (simp; omega))) | (with_reducible refine sss_below ?_ ?_ ?_ ?_ h1; (focus first | (with_reducible assumption) | (with_reducible refine sss_undrew ?_; with_reducible assumption)); (focus first | (with_reducible assumption) | omega | (simp; done) | (simp; omega)); (focus first | (with_reducible assumption) | omega | (simp; done) | (simp; omega)); (focus first | (with_reducible assumption) | omega | (simp; done) | (simp; omega))) | ((repeat (with_reducible refine sss_set ?_ _ _ ?_ ?_ ?_; rotate_left 1; (focus first | (with_reducible assumption) | omega | (simp; done) | (simp; omega)); (focus first | (with_reducible assumption) | omega | (simp; done) | (simp; omega)); (focus first | (with_reducible assumption) | omega | (simp; done) | (simp; omega)))); with_reducible assumption))
      (first | (go_at_call 17; (with_reducible refine (toBox_any s0 s1 _).mono ?_); rintro e wA ⟨rfl, h1⟩; (try with_reducible replace h1 := undrew h1); have hB : Below w.heap.size w wA := ba (by go_grown) h1; obtain ⟨hcwA, hfwA⟩ := bcell h1; have hqwA := h1.size; (try simp at hqwA); (try have hz0wA : w.heap.size < wA.heap.size := (by omega)); (try have he0wA : w.heap.size ≤ wA.heap.size := (by omega)); (try have hz1wA : w.heap.size + 1 < wA.heap.size := (by omega)); (try have he1wA : w.heap.size + 1 ≤ wA.heap.size := (by omega)); (try have hz2wA : g < wA.heap.size := (by omega)); (try have he2wA : g ≤ wA.heap.size := (by omega)); (try have hz3wA : wc.heap.size < wA.heap.size := (by omega)); (try have he3wA : wc.heap.size ≤ wA.heap.size := (by omega))) | (go_at_call 17; (with_reducible refine (toBox_any t0 t1 _).mono ?_); rintro e wB ⟨rfl, h1⟩; (try with_reducible replace h1 := undrew h1); have hB : Below w.heap.size w wB := ba (by go_grown) h1; obtain ⟨hcwB, hfwB⟩ := bcell h1; have hqwB := h1.size; (try simp at hqwB); (try have hz0wB : w.heap.size < wB.heap.size := (by omega)); (try have he0wB : w.heap.size ≤ wB.heap.size := (by omega)); (try have hz1wB : w.heap.size + 1 < wB.heap.size := (by omega)); (try have he1wB : w.heap.size + 1 ≤ wB.heap.size := (by omega)); (try have hz2wB : g < wB.heap.size := (by omega)); (try have he2wB : g ≤ wB.heap.size := (by omega)); (try have hz3wB : wc.heap.size < wB.heap.size := (by omega)); (try have he3wB : wc.heap.size ≤ wB.heap.size := (by omega)); (try have hz4wB : wA.heap.size < wB.heap.size := (by omega)); (try have he4wB : wA.heap.size ≤ wB.heap.size := (by omega))) | (go_at_call 46; (with_reducible refine (C2.out _).mono ?_); rintro e wC ⟨rfl, h1⟩; (try with_reducible replace h1 := undrew h1); have hB : Below w.heap.size w wC := ba (by go_grown) h1; obtain ⟨hcwC, hfwC⟩ := bcell h1; have hqwC := h1.size; (try simp at hqwC); (try have hz0wC : w.heap.size < wC.heap.size := (by omega)); (try have he0wC : w.heap.size ≤ wC.heap.size := (by omega)); (try have hz1wC : w.heap.size + 1 < wC.heap.size := (by omega)); (try have he1wC : w.heap.size + 1 ≤ wC.heap.size := (by omega)); (try have hz2wC : g < wC.heap.size := (by omega)); (try have he2wC : g ≤ wC.heap.size := (by omega)); (try have hz3wC : wc.heap.size < wC.heap.size := (by omega)); (try have he3wC : wc.heap.size ≤ wC.heap.size := (by omega)); (try have hz4wC : wA.heap.size < wC.heap.size := (by omega)); (try have he4wC : wA.heap.size ≤ wC.heap.size := (by omega)); (try have hz5wC : wB.heap.size < wC.heap.size := (by omega)); (try have he5wC : wB.heap.size ≤ wC.heap.size := (by omega))))
    all_goals
      go_wp2_with (go_at_call 21; refine (eqBox_same _ _ _).mono ?_; rintro e w1 ⟨rfl, h1⟩; have hB : Below w.heap.size w w1 := ba (by go_grown) h1; obtain ⟨hc1, hf1⟩ := bcell h1; have hq := h1.size; (try simp at hq); have hz0 : w.heap.size < w1.heap.size := (by omega); have hz1 : w.heap.size + 1 < w1.heap.size := (by omega); have HK1 := Lib.hid h1; clear h1 hq)
      go_returns
      exact ⟨rfl, by go_grown⟩

theorem walk (a0 a1 b0 b1 : Int) (w : World) :
    Calls Try.prog 13 #[.agg #[.int .i64 a0, .int .i64 a1], .agg #[.int .i64 b0, .int .i64 b1]] w fun e w' => e = .returned (.bool true) ∧ Below w.heap.size w w' :=
  walk0 a0 a1 b0 b1 _ _ _ w (spAddBoxes ⟨a0, a1⟩ ⟨b0, b1⟩) (imAddBoxes ⟨a0, a1⟩ ⟨b0, b1⟩)

set_option maxRecDepth 100000 in
theorem lifted (os : Os) (started : os.Started) (H : Type) (enc : TypeId × Value → H) :
    ReturnsInHanded {} Try.checked os 13 .any (Rows.fnExactAddBoxesSpec.pre6 enc Try.prog Try.f13 Rows.fnExactAddBoxesRow.domain false) (Rows.fnExactAddBoxesSpec.post enc Try.prog Try.f13 false true false false) := by
  refine returnsInHanded_of_change (C := Try.checked) Try.own started (by kernel_rfl) Try.func13
    (ChangeSpec.witness6 (enc := enc) (C := Try.checked) false ⟨#[], #[.agg #[.int .i64 0, .int .i64 0], .agg #[.int .i64 0, .int .i64 0]], []⟩ 8 (by kernel_rfl) (by kernel_rfl) (by kernel_rfl) (by kernel_rfl)) ?_
  intro W base args ds gs before hval0 hW _ _
  have hval : ∀ (j : Nat) t v, Try.f13.params[j]? = some t → args[j]? = some v → Value.okWide Try.prog W .any base t v := hval0
  have hW0 := hW
  obtain ⟨p, q, hA0, hV, rfl, _, _⟩ := hW
  have hA : DataW.TrodAll enc Try.prog W 0 (fun _ => true) true Try.f13.params.toList args.toList ds p := hA0
  rw [Try.params13] at hA hval
  obtain ⟨v0, v1, d0, d1, p0, p1, rfl, rfl, rfl, h0, h1⟩ := trodAll_two hA
  obtain ⟨a0, a1, rfl⟩ := open_box (hval 0 23 v0 rfl rfl) h0
  obtain ⟨b0, b1, rfl⟩ := open_box (hval 1 23 v1 rfl rfl) h1
  refine (walk a0 a1 b0 b1 W).mono fun e W' ⟨he, hw⟩ => ?_
  subst he
  exact ⟨_, rfl, law_post Try.laidOut (by kernel_rfl) rfl Try.underlying4 rfl rfl hW0 hw⟩

set_option maxRecDepth 100000 in
theorem closed : joinedFacts Try.prog 13 Try.f13 Rows.fnExactAddBoxesSpec Rows.fnExactAddBoxesRow = true := by
  unfold joinedFacts
  simp only [Bool.and_eq_true]
  repeat' (with_reducible apply And.intro)
  all_goals first | (with_reducible exact enter_ok) | (rw [make_ok]; kernel_rfl) | (rw [lifts_ok]; kernel_rfl) | kernel_rfl

theorem holds : Rows.FnExactAddBoxesSaid :=
  OpenClaim.holds_of_wide 13 Try.f13 rfl rfl rfl rfl rfl rfl rfl ⟨rfl, rfl, rfl, rfl, rfl⟩ rfl rfl rfl rfl rfl (by kernel_rfl) Try.func13 closed
    (of_decide_eq_true (by kernel_rfl)) (by unfold Func.isWrapper; first | (rw [if_pos (by decide +kernel)]; kernel_rfl) | (rw [if_neg (by decide +kernel)]; exact ⟨rfl, rfl⟩))
    (fun os started H enc _ => lifted os started H enc)

end Go.Proofs.Ytkmgcmgnaeamaaa.lAddBoxes
