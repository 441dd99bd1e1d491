/- Contracts: the texts of points, in the model and in the program. -/
import Derived.Test.YtamojnbhnbeecaaDoorNuA
import Derived.Test.YtamojnbhnbeecaaDoorShelf
import Derived.Lib.AppendIntMem
import Derived.Lib.SmallJoins
namespace Go.Proofs.YtamojnbhnbeecaaDoor
open Go.ChangeShapes Go.WideShapes Go.ChangeAt Go.RowKit

set_option linter.unusedVariables false

theorem ret_pt {a b c d : Int} {x : ByteArray} {g : Bool} (h : ptT a b c d = x) : Ending.returned (.tuple #[.string x, .bool g]) = Ending.returned (.tuple #[.string (ptT a b c d), .bool g]) := by rw [h]

set_option maxRecDepth 100000 in
set_option maxHeartbeats 1600000 in
theorem ptText0 (a0 a1 a2 a3 : Int) (s0 s1 s2 s3 t1 t2 t3 t4 t5 t6 : ByteArray)
    (k1 : ∀ w : World, (Op.stringOp .add s0 ⟨#[44]⟩).run Tryd.prog w = .ok (.string t1) w)
    (k2 : ∀ w : World, (Op.stringOp .add t1 s1).run Tryd.prog w = .ok (.string t2) w)
    (k3 : ∀ w : World, (Op.stringOp .add t2 ⟨#[44]⟩).run Tryd.prog w = .ok (.string t3) w)
    (k4 : ∀ w : World, (Op.stringOp .add t3 s2).run Tryd.prog w = .ok (.string t4) w)
    (k5 : ∀ w : World, (Op.stringOp .add t4 ⟨#[44]⟩).run Tryd.prog w = .ok (.string t5) w)
    (k6 : ∀ w : World, (Op.stringOp .add t5 s3).run Tryd.prog w = .ok (.string t6) w)
    (c0 : ∀ w : World, Calls Tryd.prog 22 #[.int .i64 a0] w fun e w' => e = .returned (.string s0) ∧ Below w.heap.size w w')
    (c1 : ∀ w : World, Calls Tryd.prog 22 #[.int .i64 a1] w fun e w' => e = .returned (.string s1) ∧ Below w.heap.size w w')
    (c2 : ∀ w : World, Calls Tryd.prog 22 #[.int .i64 a2] w fun e w' => e = .returned (.string s2) ∧ Below w.heap.size w w')
    (c3 : ∀ w : World, Calls Tryd.prog 22 #[.int .i64 a3] w fun e w' => e = .returned (.string s3) ∧ Below w.heap.size w w') (w : World) :
    Calls Tryd.prog 12 #[.agg #[.int .i64 a0, .int .i64 a1, .int .i64 a2, .int .i64 a3]] w fun e w' => e = .returned (.string t6) ∧ Below w.heap.size w w' := by
  have C0 := Lib.hid c0
  have C1 := Lib.hid c1
  have C2 := Lib.hid c2
  have C3 := Lib.hid c3
  clear c0 c1 c2 c3
  have hS0 := po_start a0 a1 a2 a3 w 26
  go_enter Tryd.func12, Tryd.ntmps12
  go_wp2_with fail
  go_region_held3 (fun w' => w'.cell? ⟨w.heap.size, 0, none⟩ = some (.int .i64 a0) ∧ w'.cell? ⟨w.heap.size, 1, none⟩ = some (.int .i64 a1) ∧ w'.cell? ⟨w.heap.size, 2, none⟩ = some (.int .i64 a2) ∧ w'.cell? ⟨w.heap.size, 3, none⟩ = some (.int .i64 a3))
    (first | (with_reducible assumption) | (with_reducible exact po_drew hS0) | (with_reducible exact po_drew (po_alloc hS0 _)) | (with_reducible exact po_alloc (po_drew hS0) _) | (with_reducible refine po_drew ?_; with_reducible assumption) | (with_reducible refine po_alloc ?_ _; with_reducible assumption) | (with_reducible refine po_re (by with_reducible assumption) ?_ _; (focus first | (with_reducible assumption) | omega | (simp; done) | (simp; omega))) | (with_reducible refine po_below ?_ ?_ h1; (focus first | (with_reducible assumption) | (with_reducible refine po_undrew ?_; with_reducible assumption)); (focus first | (with_reducible assumption) | omega | (simp; done) | (simp; omega))) | ((repeat (with_reducible refine po_set ?_ _ _ ?_; rotate_left 1; (focus first | (with_reducible assumption) | omega | (simp; done) | (simp; omega)))); with_reducible assumption))
    (first | (go_at_call 22; (with_reducible refine (C0.out _).mono ?_); rintro e wA ⟨rfl, h1⟩; (try with_reducible replace h1 := undrew h1); have hB : Below w.heap.size w wA := ba (by go_grown) h1; obtain ⟨hcwA, hfwA⟩ := bcell h1; have hqwA := h1.size; (try simp at hqwA); (try have hz0wA : w.heap.size < wA.heap.size := (by omega)); (try have he0wA : w.heap.size ≤ wA.heap.size := (by omega)); (try have hz1wA : w.heap.size + 1 < wA.heap.size := (by omega)); (try have he1wA : w.heap.size + 1 ≤ wA.heap.size := (by omega))) | (go_at_call 22; (with_reducible refine (C1.out _).mono ?_); rintro e wB ⟨rfl, h1⟩; (try with_reducible replace h1 := undrew h1); have hB : Below w.heap.size w wB := ba (by go_grown) h1; obtain ⟨hcwB, hfwB⟩ := bcell h1; have hqwB := h1.size; (try simp at hqwB); (try have hz0wB : w.heap.size < wB.heap.size := (by omega)); (try have he0wB : w.heap.size ≤ wB.heap.size := (by omega)); (try have hz1wB : w.heap.size + 1 < wB.heap.size := (by omega)); (try have he1wB : w.heap.size + 1 ≤ wB.heap.size := (by omega)); (try have hz2wB : wA.heap.size < wB.heap.size := (by omega)); (try have he2wB : wA.heap.size ≤ wB.heap.size := (by omega))) | (go_at_call 22; (with_reducible refine (C2.out _).mono ?_); rintro e wC ⟨rfl, h1⟩; (try with_reducible replace h1 := undrew h1); have hB : Below w.heap.size w wC := ba (by go_grown) h1; obtain ⟨hcwC, hfwC⟩ := bcell h1; have hqwC := h1.size; (try simp at hqwC); (try have hz0wC : w.heap.size < wC.heap.size := (by omega)); (try have he0wC : w.heap.size ≤ wC.heap.size := (by omega)); (try have hz1wC : w.heap.size + 1 < wC.heap.size := (by omega)); (try have he1wC : w.heap.size + 1 ≤ wC.heap.size := (by omega)); (try have hz2wC : wA.heap.size < wC.heap.size := (by omega)); (try have he2wC : wA.heap.size ≤ wC.heap.size := (by omega)); (try have hz3wC : wB.heap.size < wC.heap.size := (by omega)); (try have he3wC : wB.heap.size ≤ wC.heap.size := (by omega))) | (go_at_call 22; (with_reducible refine (C3.out _).mono ?_); rintro e wD ⟨rfl, h1⟩; (try with_reducible replace h1 := undrew h1); have hB : Below w.heap.size w wD := ba (by go_grown) h1; obtain ⟨hcwD, hfwD⟩ := bcell h1; have hqwD := h1.size; (try simp at hqwD); (try have hz0wD : w.heap.size < wD.heap.size := (by omega)); (try have he0wD : w.heap.size ≤ wD.heap.size := (by omega)); (try have hz1wD : w.heap.size + 1 < wD.heap.size := (by omega)); (try have he1wD : w.heap.size + 1 ≤ wD.heap.size := (by omega)); (try have hz2wD : wA.heap.size < wD.heap.size := (by omega)); (try have he2wD : wA.heap.size ≤ wD.heap.size := (by omega)); (try have hz3wD : wB.heap.size < wD.heap.size := (by omega)); (try have he3wD : wB.heap.size ≤ wD.heap.size := (by omega)); (try have hz4wD : wC.heap.size < wD.heap.size := (by omega)); (try have he4wD : wC.heap.size ≤ wD.heap.size := (by omega))))
  all_goals go_wp2_with fail
  all_goals clear hS0
  all_goals go_ret
  all_goals exact ⟨rfl, by go_grown⟩

theorem ptText_any (a0 a1 a2 a3 : Int) (h : goodB a0 a1 a2 a3 = true) (w : World) :
    Calls Tryd.prog 12 #[.agg #[.int .i64 a0, .int .i64 a1, .int .i64 a2, .int .i64 a3]] w fun e w' => e = .returned (.string (ptJ a0 a1 a2 a3)) ∧ Below w.heap.size w w' := by
  simp only [goodB, decide_eq_true_eq] at h
  obtain ⟨h0, h1, h2, h3, h4, h5, h6, h7⟩ := h
  rw [← ptJ_eq]
  have z0 := nu_len h0 h1
  have z1 := nu_len h2 h3
  have z2 := nu_len h4 h5
  have z3 := nu_len h6 h7
  have zc : (⟨#[44]⟩ : ByteArray).size = 1 := rfl
  exact ptText0 a0 a1 a2 a3 _ _ _ _ _ _ _ _ _ _ (fun w => run_string_add_sum w _ _ (by omega)) (fun w => run_string_add_sum w _ _ (by simp only [ByteArray.size_append]; omega)) (fun w => run_string_add_sum w _ _ (by simp only [ByteArray.size_append]; omega)) (fun w => run_string_add_sum w _ _ (by simp only [ByteArray.size_append]; omega)) (fun w => run_string_add_sum w _ _ (by simp only [ByteArray.size_append]; omega)) (fun w => run_string_add_sum w _ _ (by simp only [ByteArray.size_append]; omega)) (int_all a0 h0 h1) (int_all a1 h2 h3) (int_all a2 h4 h5) (int_all a3 h6 h7) w

set_option maxRecDepth 100000 in
set_option maxHeartbeats 1600000 in
theorem spPointText (a0 a1 a2 a3 : Int) (w : World) :
    Calls Tryd.prog 5 #[.agg #[.int .i64 a0, .int .i64 a1, .int .i64 a2, .int .i64 a3]] w fun e w' => e = .returned (.tuple #[.string (ptT a0 a1 a2 a3), .bool (goodB a0 a1 a2 a3)]) ∧ Below w.heap.size w w' := by
  have NG := Lib.hid (spGood_any a0 a1 a2 a3)
  cases hg : goodB a0 a1 a2 a3
  · have HR := Lib.hid (show ptT a0 a1 a2 a3 = ⟨#[]⟩ by simp [ptT, hg])
    rw [hg] at NG
    clear hg
    go_enter Tryd.func5, Tryd.ntmps5
    go_wp2_with (first | (go_at_call 11; (with_reducible refine (NG.out _).mono ?_); rintro e wA ⟨rfl, h1⟩; (try with_reducible replace h1 := undrew h1); have hB : Below w.heap.size w wA := ba (by go_grown) h1; obtain ⟨hcwA, hfwA⟩ := bcell h1; have hqwA := h1.size; (try simp at hqwA); (try have hz0wA : w.heap.size < wA.heap.size := (by omega)); (try have he0wA : w.heap.size ≤ wA.heap.size := (by omega)); (try have hz1wA : w.heap.size + 1 < wA.heap.size := (by omega)); (try have he1wA : w.heap.size + 1 ≤ wA.heap.size := (by omega))))
    refine bodyPost_ret (by simp [results, Tryd.results5, go_sem, *]; try rfl) rfl ?_
    exact ⟨ret_pt HR.out, by go_grown⟩
  · have HR := Lib.hid (show ptT a0 a1 a2 a3 = ptJ a0 a1 a2 a3 by simp [ptT, hg])
    have NP := Lib.hid (ptText_any a0 a1 a2 a3 hg)
    rw [hg] at NG
    clear hg
    go_enter Tryd.func5, Tryd.ntmps5
    go_wp2_with (first | (go_at_call 11; (with_reducible refine (NG.out _).mono ?_); rintro e wA ⟨rfl, h1⟩; (try with_reducible replace h1 := undrew h1); have hB : Below w.heap.size w wA := ba (by go_grown) h1; obtain ⟨hcwA, hfwA⟩ := bcell h1; have hqwA := h1.size; (try simp at hqwA); (try have hz0wA : w.heap.size < wA.heap.size := (by omega)); (try have he0wA : w.heap.size ≤ wA.heap.size := (by omega)); (try have hz1wA : w.heap.size + 1 < wA.heap.size := (by omega)); (try have he1wA : w.heap.size + 1 ≤ wA.heap.size := (by omega))) | (go_at_call 12; (with_reducible refine (NP.out _).mono ?_); rintro e wB ⟨rfl, h1⟩; (try with_reducible replace h1 := undrew h1); have hB : Below w.heap.size w wB := ba (by go_grown) h1; obtain ⟨hcwB, hfwB⟩ := bcell h1; have hqwB := h1.size; (try simp at hqwB); (try have hz0wB : w.heap.size < wB.heap.size := (by omega)); (try have he0wB : w.heap.size ≤ wB.heap.size := (by omega)); (try have hz1wB : w.heap.size + 1 < wB.heap.size := (by omega)); (try have he1wB : w.heap.size + 1 ≤ wB.heap.size := (by omega)); (try have hz2wB : wA.heap.size < wB.heap.size := (by omega)); (try have he2wB : wA.heap.size ≤ wB.heap.size := (by omega))))
    refine bodyPost_ret (by simp [results, Tryd.results5, go_sem, *]; try rfl) rfl ?_
    exact ⟨ret_pt HR.out, by go_grown⟩

theorem itoa_any {w0 : World} (ht : Lib.TabIs Tryd.prog w0 "internal/strconv.uint64pow10" .u64 Lib.pow10Tab) (n : Int) (h0 : -999999 ≤ n) (h1 : n ≤ 999999) (w : World) (hb : Below w0.heap.size w0 w) :
    Calls Tryd.prog 14 #[.int .i64 n] w fun e w' => e = .returned (.string (nuT n)) ∧ Below w.heap.size w w' :=
  (Tryd.strconv_Itoa n (by omega) (by omega) w (Go.Joins.tab_stays (g := 2) (by kernel_rfl) ht hb (Nat.le_refl _))).mono fun e w' ⟨he, k, os, hw⟩ => ⟨he, by rw [hw]; exact Lib.below_grow _ _ (Nat.le_refl _) k os⟩

set_option maxRecDepth 100000 in
set_option maxHeartbeats 1600000 in
theorem imPointText (a0 a1 a2 a3 : Int) (w : World) (ht : Lib.TabIs Tryd.prog w "internal/strconv.uint64pow10" .u64 Lib.pow10Tab) :
    Calls Tryd.prog 7 #[.agg #[.int .i64 a0, .int .i64 a1, .int .i64 a2, .int .i64 a3]] w fun e w' => e = .returned (.tuple #[.string (ptT a0 a1 a2 a3), .bool (goodB a0 a1 a2 a3)]) ∧ Below w.heap.size w w' := by
  have NG := Lib.hid (imIsPoint_any a0 a1 a2 a3)
  cases hg : goodB a0 a1 a2 a3
  · have HR := Lib.hid (show ptT a0 a1 a2 a3 = ⟨#[]⟩ by simp [ptT, hg])
    rw [hg] at NG
    clear hg
    go_enter Tryd.func7, Tryd.ntmps7
    go_wp2_with (first | (go_at_call 13; (with_reducible refine (NG.out _).mono ?_); rintro e wA ⟨rfl, h1⟩; (try with_reducible replace h1 := undrew h1); have hB : Below w.heap.size w wA := ba (by go_grown) h1; obtain ⟨hcwA, hfwA⟩ := bcell h1; have hqwA := h1.size; (try simp at hqwA); (try have hz0wA : w.heap.size < wA.heap.size := (by omega)); (try have he0wA : w.heap.size ≤ wA.heap.size := (by omega)); (try have hz1wA : w.heap.size + 1 < wA.heap.size := (by omega)); (try have he1wA : w.heap.size + 1 ≤ wA.heap.size := (by omega))))
    refine bodyPost_ret (by simp [results, Tryd.results7, go_sem, *]; try rfl) rfl ?_
    exact ⟨ret_pt HR.out, by go_grown⟩
  · have HR := Lib.hid (show ptT a0 a1 a2 a3 = ptJ a0 a1 a2 a3 by simp [ptT, hg])
    have HL := Lib.hid (ptJ_len hg)
    rw [hg] at NG
    simp only [goodB, decide_eq_true_eq] at hg
    obtain ⟨h0, h1, h2, h3, h4, h5, h6, h7⟩ := hg
    have I0 := Lib.hid (itoa_any ht a0 h0 h1)
    have I1 := Lib.hid (itoa_any ht a1 h2 h3)
    have I2 := Lib.hid (itoa_any ht a2 h4 h5)
    have I3 := Lib.hid (itoa_any ht a3 h6 h7)
    have HL2 := Lib.hid (show (Lib.join ([nuT a0, nuT a1, nuT a2, nuT a3].map (·.data.toList)) (⟨#[44]⟩ : ByteArray).data.toList).length ≤ 140737488355328 from Nat.le_trans HL.out (by decide))
    have HT := Lib.hid ht
    clear ht
    go_enter Tryd.func7, Tryd.ntmps7
    go_wp2_with (first | (go_at_call 13; (with_reducible refine (NG.out _).mono ?_); rintro e wA ⟨rfl, h1⟩; (try with_reducible replace h1 := undrew h1); have hB : Below w.heap.size w wA := ba (by go_grown) h1; obtain ⟨hcwA, hfwA⟩ := bcell h1; have hqwA := h1.size; (try simp at hqwA); (try have hz0wA : w.heap.size < wA.heap.size := (by omega)); (try have he0wA : w.heap.size ≤ wA.heap.size := (by omega)); (try have hz1wA : w.heap.size + 1 < wA.heap.size := (by omega)); (try have he1wA : w.heap.size + 1 ≤ wA.heap.size := (by omega))))
    have hS0 : wA.cell? ⟨w.heap.size, 0, none⟩ = some (.int .i64 a0) ∧ wA.cell? ⟨w.heap.size, 1, none⟩ = some (.int .i64 a1) ∧ wA.cell? ⟨w.heap.size, 2, none⟩ = some (.int .i64 a2) ∧ wA.cell? ⟨w.heap.size, 3, none⟩ = some (.int .i64 a3) := by refine ⟨?_, ?_, ?_, ?_⟩ <;> go_simp
    go_region_held3 (fun w' => w'.cell? ⟨w.heap.size, 0, none⟩ = some (.int .i64 a0) ∧ w'.cell? ⟨w.heap.size, 1, none⟩ = some (.int .i64 a1) ∧ w'.cell? ⟨w.heap.size, 2, none⟩ = some (.int .i64 a2) ∧ w'.cell? ⟨w.heap.size, 3, none⟩ = some (.int .i64 a3))
      (first | (with_reducible assumption) | (with_reducible exact po_drew hS0) | (with_reducible exact po_drew (po_alloc hS0 _)) | (with_reducible exact po_alloc (po_drew hS0) _) | (with_reducible refine po_drew ?_; with_reducible assumption) | (with_reducible refine po_alloc ?_ _; with_reducible assumption) | (with_reducible refine po_re (by with_reducible assumption) ?_ _; (focus first | (with_reducible assumption) | omega | (simp; done) | (simp; omega))) | (with_reducible refine po_below ?_ ?_ h1; (focus first | (with_reducible assumption) | (with_reducible refine po_undrew ?_; with_reducible assumption)); (focus first | (with_reducible assumption) | omega | (simp; done) | (simp; omega))) | ((repeat (with_reducible refine po_set ?_ _ _ ?_; rotate_left 1; (focus first | (with_reducible assumption) | omega | (simp; done) | (simp; omega)))); with_reducible assumption))
      (first | (go_at_call 14; (with_reducible refine (I0.out _ (by go_grown)).mono ?_); rintro e wB ⟨rfl, h1⟩; (try with_reducible replace h1 := undrew h1); have hB : Below w.heap.size w wB := ba (by go_grown) h1; obtain ⟨hcwB, hfwB⟩ := bcell h1; have hqwB := h1.size; (try simp at hqwB); (try have hz0wB : w.heap.size < wB.heap.size := (by omega)); (try have he0wB : w.heap.size ≤ wB.heap.size := (by omega)); (try have hz1wB : wA.heap.size < wB.heap.size := (by omega)); (try have he1wB : wA.heap.size ≤ wB.heap.size := (by omega))) | (go_at_call 14; (with_reducible refine (I1.out _ (by go_grown)).mono ?_); rintro e wC ⟨rfl, h1⟩; (try with_reducible replace h1 := undrew h1); have hB : Below w.heap.size w wC := ba (by go_grown) h1; obtain ⟨hcwC, hfwC⟩ := bcell h1; have hqwC := h1.size; (try simp at hqwC); (try have hz0wC : w.heap.size < wC.heap.size := (by omega)); (try have he0wC : w.heap.size ≤ wC.heap.size := (by omega)); (try have hz1wC : wA.heap.size < wC.heap.size := (by omega)); (try have he1wC : wA.heap.size ≤ wC.heap.size := (by omega)); (try have hz2wC : wB.heap.size < wC.heap.size := (by omega)); (try have he2wC : wB.heap.size ≤ wC.heap.size := (by omega))) | (go_at_call 14; (with_reducible refine (I2.out _ (by go_grown)).mono ?_); rintro e wD ⟨rfl, h1⟩; (try with_reducible replace h1 := undrew h1); have hB : Below w.heap.size w wD := ba (by go_grown) h1; obtain ⟨hcwD, hfwD⟩ := bcell h1; have hqwD := h1.size; (try simp at hqwD); (try have hz0wD : w.heap.size < wD.heap.size := (by omega)); (try have he0wD : w.heap.size ≤ wD.heap.size := (by omega)); (try have hz1wD : wA.heap.size < wD.heap.size := (by omega)); (try have he1wD : wA.heap.size ≤ wD.heap.size := (by omega)); (try have hz2wD : wB.heap.size < wD.heap.size := (by omega)); (try have he2wD : wB.heap.size ≤ wD.heap.size := (by omega)); (try have hz3wD : wC.heap.size < wD.heap.size := (by omega)); (try have he3wD : wC.heap.size ≤ wD.heap.size := (by omega))) | (go_at_call 14; (with_reducible refine (I3.out _ (by go_grown)).mono ?_); rintro e wE ⟨rfl, h1⟩; (try with_reducible replace h1 := undrew h1); have hB : Below w.heap.size w wE := ba (by go_grown) h1; obtain ⟨hcwE, hfwE⟩ := bcell h1; have hqwE := h1.size; (try simp at hqwE); (try have hz0wE : w.heap.size < wE.heap.size := (by omega)); (try have he0wE : w.heap.size ≤ wE.heap.size := (by omega)); (try have hz1wE : wA.heap.size < wE.heap.size := (by omega)); (try have he1wE : wA.heap.size ≤ wE.heap.size := (by omega)); (try have hz2wE : wB.heap.size < wE.heap.size := (by omega)); (try have he2wE : wB.heap.size ≤ wE.heap.size := (by omega)); (try have hz3wE : wC.heap.size < wE.heap.size := (by omega)); (try have he3wE : wC.heap.size ≤ wE.heap.size := (by omega)); (try have hz4wE : wD.heap.size < wE.heap.size := (by omega)); (try have he4wE : wD.heap.size ≤ wE.heap.size := (by omega))))
    all_goals clear hS0
    all_goals go_wp2_with fail
    all_goals refine (Tryd.strings_Join wE.heap.size 0 4 [nuT a0, nuT a1, nuT a2, nuT a3] ⟨#[44]⟩ _ ?_ (by simp) (by simp) (by simp) HL2.out).mono ?_
    · intro j x hx
      match j, hx with
      | 0, hx => simp at hx; subst hx; go_simp
      | 1, hx => simp at hx; subst hx; go_simp
      | 2, hx => simp at hx; subst hx; go_simp
      | 3, hx => simp at hx; subst hx; go_simp
    · rintro e wF ⟨rfl, hF⟩
      have hBF : Below w.heap.size w wF := ba (by go_grown) hF
      go_wp2_with fail
      refine bodyPost_ret (by simp [results, Tryd.results7, go_sem, *]; try rfl) rfl ?_
      exact ⟨ret_pt HR.out, hBF⟩

end Go.Proofs.YtamojnbhnbeecaaDoor
