/- Contracts: SideOf, in the model and in the program. -/
import Derived.Test.YtppbbcckijcckaaAp
namespace Go.Proofs.Ytppbbcckijcckaa
open Go.ChangeShapes Go.WideShapes Go.ChangeAt Go.RowKit Go.Sort

set_option linter.unusedVariables false
set_option linter.unusedSimpArgs false

def plB3 (p q r : Pn) : Bool := plB p && (plB q && plB r)

def sdR (p q r : Pn) : Int := cond (plB3 p q r) (Pn.sd p q r) 0

theorem plB3_bd {p q r : Pn} (h : plB3 p q r = true) : Bd 100000 p ∧ Bd 100000 q ∧ Bd 100000 r := by
  unfold plB3 at h
  simp only [Bool.and_eq_true] at h
  exact ⟨plB_bd h.1, plB_bd h.2.1, plB_bd h.2.2⟩

set_option maxRecDepth 100000 in
set_option maxHeartbeats 1600000 in
theorem spSideOfP (p q r : Pn) (w : World) :
    Calls Try.prog 17 #[pv p, pv q, pv r] w fun e w' => e = .returned (.tuple #[.int .i64 (sdR p q r), .bool (plB3 p q r)]) ∧ Below w.heap.size w w' := by
  unfold sdR
  cases hp : plB p
  · have h3 : plB3 p q r = false := by simp [plB3, hp]
    rw [h3]
    go_enter Try.func17, Try.ntmps17
    go_wp2_with (go_at_call 53; (with_reducible refine (arGoodP _ _).mono ?_); rintro e wA ⟨rfl, h1⟩; (try with_reducible replace h1 := undrew h1); have hB : Below w.heap.size w wA := ba (by go_grown) h1; obtain ⟨hcwA, hfwA⟩ := bcell h1; have hqwA := h1.size; (try simp at hqwA); (try have hz0wA : w.heap.size < wA.heap.size := (by omega)); (try have he0wA : w.heap.size ≤ wA.heap.size := (by omega)); (try have hz1wA : w.heap.size + 1 < wA.heap.size := (by omega)); (try have he1wA : w.heap.size + 1 ≤ wA.heap.size := (by omega)); (try have hz2wA : w.heap.size + 1 + 1 < wA.heap.size := (by omega)); (try have he2wA : w.heap.size + 1 + 1 ≤ wA.heap.size := (by omega)))
    go_returns
    exact ⟨rfl, by go_grown⟩
  cases hq : plB q
  · have h3 : plB3 p q r = false := by simp [plB3, hp, hq]
    rw [h3]
    go_enter Try.func17, Try.ntmps17
    go_wp2_with (first | (go_at_call 53; (with_reducible refine (arGoodP p _).mono ?_); rintro e wA ⟨rfl, h1⟩; (try with_reducible replace h1 := undrew h1); have hB : Below w.heap.size w wA := ba (by go_grown) h1; obtain ⟨hcwA, hfwA⟩ := bcell h1; have hqwA := h1.size; (try simp at hqwA); (try have hz0wA : w.heap.size < wA.heap.size := (by omega)); (try have he0wA : w.heap.size ≤ wA.heap.size := (by omega)); (try have hz1wA : w.heap.size + 1 < wA.heap.size := (by omega)); (try have he1wA : w.heap.size + 1 ≤ wA.heap.size := (by omega)); (try have hz2wA : w.heap.size + 1 + 1 < wA.heap.size := (by omega)); (try have he2wA : w.heap.size + 1 + 1 ≤ wA.heap.size := (by omega))) | (go_at_call 53; (with_reducible refine (arGoodP q _).mono ?_); rintro e wB ⟨rfl, h1⟩; (try with_reducible replace h1 := undrew h1); have hB : Below w.heap.size w wB := ba (by go_grown) h1; obtain ⟨hcwB, hfwB⟩ := bcell h1; have hqwB := h1.size; (try simp at hqwB); (try have hz0wB : w.heap.size < wB.heap.size := (by omega)); (try have he0wB : w.heap.size ≤ wB.heap.size := (by omega)); (try have hz1wB : w.heap.size + 1 < wB.heap.size := (by omega)); (try have he1wB : w.heap.size + 1 ≤ wB.heap.size := (by omega)); (try have hz2wB : w.heap.size + 1 + 1 < wB.heap.size := (by omega)); (try have he2wB : w.heap.size + 1 + 1 ≤ wB.heap.size := (by omega))))
    go_returns
    exact ⟨rfl, by go_grown⟩
  cases hr : plB r
  · have h3 : plB3 p q r = false := by simp [plB3, hp, hq, hr]
    rw [h3]
    go_enter Try.func17, Try.ntmps17
    go_wp2_with (first | (go_at_call 53; (with_reducible refine (arGoodP p _).mono ?_); rintro e wA ⟨rfl, h1⟩; (try with_reducible replace h1 := undrew h1); have hB : Below w.heap.size w wA := ba (by go_grown) h1; obtain ⟨hcwA, hfwA⟩ := bcell h1; have hqwA := h1.size; (try simp at hqwA); (try have hz0wA : w.heap.size < wA.heap.size := (by omega)); (try have he0wA : w.heap.size ≤ wA.heap.size := (by omega)); (try have hz1wA : w.heap.size + 1 < wA.heap.size := (by omega)); (try have he1wA : w.heap.size + 1 ≤ wA.heap.size := (by omega)); (try have hz2wA : w.heap.size + 1 + 1 < wA.heap.size := (by omega)); (try have he2wA : w.heap.size + 1 + 1 ≤ wA.heap.size := (by omega))) | (go_at_call 53; (with_reducible refine (arGoodP q _).mono ?_); rintro e wB ⟨rfl, h1⟩; (try with_reducible replace h1 := undrew h1); have hB : Below w.heap.size w wB := ba (by go_grown) h1; obtain ⟨hcwB, hfwB⟩ := bcell h1; have hqwB := h1.size; (try simp at hqwB); (try have hz0wB : w.heap.size < wB.heap.size := (by omega)); (try have he0wB : w.heap.size ≤ wB.heap.size := (by omega)); (try have hz1wB : w.heap.size + 1 < wB.heap.size := (by omega)); (try have he1wB : w.heap.size + 1 ≤ wB.heap.size := (by omega)); (try have hz2wB : w.heap.size + 1 + 1 < wB.heap.size := (by omega)); (try have he2wB : w.heap.size + 1 + 1 ≤ wB.heap.size := (by omega))) | (go_at_call 53; (with_reducible refine (arGoodP r _).mono ?_); rintro e wC ⟨rfl, h1⟩; (try with_reducible replace h1 := undrew h1); have hB : Below w.heap.size w wC := ba (by go_grown) h1; obtain ⟨hcwC, hfwC⟩ := bcell h1; have hqwC := h1.size; (try simp at hqwC); (try have hz0wC : w.heap.size < wC.heap.size := (by omega)); (try have he0wC : w.heap.size ≤ wC.heap.size := (by omega)); (try have hz1wC : w.heap.size + 1 < wC.heap.size := (by omega)); (try have he1wC : w.heap.size + 1 ≤ wC.heap.size := (by omega)); (try have hz2wC : w.heap.size + 1 + 1 < wC.heap.size := (by omega)); (try have he2wC : w.heap.size + 1 + 1 ≤ wC.heap.size := (by omega))))
    go_returns
    exact ⟨rfl, by go_grown⟩
  · have h3 : plB3 p q r = true := by simp [plB3, hp, hq, hr]
    rw [h3]
    go_enter Try.func17, Try.ntmps17
    go_wp2_with (first | (go_at_call 53; (with_reducible refine (arGoodP p _).mono ?_); rintro e wA ⟨rfl, h1⟩; (try with_reducible replace h1 := undrew h1); have hB : Below w.heap.size w wA := ba (by go_grown) h1; obtain ⟨hcwA, hfwA⟩ := bcell h1; have hqwA := h1.size; (try simp at hqwA); (try have hz0wA : w.heap.size < wA.heap.size := (by omega)); (try have he0wA : w.heap.size ≤ wA.heap.size := (by omega)); (try have hz1wA : w.heap.size + 1 < wA.heap.size := (by omega)); (try have he1wA : w.heap.size + 1 ≤ wA.heap.size := (by omega)); (try have hz2wA : w.heap.size + 1 + 1 < wA.heap.size := (by omega)); (try have he2wA : w.heap.size + 1 + 1 ≤ wA.heap.size := (by omega))) | (go_at_call 53; (with_reducible refine (arGoodP q _).mono ?_); rintro e wB ⟨rfl, h1⟩; (try with_reducible replace h1 := undrew h1); have hB : Below w.heap.size w wB := ba (by go_grown) h1; obtain ⟨hcwB, hfwB⟩ := bcell h1; have hqwB := h1.size; (try simp at hqwB); (try have hz0wB : w.heap.size < wB.heap.size := (by omega)); (try have he0wB : w.heap.size ≤ wB.heap.size := (by omega)); (try have hz1wB : w.heap.size + 1 < wB.heap.size := (by omega)); (try have he1wB : w.heap.size + 1 ≤ wB.heap.size := (by omega)); (try have hz2wB : w.heap.size + 1 + 1 < wB.heap.size := (by omega)); (try have he2wB : w.heap.size + 1 + 1 ≤ wB.heap.size := (by omega))) | (go_at_call 53; (with_reducible refine (arGoodP r _).mono ?_); rintro e wC ⟨rfl, h1⟩; (try with_reducible replace h1 := undrew h1); have hB : Below w.heap.size w wC := ba (by go_grown) h1; obtain ⟨hcwC, hfwC⟩ := bcell h1; have hqwC := h1.size; (try simp at hqwC); (try have hz0wC : w.heap.size < wC.heap.size := (by omega)); (try have he0wC : w.heap.size ≤ wC.heap.size := (by omega)); (try have hz1wC : w.heap.size + 1 < wC.heap.size := (by omega)); (try have he1wC : w.heap.size + 1 ≤ wC.heap.size := (by omega)); (try have hz2wC : w.heap.size + 1 + 1 < wC.heap.size := (by omega)); (try have he2wC : w.heap.size + 1 + 1 ≤ wC.heap.size := (by omega))) | (go_at_call 54; (with_reducible refine (arSideP p q r (plB_bd hp) (plB_bd hq) (plB_bd hr) _).mono ?_); rintro e wD ⟨rfl, h1⟩; (try with_reducible replace h1 := undrew h1); have hB : Below w.heap.size w wD := ba (by go_grown) h1; obtain ⟨hcwD, hfwD⟩ := bcell h1; have hqwD := h1.size; (try simp at hqwD); (try have hz0wD : w.heap.size < wD.heap.size := (by omega)); (try have he0wD : w.heap.size ≤ wD.heap.size := (by omega)); (try have hz1wD : w.heap.size + 1 < wD.heap.size := (by omega)); (try have he1wD : w.heap.size + 1 ≤ wD.heap.size := (by omega)); (try have hz2wD : w.heap.size + 1 + 1 < wD.heap.size := (by omega)); (try have he2wD : w.heap.size + 1 + 1 ≤ wD.heap.size := (by omega))))
    go_returns
    exact ⟨rfl, by go_grown⟩

set_option maxRecDepth 100000 in
set_option maxHeartbeats 1600000 in
theorem imSideOfP (p q r : Pn) (w : World) :
    Calls Try.prog 19 #[pv p, pv q, pv r] w fun e w' => e = .returned (.tuple #[.int .i64 (sdR p q r), .bool (plB3 p q r)]) ∧ Below w.heap.size w w' := by
  unfold sdR
  have e3 : [p, q, r].all plB = plB3 p q r := by simp [plB3]
  cases h3 : plB3 p q r <;> rw [h3] at e3
  · go_enter Try.func19, Try.ntmps19
    go_wp2_with (go_at_call 55; (with_reducible refine ((e3 ▸ arePlacesP _ 3 3 [p, q, r] rfl (by omega) _ (by simp) (rowP3 (by go_simp) (by go_simp) (by go_simp) (by go_simp) (by go_simp) (by go_simp) (by go_simp) (by go_simp) (by go_simp) (by go_simp) (by go_simp) (by go_simp)))).mono ?_); rintro e wA ⟨rfl, h1⟩; (try with_reducible replace h1 := undrew h1); have hB : Below w.heap.size w wA := ba (by go_grown) h1; obtain ⟨hcwA, hfwA⟩ := bcell h1; have hqwA := h1.size; (try simp at hqwA); (try have hz0wA : w.heap.size < wA.heap.size := (by omega)); (try have he0wA : w.heap.size ≤ wA.heap.size := (by omega)); (try have hz1wA : w.heap.size + 1 < wA.heap.size := (by omega)); (try have he1wA : w.heap.size + 1 ≤ wA.heap.size := (by omega)); (try have hz2wA : w.heap.size + 1 + 1 < wA.heap.size := (by omega)); (try have he2wA : w.heap.size + 1 + 1 ≤ wA.heap.size := (by omega)))
    go_returns
    exact ⟨rfl, by go_grown⟩
  · obtain ⟨bp, bq, br⟩ := plB3_bd h3
    go_enter Try.func19, Try.ntmps19
    go_wp2_with (first | (go_at_call 55; (with_reducible refine ((e3 ▸ arePlacesP _ 3 3 [p, q, r] rfl (by omega) _ (by simp) (rowP3 (by go_simp) (by go_simp) (by go_simp) (by go_simp) (by go_simp) (by go_simp) (by go_simp) (by go_simp) (by go_simp) (by go_simp) (by go_simp) (by go_simp)))).mono ?_); rintro e wA ⟨rfl, h1⟩; (try with_reducible replace h1 := undrew h1); have hB : Below w.heap.size w wA := ba (by go_grown) h1; obtain ⟨hcwA, hfwA⟩ := bcell h1; have hqwA := h1.size; (try simp at hqwA); (try have hz0wA : w.heap.size < wA.heap.size := (by omega)); (try have he0wA : w.heap.size ≤ wA.heap.size := (by omega)); (try have hz1wA : w.heap.size + 1 < wA.heap.size := (by omega)); (try have he1wA : w.heap.size + 1 ≤ wA.heap.size := (by omega)); (try have hz2wA : w.heap.size + 1 + 1 < wA.heap.size := (by omega)); (try have he2wA : w.heap.size + 1 + 1 ≤ wA.heap.size := (by omega))) | (go_at_call 56; (with_reducible refine (sideP p q r bp bq br _).mono ?_); rintro e wB ⟨rfl, h1⟩; (try with_reducible replace h1 := undrew h1); have hB : Below w.heap.size w wB := ba (by go_grown) h1; obtain ⟨hcwB, hfwB⟩ := bcell h1; have hqwB := h1.size; (try simp at hqwB); (try have hz0wB : w.heap.size < wB.heap.size := (by omega)); (try have he0wB : w.heap.size ≤ wB.heap.size := (by omega)); (try have hz1wB : w.heap.size + 1 < wB.heap.size := (by omega)); (try have he1wB : w.heap.size + 1 ≤ wB.heap.size := (by omega)); (try have hz2wB : w.heap.size + 1 + 1 < wB.heap.size := (by omega)); (try have he2wB : w.heap.size + 1 + 1 ≤ wB.heap.size := (by omega))))
    go_returns
    exact ⟨rfl, by go_grown⟩

end Go.Proofs.Ytppbbcckijcckaa
