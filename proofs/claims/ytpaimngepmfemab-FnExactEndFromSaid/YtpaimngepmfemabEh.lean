/- Contract: the end of a track that is laid from a point with a heading, in the program: where the end is a point. -/
import Derived.Test.YtpaimngepmfemabEf
import Derived.Test.YtpaimngepmfemabSt

import Derived.Deep.DeepCutAuto
namespace Go.Proofs.Ytpaimngepmfemab
open Go.ChangeShapes Go.WideShapes Go.ChangeAt Go.RowKit

set_option linter.unusedVariables false
set_option linter.unusedSimpArgs false

theorem turn_any (h k : Int) (h0 : 0 ≤ h) (h7 : h ≤ 7) (k0 : 0 ≤ k) (k7 : k ≤ 7) (w : World) :
    Calls Try.prog 54 #[.int .i64 h, .int .i64 k] w fun e w' => e = .returned (.int .i64 ((h + k) % 8)) ∧ w = w' := by
  have hm : (h + k + 8) % 8 = (h + k) % 8 := by omega
  have HM := Lib.hid hm
  clear hm
  go_enter Try.func54, Try.ntmps54
  go_wp2
  go_ret
  exact ⟨by first | rfl | (rw [← HM.out]; rfl) | (simp; omega), rfl⟩

set_option maxRecDepth 100000 in
set_option maxHeartbeats 6400000 in
theorem imEF_yes (s : ByteArray) (p0 p1 p2 p3 h e0 e1 e2 e3 eh t0 t1 t2 t3 : Int) (w : World) (hg : goodB p0 p1 p2 p3 = true) (hh : inB h 0 7 = true) (k4 : 0 ≤ eh) (k5 : eh ≤ 7)
    (m0 : -999999 ≤ t0) (m0' : t0 ≤ 999999) (m1 : -999999 ≤ t1) (m1' : t1 ≤ 999999) (m2 : -999999 ≤ t2) (m2' : t2 ≤ 999999) (m3 : -999999 ≤ t3) (m3' : t3 ≤ 999999)
    (he : ∀ w, Calls Try.prog 44 #[.string s] w fun e w' => e = .returned (.tuple #[.agg #[.int .i64 e0, .int .i64 e1, .int .i64 e2, .int .i64 e3, .int .i64 eh], .bool true]) ∧ Below w.heap.size w w')
    (hT : ∀ w, Calls Try.prog 52 #[.agg #[.int .i64 e0, .int .i64 e1, .int .i64 e2, .int .i64 e3], .agg #[.int .i64 (tu0 h 1 0 0 0), .int .i64 (tu1 h 1 0 0 0), .int .i64 (tu2 h 1 0 0 0), .int .i64 (tu3 h 1 0 0 0)]] w fun e w' => e = .returned (.agg #[.int .i64 t0, .int .i64 t1, .int .i64 t2, .int .i64 t3]) ∧ Below w.heap.size w w')
    (hq : goodB (p0 + t0) (p1 + t1) (p2 + t2) (p3 + t3) = true) :
    Calls Try.prog 27 #[.string s, .agg #[.int .i64 p0, .int .i64 p1, .int .i64 p2, .int .i64 p3], .int .i64 h] w fun e w' =>
      e = .returned (.tuple #[.agg #[.int .i64 (p0 + t0), .int .i64 (p1 + t1), .int .i64 (p2 + t2), .int .i64 (p3 + t3)], .int .i64 ((h + eh) % 8), .bool true]) ∧ Below w.heap.size w w' := by
  obtain ⟨b0, b0', b1, b1', b2, b2', b3, b3'⟩ := good_bd _ _ _ _ hg
  obtain ⟨h0, h7⟩ := in_bd hh
  have HE := Lib.hid he
  have HT := Lib.hid hT
  clear he hT
  go_enter Try.func27, Try.ntmps27
  go_wp2_with fail
  (go_at_call 44; (with_reducible refine (HE.out _).mono ?_); rintro e wA ⟨rfl, h1⟩; (try with_reducible replace h1 := undrew h1); have hB : Below w.heap.size w wA := ba (by go_grown) h1; obtain ⟨hcwA, hfwA⟩ := bcell h1; have hqwA := h1.size; (try simp at hqwA); (try have hz0wA : w.heap.size < wA.heap.size := (by omega)); (try have he0wA : w.heap.size ≤ wA.heap.size := (by omega)); (try have hz1wA : w.heap.size + 1 < wA.heap.size := (by omega)); (try have he1wA : w.heap.size + 1 ≤ wA.heap.size := (by omega)))
  go_wp2_with fail
  (go_at_call 48; (with_reducible refine (imIsPoint_any p0 p1 p2 p3 _).mono ?_); rintro e wB ⟨rfl, h1⟩; (try with_reducible replace h1 := undrew h1); have hB : Below w.heap.size w wB := ba (by go_grown) h1; obtain ⟨hcwB, hfwB⟩ := bcell h1; have hqwB := h1.size; (try simp at hqwB); (try have hz0wB : w.heap.size < wB.heap.size := (by omega)); (try have he0wB : w.heap.size ≤ wB.heap.size := (by omega)); (try have hz1wB : w.heap.size + 1 < wB.heap.size := (by omega)); (try have he1wB : w.heap.size + 1 ≤ wB.heap.size := (by omega)); (try have hz2wB : wA.heap.size < wB.heap.size := (by omega)); (try have he2wB : wA.heap.size ≤ wB.heap.size := (by omega)))
  go_wp2_with (go_at_call 49; refine (isHeading_any _ _).mono ?_; rintro e w' ⟨rfl, rfl⟩)
  have hS0 : wB.cell? ⟨w.heap.size, 0, none⟩ = some (.int .i64 p0) ∧ wB.cell? ⟨w.heap.size, 1, none⟩ = some (.int .i64 p1) ∧ wB.cell? ⟨w.heap.size, 2, none⟩ = some (.int .i64 p2) ∧ wB.cell? ⟨w.heap.size, 3, none⟩ = some (.int .i64 p3) ∧ wB.cell? ⟨wA.heap.size, 0, none⟩ = some (.int .i64 e0) ∧ wB.cell? ⟨wA.heap.size, 1, none⟩ = some (.int .i64 e1) ∧ wB.cell? ⟨wA.heap.size, 2, none⟩ = some (.int .i64 e2) ∧ wB.cell? ⟨wA.heap.size, 3, none⟩ = some (.int .i64 e3) := by refine ⟨?_, ?_, ?_, ?_, ?_, ?_, ?_, ?_⟩ <;> go_simp
  have hH4 : wB.cell? ⟨wA.heap.size, 4, none⟩ = some (.int .i64 eh) := by go_simp
  have hsel : ∀ x : Int, sel true x = x := fun _ => rfl
  go_cut [10, 11] (fun v q wx => v = .bool true ∧ ∃ g : Nat, q = .pointer (some ⟨g, 0, none⟩) ∧ g < wx.heap.size ∧ wA.heap.size < wx.heap.size ∧ wx.cell? ⟨g, 0, none⟩ = some (.int .i64 (p0 + t0)) ∧ wx.cell? ⟨g, 1, none⟩ = some (.int .i64 (p1 + t1)) ∧ wx.cell? ⟨g, 2, none⟩ = some (.int .i64 (p2 + t2)) ∧ wx.cell? ⟨g, 3, none⟩ = some (.int .i64 (p3 + t3)) ∧ wx.cell? ⟨wA.heap.size, 4, none⟩ = some (.int .i64 eh) ∧ (w.heap.size + 1 < g ∧ wx.cell? ⟨w.heap.size + 1, 0, none⟩ = some (.int .i64 0) ∧ wx.cell? ⟨w.heap.size + 1, 1, none⟩ = some (.int .i64 0) ∧ wx.cell? ⟨w.heap.size + 1, 2, none⟩ = some (.int .i64 0) ∧ wx.cell? ⟨w.heap.size + 1, 3, none⟩ = some (.int .i64 0) ∧ (∀ i, wx.frozen? ⟨w.heap.size + 1, i, none⟩ = false)) ∧ Below w.heap.size w wx)
  case first =>
    go_region_held3 (fun w' => w'.cell? ⟨w.heap.size, 0, none⟩ = some (.int .i64 p0) ∧ w'.cell? ⟨w.heap.size, 1, none⟩ = some (.int .i64 p1) ∧ w'.cell? ⟨w.heap.size, 2, none⟩ = some (.int .i64 p2) ∧ w'.cell? ⟨w.heap.size, 3, none⟩ = some (.int .i64 p3) ∧ w'.cell? ⟨wA.heap.size, 0, none⟩ = some (.int .i64 e0) ∧ w'.cell? ⟨wA.heap.size, 1, none⟩ = some (.int .i64 e1) ∧ w'.cell? ⟨wA.heap.size, 2, none⟩ = some (.int .i64 e2) ∧ w'.cell? ⟨wA.heap.size, 3, none⟩ = some (.int .i64 e3))
      (first | (with_reducible assumption) | (with_reducible exact pp_drew hS0) | (with_reducible exact pp_drew (pp_alloc hS0 _)) | (with_reducible exact pp_alloc (pp_drew hS0) _) | (with_reducible refine pp_drew ?_; with_reducible assumption) | (with_reducible refine pp_alloc ?_ _; with_reducible assumption) | (with_reducible refine pp_re (by with_reducible assumption) ?_ ?_ _; (focus first | (with_reducible assumption) | omega | (simp; done) | (simp; omega)); (focus first | (with_reducible assumption) | omega | (simp; done) | (simp; omega))) | (with_reducible refine pp_below ?_ ?_ ?_ h1; (focus first | (with_reducible assumption) | (with_reducible refine pp_undrew ?_; with_reducible assumption)); (focus first | (with_reducible assumption) | omega | (simp; done) | (simp; omega)); (focus first | (with_reducible assumption) | omega | (simp; done) | (simp; omega))) | ((repeat (with_reducible refine pp_set ?_ _ _ ?_ ?_; rotate_left 1; (focus first | (with_reducible assumption) | omega | (simp; done) | (simp; omega)); (focus first | (with_reducible assumption) | omega | (simp; done) | (simp; omega)))); with_reducible assumption))
      (first | (go_at_call 53; (with_reducible refine (power_any h h0 h7 _).mono ?_); rintro e wC ⟨rfl, h1⟩; (try with_reducible replace h1 := undrew h1); have hB : Below w.heap.size w wC := ba (by go_grown) h1; obtain ⟨hcwC, hfwC⟩ := bcell h1; have hqwC := h1.size; (try simp at hqwC); (try have hz0wC : w.heap.size < wC.heap.size := (by omega)); (try have he0wC : w.heap.size ≤ wC.heap.size := (by omega)); (try have hz1wC : w.heap.size + 1 < wC.heap.size := (by omega)); (try have he1wC : w.heap.size + 1 ≤ wC.heap.size := (by omega)); (try have hz2wC : wA.heap.size < wC.heap.size := (by omega)); (try have he2wC : wA.heap.size ≤ wC.heap.size := (by omega)); (try have hz3wC : wB.heap.size < wC.heap.size := (by omega)); (try have he3wC : wB.heap.size ≤ wC.heap.size := (by omega))) | (go_at_call 52; (with_reducible refine (HT.out _).mono ?_); rintro e wD ⟨rfl, h1⟩; (try with_reducible replace h1 := undrew h1); have hB : Below w.heap.size w wD := ba (by go_grown) h1; obtain ⟨hcwD, hfwD⟩ := bcell h1; have hqwD := h1.size; (try simp at hqwD); (try have hz0wD : w.heap.size < wD.heap.size := (by omega)); (try have he0wD : w.heap.size ≤ wD.heap.size := (by omega)); (try have hz1wD : w.heap.size + 1 < wD.heap.size := (by omega)); (try have he1wD : w.heap.size + 1 ≤ wD.heap.size := (by omega)); (try have hz2wD : wA.heap.size < wD.heap.size := (by omega)); (try have he2wD : wA.heap.size ≤ wD.heap.size := (by omega)); (try have hz3wD : wB.heap.size < wD.heap.size := (by omega)); (try have he3wD : wB.heap.size ≤ wD.heap.size := (by omega)); (try have hz4wD : wC.heap.size < wD.heap.size := (by omega)); (try have he4wD : wC.heap.size ≤ wD.heap.size := (by omega))) | (go_at_call 51; (with_reducible refine (plP p0 p1 p2 p3 t0 t1 t2 t3 (by omega) (by omega) (by omega) (by omega) (by omega) (by omega) (by omega) (by omega) (by omega) (by omega) (by omega) (by omega) (by omega) (by omega) (by omega) (by omega) _).mono ?_); rintro e wE ⟨rfl, h1⟩; (try with_reducible replace h1 := undrew h1); have hB : Below w.heap.size w wE := ba (by go_grown) h1; obtain ⟨hcwE, hfwE⟩ := bcell h1; have hqwE := h1.size; (try simp at hqwE); (try have hz0wE : w.heap.size < wE.heap.size := (by omega)); (try have he0wE : w.heap.size ≤ wE.heap.size := (by omega)); (try have hz1wE : w.heap.size + 1 < wE.heap.size := (by omega)); (try have he1wE : w.heap.size + 1 ≤ wE.heap.size := (by omega)); (try have hz2wE : wA.heap.size < wE.heap.size := (by omega)); (try have he2wE : wA.heap.size ≤ wE.heap.size := (by omega)); (try have hz3wE : wB.heap.size < wE.heap.size := (by omega)); (try have he3wE : wB.heap.size ≤ wE.heap.size := (by omega)); (try have hz4wE : wC.heap.size < wE.heap.size := (by omega)); (try have he4wE : wC.heap.size ≤ wE.heap.size := (by omega)); (try have hz5wE : wD.heap.size < wE.heap.size := (by omega)); (try have he5wE : wD.heap.size ≤ wE.heap.size := (by omega))) | (go_at_call 50; (with_reducible refine (imOnly_any _ _ _ _ _).mono ?_); rintro e wF ⟨rfl, h1⟩; (try with_reducible replace h1 := undrew h1); have hB : Below w.heap.size w wF := ba (by go_grown) h1; obtain ⟨hcwF, hfwF⟩ := bcell h1; have hqwF := h1.size; (try simp at hqwF); (try have hz0wF : w.heap.size < wF.heap.size := (by omega)); (try have he0wF : w.heap.size ≤ wF.heap.size := (by omega)); (try have hz1wF : w.heap.size + 1 < wF.heap.size := (by omega)); (try have he1wF : w.heap.size + 1 ≤ wF.heap.size := (by omega)); (try have hz2wF : wA.heap.size < wF.heap.size := (by omega)); (try have he2wF : wA.heap.size ≤ wF.heap.size := (by omega)); (try have hz3wF : wB.heap.size < wF.heap.size := (by omega)); (try have he3wF : wB.heap.size ≤ wF.heap.size := (by omega)); (try have hz4wF : wC.heap.size < wF.heap.size := (by omega)); (try have he4wF : wC.heap.size ≤ wF.heap.size := (by omega)); (try have hz5wF : wD.heap.size < wF.heap.size := (by omega)); (try have he5wF : wD.heap.size ≤ wF.heap.size := (by omega)); (try have hz6wF : wE.heap.size < wF.heap.size := (by omega)); (try have he6wF : wE.heap.size ≤ wF.heap.size := (by omega))))
    all_goals
      go_wp2_with fail
      go_meet
      refine ⟨rfl, _, rfl, ?_, ?_, ?_, ?_, ?_, ?_, ?_, ⟨?_, ?_, ?_, ?_, ?_, ?_⟩, by go_grown⟩
      · first | omega | (simp; done) | (simp; omega)
      · first | omega | (simp; done) | (simp; omega)
      · first | (go_simp; done) | (simp [go_sem, *]; done)
      · first | (go_simp; done) | (simp [go_sem, *]; done)
      · first | (go_simp; done) | (simp [go_sem, *]; done)
      · first | (go_simp; done) | (simp [go_sem, *]; done)
      · first | (go_simp; done) | (simp [go_sem, *]; done)
      · first | omega | (simp; done) | (simp; omega)
      · first | (go_simp; done) | (simp [go_sem, *]; done)
      · first | (go_simp; done) | (simp [go_sem, *]; done)
      · first | (go_simp; done) | (simp [go_sem, *]; done)
      · first | (go_simp; done) | (simp [go_sem, *]; done)
      · intro i; first | (go_simp; done) | (simp [go_sem, *]; done)
  case rest =>
  obtain ⟨rfl, g, rfl, hg1, hg2, c0, c1, c2, c3, c4, ⟨hg3, d0, d1, d2, d3, hf⟩, hB⟩ := hcut
  go_wp2_with (go_at_call 54; refine (turn_any h eh h0 h7 k4 k5 _).mono ?_; rintro e w' ⟨rfl, rfl⟩)
  have n1 : ¬ g = w.heap.size + 1 := by omega
  have n2 : ¬ w.heap.size + 1 = g := by omega
  have n3 : ¬ wA.heap.size = w.heap.size + 1 := by omega
  have n4 : ¬ w.heap.size + 1 = wA.heap.size := by omega
  have hz1 : w.heap.size + 1 < wc.heap.size := by omega
  go_region_held3 (fun w' => w'.cell? ⟨g, 0, none⟩ = some (.int .i64 (p0 + t0)) ∧ w'.cell? ⟨g, 1, none⟩ = some (.int .i64 (p1 + t1)) ∧ w'.cell? ⟨g, 2, none⟩ = some (.int .i64 (p2 + t2)) ∧ w'.cell? ⟨g, 3, none⟩ = some (.int .i64 (p3 + t3)) ∧ w'.cell? ⟨wA.heap.size, 4, none⟩ = some (.int .i64 eh))
    (go_keep)
    (first | (go_at_call 54; refine (turn_any h eh h0 h7 k4 k5 _).mono ?_; rintro e w' ⟨rfl, rfl⟩))
  all_goals go_wp2_with fail
  refine bodyPost_ret (by simp [results, Try.results27, go_sem, *]; try rfl) rfl ?_
  exact ⟨rfl, by go_grown⟩

end Go.Proofs.Ytpaimngepmfemab
