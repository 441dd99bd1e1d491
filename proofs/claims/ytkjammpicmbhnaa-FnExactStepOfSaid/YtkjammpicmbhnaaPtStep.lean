/- Contracts: how a piece is laid, in the program. -/
import Derived.Test.YtkjammpicmbhnaaPtTurn3
import Derived.Test.YtkjammpicmbhnaaClS
namespace Go.Proofs.Ytkjammpicmbhnaa
open Go.ChangeShapes Go.WideShapes Go.ChangeAt Go.RowKit

set_option linter.unusedVariables false
set_option linter.unusedSimpArgs false

theorem tm1_any (h : Int) (h0 : 0 ≤ h) (h7 : h ≤ 7) (w : World) :
    Calls Try.prog 60 #[.int .i64 h, .int .i64 (-1)] w fun e w' => e = .returned (.int .i64 ((h + 7) % 8)) ∧ w = w' := by
  have hm : (h + (-1) + 8) % 8 = (h + 7) % 8 := by omega
  have HM := Lib.hid hm
  clear hm
  go_enter Try.func60, Try.ntmps60
  go_wp2
  go_ret
  exact ⟨by first | rfl | (rw [← HM.out]; rfl) | (simp; omega), rfl⟩

theorem tm2_any (h : Int) (h0 : 0 ≤ h) (h7 : h ≤ 7) (w : World) :
    Calls Try.prog 60 #[.int .i64 h, .int .i64 (-2)] w fun e w' => e = .returned (.int .i64 ((h + 6) % 8)) ∧ w = w' := by
  have hm : (h + (-2) + 8) % 8 = (h + 6) % 8 := by omega
  have HM := Lib.hid hm
  clear hm
  go_enter Try.func60, Try.ntmps60
  go_wp2
  go_ret
  exact ⟨by first | rfl | (rw [← HM.out]; rfl) | (simp; omega), rfl⟩

theorem tp1_any (h : Int) (h0 : 0 ≤ h) (h7 : h ≤ 7) (w : World) :
    Calls Try.prog 60 #[.int .i64 h, .int .i64 1] w fun e w' => e = .returned (.int .i64 ((h + 1) % 8)) ∧ w = w' := by
  have hm : (h + 1 + 8) % 8 = (h + 1) % 8 := by omega
  have HM := Lib.hid hm
  clear hm
  go_enter Try.func60, Try.ntmps60
  go_wp2
  go_ret
  exact ⟨by first | rfl | (rw [← HM.out]; rfl) | (simp; omega), rfl⟩

theorem tp2_any (h : Int) (h0 : 0 ≤ h) (h7 : h ≤ 7) (w : World) :
    Calls Try.prog 60 #[.int .i64 h, .int .i64 2] w fun e w' => e = .returned (.int .i64 ((h + 2) % 8)) ∧ w = w' := by
  have hm : (h + 2 + 8) % 8 = (h + 2) % 8 := by omega
  have HM := Lib.hid hm
  clear hm
  go_enter Try.func60, Try.ntmps60
  go_wp2
  go_ret
  exact ⟨by first | rfl | (rw [← HM.out]; rfl) | (simp; omega), rfl⟩

set_option maxRecDepth 100000 in
set_option maxHeartbeats 1600000 in
theorem straight_any (h : Int) (h0 : 0 ≤ h) (h7 : h ≤ 7) (w : World) :
    Calls Try.prog 56 #[.agg #[.int .i64 0, .int .i64 0, .int .i64 0, .int .i64 0, .int .i64 h]] w fun e w' => e = .returned (.agg #[.int .i64 (tu0 h 1 0 0 0), .int .i64 (tu1 h 1 0 0 0), .int .i64 (tu2 h 1 0 0 0), .int .i64 (tu3 h 1 0 0 0), .int .i64 h]) ∧ Below w.heap.size w w' := by
  obtain ⟨t0, t0'⟩ := tu_bd0 h h0 h7
  obtain ⟨t1, t1'⟩ := tu_bd1 h h0 h7
  obtain ⟨t2, t2'⟩ := tu_bd2 h h0 h7
  obtain ⟨t3, t3'⟩ := tu_bd3 h h0 h7
  have hS0 : ((w.alloc (.cells #[.int .i64 0, .int .i64 0, .int .i64 0, .int .i64 0, .int .i64 h] 53)).alloc (.cells #[.int .i64 0, .int .i64 0, .int .i64 0, .int .i64 0, .int .i64 0] 53)).cell? ⟨w.heap.size, 0, none⟩ = some (.int .i64 0) ∧ ((w.alloc (.cells #[.int .i64 0, .int .i64 0, .int .i64 0, .int .i64 0, .int .i64 h] 53)).alloc (.cells #[.int .i64 0, .int .i64 0, .int .i64 0, .int .i64 0, .int .i64 0] 53)).cell? ⟨w.heap.size, 1, none⟩ = some (.int .i64 0) ∧ ((w.alloc (.cells #[.int .i64 0, .int .i64 0, .int .i64 0, .int .i64 0, .int .i64 h] 53)).alloc (.cells #[.int .i64 0, .int .i64 0, .int .i64 0, .int .i64 0, .int .i64 0] 53)).cell? ⟨w.heap.size, 2, none⟩ = some (.int .i64 0) ∧ ((w.alloc (.cells #[.int .i64 0, .int .i64 0, .int .i64 0, .int .i64 0, .int .i64 h] 53)).alloc (.cells #[.int .i64 0, .int .i64 0, .int .i64 0, .int .i64 0, .int .i64 0] 53)).cell? ⟨w.heap.size, 3, none⟩ = some (.int .i64 0) ∧ ((w.alloc (.cells #[.int .i64 0, .int .i64 0, .int .i64 0, .int .i64 0, .int .i64 h] 53)).alloc (.cells #[.int .i64 0, .int .i64 0, .int .i64 0, .int .i64 0, .int .i64 0] 53)).cell? ⟨w.heap.size, 4, none⟩ = some (.int .i64 h) := by refine ⟨?_, ?_, ?_, ?_, ?_⟩ <;> go_simp
  have hR : ((w.alloc (.cells #[.int .i64 0, .int .i64 0, .int .i64 0, .int .i64 0, .int .i64 h] 53)).alloc (.cells #[.int .i64 0, .int .i64 0, .int .i64 0, .int .i64 0, .int .i64 0] 53)).cell? ⟨w.heap.size + 1, 0, none⟩ = some (.int .i64 0) ∧ ((w.alloc (.cells #[.int .i64 0, .int .i64 0, .int .i64 0, .int .i64 0, .int .i64 h] 53)).alloc (.cells #[.int .i64 0, .int .i64 0, .int .i64 0, .int .i64 0, .int .i64 0] 53)).cell? ⟨w.heap.size + 1, 1, none⟩ = some (.int .i64 0) ∧ ((w.alloc (.cells #[.int .i64 0, .int .i64 0, .int .i64 0, .int .i64 0, .int .i64 h] 53)).alloc (.cells #[.int .i64 0, .int .i64 0, .int .i64 0, .int .i64 0, .int .i64 0] 53)).cell? ⟨w.heap.size + 1, 2, none⟩ = some (.int .i64 0) ∧ ((w.alloc (.cells #[.int .i64 0, .int .i64 0, .int .i64 0, .int .i64 0, .int .i64 h] 53)).alloc (.cells #[.int .i64 0, .int .i64 0, .int .i64 0, .int .i64 0, .int .i64 0] 53)).cell? ⟨w.heap.size + 1, 3, none⟩ = some (.int .i64 0) ∧ ((w.alloc (.cells #[.int .i64 0, .int .i64 0, .int .i64 0, .int .i64 0, .int .i64 h] 53)).alloc (.cells #[.int .i64 0, .int .i64 0, .int .i64 0, .int .i64 0, .int .i64 0] 53)).cell? ⟨w.heap.size + 1, 4, none⟩ = some (.int .i64 0) := by refine ⟨?_, ?_, ?_, ?_, ?_⟩ <;> go_simp
  go_enter Try.func56, Try.ntmps56
  go_wp2_with fail
  go_region_held3 (fun w' => w'.cell? ⟨w.heap.size, 0, none⟩ = some (.int .i64 0) ∧ w'.cell? ⟨w.heap.size, 1, none⟩ = some (.int .i64 0) ∧ w'.cell? ⟨w.heap.size, 2, none⟩ = some (.int .i64 0) ∧ w'.cell? ⟨w.heap.size, 3, none⟩ = some (.int .i64 0) ∧ w'.cell? ⟨w.heap.size, 4, none⟩ = some (.int .i64 h))
    (first | (with_reducible assumption) | (with_reducible exact st_drew hS0) | (with_reducible exact st_drew (st_alloc hS0 _)) | (with_reducible exact st_alloc (st_drew hS0) _) | (with_reducible refine st_alloc ?_ _; with_reducible assumption) | (with_reducible refine st_re (by with_reducible assumption) ?_ _; (focus first | (with_reducible assumption) | omega | (simp; done) | (simp; omega))) | (with_reducible refine st_below ?_ ?_ h1; (focus first | (with_reducible assumption) | (with_reducible refine st_undrew ?_; with_reducible assumption)); (focus first | (with_reducible assumption) | omega | (simp; done) | (simp; omega))) | ((repeat (with_reducible refine st_set ?_ _ _ ?_; rotate_left 1; (focus first | (with_reducible assumption) | omega | (simp; done) | (simp; omega)))); with_reducible assumption))
    (first | (go_at_call 45; (with_reducible refine (power_any h h0 h7 _).mono ?_); rintro e wC ⟨rfl, h1⟩; (try with_reducible replace h1 := undrew h1); have hB : Below w.heap.size w wC := ba (by go_grown) h1; obtain ⟨hcwC, hfwC⟩ := bcell h1; have hqwC := h1.size; (try simp at hqwC); (try have hz0wC : w.heap.size < wC.heap.size := (by omega)); (try have he0wC : w.heap.size ≤ wC.heap.size := (by omega)); (try have hz1wC : w.heap.size + 1 < wC.heap.size := (by omega)); (try have he1wC : w.heap.size + 1 ≤ wC.heap.size := (by omega)); have hR := st_below hR (by first | omega | (simp; done) | (simp; omega)) h1) | (go_at_call 37; (with_reducible refine (imPlus_any 0 0 0 0 (tu0 h 1 0 0 0) (tu1 h 1 0 0 0) (tu2 h 1 0 0 0) (tu3 h 1 0 0 0) _).mono ?_); rintro e wD ⟨rfl, h1⟩; (try with_reducible replace h1 := undrew h1); have hB : Below w.heap.size w wD := ba (by go_grown) h1; obtain ⟨hcwD, hfwD⟩ := bcell h1; have hqwD := h1.size; (try simp at hqwD); (try have hz0wD : w.heap.size < wD.heap.size := (by omega)); (try have he0wD : w.heap.size ≤ wD.heap.size := (by omega)); (try have hz1wD : w.heap.size + 1 < wD.heap.size := (by omega)); (try have he1wD : w.heap.size + 1 ≤ wD.heap.size := (by omega)); have hR := st_below hR (by first | omega | (simp; done) | (simp; omega)) h1))
  go_wp2_with fail
  refine bodyPost_ret (by simp [results, Try.results56, go_sem, *]; try rfl) rfl ?_
  exact ⟨by rw [w64s (tu0 h 1 0 0 0) (by omega) (by omega), w64s (tu1 h 1 0 0 0) (by omega) (by omega), w64s (tu2 h 1 0 0 0) (by omega) (by omega), w64s (tu3 h 1 0 0 0) (by omega) (by omega)], by go_grown⟩

end Go.Proofs.Ytkjammpicmbhnaa
