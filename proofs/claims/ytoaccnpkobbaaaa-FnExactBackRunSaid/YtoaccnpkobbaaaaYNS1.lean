/- Contract: a step, in the program: one kind of switch, one side. -/
import Derived.Test.YtoaccnpkobbaaaaYNy
namespace Go.Proofs.Ytoaccnpkobbaaaa
open Go.ChangeShapes Go.WideShapes Go.ChangeAt Go.RowKit
open Yd

set_option linter.unusedVariables false

set_option maxRecDepth 100000 in
set_option maxHeartbeats 3200000 in
theorem nextS1 (a k q b : Nat) (s x0 x1 x2 x3 x4 x5 : Int) (y0 y1 y2 y3 y4 y5 : Int) (g c g' d n m : Nat) (w : World) (hk : (a : Int) / 3 = (k : Int)) (i1 : (0 : Int) ≤ (k : Int)) (i2 : (k : Int) < (n : Int)) (i4 : (0 : Int) ≤ (q : Int)) (i5 : (q : Int) < (m : Int)) (i6 : (k : Int) ≤ 5) (i6' : (k : Int) < 6) (i7 : (0 : Int) ≤ (a : Int)) (i8 : (0 : Int) ≤ (b : Int)) (hs0 : 0 ≤ s) (hs1 : s ≤ 1) (hsd : (a : Int) % 3 = 0) (hq : 3 * (k : Int) + (1 + s) = (q : Int))
    (hx : [x0, x1, x2, x3, x4, x5][k]? = some s) (hy : [x0, x1, x2, x3, x4, x5].set k s = [y0, y1, y2, y3, y4, y5])
    (H1 : w.cell? ⟨g, k, none⟩ = some (.int .i64 1)) (H2 : w.cell? ⟨g', q, none⟩ = some (.int .i64 (b : Nat))) (hg0 : g < w.heap.size) (hh0 : g' < w.heap.size) :
    Calls Try.prog 75 #[.agg #[.slice (some ⟨g, 0, none⟩) n c, .slice (some ⟨g', 0, none⟩) m d], .agg #[.int .i64 (a : Nat), .int .i64 x0, .int .i64 x1, .int .i64 x2, .int .i64 x3, .int .i64 x4, .int .i64 x5]] w fun e w' => e = .returned (.agg #[.int .i64 (b : Nat), .int .i64 y0, .int .i64 y1, .int .i64 y2, .int .i64 y3, .int .i64 y4, .int .i64 y5]) ∧ Below w.heap.size w w' := by
  have N0 := Lib.hid (nx_start w g c g' d n m (a : Nat) x0 x1 x2 x3 x4 x5)
  have hc := nx_cell w g c g' d n m (a : Nat) x0 x1 x2 x3 x4 x5 k s hx
  have HX := Lib.hid hx
  have HY := Lib.hid hy
  have HQ := Lib.hid H2
  clear hx hy H2
  have f1 := nilS
  have f2 := nilS'
  have f3 := metS
  have f4 := metS'
  have f5 := mkMet
  have hsw : swV 1 = .iface 92 (.agg #[]) := rfl

  go_enter Try.func75, Try.ntmps75
  go_wp2_with fail
  go_quiet (fail)
  go_wp2_with fail
  have N5 := N0.out nq
  generalize ((((w.alloc (.cells #[.slice (some ⟨g, 0, none⟩) n c, .slice (some ⟨g', 0, none⟩) m d] 27)).alloc (.cells #[.int .i64 (a : Nat), .int .i64 x0, .int .i64 x1, .int .i64 x2, .int .i64 x3, .int .i64 x4, .int .i64 x5] 80)).alloc (.cells #[.int .i64 0, .int .i64 0, .int .i64 0, .int .i64 0, .int .i64 0, .int .i64 0, .int .i64 0] 80)).drewN nq) = w5 at N5 ⊢
  clear hc
  have hS0 : w5.cell? ⟨w.heap.size, 0, none⟩ = some (.slice (some ⟨g, 0, none⟩) n c) ∧ w5.cell? ⟨g, k, none⟩ = some (.int .i64 1) ∧ w5.cell? ⟨w.heap.size + 1, 1 + k, none⟩ = some (.int .i64 s) := ⟨N5.y0, cl_below H1 hg0 N5.below, N5.sk k s HX.out⟩
  have u0 : w.heap.size < w5.heap.size := by rw [N5.size]; omega
  have u1 : w.heap.size + 1 < w5.heap.size := by rw [N5.size]; omega
  have u2 : w.heap.size + 1 + 1 < w5.heap.size := by rw [N5.size]; omega
  have u3 : g < w5.heap.size := by omega
  have N6 := Lib.hid N5
  have hfs := N5.fs (1 + k)
  clear N5
  obtain ⟨t1, t2, t3⟩ := hS0
  go_region_with (first | (go_at_call 62; refine (switchOf_any _ _).mono ?_; rintro e w' ⟨rfl, rfl⟩) | (go_at_call 97; (with_reducible refine (spring_any _ _ _).mono ?_); rintro e wB ⟨rfl, h1⟩; (try with_reducible replace h1 := undrew h1); have HBB := Lib.hid h1; obtain ⟨hcwB, hfwB⟩ := bcell h1; have hqB := h1.size; (try simp at hqB); have hz0 : w.heap.size < wB.heap.size := (by omega); have hz1 : w.heap.size + 1 < wB.heap.size := (by omega); have hz2 : g < wB.heap.size := (by omega); clear h1))
  all_goals
    have NB := N6.out.store HBB.out k s s HX.out
    rw [HY.out] at NB
    generalize wB.setCell ⟨w.heap.size + 1, 1 + k, none⟩ (Value.int .i64 s) = wc at NB ⊢
    have e1 := NB.y1
    have e2 := NB.s0
    have e3 := NB.sk 0 y0 rfl
    have e4 := NB.sk 1 y1 rfl
    have e5 := NB.sk 2 y2 rfl
    have e6 := NB.sk 3 y3 rfl
    have e7 := NB.sk 4 y4 rfl
    have e8 := NB.sk 5 y5 rfl
    have z0 := NB.z 0 (by decide)
    have z1 := NB.z 1 (by decide)
    have z2 := NB.z 2 (by decide)
    have z3 := NB.z 3 (by decide)
    have z4 := NB.z 4 (by decide)
    have z5 := NB.z 5 (by decide)
    have z6 := NB.z 6 (by decide)
    have fs := NB.fs
    have fz := NB.fz
    have e9 := cl_below HQ.out hh0 NB.below
    simp only [Nat.reduceAdd] at e3 e4 e5 e6 e7 e8
    have NBH := Lib.hid NB.below
    clear NB hcwB hfwB hqB f1 f2 f3 f4 f5
    go_wp2_with fail
    refine bodyPost_ret (by simp [results, Try.results75, go_sem, *]; try rfl) rfl ?_
    refine ⟨rfl, ?_⟩
    repeat (refine Below.setCell ?_ (by simp <;> omega) _)
    exact NBH.out

end Go.Proofs.Ytoaccnpkobbaaaa
