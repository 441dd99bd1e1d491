/- Spots compared. -/
import Derived.Test.YtoaccnpkobbaaaaYSp
import Derived.DeepKeys4
import Derived.WalkArith
namespace Go.Proofs.Ytoaccnpkobbaaaa
open Go.ChangeShapes Go.WideShapes Go.ChangeAt Go.RowKit
open Yd

set_option linter.unusedVariables false

theorem spDeep : Try.prog.keyTypeAt 4 80 = true := by kernel_rfl

theorem intLit {x : Int} (h : (Lit.int .i64 x).wf = true) (m : Nat) : Try.prog.keyLits (m + 1) 3 [.int .i64 x] = some [.int .i64 x] := by
  simp [Program.keyLits, Try.underlying3, h]

set_option maxRecDepth 100000 in
theorem arrLits (x1 x2 x3 x4 x5 x6 : Int) (h1 : (Lit.int .i64 x1).wf = true) (h2 : (Lit.int .i64 x2).wf = true) (h3 : (Lit.int .i64 x3).wf = true) (h4 : (Lit.int .i64 x4).wf = true) (h5 : (Lit.int .i64 x5).wf = true) (h6 : (Lit.int .i64 x6).wf = true) (m : Nat) :
    Try.prog.keyLits (m + 2) 78 [.int .i64 x1, .int .i64 x2, .int .i64 x3, .int .i64 x4, .int .i64 x5, .int .i64 x6] = some [.int .i64 x1, .int .i64 x2, .int .i64 x3, .int .i64 x4, .int .i64 x5, .int .i64 x6] := by
  have hc6 : Try.prog.cellsOf 78 = 6 := by kernel_rfl
  have hc1 : Try.prog.cellsOf 3 = 1 := by kernel_rfl
  unfold Program.keyLits
  rw [Try.underlying78]
  simp only [hc6, hc1, List.length_cons, List.length_nil, Nat.reduceAdd, if_true, show List.range 6 = [0, 1, 2, 3, 4, 5] from rfl, List.mapM_cons, List.mapM_nil, Nat.reduceMul, List.drop_succ_cons, List.drop_zero, List.take_succ_cons, List.take_zero,
    intLit h1, intLit h2, intLit h3, intLit h4, intLit h5, intLit h6]
  rfl

set_option maxRecDepth 100000 in
theorem spLits (x0 x1 x2 x3 x4 x5 x6 : Int) (h0 : (Lit.int .i64 x0).wf = true) (h1 : (Lit.int .i64 x1).wf = true) (h2 : (Lit.int .i64 x2).wf = true) (h3 : (Lit.int .i64 x3).wf = true) (h4 : (Lit.int .i64 x4).wf = true) (h5 : (Lit.int .i64 x5).wf = true) (h6 : (Lit.int .i64 x6).wf = true) (m : Nat) :
    Try.prog.keyLits (m + 3) 80 [.int .i64 x0, .int .i64 x1, .int .i64 x2, .int .i64 x3, .int .i64 x4, .int .i64 x5, .int .i64 x6] = some [.int .i64 x0, .int .i64 x1, .int .i64 x2, .int .i64 x3, .int .i64 x4, .int .i64 x5, .int .i64 x6] := by
  have hc7 : Try.prog.cellsOf 80 = 7 := by kernel_rfl
  have hc6 : Try.prog.cellsOf 78 = 6 := by kernel_rfl
  have hc1 : Try.prog.cellsOf 3 = 1 := by kernel_rfl
  unfold Program.keyLits
  rw [Try.underlying80]
  simp [hc7, hc6, hc1, intLit h0, arrLits x1 x2 x3 x4 x5 x6 h1 h2 h3 h4 h5 h6]

theorem wf_small {x : Int} (h0 : 0 ≤ x) (h1 : x ≤ 1000) : (Lit.int .i64 x).wf = true := WalkArith.wf_i64 (by omega)

set_option maxRecDepth 100000 in
theorem eqSpot (x0 x1 x2 x3 x4 x5 x6 y0 y1 y2 y3 y4 y5 y6 : Int) (hx : ∀ z ∈ [x0, x1, x2, x3, x4, x5, x6], 0 ≤ z ∧ z ≤ 1000) (hy : ∀ z ∈ [y0, y1, y2, y3, y4, y5, y6], 0 ≤ z ∧ z ≤ 1000) (w : World) :
    (binOp .eql 80 (.agg #[.int .i64 x0, .int .i64 x1, .int .i64 x2, .int .i64 x3, .int .i64 x4, .int .i64 x5, .int .i64 x6]) (.agg #[.int .i64 y0, .int .i64 y1, .int .i64 y2, .int .i64 y3, .int .i64 y4, .int .i64 y5, .int .i64 y6])).run Try.prog w =
      .ok (.bool (decide ([x0, x1, x2, x3, x4, x5, x6] = [y0, y1, y2, y3, y4, y5, y6]))) w := by
  have X := fun z hz => wf_small (hx z hz).1 (hx z hz).2
  have Y := fun z hz => wf_small (hy z hz).1 (hy z hz).2
  have hc7 : Try.prog.cellsOf 80 = 7 := by kernel_rfl
  have lx := spLits x0 x1 x2 x3 x4 x5 x6 (X _ (by simp)) (X _ (by simp)) (X _ (by simp)) (X _ (by simp)) (X _ (by simp)) (X _ (by simp)) (X _ (by simp)) 0
  have ly := spLits y0 y1 y2 y3 y4 y5 y6 (Y _ (by simp)) (Y _ (by simp)) (Y _ (by simp)) (Y _ (by simp)) (Y _ (by simp)) (Y _ (by simp)) (Y _ (by simp)) 0
  have fx : (Value.agg #[.int .i64 x0, .int .i64 x1, .int .i64 x2, .int .i64 x3, .int .i64 x4, .int .i64 x5, .int .i64 x6]).formed Try.prog 80 = true := by simp [Value.formed, Try.underlying80, hc7]
  have fy : (Value.agg #[.int .i64 y0, .int .i64 y1, .int .i64 y2, .int .i64 y3, .int .i64 y4, .int .i64 y5, .int .i64 y6]).formed Try.prog 80 = true := by simp [Value.formed, Try.underlying80, hc7]
  obtain ⟨r, hr, hiff⟩ := run_equalIn_deep 9996 4 80 spDeep w 3 3 _ _ _ _ fx fy lx ly
  rw [run_eql_struct, hr]
  simp only [Result.andThen]
  congr 2
  by_cases e : [x0, x1, x2, x3, x4, x5, x6] = [y0, y1, y2, y3, y4, y5, y6]
  · rw [decide_eq_true e]
    refine hiff.2 ?_
    injection e with e0 e
    injection e with e1 e
    injection e with e2 e
    injection e with e3 e
    injection e with e4 e
    injection e with e5 e
    injection e with e6 e
    rw [e0, e1, e2, e3, e4, e5, e6]
  · rw [decide_eq_false e]
    refine Bool.eq_false_iff.2 fun hr' => e ?_
    have := hiff.1 hr'
    simpa using this

end Go.Proofs.Ytoaccnpkobbaaaa
