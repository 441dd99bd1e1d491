/- '==' on three points one behind the other. -/
import Derived.Test.YtppbbcckijcckaaAp
import Derived.ChangeKeysEq
namespace Go.Proofs.Ytppbbcckijcckaa
open Go.ChangeShapes Go.WideShapes Go.ChangeAt Go.RowKit

theorem triCells : Try.prog.cellsOf 26 = 4 := by kernel_rfl

theorem triUnder : Try.prog.underlying 62 = some (.array 3 26) := by kernel_rfl

/-- The kernel's own reading of one comparison of points at any depth. -/
theorem eqPtAt (d : Nat) (p q : Pn) (w : World) : (Op.equalIn (d + 1 + 1) 26 (pv p) (pv q)).run Try.prog w = .ok (decide (p = q)) w := by
  have hS : Try.prog.underlying 26 = some (.struct (Try.prog.fieldsOf 26)) := by kernel_rfl
  have hp : Try.prog.stoodInHeld 26 = false := by kernel_rfl
  rw [run_equalIn_agg w (d + 1) 26 _ _ hS hp]
  simp only [Program.fieldsOf, Try.underlying26]
  go_simp
  have e : decide (p = q) = (p.a == q.a && (p.b == q.b && (p.c == q.c && p.d == q.d))) := by
    rw [Bool.eq_iff_iff, decide_eq_true_eq]
    simp only [Bool.and_eq_true, beq_iff_eq]
    exact ⟨fun h => by subst h; simp, fun h => Pn.ext' h.1 h.2.1 h.2.2.1 h.2.2.2⟩
  rw [e]
  by_cases h0 : p.a = q.a <;> by_cases h1 : p.b = q.b <;> by_cases h2 : p.c = q.c <;> by_cases h3 : p.d = q.d <;> simp [h0, h1, h2, h3]

theorem eqTriAt (d : Nat) (p q r s t u : Pn) (w : World) : (Op.equalIn (d + 1 + 1 + 1) 62 (tv p q r) (tv s t u)).run Try.prog w = .ok (decide (p = s) && (decide (q = t) && decide (r = u))) w := by
  cases hq : Try.prog.info? 26 with
  | none =>
    have h : (Try.prog.info? 26).isSome = true := by kernel_rfl
    rw [hq] at h
    cases h
  | some i =>
    have e0 := eqPtAt d p s w
    have e1 := eqPtAt d q t w
    have e2 := eqPtAt d r u w
    rw [run_equalIn_array w (d + 1 + 1) _ _ triUnder hq, triCells]
    simp only [List.range, List.range.loop, Op.eqItems, Sem.run_bind]
    have p0 : ∀ (x y z : Pn), (part 26 #[.int .i64 x.a, .int .i64 x.b, .int .i64 x.c, .int .i64 x.d, .int .i64 y.a, .int .i64 y.b, .int .i64 y.c, .int .i64 y.d, .int .i64 z.a, .int .i64 z.b, .int .i64 z.c, .int .i64 z.d] (0 * 4)).run Try.prog w = .ok (pv x) w := fun x y z => by simp [go_sem]
    have p1 : ∀ (x y z : Pn), (part 26 #[.int .i64 x.a, .int .i64 x.b, .int .i64 x.c, .int .i64 x.d, .int .i64 y.a, .int .i64 y.b, .int .i64 y.c, .int .i64 y.d, .int .i64 z.a, .int .i64 z.b, .int .i64 z.c, .int .i64 z.d] (1 * 4)).run Try.prog w = .ok (pv y) w := fun x y z => by simp [go_sem]
    have p2 : ∀ (x y z : Pn), (part 26 #[.int .i64 x.a, .int .i64 x.b, .int .i64 x.c, .int .i64 x.d, .int .i64 y.a, .int .i64 y.b, .int .i64 y.c, .int .i64 y.d, .int .i64 z.a, .int .i64 z.b, .int .i64 z.c, .int .i64 z.d] (2 * 4)).run Try.prog w = .ok (pv z) w := fun x y z => by simp [go_sem]
    rw [p0 p q r, Result.andThen_ok, p0 s t u, Result.andThen_ok, e0, Result.andThen_ok]
    by_cases h0 : p = s
    · subst h0
      simp only [decide_true, Bool.not_true, Bool.false_eq_true, if_false, Bool.true_and, Sem.run_bind]
      rw [p1 p q r, Result.andThen_ok, p1 p t u, Result.andThen_ok, e1, Result.andThen_ok]
      by_cases h1 : q = t
      · subst h1
        simp only [decide_true, Bool.not_true, Bool.false_eq_true, if_false, Bool.true_and, Sem.run_bind]
        rw [p2 p q r, Result.andThen_ok, p2 p q u, Result.andThen_ok, e2, Result.andThen_ok]
        by_cases h2 : r = u
        · simp [h2]
        · simp [h2]
      · simp [h1]
    · simp [h0]

/-- '==' on three points one behind the other. -/
@[go_sem high] theorem eqTri (p q r s t u : Pn) (w : World) : (binOp .eql 62 (tv p q r) (tv s t u)).run Try.prog w = .ok (.bool (decide (p = s) && (decide (q = t) && decide (r = u)))) w := by
  rw [run_eql_struct, show (10000 : Nat) = 9997 + 1 + 1 + 1 from rfl, eqTriAt]
  rfl

end Go.Proofs.Ytppbbcckijcckaa
