/- What the listed errors of strconv give a walk. -/
import Derived.Test.YtoaccnpkobbaaaaDoorKit
import Derived.Stop.LaidErr
import Derived.Stop.Joined
import Derived.LaidMore
import Derived.KernelRfl
namespace Go.Proofs.YtoaccnpkobbaaaaDoor
open Go.ChangeShapes Go.WideShapes Go.ChangeAt Go.RowKit Go.Joins

theorem starE : "*" ++ "errors.errorString" = "*errors.errorString" := by decide

theorem rowE (u : TypeId) (h : Tryd.prog.typeName? 3 u = some "*errors.errorString") : u = 110 :=
  typeName_ptr_named (nm := "errors.errorString") (by rw [starE]; kernel_rfl) (by kernel_rfl) (by decide) u (by rw [starE]; exact h)

set_option maxRecDepth 100000 in
theorem err_range {W : World} {r : List (String × DataW Unit)} (h : laidMet Tryd.prog (("strconv.ErrRange", Rows.laid_strconv_ErrRange) :: r) W) : ∃ t p, W.var? Tryd.prog "strconv.ErrRange" = some #[.iface t p] := by
  obtain ⟨a0, s0, hv0, -, -, -⟩ := laid_sentinel (g := 2) (ti := 54) h (by kernel_rfl) (by kernel_rfl) Tryd.underlying54 rowE Tryd.underlying110 Tryd.underlying112 rfl rfl Tryd.underlying9 (by kernel_rfl) (by kernel_rfl)
  exact ⟨_, _, hv0⟩

set_option maxRecDepth 100000 in
theorem err_syntax {W : World} {r : List (String × DataW Unit)} (h : laidMet Tryd.prog (("strconv.ErrSyntax", Rows.laid_strconv_ErrSyntax) :: r) W) : ∃ t p, W.var? Tryd.prog "strconv.ErrSyntax" = some #[.iface t p] := by
  obtain ⟨a0, s0, hv0, -, -, -⟩ := laid_sentinel (g := 1) (ti := 54) h (by kernel_rfl) (by kernel_rfl) Tryd.underlying54 rowE Tryd.underlying110 Tryd.underlying112 rfl rfl Tryd.underlying9 (by kernel_rfl) (by kernel_rfl)
  exact ⟨_, _, hv0⟩

/-- The two errors, fifth and sixth on a list. -/
theorem errs {W : World} {x1 x2 x3 x4 : String × DataW Unit} {r : List (String × DataW Unit)} (h : laidMet Tryd.prog (x1 :: x2 :: x3 :: x4 :: ("strconv.ErrRange", Rows.laid_strconv_ErrRange) :: ("strconv.ErrSyntax", Rows.laid_strconv_ErrSyntax) :: r) W) : ∃ t1 p1 t2 p2, W.var? Tryd.prog "strconv.ErrSyntax" = some #[.iface t1 p1] ∧ W.var? Tryd.prog "strconv.ErrRange" = some #[.iface t2 p2] := by
  obtain ⟨t2, p2, h2⟩ := err_range h.tail.tail.tail.tail
  obtain ⟨t1, p1, h1⟩ := err_syntax h.tail.tail.tail.tail.tail
  exact ⟨t1, p1, t2, p2, h1, h2⟩

end Go.Proofs.YtoaccnpkobbaaaaDoor
