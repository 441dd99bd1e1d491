/- Cells of two pairs handed on. -/
import Derived.Test.YtoaccnpkobbaaaaCl
namespace Go.Proofs.Ytoaccnpkobbaaaa
open Go.ChangeShapes Go.WideShapes Go.ChangeAt Go.RowKit

section
variable {B0 B1 o0 o1 : Nat} {v00 v01 v10 v11 : Value} {W w1 : World}
theorem rr_below (h : W.cell? ⟨B0, o0, none⟩ = some v00 ∧ W.cell? ⟨B0, o0 + 1, none⟩ = some v01 ∧ W.cell? ⟨B1, o1, none⟩ = some v10 ∧ W.cell? ⟨B1, o1 + 1, none⟩ = some v11) (h0 : B0 < W.heap.size) (h1 : B1 < W.heap.size) (hb : Below W.heap.size W w1) : w1.cell? ⟨B0, o0, none⟩ = some v00 ∧ w1.cell? ⟨B0, o0 + 1, none⟩ = some v01 ∧ w1.cell? ⟨B1, o1, none⟩ = some v10 ∧ w1.cell? ⟨B1, o1 + 1, none⟩ = some v11 :=
  let ⟨k0, k1, k2, k3⟩ := h
  ⟨cl_below k0 h0 hb, cl_below k1 h0 hb, cl_below k2 h1 hb, cl_below k3 h1 hb⟩

theorem rr_alloc (h : W.cell? ⟨B0, o0, none⟩ = some v00 ∧ W.cell? ⟨B0, o0 + 1, none⟩ = some v01 ∧ W.cell? ⟨B1, o1, none⟩ = some v10 ∧ W.cell? ⟨B1, o1 + 1, none⟩ = some v11) (o : Obj) : (W.alloc o).cell? ⟨B0, o0, none⟩ = some v00 ∧ (W.alloc o).cell? ⟨B0, o0 + 1, none⟩ = some v01 ∧ (W.alloc o).cell? ⟨B1, o1, none⟩ = some v10 ∧ (W.alloc o).cell? ⟨B1, o1 + 1, none⟩ = some v11 :=
  let ⟨k0, k1, k2, k3⟩ := h
  ⟨cl_alloc k0 o, cl_alloc k1 o, cl_alloc k2 o, cl_alloc k3 o⟩

theorem rr_re {o : Obj} (h : (W.alloc o).cell? ⟨B0, o0, none⟩ = some v00 ∧ (W.alloc o).cell? ⟨B0, o0 + 1, none⟩ = some v01 ∧ (W.alloc o).cell? ⟨B1, o1, none⟩ = some v10 ∧ (W.alloc o).cell? ⟨B1, o1 + 1, none⟩ = some v11) (h0 : B0 < W.heap.size) (h1 : B1 < W.heap.size) (o2 : Obj) : (W.alloc o2).cell? ⟨B0, o0, none⟩ = some v00 ∧ (W.alloc o2).cell? ⟨B0, o0 + 1, none⟩ = some v01 ∧ (W.alloc o2).cell? ⟨B1, o1, none⟩ = some v10 ∧ (W.alloc o2).cell? ⟨B1, o1 + 1, none⟩ = some v11 :=
  let ⟨k0, k1, k2, k3⟩ := h
  ⟨cl_re k0 h0 o2, cl_re k1 h0 o2, cl_re k2 h1 o2, cl_re k3 h1 o2⟩

theorem rr_drew (h : W.cell? ⟨B0, o0, none⟩ = some v00 ∧ W.cell? ⟨B0, o0 + 1, none⟩ = some v01 ∧ W.cell? ⟨B1, o1, none⟩ = some v10 ∧ W.cell? ⟨B1, o1 + 1, none⟩ = some v11) : W.drew.cell? ⟨B0, o0, none⟩ = some v00 ∧ W.drew.cell? ⟨B0, o0 + 1, none⟩ = some v01 ∧ W.drew.cell? ⟨B1, o1, none⟩ = some v10 ∧ W.drew.cell? ⟨B1, o1 + 1, none⟩ = some v11 := h

theorem rr_undrew (h : W.drew.cell? ⟨B0, o0, none⟩ = some v00 ∧ W.drew.cell? ⟨B0, o0 + 1, none⟩ = some v01 ∧ W.drew.cell? ⟨B1, o1, none⟩ = some v10 ∧ W.drew.cell? ⟨B1, o1 + 1, none⟩ = some v11) : W.cell? ⟨B0, o0, none⟩ = some v00 ∧ W.cell? ⟨B0, o0 + 1, none⟩ = some v01 ∧ W.cell? ⟨B1, o1, none⟩ = some v10 ∧ W.cell? ⟨B1, o1 + 1, none⟩ = some v11 := h

theorem rr_set (h : W.cell? ⟨B0, o0, none⟩ = some v00 ∧ W.cell? ⟨B0, o0 + 1, none⟩ = some v01 ∧ W.cell? ⟨B1, o1, none⟩ = some v10 ∧ W.cell? ⟨B1, o1 + 1, none⟩ = some v11) (p : Addr) (u : Value) (h0 : p.block ≠ B0) (h1 : p.block ≠ B1) : (W.setCell p u).cell? ⟨B0, o0, none⟩ = some v00 ∧ (W.setCell p u).cell? ⟨B0, o0 + 1, none⟩ = some v01 ∧ (W.setCell p u).cell? ⟨B1, o1, none⟩ = some v10 ∧ (W.setCell p u).cell? ⟨B1, o1 + 1, none⟩ = some v11 :=
  let ⟨k0, k1, k2, k3⟩ := h
  ⟨cl_set k0 p u h0, cl_set k1 p u h0, cl_set k2 p u h1, cl_set k3 p u h1⟩

theorem rr_far {row : Option Nat} (h : W.cell? ⟨B0, o0, none⟩ = some v00 ∧ W.cell? ⟨B0, o0 + 1, none⟩ = some v01 ∧ W.cell? ⟨B1, o1, none⟩ = some v10 ∧ W.cell? ⟨B1, o1 + 1, none⟩ = some v11) (h0 : some B0 ≠ row) (h1 : some B1 ≠ row) (hg : W.grownBy w1 row) : w1.cell? ⟨B0, o0, none⟩ = some v00 ∧ w1.cell? ⟨B0, o0 + 1, none⟩ = some v01 ∧ w1.cell? ⟨B1, o1, none⟩ = some v10 ∧ w1.cell? ⟨B1, o1 + 1, none⟩ = some v11 :=
  let ⟨k0, k1, k2, k3⟩ := h
  ⟨hg.cell k0 h0, hg.cell k1 h0, hg.cell k2 h1, hg.cell k3 h1⟩
end

end Go.Proofs.Ytoaccnpkobbaaaa
