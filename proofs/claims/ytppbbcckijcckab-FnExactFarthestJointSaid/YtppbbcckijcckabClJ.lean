/- Cells: a point in a block of its own, and a joint in a row, handed on. -/
import Derived.Test.YtppbbcckijcckabCl
namespace Go.Proofs.Ytppbbcckijcckab
open Go.ChangeShapes Go.WideShapes Go.ChangeAt Go.RowKit

section
variable {B0 B1 o : Nat} {v0 v1 v2 v3 v4 v5 v6 v7 : Value} {W w1 : World}
theorem pj_below (h : W.cell? ⟨B0, 0, none⟩ = some v0 ∧ W.cell? ⟨B0, 1, none⟩ = some v1 ∧ W.cell? ⟨B0, 2, none⟩ = some v2 ∧ W.cell? ⟨B0, 3, none⟩ = some v3 ∧ W.cell? ⟨B1, o, none⟩ = some v4 ∧ W.cell? ⟨B1, o + 1, none⟩ = some v5 ∧ W.cell? ⟨B1, o + 2, none⟩ = some v6 ∧ W.cell? ⟨B1, o + 3, none⟩ = some v7) (h0 : B0 < W.heap.size) (h1 : B1 < W.heap.size) (hb : Below W.heap.size W w1) : w1.cell? ⟨B0, 0, none⟩ = some v0 ∧ w1.cell? ⟨B0, 1, none⟩ = some v1 ∧ w1.cell? ⟨B0, 2, none⟩ = some v2 ∧ w1.cell? ⟨B0, 3, none⟩ = some v3 ∧ w1.cell? ⟨B1, o, none⟩ = some v4 ∧ w1.cell? ⟨B1, o + 1, none⟩ = some v5 ∧ w1.cell? ⟨B1, o + 2, none⟩ = some v6 ∧ w1.cell? ⟨B1, o + 3, none⟩ = some v7 :=
  let ⟨k0, k1, k2, k3, k4, k5, k6, k7⟩ := h
  ⟨cl_below k0 h0 hb, cl_below k1 h0 hb, cl_below k2 h0 hb, cl_below k3 h0 hb, cl_below k4 h1 hb, cl_below k5 h1 hb, cl_below k6 h1 hb, cl_below k7 h1 hb⟩

theorem pj_alloc (h : W.cell? ⟨B0, 0, none⟩ = some v0 ∧ W.cell? ⟨B0, 1, none⟩ = some v1 ∧ W.cell? ⟨B0, 2, none⟩ = some v2 ∧ W.cell? ⟨B0, 3, none⟩ = some v3 ∧ W.cell? ⟨B1, o, none⟩ = some v4 ∧ W.cell? ⟨B1, o + 1, none⟩ = some v5 ∧ W.cell? ⟨B1, o + 2, none⟩ = some v6 ∧ W.cell? ⟨B1, o + 3, none⟩ = some v7) (x : Obj) : (W.alloc x).cell? ⟨B0, 0, none⟩ = some v0 ∧ (W.alloc x).cell? ⟨B0, 1, none⟩ = some v1 ∧ (W.alloc x).cell? ⟨B0, 2, none⟩ = some v2 ∧ (W.alloc x).cell? ⟨B0, 3, none⟩ = some v3 ∧ (W.alloc x).cell? ⟨B1, o, none⟩ = some v4 ∧ (W.alloc x).cell? ⟨B1, o + 1, none⟩ = some v5 ∧ (W.alloc x).cell? ⟨B1, o + 2, none⟩ = some v6 ∧ (W.alloc x).cell? ⟨B1, o + 3, none⟩ = some v7 :=
  let ⟨k0, k1, k2, k3, k4, k5, k6, k7⟩ := h
  ⟨cl_alloc k0 x, cl_alloc k1 x, cl_alloc k2 x, cl_alloc k3 x, cl_alloc k4 x, cl_alloc k5 x, cl_alloc k6 x, cl_alloc k7 x⟩

theorem pj_re {x : Obj} (h : (W.alloc x).cell? ⟨B0, 0, none⟩ = some v0 ∧ (W.alloc x).cell? ⟨B0, 1, none⟩ = some v1 ∧ (W.alloc x).cell? ⟨B0, 2, none⟩ = some v2 ∧ (W.alloc x).cell? ⟨B0, 3, none⟩ = some v3 ∧ (W.alloc x).cell? ⟨B1, o, none⟩ = some v4 ∧ (W.alloc x).cell? ⟨B1, o + 1, none⟩ = some v5 ∧ (W.alloc x).cell? ⟨B1, o + 2, none⟩ = some v6 ∧ (W.alloc x).cell? ⟨B1, o + 3, none⟩ = some v7) (h0 : B0 < W.heap.size) (h1 : B1 < W.heap.size) (y : Obj) : (W.alloc y).cell? ⟨B0, 0, none⟩ = some v0 ∧ (W.alloc y).cell? ⟨B0, 1, none⟩ = some v1 ∧ (W.alloc y).cell? ⟨B0, 2, none⟩ = some v2 ∧ (W.alloc y).cell? ⟨B0, 3, none⟩ = some v3 ∧ (W.alloc y).cell? ⟨B1, o, none⟩ = some v4 ∧ (W.alloc y).cell? ⟨B1, o + 1, none⟩ = some v5 ∧ (W.alloc y).cell? ⟨B1, o + 2, none⟩ = some v6 ∧ (W.alloc y).cell? ⟨B1, o + 3, none⟩ = some v7 :=
  let ⟨k0, k1, k2, k3, k4, k5, k6, k7⟩ := h
  ⟨cl_re k0 h0 y, cl_re k1 h0 y, cl_re k2 h0 y, cl_re k3 h0 y, cl_re k4 h1 y, cl_re k5 h1 y, cl_re k6 h1 y, cl_re k7 h1 y⟩

theorem pj_drew (h : W.cell? ⟨B0, 0, none⟩ = some v0 ∧ W.cell? ⟨B0, 1, none⟩ = some v1 ∧ W.cell? ⟨B0, 2, none⟩ = some v2 ∧ W.cell? ⟨B0, 3, none⟩ = some v3 ∧ W.cell? ⟨B1, o, none⟩ = some v4 ∧ W.cell? ⟨B1, o + 1, none⟩ = some v5 ∧ W.cell? ⟨B1, o + 2, none⟩ = some v6 ∧ W.cell? ⟨B1, o + 3, none⟩ = some v7) : W.drew.cell? ⟨B0, 0, none⟩ = some v0 ∧ W.drew.cell? ⟨B0, 1, none⟩ = some v1 ∧ W.drew.cell? ⟨B0, 2, none⟩ = some v2 ∧ W.drew.cell? ⟨B0, 3, none⟩ = some v3 ∧ W.drew.cell? ⟨B1, o, none⟩ = some v4 ∧ W.drew.cell? ⟨B1, o + 1, none⟩ = some v5 ∧ W.drew.cell? ⟨B1, o + 2, none⟩ = some v6 ∧ W.drew.cell? ⟨B1, o + 3, none⟩ = some v7 := h

theorem pj_undrew (h : W.drew.cell? ⟨B0, 0, none⟩ = some v0 ∧ W.drew.cell? ⟨B0, 1, none⟩ = some v1 ∧ W.drew.cell? ⟨B0, 2, none⟩ = some v2 ∧ W.drew.cell? ⟨B0, 3, none⟩ = some v3 ∧ W.drew.cell? ⟨B1, o, none⟩ = some v4 ∧ W.drew.cell? ⟨B1, o + 1, none⟩ = some v5 ∧ W.drew.cell? ⟨B1, o + 2, none⟩ = some v6 ∧ W.drew.cell? ⟨B1, o + 3, none⟩ = some v7) : W.cell? ⟨B0, 0, none⟩ = some v0 ∧ W.cell? ⟨B0, 1, none⟩ = some v1 ∧ W.cell? ⟨B0, 2, none⟩ = some v2 ∧ W.cell? ⟨B0, 3, none⟩ = some v3 ∧ W.cell? ⟨B1, o, none⟩ = some v4 ∧ W.cell? ⟨B1, o + 1, none⟩ = some v5 ∧ W.cell? ⟨B1, o + 2, none⟩ = some v6 ∧ W.cell? ⟨B1, o + 3, none⟩ = some v7 := h

theorem pj_set (h : W.cell? ⟨B0, 0, none⟩ = some v0 ∧ W.cell? ⟨B0, 1, none⟩ = some v1 ∧ W.cell? ⟨B0, 2, none⟩ = some v2 ∧ W.cell? ⟨B0, 3, none⟩ = some v3 ∧ W.cell? ⟨B1, o, none⟩ = some v4 ∧ W.cell? ⟨B1, o + 1, none⟩ = some v5 ∧ W.cell? ⟨B1, o + 2, none⟩ = some v6 ∧ W.cell? ⟨B1, o + 3, none⟩ = some v7) (p : Addr) (u : Value) (h0 : p.block ≠ B0) (h1 : p.block ≠ B1) : (W.setCell p u).cell? ⟨B0, 0, none⟩ = some v0 ∧ (W.setCell p u).cell? ⟨B0, 1, none⟩ = some v1 ∧ (W.setCell p u).cell? ⟨B0, 2, none⟩ = some v2 ∧ (W.setCell p u).cell? ⟨B0, 3, none⟩ = some v3 ∧ (W.setCell p u).cell? ⟨B1, o, none⟩ = some v4 ∧ (W.setCell p u).cell? ⟨B1, o + 1, none⟩ = some v5 ∧ (W.setCell p u).cell? ⟨B1, o + 2, none⟩ = some v6 ∧ (W.setCell p u).cell? ⟨B1, o + 3, none⟩ = some v7 :=
  let ⟨k0, k1, k2, k3, k4, k5, k6, k7⟩ := h
  ⟨cl_set k0 p u h0, cl_set k1 p u h0, cl_set k2 p u h0, cl_set k3 p u h0, cl_set k4 p u h1, cl_set k5 p u h1, cl_set k6 p u h1, cl_set k7 p u h1⟩
end

end Go.Proofs.Ytppbbcckijcckab
