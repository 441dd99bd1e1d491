/- Cells in three and in nine places handed on. -/
import Derived.Test.YtoaccnpkobbaaaaCl
namespace Go.Proofs.Ytoaccnpkobbaaaa
open Go.ChangeShapes Go.WideShapes Go.ChangeAt Go.RowKit

section
variable {B0 B1 B2 o0 o1 o2 : Nat} {v0 v1 v2 : Value} {W w1 : World}
theorem cc3_below (h : W.cell? ⟨B0, o0, none⟩ = some v0 ∧ W.cell? ⟨B1, o1, none⟩ = some v1 ∧ W.cell? ⟨B2, o2, none⟩ = some v2) (h0 : B0 < W.heap.size) (h1 : B1 < W.heap.size) (h2 : B2 < W.heap.size) (hb : Below W.heap.size W w1) : w1.cell? ⟨B0, o0, none⟩ = some v0 ∧ w1.cell? ⟨B1, o1, none⟩ = some v1 ∧ w1.cell? ⟨B2, o2, none⟩ = some v2 :=
  let ⟨k0, k1, k2⟩ := h
  ⟨cl_below k0 h0 hb, cl_below k1 h1 hb, cl_below k2 h2 hb⟩

theorem cc3_alloc (h : W.cell? ⟨B0, o0, none⟩ = some v0 ∧ W.cell? ⟨B1, o1, none⟩ = some v1 ∧ W.cell? ⟨B2, o2, none⟩ = some v2) (o : Obj) : (W.alloc o).cell? ⟨B0, o0, none⟩ = some v0 ∧ (W.alloc o).cell? ⟨B1, o1, none⟩ = some v1 ∧ (W.alloc o).cell? ⟨B2, o2, none⟩ = some v2 :=
  let ⟨k0, k1, k2⟩ := h
  ⟨cl_alloc k0 o, cl_alloc k1 o, cl_alloc k2 o⟩

theorem cc3_re {yy : Obj} (h : (W.alloc yy).cell? ⟨B0, o0, none⟩ = some v0 ∧ (W.alloc yy).cell? ⟨B1, o1, none⟩ = some v1 ∧ (W.alloc yy).cell? ⟨B2, o2, none⟩ = some v2) (h0 : B0 < W.heap.size) (h1 : B1 < W.heap.size) (h2 : B2 < W.heap.size) (xx : Obj) : (W.alloc xx).cell? ⟨B0, o0, none⟩ = some v0 ∧ (W.alloc xx).cell? ⟨B1, o1, none⟩ = some v1 ∧ (W.alloc xx).cell? ⟨B2, o2, none⟩ = some v2 :=
  let ⟨k0, k1, k2⟩ := h
  ⟨cl_re k0 h0 xx, cl_re k1 h1 xx, cl_re k2 h2 xx⟩

theorem cc3_drew (h : W.cell? ⟨B0, o0, none⟩ = some v0 ∧ W.cell? ⟨B1, o1, none⟩ = some v1 ∧ W.cell? ⟨B2, o2, none⟩ = some v2) : W.drew.cell? ⟨B0, o0, none⟩ = some v0 ∧ W.drew.cell? ⟨B1, o1, none⟩ = some v1 ∧ W.drew.cell? ⟨B2, o2, none⟩ = some v2 := h

theorem cc3_undrew (h : W.drew.cell? ⟨B0, o0, none⟩ = some v0 ∧ W.drew.cell? ⟨B1, o1, none⟩ = some v1 ∧ W.drew.cell? ⟨B2, o2, none⟩ = some v2) : W.cell? ⟨B0, o0, none⟩ = some v0 ∧ W.cell? ⟨B1, o1, none⟩ = some v1 ∧ W.cell? ⟨B2, o2, none⟩ = some v2 := h

theorem cc3_set (h : W.cell? ⟨B0, o0, none⟩ = some v0 ∧ W.cell? ⟨B1, o1, none⟩ = some v1 ∧ W.cell? ⟨B2, o2, none⟩ = some v2) (p : Addr) (u : Value) (h0 : p.block ≠ B0) (h1 : p.block ≠ B1) (h2 : p.block ≠ B2) : (W.setCell p u).cell? ⟨B0, o0, none⟩ = some v0 ∧ (W.setCell p u).cell? ⟨B1, o1, none⟩ = some v1 ∧ (W.setCell p u).cell? ⟨B2, o2, none⟩ = some v2 :=
  let ⟨k0, k1, k2⟩ := h
  ⟨cl_set k0 p u h0, cl_set k1 p u h1, cl_set k2 p u h2⟩
end

section
variable {B0 B1 B2 B3 B4 B5 B6 B7 B8 o0 o1 o2 o3 o4 o5 o6 o7 o8 : Nat} {v0 v1 v2 v3 v4 v5 v6 v7 v8 : Value} {W w1 : World}
theorem cc9_below (h : W.cell? ⟨B0, o0, none⟩ = some v0 ∧ W.cell? ⟨B1, o1, none⟩ = some v1 ∧ W.cell? ⟨B2, o2, none⟩ = some v2 ∧ W.cell? ⟨B3, o3, none⟩ = some v3 ∧ W.cell? ⟨B4, o4, none⟩ = some v4 ∧ W.cell? ⟨B5, o5, none⟩ = some v5 ∧ W.cell? ⟨B6, o6, none⟩ = some v6 ∧ W.cell? ⟨B7, o7, none⟩ = some v7 ∧ W.cell? ⟨B8, o8, none⟩ = some v8) (h0 : B0 < W.heap.size) (h1 : B1 < W.heap.size) (h2 : B2 < W.heap.size) (h3 : B3 < W.heap.size) (h4 : B4 < W.heap.size) (h5 : B5 < W.heap.size) (h6 : B6 < W.heap.size) (h7 : B7 < W.heap.size) (h8 : B8 < W.heap.size) (hb : Below W.heap.size W w1) : w1.cell? ⟨B0, o0, none⟩ = some v0 ∧ w1.cell? ⟨B1, o1, none⟩ = some v1 ∧ w1.cell? ⟨B2, o2, none⟩ = some v2 ∧ w1.cell? ⟨B3, o3, none⟩ = some v3 ∧ w1.cell? ⟨B4, o4, none⟩ = some v4 ∧ w1.cell? ⟨B5, o5, none⟩ = some v5 ∧ w1.cell? ⟨B6, o6, none⟩ = some v6 ∧ w1.cell? ⟨B7, o7, none⟩ = some v7 ∧ w1.cell? ⟨B8, o8, none⟩ = some v8 :=
  let ⟨k0, k1, k2, k3, k4, k5, k6, k7, k8⟩ := h
  ⟨cl_below k0 h0 hb, cl_below k1 h1 hb, cl_below k2 h2 hb, cl_below k3 h3 hb, cl_below k4 h4 hb, cl_below k5 h5 hb, cl_below k6 h6 hb, cl_below k7 h7 hb, cl_below k8 h8 hb⟩

theorem cc9_alloc (h : W.cell? ⟨B0, o0, none⟩ = some v0 ∧ W.cell? ⟨B1, o1, none⟩ = some v1 ∧ W.cell? ⟨B2, o2, none⟩ = some v2 ∧ W.cell? ⟨B3, o3, none⟩ = some v3 ∧ W.cell? ⟨B4, o4, none⟩ = some v4 ∧ W.cell? ⟨B5, o5, none⟩ = some v5 ∧ W.cell? ⟨B6, o6, none⟩ = some v6 ∧ W.cell? ⟨B7, o7, none⟩ = some v7 ∧ W.cell? ⟨B8, o8, none⟩ = some v8) (o : Obj) : (W.alloc o).cell? ⟨B0, o0, none⟩ = some v0 ∧ (W.alloc o).cell? ⟨B1, o1, none⟩ = some v1 ∧ (W.alloc o).cell? ⟨B2, o2, none⟩ = some v2 ∧ (W.alloc o).cell? ⟨B3, o3, none⟩ = some v3 ∧ (W.alloc o).cell? ⟨B4, o4, none⟩ = some v4 ∧ (W.alloc o).cell? ⟨B5, o5, none⟩ = some v5 ∧ (W.alloc o).cell? ⟨B6, o6, none⟩ = some v6 ∧ (W.alloc o).cell? ⟨B7, o7, none⟩ = some v7 ∧ (W.alloc o).cell? ⟨B8, o8, none⟩ = some v8 :=
  let ⟨k0, k1, k2, k3, k4, k5, k6, k7, k8⟩ := h
  ⟨cl_alloc k0 o, cl_alloc k1 o, cl_alloc k2 o, cl_alloc k3 o, cl_alloc k4 o, cl_alloc k5 o, cl_alloc k6 o, cl_alloc k7 o, cl_alloc k8 o⟩

theorem cc9_re {yy : Obj} (h : (W.alloc yy).cell? ⟨B0, o0, none⟩ = some v0 ∧ (W.alloc yy).cell? ⟨B1, o1, none⟩ = some v1 ∧ (W.alloc yy).cell? ⟨B2, o2, none⟩ = some v2 ∧ (W.alloc yy).cell? ⟨B3, o3, none⟩ = some v3 ∧ (W.alloc yy).cell? ⟨B4, o4, none⟩ = some v4 ∧ (W.alloc yy).cell? ⟨B5, o5, none⟩ = some v5 ∧ (W.alloc yy).cell? ⟨B6, o6, none⟩ = some v6 ∧ (W.alloc yy).cell? ⟨B7, o7, none⟩ = some v7 ∧ (W.alloc yy).cell? ⟨B8, o8, none⟩ = some v8) (h0 : B0 < W.heap.size) (h1 : B1 < W.heap.size) (h2 : B2 < W.heap.size) (h3 : B3 < W.heap.size) (h4 : B4 < W.heap.size) (h5 : B5 < W.heap.size) (h6 : B6 < W.heap.size) (h7 : B7 < W.heap.size) (h8 : B8 < W.heap.size) (xx : Obj) : (W.alloc xx).cell? ⟨B0, o0, none⟩ = some v0 ∧ (W.alloc xx).cell? ⟨B1, o1, none⟩ = some v1 ∧ (W.alloc xx).cell? ⟨B2, o2, none⟩ = some v2 ∧ (W.alloc xx).cell? ⟨B3, o3, none⟩ = some v3 ∧ (W.alloc xx).cell? ⟨B4, o4, none⟩ = some v4 ∧ (W.alloc xx).cell? ⟨B5, o5, none⟩ = some v5 ∧ (W.alloc xx).cell? ⟨B6, o6, none⟩ = some v6 ∧ (W.alloc xx).cell? ⟨B7, o7, none⟩ = some v7 ∧ (W.alloc xx).cell? ⟨B8, o8, none⟩ = some v8 :=
  let ⟨k0, k1, k2, k3, k4, k5, k6, k7, k8⟩ := h
  ⟨cl_re k0 h0 xx, cl_re k1 h1 xx, cl_re k2 h2 xx, cl_re k3 h3 xx, cl_re k4 h4 xx, cl_re k5 h5 xx, cl_re k6 h6 xx, cl_re k7 h7 xx, cl_re k8 h8 xx⟩

theorem cc9_drew (h : W.cell? ⟨B0, o0, none⟩ = some v0 ∧ W.cell? ⟨B1, o1, none⟩ = some v1 ∧ W.cell? ⟨B2, o2, none⟩ = some v2 ∧ W.cell? ⟨B3, o3, none⟩ = some v3 ∧ W.cell? ⟨B4, o4, none⟩ = some v4 ∧ W.cell? ⟨B5, o5, none⟩ = some v5 ∧ W.cell? ⟨B6, o6, none⟩ = some v6 ∧ W.cell? ⟨B7, o7, none⟩ = some v7 ∧ W.cell? ⟨B8, o8, none⟩ = some v8) : W.drew.cell? ⟨B0, o0, none⟩ = some v0 ∧ W.drew.cell? ⟨B1, o1, none⟩ = some v1 ∧ W.drew.cell? ⟨B2, o2, none⟩ = some v2 ∧ W.drew.cell? ⟨B3, o3, none⟩ = some v3 ∧ W.drew.cell? ⟨B4, o4, none⟩ = some v4 ∧ W.drew.cell? ⟨B5, o5, none⟩ = some v5 ∧ W.drew.cell? ⟨B6, o6, none⟩ = some v6 ∧ W.drew.cell? ⟨B7, o7, none⟩ = some v7 ∧ W.drew.cell? ⟨B8, o8, none⟩ = some v8 := h

theorem cc9_undrew (h : W.drew.cell? ⟨B0, o0, none⟩ = some v0 ∧ W.drew.cell? ⟨B1, o1, none⟩ = some v1 ∧ W.drew.cell? ⟨B2, o2, none⟩ = some v2 ∧ W.drew.cell? ⟨B3, o3, none⟩ = some v3 ∧ W.drew.cell? ⟨B4, o4, none⟩ = some v4 ∧ W.drew.cell? ⟨B5, o5, none⟩ = some v5 ∧ W.drew.cell? ⟨B6, o6, none⟩ = some v6 ∧ W.drew.cell? ⟨B7, o7, none⟩ = some v7 ∧ W.drew.cell? ⟨B8, o8, none⟩ = some v8) : W.cell? ⟨B0, o0, none⟩ = some v0 ∧ W.cell? ⟨B1, o1, none⟩ = some v1 ∧ W.cell? ⟨B2, o2, none⟩ = some v2 ∧ W.cell? ⟨B3, o3, none⟩ = some v3 ∧ W.cell? ⟨B4, o4, none⟩ = some v4 ∧ W.cell? ⟨B5, o5, none⟩ = some v5 ∧ W.cell? ⟨B6, o6, none⟩ = some v6 ∧ W.cell? ⟨B7, o7, none⟩ = some v7 ∧ W.cell? ⟨B8, o8, none⟩ = some v8 := h

theorem cc9_set (h : W.cell? ⟨B0, o0, none⟩ = some v0 ∧ W.cell? ⟨B1, o1, none⟩ = some v1 ∧ W.cell? ⟨B2, o2, none⟩ = some v2 ∧ W.cell? ⟨B3, o3, none⟩ = some v3 ∧ W.cell? ⟨B4, o4, none⟩ = some v4 ∧ W.cell? ⟨B5, o5, none⟩ = some v5 ∧ W.cell? ⟨B6, o6, none⟩ = some v6 ∧ W.cell? ⟨B7, o7, none⟩ = some v7 ∧ W.cell? ⟨B8, o8, none⟩ = some v8) (p : Addr) (u : Value) (h0 : p.block ≠ B0) (h1 : p.block ≠ B1) (h2 : p.block ≠ B2) (h3 : p.block ≠ B3) (h4 : p.block ≠ B4) (h5 : p.block ≠ B5) (h6 : p.block ≠ B6) (h7 : p.block ≠ B7) (h8 : p.block ≠ B8) : (W.setCell p u).cell? ⟨B0, o0, none⟩ = some v0 ∧ (W.setCell p u).cell? ⟨B1, o1, none⟩ = some v1 ∧ (W.setCell p u).cell? ⟨B2, o2, none⟩ = some v2 ∧ (W.setCell p u).cell? ⟨B3, o3, none⟩ = some v3 ∧ (W.setCell p u).cell? ⟨B4, o4, none⟩ = some v4 ∧ (W.setCell p u).cell? ⟨B5, o5, none⟩ = some v5 ∧ (W.setCell p u).cell? ⟨B6, o6, none⟩ = some v6 ∧ (W.setCell p u).cell? ⟨B7, o7, none⟩ = some v7 ∧ (W.setCell p u).cell? ⟨B8, o8, none⟩ = some v8 :=
  let ⟨k0, k1, k2, k3, k4, k5, k6, k7, k8⟩ := h
  ⟨cl_set k0 p u h0, cl_set k1 p u h1, cl_set k2 p u h2, cl_set k3 p u h3, cl_set k4 p u h4, cl_set k5 p u h5, cl_set k6 p u h6, cl_set k7 p u h7, cl_set k8 p u h8⟩
end

end Go.Proofs.Ytoaccnpkobbaaaa
