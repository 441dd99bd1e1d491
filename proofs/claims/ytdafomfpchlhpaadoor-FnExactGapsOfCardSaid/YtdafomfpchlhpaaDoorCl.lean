/- Cells, one and in bundles, handed on through draws, new blocks, stores elsewhere and calls that make memory. -/
import Derived.Test.YtdafomfpchlhpaaDoorProg
import Derived.WalkKit
import Derived.ProofKit
import Derived.Deep.RegionHeld3
namespace Go.Proofs.YtdafomfpchlhpaaDoor
open Go.ChangeShapes Go.WideShapes Go.ChangeAt Go.RowKit

section
variable {b o : Nat} {v : Value} {W w1 : World}
theorem cl_below (h : W.cell? ⟨b, o, none⟩ = some v) (hn : b < W.heap.size) (hb : Below W.heap.size W w1) : w1.cell? ⟨b, o, none⟩ = some v := by
  rw [hb.cell (p := ⟨b, o, none⟩) hn]; exact h

theorem cl_alloc (h : W.cell? ⟨b, o, none⟩ = some v) (x : Obj) : (W.alloc x).cell? ⟨b, o, none⟩ = some v := by
  rw [World.cell?_alloc_some _ _ _ (by simp [h])]; exact h

theorem cl_re {x : Obj} (h : (W.alloc x).cell? ⟨b, o, none⟩ = some v) (hn : b < W.heap.size) (y : Obj) : (W.alloc y).cell? ⟨b, o, none⟩ = some v := by
  rw [World.cell?_alloc_lt _ _ _ (by exact hn)] at h
  rw [World.cell?_alloc_lt _ _ _ (by exact hn)]; exact h

theorem cl_drew (h : W.cell? ⟨b, o, none⟩ = some v) : W.drew.cell? ⟨b, o, none⟩ = some v := h

theorem cl_set (h : W.cell? ⟨b, o, none⟩ = some v) (p : Addr) (u : Value) (hp : p.block ≠ b) : (W.setCell p u).cell? ⟨b, o, none⟩ = some v := by
  rw [World.cell?_setCell_far _ _ _ _ hp]; exact h
end

section
variable {B0 B1 : Nat} {v00 v01 v02 v03 v10 v11 v12 v13 : Value} {W w1 : World}
theorem pp_below (h : W.cell? ⟨B0, 0, none⟩ = some v00 ∧ W.cell? ⟨B0, 1, none⟩ = some v01 ∧ W.cell? ⟨B0, 2, none⟩ = some v02 ∧ W.cell? ⟨B0, 3, none⟩ = some v03 ∧ W.cell? ⟨B1, 0, none⟩ = some v10 ∧ W.cell? ⟨B1, 1, none⟩ = some v11 ∧ W.cell? ⟨B1, 2, none⟩ = some v12 ∧ W.cell? ⟨B1, 3, none⟩ = some v13) (h0 : B0 < W.heap.size) (h1 : B1 < W.heap.size) (hb : Below W.heap.size W w1) : w1.cell? ⟨B0, 0, none⟩ = some v00 ∧ w1.cell? ⟨B0, 1, none⟩ = some v01 ∧ w1.cell? ⟨B0, 2, none⟩ = some v02 ∧ w1.cell? ⟨B0, 3, none⟩ = some v03 ∧ w1.cell? ⟨B1, 0, none⟩ = some v10 ∧ w1.cell? ⟨B1, 1, none⟩ = some v11 ∧ w1.cell? ⟨B1, 2, none⟩ = some v12 ∧ w1.cell? ⟨B1, 3, none⟩ = some v13 :=
  let ⟨k0, k1, k2, k3, k4, k5, k6, k7⟩ := h
  ⟨cl_below k0 h0 hb, cl_below k1 h0 hb, cl_below k2 h0 hb, cl_below k3 h0 hb, cl_below k4 h1 hb, cl_below k5 h1 hb, cl_below k6 h1 hb, cl_below k7 h1 hb⟩

theorem pp_alloc (h : W.cell? ⟨B0, 0, none⟩ = some v00 ∧ W.cell? ⟨B0, 1, none⟩ = some v01 ∧ W.cell? ⟨B0, 2, none⟩ = some v02 ∧ W.cell? ⟨B0, 3, none⟩ = some v03 ∧ W.cell? ⟨B1, 0, none⟩ = some v10 ∧ W.cell? ⟨B1, 1, none⟩ = some v11 ∧ W.cell? ⟨B1, 2, none⟩ = some v12 ∧ W.cell? ⟨B1, 3, none⟩ = some v13) (o : Obj) : (W.alloc o).cell? ⟨B0, 0, none⟩ = some v00 ∧ (W.alloc o).cell? ⟨B0, 1, none⟩ = some v01 ∧ (W.alloc o).cell? ⟨B0, 2, none⟩ = some v02 ∧ (W.alloc o).cell? ⟨B0, 3, none⟩ = some v03 ∧ (W.alloc o).cell? ⟨B1, 0, none⟩ = some v10 ∧ (W.alloc o).cell? ⟨B1, 1, none⟩ = some v11 ∧ (W.alloc o).cell? ⟨B1, 2, none⟩ = some v12 ∧ (W.alloc o).cell? ⟨B1, 3, none⟩ = some v13 :=
  let ⟨k0, k1, k2, k3, k4, k5, k6, k7⟩ := h
  ⟨cl_alloc k0 o, cl_alloc k1 o, cl_alloc k2 o, cl_alloc k3 o, cl_alloc k4 o, cl_alloc k5 o, cl_alloc k6 o, cl_alloc k7 o⟩

theorem pp_re {o : Obj} (h : (W.alloc o).cell? ⟨B0, 0, none⟩ = some v00 ∧ (W.alloc o).cell? ⟨B0, 1, none⟩ = some v01 ∧ (W.alloc o).cell? ⟨B0, 2, none⟩ = some v02 ∧ (W.alloc o).cell? ⟨B0, 3, none⟩ = some v03 ∧ (W.alloc o).cell? ⟨B1, 0, none⟩ = some v10 ∧ (W.alloc o).cell? ⟨B1, 1, none⟩ = some v11 ∧ (W.alloc o).cell? ⟨B1, 2, none⟩ = some v12 ∧ (W.alloc o).cell? ⟨B1, 3, none⟩ = some v13) (h0 : B0 < W.heap.size) (h1 : B1 < W.heap.size) (o2 : Obj) : (W.alloc o2).cell? ⟨B0, 0, none⟩ = some v00 ∧ (W.alloc o2).cell? ⟨B0, 1, none⟩ = some v01 ∧ (W.alloc o2).cell? ⟨B0, 2, none⟩ = some v02 ∧ (W.alloc o2).cell? ⟨B0, 3, none⟩ = some v03 ∧ (W.alloc o2).cell? ⟨B1, 0, none⟩ = some v10 ∧ (W.alloc o2).cell? ⟨B1, 1, none⟩ = some v11 ∧ (W.alloc o2).cell? ⟨B1, 2, none⟩ = some v12 ∧ (W.alloc o2).cell? ⟨B1, 3, none⟩ = some v13 :=
  let ⟨k0, k1, k2, k3, k4, k5, k6, k7⟩ := h
  ⟨cl_re k0 h0 o2, cl_re k1 h0 o2, cl_re k2 h0 o2, cl_re k3 h0 o2, cl_re k4 h1 o2, cl_re k5 h1 o2, cl_re k6 h1 o2, cl_re k7 h1 o2⟩

theorem pp_drew (h : W.cell? ⟨B0, 0, none⟩ = some v00 ∧ W.cell? ⟨B0, 1, none⟩ = some v01 ∧ W.cell? ⟨B0, 2, none⟩ = some v02 ∧ W.cell? ⟨B0, 3, none⟩ = some v03 ∧ W.cell? ⟨B1, 0, none⟩ = some v10 ∧ W.cell? ⟨B1, 1, none⟩ = some v11 ∧ W.cell? ⟨B1, 2, none⟩ = some v12 ∧ W.cell? ⟨B1, 3, none⟩ = some v13) : W.drew.cell? ⟨B0, 0, none⟩ = some v00 ∧ W.drew.cell? ⟨B0, 1, none⟩ = some v01 ∧ W.drew.cell? ⟨B0, 2, none⟩ = some v02 ∧ W.drew.cell? ⟨B0, 3, none⟩ = some v03 ∧ W.drew.cell? ⟨B1, 0, none⟩ = some v10 ∧ W.drew.cell? ⟨B1, 1, none⟩ = some v11 ∧ W.drew.cell? ⟨B1, 2, none⟩ = some v12 ∧ W.drew.cell? ⟨B1, 3, none⟩ = some v13 := h

theorem pp_undrew (h : W.drew.cell? ⟨B0, 0, none⟩ = some v00 ∧ W.drew.cell? ⟨B0, 1, none⟩ = some v01 ∧ W.drew.cell? ⟨B0, 2, none⟩ = some v02 ∧ W.drew.cell? ⟨B0, 3, none⟩ = some v03 ∧ W.drew.cell? ⟨B1, 0, none⟩ = some v10 ∧ W.drew.cell? ⟨B1, 1, none⟩ = some v11 ∧ W.drew.cell? ⟨B1, 2, none⟩ = some v12 ∧ W.drew.cell? ⟨B1, 3, none⟩ = some v13) : W.cell? ⟨B0, 0, none⟩ = some v00 ∧ W.cell? ⟨B0, 1, none⟩ = some v01 ∧ W.cell? ⟨B0, 2, none⟩ = some v02 ∧ W.cell? ⟨B0, 3, none⟩ = some v03 ∧ W.cell? ⟨B1, 0, none⟩ = some v10 ∧ W.cell? ⟨B1, 1, none⟩ = some v11 ∧ W.cell? ⟨B1, 2, none⟩ = some v12 ∧ W.cell? ⟨B1, 3, none⟩ = some v13 := h

theorem pp_set (h : W.cell? ⟨B0, 0, none⟩ = some v00 ∧ W.cell? ⟨B0, 1, none⟩ = some v01 ∧ W.cell? ⟨B0, 2, none⟩ = some v02 ∧ W.cell? ⟨B0, 3, none⟩ = some v03 ∧ W.cell? ⟨B1, 0, none⟩ = some v10 ∧ W.cell? ⟨B1, 1, none⟩ = some v11 ∧ W.cell? ⟨B1, 2, none⟩ = some v12 ∧ W.cell? ⟨B1, 3, none⟩ = some v13) (p : Addr) (u : Value) (h0 : p.block ≠ B0) (h1 : p.block ≠ B1) : (W.setCell p u).cell? ⟨B0, 0, none⟩ = some v00 ∧ (W.setCell p u).cell? ⟨B0, 1, none⟩ = some v01 ∧ (W.setCell p u).cell? ⟨B0, 2, none⟩ = some v02 ∧ (W.setCell p u).cell? ⟨B0, 3, none⟩ = some v03 ∧ (W.setCell p u).cell? ⟨B1, 0, none⟩ = some v10 ∧ (W.setCell p u).cell? ⟨B1, 1, none⟩ = some v11 ∧ (W.setCell p u).cell? ⟨B1, 2, none⟩ = some v12 ∧ (W.setCell p u).cell? ⟨B1, 3, none⟩ = some v13 :=
  let ⟨k0, k1, k2, k3, k4, k5, k6, k7⟩ := h
  ⟨cl_set k0 p u h0, cl_set k1 p u h0, cl_set k2 p u h0, cl_set k3 p u h0, cl_set k4 p u h1, cl_set k5 p u h1, cl_set k6 p u h1, cl_set k7 p u h1⟩
end

section
variable {B0 B1 B2 : Nat} {v00 v01 v02 v03 v10 v11 v12 v13 v20 v21 v22 v23 : Value} {W w1 : World}
theorem ppp_below (h : W.cell? ⟨B0, 0, none⟩ = some v00 ∧ W.cell? ⟨B0, 1, none⟩ = some v01 ∧ W.cell? ⟨B0, 2, none⟩ = some v02 ∧ W.cell? ⟨B0, 3, none⟩ = some v03 ∧ W.cell? ⟨B1, 0, none⟩ = some v10 ∧ W.cell? ⟨B1, 1, none⟩ = some v11 ∧ W.cell? ⟨B1, 2, none⟩ = some v12 ∧ W.cell? ⟨B1, 3, none⟩ = some v13 ∧ W.cell? ⟨B2, 0, none⟩ = some v20 ∧ W.cell? ⟨B2, 1, none⟩ = some v21 ∧ W.cell? ⟨B2, 2, none⟩ = some v22 ∧ W.cell? ⟨B2, 3, none⟩ = some v23) (h0 : B0 < W.heap.size) (h1 : B1 < W.heap.size) (h2 : B2 < W.heap.size) (hb : Below W.heap.size W w1) : w1.cell? ⟨B0, 0, none⟩ = some v00 ∧ w1.cell? ⟨B0, 1, none⟩ = some v01 ∧ w1.cell? ⟨B0, 2, none⟩ = some v02 ∧ w1.cell? ⟨B0, 3, none⟩ = some v03 ∧ w1.cell? ⟨B1, 0, none⟩ = some v10 ∧ w1.cell? ⟨B1, 1, none⟩ = some v11 ∧ w1.cell? ⟨B1, 2, none⟩ = some v12 ∧ w1.cell? ⟨B1, 3, none⟩ = some v13 ∧ w1.cell? ⟨B2, 0, none⟩ = some v20 ∧ w1.cell? ⟨B2, 1, none⟩ = some v21 ∧ w1.cell? ⟨B2, 2, none⟩ = some v22 ∧ w1.cell? ⟨B2, 3, none⟩ = some v23 :=
  let ⟨k0, k1, k2, k3, k4, k5, k6, k7, k8, k9, k10, k11⟩ := h
  ⟨cl_below k0 h0 hb, cl_below k1 h0 hb, cl_below k2 h0 hb, cl_below k3 h0 hb, cl_below k4 h1 hb, cl_below k5 h1 hb, cl_below k6 h1 hb, cl_below k7 h1 hb, cl_below k8 h2 hb, cl_below k9 h2 hb, cl_below k10 h2 hb, cl_below k11 h2 hb⟩

theorem ppp_alloc (h : W.cell? ⟨B0, 0, none⟩ = some v00 ∧ W.cell? ⟨B0, 1, none⟩ = some v01 ∧ W.cell? ⟨B0, 2, none⟩ = some v02 ∧ W.cell? ⟨B0, 3, none⟩ = some v03 ∧ W.cell? ⟨B1, 0, none⟩ = some v10 ∧ W.cell? ⟨B1, 1, none⟩ = some v11 ∧ W.cell? ⟨B1, 2, none⟩ = some v12 ∧ W.cell? ⟨B1, 3, none⟩ = some v13 ∧ W.cell? ⟨B2, 0, none⟩ = some v20 ∧ W.cell? ⟨B2, 1, none⟩ = some v21 ∧ W.cell? ⟨B2, 2, none⟩ = some v22 ∧ W.cell? ⟨B2, 3, none⟩ = some v23) (o : Obj) : (W.alloc o).cell? ⟨B0, 0, none⟩ = some v00 ∧ (W.alloc o).cell? ⟨B0, 1, none⟩ = some v01 ∧ (W.alloc o).cell? ⟨B0, 2, none⟩ = some v02 ∧ (W.alloc o).cell? ⟨B0, 3, none⟩ = some v03 ∧ (W.alloc o).cell? ⟨B1, 0, none⟩ = some v10 ∧ (W.alloc o).cell? ⟨B1, 1, none⟩ = some v11 ∧ (W.alloc o).cell? ⟨B1, 2, none⟩ = some v12 ∧ (W.alloc o).cell? ⟨B1, 3, none⟩ = some v13 ∧ (W.alloc o).cell? ⟨B2, 0, none⟩ = some v20 ∧ (W.alloc o).cell? ⟨B2, 1, none⟩ = some v21 ∧ (W.alloc o).cell? ⟨B2, 2, none⟩ = some v22 ∧ (W.alloc o).cell? ⟨B2, 3, none⟩ = some v23 :=
  let ⟨k0, k1, k2, k3, k4, k5, k6, k7, k8, k9, k10, k11⟩ := h
  ⟨cl_alloc k0 o, cl_alloc k1 o, cl_alloc k2 o, cl_alloc k3 o, cl_alloc k4 o, cl_alloc k5 o, cl_alloc k6 o, cl_alloc k7 o, cl_alloc k8 o, cl_alloc k9 o, cl_alloc k10 o, cl_alloc k11 o⟩

theorem ppp_re {o : Obj} (h : (W.alloc o).cell? ⟨B0, 0, none⟩ = some v00 ∧ (W.alloc o).cell? ⟨B0, 1, none⟩ = some v01 ∧ (W.alloc o).cell? ⟨B0, 2, none⟩ = some v02 ∧ (W.alloc o).cell? ⟨B0, 3, none⟩ = some v03 ∧ (W.alloc o).cell? ⟨B1, 0, none⟩ = some v10 ∧ (W.alloc o).cell? ⟨B1, 1, none⟩ = some v11 ∧ (W.alloc o).cell? ⟨B1, 2, none⟩ = some v12 ∧ (W.alloc o).cell? ⟨B1, 3, none⟩ = some v13 ∧ (W.alloc o).cell? ⟨B2, 0, none⟩ = some v20 ∧ (W.alloc o).cell? ⟨B2, 1, none⟩ = some v21 ∧ (W.alloc o).cell? ⟨B2, 2, none⟩ = some v22 ∧ (W.alloc o).cell? ⟨B2, 3, none⟩ = some v23) (h0 : B0 < W.heap.size) (h1 : B1 < W.heap.size) (h2 : B2 < W.heap.size) (o2 : Obj) : (W.alloc o2).cell? ⟨B0, 0, none⟩ = some v00 ∧ (W.alloc o2).cell? ⟨B0, 1, none⟩ = some v01 ∧ (W.alloc o2).cell? ⟨B0, 2, none⟩ = some v02 ∧ (W.alloc o2).cell? ⟨B0, 3, none⟩ = some v03 ∧ (W.alloc o2).cell? ⟨B1, 0, none⟩ = some v10 ∧ (W.alloc o2).cell? ⟨B1, 1, none⟩ = some v11 ∧ (W.alloc o2).cell? ⟨B1, 2, none⟩ = some v12 ∧ (W.alloc o2).cell? ⟨B1, 3, none⟩ = some v13 ∧ (W.alloc o2).cell? ⟨B2, 0, none⟩ = some v20 ∧ (W.alloc o2).cell? ⟨B2, 1, none⟩ = some v21 ∧ (W.alloc o2).cell? ⟨B2, 2, none⟩ = some v22 ∧ (W.alloc o2).cell? ⟨B2, 3, none⟩ = some v23 :=
  let ⟨k0, k1, k2, k3, k4, k5, k6, k7, k8, k9, k10, k11⟩ := h
  ⟨cl_re k0 h0 o2, cl_re k1 h0 o2, cl_re k2 h0 o2, cl_re k3 h0 o2, cl_re k4 h1 o2, cl_re k5 h1 o2, cl_re k6 h1 o2, cl_re k7 h1 o2, cl_re k8 h2 o2, cl_re k9 h2 o2, cl_re k10 h2 o2, cl_re k11 h2 o2⟩

theorem ppp_drew (h : W.cell? ⟨B0, 0, none⟩ = some v00 ∧ W.cell? ⟨B0, 1, none⟩ = some v01 ∧ W.cell? ⟨B0, 2, none⟩ = some v02 ∧ W.cell? ⟨B0, 3, none⟩ = some v03 ∧ W.cell? ⟨B1, 0, none⟩ = some v10 ∧ W.cell? ⟨B1, 1, none⟩ = some v11 ∧ W.cell? ⟨B1, 2, none⟩ = some v12 ∧ W.cell? ⟨B1, 3, none⟩ = some v13 ∧ W.cell? ⟨B2, 0, none⟩ = some v20 ∧ W.cell? ⟨B2, 1, none⟩ = some v21 ∧ W.cell? ⟨B2, 2, none⟩ = some v22 ∧ W.cell? ⟨B2, 3, none⟩ = some v23) : W.drew.cell? ⟨B0, 0, none⟩ = some v00 ∧ W.drew.cell? ⟨B0, 1, none⟩ = some v01 ∧ W.drew.cell? ⟨B0, 2, none⟩ = some v02 ∧ W.drew.cell? ⟨B0, 3, none⟩ = some v03 ∧ W.drew.cell? ⟨B1, 0, none⟩ = some v10 ∧ W.drew.cell? ⟨B1, 1, none⟩ = some v11 ∧ W.drew.cell? ⟨B1, 2, none⟩ = some v12 ∧ W.drew.cell? ⟨B1, 3, none⟩ = some v13 ∧ W.drew.cell? ⟨B2, 0, none⟩ = some v20 ∧ W.drew.cell? ⟨B2, 1, none⟩ = some v21 ∧ W.drew.cell? ⟨B2, 2, none⟩ = some v22 ∧ W.drew.cell? ⟨B2, 3, none⟩ = some v23 := h

theorem ppp_undrew (h : W.drew.cell? ⟨B0, 0, none⟩ = some v00 ∧ W.drew.cell? ⟨B0, 1, none⟩ = some v01 ∧ W.drew.cell? ⟨B0, 2, none⟩ = some v02 ∧ W.drew.cell? ⟨B0, 3, none⟩ = some v03 ∧ W.drew.cell? ⟨B1, 0, none⟩ = some v10 ∧ W.drew.cell? ⟨B1, 1, none⟩ = some v11 ∧ W.drew.cell? ⟨B1, 2, none⟩ = some v12 ∧ W.drew.cell? ⟨B1, 3, none⟩ = some v13 ∧ W.drew.cell? ⟨B2, 0, none⟩ = some v20 ∧ W.drew.cell? ⟨B2, 1, none⟩ = some v21 ∧ W.drew.cell? ⟨B2, 2, none⟩ = some v22 ∧ W.drew.cell? ⟨B2, 3, none⟩ = some v23) : W.cell? ⟨B0, 0, none⟩ = some v00 ∧ W.cell? ⟨B0, 1, none⟩ = some v01 ∧ W.cell? ⟨B0, 2, none⟩ = some v02 ∧ W.cell? ⟨B0, 3, none⟩ = some v03 ∧ W.cell? ⟨B1, 0, none⟩ = some v10 ∧ W.cell? ⟨B1, 1, none⟩ = some v11 ∧ W.cell? ⟨B1, 2, none⟩ = some v12 ∧ W.cell? ⟨B1, 3, none⟩ = some v13 ∧ W.cell? ⟨B2, 0, none⟩ = some v20 ∧ W.cell? ⟨B2, 1, none⟩ = some v21 ∧ W.cell? ⟨B2, 2, none⟩ = some v22 ∧ W.cell? ⟨B2, 3, none⟩ = some v23 := h

theorem ppp_set (h : W.cell? ⟨B0, 0, none⟩ = some v00 ∧ W.cell? ⟨B0, 1, none⟩ = some v01 ∧ W.cell? ⟨B0, 2, none⟩ = some v02 ∧ W.cell? ⟨B0, 3, none⟩ = some v03 ∧ W.cell? ⟨B1, 0, none⟩ = some v10 ∧ W.cell? ⟨B1, 1, none⟩ = some v11 ∧ W.cell? ⟨B1, 2, none⟩ = some v12 ∧ W.cell? ⟨B1, 3, none⟩ = some v13 ∧ W.cell? ⟨B2, 0, none⟩ = some v20 ∧ W.cell? ⟨B2, 1, none⟩ = some v21 ∧ W.cell? ⟨B2, 2, none⟩ = some v22 ∧ W.cell? ⟨B2, 3, none⟩ = some v23) (p : Addr) (u : Value) (h0 : p.block ≠ B0) (h1 : p.block ≠ B1) (h2 : p.block ≠ B2) : (W.setCell p u).cell? ⟨B0, 0, none⟩ = some v00 ∧ (W.setCell p u).cell? ⟨B0, 1, none⟩ = some v01 ∧ (W.setCell p u).cell? ⟨B0, 2, none⟩ = some v02 ∧ (W.setCell p u).cell? ⟨B0, 3, none⟩ = some v03 ∧ (W.setCell p u).cell? ⟨B1, 0, none⟩ = some v10 ∧ (W.setCell p u).cell? ⟨B1, 1, none⟩ = some v11 ∧ (W.setCell p u).cell? ⟨B1, 2, none⟩ = some v12 ∧ (W.setCell p u).cell? ⟨B1, 3, none⟩ = some v13 ∧ (W.setCell p u).cell? ⟨B2, 0, none⟩ = some v20 ∧ (W.setCell p u).cell? ⟨B2, 1, none⟩ = some v21 ∧ (W.setCell p u).cell? ⟨B2, 2, none⟩ = some v22 ∧ (W.setCell p u).cell? ⟨B2, 3, none⟩ = some v23 :=
  let ⟨k0, k1, k2, k3, k4, k5, k6, k7, k8, k9, k10, k11⟩ := h
  ⟨cl_set k0 p u h0, cl_set k1 p u h0, cl_set k2 p u h0, cl_set k3 p u h0, cl_set k4 p u h1, cl_set k5 p u h1, cl_set k6 p u h1, cl_set k7 p u h1, cl_set k8 p u h2, cl_set k9 p u h2, cl_set k10 p u h2, cl_set k11 p u h2⟩
end

section
variable {B0 B1 : Nat} {v00 v01 v10 v11 : Value} {W w1 : World}
theorem ss_below (h : W.cell? ⟨B0, 0, none⟩ = some v00 ∧ W.cell? ⟨B0, 1, none⟩ = some v01 ∧ W.cell? ⟨B1, 0, none⟩ = some v10 ∧ W.cell? ⟨B1, 1, none⟩ = some v11) (h0 : B0 < W.heap.size) (h1 : B1 < W.heap.size) (hb : Below W.heap.size W w1) : w1.cell? ⟨B0, 0, none⟩ = some v00 ∧ w1.cell? ⟨B0, 1, none⟩ = some v01 ∧ w1.cell? ⟨B1, 0, none⟩ = some v10 ∧ w1.cell? ⟨B1, 1, none⟩ = some v11 :=
  let ⟨k0, k1, k2, k3⟩ := h
  ⟨cl_below k0 h0 hb, cl_below k1 h0 hb, cl_below k2 h1 hb, cl_below k3 h1 hb⟩

theorem ss_alloc (h : W.cell? ⟨B0, 0, none⟩ = some v00 ∧ W.cell? ⟨B0, 1, none⟩ = some v01 ∧ W.cell? ⟨B1, 0, none⟩ = some v10 ∧ W.cell? ⟨B1, 1, none⟩ = some v11) (o : Obj) : (W.alloc o).cell? ⟨B0, 0, none⟩ = some v00 ∧ (W.alloc o).cell? ⟨B0, 1, none⟩ = some v01 ∧ (W.alloc o).cell? ⟨B1, 0, none⟩ = some v10 ∧ (W.alloc o).cell? ⟨B1, 1, none⟩ = some v11 :=
  let ⟨k0, k1, k2, k3⟩ := h
  ⟨cl_alloc k0 o, cl_alloc k1 o, cl_alloc k2 o, cl_alloc k3 o⟩

theorem ss_re {o : Obj} (h : (W.alloc o).cell? ⟨B0, 0, none⟩ = some v00 ∧ (W.alloc o).cell? ⟨B0, 1, none⟩ = some v01 ∧ (W.alloc o).cell? ⟨B1, 0, none⟩ = some v10 ∧ (W.alloc o).cell? ⟨B1, 1, none⟩ = some v11) (h0 : B0 < W.heap.size) (h1 : B1 < W.heap.size) (o2 : Obj) : (W.alloc o2).cell? ⟨B0, 0, none⟩ = some v00 ∧ (W.alloc o2).cell? ⟨B0, 1, none⟩ = some v01 ∧ (W.alloc o2).cell? ⟨B1, 0, none⟩ = some v10 ∧ (W.alloc o2).cell? ⟨B1, 1, none⟩ = some v11 :=
  let ⟨k0, k1, k2, k3⟩ := h
  ⟨cl_re k0 h0 o2, cl_re k1 h0 o2, cl_re k2 h1 o2, cl_re k3 h1 o2⟩

theorem ss_drew (h : W.cell? ⟨B0, 0, none⟩ = some v00 ∧ W.cell? ⟨B0, 1, none⟩ = some v01 ∧ W.cell? ⟨B1, 0, none⟩ = some v10 ∧ W.cell? ⟨B1, 1, none⟩ = some v11) : W.drew.cell? ⟨B0, 0, none⟩ = some v00 ∧ W.drew.cell? ⟨B0, 1, none⟩ = some v01 ∧ W.drew.cell? ⟨B1, 0, none⟩ = some v10 ∧ W.drew.cell? ⟨B1, 1, none⟩ = some v11 := h

theorem ss_undrew (h : W.drew.cell? ⟨B0, 0, none⟩ = some v00 ∧ W.drew.cell? ⟨B0, 1, none⟩ = some v01 ∧ W.drew.cell? ⟨B1, 0, none⟩ = some v10 ∧ W.drew.cell? ⟨B1, 1, none⟩ = some v11) : W.cell? ⟨B0, 0, none⟩ = some v00 ∧ W.cell? ⟨B0, 1, none⟩ = some v01 ∧ W.cell? ⟨B1, 0, none⟩ = some v10 ∧ W.cell? ⟨B1, 1, none⟩ = some v11 := h

theorem ss_set (h : W.cell? ⟨B0, 0, none⟩ = some v00 ∧ W.cell? ⟨B0, 1, none⟩ = some v01 ∧ W.cell? ⟨B1, 0, none⟩ = some v10 ∧ W.cell? ⟨B1, 1, none⟩ = some v11) (p : Addr) (u : Value) (h0 : p.block ≠ B0) (h1 : p.block ≠ B1) : (W.setCell p u).cell? ⟨B0, 0, none⟩ = some v00 ∧ (W.setCell p u).cell? ⟨B0, 1, none⟩ = some v01 ∧ (W.setCell p u).cell? ⟨B1, 0, none⟩ = some v10 ∧ (W.setCell p u).cell? ⟨B1, 1, none⟩ = some v11 :=
  let ⟨k0, k1, k2, k3⟩ := h
  ⟨cl_set k0 p u h0, cl_set k1 p u h0, cl_set k2 p u h1, cl_set k3 p u h1⟩
end

section
variable {B0 B1 B2 : Nat} {v00 v01 v10 v11 v20 v21 : Value} {W w1 : World}
theorem sss_below (h : W.cell? ⟨B0, 0, none⟩ = some v00 ∧ W.cell? ⟨B0, 1, none⟩ = some v01 ∧ W.cell? ⟨B1, 0, none⟩ = some v10 ∧ W.cell? ⟨B1, 1, none⟩ = some v11 ∧ W.cell? ⟨B2, 0, none⟩ = some v20 ∧ W.cell? ⟨B2, 1, none⟩ = some v21) (h0 : B0 < W.heap.size) (h1 : B1 < W.heap.size) (h2 : B2 < W.heap.size) (hb : Below W.heap.size W w1) : w1.cell? ⟨B0, 0, none⟩ = some v00 ∧ w1.cell? ⟨B0, 1, none⟩ = some v01 ∧ w1.cell? ⟨B1, 0, none⟩ = some v10 ∧ w1.cell? ⟨B1, 1, none⟩ = some v11 ∧ w1.cell? ⟨B2, 0, none⟩ = some v20 ∧ w1.cell? ⟨B2, 1, none⟩ = some v21 :=
  let ⟨k0, k1, k2, k3, k4, k5⟩ := h
  ⟨cl_below k0 h0 hb, cl_below k1 h0 hb, cl_below k2 h1 hb, cl_below k3 h1 hb, cl_below k4 h2 hb, cl_below k5 h2 hb⟩

theorem sss_alloc (h : W.cell? ⟨B0, 0, none⟩ = some v00 ∧ W.cell? ⟨B0, 1, none⟩ = some v01 ∧ W.cell? ⟨B1, 0, none⟩ = some v10 ∧ W.cell? ⟨B1, 1, none⟩ = some v11 ∧ W.cell? ⟨B2, 0, none⟩ = some v20 ∧ W.cell? ⟨B2, 1, none⟩ = some v21) (o : Obj) : (W.alloc o).cell? ⟨B0, 0, none⟩ = some v00 ∧ (W.alloc o).cell? ⟨B0, 1, none⟩ = some v01 ∧ (W.alloc o).cell? ⟨B1, 0, none⟩ = some v10 ∧ (W.alloc o).cell? ⟨B1, 1, none⟩ = some v11 ∧ (W.alloc o).cell? ⟨B2, 0, none⟩ = some v20 ∧ (W.alloc o).cell? ⟨B2, 1, none⟩ = some v21 :=
  let ⟨k0, k1, k2, k3, k4, k5⟩ := h
  ⟨cl_alloc k0 o, cl_alloc k1 o, cl_alloc k2 o, cl_alloc k3 o, cl_alloc k4 o, cl_alloc k5 o⟩

theorem sss_re {o : Obj} (h : (W.alloc o).cell? ⟨B0, 0, none⟩ = some v00 ∧ (W.alloc o).cell? ⟨B0, 1, none⟩ = some v01 ∧ (W.alloc o).cell? ⟨B1, 0, none⟩ = some v10 ∧ (W.alloc o).cell? ⟨B1, 1, none⟩ = some v11 ∧ (W.alloc o).cell? ⟨B2, 0, none⟩ = some v20 ∧ (W.alloc o).cell? ⟨B2, 1, none⟩ = some v21) (h0 : B0 < W.heap.size) (h1 : B1 < W.heap.size) (h2 : B2 < W.heap.size) (o2 : Obj) : (W.alloc o2).cell? ⟨B0, 0, none⟩ = some v00 ∧ (W.alloc o2).cell? ⟨B0, 1, none⟩ = some v01 ∧ (W.alloc o2).cell? ⟨B1, 0, none⟩ = some v10 ∧ (W.alloc o2).cell? ⟨B1, 1, none⟩ = some v11 ∧ (W.alloc o2).cell? ⟨B2, 0, none⟩ = some v20 ∧ (W.alloc o2).cell? ⟨B2, 1, none⟩ = some v21 :=
  let ⟨k0, k1, k2, k3, k4, k5⟩ := h
  ⟨cl_re k0 h0 o2, cl_re k1 h0 o2, cl_re k2 h1 o2, cl_re k3 h1 o2, cl_re k4 h2 o2, cl_re k5 h2 o2⟩

theorem sss_drew (h : W.cell? ⟨B0, 0, none⟩ = some v00 ∧ W.cell? ⟨B0, 1, none⟩ = some v01 ∧ W.cell? ⟨B1, 0, none⟩ = some v10 ∧ W.cell? ⟨B1, 1, none⟩ = some v11 ∧ W.cell? ⟨B2, 0, none⟩ = some v20 ∧ W.cell? ⟨B2, 1, none⟩ = some v21) : W.drew.cell? ⟨B0, 0, none⟩ = some v00 ∧ W.drew.cell? ⟨B0, 1, none⟩ = some v01 ∧ W.drew.cell? ⟨B1, 0, none⟩ = some v10 ∧ W.drew.cell? ⟨B1, 1, none⟩ = some v11 ∧ W.drew.cell? ⟨B2, 0, none⟩ = some v20 ∧ W.drew.cell? ⟨B2, 1, none⟩ = some v21 := h

theorem sss_undrew (h : W.drew.cell? ⟨B0, 0, none⟩ = some v00 ∧ W.drew.cell? ⟨B0, 1, none⟩ = some v01 ∧ W.drew.cell? ⟨B1, 0, none⟩ = some v10 ∧ W.drew.cell? ⟨B1, 1, none⟩ = some v11 ∧ W.drew.cell? ⟨B2, 0, none⟩ = some v20 ∧ W.drew.cell? ⟨B2, 1, none⟩ = some v21) : W.cell? ⟨B0, 0, none⟩ = some v00 ∧ W.cell? ⟨B0, 1, none⟩ = some v01 ∧ W.cell? ⟨B1, 0, none⟩ = some v10 ∧ W.cell? ⟨B1, 1, none⟩ = some v11 ∧ W.cell? ⟨B2, 0, none⟩ = some v20 ∧ W.cell? ⟨B2, 1, none⟩ = some v21 := h

theorem sss_set (h : W.cell? ⟨B0, 0, none⟩ = some v00 ∧ W.cell? ⟨B0, 1, none⟩ = some v01 ∧ W.cell? ⟨B1, 0, none⟩ = some v10 ∧ W.cell? ⟨B1, 1, none⟩ = some v11 ∧ W.cell? ⟨B2, 0, none⟩ = some v20 ∧ W.cell? ⟨B2, 1, none⟩ = some v21) (p : Addr) (u : Value) (h0 : p.block ≠ B0) (h1 : p.block ≠ B1) (h2 : p.block ≠ B2) : (W.setCell p u).cell? ⟨B0, 0, none⟩ = some v00 ∧ (W.setCell p u).cell? ⟨B0, 1, none⟩ = some v01 ∧ (W.setCell p u).cell? ⟨B1, 0, none⟩ = some v10 ∧ (W.setCell p u).cell? ⟨B1, 1, none⟩ = some v11 ∧ (W.setCell p u).cell? ⟨B2, 0, none⟩ = some v20 ∧ (W.setCell p u).cell? ⟨B2, 1, none⟩ = some v21 :=
  let ⟨k0, k1, k2, k3, k4, k5⟩ := h
  ⟨cl_set k0 p u h0, cl_set k1 p u h0, cl_set k2 p u h1, cl_set k3 p u h1, cl_set k4 p u h2, cl_set k5 p u h2⟩
end

theorem p_below {n : Nat} {v0 v1 v2 v3 : Value} {W w1 : World} (h : W.cell? ⟨n, 0, none⟩ = some v0 ∧ W.cell? ⟨n, 1, none⟩ = some v1 ∧ W.cell? ⟨n, 2, none⟩ = some v2 ∧ W.cell? ⟨n, 3, none⟩ = some v3) (hn : n < W.heap.size) (hb : Below W.heap.size W w1) :
    w1.cell? ⟨n, 0, none⟩ = some v0 ∧ w1.cell? ⟨n, 1, none⟩ = some v1 ∧ w1.cell? ⟨n, 2, none⟩ = some v2 ∧ w1.cell? ⟨n, 3, none⟩ = some v3 :=
  ⟨cl_below h.1 hn hb, cl_below h.2.1 hn hb, cl_below h.2.2.1 hn hb, cl_below h.2.2.2 hn hb⟩

theorem p_drew {n : Nat} {v0 v1 v2 v3 : Value} {W : World} (h : W.cell? ⟨n, 0, none⟩ = some v0 ∧ W.cell? ⟨n, 1, none⟩ = some v1 ∧ W.cell? ⟨n, 2, none⟩ = some v2 ∧ W.cell? ⟨n, 3, none⟩ = some v3) :
    W.drew.cell? ⟨n, 0, none⟩ = some v0 ∧ W.drew.cell? ⟨n, 1, none⟩ = some v1 ∧ W.drew.cell? ⟨n, 2, none⟩ = some v2 ∧ W.drew.cell? ⟨n, 3, none⟩ = some v3 := h
section
variable {B0 : Nat} {v00 v01 v02 v03 : Value} {W w1 : World}

theorem po_below (h : W.cell? ⟨B0, 0, none⟩ = some v00 ∧ W.cell? ⟨B0, 1, none⟩ = some v01 ∧ W.cell? ⟨B0, 2, none⟩ = some v02 ∧ W.cell? ⟨B0, 3, none⟩ = some v03) (h0 : B0 < W.heap.size) (hb : Below W.heap.size W w1) : w1.cell? ⟨B0, 0, none⟩ = some v00 ∧ w1.cell? ⟨B0, 1, none⟩ = some v01 ∧ w1.cell? ⟨B0, 2, none⟩ = some v02 ∧ w1.cell? ⟨B0, 3, none⟩ = some v03 :=
  let ⟨k0, k1, k2, k3⟩ := h
  ⟨cl_below k0 h0 hb, cl_below k1 h0 hb, cl_below k2 h0 hb, cl_below k3 h0 hb⟩

theorem po_alloc (h : W.cell? ⟨B0, 0, none⟩ = some v00 ∧ W.cell? ⟨B0, 1, none⟩ = some v01 ∧ W.cell? ⟨B0, 2, none⟩ = some v02 ∧ W.cell? ⟨B0, 3, none⟩ = some v03) (o : Obj) : (W.alloc o).cell? ⟨B0, 0, none⟩ = some v00 ∧ (W.alloc o).cell? ⟨B0, 1, none⟩ = some v01 ∧ (W.alloc o).cell? ⟨B0, 2, none⟩ = some v02 ∧ (W.alloc o).cell? ⟨B0, 3, none⟩ = some v03 :=
  let ⟨k0, k1, k2, k3⟩ := h
  ⟨cl_alloc k0 o, cl_alloc k1 o, cl_alloc k2 o, cl_alloc k3 o⟩

theorem po_re {o : Obj} (h : (W.alloc o).cell? ⟨B0, 0, none⟩ = some v00 ∧ (W.alloc o).cell? ⟨B0, 1, none⟩ = some v01 ∧ (W.alloc o).cell? ⟨B0, 2, none⟩ = some v02 ∧ (W.alloc o).cell? ⟨B0, 3, none⟩ = some v03) (h0 : B0 < W.heap.size) (o2 : Obj) : (W.alloc o2).cell? ⟨B0, 0, none⟩ = some v00 ∧ (W.alloc o2).cell? ⟨B0, 1, none⟩ = some v01 ∧ (W.alloc o2).cell? ⟨B0, 2, none⟩ = some v02 ∧ (W.alloc o2).cell? ⟨B0, 3, none⟩ = some v03 :=
  let ⟨k0, k1, k2, k3⟩ := h
  ⟨cl_re k0 h0 o2, cl_re k1 h0 o2, cl_re k2 h0 o2, cl_re k3 h0 o2⟩

theorem po_drew (h : W.cell? ⟨B0, 0, none⟩ = some v00 ∧ W.cell? ⟨B0, 1, none⟩ = some v01 ∧ W.cell? ⟨B0, 2, none⟩ = some v02 ∧ W.cell? ⟨B0, 3, none⟩ = some v03) : W.drew.cell? ⟨B0, 0, none⟩ = some v00 ∧ W.drew.cell? ⟨B0, 1, none⟩ = some v01 ∧ W.drew.cell? ⟨B0, 2, none⟩ = some v02 ∧ W.drew.cell? ⟨B0, 3, none⟩ = some v03 := h

theorem po_undrew (h : W.drew.cell? ⟨B0, 0, none⟩ = some v00 ∧ W.drew.cell? ⟨B0, 1, none⟩ = some v01 ∧ W.drew.cell? ⟨B0, 2, none⟩ = some v02 ∧ W.drew.cell? ⟨B0, 3, none⟩ = some v03) : W.cell? ⟨B0, 0, none⟩ = some v00 ∧ W.cell? ⟨B0, 1, none⟩ = some v01 ∧ W.cell? ⟨B0, 2, none⟩ = some v02 ∧ W.cell? ⟨B0, 3, none⟩ = some v03 := h

theorem po_set (h : W.cell? ⟨B0, 0, none⟩ = some v00 ∧ W.cell? ⟨B0, 1, none⟩ = some v01 ∧ W.cell? ⟨B0, 2, none⟩ = some v02 ∧ W.cell? ⟨B0, 3, none⟩ = some v03) (p : Addr) (u : Value) (h0 : p.block ≠ B0) : (W.setCell p u).cell? ⟨B0, 0, none⟩ = some v00 ∧ (W.setCell p u).cell? ⟨B0, 1, none⟩ = some v01 ∧ (W.setCell p u).cell? ⟨B0, 2, none⟩ = some v02 ∧ (W.setCell p u).cell? ⟨B0, 3, none⟩ = some v03 :=
  let ⟨k0, k1, k2, k3⟩ := h
  ⟨cl_set k0 p u h0, cl_set k1 p u h0, cl_set k2 p u h0, cl_set k3 p u h0⟩
end

theorem po_start (a0 a1 a2 a3 : Int) (w : World) (t : TypeId) : (w.alloc (.cells #[.int .i64 a0, .int .i64 a1, .int .i64 a2, .int .i64 a3] t)).cell? ⟨w.heap.size, 0, none⟩ = some (.int .i64 a0) ∧ (w.alloc (.cells #[.int .i64 a0, .int .i64 a1, .int .i64 a2, .int .i64 a3] t)).cell? ⟨w.heap.size, 1, none⟩ = some (.int .i64 a1) ∧ (w.alloc (.cells #[.int .i64 a0, .int .i64 a1, .int .i64 a2, .int .i64 a3] t)).cell? ⟨w.heap.size, 2, none⟩ = some (.int .i64 a2) ∧ (w.alloc (.cells #[.int .i64 a0, .int .i64 a1, .int .i64 a2, .int .i64 a3] t)).cell? ⟨w.heap.size, 3, none⟩ = some (.int .i64 a3) := by
  refine ⟨?_, ?_, ?_, ?_⟩ <;> go_simp

theorem ss_start (s0 s1 t0 t1 : Int) (w : World) (t s : TypeId) : ((w.alloc (.cells #[.int .i64 s0, .int .i64 s1] t)).alloc (.cells #[.int .i64 t0, .int .i64 t1] s)).cell? ⟨w.heap.size, 0, none⟩ = some (.int .i64 s0) ∧ ((w.alloc (.cells #[.int .i64 s0, .int .i64 s1] t)).alloc (.cells #[.int .i64 t0, .int .i64 t1] s)).cell? ⟨w.heap.size, 1, none⟩ = some (.int .i64 s1) ∧
    ((w.alloc (.cells #[.int .i64 s0, .int .i64 s1] t)).alloc (.cells #[.int .i64 t0, .int .i64 t1] s)).cell? ⟨w.heap.size + 1, 0, none⟩ = some (.int .i64 t0) ∧ ((w.alloc (.cells #[.int .i64 s0, .int .i64 s1] t)).alloc (.cells #[.int .i64 t0, .int .i64 t1] s)).cell? ⟨w.heap.size + 1, 1, none⟩ = some (.int .i64 t1) := by
  refine ⟨?_, ?_, ?_, ?_⟩ <;> go_simp

theorem pp_start (a0 a1 a2 a3 : Int) (b0 b1 b2 b3 : Int) (w : World) (t s : TypeId) : ((w.alloc (.cells #[.int .i64 a0, .int .i64 a1, .int .i64 a2, .int .i64 a3] t)).alloc (.cells #[.int .i64 b0, .int .i64 b1, .int .i64 b2, .int .i64 b3] s)).cell? ⟨w.heap.size, 0, none⟩ = some (.int .i64 a0) ∧ ((w.alloc (.cells #[.int .i64 a0, .int .i64 a1, .int .i64 a2, .int .i64 a3] t)).alloc (.cells #[.int .i64 b0, .int .i64 b1, .int .i64 b2, .int .i64 b3] s)).cell? ⟨w.heap.size, 1, none⟩ = some (.int .i64 a1) ∧ ((w.alloc (.cells #[.int .i64 a0, .int .i64 a1, .int .i64 a2, .int .i64 a3] t)).alloc (.cells #[.int .i64 b0, .int .i64 b1, .int .i64 b2, .int .i64 b3] s)).cell? ⟨w.heap.size, 2, none⟩ = some (.int .i64 a2) ∧ ((w.alloc (.cells #[.int .i64 a0, .int .i64 a1, .int .i64 a2, .int .i64 a3] t)).alloc (.cells #[.int .i64 b0, .int .i64 b1, .int .i64 b2, .int .i64 b3] s)).cell? ⟨w.heap.size, 3, none⟩ = some (.int .i64 a3) ∧ ((w.alloc (.cells #[.int .i64 a0, .int .i64 a1, .int .i64 a2, .int .i64 a3] t)).alloc (.cells #[.int .i64 b0, .int .i64 b1, .int .i64 b2, .int .i64 b3] s)).cell? ⟨w.heap.size + 1, 0, none⟩ = some (.int .i64 b0) ∧ ((w.alloc (.cells #[.int .i64 a0, .int .i64 a1, .int .i64 a2, .int .i64 a3] t)).alloc (.cells #[.int .i64 b0, .int .i64 b1, .int .i64 b2, .int .i64 b3] s)).cell? ⟨w.heap.size + 1, 1, none⟩ = some (.int .i64 b1) ∧ ((w.alloc (.cells #[.int .i64 a0, .int .i64 a1, .int .i64 a2, .int .i64 a3] t)).alloc (.cells #[.int .i64 b0, .int .i64 b1, .int .i64 b2, .int .i64 b3] s)).cell? ⟨w.heap.size + 1, 2, none⟩ = some (.int .i64 b2) ∧ ((w.alloc (.cells #[.int .i64 a0, .int .i64 a1, .int .i64 a2, .int .i64 a3] t)).alloc (.cells #[.int .i64 b0, .int .i64 b1, .int .i64 b2, .int .i64 b3] s)).cell? ⟨w.heap.size + 1, 3, none⟩ = some (.int .i64 b3) := by
  refine ⟨?_, ?_, ?_, ?_, ?_, ?_, ?_, ?_⟩ <;> go_simp

end Go.Proofs.YtdafomfpchlhpaaDoor
