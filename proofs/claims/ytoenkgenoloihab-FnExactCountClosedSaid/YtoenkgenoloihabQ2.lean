/- Contracts and facts, put together (part 2). Conditions: each says its own. -/
import Derived.Test.YtoenkgenoloihabQ1
import Derived.Lib.Hide
import Derived.Test.YtoenkgenoloihabProg
import Derived.WalkKit
import Derived.ProofKit
import Derived.Deep.RegionHeld3
import Derived.Handy
import Derived.WalkSpells
import Derived.LoopTactic
import Derived.Outline
import Derived.Laws.AppendOwn
import Derived.Laws.OwnMore
import Derived.Deep.AppendLies
import Derived.Test.YtoenkgenoloihabShelf
import Derived.Deep.QuietTactic
import Derived.BigQuiet

/- Contracts: TurnPoint and HeadingPoint, in the model and in the program; a product of two points in the program. -/
namespace Go.Proofs.Ytoenkgenoloihab
open Go.ChangeShapes Go.WideShapes Go.ChangeAt Go.RowKit

theorem mul_bd (a b : Int) (h0 : -999999 ≤ a) (h1 : a ≤ 999999) (k0 : -999999 ≤ b) (k1 : b ≤ 999999) : -999998000001 ≤ a * b ∧ a * b ≤ 999998000001 := by
  have ha : a.natAbs ≤ 999999 := by omega
  have hb : b.natAbs ≤ 999999 := by omega
  have hm : (a * b).natAbs ≤ 999998000001 := by rw [Int.natAbs_mul]; exact Nat.mul_le_mul ha hb
  omega

def tm0 (a0 a1 a2 a3 : Int) (b0 b1 b2 b3 : Int) : Int := a0 * b0 - a1 * b3 - a2 * b2 - a3 * b1

def tm1 (a0 a1 a2 a3 : Int) (b0 b1 b2 b3 : Int) : Int := a0 * b1 + a1 * b0 - a2 * b3 - a3 * b2

def tm2 (a0 a1 a2 a3 : Int) (b0 b1 b2 b3 : Int) : Int := a0 * b2 + a1 * b1 + a2 * b0 - a3 * b3

def tm3 (a0 a1 a2 a3 : Int) (b0 b1 b2 b3 : Int) : Int := a0 * b3 + a1 * b2 + a2 * b1 + a3 * b0

set_option maxRecDepth 100000 in
set_option maxHeartbeats 3200000 in
theorem imTimes_any (a0 a1 a2 a3 : Int) (b0 b1 b2 b3 : Int) (pa0 : -999999 ≤ a0) (qa0 : a0 ≤ 999999) (pa1 : -999999 ≤ a1) (qa1 : a1 ≤ 999999) (pa2 : -999999 ≤ a2) (qa2 : a2 ≤ 999999) (pa3 : -999999 ≤ a3) (qa3 : a3 ≤ 999999) (pb0 : -999999 ≤ b0) (qb0 : b0 ≤ 999999) (pb1 : -999999 ≤ b1) (qb1 : b1 ≤ 999999) (pb2 : -999999 ≤ b2) (qb2 : b2 ≤ 999999) (pb3 : -999999 ≤ b3) (qb3 : b3 ≤ 999999) (w : World) :
    Calls Try.prog 78 #[.agg #[.int .i64 a0, .int .i64 a1, .int .i64 a2, .int .i64 a3], .agg #[.int .i64 b0, .int .i64 b1, .int .i64 b2, .int .i64 b3]] w fun e w' => e = .returned (.agg #[.int .i64 (tm0 a0 a1 a2 a3 b0 b1 b2 b3), .int .i64 (tm1 a0 a1 a2 a3 b0 b1 b2 b3), .int .i64 (tm2 a0 a1 a2 a3 b0 b1 b2 b3), .int .i64 (tm3 a0 a1 a2 a3 b0 b1 b2 b3)]) ∧ Below w.heap.size w w' := by
  obtain ⟨l00, u00⟩ := mul_bd a0 b0 pa0 qa0 pb0 qb0
  obtain ⟨l01, u01⟩ := mul_bd a0 b1 pa0 qa0 pb1 qb1
  obtain ⟨l02, u02⟩ := mul_bd a0 b2 pa0 qa0 pb2 qb2
  obtain ⟨l03, u03⟩ := mul_bd a0 b3 pa0 qa0 pb3 qb3
  obtain ⟨l10, u10⟩ := mul_bd a1 b0 pa1 qa1 pb0 qb0
  obtain ⟨l11, u11⟩ := mul_bd a1 b1 pa1 qa1 pb1 qb1
  obtain ⟨l12, u12⟩ := mul_bd a1 b2 pa1 qa1 pb2 qb2
  obtain ⟨l13, u13⟩ := mul_bd a1 b3 pa1 qa1 pb3 qb3
  obtain ⟨l20, u20⟩ := mul_bd a2 b0 pa2 qa2 pb0 qb0
  obtain ⟨l21, u21⟩ := mul_bd a2 b1 pa2 qa2 pb1 qb1
  obtain ⟨l22, u22⟩ := mul_bd a2 b2 pa2 qa2 pb2 qb2
  obtain ⟨l23, u23⟩ := mul_bd a2 b3 pa2 qa2 pb3 qb3
  obtain ⟨l30, u30⟩ := mul_bd a3 b0 pa3 qa3 pb0 qb0
  obtain ⟨l31, u31⟩ := mul_bd a3 b1 pa3 qa3 pb1 qb1
  obtain ⟨l32, u32⟩ := mul_bd a3 b2 pa3 qa3 pb2 qb2
  obtain ⟨l33, u33⟩ := mul_bd a3 b3 pa3 qa3 pb3 qb3
  go_enter Try.func78, Try.ntmps78
  go_wp2
  go_returns
  exact ⟨rfl, by go_grown⟩

end Go.Proofs.Ytoenkgenoloihab

/- Cells, one and in bundles, handed on through draws, new blocks, stores elsewhere and calls that make memory. -/
namespace Go.Proofs.Ytoenkgenoloihab
open Go.ChangeShapes Go.WideShapes Go.ChangeAt Go.RowKit

section
variable {b o : Nat} {v : Value} {W w1 : World}
theorem cl_below (h : W.cell? ⟨b, o, none⟩ = some v) (hn : b < W.heap.size) (hb : Below W.heap.size W w1) : w1.cell? ⟨b, o, none⟩ = some v := by
  rw [hb.cell (p := ⟨b, o, none⟩) hn]; exact h

theorem cl_alloc (h : W.cell? ⟨b, o, none⟩ = some v) (x : Obj) : (W.alloc x).cell? ⟨b, o, none⟩ = some v := by
  rw [World.cell?_alloc_some _ _ _ (by simp [h])]; exact h

theorem cl_re {x : Obj} (h : (W.alloc x).cell? ⟨b, o, none⟩ = some v) (hn : b < W.heap.size) (y : Obj) : (W.alloc y).cell? ⟨b, o, none⟩ = some v := by
  rw [World.cell?_alloc_lt _ _ _ (by exact hn)] at h
  rw [World.cell?_alloc_lt _ _ _ (by exact hn)]; exact h

theorem cl_drew (h : W.cell? ⟨b, o, none⟩ = some v) : W.drew.cell? ⟨b, o, none⟩ = some v := h

theorem cl_set (h : W.cell? ⟨b, o, none⟩ = some v) (p : Addr) (u : Value) (hp : p.block ≠ b) : (W.setCell p u).cell? ⟨b, o, none⟩ = some v := by
  rw [World.cell?_setCell_far _ _ _ _ hp]; exact h
end

section
variable {B0 B1 : Nat} {v00 v01 v02 v03 v10 v11 v12 v13 : Value} {W w1 : World}
theorem pp_below (h : W.cell? ⟨B0, 0, none⟩ = some v00 ∧ W.cell? ⟨B0, 1, none⟩ = some v01 ∧ W.cell? ⟨B0, 2, none⟩ = some v02 ∧ W.cell? ⟨B0, 3, none⟩ = some v03 ∧ W.cell? ⟨B1, 0, none⟩ = some v10 ∧ W.cell? ⟨B1, 1, none⟩ = some v11 ∧ W.cell? ⟨B1, 2, none⟩ = some v12 ∧ W.cell? ⟨B1, 3, none⟩ = some v13) (h0 : B0 < W.heap.size) (h1 : B1 < W.heap.size) (hb : Below W.heap.size W w1) : w1.cell? ⟨B0, 0, none⟩ = some v00 ∧ w1.cell? ⟨B0, 1, none⟩ = some v01 ∧ w1.cell? ⟨B0, 2, none⟩ = some v02 ∧ w1.cell? ⟨B0, 3, none⟩ = some v03 ∧ w1.cell? ⟨B1, 0, none⟩ = some v10 ∧ w1.cell? ⟨B1, 1, none⟩ = some v11 ∧ w1.cell? ⟨B1, 2, none⟩ = some v12 ∧ w1.cell? ⟨B1, 3, none⟩ = some v13 :=
  let ⟨k0, k1, k2, k3, k4, k5, k6, k7⟩ := h
  ⟨cl_below k0 h0 hb, cl_below k1 h0 hb, cl_below k2 h0 hb, cl_below k3 h0 hb, cl_below k4 h1 hb, cl_below k5 h1 hb, cl_below k6 h1 hb, cl_below k7 h1 hb⟩

theorem pp_alloc (h : W.cell? ⟨B0, 0, none⟩ = some v00 ∧ W.cell? ⟨B0, 1, none⟩ = some v01 ∧ W.cell? ⟨B0, 2, none⟩ = some v02 ∧ W.cell? ⟨B0, 3, none⟩ = some v03 ∧ W.cell? ⟨B1, 0, none⟩ = some v10 ∧ W.cell? ⟨B1, 1, none⟩ = some v11 ∧ W.cell? ⟨B1, 2, none⟩ = some v12 ∧ W.cell? ⟨B1, 3, none⟩ = some v13) (o : Obj) : (W.alloc o).cell? ⟨B0, 0, none⟩ = some v00 ∧ (W.alloc o).cell? ⟨B0, 1, none⟩ = some v01 ∧ (W.alloc o).cell? ⟨B0, 2, none⟩ = some v02 ∧ (W.alloc o).cell? ⟨B0, 3, none⟩ = some v03 ∧ (W.alloc o).cell? ⟨B1, 0, none⟩ = some v10 ∧ (W.alloc o).cell? ⟨B1, 1, none⟩ = some v11 ∧ (W.alloc o).cell? ⟨B1, 2, none⟩ = some v12 ∧ (W.alloc o).cell? ⟨B1, 3, none⟩ = some v13 :=
  let ⟨k0, k1, k2, k3, k4, k5, k6, k7⟩ := h
  ⟨cl_alloc k0 o, cl_alloc k1 o, cl_alloc k2 o, cl_alloc k3 o, cl_alloc k4 o, cl_alloc k5 o, cl_alloc k6 o, cl_alloc k7 o⟩

theorem pp_re {o : Obj} (h : (W.alloc o).cell? ⟨B0, 0, none⟩ = some v00 ∧ (W.alloc o).cell? ⟨B0, 1, none⟩ = some v01 ∧ (W.alloc o).cell? ⟨B0, 2, none⟩ = some v02 ∧ (W.alloc o).cell? ⟨B0, 3, none⟩ = some v03 ∧ (W.alloc o).cell? ⟨B1, 0, none⟩ = some v10 ∧ (W.alloc o).cell? ⟨B1, 1, none⟩ = some v11 ∧ (W.alloc o).cell? ⟨B1, 2, none⟩ = some v12 ∧ (W.alloc o).cell? ⟨B1, 3, none⟩ = some v13) (h0 : B0 < W.heap.size) (h1 : B1 < W.heap.size) (o2 : Obj) : (W.alloc o2).cell? ⟨B0, 0, none⟩ = some v00 ∧ (W.alloc o2).cell? ⟨B0, 1, none⟩ = some v01 ∧ (W.alloc o2).cell? ⟨B0, 2, none⟩ = some v02 ∧ (W.alloc o2).cell? ⟨B0, 3, none⟩ = some v03 ∧ (W.alloc o2).cell? ⟨B1, 0, none⟩ = some v10 ∧ (W.alloc o2).cell? ⟨B1, 1, none⟩ = some v11 ∧ (W.alloc o2).cell? ⟨B1, 2, none⟩ = some v12 ∧ (W.alloc o2).cell? ⟨B1, 3, none⟩ = some v13 :=
  let ⟨k0, k1, k2, k3, k4, k5, k6, k7⟩ := h
  ⟨cl_re k0 h0 o2, cl_re k1 h0 o2, cl_re k2 h0 o2, cl_re k3 h0 o2, cl_re k4 h1 o2, cl_re k5 h1 o2, cl_re k6 h1 o2, cl_re k7 h1 o2⟩

theorem pp_drew (h : W.cell? ⟨B0, 0, none⟩ = some v00 ∧ W.cell? ⟨B0, 1, none⟩ = some v01 ∧ W.cell? ⟨B0, 2, none⟩ = some v02 ∧ W.cell? ⟨B0, 3, none⟩ = some v03 ∧ W.cell? ⟨B1, 0, none⟩ = some v10 ∧ W.cell? ⟨B1, 1, none⟩ = some v11 ∧ W.cell? ⟨B1, 2, none⟩ = some v12 ∧ W.cell? ⟨B1, 3, none⟩ = some v13) : W.drew.cell? ⟨B0, 0, none⟩ = some v00 ∧ W.drew.cell? ⟨B0, 1, none⟩ = some v01 ∧ W.drew.cell? ⟨B0, 2, none⟩ = some v02 ∧ W.drew.cell? ⟨B0, 3, none⟩ = some v03 ∧ W.drew.cell? ⟨B1, 0, none⟩ = some v10 ∧ W.drew.cell? ⟨B1, 1, none⟩ = some v11 ∧ W.drew.cell? ⟨B1, 2, none⟩ = some v12 ∧ W.drew.cell? ⟨B1, 3, none⟩ = some v13 := h

theorem pp_undrew (h : W.drew.cell? ⟨B0, 0, none⟩ = some v00 ∧ W.drew.cell? ⟨B0, 1, none⟩ = some v01 ∧ W.drew.cell? ⟨B0, 2, none⟩ = some v02 ∧ W.drew.cell? ⟨B0, 3, none⟩ = some v03 ∧ W.drew.cell? ⟨B1, 0, none⟩ = some v10 ∧ W.drew.cell? ⟨B1, 1, none⟩ = some v11 ∧ W.drew.cell? ⟨B1, 2, none⟩ = some v12 ∧ W.drew.cell? ⟨B1, 3, none⟩ = some v13) : W.cell? ⟨B0, 0, none⟩ = some v00 ∧ W.cell? ⟨B0, 1, none⟩ = some v01 ∧ W.cell? ⟨B0, 2, none⟩ = some v02 ∧ W.cell? ⟨B0, 3, none⟩ = some v03 ∧ W.cell? ⟨B1, 0, none⟩ = some v10 ∧ W.cell? ⟨B1, 1, none⟩ = some v11 ∧ W.cell? ⟨B1, 2, none⟩ = some v12 ∧ W.cell? ⟨B1, 3, none⟩ = some v13 := h

theorem pp_set (h : W.cell? ⟨B0, 0, none⟩ = some v00 ∧ W.cell? ⟨B0, 1, none⟩ = some v01 ∧ W.cell? ⟨B0, 2, none⟩ = some v02 ∧ W.cell? ⟨B0, 3, none⟩ = some v03 ∧ W.cell? ⟨B1, 0, none⟩ = some v10 ∧ W.cell? ⟨B1, 1, none⟩ = some v11 ∧ W.cell? ⟨B1, 2, none⟩ = some v12 ∧ W.cell? ⟨B1, 3, none⟩ = some v13) (p : Addr) (u : Value) (h0 : p.block ≠ B0) (h1 : p.block ≠ B1) : (W.setCell p u).cell? ⟨B0, 0, none⟩ = some v00 ∧ (W.setCell p u).cell? ⟨B0, 1, none⟩ = some v01 ∧ (W.setCell p u).cell? ⟨B0, 2, none⟩ = some v02 ∧ (W.setCell p u).cell? ⟨B0, 3, none⟩ = some v03 ∧ (W.setCell p u).cell? ⟨B1, 0, none⟩ = some v10 ∧ (W.setCell p u).cell? ⟨B1, 1, none⟩ = some v11 ∧ (W.setCell p u).cell? ⟨B1, 2, none⟩ = some v12 ∧ (W.setCell p u).cell? ⟨B1, 3, none⟩ = some v13 :=
  let ⟨k0, k1, k2, k3, k4, k5, k6, k7⟩ := h
  ⟨cl_set k0 p u h0, cl_set k1 p u h0, cl_set k2 p u h0, cl_set k3 p u h0, cl_set k4 p u h1, cl_set k5 p u h1, cl_set k6 p u h1, cl_set k7 p u h1⟩
end

section
variable {B0 B1 B2 : Nat} {v00 v01 v02 v03 v10 v11 v12 v13 v20 v21 v22 v23 : Value} {W w1 : World}
theorem ppp_below (h : W.cell? ⟨B0, 0, none⟩ = some v00 ∧ W.cell? ⟨B0, 1, none⟩ = some v01 ∧ W.cell? ⟨B0, 2, none⟩ = some v02 ∧ W.cell? ⟨B0, 3, none⟩ = some v03 ∧ W.cell? ⟨B1, 0, none⟩ = some v10 ∧ W.cell? ⟨B1, 1, none⟩ = some v11 ∧ W.cell? ⟨B1, 2, none⟩ = some v12 ∧ W.cell? ⟨B1, 3, none⟩ = some v13 ∧ W.cell? ⟨B2, 0, none⟩ = some v20 ∧ W.cell? ⟨B2, 1, none⟩ = some v21 ∧ W.cell? ⟨B2, 2, none⟩ = some v22 ∧ W.cell? ⟨B2, 3, none⟩ = some v23) (h0 : B0 < W.heap.size) (h1 : B1 < W.heap.size) (h2 : B2 < W.heap.size) (hb : Below W.heap.size W w1) : w1.cell? ⟨B0, 0, none⟩ = some v00 ∧ w1.cell? ⟨B0, 1, none⟩ = some v01 ∧ w1.cell? ⟨B0, 2, none⟩ = some v02 ∧ w1.cell? ⟨B0, 3, none⟩ = some v03 ∧ w1.cell? ⟨B1, 0, none⟩ = some v10 ∧ w1.cell? ⟨B1, 1, none⟩ = some v11 ∧ w1.cell? ⟨B1, 2, none⟩ = some v12 ∧ w1.cell? ⟨B1, 3, none⟩ = some v13 ∧ w1.cell? ⟨B2, 0, none⟩ = some v20 ∧ w1.cell? ⟨B2, 1, none⟩ = some v21 ∧ w1.cell? ⟨B2, 2, none⟩ = some v22 ∧ w1.cell? ⟨B2, 3, none⟩ = some v23 :=
  let ⟨k0, k1, k2, k3, k4, k5, k6, k7, k8, k9, k10, k11⟩ := h
  ⟨cl_below k0 h0 hb, cl_below k1 h0 hb, cl_below k2 h0 hb, cl_below k3 h0 hb, cl_below k4 h1 hb, cl_below k5 h1 hb, cl_below k6 h1 hb, cl_below k7 h1 hb, cl_below k8 h2 hb, cl_below k9 h2 hb, cl_below k10 h2 hb, cl_below k11 h2 hb⟩

theorem ppp_alloc (h : W.cell? ⟨B0, 0, none⟩ = some v00 ∧ W.cell? ⟨B0, 1, none⟩ = some v01 ∧ W.cell? ⟨B0, 2, none⟩ = some v02 ∧ W.cell? ⟨B0, 3, none⟩ = some v03 ∧ W.cell? ⟨B1, 0, none⟩ = some v10 ∧ W.cell? ⟨B1, 1, none⟩ = some v11 ∧ W.cell? ⟨B1, 2, none⟩ = some v12 ∧ W.cell? ⟨B1, 3, none⟩ = some v13 ∧ W.cell? ⟨B2, 0, none⟩ = some v20 ∧ W.cell? ⟨B2, 1, none⟩ = some v21 ∧ W.cell? ⟨B2, 2, none⟩ = some v22 ∧ W.cell? ⟨B2, 3, none⟩ = some v23) (o : Obj) : (W.alloc o).cell? ⟨B0, 0, none⟩ = some v00 ∧ (W.alloc o).cell? ⟨B0, 1, none⟩ = some v01 ∧ (W.alloc o).cell? ⟨B0, 2, none⟩ = some v02 ∧ (W.alloc o).cell? ⟨B0, 3, none⟩ = some v03 ∧ (W.alloc o).cell? ⟨B1, 0, none⟩ = some v10 ∧ (W.alloc o).cell? ⟨B1, 1, none⟩ = some v11 ∧ (W.alloc o).cell? ⟨B1, 2, none⟩ = some v12 ∧ (W.alloc o).cell? ⟨B1, 3, none⟩ = some v13 ∧ (W.alloc o).cell? ⟨B2, 0, none⟩ = some v20 ∧ (W.alloc o).cell? ⟨B2, 1, none⟩ = some v21 ∧ (W.alloc o).cell? ⟨B2, 2, none⟩ = some v22 ∧ (W.alloc o).cell? ⟨B2, 3, none⟩ = some v23 :=
  let ⟨k0, k1, k2, k3, k4, k5, k6, k7, k8, k9, k10, k11⟩ := h
  ⟨cl_alloc k0 o, cl_alloc k1 o, cl_alloc k2 o, cl_alloc k3 o, cl_alloc k4 o, cl_alloc k5 o, cl_alloc k6 o, cl_alloc k7 o, cl_alloc k8 o, cl_alloc k9 o, cl_alloc k10 o, cl_alloc k11 o⟩

theorem ppp_re {o : Obj} (h : (W.alloc o).cell? ⟨B0, 0, none⟩ = some v00 ∧ (W.alloc o).cell? ⟨B0, 1, none⟩ = some v01 ∧ (W.alloc o).cell? ⟨B0, 2, none⟩ = some v02 ∧ (W.alloc o).cell? ⟨B0, 3, none⟩ = some v03 ∧ (W.alloc o).cell? ⟨B1, 0, none⟩ = some v10 ∧ (W.alloc o).cell? ⟨B1, 1, none⟩ = some v11 ∧ (W.alloc o).cell? ⟨B1, 2, none⟩ = some v12 ∧ (W.alloc o).cell? ⟨B1, 3, none⟩ = some v13 ∧ (W.alloc o).cell? ⟨B2, 0, none⟩ = some v20 ∧ (W.alloc o).cell? ⟨B2, 1, none⟩ = some v21 ∧ (W.alloc o).cell? ⟨B2, 2, none⟩ = some v22 ∧ (W.alloc o).cell? ⟨B2, 3, none⟩ = some v23) (h0 : B0 < W.heap.size) (h1 : B1 < W.heap.size) (h2 : B2 < W.heap.size) (o2 : Obj) : (W.alloc o2).cell? ⟨B0, 0, none⟩ = some v00 ∧ (W.alloc o2).cell? ⟨B0, 1, none⟩ = some v01 ∧ (W.alloc o2).cell? ⟨B0, 2, none⟩ = some v02 ∧ (W.alloc o2).cell? ⟨B0, 3, none⟩ = some v03 ∧ (W.alloc o2).cell? ⟨B1, 0, none⟩ = some v10 ∧ (W.alloc o2).cell? ⟨B1, 1, none⟩ = some v11 ∧ (W.alloc o2).cell? ⟨B1, 2, none⟩ = some v12 ∧ (W.alloc o2).cell? ⟨B1, 3, none⟩ = some v13 ∧ (W.alloc o2).cell? ⟨B2, 0, none⟩ = some v20 ∧ (W.alloc o2).cell? ⟨B2, 1, none⟩ = some v21 ∧ (W.alloc o2).cell? ⟨B2, 2, none⟩ = some v22 ∧ (W.alloc o2).cell? ⟨B2, 3, none⟩ = some v23 :=
  let ⟨k0, k1, k2, k3, k4, k5, k6, k7, k8, k9, k10, k11⟩ := h
  ⟨cl_re k0 h0 o2, cl_re k1 h0 o2, cl_re k2 h0 o2, cl_re k3 h0 o2, cl_re k4 h1 o2, cl_re k5 h1 o2, cl_re k6 h1 o2, cl_re k7 h1 o2, cl_re k8 h2 o2, cl_re k9 h2 o2, cl_re k10 h2 o2, cl_re k11 h2 o2⟩

theorem ppp_drew (h : W.cell? ⟨B0, 0, none⟩ = some v00 ∧ W.cell? ⟨B0, 1, none⟩ = some v01 ∧ W.cell? ⟨B0, 2, none⟩ = some v02 ∧ W.cell? ⟨B0, 3, none⟩ = some v03 ∧ W.cell? ⟨B1, 0, none⟩ = some v10 ∧ W.cell? ⟨B1, 1, none⟩ = some v11 ∧ W.cell? ⟨B1, 2, none⟩ = some v12 ∧ W.cell? ⟨B1, 3, none⟩ = some v13 ∧ W.cell? ⟨B2, 0, none⟩ = some v20 ∧ W.cell? ⟨B2, 1, none⟩ = some v21 ∧ W.cell? ⟨B2, 2, none⟩ = some v22 ∧ W.cell? ⟨B2, 3, none⟩ = some v23) : W.drew.cell? ⟨B0, 0, none⟩ = some v00 ∧ W.drew.cell? ⟨B0, 1, none⟩ = some v01 ∧ W.drew.cell? ⟨B0, 2, none⟩ = some v02 ∧ W.drew.cell? ⟨B0, 3, none⟩ = some v03 ∧ W.drew.cell? ⟨B1, 0, none⟩ = some v10 ∧ W.drew.cell? ⟨B1, 1, none⟩ = some v11 ∧ W.drew.cell? ⟨B1, 2, none⟩ = some v12 ∧ W.drew.cell? ⟨B1, 3, none⟩ = some v13 ∧ W.drew.cell? ⟨B2, 0, none⟩ = some v20 ∧ W.drew.cell? ⟨B2, 1, none⟩ = some v21 ∧ W.drew.cell? ⟨B2, 2, none⟩ = some v22 ∧ W.drew.cell? ⟨B2, 3, none⟩ = some v23 := h

theorem ppp_undrew (h : W.drew.cell? ⟨B0, 0, none⟩ = some v00 ∧ W.drew.cell? ⟨B0, 1, none⟩ = some v01 ∧ W.drew.cell? ⟨B0, 2, none⟩ = some v02 ∧ W.drew.cell? ⟨B0, 3, none⟩ = some v03 ∧ W.drew.cell? ⟨B1, 0, none⟩ = some v10 ∧ W.drew.cell? ⟨B1, 1, none⟩ = some v11 ∧ W.drew.cell? ⟨B1, 2, none⟩ = some v12 ∧ W.drew.cell? ⟨B1, 3, none⟩ = some v13 ∧ W.drew.cell? ⟨B2, 0, none⟩ = some v20 ∧ W.drew.cell? ⟨B2, 1, none⟩ = some v21 ∧ W.drew.cell? ⟨B2, 2, none⟩ = some v22 ∧ W.drew.cell? ⟨B2, 3, none⟩ = some v23) : W.cell? ⟨B0, 0, none⟩ = some v00 ∧ W.cell? ⟨B0, 1, none⟩ = some v01 ∧ W.cell? ⟨B0, 2, none⟩ = some v02 ∧ W.cell? ⟨B0, 3, none⟩ = some v03 ∧ W.cell? ⟨B1, 0, none⟩ = some v10 ∧ W.cell? ⟨B1, 1, none⟩ = some v11 ∧ W.cell? ⟨B1, 2, none⟩ = some v12 ∧ W.cell? ⟨B1, 3, none⟩ = some v13 ∧ W.cell? ⟨B2, 0, none⟩ = some v20 ∧ W.cell? ⟨B2, 1, none⟩ = some v21 ∧ W.cell? ⟨B2, 2, none⟩ = some v22 ∧ W.cell? ⟨B2, 3, none⟩ = some v23 := h

theorem ppp_set (h : W.cell? ⟨B0, 0, none⟩ = some v00 ∧ W.cell? ⟨B0, 1, none⟩ = some v01 ∧ W.cell? ⟨B0, 2, none⟩ = some v02 ∧ W.cell? ⟨B0, 3, none⟩ = some v03 ∧ W.cell? ⟨B1, 0, none⟩ = some v10 ∧ W.cell? ⟨B1, 1, none⟩ = some v11 ∧ W.cell? ⟨B1, 2, none⟩ = some v12 ∧ W.cell? ⟨B1, 3, none⟩ = some v13 ∧ W.cell? ⟨B2, 0, none⟩ = some v20 ∧ W.cell? ⟨B2, 1, none⟩ = some v21 ∧ W.cell? ⟨B2, 2, none⟩ = some v22 ∧ W.cell? ⟨B2, 3, none⟩ = some v23) (p : Addr) (u : Value) (h0 : p.block ≠ B0) (h1 : p.block ≠ B1) (h2 : p.block ≠ B2) : (W.setCell p u).cell? ⟨B0, 0, none⟩ = some v00 ∧ (W.setCell p u).cell? ⟨B0, 1, none⟩ = some v01 ∧ (W.setCell p u).cell? ⟨B0, 2, none⟩ = some v02 ∧ (W.setCell p u).cell? ⟨B0, 3, none⟩ = some v03 ∧ (W.setCell p u).cell? ⟨B1, 0, none⟩ = some v10 ∧ (W.setCell p u).cell? ⟨B1, 1, none⟩ = some v11 ∧ (W.setCell p u).cell? ⟨B1, 2, none⟩ = some v12 ∧ (W.setCell p u).cell? ⟨B1, 3, none⟩ = some v13 ∧ (W.setCell p u).cell? ⟨B2, 0, none⟩ = some v20 ∧ (W.setCell p u).cell? ⟨B2, 1, none⟩ = some v21 ∧ (W.setCell p u).cell? ⟨B2, 2, none⟩ = some v22 ∧ (W.setCell p u).cell? ⟨B2, 3, none⟩ = some v23 :=
  let ⟨k0, k1, k2, k3, k4, k5, k6, k7, k8, k9, k10, k11⟩ := h
  ⟨cl_set k0 p u h0, cl_set k1 p u h0, cl_set k2 p u h0, cl_set k3 p u h0, cl_set k4 p u h1, cl_set k5 p u h1, cl_set k6 p u h1, cl_set k7 p u h1, cl_set k8 p u h2, cl_set k9 p u h2, cl_set k10 p u h2, cl_set k11 p u h2⟩
end

section
variable {B0 B1 : Nat} {v00 v01 v10 v11 : Value} {W w1 : World}
theorem ss_below (h : W.cell? ⟨B0, 0, none⟩ = some v00 ∧ W.cell? ⟨B0, 1, none⟩ = some v01 ∧ W.cell? ⟨B1, 0, none⟩ = some v10 ∧ W.cell? ⟨B1, 1, none⟩ = some v11) (h0 : B0 < W.heap.size) (h1 : B1 < W.heap.size) (hb : Below W.heap.size W w1) : w1.cell? ⟨B0, 0, none⟩ = some v00 ∧ w1.cell? ⟨B0, 1, none⟩ = some v01 ∧ w1.cell? ⟨B1, 0, none⟩ = some v10 ∧ w1.cell? ⟨B1, 1, none⟩ = some v11 :=
  let ⟨k0, k1, k2, k3⟩ := h
  ⟨cl_below k0 h0 hb, cl_below k1 h0 hb, cl_below k2 h1 hb, cl_below k3 h1 hb⟩

theorem ss_alloc (h : W.cell? ⟨B0, 0, none⟩ = some v00 ∧ W.cell? ⟨B0, 1, none⟩ = some v01 ∧ W.cell? ⟨B1, 0, none⟩ = some v10 ∧ W.cell? ⟨B1, 1, none⟩ = some v11) (o : Obj) : (W.alloc o).cell? ⟨B0, 0, none⟩ = some v00 ∧ (W.alloc o).cell? ⟨B0, 1, none⟩ = some v01 ∧ (W.alloc o).cell? ⟨B1, 0, none⟩ = some v10 ∧ (W.alloc o).cell? ⟨B1, 1, none⟩ = some v11 :=
  let ⟨k0, k1, k2, k3⟩ := h
  ⟨cl_alloc k0 o, cl_alloc k1 o, cl_alloc k2 o, cl_alloc k3 o⟩

theorem ss_re {o : Obj} (h : (W.alloc o).cell? ⟨B0, 0, none⟩ = some v00 ∧ (W.alloc o).cell? ⟨B0, 1, none⟩ = some v01 ∧ (W.alloc o).cell? ⟨B1, 0, none⟩ = some v10 ∧ (W.alloc o).cell? ⟨B1, 1, none⟩ = some v11) (h0 : B0 < W.heap.size) (h1 : B1 < W.heap.size) (o2 : Obj) : (W.alloc o2).cell? ⟨B0, 0, none⟩ = some v00 ∧ (W.alloc o2).cell? ⟨B0, 1, none⟩ = some v01 ∧ (W.alloc o2).cell? ⟨B1, 0, none⟩ = some v10 ∧ (W.alloc o2).cell? ⟨B1, 1, none⟩ = some v11 :=
  let ⟨k0, k1, k2, k3⟩ := h
  ⟨cl_re k0 h0 o2, cl_re k1 h0 o2, cl_re k2 h1 o2, cl_re k3 h1 o2⟩

theorem ss_drew (h : W.cell? ⟨B0, 0, none⟩ = some v00 ∧ W.cell? ⟨B0, 1, none⟩ = some v01 ∧ W.cell? ⟨B1, 0, none⟩ = some v10 ∧ W.cell? ⟨B1, 1, none⟩ = some v11) : W.drew.cell? ⟨B0, 0, none⟩ = some v00 ∧ W.drew.cell? ⟨B0, 1, none⟩ = some v01 ∧ W.drew.cell? ⟨B1, 0, none⟩ = some v10 ∧ W.drew.cell? ⟨B1, 1, none⟩ = some v11 := h

theorem ss_undrew (h : W.drew.cell? ⟨B0, 0, none⟩ = some v00 ∧ W.drew.cell? ⟨B0, 1, none⟩ = some v01 ∧ W.drew.cell? ⟨B1, 0, none⟩ = some v10 ∧ W.drew.cell? ⟨B1, 1, none⟩ = some v11) : W.cell? ⟨B0, 0, none⟩ = some v00 ∧ W.cell? ⟨B0, 1, none⟩ = some v01 ∧ W.cell? ⟨B1, 0, none⟩ = some v10 ∧ W.cell? ⟨B1, 1, none⟩ = some v11 := h

theorem ss_set (h : W.cell? ⟨B0, 0, none⟩ = some v00 ∧ W.cell? ⟨B0, 1, none⟩ = some v01 ∧ W.cell? ⟨B1, 0, none⟩ = some v10 ∧ W.cell? ⟨B1, 1, none⟩ = some v11) (p : Addr) (u : Value) (h0 : p.block ≠ B0) (h1 : p.block ≠ B1) : (W.setCell p u).cell? ⟨B0, 0, none⟩ = some v00 ∧ (W.setCell p u).cell? ⟨B0, 1, none⟩ = some v01 ∧ (W.setCell p u).cell? ⟨B1, 0, none⟩ = some v10 ∧ (W.setCell p u).cell? ⟨B1, 1, none⟩ = some v11 :=
  let ⟨k0, k1, k2, k3⟩ := h
  ⟨cl_set k0 p u h0, cl_set k1 p u h0, cl_set k2 p u h1, cl_set k3 p u h1⟩
end

section
variable {B0 B1 B2 : Nat} {v00 v01 v10 v11 v20 v21 : Value} {W w1 : World}
theorem sss_below (h : W.cell? ⟨B0, 0, none⟩ = some v00 ∧ W.cell? ⟨B0, 1, none⟩ = some v01 ∧ W.cell? ⟨B1, 0, none⟩ = some v10 ∧ W.cell? ⟨B1, 1, none⟩ = some v11 ∧ W.cell? ⟨B2, 0, none⟩ = some v20 ∧ W.cell? ⟨B2, 1, none⟩ = some v21) (h0 : B0 < W.heap.size) (h1 : B1 < W.heap.size) (h2 : B2 < W.heap.size) (hb : Below W.heap.size W w1) : w1.cell? ⟨B0, 0, none⟩ = some v00 ∧ w1.cell? ⟨B0, 1, none⟩ = some v01 ∧ w1.cell? ⟨B1, 0, none⟩ = some v10 ∧ w1.cell? ⟨B1, 1, none⟩ = some v11 ∧ w1.cell? ⟨B2, 0, none⟩ = some v20 ∧ w1.cell? ⟨B2, 1, none⟩ = some v21 :=
  let ⟨k0, k1, k2, k3, k4, k5⟩ := h
  ⟨cl_below k0 h0 hb, cl_below k1 h0 hb, cl_below k2 h1 hb, cl_below k3 h1 hb, cl_below k4 h2 hb, cl_below k5 h2 hb⟩

theorem sss_alloc (h : W.cell? ⟨B0, 0, none⟩ = some v00 ∧ W.cell? ⟨B0, 1, none⟩ = some v01 ∧ W.cell? ⟨B1, 0, none⟩ = some v10 ∧ W.cell? ⟨B1, 1, none⟩ = some v11 ∧ W.cell? ⟨B2, 0, none⟩ = some v20 ∧ W.cell? ⟨B2, 1, none⟩ = some v21) (o : Obj) : (W.alloc o).cell? ⟨B0, 0, none⟩ = some v00 ∧ (W.alloc o).cell? ⟨B0, 1, none⟩ = some v01 ∧ (W.alloc o).cell? ⟨B1, 0, none⟩ = some v10 ∧ (W.alloc o).cell? ⟨B1, 1, none⟩ = some v11 ∧ (W.alloc o).cell? ⟨B2, 0, none⟩ = some v20 ∧ (W.alloc o).cell? ⟨B2, 1, none⟩ = some v21 :=
  let ⟨k0, k1, k2, k3, k4, k5⟩ := h
  ⟨cl_alloc k0 o, cl_alloc k1 o, cl_alloc k2 o, cl_alloc k3 o, cl_alloc k4 o, cl_alloc k5 o⟩

theorem sss_re {o : Obj} (h : (W.alloc o).cell? ⟨B0, 0, none⟩ = some v00 ∧ (W.alloc o).cell? ⟨B0, 1, none⟩ = some v01 ∧ (W.alloc o).cell? ⟨B1, 0, none⟩ = some v10 ∧ (W.alloc o).cell? ⟨B1, 1, none⟩ = some v11 ∧ (W.alloc o).cell? ⟨B2, 0, none⟩ = some v20 ∧ (W.alloc o).cell? ⟨B2, 1, none⟩ = some v21) (h0 : B0 < W.heap.size) (h1 : B1 < W.heap.size) (h2 : B2 < W.heap.size) (o2 : Obj) : (W.alloc o2).cell? ⟨B0, 0, none⟩ = some v00 ∧ (W.alloc o2).cell? ⟨B0, 1, none⟩ = some v01 ∧ (W.alloc o2).cell? ⟨B1, 0, none⟩ = some v10 ∧ (W.alloc o2).cell? ⟨B1, 1, none⟩ = some v11 ∧ (W.alloc o2).cell? ⟨B2, 0, none⟩ = some v20 ∧ (W.alloc o2).cell? ⟨B2, 1, none⟩ = some v21 :=
  let ⟨k0, k1, k2, k3, k4, k5⟩ := h
  ⟨cl_re k0 h0 o2, cl_re k1 h0 o2, cl_re k2 h1 o2, cl_re k3 h1 o2, cl_re k4 h2 o2, cl_re k5 h2 o2⟩

theorem sss_drew (h : W.cell? ⟨B0, 0, none⟩ = some v00 ∧ W.cell? ⟨B0, 1, none⟩ = some v01 ∧ W.cell? ⟨B1, 0, none⟩ = some v10 ∧ W.cell? ⟨B1, 1, none⟩ = some v11 ∧ W.cell? ⟨B2, 0, none⟩ = some v20 ∧ W.cell? ⟨B2, 1, none⟩ = some v21) : W.drew.cell? ⟨B0, 0, none⟩ = some v00 ∧ W.drew.cell? ⟨B0, 1, none⟩ = some v01 ∧ W.drew.cell? ⟨B1, 0, none⟩ = some v10 ∧ W.drew.cell? ⟨B1, 1, none⟩ = some v11 ∧ W.drew.cell? ⟨B2, 0, none⟩ = some v20 ∧ W.drew.cell? ⟨B2, 1, none⟩ = some v21 := h

theorem sss_undrew (h : W.drew.cell? ⟨B0, 0, none⟩ = some v00 ∧ W.drew.cell? ⟨B0, 1, none⟩ = some v01 ∧ W.drew.cell? ⟨B1, 0, none⟩ = some v10 ∧ W.drew.cell? ⟨B1, 1, none⟩ = some v11 ∧ W.drew.cell? ⟨B2, 0, none⟩ = some v20 ∧ W.drew.cell? ⟨B2, 1, none⟩ = some v21) : W.cell? ⟨B0, 0, none⟩ = some v00 ∧ W.cell? ⟨B0, 1, none⟩ = some v01 ∧ W.cell? ⟨B1, 0, none⟩ = some v10 ∧ W.cell? ⟨B1, 1, none⟩ = some v11 ∧ W.cell? ⟨B2, 0, none⟩ = some v20 ∧ W.cell? ⟨B2, 1, none⟩ = some v21 := h

theorem sss_set (h : W.cell? ⟨B0, 0, none⟩ = some v00 ∧ W.cell? ⟨B0, 1, none⟩ = some v01 ∧ W.cell? ⟨B1, 0, none⟩ = some v10 ∧ W.cell? ⟨B1, 1, none⟩ = some v11 ∧ W.cell? ⟨B2, 0, none⟩ = some v20 ∧ W.cell? ⟨B2, 1, none⟩ = some v21) (p : Addr) (u : Value) (h0 : p.block ≠ B0) (h1 : p.block ≠ B1) (h2 : p.block ≠ B2) : (W.setCell p u).cell? ⟨B0, 0, none⟩ = some v00 ∧ (W.setCell p u).cell? ⟨B0, 1, none⟩ = some v01 ∧ (W.setCell p u).cell? ⟨B1, 0, none⟩ = some v10 ∧ (W.setCell p u).cell? ⟨B1, 1, none⟩ = some v11 ∧ (W.setCell p u).cell? ⟨B2, 0, none⟩ = some v20 ∧ (W.setCell p u).cell? ⟨B2, 1, none⟩ = some v21 :=
  let ⟨k0, k1, k2, k3, k4, k5⟩ := h
  ⟨cl_set k0 p u h0, cl_set k1 p u h0, cl_set k2 p u h1, cl_set k3 p u h1, cl_set k4 p u h2, cl_set k5 p u h2⟩
end

theorem p_below {n : Nat} {v0 v1 v2 v3 : Value} {W w1 : World} (h : W.cell? ⟨n, 0, none⟩ = some v0 ∧ W.cell? ⟨n, 1, none⟩ = some v1 ∧ W.cell? ⟨n, 2, none⟩ = some v2 ∧ W.cell? ⟨n, 3, none⟩ = some v3) (hn : n < W.heap.size) (hb : Below W.heap.size W w1) :
    w1.cell? ⟨n, 0, none⟩ = some v0 ∧ w1.cell? ⟨n, 1, none⟩ = some v1 ∧ w1.cell? ⟨n, 2, none⟩ = some v2 ∧ w1.cell? ⟨n, 3, none⟩ = some v3 :=
  ⟨cl_below h.1 hn hb, cl_below h.2.1 hn hb, cl_below h.2.2.1 hn hb, cl_below h.2.2.2 hn hb⟩

theorem p_drew {n : Nat} {v0 v1 v2 v3 : Value} {W : World} (h : W.cell? ⟨n, 0, none⟩ = some v0 ∧ W.cell? ⟨n, 1, none⟩ = some v1 ∧ W.cell? ⟨n, 2, none⟩ = some v2 ∧ W.cell? ⟨n, 3, none⟩ = some v3) :
    W.drew.cell? ⟨n, 0, none⟩ = some v0 ∧ W.drew.cell? ⟨n, 1, none⟩ = some v1 ∧ W.drew.cell? ⟨n, 2, none⟩ = some v2 ∧ W.drew.cell? ⟨n, 3, none⟩ = some v3 := h
section
variable {B0 : Nat} {v00 v01 v02 v03 : Value} {W w1 : World}

theorem po_below (h : W.cell? ⟨B0, 0, none⟩ = some v00 ∧ W.cell? ⟨B0, 1, none⟩ = some v01 ∧ W.cell? ⟨B0, 2, none⟩ = some v02 ∧ W.cell? ⟨B0, 3, none⟩ = some v03) (h0 : B0 < W.heap.size) (hb : Below W.heap.size W w1) : w1.cell? ⟨B0, 0, none⟩ = some v00 ∧ w1.cell? ⟨B0, 1, none⟩ = some v01 ∧ w1.cell? ⟨B0, 2, none⟩ = some v02 ∧ w1.cell? ⟨B0, 3, none⟩ = some v03 :=
  let ⟨k0, k1, k2, k3⟩ := h
  ⟨cl_below k0 h0 hb, cl_below k1 h0 hb, cl_below k2 h0 hb, cl_below k3 h0 hb⟩

theorem po_alloc (h : W.cell? ⟨B0, 0, none⟩ = some v00 ∧ W.cell? ⟨B0, 1, none⟩ = some v01 ∧ W.cell? ⟨B0, 2, none⟩ = some v02 ∧ W.cell? ⟨B0, 3, none⟩ = some v03) (o : Obj) : (W.alloc o).cell? ⟨B0, 0, none⟩ = some v00 ∧ (W.alloc o).cell? ⟨B0, 1, none⟩ = some v01 ∧ (W.alloc o).cell? ⟨B0, 2, none⟩ = some v02 ∧ (W.alloc o).cell? ⟨B0, 3, none⟩ = some v03 :=
  let ⟨k0, k1, k2, k3⟩ := h
  ⟨cl_alloc k0 o, cl_alloc k1 o, cl_alloc k2 o, cl_alloc k3 o⟩

theorem po_re {o : Obj} (h : (W.alloc o).cell? ⟨B0, 0, none⟩ = some v00 ∧ (W.alloc o).cell? ⟨B0, 1, none⟩ = some v01 ∧ (W.alloc o).cell? ⟨B0, 2, none⟩ = some v02 ∧ (W.alloc o).cell? ⟨B0, 3, none⟩ = some v03) (h0 : B0 < W.heap.size) (o2 : Obj) : (W.alloc o2).cell? ⟨B0, 0, none⟩ = some v00 ∧ (W.alloc o2).cell? ⟨B0, 1, none⟩ = some v01 ∧ (W.alloc o2).cell? ⟨B0, 2, none⟩ = some v02 ∧ (W.alloc o2).cell? ⟨B0, 3, none⟩ = some v03 :=
  let ⟨k0, k1, k2, k3⟩ := h
  ⟨cl_re k0 h0 o2, cl_re k1 h0 o2, cl_re k2 h0 o2, cl_re k3 h0 o2⟩

theorem po_drew (h : W.cell? ⟨B0, 0, none⟩ = some v00 ∧ W.cell? ⟨B0, 1, none⟩ = some v01 ∧ W.cell? ⟨B0, 2, none⟩ = some v02 ∧ W.cell? ⟨B0, 3, none⟩ = some v03) : W.drew.cell? ⟨B0, 0, none⟩ = some v00 ∧ W.drew.cell? ⟨B0, 1, none⟩ = some v01 ∧ W.drew.cell? ⟨B0, 2, none⟩ = some v02 ∧ W.drew.cell? ⟨B0, 3, none⟩ = some v03 := h

theorem po_undrew (h : W.drew.cell? ⟨B0, 0, none⟩ = some v00 ∧ W.drew.cell? ⟨B0, 1, none⟩ = some v01 ∧ W.drew.cell? ⟨B0, 2, none⟩ = some v02 ∧ W.drew.cell? ⟨B0, 3, none⟩ = some v03) : W.cell? ⟨B0, 0, none⟩ = some v00 ∧ W.cell? ⟨B0, 1, none⟩ = some v01 ∧ W.cell? ⟨B0, 2, none⟩ = some v02 ∧ W.cell? ⟨B0, 3, none⟩ = some v03 := h

theorem po_set (h : W.cell? ⟨B0, 0, none⟩ = some v00 ∧ W.cell? ⟨B0, 1, none⟩ = some v01 ∧ W.cell? ⟨B0, 2, none⟩ = some v02 ∧ W.cell? ⟨B0, 3, none⟩ = some v03) (p : Addr) (u : Value) (h0 : p.block ≠ B0) : (W.setCell p u).cell? ⟨B0, 0, none⟩ = some v00 ∧ (W.setCell p u).cell? ⟨B0, 1, none⟩ = some v01 ∧ (W.setCell p u).cell? ⟨B0, 2, none⟩ = some v02 ∧ (W.setCell p u).cell? ⟨B0, 3, none⟩ = some v03 :=
  let ⟨k0, k1, k2, k3⟩ := h
  ⟨cl_set k0 p u h0, cl_set k1 p u h0, cl_set k2 p u h0, cl_set k3 p u h0⟩
end

theorem po_start (a0 a1 a2 a3 : Int) (w : World) (t : TypeId) : (w.alloc (.cells #[.int .i64 a0, .int .i64 a1, .int .i64 a2, .int .i64 a3] t)).cell? ⟨w.heap.size, 0, none⟩ = some (.int .i64 a0) ∧ (w.alloc (.cells #[.int .i64 a0, .int .i64 a1, .int .i64 a2, .int .i64 a3] t)).cell? ⟨w.heap.size, 1, none⟩ = some (.int .i64 a1) ∧ (w.alloc (.cells #[.int .i64 a0, .int .i64 a1, .int .i64 a2, .int .i64 a3] t)).cell? ⟨w.heap.size, 2, none⟩ = some (.int .i64 a2) ∧ (w.alloc (.cells #[.int .i64 a0, .int .i64 a1, .int .i64 a2, .int .i64 a3] t)).cell? ⟨w.heap.size, 3, none⟩ = some (.int .i64 a3) := by
  refine ⟨?_, ?_, ?_, ?_⟩ <;> go_simp

theorem ss_start (s0 s1 t0 t1 : Int) (w : World) (t s : TypeId) : ((w.alloc (.cells #[.int .i64 s0, .int .i64 s1] t)).alloc (.cells #[.int .i64 t0, .int .i64 t1] s)).cell? ⟨w.heap.size, 0, none⟩ = some (.int .i64 s0) ∧ ((w.alloc (.cells #[.int .i64 s0, .int .i64 s1] t)).alloc (.cells #[.int .i64 t0, .int .i64 t1] s)).cell? ⟨w.heap.size, 1, none⟩ = some (.int .i64 s1) ∧
    ((w.alloc (.cells #[.int .i64 s0, .int .i64 s1] t)).alloc (.cells #[.int .i64 t0, .int .i64 t1] s)).cell? ⟨w.heap.size + 1, 0, none⟩ = some (.int .i64 t0) ∧ ((w.alloc (.cells #[.int .i64 s0, .int .i64 s1] t)).alloc (.cells #[.int .i64 t0, .int .i64 t1] s)).cell? ⟨w.heap.size + 1, 1, none⟩ = some (.int .i64 t1) := by
  refine ⟨?_, ?_, ?_, ?_⟩ <;> go_simp

theorem pp_start (a0 a1 a2 a3 : Int) (b0 b1 b2 b3 : Int) (w : World) (t s : TypeId) : ((w.alloc (.cells #[.int .i64 a0, .int .i64 a1, .int .i64 a2, .int .i64 a3] t)).alloc (.cells #[.int .i64 b0, .int .i64 b1, .int .i64 b2, .int .i64 b3] s)).cell? ⟨w.heap.size, 0, none⟩ = some (.int .i64 a0) ∧ ((w.alloc (.cells #[.int .i64 a0, .int .i64 a1, .int .i64 a2, .int .i64 a3] t)).alloc (.cells #[.int .i64 b0, .int .i64 b1, .int .i64 b2, .int .i64 b3] s)).cell? ⟨w.heap.size, 1, none⟩ = some (.int .i64 a1) ∧ ((w.alloc (.cells #[.int .i64 a0, .int .i64 a1, .int .i64 a2, .int .i64 a3] t)).alloc (.cells #[.int .i64 b0, .int .i64 b1, .int .i64 b2, .int .i64 b3] s)).cell? ⟨w.heap.size, 2, none⟩ = some (.int .i64 a2) ∧ ((w.alloc (.cells #[.int .i64 a0, .int .i64 a1, .int .i64 a2, .int .i64 a3] t)).alloc (.cells #[.int .i64 b0, .int .i64 b1, .int .i64 b2, .int .i64 b3] s)).cell? ⟨w.heap.size, 3, none⟩ = some (.int .i64 a3) ∧ ((w.alloc (.cells #[.int .i64 a0, .int .i64 a1, .int .i64 a2, .int .i64 a3] t)).alloc (.cells #[.int .i64 b0, .int .i64 b1, .int .i64 b2, .int .i64 b3] s)).cell? ⟨w.heap.size + 1, 0, none⟩ = some (.int .i64 b0) ∧ ((w.alloc (.cells #[.int .i64 a0, .int .i64 a1, .int .i64 a2, .int .i64 a3] t)).alloc (.cells #[.int .i64 b0, .int .i64 b1, .int .i64 b2, .int .i64 b3] s)).cell? ⟨w.heap.size + 1, 1, none⟩ = some (.int .i64 b1) ∧ ((w.alloc (.cells #[.int .i64 a0, .int .i64 a1, .int .i64 a2, .int .i64 a3] t)).alloc (.cells #[.int .i64 b0, .int .i64 b1, .int .i64 b2, .int .i64 b3] s)).cell? ⟨w.heap.size + 1, 2, none⟩ = some (.int .i64 b2) ∧ ((w.alloc (.cells #[.int .i64 a0, .int .i64 a1, .int .i64 a2, .int .i64 a3] t)).alloc (.cells #[.int .i64 b0, .int .i64 b1, .int .i64 b2, .int .i64 b3] s)).cell? ⟨w.heap.size + 1, 3, none⟩ = some (.int .i64 b3) := by
  refine ⟨?_, ?_, ?_, ?_, ?_, ?_, ?_, ?_⟩ <;> go_simp

end Go.Proofs.Ytoenkgenoloihab

/- Contracts: TurnPoint, in the model and in the program. -/
namespace Go.Proofs.Ytoenkgenoloihab
open Go.ChangeShapes Go.WideShapes Go.ChangeAt Go.RowKit

def tuG (a0 a1 a2 a3 : Int) (k : Int) : Bool := goodB a0 a1 a2 a3 && inB k 0 7

theorem tu_bd0 (k : Int) (h0 : 0 ≤ k) (h7 : k ≤ 7) : -999999 ≤ tu0 k 1 0 0 0 ∧ tu0 k 1 0 0 0 ≤ 999999 := by
  rcases eight k h0 h7 with rfl | rfl | rfl | rfl | rfl | rfl | rfl | rfl <;> simp [tu0]

theorem tm_tu0 (a0 a1 a2 a3 : Int) (k : Int) (h0 : 0 ≤ k) (h7 : k ≤ 7) : tm0 a0 a1 a2 a3 (tu0 k 1 0 0 0) (tu1 k 1 0 0 0) (tu2 k 1 0 0 0) (tu3 k 1 0 0 0) = tu0 k a0 a1 a2 a3 := by
  rcases eight k h0 h7 with rfl | rfl | rfl | rfl | rfl | rfl | rfl | rfl <;> simp [tm0, tu0, tu1, tu2, tu3]

theorem tu_bd1 (k : Int) (h0 : 0 ≤ k) (h7 : k ≤ 7) : -999999 ≤ tu1 k 1 0 0 0 ∧ tu1 k 1 0 0 0 ≤ 999999 := by
  rcases eight k h0 h7 with rfl | rfl | rfl | rfl | rfl | rfl | rfl | rfl <;> simp [tu1]

theorem tm_tu1 (a0 a1 a2 a3 : Int) (k : Int) (h0 : 0 ≤ k) (h7 : k ≤ 7) : tm1 a0 a1 a2 a3 (tu0 k 1 0 0 0) (tu1 k 1 0 0 0) (tu2 k 1 0 0 0) (tu3 k 1 0 0 0) = tu1 k a0 a1 a2 a3 := by
  rcases eight k h0 h7 with rfl | rfl | rfl | rfl | rfl | rfl | rfl | rfl <;> simp [tm1, tu0, tu1, tu2, tu3]

theorem tu_bd2 (k : Int) (h0 : 0 ≤ k) (h7 : k ≤ 7) : -999999 ≤ tu2 k 1 0 0 0 ∧ tu2 k 1 0 0 0 ≤ 999999 := by
  rcases eight k h0 h7 with rfl | rfl | rfl | rfl | rfl | rfl | rfl | rfl <;> simp [tu2]

theorem tm_tu2 (a0 a1 a2 a3 : Int) (k : Int) (h0 : 0 ≤ k) (h7 : k ≤ 7) : tm2 a0 a1 a2 a3 (tu0 k 1 0 0 0) (tu1 k 1 0 0 0) (tu2 k 1 0 0 0) (tu3 k 1 0 0 0) = tu2 k a0 a1 a2 a3 := by
  rcases eight k h0 h7 with rfl | rfl | rfl | rfl | rfl | rfl | rfl | rfl <;> simp [tm2, tu0, tu1, tu2, tu3]

theorem tu_bd3 (k : Int) (h0 : 0 ≤ k) (h7 : k ≤ 7) : -999999 ≤ tu3 k 1 0 0 0 ∧ tu3 k 1 0 0 0 ≤ 999999 := by
  rcases eight k h0 h7 with rfl | rfl | rfl | rfl | rfl | rfl | rfl | rfl <;> simp [tu3]

theorem tm_tu3 (a0 a1 a2 a3 : Int) (k : Int) (h0 : 0 ≤ k) (h7 : k ≤ 7) : tm3 a0 a1 a2 a3 (tu0 k 1 0 0 0) (tu1 k 1 0 0 0) (tu2 k 1 0 0 0) (tu3 k 1 0 0 0) = tu3 k a0 a1 a2 a3 := by
  rcases eight k h0 h7 with rfl | rfl | rfl | rfl | rfl | rfl | rfl | rfl <;> simp [tm3, tu0, tu1, tu2, tu3]

end Go.Proofs.Ytoenkgenoloihab

/- Steps along a track: where each piece leads. -/
namespace Go.Proofs.Ytoenkgenoloihab

structure Sp where
  x0 : Int
  x1 : Int
  x2 : Int
  x3 : Int
  h : Int

def Sp.cells (s : Sp) : List Value := [.int .i64 s.x0, .int .i64 s.x1, .int .i64 s.x2, .int .i64 s.x3, .int .i64 s.h]

def Sp.ptc (s : Sp) : List Value := [.int .i64 s.x0, .int .i64 s.x1, .int .i64 s.x2, .int .i64 s.x3]

theorem Sp.cells_length (s : Sp) : s.cells.length = 5 := rfl

theorem Sp.ptc_length (s : Sp) : s.ptc.length = 4 := rfl

def dd0 (c : UInt8) (h : Int) : Int := if c == 76 then tu0 ((h + 7) % 8) 1 0 0 0 - tu0 ((h + 6) % 8) 1 0 0 0 else if c == 82 then tu0 ((h + 1) % 8) 1 0 0 0 - tu0 ((h + 2) % 8) 1 0 0 0 else tu0 h 1 0 0 0

def dd1 (c : UInt8) (h : Int) : Int := if c == 76 then tu1 ((h + 7) % 8) 1 0 0 0 - tu1 ((h + 6) % 8) 1 0 0 0 else if c == 82 then tu1 ((h + 1) % 8) 1 0 0 0 - tu1 ((h + 2) % 8) 1 0 0 0 else tu1 h 1 0 0 0

def dd2 (c : UInt8) (h : Int) : Int := if c == 76 then tu2 ((h + 7) % 8) 1 0 0 0 - tu2 ((h + 6) % 8) 1 0 0 0 else if c == 82 then tu2 ((h + 1) % 8) 1 0 0 0 - tu2 ((h + 2) % 8) 1 0 0 0 else tu2 h 1 0 0 0

def dd3 (c : UInt8) (h : Int) : Int := if c == 76 then tu3 ((h + 7) % 8) 1 0 0 0 - tu3 ((h + 6) % 8) 1 0 0 0 else if c == 82 then tu3 ((h + 1) % 8) 1 0 0 0 - tu3 ((h + 2) % 8) 1 0 0 0 else tu3 h 1 0 0 0

def nh (c : UInt8) (h : Int) : Int := if c == 76 then (h + 1) % 8 else if c == 82 then (h + 7) % 8 else h

def Sp.next (s : Sp) (c : UInt8) : Sp := ⟨s.x0 + dd0 c s.h, s.x1 + dd1 c s.h, s.x2 + dd2 c s.h, s.x3 + dd3 c s.h, nh c s.h⟩

/-- The last step behind the pieces l. -/
def fin (s : Sp) (l : List UInt8) : Sp := l.foldl Sp.next s

/-- The steps before and behind each piece. -/
def lays : Sp → List UInt8 → List Sp
  | s, [] => [s]
  | s, c :: l => s :: lays (s.next c) l

theorem fin_snoc (s : Sp) (l : List UInt8) (c : UInt8) : fin s (l ++ [c]) = (fin s l).next c := by simp [fin, List.foldl_append]

theorem lays_snoc (s : Sp) (l : List UInt8) (c : UInt8) : lays s (l ++ [c]) = lays s l ++ [(fin s l).next c] := by
  induction l generalizing s with
  | nil => rfl
  | cons d l ih => simp [lays, ih, fin]

theorem lays_length (s : Sp) (l : List UInt8) : (lays s l).length = l.length + 1 := by
  induction l generalizing s with
  | nil => rfl
  | cons d l ih => simp [lays, ih]

theorem lays_last (s : Sp) (l : List UInt8) : (lays s l)[l.length]? = some (fin s l) := by
  induction l generalizing s with
  | nil => rfl
  | cons d l ih => simp [lays, ih, fin]

theorem tu_one0 (k : Int) : -1 ≤ tu0 k 1 0 0 0 ∧ tu0 k 1 0 0 0 ≤ 1 := by unfold tu0; repeat' split <;> omega

theorem tu_one1 (k : Int) : -1 ≤ tu1 k 1 0 0 0 ∧ tu1 k 1 0 0 0 ≤ 1 := by unfold tu1; repeat' split <;> omega

theorem tu_one2 (k : Int) : -1 ≤ tu2 k 1 0 0 0 ∧ tu2 k 1 0 0 0 ≤ 1 := by unfold tu2; repeat' split <;> omega

theorem tu_one3 (k : Int) : -1 ≤ tu3 k 1 0 0 0 ∧ tu3 k 1 0 0 0 ≤ 1 := by unfold tu3; repeat' split <;> omega

theorem dd_bd0 (c : UInt8) (h : Int) : -2 ≤ dd0 c h ∧ dd0 c h ≤ 2 := by
  have a := tu_one0 ((h + 7) % 8); have b := tu_one0 ((h + 6) % 8); have d := tu_one0 ((h + 1) % 8); have e := tu_one0 ((h + 2) % 8); have f := tu_one0 h
  unfold dd0; repeat' split <;> omega

theorem dd_bd1 (c : UInt8) (h : Int) : -2 ≤ dd1 c h ∧ dd1 c h ≤ 2 := by
  have a := tu_one1 ((h + 7) % 8); have b := tu_one1 ((h + 6) % 8); have d := tu_one1 ((h + 1) % 8); have e := tu_one1 ((h + 2) % 8); have f := tu_one1 h
  unfold dd1; repeat' split <;> omega

theorem dd_bd2 (c : UInt8) (h : Int) : -2 ≤ dd2 c h ∧ dd2 c h ≤ 2 := by
  have a := tu_one2 ((h + 7) % 8); have b := tu_one2 ((h + 6) % 8); have d := tu_one2 ((h + 1) % 8); have e := tu_one2 ((h + 2) % 8); have f := tu_one2 h
  unfold dd2; repeat' split <;> omega

theorem dd_bd3 (c : UInt8) (h : Int) : -2 ≤ dd3 c h ∧ dd3 c h ≤ 2 := by
  have a := tu_one3 ((h + 7) % 8); have b := tu_one3 ((h + 6) % 8); have d := tu_one3 ((h + 1) % 8); have e := tu_one3 ((h + 2) % 8); have f := tu_one3 h
  unfold dd3; repeat' split <;> omega

theorem nh_bd (c : UInt8) (h : Int) (h0 : 0 ≤ h) (h7 : h ≤ 7) : 0 ≤ nh c h ∧ nh c h ≤ 7 := by unfold nh; repeat' split <;> omega

/-- A step whose numbers are no more than n in size, with a heading. -/
def Sp.okB (s : Sp) (n : Int) : Prop := (-n ≤ s.x0 ∧ s.x0 ≤ n) ∧ (-n ≤ s.x1 ∧ s.x1 ≤ n) ∧ (-n ≤ s.x2 ∧ s.x2 ≤ n) ∧ (-n ≤ s.x3 ∧ s.x3 ≤ n) ∧ 0 ≤ s.h ∧ s.h ≤ 7

theorem Sp.okB.next {s : Sp} {n : Int} (h : s.okB n) (c : UInt8) : (s.next c).okB (n + 2) := by
  obtain ⟨h0, h1, h2, h3, h4, h5⟩ := h
  have d0 := dd_bd0 c s.h; have d1 := dd_bd1 c s.h; have d2 := dd_bd2 c s.h; have d3 := dd_bd3 c s.h
  have d4 := nh_bd c s.h h4 h5
  simp only [Sp.okB, Sp.next]
  omega

theorem Sp.okB.mono {s : Sp} {n m : Int} (h : s.okB n) (hm : n ≤ m) : s.okB m := by
  obtain ⟨h0, h1, h2, h3, h4, h5⟩ := h
  simp only [Sp.okB]
  omega

theorem fin_ok {s : Sp} {n : Int} (h : s.okB n) (l : List UInt8) : (fin s l).okB (n + 2 * l.length) := by
  induction l generalizing s n with
  | nil => simpa [fin] using h
  | cons c l ih =>
    have := ih (h.next c)
    simp only [fin, List.foldl_cons, List.length_cons] at this ⊢
    exact this.mono (by omega)

def sp0 : Sp := ⟨0, 0, 0, 0, 0⟩

theorem sp0_ok : sp0.okB 0 := by simp [Sp.okB, sp0]

/-- All cells of a list of steps, one after the other. -/
def spCells (l : List Sp) : List Value := (l.map Sp.cells).flatten

def ptCells (l : List Sp) : List Value := (l.map Sp.ptc).flatten

theorem spCells_length (l : List Sp) : (spCells l).length = 5 * l.length := by
  induction l with
  | nil => rfl
  | cons a l ih => simp only [spCells, List.map_cons, List.flatten_cons, List.length_append, Sp.cells_length, List.length_cons] at ih ⊢; omega

theorem ptCells_length (l : List Sp) : (ptCells l).length = 4 * l.length := by
  induction l with
  | nil => rfl
  | cons a l ih => simp only [ptCells, List.map_cons, List.flatten_cons, List.length_append, Sp.ptc_length, List.length_cons] at ih ⊢; omega

theorem spCells_append (l m : List Sp) : spCells (l ++ m) = spCells l ++ spCells m := by simp [spCells]

theorem ptCells_append (l m : List Sp) : ptCells (l ++ m) = ptCells l ++ ptCells m := by simp [ptCells]

theorem spCells_at (l : List Sp) {i : Nat} {s : Sp} (h : l[i]? = some s) (j : Nat) (hj : j < 5) : (spCells l)[5 * i + j]? = s.cells[j]? := by
  induction l generalizing i with
  | nil => simp at h
  | cons a l ih =>
    have e : spCells (a :: l) = a.cells ++ spCells l := by simp [spCells]
    rw [e]
    cases i with
    | zero =>
      simp at h; subst h
      rw [List.getElem?_append_left (by rw [Sp.cells_length]; omega)]
      simp
    | succ i =>
      simp at h
      rw [List.getElem?_append_right (by rw [Sp.cells_length]; omega), Sp.cells_length, ← ih h]
      congr 1
      omega

theorem ptCells_at (l : List Sp) {i : Nat} {s : Sp} (h : l[i]? = some s) (j : Nat) (hj : j < 4) : (ptCells l)[4 * i + j]? = s.ptc[j]? := by
  induction l generalizing i with
  | nil => simp at h
  | cons a l ih =>
    have e : ptCells (a :: l) = a.ptc ++ ptCells l := by simp [ptCells]
    rw [e]
    cases i with
    | zero =>
      simp at h; subst h
      rw [List.getElem?_append_left (by rw [Sp.ptc_length]; omega)]
      simp
    | succ i =>
      simp at h
      rw [List.getElem?_append_right (by rw [Sp.ptc_length]; omega), Sp.ptc_length, ← ih h]
      congr 1
      omega

theorem spCells_one (l : List Sp) : ∀ u ∈ spCells l, u.oneCell' = true := by
  intro u hu
  simp only [spCells, List.mem_flatten, List.mem_map] at hu
  obtain ⟨_, ⟨s, _, rfl⟩, hu⟩ := hu
  simp only [Sp.cells, List.mem_cons, List.not_mem_nil, or_false] at hu
  rcases hu with rfl | rfl | rfl | rfl | rfl <;> rfl

theorem ptCells_one (l : List Sp) : ∀ u ∈ ptCells l, u.oneCell' = true := by
  intro u hu
  simp only [ptCells, List.mem_flatten, List.mem_map] at hu
  obtain ⟨_, ⟨s, _, rfl⟩, hu⟩ := hu
  simp only [Sp.ptc, List.mem_cons, List.not_mem_nil, or_false] at hu
  rcases hu with rfl | rfl | rfl | rfl <;> rfl

end Go.Proofs.Ytoenkgenoloihab

/- A track laid from a point with a heading: turned and moved. -/
namespace Go.Proofs.Ytoenkgenoloihab

theorem tS0 (k h : Int) (k0 : 0 ≤ k) (k7 : k ≤ 7) (h0 : 0 ≤ h) (h7 : h ≤ 7) : tu0 ((k + h) % 8) 1 0 0 0 = tu0 k (tu0 h 1 0 0 0) (tu1 h 1 0 0 0) (tu2 h 1 0 0 0) (tu3 h 1 0 0 0) := by
  rcases eight k k0 k7 with rfl | rfl | rfl | rfl | rfl | rfl | rfl | rfl <;> rcases eight h h0 h7 with rfl | rfl | rfl | rfl | rfl | rfl | rfl | rfl <;> decide

theorem tS1 (k h : Int) (k0 : 0 ≤ k) (k7 : k ≤ 7) (h0 : 0 ≤ h) (h7 : h ≤ 7) : tu1 ((k + h) % 8) 1 0 0 0 = tu1 k (tu0 h 1 0 0 0) (tu1 h 1 0 0 0) (tu2 h 1 0 0 0) (tu3 h 1 0 0 0) := by
  rcases eight k k0 k7 with rfl | rfl | rfl | rfl | rfl | rfl | rfl | rfl <;> rcases eight h h0 h7 with rfl | rfl | rfl | rfl | rfl | rfl | rfl | rfl <;> decide

theorem tS2 (k h : Int) (k0 : 0 ≤ k) (k7 : k ≤ 7) (h0 : 0 ≤ h) (h7 : h ≤ 7) : tu2 ((k + h) % 8) 1 0 0 0 = tu2 k (tu0 h 1 0 0 0) (tu1 h 1 0 0 0) (tu2 h 1 0 0 0) (tu3 h 1 0 0 0) := by
  rcases eight k k0 k7 with rfl | rfl | rfl | rfl | rfl | rfl | rfl | rfl <;> rcases eight h h0 h7 with rfl | rfl | rfl | rfl | rfl | rfl | rfl | rfl <;> decide

theorem tS3 (k h : Int) (k0 : 0 ≤ k) (k7 : k ≤ 7) (h0 : 0 ≤ h) (h7 : h ≤ 7) : tu3 ((k + h) % 8) 1 0 0 0 = tu3 k (tu0 h 1 0 0 0) (tu1 h 1 0 0 0) (tu2 h 1 0 0 0) (tu3 h 1 0 0 0) := by
  rcases eight k k0 k7 with rfl | rfl | rfl | rfl | rfl | rfl | rfl | rfl <;> rcases eight h h0 h7 with rfl | rfl | rfl | rfl | rfl | rfl | rfl | rfl <;> decide

theorem tuA0 (k a0 a1 a2 a3 b0 b1 b2 b3 : Int) : tu0 k (a0 + b0) (a1 + b1) (a2 + b2) (a3 + b3) = tu0 k a0 a1 a2 a3 + tu0 k b0 b1 b2 b3 := by unfold tu0; repeat' split <;> omega

theorem tuA1 (k a0 a1 a2 a3 b0 b1 b2 b3 : Int) : tu1 k (a0 + b0) (a1 + b1) (a2 + b2) (a3 + b3) = tu1 k a0 a1 a2 a3 + tu1 k b0 b1 b2 b3 := by unfold tu1; repeat' split <;> omega

theorem tuA2 (k a0 a1 a2 a3 b0 b1 b2 b3 : Int) : tu2 k (a0 + b0) (a1 + b1) (a2 + b2) (a3 + b3) = tu2 k a0 a1 a2 a3 + tu2 k b0 b1 b2 b3 := by unfold tu2; repeat' split <;> omega

theorem tuA3 (k a0 a1 a2 a3 b0 b1 b2 b3 : Int) : tu3 k (a0 + b0) (a1 + b1) (a2 + b2) (a3 + b3) = tu3 k a0 a1 a2 a3 + tu3 k b0 b1 b2 b3 := by unfold tu3; repeat' split <;> omega

theorem tuM0 (k a0 a1 a2 a3 b0 b1 b2 b3 : Int) : tu0 k (a0 - b0) (a1 - b1) (a2 - b2) (a3 - b3) = tu0 k a0 a1 a2 a3 - tu0 k b0 b1 b2 b3 := by unfold tu0; repeat' split <;> omega

theorem tuM1 (k a0 a1 a2 a3 b0 b1 b2 b3 : Int) : tu1 k (a0 - b0) (a1 - b1) (a2 - b2) (a3 - b3) = tu1 k a0 a1 a2 a3 - tu1 k b0 b1 b2 b3 := by unfold tu1; repeat' split <;> omega

theorem tuM2 (k a0 a1 a2 a3 b0 b1 b2 b3 : Int) : tu2 k (a0 - b0) (a1 - b1) (a2 - b2) (a3 - b3) = tu2 k a0 a1 a2 a3 - tu2 k b0 b1 b2 b3 := by unfold tu2; repeat' split <;> omega

theorem tuM3 (k a0 a1 a2 a3 b0 b1 b2 b3 : Int) : tu3 k (a0 - b0) (a1 - b1) (a2 - b2) (a3 - b3) = tu3 k a0 a1 a2 a3 - tu3 k b0 b1 b2 b3 := by unfold tu3; repeat' split <;> omega

theorem turn8 (k h n : Int) : ((k + h) % 8 + n) % 8 = (k + (h + n) % 8) % 8 := by omega

theorem ddR (c : UInt8) (k h : Int) (k0 : 0 ≤ k) (k7 : k ≤ 7) (h0 : 0 ≤ h) (h7 : h ≤ 7) :
    dd0 c ((k + h) % 8) = tu0 k (dd0 c h) (dd1 c h) (dd2 c h) (dd3 c h) ∧ dd1 c ((k + h) % 8) = tu1 k (dd0 c h) (dd1 c h) (dd2 c h) (dd3 c h) ∧
    dd2 c ((k + h) % 8) = tu2 k (dd0 c h) (dd1 c h) (dd2 c h) (dd3 c h) ∧ dd3 c ((k + h) % 8) = tu3 k (dd0 c h) (dd1 c h) (dd2 c h) (dd3 c h) := by
  have q := fun n (hn : 0 ≤ (h + n) % 8 ∧ (h + n) % 8 ≤ 7) => And.intro (tS0 k ((h + n) % 8) k0 k7 hn.1 hn.2) (And.intro (tS1 k ((h + n) % 8) k0 k7 hn.1 hn.2) (And.intro (tS2 k ((h + n) % 8) k0 k7 hn.1 hn.2) (tS3 k ((h + n) % 8) k0 k7 hn.1 hn.2)))
  obtain ⟨a0, a1, a2, a3⟩ := q 7 (by omega)
  obtain ⟨b0, b1, b2, b3⟩ := q 6 (by omega)
  obtain ⟨c0, c1, c2, c3⟩ := q 1 (by omega)
  obtain ⟨d0, d1, d2, d3⟩ := q 2 (by omega)
  unfold dd0 dd1 dd2 dd3
  by_cases e1 : c == 76
  · simp only [e1, if_true, turn8, tuM0, tuM1, tuM2, tuM3]
    exact ⟨by rw [a0, b0], by rw [a1, b1], by rw [a2, b2], by rw [a3, b3]⟩
  by_cases e2 : c == 82
  · simp only [e1, e2, if_true, if_false, Bool.false_eq_true, turn8, tuM0, tuM1, tuM2, tuM3]
    exact ⟨by rw [c0, d0], by rw [c1, d1], by rw [c2, d2], by rw [c3, d3]⟩
  · simp only [e1, e2, if_false, Bool.false_eq_true]
    exact ⟨tS0 k h k0 k7 h0 h7, tS1 k h k0 k7 h0 h7, tS2 k h k0 k7 h0 h7, tS3 k h k0 k7 h0 h7⟩

/-- The step s, turned by a's heading and moved to a. -/
def rot (a s : Sp) : Sp := ⟨a.x0 + tu0 a.h s.x0 s.x1 s.x2 s.x3, a.x1 + tu1 a.h s.x0 s.x1 s.x2 s.x3, a.x2 + tu2 a.h s.x0 s.x1 s.x2 s.x3, a.x3 + tu3 a.h s.x0 s.x1 s.x2 s.x3, (a.h + s.h) % 8⟩

set_option linter.unusedSimpArgs false in
theorem nhR (c : UInt8) (k h : Int) : nh c ((k + h) % 8) % 8 = (k + nh c h) % 8 := by
  unfold nh
  by_cases e1 : c == 76 <;> by_cases e2 : c == 82 <;> simp only [e1, e2, if_true, if_false, Bool.false_eq_true] <;> omega

theorem nh_mod (c : UInt8) (h : Int) (h0 : 0 ≤ h) (h7 : h ≤ 7) : nh c h % 8 = nh c h := by have := nh_bd c h h0 h7; omega

theorem rot_next (a s : Sp) (c : UInt8) (k0 : 0 ≤ a.h) (k7 : a.h ≤ 7) (h0 : 0 ≤ s.h) (h7 : s.h ≤ 7) : (rot a s).next c = rot a (s.next c) := by
  obtain ⟨r0, r1, r2, r3⟩ := ddR c a.h s.h k0 k7 h0 h7
  have r4 := nhR c a.h s.h
  rw [nh_mod c ((a.h + s.h) % 8) (by omega) (by omega)] at r4
  simp only [rot, Sp.next, r0, r1, r2, r3, r4, tuA0, tuA1, tuA2, tuA3, Int.add_assoc]

theorem rot_fin (a : Sp) (k0 : 0 ≤ a.h) (k7 : a.h ≤ 7) : ∀ (l : List UInt8) (s : Sp), 0 ≤ s.h → s.h ≤ 7 → fin (rot a s) l = rot a (fin s l)
  | [], _, _, _ => rfl
  | c :: l, s, h0, h7 => by
    have hb := nh_bd c s.h h0 h7
    have ih := rot_fin a k0 k7 l (s.next c) hb.1 hb.2
    simp only [fin, List.foldl_cons] at ih ⊢
    rw [rot_next a s c k0 k7 h0 h7]
    exact ih

theorem rot_zero (a : Sp) (k0 : 0 ≤ a.h) (k7 : a.h ≤ 7) : rot a sp0 = a := by
  have z0 : tu0 a.h 0 0 0 0 = 0 := by unfold tu0; repeat' split <;> omega
  have z1 : tu1 a.h 0 0 0 0 = 0 := by unfold tu1; repeat' split <;> omega
  have z2 : tu2 a.h 0 0 0 0 = 0 := by unfold tu2; repeat' split <;> omega
  have z3 : tu3 a.h 0 0 0 0 = 0 := by unfold tu3; repeat' split <;> omega
  have z4 : a.h % 8 = a.h := by omega
  simp [rot, sp0, z0, z1, z2, z3, z4]

/-- Laid from a: as laid from 0, turned and moved. -/
theorem fin_rot (a : Sp) (k0 : 0 ≤ a.h) (k7 : a.h ≤ 7) (l : List UInt8) : fin a l = rot a (fin sp0 l) := by
  have := rot_fin a k0 k7 l sp0 (by decide) (by decide)
  rwa [rot_zero a k0 k7] at this

end Go.Proofs.Ytoenkgenoloihab

/- Texts of n pieces, in order; which of them lead from a step back to the beginning; the way back from a step. -/
namespace Go.Proofs.Ytoenkgenoloihab

def ltr : List UInt8 := [76, 82, 83]

def words : Nat → List (List UInt8)
  | 0 => [[]]
  | n + 1 => (words n).flatMap fun w => ltr.map fun c => w ++ [c]

theorem words_add (a : Nat) : ∀ b, words (a + b) = (words a).flatMap fun u => (words b).map fun v => u ++ v
  | 0 => by simp [words]
  | b + 1 => by
    rw [← Nat.add_assoc]
    show (words (a + b)).flatMap _ = _
    rw [words_add a b, List.flatMap_assoc]
    congr 1
    funext u
    show _ = ((words b).flatMap _).map _
    rw [List.flatMap_map, List.map_flatMap]
    congr 1
    funext v
    simp [ltr]

theorem words_cons (n : Nat) : words (n + 1) = ltr.flatMap fun c => (words n).map fun v => c :: v := by
  rw [Nat.add_comm, words_add 1 n]
  simp [words, ltr]

theorem words_len : ∀ (n : Nat) (w : List UInt8), w ∈ words n → w.length = n
  | 0, w, h => by simp [words] at h; simp [h]
  | n + 1, w, h => by
    simp only [words, List.mem_flatMap, List.mem_map] at h
    obtain ⟨u, hu, c, _, rfl⟩ := h
    simp [words_len n u hu]

theorem words_pcb : ∀ (n : Nat) (w : List UInt8), w ∈ words n → w.all pcb = true
  | 0, w, h => by simp [words] at h; simp [h]
  | n + 1, w, h => by
    simp only [words, List.mem_flatMap, List.mem_map] at h
    obtain ⟨u, hu, c, hc, rfl⟩ := h
    rw [List.all_append, words_pcb n u hu]
    simp only [ltr, List.mem_cons, List.not_mem_nil, or_false] at hc
    rcases hc with rfl | rfl | rfl <;> rfl

theorem words_count : ∀ n : Nat, (words n).length = 3 ^ n
  | 0 => rfl
  | n + 1 => by
    simp only [words, List.length_flatMap, List.length_map]
    rw [show (ltr.length) = 3 from rfl, List.map_const', List.sum_replicate_nat, words_count n, Nat.pow_succ]

theorem fin_append (s : Sp) (l m : List UInt8) : fin s (l ++ m) = fin (fin s l) m := by simp [fin, List.foldl_append]

theorem fin_cons (s : Sp) (c : UInt8) (l : List UInt8) : fin s (c :: l) = fin (s.next c) l := rfl

def spE (p q : Sp) : Bool := (p.x0 == q.x0 && (p.x1 == q.x1 && (p.x2 == q.x2 && p.x3 == q.x3))) && p.h == q.h

theorem spE_iff {p q : Sp} : spE p q = true ↔ p = q := by
  obtain ⟨a0, a1, a2, a3, a4⟩ := p
  obtain ⟨b0, b1, b2, b3, b4⟩ := q
  simp only [spE, Bool.and_eq_true, beq_iff_eq, Sp.mk.injEq]
  constructor
  · rintro ⟨⟨h0, h1, h2, h3⟩, h4⟩; exact ⟨h0, h1, h2, h3, h4⟩
  · rintro ⟨h0, h1, h2, h3, h4⟩; exact ⟨⟨h0, h1, h2, h3⟩, h4⟩

theorem spE_no {p q : Sp} : spE p q = false ↔ p ≠ q := by
  rw [← Bool.not_eq_true, spE_iff]

/-- The end that a part of a track has if it leads from s back to the beginning. -/
def wayB (s : Sp) : Sp := ⟨tu0 ((8 - s.h) % 8) (-s.x0) (-s.x1) (-s.x2) (-s.x3), tu1 ((8 - s.h) % 8) (-s.x0) (-s.x1) (-s.x2) (-s.x3), tu2 ((8 - s.h) % 8) (-s.x0) (-s.x1) (-s.x2) (-s.x3), tu3 ((8 - s.h) % 8) (-s.x0) (-s.x1) (-s.x2) (-s.x3), (8 - s.h) % 8⟩

theorem rot_back (a v : Sp) (k0 : 0 ≤ a.h) (k7 : a.h ≤ 7) (h0 : 0 ≤ v.h) (h7 : v.h ≤ 7) : rot a v = sp0 ↔ v = wayB a := by
  obtain ⟨a0, a1, a2, a3, a4⟩ := a
  obtain ⟨b0, b1, b2, b3, b4⟩ := v
  simp only at k0 k7 h0 h7
  have e8 : a4 = 0 ∨ a4 = 1 ∨ a4 = 2 ∨ a4 = 3 ∨ a4 = 4 ∨ a4 = 5 ∨ a4 = 6 ∨ a4 = 7 := by omega
  rcases e8 with rfl | rfl | rfl | rfl | rfl | rfl | rfl | rfl <;> simp [rot, wayB, sp0, tu0, tu1, tu2, tu3] <;> omega

theorem fin_back (a : Sp) (k0 : 0 ≤ a.h) (k7 : a.h ≤ 7) (l : List UInt8) : fin a l = sp0 ↔ fin sp0 l = wayB a := by
  rw [fin_rot a k0 k7 l]
  have h := fin_ok sp0_ok l
  simp only [Sp.okB] at h
  exact rot_back a _ k0 k7 h.2.2.2.2.1 h.2.2.2.2.2

/-- All texts of n pieces that lead from a step back to the beginning. -/
def clsL (a : Sp) (n : Nat) : List (List UInt8) := (words n).filter fun w => spE (fin a w) sp0

/-- Parts: texts with their ends. -/
def parts (a : Sp) (n : Nat) : List (Sp × List UInt8) := (words n).map fun w => (fin a w, w)

/-- The texts of parts at a step. -/
def grp (k : Sp) (l : List (Sp × List UInt8)) : List (List UInt8) := (l.filter fun p => spE p.1 k).map Prod.snd

theorem parts_succ (a : Sp) (n : Nat) : parts a (n + 1) = (parts a n).flatMap fun p => ltr.map fun c => (p.1.next c, p.2 ++ [c]) := by
  simp only [parts, words, List.map_flatMap, List.flatMap_map, List.map_map]
  congr 1
  funext w
  simp [ltr, fin_snoc]

theorem parts_len (a : Sp) (n : Nat) : (parts a n).length = 3 ^ n := by rw [parts, List.length_map, words_count]

/-- Closed ones, out of two parts. -/
theorem cls_halves (a : Sp) (k0 : 0 ≤ a.h) (k7 : a.h ≤ 7) (m n : Nat) :
    ((parts a m).flatMap fun p => (grp (wayB p.1) (parts sp0 n)).map fun v => p.2 ++ v) = clsL a (m + n) := by
  rw [clsL, words_add, List.filter_flatMap, show parts a m = (words m).map fun w => (fin a w, w) from rfl, List.flatMap_map]
  congr 1
  funext u
  simp only [grp, parts, List.filter_map, List.map_map, Function.comp_def]
  rw [show (fun w : List UInt8 => u ++ w) = (fun v => u ++ v) from rfl]
  congr 1
  apply List.filter_congr
  intro v _
  have hb : (fin a u).okB _ := fin_ok (s := a) (n := (a.x0.natAbs + a.x1.natAbs + a.x2.natAbs + a.x3.natAbs : Nat)) (by simp only [Sp.okB]; omega) u
  simp only [Sp.okB] at hb
  have h := fin_back (fin a u) hb.2.2.2.2.1 hb.2.2.2.2.2 v
  rw [Bool.eq_iff_iff, spE_iff, spE_iff, fin_append, h]

/-- The turn of a text. -/
def trW (l : List UInt8) : Int := (cnt 76 l : Int) - (cnt 82 l : Int)

end Go.Proofs.Ytoenkgenoloihab

/- Texts laid backwards: from the end, turned round, they lead to the beginning, turned round. -/
namespace Go.Proofs.Ytoenkgenoloihab

def around (s : Sp) : Sp := ⟨s.x0, s.x1, s.x2, s.x3, (s.h + 4) % 8⟩

def back (l : List UInt8) : List UInt8 := (l.map mir).reverse

theorem back_cons (c : UInt8) (l : List UInt8) : back (c :: l) = back l ++ [mir c] := by simp [back]

theorem back_len (l : List UInt8) : (back l).length = l.length := by simp [back]

theorem mir_ltr {c : UInt8} (h : c ∈ ltr) : mir c ∈ ltr := by
  simp only [ltr, List.mem_cons, List.not_mem_nil, or_false] at h
  rcases h with rfl | rfl | rfl <;> decide

theorem words_iff : ∀ (n : Nat) (w : List UInt8), w ∈ words n ↔ w.length = n ∧ ∀ c ∈ w, c ∈ ltr
  | 0, w => by
    simp only [words, List.mem_cons, List.not_mem_nil, or_false, List.length_eq_zero_iff]
    constructor
    · rintro rfl; simp
    · exact fun h => h.1
  | n + 1, [] => by simp [words_cons]
  | n + 1, c :: w => by
    rw [words_cons]
    simp only [List.mem_flatMap, List.mem_map, List.cons.injEq, List.length_cons, Nat.add_right_cancel_iff, List.mem_cons, forall_eq_or_imp]
    constructor
    · rintro ⟨d, hd, u, hu, rfl, rfl⟩
      have := (words_iff n u).1 hu
      exact ⟨this.1, hd, this.2⟩
    · rintro ⟨h1, h2, h3⟩
      exact ⟨c, h2, w, (words_iff n w).2 ⟨h1, h3⟩, rfl, rfl⟩

theorem back_words {n : Nat} {w : List UInt8} (h : w ∈ words n) : back w ∈ words n := by
  rw [words_iff] at h ⊢
  refine ⟨by rw [back_len, h.1], fun c hc => ?_⟩
  simp only [back, List.mem_reverse, List.mem_map] at hc
  obtain ⟨d, hd, rfl⟩ := hc
  exact mir_ltr (h.2 d hd)

theorem mir_mir {c : UInt8} (h : c ∈ ltr) : mir (mir c) = c := by
  simp only [ltr, List.mem_cons, List.not_mem_nil, or_false] at h
  rcases h with rfl | rfl | rfl <;> decide

theorem back_back {n : Nat} {w : List UInt8} (h : w ∈ words n) : back (back w) = w := by
  have h2 := ((words_iff n w).1 h).2
  simp only [back, List.map_reverse, List.reverse_reverse, List.map_map]
  conv => rhs; rw [← List.map_id w]
  exact List.map_congr_left fun c hc => mir_mir (h2 c hc)

def hds : List Int := [0, 1, 2, 3, 4, 5, 6, 7]

theorem step_back8 : ∀ c ∈ ltr, ∀ h ∈ hds, dd0 c h + dd0 (mir c) ((nh c h + 4) % 8) = 0 ∧ dd1 c h + dd1 (mir c) ((nh c h + 4) % 8) = 0 ∧ dd2 c h + dd2 (mir c) ((nh c h + 4) % 8) = 0 ∧ dd3 c h + dd3 (mir c) ((nh c h + 4) % 8) = 0 ∧ nh (mir c) ((nh c h + 4) % 8) = (h + 4) % 8 := by decide +kernel

theorem hds_mem {h : Int} (h0 : 0 ≤ h) (h7 : h ≤ 7) : h ∈ hds := by
  have e : h = 0 ∨ h = 1 ∨ h = 2 ∨ h = 3 ∨ h = 4 ∨ h = 5 ∨ h = 6 ∨ h = 7 := by omega
  rcases e with rfl | rfl | rfl | rfl | rfl | rfl | rfl | rfl <;> simp [hds]

theorem step_back (s : Sp) {c : UInt8} (hc : c ∈ ltr) (h0 : 0 ≤ s.h) (h7 : s.h ≤ 7) : (around (s.next c)).next (mir c) = around s := by
  obtain ⟨e0, e1, e2, e3, e4⟩ := step_back8 c hc s.h (hds_mem h0 h7)
  simp only [around, Sp.next, Sp.mk.injEq]
  exact ⟨by omega, by omega, by omega, by omega, e4⟩

theorem fin_back2 : ∀ (l : List UInt8) (s : Sp), (∀ c ∈ l, c ∈ ltr) → 0 ≤ s.h → s.h ≤ 7 → fin (around (fin s l)) (back l) = around s
  | [], s, _, _, _ => rfl
  | c :: l, s, hl, h0, h7 => by
    have hc := hl c (by simp)
    have hb := nh_bd c s.h h0 h7
    have ih := fin_back2 l (s.next c) (fun d hd => hl d (by simp [hd])) hb.1 hb.2
    rw [back_cons, fin_cons, fin_snoc, ih]
    exact step_back s hc h0 h7

theorem trW_cons (c : UInt8) (l : List UInt8) : trW (c :: l) = trW l + trW [c] := by
  simp only [trW, cnt, List.count_cons, List.count_nil]
  omega

theorem trW_append (l m : List UInt8) : trW (l ++ m) = trW l + trW m := by
  simp only [trW, cnt, List.count_append]
  omega

theorem trW_back : ∀ (l : List UInt8), (∀ c ∈ l, c ∈ ltr) → trW (back l) = -trW l
  | [], _ => rfl
  | c :: l, hl => by
    rw [back_cons, trW_append, trW_cons c l, trW_back l (fun d hd => hl d (by simp [hd]))]
    have hc := hl c (by simp)
    have : trW [mir c] = -trW [c] := by
      simp only [ltr, List.mem_cons, List.not_mem_nil, or_false] at hc
      rcases hc with rfl | rfl | rfl <;> decide
    omega

theorem fin_h : ∀ (l : List UInt8) (s : Sp), (∀ c ∈ l, c ∈ ltr) → 0 ≤ s.h → s.h ≤ 7 → (fin s l).h = (s.h + trW l) % 8
  | [], s, _, h0, h7 => by show s.h = (s.h + 0) % 8; omega
  | c :: l, s, hl, h0, h7 => by
    have hc := hl c (by simp)
    have hb := nh_bd c s.h h0 h7
    have e : (s.next c).h % 8 = (s.h + trW [c]) % 8 := by
      simp only [Sp.next]
      simp only [ltr, List.mem_cons, List.not_mem_nil, or_false] at hc
      rcases hc with rfl | rfl | rfl
      · show (nh 76 s.h) % 8 = (s.h + 1) % 8; simp [nh]
      · show (nh 82 s.h) % 8 = (s.h + -1) % 8; simp [nh]; omega
      · show (nh 83 s.h) % 8 = (s.h + 0) % 8; simp [nh]
    rw [fin_cons, fin_h l (s.next c) (fun d hd => hl d (by simp [hd])) hb.1 hb.2, trW_cons]
    omega

/-- Whether pieces lead back is told by their end, laid backwards from 0 with the heading 4, and by the turn. -/
theorem leads_iff (p : Sp) (h0 : 0 ≤ p.h) (h7 : p.h ≤ 7) {n : Nat} {v : List UInt8} (hv : v ∈ words n) :
    fin p v = sp0 ↔ ((fin ⟨0, 0, 0, 0, 4⟩ (back v)).x0 = p.x0 ∧ (fin ⟨0, 0, 0, 0, 4⟩ (back v)).x1 = p.x1 ∧ (fin ⟨0, 0, 0, 0, 4⟩ (back v)).x2 = p.x2 ∧ (fin ⟨0, 0, 0, 0, 4⟩ (back v)).x3 = p.x3) ∧ (p.h + trW v) % 8 = 0 := by
  have hl := ((words_iff n v).1 hv).2
  have hb := ((words_iff n (back v)).1 (back_words hv)).2
  have hh := fin_h v p hl h0 h7
  constructor
  · intro h
    have e := fin_back2 v p hl h0 h7
    rw [h] at e hh
    have e' : fin ⟨0, 0, 0, 0, 4⟩ (back v) = around p := e
    rw [e']
    exact ⟨⟨rfl, rfl, rfl, rfl⟩, hh.symm⟩
  · rintro ⟨⟨e0, e1, e2, e3⟩, e4⟩
    have hh2 := fin_h (back v) ⟨0, 0, 0, 0, 4⟩ hb (by decide) (by decide)
    rw [trW_back v hl] at hh2
    have ea : around (fin ⟨0, 0, 0, 0, 4⟩ (back v)) = p := by
      obtain ⟨p0, p1, p2, p3, p4⟩ := p
      simp only at e0 e1 e2 e3 e4 h0 h7 hh2
      simp only [around, Sp.mk.injEq]
      exact ⟨e0, e1, e2, e3, by omega⟩
    have e := fin_back2 (back v) ⟨0, 0, 0, 0, 4⟩ hb (by decide) (by decide)
    rw [ea, back_back hv] at e
    exact e

theorem words_nodup : ∀ n, (words n).Nodup
  | 0 => by simp [words]
  | n + 1 => by
    have ih := words_nodup n
    rw [words_cons]
    have hm : ∀ c : UInt8, ((words n).map fun v => c :: v).Nodup := fun c => by
      rw [List.nodup_iff_pairwise_ne] at *
      exact List.pairwise_map.2 (ih.imp fun h e => h (by injection e))
    simp only [ltr, List.flatMap_cons, List.flatMap_nil, List.append_nil]
    refine List.nodup_append.2 ⟨hm 76, List.nodup_append.2 ⟨hm 82, hm 83, ?_⟩, ?_⟩
    · rintro a ha b hb rfl
      simp only [List.mem_map] at ha hb
      obtain ⟨x, _, rfl⟩ := ha
      obtain ⟨y, _, h⟩ := hb
      simp at h
    · rintro a ha b hb rfl
      simp only [List.mem_map, List.mem_append] at ha hb
      obtain ⟨x, _, rfl⟩ := ha
      rcases hb with ⟨y, _, h⟩ | ⟨y, _, h⟩ <;> simp at h

theorem words_back (n : Nat) : ((words n).map back).Perm (words n) := by
  refine (List.perm_ext_iff_of_nodup ?_ (words_nodup n)).2 fun w => ?_
  · rw [List.nodup_iff_pairwise_ne]
    refine List.pairwise_map.2 ?_
    have := words_nodup n
    rw [List.nodup_iff_pairwise_ne] at this
    refine List.Pairwise.imp_of_mem ?_ this
    intro a b ha hb hab e
    exact hab (by rw [← back_back ha, ← back_back hb, e])
  · simp only [List.mem_map]
    constructor
    · rintro ⟨u, hu, rfl⟩; exact back_words hu
    · intro h; exact ⟨back w, back_words h, back_back h⟩

end Go.Proofs.Ytoenkgenoloihab

/- Halves: where parts end and of which pieces they are, how many of each there are, and closed tracks out of two halves. Nothing of the program. -/
namespace Go.Proofs.Ytoenkgenoloihab

set_option linter.unusedVariables false

structure Hf where
  s : Sp
  a : Int
  b : Int
  c : Int

def hfE (p q : Hf) : Bool := spE p.s q.s && (p.a == q.a && (p.b == q.b && p.c == q.c))

theorem hfE_iff {p q : Hf} : hfE p q = true ↔ p = q := by
  obtain ⟨s, a, b, c⟩ := p
  obtain ⟨s', a', b', c'⟩ := q
  simp only [hfE, Bool.and_eq_true, beq_iff_eq, Hf.mk.injEq, spE_iff]

theorem hfE_self (p : Hf) : hfE p p = true := hfE_iff.2 rfl

theorem hfE_no {p q : Hf} : hfE p q = false ↔ p ≠ q := by rw [← Bool.not_eq_true, hfE_iff]

def hfN (h : Hf) (c : UInt8) : Hf := ⟨h.s.next c, h.a + (cnt 83 [c] : Nat), h.b + (cnt 76 [c] : Nat), h.c + (cnt 82 [c] : Nat)⟩

def hf0 : Hf := ⟨sp0, 0, 0, 0⟩

def hfO (w : List UInt8) : Hf := ⟨fin sp0 w, (cnt 83 w : Nat), (cnt 76 w : Nat), (cnt 82 w : Nat)⟩

theorem cnt_app (c : UInt8) (u v : List UInt8) : cnt c (u ++ v) = cnt c u + cnt c v := by simp [cnt, List.count_append]

theorem hfO_snoc (w : List UInt8) (c : UInt8) : hfO (w ++ [c]) = hfN (hfO w) c := by
  simp only [hfO, hfN, fin_snoc, cnt_app, Hf.mk.injEq]
  refine ⟨trivial, ?_, ?_, ?_⟩ <;> omega

def nxH (L : List Hf) : List Hf := L.flatMap fun h => ltr.map fun c => hfN h c

def hvs (n : Nat) : List Hf := (words n).map hfO

theorem hvs_zero : hvs 0 = [hf0] := rfl

theorem hvs_succ (n : Nat) : hvs (n + 1) = nxH (hvs n) := by
  simp only [hvs, nxH, words, List.map_flatMap, List.flatMap_map, List.map_map]
  congr 1
  funext w
  simp [ltr, hfO_snoc]

theorem hvs_len (n : Nat) : (hvs n).length = 3 ^ n := by rw [hvs, List.length_map, words_count]

def hcn (L : List Hf) (k : Hf) : Nat := L.countP fun x => hfE x k

theorem hcn_le (L : List Hf) (k : Hf) : hcn L k ≤ L.length := List.countP_le_length

theorem hcn_pos {L : List Hf} {k : Hf} (h : hcn L k ≠ 0) : k ∈ L := by
  have := List.countP_pos_iff.1 (Nat.pos_of_ne_zero h)
  obtain ⟨x, hx, e⟩ := this
  rw [hfE_iff] at e
  exact e ▸ hx

theorem hcn_mem {L : List Hf} {k : Hf} (h : k ∈ L) : hcn L k ≠ 0 := Nat.ne_of_gt (List.countP_pos_iff.2 ⟨k, h, hfE_self k⟩)

theorem cnt_len (c : UInt8) (w : List UInt8) : cnt c w ≤ w.length := cnt_le c w

/-- Numbers that halves of few pieces bear. -/
def Hf.ok (h : Hf) : Prop := h.s.okB 1000 ∧ 0 ≤ h.a ∧ h.a ≤ 100 ∧ 0 ≤ h.b ∧ h.b ≤ 100 ∧ 0 ≤ h.c ∧ h.c ≤ 100

theorem hvs_ok {n : Nat} (hn : n ≤ 20) {h : Hf} (hh : h ∈ hvs n) : h.ok := by
  obtain ⟨w, hw, rfl⟩ := List.mem_map.1 hh
  have hl := words_len n w hw
  have h1 := cnt_le 83 w
  have h2 := cnt_le 76 w
  have h3 := cnt_le 82 w
  refine ⟨(fin_ok sp0_ok w).mono (by omega), ?_⟩
  simp only [hfO]
  omega

/-- A sum over what has been struck already. -/
def dsum (L : List Hf) (left : Hf → Bool) (g : Hf → Nat) : Nat := ((L.filter fun h => !left h).map g).sum

theorem dsum_all (L : List Hf) (g : Hf → Nat) (left : Hf → Bool) (h : ∀ x ∈ L, left x = false) : dsum L left g = (L.map g).sum := by
  rw [dsum, List.filter_eq_self.2 (fun x hx => by rw [h x hx]; rfl)]

theorem dsum_none (L : List Hf) (g : Hf → Nat) (left : Hf → Bool) (h : ∀ x ∈ L, left x = true) : dsum L left g = 0 := by
  have : (L.filter fun h => !left h) = [] := List.filter_eq_nil_iff.2 (fun x hx => by rw [h x hx]; simp)
  rw [dsum, this]
  rfl

theorem dsum_congr (L : List Hf) (g : Hf → Nat) (l1 l2 : Hf → Bool) (h : ∀ x ∈ L, l1 x = l2 x) : dsum L l1 g = dsum L l2 g := by
  rw [dsum, dsum, List.filter_congr (fun x hx => by rw [h x hx])]

theorem dsum_step (g : Hf → Nat) (left : Hf → Bool) (x : Hf) (hx : left x = true) : ∀ L : List Hf, dsum L (fun h => left h && !hfE h x) g = dsum L left g + hcn L x * g x
  | [] => by simp [dsum, hcn]
  | h :: L => by
    have ih := dsum_step g left x hx L
    have e1 : ∀ l : Hf → Bool, dsum (h :: L) l g = (if l h then 0 else g h) + dsum L l g := fun l => by
      simp only [dsum, List.filter_cons]
      cases l h <;> simp
    have e2 : hcn (h :: L) x = hcn L x + (if hfE h x then 1 else 0) := by simp [hcn, List.countP_cons]
    rw [e1, e1, ih, e2]
    by_cases he : h = x
    · subst he
      simp only [hx, hfE_self, Bool.not_true, Bool.and_false, if_true, Nat.add_mul, Nat.one_mul]
      simp only [Bool.false_eq_true, if_false]
      omega
    · rw [hfE_no.2 he]
      cases left h <;> simp <;> omega

theorem hcn_next (L : List Hf) (k : Hf) : hcn (nxH L) k = (L.map fun h => hcn (ltr.map (hfN h)) k).sum := by
  rw [hcn, nxH, List.countP_flatMap]
  rfl

theorem dsum_mono (L : List Hf) (left : Hf → Bool) (g : Hf → Nat) : dsum L left g ≤ (L.map g).sum := by
  induction L with
  | nil => exact Nat.le_refl _
  | cons h L ih =>
    simp only [dsum, List.filter_cons, List.map_cons, List.sum_cons] at ih ⊢
    cases left h <;> simp <;> omega

theorem sum_le {α : Type} (g : α → Nat) (B : Nat) : ∀ L : List α, (∀ x ∈ L, g x ≤ B) → (L.map g).sum ≤ L.length * B
  | [], _ => by simp
  | h :: L, hb => by
    have := sum_le g B L (fun x hx => hb x (by simp [hx]))
    have h1 := hb h (by simp)
    simp only [List.map_cons, List.sum_cons, List.length_cons, Nat.add_mul, Nat.one_mul]
    omega

/-- The half that a half needs behind it so that both are a closed track of the pieces t. -/
def mate (ta tb tc : Int) (h : Hf) : Hf := ⟨wayB h.s, ta - h.a, tb - h.b, tc - h.c⟩

/-- How many closed tracks of n pieces have so many straights, lefts and rights. -/
def cwt (n : Nat) (ta tb tc : Int) : Nat := (clsL sp0 n).countP fun w => decide ((cnt 83 w : Int) = ta ∧ (cnt 76 w : Int) = tb ∧ (cnt 82 w : Int) = tc)

theorem meets (m n : Nat) (ta tb tc : Int) : ((hvs m).map fun h => hcn (hvs n) (mate ta tb tc h)).sum = cwt (m + n) ta tb tc := by
  rw [cwt, clsL, List.countP_filter, words_add, List.countP_flatMap, show hvs m = (words m).map hfO from rfl, List.map_map]
  congr 1
  refine List.map_congr_left fun u hu => ?_
  simp only [Function.comp_apply, hcn, hvs, List.countP_map]
  refine List.countP_congr fun v hv => ?_
  have hb : (fin sp0 u).okB _ := fin_ok (s := sp0) (n := 0) sp0_ok u
  simp only [Sp.okB] at hb
  have h := fin_back (fin sp0 u) hb.2.2.2.2.1 hb.2.2.2.2.2 v
  simp only [Function.comp_apply, hfE_iff, hfO, mate, Hf.mk.injEq, Bool.and_eq_true, decide_eq_true_eq, spE_iff, fin_append, h, cnt_app]
  constructor
  · rintro ⟨h1, h2, h3, h4⟩; exact ⟨⟨by omega, by omega, by omega⟩, h1⟩
  · rintro ⟨⟨h2, h3, h4⟩, h1⟩; exact ⟨h1, by omega, by omega, by omega⟩

/-- How many closed tracks of n pieces have a turn. -/
def cwn (n : Nat) (turn : Int) : Nat := (clsL sp0 n).countP fun w => decide (trW w = turn)

theorem cls_len2 (n : Nat) : (clsL sp0 n).length ≤ 3 ^ n := by
  rw [← words_count n]
  exact List.length_filter_le _ _

theorem cwt_le (n : Nat) (ta tb tc : Int) : cwt n ta tb tc ≤ 3 ^ n := Nat.le_trans List.countP_le_length (cls_len2 n)

theorem cwn_le (n : Nat) (turn : Int) : cwn n turn ≤ 3 ^ n := Nat.le_trans List.countP_le_length (cls_len2 n)

theorem cnt3 : ∀ {w : List UInt8}, (∀ c ∈ w, c ∈ ltr) → cnt 83 w + cnt 76 w + cnt 82 w = w.length
  | [], _ => rfl
  | c :: w, h => by
    have ih := cnt3 (w := w) (fun d hd => h d (by simp [hd]))
    have hc := h c (by simp)
    have e : ∀ d : UInt8, cnt d (c :: w) = cnt d w + (if c == d then 1 else 0) := fun d => by simp [cnt, List.count_cons]
    rw [e, e, e, List.length_cons]
    simp only [ltr, List.mem_cons, List.not_mem_nil, or_false] at hc
    rcases hc with rfl | rfl | rfl <;> simp <;> omega

/-- What 'talliesOf' lists: of which pieces tracks of n pieces with a turn can be. -/
def tlsUp (n : Nat) (turn : Int) (k : Nat) : List (Int × Int × Int) := ((List.range k).map fun (r : Nat) => ((n : Int) - ((r : Int) + turn) - (r : Int), (r : Int) + turn, (r : Int))).filter fun t => decide (0 ≤ t.2.1 ∧ 0 ≤ t.1)

def tls (n : Nat) (turn : Int) : List (Int × Int × Int) := tlsUp n turn (n + 1)

theorem tlsUp_succ (n : Nat) (turn : Int) (k : Nat) : tlsUp n turn (k + 1) = tlsUp n turn k ++ (if 0 ≤ (k : Int) + turn ∧ 0 ≤ (n : Int) - ((k : Int) + turn) - (k : Int) then [((n : Int) - ((k : Int) + turn) - (k : Int), (k : Int) + turn, (k : Int))] else []) := by
  simp only [tlsUp, List.range_succ, List.map_append, List.filter_append, List.map_cons, List.map_nil, List.filter_cons, List.filter_nil, decide_eq_true_eq]

theorem tls_count (turn : Int) (n : Nat) {w : List UInt8} (hw : w.length = n) (hl : ∀ c ∈ w, c ∈ ltr) : ∀ k : Nat,
    (tlsUp n turn k).countP (fun t => decide ((cnt 83 w : Int) = t.1 ∧ (cnt 76 w : Int) = t.2.1 ∧ (cnt 82 w : Int) = t.2.2)) = if trW w = turn ∧ cnt 82 w < k then 1 else 0
  | 0 => by simp [tlsUp]
  | k + 1 => by
    have h3 := cnt3 hl
    have ih := tls_count turn n hw hl k
    have n3 := cnt_le 82 w
    rw [tlsUp_succ, List.countP_append, ih]
    unfold trW
    by_cases hk : 0 ≤ (k : Int) + turn ∧ 0 ≤ (n : Int) - ((k : Int) + turn) - (k : Int)
    · rw [if_pos hk, List.countP_cons, List.countP_nil]
      simp only [decide_eq_true_eq]
      (repeat' split) <;> omega
    · rw [if_neg hk, List.countP_nil]
      (repeat' split) <;> omega

theorem countP_swap {α β : Type} (p : α → β → Bool) (L : List α) : ∀ M : List β, (M.map fun b => L.countP fun a => p a b).sum = (L.map fun a => M.countP fun b => p a b).sum
  | [] => by simp [List.countP_nil, List.map_const', List.sum_replicate_nat]
  | b :: M => by
    rw [List.map_cons, List.sum_cons, countP_swap p L M]
    clear countP_swap
    induction L with
    | nil => rfl
    | cons a L ih =>
      simp only [List.countP_cons, List.map_cons, List.sum_cons] at ih ⊢
      omega

theorem tls_sum (n : Nat) (turn : Int) : ((tls n turn).map fun t => cwt n t.1 t.2.1 t.2.2).sum = cwn n turn := by
  simp only [cwt, cwn]
  rw [countP_swap (fun (w : List UInt8) (t : Int × Int × Int) => decide ((cnt 83 w : Int) = t.1 ∧ (cnt 76 w : Int) = t.2.1 ∧ (cnt 82 w : Int) = t.2.2))]
  have hall : ∀ w ∈ clsL sp0 n, w.length = n ∧ ∀ c ∈ w, c ∈ ltr := fun w hw => (words_iff n w).1 (List.mem_filter.1 hw).1
  generalize clsL sp0 n = L at hall
  induction L with
  | nil => rfl
  | cons w L ih =>
    have ih := ih (fun x hx => hall x (by simp [hx]))
    obtain ⟨h1, h2⟩ := hall w (by simp)
    simp only [List.map_cons, List.sum_cons, List.countP_cons]
    rw [ih, tls, tls_count turn n h1 h2]
    have h3 := cnt_le 82 w
    by_cases ht : trW w = turn
    · rw [if_pos ⟨ht, by omega⟩, decide_eq_true ht, if_pos rfl]; omega
    · rw [if_neg (fun h => ht h.1), decide_eq_false ht, if_neg (by simp)]; omega

end Go.Proofs.Ytoenkgenoloihab

/- Contract: which bytes are pieces, in the model. -/
namespace Go.Proofs.Ytoenkgenoloihab
open Go.ChangeShapes Go.WideShapes Go.ChangeAt Go.RowKit

def pcB (c : Int) : Bool := decide (c = 83 ∨ c = 76 ∨ c = 82)

theorem ptPiece_any (c : Int) (w : World) :
    Calls Try.prog 71 #[.int .u8 c] w fun e w' => e = .returned (.bool (pcB c)) ∧ w = w' := by
  by_cases h1 : c = 83
  · subst h1
    go_enter Try.func71, Try.ntmps71
    go_wp2
    go_ret
    exact ⟨rfl, rfl⟩
  by_cases h2 : c = 76
  · subst h2
    go_enter Try.func71, Try.ntmps71
    go_wp2
    go_ret
    exact ⟨rfl, rfl⟩
  have b1 : (c == 83) = false := by simpa using h1
  have b2 : (c == 76) = false := by simpa using h2
  go_enter Try.func71, Try.ntmps71
  go_wp2
  all_goals go_ret
  all_goals exact ⟨by by_cases h3 : c = 82 <;> simp [pcB, h1, h2, h3], rfl⟩

end Go.Proofs.Ytoenkgenoloihab

/- Contracts: how a piece is laid: the function that the program picks. -/
namespace Go.Proofs.Ytoenkgenoloihab
open Go.ChangeShapes Go.WideShapes Go.ChangeAt Go.RowKit

@[go_sem high] theorem fneq_L (w : World) : (binOp .eql 94 (.func (Fn.func 74) #[] #[]) .nilFunc).run Try.prog w = .ok (.bool false) w := by kernel_rfl

@[go_sem high] theorem fneq_R (w : World) : (binOp .eql 94 (.func (Fn.func 75) #[] #[]) .nilFunc).run Try.prog w = .ok (.bool false) w := by kernel_rfl

@[go_sem high] theorem fneq_S (w : World) : (binOp .eql 94 (.func (Fn.func 73) #[] #[]) .nilFunc).run Try.prog w = .ok (.bool false) w := by kernel_rfl

@[go_sem high] theorem fneq_no (w : World) : (binOp .eql 94 .nilFunc .nilFunc).run Try.prog w = .ok (.bool true) w := by kernel_rfl

theorem lay_L (w : World) :
    Calls Try.prog 62 #[.string ⟨#[76]⟩] w fun e w' => e = .returned (.func (Fn.func 74) #[] #[]) ∧ w = w' := by
  go_enter Try.func62, Try.ntmps62
  go_wp2
  go_ret
  exact ⟨rfl, rfl⟩

theorem lay_R (w : World) :
    Calls Try.prog 62 #[.string ⟨#[82]⟩] w fun e w' => e = .returned (.func (Fn.func 75) #[] #[]) ∧ w = w' := by
  go_enter Try.func62, Try.ntmps62
  go_wp2
  go_ret
  exact ⟨rfl, rfl⟩

theorem lay_S (w : World) :
    Calls Try.prog 62 #[.string ⟨#[83]⟩] w fun e w' => e = .returned (.func (Fn.func 73) #[] #[]) ∧ w = w' := by
  go_enter Try.func62, Try.ntmps62
  go_wp2
  go_ret
  exact ⟨rfl, rfl⟩

theorem lay_no (s : ByteArray) (n1 : (s.toList == [83]) = false) (n2 : (s.toList == [76]) = false) (n3 : (s.toList == [82]) = false) (w : World) :
    Calls Try.prog 62 #[.string s] w fun e w' => e = .returned .nilFunc ∧ w = w' := by
  go_enter Try.func62, Try.ntmps62
  go_wp2
  go_ret
  exact ⟨rfl, rfl⟩

end Go.Proofs.Ytoenkgenoloihab

/- Contracts: which texts are tracks, in the model and in the program. -/
namespace Go.Proofs.Ytoenkgenoloihab
open Go.ChangeShapes Go.WideShapes Go.ChangeAt Go.RowKit

theorem pcB_pcb (c : UInt8) : pcB ((c.toNat : Nat) : Int) = pcb c := by
  rw [Bool.eq_iff_iff]
  simp only [pcB, pcb, decide_eq_true_eq, Bool.or_eq_true, beq_iff_eq, ← UInt8.toNat_inj]
  constructor <;> (intro h; simp at h ⊢; omega)

theorem lay_L' (x : ByteArray) (hx : x = ⟨#[76]⟩) (w : World) :
    Calls Try.prog 62 #[.string x] w fun e w' => e = .returned (.func (Fn.func 74) #[] #[]) ∧ w = w' := by subst hx; exact lay_L w

theorem lay_R' (x : ByteArray) (hx : x = ⟨#[82]⟩) (w : World) :
    Calls Try.prog 62 #[.string x] w fun e w' => e = .returned (.func (Fn.func 75) #[] #[]) ∧ w = w' := by subst hx; exact lay_R w

theorem lay_S' (x : ByteArray) (hx : x = ⟨#[83]⟩) (w : World) :
    Calls Try.prog 62 #[.string x] w fun e w' => e = .returned (.func (Fn.func 73) #[] #[]) ∧ w = w' := by subst hx; exact lay_S w

theorem lay_N' (x : ByteArray) (c : UInt8) (hx : x = ⟨#[c]⟩) (hp : pcb c = false) (w : World) :
    Calls Try.prog 62 #[.string x] w fun e w' => e = .returned .nilFunc ∧ w = w' := by
  subst hx
  simp only [pcb, Bool.or_eq_false_iff, beq_eq_false_iff_ne] at hp
  obtain ⟨p1, p2, p3⟩ := hp
  exact lay_no _ (by simp [ByteArray.toList_eq, p1]) (by simp [ByteArray.toList_eq, p2]) (by simp [ByteArray.toList_eq, p3]) w

theorem lay_cases {x : ByteArray} {c : UInt8} (hx : x = ⟨#[c]⟩) (hp : pcb c = true) (w : World) :
    ∃ g : FuncId, (g = 73 ∨ g = 74 ∨ g = 75) ∧ Calls Try.prog 62 #[.string x] w fun e w' => e = .returned (.func (Fn.func g) #[] #[]) ∧ w = w' := by
  rcases pcb_cases hp with rfl | rfl | rfl
  · exact ⟨_, .inl rfl, lay_S' x hx w⟩
  · exact ⟨_, .inr (.inl rfl), lay_L' x hx w⟩
  · exact ⟨_, .inr (.inr rfl), lay_R' x hx w⟩

set_option maxRecDepth 100000 in
theorem tkGood_any (s : ByteArray) (hs : s.size ≤ 1048576) (w : World) :
    Calls Try.prog 47 #[.string s] w fun e w' => e = .returned (.bool (tkB s)) ∧ w = w' := by
  by_cases h40 : s.size ≤ 40
  · go_enter Try.func47, Try.ntmps47
    go_wp2_with fail
    go_loop [3] (fun i => ∃ k : Nat, k ≤ s.size ∧ i = .int .i64 k ∧ (s.data.toList.take k).all pcb = true) (fun i => s.size - (intOf i).toNat)
    case atStart => exact ⟨0, Nat.zero_le _, rfl, rfl⟩
    case round =>
      obtain ⟨k, hk, rfl, hall⟩ := hrel
      have HA := Lib.hid hall
      clear hall
      by_cases hlt : k < s.size
      · have he := pcB_pcb s[k]
        cases hp : pcb s[k]
        · have hp2 : pcB ((s[k].toNat : Nat) : Int) = false := he.trans hp
          have HP := Lib.hid hp
          clear he hp
          go_wp2_with (go_at_call 71; refine (ptPiece_any _ _).mono ?_; rintro e w' ⟨rfl, rfl⟩)
          go_ret
          exact ⟨by rw [tkB_no hlt HP.out]; rfl, rfl⟩
        · have hp2 : pcB ((s[k].toNat : Nat) : Int) = true := he.trans hp
          have HP := Lib.hid hp
          clear he hp
          go_wp2_with (go_at_call 71; refine (ptPiece_any _ _).mono ?_; rintro e w' ⟨rfl, rfl⟩)
          go_round
          case rel => exact ⟨k + 1, by omega, by go_num, all_snoc hlt HA.out HP.out⟩
          case measure => simp [intOf]; omega
      · go_wp2_with fail
        go_ret
        exact ⟨by rw [tkB_yes h40 hlt HA.out]; rfl, rfl⟩
  · have hgt : 40 < s.size := by omega
    go_enter Try.func47, Try.ntmps47
    go_wp2_with fail
    go_ret
    exact ⟨by rw [tkB_long h40]; rfl, rfl⟩

set_option maxRecDepth 100000 in
theorem imIsTrack_any (s : ByteArray) (hs : s.size ≤ 1048576) (w : World) :
    Calls Try.prog 52 #[.string s] w fun e w' => e = .returned (.bool (tkB s)) ∧ w = w' := by
  by_cases h40 : s.size ≤ 40
  · go_enter Try.func52, Try.ntmps52
    go_wp2_with fail
    go_loop [9] (fun i => ∃ k : Nat, k ≤ s.size ∧ i = .int .i64 k ∧ (s.data.toList.take k).all pcb = true) (fun i => s.size - (intOf i).toNat)
    case atStart => exact ⟨0, Nat.zero_le _, rfl, rfl⟩
    case round =>
      obtain ⟨k, hk, rfl, hall⟩ := hrel
      have HA := Lib.hid hall
      clear hall
      by_cases hlt : k < s.size
      · have HX := Lib.hid (ext_one s k hlt)
        cases hp : pcb s[k]
        · have HP := Lib.hid hp
          clear hp
          go_wp2_with (go_at_call 62; refine (lay_N' _ _ HX.out HP.out _).mono ?_; rintro e w' ⟨rfl, rfl⟩)
          go_ret
          exact ⟨by rw [tkB_no hlt HP.out]; rfl, rfl⟩
        · have HP := Lib.hid hp
          clear hp
          obtain ⟨g, hg, hc⟩ := lay_cases HX.out HP.out w
          have HC := Lib.hid hc
          clear hc
          rcases hg with rfl | rfl | rfl
          all_goals
            go_wp2_with (go_at_call 62; refine (HC.out).mono ?_; rintro e w' ⟨rfl, rfl⟩)
            go_round
            case rel => exact ⟨k + 1, by omega, by go_num, all_snoc hlt HA.out HP.out⟩
            case measure => simp [intOf]; omega
      · go_wp2_with fail
        go_ret
        exact ⟨by rw [tkB_yes h40 hlt HA.out]; rfl, rfl⟩
  · have hgt : 40 < s.size := by omega
    go_enter Try.func52, Try.ntmps52
    go_wp2_with fail
    go_ret
    exact ⟨by rw [tkB_long h40]; rfl, rfl⟩

end Go.Proofs.Ytoenkgenoloihab

/- Contracts: IsTrack of the model and of the program, as the laws ask for them. -/
namespace Go.Proofs.Ytoenkgenoloihab
open Go.ChangeShapes Go.WideShapes Go.ChangeAt Go.RowKit

theorem imIsTrack (s : ByteArray) (hs : s.size ≤ 1048576) (w : World) :
    Calls Try.prog 52 #[.string s] w fun e w' => e = .returned (.bool (tkB s)) ∧ Below w.heap.size w w' := grownOf (imIsTrack_any s hs w)

end Go.Proofs.Ytoenkgenoloihab

/- Contracts: the difference of two points, in the model and in the program. -/
namespace Go.Proofs.Ytoenkgenoloihab
open Go.ChangeShapes Go.WideShapes Go.ChangeAt Go.RowKit

def lsd (a b : Int) : Int := wrap64 (a + wrap64 (-1 * b))

set_option maxRecDepth 100000 in
set_option maxHeartbeats 400000 in
theorem spLess_any (a0 a1 a2 a3 : Int) (b0 b1 b2 b3 : Int) (w : World) :
    Calls Try.prog 81 #[.agg #[.int .i64 a0, .int .i64 a1, .int .i64 a2, .int .i64 a3], .agg #[.int .i64 b0, .int .i64 b1, .int .i64 b2, .int .i64 b3]] w fun e w' => e = .returned (.agg #[.int .i64 (lsd a0 b0), .int .i64 (lsd a1 b1), .int .i64 (lsd a2 b2), .int .i64 (lsd a3 b3)]) ∧ Below w.heap.size w w' := by
  have hS0 := pp_start a0 a1 a2 a3 b0 b1 b2 b3 w 44 44
  go_enter Try.func81, Try.ntmps81
  go_wp2_with fail
  go_region_held3 (fun w' => w'.cell? ⟨w.heap.size, 0, none⟩ = some (.int .i64 a0) ∧ w'.cell? ⟨w.heap.size, 1, none⟩ = some (.int .i64 a1) ∧ w'.cell? ⟨w.heap.size, 2, none⟩ = some (.int .i64 a2) ∧ w'.cell? ⟨w.heap.size, 3, none⟩ = some (.int .i64 a3) ∧ w'.cell? ⟨w.heap.size + 1, 0, none⟩ = some (.int .i64 b0) ∧ w'.cell? ⟨w.heap.size + 1, 1, none⟩ = some (.int .i64 b1) ∧ w'.cell? ⟨w.heap.size + 1, 2, none⟩ = some (.int .i64 b2) ∧ w'.cell? ⟨w.heap.size + 1, 3, none⟩ = some (.int .i64 b3))
    (first | (with_reducible assumption) | (with_reducible exact pp_drew hS0) | (with_reducible exact pp_drew (pp_alloc hS0 _)) | (with_reducible exact pp_alloc (pp_drew hS0) _) | (with_reducible refine pp_drew ?_; with_reducible assumption) | (with_reducible refine pp_alloc ?_ _; with_reducible assumption) | (with_reducible refine pp_re (by with_reducible assumption) ?_ ?_ _; (focus first | (with_reducible assumption) | omega | (simp; done) | (simp; omega)); (focus first | (with_reducible assumption) | omega | (simp; done) | (simp; omega))) | (with_reducible refine pp_below ?_ ?_ ?_ h1; (focus first | (with_reducible assumption) | (with_reducible refine pp_undrew ?_; with_reducible assumption)); (focus first | (with_reducible assumption) | omega | (simp; done) | (simp; omega)); (focus first | (with_reducible assumption) | omega | (simp; done) | (simp; omega))) | ((repeat (with_reducible refine pp_set ?_ _ _ ?_ ?_; rotate_left 1; (focus first | (with_reducible assumption) | omega | (simp; done) | (simp; omega)); (focus first | (with_reducible assumption) | omega | (simp; done) | (simp; omega)))); with_reducible assumption))
    (first | (go_at_call 92; (with_reducible refine (spScale_any b0 b1 b2 b3 (-1) _).mono ?_); rintro e wA ⟨rfl, h1⟩; (try with_reducible replace h1 := undrew h1); have hB : Below w.heap.size w wA := ba (by go_grown) h1; obtain ⟨hcwA, hfwA⟩ := bcell h1; have hqwA := h1.size; (try simp at hqwA); (try have hz0wA : w.heap.size < wA.heap.size := (by omega)); (try have he0wA : w.heap.size ≤ wA.heap.size := (by omega)); (try have hz1wA : w.heap.size + 1 < wA.heap.size := (by omega)); (try have he1wA : w.heap.size + 1 ≤ wA.heap.size := (by omega)); (try have hz2wA : w.heap.size + 1 + 1 < wA.heap.size := (by omega)); (try have he2wA : w.heap.size + 1 + 1 ≤ wA.heap.size := (by omega))) | (go_at_call 70; (with_reducible refine (spAdd_any _ _ _ _ _ _ _ _ _).mono ?_); rintro e wB ⟨rfl, h1⟩; (try with_reducible replace h1 := undrew h1); have hB : Below w.heap.size w wB := ba (by go_grown) h1; obtain ⟨hcwB, hfwB⟩ := bcell h1; have hqwB := h1.size; (try simp at hqwB); (try have hz0wB : w.heap.size < wB.heap.size := (by omega)); (try have he0wB : w.heap.size ≤ wB.heap.size := (by omega)); (try have hz1wB : w.heap.size + 1 < wB.heap.size := (by omega)); (try have he1wB : w.heap.size + 1 ≤ wB.heap.size := (by omega)); (try have hz2wB : w.heap.size + 1 + 1 < wB.heap.size := (by omega)); (try have he2wB : w.heap.size + 1 + 1 ≤ wB.heap.size := (by omega))))
  go_wp2_with fail
  refine bodyPost_ret (by simp [results, Try.results81, go_sem, *]; try rfl) rfl ?_
  exact ⟨by simp [lsd], by go_grown⟩

def lessG (a0 a1 a2 a3 : Int) (b0 b1 b2 b3 : Int) : Bool := goodB a0 a1 a2 a3 && (goodB b0 b1 b2 b3 && goodB (lsd a0 b0) (lsd a1 b1) (lsd a2 b2) (lsd a3 b3))

end Go.Proofs.Ytoenkgenoloihab

/- Cells of steps and points, handed on in bundles. -/
namespace Go.Proofs.Ytoenkgenoloihab
open Go.ChangeShapes Go.WideShapes Go.ChangeAt Go.RowKit

section
variable {B0 : Nat} {v00 v01 v02 v03 v04 : Value} {W w1 : World}
theorem st_below (h : W.cell? ⟨B0, 0, none⟩ = some v00 ∧ W.cell? ⟨B0, 1, none⟩ = some v01 ∧ W.cell? ⟨B0, 2, none⟩ = some v02 ∧ W.cell? ⟨B0, 3, none⟩ = some v03 ∧ W.cell? ⟨B0, 4, none⟩ = some v04) (h0 : B0 < W.heap.size) (hb : Below W.heap.size W w1) : w1.cell? ⟨B0, 0, none⟩ = some v00 ∧ w1.cell? ⟨B0, 1, none⟩ = some v01 ∧ w1.cell? ⟨B0, 2, none⟩ = some v02 ∧ w1.cell? ⟨B0, 3, none⟩ = some v03 ∧ w1.cell? ⟨B0, 4, none⟩ = some v04 :=
  let ⟨k0, k1, k2, k3, k4⟩ := h
  ⟨cl_below k0 h0 hb, cl_below k1 h0 hb, cl_below k2 h0 hb, cl_below k3 h0 hb, cl_below k4 h0 hb⟩

theorem st_alloc (h : W.cell? ⟨B0, 0, none⟩ = some v00 ∧ W.cell? ⟨B0, 1, none⟩ = some v01 ∧ W.cell? ⟨B0, 2, none⟩ = some v02 ∧ W.cell? ⟨B0, 3, none⟩ = some v03 ∧ W.cell? ⟨B0, 4, none⟩ = some v04) (o : Obj) : (W.alloc o).cell? ⟨B0, 0, none⟩ = some v00 ∧ (W.alloc o).cell? ⟨B0, 1, none⟩ = some v01 ∧ (W.alloc o).cell? ⟨B0, 2, none⟩ = some v02 ∧ (W.alloc o).cell? ⟨B0, 3, none⟩ = some v03 ∧ (W.alloc o).cell? ⟨B0, 4, none⟩ = some v04 :=
  let ⟨k0, k1, k2, k3, k4⟩ := h
  ⟨cl_alloc k0 o, cl_alloc k1 o, cl_alloc k2 o, cl_alloc k3 o, cl_alloc k4 o⟩

theorem st_re {o : Obj} (h : (W.alloc o).cell? ⟨B0, 0, none⟩ = some v00 ∧ (W.alloc o).cell? ⟨B0, 1, none⟩ = some v01 ∧ (W.alloc o).cell? ⟨B0, 2, none⟩ = some v02 ∧ (W.alloc o).cell? ⟨B0, 3, none⟩ = some v03 ∧ (W.alloc o).cell? ⟨B0, 4, none⟩ = some v04) (h0 : B0 < W.heap.size) (o2 : Obj) : (W.alloc o2).cell? ⟨B0, 0, none⟩ = some v00 ∧ (W.alloc o2).cell? ⟨B0, 1, none⟩ = some v01 ∧ (W.alloc o2).cell? ⟨B0, 2, none⟩ = some v02 ∧ (W.alloc o2).cell? ⟨B0, 3, none⟩ = some v03 ∧ (W.alloc o2).cell? ⟨B0, 4, none⟩ = some v04 :=
  let ⟨k0, k1, k2, k3, k4⟩ := h
  ⟨cl_re k0 h0 o2, cl_re k1 h0 o2, cl_re k2 h0 o2, cl_re k3 h0 o2, cl_re k4 h0 o2⟩

theorem st_drew (h : W.cell? ⟨B0, 0, none⟩ = some v00 ∧ W.cell? ⟨B0, 1, none⟩ = some v01 ∧ W.cell? ⟨B0, 2, none⟩ = some v02 ∧ W.cell? ⟨B0, 3, none⟩ = some v03 ∧ W.cell? ⟨B0, 4, none⟩ = some v04) : W.drew.cell? ⟨B0, 0, none⟩ = some v00 ∧ W.drew.cell? ⟨B0, 1, none⟩ = some v01 ∧ W.drew.cell? ⟨B0, 2, none⟩ = some v02 ∧ W.drew.cell? ⟨B0, 3, none⟩ = some v03 ∧ W.drew.cell? ⟨B0, 4, none⟩ = some v04 := h

theorem st_undrew (h : W.drew.cell? ⟨B0, 0, none⟩ = some v00 ∧ W.drew.cell? ⟨B0, 1, none⟩ = some v01 ∧ W.drew.cell? ⟨B0, 2, none⟩ = some v02 ∧ W.drew.cell? ⟨B0, 3, none⟩ = some v03 ∧ W.drew.cell? ⟨B0, 4, none⟩ = some v04) : W.cell? ⟨B0, 0, none⟩ = some v00 ∧ W.cell? ⟨B0, 1, none⟩ = some v01 ∧ W.cell? ⟨B0, 2, none⟩ = some v02 ∧ W.cell? ⟨B0, 3, none⟩ = some v03 ∧ W.cell? ⟨B0, 4, none⟩ = some v04 := h

theorem st_set (h : W.cell? ⟨B0, 0, none⟩ = some v00 ∧ W.cell? ⟨B0, 1, none⟩ = some v01 ∧ W.cell? ⟨B0, 2, none⟩ = some v02 ∧ W.cell? ⟨B0, 3, none⟩ = some v03 ∧ W.cell? ⟨B0, 4, none⟩ = some v04) (p : Addr) (u : Value) (h0 : p.block ≠ B0) : (W.setCell p u).cell? ⟨B0, 0, none⟩ = some v00 ∧ (W.setCell p u).cell? ⟨B0, 1, none⟩ = some v01 ∧ (W.setCell p u).cell? ⟨B0, 2, none⟩ = some v02 ∧ (W.setCell p u).cell? ⟨B0, 3, none⟩ = some v03 ∧ (W.setCell p u).cell? ⟨B0, 4, none⟩ = some v04 :=
  let ⟨k0, k1, k2, k3, k4⟩ := h
  ⟨cl_set k0 p u h0, cl_set k1 p u h0, cl_set k2 p u h0, cl_set k3 p u h0, cl_set k4 p u h0⟩
end

section
variable {B0 B1 B2 : Nat} {v00 v01 v02 v03 v04 v10 v11 v12 v13 v20 v21 v22 v23 : Value} {W w1 : World}
theorem stpp_below (h : W.cell? ⟨B0, 0, none⟩ = some v00 ∧ W.cell? ⟨B0, 1, none⟩ = some v01 ∧ W.cell? ⟨B0, 2, none⟩ = some v02 ∧ W.cell? ⟨B0, 3, none⟩ = some v03 ∧ W.cell? ⟨B0, 4, none⟩ = some v04 ∧ W.cell? ⟨B1, 0, none⟩ = some v10 ∧ W.cell? ⟨B1, 1, none⟩ = some v11 ∧ W.cell? ⟨B1, 2, none⟩ = some v12 ∧ W.cell? ⟨B1, 3, none⟩ = some v13 ∧ W.cell? ⟨B2, 0, none⟩ = some v20 ∧ W.cell? ⟨B2, 1, none⟩ = some v21 ∧ W.cell? ⟨B2, 2, none⟩ = some v22 ∧ W.cell? ⟨B2, 3, none⟩ = some v23) (h0 : B0 < W.heap.size) (h1 : B1 < W.heap.size) (h2 : B2 < W.heap.size) (hb : Below W.heap.size W w1) : w1.cell? ⟨B0, 0, none⟩ = some v00 ∧ w1.cell? ⟨B0, 1, none⟩ = some v01 ∧ w1.cell? ⟨B0, 2, none⟩ = some v02 ∧ w1.cell? ⟨B0, 3, none⟩ = some v03 ∧ w1.cell? ⟨B0, 4, none⟩ = some v04 ∧ w1.cell? ⟨B1, 0, none⟩ = some v10 ∧ w1.cell? ⟨B1, 1, none⟩ = some v11 ∧ w1.cell? ⟨B1, 2, none⟩ = some v12 ∧ w1.cell? ⟨B1, 3, none⟩ = some v13 ∧ w1.cell? ⟨B2, 0, none⟩ = some v20 ∧ w1.cell? ⟨B2, 1, none⟩ = some v21 ∧ w1.cell? ⟨B2, 2, none⟩ = some v22 ∧ w1.cell? ⟨B2, 3, none⟩ = some v23 :=
  let ⟨k0, k1, k2, k3, k4, k5, k6, k7, k8, k9, k10, k11, k12⟩ := h
  ⟨cl_below k0 h0 hb, cl_below k1 h0 hb, cl_below k2 h0 hb, cl_below k3 h0 hb, cl_below k4 h0 hb, cl_below k5 h1 hb, cl_below k6 h1 hb, cl_below k7 h1 hb, cl_below k8 h1 hb, cl_below k9 h2 hb, cl_below k10 h2 hb, cl_below k11 h2 hb, cl_below k12 h2 hb⟩

theorem stpp_alloc (h : W.cell? ⟨B0, 0, none⟩ = some v00 ∧ W.cell? ⟨B0, 1, none⟩ = some v01 ∧ W.cell? ⟨B0, 2, none⟩ = some v02 ∧ W.cell? ⟨B0, 3, none⟩ = some v03 ∧ W.cell? ⟨B0, 4, none⟩ = some v04 ∧ W.cell? ⟨B1, 0, none⟩ = some v10 ∧ W.cell? ⟨B1, 1, none⟩ = some v11 ∧ W.cell? ⟨B1, 2, none⟩ = some v12 ∧ W.cell? ⟨B1, 3, none⟩ = some v13 ∧ W.cell? ⟨B2, 0, none⟩ = some v20 ∧ W.cell? ⟨B2, 1, none⟩ = some v21 ∧ W.cell? ⟨B2, 2, none⟩ = some v22 ∧ W.cell? ⟨B2, 3, none⟩ = some v23) (o : Obj) : (W.alloc o).cell? ⟨B0, 0, none⟩ = some v00 ∧ (W.alloc o).cell? ⟨B0, 1, none⟩ = some v01 ∧ (W.alloc o).cell? ⟨B0, 2, none⟩ = some v02 ∧ (W.alloc o).cell? ⟨B0, 3, none⟩ = some v03 ∧ (W.alloc o).cell? ⟨B0, 4, none⟩ = some v04 ∧ (W.alloc o).cell? ⟨B1, 0, none⟩ = some v10 ∧ (W.alloc o).cell? ⟨B1, 1, none⟩ = some v11 ∧ (W.alloc o).cell? ⟨B1, 2, none⟩ = some v12 ∧ (W.alloc o).cell? ⟨B1, 3, none⟩ = some v13 ∧ (W.alloc o).cell? ⟨B2, 0, none⟩ = some v20 ∧ (W.alloc o).cell? ⟨B2, 1, none⟩ = some v21 ∧ (W.alloc o).cell? ⟨B2, 2, none⟩ = some v22 ∧ (W.alloc o).cell? ⟨B2, 3, none⟩ = some v23 :=
  let ⟨k0, k1, k2, k3, k4, k5, k6, k7, k8, k9, k10, k11, k12⟩ := h
  ⟨cl_alloc k0 o, cl_alloc k1 o, cl_alloc k2 o, cl_alloc k3 o, cl_alloc k4 o, cl_alloc k5 o, cl_alloc k6 o, cl_alloc k7 o, cl_alloc k8 o, cl_alloc k9 o, cl_alloc k10 o, cl_alloc k11 o, cl_alloc k12 o⟩

theorem stpp_re {o : Obj} (h : (W.alloc o).cell? ⟨B0, 0, none⟩ = some v00 ∧ (W.alloc o).cell? ⟨B0, 1, none⟩ = some v01 ∧ (W.alloc o).cell? ⟨B0, 2, none⟩ = some v02 ∧ (W.alloc o).cell? ⟨B0, 3, none⟩ = some v03 ∧ (W.alloc o).cell? ⟨B0, 4, none⟩ = some v04 ∧ (W.alloc o).cell? ⟨B1, 0, none⟩ = some v10 ∧ (W.alloc o).cell? ⟨B1, 1, none⟩ = some v11 ∧ (W.alloc o).cell? ⟨B1, 2, none⟩ = some v12 ∧ (W.alloc o).cell? ⟨B1, 3, none⟩ = some v13 ∧ (W.alloc o).cell? ⟨B2, 0, none⟩ = some v20 ∧ (W.alloc o).cell? ⟨B2, 1, none⟩ = some v21 ∧ (W.alloc o).cell? ⟨B2, 2, none⟩ = some v22 ∧ (W.alloc o).cell? ⟨B2, 3, none⟩ = some v23) (h0 : B0 < W.heap.size) (h1 : B1 < W.heap.size) (h2 : B2 < W.heap.size) (o2 : Obj) : (W.alloc o2).cell? ⟨B0, 0, none⟩ = some v00 ∧ (W.alloc o2).cell? ⟨B0, 1, none⟩ = some v01 ∧ (W.alloc o2).cell? ⟨B0, 2, none⟩ = some v02 ∧ (W.alloc o2).cell? ⟨B0, 3, none⟩ = some v03 ∧ (W.alloc o2).cell? ⟨B0, 4, none⟩ = some v04 ∧ (W.alloc o2).cell? ⟨B1, 0, none⟩ = some v10 ∧ (W.alloc o2).cell? ⟨B1, 1, none⟩ = some v11 ∧ (W.alloc o2).cell? ⟨B1, 2, none⟩ = some v12 ∧ (W.alloc o2).cell? ⟨B1, 3, none⟩ = some v13 ∧ (W.alloc o2).cell? ⟨B2, 0, none⟩ = some v20 ∧ (W.alloc o2).cell? ⟨B2, 1, none⟩ = some v21 ∧ (W.alloc o2).cell? ⟨B2, 2, none⟩ = some v22 ∧ (W.alloc o2).cell? ⟨B2, 3, none⟩ = some v23 :=
  let ⟨k0, k1, k2, k3, k4, k5, k6, k7, k8, k9, k10, k11, k12⟩ := h
  ⟨cl_re k0 h0 o2, cl_re k1 h0 o2, cl_re k2 h0 o2, cl_re k3 h0 o2, cl_re k4 h0 o2, cl_re k5 h1 o2, cl_re k6 h1 o2, cl_re k7 h1 o2, cl_re k8 h1 o2, cl_re k9 h2 o2, cl_re k10 h2 o2, cl_re k11 h2 o2, cl_re k12 h2 o2⟩

theorem stpp_drew (h : W.cell? ⟨B0, 0, none⟩ = some v00 ∧ W.cell? ⟨B0, 1, none⟩ = some v01 ∧ W.cell? ⟨B0, 2, none⟩ = some v02 ∧ W.cell? ⟨B0, 3, none⟩ = some v03 ∧ W.cell? ⟨B0, 4, none⟩ = some v04 ∧ W.cell? ⟨B1, 0, none⟩ = some v10 ∧ W.cell? ⟨B1, 1, none⟩ = some v11 ∧ W.cell? ⟨B1, 2, none⟩ = some v12 ∧ W.cell? ⟨B1, 3, none⟩ = some v13 ∧ W.cell? ⟨B2, 0, none⟩ = some v20 ∧ W.cell? ⟨B2, 1, none⟩ = some v21 ∧ W.cell? ⟨B2, 2, none⟩ = some v22 ∧ W.cell? ⟨B2, 3, none⟩ = some v23) : W.drew.cell? ⟨B0, 0, none⟩ = some v00 ∧ W.drew.cell? ⟨B0, 1, none⟩ = some v01 ∧ W.drew.cell? ⟨B0, 2, none⟩ = some v02 ∧ W.drew.cell? ⟨B0, 3, none⟩ = some v03 ∧ W.drew.cell? ⟨B0, 4, none⟩ = some v04 ∧ W.drew.cell? ⟨B1, 0, none⟩ = some v10 ∧ W.drew.cell? ⟨B1, 1, none⟩ = some v11 ∧ W.drew.cell? ⟨B1, 2, none⟩ = some v12 ∧ W.drew.cell? ⟨B1, 3, none⟩ = some v13 ∧ W.drew.cell? ⟨B2, 0, none⟩ = some v20 ∧ W.drew.cell? ⟨B2, 1, none⟩ = some v21 ∧ W.drew.cell? ⟨B2, 2, none⟩ = some v22 ∧ W.drew.cell? ⟨B2, 3, none⟩ = some v23 := h

theorem stpp_undrew (h : W.drew.cell? ⟨B0, 0, none⟩ = some v00 ∧ W.drew.cell? ⟨B0, 1, none⟩ = some v01 ∧ W.drew.cell? ⟨B0, 2, none⟩ = some v02 ∧ W.drew.cell? ⟨B0, 3, none⟩ = some v03 ∧ W.drew.cell? ⟨B0, 4, none⟩ = some v04 ∧ W.drew.cell? ⟨B1, 0, none⟩ = some v10 ∧ W.drew.cell? ⟨B1, 1, none⟩ = some v11 ∧ W.drew.cell? ⟨B1, 2, none⟩ = some v12 ∧ W.drew.cell? ⟨B1, 3, none⟩ = some v13 ∧ W.drew.cell? ⟨B2, 0, none⟩ = some v20 ∧ W.drew.cell? ⟨B2, 1, none⟩ = some v21 ∧ W.drew.cell? ⟨B2, 2, none⟩ = some v22 ∧ W.drew.cell? ⟨B2, 3, none⟩ = some v23) : W.cell? ⟨B0, 0, none⟩ = some v00 ∧ W.cell? ⟨B0, 1, none⟩ = some v01 ∧ W.cell? ⟨B0, 2, none⟩ = some v02 ∧ W.cell? ⟨B0, 3, none⟩ = some v03 ∧ W.cell? ⟨B0, 4, none⟩ = some v04 ∧ W.cell? ⟨B1, 0, none⟩ = some v10 ∧ W.cell? ⟨B1, 1, none⟩ = some v11 ∧ W.cell? ⟨B1, 2, none⟩ = some v12 ∧ W.cell? ⟨B1, 3, none⟩ = some v13 ∧ W.cell? ⟨B2, 0, none⟩ = some v20 ∧ W.cell? ⟨B2, 1, none⟩ = some v21 ∧ W.cell? ⟨B2, 2, none⟩ = some v22 ∧ W.cell? ⟨B2, 3, none⟩ = some v23 := h

theorem stpp_set (h : W.cell? ⟨B0, 0, none⟩ = some v00 ∧ W.cell? ⟨B0, 1, none⟩ = some v01 ∧ W.cell? ⟨B0, 2, none⟩ = some v02 ∧ W.cell? ⟨B0, 3, none⟩ = some v03 ∧ W.cell? ⟨B0, 4, none⟩ = some v04 ∧ W.cell? ⟨B1, 0, none⟩ = some v10 ∧ W.cell? ⟨B1, 1, none⟩ = some v11 ∧ W.cell? ⟨B1, 2, none⟩ = some v12 ∧ W.cell? ⟨B1, 3, none⟩ = some v13 ∧ W.cell? ⟨B2, 0, none⟩ = some v20 ∧ W.cell? ⟨B2, 1, none⟩ = some v21 ∧ W.cell? ⟨B2, 2, none⟩ = some v22 ∧ W.cell? ⟨B2, 3, none⟩ = some v23) (p : Addr) (u : Value) (h0 : p.block ≠ B0) (h1 : p.block ≠ B1) (h2 : p.block ≠ B2) : (W.setCell p u).cell? ⟨B0, 0, none⟩ = some v00 ∧ (W.setCell p u).cell? ⟨B0, 1, none⟩ = some v01 ∧ (W.setCell p u).cell? ⟨B0, 2, none⟩ = some v02 ∧ (W.setCell p u).cell? ⟨B0, 3, none⟩ = some v03 ∧ (W.setCell p u).cell? ⟨B0, 4, none⟩ = some v04 ∧ (W.setCell p u).cell? ⟨B1, 0, none⟩ = some v10 ∧ (W.setCell p u).cell? ⟨B1, 1, none⟩ = some v11 ∧ (W.setCell p u).cell? ⟨B1, 2, none⟩ = some v12 ∧ (W.setCell p u).cell? ⟨B1, 3, none⟩ = some v13 ∧ (W.setCell p u).cell? ⟨B2, 0, none⟩ = some v20 ∧ (W.setCell p u).cell? ⟨B2, 1, none⟩ = some v21 ∧ (W.setCell p u).cell? ⟨B2, 2, none⟩ = some v22 ∧ (W.setCell p u).cell? ⟨B2, 3, none⟩ = some v23 :=
  let ⟨k0, k1, k2, k3, k4, k5, k6, k7, k8, k9, k10, k11, k12⟩ := h
  ⟨cl_set k0 p u h0, cl_set k1 p u h0, cl_set k2 p u h0, cl_set k3 p u h0, cl_set k4 p u h0, cl_set k5 p u h1, cl_set k6 p u h1, cl_set k7 p u h1, cl_set k8 p u h1, cl_set k9 p u h2, cl_set k10 p u h2, cl_set k11 p u h2, cl_set k12 p u h2⟩
end

theorem w64s (n : Int) (h0 : -9000000000000000000 ≤ n) (h1 : n ≤ 9000000000000000000) : wrap64 n = n := IntWalk.wrap64_in n ⟨by omega, by omega⟩

end Go.Proofs.Ytoenkgenoloihab

/- Contracts: the steps of pieces, in the model. -/
namespace Go.Proofs.Ytoenkgenoloihab
open Go.ChangeShapes Go.WideShapes Go.ChangeAt Go.RowKit

set_option linter.unusedVariables false
set_option linter.unusedSimpArgs false

theorem lsd_eq (x y : Int) (px : -999999 ≤ x) (qx : x ≤ 999999) (py : -999999 ≤ y) (qy : y ≤ 999999) : lsd x y = x - y := by
  unfold lsd
  rw [w64s (-1 * y) (by omega) (by omega), w64s _ (by omega) (by omega)]
  omega

theorem lsB (x0 x1 x2 x3 y0 y1 y2 y3 : Int) (px0 : -999999 ≤ x0) (qx0 : x0 ≤ 999999) (px1 : -999999 ≤ x1) (qx1 : x1 ≤ 999999) (px2 : -999999 ≤ x2) (qx2 : x2 ≤ 999999) (px3 : -999999 ≤ x3) (qx3 : x3 ≤ 999999) (py0 : -999999 ≤ y0) (qy0 : y0 ≤ 999999) (py1 : -999999 ≤ y1) (qy1 : y1 ≤ 999999) (py2 : -999999 ≤ y2) (qy2 : y2 ≤ 999999) (py3 : -999999 ≤ y3) (qy3 : y3 ≤ 999999) (w : World) :
    Calls Try.prog 81 #[.agg #[.int .i64 x0, .int .i64 x1, .int .i64 x2, .int .i64 x3], .agg #[.int .i64 y0, .int .i64 y1, .int .i64 y2, .int .i64 y3]] w fun e w' => e = .returned (.agg #[.int .i64 (x0 - y0), .int .i64 (x1 - y1), .int .i64 (x2 - y2), .int .i64 (x3 - y3)]) ∧ Below w.heap.size w w' :=
  (spLess_any x0 x1 x2 x3 y0 y1 y2 y3 w).mono fun e w' ⟨h, hb⟩ => ⟨by rw [h, lsd_eq x0 y0 px0 qx0 py0 qy0, lsd_eq x1 y1 px1 qx1 py1 qy1, lsd_eq x2 y2 px2 qx2 py2 qy2, lsd_eq x3 y3 px3 qx3 py3 qy3], hb⟩

set_option maxRecDepth 100000 in
set_option maxHeartbeats 1600000 in
theorem ptStep_L (h : Int) (h0 : 0 ≤ h) (h7 : h ≤ 7) (w : World) :
    Calls Try.prog 69 #[.int .u8 76, .int .i64 h] w fun e w' => e = .returned (.tuple #[.agg #[.int .i64 ((tu0 ((h + 7) % 8) 1 0 0 0) - (tu0 ((h + 6) % 8) 1 0 0 0)), .int .i64 ((tu1 ((h + 7) % 8) 1 0 0 0) - (tu1 ((h + 6) % 8) 1 0 0 0)), .int .i64 ((tu2 ((h + 7) % 8) 1 0 0 0) - (tu2 ((h + 6) % 8) 1 0 0 0)), .int .i64 ((tu3 ((h + 7) % 8) 1 0 0 0) - (tu3 ((h + 6) % 8) 1 0 0 0))], .int .i64 ((h + 1) % 8)]) ∧ Below w.heap.size w w' := by
  obtain ⟨a0, a0'⟩ := tu_bd0 ((h + 7) % 8) (by omega) (by omega)
  obtain ⟨a1, a1'⟩ := tu_bd1 ((h + 7) % 8) (by omega) (by omega)
  obtain ⟨a2, a2'⟩ := tu_bd2 ((h + 7) % 8) (by omega) (by omega)
  obtain ⟨a3, a3'⟩ := tu_bd3 ((h + 7) % 8) (by omega) (by omega)
  obtain ⟨b0, b0'⟩ := tu_bd0 ((h + 6) % 8) (by omega) (by omega)
  obtain ⟨b1, b1'⟩ := tu_bd1 ((h + 6) % 8) (by omega) (by omega)
  obtain ⟨b2, b2'⟩ := tu_bd2 ((h + 6) % 8) (by omega) (by omega)
  obtain ⟨b3, b3'⟩ := tu_bd3 ((h + 6) % 8) (by omega) (by omega)
  go_enter Try.func69, Try.ntmps69
  go_wp2_with fail
  (go_at_call 82; (with_reducible refine (ptHeading_any (h + 7) (by omega) (by omega) _).mono ?_); rintro e wA ⟨rfl, h1⟩; (try with_reducible replace h1 := undrew h1); have hB : Below w.heap.size w wA := ba (by go_grown) h1; obtain ⟨hcwA, hfwA⟩ := bcell h1; have hqwA := h1.size; (try simp at hqwA); (try have hz0wA : w.heap.size < wA.heap.size := (by omega)); (try have he0wA : w.heap.size ≤ wA.heap.size := (by omega)))
  go_wp2_with fail
  (go_at_call 82; (with_reducible refine (ptHeading_any (h + 6) (by omega) (by omega) _).mono ?_); rintro e wB ⟨rfl, h1⟩; (try with_reducible replace h1 := undrew h1); have hB : Below w.heap.size w wB := ba (by go_grown) h1; obtain ⟨hcwB, hfwB⟩ := bcell h1; have hqwB := h1.size; (try simp at hqwB); (try have hz0wB : w.heap.size < wB.heap.size := (by omega)); (try have he0wB : w.heap.size ≤ wB.heap.size := (by omega)))
  go_wp2_with fail
  (go_at_call 81; (with_reducible refine (lsB (tu0 ((h + 7) % 8) 1 0 0 0) (tu1 ((h + 7) % 8) 1 0 0 0) (tu2 ((h + 7) % 8) 1 0 0 0) (tu3 ((h + 7) % 8) 1 0 0 0) (tu0 ((h + 6) % 8) 1 0 0 0) (tu1 ((h + 6) % 8) 1 0 0 0) (tu2 ((h + 6) % 8) 1 0 0 0) (tu3 ((h + 6) % 8) 1 0 0 0) a0 a0' a1 a1' a2 a2' a3 a3' b0 b0' b1 b1' b2 b2' b3 b3' _).mono ?_); rintro e wC ⟨rfl, h1⟩; (try with_reducible replace h1 := undrew h1); have hB : Below w.heap.size w wC := ba (by go_grown) h1; obtain ⟨hcwC, hfwC⟩ := bcell h1; have hqwC := h1.size; (try simp at hqwC); (try have hz0wC : w.heap.size < wC.heap.size := (by omega)); (try have he0wC : w.heap.size ≤ wC.heap.size := (by omega)))
  go_wp2_with fail
  refine bodyPost_ret (by simp [results, Try.results69, go_sem, *]; try rfl) rfl ?_
  exact ⟨rfl, by go_grown⟩

set_option maxRecDepth 100000 in
set_option maxHeartbeats 1600000 in
theorem ptStep_R (h : Int) (h0 : 0 ≤ h) (h7 : h ≤ 7) (w : World) :
    Calls Try.prog 69 #[.int .u8 82, .int .i64 h] w fun e w' => e = .returned (.tuple #[.agg #[.int .i64 ((tu0 ((h + 1) % 8) 1 0 0 0) - (tu0 ((h + 2) % 8) 1 0 0 0)), .int .i64 ((tu1 ((h + 1) % 8) 1 0 0 0) - (tu1 ((h + 2) % 8) 1 0 0 0)), .int .i64 ((tu2 ((h + 1) % 8) 1 0 0 0) - (tu2 ((h + 2) % 8) 1 0 0 0)), .int .i64 ((tu3 ((h + 1) % 8) 1 0 0 0) - (tu3 ((h + 2) % 8) 1 0 0 0))], .int .i64 ((h + 7) % 8)]) ∧ Below w.heap.size w w' := by
  obtain ⟨a0, a0'⟩ := tu_bd0 ((h + 1) % 8) (by omega) (by omega)
  obtain ⟨a1, a1'⟩ := tu_bd1 ((h + 1) % 8) (by omega) (by omega)
  obtain ⟨a2, a2'⟩ := tu_bd2 ((h + 1) % 8) (by omega) (by omega)
  obtain ⟨a3, a3'⟩ := tu_bd3 ((h + 1) % 8) (by omega) (by omega)
  obtain ⟨b0, b0'⟩ := tu_bd0 ((h + 2) % 8) (by omega) (by omega)
  obtain ⟨b1, b1'⟩ := tu_bd1 ((h + 2) % 8) (by omega) (by omega)
  obtain ⟨b2, b2'⟩ := tu_bd2 ((h + 2) % 8) (by omega) (by omega)
  obtain ⟨b3, b3'⟩ := tu_bd3 ((h + 2) % 8) (by omega) (by omega)
  go_enter Try.func69, Try.ntmps69
  go_wp2_with fail
  (go_at_call 82; (with_reducible refine (ptHeading_any (h + 1) (by omega) (by omega) _).mono ?_); rintro e wA ⟨rfl, h1⟩; (try with_reducible replace h1 := undrew h1); have hB : Below w.heap.size w wA := ba (by go_grown) h1; obtain ⟨hcwA, hfwA⟩ := bcell h1; have hqwA := h1.size; (try simp at hqwA); (try have hz0wA : w.heap.size < wA.heap.size := (by omega)); (try have he0wA : w.heap.size ≤ wA.heap.size := (by omega)))
  go_wp2_with fail
  (go_at_call 82; (with_reducible refine (ptHeading_any (h + 2) (by omega) (by omega) _).mono ?_); rintro e wB ⟨rfl, h1⟩; (try with_reducible replace h1 := undrew h1); have hB : Below w.heap.size w wB := ba (by go_grown) h1; obtain ⟨hcwB, hfwB⟩ := bcell h1; have hqwB := h1.size; (try simp at hqwB); (try have hz0wB : w.heap.size < wB.heap.size := (by omega)); (try have he0wB : w.heap.size ≤ wB.heap.size := (by omega)))
  go_wp2_with fail
  (go_at_call 81; (with_reducible refine (lsB (tu0 ((h + 1) % 8) 1 0 0 0) (tu1 ((h + 1) % 8) 1 0 0 0) (tu2 ((h + 1) % 8) 1 0 0 0) (tu3 ((h + 1) % 8) 1 0 0 0) (tu0 ((h + 2) % 8) 1 0 0 0) (tu1 ((h + 2) % 8) 1 0 0 0) (tu2 ((h + 2) % 8) 1 0 0 0) (tu3 ((h + 2) % 8) 1 0 0 0) a0 a0' a1 a1' a2 a2' a3 a3' b0 b0' b1 b1' b2 b2' b3 b3' _).mono ?_); rintro e wC ⟨rfl, h1⟩; (try with_reducible replace h1 := undrew h1); have hB : Below w.heap.size w wC := ba (by go_grown) h1; obtain ⟨hcwC, hfwC⟩ := bcell h1; have hqwC := h1.size; (try simp at hqwC); (try have hz0wC : w.heap.size < wC.heap.size := (by omega)); (try have he0wC : w.heap.size ≤ wC.heap.size := (by omega)))
  go_wp2_with fail
  refine bodyPost_ret (by simp [results, Try.results69, go_sem, *]; try rfl) rfl ?_
  exact ⟨rfl, by go_grown⟩

set_option maxRecDepth 100000 in
set_option maxHeartbeats 1600000 in
theorem ptStep_S (h : Int) (h0 : 0 ≤ h) (h7 : h ≤ 7) (w : World) :
    Calls Try.prog 69 #[.int .u8 83, .int .i64 h] w fun e w' => e = .returned (.tuple #[.agg #[.int .i64 ((tu0 h 1 0 0 0)), .int .i64 ((tu1 h 1 0 0 0)), .int .i64 ((tu2 h 1 0 0 0)), .int .i64 ((tu3 h 1 0 0 0))], .int .i64 h]) ∧ Below w.heap.size w w' := by
  have hm : h % 8 = h := by omega
  have HM := Lib.hid hm
  clear hm
  go_enter Try.func69, Try.ntmps69
  go_wp2_with fail
  (go_at_call 82; (with_reducible refine (ptHeading_any h (by omega) (by omega) _).mono ?_); rintro e wA ⟨rfl, h1⟩; (try with_reducible replace h1 := undrew h1); have hB : Below w.heap.size w wA := ba (by go_grown) h1; obtain ⟨hcwA, hfwA⟩ := bcell h1; have hqwA := h1.size; (try simp at hqwA); (try have hz0wA : w.heap.size < wA.heap.size := (by omega)); (try have he0wA : w.heap.size ≤ wA.heap.size := (by omega)))
  go_wp2_with fail
  refine bodyPost_ret (by simp [results, Try.results69, go_sem, *]; try rfl) rfl ?_
  exact ⟨by rw [HM.out], by go_grown⟩

end Go.Proofs.Ytoenkgenoloihab

/- Contract: the model's tkLay. -/
namespace Go.Proofs.Ytoenkgenoloihab
open Go.ChangeShapes Go.WideShapes Go.ChangeAt Go.RowKit

set_option linter.unusedVariables false
set_option linter.unusedSimpArgs false

theorem ptInfo : (Try.prog.info? 44).map (fun i => (i.zero, i.size, i.bytes)) = some (some (.agg #[.int .i64 0, .int .i64 0, .int .i64 0, .int .i64 0]), 4, 32) := by kernel_rfl

theorem nmInfo : (Try.prog.info? 3).map (fun i => (i.zero, i.size, i.bytes)) = some (some (.int .i64 0), 1, 8) := by kernel_rfl

theorem own_belowL {W w1 : World} {B : Nat} {e : TypeId} {size n : Nat} {v : Value} {xs : List Value} (h : W.ownsRow B e size v n xs) (hb : Below W.heap.size W w1) : w1.ownsRow B e size v n xs :=
  h.kept (row := none) ⟨hb.os, hb.tape, hb.output, hb.size, fun k hk _ => hb.block k hk⟩ (by cases v.ownBlock <;> simp)

theorem own_setL {W : World} {B : Nat} {e : TypeId} {size n : Nat} {v : Value} {xs : List Value} (h : W.ownsRow B e size v n xs) (p : Addr) (u : Value) (hp : p.block < B) : (W.setCell p u).ownsRow B e size v n xs :=
  h.kept (row := some p.block) ⟨rfl, rfl, rfl, by simp [World.setCell], fun k _ hk => Below.heap_setCell _ _ _ _ (fun e => hk (by simp [e]))⟩ (by
    by_cases hv : v.ownBlock = some p.block
    · have := (h.lt _ hv).1; omega
    · exact .inr hv)

theorem own_ne {W : World} {B : Nat} {e e' : TypeId} {size size' n n' : Nat} {v v' : Value} {xs xs' : List Value} (h : W.ownsRow B e size v n xs) (h' : W.ownsRow B e' size' v' n' xs') (hne : e ≠ e') : v.ownBlock = none ∨ v.ownBlock ≠ v'.ownBlock := by
  rcases h.2 with ⟨rfl, _⟩ | ⟨g, cap, cur, rfl, _, hg, _⟩
  · exact .inl rfl
  · refine .inr fun he => ?_
    rcases h'.2 with ⟨rfl, _⟩ | ⟨g', cap', cur', rfl, _, hg', _⟩
    · cases he
    · simp only [Value.ownBlock, Option.some.injEq] at he
      subst he
      rw [hg] at hg'
      simp only [Option.some.injEq, Obj.cells.injEq] at hg'
      exact hne hg'.2.1

theorem blk_set {W : World} {g : Nat} {t : TypeId} {a0 a1 a2 a3 : Value} (h : W.heap[g]? = some (.cells #[a0, a1, a2, a3] t (0, 0))) (b0 b1 b2 b3 : Value) :
    ((((W.setCell ⟨g, 0, none⟩ b0).setCell ⟨g, 1, none⟩ b1).setCell ⟨g, 2, none⟩ b2).setCell ⟨g, 3, none⟩ b3).heap[g]? = some (.cells #[b0, b1, b2, b3] t (0, 0)) := by
  simp [World.setCell, Array.getElem?_modify, h]

theorem blk_cells {W : World} {g : Nat} {t : TypeId} {a0 a1 a2 a3 : Value} (h : W.heap[g]? = some (.cells #[a0, a1, a2, a3] t (0, 0))) :
    W.cell? ⟨g, 0, none⟩ = some a0 ∧ W.cell? ⟨g, 1, none⟩ = some a1 ∧ W.cell? ⟨g, 2, none⟩ = some a2 ∧ W.cell? ⟨g, 3, none⟩ = some a3 := by
  simp [World.cell?, h]

theorem blk_free {W : World} {g : Nat} {t : TypeId} {a0 a1 a2 a3 : Value} (h : W.heap[g]? = some (.cells #[a0, a1, a2, a3] t (0, 0))) :
    W.frozen? ⟨g, 0, none⟩ = false ∧ W.frozen? ⟨g, 1, none⟩ = false ∧ W.frozen? ⟨g, 2, none⟩ = false ∧ W.frozen? ⟨g, 3, none⟩ = false := by
  simp [World.frozen?, h]

theorem blk_lt {W : World} {g : Nat} {o : Obj} (h : W.heap[g]? = some o) : g < W.heap.size := (Array.getElem?_eq_some_iff.1 h).1

theorem spAddP (x0 x1 x2 x3 y0 y1 y2 y3 : Int) (px0 : -9000000 ≤ x0) (qx0 : x0 ≤ 9000000) (px1 : -9000000 ≤ x1) (qx1 : x1 ≤ 9000000) (px2 : -9000000 ≤ x2) (qx2 : x2 ≤ 9000000) (px3 : -9000000 ≤ x3) (qx3 : x3 ≤ 9000000) (py0 : -9000000 ≤ y0) (qy0 : y0 ≤ 9000000) (py1 : -9000000 ≤ y1) (qy1 : y1 ≤ 9000000) (py2 : -9000000 ≤ y2) (qy2 : y2 ≤ 9000000) (py3 : -9000000 ≤ y3) (qy3 : y3 ≤ 9000000) (w : World) :
    Calls Try.prog 70 #[.agg #[.int .i64 x0, .int .i64 x1, .int .i64 x2, .int .i64 x3], .agg #[.int .i64 y0, .int .i64 y1, .int .i64 y2, .int .i64 y3]] w fun e w' => e = .returned (.agg #[.int .i64 (x0 + y0), .int .i64 (x1 + y1), .int .i64 (x2 + y2), .int .i64 (x3 + y3)]) ∧ Below w.heap.size w w' :=
  (spAdd_any x0 x1 x2 x3 y0 y1 y2 y3 w).mono fun e w' ⟨h, hb⟩ => ⟨by rw [h, w64s (x0 + y0) (by omega) (by omega), w64s (x1 + y1) (by omega) (by omega), w64s (x2 + y2) (by omega) (by omega), w64s (x3 + y3) (by omega) (by omega)], hb⟩

def hdCells (l : List Sp) : List Value := l.map fun s => .int .i64 s.h

theorem hdCells_append (l m : List Sp) : hdCells (l ++ m) = hdCells l ++ hdCells m := by simp [hdCells]

theorem hdCells_length (l : List Sp) : (hdCells l).length = l.length := by simp [hdCells]

theorem layT (a : Sp) (s : ByteArray) (k : Nat) (hk : k < s.size) (c : UInt8) (hc : s[k] = c) : lays a (s.data.toList.take (k + 1)) = lays a (s.data.toList.take k) ++ [(fin a (s.data.toList.take k)).next c] := by
  rw [take_snoc s k hk, lays_snoc, hc]

theorem finT (a : Sp) (s : ByteArray) (k : Nat) (hk : k < s.size) (c : UInt8) (hc : s[k] = c) : fin a (s.data.toList.take (k + 1)) = (fin a (s.data.toList.take k)).next c := by
  rw [take_snoc s k hk, fin_snoc, hc]

def LayPost (a : Sp) (s : ByteArray) (w : World) (e : Ending) (w' : World) : Prop :=
  ∃ gj cj gh ch, e = .returned (.tuple #[.slice (some ⟨gj, 0, none⟩) (s.size + 1) cj, .slice (some ⟨gh, 0, none⟩) (s.size + 1) ch]) ∧
    w'.ownsRow (w.heap.size + 1) 44 4 (.slice (some ⟨gj, 0, none⟩) (s.size + 1) cj) (s.size + 1) (ptCells (lays a s.data.toList)) ∧
    w'.ownsRow (w.heap.size + 1) 3 1 (.slice (some ⟨gh, 0, none⟩) (s.size + 1) ch) (s.size + 1) (hdCells (lays a s.data.toList)) ∧ Below w.heap.size w w'

def LayRel (a : Sp) (s : ByteArray) (w : World) (h vj vh i : Value) (wr : World) : Prop :=
  ∃ (k gj cj gh ch : Nat), k ≤ s.size ∧ i = .int .i64 k ∧ h = .int .i64 (fin a (s.data.toList.take k)).h ∧ vj = .slice (some ⟨gj, 0, none⟩) (k + 1) cj ∧ vh = .slice (some ⟨gh, 0, none⟩) (k + 1) ch ∧
    wr.ownsRow (w.heap.size + 1) 44 4 (.slice (some ⟨gj, 0, none⟩) (k + 1) cj) (k + 1) (ptCells (lays a (s.data.toList.take k))) ∧
    wr.ownsRow (w.heap.size + 1) 3 1 (.slice (some ⟨gh, 0, none⟩) (k + 1) ch) (k + 1) (hdCells (lays a (s.data.toList.take k))) ∧
    wr.heap[w.heap.size]? = some (.cells #[.int .i64 (fin a (s.data.toList.take k)).x0, .int .i64 (fin a (s.data.toList.take k)).x1, .int .i64 (fin a (s.data.toList.take k)).x2, .int .i64 (fin a (s.data.toList.take k)).x3] 44 (0, 0)) ∧ Below w.heap.size w wr

theorem ptStep_any (c : UInt8) (hp : pcb c = true) (h : Int) (h0 : 0 ≤ h) (h7 : h ≤ 7) (w : World) :
    Calls Try.prog 69 #[.int .u8 ((c.toNat : Nat) : Int), .int .i64 h] w fun e w' => e = .returned (.tuple #[.agg #[.int .i64 (dd0 c h), .int .i64 (dd1 c h), .int .i64 (dd2 c h), .int .i64 (dd3 c h)], .int .i64 (nh c h)]) ∧ Below w.heap.size w w' := by
  rcases pcb_cases hp with rfl | rfl | rfl
  · exact ptStep_S h h0 h7 w
  · exact ptStep_L h h0 h7 w
  · exact ptStep_R h h0 h7 w

theorem litCells {W : World} {B n : Nat} {e : TypeId} {size : Nat} {cs : Array Value} {xs : List Value} (hn : W.heap.size = n) (hb : B ≤ n) (hs : cs.size = size) (hx : cs.toList = xs) : (W.alloc (.cells cs e)).ownsRow B e size (.slice (some ⟨n, 0, none⟩) 1 1) 1 xs := by
  subst hn hx
  exact World.ownsRow_lit W cs 1 hb (by decide) (by omega)

theorem newc {W : World} {cs : Array Value} {e : TypeId} {n : Nat} (hn : W.heap.size = n) : ∀ (j : Nat) u, cs.toList[j]? = some u → (W.alloc (.cells cs e)).cell? ((⟨n, 0, none⟩ : Addr).add j) = some u := by
  subst hn
  intro j u hu
  have h := Lib.cell_of_heap (heap_alloc_new W (.cells cs e)) j
  have ha : ((⟨W.heap.size, 0, none⟩ : Addr).add j) = ⟨W.heap.size, j, none⟩ := by by_cases e : j = 0 <;> simp [Addr.add, e]
  rw [ha, h, ← hu]
  simp

set_option maxRecDepth 100000 in
set_option maxHeartbeats 3200000 in
theorem tkLay_any (s : ByteArray) (ht : tkB s = true) (a : Sp) (hn : a.okB 1000000) (w : World) :
    Calls Try.prog 56 #[.string s, .agg #[.int .i64 a.x0, .int .i64 a.x1, .int .i64 a.x2, .int .i64 a.x3], .int .i64 a.h] w (LayPost a s w) := by
  have h40 := tkB_size ht
  have hs : s.size ≤ 1048576 := by omega
  have HT := Lib.hid (fun k hk => tkB_at ht (k := k) hk)
  have HK := Lib.hid hn
  obtain ⟨i0, hi, iz0, iz1, iz2⟩ := info_parts ptInfo
  obtain ⟨j0, ji, jz0, jz1, jz2⟩ := info_parts nmInfo
  clear hn
  go_enter Try.func56, Try.ntmps56
  go_wp2_with fail
  go_loopw [2, 8, 9, 10] (fun h vj vh i wr => LayRel a s w h vj vh i wr) (fun _ _ _ i _ => s.size - (intOf i).toNat)
  case atStart =>
    refine ⟨0, w.heap.size + 1, 1, w.heap.size + 1 + 1, 1, Nat.zero_le _, rfl, rfl, rfl, rfl, ?_, ?_, ?_, by go_grown⟩
    · exact (litCells (by simp) (Nat.le_refl _) rfl rfl).alloc _
    · exact litCells (by simp) (Nat.le_succ _) rfl rfl
    · rw [Below.heap_alloc _ _ _ (by simp; omega), Below.heap_alloc _ _ _ (by simp)]
      exact heap_alloc_new w _
  case round =>
    obtain ⟨k, gj, cj, gh, ch, hk, rfl, rfl, rfl, rfl, hJ, hH, hblk, hb⟩ := hrel
    have hz : w.heap.size ≤ wr.heap.size := hb.size
    by_cases hlt : k < s.size
    · have hp := HT.out k hlt
      have hok := fin_ok HK.out (s.data.toList.take k)
      have hl : (s.data.toList.take k).length ≤ 40 := by rw [List.length_take, size_list]; omega
      have hN := layT a s k hlt _ rfl
      have hF := finT a s k hlt _ rfl
      generalize fin a (s.data.toList.take k) = p at hN hF hok hblk
      obtain ⟨x0, x1, x2, x3, h⟩ := p
      simp only [Sp.okB] at hok
      obtain ⟨⟨b0, b0'⟩, ⟨b1, b1'⟩, ⟨b2, b2'⟩, ⟨b3, b3'⟩, b4, b5⟩ := hok
      have hstep := ptStep_any s[k] hp h b4 b5 wr
      have e0 := dd_bd0 s[k] h
      have e1 := dd_bd1 s[k] h
      have e2 := dd_bd2 s[k] h
      have e3 := dd_bd3 s[k] h
      have hnx : (Sp.mk x0 x1 x2 x3 h).next s[k] = ⟨x0 + dd0 s[k] h, x1 + dd1 s[k] h, x2 + dd2 s[k] h, x3 + dd3 s[k] h, nh s[k] h⟩ := rfl
      rw [hnx] at hN hF
      clear hnx
      generalize dd0 s[k] h = d0 at hN hF hstep e0
      generalize dd1 s[k] h = d1 at hN hF hstep e1
      generalize dd2 s[k] h = d2 at hN hF hstep e2
      generalize dd3 s[k] h = d3 at hN hF hstep e3
      generalize nh s[k] h = t at hN hF hstep
      obtain ⟨e0, e0'⟩ := e0
      obtain ⟨e1, e1'⟩ := e1
      obtain ⟨e2, e2'⟩ := e2
      obtain ⟨e3, e3'⟩ := e3
      have HST := Lib.hid hstep
      have HN := Lib.hid hN
      have HF := Lib.hid hF
      have hzl := blk_lt hblk
      have HJ := Lib.hid hJ
      have HH := Lib.hid hH
      have HB := Lib.hid hb
      have HBK := Lib.hid hblk
      clear hJ hH hb hblk hN hF hstep hp
      go_wp2_with fail
      refine HST.out.mono ?_
      rintro e w1 ⟨rfl, hb1⟩
      have hz1 : wr.heap.size ≤ w1.heap.size := hb1.size
      have hzl1 : w.heap.size < w1.heap.size := by omega
      have HJ1 := Lib.hid (own_belowL HJ.out hb1)
      have HH1 := Lib.hid (own_belowL HH.out hb1)
      have hbk1 := (hb1.block _ hzl).trans HBK.out
      have HB1 := Lib.hid (HB.out.trans (hb1.mono hz))
      obtain ⟨c0, c1, c2, c3⟩ := blk_cells hbk1
      have HBK1 := Lib.hid hbk1
      clear hbk1 hb1
      go_wp2_with fail
      refine (spAddP x0 x1 x2 x3 d0 d1 d2 d3 (by omega) (by omega) (by omega) (by omega) (by omega) (by omega) (by omega) (by omega) (by omega) (by omega) (by omega) (by omega) (by omega) (by omega) (by omega) (by omega) _).mono ?_
      rintro e w2 ⟨rfl, hb2⟩
      have hz2' : w1.heap.size + 1 ≤ w2.heap.size := by have := hb2.size; simpa using this
      have hzl2 : w.heap.size < w2.heap.size := by omega
      have HJ2 := Lib.hid (own_belowL (HJ1.out.alloc _) hb2)
      have HH2 := Lib.hid (own_belowL (HH1.out.alloc _) hb2)
      have hbk2 := (hb2.block w.heap.size (by simp; omega)).trans ((Below.heap_alloc _ _ _ hzl1).trans HBK1.out)
      have HB2 := Lib.hid ((HB1.out.alloc (by omega) _).trans (hb2.mono (by simp; omega)))
      clear c0 c1 c2 c3 hb2
      obtain ⟨c0, c1, c2, c3⟩ := blk_cells hbk2
      obtain ⟨f0, f1, f2, f3⟩ := blk_free hbk2
      have HBK2 := Lib.hid (blk_set hbk2 (.int .i64 (x0 + d0)) (.int .i64 (x1 + d1)) (.int .i64 (x2 + d2)) (.int .i64 (x3 + d3)))
      clear hbk2
      have HJ3 := Lib.hid (own_setL (own_setL (own_setL (own_setL HJ2.out ⟨w.heap.size, 0, none⟩ (.int .i64 (x0 + d0)) (by simp)) ⟨w.heap.size, 1, none⟩ (.int .i64 (x1 + d1)) (by simp)) ⟨w.heap.size, 2, none⟩ (.int .i64 (x2 + d2)) (by simp)) ⟨w.heap.size, 3, none⟩ (.int .i64 (x3 + d3)) (by simp))
      have HH3 := Lib.hid (own_setL (own_setL (own_setL (own_setL HH2.out ⟨w.heap.size, 0, none⟩ (.int .i64 (x0 + d0)) (by simp)) ⟨w.heap.size, 1, none⟩ (.int .i64 (x1 + d1)) (by simp)) ⟨w.heap.size, 2, none⟩ (.int .i64 (x2 + d2)) (by simp)) ⟨w.heap.size, 3, none⟩ (.int .i64 (x3 + d3)) (by simp))
      have HB3 := Lib.hid ((((HB2.out.setCell (p := ⟨w.heap.size, 0, none⟩) (Nat.le_refl _) (.int .i64 (x0 + d0))).setCell (p := ⟨w.heap.size, 1, none⟩) (Nat.le_refl _) (.int .i64 (x1 + d1))).setCell (p := ⟨w.heap.size, 2, none⟩) (Nat.le_refl _) (.int .i64 (x2 + d2))).setCell (p := ⟨w.heap.size, 3, none⟩) (Nat.le_refl _) (.int .i64 (x3 + d3)))
      go_wp2_with (at_builtin; refine wpList_append_own _ rfl _ _ 41 rfl (w.heap.size + 1) 44 i0 (.agg #[.int .i64 0, .int .i64 0, .int .i64 0, .int .i64 0]) 4 32 Try.underlying41 hi iz0 iz1 iz2 rfl (by decide) _ _ _ rfl (HJ3.out.alloc _) ⟨w2.heap.size, 0, none⟩ 1 1 [.int .i64 (x0 + d0), .int .i64 (x1 + d1), .int .i64 (x2 + d2), .int .i64 (x3 + d3)] rfl rfl ?c1 ?c2 ?c3 ?c4 ?c5 ?_)
      case c1 => exact newc (by simp [World.setCell])
      case c2 => intro u hu; simp at hu; rcases hu with rfl | rfl | rfl | rfl <;> rfl
      case c3 => unfold maxLen; omega
      case c4 => omega
      case c5 => simp; omega
      intro v' w3 hJ3 hg3 _
      have HJA := Lib.hid (HJ3.out.alloc (.cells #[.int .i64 (x0 + d0), .int .i64 (x1 + d1), .int .i64 (x2 + d2), .int .i64 (x3 + d3)] 44))
      have HHA := Lib.hid (HH3.out.alloc (.cells #[.int .i64 (x0 + d0), .int .i64 (x1 + d1), .int .i64 (x2 + d2), .int .i64 (x3 + d3)] 44))
      have hne : some w.heap.size ≠ (Value.slice (some ⟨gj, 0, none⟩) (k + 1) cj).ownBlock := fun e => by
        have := (HJA.out.lt _ e.symm).1
        omega
      have hz3 : w2.heap.size + 1 ≤ w3.heap.size := by have := hg3.size; simpa [World.setCell] using this
      have HH4 := Lib.hid (HHA.out.kept hg3 (own_ne HHA.out HJA.out (by decide)))
      have hbk3 := (hg3.block w.heap.size (by simp [World.setCell]; omega) hne).trans ((Below.heap_alloc _ _ _ (by simp [World.setCell]; omega)).trans HBK2.out)
      have HBK3 := Lib.hid hbk3
      have HB4 := Lib.hid ((HB3.out.alloc (by simp [World.setCell]; omega) (.cells #[.int .i64 (x0 + d0), .int .i64 (x1 + d1), .int .i64 (x2 + d2), .int .i64 (x3 + d3)] 44)).grown hg3 (by simp [World.setCell]; omega) (fun k hk => by have := (HJA.out.lt k hk).1; omega))
      obtain ⟨gj', cj', rfl, _⟩ := hJ3.form (by omega)
      have HJ4 := Lib.hid hJ3
      clear hJ3 hg3 hne hbk3 c0 c1 c2 c3 f0 f1 f2 f3
      go_wp2_with (at_builtin; refine wpList_append_own _ rfl _ _ 28 rfl (w.heap.size + 1) 3 j0 (.int .i64 0) 1 8 Try.underlying28 ji jz0 jz1 jz2 rfl (by decide) _ _ _ rfl (HH4.out.alloc _) ⟨w3.heap.size, 0, none⟩ 1 1 [.int .i64 t] rfl rfl ?c1 ?c2 ?c3 ?c4 ?c5 ?_)
      case c1 => exact newc rfl
      case c2 => intro u hu; simp at hu; subst hu; rfl
      case c3 => unfold maxLen; omega
      case c4 => omega
      case c5 => simp; omega
      intro v'' w4 hH5 hg4 _
      have HJB := Lib.hid (HJ4.out.alloc (.cells #[.int .i64 t] 3))
      have HHB := Lib.hid (HH4.out.alloc (.cells #[.int .i64 t] 3))
      have hne : some w.heap.size ≠ (Value.slice (some ⟨gh, 0, none⟩) (k + 1) ch).ownBlock := fun e => by
        have := (HHB.out.lt _ e.symm).1
        omega
      have HJ6 := Lib.hid (HJB.out.kept hg4 (own_ne HJB.out HHB.out (by decide)))
      have HBK4 := Lib.hid ((hg4.block w.heap.size (by simp; omega) hne).trans ((Below.heap_alloc _ _ _ (by omega)).trans HBK3.out))
      have HB5 := Lib.hid ((HB4.out.alloc (by omega) (.cells #[.int .i64 t] 3)).grown hg4 (by simp; omega) (fun k hk => by have := (HHB.out.lt k hk).1; omega))
      obtain ⟨gh', ch', rfl, _⟩ := hH5.form (by omega)
      have HH6 := Lib.hid hH5
      clear hH5 hg4 hne
      go_wp2_with fail
      go_roundw
      case rel => exact ⟨k + 1, gj', cj', gh', ch', by omega, by go_num, by rw [HF.out], rfl, rfl, by rw [HN.out, ptCells_append]; exact HJ6.out, by rw [HN.out, hdCells_append]; exact HH6.out, by rw [HF.out]; exact HBK4.out, HB5.out⟩
      case measure => simp [intOf]; omega
    · obtain rfl : k = s.size := by omega
      have hE := take_all s hlt
      rw [hE] at hJ hH
      have HJ := Lib.hid hJ
      have HH := Lib.hid hH
      have HB := Lib.hid hb
      clear hJ hH hb hE hblk
      go_wp2_with fail
      go_ret2
      exact ⟨gj, cj, gh, ch, rfl, HJ.out, HH.out, HB.out⟩

end Go.Proofs.Ytoenkgenoloihab

/- Contracts: how often a piece is in a track, in the model and in Go's library. -/
namespace Go.Proofs.Ytoenkgenoloihab
open Go.ChangeShapes Go.WideShapes Go.ChangeAt Go.RowKit

theorem ext_toList (s : ByteArray) (k : Nat) (h : k < s.size) : (s.extract k (k + 1)).toList = [s[k]] := by
  rw [ext_one s k h, ByteArray.toList_eq]

set_option maxRecDepth 100000 in
theorem tkCount_any (s : ByteArray) (c : UInt8) (hs : s.size ≤ 40) (w : World) :
    Calls Try.prog 59 #[.string s, .string ⟨#[c]⟩] w fun e w' => e = .returned (.int .i64 (cnt c s.data.toList : Nat)) ∧ w = w' := by
  go_enter Try.func59, Try.ntmps59
  go_wp2_with fail
  go_loop [5, 6] (fun n i => ∃ k : Nat, k ≤ s.size ∧ i = .int .i64 k ∧ n = .int .i64 (cnt c (s.data.toList.take k) : Nat)) (fun _ i => s.size - (intOf i).toNat)
  case atStart => exact ⟨0, Nat.zero_le _, rfl, rfl⟩
  case round =>
    obtain ⟨k, hk, rfl, rfl⟩ := hrel
    have hle := cnt_le c (s.data.toList.take k)
    have hl : (s.data.toList.take k).length ≤ k := List.length_take_le _ _
    by_cases hlt : k < s.size
    · have hx : (s.extract k (k + 1)).toList = [s[k]] := ext_toList s k hlt
      go_wp2_with fail
      · have h : (s[k] == c) = true := by assumption
        go_round
        case rel => exact ⟨k + 1, by omega, by go_num, by rw [take_snoc s k hlt, cnt_snoc, if_pos h]; go_num⟩
        case measure => simp [intOf]; omega
      · have h : (s[k] == c) = false := by assumption
        go_round
        case rel => exact ⟨k + 1, by omega, by go_num, by rw [take_snoc s k hlt, cnt_snoc, if_neg (by simp [h])]; rfl⟩
        case measure => simp [intOf]; omega
    · go_wp2_with fail
      go_ret
      exact ⟨by rw [take_all s hlt]; rfl, rfl⟩

theorem count_any (s : ByteArray) (c : UInt8) (w : World) :
    Calls Try.prog 76 #[.string s, .string ⟨#[c]⟩] w fun e w' => e = .returned (.int .i64 (cnt c s.data.toList : Nat)) ∧ w = w' :=
  (Try.strings_Count_one s c w).mono fun _ _ h => ⟨h.1, h.2.symm⟩

def tuR (s : ByteArray) : Int := cond (tkB s) ((cnt 76 s.data.toList : Int) - (cnt 82 s.data.toList : Int)) 0

theorem one_size {s : ByteArray} (h : s.size = 1) : ∃ c, s = ⟨#[c]⟩ := by
  obtain ⟨⟨d⟩⟩ := s
  match d, h with
  | [c], _ => exact ⟨c, rfl⟩

/-- A text is a piece. -/
def pcS (p : ByteArray) : Bool := p.toList == [83] || (p.toList == [76] || p.toList == [82])

def cpR (s p : ByteArray) : Int := cond (tkB s && pcS p) (cnt (p.toList.headD 0) s.data.toList : Int) 0

theorem pcS_one (c : UInt8) : pcS ⟨#[c]⟩ = pcb c := by
  simp [pcS, pcb, ByteArray.toList_eq]

theorem pcS_size {p : ByteArray} (h : pcS p = true) : ∃ c, p = ⟨#[c]⟩ ∧ pcb c = true := by
  simp only [pcS, Bool.or_eq_true, beq_iff_eq, ByteArray.toList_eq] at h
  obtain ⟨⟨l⟩⟩ := p
  rcases h with h | h | h <;> (simp at h; subst h; exact ⟨_, rfl, by decide⟩)

theorem pcS_no {p : ByteArray} (h : pcS p = false) : (p.toList == [83]) = false ∧ (p.toList == [76]) = false ∧ (p.toList == [82]) = false := by
  simpa [pcS, Bool.or_eq_false_iff] using h

end Go.Proofs.Ytoenkgenoloihab

/- Contract: the model's 'clEnd'. -/
namespace Go.Proofs.Ytoenkgenoloihab
open Go.ChangeShapes Go.WideShapes Go.ChangeAt Go.RowKit

set_option linter.unusedVariables false

theorem tkB_ofE {l : List UInt8} (h1 : l.all pcb = true) (h2 : l.length ≤ 40) : tkB (ofL l) = true := by
  simp only [tkB, ofL_size, Bool.and_eq_true, decide_eq_true_eq]
  exact ⟨h2, h1⟩

theorem own_ptE {W : World} {B n g cap i : Nat} {e : TypeId} {l : List Sp} {s : Sp} (h : W.ownsRow B e 4 (.slice (some ⟨g, 0, none⟩) n cap) n (ptCells l)) (hn : l.length = n) (hs : l[i]? = some s) :
    W.cell? ⟨g, i * 4, none⟩ = some (.int .i64 s.x0) ∧ W.cell? ⟨g, i * 4 + 1, none⟩ = some (.int .i64 s.x1) ∧ W.cell? ⟨g, i * 4 + 2, none⟩ = some (.int .i64 s.x2) ∧ W.cell? ⟨g, i * 4 + 3, none⟩ = some (.int .i64 s.x3) := by
  have hi : i < n := by rw [← hn]; exact (List.getElem?_eq_some_iff.1 hs).1
  have a := fun j (hj : j < 4) => (h.cellAt (i * 4 + j) (by omega)).trans ((by rw [Nat.mul_comm]) : _ = (ptCells l)[4 * i + j]?) |>.trans (ptCells_at l hs j hj)
  exact ⟨a 0 (by omega), a 1 (by omega), a 2 (by omega), a 3 (by omega)⟩

set_option maxRecDepth 100000 in
set_option maxHeartbeats 1600000 in
theorem clEnd_any (l : List UInt8) (hp : l.all pcb = true) (hl : l.length ≤ 14) (h : Int) (h0 : 0 ≤ h) (h7 : h ≤ 7) (w : World) :
    Calls Try.prog 39 #[.string (ofL l), .int .i64 h] w fun e w' =>
      e = .returned (.tuple #[.agg #[.int .i64 (fin ⟨0, 0, 0, 0, h⟩ l).x0, .int .i64 (fin ⟨0, 0, 0, 0, h⟩ l).x1, .int .i64 (fin ⟨0, 0, 0, 0, h⟩ l).x2, .int .i64 (fin ⟨0, 0, 0, 0, h⟩ l).x3], .int .i64 (trW l)]) ∧ Below w.heap.size w w' := by
  have ht := tkB_ofE hp (by omega : l.length ≤ 40)
  have P := Lib.hid (fun w => (tkLay_any (ofL l) ht ⟨0, 0, 0, 0, h⟩ (by simp [Sp.okB, h0, h7]) w : Calls Try.prog 56 #[.string (ofL l), .agg #[.int .i64 0, .int .i64 0, .int .i64 0, .int .i64 0], .int .i64 h] w (LayPost ⟨0, 0, 0, 0, h⟩ (ofL l) w)))
  have hz : (ofL l).size = l.length := ofL_size l
  have hls := lays_last ⟨0, 0, 0, 0, h⟩ l
  have hln := lays_length ⟨0, 0, 0, 0, h⟩ l
  have C1 := Lib.hid (tkCount_any (ofL l) 76 (by omega))
  have C2 := Lib.hid (tkCount_any (ofL l) 82 (by omega))
  have n1 := cnt_le 76 l
  have n2 := cnt_le 82 l
  have hd : (ofL l).data.toList = l := rfl
  rw [hd] at C1 C2
  have HTR := Lib.hid (show trW l = (cnt 76 l : Int) - (cnt 82 l : Int) from rfl)
  generalize cnt 76 l = a at *
  generalize cnt 82 l = b at *
  generalize fin ⟨0, 0, 0, 0, h⟩ l = p at hls ⊢
  obtain ⟨n, hn⟩ : ∃ n, l.length = n := ⟨_, rfl⟩
  rw [hn] at hls hln hz hl n1 n2
  have HLS := Lib.hid hls
  have HLN := Lib.hid hln
  clear hls hln hn
  have HW := Lib.hid (show IntKind.i64.wrap ((a : Int) - (b : Int)) = (a : Int) - (b : Int) by rw [IntKind.wrap_i64]; omega)
  go_enter Try.func39, Try.ntmps39
  go_wp2_with fail
  refine (P.out _).mono ?_
  rintro e w1 ⟨gj, cj, gh, ch, rfl, hJ, hH, hb1⟩
  rw [hz] at hJ ⊢
  have hgj := (hJ.lt gj rfl).1
  have hgj2 := (hJ.lt gj rfl).2
  simp at hgj
  obtain ⟨c0, c1, c2, c3⟩ := own_ptE hJ HLN.out HLS.out
  have HB := Lib.hid (ba (by go_grown) hb1 : Below w.heap.size w w1)
  have f0 : w1.frozen? ⟨w.heap.size, 0, none⟩ = false := by rw [hb1.frozen (p := ⟨w.heap.size, 0, none⟩) (by simp)]; go_simp
  have f1 : w1.frozen? ⟨w.heap.size, 1, none⟩ = false := by rw [hb1.frozen (p := ⟨w.heap.size, 1, none⟩) (by simp)]; go_simp
  have f2 : w1.frozen? ⟨w.heap.size, 2, none⟩ = false := by rw [hb1.frozen (p := ⟨w.heap.size, 2, none⟩) (by simp)]; go_simp
  have f3 : w1.frozen? ⟨w.heap.size, 3, none⟩ = false := by rw [hb1.frozen (p := ⟨w.heap.size, 3, none⟩) (by simp)]; go_simp
  have e0 : w1.cell? ⟨w.heap.size, 0, none⟩ = some (.int .i64 0) := by rw [hb1.cell (p := ⟨w.heap.size, 0, none⟩) (by simp)]; go_simp
  have e1 : w1.cell? ⟨w.heap.size, 1, none⟩ = some (.int .i64 0) := by rw [hb1.cell (p := ⟨w.heap.size, 1, none⟩) (by simp)]; go_simp
  have e2 : w1.cell? ⟨w.heap.size, 2, none⟩ = some (.int .i64 0) := by rw [hb1.cell (p := ⟨w.heap.size, 2, none⟩) (by simp)]; go_simp
  have e3 : w1.cell? ⟨w.heap.size, 3, none⟩ = some (.int .i64 0) := by rw [hb1.cell (p := ⟨w.heap.size, 3, none⟩) (by simp)]; go_simp
  have i1 : (0 : Int) ≤ (n : Int) := by omega
  have i2 : (n : Int) < ((n + 1 : Nat) : Int) := by omega
  have ne1 : ¬ gj = w.heap.size := by omega
  have ne2 : ¬ w.heap.size = gj := by omega
  have hz1 : w.heap.size < w1.heap.size := by have := hb1.size; simp at this; omega
  clear hJ hH hb1
  go_wp2_with fail
  go_region_with (first | (go_at_call 59; first | ((with_reducible refine (C1.out _).mono ?_); rintro e w' ⟨rfl, rfl⟩) | ((with_reducible refine (C2.out _).mono ?_); rintro e w' ⟨rfl, rfl⟩)))
  all_goals
    go_wp2_with fail
    refine bodyPost_ret (by simp [results, Try.results39, go_sem, *]; try rfl) rfl ?_
    have hB := HB.out
    exact ⟨by simp only [HTR.out, HW.out], by go_grown⟩

end Go.Proofs.Ytoenkgenoloihab
