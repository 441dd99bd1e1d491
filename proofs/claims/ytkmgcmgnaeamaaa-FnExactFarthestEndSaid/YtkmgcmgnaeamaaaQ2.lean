/- Contracts and facts, put together (part 2). Conditions: each says its own. -/
import Derived.Test.YtkmgcmgnaeamaaaQ1
import Derived.Lib.Hide
import Derived.Test.YtkmgcmgnaeamaaaProg
import Derived.WalkKit
import Derived.ProofKit
import Derived.Deep.RegionHeld3
import Derived.Sort.Walk0
import Derived.Lib.Bytealg
import Derived.Handy
import Derived.WalkSpells
import Derived.LoopTactic
import Derived.Outline
import Derived.Test.YtkmgcmgnaeamaaaShelf
import Derived.Deep.QuietTactic
import Derived.BigQuiet
import Derived.Lib.MinMax
import Derived.Maps.OwnSet
import Derived.WideKeyEntry
import Derived.DeepKeys4
import Derived.Tactics
import Derived.Laws.AppendOwn
import Derived.Deep.AppendLies
import Derived.Maps.AppendAt

/- Contracts: TurnPoint and HeadingPoint, in the model and in the program; a product of two points in the program. -/
namespace Go.Proofs.Ytkmgcmgnaeamaaa
open Go.ChangeShapes Go.WideShapes Go.ChangeAt Go.RowKit

theorem mul_bd (a b : Int) (h0 : -999999 ≤ a) (h1 : a ≤ 999999) (k0 : -999999 ≤ b) (k1 : b ≤ 999999) : -999998000001 ≤ a * b ∧ a * b ≤ 999998000001 := by
  have ha : a.natAbs ≤ 999999 := by omega
  have hb : b.natAbs ≤ 999999 := by omega
  have hm : (a * b).natAbs ≤ 999998000001 := by rw [Int.natAbs_mul]; exact Nat.mul_le_mul ha hb
  omega

def tm0 (a0 a1 a2 a3 : Int) (b0 b1 b2 b3 : Int) : Int := a0 * b0 - a1 * b3 - a2 * b2 - a3 * b1

def tm1 (a0 a1 a2 a3 : Int) (b0 b1 b2 b3 : Int) : Int := a0 * b1 + a1 * b0 - a2 * b3 - a3 * b2

def tm2 (a0 a1 a2 a3 : Int) (b0 b1 b2 b3 : Int) : Int := a0 * b2 + a1 * b1 + a2 * b0 - a3 * b3

def tm3 (a0 a1 a2 a3 : Int) (b0 b1 b2 b3 : Int) : Int := a0 * b3 + a1 * b2 + a2 * b1 + a3 * b0

set_option maxRecDepth 100000 in
set_option maxHeartbeats 3200000 in
theorem imTimes_any (a0 a1 a2 a3 : Int) (b0 b1 b2 b3 : Int) (pa0 : -999999 ≤ a0) (qa0 : a0 ≤ 999999) (pa1 : -999999 ≤ a1) (qa1 : a1 ≤ 999999) (pa2 : -999999 ≤ a2) (qa2 : a2 ≤ 999999) (pa3 : -999999 ≤ a3) (qa3 : a3 ≤ 999999) (pb0 : -999999 ≤ b0) (qb0 : b0 ≤ 999999) (pb1 : -999999 ≤ b1) (qb1 : b1 ≤ 999999) (pb2 : -999999 ≤ b2) (qb2 : b2 ≤ 999999) (pb3 : -999999 ≤ b3) (qb3 : b3 ≤ 999999) (w : World) :
    Calls Try.prog 108 #[.agg #[.int .i64 a0, .int .i64 a1, .int .i64 a2, .int .i64 a3], .agg #[.int .i64 b0, .int .i64 b1, .int .i64 b2, .int .i64 b3]] w fun e w' => e = .returned (.agg #[.int .i64 (tm0 a0 a1 a2 a3 b0 b1 b2 b3), .int .i64 (tm1 a0 a1 a2 a3 b0 b1 b2 b3), .int .i64 (tm2 a0 a1 a2 a3 b0 b1 b2 b3), .int .i64 (tm3 a0 a1 a2 a3 b0 b1 b2 b3)]) ∧ Below w.heap.size w w' := by
  obtain ⟨l00, u00⟩ := mul_bd a0 b0 pa0 qa0 pb0 qb0
  obtain ⟨l01, u01⟩ := mul_bd a0 b1 pa0 qa0 pb1 qb1
  obtain ⟨l02, u02⟩ := mul_bd a0 b2 pa0 qa0 pb2 qb2
  obtain ⟨l03, u03⟩ := mul_bd a0 b3 pa0 qa0 pb3 qb3
  obtain ⟨l10, u10⟩ := mul_bd a1 b0 pa1 qa1 pb0 qb0
  obtain ⟨l11, u11⟩ := mul_bd a1 b1 pa1 qa1 pb1 qb1
  obtain ⟨l12, u12⟩ := mul_bd a1 b2 pa1 qa1 pb2 qb2
  obtain ⟨l13, u13⟩ := mul_bd a1 b3 pa1 qa1 pb3 qb3
  obtain ⟨l20, u20⟩ := mul_bd a2 b0 pa2 qa2 pb0 qb0
  obtain ⟨l21, u21⟩ := mul_bd a2 b1 pa2 qa2 pb1 qb1
  obtain ⟨l22, u22⟩ := mul_bd a2 b2 pa2 qa2 pb2 qb2
  obtain ⟨l23, u23⟩ := mul_bd a2 b3 pa2 qa2 pb3 qb3
  obtain ⟨l30, u30⟩ := mul_bd a3 b0 pa3 qa3 pb0 qb0
  obtain ⟨l31, u31⟩ := mul_bd a3 b1 pa3 qa3 pb1 qb1
  obtain ⟨l32, u32⟩ := mul_bd a3 b2 pa3 qa3 pb2 qb2
  obtain ⟨l33, u33⟩ := mul_bd a3 b3 pa3 qa3 pb3 qb3
  go_enter Try.func108, Try.ntmps108
  go_wp2
  go_returns
  exact ⟨rfl, by go_grown⟩

end Go.Proofs.Ytkmgcmgnaeamaaa

/- Cells, one and in bundles, handed on through draws, new blocks, stores elsewhere and calls that make memory. -/
namespace Go.Proofs.Ytkmgcmgnaeamaaa
open Go.ChangeShapes Go.WideShapes Go.ChangeAt Go.RowKit

section
variable {b o : Nat} {v : Value} {W w1 : World}
theorem cl_below (h : W.cell? ⟨b, o, none⟩ = some v) (hn : b < W.heap.size) (hb : Below W.heap.size W w1) : w1.cell? ⟨b, o, none⟩ = some v := by
  rw [hb.cell (p := ⟨b, o, none⟩) hn]; exact h

theorem cl_alloc (h : W.cell? ⟨b, o, none⟩ = some v) (x : Obj) : (W.alloc x).cell? ⟨b, o, none⟩ = some v := by
  rw [World.cell?_alloc_some _ _ _ (by simp [h])]; exact h

theorem cl_re {x : Obj} (h : (W.alloc x).cell? ⟨b, o, none⟩ = some v) (hn : b < W.heap.size) (y : Obj) : (W.alloc y).cell? ⟨b, o, none⟩ = some v := by
  rw [World.cell?_alloc_lt _ _ _ (by exact hn)] at h
  rw [World.cell?_alloc_lt _ _ _ (by exact hn)]; exact h

theorem cl_drew (h : W.cell? ⟨b, o, none⟩ = some v) : W.drew.cell? ⟨b, o, none⟩ = some v := h

theorem cl_set (h : W.cell? ⟨b, o, none⟩ = some v) (p : Addr) (u : Value) (hp : p.block ≠ b) : (W.setCell p u).cell? ⟨b, o, none⟩ = some v := by
  rw [World.cell?_setCell_far _ _ _ _ hp]; exact h
end

section
variable {B0 B1 : Nat} {v00 v01 v02 v03 v10 v11 v12 v13 : Value} {W w1 : World}
theorem pp_below (h : W.cell? ⟨B0, 0, none⟩ = some v00 ∧ W.cell? ⟨B0, 1, none⟩ = some v01 ∧ W.cell? ⟨B0, 2, none⟩ = some v02 ∧ W.cell? ⟨B0, 3, none⟩ = some v03 ∧ W.cell? ⟨B1, 0, none⟩ = some v10 ∧ W.cell? ⟨B1, 1, none⟩ = some v11 ∧ W.cell? ⟨B1, 2, none⟩ = some v12 ∧ W.cell? ⟨B1, 3, none⟩ = some v13) (h0 : B0 < W.heap.size) (h1 : B1 < W.heap.size) (hb : Below W.heap.size W w1) : w1.cell? ⟨B0, 0, none⟩ = some v00 ∧ w1.cell? ⟨B0, 1, none⟩ = some v01 ∧ w1.cell? ⟨B0, 2, none⟩ = some v02 ∧ w1.cell? ⟨B0, 3, none⟩ = some v03 ∧ w1.cell? ⟨B1, 0, none⟩ = some v10 ∧ w1.cell? ⟨B1, 1, none⟩ = some v11 ∧ w1.cell? ⟨B1, 2, none⟩ = some v12 ∧ w1.cell? ⟨B1, 3, none⟩ = some v13 :=
  let ⟨k0, k1, k2, k3, k4, k5, k6, k7⟩ := h
  ⟨cl_below k0 h0 hb, cl_below k1 h0 hb, cl_below k2 h0 hb, cl_below k3 h0 hb, cl_below k4 h1 hb, cl_below k5 h1 hb, cl_below k6 h1 hb, cl_below k7 h1 hb⟩

theorem pp_alloc (h : W.cell? ⟨B0, 0, none⟩ = some v00 ∧ W.cell? ⟨B0, 1, none⟩ = some v01 ∧ W.cell? ⟨B0, 2, none⟩ = some v02 ∧ W.cell? ⟨B0, 3, none⟩ = some v03 ∧ W.cell? ⟨B1, 0, none⟩ = some v10 ∧ W.cell? ⟨B1, 1, none⟩ = some v11 ∧ W.cell? ⟨B1, 2, none⟩ = some v12 ∧ W.cell? ⟨B1, 3, none⟩ = some v13) (o : Obj) : (W.alloc o).cell? ⟨B0, 0, none⟩ = some v00 ∧ (W.alloc o).cell? ⟨B0, 1, none⟩ = some v01 ∧ (W.alloc o).cell? ⟨B0, 2, none⟩ = some v02 ∧ (W.alloc o).cell? ⟨B0, 3, none⟩ = some v03 ∧ (W.alloc o).cell? ⟨B1, 0, none⟩ = some v10 ∧ (W.alloc o).cell? ⟨B1, 1, none⟩ = some v11 ∧ (W.alloc o).cell? ⟨B1, 2, none⟩ = some v12 ∧ (W.alloc o).cell? ⟨B1, 3, none⟩ = some v13 :=
  let ⟨k0, k1, k2, k3, k4, k5, k6, k7⟩ := h
  ⟨cl_alloc k0 o, cl_alloc k1 o, cl_alloc k2 o, cl_alloc k3 o, cl_alloc k4 o, cl_alloc k5 o, cl_alloc k6 o, cl_alloc k7 o⟩

theorem pp_re {o : Obj} (h : (W.alloc o).cell? ⟨B0, 0, none⟩ = some v00 ∧ (W.alloc o).cell? ⟨B0, 1, none⟩ = some v01 ∧ (W.alloc o).cell? ⟨B0, 2, none⟩ = some v02 ∧ (W.alloc o).cell? ⟨B0, 3, none⟩ = some v03 ∧ (W.alloc o).cell? ⟨B1, 0, none⟩ = some v10 ∧ (W.alloc o).cell? ⟨B1, 1, none⟩ = some v11 ∧ (W.alloc o).cell? ⟨B1, 2, none⟩ = some v12 ∧ (W.alloc o).cell? ⟨B1, 3, none⟩ = some v13) (h0 : B0 < W.heap.size) (h1 : B1 < W.heap.size) (o2 : Obj) : (W.alloc o2).cell? ⟨B0, 0, none⟩ = some v00 ∧ (W.alloc o2).cell? ⟨B0, 1, none⟩ = some v01 ∧ (W.alloc o2).cell? ⟨B0, 2, none⟩ = some v02 ∧ (W.alloc o2).cell? ⟨B0, 3, none⟩ = some v03 ∧ (W.alloc o2).cell? ⟨B1, 0, none⟩ = some v10 ∧ (W.alloc o2).cell? ⟨B1, 1, none⟩ = some v11 ∧ (W.alloc o2).cell? ⟨B1, 2, none⟩ = some v12 ∧ (W.alloc o2).cell? ⟨B1, 3, none⟩ = some v13 :=
  let ⟨k0, k1, k2, k3, k4, k5, k6, k7⟩ := h
  ⟨cl_re k0 h0 o2, cl_re k1 h0 o2, cl_re k2 h0 o2, cl_re k3 h0 o2, cl_re k4 h1 o2, cl_re k5 h1 o2, cl_re k6 h1 o2, cl_re k7 h1 o2⟩

theorem pp_drew (h : W.cell? ⟨B0, 0, none⟩ = some v00 ∧ W.cell? ⟨B0, 1, none⟩ = some v01 ∧ W.cell? ⟨B0, 2, none⟩ = some v02 ∧ W.cell? ⟨B0, 3, none⟩ = some v03 ∧ W.cell? ⟨B1, 0, none⟩ = some v10 ∧ W.cell? ⟨B1, 1, none⟩ = some v11 ∧ W.cell? ⟨B1, 2, none⟩ = some v12 ∧ W.cell? ⟨B1, 3, none⟩ = some v13) : W.drew.cell? ⟨B0, 0, none⟩ = some v00 ∧ W.drew.cell? ⟨B0, 1, none⟩ = some v01 ∧ W.drew.cell? ⟨B0, 2, none⟩ = some v02 ∧ W.drew.cell? ⟨B0, 3, none⟩ = some v03 ∧ W.drew.cell? ⟨B1, 0, none⟩ = some v10 ∧ W.drew.cell? ⟨B1, 1, none⟩ = some v11 ∧ W.drew.cell? ⟨B1, 2, none⟩ = some v12 ∧ W.drew.cell? ⟨B1, 3, none⟩ = some v13 := h

theorem pp_undrew (h : W.drew.cell? ⟨B0, 0, none⟩ = some v00 ∧ W.drew.cell? ⟨B0, 1, none⟩ = some v01 ∧ W.drew.cell? ⟨B0, 2, none⟩ = some v02 ∧ W.drew.cell? ⟨B0, 3, none⟩ = some v03 ∧ W.drew.cell? ⟨B1, 0, none⟩ = some v10 ∧ W.drew.cell? ⟨B1, 1, none⟩ = some v11 ∧ W.drew.cell? ⟨B1, 2, none⟩ = some v12 ∧ W.drew.cell? ⟨B1, 3, none⟩ = some v13) : W.cell? ⟨B0, 0, none⟩ = some v00 ∧ W.cell? ⟨B0, 1, none⟩ = some v01 ∧ W.cell? ⟨B0, 2, none⟩ = some v02 ∧ W.cell? ⟨B0, 3, none⟩ = some v03 ∧ W.cell? ⟨B1, 0, none⟩ = some v10 ∧ W.cell? ⟨B1, 1, none⟩ = some v11 ∧ W.cell? ⟨B1, 2, none⟩ = some v12 ∧ W.cell? ⟨B1, 3, none⟩ = some v13 := h

theorem pp_set (h : W.cell? ⟨B0, 0, none⟩ = some v00 ∧ W.cell? ⟨B0, 1, none⟩ = some v01 ∧ W.cell? ⟨B0, 2, none⟩ = some v02 ∧ W.cell? ⟨B0, 3, none⟩ = some v03 ∧ W.cell? ⟨B1, 0, none⟩ = some v10 ∧ W.cell? ⟨B1, 1, none⟩ = some v11 ∧ W.cell? ⟨B1, 2, none⟩ = some v12 ∧ W.cell? ⟨B1, 3, none⟩ = some v13) (p : Addr) (u : Value) (h0 : p.block ≠ B0) (h1 : p.block ≠ B1) : (W.setCell p u).cell? ⟨B0, 0, none⟩ = some v00 ∧ (W.setCell p u).cell? ⟨B0, 1, none⟩ = some v01 ∧ (W.setCell p u).cell? ⟨B0, 2, none⟩ = some v02 ∧ (W.setCell p u).cell? ⟨B0, 3, none⟩ = some v03 ∧ (W.setCell p u).cell? ⟨B1, 0, none⟩ = some v10 ∧ (W.setCell p u).cell? ⟨B1, 1, none⟩ = some v11 ∧ (W.setCell p u).cell? ⟨B1, 2, none⟩ = some v12 ∧ (W.setCell p u).cell? ⟨B1, 3, none⟩ = some v13 :=
  let ⟨k0, k1, k2, k3, k4, k5, k6, k7⟩ := h
  ⟨cl_set k0 p u h0, cl_set k1 p u h0, cl_set k2 p u h0, cl_set k3 p u h0, cl_set k4 p u h1, cl_set k5 p u h1, cl_set k6 p u h1, cl_set k7 p u h1⟩
end

section
variable {B0 B1 B2 : Nat} {v00 v01 v02 v03 v10 v11 v12 v13 v20 v21 v22 v23 : Value} {W w1 : World}
theorem ppp_below (h : W.cell? ⟨B0, 0, none⟩ = some v00 ∧ W.cell? ⟨B0, 1, none⟩ = some v01 ∧ W.cell? ⟨B0, 2, none⟩ = some v02 ∧ W.cell? ⟨B0, 3, none⟩ = some v03 ∧ W.cell? ⟨B1, 0, none⟩ = some v10 ∧ W.cell? ⟨B1, 1, none⟩ = some v11 ∧ W.cell? ⟨B1, 2, none⟩ = some v12 ∧ W.cell? ⟨B1, 3, none⟩ = some v13 ∧ W.cell? ⟨B2, 0, none⟩ = some v20 ∧ W.cell? ⟨B2, 1, none⟩ = some v21 ∧ W.cell? ⟨B2, 2, none⟩ = some v22 ∧ W.cell? ⟨B2, 3, none⟩ = some v23) (h0 : B0 < W.heap.size) (h1 : B1 < W.heap.size) (h2 : B2 < W.heap.size) (hb : Below W.heap.size W w1) : w1.cell? ⟨B0, 0, none⟩ = some v00 ∧ w1.cell? ⟨B0, 1, none⟩ = some v01 ∧ w1.cell? ⟨B0, 2, none⟩ = some v02 ∧ w1.cell? ⟨B0, 3, none⟩ = some v03 ∧ w1.cell? ⟨B1, 0, none⟩ = some v10 ∧ w1.cell? ⟨B1, 1, none⟩ = some v11 ∧ w1.cell? ⟨B1, 2, none⟩ = some v12 ∧ w1.cell? ⟨B1, 3, none⟩ = some v13 ∧ w1.cell? ⟨B2, 0, none⟩ = some v20 ∧ w1.cell? ⟨B2, 1, none⟩ = some v21 ∧ w1.cell? ⟨B2, 2, none⟩ = some v22 ∧ w1.cell? ⟨B2, 3, none⟩ = some v23 :=
  let ⟨k0, k1, k2, k3, k4, k5, k6, k7, k8, k9, k10, k11⟩ := h
  ⟨cl_below k0 h0 hb, cl_below k1 h0 hb, cl_below k2 h0 hb, cl_below k3 h0 hb, cl_below k4 h1 hb, cl_below k5 h1 hb, cl_below k6 h1 hb, cl_below k7 h1 hb, cl_below k8 h2 hb, cl_below k9 h2 hb, cl_below k10 h2 hb, cl_below k11 h2 hb⟩

theorem ppp_alloc (h : W.cell? ⟨B0, 0, none⟩ = some v00 ∧ W.cell? ⟨B0, 1, none⟩ = some v01 ∧ W.cell? ⟨B0, 2, none⟩ = some v02 ∧ W.cell? ⟨B0, 3, none⟩ = some v03 ∧ W.cell? ⟨B1, 0, none⟩ = some v10 ∧ W.cell? ⟨B1, 1, none⟩ = some v11 ∧ W.cell? ⟨B1, 2, none⟩ = some v12 ∧ W.cell? ⟨B1, 3, none⟩ = some v13 ∧ W.cell? ⟨B2, 0, none⟩ = some v20 ∧ W.cell? ⟨B2, 1, none⟩ = some v21 ∧ W.cell? ⟨B2, 2, none⟩ = some v22 ∧ W.cell? ⟨B2, 3, none⟩ = some v23) (o : Obj) : (W.alloc o).cell? ⟨B0, 0, none⟩ = some v00 ∧ (W.alloc o).cell? ⟨B0, 1, none⟩ = some v01 ∧ (W.alloc o).cell? ⟨B0, 2, none⟩ = some v02 ∧ (W.alloc o).cell? ⟨B0, 3, none⟩ = some v03 ∧ (W.alloc o).cell? ⟨B1, 0, none⟩ = some v10 ∧ (W.alloc o).cell? ⟨B1, 1, none⟩ = some v11 ∧ (W.alloc o).cell? ⟨B1, 2, none⟩ = some v12 ∧ (W.alloc o).cell? ⟨B1, 3, none⟩ = some v13 ∧ (W.alloc o).cell? ⟨B2, 0, none⟩ = some v20 ∧ (W.alloc o).cell? ⟨B2, 1, none⟩ = some v21 ∧ (W.alloc o).cell? ⟨B2, 2, none⟩ = some v22 ∧ (W.alloc o).cell? ⟨B2, 3, none⟩ = some v23 :=
  let ⟨k0, k1, k2, k3, k4, k5, k6, k7, k8, k9, k10, k11⟩ := h
  ⟨cl_alloc k0 o, cl_alloc k1 o, cl_alloc k2 o, cl_alloc k3 o, cl_alloc k4 o, cl_alloc k5 o, cl_alloc k6 o, cl_alloc k7 o, cl_alloc k8 o, cl_alloc k9 o, cl_alloc k10 o, cl_alloc k11 o⟩

theorem ppp_re {o : Obj} (h : (W.alloc o).cell? ⟨B0, 0, none⟩ = some v00 ∧ (W.alloc o).cell? ⟨B0, 1, none⟩ = some v01 ∧ (W.alloc o).cell? ⟨B0, 2, none⟩ = some v02 ∧ (W.alloc o).cell? ⟨B0, 3, none⟩ = some v03 ∧ (W.alloc o).cell? ⟨B1, 0, none⟩ = some v10 ∧ (W.alloc o).cell? ⟨B1, 1, none⟩ = some v11 ∧ (W.alloc o).cell? ⟨B1, 2, none⟩ = some v12 ∧ (W.alloc o).cell? ⟨B1, 3, none⟩ = some v13 ∧ (W.alloc o).cell? ⟨B2, 0, none⟩ = some v20 ∧ (W.alloc o).cell? ⟨B2, 1, none⟩ = some v21 ∧ (W.alloc o).cell? ⟨B2, 2, none⟩ = some v22 ∧ (W.alloc o).cell? ⟨B2, 3, none⟩ = some v23) (h0 : B0 < W.heap.size) (h1 : B1 < W.heap.size) (h2 : B2 < W.heap.size) (o2 : Obj) : (W.alloc o2).cell? ⟨B0, 0, none⟩ = some v00 ∧ (W.alloc o2).cell? ⟨B0, 1, none⟩ = some v01 ∧ (W.alloc o2).cell? ⟨B0, 2, none⟩ = some v02 ∧ (W.alloc o2).cell? ⟨B0, 3, none⟩ = some v03 ∧ (W.alloc o2).cell? ⟨B1, 0, none⟩ = some v10 ∧ (W.alloc o2).cell? ⟨B1, 1, none⟩ = some v11 ∧ (W.alloc o2).cell? ⟨B1, 2, none⟩ = some v12 ∧ (W.alloc o2).cell? ⟨B1, 3, none⟩ = some v13 ∧ (W.alloc o2).cell? ⟨B2, 0, none⟩ = some v20 ∧ (W.alloc o2).cell? ⟨B2, 1, none⟩ = some v21 ∧ (W.alloc o2).cell? ⟨B2, 2, none⟩ = some v22 ∧ (W.alloc o2).cell? ⟨B2, 3, none⟩ = some v23 :=
  let ⟨k0, k1, k2, k3, k4, k5, k6, k7, k8, k9, k10, k11⟩ := h
  ⟨cl_re k0 h0 o2, cl_re k1 h0 o2, cl_re k2 h0 o2, cl_re k3 h0 o2, cl_re k4 h1 o2, cl_re k5 h1 o2, cl_re k6 h1 o2, cl_re k7 h1 o2, cl_re k8 h2 o2, cl_re k9 h2 o2, cl_re k10 h2 o2, cl_re k11 h2 o2⟩

theorem ppp_drew (h : W.cell? ⟨B0, 0, none⟩ = some v00 ∧ W.cell? ⟨B0, 1, none⟩ = some v01 ∧ W.cell? ⟨B0, 2, none⟩ = some v02 ∧ W.cell? ⟨B0, 3, none⟩ = some v03 ∧ W.cell? ⟨B1, 0, none⟩ = some v10 ∧ W.cell? ⟨B1, 1, none⟩ = some v11 ∧ W.cell? ⟨B1, 2, none⟩ = some v12 ∧ W.cell? ⟨B1, 3, none⟩ = some v13 ∧ W.cell? ⟨B2, 0, none⟩ = some v20 ∧ W.cell? ⟨B2, 1, none⟩ = some v21 ∧ W.cell? ⟨B2, 2, none⟩ = some v22 ∧ W.cell? ⟨B2, 3, none⟩ = some v23) : W.drew.cell? ⟨B0, 0, none⟩ = some v00 ∧ W.drew.cell? ⟨B0, 1, none⟩ = some v01 ∧ W.drew.cell? ⟨B0, 2, none⟩ = some v02 ∧ W.drew.cell? ⟨B0, 3, none⟩ = some v03 ∧ W.drew.cell? ⟨B1, 0, none⟩ = some v10 ∧ W.drew.cell? ⟨B1, 1, none⟩ = some v11 ∧ W.drew.cell? ⟨B1, 2, none⟩ = some v12 ∧ W.drew.cell? ⟨B1, 3, none⟩ = some v13 ∧ W.drew.cell? ⟨B2, 0, none⟩ = some v20 ∧ W.drew.cell? ⟨B2, 1, none⟩ = some v21 ∧ W.drew.cell? ⟨B2, 2, none⟩ = some v22 ∧ W.drew.cell? ⟨B2, 3, none⟩ = some v23 := h

theorem ppp_undrew (h : W.drew.cell? ⟨B0, 0, none⟩ = some v00 ∧ W.drew.cell? ⟨B0, 1, none⟩ = some v01 ∧ W.drew.cell? ⟨B0, 2, none⟩ = some v02 ∧ W.drew.cell? ⟨B0, 3, none⟩ = some v03 ∧ W.drew.cell? ⟨B1, 0, none⟩ = some v10 ∧ W.drew.cell? ⟨B1, 1, none⟩ = some v11 ∧ W.drew.cell? ⟨B1, 2, none⟩ = some v12 ∧ W.drew.cell? ⟨B1, 3, none⟩ = some v13 ∧ W.drew.cell? ⟨B2, 0, none⟩ = some v20 ∧ W.drew.cell? ⟨B2, 1, none⟩ = some v21 ∧ W.drew.cell? ⟨B2, 2, none⟩ = some v22 ∧ W.drew.cell? ⟨B2, 3, none⟩ = some v23) : W.cell? ⟨B0, 0, none⟩ = some v00 ∧ W.cell? ⟨B0, 1, none⟩ = some v01 ∧ W.cell? ⟨B0, 2, none⟩ = some v02 ∧ W.cell? ⟨B0, 3, none⟩ = some v03 ∧ W.cell? ⟨B1, 0, none⟩ = some v10 ∧ W.cell? ⟨B1, 1, none⟩ = some v11 ∧ W.cell? ⟨B1, 2, none⟩ = some v12 ∧ W.cell? ⟨B1, 3, none⟩ = some v13 ∧ W.cell? ⟨B2, 0, none⟩ = some v20 ∧ W.cell? ⟨B2, 1, none⟩ = some v21 ∧ W.cell? ⟨B2, 2, none⟩ = some v22 ∧ W.cell? ⟨B2, 3, none⟩ = some v23 := h

theorem ppp_set (h : W.cell? ⟨B0, 0, none⟩ = some v00 ∧ W.cell? ⟨B0, 1, none⟩ = some v01 ∧ W.cell? ⟨B0, 2, none⟩ = some v02 ∧ W.cell? ⟨B0, 3, none⟩ = some v03 ∧ W.cell? ⟨B1, 0, none⟩ = some v10 ∧ W.cell? ⟨B1, 1, none⟩ = some v11 ∧ W.cell? ⟨B1, 2, none⟩ = some v12 ∧ W.cell? ⟨B1, 3, none⟩ = some v13 ∧ W.cell? ⟨B2, 0, none⟩ = some v20 ∧ W.cell? ⟨B2, 1, none⟩ = some v21 ∧ W.cell? ⟨B2, 2, none⟩ = some v22 ∧ W.cell? ⟨B2, 3, none⟩ = some v23) (p : Addr) (u : Value) (h0 : p.block ≠ B0) (h1 : p.block ≠ B1) (h2 : p.block ≠ B2) : (W.setCell p u).cell? ⟨B0, 0, none⟩ = some v00 ∧ (W.setCell p u).cell? ⟨B0, 1, none⟩ = some v01 ∧ (W.setCell p u).cell? ⟨B0, 2, none⟩ = some v02 ∧ (W.setCell p u).cell? ⟨B0, 3, none⟩ = some v03 ∧ (W.setCell p u).cell? ⟨B1, 0, none⟩ = some v10 ∧ (W.setCell p u).cell? ⟨B1, 1, none⟩ = some v11 ∧ (W.setCell p u).cell? ⟨B1, 2, none⟩ = some v12 ∧ (W.setCell p u).cell? ⟨B1, 3, none⟩ = some v13 ∧ (W.setCell p u).cell? ⟨B2, 0, none⟩ = some v20 ∧ (W.setCell p u).cell? ⟨B2, 1, none⟩ = some v21 ∧ (W.setCell p u).cell? ⟨B2, 2, none⟩ = some v22 ∧ (W.setCell p u).cell? ⟨B2, 3, none⟩ = some v23 :=
  let ⟨k0, k1, k2, k3, k4, k5, k6, k7, k8, k9, k10, k11⟩ := h
  ⟨cl_set k0 p u h0, cl_set k1 p u h0, cl_set k2 p u h0, cl_set k3 p u h0, cl_set k4 p u h1, cl_set k5 p u h1, cl_set k6 p u h1, cl_set k7 p u h1, cl_set k8 p u h2, cl_set k9 p u h2, cl_set k10 p u h2, cl_set k11 p u h2⟩
end

section
variable {B0 B1 : Nat} {v00 v01 v10 v11 : Value} {W w1 : World}
theorem ss_below (h : W.cell? ⟨B0, 0, none⟩ = some v00 ∧ W.cell? ⟨B0, 1, none⟩ = some v01 ∧ W.cell? ⟨B1, 0, none⟩ = some v10 ∧ W.cell? ⟨B1, 1, none⟩ = some v11) (h0 : B0 < W.heap.size) (h1 : B1 < W.heap.size) (hb : Below W.heap.size W w1) : w1.cell? ⟨B0, 0, none⟩ = some v00 ∧ w1.cell? ⟨B0, 1, none⟩ = some v01 ∧ w1.cell? ⟨B1, 0, none⟩ = some v10 ∧ w1.cell? ⟨B1, 1, none⟩ = some v11 :=
  let ⟨k0, k1, k2, k3⟩ := h
  ⟨cl_below k0 h0 hb, cl_below k1 h0 hb, cl_below k2 h1 hb, cl_below k3 h1 hb⟩

theorem ss_alloc (h : W.cell? ⟨B0, 0, none⟩ = some v00 ∧ W.cell? ⟨B0, 1, none⟩ = some v01 ∧ W.cell? ⟨B1, 0, none⟩ = some v10 ∧ W.cell? ⟨B1, 1, none⟩ = some v11) (o : Obj) : (W.alloc o).cell? ⟨B0, 0, none⟩ = some v00 ∧ (W.alloc o).cell? ⟨B0, 1, none⟩ = some v01 ∧ (W.alloc o).cell? ⟨B1, 0, none⟩ = some v10 ∧ (W.alloc o).cell? ⟨B1, 1, none⟩ = some v11 :=
  let ⟨k0, k1, k2, k3⟩ := h
  ⟨cl_alloc k0 o, cl_alloc k1 o, cl_alloc k2 o, cl_alloc k3 o⟩

theorem ss_re {o : Obj} (h : (W.alloc o).cell? ⟨B0, 0, none⟩ = some v00 ∧ (W.alloc o).cell? ⟨B0, 1, none⟩ = some v01 ∧ (W.alloc o).cell? ⟨B1, 0, none⟩ = some v10 ∧ (W.alloc o).cell? ⟨B1, 1, none⟩ = some v11) (h0 : B0 < W.heap.size) (h1 : B1 < W.heap.size) (o2 : Obj) : (W.alloc o2).cell? ⟨B0, 0, none⟩ = some v00 ∧ (W.alloc o2).cell? ⟨B0, 1, none⟩ = some v01 ∧ (W.alloc o2).cell? ⟨B1, 0, none⟩ = some v10 ∧ (W.alloc o2).cell? ⟨B1, 1, none⟩ = some v11 :=
  let ⟨k0, k1, k2, k3⟩ := h
  ⟨cl_re k0 h0 o2, cl_re k1 h0 o2, cl_re k2 h1 o2, cl_re k3 h1 o2⟩

theorem ss_drew (h : W.cell? ⟨B0, 0, none⟩ = some v00 ∧ W.cell? ⟨B0, 1, none⟩ = some v01 ∧ W.cell? ⟨B1, 0, none⟩ = some v10 ∧ W.cell? ⟨B1, 1, none⟩ = some v11) : W.drew.cell? ⟨B0, 0, none⟩ = some v00 ∧ W.drew.cell? ⟨B0, 1, none⟩ = some v01 ∧ W.drew.cell? ⟨B1, 0, none⟩ = some v10 ∧ W.drew.cell? ⟨B1, 1, none⟩ = some v11 := h

theorem ss_undrew (h : W.drew.cell? ⟨B0, 0, none⟩ = some v00 ∧ W.drew.cell? ⟨B0, 1, none⟩ = some v01 ∧ W.drew.cell? ⟨B1, 0, none⟩ = some v10 ∧ W.drew.cell? ⟨B1, 1, none⟩ = some v11) : W.cell? ⟨B0, 0, none⟩ = some v00 ∧ W.cell? ⟨B0, 1, none⟩ = some v01 ∧ W.cell? ⟨B1, 0, none⟩ = some v10 ∧ W.cell? ⟨B1, 1, none⟩ = some v11 := h

theorem ss_set (h : W.cell? ⟨B0, 0, none⟩ = some v00 ∧ W.cell? ⟨B0, 1, none⟩ = some v01 ∧ W.cell? ⟨B1, 0, none⟩ = some v10 ∧ W.cell? ⟨B1, 1, none⟩ = some v11) (p : Addr) (u : Value) (h0 : p.block ≠ B0) (h1 : p.block ≠ B1) : (W.setCell p u).cell? ⟨B0, 0, none⟩ = some v00 ∧ (W.setCell p u).cell? ⟨B0, 1, none⟩ = some v01 ∧ (W.setCell p u).cell? ⟨B1, 0, none⟩ = some v10 ∧ (W.setCell p u).cell? ⟨B1, 1, none⟩ = some v11 :=
  let ⟨k0, k1, k2, k3⟩ := h
  ⟨cl_set k0 p u h0, cl_set k1 p u h0, cl_set k2 p u h1, cl_set k3 p u h1⟩
end

section
variable {B0 B1 B2 : Nat} {v00 v01 v10 v11 v20 v21 : Value} {W w1 : World}
theorem sss_below (h : W.cell? ⟨B0, 0, none⟩ = some v00 ∧ W.cell? ⟨B0, 1, none⟩ = some v01 ∧ W.cell? ⟨B1, 0, none⟩ = some v10 ∧ W.cell? ⟨B1, 1, none⟩ = some v11 ∧ W.cell? ⟨B2, 0, none⟩ = some v20 ∧ W.cell? ⟨B2, 1, none⟩ = some v21) (h0 : B0 < W.heap.size) (h1 : B1 < W.heap.size) (h2 : B2 < W.heap.size) (hb : Below W.heap.size W w1) : w1.cell? ⟨B0, 0, none⟩ = some v00 ∧ w1.cell? ⟨B0, 1, none⟩ = some v01 ∧ w1.cell? ⟨B1, 0, none⟩ = some v10 ∧ w1.cell? ⟨B1, 1, none⟩ = some v11 ∧ w1.cell? ⟨B2, 0, none⟩ = some v20 ∧ w1.cell? ⟨B2, 1, none⟩ = some v21 :=
  let ⟨k0, k1, k2, k3, k4, k5⟩ := h
  ⟨cl_below k0 h0 hb, cl_below k1 h0 hb, cl_below k2 h1 hb, cl_below k3 h1 hb, cl_below k4 h2 hb, cl_below k5 h2 hb⟩

theorem sss_alloc (h : W.cell? ⟨B0, 0, none⟩ = some v00 ∧ W.cell? ⟨B0, 1, none⟩ = some v01 ∧ W.cell? ⟨B1, 0, none⟩ = some v10 ∧ W.cell? ⟨B1, 1, none⟩ = some v11 ∧ W.cell? ⟨B2, 0, none⟩ = some v20 ∧ W.cell? ⟨B2, 1, none⟩ = some v21) (o : Obj) : (W.alloc o).cell? ⟨B0, 0, none⟩ = some v00 ∧ (W.alloc o).cell? ⟨B0, 1, none⟩ = some v01 ∧ (W.alloc o).cell? ⟨B1, 0, none⟩ = some v10 ∧ (W.alloc o).cell? ⟨B1, 1, none⟩ = some v11 ∧ (W.alloc o).cell? ⟨B2, 0, none⟩ = some v20 ∧ (W.alloc o).cell? ⟨B2, 1, none⟩ = some v21 :=
  let ⟨k0, k1, k2, k3, k4, k5⟩ := h
  ⟨cl_alloc k0 o, cl_alloc k1 o, cl_alloc k2 o, cl_alloc k3 o, cl_alloc k4 o, cl_alloc k5 o⟩

theorem sss_re {o : Obj} (h : (W.alloc o).cell? ⟨B0, 0, none⟩ = some v00 ∧ (W.alloc o).cell? ⟨B0, 1, none⟩ = some v01 ∧ (W.alloc o).cell? ⟨B1, 0, none⟩ = some v10 ∧ (W.alloc o).cell? ⟨B1, 1, none⟩ = some v11 ∧ (W.alloc o).cell? ⟨B2, 0, none⟩ = some v20 ∧ (W.alloc o).cell? ⟨B2, 1, none⟩ = some v21) (h0 : B0 < W.heap.size) (h1 : B1 < W.heap.size) (h2 : B2 < W.heap.size) (o2 : Obj) : (W.alloc o2).cell? ⟨B0, 0, none⟩ = some v00 ∧ (W.alloc o2).cell? ⟨B0, 1, none⟩ = some v01 ∧ (W.alloc o2).cell? ⟨B1, 0, none⟩ = some v10 ∧ (W.alloc o2).cell? ⟨B1, 1, none⟩ = some v11 ∧ (W.alloc o2).cell? ⟨B2, 0, none⟩ = some v20 ∧ (W.alloc o2).cell? ⟨B2, 1, none⟩ = some v21 :=
  let ⟨k0, k1, k2, k3, k4, k5⟩ := h
  ⟨cl_re k0 h0 o2, cl_re k1 h0 o2, cl_re k2 h1 o2, cl_re k3 h1 o2, cl_re k4 h2 o2, cl_re k5 h2 o2⟩

theorem sss_drew (h : W.cell? ⟨B0, 0, none⟩ = some v00 ∧ W.cell? ⟨B0, 1, none⟩ = some v01 ∧ W.cell? ⟨B1, 0, none⟩ = some v10 ∧ W.cell? ⟨B1, 1, none⟩ = some v11 ∧ W.cell? ⟨B2, 0, none⟩ = some v20 ∧ W.cell? ⟨B2, 1, none⟩ = some v21) : W.drew.cell? ⟨B0, 0, none⟩ = some v00 ∧ W.drew.cell? ⟨B0, 1, none⟩ = some v01 ∧ W.drew.cell? ⟨B1, 0, none⟩ = some v10 ∧ W.drew.cell? ⟨B1, 1, none⟩ = some v11 ∧ W.drew.cell? ⟨B2, 0, none⟩ = some v20 ∧ W.drew.cell? ⟨B2, 1, none⟩ = some v21 := h

theorem sss_undrew (h : W.drew.cell? ⟨B0, 0, none⟩ = some v00 ∧ W.drew.cell? ⟨B0, 1, none⟩ = some v01 ∧ W.drew.cell? ⟨B1, 0, none⟩ = some v10 ∧ W.drew.cell? ⟨B1, 1, none⟩ = some v11 ∧ W.drew.cell? ⟨B2, 0, none⟩ = some v20 ∧ W.drew.cell? ⟨B2, 1, none⟩ = some v21) : W.cell? ⟨B0, 0, none⟩ = some v00 ∧ W.cell? ⟨B0, 1, none⟩ = some v01 ∧ W.cell? ⟨B1, 0, none⟩ = some v10 ∧ W.cell? ⟨B1, 1, none⟩ = some v11 ∧ W.cell? ⟨B2, 0, none⟩ = some v20 ∧ W.cell? ⟨B2, 1, none⟩ = some v21 := h

theorem sss_set (h : W.cell? ⟨B0, 0, none⟩ = some v00 ∧ W.cell? ⟨B0, 1, none⟩ = some v01 ∧ W.cell? ⟨B1, 0, none⟩ = some v10 ∧ W.cell? ⟨B1, 1, none⟩ = some v11 ∧ W.cell? ⟨B2, 0, none⟩ = some v20 ∧ W.cell? ⟨B2, 1, none⟩ = some v21) (p : Addr) (u : Value) (h0 : p.block ≠ B0) (h1 : p.block ≠ B1) (h2 : p.block ≠ B2) : (W.setCell p u).cell? ⟨B0, 0, none⟩ = some v00 ∧ (W.setCell p u).cell? ⟨B0, 1, none⟩ = some v01 ∧ (W.setCell p u).cell? ⟨B1, 0, none⟩ = some v10 ∧ (W.setCell p u).cell? ⟨B1, 1, none⟩ = some v11 ∧ (W.setCell p u).cell? ⟨B2, 0, none⟩ = some v20 ∧ (W.setCell p u).cell? ⟨B2, 1, none⟩ = some v21 :=
  let ⟨k0, k1, k2, k3, k4, k5⟩ := h
  ⟨cl_set k0 p u h0, cl_set k1 p u h0, cl_set k2 p u h1, cl_set k3 p u h1, cl_set k4 p u h2, cl_set k5 p u h2⟩
end

theorem p_below {n : Nat} {v0 v1 v2 v3 : Value} {W w1 : World} (h : W.cell? ⟨n, 0, none⟩ = some v0 ∧ W.cell? ⟨n, 1, none⟩ = some v1 ∧ W.cell? ⟨n, 2, none⟩ = some v2 ∧ W.cell? ⟨n, 3, none⟩ = some v3) (hn : n < W.heap.size) (hb : Below W.heap.size W w1) :
    w1.cell? ⟨n, 0, none⟩ = some v0 ∧ w1.cell? ⟨n, 1, none⟩ = some v1 ∧ w1.cell? ⟨n, 2, none⟩ = some v2 ∧ w1.cell? ⟨n, 3, none⟩ = some v3 :=
  ⟨cl_below h.1 hn hb, cl_below h.2.1 hn hb, cl_below h.2.2.1 hn hb, cl_below h.2.2.2 hn hb⟩

theorem p_drew {n : Nat} {v0 v1 v2 v3 : Value} {W : World} (h : W.cell? ⟨n, 0, none⟩ = some v0 ∧ W.cell? ⟨n, 1, none⟩ = some v1 ∧ W.cell? ⟨n, 2, none⟩ = some v2 ∧ W.cell? ⟨n, 3, none⟩ = some v3) :
    W.drew.cell? ⟨n, 0, none⟩ = some v0 ∧ W.drew.cell? ⟨n, 1, none⟩ = some v1 ∧ W.drew.cell? ⟨n, 2, none⟩ = some v2 ∧ W.drew.cell? ⟨n, 3, none⟩ = some v3 := h
section
variable {B0 : Nat} {v00 v01 v02 v03 : Value} {W w1 : World}

theorem po_below (h : W.cell? ⟨B0, 0, none⟩ = some v00 ∧ W.cell? ⟨B0, 1, none⟩ = some v01 ∧ W.cell? ⟨B0, 2, none⟩ = some v02 ∧ W.cell? ⟨B0, 3, none⟩ = some v03) (h0 : B0 < W.heap.size) (hb : Below W.heap.size W w1) : w1.cell? ⟨B0, 0, none⟩ = some v00 ∧ w1.cell? ⟨B0, 1, none⟩ = some v01 ∧ w1.cell? ⟨B0, 2, none⟩ = some v02 ∧ w1.cell? ⟨B0, 3, none⟩ = some v03 :=
  let ⟨k0, k1, k2, k3⟩ := h
  ⟨cl_below k0 h0 hb, cl_below k1 h0 hb, cl_below k2 h0 hb, cl_below k3 h0 hb⟩

theorem po_alloc (h : W.cell? ⟨B0, 0, none⟩ = some v00 ∧ W.cell? ⟨B0, 1, none⟩ = some v01 ∧ W.cell? ⟨B0, 2, none⟩ = some v02 ∧ W.cell? ⟨B0, 3, none⟩ = some v03) (o : Obj) : (W.alloc o).cell? ⟨B0, 0, none⟩ = some v00 ∧ (W.alloc o).cell? ⟨B0, 1, none⟩ = some v01 ∧ (W.alloc o).cell? ⟨B0, 2, none⟩ = some v02 ∧ (W.alloc o).cell? ⟨B0, 3, none⟩ = some v03 :=
  let ⟨k0, k1, k2, k3⟩ := h
  ⟨cl_alloc k0 o, cl_alloc k1 o, cl_alloc k2 o, cl_alloc k3 o⟩

theorem po_re {o : Obj} (h : (W.alloc o).cell? ⟨B0, 0, none⟩ = some v00 ∧ (W.alloc o).cell? ⟨B0, 1, none⟩ = some v01 ∧ (W.alloc o).cell? ⟨B0, 2, none⟩ = some v02 ∧ (W.alloc o).cell? ⟨B0, 3, none⟩ = some v03) (h0 : B0 < W.heap.size) (o2 : Obj) : (W.alloc o2).cell? ⟨B0, 0, none⟩ = some v00 ∧ (W.alloc o2).cell? ⟨B0, 1, none⟩ = some v01 ∧ (W.alloc o2).cell? ⟨B0, 2, none⟩ = some v02 ∧ (W.alloc o2).cell? ⟨B0, 3, none⟩ = some v03 :=
  let ⟨k0, k1, k2, k3⟩ := h
  ⟨cl_re k0 h0 o2, cl_re k1 h0 o2, cl_re k2 h0 o2, cl_re k3 h0 o2⟩

theorem po_drew (h : W.cell? ⟨B0, 0, none⟩ = some v00 ∧ W.cell? ⟨B0, 1, none⟩ = some v01 ∧ W.cell? ⟨B0, 2, none⟩ = some v02 ∧ W.cell? ⟨B0, 3, none⟩ = some v03) : W.drew.cell? ⟨B0, 0, none⟩ = some v00 ∧ W.drew.cell? ⟨B0, 1, none⟩ = some v01 ∧ W.drew.cell? ⟨B0, 2, none⟩ = some v02 ∧ W.drew.cell? ⟨B0, 3, none⟩ = some v03 := h

theorem po_undrew (h : W.drew.cell? ⟨B0, 0, none⟩ = some v00 ∧ W.drew.cell? ⟨B0, 1, none⟩ = some v01 ∧ W.drew.cell? ⟨B0, 2, none⟩ = some v02 ∧ W.drew.cell? ⟨B0, 3, none⟩ = some v03) : W.cell? ⟨B0, 0, none⟩ = some v00 ∧ W.cell? ⟨B0, 1, none⟩ = some v01 ∧ W.cell? ⟨B0, 2, none⟩ = some v02 ∧ W.cell? ⟨B0, 3, none⟩ = some v03 := h

theorem po_set (h : W.cell? ⟨B0, 0, none⟩ = some v00 ∧ W.cell? ⟨B0, 1, none⟩ = some v01 ∧ W.cell? ⟨B0, 2, none⟩ = some v02 ∧ W.cell? ⟨B0, 3, none⟩ = some v03) (p : Addr) (u : Value) (h0 : p.block ≠ B0) : (W.setCell p u).cell? ⟨B0, 0, none⟩ = some v00 ∧ (W.setCell p u).cell? ⟨B0, 1, none⟩ = some v01 ∧ (W.setCell p u).cell? ⟨B0, 2, none⟩ = some v02 ∧ (W.setCell p u).cell? ⟨B0, 3, none⟩ = some v03 :=
  let ⟨k0, k1, k2, k3⟩ := h
  ⟨cl_set k0 p u h0, cl_set k1 p u h0, cl_set k2 p u h0, cl_set k3 p u h0⟩
end

theorem po_start (a0 a1 a2 a3 : Int) (w : World) (t : TypeId) : (w.alloc (.cells #[.int .i64 a0, .int .i64 a1, .int .i64 a2, .int .i64 a3] t)).cell? ⟨w.heap.size, 0, none⟩ = some (.int .i64 a0) ∧ (w.alloc (.cells #[.int .i64 a0, .int .i64 a1, .int .i64 a2, .int .i64 a3] t)).cell? ⟨w.heap.size, 1, none⟩ = some (.int .i64 a1) ∧ (w.alloc (.cells #[.int .i64 a0, .int .i64 a1, .int .i64 a2, .int .i64 a3] t)).cell? ⟨w.heap.size, 2, none⟩ = some (.int .i64 a2) ∧ (w.alloc (.cells #[.int .i64 a0, .int .i64 a1, .int .i64 a2, .int .i64 a3] t)).cell? ⟨w.heap.size, 3, none⟩ = some (.int .i64 a3) := by
  refine ⟨?_, ?_, ?_, ?_⟩ <;> go_simp

theorem ss_start (s0 s1 t0 t1 : Int) (w : World) (t s : TypeId) : ((w.alloc (.cells #[.int .i64 s0, .int .i64 s1] t)).alloc (.cells #[.int .i64 t0, .int .i64 t1] s)).cell? ⟨w.heap.size, 0, none⟩ = some (.int .i64 s0) ∧ ((w.alloc (.cells #[.int .i64 s0, .int .i64 s1] t)).alloc (.cells #[.int .i64 t0, .int .i64 t1] s)).cell? ⟨w.heap.size, 1, none⟩ = some (.int .i64 s1) ∧
    ((w.alloc (.cells #[.int .i64 s0, .int .i64 s1] t)).alloc (.cells #[.int .i64 t0, .int .i64 t1] s)).cell? ⟨w.heap.size + 1, 0, none⟩ = some (.int .i64 t0) ∧ ((w.alloc (.cells #[.int .i64 s0, .int .i64 s1] t)).alloc (.cells #[.int .i64 t0, .int .i64 t1] s)).cell? ⟨w.heap.size + 1, 1, none⟩ = some (.int .i64 t1) := by
  refine ⟨?_, ?_, ?_, ?_⟩ <;> go_simp

theorem pp_start (a0 a1 a2 a3 : Int) (b0 b1 b2 b3 : Int) (w : World) (t s : TypeId) : ((w.alloc (.cells #[.int .i64 a0, .int .i64 a1, .int .i64 a2, .int .i64 a3] t)).alloc (.cells #[.int .i64 b0, .int .i64 b1, .int .i64 b2, .int .i64 b3] s)).cell? ⟨w.heap.size, 0, none⟩ = some (.int .i64 a0) ∧ ((w.alloc (.cells #[.int .i64 a0, .int .i64 a1, .int .i64 a2, .int .i64 a3] t)).alloc (.cells #[.int .i64 b0, .int .i64 b1, .int .i64 b2, .int .i64 b3] s)).cell? ⟨w.heap.size, 1, none⟩ = some (.int .i64 a1) ∧ ((w.alloc (.cells #[.int .i64 a0, .int .i64 a1, .int .i64 a2, .int .i64 a3] t)).alloc (.cells #[.int .i64 b0, .int .i64 b1, .int .i64 b2, .int .i64 b3] s)).cell? ⟨w.heap.size, 2, none⟩ = some (.int .i64 a2) ∧ ((w.alloc (.cells #[.int .i64 a0, .int .i64 a1, .int .i64 a2, .int .i64 a3] t)).alloc (.cells #[.int .i64 b0, .int .i64 b1, .int .i64 b2, .int .i64 b3] s)).cell? ⟨w.heap.size, 3, none⟩ = some (.int .i64 a3) ∧ ((w.alloc (.cells #[.int .i64 a0, .int .i64 a1, .int .i64 a2, .int .i64 a3] t)).alloc (.cells #[.int .i64 b0, .int .i64 b1, .int .i64 b2, .int .i64 b3] s)).cell? ⟨w.heap.size + 1, 0, none⟩ = some (.int .i64 b0) ∧ ((w.alloc (.cells #[.int .i64 a0, .int .i64 a1, .int .i64 a2, .int .i64 a3] t)).alloc (.cells #[.int .i64 b0, .int .i64 b1, .int .i64 b2, .int .i64 b3] s)).cell? ⟨w.heap.size + 1, 1, none⟩ = some (.int .i64 b1) ∧ ((w.alloc (.cells #[.int .i64 a0, .int .i64 a1, .int .i64 a2, .int .i64 a3] t)).alloc (.cells #[.int .i64 b0, .int .i64 b1, .int .i64 b2, .int .i64 b3] s)).cell? ⟨w.heap.size + 1, 2, none⟩ = some (.int .i64 b2) ∧ ((w.alloc (.cells #[.int .i64 a0, .int .i64 a1, .int .i64 a2, .int .i64 a3] t)).alloc (.cells #[.int .i64 b0, .int .i64 b1, .int .i64 b2, .int .i64 b3] s)).cell? ⟨w.heap.size + 1, 3, none⟩ = some (.int .i64 b3) := by
  refine ⟨?_, ?_, ?_, ?_, ?_, ?_, ?_, ?_⟩ <;> go_simp

end Go.Proofs.Ytkmgcmgnaeamaaa

/- Contracts: TurnPoint, in the model and in the program. -/
namespace Go.Proofs.Ytkmgcmgnaeamaaa
open Go.ChangeShapes Go.WideShapes Go.ChangeAt Go.RowKit

def tuG (a0 a1 a2 a3 : Int) (k : Int) : Bool := goodB a0 a1 a2 a3 && inB k 0 7

theorem tu_bd0 (k : Int) (h0 : 0 ≤ k) (h7 : k ≤ 7) : -999999 ≤ tu0 k 1 0 0 0 ∧ tu0 k 1 0 0 0 ≤ 999999 := by
  rcases eight k h0 h7 with rfl | rfl | rfl | rfl | rfl | rfl | rfl | rfl <;> simp [tu0]

theorem tm_tu0 (a0 a1 a2 a3 : Int) (k : Int) (h0 : 0 ≤ k) (h7 : k ≤ 7) : tm0 a0 a1 a2 a3 (tu0 k 1 0 0 0) (tu1 k 1 0 0 0) (tu2 k 1 0 0 0) (tu3 k 1 0 0 0) = tu0 k a0 a1 a2 a3 := by
  rcases eight k h0 h7 with rfl | rfl | rfl | rfl | rfl | rfl | rfl | rfl <;> simp [tm0, tu0, tu1, tu2, tu3]

theorem tu_bd1 (k : Int) (h0 : 0 ≤ k) (h7 : k ≤ 7) : -999999 ≤ tu1 k 1 0 0 0 ∧ tu1 k 1 0 0 0 ≤ 999999 := by
  rcases eight k h0 h7 with rfl | rfl | rfl | rfl | rfl | rfl | rfl | rfl <;> simp [tu1]

theorem tm_tu1 (a0 a1 a2 a3 : Int) (k : Int) (h0 : 0 ≤ k) (h7 : k ≤ 7) : tm1 a0 a1 a2 a3 (tu0 k 1 0 0 0) (tu1 k 1 0 0 0) (tu2 k 1 0 0 0) (tu3 k 1 0 0 0) = tu1 k a0 a1 a2 a3 := by
  rcases eight k h0 h7 with rfl | rfl | rfl | rfl | rfl | rfl | rfl | rfl <;> simp [tm1, tu0, tu1, tu2, tu3]

theorem tu_bd2 (k : Int) (h0 : 0 ≤ k) (h7 : k ≤ 7) : -999999 ≤ tu2 k 1 0 0 0 ∧ tu2 k 1 0 0 0 ≤ 999999 := by
  rcases eight k h0 h7 with rfl | rfl | rfl | rfl | rfl | rfl | rfl | rfl <;> simp [tu2]

theorem tm_tu2 (a0 a1 a2 a3 : Int) (k : Int) (h0 : 0 ≤ k) (h7 : k ≤ 7) : tm2 a0 a1 a2 a3 (tu0 k 1 0 0 0) (tu1 k 1 0 0 0) (tu2 k 1 0 0 0) (tu3 k 1 0 0 0) = tu2 k a0 a1 a2 a3 := by
  rcases eight k h0 h7 with rfl | rfl | rfl | rfl | rfl | rfl | rfl | rfl <;> simp [tm2, tu0, tu1, tu2, tu3]

theorem tu_bd3 (k : Int) (h0 : 0 ≤ k) (h7 : k ≤ 7) : -999999 ≤ tu3 k 1 0 0 0 ∧ tu3 k 1 0 0 0 ≤ 999999 := by
  rcases eight k h0 h7 with rfl | rfl | rfl | rfl | rfl | rfl | rfl | rfl <;> simp [tu3]

theorem tm_tu3 (a0 a1 a2 a3 : Int) (k : Int) (h0 : 0 ≤ k) (h7 : k ≤ 7) : tm3 a0 a1 a2 a3 (tu0 k 1 0 0 0) (tu1 k 1 0 0 0) (tu2 k 1 0 0 0) (tu3 k 1 0 0 0) = tu3 k a0 a1 a2 a3 := by
  rcases eight k h0 h7 with rfl | rfl | rfl | rfl | rfl | rfl | rfl | rfl <;> simp [tm3, tu0, tu1, tu2, tu3]

end Go.Proofs.Ytkmgcmgnaeamaaa

/- Steps along a track: where each piece leads. -/
namespace Go.Proofs.Ytkmgcmgnaeamaaa

structure Sp where
  x0 : Int
  x1 : Int
  x2 : Int
  x3 : Int
  h : Int

def Sp.cells (s : Sp) : List Value := [.int .i64 s.x0, .int .i64 s.x1, .int .i64 s.x2, .int .i64 s.x3, .int .i64 s.h]

def Sp.ptc (s : Sp) : List Value := [.int .i64 s.x0, .int .i64 s.x1, .int .i64 s.x2, .int .i64 s.x3]

theorem Sp.cells_length (s : Sp) : s.cells.length = 5 := rfl

theorem Sp.ptc_length (s : Sp) : s.ptc.length = 4 := rfl

def dd0 (c : UInt8) (h : Int) : Int := if c == 76 then tu0 ((h + 7) % 8) 1 0 0 0 - tu0 ((h + 6) % 8) 1 0 0 0 else if c == 82 then tu0 ((h + 1) % 8) 1 0 0 0 - tu0 ((h + 2) % 8) 1 0 0 0 else tu0 h 1 0 0 0

def dd1 (c : UInt8) (h : Int) : Int := if c == 76 then tu1 ((h + 7) % 8) 1 0 0 0 - tu1 ((h + 6) % 8) 1 0 0 0 else if c == 82 then tu1 ((h + 1) % 8) 1 0 0 0 - tu1 ((h + 2) % 8) 1 0 0 0 else tu1 h 1 0 0 0

def dd2 (c : UInt8) (h : Int) : Int := if c == 76 then tu2 ((h + 7) % 8) 1 0 0 0 - tu2 ((h + 6) % 8) 1 0 0 0 else if c == 82 then tu2 ((h + 1) % 8) 1 0 0 0 - tu2 ((h + 2) % 8) 1 0 0 0 else tu2 h 1 0 0 0

def dd3 (c : UInt8) (h : Int) : Int := if c == 76 then tu3 ((h + 7) % 8) 1 0 0 0 - tu3 ((h + 6) % 8) 1 0 0 0 else if c == 82 then tu3 ((h + 1) % 8) 1 0 0 0 - tu3 ((h + 2) % 8) 1 0 0 0 else tu3 h 1 0 0 0

def nh (c : UInt8) (h : Int) : Int := if c == 76 then (h + 1) % 8 else if c == 82 then (h + 7) % 8 else h

def Sp.next (s : Sp) (c : UInt8) : Sp := ⟨s.x0 + dd0 c s.h, s.x1 + dd1 c s.h, s.x2 + dd2 c s.h, s.x3 + dd3 c s.h, nh c s.h⟩

/-- The last step behind the pieces l. -/
def fin (s : Sp) (l : List UInt8) : Sp := l.foldl Sp.next s

/-- The steps before and behind each piece. -/
def lays : Sp → List UInt8 → List Sp
  | s, [] => [s]
  | s, c :: l => s :: lays (s.next c) l

theorem fin_snoc (s : Sp) (l : List UInt8) (c : UInt8) : fin s (l ++ [c]) = (fin s l).next c := by simp [fin, List.foldl_append]

theorem lays_snoc (s : Sp) (l : List UInt8) (c : UInt8) : lays s (l ++ [c]) = lays s l ++ [(fin s l).next c] := by
  induction l generalizing s with
  | nil => rfl
  | cons d l ih => simp [lays, ih, fin]

theorem lays_length (s : Sp) (l : List UInt8) : (lays s l).length = l.length + 1 := by
  induction l generalizing s with
  | nil => rfl
  | cons d l ih => simp [lays, ih]

theorem lays_last (s : Sp) (l : List UInt8) : (lays s l)[l.length]? = some (fin s l) := by
  induction l generalizing s with
  | nil => rfl
  | cons d l ih => simp [lays, ih, fin]

theorem tu_one0 (k : Int) : -1 ≤ tu0 k 1 0 0 0 ∧ tu0 k 1 0 0 0 ≤ 1 := by unfold tu0; repeat' split <;> omega

theorem tu_one1 (k : Int) : -1 ≤ tu1 k 1 0 0 0 ∧ tu1 k 1 0 0 0 ≤ 1 := by unfold tu1; repeat' split <;> omega

theorem tu_one2 (k : Int) : -1 ≤ tu2 k 1 0 0 0 ∧ tu2 k 1 0 0 0 ≤ 1 := by unfold tu2; repeat' split <;> omega

theorem tu_one3 (k : Int) : -1 ≤ tu3 k 1 0 0 0 ∧ tu3 k 1 0 0 0 ≤ 1 := by unfold tu3; repeat' split <;> omega

theorem dd_bd0 (c : UInt8) (h : Int) : -2 ≤ dd0 c h ∧ dd0 c h ≤ 2 := by
  have a := tu_one0 ((h + 7) % 8); have b := tu_one0 ((h + 6) % 8); have d := tu_one0 ((h + 1) % 8); have e := tu_one0 ((h + 2) % 8); have f := tu_one0 h
  unfold dd0; repeat' split <;> omega

theorem dd_bd1 (c : UInt8) (h : Int) : -2 ≤ dd1 c h ∧ dd1 c h ≤ 2 := by
  have a := tu_one1 ((h + 7) % 8); have b := tu_one1 ((h + 6) % 8); have d := tu_one1 ((h + 1) % 8); have e := tu_one1 ((h + 2) % 8); have f := tu_one1 h
  unfold dd1; repeat' split <;> omega

theorem dd_bd2 (c : UInt8) (h : Int) : -2 ≤ dd2 c h ∧ dd2 c h ≤ 2 := by
  have a := tu_one2 ((h + 7) % 8); have b := tu_one2 ((h + 6) % 8); have d := tu_one2 ((h + 1) % 8); have e := tu_one2 ((h + 2) % 8); have f := tu_one2 h
  unfold dd2; repeat' split <;> omega

theorem dd_bd3 (c : UInt8) (h : Int) : -2 ≤ dd3 c h ∧ dd3 c h ≤ 2 := by
  have a := tu_one3 ((h + 7) % 8); have b := tu_one3 ((h + 6) % 8); have d := tu_one3 ((h + 1) % 8); have e := tu_one3 ((h + 2) % 8); have f := tu_one3 h
  unfold dd3; repeat' split <;> omega

theorem nh_bd (c : UInt8) (h : Int) (h0 : 0 ≤ h) (h7 : h ≤ 7) : 0 ≤ nh c h ∧ nh c h ≤ 7 := by unfold nh; repeat' split <;> omega

/-- A step whose numbers are no more than n in size, with a heading. -/
def Sp.okB (s : Sp) (n : Int) : Prop := (-n ≤ s.x0 ∧ s.x0 ≤ n) ∧ (-n ≤ s.x1 ∧ s.x1 ≤ n) ∧ (-n ≤ s.x2 ∧ s.x2 ≤ n) ∧ (-n ≤ s.x3 ∧ s.x3 ≤ n) ∧ 0 ≤ s.h ∧ s.h ≤ 7

theorem Sp.okB.next {s : Sp} {n : Int} (h : s.okB n) (c : UInt8) : (s.next c).okB (n + 2) := by
  obtain ⟨h0, h1, h2, h3, h4, h5⟩ := h
  have d0 := dd_bd0 c s.h; have d1 := dd_bd1 c s.h; have d2 := dd_bd2 c s.h; have d3 := dd_bd3 c s.h
  have d4 := nh_bd c s.h h4 h5
  simp only [Sp.okB, Sp.next]
  omega

theorem Sp.okB.mono {s : Sp} {n m : Int} (h : s.okB n) (hm : n ≤ m) : s.okB m := by
  obtain ⟨h0, h1, h2, h3, h4, h5⟩ := h
  simp only [Sp.okB]
  omega

theorem fin_ok {s : Sp} {n : Int} (h : s.okB n) (l : List UInt8) : (fin s l).okB (n + 2 * l.length) := by
  induction l generalizing s n with
  | nil => simpa [fin] using h
  | cons c l ih =>
    have := ih (h.next c)
    simp only [fin, List.foldl_cons, List.length_cons] at this ⊢
    exact this.mono (by omega)

def sp0 : Sp := ⟨0, 0, 0, 0, 0⟩

theorem sp0_ok : sp0.okB 0 := by simp [Sp.okB, sp0]

/-- All cells of a list of steps, one after the other. -/
def spCells (l : List Sp) : List Value := (l.map Sp.cells).flatten

def ptCells (l : List Sp) : List Value := (l.map Sp.ptc).flatten

theorem spCells_length (l : List Sp) : (spCells l).length = 5 * l.length := by
  induction l with
  | nil => rfl
  | cons a l ih => simp only [spCells, List.map_cons, List.flatten_cons, List.length_append, Sp.cells_length, List.length_cons] at ih ⊢; omega

theorem ptCells_length (l : List Sp) : (ptCells l).length = 4 * l.length := by
  induction l with
  | nil => rfl
  | cons a l ih => simp only [ptCells, List.map_cons, List.flatten_cons, List.length_append, Sp.ptc_length, List.length_cons] at ih ⊢; omega

theorem spCells_append (l m : List Sp) : spCells (l ++ m) = spCells l ++ spCells m := by simp [spCells]

theorem ptCells_append (l m : List Sp) : ptCells (l ++ m) = ptCells l ++ ptCells m := by simp [ptCells]

theorem spCells_at (l : List Sp) {i : Nat} {s : Sp} (h : l[i]? = some s) (j : Nat) (hj : j < 5) : (spCells l)[5 * i + j]? = s.cells[j]? := by
  induction l generalizing i with
  | nil => simp at h
  | cons a l ih =>
    have e : spCells (a :: l) = a.cells ++ spCells l := by simp [spCells]
    rw [e]
    cases i with
    | zero =>
      simp at h; subst h
      rw [List.getElem?_append_left (by rw [Sp.cells_length]; omega)]
      simp
    | succ i =>
      simp at h
      rw [List.getElem?_append_right (by rw [Sp.cells_length]; omega), Sp.cells_length, ← ih h]
      congr 1
      omega

theorem ptCells_at (l : List Sp) {i : Nat} {s : Sp} (h : l[i]? = some s) (j : Nat) (hj : j < 4) : (ptCells l)[4 * i + j]? = s.ptc[j]? := by
  induction l generalizing i with
  | nil => simp at h
  | cons a l ih =>
    have e : ptCells (a :: l) = a.ptc ++ ptCells l := by simp [ptCells]
    rw [e]
    cases i with
    | zero =>
      simp at h; subst h
      rw [List.getElem?_append_left (by rw [Sp.ptc_length]; omega)]
      simp
    | succ i =>
      simp at h
      rw [List.getElem?_append_right (by rw [Sp.ptc_length]; omega), Sp.ptc_length, ← ih h]
      congr 1
      omega

theorem spCells_one (l : List Sp) : ∀ u ∈ spCells l, u.oneCell' = true := by
  intro u hu
  simp only [spCells, List.mem_flatten, List.mem_map] at hu
  obtain ⟨_, ⟨s, _, rfl⟩, hu⟩ := hu
  simp only [Sp.cells, List.mem_cons, List.not_mem_nil, or_false] at hu
  rcases hu with rfl | rfl | rfl | rfl | rfl <;> rfl

theorem ptCells_one (l : List Sp) : ∀ u ∈ ptCells l, u.oneCell' = true := by
  intro u hu
  simp only [ptCells, List.mem_flatten, List.mem_map] at hu
  obtain ⟨_, ⟨s, _, rfl⟩, hu⟩ := hu
  simp only [Sp.ptc, List.mem_cons, List.not_mem_nil, or_false] at hu
  rcases hu with rfl | rfl | rfl | rfl <;> rfl

end Go.Proofs.Ytkmgcmgnaeamaaa

/- A track laid from a point with a heading: turned and moved. -/
namespace Go.Proofs.Ytkmgcmgnaeamaaa

theorem tS0 (k h : Int) (k0 : 0 ≤ k) (k7 : k ≤ 7) (h0 : 0 ≤ h) (h7 : h ≤ 7) : tu0 ((k + h) % 8) 1 0 0 0 = tu0 k (tu0 h 1 0 0 0) (tu1 h 1 0 0 0) (tu2 h 1 0 0 0) (tu3 h 1 0 0 0) := by
  rcases eight k k0 k7 with rfl | rfl | rfl | rfl | rfl | rfl | rfl | rfl <;> rcases eight h h0 h7 with rfl | rfl | rfl | rfl | rfl | rfl | rfl | rfl <;> decide

theorem tS1 (k h : Int) (k0 : 0 ≤ k) (k7 : k ≤ 7) (h0 : 0 ≤ h) (h7 : h ≤ 7) : tu1 ((k + h) % 8) 1 0 0 0 = tu1 k (tu0 h 1 0 0 0) (tu1 h 1 0 0 0) (tu2 h 1 0 0 0) (tu3 h 1 0 0 0) := by
  rcases eight k k0 k7 with rfl | rfl | rfl | rfl | rfl | rfl | rfl | rfl <;> rcases eight h h0 h7 with rfl | rfl | rfl | rfl | rfl | rfl | rfl | rfl <;> decide

theorem tS2 (k h : Int) (k0 : 0 ≤ k) (k7 : k ≤ 7) (h0 : 0 ≤ h) (h7 : h ≤ 7) : tu2 ((k + h) % 8) 1 0 0 0 = tu2 k (tu0 h 1 0 0 0) (tu1 h 1 0 0 0) (tu2 h 1 0 0 0) (tu3 h 1 0 0 0) := by
  rcases eight k k0 k7 with rfl | rfl | rfl | rfl | rfl | rfl | rfl | rfl <;> rcases eight h h0 h7 with rfl | rfl | rfl | rfl | rfl | rfl | rfl | rfl <;> decide

theorem tS3 (k h : Int) (k0 : 0 ≤ k) (k7 : k ≤ 7) (h0 : 0 ≤ h) (h7 : h ≤ 7) : tu3 ((k + h) % 8) 1 0 0 0 = tu3 k (tu0 h 1 0 0 0) (tu1 h 1 0 0 0) (tu2 h 1 0 0 0) (tu3 h 1 0 0 0) := by
  rcases eight k k0 k7 with rfl | rfl | rfl | rfl | rfl | rfl | rfl | rfl <;> rcases eight h h0 h7 with rfl | rfl | rfl | rfl | rfl | rfl | rfl | rfl <;> decide

theorem tuA0 (k a0 a1 a2 a3 b0 b1 b2 b3 : Int) : tu0 k (a0 + b0) (a1 + b1) (a2 + b2) (a3 + b3) = tu0 k a0 a1 a2 a3 + tu0 k b0 b1 b2 b3 := by unfold tu0; repeat' split <;> omega

theorem tuA1 (k a0 a1 a2 a3 b0 b1 b2 b3 : Int) : tu1 k (a0 + b0) (a1 + b1) (a2 + b2) (a3 + b3) = tu1 k a0 a1 a2 a3 + tu1 k b0 b1 b2 b3 := by unfold tu1; repeat' split <;> omega

theorem tuA2 (k a0 a1 a2 a3 b0 b1 b2 b3 : Int) : tu2 k (a0 + b0) (a1 + b1) (a2 + b2) (a3 + b3) = tu2 k a0 a1 a2 a3 + tu2 k b0 b1 b2 b3 := by unfold tu2; repeat' split <;> omega

theorem tuA3 (k a0 a1 a2 a3 b0 b1 b2 b3 : Int) : tu3 k (a0 + b0) (a1 + b1) (a2 + b2) (a3 + b3) = tu3 k a0 a1 a2 a3 + tu3 k b0 b1 b2 b3 := by unfold tu3; repeat' split <;> omega

theorem tuM0 (k a0 a1 a2 a3 b0 b1 b2 b3 : Int) : tu0 k (a0 - b0) (a1 - b1) (a2 - b2) (a3 - b3) = tu0 k a0 a1 a2 a3 - tu0 k b0 b1 b2 b3 := by unfold tu0; repeat' split <;> omega

theorem tuM1 (k a0 a1 a2 a3 b0 b1 b2 b3 : Int) : tu1 k (a0 - b0) (a1 - b1) (a2 - b2) (a3 - b3) = tu1 k a0 a1 a2 a3 - tu1 k b0 b1 b2 b3 := by unfold tu1; repeat' split <;> omega

theorem tuM2 (k a0 a1 a2 a3 b0 b1 b2 b3 : Int) : tu2 k (a0 - b0) (a1 - b1) (a2 - b2) (a3 - b3) = tu2 k a0 a1 a2 a3 - tu2 k b0 b1 b2 b3 := by unfold tu2; repeat' split <;> omega

theorem tuM3 (k a0 a1 a2 a3 b0 b1 b2 b3 : Int) : tu3 k (a0 - b0) (a1 - b1) (a2 - b2) (a3 - b3) = tu3 k a0 a1 a2 a3 - tu3 k b0 b1 b2 b3 := by unfold tu3; repeat' split <;> omega

theorem turn8 (k h n : Int) : ((k + h) % 8 + n) % 8 = (k + (h + n) % 8) % 8 := by omega

theorem ddR (c : UInt8) (k h : Int) (k0 : 0 ≤ k) (k7 : k ≤ 7) (h0 : 0 ≤ h) (h7 : h ≤ 7) :
    dd0 c ((k + h) % 8) = tu0 k (dd0 c h) (dd1 c h) (dd2 c h) (dd3 c h) ∧ dd1 c ((k + h) % 8) = tu1 k (dd0 c h) (dd1 c h) (dd2 c h) (dd3 c h) ∧
    dd2 c ((k + h) % 8) = tu2 k (dd0 c h) (dd1 c h) (dd2 c h) (dd3 c h) ∧ dd3 c ((k + h) % 8) = tu3 k (dd0 c h) (dd1 c h) (dd2 c h) (dd3 c h) := by
  have q := fun n (hn : 0 ≤ (h + n) % 8 ∧ (h + n) % 8 ≤ 7) => And.intro (tS0 k ((h + n) % 8) k0 k7 hn.1 hn.2) (And.intro (tS1 k ((h + n) % 8) k0 k7 hn.1 hn.2) (And.intro (tS2 k ((h + n) % 8) k0 k7 hn.1 hn.2) (tS3 k ((h + n) % 8) k0 k7 hn.1 hn.2)))
  obtain ⟨a0, a1, a2, a3⟩ := q 7 (by omega)
  obtain ⟨b0, b1, b2, b3⟩ := q 6 (by omega)
  obtain ⟨c0, c1, c2, c3⟩ := q 1 (by omega)
  obtain ⟨d0, d1, d2, d3⟩ := q 2 (by omega)
  unfold dd0 dd1 dd2 dd3
  by_cases e1 : c == 76
  · simp only [e1, if_true, turn8, tuM0, tuM1, tuM2, tuM3]
    exact ⟨by rw [a0, b0], by rw [a1, b1], by rw [a2, b2], by rw [a3, b3]⟩
  by_cases e2 : c == 82
  · simp only [e1, e2, if_true, if_false, Bool.false_eq_true, turn8, tuM0, tuM1, tuM2, tuM3]
    exact ⟨by rw [c0, d0], by rw [c1, d1], by rw [c2, d2], by rw [c3, d3]⟩
  · simp only [e1, e2, if_false, Bool.false_eq_true]
    exact ⟨tS0 k h k0 k7 h0 h7, tS1 k h k0 k7 h0 h7, tS2 k h k0 k7 h0 h7, tS3 k h k0 k7 h0 h7⟩

/-- The step s, turned by a's heading and moved to a. -/
def rot (a s : Sp) : Sp := ⟨a.x0 + tu0 a.h s.x0 s.x1 s.x2 s.x3, a.x1 + tu1 a.h s.x0 s.x1 s.x2 s.x3, a.x2 + tu2 a.h s.x0 s.x1 s.x2 s.x3, a.x3 + tu3 a.h s.x0 s.x1 s.x2 s.x3, (a.h + s.h) % 8⟩

set_option linter.unusedSimpArgs false in
theorem nhR (c : UInt8) (k h : Int) : nh c ((k + h) % 8) % 8 = (k + nh c h) % 8 := by
  unfold nh
  by_cases e1 : c == 76 <;> by_cases e2 : c == 82 <;> simp only [e1, e2, if_true, if_false, Bool.false_eq_true] <;> omega

theorem nh_mod (c : UInt8) (h : Int) (h0 : 0 ≤ h) (h7 : h ≤ 7) : nh c h % 8 = nh c h := by have := nh_bd c h h0 h7; omega

theorem rot_next (a s : Sp) (c : UInt8) (k0 : 0 ≤ a.h) (k7 : a.h ≤ 7) (h0 : 0 ≤ s.h) (h7 : s.h ≤ 7) : (rot a s).next c = rot a (s.next c) := by
  obtain ⟨r0, r1, r2, r3⟩ := ddR c a.h s.h k0 k7 h0 h7
  have r4 := nhR c a.h s.h
  rw [nh_mod c ((a.h + s.h) % 8) (by omega) (by omega)] at r4
  simp only [rot, Sp.next, r0, r1, r2, r3, r4, tuA0, tuA1, tuA2, tuA3, Int.add_assoc]

theorem rot_fin (a : Sp) (k0 : 0 ≤ a.h) (k7 : a.h ≤ 7) : ∀ (l : List UInt8) (s : Sp), 0 ≤ s.h → s.h ≤ 7 → fin (rot a s) l = rot a (fin s l)
  | [], _, _, _ => rfl
  | c :: l, s, h0, h7 => by
    have hb := nh_bd c s.h h0 h7
    have ih := rot_fin a k0 k7 l (s.next c) hb.1 hb.2
    simp only [fin, List.foldl_cons] at ih ⊢
    rw [rot_next a s c k0 k7 h0 h7]
    exact ih

theorem rot_zero (a : Sp) (k0 : 0 ≤ a.h) (k7 : a.h ≤ 7) : rot a sp0 = a := by
  have z0 : tu0 a.h 0 0 0 0 = 0 := by unfold tu0; repeat' split <;> omega
  have z1 : tu1 a.h 0 0 0 0 = 0 := by unfold tu1; repeat' split <;> omega
  have z2 : tu2 a.h 0 0 0 0 = 0 := by unfold tu2; repeat' split <;> omega
  have z3 : tu3 a.h 0 0 0 0 = 0 := by unfold tu3; repeat' split <;> omega
  have z4 : a.h % 8 = a.h := by omega
  simp [rot, sp0, z0, z1, z2, z3, z4]

/-- Laid from a: as laid from 0, turned and moved. -/
theorem fin_rot (a : Sp) (k0 : 0 ≤ a.h) (k7 : a.h ≤ 7) (l : List UInt8) : fin a l = rot a (fin sp0 l) := by
  have := rot_fin a k0 k7 l sp0 (by decide) (by decide)
  rwa [rot_zero a k0 k7] at this

end Go.Proofs.Ytkmgcmgnaeamaaa

/- Texts of n pieces, in order; which of them lead from a step back to the beginning; the way back from a step. -/
namespace Go.Proofs.Ytkmgcmgnaeamaaa

def ltr : List UInt8 := [76, 82, 83]

def words : Nat → List (List UInt8)
  | 0 => [[]]
  | n + 1 => (words n).flatMap fun w => ltr.map fun c => w ++ [c]

theorem words_add (a : Nat) : ∀ b, words (a + b) = (words a).flatMap fun u => (words b).map fun v => u ++ v
  | 0 => by simp [words]
  | b + 1 => by
    rw [← Nat.add_assoc]
    show (words (a + b)).flatMap _ = _
    rw [words_add a b, List.flatMap_assoc]
    congr 1
    funext u
    show _ = ((words b).flatMap _).map _
    rw [List.flatMap_map, List.map_flatMap]
    congr 1
    funext v
    simp [ltr]

theorem words_cons (n : Nat) : words (n + 1) = ltr.flatMap fun c => (words n).map fun v => c :: v := by
  rw [Nat.add_comm, words_add 1 n]
  simp [words, ltr]

theorem words_len : ∀ (n : Nat) (w : List UInt8), w ∈ words n → w.length = n
  | 0, w, h => by simp [words] at h; simp [h]
  | n + 1, w, h => by
    simp only [words, List.mem_flatMap, List.mem_map] at h
    obtain ⟨u, hu, c, _, rfl⟩ := h
    simp [words_len n u hu]

theorem words_pcb : ∀ (n : Nat) (w : List UInt8), w ∈ words n → w.all pcb = true
  | 0, w, h => by simp [words] at h; simp [h]
  | n + 1, w, h => by
    simp only [words, List.mem_flatMap, List.mem_map] at h
    obtain ⟨u, hu, c, hc, rfl⟩ := h
    rw [List.all_append, words_pcb n u hu]
    simp only [ltr, List.mem_cons, List.not_mem_nil, or_false] at hc
    rcases hc with rfl | rfl | rfl <;> rfl

theorem words_count : ∀ n : Nat, (words n).length = 3 ^ n
  | 0 => rfl
  | n + 1 => by
    simp only [words, List.length_flatMap, List.length_map]
    rw [show (ltr.length) = 3 from rfl, List.map_const', List.sum_replicate_nat, words_count n, Nat.pow_succ]

theorem fin_append (s : Sp) (l m : List UInt8) : fin s (l ++ m) = fin (fin s l) m := by simp [fin, List.foldl_append]

theorem fin_cons (s : Sp) (c : UInt8) (l : List UInt8) : fin s (c :: l) = fin (s.next c) l := rfl

def spE (p q : Sp) : Bool := (p.x0 == q.x0 && (p.x1 == q.x1 && (p.x2 == q.x2 && p.x3 == q.x3))) && p.h == q.h

theorem spE_iff {p q : Sp} : spE p q = true ↔ p = q := by
  obtain ⟨a0, a1, a2, a3, a4⟩ := p
  obtain ⟨b0, b1, b2, b3, b4⟩ := q
  simp only [spE, Bool.and_eq_true, beq_iff_eq, Sp.mk.injEq]
  constructor
  · rintro ⟨⟨h0, h1, h2, h3⟩, h4⟩; exact ⟨h0, h1, h2, h3, h4⟩
  · rintro ⟨h0, h1, h2, h3, h4⟩; exact ⟨⟨h0, h1, h2, h3⟩, h4⟩

theorem spE_no {p q : Sp} : spE p q = false ↔ p ≠ q := by
  rw [← Bool.not_eq_true, spE_iff]

/-- The end that a part of a track has if it leads from s back to the beginning. -/
def wayB (s : Sp) : Sp := ⟨tu0 ((8 - s.h) % 8) (-s.x0) (-s.x1) (-s.x2) (-s.x3), tu1 ((8 - s.h) % 8) (-s.x0) (-s.x1) (-s.x2) (-s.x3), tu2 ((8 - s.h) % 8) (-s.x0) (-s.x1) (-s.x2) (-s.x3), tu3 ((8 - s.h) % 8) (-s.x0) (-s.x1) (-s.x2) (-s.x3), (8 - s.h) % 8⟩

theorem rot_back (a v : Sp) (k0 : 0 ≤ a.h) (k7 : a.h ≤ 7) (h0 : 0 ≤ v.h) (h7 : v.h ≤ 7) : rot a v = sp0 ↔ v = wayB a := by
  obtain ⟨a0, a1, a2, a3, a4⟩ := a
  obtain ⟨b0, b1, b2, b3, b4⟩ := v
  simp only at k0 k7 h0 h7
  have e8 : a4 = 0 ∨ a4 = 1 ∨ a4 = 2 ∨ a4 = 3 ∨ a4 = 4 ∨ a4 = 5 ∨ a4 = 6 ∨ a4 = 7 := by omega
  rcases e8 with rfl | rfl | rfl | rfl | rfl | rfl | rfl | rfl <;> simp [rot, wayB, sp0, tu0, tu1, tu2, tu3] <;> omega

theorem fin_back (a : Sp) (k0 : 0 ≤ a.h) (k7 : a.h ≤ 7) (l : List UInt8) : fin a l = sp0 ↔ fin sp0 l = wayB a := by
  rw [fin_rot a k0 k7 l]
  have h := fin_ok sp0_ok l
  simp only [Sp.okB] at h
  exact rot_back a _ k0 k7 h.2.2.2.2.1 h.2.2.2.2.2

/-- All texts of n pieces that lead from a step back to the beginning. -/
def clsL (a : Sp) (n : Nat) : List (List UInt8) := (words n).filter fun w => spE (fin a w) sp0

/-- Parts: texts with their ends. -/
def parts (a : Sp) (n : Nat) : List (Sp × List UInt8) := (words n).map fun w => (fin a w, w)

/-- The texts of parts at a step. -/
def grp (k : Sp) (l : List (Sp × List UInt8)) : List (List UInt8) := (l.filter fun p => spE p.1 k).map Prod.snd

theorem parts_succ (a : Sp) (n : Nat) : parts a (n + 1) = (parts a n).flatMap fun p => ltr.map fun c => (p.1.next c, p.2 ++ [c]) := by
  simp only [parts, words, List.map_flatMap, List.flatMap_map, List.map_map]
  congr 1
  funext w
  simp [ltr, fin_snoc]

theorem parts_len (a : Sp) (n : Nat) : (parts a n).length = 3 ^ n := by rw [parts, List.length_map, words_count]

/-- Closed ones, out of two parts. -/
theorem cls_halves (a : Sp) (k0 : 0 ≤ a.h) (k7 : a.h ≤ 7) (m n : Nat) :
    ((parts a m).flatMap fun p => (grp (wayB p.1) (parts sp0 n)).map fun v => p.2 ++ v) = clsL a (m + n) := by
  rw [clsL, words_add, List.filter_flatMap, show parts a m = (words m).map fun w => (fin a w, w) from rfl, List.flatMap_map]
  congr 1
  funext u
  simp only [grp, parts, List.filter_map, List.map_map, Function.comp_def]
  rw [show (fun w : List UInt8 => u ++ w) = (fun v => u ++ v) from rfl]
  congr 1
  apply List.filter_congr
  intro v _
  have hb : (fin a u).okB _ := fin_ok (s := a) (n := (a.x0.natAbs + a.x1.natAbs + a.x2.natAbs + a.x3.natAbs : Nat)) (by simp only [Sp.okB]; omega) u
  simp only [Sp.okB] at hb
  have h := fin_back (fin a u) hb.2.2.2.2.1 hb.2.2.2.2.2 v
  rw [Bool.eq_iff_iff, spE_iff, spE_iff, fin_append, h]

/-- The turn of a text. -/
def trW (l : List UInt8) : Int := (cnt 76 l : Int) - (cnt 82 l : Int)

end Go.Proofs.Ytkmgcmgnaeamaaa

/- Rings spun: from each beginning, their least ones, their periods. Nothing of the program. -/
namespace Go.Proofs.Ytkmgcmgnaeamaaa

set_option linter.unusedSimpArgs false

def spn (l : List UInt8) (k : Nat) : List UInt8 := l.drop k ++ l.take k

theorem spn_len (l : List UInt8) (k : Nat) : (spn l k).length = l.length := by simp [spn]; omega

theorem spn_zero (l : List UInt8) : spn l 0 = l := by simp [spn]

theorem spn_full (l : List UInt8) : spn l l.length = l := by simp [spn]

theorem spn_at (l : List UInt8) (k j : Nat) (hk : k ≤ l.length) (hj : j < l.length) : (spn l k)[j]? = l[(k + j) % l.length]? := by
  unfold spn
  rw [List.getElem?_append, List.length_drop]
  by_cases h : j < l.length - k
  · rw [if_pos h, List.getElem?_drop, Nat.mod_eq_of_lt (by omega)]
  · rw [if_neg h, List.getElem?_take, if_pos (by omega)]
    congr 1
    rw [Nat.mod_eq_sub_mod (by omega), Nat.mod_eq_of_lt (by omega)]
    omega

theorem spn_mod (l : List UInt8) (k : Nat) (hk : k ≤ l.length) : spn l k = spn l (k % l.length) := by
  by_cases h : k = l.length
  · rw [h, Nat.mod_self, spn_full, spn_zero]
  · rw [Nat.mod_eq_of_lt (by omega)]

theorem spn_spn (l : List UInt8) (k j : Nat) (hk : k ≤ l.length) (hj : j ≤ l.length) : spn (spn l k) j = spn l ((k + j) % l.length) := by
  by_cases h0 : l.length = 0
  · have : l = [] := List.eq_nil_of_length_eq_zero h0
    subst this; simp [spn]
  apply List.ext_getElem?
  intro t
  by_cases ht : t < l.length
  · rw [spn_at (spn l k) j t (by rw [spn_len]; exact hj) (by rw [spn_len]; exact ht), spn_len, spn_at l k _ hk (Nat.mod_lt _ (by omega)),
      spn_at l _ t (Nat.le_of_lt (Nat.mod_lt _ (by omega))) ht]
    congr 1
    rw [Nat.add_mod_mod, Nat.mod_add_mod, Nat.add_assoc]
  · rw [List.getElem?_eq_none (by rw [spn_len, spn_len]; omega), List.getElem?_eq_none (by rw [spn_len]; omega)]

/-- One from another beginning. -/
def orb (a b : List UInt8) : Prop := ∃ k, k ≤ a.length ∧ b = spn a k

theorem orb_refl (a : List UInt8) : orb a a := ⟨0, Nat.zero_le _, (spn_zero a).symm⟩

theorem orb_len {a b : List UInt8} (h : orb a b) : b.length = a.length := by obtain ⟨k, _, rfl⟩ := h; exact spn_len a k

theorem orb_trans {a b c : List UInt8} (h : orb a b) (g : orb b c) : orb a c := by
  obtain ⟨k, hk, rfl⟩ := h
  obtain ⟨j, hj, rfl⟩ := g
  rw [spn_len] at hj
  refine ⟨(k + j) % a.length, ?_, spn_spn a k j hk hj⟩
  by_cases h0 : a.length = 0
  · rw [h0] at hk hj ⊢
    have : k = 0 := by omega
    have : j = 0 := by omega
    subst k j; simp
  · exact Nat.le_of_lt (Nat.mod_lt _ (by omega))

theorem orb_symm {a b : List UInt8} (h : orb a b) : orb b a := by
  obtain ⟨k, hk, rfl⟩ := h
  refine ⟨a.length - k, by rw [spn_len]; omega, ?_⟩
  rw [spn_spn a k _ hk (by omega), show k + (a.length - k) = a.length by omega, Nat.mod_self, spn_zero]

/-- The order of texts. -/
theorem lt_irr (a : List UInt8) : ¬ a < a := List.lt_irrefl a

theorem lt_tri (a b : List UInt8) : a < b ∨ a = b ∨ b < a := by
  by_cases h1 : a < b
  · exact .inl h1
  by_cases h2 : b < a
  · exact .inr (.inr h2)
  · exact .inr (.inl (List.le_antisymm (List.not_lt.1 h2) (List.not_lt.1 h1)))

theorem lt_asy {a b : List UInt8} (h : a < b) : ¬ b < a := List.lt_asymm h

theorem lt_trn {a b c : List UInt8} (h : a < b) (g : b < c) : a < c := List.lt_trans h g

/-- The least of some: the first one that none is less than. -/
def mn (x : List UInt8) (ys : List (List UInt8)) : List UInt8 := ys.foldl (fun m y => if y < m then y else m) x

theorem mn_cons (x y : List UInt8) (ys : List (List UInt8)) : mn x (y :: ys) = mn (if y < x then y else x) ys := rfl

theorem mn_mem : ∀ (ys : List (List UInt8)) (x : List UInt8), mn x ys ∈ x :: ys
  | [], x => by simp [mn]
  | y :: ys, x => by
    rw [mn_cons]
    have := mn_mem ys (if y < x then y else x)
    split at this <;> rename_i h
    · rw [if_pos h]
      exact List.mem_cons_of_mem _ this
    · rw [if_neg h]
      rcases List.mem_cons.1 this with h | h
      · rw [h]; exact List.mem_cons_self
      · exact List.mem_cons_of_mem _ (List.mem_cons_of_mem _ h)

theorem mn_le : ∀ (ys : List (List UInt8)) (x : List UInt8), ∀ y ∈ x :: ys, ¬ y < mn x ys
  | [], x, y, hy => by
    have : y = x := by simpa using hy
    subst this
    exact lt_irr y
  | z :: ys, x, y, hy => by
    rw [mn_cons]
    have ih := mn_le ys (if z < x then z else x)
    have h0 := ih _ List.mem_cons_self
    rcases List.mem_cons.1 hy with rfl | hy
    · intro h
      split at h0 <;> rename_i hz
      · rw [if_pos hz] at h
        exact h0 (lt_trn hz h)
      · rw [if_neg hz] at h
        exact h0 h
    rcases List.mem_cons.1 hy with rfl | hy
    · intro h
      split at h0 <;> rename_i hz
      · rw [if_pos hz] at h
        exact h0 h
      · rw [if_neg hz] at h
        rcases lt_tri y x with g | g | g
        · exact hz g
        · subst g; exact h0 h
        · exact h0 (lt_trn g h)
    · exact ih y (List.mem_cons_of_mem _ hy)

/-- What is least is one alone. -/
theorem least_one {S T : List (List UInt8)} (h : ∀ x, x ∈ S ↔ x ∈ T) {m n : List UInt8} (hm : m ∈ S) (hn : n ∈ T) (h1 : ∀ x ∈ S, ¬ x < m) (h2 : ∀ x ∈ T, ¬ x < n) : m = n := by
  rcases lt_tri m n with g | g | g
  · exact absurd g (h2 m ((h m).1 hm))
  · exact g
  · exact absurd g (h1 n ((h n).2 hn))

def rotA (l : List UInt8) : List (List UInt8) := (List.range l.length).map (spn l)

theorem rot_mem {l a : List UInt8} (h0 : 0 < l.length) : a ∈ rotA l ↔ orb l a := by
  simp only [rotA, List.mem_map, List.mem_range, orb]
  constructor
  · rintro ⟨k, hk, rfl⟩; exact ⟨k, by omega, rfl⟩
  · rintro ⟨k, hk, rfl⟩
    exact ⟨k % l.length, Nat.mod_lt _ h0, (spn_mod l k hk).symm⟩

def leastL (l : List UInt8) : List UInt8 := mn l (rotA l)

theorem rot_cons {l a : List UInt8} (h0 : 0 < l.length) : a ∈ l :: rotA l ↔ orb l a := by
  rw [List.mem_cons, rot_mem h0]
  constructor
  · rintro (rfl | h)
    · exact orb_refl a
    · exact h
  · exact .inr

theorem leastL_orb {l : List UInt8} (h0 : 0 < l.length) : orb l (leastL l) := (rot_cons h0).1 (mn_mem (rotA l) l)

theorem leastL_le {l a : List UInt8} (h0 : 0 < l.length) (h : orb l a) : ¬ a < leastL l := mn_le (rotA l) l a ((rot_cons h0).2 h)

theorem leastL_len {l : List UInt8} (h0 : 0 < l.length) : (leastL l).length = l.length := orb_len (leastL_orb h0)

theorem leastL_eq {a b : List UInt8} (h0 : 0 < a.length) (h : orb a b) : leastL a = leastL b := by
  have hb : 0 < b.length := by rw [orb_len h]; exact h0
  refine least_one (S := a :: rotA a) (T := b :: rotA b) (fun x => ?_) (mn_mem _ _) (mn_mem _ _) (mn_le _ _) (mn_le _ _)
  rw [rot_cons h0, rot_cons hb]
  exact ⟨fun g => orb_trans (orb_symm h) g, fun g => orb_trans h g⟩

theorem leastL_iff {a b : List UInt8} (h0 : 0 < a.length) (hb : 0 < b.length) : leastL a = leastL b ↔ orb a b := by
  refine ⟨fun h => ?_, leastL_eq h0⟩
  have h1 := leastL_orb h0
  rw [h] at h1
  exact orb_trans h1 (orb_symm (leastL_orb hb))

/-- The program's order of the spun ones: by 1, 2, .., up to all pieces. -/
def rot1 (l : List UInt8) : List (List UInt8) := (List.range l.length).map fun i => spn l (i + 1)

theorem rot1_mem {l a : List UInt8} (h0 : 0 < l.length) : a ∈ rot1 l ↔ orb l a := by
  simp only [rot1, List.mem_map, List.mem_range, orb]
  constructor
  · rintro ⟨k, hk, rfl⟩; exact ⟨k + 1, by omega, rfl⟩
  · rintro ⟨k, hk, rfl⟩
    by_cases h : k = 0
    · subst h
      exact ⟨l.length - 1, by omega, by rw [show l.length - 1 + 1 = l.length by omega, spn_full, spn_zero]⟩
    · exact ⟨k - 1, by omega, by rw [show k - 1 + 1 = k by omega]⟩

theorem rot1_len (l : List UInt8) : (rot1 l).length = l.length := by simp [rot1]

/-- The order of bytes as the library tells it. -/
theorem cmpB_lt : ∀ (a b : List UInt8), Lib.compareBytes a b < 0 ↔ a < b
  | [], [] => by simp [Lib.compareBytes]
  | [], _ :: _ => by simp [Lib.compareBytes]
  | _ :: _, [] => by simp [Lib.compareBytes]
  | x :: a, y :: b => by
    have ih := cmpB_lt a b
    rw [Lib.compareBytes, List.cons_lt_cons_iff]
    by_cases h1 : x < y
    · simp [h1]
    · by_cases h2 : y < x
      · have : ¬ x = y := fun e => by subst e; exact h1 h2
        simp [h1, h2, this]
      · have : x = y := UInt8.le_antisymm (UInt8.not_lt.1 h2) (UInt8.not_lt.1 h1)
        simp [h1, h2, this, ih]

end Go.Proofs.Ytkmgcmgnaeamaaa

/- Tracks that are laid whole from a box: all of them in order, the rings among them. Nothing of the program. -/
namespace Go.Proofs.Ytkmgcmgnaeamaaa

set_option linter.unusedVariables false
set_option linter.unusedSimpArgs false

theorem words_iffB : ∀ (n : Nat) (w : List UInt8), w ∈ words n ↔ w.length = n ∧ ∀ c ∈ w, c ∈ ltr
  | 0, w => by
    simp only [words, List.mem_cons, List.not_mem_nil, or_false, List.length_eq_zero_iff]
    constructor
    · rintro rfl; simp
    · exact fun h => h.1
  | n + 1, [] => by simp [words_cons]
  | n + 1, c :: w => by
    rw [words_cons]
    simp only [List.mem_flatMap, List.mem_map, List.cons.injEq, List.length_cons, Nat.add_right_cancel_iff, List.mem_cons, forall_eq_or_imp]
    constructor
    · rintro ⟨d, hd, u, hu, rfl, rfl⟩
      have := (words_iffB n u).1 hu
      exact ⟨this.1, hd, this.2⟩
    · rintro ⟨h1, h2, h3⟩
      exact ⟨c, h2, w, (words_iffB n w).2 ⟨h1, h3⟩, rfl, rfl⟩

theorem cls_iffB {n : Nat} {w : List UInt8} : w ∈ clsL sp0 n ↔ (w.length = n ∧ ∀ c ∈ w, c ∈ ltr) ∧ fin sp0 w = sp0 := by
  rw [clsL, List.mem_filter, words_iffB, spE_iff]

theorem words_ltB : ∀ n, (words n).Pairwise fun a b => a < b
  | 0 => by simp [words]
  | n + 1 => by
    rw [words_cons, List.pairwise_flatMap]
    constructor
    · intro c _
      exact List.Pairwise.map _ (fun a b h => List.cons_lt_cons_iff.2 (.inr ⟨rfl, h⟩)) (words_ltB n)
    · have hl : ltr.Pairwise fun a b => a < b := by decide
      refine hl.imp fun {a b} hab x hx y hy => ?_
      obtain ⟨u, _, rfl⟩ := List.mem_map.1 hx
      obtain ⟨v, _, rfl⟩ := List.mem_map.1 hy
      exact List.cons_lt_cons_iff.2 (.inl hab)

theorem cls_ltB (a : Sp) (n : Nat) : (clsL a n).Pairwise fun a b => a < b := (words_ltB n).filter _

theorem cnt3B : ∀ {w : List UInt8}, (∀ c ∈ w, c ∈ ltr) → cnt 83 w + cnt 76 w + cnt 82 w = w.length
  | [], _ => rfl
  | c :: w, h => by
    have ih := cnt3B (w := w) (fun d hd => h d (by simp [hd]))
    have hc := h c (by simp)
    have e : ∀ d : UInt8, cnt d (c :: w) = cnt d w + (if c == d then 1 else 0) := fun d => by simp [cnt, List.count_cons]
    rw [e, e, e, List.length_cons]
    simp only [ltr, List.mem_cons, List.not_mem_nil, or_false] at hc
    rcases hc with rfl | rfl | rfl <;> simp <;> omega

/-- The texts of pieces that are laid whole from s straights and c curves, in order. -/
def bxW (s c : Nat) : List (List UInt8) := (words (s + c)).filter fun w => cnt 83 w == s

def bxL (s c : Nat) (u : List UInt8) : List (List UInt8) := (bxW s c).map fun v => u ++ v

theorem cnt_cons (d c : UInt8) (w : List UInt8) : cnt d (c :: w) = cnt d w + (if c == d then 1 else 0) := by simp [cnt, List.count_cons]

theorem filt_next (n s : Nat) : (words (n + 1)).filter (fun w => cnt 83 w == s) = ((words n).filter fun w => cnt 83 w == s).map (fun v => 76 :: v) ++ (((words n).filter fun w => cnt 83 w == s).map (fun v => 82 :: v) ++ ((words n).filter fun w => cnt 83 w + 1 == s).map (fun v => 83 :: v)) := by
  rw [words_cons]
  simp only [ltr, List.flatMap_cons, List.flatMap_nil, List.append_nil, List.filter_append, List.filter_map, Function.comp_def, cnt_cons]
  congr 1

theorem filt_none (n s : Nat) (h : n < s) : (words n).filter (fun w => cnt 83 w == s) = [] := by
  rw [List.filter_eq_nil_iff]
  intro w hw
  have h1 := words_len n w hw
  have h2 : cnt 83 w ≤ w.length := List.count_le_length
  simp only [beq_iff_eq]
  omega

theorem bxL_zero (u : List UInt8) : bxL 0 0 u = [u] := by simp [bxL, bxW, words, cnt]

theorem bxW_curve (s c : Nat) : bxW s (c + 1) = (bxW s c).map (fun v => 76 :: v) ++ ((bxW s c).map (fun v => 82 :: v) ++ match s with | 0 => [] | s + 1 => (bxW s (c + 1)).map fun v => 83 :: v) := by
  unfold bxW
  rw [show s + (c + 1) = (s + c) + 1 from rfl, filt_next]
  congr 2
  cases s with
  | zero => simp
  | succ s =>
    rw [show s + 1 + c = s + (c + 1) by omega]
    congr 1
    apply List.filter_congr
    intro v _
    simp

theorem bxW_last (s : Nat) : bxW (s + 1) 0 = (bxW s 0).map fun v => 83 :: v := by
  unfold bxW
  rw [show s + 1 + 0 = s + 1 from rfl, filt_next, filt_none s (s + 1) (by omega)]
  simp only [List.map_nil, List.nil_append, Nat.add_zero]
  congr 1
  apply List.filter_congr
  intro v _
  simp

theorem map_cons_app (u : List UInt8) (d : UInt8) (l : List (List UInt8)) : (l.map fun v => d :: v).map (fun v => u ++ v) = l.map fun v => (u ++ [d]) ++ v := by
  rw [List.map_map]
  congr 1
  funext v
  simp

theorem bxL_C (c : Nat) (u : List UInt8) : bxL 0 (c + 1) u = bxL 0 c (u ++ [76]) ++ bxL 0 c (u ++ [82]) := by
  unfold bxL
  rw [bxW_curve, List.map_append, List.map_append, map_cons_app, map_cons_app]
  simp

theorem bxL_B (s c : Nat) (u : List UInt8) : bxL (s + 1) (c + 1) u = bxL (s + 1) c (u ++ [76]) ++ bxL (s + 1) c (u ++ [82]) ++ bxL s (c + 1) (u ++ [83]) := by
  unfold bxL
  rw [bxW_curve, List.map_append, List.map_append, map_cons_app, map_cons_app, map_cons_app, List.append_assoc]

theorem bxL_S (s : Nat) (u : List UInt8) : bxL (s + 1) 0 u = bxL s 0 (u ++ [83]) := by
  unfold bxL
  rw [bxW_last, map_cons_app]

theorem bxW_nil (s c : Nat) : bxL s c [] = bxW s c := by simp [bxL]

theorem bxW_iff {s c : Nat} {w : List UInt8} : w ∈ bxW s c ↔ (w.length = s + c ∧ ∀ d ∈ w, d ∈ ltr) ∧ cnt 83 w = s := by
  rw [bxW, List.mem_filter, words_iffB, beq_iff_eq]

theorem bxW_lt (s c : Nat) : (bxW s c).Pairwise fun a b => a < b := (words_ltB _).filter _

theorem bxW_le (s c : Nat) : (bxW s c).length ≤ 3 ^ (s + c) := by
  rw [← words_count]
  exact List.length_filter_le _ _

/-- A ring, as its pieces. -/
def rgb (w : List UInt8) : Bool := decide (0 < w.length) && spE (fin sp0 w) sp0

def bxR (s c : Nat) : List (List UInt8) := (bxW s c).filter rgb

theorem bxR_iff {s c : Nat} {w : List UInt8} : w ∈ bxR s c ↔ ((w.length = s + c ∧ ∀ d ∈ w, d ∈ ltr) ∧ cnt 83 w = s) ∧ (0 < w.length ∧ fin sp0 w = sp0) := by
  rw [bxR, List.mem_filter, bxW_iff, rgb, Bool.and_eq_true, decide_eq_true_eq, spE_iff]

theorem bxR_cls {s c : Nat} (h : 0 < s + c) : bxR s c = (clsL sp0 (s + c)).filter fun w => cnt 83 w == s := by
  rw [bxR, bxW, clsL, List.filter_filter, List.filter_filter]
  apply List.filter_congr
  intro w hw
  have h1 := words_len _ w hw
  rw [rgb, show decide (0 < w.length) = true by simp; omega, Bool.true_and, Bool.and_comm]

theorem bxR_zero : bxR 0 0 = [] := by simp [bxR, bxW, words, rgb, cnt]

theorem bxR_le (s c : Nat) : (bxR s c).length ≤ 3 ^ (s + c) := Nat.le_trans (List.length_filter_le _ _) (bxW_le s c)

theorem bxR_lt (s c : Nat) : (bxR s c).Pairwise fun a b => a < b := (bxW_lt s c).filter _

end Go.Proofs.Ytkmgcmgnaeamaaa

/- The first greatest one of some; the longest ring of a box, on both sides; how many tracks; boxes of rings; different ends. Nothing of the program. -/
namespace Go.Proofs.Ytkmgcmgnaeamaaa

set_option linter.unusedVariables false
set_option linter.unusedSimpArgs false

/-- One more: it takes the place of the greatest if it is greater. -/
def fgS {α : Type} (gt : α → α → Bool) (o : Option α) (x : α) : Option α := match o with | none => some x | some g => some (if gt x g then x else g)

def fgO {α : Type} (gt : α → α → Bool) (l : List α) : Option α := l.foldl (fgS gt) none

theorem fgO_nil {α : Type} (gt : α → α → Bool) : fgO gt ([] : List α) = none := rfl

theorem fgO_snoc {α : Type} (gt : α → α → Bool) (l : List α) (x : α) : fgO gt (l ++ [x]) = fgS gt (fgO gt l) x := by simp [fgO]

theorem fgO_some {α : Type} (gt : α → α → Bool) (l : List α) (h : l ≠ []) : ∃ g, fgO gt l = some g := by
  rcases List.eq_nil_or_concat l with rfl | ⟨m, x, rfl⟩
  · exact absurd rfl h
  · rw [List.concat_eq_append, fgO_snoc]
    cases fgO gt m
    · exact ⟨x, rfl⟩
    · exact ⟨_, rfl⟩

theorem fgO_isSome {α : Type} (gt : α → α → Bool) (l : List α) : (fgO gt l).isSome = decide (0 < l.length) := by
  cases l with
  | nil => rfl
  | cons a l =>
    obtain ⟨g, hg⟩ := fgO_some gt (a :: l) (by simp)
    rw [hg]; simp

theorem fgO_mem {α : Type} (gt : α → α → Bool) (l : List α) (g : α) (h : fgO gt l = some g) : g ∈ l := by
  rcases List.eq_nil_or_concat l with rfl | ⟨m, x, rfl⟩
  · cases h
  · rw [List.concat_eq_append] at h ⊢
    rw [fgO_snoc] at h
    cases hm : fgO gt m with
    | none => rw [hm] at h; simp only [fgS, Option.some.injEq] at h; simp [h]
    | some g' =>
      have := fgO_mem gt m g' hm
      rw [hm] at h
      simp only [fgS, Option.some.injEq] at h
      split at h
      · simp [← h]
      · simp [← h, this]
termination_by l.length
decreasing_by simp_all

/-- The rings that are laid from s straights and c curves, by their numbers of pieces. -/
def cvr (s c : Nat) (w : List UInt8) : Bool := decide (cnt 83 w ≤ s) && decide (w.length ≤ cnt 83 w + c)

def lgN (s c n : Nat) : List (List UInt8) := (clsL sp0 n).filter (cvr s c)

def lgL (s c k : Nat) : List (List UInt8) := (List.range k).flatMap fun i => lgN s c (i + 1)

theorem lgL_succ (s c k : Nat) : lgL s c (k + 1) = lgL s c k ++ lgN s c (k + 1) := by simp [lgL, List.range_succ]

theorem lgN_iff {s c n : Nat} {w : List UInt8} : w ∈ lgN s c n ↔ ((w.length = n ∧ ∀ d ∈ w, d ∈ ltr) ∧ fin sp0 w = sp0) ∧ (cnt 83 w ≤ s ∧ w.length ≤ cnt 83 w + c) := by
  rw [lgN, List.mem_filter, cls_iffB, cvr, Bool.and_eq_true, decide_eq_true_eq, decide_eq_true_eq]

theorem lgL_iff {s c k : Nat} {w : List UInt8} : w ∈ lgL s c k ↔ 0 < w.length ∧ w.length ≤ k ∧ w ∈ lgN s c w.length := by
  rw [lgL, List.mem_flatMap]
  constructor
  · rintro ⟨i, hi, hw⟩
    have h := (lgN_iff.1 hw).1.1.1
    have := List.mem_range.1 hi
    refine ⟨by omega, by omega, ?_⟩
    rw [h]; exact hw
  · rintro ⟨h0, hk, hw⟩
    exact ⟨w.length - 1, List.mem_range.2 (by omega), by rw [show w.length - 1 + 1 = w.length by omega]; exact hw⟩

def ltl (a b : List UInt8) : Prop := a.length < b.length ∨ (a.length = b.length ∧ a < b)

theorem lgL_lt (s c : Nat) : ∀ k, (lgL s c k).Pairwise ltl
  | 0 => by simp [lgL]
  | k + 1 => by
    rw [lgL_succ, List.pairwise_append]
    refine ⟨lgL_lt s c k, ?_, fun a ha b hb => ?_⟩
    · refine List.Pairwise.imp_of_mem (fun {a b} ha hb h => .inr ⟨?_, h⟩) ((cls_ltB sp0 (k + 1)).filter (cvr s c))
      have h1 := (cls_iffB.1 (List.mem_filter.1 ha).1).1.1
      have h2 := (cls_iffB.1 (List.mem_filter.1 hb).1).1.1
      omega
    · have h1 := (lgL_iff.1 ha).2.1
      have h2 := (lgN_iff.1 hb).1.1.1
      exact .inl (by omega)

/-- The first one of those with the most pieces. -/
def IsLg (l : List (List UInt8)) (o : Option (List UInt8)) : Prop := match o with | none => l = [] | some w => w ∈ l ∧ ∀ v ∈ l, v.length < w.length ∨ (v.length = w.length ∧ ¬ v < w)

def lgt (x g : List UInt8) : Bool := decide (g.length < x.length)

theorem lg_fg {l : List (List UInt8)} (h : l.Pairwise ltl) : IsLg l (fgO lgt l) := by
  rcases List.eq_nil_or_concat l with rfl | ⟨m, x, rfl⟩
  · rfl
  · rw [List.concat_eq_append] at h ⊢
    rw [List.pairwise_append] at h
    have ih := lg_fg h.1
    rw [fgO_snoc]
    cases hm : fgO lgt m with
    | none =>
      rw [hm] at ih
      simp only [IsLg] at ih
      subst ih
      simp only [IsLg, fgS, List.nil_append, List.mem_singleton, forall_eq, true_and]
      exact .inr (lt_irr x)
    | some g =>
      rw [hm] at ih
      obtain ⟨i1, i2⟩ := ih
      have hgx := h.2.2 g i1 x (by simp)
      simp only [fgS, lgt, decide_eq_true_eq, IsLg]
      by_cases hc : g.length < x.length
      · rw [if_pos hc]
        refine ⟨by simp, fun v hv => ?_⟩
        rcases List.mem_append.1 hv with hv | hv
        · have := i2 v hv
          exact .inl (by omega)
        · rw [List.mem_singleton.1 hv]; exact .inr ⟨rfl, lt_irr x⟩
      · rw [if_neg hc]
        refine ⟨by simp [i1], fun v hv => ?_⟩
        rcases List.mem_append.1 hv with hv | hv
        · exact i2 v hv
        · rw [List.mem_singleton.1 hv]
          rcases hgx with g1 | ⟨g1, g2⟩
          · omega
          · exact .inr ⟨g1.symm, lt_asy g2⟩
termination_by l.length
decreasing_by simp_all

theorem lg_one {l : List (List UInt8)} {o p : Option (List UInt8)} (h : IsLg l o) (g : IsLg l p) : o = p := by
  cases o with
  | none =>
    simp only [IsLg] at h
    subst h
    cases p with
    | none => rfl
    | some w => simp [IsLg] at g
  | some w =>
    cases p with
    | none => simp only [IsLg] at g; subst g; simp [IsLg] at h
    | some v =>
      obtain ⟨h1, h2⟩ := h
      obtain ⟨g1, g2⟩ := g
      have a := h2 v g1
      have b := g2 w h1
      have e : v.length = w.length := by omega
      have a : ¬ v < w := by rcases a with a | a; omega; exact a.2
      have b : ¬ w < v := by rcases b with b | b; omega; exact b.2
      rcases lt_tri v w with t | t | t
      · exact absurd t a
      · rw [t]
      · exact absurd t b

def lgO (s c : Nat) : Option (List UInt8) := fgO lgt (lgL s c (s + c))

/-- The model's search: the least ring of n pieces with at most s straights and c curves. -/
def IsLs (X : List UInt8 → Prop) (b : List UInt8) : Prop := (b = [] ∧ ∀ w, ¬ X w) ∨ (X b ∧ 0 < b.length ∧ ∀ v, X v → ¬ v < b)

theorem isLs_start : IsLs (fun _ => False) [] := .inl ⟨rfl, fun _ h => h⟩

theorem isLs_ext {X Y : List UInt8 → Prop} {b : List UInt8} (h : IsLs X b) (e : ∀ w, X w ↔ Y w) : IsLs Y b := by
  have : X = Y := funext fun w => propext (e w)
  rw [← this]; exact h

/-- One more: it is taken if it is the first or less. -/
def lsN (b x : List UInt8) : List UInt8 := if b = [] ∨ x < b then x else b

theorem isLs_next {X : List UInt8 → Prop} {b x : List UInt8} (h : IsLs X b) (hx : 0 < x.length) : IsLs (fun w => X w ∨ w = x) (lsN b x) := by
  unfold lsN
  rcases h with ⟨rfl, h⟩ | ⟨h1, h2, h3⟩
  · rw [if_pos (.inl rfl)]
    refine .inr ⟨.inr rfl, hx, fun v hv => ?_⟩
    rcases hv with hv | rfl
    · exact absurd hv (h v)
    · exact lt_irr v
  · by_cases hlt : x < b
    · rw [if_pos (.inr hlt)]
      refine .inr ⟨.inr rfl, hx, fun v hv => ?_⟩
      rcases hv with hv | rfl
      · exact fun g => h3 v hv (lt_trn g hlt)
      · exact lt_irr v
    · rw [if_neg (by rintro (rfl | g); exact absurd h2 (by simp); exact hlt g)]
      refine .inr ⟨.inl h1, h2, fun v hv => ?_⟩
      rcases hv with hv | rfl
      · exact h3 v hv
      · exact hlt

/-- The least one of n pieces, when nothing longer is there. -/
theorem isLs_long {s c n : Nat} {b : List UInt8} (h : IsLs (fun w => w ∈ lgN s c n) b) (hn : 0 < n) (hns : n ≤ s + c) (hno : ∀ m, n < m → m ≤ s + c → lgN s c m = []) (hb : b ≠ []) : lgO s c = some b := by
  refine lg_one (lg_fg (lgL_lt s c (s + c))) ?_
  rcases h with ⟨rfl, _⟩ | ⟨h1, h2, h3⟩
  · exact absurd rfl hb
  · have hl := (lgN_iff.1 h1).1.1.1
    refine ⟨lgL_iff.2 ⟨h2, by omega, by rw [hl]; exact h1⟩, fun v hv => ?_⟩
    have hv := lgL_iff.1 hv
    rcases Nat.lt_trichotomy v.length n with g | g | g
    · exact .inl (by omega)
    · exact .inr ⟨by omega, h3 v (g ▸ hv.2.2)⟩
    · rw [hno _ g hv.2.1] at hv; simp at hv

theorem isLs_none {s c : Nat} (hno : ∀ m, 0 < m → m ≤ s + c → lgN s c m = []) : lgO s c = none := by
  refine lg_one (lg_fg (lgL_lt s c (s + c))) ?_
  show lgL s c (s + c) = []
  rw [List.eq_nil_iff_forall_not_mem]
  intro v hv
  have hv := lgL_iff.1 hv
  rw [hno _ hv.1 hv.2.1] at hv; simp at hv

theorem lgN_box {s c n : Nat} (hn : 0 < n) {w : List UInt8} : w ∈ lgN s c n ↔ ∃ k, n - c ≤ k ∧ k ≤ s ∧ k ≤ n ∧ w ∈ bxR k (n - k) := by
  rw [lgN_iff]
  constructor
  · rintro ⟨⟨⟨h1, h2⟩, h3⟩, h4, h5⟩
    have h6 : cnt 83 w ≤ w.length := List.count_le_length
    exact ⟨cnt 83 w, by omega, h4, by omega, bxR_iff.2 ⟨⟨⟨by omega, h2⟩, rfl⟩, by omega, h3⟩⟩
  · rintro ⟨k, k1, k2, k3, hw⟩
    have h := bxR_iff.1 hw
    exact ⟨⟨⟨by omega, h.1.1.2⟩, h.2.2⟩, by omega, by omega⟩

/-- How many tracks: the model's product and the program's. -/
def ctM (s c : Nat) : Nat → Nat
  | 0 => 1
  | k + 1 => ctM s c k * (c + (k + 1)) / (k + 1)

def ctP (s c : Nat) : Nat → Nat
  | 0 => 1
  | k + 1 => 2 * ctP s c k * (s + (k + 1)) / (k + 1)

theorem ct_all : ∀ s < 13, ∀ c < 13, s + c ≤ 12 → ctM s c s * 2 ^ c = ctP s c c ∧ (∀ k ≤ s, ctM s c k ≤ 1000) ∧ ∀ k ≤ c, ctP s c k ≤ 1000000 := by decide +kernel

theorem ct_same {s c : Nat} (h : s + c ≤ 12) : ctM s c s * 2 ^ c = ctP s c c := (ct_all s (by omega) c (by omega) h).1

theorem ctM_le {s c k : Nat} (h : s + c ≤ 12) (hk : k ≤ s) : ctM s c k ≤ 1000 := (ct_all s (by omega) c (by omega) h).2.1 k hk

theorem ctP_le {s c k : Nat} (h : s + c ≤ 12) (hk : k ≤ c) : ctP s c k ≤ 1000000 := (ct_all s (by omega) c (by omega) h).2.2 k hk

/-- The numbers of straights of the boxes of n pieces from which a ring is laid whole. -/
def hasR (n s : Nat) : Bool := decide (0 < (bxR s (n - s)).length)

def rbL (n k : Nat) : List Nat := (List.range k).filter (hasR n)

theorem rbL_succ (n k : Nat) : rbL n (k + 1) = rbL n k ++ (if hasR n k then [k] else []) := by
  simp only [rbL, List.range_succ, List.filter_append, List.filter_cons, List.filter_nil]

theorem rbL_le (n k : Nat) : (rbL n k).length ≤ k := by
  have := List.length_filter_le (hasR n) (List.range k)
  rw [List.length_range] at this
  exact this

theorem hasR_iff {n s : Nat} (hn : 0 < n) (hs : s ≤ n) : hasR n s = true ↔ ∃ w ∈ clsL sp0 n, cnt 83 w = s := by
  rw [hasR, decide_eq_true_eq, bxR_cls (by omega), show s + (n - s) = n by omega, List.length_pos_iff_exists_mem]
  constructor
  · rintro ⟨w, hw⟩
    rw [List.mem_filter, beq_iff_eq] at hw
    exact ⟨w, hw⟩
  · rintro ⟨w, hw⟩
    exact ⟨w, by rw [List.mem_filter, beq_iff_eq]; exact hw⟩

/-- The different ones of some. -/
def ddS (l : List Sp) (x : Sp) : List Sp := if l.any (fun y => spE y x) then l else l ++ [x]

def ddL (l : List Sp) : List Sp := l.foldl ddS []

theorem ddL_snoc (l : List Sp) (x : Sp) : ddL (l ++ [x]) = ddS (ddL l) x := by simp [ddL]

theorem ddL_le (l : List Sp) : (ddL l).length ≤ l.length := by
  rcases List.eq_nil_or_concat l with rfl | ⟨m, x, rfl⟩
  · exact Nat.le_refl _
  · rw [List.concat_eq_append, ddL_snoc, ddS]
    have := ddL_le m
    split <;> simp <;> omega
termination_by l.length
decreasing_by simp_all

end Go.Proofs.Ytkmgcmgnaeamaaa

/- Contract: which bytes are pieces, in the model. -/
namespace Go.Proofs.Ytkmgcmgnaeamaaa
open Go.ChangeShapes Go.WideShapes Go.ChangeAt Go.RowKit

def pcB (c : Int) : Bool := decide (c = 83 ∨ c = 76 ∨ c = 82)

theorem ptPiece_any (c : Int) (w : World) :
    Calls Try.prog 89 #[.int .u8 c] w fun e w' => e = .returned (.bool (pcB c)) ∧ w = w' := by
  by_cases h1 : c = 83
  · subst h1
    go_enter Try.func89, Try.ntmps89
    go_wp2
    go_ret
    exact ⟨rfl, rfl⟩
  by_cases h2 : c = 76
  · subst h2
    go_enter Try.func89, Try.ntmps89
    go_wp2
    go_ret
    exact ⟨rfl, rfl⟩
  have b1 : (c == 83) = false := by simpa using h1
  have b2 : (c == 76) = false := by simpa using h2
  go_enter Try.func89, Try.ntmps89
  go_wp2
  all_goals go_ret
  all_goals exact ⟨by by_cases h3 : c = 82 <;> simp [pcB, h1, h2, h3], rfl⟩

end Go.Proofs.Ytkmgcmgnaeamaaa

/- Contracts: how a piece is laid: the function that the program picks. -/
namespace Go.Proofs.Ytkmgcmgnaeamaaa
open Go.ChangeShapes Go.WideShapes Go.ChangeAt Go.RowKit

@[go_sem high] theorem fneq_L (w : World) : (binOp .eql 105 (.func (Fn.func 103) #[] #[]) .nilFunc).run Try.prog w = .ok (.bool false) w := by kernel_rfl

@[go_sem high] theorem fneq_R (w : World) : (binOp .eql 105 (.func (Fn.func 104) #[] #[]) .nilFunc).run Try.prog w = .ok (.bool false) w := by kernel_rfl

@[go_sem high] theorem fneq_S (w : World) : (binOp .eql 105 (.func (Fn.func 102) #[] #[]) .nilFunc).run Try.prog w = .ok (.bool false) w := by kernel_rfl

@[go_sem high] theorem fneq_no (w : World) : (binOp .eql 105 .nilFunc .nilFunc).run Try.prog w = .ok (.bool true) w := by kernel_rfl

theorem lay_L (w : World) :
    Calls Try.prog 91 #[.string ⟨#[76]⟩] w fun e w' => e = .returned (.func (Fn.func 103) #[] #[]) ∧ w = w' := by
  go_enter Try.func91, Try.ntmps91
  go_wp2
  go_ret
  exact ⟨rfl, rfl⟩

theorem lay_R (w : World) :
    Calls Try.prog 91 #[.string ⟨#[82]⟩] w fun e w' => e = .returned (.func (Fn.func 104) #[] #[]) ∧ w = w' := by
  go_enter Try.func91, Try.ntmps91
  go_wp2
  go_ret
  exact ⟨rfl, rfl⟩

theorem lay_S (w : World) :
    Calls Try.prog 91 #[.string ⟨#[83]⟩] w fun e w' => e = .returned (.func (Fn.func 102) #[] #[]) ∧ w = w' := by
  go_enter Try.func91, Try.ntmps91
  go_wp2
  go_ret
  exact ⟨rfl, rfl⟩

theorem lay_no (s : ByteArray) (n1 : (s.toList == [83]) = false) (n2 : (s.toList == [76]) = false) (n3 : (s.toList == [82]) = false) (w : World) :
    Calls Try.prog 91 #[.string s] w fun e w' => e = .returned .nilFunc ∧ w = w' := by
  go_enter Try.func91, Try.ntmps91
  go_wp2
  go_ret
  exact ⟨rfl, rfl⟩

end Go.Proofs.Ytkmgcmgnaeamaaa

/- Contracts: which texts are tracks, in the model and in the program. -/
namespace Go.Proofs.Ytkmgcmgnaeamaaa
open Go.ChangeShapes Go.WideShapes Go.ChangeAt Go.RowKit

theorem pcB_pcb (c : UInt8) : pcB ((c.toNat : Nat) : Int) = pcb c := by
  rw [Bool.eq_iff_iff]
  simp only [pcB, pcb, decide_eq_true_eq, Bool.or_eq_true, beq_iff_eq, ← UInt8.toNat_inj]
  constructor <;> (intro h; simp at h ⊢; omega)

theorem lay_L' (x : ByteArray) (hx : x = ⟨#[76]⟩) (w : World) :
    Calls Try.prog 91 #[.string x] w fun e w' => e = .returned (.func (Fn.func 103) #[] #[]) ∧ w = w' := by subst hx; exact lay_L w

theorem lay_R' (x : ByteArray) (hx : x = ⟨#[82]⟩) (w : World) :
    Calls Try.prog 91 #[.string x] w fun e w' => e = .returned (.func (Fn.func 104) #[] #[]) ∧ w = w' := by subst hx; exact lay_R w

theorem lay_S' (x : ByteArray) (hx : x = ⟨#[83]⟩) (w : World) :
    Calls Try.prog 91 #[.string x] w fun e w' => e = .returned (.func (Fn.func 102) #[] #[]) ∧ w = w' := by subst hx; exact lay_S w

theorem lay_N' (x : ByteArray) (c : UInt8) (hx : x = ⟨#[c]⟩) (hp : pcb c = false) (w : World) :
    Calls Try.prog 91 #[.string x] w fun e w' => e = .returned .nilFunc ∧ w = w' := by
  subst hx
  simp only [pcb, Bool.or_eq_false_iff, beq_eq_false_iff_ne] at hp
  obtain ⟨p1, p2, p3⟩ := hp
  exact lay_no _ (by simp [ByteArray.toList_eq, p1]) (by simp [ByteArray.toList_eq, p2]) (by simp [ByteArray.toList_eq, p3]) w

theorem lay_cases {x : ByteArray} {c : UInt8} (hx : x = ⟨#[c]⟩) (hp : pcb c = true) (w : World) :
    ∃ g : FuncId, (g = 102 ∨ g = 103 ∨ g = 104) ∧ Calls Try.prog 91 #[.string x] w fun e w' => e = .returned (.func (Fn.func g) #[] #[]) ∧ w = w' := by
  rcases pcb_cases hp with rfl | rfl | rfl
  · exact ⟨_, .inl rfl, lay_S' x hx w⟩
  · exact ⟨_, .inr (.inl rfl), lay_L' x hx w⟩
  · exact ⟨_, .inr (.inr rfl), lay_R' x hx w⟩

set_option maxRecDepth 100000 in
theorem tkGood_any (s : ByteArray) (hs : s.size ≤ 1048576) (w : World) :
    Calls Try.prog 53 #[.string s] w fun e w' => e = .returned (.bool (tkB s)) ∧ w = w' := by
  by_cases h40 : s.size ≤ 40
  · go_enter Try.func53, Try.ntmps53
    go_wp2_with fail
    go_loop [3] (fun i => ∃ k : Nat, k ≤ s.size ∧ i = .int .i64 k ∧ (s.data.toList.take k).all pcb = true) (fun i => s.size - (intOf i).toNat)
    case atStart => exact ⟨0, Nat.zero_le _, rfl, rfl⟩
    case round =>
      obtain ⟨k, hk, rfl, hall⟩ := hrel
      have HA := Lib.hid hall
      clear hall
      by_cases hlt : k < s.size
      · have he := pcB_pcb s[k]
        cases hp : pcb s[k]
        · have hp2 : pcB ((s[k].toNat : Nat) : Int) = false := he.trans hp
          have HP := Lib.hid hp
          clear he hp
          go_wp2_with (go_at_call 89; refine (ptPiece_any _ _).mono ?_; rintro e w' ⟨rfl, rfl⟩)
          go_ret
          exact ⟨by rw [tkB_no hlt HP.out]; rfl, rfl⟩
        · have hp2 : pcB ((s[k].toNat : Nat) : Int) = true := he.trans hp
          have HP := Lib.hid hp
          clear he hp
          go_wp2_with (go_at_call 89; refine (ptPiece_any _ _).mono ?_; rintro e w' ⟨rfl, rfl⟩)
          go_round
          case rel => exact ⟨k + 1, by omega, by go_num, all_snoc hlt HA.out HP.out⟩
          case measure => simp [intOf]; omega
      · go_wp2_with fail
        go_ret
        exact ⟨by rw [tkB_yes h40 hlt HA.out]; rfl, rfl⟩
  · have hgt : 40 < s.size := by omega
    go_enter Try.func53, Try.ntmps53
    go_wp2_with fail
    go_ret
    exact ⟨by rw [tkB_long h40]; rfl, rfl⟩

set_option maxRecDepth 100000 in
theorem imIsTrack_any (s : ByteArray) (hs : s.size ≤ 1048576) (w : World) :
    Calls Try.prog 55 #[.string s] w fun e w' => e = .returned (.bool (tkB s)) ∧ w = w' := by
  by_cases h40 : s.size ≤ 40
  · go_enter Try.func55, Try.ntmps55
    go_wp2_with fail
    go_loop [9] (fun i => ∃ k : Nat, k ≤ s.size ∧ i = .int .i64 k ∧ (s.data.toList.take k).all pcb = true) (fun i => s.size - (intOf i).toNat)
    case atStart => exact ⟨0, Nat.zero_le _, rfl, rfl⟩
    case round =>
      obtain ⟨k, hk, rfl, hall⟩ := hrel
      have HA := Lib.hid hall
      clear hall
      by_cases hlt : k < s.size
      · have HX := Lib.hid (ext_one s k hlt)
        cases hp : pcb s[k]
        · have HP := Lib.hid hp
          clear hp
          go_wp2_with (go_at_call 91; refine (lay_N' _ _ HX.out HP.out _).mono ?_; rintro e w' ⟨rfl, rfl⟩)
          go_ret
          exact ⟨by rw [tkB_no hlt HP.out]; rfl, rfl⟩
        · have HP := Lib.hid hp
          clear hp
          obtain ⟨g, hg, hc⟩ := lay_cases HX.out HP.out w
          have HC := Lib.hid hc
          clear hc
          rcases hg with rfl | rfl | rfl
          all_goals
            go_wp2_with (go_at_call 91; refine (HC.out).mono ?_; rintro e w' ⟨rfl, rfl⟩)
            go_round
            case rel => exact ⟨k + 1, by omega, by go_num, all_snoc hlt HA.out HP.out⟩
            case measure => simp [intOf]; omega
      · go_wp2_with fail
        go_ret
        exact ⟨by rw [tkB_yes h40 hlt HA.out]; rfl, rfl⟩
  · have hgt : 40 < s.size := by omega
    go_enter Try.func55, Try.ntmps55
    go_wp2_with fail
    go_ret
    exact ⟨by rw [tkB_long h40]; rfl, rfl⟩

end Go.Proofs.Ytkmgcmgnaeamaaa

/- Contracts: IsTrack of the model and of the program, as the laws ask for them. -/
namespace Go.Proofs.Ytkmgcmgnaeamaaa
open Go.ChangeShapes Go.WideShapes Go.ChangeAt Go.RowKit

theorem imIsTrack (s : ByteArray) (hs : s.size ≤ 1048576) (w : World) :
    Calls Try.prog 55 #[.string s] w fun e w' => e = .returned (.bool (tkB s)) ∧ Below w.heap.size w w' := grownOf (imIsTrack_any s hs w)

end Go.Proofs.Ytkmgcmgnaeamaaa

/- Contracts: how often a piece is in a track, in the model and in Go's library. -/
namespace Go.Proofs.Ytkmgcmgnaeamaaa
open Go.ChangeShapes Go.WideShapes Go.ChangeAt Go.RowKit

theorem ext_toList (s : ByteArray) (k : Nat) (h : k < s.size) : (s.extract k (k + 1)).toList = [s[k]] := by
  rw [ext_one s k h, ByteArray.toList_eq]

set_option maxRecDepth 100000 in
theorem tkCount_any (s : ByteArray) (c : UInt8) (hs : s.size ≤ 40) (w : World) :
    Calls Try.prog 90 #[.string s, .string ⟨#[c]⟩] w fun e w' => e = .returned (.int .i64 (cnt c s.data.toList : Nat)) ∧ w = w' := by
  go_enter Try.func90, Try.ntmps90
  go_wp2_with fail
  go_loop [5, 6] (fun n i => ∃ k : Nat, k ≤ s.size ∧ i = .int .i64 k ∧ n = .int .i64 (cnt c (s.data.toList.take k) : Nat)) (fun _ i => s.size - (intOf i).toNat)
  case atStart => exact ⟨0, Nat.zero_le _, rfl, rfl⟩
  case round =>
    obtain ⟨k, hk, rfl, rfl⟩ := hrel
    have hle := cnt_le c (s.data.toList.take k)
    have hl : (s.data.toList.take k).length ≤ k := List.length_take_le _ _
    by_cases hlt : k < s.size
    · have hx : (s.extract k (k + 1)).toList = [s[k]] := ext_toList s k hlt
      go_wp2_with fail
      · have h : (s[k] == c) = true := by assumption
        go_round
        case rel => exact ⟨k + 1, by omega, by go_num, by rw [take_snoc s k hlt, cnt_snoc, if_pos h]; go_num⟩
        case measure => simp [intOf]; omega
      · have h : (s[k] == c) = false := by assumption
        go_round
        case rel => exact ⟨k + 1, by omega, by go_num, by rw [take_snoc s k hlt, cnt_snoc, if_neg (by simp [h])]; rfl⟩
        case measure => simp [intOf]; omega
    · go_wp2_with fail
      go_ret
      exact ⟨by rw [take_all s hlt]; rfl, rfl⟩

theorem count_any (s : ByteArray) (c : UInt8) (w : World) :
    Calls Try.prog 105 #[.string s, .string ⟨#[c]⟩] w fun e w' => e = .returned (.int .i64 (cnt c s.data.toList : Nat)) ∧ w = w' :=
  (Try.strings_Count_one s c w).mono fun _ _ h => ⟨h.1, h.2.symm⟩

def tuR (s : ByteArray) : Int := cond (tkB s) ((cnt 76 s.data.toList : Int) - (cnt 82 s.data.toList : Int)) 0

theorem one_size {s : ByteArray} (h : s.size = 1) : ∃ c, s = ⟨#[c]⟩ := by
  obtain ⟨⟨d⟩⟩ := s
  match d, h with
  | [c], _ => exact ⟨c, rfl⟩

/-- A text is a piece. -/
def pcS (p : ByteArray) : Bool := p.toList == [83] || (p.toList == [76] || p.toList == [82])

def cpR (s p : ByteArray) : Int := cond (tkB s && pcS p) (cnt (p.toList.headD 0) s.data.toList : Int) 0

theorem pcS_one (c : UInt8) : pcS ⟨#[c]⟩ = pcb c := by
  simp [pcS, pcb, ByteArray.toList_eq]

theorem pcS_size {p : ByteArray} (h : pcS p = true) : ∃ c, p = ⟨#[c]⟩ ∧ pcb c = true := by
  simp only [pcS, Bool.or_eq_true, beq_iff_eq, ByteArray.toList_eq] at h
  obtain ⟨⟨l⟩⟩ := p
  rcases h with h | h | h <;> (simp at h; subst h; exact ⟨_, rfl, by decide⟩)

theorem pcS_no {p : ByteArray} (h : pcS p = false) : (p.toList == [83]) = false ∧ (p.toList == [76]) = false ∧ (p.toList == [82]) = false := by
  simpa [pcS, Bool.or_eq_false_iff] using h

end Go.Proofs.Ytkmgcmgnaeamaaa

/- Contract: whether a number lies in a range. -/
namespace Go.Proofs.Ytkmgcmgnaeamaaa
open Go.ChangeShapes Go.WideShapes Go.ChangeAt Go.RowKit

set_option maxRecDepth 100000 in
theorem isInRange_any (n lo hi : Int) (w : World) :
    Calls Try.prog 74 #[.int .i64 n, .int .i64 lo, .int .i64 hi] w fun e w' => e = .returned (.bool (inB n lo hi)) ∧ w = w' := by
  go_enter Try.func74, Try.ntmps74
  go_wp2
  · go_ret
    exact ⟨by simp [inB, *], rfl⟩
  · go_ret
    exact ⟨by simp [inB]; omega, rfl⟩

end Go.Proofs.Ytkmgcmgnaeamaaa

/- Contracts: boxes and what tracks need, in the model and in the program: which boxes there are, what is laid from them, what is missing, sums and prices. -/
namespace Go.Proofs.Ytkmgcmgnaeamaaa
open Go.ChangeShapes Go.WideShapes Go.ChangeAt Go.RowKit

set_option linter.unusedVariables false
set_option linter.unusedSimpArgs false

/-- A box of at most m pieces. -/
def bxB (m : Int) (b : Bq) : Bool := inB b.x 0 m && inB b.r 0 (m - b.x)

theorem bxB_yes {m : Int} {b : Bq} (h : bxB m b = true) : 0 ≤ b.x ∧ 0 ≤ b.r ∧ b.x + b.r ≤ m := by simp [bxB, inB] at h; omega

theorem bxB_nat {m : Nat} {b : Bq} (h : bxB m b = true) : ∃ s c : Nat, b = ⟨s, c⟩ ∧ s + c ≤ m := by
  obtain ⟨h0, h1, h2⟩ := bxB_yes h
  obtain ⟨x, r⟩ := b
  simp only at h0 h1 h2
  exact ⟨x.toNat, r.toNat, by rw [Int.toNat_of_nonneg h0, Int.toNat_of_nonneg h1], by omega⟩

theorem bxB_of {m : Nat} {s c : Nat} (h : s + c ≤ m) : bxB m ⟨s, c⟩ = true := by simp [bxB, inB]; omega

set_option maxRecDepth 100000 in
theorem spBox_any (b : Bq) (w : World) : Calls Try.prog 51 #[bv b] w fun e w' => e = .returned (.bool (bxB 40 b)) ∧ Below w.heap.size w w' := by
  obtain ⟨x, r⟩ := b
  cases h0 : inB x 0 40
  · go_enter Try.func51, Try.ntmps51
    go_wp2_with (go_at_call 72; refine (l1In_any _ _ _ _).mono ?_; rintro e w' ⟨rfl, rfl⟩)
    go_returns
    exact ⟨by simp [bxB, h0], by go_grown⟩
  · have hx : 0 ≤ x ∧ x ≤ 40 := by simpa [inB] using h0
    have e : (40 : Int) + wrap64 (-1 * x) = 40 - x := by rw [IntWalk.wrap64_in _ ⟨by omega, by omega⟩]; omega
    cases h1 : inB r 0 (40 - x)
    all_goals
      go_enter Try.func51, Try.ntmps51
      go_wp2_with (go_at_call 72; refine (l1In_any _ _ _ _).mono ?_; rintro e w' ⟨rfl, rfl⟩)
      go_returns
      exact ⟨by simp [bxB, h0, h1], by go_grown⟩

set_option maxRecDepth 100000 in
theorem isWithinB_any (b : Bq) (m : Int) (h : 0 ≤ m) (hm : m ≤ 1000) (w : World) : Calls Try.prog 52 #[bv b, .int .i64 m] w fun e w' => e = .returned (.bool (bxB m b)) ∧ Below w.heap.size w w' := by
  obtain ⟨x, r⟩ := b
  cases h0 : inB x 0 m
  · go_enter Try.func52, Try.ntmps52
    go_wp2_with (go_at_call 74; refine (isInRange_any _ _ _ _).mono ?_; rintro e w' ⟨rfl, rfl⟩)
    go_returns
    exact ⟨by simp [bxB, h0], by go_grown⟩
  · have hx : 0 ≤ x ∧ x ≤ m := by simpa [inB] using h0
    cases h1 : inB r 0 (m - x)
    all_goals
      go_enter Try.func52, Try.ntmps52
      go_wp2_with (go_at_call 74; refine (isInRange_any _ _ _ _).mono ?_; rintro e w' ⟨rfl, rfl⟩)
      go_returns
      exact ⟨by simp [bxB, h0, h1], by go_grown⟩

set_option maxRecDepth 100000 in
theorem spIsBox (b : Bq) (w : World) : Calls Try.prog 16 #[bv b] w fun e w' => e = .returned (.bool (bxB 40 b)) ∧ Below w.heap.size w w' := by
  have P := Lib.hid (spBox_any b)
  go_enter Try.func16, Try.ntmps16
  go_wp2_with (go_at_call 51; refine (P.out _).mono ?_; rintro e w1 ⟨rfl, h1⟩; have hB : Below w.heap.size w w1 := ba (by go_grown) h1; obtain ⟨hc1, hf1⟩ := bcell h1; have hq := h1.size; (try simp at hq); have hz0 : w.heap.size < w1.heap.size := (by omega); have HK1 := Lib.hid h1; clear h1 hq)
  go_returns
  exact ⟨rfl, by go_grown⟩

set_option maxRecDepth 100000 in
theorem imIsBox (b : Bq) (w : World) : Calls Try.prog 18 #[bv b] w fun e w' => e = .returned (.bool (bxB 40 b)) ∧ Below w.heap.size w w' := by
  have P := Lib.hid (isWithinB_any b 40 (by decide) (by decide))
  go_enter Try.func18, Try.ntmps18
  go_wp2_with (go_at_call 52; refine (P.out _).mono ?_; rintro e w1 ⟨rfl, h1⟩; have hB : Below w.heap.size w w1 := ba (by go_grown) h1; obtain ⟨hc1, hf1⟩ := bcell h1; have hq := h1.size; (try simp at hq); have hz0 : w.heap.size < w1.heap.size := (by omega); have HK1 := Lib.hid h1; clear h1 hq)
  go_returns
  exact ⟨rfl, by go_grown⟩

/-- How many straights and curves a track has. -/
def stN (s : ByteArray) : Nat := cnt 83 s.data.toList

def cvN (s : ByteArray) : Nat := s.size - cnt 83 s.data.toList

theorem st_cv (s : ByteArray) : stN s + cvN s = s.size := by
  have := cnt_le 83 s.data.toList
  rw [size_list] at this
  unfold stN cvN; omega

theorem lr_cv {s : ByteArray} (h : tkB s = true) : cnt 76 s.data.toList + cnt 82 s.data.toList = cvN s := by
  have := cnt3B (w := s.data.toList) fun c hc => by
    have := pcb_cases (tkB_list h c hc)
    rcases this with rfl | rfl | rfl <;> simp [ltr]
  rw [size_list] at this
  unfold cvN; omega

set_option maxRecDepth 100000 in
theorem spOf_any (s : ByteArray) (ht : tkB s = true) (w : World) : Calls Try.prog 54 #[.string s] w fun e w' => e = .returned (bv ⟨stN s, cvN s⟩) ∧ Below w.heap.size w w' := by
  have h40 := tkB_size ht
  have hs := st_cv s
  have e : (s.size : Int) - (stN s : Int) = (cvN s : Int) := by omega
  have P0 : ∀ w, Calls Try.prog 90 #[.string s, .string ⟨#[83]⟩] w fun e w' => e = .returned (.int .i64 (stN s : Nat)) ∧ w = w' := fun w => tkCount_any s 83 h40 w
  have P := Lib.hid P0
  clear P0
  generalize stN s = a at *
  generalize cvN s = c at *
  have e2 : wrap64 ((s.size : Int) - (a : Int)) = (c : Int) := by rw [e, IntWalk.wrap64_in _ ⟨by omega, by omega⟩]
  go_enter Try.func54, Try.ntmps54
  go_wp2_with (go_at_call 90; refine (P.out _).mono ?_; rintro e w' ⟨rfl, rfl⟩)
  refine bodyPost_ret (by simp [results, Try.results54, go_sem, *]; try rfl) rfl ?_
  exact ⟨rfl, by go_grown⟩

set_option maxRecDepth 100000 in
theorem tallyOf_any (s : ByteArray) (ht : tkB s = true) (w : World) : Calls Try.prog 92 #[.string s] w fun e w' => e = .returned (.agg #[.int .i64 (stN s : Nat), .int .i64 (cnt 76 s.data.toList : Nat), .int .i64 (cnt 82 s.data.toList : Nat)]) ∧ Below w.heap.size w w' := by
  have P := Lib.hid (fun c w => count_any s c w)
  go_enter Try.func92, Try.ntmps92
  go_wp2_with (go_at_call 105; refine (P.out _ _).mono ?_; rintro e w' ⟨rfl, rfl⟩)
  refine bodyPost_ret (by simp [results, Try.results92, go_sem, *]; try rfl) rfl ?_
  exact ⟨rfl, by go_grown⟩

set_option maxRecDepth 100000 in
theorem needsOf_any (s : ByteArray) (ht : tkB s = true) (w : World) : Calls Try.prog 56 #[.string s] w fun e w' => e = .returned (bv ⟨stN s, cvN s⟩) ∧ Below w.heap.size w w' := by
  have h40 := tkB_size ht
  have hs := st_cv s
  have hl := lr_cv ht
  have P := Lib.hid (fun w => tallyOf_any s ht w)
  generalize stN s = a at *
  generalize cvN s = c at *
  generalize cnt 76 s.data.toList = x at *
  generalize cnt 82 s.data.toList = y at *
  have e : (x : Int) + (y : Int) = (c : Int) := by omega
  go_enter Try.func56, Try.ntmps56
  go_wp2_with (go_at_call 92; refine (P.out _).mono ?_; rintro e w1 ⟨rfl, h1⟩; have hB : Below w.heap.size w w1 := ba (by go_grown) h1; obtain ⟨hc1, hf1⟩ := bcell h1; have hq := h1.size; (try simp at hq); have hz0 : w.heap.size < w1.heap.size := (by omega); have HK1 := Lib.hid h1; clear h1 hq)
  refine bodyPost_ret (by simp [results, Try.results56, go_sem, *]; try rfl) rfl ?_
  exact ⟨rfl, by go_grown⟩

set_option maxRecDepth 100000 in
theorem supplyBox_any (b : Bq) (w : World) : Calls Try.prog 57 #[bv b] w fun e w' => e = .returned (bv b) ∧ Below w.heap.size w w' := by
  obtain ⟨x, r⟩ := b
  go_enter Try.func57, Try.ntmps57
  go_wp2_with fail
  refine bodyPost_ret (by simp [results, Try.results57, go_sem, *]; try rfl) rfl ?_
  exact ⟨rfl, by go_grown⟩

set_option maxRecDepth 100000 in
theorem boxSupply_any (b : Bq) (w : World) : Calls Try.prog 58 #[bv b] w fun e w' => e = .returned (bv b) ∧ Below w.heap.size w w' := by
  obtain ⟨x, r⟩ := b
  go_enter Try.func58, Try.ntmps58
  go_wp2_with fail
  refine bodyPost_ret (by simp [results, Try.results58, go_sem, *]; try rfl) rfl ?_
  exact ⟨rfl, by go_grown⟩

set_option maxRecDepth 100000 in
theorem less_any (a b : Bq) (w : World) : Calls Try.prog 62 #[bv a, bv b] w fun e w' => e = .returned (bv ⟨wrap64 (a.x - b.x), wrap64 (a.r - b.r)⟩) ∧ Below w.heap.size w w' := by
  obtain ⟨x, r⟩ := a
  obtain ⟨y, s⟩ := b
  go_enter Try.func62, Try.ntmps62
  go_wp2_with fail
  refine bodyPost_ret (by simp [results, Try.results62, go_sem, *]; try rfl) rfl ?_
  exact ⟨by simp [wrap64], by go_grown⟩

set_option maxRecDepth 100000 in
theorem plus_any (a b : Bq) (w : World) : Calls Try.prog 83 #[bv a, bv b] w fun e w' => e = .returned (bv ⟨wrap64 (a.x + b.x), wrap64 (a.r + b.r)⟩) ∧ Below w.heap.size w w' := by
  obtain ⟨x, r⟩ := a
  obtain ⟨y, s⟩ := b
  go_enter Try.func83, Try.ntmps83
  go_wp2_with fail
  refine bodyPost_ret (by simp [results, Try.results83, go_sem, *]; try rfl) rfl ?_
  exact ⟨by simp [wrap64], by go_grown⟩

set_option maxRecDepth 100000 in
theorem most_any (a b : Bq) (w : World) : Calls Try.prog 61 #[bv a, bv b] w fun e w' => e = .returned (bv ⟨max a.x b.x, max a.r b.r⟩) ∧ Below w.heap.size w w' := by
  obtain ⟨x, r⟩ := a
  obtain ⟨y, s⟩ := b
  go_enter Try.func61, Try.ntmps61
  go_wp2_with fail
  refine wp_loop_rounds 3 ?_
  rw [rounds_succ]
  have x0 : ∀ w : World, (Instr.index 66 (.agg #[.int .i64 y, .int .i64 s]) (.int .i64 0)).run Try.prog w = .ok (.int .i64 y) w := fun _ => by kernel_rfl
  have x1 : ∀ w : World, (Instr.index 66 (.agg #[.int .i64 y, .int .i64 s]) (.int .i64 1)).run Try.prog w = .ok (.int .i64 s) w := fun _ => by kernel_rfl
  go_wp2_with fail
  rw [rounds_succ]
  go_wp2_with fail
  rw [rounds_succ]
  go_wp2_with fail
  refine bodyPost_ret (by simp [results, Try.results61, go_sem, *]; try rfl) rfl ?_
  exact ⟨rfl, by go_grown⟩

/-- '==' on two supplies. -/
theorem supUnder : Try.prog.underlying 66 = some (.array 2 3) := by kernel_rfl

theorem intOne : Try.prog.cellsOf 3 = 1 := by kernel_rfl

theorem eqSupAt (d : Nat) (x y z u : Int) (w : World) : (Op.equalIn (d + 1 + 1) 66 (.agg #[.int .i64 x, .int .i64 y]) (.agg #[.int .i64 z, .int .i64 u])).run Try.prog w = .ok (x == z && y == u) w := by
  cases hq : Try.prog.info? 3 with
  | none =>
    have h : (Try.prog.info? 3).isSome = true := by kernel_rfl
    rw [hq] at h
    cases h
  | some i =>
    have e0 := run_equalIn_int (P := Try.prog) w d 3 .i64 .i64 x z Try.underlying3
    have e1 := run_equalIn_int (P := Try.prog) w d 3 .i64 .i64 y u Try.underlying3
    rw [run_equalIn_array w (d + 1) _ _ supUnder hq, intOne]
    simp only [List.range, List.range.loop, Op.eqItems, Sem.run_bind]
    have p0 : ∀ (a b : Int), (part 3 #[.int .i64 a, .int .i64 b] (0 * 1)).run Try.prog w = .ok (.int .i64 a) w := fun a b => by simp [go_sem]
    have p1 : ∀ (a b : Int), (part 3 #[.int .i64 a, .int .i64 b] (1 * 1)).run Try.prog w = .ok (.int .i64 b) w := fun a b => by simp [go_sem]
    rw [p0 x y, Result.andThen_ok, p0 z u, Result.andThen_ok, e0, Result.andThen_ok]
    cases h0 : (x == z)
    · simp
    · simp only [Bool.not_true, Bool.false_eq_true, if_false, Bool.true_and, Sem.run_bind]
      rw [p1 x y, Result.andThen_ok, p1 z u, Result.andThen_ok, e1, Result.andThen_ok]
      cases h1 : (y == u) <;> simp

@[go_sem high] theorem eqSup (x y z u : Int) (w : World) : (binOp .eql 66 (.agg #[.int .i64 x, .int .i64 y]) (.agg #[.int .i64 z, .int .i64 u])).run Try.prog w = .ok (.bool (x == z && y == u)) w := by
  rw [run_eql_struct, show (10000 : Nat) = 9998 + 1 + 1 from rfl, eqSupAt]
  rfl

end Go.Proofs.Ytkmgcmgnaeamaaa

/- Laws on a map that a call has made: an entry is met, then stored. -/
namespace Go.Proofs.Ytkmgcmgnaeamaaa
open Go Go.ChangeMaps Go.MapKept Go.ChangeShapes Go.WideShapes
open Go.WideElems (Fit rd rg pl rd_val elemAt entry_then_store)
open Go.WideMaps (KeyLaw)
open Go.Maps (Keyed)

section
variable {H : Type} {P : Program} {k t e : TypeId} {R : Value → Option (DataW H × List MemPlace)} {w : World} {b n : Nat} {D : DataW H}

theorem own_block {es : Array MapEntry} {clock : Nat} (hb : w.heap[b]? = some (.map es clock)) (h : w.ownsMap P k R b n D) {w2 : World} (hb2 : w2.heap[b]? = some (.map es clock)) : w2.ownsMap P k R b n D := by
  obtain ⟨es', clock', hb', F, hs, hD⟩ := h
  rw [hb] at hb'
  cases hb'
  exact ⟨es, clock, hb2, F, hs, hD⟩

theorem setBlock_grown {es : Array MapEntry} {clock : Nat} {X' : Obj} (hb : w.heap[b]? = some (.map es clock)) : w.grownBy (setBlock w b X') (some b) :=
  ⟨rfl, rfl, rfl, by simp [setBlock], fun i _ hi => heap_setBlock_other hb _ (fun e => hi (by rw [e]))⟩

theorem map_entry (h : w.ownsMap P k R b n D) (K : KeyLaw P k) (ht : P.underlying t = some (.map k e)) (hn : n < maxLen) {z : Value} (hz : ∀ u : World, (zeroValue e).run P u = .ok z u) {zd : DataW H} {zp : List MemPlace} (hzd : R z = some (zd, zp))
    {key : Value} {kl : Lit} (hkey : keyOf P k key = some kl) :
    ∃ (v0 : Value) (st : Nat) (es1 : Array MapEntry) (c1 : Nat), (Instr.mapEntry t (.map (some b)) key).run P w = .ok (.tuple #[v0, goInt st]) (setBlock w b (.map es1 c1)) ∧ w.grownBy (setBlock w b (.map es1 c1)) (some b) ∧ (setBlock w b (.map es1 c1)).heap[b]? = some (.map es1 c1) ∧ (∃ ps, R v0 = some (D.atKey kl zd, ps)) ∧ b < w.heap.size ∧
      ∀ (w2 : World) (val : Value) (d : DataW H) (ps : List MemPlace), w2.heap[b]? = some (.map es1 c1) → R val = some (d, ps) →
        ∃ w3, (Instr.entryStore t (.map (some b)) (goInt st) val).run P w2 = .ok () w3 ∧ w3.ownsMap P k R b (n + 1) (D.put kl d) ∧ w2.grownBy w3 (some b) := by
  obtain ⟨v, ps, hrun, hRv⟩ := h.lookup (Keyed.of_law K) ht (hz w) hzd hkey
  have hup := fun (val : Value) (d : DataW H) (ps : List MemPlace) (hv : R val = some (d, ps)) => h.update (Keyed.of_law K) ht hn hkey hv
  obtain ⟨es, clock, hb, F, hs, hD⟩ := h
  obtain ⟨v0, st, es1, clock1, h1, h2, h3⟩ := entry_then_store K ht hz hb F hkey
  have e0 : v = v0 := by
    rcases K.find w hkey es.toList F.keys with ⟨f1, f2⟩ | ⟨j, e0, f1, f2, f3⟩
    · have hl : (Instr.lookup t (.map (some b)) key false).run P w = .ok z w := by simp [Instr.lookup, run_underlying ht, MapKept.run_getObj_map hb, K.check w _ hkey, f1, hz, Result.andThen]
      rw [hl] at hrun
      injection hrun with hrun
      rcases h2 with ⟨e1, he1, hk1, _⟩ | ⟨_, hv0⟩
      · exact absurd hk1 (f2 e1 he1)
      · rw [hv0, hrun]
    · have hl : (Instr.lookup t (.map (some b)) key false).run P w = .ok e0.val w := by simp [Instr.lookup, run_underlying ht, MapKept.run_getObj_map hb, K.check w _ hkey, f1, Result.andThen]
      have hj : es[j]? = some e0 := by simpa using f2
      have hm : ∃ r W', (Instr.mapEntry t (.map (some b)) key).run P w = .ok (.tuple #[e0.val, r]) W' := by
        refine ⟨goInt e0.born, setBlock w b (.map (es.modify j fun e => { e with key := key }) clock), ?_⟩
        simp [Instr.mapEntry, run_underlying ht, MapKept.run_getObj_map hb, K.check w false hkey, f1, hj, f3, K.stays w hkey, MapKept.run_setObj_map _ hb, Result.andThen, setBlock]
      obtain ⟨r, W', hm⟩ := hm
      rw [hl] at hrun
      injection hrun with hrun
      rw [h1] at hm
      injection hm with hm
      simp at hm
      rw [← hrun, hm.1]
  subst e0
  refine ⟨v, st, es1, clock1, h1, setBlock_grown hb, heap_setBlock_same hb _, ⟨ps, hRv⟩, (Array.getElem?_eq_some_iff.1 hb).1, fun w2 val d ps' hX hR => ?_⟩
  obtain ⟨es', clock', g1, g2⟩ := h3 w2 val hX
  obtain ⟨w', u1, u2, _⟩ := hup val d ps' hR
  rw [g2] at u1
  injection u1 with _ u1
  subst u1
  exact ⟨_, g1, own_block (heap_setBlock_same hb _) u2 (heap_setBlock_same hX _), setBlock_grown hX⟩

theorem wpList_mapEntry {ops : Array Oper} {rest : List Oper} {o : Oper} {a : Act} {Q : Exit → Act → World → Prop} (W1 : World) (r key : Value) (hg : o.guard = none) (m x : Operand) (hop : o.op = Op.mapEntry t m x)
    (hm : a.eval m = .map (some b)) (hx : a.eval x = key) (hrun : (Instr.mapEntry t (.map (some b)) key).run P w = .ok r W1) (hK : wpList P ops Q rest (a.put o.dst r) W1) : wpList P ops Q (o :: rest) a w := by
  refine wpList_plain hg fun K' hK' => ?_
  unfold Oper.wp
  simp [execOp, hop, hm, hx, hrun, Result.andThen]
  exact hK' _ _ hK

theorem wpList_entryStore {ops : Array Oper} {rest : List Oper} {o : Oper} {a : Act} {Q : Exit → Act → World → Prop} (W1 : World) (st val : Value) (hg : o.guard = none) (m s x : Operand) (hop : o.op = Op.entryStore t m s x)
    (hm : a.eval m = .map (some b)) (hs : a.eval s = st) (hx : a.eval x = val) (hrun : (Instr.entryStore t (.map (some b)) st val).run P w = .ok () W1) (hK : wpList P ops Q rest (a.put o.dst undef) W1) : wpList P ops Q (o :: rest) a w := by
  refine wpList_plain hg fun K' hK' => ?_
  unfold Oper.wp
  simp [execOp, hop, hm, hs, hx, hrun, Result.andThen]
  exact hK' _ _ hK

end

end Go.Proofs.Ytkmgcmgnaeamaaa

/- Cells handed on, as in Cl: those of a part, and lists of parts. -/
namespace Go.Proofs.Ytkmgcmgnaeamaaa
open Go.ChangeShapes Go.WideShapes Go.ChangeAt Go.RowKit

section
variable {B0 : Nat} {v00 v01 v02 v03 v04 v05 : Value} {W w1 : World}
theorem pr_below (h : W.cell? ⟨B0, 0, none⟩ = some v00 ∧ W.cell? ⟨B0, 1, none⟩ = some v01 ∧ W.cell? ⟨B0, 2, none⟩ = some v02 ∧ W.cell? ⟨B0, 3, none⟩ = some v03 ∧ W.cell? ⟨B0, 4, none⟩ = some v04 ∧ W.cell? ⟨B0, 5, none⟩ = some v05) (h0 : B0 < W.heap.size) (hb : Below W.heap.size W w1) : w1.cell? ⟨B0, 0, none⟩ = some v00 ∧ w1.cell? ⟨B0, 1, none⟩ = some v01 ∧ w1.cell? ⟨B0, 2, none⟩ = some v02 ∧ w1.cell? ⟨B0, 3, none⟩ = some v03 ∧ w1.cell? ⟨B0, 4, none⟩ = some v04 ∧ w1.cell? ⟨B0, 5, none⟩ = some v05 :=
  let ⟨k0, k1, k2, k3, k4, k5⟩ := h
  ⟨cl_below k0 h0 hb, cl_below k1 h0 hb, cl_below k2 h0 hb, cl_below k3 h0 hb, cl_below k4 h0 hb, cl_below k5 h0 hb⟩

theorem pr_alloc (h : W.cell? ⟨B0, 0, none⟩ = some v00 ∧ W.cell? ⟨B0, 1, none⟩ = some v01 ∧ W.cell? ⟨B0, 2, none⟩ = some v02 ∧ W.cell? ⟨B0, 3, none⟩ = some v03 ∧ W.cell? ⟨B0, 4, none⟩ = some v04 ∧ W.cell? ⟨B0, 5, none⟩ = some v05) (o : Obj) : (W.alloc o).cell? ⟨B0, 0, none⟩ = some v00 ∧ (W.alloc o).cell? ⟨B0, 1, none⟩ = some v01 ∧ (W.alloc o).cell? ⟨B0, 2, none⟩ = some v02 ∧ (W.alloc o).cell? ⟨B0, 3, none⟩ = some v03 ∧ (W.alloc o).cell? ⟨B0, 4, none⟩ = some v04 ∧ (W.alloc o).cell? ⟨B0, 5, none⟩ = some v05 :=
  let ⟨k0, k1, k2, k3, k4, k5⟩ := h
  ⟨cl_alloc k0 o, cl_alloc k1 o, cl_alloc k2 o, cl_alloc k3 o, cl_alloc k4 o, cl_alloc k5 o⟩

theorem pr_re {o : Obj} (h : (W.alloc o).cell? ⟨B0, 0, none⟩ = some v00 ∧ (W.alloc o).cell? ⟨B0, 1, none⟩ = some v01 ∧ (W.alloc o).cell? ⟨B0, 2, none⟩ = some v02 ∧ (W.alloc o).cell? ⟨B0, 3, none⟩ = some v03 ∧ (W.alloc o).cell? ⟨B0, 4, none⟩ = some v04 ∧ (W.alloc o).cell? ⟨B0, 5, none⟩ = some v05) (h0 : B0 < W.heap.size) (o2 : Obj) : (W.alloc o2).cell? ⟨B0, 0, none⟩ = some v00 ∧ (W.alloc o2).cell? ⟨B0, 1, none⟩ = some v01 ∧ (W.alloc o2).cell? ⟨B0, 2, none⟩ = some v02 ∧ (W.alloc o2).cell? ⟨B0, 3, none⟩ = some v03 ∧ (W.alloc o2).cell? ⟨B0, 4, none⟩ = some v04 ∧ (W.alloc o2).cell? ⟨B0, 5, none⟩ = some v05 :=
  let ⟨k0, k1, k2, k3, k4, k5⟩ := h
  ⟨cl_re k0 h0 o2, cl_re k1 h0 o2, cl_re k2 h0 o2, cl_re k3 h0 o2, cl_re k4 h0 o2, cl_re k5 h0 o2⟩

theorem pr_drew (h : W.cell? ⟨B0, 0, none⟩ = some v00 ∧ W.cell? ⟨B0, 1, none⟩ = some v01 ∧ W.cell? ⟨B0, 2, none⟩ = some v02 ∧ W.cell? ⟨B0, 3, none⟩ = some v03 ∧ W.cell? ⟨B0, 4, none⟩ = some v04 ∧ W.cell? ⟨B0, 5, none⟩ = some v05) : W.drew.cell? ⟨B0, 0, none⟩ = some v00 ∧ W.drew.cell? ⟨B0, 1, none⟩ = some v01 ∧ W.drew.cell? ⟨B0, 2, none⟩ = some v02 ∧ W.drew.cell? ⟨B0, 3, none⟩ = some v03 ∧ W.drew.cell? ⟨B0, 4, none⟩ = some v04 ∧ W.drew.cell? ⟨B0, 5, none⟩ = some v05 := h

theorem pr_undrew (h : W.drew.cell? ⟨B0, 0, none⟩ = some v00 ∧ W.drew.cell? ⟨B0, 1, none⟩ = some v01 ∧ W.drew.cell? ⟨B0, 2, none⟩ = some v02 ∧ W.drew.cell? ⟨B0, 3, none⟩ = some v03 ∧ W.drew.cell? ⟨B0, 4, none⟩ = some v04 ∧ W.drew.cell? ⟨B0, 5, none⟩ = some v05) : W.cell? ⟨B0, 0, none⟩ = some v00 ∧ W.cell? ⟨B0, 1, none⟩ = some v01 ∧ W.cell? ⟨B0, 2, none⟩ = some v02 ∧ W.cell? ⟨B0, 3, none⟩ = some v03 ∧ W.cell? ⟨B0, 4, none⟩ = some v04 ∧ W.cell? ⟨B0, 5, none⟩ = some v05 := h

theorem pr_set (h : W.cell? ⟨B0, 0, none⟩ = some v00 ∧ W.cell? ⟨B0, 1, none⟩ = some v01 ∧ W.cell? ⟨B0, 2, none⟩ = some v02 ∧ W.cell? ⟨B0, 3, none⟩ = some v03 ∧ W.cell? ⟨B0, 4, none⟩ = some v04 ∧ W.cell? ⟨B0, 5, none⟩ = some v05) (p : Addr) (u : Value) (h0 : p.block ≠ B0) : (W.setCell p u).cell? ⟨B0, 0, none⟩ = some v00 ∧ (W.setCell p u).cell? ⟨B0, 1, none⟩ = some v01 ∧ (W.setCell p u).cell? ⟨B0, 2, none⟩ = some v02 ∧ (W.setCell p u).cell? ⟨B0, 3, none⟩ = some v03 ∧ (W.setCell p u).cell? ⟨B0, 4, none⟩ = some v04 ∧ (W.setCell p u).cell? ⟨B0, 5, none⟩ = some v05 :=
  let ⟨k0, k1, k2, k3, k4, k5⟩ := h
  ⟨cl_set k0 p u h0, cl_set k1 p u h0, cl_set k2 p u h0, cl_set k3 p u h0, cl_set k4 p u h0, cl_set k5 p u h0⟩

theorem pr_far {row : Option Nat} (h : W.cell? ⟨B0, 0, none⟩ = some v00 ∧ W.cell? ⟨B0, 1, none⟩ = some v01 ∧ W.cell? ⟨B0, 2, none⟩ = some v02 ∧ W.cell? ⟨B0, 3, none⟩ = some v03 ∧ W.cell? ⟨B0, 4, none⟩ = some v04 ∧ W.cell? ⟨B0, 5, none⟩ = some v05) (h0 : some B0 ≠ row) (hg : W.grownBy w1 row) : w1.cell? ⟨B0, 0, none⟩ = some v00 ∧ w1.cell? ⟨B0, 1, none⟩ = some v01 ∧ w1.cell? ⟨B0, 2, none⟩ = some v02 ∧ w1.cell? ⟨B0, 3, none⟩ = some v03 ∧ w1.cell? ⟨B0, 4, none⟩ = some v04 ∧ w1.cell? ⟨B0, 5, none⟩ = some v05 :=
  let ⟨k0, k1, k2, k3, k4, k5⟩ := h
  ⟨hg.cell k0 h0, hg.cell k1 h0, hg.cell k2 h0, hg.cell k3 h0, hg.cell k4 h0, hg.cell k5 h0⟩
end

theorem flat_at {α : Type} (f : α → List Value) (n : Nat) (hf : ∀ a, (f a).length = n) : ∀ (l : List α) (i : Nat) (a : α), l[i]? = some a → ∀ j, j < n → ((l.map f).flatten)[n * i + j]? = (f a)[j]?
  | [], i, a, h, _, _ => by simp at h
  | b :: l, 0, a, h, j, hj => by
    simp only [List.getElem?_cons_zero, Option.some.injEq] at h
    subst h
    simp only [List.map_cons, List.flatten_cons, Nat.mul_zero, Nat.zero_add]
    rw [List.getElem?_append_left (by rw [hf]; exact hj)]
  | b :: l, i + 1, a, h, j, hj => by
    simp only [List.map_cons, List.flatten_cons]
    rw [List.getElem?_append_right (by rw [hf, Nat.mul_succ]; omega), hf, show n * (i + 1) + j - n = n * i + j by rw [Nat.mul_succ]; omega]
    exact flat_at f n hf l i a (by simpa using h) j hj

theorem flat_len {α : Type} (f : α → List Value) (n : Nat) (hf : ∀ a, (f a).length = n) (l : List α) : ((l.map f).flatten).length = l.length * n := by
  induction l with
  | nil => simp
  | cons a l ih => simp only [List.map_cons, List.flatten_cons, List.length_append, hf, ih, List.length_cons, Nat.succ_mul]; omega

def prtC (p : Sp × List UInt8) : List Value := [.int .i64 p.1.x0, .int .i64 p.1.x1, .int .i64 p.1.x2, .int .i64 p.1.x3, .int .i64 p.1.h, .string (ofL p.2)]

def prtCells (l : List (Sp × List UInt8)) : List Value := (l.map prtC).flatten

theorem prtCells_append (l m : List (Sp × List UInt8)) : prtCells (l ++ m) = prtCells l ++ prtCells m := by simp [prtCells]

/-- Parts at their place, in a block that was there. -/
def PrtAt (w : World) (g : Nat) (l : List (Sp × List UInt8)) : Prop :=
  ∀ i p, l[i]? = some p → w.cell? ⟨g, i * 6, none⟩ = some (.int .i64 p.1.x0) ∧ w.cell? ⟨g, i * 6 + 1, none⟩ = some (.int .i64 p.1.x1) ∧ w.cell? ⟨g, i * 6 + 2, none⟩ = some (.int .i64 p.1.x2) ∧ w.cell? ⟨g, i * 6 + 3, none⟩ = some (.int .i64 p.1.x3) ∧ w.cell? ⟨g, i * 6 + 4, none⟩ = some (.int .i64 p.1.h) ∧ w.cell? ⟨g, i * 6 + 5, none⟩ = some (.string (ofL p.2))

theorem PrtAt.below {w w' : World} {g n : Nat} {l : List (Sp × List UInt8)} (h : PrtAt w g l) (hg : g < n) (hb : Below n w w') : PrtAt w' g l := by
  intro i p hp
  obtain ⟨a, b, c, d, e, f⟩ := h i p hp
  refine ⟨?_, ?_, ?_, ?_, ?_, ?_⟩ <;> (rw [hb.cell hg]; assumption)

theorem prt_of {W : World} {B n g cap : Nat} {e : TypeId} {l : List (Sp × List UInt8)} (h : W.ownsRow B e 6 (.slice (some ⟨g, 0, none⟩) n cap) n (prtCells l)) (hn : l.length = n) : PrtAt W g l := by
  intro i p hp
  have hi : i < n := by rw [← hn]; exact (List.getElem?_eq_some_iff.1 hp).1
  have a := fun j (hj : j < 6) => (h.cellAt (i * 6 + j) (by omega)).trans ((by rw [Nat.mul_comm]) : _ = (prtCells l)[6 * i + j]?) |>.trans (flat_at prtC 6 (fun _ => rfl) l i p hp j hj)
  exact ⟨a 0 (by omega), a 1 (by omega), a 2 (by omega), a 3 (by omega), a 4 (by omega), a 5 (by omega)⟩

/-- The next longer parts. -/
def nxt (l : List (Sp × List UInt8)) : List (Sp × List UInt8) := l.flatMap fun p => ltr.map fun c => (p.1.next c, p.2 ++ [c])

theorem parts_nxt (a : Sp) (n : Nat) : parts a (n + 1) = nxt (parts a n) := parts_succ a n

theorem nxt_take {l : List (Sp × List UInt8)} {j : Nat} {p : Sp × List UInt8} (h : l[j]? = some p) : nxt (l.take (j + 1)) = nxt (l.take j) ++ ltr.map fun c => (p.1.next c, p.2 ++ [c]) := by
  rw [List.take_add_one, h]
  simp [nxt, List.flatMap_append]

theorem nxt_len (l : List (Sp × List UInt8)) : (nxt l).length = 3 * l.length := by
  induction l with
  | nil => rfl
  | cons a l ih =>
    simp only [nxt, List.flatMap_cons, List.length_append, List.length_map, List.length_cons] at ih ⊢
    rw [ih]
    simp [ltr]
    omega

theorem parts_ok {a : Sp} {m : Int} (ha : a.okB m) {n : Nat} {p : Sp × List UInt8} (h : p ∈ parts a n) : p.1.okB (m + 2 * n) ∧ p.2.length = n := by
  simp only [parts, List.mem_map] at h
  obtain ⟨w, hw, rfl⟩ := h
  have hl := words_len n w hw
  refine ⟨?_, hl⟩
  have := fin_ok ha w
  rwa [hl] at this

end Go.Proofs.Ytkmgcmgnaeamaaa

/- A map from steps to texts that a call has made: what lies at each step. -/
namespace Go.Proofs.Ytkmgcmgnaeamaaa
open Go Go.ChangeMaps Go.MapKept Go.ChangeShapes Go.WideShapes Go.RowKit
open Go.WideMaps (KeyLaw)
open Go.Maps (Keyed)

theorem stRow : (81 : TypeId) < Try.prog.types.size := of_decide_eq_true (by kernel_rfl)

theorem stDeep : Try.prog.keyTypeAt 4 81 = true := by kernel_rfl

theorem stLaid : laidOutB Try.prog = true := by kernel_rfl

set_option maxRecDepth 100000 in
theorem stLaw : KeyLaw Try.prog 81 := deep_law_laid stLaid (m := 4) (by omega) stRow stDeep (by rw [Try.underlying81])

def spV (s : Sp) : Value := .agg #[.int .i64 s.x0, .int .i64 s.x1, .int .i64 s.x2, .int .i64 s.x3, .int .i64 s.h]

/-- A step whose numbers fit. -/
def wfS (s : Sp) : Prop := (Lit.int .i64 s.x0).wf = true ∧ (Lit.int .i64 s.x1).wf = true ∧ (Lit.int .i64 s.x2).wf = true ∧ (Lit.int .i64 s.x3).wf = true ∧ (Lit.int .i64 s.h).wf = true

set_option maxRecDepth 100000 in
theorem stKey {s : Sp} (h : wfS s) : ∃ l, keyOf Try.prog 81 (spV s) = some l := by
  obtain ⟨h0, h1, h2, h3, h4⟩ := h
  have hkt : Try.prog.keyType 81 = true := by kernel_rfl
  have hc5 : Try.prog.cellsOf 81 = 5 := by kernel_rfl
  have hc4 : Try.prog.cellsOf 79 = 4 := by kernel_rfl
  have hc1 : Try.prog.cellsOf 3 = 1 := by kernel_rfl
  have hfs : Try.prog.underlying 81 = some (.struct (Try.prog.fieldsOf 81)) := by kernel_rfl
  obtain ⟨m, hm⟩ : ∃ m, Try.prog.types.size = m + 3 := ⟨Try.prog.types.size - 3, (Nat.sub_add_cancel (of_decide_eq_true (by kernel_rfl))).symm⟩
  have hL : Try.prog.keyLits (m + 4) 81 [.int .i64 s.x0, .int .i64 s.x1, .int .i64 s.x2, .int .i64 s.x3, .int .i64 s.h] = some [.int .i64 s.x0, .int .i64 s.x1, .int .i64 s.x2, .int .i64 s.x3, .int .i64 s.h] := by
    simp [Program.keyLits, Try.underlying81, Try.underlying79, Try.underlying3, hc5, hc4, hc1, h0, h1, h2, h3, h4]
    split
    · rfl
    · rename_i hc
      exact absurd (by decide) hc
  have hfm : (spV s).formed Try.prog 81 = true := by simp [Value.formed, spV, Try.underlying81, hc5]
  unfold keyOf
  rw [Try.underlying81]
  simp only [hkt, hfm, Bool.and_self, if_true]
  rw [hm, show (spV s).cells.toList = [.int .i64 s.x0, .int .i64 s.x1, .int .i64 s.x2, .int .i64 s.x3, .int .i64 s.h] from rfl, hL]
  exact ⟨_, rfl⟩

/-- The key that a step is. -/
noncomputable def klS (s : Sp) : Lit := (keyOf Try.prog 81 (spV s)).getD (.string [])
theorem klS_key {s : Sp} (h : wfS s) : keyOf Try.prog 81 (spV s) = some (klS s) := by
  obtain ⟨l, hl⟩ := stKey h
  simp [klS, hl]

theorem klS_inj {s s' : Sp} (h : wfS s) (h' : wfS s') (e : klS s = klS s') : s = s' := by
  have a := klS_key h
  have b := klS_key h'
  rw [e] at a
  have := stLaw.inj a b
  obtain ⟨a0, a1, a2, a3, a4⟩ := s
  obtain ⟨b0, b1, b2, b3, b4⟩ := s'
  simpa [spV] using this

set_option maxRecDepth 100000 in
theorem klS_lit {s : Sp} (h : wfS s) : WideAt.IsKeyLit (klS s) := (Keyed.of_law stLaw).key (klS_key h)

theorem wf_of {s : Sp} {n : Int} (h : s.okB n) (hn : n ≤ 1000000) : wfS s := by
  obtain ⟨⟨b0, b0'⟩, ⟨b1, b1'⟩, ⟨b2, b2'⟩, ⟨b3, b3'⟩, b4, b5⟩ := h
  refine ⟨?_, ?_, ?_, ?_, ?_⟩ <;> exact WalkArith.wf_i64 (by omega)

/-- How a slice's header reads. -/
def hdrR (v : Value) : Option (DataW Unit × List MemPlace) :=
  match v with
  | .slice none 0 0 => some (.nil, [])
  | .slice (some ⟨g, 0, none⟩) n c => some (.agg [.lit (.int .i64 g), .lit (.int .i64 n), .lit (.int .i64 c)], [])
  | _ => none

theorem hdrR_nil : hdrR (.slice none 0 0) = some (.nil, []) := rfl

theorem hdrR_some (g n c : Nat) : hdrR (.slice (some ⟨g, 0, none⟩) n c) = some (.agg [.lit (.int .i64 g), .lit (.int .i64 n), .lit (.int .i64 c)], []) := rfl

theorem hdrR_of {W : World} {B e size n : Nat} {v : Value} {xs : List Value} (h : W.ownsRow B e size v n xs) : ∃ d, hdrR v = some (d, []) := by
  rcases h.2 with ⟨rfl, _⟩ | ⟨g, cap, cur, rfl, _⟩
  · exact ⟨_, hdrR_nil⟩
  · exact ⟨_, hdrR_some g n cap⟩

theorem hdrR_inj {W : World} {B e size n : Nat} {v v' : Value} {xs : List Value} (h : W.ownsRow B e size v n xs) {d : DataW Unit} {ps ps' : List MemPlace} (h1 : hdrR v = some (d, ps)) (h2 : hdrR v' = some (d, ps')) : v = v' := by
  rcases h.2 with ⟨rfl, _⟩ | ⟨g, cap, cur, rfl, _⟩
  · rw [hdrR_nil] at h1
    unfold hdrR at h2
    split at h2
    · rfl
    · simp at h1 h2
      rw [← h1.1] at h2
      simp at h2
    · simp at h2
  · rw [hdrR_some] at h1
    unfold hdrR at h2
    split at h2
    · simp at h1 h2
      rw [← h1.1] at h2
      simp at h2
    · simp at h1 h2
      rw [← h1.1] at h2
      simp at h2
      obtain ⟨⟨e1, e2, e3⟩, _⟩ := h2
      rw [Int.ofNat_inj.1 e1, Int.ofNat_inj.1 e2, Int.ofNat_inj.1 e3]
    · simp at h2

def strV (l : List (List UInt8)) : List Value := l.map fun u => .string (ofL u)

theorem strV_append (l m : List (List UInt8)) : strV (l ++ m) = strV l ++ strV m := by simp [strV]

theorem spE_self (s : Sp) : spE s s = true := spE_iff.2 rfl

theorem spE_ne {s k : Sp} (h : s ≠ k) : spE s k = false := spE_no.2 h

theorem grp_same (s : Sp) (u : List UInt8) (G : List (Sp × List UInt8)) : grp s (G ++ [(s, u)]) = grp s G ++ [u] := by simp [grp, spE_self]

theorem grp_other {s k : Sp} (h : s ≠ k) (u : List UInt8) (G : List (Sp × List UInt8)) : grp k (G ++ [(s, u)]) = grp k G := by simp [grp, spE_ne h]

/-- Block b is a map from steps to the texts that stand at them in the list G; their rows lie from block base on, no two keys' in one. -/
def GrpAt (w : World) (b base m : Nat) (G : List (Sp × List UInt8)) : Prop :=
  b < base ∧ ∃ (D : DataW Unit) (V : Sp → Value), w.ownsMap Try.prog 81 hdrR b m D ∧
    (∀ s, wfS s → ∃ ps, hdrR (V s) = some (D.atKey (klS s) .nil, ps)) ∧
    (∀ s, wfS s → w.ownsRow base 9 1 (V s) (grp s G).length (strV (grp s G))) ∧
    (∀ s s', wfS s → wfS s' → s ≠ s' → (V s).ownBlock = none ∨ (V s).ownBlock ≠ (V s').ownBlock)

theorem own_far {W : World} {B b e size n : Nat} {v : Value} {xs : List Value} (h : W.ownsRow B e size v n xs) (hb : b < B) : v.ownBlock = none ∨ v.ownBlock ≠ some b := by
  cases hv : v.ownBlock with
  | none => exact .inl rfl
  | some k =>
    refine .inr fun e => ?_
    injection e with e
    have := (h.lt k hv).1
    omega

theorem own_far' {W : World} {B b e size n : Nat} {v : Value} {xs : List Value} (h : W.ownsRow B e size v n xs) (hb : b < B) : some b ≠ v.ownBlock := by
  intro e
  have := (h.lt b e.symm).1
  omega

theorem GrpAt_start (w : World) : GrpAt (w.alloc (.map #[] 0)) w.heap.size (w.heap.size + 1) 0 [] :=
  ⟨Nat.lt_succ_self _, .map [], fun _ => .slice none 0 0, World.ownsMap_made _ _ _ _, fun _ _ => ⟨[], by simp [hdrR_nil, DataW.atKey]⟩, fun _ _ => World.ownsRow_nil _ _ _ _, fun _ _ _ _ _ => .inl rfl⟩

theorem GrpAt.kept {w w' : World} {b base m : Nat} {G : List (Sp × List UInt8)} {row : Option Nat} (h : GrpAt w b base m G) (hg : w.grownBy w' row) (hb : some b ≠ row) (hr : ∀ k, row = some k → k < base ∨ w.heap.size ≤ k) : GrpAt w' b base m G := by
  obtain ⟨hbb, D, V, hM, hV, hR, hD⟩ := h
  refine ⟨hbb, D, V, hM.kept hg hb, hV, fun s hs => (hR s hs).kept hg ?_, hD⟩
  cases hv : (V s).ownBlock with
  | none => exact .inl rfl
  | some k =>
    refine .inr fun e => ?_
    have := (hR s hs).lt k hv
    rcases hr k e.symm with h | h <;> omega

set_option maxRecDepth 100000 in
theorem GrpAt.entry {w : World} {b base m : Nat} {G : List (Sp × List UInt8)} {s : Sp} (h : GrpAt w b base m G) (hs : wfS s) (hm : m < maxLen) :
    ∃ (v : Value) (st : Nat) (W1 : World), (Instr.mapEntry 112 (.map (some b)) (spV s)).run Try.prog w = .ok (.tuple #[v, goInt st]) W1 ∧ w.grownBy W1 (some b) ∧ W1.ownsRow base 9 1 v (grp s G).length (strV (grp s G)) ∧
      ∀ (w2 : World) (v' : Value) (u : List UInt8), W1.grownBy w2 v.ownBlock → w2.ownsRow base 9 1 v' ((grp s G).length + 1) (strV (grp s G) ++ [.string (ofL u)]) → (v.ownBlock = v'.ownBlock ∨ v'.ownBlock = some W1.heap.size) →
        ∃ w3, (Instr.entryStore 112 (.map (some b)) (goInt st) v').run Try.prog w2 = .ok () w3 ∧ GrpAt w3 b base (m + 1) (G ++ [(s, u)]) ∧ w2.grownBy w3 (some b) := by
  obtain ⟨hbb, D, V, hM, hV, hR, hD⟩ := h
  obtain ⟨v0, st, es1, c1, r1, g1, b1, ⟨ps, hv0⟩, hlt, hst⟩ := map_entry hM stLaw Try.underlying112 hm (z := .slice none 0 0) (fun u => by kernel_rfl) hdrR_nil (klS_key hs)
  obtain ⟨ps', hVs⟩ := hV s hs
  have hvs : V s = v0 := hdrR_inj (hR s hs) hVs hv0
  subst hvs
  refine ⟨V s, st, _, r1, g1, (hR s hs).kept g1 (own_far (hR s hs) hbb), fun w2 v' u hg hown hlies => ?_⟩
  have hb2 := (hg.block b (Nat.lt_of_lt_of_le hlt g1.size) (own_far' (hR s hs) hbb)).trans b1
  obtain ⟨d, hd⟩ := hdrR_of hown
  obtain ⟨w3, r3, m3, g3⟩ := hst w2 v' d [] hb2 hd
  refine ⟨w3, r3, ⟨hbb, D.put (klS s) d, fun k => cond (spE s k) v' (V k), m3, fun k hk => ?_, fun k hk => ?_, fun k k' hk hk' hne => ?_⟩, g3⟩
  · by_cases e : s = k
    · subst e
      exact ⟨[], by simp only [spE_self, cond_true]; rw [Maps.atKey_put_same hM.isMap (klS_lit hs)]; exact hd⟩
    · obtain ⟨q, hq⟩ := hV k hk
      exact ⟨q, by simp only [spE_ne e, cond_false]; rw [Maps.atKey_put_other (fun h => e (klS_inj hs hk h.symm))]; exact hq⟩
  · by_cases e : s = k
    · subst e
      simp only [spE_self, cond_true, grp_same, strV_append, List.length_append, List.length_cons, List.length_nil]
      exact hown.kept g3 (own_far hown hbb)
    · simp only [spE_ne e, cond_false, grp_other e]
      exact (((hR k hk).kept g1 (own_far (hR k hk) hbb)).kept hg (hD k s hk hs (Ne.symm e))).kept g3 (own_far (hR k hk) hbb)
  · have hnew : ∀ k, wfS k → s ≠ k → (V k).ownBlock = none ∨ (V k).ownBlock ≠ v'.ownBlock := by
      intro k hk e
      rcases hlies with h | h
      · rw [← h]; exact hD k s hk hs (Ne.symm e)
      · cases hv : (V k).ownBlock with
        | none => exact .inl rfl
        | some j =>
          refine .inr fun e2 => ?_
          rw [h] at e2
          injection e2 with e2
          have h1 := ((hR k hk).lt j hv).2
          have h2 := g1.size
          omega
    by_cases e : s = k
    · subst e
      simp only [spE_self, cond_true, spE_ne hne, cond_false]
      cases hv : v'.ownBlock with
      | none => exact .inl rfl
      | some j =>
        refine .inr fun e2 => ?_
        rcases hnew k' hk' hne with h | h
        · rw [h] at e2; cases e2
        · exact h (e2.symm.trans hv.symm)
    · by_cases e' : s = k'
      · subst e'
        simp only [spE_self, cond_true, spE_ne e, cond_false]
        exact hnew k hk e
      · simp only [spE_ne e, spE_ne e', cond_false]
        exact hD k k' hk hk' hne

theorem GrpAt_begin {w : World} {b : Nat} (hM : w.ownsMap Try.prog 81 hdrR b 0 (.map [] : DataW Unit)) : GrpAt w b w.heap.size 0 [] :=
  ⟨hM.lt, .map [], fun _ => .slice none 0 0, hM, fun _ _ => ⟨[], by simp [hdrR_nil, DataW.atKey]⟩, fun _ _ => World.ownsRow_nil _ _ _ _, fun _ _ _ _ _ => .inl rfl⟩

/-- 'm[k]': the texts at a step, in whatever world the map stands. -/
theorem GrpAt.look {w : World} {b base m : Nat} {G : List (Sp × List UInt8)} {s : Sp} (h : GrpAt w b base m G) (hs : wfS s) :
    ∃ v : Value, w.ownsRow base 9 1 v (grp s G).length (strV (grp s G)) ∧
      ∀ (w' : World) (row : Option Nat), w.grownBy w' row → some b ≠ row → (Instr.lookup 112 (.map (some b)) (spV s) false).run Try.prog w' = .ok v w' := by
  obtain ⟨hbb, D, V, hM, hV, hR, hD⟩ := h
  refine ⟨V s, hR s hs, fun w' row hg hne => ?_⟩
  obtain ⟨v, ps, hrun, hv⟩ := (hM.kept hg hne).lookup (Keyed.of_law stLaw) Try.underlying112 (z := .slice none 0 0) (by kernel_rfl) hdrR_nil (klS_key hs)
  obtain ⟨ps', hVs⟩ := hV s hs
  have hvs : V s = v := hdrR_inj (hR s hs) hVs hv
  subst hvs
  exact hrun

theorem below_grown {w w' : World} (h : Below w.heap.size w w') : w.grownBy w' none := ⟨h.os, h.tape, h.output, h.size, fun k hk _ => h.block k hk⟩

theorem GrpAt.below {w w' : World} {b base m : Nat} {G : List (Sp × List UInt8)} (h : GrpAt w b base m G) (hb : Below w.heap.size w w') : GrpAt w' b base m G :=
  h.kept (below_grown hb) (by simp) (by simp)

/-- One stretch behind another one whose row is new. -/
theorem grown_row {a c d : World} {row row' : Option Nat} (h : a.grownBy c row) (g : c.grownBy d row') (hr : ∀ k, row' = some k → a.heap.size ≤ k ∨ row = some k) : a.grownBy d row :=
  ⟨g.os.trans h.os, g.tape.trans h.tape, g.output.trans h.output, Nat.le_trans h.size g.size, fun k hk hne => (g.block k (Nat.lt_of_lt_of_le hk h.size) (fun e => by
    rcases hr k e.symm with h1 | h1
    · omega
    · exact hne h1.symm)).trans (h.block k hk hne)⟩

theorem grp_le (k : Sp) (l : List (Sp × List UInt8)) : (grp k l).length ≤ l.length := by
  simp only [grp, List.length_map]
  exact List.length_filter_le _ _

end Go.Proofs.Ytkmgcmgnaeamaaa

/- Cells of steps and points, handed on in bundles. -/
namespace Go.Proofs.Ytkmgcmgnaeamaaa
open Go.ChangeShapes Go.WideShapes Go.ChangeAt Go.RowKit

section
variable {B0 : Nat} {v00 v01 v02 v03 v04 : Value} {W w1 : World}
theorem st_below (h : W.cell? ⟨B0, 0, none⟩ = some v00 ∧ W.cell? ⟨B0, 1, none⟩ = some v01 ∧ W.cell? ⟨B0, 2, none⟩ = some v02 ∧ W.cell? ⟨B0, 3, none⟩ = some v03 ∧ W.cell? ⟨B0, 4, none⟩ = some v04) (h0 : B0 < W.heap.size) (hb : Below W.heap.size W w1) : w1.cell? ⟨B0, 0, none⟩ = some v00 ∧ w1.cell? ⟨B0, 1, none⟩ = some v01 ∧ w1.cell? ⟨B0, 2, none⟩ = some v02 ∧ w1.cell? ⟨B0, 3, none⟩ = some v03 ∧ w1.cell? ⟨B0, 4, none⟩ = some v04 :=
  let ⟨k0, k1, k2, k3, k4⟩ := h
  ⟨cl_below k0 h0 hb, cl_below k1 h0 hb, cl_below k2 h0 hb, cl_below k3 h0 hb, cl_below k4 h0 hb⟩

theorem st_alloc (h : W.cell? ⟨B0, 0, none⟩ = some v00 ∧ W.cell? ⟨B0, 1, none⟩ = some v01 ∧ W.cell? ⟨B0, 2, none⟩ = some v02 ∧ W.cell? ⟨B0, 3, none⟩ = some v03 ∧ W.cell? ⟨B0, 4, none⟩ = some v04) (o : Obj) : (W.alloc o).cell? ⟨B0, 0, none⟩ = some v00 ∧ (W.alloc o).cell? ⟨B0, 1, none⟩ = some v01 ∧ (W.alloc o).cell? ⟨B0, 2, none⟩ = some v02 ∧ (W.alloc o).cell? ⟨B0, 3, none⟩ = some v03 ∧ (W.alloc o).cell? ⟨B0, 4, none⟩ = some v04 :=
  let ⟨k0, k1, k2, k3, k4⟩ := h
  ⟨cl_alloc k0 o, cl_alloc k1 o, cl_alloc k2 o, cl_alloc k3 o, cl_alloc k4 o⟩

theorem st_re {o : Obj} (h : (W.alloc o).cell? ⟨B0, 0, none⟩ = some v00 ∧ (W.alloc o).cell? ⟨B0, 1, none⟩ = some v01 ∧ (W.alloc o).cell? ⟨B0, 2, none⟩ = some v02 ∧ (W.alloc o).cell? ⟨B0, 3, none⟩ = some v03 ∧ (W.alloc o).cell? ⟨B0, 4, none⟩ = some v04) (h0 : B0 < W.heap.size) (o2 : Obj) : (W.alloc o2).cell? ⟨B0, 0, none⟩ = some v00 ∧ (W.alloc o2).cell? ⟨B0, 1, none⟩ = some v01 ∧ (W.alloc o2).cell? ⟨B0, 2, none⟩ = some v02 ∧ (W.alloc o2).cell? ⟨B0, 3, none⟩ = some v03 ∧ (W.alloc o2).cell? ⟨B0, 4, none⟩ = some v04 :=
  let ⟨k0, k1, k2, k3, k4⟩ := h
  ⟨cl_re k0 h0 o2, cl_re k1 h0 o2, cl_re k2 h0 o2, cl_re k3 h0 o2, cl_re k4 h0 o2⟩

theorem st_drew (h : W.cell? ⟨B0, 0, none⟩ = some v00 ∧ W.cell? ⟨B0, 1, none⟩ = some v01 ∧ W.cell? ⟨B0, 2, none⟩ = some v02 ∧ W.cell? ⟨B0, 3, none⟩ = some v03 ∧ W.cell? ⟨B0, 4, none⟩ = some v04) : W.drew.cell? ⟨B0, 0, none⟩ = some v00 ∧ W.drew.cell? ⟨B0, 1, none⟩ = some v01 ∧ W.drew.cell? ⟨B0, 2, none⟩ = some v02 ∧ W.drew.cell? ⟨B0, 3, none⟩ = some v03 ∧ W.drew.cell? ⟨B0, 4, none⟩ = some v04 := h

theorem st_undrew (h : W.drew.cell? ⟨B0, 0, none⟩ = some v00 ∧ W.drew.cell? ⟨B0, 1, none⟩ = some v01 ∧ W.drew.cell? ⟨B0, 2, none⟩ = some v02 ∧ W.drew.cell? ⟨B0, 3, none⟩ = some v03 ∧ W.drew.cell? ⟨B0, 4, none⟩ = some v04) : W.cell? ⟨B0, 0, none⟩ = some v00 ∧ W.cell? ⟨B0, 1, none⟩ = some v01 ∧ W.cell? ⟨B0, 2, none⟩ = some v02 ∧ W.cell? ⟨B0, 3, none⟩ = some v03 ∧ W.cell? ⟨B0, 4, none⟩ = some v04 := h

theorem st_set (h : W.cell? ⟨B0, 0, none⟩ = some v00 ∧ W.cell? ⟨B0, 1, none⟩ = some v01 ∧ W.cell? ⟨B0, 2, none⟩ = some v02 ∧ W.cell? ⟨B0, 3, none⟩ = some v03 ∧ W.cell? ⟨B0, 4, none⟩ = some v04) (p : Addr) (u : Value) (h0 : p.block ≠ B0) : (W.setCell p u).cell? ⟨B0, 0, none⟩ = some v00 ∧ (W.setCell p u).cell? ⟨B0, 1, none⟩ = some v01 ∧ (W.setCell p u).cell? ⟨B0, 2, none⟩ = some v02 ∧ (W.setCell p u).cell? ⟨B0, 3, none⟩ = some v03 ∧ (W.setCell p u).cell? ⟨B0, 4, none⟩ = some v04 :=
  let ⟨k0, k1, k2, k3, k4⟩ := h
  ⟨cl_set k0 p u h0, cl_set k1 p u h0, cl_set k2 p u h0, cl_set k3 p u h0, cl_set k4 p u h0⟩
end

section
variable {B0 B1 B2 : Nat} {v00 v01 v02 v03 v04 v10 v11 v12 v13 v20 v21 v22 v23 : Value} {W w1 : World}
theorem stpp_below (h : W.cell? ⟨B0, 0, none⟩ = some v00 ∧ W.cell? ⟨B0, 1, none⟩ = some v01 ∧ W.cell? ⟨B0, 2, none⟩ = some v02 ∧ W.cell? ⟨B0, 3, none⟩ = some v03 ∧ W.cell? ⟨B0, 4, none⟩ = some v04 ∧ W.cell? ⟨B1, 0, none⟩ = some v10 ∧ W.cell? ⟨B1, 1, none⟩ = some v11 ∧ W.cell? ⟨B1, 2, none⟩ = some v12 ∧ W.cell? ⟨B1, 3, none⟩ = some v13 ∧ W.cell? ⟨B2, 0, none⟩ = some v20 ∧ W.cell? ⟨B2, 1, none⟩ = some v21 ∧ W.cell? ⟨B2, 2, none⟩ = some v22 ∧ W.cell? ⟨B2, 3, none⟩ = some v23) (h0 : B0 < W.heap.size) (h1 : B1 < W.heap.size) (h2 : B2 < W.heap.size) (hb : Below W.heap.size W w1) : w1.cell? ⟨B0, 0, none⟩ = some v00 ∧ w1.cell? ⟨B0, 1, none⟩ = some v01 ∧ w1.cell? ⟨B0, 2, none⟩ = some v02 ∧ w1.cell? ⟨B0, 3, none⟩ = some v03 ∧ w1.cell? ⟨B0, 4, none⟩ = some v04 ∧ w1.cell? ⟨B1, 0, none⟩ = some v10 ∧ w1.cell? ⟨B1, 1, none⟩ = some v11 ∧ w1.cell? ⟨B1, 2, none⟩ = some v12 ∧ w1.cell? ⟨B1, 3, none⟩ = some v13 ∧ w1.cell? ⟨B2, 0, none⟩ = some v20 ∧ w1.cell? ⟨B2, 1, none⟩ = some v21 ∧ w1.cell? ⟨B2, 2, none⟩ = some v22 ∧ w1.cell? ⟨B2, 3, none⟩ = some v23 :=
  let ⟨k0, k1, k2, k3, k4, k5, k6, k7, k8, k9, k10, k11, k12⟩ := h
  ⟨cl_below k0 h0 hb, cl_below k1 h0 hb, cl_below k2 h0 hb, cl_below k3 h0 hb, cl_below k4 h0 hb, cl_below k5 h1 hb, cl_below k6 h1 hb, cl_below k7 h1 hb, cl_below k8 h1 hb, cl_below k9 h2 hb, cl_below k10 h2 hb, cl_below k11 h2 hb, cl_below k12 h2 hb⟩

theorem stpp_alloc (h : W.cell? ⟨B0, 0, none⟩ = some v00 ∧ W.cell? ⟨B0, 1, none⟩ = some v01 ∧ W.cell? ⟨B0, 2, none⟩ = some v02 ∧ W.cell? ⟨B0, 3, none⟩ = some v03 ∧ W.cell? ⟨B0, 4, none⟩ = some v04 ∧ W.cell? ⟨B1, 0, none⟩ = some v10 ∧ W.cell? ⟨B1, 1, none⟩ = some v11 ∧ W.cell? ⟨B1, 2, none⟩ = some v12 ∧ W.cell? ⟨B1, 3, none⟩ = some v13 ∧ W.cell? ⟨B2, 0, none⟩ = some v20 ∧ W.cell? ⟨B2, 1, none⟩ = some v21 ∧ W.cell? ⟨B2, 2, none⟩ = some v22 ∧ W.cell? ⟨B2, 3, none⟩ = some v23) (o : Obj) : (W.alloc o).cell? ⟨B0, 0, none⟩ = some v00 ∧ (W.alloc o).cell? ⟨B0, 1, none⟩ = some v01 ∧ (W.alloc o).cell? ⟨B0, 2, none⟩ = some v02 ∧ (W.alloc o).cell? ⟨B0, 3, none⟩ = some v03 ∧ (W.alloc o).cell? ⟨B0, 4, none⟩ = some v04 ∧ (W.alloc o).cell? ⟨B1, 0, none⟩ = some v10 ∧ (W.alloc o).cell? ⟨B1, 1, none⟩ = some v11 ∧ (W.alloc o).cell? ⟨B1, 2, none⟩ = some v12 ∧ (W.alloc o).cell? ⟨B1, 3, none⟩ = some v13 ∧ (W.alloc o).cell? ⟨B2, 0, none⟩ = some v20 ∧ (W.alloc o).cell? ⟨B2, 1, none⟩ = some v21 ∧ (W.alloc o).cell? ⟨B2, 2, none⟩ = some v22 ∧ (W.alloc o).cell? ⟨B2, 3, none⟩ = some v23 :=
  let ⟨k0, k1, k2, k3, k4, k5, k6, k7, k8, k9, k10, k11, k12⟩ := h
  ⟨cl_alloc k0 o, cl_alloc k1 o, cl_alloc k2 o, cl_alloc k3 o, cl_alloc k4 o, cl_alloc k5 o, cl_alloc k6 o, cl_alloc k7 o, cl_alloc k8 o, cl_alloc k9 o, cl_alloc k10 o, cl_alloc k11 o, cl_alloc k12 o⟩

theorem stpp_re {o : Obj} (h : (W.alloc o).cell? ⟨B0, 0, none⟩ = some v00 ∧ (W.alloc o).cell? ⟨B0, 1, none⟩ = some v01 ∧ (W.alloc o).cell? ⟨B0, 2, none⟩ = some v02 ∧ (W.alloc o).cell? ⟨B0, 3, none⟩ = some v03 ∧ (W.alloc o).cell? ⟨B0, 4, none⟩ = some v04 ∧ (W.alloc o).cell? ⟨B1, 0, none⟩ = some v10 ∧ (W.alloc o).cell? ⟨B1, 1, none⟩ = some v11 ∧ (W.alloc o).cell? ⟨B1, 2, none⟩ = some v12 ∧ (W.alloc o).cell? ⟨B1, 3, none⟩ = some v13 ∧ (W.alloc o).cell? ⟨B2, 0, none⟩ = some v20 ∧ (W.alloc o).cell? ⟨B2, 1, none⟩ = some v21 ∧ (W.alloc o).cell? ⟨B2, 2, none⟩ = some v22 ∧ (W.alloc o).cell? ⟨B2, 3, none⟩ = some v23) (h0 : B0 < W.heap.size) (h1 : B1 < W.heap.size) (h2 : B2 < W.heap.size) (o2 : Obj) : (W.alloc o2).cell? ⟨B0, 0, none⟩ = some v00 ∧ (W.alloc o2).cell? ⟨B0, 1, none⟩ = some v01 ∧ (W.alloc o2).cell? ⟨B0, 2, none⟩ = some v02 ∧ (W.alloc o2).cell? ⟨B0, 3, none⟩ = some v03 ∧ (W.alloc o2).cell? ⟨B0, 4, none⟩ = some v04 ∧ (W.alloc o2).cell? ⟨B1, 0, none⟩ = some v10 ∧ (W.alloc o2).cell? ⟨B1, 1, none⟩ = some v11 ∧ (W.alloc o2).cell? ⟨B1, 2, none⟩ = some v12 ∧ (W.alloc o2).cell? ⟨B1, 3, none⟩ = some v13 ∧ (W.alloc o2).cell? ⟨B2, 0, none⟩ = some v20 ∧ (W.alloc o2).cell? ⟨B2, 1, none⟩ = some v21 ∧ (W.alloc o2).cell? ⟨B2, 2, none⟩ = some v22 ∧ (W.alloc o2).cell? ⟨B2, 3, none⟩ = some v23 :=
  let ⟨k0, k1, k2, k3, k4, k5, k6, k7, k8, k9, k10, k11, k12⟩ := h
  ⟨cl_re k0 h0 o2, cl_re k1 h0 o2, cl_re k2 h0 o2, cl_re k3 h0 o2, cl_re k4 h0 o2, cl_re k5 h1 o2, cl_re k6 h1 o2, cl_re k7 h1 o2, cl_re k8 h1 o2, cl_re k9 h2 o2, cl_re k10 h2 o2, cl_re k11 h2 o2, cl_re k12 h2 o2⟩

theorem stpp_drew (h : W.cell? ⟨B0, 0, none⟩ = some v00 ∧ W.cell? ⟨B0, 1, none⟩ = some v01 ∧ W.cell? ⟨B0, 2, none⟩ = some v02 ∧ W.cell? ⟨B0, 3, none⟩ = some v03 ∧ W.cell? ⟨B0, 4, none⟩ = some v04 ∧ W.cell? ⟨B1, 0, none⟩ = some v10 ∧ W.cell? ⟨B1, 1, none⟩ = some v11 ∧ W.cell? ⟨B1, 2, none⟩ = some v12 ∧ W.cell? ⟨B1, 3, none⟩ = some v13 ∧ W.cell? ⟨B2, 0, none⟩ = some v20 ∧ W.cell? ⟨B2, 1, none⟩ = some v21 ∧ W.cell? ⟨B2, 2, none⟩ = some v22 ∧ W.cell? ⟨B2, 3, none⟩ = some v23) : W.drew.cell? ⟨B0, 0, none⟩ = some v00 ∧ W.drew.cell? ⟨B0, 1, none⟩ = some v01 ∧ W.drew.cell? ⟨B0, 2, none⟩ = some v02 ∧ W.drew.cell? ⟨B0, 3, none⟩ = some v03 ∧ W.drew.cell? ⟨B0, 4, none⟩ = some v04 ∧ W.drew.cell? ⟨B1, 0, none⟩ = some v10 ∧ W.drew.cell? ⟨B1, 1, none⟩ = some v11 ∧ W.drew.cell? ⟨B1, 2, none⟩ = some v12 ∧ W.drew.cell? ⟨B1, 3, none⟩ = some v13 ∧ W.drew.cell? ⟨B2, 0, none⟩ = some v20 ∧ W.drew.cell? ⟨B2, 1, none⟩ = some v21 ∧ W.drew.cell? ⟨B2, 2, none⟩ = some v22 ∧ W.drew.cell? ⟨B2, 3, none⟩ = some v23 := h

theorem stpp_undrew (h : W.drew.cell? ⟨B0, 0, none⟩ = some v00 ∧ W.drew.cell? ⟨B0, 1, none⟩ = some v01 ∧ W.drew.cell? ⟨B0, 2, none⟩ = some v02 ∧ W.drew.cell? ⟨B0, 3, none⟩ = some v03 ∧ W.drew.cell? ⟨B0, 4, none⟩ = some v04 ∧ W.drew.cell? ⟨B1, 0, none⟩ = some v10 ∧ W.drew.cell? ⟨B1, 1, none⟩ = some v11 ∧ W.drew.cell? ⟨B1, 2, none⟩ = some v12 ∧ W.drew.cell? ⟨B1, 3, none⟩ = some v13 ∧ W.drew.cell? ⟨B2, 0, none⟩ = some v20 ∧ W.drew.cell? ⟨B2, 1, none⟩ = some v21 ∧ W.drew.cell? ⟨B2, 2, none⟩ = some v22 ∧ W.drew.cell? ⟨B2, 3, none⟩ = some v23) : W.cell? ⟨B0, 0, none⟩ = some v00 ∧ W.cell? ⟨B0, 1, none⟩ = some v01 ∧ W.cell? ⟨B0, 2, none⟩ = some v02 ∧ W.cell? ⟨B0, 3, none⟩ = some v03 ∧ W.cell? ⟨B0, 4, none⟩ = some v04 ∧ W.cell? ⟨B1, 0, none⟩ = some v10 ∧ W.cell? ⟨B1, 1, none⟩ = some v11 ∧ W.cell? ⟨B1, 2, none⟩ = some v12 ∧ W.cell? ⟨B1, 3, none⟩ = some v13 ∧ W.cell? ⟨B2, 0, none⟩ = some v20 ∧ W.cell? ⟨B2, 1, none⟩ = some v21 ∧ W.cell? ⟨B2, 2, none⟩ = some v22 ∧ W.cell? ⟨B2, 3, none⟩ = some v23 := h

theorem stpp_set (h : W.cell? ⟨B0, 0, none⟩ = some v00 ∧ W.cell? ⟨B0, 1, none⟩ = some v01 ∧ W.cell? ⟨B0, 2, none⟩ = some v02 ∧ W.cell? ⟨B0, 3, none⟩ = some v03 ∧ W.cell? ⟨B0, 4, none⟩ = some v04 ∧ W.cell? ⟨B1, 0, none⟩ = some v10 ∧ W.cell? ⟨B1, 1, none⟩ = some v11 ∧ W.cell? ⟨B1, 2, none⟩ = some v12 ∧ W.cell? ⟨B1, 3, none⟩ = some v13 ∧ W.cell? ⟨B2, 0, none⟩ = some v20 ∧ W.cell? ⟨B2, 1, none⟩ = some v21 ∧ W.cell? ⟨B2, 2, none⟩ = some v22 ∧ W.cell? ⟨B2, 3, none⟩ = some v23) (p : Addr) (u : Value) (h0 : p.block ≠ B0) (h1 : p.block ≠ B1) (h2 : p.block ≠ B2) : (W.setCell p u).cell? ⟨B0, 0, none⟩ = some v00 ∧ (W.setCell p u).cell? ⟨B0, 1, none⟩ = some v01 ∧ (W.setCell p u).cell? ⟨B0, 2, none⟩ = some v02 ∧ (W.setCell p u).cell? ⟨B0, 3, none⟩ = some v03 ∧ (W.setCell p u).cell? ⟨B0, 4, none⟩ = some v04 ∧ (W.setCell p u).cell? ⟨B1, 0, none⟩ = some v10 ∧ (W.setCell p u).cell? ⟨B1, 1, none⟩ = some v11 ∧ (W.setCell p u).cell? ⟨B1, 2, none⟩ = some v12 ∧ (W.setCell p u).cell? ⟨B1, 3, none⟩ = some v13 ∧ (W.setCell p u).cell? ⟨B2, 0, none⟩ = some v20 ∧ (W.setCell p u).cell? ⟨B2, 1, none⟩ = some v21 ∧ (W.setCell p u).cell? ⟨B2, 2, none⟩ = some v22 ∧ (W.setCell p u).cell? ⟨B2, 3, none⟩ = some v23 :=
  let ⟨k0, k1, k2, k3, k4, k5, k6, k7, k8, k9, k10, k11, k12⟩ := h
  ⟨cl_set k0 p u h0, cl_set k1 p u h0, cl_set k2 p u h0, cl_set k3 p u h0, cl_set k4 p u h0, cl_set k5 p u h1, cl_set k6 p u h1, cl_set k7 p u h1, cl_set k8 p u h1, cl_set k9 p u h2, cl_set k10 p u h2, cl_set k11 p u h2, cl_set k12 p u h2⟩
end

theorem w64s (n : Int) (h0 : -9000000000000000000 ≤ n) (h1 : n ≤ 9000000000000000000) : wrap64 n = n := IntWalk.wrap64_in n ⟨by omega, by omega⟩

end Go.Proofs.Ytkmgcmgnaeamaaa

/- Contracts: headings turned, and a point negated, in the program. -/
namespace Go.Proofs.Ytkmgcmgnaeamaaa
open Go.ChangeShapes Go.WideShapes Go.ChangeAt Go.RowKit

set_option linter.unusedVariables false
set_option linter.unusedSimpArgs false

theorem tm1_any (h : Int) (h0 : 0 ≤ h) (h7 : h ≤ 7) (w : World) :
    Calls Try.prog 106 #[.int .i64 h, .int .i64 (-1)] w fun e w' => e = .returned (.int .i64 ((h + 7) % 8)) ∧ w = w' := by
  have hm : (h + (-1) + 8) % 8 = (h + 7) % 8 := by omega
  have HM := Lib.hid hm
  clear hm
  go_enter Try.func106, Try.ntmps106
  go_wp2
  go_ret
  exact ⟨by first | rfl | (rw [← HM.out]; rfl) | (simp; omega), rfl⟩

theorem tm2_any (h : Int) (h0 : 0 ≤ h) (h7 : h ≤ 7) (w : World) :
    Calls Try.prog 106 #[.int .i64 h, .int .i64 (-2)] w fun e w' => e = .returned (.int .i64 ((h + 6) % 8)) ∧ w = w' := by
  have hm : (h + (-2) + 8) % 8 = (h + 6) % 8 := by omega
  have HM := Lib.hid hm
  clear hm
  go_enter Try.func106, Try.ntmps106
  go_wp2
  go_ret
  exact ⟨by first | rfl | (rw [← HM.out]; rfl) | (simp; omega), rfl⟩

theorem tp1_any (h : Int) (h0 : 0 ≤ h) (h7 : h ≤ 7) (w : World) :
    Calls Try.prog 106 #[.int .i64 h, .int .i64 1] w fun e w' => e = .returned (.int .i64 ((h + 1) % 8)) ∧ w = w' := by
  have hm : (h + 1 + 8) % 8 = (h + 1) % 8 := by omega
  have HM := Lib.hid hm
  clear hm
  go_enter Try.func106, Try.ntmps106
  go_wp2
  go_ret
  exact ⟨by first | rfl | (rw [← HM.out]; rfl) | (simp; omega), rfl⟩

theorem tp2_any (h : Int) (h0 : 0 ≤ h) (h7 : h ≤ 7) (w : World) :
    Calls Try.prog 106 #[.int .i64 h, .int .i64 2] w fun e w' => e = .returned (.int .i64 ((h + 2) % 8)) ∧ w = w' := by
  have hm : (h + 2 + 8) % 8 = (h + 2) % 8 := by omega
  have HM := Lib.hid hm
  clear hm
  go_enter Try.func106, Try.ntmps106
  go_wp2
  go_ret
  exact ⟨by first | rfl | (rw [← HM.out]; rfl) | (simp; omega), rfl⟩

theorem scN (x0 x1 x2 x3 : Int) (px0 : -999999 ≤ x0) (qx0 : x0 ≤ 999999) (px1 : -999999 ≤ x1) (qx1 : x1 ≤ 999999) (px2 : -999999 ≤ x2) (qx2 : x2 ≤ 999999) (px3 : -999999 ≤ x3) (qx3 : x3 ≤ 999999) (w : World) :
    Calls Try.prog 107 #[.agg #[.int .i64 x0, .int .i64 x1, .int .i64 x2, .int .i64 x3], .int .i64 (-1)] w fun e w' => e = .returned (.agg #[.int .i64 (-x0), .int .i64 (-x1), .int .i64 (-x2), .int .i64 (-x3)]) ∧ Below w.heap.size w w' :=
  (imScaled_any x0 x1 x2 x3 (-1) w).mono fun e w' ⟨h, hb⟩ => ⟨by rw [h, w64s (-1 * x0) (by omega) (by omega), w64s (-1 * x1) (by omega) (by omega), w64s (-1 * x2) (by omega) (by omega), w64s (-1 * x3) (by omega) (by omega)]; simp, hb⟩

end Go.Proofs.Ytkmgcmgnaeamaaa

/- Contracts: how a piece is laid from any step, in the program. -/
namespace Go.Proofs.Ytkmgcmgnaeamaaa
open Go.ChangeShapes Go.WideShapes Go.ChangeAt Go.RowKit

set_option linter.unusedVariables false
set_option linter.unusedSimpArgs false

theorem plP (x0 x1 x2 x3 y0 y1 y2 y3 : Int) (px0 : -9000000 ≤ x0) (qx0 : x0 ≤ 9000000) (px1 : -9000000 ≤ x1) (qx1 : x1 ≤ 9000000) (px2 : -9000000 ≤ x2) (qx2 : x2 ≤ 9000000) (px3 : -9000000 ≤ x3) (qx3 : x3 ≤ 9000000) (py0 : -9000000 ≤ y0) (qy0 : y0 ≤ 9000000) (py1 : -9000000 ≤ y1) (qy1 : y1 ≤ 9000000) (py2 : -9000000 ≤ y2) (qy2 : y2 ≤ 9000000) (py3 : -9000000 ≤ y3) (qy3 : y3 ≤ 9000000) (w : World) :
    Calls Try.prog 117 #[.agg #[.int .i64 x0, .int .i64 x1, .int .i64 x2, .int .i64 x3], .agg #[.int .i64 y0, .int .i64 y1, .int .i64 y2, .int .i64 y3]] w fun e w' => e = .returned (.agg #[.int .i64 (x0 + y0), .int .i64 (x1 + y1), .int .i64 (x2 + y2), .int .i64 (x3 + y3)]) ∧ Below w.heap.size w w' :=
  (imPlus_any x0 x1 x2 x3 y0 y1 y2 y3 w).mono fun e w' ⟨h, hb⟩ => ⟨by rw [h, w64s (x0 + y0) (by omega) (by omega), w64s (x1 + y1) (by omega) (by omega), w64s (x2 + y2) (by omega) (by omega), w64s (x3 + y3) (by omega) (by omega)], hb⟩

theorem ag5 {a b c d e a' b' c' d' e' : Int} (h0 : a = a') (h1 : b = b') (h2 : c = c') (h3 : d = d') (h4 : e = e') : Ending.returned (.agg #[.int .i64 a, .int .i64 b, .int .i64 c, .int .i64 d, .int .i64 e]) = Ending.returned (.agg #[.int .i64 a', .int .i64 b', .int .i64 c', .int .i64 d', .int .i64 e']) := by
  rw [h0, h1, h2, h3, h4]

set_option maxRecDepth 100000 in
set_option maxHeartbeats 1600000 in
theorem straightP (x0 x1 x2 x3 h : Int) (h0 : 0 ≤ h) (h7 : h ≤ 7) (px0 : -1000000 ≤ x0) (qx0 : x0 ≤ 1000000) (px1 : -1000000 ≤ x1) (qx1 : x1 ≤ 1000000) (px2 : -1000000 ≤ x2) (qx2 : x2 ≤ 1000000) (px3 : -1000000 ≤ x3) (qx3 : x3 ≤ 1000000) (w : World) :
    Calls Try.prog 102 #[.agg #[.int .i64 x0, .int .i64 x1, .int .i64 x2, .int .i64 x3, .int .i64 h]] w fun e w' => e = .returned (.agg #[.int .i64 (x0 + tu0 h 1 0 0 0), .int .i64 (x1 + tu1 h 1 0 0 0), .int .i64 (x2 + tu2 h 1 0 0 0), .int .i64 (x3 + tu3 h 1 0 0 0), .int .i64 h]) ∧ Below w.heap.size w w' := by
  obtain ⟨t0, t0'⟩ := tu_bd0 h h0 h7
  obtain ⟨t1, t1'⟩ := tu_bd1 h h0 h7
  obtain ⟨t2, t2'⟩ := tu_bd2 h h0 h7
  obtain ⟨t3, t3'⟩ := tu_bd3 h h0 h7
  have hS0 : ((w.alloc (.cells #[.int .i64 x0, .int .i64 x1, .int .i64 x2, .int .i64 x3, .int .i64 h] 81)).alloc (.cells #[.int .i64 0, .int .i64 0, .int .i64 0, .int .i64 0, .int .i64 0] 81)).cell? ⟨w.heap.size, 0, none⟩ = some (.int .i64 x0) ∧ ((w.alloc (.cells #[.int .i64 x0, .int .i64 x1, .int .i64 x2, .int .i64 x3, .int .i64 h] 81)).alloc (.cells #[.int .i64 0, .int .i64 0, .int .i64 0, .int .i64 0, .int .i64 0] 81)).cell? ⟨w.heap.size, 1, none⟩ = some (.int .i64 x1) ∧ ((w.alloc (.cells #[.int .i64 x0, .int .i64 x1, .int .i64 x2, .int .i64 x3, .int .i64 h] 81)).alloc (.cells #[.int .i64 0, .int .i64 0, .int .i64 0, .int .i64 0, .int .i64 0] 81)).cell? ⟨w.heap.size, 2, none⟩ = some (.int .i64 x2) ∧ ((w.alloc (.cells #[.int .i64 x0, .int .i64 x1, .int .i64 x2, .int .i64 x3, .int .i64 h] 81)).alloc (.cells #[.int .i64 0, .int .i64 0, .int .i64 0, .int .i64 0, .int .i64 0] 81)).cell? ⟨w.heap.size, 3, none⟩ = some (.int .i64 x3) ∧ ((w.alloc (.cells #[.int .i64 x0, .int .i64 x1, .int .i64 x2, .int .i64 x3, .int .i64 h] 81)).alloc (.cells #[.int .i64 0, .int .i64 0, .int .i64 0, .int .i64 0, .int .i64 0] 81)).cell? ⟨w.heap.size, 4, none⟩ = some (.int .i64 h) := by refine ⟨?_, ?_, ?_, ?_, ?_⟩ <;> go_simp
  have hR : ((w.alloc (.cells #[.int .i64 x0, .int .i64 x1, .int .i64 x2, .int .i64 x3, .int .i64 h] 81)).alloc (.cells #[.int .i64 0, .int .i64 0, .int .i64 0, .int .i64 0, .int .i64 0] 81)).cell? ⟨w.heap.size + 1, 0, none⟩ = some (.int .i64 0) ∧ ((w.alloc (.cells #[.int .i64 x0, .int .i64 x1, .int .i64 x2, .int .i64 x3, .int .i64 h] 81)).alloc (.cells #[.int .i64 0, .int .i64 0, .int .i64 0, .int .i64 0, .int .i64 0] 81)).cell? ⟨w.heap.size + 1, 1, none⟩ = some (.int .i64 0) ∧ ((w.alloc (.cells #[.int .i64 x0, .int .i64 x1, .int .i64 x2, .int .i64 x3, .int .i64 h] 81)).alloc (.cells #[.int .i64 0, .int .i64 0, .int .i64 0, .int .i64 0, .int .i64 0] 81)).cell? ⟨w.heap.size + 1, 2, none⟩ = some (.int .i64 0) ∧ ((w.alloc (.cells #[.int .i64 x0, .int .i64 x1, .int .i64 x2, .int .i64 x3, .int .i64 h] 81)).alloc (.cells #[.int .i64 0, .int .i64 0, .int .i64 0, .int .i64 0, .int .i64 0] 81)).cell? ⟨w.heap.size + 1, 3, none⟩ = some (.int .i64 0) ∧ ((w.alloc (.cells #[.int .i64 x0, .int .i64 x1, .int .i64 x2, .int .i64 x3, .int .i64 h] 81)).alloc (.cells #[.int .i64 0, .int .i64 0, .int .i64 0, .int .i64 0, .int .i64 0] 81)).cell? ⟨w.heap.size + 1, 4, none⟩ = some (.int .i64 0) := by refine ⟨?_, ?_, ?_, ?_, ?_⟩ <;> go_simp
  go_enter Try.func102, Try.ntmps102
  go_wp2_with fail
  go_region_held3 (fun w' => w'.cell? ⟨w.heap.size, 0, none⟩ = some (.int .i64 x0) ∧ w'.cell? ⟨w.heap.size, 1, none⟩ = some (.int .i64 x1) ∧ w'.cell? ⟨w.heap.size, 2, none⟩ = some (.int .i64 x2) ∧ w'.cell? ⟨w.heap.size, 3, none⟩ = some (.int .i64 x3) ∧ w'.cell? ⟨w.heap.size, 4, none⟩ = some (.int .i64 h))
    (first | (with_reducible assumption) | (with_reducible exact st_drew hS0) | (with_reducible exact st_drew (st_alloc hS0 _)) | (with_reducible exact st_alloc (st_drew hS0) _) | (with_reducible refine st_drew ?_; with_reducible assumption) | (with_reducible refine st_alloc ?_ _; with_reducible assumption) | (with_reducible refine st_re (by with_reducible assumption) ?_ _; (focus first | (with_reducible assumption) | omega | (simp; done) | (simp; omega))) | (with_reducible refine st_below ?_ ?_ h1; (focus first | (with_reducible assumption) | (with_reducible refine st_undrew ?_; with_reducible assumption)); (focus first | (with_reducible assumption) | omega | (simp; done) | (simp; omega))) | ((repeat (with_reducible refine st_set ?_ _ _ ?_; rotate_left 1; (focus first | (with_reducible assumption) | omega | (simp; done) | (simp; omega)))); with_reducible assumption))
    (first | (go_at_call 109; (with_reducible refine (power_any h h0 h7 _).mono ?_); rintro e wC ⟨rfl, h1⟩; (try with_reducible replace h1 := undrew h1); have hB : Below w.heap.size w wC := ba (by go_grown) h1; obtain ⟨hcwC, hfwC⟩ := bcell h1; have hqwC := h1.size; (try simp at hqwC); (try have hz0wC : w.heap.size < wC.heap.size := (by omega)); (try have he0wC : w.heap.size ≤ wC.heap.size := (by omega)); (try have hz1wC : w.heap.size + 1 < wC.heap.size := (by omega)); (try have he1wC : w.heap.size + 1 ≤ wC.heap.size := (by omega)); have hR := st_below hR (by first | omega | (simp; done) | (simp; omega)) h1) | (go_at_call 117; (with_reducible refine (plP x0 x1 x2 x3 (tu0 h 1 0 0 0) (tu1 h 1 0 0 0) (tu2 h 1 0 0 0) (tu3 h 1 0 0 0) (by omega) (by omega) (by omega) (by omega) (by omega) (by omega) (by omega) (by omega) (by omega) (by omega) (by omega) (by omega) (by omega) (by omega) (by omega) (by omega) _).mono ?_); rintro e wD ⟨rfl, h1⟩; (try with_reducible replace h1 := undrew h1); have hB : Below w.heap.size w wD := ba (by go_grown) h1; obtain ⟨hcwD, hfwD⟩ := bcell h1; have hqwD := h1.size; (try simp at hqwD); (try have hz0wD : w.heap.size < wD.heap.size := (by omega)); (try have he0wD : w.heap.size ≤ wD.heap.size := (by omega)); (try have hz1wD : w.heap.size + 1 < wD.heap.size := (by omega)); (try have he1wD : w.heap.size + 1 ≤ wD.heap.size := (by omega)); have hR := st_below hR (by first | omega | (simp; done) | (simp; omega)) h1))
  go_wp2_with fail
  refine bodyPost_ret (by simp [results, Try.results102, go_sem, *]; try rfl) rfl ?_
  exact ⟨rfl, by go_grown⟩

set_option maxRecDepth 100000 in
set_option maxHeartbeats 3200000 in
theorem curveLeftP (x0 x1 x2 x3 h : Int) (h0 : 0 ≤ h) (h7 : h ≤ 7) (px0 : -1000000 ≤ x0) (qx0 : x0 ≤ 1000000) (px1 : -1000000 ≤ x1) (qx1 : x1 ≤ 1000000) (px2 : -1000000 ≤ x2) (qx2 : x2 ≤ 1000000) (px3 : -1000000 ≤ x3) (qx3 : x3 ≤ 1000000) (w : World) :
    Calls Try.prog 118 #[.agg #[.int .i64 x0, .int .i64 x1, .int .i64 x2, .int .i64 x3, .int .i64 h], .int .i64 1] w fun e w' => e = .returned (.agg #[.int .i64 (x0 + (tu0 ((h + 7) % 8) 1 0 0 0 - tu0 ((h + 6) % 8) 1 0 0 0)), .int .i64 (x1 + (tu1 ((h + 7) % 8) 1 0 0 0 - tu1 ((h + 6) % 8) 1 0 0 0)), .int .i64 (x2 + (tu2 ((h + 7) % 8) 1 0 0 0 - tu2 ((h + 6) % 8) 1 0 0 0)), .int .i64 (x3 + (tu3 ((h + 7) % 8) 1 0 0 0 - tu3 ((h + 6) % 8) 1 0 0 0)), .int .i64 ((h + 1) % 8)]) ∧ Below w.heap.size w w' := by
  have g0 : 0 ≤ ((h + 7) % 8) := by omega
  have g7 : ((h + 7) % 8) ≤ 7 := by omega
  have j0 : 0 ≤ ((h + 6) % 8) := by omega
  have j7 : ((h + 6) % 8) ≤ 7 := by omega
  obtain ⟨a0, a0'⟩ := tu_bd0 ((h + 7) % 8) (by omega) (by omega)
  obtain ⟨a1, a1'⟩ := tu_bd1 ((h + 7) % 8) (by omega) (by omega)
  obtain ⟨a2, a2'⟩ := tu_bd2 ((h + 7) % 8) (by omega) (by omega)
  obtain ⟨a3, a3'⟩ := tu_bd3 ((h + 7) % 8) (by omega) (by omega)
  obtain ⟨b0, b0'⟩ := tu_bd0 ((h + 6) % 8) (by omega) (by omega)
  obtain ⟨b1, b1'⟩ := tu_bd1 ((h + 6) % 8) (by omega) (by omega)
  obtain ⟨b2, b2'⟩ := tu_bd2 ((h + 6) % 8) (by omega) (by omega)
  obtain ⟨b3, b3'⟩ := tu_bd3 ((h + 6) % 8) (by omega) (by omega)
  go_enter Try.func118, Try.ntmps118
  go_wp2_with (go_at_call 106; refine (tm1_any h h0 h7 _).mono ?_; rintro e w' ⟨rfl, rfl⟩)
  (go_at_call 109; (with_reducible refine (power_any ((h + 7) % 8) g0 g7 _).mono ?_); rintro e wB ⟨rfl, h1⟩; (try with_reducible replace h1 := undrew h1); have hB : Below w.heap.size w wB := ba (by go_grown) h1; obtain ⟨hcwB, hfwB⟩ := bcell h1; have hqwB := h1.size; (try simp at hqwB); (try have hz0wB : w.heap.size < wB.heap.size := (by omega)); (try have he0wB : w.heap.size ≤ wB.heap.size := (by omega)); (try have hz1wB : w.heap.size + 1 < wB.heap.size := (by omega)); (try have he1wB : w.heap.size + 1 ≤ wB.heap.size := (by omega)))
  go_wp2_with (go_at_call 106; refine (tm2_any h h0 h7 _).mono ?_; rintro e w' ⟨rfl, rfl⟩)
  (go_at_call 109; (with_reducible refine (power_any ((h + 6) % 8) j0 j7 _).mono ?_); rintro e wC ⟨rfl, h1⟩; (try with_reducible replace h1 := undrew h1); have hB : Below w.heap.size w wC := ba (by go_grown) h1; obtain ⟨hcwC, hfwC⟩ := bcell h1; have hqwC := h1.size; (try simp at hqwC); (try have hz0wC : w.heap.size < wC.heap.size := (by omega)); (try have he0wC : w.heap.size ≤ wC.heap.size := (by omega)); (try have hz1wC : w.heap.size + 1 < wC.heap.size := (by omega)); (try have he1wC : w.heap.size + 1 ≤ wC.heap.size := (by omega)); (try have hz2wC : wB.heap.size < wC.heap.size := (by omega)); (try have he2wC : wB.heap.size ≤ wC.heap.size := (by omega)))
  go_wp2_with fail
  (go_at_call 107; (with_reducible refine (scN (tu0 ((h + 6) % 8) 1 0 0 0) (tu1 ((h + 6) % 8) 1 0 0 0) (tu2 ((h + 6) % 8) 1 0 0 0) (tu3 ((h + 6) % 8) 1 0 0 0) b0 b0' b1 b1' b2 b2' b3 b3' _).mono ?_); rintro e wD ⟨rfl, h1⟩; (try with_reducible replace h1 := undrew h1); have hB : Below w.heap.size w wD := ba (by go_grown) h1; obtain ⟨hcwD, hfwD⟩ := bcell h1; have hqwD := h1.size; (try simp at hqwD); (try have hz0wD : w.heap.size < wD.heap.size := (by omega)); (try have he0wD : w.heap.size ≤ wD.heap.size := (by omega)); (try have hz1wD : w.heap.size + 1 < wD.heap.size := (by omega)); (try have he1wD : w.heap.size + 1 ≤ wD.heap.size := (by omega)); (try have hz2wD : wB.heap.size < wD.heap.size := (by omega)); (try have he2wD : wB.heap.size ≤ wD.heap.size := (by omega)))
  go_wp2_with fail
  have hS0 : (wD.alloc (.cells #[.int .i64 (-(tu0 ((h + 6) % 8) 1 0 0 0)), .int .i64 (-(tu1 ((h + 6) % 8) 1 0 0 0)), .int .i64 (-(tu2 ((h + 6) % 8) 1 0 0 0)), .int .i64 (-(tu3 ((h + 6) % 8) 1 0 0 0))] 79)).cell? ⟨w.heap.size, 0, none⟩ = some (.int .i64 x0) ∧ (wD.alloc (.cells #[.int .i64 (-(tu0 ((h + 6) % 8) 1 0 0 0)), .int .i64 (-(tu1 ((h + 6) % 8) 1 0 0 0)), .int .i64 (-(tu2 ((h + 6) % 8) 1 0 0 0)), .int .i64 (-(tu3 ((h + 6) % 8) 1 0 0 0))] 79)).cell? ⟨w.heap.size, 1, none⟩ = some (.int .i64 x1) ∧ (wD.alloc (.cells #[.int .i64 (-(tu0 ((h + 6) % 8) 1 0 0 0)), .int .i64 (-(tu1 ((h + 6) % 8) 1 0 0 0)), .int .i64 (-(tu2 ((h + 6) % 8) 1 0 0 0)), .int .i64 (-(tu3 ((h + 6) % 8) 1 0 0 0))] 79)).cell? ⟨w.heap.size, 2, none⟩ = some (.int .i64 x2) ∧ (wD.alloc (.cells #[.int .i64 (-(tu0 ((h + 6) % 8) 1 0 0 0)), .int .i64 (-(tu1 ((h + 6) % 8) 1 0 0 0)), .int .i64 (-(tu2 ((h + 6) % 8) 1 0 0 0)), .int .i64 (-(tu3 ((h + 6) % 8) 1 0 0 0))] 79)).cell? ⟨w.heap.size, 3, none⟩ = some (.int .i64 x3) ∧ (wD.alloc (.cells #[.int .i64 (-(tu0 ((h + 6) % 8) 1 0 0 0)), .int .i64 (-(tu1 ((h + 6) % 8) 1 0 0 0)), .int .i64 (-(tu2 ((h + 6) % 8) 1 0 0 0)), .int .i64 (-(tu3 ((h + 6) % 8) 1 0 0 0))] 79)).cell? ⟨w.heap.size, 4, none⟩ = some (.int .i64 h) ∧ (wD.alloc (.cells #[.int .i64 (-(tu0 ((h + 6) % 8) 1 0 0 0)), .int .i64 (-(tu1 ((h + 6) % 8) 1 0 0 0)), .int .i64 (-(tu2 ((h + 6) % 8) 1 0 0 0)), .int .i64 (-(tu3 ((h + 6) % 8) 1 0 0 0))] 79)).cell? ⟨wB.heap.size, 0, none⟩ = some (.int .i64 (tu0 ((h + 7) % 8) 1 0 0 0)) ∧ (wD.alloc (.cells #[.int .i64 (-(tu0 ((h + 6) % 8) 1 0 0 0)), .int .i64 (-(tu1 ((h + 6) % 8) 1 0 0 0)), .int .i64 (-(tu2 ((h + 6) % 8) 1 0 0 0)), .int .i64 (-(tu3 ((h + 6) % 8) 1 0 0 0))] 79)).cell? ⟨wB.heap.size, 1, none⟩ = some (.int .i64 (tu1 ((h + 7) % 8) 1 0 0 0)) ∧ (wD.alloc (.cells #[.int .i64 (-(tu0 ((h + 6) % 8) 1 0 0 0)), .int .i64 (-(tu1 ((h + 6) % 8) 1 0 0 0)), .int .i64 (-(tu2 ((h + 6) % 8) 1 0 0 0)), .int .i64 (-(tu3 ((h + 6) % 8) 1 0 0 0))] 79)).cell? ⟨wB.heap.size, 2, none⟩ = some (.int .i64 (tu2 ((h + 7) % 8) 1 0 0 0)) ∧ (wD.alloc (.cells #[.int .i64 (-(tu0 ((h + 6) % 8) 1 0 0 0)), .int .i64 (-(tu1 ((h + 6) % 8) 1 0 0 0)), .int .i64 (-(tu2 ((h + 6) % 8) 1 0 0 0)), .int .i64 (-(tu3 ((h + 6) % 8) 1 0 0 0))] 79)).cell? ⟨wB.heap.size, 3, none⟩ = some (.int .i64 (tu3 ((h + 7) % 8) 1 0 0 0)) ∧ (wD.alloc (.cells #[.int .i64 (-(tu0 ((h + 6) % 8) 1 0 0 0)), .int .i64 (-(tu1 ((h + 6) % 8) 1 0 0 0)), .int .i64 (-(tu2 ((h + 6) % 8) 1 0 0 0)), .int .i64 (-(tu3 ((h + 6) % 8) 1 0 0 0))] 79)).cell? ⟨wD.heap.size, 0, none⟩ = some (.int .i64 (-(tu0 ((h + 6) % 8) 1 0 0 0))) ∧ (wD.alloc (.cells #[.int .i64 (-(tu0 ((h + 6) % 8) 1 0 0 0)), .int .i64 (-(tu1 ((h + 6) % 8) 1 0 0 0)), .int .i64 (-(tu2 ((h + 6) % 8) 1 0 0 0)), .int .i64 (-(tu3 ((h + 6) % 8) 1 0 0 0))] 79)).cell? ⟨wD.heap.size, 1, none⟩ = some (.int .i64 (-(tu1 ((h + 6) % 8) 1 0 0 0))) ∧ (wD.alloc (.cells #[.int .i64 (-(tu0 ((h + 6) % 8) 1 0 0 0)), .int .i64 (-(tu1 ((h + 6) % 8) 1 0 0 0)), .int .i64 (-(tu2 ((h + 6) % 8) 1 0 0 0)), .int .i64 (-(tu3 ((h + 6) % 8) 1 0 0 0))] 79)).cell? ⟨wD.heap.size, 2, none⟩ = some (.int .i64 (-(tu2 ((h + 6) % 8) 1 0 0 0))) ∧ (wD.alloc (.cells #[.int .i64 (-(tu0 ((h + 6) % 8) 1 0 0 0)), .int .i64 (-(tu1 ((h + 6) % 8) 1 0 0 0)), .int .i64 (-(tu2 ((h + 6) % 8) 1 0 0 0)), .int .i64 (-(tu3 ((h + 6) % 8) 1 0 0 0))] 79)).cell? ⟨wD.heap.size, 3, none⟩ = some (.int .i64 (-(tu3 ((h + 6) % 8) 1 0 0 0))) := by refine ⟨?_, ?_, ?_, ?_, ?_, ?_, ?_, ?_, ?_, ?_, ?_, ?_, ?_⟩ <;> go_simp
  have hR : (wD.alloc (.cells #[.int .i64 (-(tu0 ((h + 6) % 8) 1 0 0 0)), .int .i64 (-(tu1 ((h + 6) % 8) 1 0 0 0)), .int .i64 (-(tu2 ((h + 6) % 8) 1 0 0 0)), .int .i64 (-(tu3 ((h + 6) % 8) 1 0 0 0))] 79)).cell? ⟨w.heap.size + 1, 0, none⟩ = some (.int .i64 0) ∧ (wD.alloc (.cells #[.int .i64 (-(tu0 ((h + 6) % 8) 1 0 0 0)), .int .i64 (-(tu1 ((h + 6) % 8) 1 0 0 0)), .int .i64 (-(tu2 ((h + 6) % 8) 1 0 0 0)), .int .i64 (-(tu3 ((h + 6) % 8) 1 0 0 0))] 79)).cell? ⟨w.heap.size + 1, 1, none⟩ = some (.int .i64 0) ∧ (wD.alloc (.cells #[.int .i64 (-(tu0 ((h + 6) % 8) 1 0 0 0)), .int .i64 (-(tu1 ((h + 6) % 8) 1 0 0 0)), .int .i64 (-(tu2 ((h + 6) % 8) 1 0 0 0)), .int .i64 (-(tu3 ((h + 6) % 8) 1 0 0 0))] 79)).cell? ⟨w.heap.size + 1, 2, none⟩ = some (.int .i64 0) ∧ (wD.alloc (.cells #[.int .i64 (-(tu0 ((h + 6) % 8) 1 0 0 0)), .int .i64 (-(tu1 ((h + 6) % 8) 1 0 0 0)), .int .i64 (-(tu2 ((h + 6) % 8) 1 0 0 0)), .int .i64 (-(tu3 ((h + 6) % 8) 1 0 0 0))] 79)).cell? ⟨w.heap.size + 1, 3, none⟩ = some (.int .i64 0) ∧ (wD.alloc (.cells #[.int .i64 (-(tu0 ((h + 6) % 8) 1 0 0 0)), .int .i64 (-(tu1 ((h + 6) % 8) 1 0 0 0)), .int .i64 (-(tu2 ((h + 6) % 8) 1 0 0 0)), .int .i64 (-(tu3 ((h + 6) % 8) 1 0 0 0))] 79)).cell? ⟨w.heap.size + 1, 4, none⟩ = some (.int .i64 0) := by refine ⟨?_, ?_, ?_, ?_, ?_⟩ <;> go_simp
  go_region_held3 (fun w' => w'.cell? ⟨w.heap.size, 0, none⟩ = some (.int .i64 x0) ∧ w'.cell? ⟨w.heap.size, 1, none⟩ = some (.int .i64 x1) ∧ w'.cell? ⟨w.heap.size, 2, none⟩ = some (.int .i64 x2) ∧ w'.cell? ⟨w.heap.size, 3, none⟩ = some (.int .i64 x3) ∧ w'.cell? ⟨w.heap.size, 4, none⟩ = some (.int .i64 h) ∧ w'.cell? ⟨wB.heap.size, 0, none⟩ = some (.int .i64 (tu0 ((h + 7) % 8) 1 0 0 0)) ∧ w'.cell? ⟨wB.heap.size, 1, none⟩ = some (.int .i64 (tu1 ((h + 7) % 8) 1 0 0 0)) ∧ w'.cell? ⟨wB.heap.size, 2, none⟩ = some (.int .i64 (tu2 ((h + 7) % 8) 1 0 0 0)) ∧ w'.cell? ⟨wB.heap.size, 3, none⟩ = some (.int .i64 (tu3 ((h + 7) % 8) 1 0 0 0)) ∧ w'.cell? ⟨wD.heap.size, 0, none⟩ = some (.int .i64 (-(tu0 ((h + 6) % 8) 1 0 0 0))) ∧ w'.cell? ⟨wD.heap.size, 1, none⟩ = some (.int .i64 (-(tu1 ((h + 6) % 8) 1 0 0 0))) ∧ w'.cell? ⟨wD.heap.size, 2, none⟩ = some (.int .i64 (-(tu2 ((h + 6) % 8) 1 0 0 0))) ∧ w'.cell? ⟨wD.heap.size, 3, none⟩ = some (.int .i64 (-(tu3 ((h + 6) % 8) 1 0 0 0))))
    (first | (with_reducible assumption) | (with_reducible exact stpp_drew hS0) | (with_reducible exact stpp_drew (stpp_alloc hS0 _)) | (with_reducible exact stpp_alloc (stpp_drew hS0) _) | (with_reducible refine stpp_drew ?_; with_reducible assumption) | (with_reducible refine stpp_alloc ?_ _; with_reducible assumption) | (with_reducible refine stpp_re (by with_reducible assumption) ?_ ?_ ?_ _; (focus first | (with_reducible assumption) | omega | (simp; done) | (simp; omega)); (focus first | (with_reducible assumption) | omega | (simp; done) | (simp; omega)); (focus first | (with_reducible assumption) | omega | (simp; done) | (simp; omega))) | (with_reducible refine stpp_below ?_ ?_ ?_ ?_ h1; (focus first | (with_reducible assumption) | (with_reducible refine stpp_undrew ?_; with_reducible assumption)); (focus first | (with_reducible assumption) | omega | (simp; done) | (simp; omega)); (focus first | (with_reducible assumption) | omega | (simp; done) | (simp; omega)); (focus first | (with_reducible assumption) | omega | (simp; done) | (simp; omega))) | ((repeat (with_reducible refine stpp_set ?_ _ _ ?_ ?_ ?_; rotate_left 1; (focus first | (with_reducible assumption) | omega | (simp; done) | (simp; omega)); (focus first | (with_reducible assumption) | omega | (simp; done) | (simp; omega)); (focus first | (with_reducible assumption) | omega | (simp; done) | (simp; omega)))); with_reducible assumption))
    (first | (go_at_call 117; (with_reducible refine (plP x0 x1 x2 x3 (tu0 ((h + 7) % 8) 1 0 0 0) (tu1 ((h + 7) % 8) 1 0 0 0) (tu2 ((h + 7) % 8) 1 0 0 0) (tu3 ((h + 7) % 8) 1 0 0 0) (by omega) (by omega) (by omega) (by omega) (by omega) (by omega) (by omega) (by omega) (by omega) (by omega) (by omega) (by omega) (by omega) (by omega) (by omega) (by omega) _).mono ?_); rintro e wE ⟨rfl, h1⟩; (try with_reducible replace h1 := undrew h1); have hB : Below w.heap.size w wE := ba (by go_grown) h1; obtain ⟨hcwE, hfwE⟩ := bcell h1; have hqwE := h1.size; (try simp at hqwE); (try have hz0wE : w.heap.size < wE.heap.size := (by omega)); (try have he0wE : w.heap.size ≤ wE.heap.size := (by omega)); (try have hz1wE : w.heap.size + 1 < wE.heap.size := (by omega)); (try have he1wE : w.heap.size + 1 ≤ wE.heap.size := (by omega)); (try have hz2wE : wB.heap.size < wE.heap.size := (by omega)); (try have he2wE : wB.heap.size ≤ wE.heap.size := (by omega)); (try have hz3wE : wD.heap.size < wE.heap.size := (by omega)); (try have he3wE : wD.heap.size ≤ wE.heap.size := (by omega)); have hR := st_below hR (by first | omega | (simp; done) | (simp; omega)) h1) | (go_at_call 117; (with_reducible refine (plP (x0 + (tu0 ((h + 7) % 8) 1 0 0 0)) (x1 + (tu1 ((h + 7) % 8) 1 0 0 0)) (x2 + (tu2 ((h + 7) % 8) 1 0 0 0)) (x3 + (tu3 ((h + 7) % 8) 1 0 0 0)) (-(tu0 ((h + 6) % 8) 1 0 0 0)) (-(tu1 ((h + 6) % 8) 1 0 0 0)) (-(tu2 ((h + 6) % 8) 1 0 0 0)) (-(tu3 ((h + 6) % 8) 1 0 0 0)) (by omega) (by omega) (by omega) (by omega) (by omega) (by omega) (by omega) (by omega) (by omega) (by omega) (by omega) (by omega) (by omega) (by omega) (by omega) (by omega) _).mono ?_); rintro e wF ⟨rfl, h1⟩; (try with_reducible replace h1 := undrew h1); have hB : Below w.heap.size w wF := ba (by go_grown) h1; obtain ⟨hcwF, hfwF⟩ := bcell h1; have hqwF := h1.size; (try simp at hqwF); (try have hz0wF : w.heap.size < wF.heap.size := (by omega)); (try have he0wF : w.heap.size ≤ wF.heap.size := (by omega)); (try have hz1wF : w.heap.size + 1 < wF.heap.size := (by omega)); (try have he1wF : w.heap.size + 1 ≤ wF.heap.size := (by omega)); (try have hz2wF : wB.heap.size < wF.heap.size := (by omega)); (try have he2wF : wB.heap.size ≤ wF.heap.size := (by omega)); (try have hz3wF : wD.heap.size < wF.heap.size := (by omega)); (try have he3wF : wD.heap.size ≤ wF.heap.size := (by omega)); have hR := st_below hR (by first | omega | (simp; done) | (simp; omega)) h1) | (go_at_call 106; refine (tp1_any h h0 h7 _).mono ?_; rintro e w' ⟨rfl, rfl⟩))
  all_goals
    go_wp2_with fail
    refine bodyPost_ret (by simp [results, Try.results118, go_sem, *]; try rfl) rfl ?_
    exact ⟨ag5 (by omega) (by omega) (by omega) (by omega) rfl, by go_grown⟩

set_option maxRecDepth 100000 in
theorem leftP (x0 x1 x2 x3 h : Int) (h0 : 0 ≤ h) (h7 : h ≤ 7) (px0 : -1000000 ≤ x0) (qx0 : x0 ≤ 1000000) (px1 : -1000000 ≤ x1) (qx1 : x1 ≤ 1000000) (px2 : -1000000 ≤ x2) (qx2 : x2 ≤ 1000000) (px3 : -1000000 ≤ x3) (qx3 : x3 ≤ 1000000) (w : World) :
    Calls Try.prog 103 #[.agg #[.int .i64 x0, .int .i64 x1, .int .i64 x2, .int .i64 x3, .int .i64 h]] w fun e w' => e = .returned (.agg #[.int .i64 (x0 + (tu0 ((h + 7) % 8) 1 0 0 0 - tu0 ((h + 6) % 8) 1 0 0 0)), .int .i64 (x1 + (tu1 ((h + 7) % 8) 1 0 0 0 - tu1 ((h + 6) % 8) 1 0 0 0)), .int .i64 (x2 + (tu2 ((h + 7) % 8) 1 0 0 0 - tu2 ((h + 6) % 8) 1 0 0 0)), .int .i64 (x3 + (tu3 ((h + 7) % 8) 1 0 0 0 - tu3 ((h + 6) % 8) 1 0 0 0)), .int .i64 ((h + 1) % 8)]) ∧ Below w.heap.size w w' := by
  go_enter Try.func103, Try.ntmps103
  go_wp2_with (go_at_call 118; refine (curveLeftP x0 x1 x2 x3 h h0 h7 px0 qx0 px1 qx1 px2 qx2 px3 qx3 _).mono ?_; rintro e w1 ⟨rfl, h1⟩; have hB : Below w.heap.size w w1 := ba (by go_grown) h1; obtain ⟨hc1, hf1⟩ := bcell h1; have hq := h1.size; (try simp at hq); have hz0 : w.heap.size < w1.heap.size := (by omega); have hz1 : w.heap.size + 1 < w1.heap.size := (by omega); have HK1 := Lib.hid h1; clear h1 hq)
  refine bodyPost_ret (by simp [results, Try.results103, go_sem, *]; try rfl) rfl ?_
  exact ⟨rfl, by go_grown⟩

set_option maxRecDepth 100000 in
set_option maxHeartbeats 3200000 in
theorem curveRightP (x0 x1 x2 x3 h : Int) (h0 : 0 ≤ h) (h7 : h ≤ 7) (px0 : -1000000 ≤ x0) (qx0 : x0 ≤ 1000000) (px1 : -1000000 ≤ x1) (qx1 : x1 ≤ 1000000) (px2 : -1000000 ≤ x2) (qx2 : x2 ≤ 1000000) (px3 : -1000000 ≤ x3) (qx3 : x3 ≤ 1000000) (w : World) :
    Calls Try.prog 118 #[.agg #[.int .i64 x0, .int .i64 x1, .int .i64 x2, .int .i64 x3, .int .i64 h], .int .i64 (-1)] w fun e w' => e = .returned (.agg #[.int .i64 (x0 + (tu0 ((h + 1) % 8) 1 0 0 0 - tu0 ((h + 2) % 8) 1 0 0 0)), .int .i64 (x1 + (tu1 ((h + 1) % 8) 1 0 0 0 - tu1 ((h + 2) % 8) 1 0 0 0)), .int .i64 (x2 + (tu2 ((h + 1) % 8) 1 0 0 0 - tu2 ((h + 2) % 8) 1 0 0 0)), .int .i64 (x3 + (tu3 ((h + 1) % 8) 1 0 0 0 - tu3 ((h + 2) % 8) 1 0 0 0)), .int .i64 ((h + 7) % 8)]) ∧ Below w.heap.size w w' := by
  have g0 : 0 ≤ ((h + 1) % 8) := by omega
  have g7 : ((h + 1) % 8) ≤ 7 := by omega
  have j0 : 0 ≤ ((h + 2) % 8) := by omega
  have j7 : ((h + 2) % 8) ≤ 7 := by omega
  obtain ⟨a0, a0'⟩ := tu_bd0 ((h + 1) % 8) (by omega) (by omega)
  obtain ⟨a1, a1'⟩ := tu_bd1 ((h + 1) % 8) (by omega) (by omega)
  obtain ⟨a2, a2'⟩ := tu_bd2 ((h + 1) % 8) (by omega) (by omega)
  obtain ⟨a3, a3'⟩ := tu_bd3 ((h + 1) % 8) (by omega) (by omega)
  obtain ⟨b0, b0'⟩ := tu_bd0 ((h + 2) % 8) (by omega) (by omega)
  obtain ⟨b1, b1'⟩ := tu_bd1 ((h + 2) % 8) (by omega) (by omega)
  obtain ⟨b2, b2'⟩ := tu_bd2 ((h + 2) % 8) (by omega) (by omega)
  obtain ⟨b3, b3'⟩ := tu_bd3 ((h + 2) % 8) (by omega) (by omega)
  go_enter Try.func118, Try.ntmps118
  go_wp2_with (go_at_call 106; refine (tp1_any h h0 h7 _).mono ?_; rintro e w' ⟨rfl, rfl⟩)
  (go_at_call 109; (with_reducible refine (power_any ((h + 1) % 8) g0 g7 _).mono ?_); rintro e wB ⟨rfl, h1⟩; (try with_reducible replace h1 := undrew h1); have hB : Below w.heap.size w wB := ba (by go_grown) h1; obtain ⟨hcwB, hfwB⟩ := bcell h1; have hqwB := h1.size; (try simp at hqwB); (try have hz0wB : w.heap.size < wB.heap.size := (by omega)); (try have he0wB : w.heap.size ≤ wB.heap.size := (by omega)); (try have hz1wB : w.heap.size + 1 < wB.heap.size := (by omega)); (try have he1wB : w.heap.size + 1 ≤ wB.heap.size := (by omega)))
  go_wp2_with (go_at_call 106; refine (tp2_any h h0 h7 _).mono ?_; rintro e w' ⟨rfl, rfl⟩)
  (go_at_call 109; (with_reducible refine (power_any ((h + 2) % 8) j0 j7 _).mono ?_); rintro e wC ⟨rfl, h1⟩; (try with_reducible replace h1 := undrew h1); have hB : Below w.heap.size w wC := ba (by go_grown) h1; obtain ⟨hcwC, hfwC⟩ := bcell h1; have hqwC := h1.size; (try simp at hqwC); (try have hz0wC : w.heap.size < wC.heap.size := (by omega)); (try have he0wC : w.heap.size ≤ wC.heap.size := (by omega)); (try have hz1wC : w.heap.size + 1 < wC.heap.size := (by omega)); (try have he1wC : w.heap.size + 1 ≤ wC.heap.size := (by omega)); (try have hz2wC : wB.heap.size < wC.heap.size := (by omega)); (try have he2wC : wB.heap.size ≤ wC.heap.size := (by omega)))
  go_wp2_with fail
  (go_at_call 107; (with_reducible refine (scN (tu0 ((h + 2) % 8) 1 0 0 0) (tu1 ((h + 2) % 8) 1 0 0 0) (tu2 ((h + 2) % 8) 1 0 0 0) (tu3 ((h + 2) % 8) 1 0 0 0) b0 b0' b1 b1' b2 b2' b3 b3' _).mono ?_); rintro e wD ⟨rfl, h1⟩; (try with_reducible replace h1 := undrew h1); have hB : Below w.heap.size w wD := ba (by go_grown) h1; obtain ⟨hcwD, hfwD⟩ := bcell h1; have hqwD := h1.size; (try simp at hqwD); (try have hz0wD : w.heap.size < wD.heap.size := (by omega)); (try have he0wD : w.heap.size ≤ wD.heap.size := (by omega)); (try have hz1wD : w.heap.size + 1 < wD.heap.size := (by omega)); (try have he1wD : w.heap.size + 1 ≤ wD.heap.size := (by omega)); (try have hz2wD : wB.heap.size < wD.heap.size := (by omega)); (try have he2wD : wB.heap.size ≤ wD.heap.size := (by omega)))
  go_wp2_with fail
  have hS0 : (wD.alloc (.cells #[.int .i64 (-(tu0 ((h + 2) % 8) 1 0 0 0)), .int .i64 (-(tu1 ((h + 2) % 8) 1 0 0 0)), .int .i64 (-(tu2 ((h + 2) % 8) 1 0 0 0)), .int .i64 (-(tu3 ((h + 2) % 8) 1 0 0 0))] 79)).cell? ⟨w.heap.size, 0, none⟩ = some (.int .i64 x0) ∧ (wD.alloc (.cells #[.int .i64 (-(tu0 ((h + 2) % 8) 1 0 0 0)), .int .i64 (-(tu1 ((h + 2) % 8) 1 0 0 0)), .int .i64 (-(tu2 ((h + 2) % 8) 1 0 0 0)), .int .i64 (-(tu3 ((h + 2) % 8) 1 0 0 0))] 79)).cell? ⟨w.heap.size, 1, none⟩ = some (.int .i64 x1) ∧ (wD.alloc (.cells #[.int .i64 (-(tu0 ((h + 2) % 8) 1 0 0 0)), .int .i64 (-(tu1 ((h + 2) % 8) 1 0 0 0)), .int .i64 (-(tu2 ((h + 2) % 8) 1 0 0 0)), .int .i64 (-(tu3 ((h + 2) % 8) 1 0 0 0))] 79)).cell? ⟨w.heap.size, 2, none⟩ = some (.int .i64 x2) ∧ (wD.alloc (.cells #[.int .i64 (-(tu0 ((h + 2) % 8) 1 0 0 0)), .int .i64 (-(tu1 ((h + 2) % 8) 1 0 0 0)), .int .i64 (-(tu2 ((h + 2) % 8) 1 0 0 0)), .int .i64 (-(tu3 ((h + 2) % 8) 1 0 0 0))] 79)).cell? ⟨w.heap.size, 3, none⟩ = some (.int .i64 x3) ∧ (wD.alloc (.cells #[.int .i64 (-(tu0 ((h + 2) % 8) 1 0 0 0)), .int .i64 (-(tu1 ((h + 2) % 8) 1 0 0 0)), .int .i64 (-(tu2 ((h + 2) % 8) 1 0 0 0)), .int .i64 (-(tu3 ((h + 2) % 8) 1 0 0 0))] 79)).cell? ⟨w.heap.size, 4, none⟩ = some (.int .i64 h) ∧ (wD.alloc (.cells #[.int .i64 (-(tu0 ((h + 2) % 8) 1 0 0 0)), .int .i64 (-(tu1 ((h + 2) % 8) 1 0 0 0)), .int .i64 (-(tu2 ((h + 2) % 8) 1 0 0 0)), .int .i64 (-(tu3 ((h + 2) % 8) 1 0 0 0))] 79)).cell? ⟨wB.heap.size, 0, none⟩ = some (.int .i64 (tu0 ((h + 1) % 8) 1 0 0 0)) ∧ (wD.alloc (.cells #[.int .i64 (-(tu0 ((h + 2) % 8) 1 0 0 0)), .int .i64 (-(tu1 ((h + 2) % 8) 1 0 0 0)), .int .i64 (-(tu2 ((h + 2) % 8) 1 0 0 0)), .int .i64 (-(tu3 ((h + 2) % 8) 1 0 0 0))] 79)).cell? ⟨wB.heap.size, 1, none⟩ = some (.int .i64 (tu1 ((h + 1) % 8) 1 0 0 0)) ∧ (wD.alloc (.cells #[.int .i64 (-(tu0 ((h + 2) % 8) 1 0 0 0)), .int .i64 (-(tu1 ((h + 2) % 8) 1 0 0 0)), .int .i64 (-(tu2 ((h + 2) % 8) 1 0 0 0)), .int .i64 (-(tu3 ((h + 2) % 8) 1 0 0 0))] 79)).cell? ⟨wB.heap.size, 2, none⟩ = some (.int .i64 (tu2 ((h + 1) % 8) 1 0 0 0)) ∧ (wD.alloc (.cells #[.int .i64 (-(tu0 ((h + 2) % 8) 1 0 0 0)), .int .i64 (-(tu1 ((h + 2) % 8) 1 0 0 0)), .int .i64 (-(tu2 ((h + 2) % 8) 1 0 0 0)), .int .i64 (-(tu3 ((h + 2) % 8) 1 0 0 0))] 79)).cell? ⟨wB.heap.size, 3, none⟩ = some (.int .i64 (tu3 ((h + 1) % 8) 1 0 0 0)) ∧ (wD.alloc (.cells #[.int .i64 (-(tu0 ((h + 2) % 8) 1 0 0 0)), .int .i64 (-(tu1 ((h + 2) % 8) 1 0 0 0)), .int .i64 (-(tu2 ((h + 2) % 8) 1 0 0 0)), .int .i64 (-(tu3 ((h + 2) % 8) 1 0 0 0))] 79)).cell? ⟨wD.heap.size, 0, none⟩ = some (.int .i64 (-(tu0 ((h + 2) % 8) 1 0 0 0))) ∧ (wD.alloc (.cells #[.int .i64 (-(tu0 ((h + 2) % 8) 1 0 0 0)), .int .i64 (-(tu1 ((h + 2) % 8) 1 0 0 0)), .int .i64 (-(tu2 ((h + 2) % 8) 1 0 0 0)), .int .i64 (-(tu3 ((h + 2) % 8) 1 0 0 0))] 79)).cell? ⟨wD.heap.size, 1, none⟩ = some (.int .i64 (-(tu1 ((h + 2) % 8) 1 0 0 0))) ∧ (wD.alloc (.cells #[.int .i64 (-(tu0 ((h + 2) % 8) 1 0 0 0)), .int .i64 (-(tu1 ((h + 2) % 8) 1 0 0 0)), .int .i64 (-(tu2 ((h + 2) % 8) 1 0 0 0)), .int .i64 (-(tu3 ((h + 2) % 8) 1 0 0 0))] 79)).cell? ⟨wD.heap.size, 2, none⟩ = some (.int .i64 (-(tu2 ((h + 2) % 8) 1 0 0 0))) ∧ (wD.alloc (.cells #[.int .i64 (-(tu0 ((h + 2) % 8) 1 0 0 0)), .int .i64 (-(tu1 ((h + 2) % 8) 1 0 0 0)), .int .i64 (-(tu2 ((h + 2) % 8) 1 0 0 0)), .int .i64 (-(tu3 ((h + 2) % 8) 1 0 0 0))] 79)).cell? ⟨wD.heap.size, 3, none⟩ = some (.int .i64 (-(tu3 ((h + 2) % 8) 1 0 0 0))) := by refine ⟨?_, ?_, ?_, ?_, ?_, ?_, ?_, ?_, ?_, ?_, ?_, ?_, ?_⟩ <;> go_simp
  have hR : (wD.alloc (.cells #[.int .i64 (-(tu0 ((h + 2) % 8) 1 0 0 0)), .int .i64 (-(tu1 ((h + 2) % 8) 1 0 0 0)), .int .i64 (-(tu2 ((h + 2) % 8) 1 0 0 0)), .int .i64 (-(tu3 ((h + 2) % 8) 1 0 0 0))] 79)).cell? ⟨w.heap.size + 1, 0, none⟩ = some (.int .i64 0) ∧ (wD.alloc (.cells #[.int .i64 (-(tu0 ((h + 2) % 8) 1 0 0 0)), .int .i64 (-(tu1 ((h + 2) % 8) 1 0 0 0)), .int .i64 (-(tu2 ((h + 2) % 8) 1 0 0 0)), .int .i64 (-(tu3 ((h + 2) % 8) 1 0 0 0))] 79)).cell? ⟨w.heap.size + 1, 1, none⟩ = some (.int .i64 0) ∧ (wD.alloc (.cells #[.int .i64 (-(tu0 ((h + 2) % 8) 1 0 0 0)), .int .i64 (-(tu1 ((h + 2) % 8) 1 0 0 0)), .int .i64 (-(tu2 ((h + 2) % 8) 1 0 0 0)), .int .i64 (-(tu3 ((h + 2) % 8) 1 0 0 0))] 79)).cell? ⟨w.heap.size + 1, 2, none⟩ = some (.int .i64 0) ∧ (wD.alloc (.cells #[.int .i64 (-(tu0 ((h + 2) % 8) 1 0 0 0)), .int .i64 (-(tu1 ((h + 2) % 8) 1 0 0 0)), .int .i64 (-(tu2 ((h + 2) % 8) 1 0 0 0)), .int .i64 (-(tu3 ((h + 2) % 8) 1 0 0 0))] 79)).cell? ⟨w.heap.size + 1, 3, none⟩ = some (.int .i64 0) ∧ (wD.alloc (.cells #[.int .i64 (-(tu0 ((h + 2) % 8) 1 0 0 0)), .int .i64 (-(tu1 ((h + 2) % 8) 1 0 0 0)), .int .i64 (-(tu2 ((h + 2) % 8) 1 0 0 0)), .int .i64 (-(tu3 ((h + 2) % 8) 1 0 0 0))] 79)).cell? ⟨w.heap.size + 1, 4, none⟩ = some (.int .i64 0) := by refine ⟨?_, ?_, ?_, ?_, ?_⟩ <;> go_simp
  go_region_held3 (fun w' => w'.cell? ⟨w.heap.size, 0, none⟩ = some (.int .i64 x0) ∧ w'.cell? ⟨w.heap.size, 1, none⟩ = some (.int .i64 x1) ∧ w'.cell? ⟨w.heap.size, 2, none⟩ = some (.int .i64 x2) ∧ w'.cell? ⟨w.heap.size, 3, none⟩ = some (.int .i64 x3) ∧ w'.cell? ⟨w.heap.size, 4, none⟩ = some (.int .i64 h) ∧ w'.cell? ⟨wB.heap.size, 0, none⟩ = some (.int .i64 (tu0 ((h + 1) % 8) 1 0 0 0)) ∧ w'.cell? ⟨wB.heap.size, 1, none⟩ = some (.int .i64 (tu1 ((h + 1) % 8) 1 0 0 0)) ∧ w'.cell? ⟨wB.heap.size, 2, none⟩ = some (.int .i64 (tu2 ((h + 1) % 8) 1 0 0 0)) ∧ w'.cell? ⟨wB.heap.size, 3, none⟩ = some (.int .i64 (tu3 ((h + 1) % 8) 1 0 0 0)) ∧ w'.cell? ⟨wD.heap.size, 0, none⟩ = some (.int .i64 (-(tu0 ((h + 2) % 8) 1 0 0 0))) ∧ w'.cell? ⟨wD.heap.size, 1, none⟩ = some (.int .i64 (-(tu1 ((h + 2) % 8) 1 0 0 0))) ∧ w'.cell? ⟨wD.heap.size, 2, none⟩ = some (.int .i64 (-(tu2 ((h + 2) % 8) 1 0 0 0))) ∧ w'.cell? ⟨wD.heap.size, 3, none⟩ = some (.int .i64 (-(tu3 ((h + 2) % 8) 1 0 0 0))))
    (first | (with_reducible assumption) | (with_reducible exact stpp_drew hS0) | (with_reducible exact stpp_drew (stpp_alloc hS0 _)) | (with_reducible exact stpp_alloc (stpp_drew hS0) _) | (with_reducible refine stpp_drew ?_; with_reducible assumption) | (with_reducible refine stpp_alloc ?_ _; with_reducible assumption) | (with_reducible refine stpp_re (by with_reducible assumption) ?_ ?_ ?_ _; (focus first | (with_reducible assumption) | omega | (simp; done) | (simp; omega)); (focus first | (with_reducible assumption) | omega | (simp; done) | (simp; omega)); (focus first | (with_reducible assumption) | omega | (simp; done) | (simp; omega))) | (with_reducible refine stpp_below ?_ ?_ ?_ ?_ h1; (focus first | (with_reducible assumption) | (with_reducible refine stpp_undrew ?_; with_reducible assumption)); (focus first | (with_reducible assumption) | omega | (simp; done) | (simp; omega)); (focus first | (with_reducible assumption) | omega | (simp; done) | (simp; omega)); (focus first | (with_reducible assumption) | omega | (simp; done) | (simp; omega))) | ((repeat (with_reducible refine stpp_set ?_ _ _ ?_ ?_ ?_; rotate_left 1; (focus first | (with_reducible assumption) | omega | (simp; done) | (simp; omega)); (focus first | (with_reducible assumption) | omega | (simp; done) | (simp; omega)); (focus first | (with_reducible assumption) | omega | (simp; done) | (simp; omega)))); with_reducible assumption))
    (first | (go_at_call 117; (with_reducible refine (plP x0 x1 x2 x3 (tu0 ((h + 1) % 8) 1 0 0 0) (tu1 ((h + 1) % 8) 1 0 0 0) (tu2 ((h + 1) % 8) 1 0 0 0) (tu3 ((h + 1) % 8) 1 0 0 0) (by omega) (by omega) (by omega) (by omega) (by omega) (by omega) (by omega) (by omega) (by omega) (by omega) (by omega) (by omega) (by omega) (by omega) (by omega) (by omega) _).mono ?_); rintro e wE ⟨rfl, h1⟩; (try with_reducible replace h1 := undrew h1); have hB : Below w.heap.size w wE := ba (by go_grown) h1; obtain ⟨hcwE, hfwE⟩ := bcell h1; have hqwE := h1.size; (try simp at hqwE); (try have hz0wE : w.heap.size < wE.heap.size := (by omega)); (try have he0wE : w.heap.size ≤ wE.heap.size := (by omega)); (try have hz1wE : w.heap.size + 1 < wE.heap.size := (by omega)); (try have he1wE : w.heap.size + 1 ≤ wE.heap.size := (by omega)); (try have hz2wE : wB.heap.size < wE.heap.size := (by omega)); (try have he2wE : wB.heap.size ≤ wE.heap.size := (by omega)); (try have hz3wE : wD.heap.size < wE.heap.size := (by omega)); (try have he3wE : wD.heap.size ≤ wE.heap.size := (by omega)); have hR := st_below hR (by first | omega | (simp; done) | (simp; omega)) h1) | (go_at_call 117; (with_reducible refine (plP (x0 + (tu0 ((h + 1) % 8) 1 0 0 0)) (x1 + (tu1 ((h + 1) % 8) 1 0 0 0)) (x2 + (tu2 ((h + 1) % 8) 1 0 0 0)) (x3 + (tu3 ((h + 1) % 8) 1 0 0 0)) (-(tu0 ((h + 2) % 8) 1 0 0 0)) (-(tu1 ((h + 2) % 8) 1 0 0 0)) (-(tu2 ((h + 2) % 8) 1 0 0 0)) (-(tu3 ((h + 2) % 8) 1 0 0 0)) (by omega) (by omega) (by omega) (by omega) (by omega) (by omega) (by omega) (by omega) (by omega) (by omega) (by omega) (by omega) (by omega) (by omega) (by omega) (by omega) _).mono ?_); rintro e wF ⟨rfl, h1⟩; (try with_reducible replace h1 := undrew h1); have hB : Below w.heap.size w wF := ba (by go_grown) h1; obtain ⟨hcwF, hfwF⟩ := bcell h1; have hqwF := h1.size; (try simp at hqwF); (try have hz0wF : w.heap.size < wF.heap.size := (by omega)); (try have he0wF : w.heap.size ≤ wF.heap.size := (by omega)); (try have hz1wF : w.heap.size + 1 < wF.heap.size := (by omega)); (try have he1wF : w.heap.size + 1 ≤ wF.heap.size := (by omega)); (try have hz2wF : wB.heap.size < wF.heap.size := (by omega)); (try have he2wF : wB.heap.size ≤ wF.heap.size := (by omega)); (try have hz3wF : wD.heap.size < wF.heap.size := (by omega)); (try have he3wF : wD.heap.size ≤ wF.heap.size := (by omega)); have hR := st_below hR (by first | omega | (simp; done) | (simp; omega)) h1) | (go_at_call 106; refine (tm1_any h h0 h7 _).mono ?_; rintro e w' ⟨rfl, rfl⟩))
  all_goals
    go_wp2_with fail
    refine bodyPost_ret (by simp [results, Try.results118, go_sem, *]; try rfl) rfl ?_
    exact ⟨ag5 (by omega) (by omega) (by omega) (by omega) rfl, by go_grown⟩

set_option maxRecDepth 100000 in
theorem rightP (x0 x1 x2 x3 h : Int) (h0 : 0 ≤ h) (h7 : h ≤ 7) (px0 : -1000000 ≤ x0) (qx0 : x0 ≤ 1000000) (px1 : -1000000 ≤ x1) (qx1 : x1 ≤ 1000000) (px2 : -1000000 ≤ x2) (qx2 : x2 ≤ 1000000) (px3 : -1000000 ≤ x3) (qx3 : x3 ≤ 1000000) (w : World) :
    Calls Try.prog 104 #[.agg #[.int .i64 x0, .int .i64 x1, .int .i64 x2, .int .i64 x3, .int .i64 h]] w fun e w' => e = .returned (.agg #[.int .i64 (x0 + (tu0 ((h + 1) % 8) 1 0 0 0 - tu0 ((h + 2) % 8) 1 0 0 0)), .int .i64 (x1 + (tu1 ((h + 1) % 8) 1 0 0 0 - tu1 ((h + 2) % 8) 1 0 0 0)), .int .i64 (x2 + (tu2 ((h + 1) % 8) 1 0 0 0 - tu2 ((h + 2) % 8) 1 0 0 0)), .int .i64 (x3 + (tu3 ((h + 1) % 8) 1 0 0 0 - tu3 ((h + 2) % 8) 1 0 0 0)), .int .i64 ((h + 7) % 8)]) ∧ Below w.heap.size w w' := by
  go_enter Try.func104, Try.ntmps104
  go_wp2_with (go_at_call 118; refine (curveRightP x0 x1 x2 x3 h h0 h7 px0 qx0 px1 qx1 px2 qx2 px3 qx3 _).mono ?_; rintro e w1 ⟨rfl, h1⟩; have hB : Below w.heap.size w w1 := ba (by go_grown) h1; obtain ⟨hc1, hf1⟩ := bcell h1; have hq := h1.size; (try simp at hq); have hz0 : w.heap.size < w1.heap.size := (by omega); have hz1 : w.heap.size + 1 < w1.heap.size := (by omega); have HK1 := Lib.hid h1; clear h1 hq)
  refine bodyPost_ret (by simp [results, Try.results104, go_sem, *]; try rfl) rfl ?_
  exact ⟨rfl, by go_grown⟩

end Go.Proofs.Ytkmgcmgnaeamaaa
