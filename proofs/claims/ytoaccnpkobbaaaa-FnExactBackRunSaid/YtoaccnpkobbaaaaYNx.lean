/- Contract: a step, in the program. -/
import Derived.Test.YtoaccnpkobbaaaaYOw
import Derived.Test.YtoaccnpkobbaaaaYTop
import Derived.Test.YtoaccnpkobbaaaaYSt
import Derived.Test.YtoaccnpkobbaaaaClZ

import Derived.Deep.RegionHeld3
import Derived.Deep.DeepCutAuto
import Derived.Deep.QuietTactic
import Derived.BigQuiet
namespace Go.Proofs.Ytoaccnpkobbaaaa
open Go.ChangeShapes Go.WideShapes Go.ChangeAt Go.RowKit
open Yd

set_option linter.unusedVariables false

theorem lazy_any (sd s : Int) (h0 : 0 ≤ sd) (h1 : sd ≤ 2) (w : World) : Calls Try.prog 96 #[.agg #[], .int .i64 sd, .int .i64 s] w fun e w' => e = .returned (.int .i64 (if sd = 0 then s else sd - 1)) ∧ Below w.heap.size w w' := by
  by_cases h : sd = 0
  · rw [if_pos h]
    go_enter Try.func96, Try.ntmps96
    go_wp2_with fail
    go_ret
    exact ⟨rfl, by go_grown⟩
  · rw [if_neg h]
    go_enter Try.func96, Try.ntmps96
    go_wp2_with fail
    go_ret
    exact ⟨rfl, by go_grown⟩

theorem spring_any (sd s : Int) (w : World) : Calls Try.prog 97 #[.agg #[], .int .i64 sd, .int .i64 s] w fun e w' => e = .returned (.int .i64 s) ∧ Below w.heap.size w w' := by
  go_enter Try.func97, Try.ntmps97
  go_wp2_with fail
  go_ret
  exact ⟨rfl, by go_grown⟩

theorem turn_any (sd s : Int) (h0 : 0 ≤ s) (h1 : s ≤ 1) (w : World) : Calls Try.prog 98 #[.agg #[], .int .i64 sd, .int .i64 s] w fun e w' => e = .returned (.int .i64 (if sd = 0 then 1 - s else s)) ∧ Below w.heap.size w w' := by
  by_cases h : sd = 0
  · rw [if_pos h]
    go_enter Try.func98, Try.ntmps98
    go_wp2_with fail
    go_ret
    exact ⟨rfl, by go_grown⟩
  · rw [if_neg h]
    go_enter Try.func98, Try.ntmps98
    go_wp2_with fail
    go_ret
    exact ⟨rfl, by go_grown⟩

theorem sp_cells (w : World) (v0 v1 : Value) (a x0 x1 x2 x3 x4 x5 : Value) (t u : TypeId) (z : Obj) (k : Nat) (s : Value) (h : [x0, x1, x2, x3, x4, x5][k]? = some s) :
    (((w.alloc (.cells #[v0, v1] t)).alloc (.cells #[a, x0, x1, x2, x3, x4, x5] u)).alloc z).cell? ⟨w.heap.size + 1, 1 + k, none⟩ = some s := by
  match k, h with
  | 0, h => simp [go_sem] at h ⊢; exact h
  | 1, h => simp [go_sem] at h ⊢; exact h
  | 2, h => simp [go_sem] at h ⊢; exact h
  | 3, h => simp [go_sem] at h ⊢; exact h
  | 4, h => simp [go_sem] at h ⊢; exact h
  | 5, h => simp [go_sem] at h ⊢; exact h
  | k + 6, h => simp at h

theorem turn_stem (sd s : Int) (h : sd = 0) (h0 : 0 ≤ s) (h1 : s ≤ 1) (w : World) : Calls Try.prog 98 #[.agg #[], .int .i64 sd, .int .i64 s] w fun e w' => e = .returned (.int .i64 (1 - s)) ∧ Below w.heap.size w w' := by
  have := turn_any sd s h0 h1 w
  rwa [if_pos h] at this

theorem turn_branch (sd s : Int) (h : ¬ sd = 0) (h0 : 0 ≤ s) (h1 : s ≤ 1) (w : World) : Calls Try.prog 98 #[.agg #[], .int .i64 sd, .int .i64 s] w fun e w' => e = .returned (.int .i64 s) ∧ Below w.heap.size w w' := by
  have := turn_any sd s h0 h1 w
  rwa [if_neg h] at this

theorem lazy_stem (sd s : Int) (h : sd = 0) (w : World) : Calls Try.prog 96 #[.agg #[], .int .i64 sd, .int .i64 s] w fun e w' => e = .returned (.int .i64 s) ∧ Below w.heap.size w w' := by
  have := lazy_any sd s (by omega) (by omega) w
  rwa [if_pos h] at this

theorem lazy_branch (sd s : Int) (h : ¬ sd = 0) (h0 : 0 ≤ sd) (h1 : sd ≤ 2) (w : World) : Calls Try.prog 96 #[.agg #[], .int .i64 sd, .int .i64 s] w fun e w' => e = .returned (.int .i64 (sd - 1)) ∧ Below w.heap.size w w' := by
  have := lazy_any sd s h0 h1 w
  rwa [if_neg h] at this

theorem nilL (w : World) : (nilAhead (Try.prog.types.size + Made.depth) 91 (.agg #[]) "loop.example/g01217/impl.stateBehind").run Try.prog w = .ok (some false) w := by kernel_rfl

theorem nilL' (w : World) : (nilAhead 212 91 (.agg #[]) "loop.example/g01217/impl.stateBehind").run Try.prog w = .ok (some false) w := by kernel_rfl

theorem metL (w : World) : (method (Try.prog.types.size + Made.depth) 91 (.agg #[]) "loop.example/g01217/impl.stateBehind").run Try.prog w = .ok (96, .agg #[]) w := by kernel_rfl

theorem metL' (w : World) : (method 212 91 (.agg #[]) "loop.example/g01217/impl.stateBehind").run Try.prog w = .ok (96, .agg #[]) w := by kernel_rfl

theorem nilS (w : World) : (nilAhead (Try.prog.types.size + Made.depth) 92 (.agg #[]) "loop.example/g01217/impl.stateBehind").run Try.prog w = .ok (some false) w := by kernel_rfl

theorem nilS' (w : World) : (nilAhead 212 92 (.agg #[]) "loop.example/g01217/impl.stateBehind").run Try.prog w = .ok (some false) w := by kernel_rfl

theorem metS (w : World) : (method (Try.prog.types.size + Made.depth) 92 (.agg #[]) "loop.example/g01217/impl.stateBehind").run Try.prog w = .ok (97, .agg #[]) w := by kernel_rfl

theorem metS' (w : World) : (method 212 92 (.agg #[]) "loop.example/g01217/impl.stateBehind").run Try.prog w = .ok (97, .agg #[]) w := by kernel_rfl

theorem nilT (w : World) : (nilAhead (Try.prog.types.size + Made.depth) 93 (.agg #[]) "loop.example/g01217/impl.stateBehind").run Try.prog w = .ok (some false) w := by kernel_rfl

theorem nilT' (w : World) : (nilAhead 212 93 (.agg #[]) "loop.example/g01217/impl.stateBehind").run Try.prog w = .ok (some false) w := by kernel_rfl

theorem metT (w : World) : (method (Try.prog.types.size + Made.depth) 93 (.agg #[]) "loop.example/g01217/impl.stateBehind").run Try.prog w = .ok (98, .agg #[]) w := by kernel_rfl

theorem metT' (w : World) : (method 212 93 (.agg #[]) "loop.example/g01217/impl.stateBehind").run Try.prog w = .ok (98, .agg #[]) w := by kernel_rfl

theorem mkMet (fn : Fn) (first cap : Array Value) (w : World) : (Instr.makeFunc fn first cap).run Try.prog w = .ok (.func fn first cap) w := rfl

/-- What the step's first blocks hold, in a world that has grown behind them. -/
structure NxAt (w w5 : World) (g c g' d n m : Nat) (a x0 x1 x2 x3 x4 x5 : Int) : Prop where
  size : w5.heap.size = w.heap.size + 1 + 1 + 1
  below : Below w.heap.size w w5
  y0 : w5.cell? ⟨w.heap.size, 0, none⟩ = some (.slice (some ⟨g, 0, none⟩) n c)
  y1 : w5.cell? ⟨w.heap.size, 1, none⟩ = some (.slice (some ⟨g', 0, none⟩) m d)
  s0 : w5.cell? ⟨w.heap.size + 1, 0, none⟩ = some (.int .i64 a)
  sk : ∀ (k : Nat) s, [x0, x1, x2, x3, x4, x5][k]? = some s → w5.cell? ⟨w.heap.size + 1, 1 + k, none⟩ = some (.int .i64 s)
  z : ∀ k : Nat, k < 7 → w5.cell? ⟨w.heap.size + 1 + 1, k, none⟩ = some (.int .i64 0)
  fs : ∀ k : Nat, w5.frozen? ⟨w.heap.size + 1, k, none⟩ = false
  fz : ∀ k : Nat, w5.frozen? ⟨w.heap.size + 1 + 1, k, none⟩ = false

theorem nx_start (w : World) (g c g' d n m : Nat) (a x0 x1 x2 x3 x4 x5 : Int) (nq : Nat) : NxAt w ((((w.alloc (.cells #[.slice (some ⟨g, 0, none⟩) n c, .slice (some ⟨g', 0, none⟩) m d] 27)).alloc (.cells #[.int .i64 a, .int .i64 x0, .int .i64 x1, .int .i64 x2, .int .i64 x3, .int .i64 x4, .int .i64 x5] 80)).alloc (.cells #[.int .i64 0, .int .i64 0, .int .i64 0, .int .i64 0, .int .i64 0, .int .i64 0, .int .i64 0] 80)).drewN nq) g c g' d n m a x0 x1 x2 x3 x4 x5 where
  size := by simp
  below := (by go_grown : Below w.heap.size w (((w.alloc _).alloc _).alloc _)).trans (below_drawn _ _)
  y0 := by simp [go_sem]
  y1 := by simp [go_sem]
  s0 := by simp [go_sem]
  sk := fun k s h => by
    match k, h with
    | 0, h => simp [go_sem] at h ⊢; exact h
    | 1, h => simp [go_sem] at h ⊢; exact h
    | 2, h => simp [go_sem] at h ⊢; exact h
    | 3, h => simp [go_sem] at h ⊢; exact h
    | 4, h => simp [go_sem] at h ⊢; exact h
    | 5, h => simp [go_sem] at h ⊢; exact h
    | k + 6, h => simp at h
  z := fun k h => by
    match k, h with
    | 0, _ => simp [go_sem]
    | 1, _ => simp [go_sem]
    | 2, _ => simp [go_sem]
    | 3, _ => simp [go_sem]
    | 4, _ => simp [go_sem]
    | 5, _ => simp [go_sem]
    | 6, _ => simp [go_sem]
  fs := fun k => by simp [go_sem]
  fz := fun k => by simp [go_sem]

theorem nx_cell (w : World) (g c g' d n m : Nat) (a x0 x1 x2 x3 x4 x5 : Int) (k : Nat) (s : Int) (h : [x0, x1, x2, x3, x4, x5][k]? = some s) : (((w.alloc (.cells #[.slice (some ⟨g, 0, none⟩) n c, .slice (some ⟨g', 0, none⟩) m d] 27)).alloc (.cells #[.int .i64 a, .int .i64 x0, .int .i64 x1, .int .i64 x2, .int .i64 x3, .int .i64 x4, .int .i64 x5] 80)).alloc (.cells #[.int .i64 0, .int .i64 0, .int .i64 0, .int .i64 0, .int .i64 0, .int .i64 0, .int .i64 0] 80)).cell? ⟨w.heap.size + 1, 1 + k, none⟩ = some (.int .i64 s) :=
  (nx_start w g c g' d n m a x0 x1 x2 x3 x4 x5 0).sk k s h

end Go.Proofs.Ytoaccnpkobbaaaa
